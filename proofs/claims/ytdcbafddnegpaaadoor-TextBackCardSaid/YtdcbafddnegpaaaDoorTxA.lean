/- Package text: the small calls: both ways of telling a text, and bytes of one's own. -/
import Derived.Test.YtdcbafddnegpaaaDoorTxH
import Derived.Test.YtdcbafddnegpaaaDoorMHb
import Derived.Test.YtdcbafddnegpaaaDoorMGa
namespace Go.Proofs.YtdcbafddnegpaaaDoor
open Go.RowKit Hf Px Oct Tx
set_option linter.unusedVariables false
set_option linter.unusedSimpArgs false
theorem infoc_W : (Tryd.prog.info? 43).map (·.size) = some 3 := by kernel_rfl
namespace Tx
def bsv (xs : List UInt8) : Value := .string ⟨xs.toArray⟩
def plainW : Value := .agg #[.int .u8 0, .func (.func 38) #[] #[], .func (.func 39) #[] #[]]
def bitsW : Value := .agg #[.int .u8 128, .func (.func 43) #[] #[], .func (.func 45) #[] #[]]
end Tx
set_option maxRecDepth 100000 in
set_option maxHeartbeats 4000000 in
theorem x_plain (w : World) : Calls Tryd.prog 24 #[] w fun e w' => e = .returned Tx.plainW ∧ Below w.heap.size w w' := by
  have K0 : Hid (EnvF (w.alloc (.cells #[.int .u8 0, Value.nilFunc, Value.nilFunc] 43)) [] [(w.heap.size, #[.int .u8 0, Value.nilFunc, Value.nilFunc], 43)]) := Lib.hid ((EnvF.nil w).boxg 43 #[.int .u8 0, Value.nilFunc, Value.nilFunc] (w.heap.size) (by simp))
  have B0 : Hid (Below w.heap.size w (w.alloc (.cells #[.int .u8 0, Value.nilFunc, Value.nilFunc] 43))) := Lib.hid ((Below.refl _ w).alloc (by first | exact Nat.le_refl _ | (simp only [World.size_alloc]; omega)) (.cells #[.int .u8 0, Value.nilFunc, Value.nilFunc] 43))
  go_enter Tryd.func24, Tryd.ntmps24
  go_wp2_with (first
    | go_skip
    | (refine at_store 43 (.tmp 0) (.tmp 1) (by rfl) ?_; refine wpList_put (by rfl) 43 (.tmp 0) (.tmp 1) (by rfl) (w.heap.size) 0 (.agg #[.int .u8 0, .func (.func 38) #[] #[], .func (.func 39) #[] #[]]) (by rfl) (by rfl) 43 #[.int .u8 0, Value.nilFunc, Value.nilFunc] #[.int .u8 0, .func (.func 38) #[] #[], .func (.func 39) #[] #[]] (K0.out.row 0 rfl) (by simp [Value.cells]) (by kernel_rfl) infoc_W (by kernel_rfl) ?_; intro w1 hrow hoth hz hbl; have K1 : Hid (EnvF w1 [] [(w.heap.size, #[.int .u8 0, .func (.func 38) #[] #[], .func (.func 39) #[] #[]], 43)]) := Lib.hid (K0.out.turn 0 rfl hrow hoth hz); have B1 : Hid (Below w.heap.size w w1) := Lib.hid (hbl _ _ (Nat.le_refl _) B0.out); clear hrow hoth hz hbl K0 B0))
  exact bodyPost_ret (res_cell1 rfl _ _ _ _ _ _ rfl (K1.out.row 0 rfl) Tryd.underlying43 rfl infoc_W) rfl ⟨rfl, B1.out⟩
set_option maxRecDepth 100000 in
set_option maxHeartbeats 4000000 in
theorem x_inBits (w : World) : Calls Tryd.prog 27 #[] w fun e w' => e = .returned Tx.bitsW ∧ Below w.heap.size w w' := by
  have K0 : Hid (EnvF (w.alloc (.cells #[.int .u8 0, Value.nilFunc, Value.nilFunc] 43)) [] [(w.heap.size, #[.int .u8 0, Value.nilFunc, Value.nilFunc], 43)]) := Lib.hid ((EnvF.nil w).boxg 43 #[.int .u8 0, Value.nilFunc, Value.nilFunc] (w.heap.size) (by simp))
  have B0 : Hid (Below w.heap.size w (w.alloc (.cells #[.int .u8 0, Value.nilFunc, Value.nilFunc] 43))) := Lib.hid ((Below.refl _ w).alloc (by first | exact Nat.le_refl _ | (simp only [World.size_alloc]; omega)) (.cells #[.int .u8 0, Value.nilFunc, Value.nilFunc] 43))
  go_enter Tryd.func27, Tryd.ntmps27
  go_wp2_with (first
    | go_skip
    | (refine at_store 43 (.tmp 0) (.tmp 1) (by rfl) ?_; refine wpList_put (by rfl) 43 (.tmp 0) (.tmp 1) (by rfl) (w.heap.size) 0 (.agg #[.int .u8 128, .func (.func 43) #[] #[], .func (.func 45) #[] #[]]) (by rfl) (by rfl) 43 #[.int .u8 0, Value.nilFunc, Value.nilFunc] #[.int .u8 128, .func (.func 43) #[] #[], .func (.func 45) #[] #[]] (K0.out.row 0 rfl) (by simp [Value.cells]) (by kernel_rfl) infoc_W (by kernel_rfl) ?_; intro w1 hrow hoth hz hbl; have K1 : Hid (EnvF w1 [] [(w.heap.size, #[.int .u8 128, .func (.func 43) #[] #[], .func (.func 45) #[] #[]], 43)]) := Lib.hid (K0.out.turn 0 rfl hrow hoth hz); have B1 : Hid (Below w.heap.size w w1) := Lib.hid (hbl _ _ (Nat.le_refl _) B0.out); clear hrow hoth hz hbl K0 B0))
  exact bodyPost_ret (res_cell1 rfl _ _ _ _ _ _ rfl (K1.out.row 0 rfl) Tryd.underlying43 rfl infoc_W) rfl ⟨rfl, B1.out⟩
set_option maxRecDepth 100000 in
set_option maxHeartbeats 4000000 in
theorem x_wayOf (A : Option Addr) (n c : Nat) (x : UInt8) (ys : List UInt8) (w : World) (hA : Bs w w.heap.size A n (x :: ys)) :
    Calls Tryd.prog 22 #[.slice A n c] w fun e w' => e = .returned (if 128 ≤ x.toNat then Tx.bitsW else Tx.plainW) ∧ Below w.heap.size w w' := by
  have hl := hA.1
  rw [List.length_cons] at hl
  obtain ⟨b, o, rfl, hb, hcc⟩ := bs_cell hA (by omega)
  obtain ⟨x', hx', c0⟩ := hcc 0 (by omega)
  simp only [List.getElem?_cons_zero, Option.some.injEq] at hx'
  subst hx'
  rw [Nat.add_zero] at c0
  have hxl := x.toNat_lt
  have c1 : ∀ q, (w.alloc q).cell? ⟨b, o, none⟩ = some (.int .u8 (x.toNat : Int)) := fun q => (World.cell?_alloc_lt w q _ hb).trans c0
  clear hcc c0
  by_cases h : 128 ≤ x.toNat
  · rw [if_pos h]
    have hq : ((x.toNat : Int) / 2 ^ 7 == 1) = true := by rw [beq_iff_eq]; omega
    have K0 : Hid (EnvF (w.alloc (.cells #[.int .u8 0, Value.nilFunc, Value.nilFunc] 43)) [] [(w.heap.size, #[.int .u8 0, Value.nilFunc, Value.nilFunc], 43)]) := Lib.hid ((EnvF.nil w).boxg 43 #[.int .u8 0, Value.nilFunc, Value.nilFunc] (w.heap.size) (by simp))
    have B0 : Hid (Below w.heap.size w (w.alloc (.cells #[.int .u8 0, Value.nilFunc, Value.nilFunc] 43))) := Lib.hid ((Below.refl _ w).alloc (by first | exact Nat.le_refl _ | (simp only [World.size_alloc]; omega)) (.cells #[.int .u8 0, Value.nilFunc, Value.nilFunc] 43))
    go_enter Tryd.func22, Tryd.ntmps22
    go_wp2_with (first
      | go_skip
      | (go_at_call 27; (have hc := (x_inBits (w.alloc (.cells #[.int .u8 0, Value.nilFunc, Value.nilFunc] 43))); (with_reducible refine hc.mono ?_); clear hc); rintro e w1 ⟨rfl, hb⟩; have K1 : Hid (EnvF w1 [] [(w.heap.size, #[.int .u8 0, Value.nilFunc, Value.nilFunc], 43)]) := Lib.hid (K0.out.on hb); have B1 : Hid (Below w.heap.size w w1) := Lib.hid (below_step B0.out hb); clear hb K0 B0)
      | (refine at_store 43 (.tmp 2) (.tmp 8) (by rfl) ?_; refine wpList_put (by rfl) 43 (.tmp 2) (.tmp 8) (by rfl) (w.heap.size) 0 (.agg #[.int .u8 128, .func (.func 43) #[] #[], .func (.func 45) #[] #[]]) (by rfl) (by rfl) 43 #[.int .u8 0, Value.nilFunc, Value.nilFunc] #[.int .u8 128, .func (.func 43) #[] #[], .func (.func 45) #[] #[]] (K1.out.row 0 rfl) (by simp [Value.cells]) (by kernel_rfl) infoc_W (by kernel_rfl) ?_; intro w2 hrow hoth hz hbl; have K2 : Hid (EnvF w2 [] [(w.heap.size, #[.int .u8 128, .func (.func 43) #[] #[], .func (.func 45) #[] #[]], 43)]) := Lib.hid (K1.out.turn 0 rfl hrow hoth hz); have B2 : Hid (Below w.heap.size w w2) := Lib.hid (hbl _ _ (Nat.le_refl _) B1.out); clear hrow hoth hz hbl K1 B1))
    exact bodyPost_ret (res_cell1 rfl _ _ _ _ _ _ rfl (K2.out.row 0 rfl) Tryd.underlying43 rfl infoc_W) rfl ⟨rfl, B2.out⟩
  · rw [if_neg h]
    have hq : ((x.toNat : Int) / 2 ^ 7 == 1) = false := by rw [beq_eq_false_iff_ne]; omega
    have K0 : Hid (EnvF (w.alloc (.cells #[.int .u8 0, Value.nilFunc, Value.nilFunc] 43)) [] [(w.heap.size, #[.int .u8 0, Value.nilFunc, Value.nilFunc], 43)]) := Lib.hid ((EnvF.nil w).boxg 43 #[.int .u8 0, Value.nilFunc, Value.nilFunc] (w.heap.size) (by simp))
    have B0 : Hid (Below w.heap.size w (w.alloc (.cells #[.int .u8 0, Value.nilFunc, Value.nilFunc] 43))) := Lib.hid ((Below.refl _ w).alloc (by first | exact Nat.le_refl _ | (simp only [World.size_alloc]; omega)) (.cells #[.int .u8 0, Value.nilFunc, Value.nilFunc] 43))
    go_enter Tryd.func22, Tryd.ntmps22
    go_wp2_with (first
      | go_skip
      | (go_at_call 24; (have hc := (x_plain (w.alloc (.cells #[.int .u8 0, Value.nilFunc, Value.nilFunc] 43))); (with_reducible refine hc.mono ?_); clear hc); rintro e w1 ⟨rfl, hb⟩; have K1 : Hid (EnvF w1 [] [(w.heap.size, #[.int .u8 0, Value.nilFunc, Value.nilFunc], 43)]) := Lib.hid (K0.out.on hb); have B1 : Hid (Below w.heap.size w w1) := Lib.hid (below_step B0.out hb); clear hb K0 B0)
      | (refine at_store 43 (.tmp 2) (.tmp 9) (by rfl) ?_; refine wpList_put (by rfl) 43 (.tmp 2) (.tmp 9) (by rfl) (w.heap.size) 0 (.agg #[.int .u8 0, .func (.func 38) #[] #[], .func (.func 39) #[] #[]]) (by rfl) (by rfl) 43 #[.int .u8 0, Value.nilFunc, Value.nilFunc] #[.int .u8 0, .func (.func 38) #[] #[], .func (.func 39) #[] #[]] (K1.out.row 0 rfl) (by simp [Value.cells]) (by kernel_rfl) infoc_W (by kernel_rfl) ?_; intro w2 hrow hoth hz hbl; have K2 : Hid (EnvF w2 [] [(w.heap.size, #[.int .u8 0, .func (.func 38) #[] #[], .func (.func 39) #[] #[]], 43)]) := Lib.hid (K1.out.turn 0 rfl hrow hoth hz); have B2 : Hid (Below w.heap.size w w2) := Lib.hid (hbl _ _ (Nat.le_refl _) B1.out); clear hrow hoth hz hbl K1 B1))
    exact bodyPost_ret (res_cell1 rfl _ _ _ _ _ _ rfl (K2.out.row 0 rfl) Tryd.underlying43 rfl infoc_W) rfl ⟨rfl, B2.out⟩
theorem x_lay1 (xs : List UInt8) (w : World) : Calls Tryd.prog 38 #[.string ⟨xs.toArray⟩] w fun e w' => ∃ A c, e = .returned (.slice A xs.length c) ∧ HandS w' w.heap.size A xs.length c xs ∧ Below w.heap.size w w' := by
  obtain ⟨c', w1, hr, hh, hb⟩ := Tx.conv_str w xs
  have HH := Lib.hid hh
  have HB := Lib.hid hb
  clear hh hb
  go_enter Tryd.func38, Tryd.ntmps38
  go_wp2
  go_ret
  exact ⟨_, _, rfl, HH.out, HB.out⟩
theorem x_read1 (A : Option Addr) (n c : Nat) (xs : List UInt8) (w : World) (hA : Bs w w.heap.size A n xs) : Calls Tryd.prog 39 #[.slice A n c] w fun e w' => e = .returned (.tuple #[.string ⟨xs.toArray⟩, .int .i64 0]) ∧ Below w.heap.size w w' := by
  have h1 := conv_bytes (c := c) hA
  clear hA
  go_enter Tryd.func39, Tryd.ntmps39
  go_wp2
  go_ret2
  exact ⟨rfl, Below.refl _ _⟩
theorem x_lay2 (xs : List UInt8) (w : World) (hR : Rws w) (hn : xs.length ≤ 10000) : Calls Tryd.prog 43 #[.string ⟨xs.toArray⟩] w fun e w' => ∃ A c, e = .returned (.slice A (hO xs).length c) ∧ HandS w' w.heap.size A (hO xs).length c (hO xs) ∧ Below w.heap.size w w' := by
  obtain ⟨c', w1, hr, hh, hb⟩ := Tx.conv_str w xs
  have hP := h_put (some ⟨w.heap.size, 0, none⟩) xs.length c' xs w1 (hR.on hb) hh.1 hn
  have HP := Lib.hid hP
  have HB := Lib.hid hb
  clear hh hb hP
  go_enter Tryd.func43, Tryd.ntmps43
  go_wp2_with (go_at_call 44; (with_reducible refine HP.out.mono ?_); rintro e w2 ⟨A2, m2, c2, ys, rfl, hput, hh2, hb2⟩; obtain rfl := hO_eq hput; obtain rfl := hh2.1.1; have HH2 := Lib.hid hh2; have HB2 := Lib.hid hb2; clear hput hh2 hb2)
  go_ret
  exact ⟨A2, c2, rfl, ⟨HH2.out.1, FreshS.less HH2.out.2.1 HB.out.size, HH2.out.2.2⟩, below_step HB.out HB2.out⟩
theorem x_read2 (A : Option Addr) (n c : Nat) (xs : List UInt8) (w : World) (hR : Rws w) (hA : Bs w w.heap.size A n xs) (hn : n ≤ 10000) : Calls Tryd.prog 45 #[.slice A n c] w fun e w' => e = .returned (.tuple #[.string ⟨(takeL xs).toArray⟩, .int .i64 (takeE xs)]) ∧ Below w.heap.size w w' := by
  have HT := Lib.hid (h_take A n c xs w hR hA hn)
  clear hA hR
  go_enter Tryd.func45, Tryd.ntmps45
  go_wp2_with (go_at_call 46; (with_reducible refine HT.out.mono ?_); rintro e w1 ⟨A1, m1, c1, rfl, hh1, hb1⟩; have h1 := conv_bytes (c := c1) hh1.1; have HB1 := Lib.hid hb1; clear hh1 hb1)
  go_ret2
  exact ⟨rfl, HB1.out⟩
theorem x_towned (A : Option Addr) (n c : Nat) (xs : List UInt8) (w : World) (hA : Bs w w.heap.size A n xs) (hAc : A = none → c = 0) (hn : n ≤ 1000000) :
    Calls Tryd.prog 23 #[.slice A n c] w fun e w' => ∃ A' c', e = .returned (.slice A' n c') ∧ HandS w' w.heap.size A' n c' xs ∧ Below w.heap.size w w' := by
  have HA := Lib.hid hA
  have HAc := Lib.hid hAc
  clear hA hAc
  obtain ⟨i0, hi, hz0, hz1, hz2⟩ := info_parts info_u8
  have hinf := Lib.hid (And.intro hi (And.intro hz0 (And.intro hz1 hz2)))
  clear hi hz0 hz1 hz2
  go_enter Tryd.func23, Tryd.ntmps23
  go_wp2_with (at_builtin; refine wpList_append_bytes _ rfl (.const (.slice none 0 0)) (.tmp 3) 22 rfl w.heap.size 5 i0 Tryd.underlying22 hinf.out.1 hinf.out.2.1 hinf.out.2.2.1 hinf.out.2.2.2 _ [] rfl (OwnB.nil_ w _ _) _ A n c xs rfl HA.out HAc.out (by simp; omega) (Nat.le_refl _) ?_; intro v1 w1 hown1 hb1; obtain ⟨A1, c1, rfl, hh⟩ := hown1.handS (n := n) (by simpa using HA.out.1))
  go_ret
  exact ⟨_, _, rfl, by simpa using hh, hb1⟩
end Go.Proofs.YtdcbafddnegpaaaDoor
