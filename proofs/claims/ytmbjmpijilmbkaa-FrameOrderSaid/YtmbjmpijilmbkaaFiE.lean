/- Walks of package field's PutPairs, and of the document's. -/
import Derived.Test.YtmbjmpijilmbkaaFiD
namespace Go.Proofs.Ytmbjmpijilmbkaa
open Go.RowKit Oct Fi
attribute [local go_sem] i64_and1 i64_and7 i64_and31

theorem ppV_step (l : List Pr) (j : Nat) (x : Pr) (h : l[j]? = some x) : ppV (l.take j) ++ putB x.1.toNat 2 ++ putB x.2.toNat 4 = ppV (l.take (j + 1)) := by
  obtain ⟨hj, hx⟩ := List.getElem?_eq_some_iff.1 h
  rw [← List.take_append_getElem hj, hx]
  simp [ppV, pairB]
theorem ppV_len (l : List Pr) : (ppV l).length = 6 * l.length := by
  induction l with
  | nil => rfl
  | cons x l ih => simp only [ppV, List.flatMap_cons, List.length_append, List.length_cons] at *; rw [ih]; simp [pairB, putB_length]; omega
theorem pput2 (x : UInt16) (w : World) :
    Calls Try.prog 80 #[.int .i64 (x.toNat : Int), .int .i64 2] w fun e w' => ∃ v, e = .returned (.tuple #[v, .int .i64 0]) ∧ OwnB w' w.heap.size 5 v (putB x.toNat 2) ∧ Below w.heap.size w w' :=
  put_ok x.toNat 2 w (by omega) (by omega) (by omega) (by have := x.toNat_lt; have e : (256 : Int) ^ (2 : Int).toNat = 65536 := by decide
                                                          rw [e]; omega)
theorem pput4 (x : UInt32) (w : World) :
    Calls Try.prog 80 #[.int .i64 (x.toNat : Int), .int .i64 4] w fun e w' => ∃ v, e = .returned (.tuple #[v, .int .i64 0]) ∧ OwnB w' w.heap.size 5 v (putB x.toNat 4) ∧ Below w.heap.size w w' :=
  put_ok x.toNat 4 w (by omega) (by omega) (by omega) (by have := x.toNat_lt; have e : (256 : Int) ^ (4 : Int).toNat = 4294967296 := by decide
                                                          rw [e]; omega)
theorem rpput2 (x : UInt16) (w : World) :
    Calls Try.prog 37 #[.int .i64 (x.toNat : Int), .int .i64 2] w fun e w' => ∃ v, e = .returned (.tuple #[v, .int .i64 0]) ∧ OwnB w' w.heap.size 5 v (putB x.toNat 2) ∧ Below w.heap.size w w' :=
  rput_ok x.toNat 2 w (by omega) (by omega) (by omega) (by have := x.toNat_lt; have e : (256 : Int) ^ (2 : Int).toNat = 65536 := by decide
                                                           rw [e]; omega)
theorem rpput4 (x : UInt32) (w : World) :
    Calls Try.prog 37 #[.int .i64 (x.toNat : Int), .int .i64 4] w fun e w' => ∃ v, e = .returned (.tuple #[v, .int .i64 0]) ∧ OwnB w' w.heap.size 5 v (putB x.toNat 4) ∧ Below w.heap.size w w' :=
  rput_ok x.toNat 4 w (by omega) (by omega) (by omega) (by have := x.toNat_lt; have e : (256 : Int) ^ (4 : Int).toNat = 4294967296 := by decide
                                                           rw [e]; omega)
set_option maxHeartbeats 1000000 in
theorem fpp_any (A : Option Addr) (n c : Nat) (l : List Pr) (w : World) (hA : Ps w w.heap.size A n l) (hn : n ≤ 10000) :
    Calls Try.prog 92 #[.slice A n c] w fun e w' => ∃ v, e = .returned v ∧ OwnB w' w.heap.size 5 v (ppV l) ∧ Below w.heap.size w w' := by
  obtain ⟨i0, hi, hz0, hz1, hz2⟩ := info_parts info_u8
  have hinf := Lib.hid (And.intro hi (And.intro hz0 (And.intro hz1 hz2)))
  have HA := Lib.hid hA
  clear hi hz0 hz1 hz2 hA
  go_enter Try.func92, Try.ntmps92
  go_wp2
  go_loopw [3, 12] (fun a t wr => ∃ j : Nat, j ≤ n ∧ t = .int .i64 j ∧ OwnB wr w.heap.size 5 a (ppV (l.take j)) ∧ Below w.heap.size w wr) (fun _ t _ => n - (intOf t).toNat)
  case atStart => exact ⟨0, Nat.zero_le _, rfl, OwnB.nil_ _ _ _, Below.refl _ _⟩
  case round =>
    obtain ⟨j, hj, rfl, hown, hbel⟩ := hrel
    have HO := Lib.hid hown
    have HB := Lib.hid hbel
    clear hown hbel
    by_cases hlt : j < n
    · obtain ⟨b, o, rfl, hb, hc⟩ := ps_cell HA.out (by omega)
      obtain ⟨x, hx, hc1, hc2⟩ := hc j hlt
      have h1 := (HB.out.cell (p := ⟨b, o + j * 2, none⟩) hb).trans hc1
      have h2 := (HB.out.cell (p := ⟨b, o + (j * 2 + 1), none⟩) hb).trans hc2
      rw [← Nat.add_assoc] at h2
      have HX := Lib.hid (ppV_step l j x hx)
      have HLn : Hid ((ppV (l.take j)).length ≤ 60000) := Lib.hid (by rw [ppV_len, List.length_take]; omega)
      have hx1 := x.1.toNat_lt
      have hx2 := x.2.toNat_lt
      clear hc hx hc1 hc2
      have HC0 := Lib.hid (c2_new wr 98 (.int .u16 (x.1.toNat : Int)) (.int .u32 (x.2.toNat : Int)))
      have hsz : wr.heap.size < (wr.alloc (.cells #[.int .u16 (x.1.toNat : Int), .int .u32 (x.2.toNat : Int)] 98)).heap.size := by simp
      have HB0 : Hid (Below w.heap.size w (wr.alloc (.cells #[.int .u16 (x.1.toNat : Int), .int .u32 (x.2.toNat : Int)] 98))) := Lib.hid (HB.out.alloc HB.out.size _)
      go_wp2_with (first
        | (go_at_call 80; (with_reducible refine (pput2 x.1 _).mono ?_); rintro e w1 ⟨v1, rfl, ho1, hb1⟩; obtain ⟨A1, k1, rfl, hk1, hn1, hr1⟩ := ho1.form2 (putB_length _ _); have HR1 := Lib.hid hr1; have HN1 := Lib.hid hn1; have HB1 := Lib.hid hb1; have HC1 := Lib.hid (c2_on HC0.out hb1 hsz); obtain ⟨c0, c1⟩ := HC1.out; clear ho1 hr1 hn1 hb1)
        | (go_at_call 80; (with_reducible refine (pput4 x.2 _).mono ?_); rintro e w2 ⟨v2, rfl, ho2, hb2⟩; obtain ⟨A2, k2, rfl, hk2, hn2, hr2⟩ := ho2.form2 (putB_length _ _); have HR2 := Lib.hid hr2; have HN2 := Lib.hid hn2; have HB2 := Lib.hid (HB1.out.trans (hb2.mono HB1.out.size)); have HR12 := Lib.hid (HR1.out.below hb2); have HBT := Lib.hid (HB0.out.trans (HB2.out.mono HB0.out.size)); have HO2 := Lib.hid ((HO.out.alloc (.cells #[.int .u16 (x.1.toNat : Int), .int .u32 (x.2.toNat : Int)] 98)).kept HB2.out); have HE2 := Lib.hid (ne_own HO.out ho2 (Nat.le_trans (Nat.le_of_lt hsz) HB1.out.size)); clear ho2 hr2 hn2 hb2)
        | (at_builtin; refine wpList_append_at _ rfl (.tmp 30) (.tmp 31) 26 rfl w.heap.size 5 i0 Try.underlying26 hinf.out.1 hinf.out.2.1 hinf.out.2.2.1 hinf.out.2.2.2 _ _ rfl HO2.out _ A1 2 k1 _ rfl HR12.out HN1.out (by have := HLn.out; omega) HBT.out.size ?_; intro v3 w3 hown3 hb3 hg3; have HO3 := Lib.hid hown3; have HB3 := Lib.hid (HBT.out.trans hb3); have HR23 := Lib.hid (HR2.out.grown hg3 (Nat.le_refl _) HE2.out); clear hown3 hb3 hg3)
        | (at_builtin; refine wpList_append_bytes _ rfl (.tmp 32) (.tmp 33) 26 rfl w.heap.size 5 i0 Try.underlying26 hinf.out.1 hinf.out.2.1 hinf.out.2.2.1 hinf.out.2.2.2 _ _ rfl HO3.out _ A2 4 k2 _ rfl HR23.out HN2.out (by rw [List.length_append, putB_length]; have := HLn.out; omega) HB3.out.size ?_; intro v4 w4 hown4 hb4; rw [HX.out] at hown4; have HO4 := Lib.hid hown4; have HB4 := Lib.hid (HB3.out.trans hb4); clear hown4 hb4))
      go_roundw
      case rel => exact ⟨j + 1, by omega, by go_num, HO4.out, HB4.out⟩
      case measure => simp [intOf]; omega
    · obtain rfl : j = n := by omega
      rw [List.take_of_length_le (by have := HA.out.1; omega)] at HO
      go_wp2
      go_ret
      exact ⟨_, rfl, HO.out, HB.out⟩
end Go.Proofs.Ytmbjmpijilmbkaa
