/- Package prefix: the iterator of a number's bytes. -/
import Derived.Test.YtmckopjchpgcpaaPxA
import Derived.Test.YtmckopjchpgcpaaGSeqS
import Derived.Test.YtmckopjchpgcpaaGFact
import Derived.Stop.RegionWithIn
namespace Go.Proofs.Ytmckopjchpgcpaa
open Go.RowKit Px Go.Shelf
set_option linter.unusedVariables false
set_option linter.unusedSimpArgs false
attribute [local go_sem] Oper.semAt_some

namespace Px
/-- A step of the iterator's own: its variable turns. -/
def StB (B1 : Nat) (A B : World) : Prop := ∃ v, B = A.setCell ⟨B1, 0, none⟩ v
/-- What a round keeps: the cells of the blocks of p, and all blocks' places. -/
def KeepZ (p : Nat → Prop) (A B : World) : Prop := KeepC p A B ∧ A.heap.size ≤ B.heap.size
def cellInt (w : World) (B1 : Nat) : Nat := match w.cell? ⟨B1, 0, none⟩ with
  | some (.int _ n) => n.toNat
  | _ => 0
theorem cellInt_of {w : World} {B1 : Nat} {k : IntKind} {n : Nat} (h : w.cell? ⟨B1, 0, none⟩ = some (.int k (n : Int))) : cellInt w B1 = n := by unfold cellInt; rw [h]; simp
end Px
theorem or128F : ∀ z : Fin 256, bits .or .u8 (z.val : Int) 128 = ((z.val % 128 + 128 : Nat) : Int) := by decide +kernel
theorem or128 (m : Nat) : bits .or .u8 ((m : Int) % 256) 128 = ((m % 128 + 128 : Nat) : Int) := by
  have h := or128F ⟨m % 256, Nat.mod_lt _ (by decide)⟩
  simp only at h
  rw [show ((m % 256 : Nat) : Int) = (m : Int) % 256 from by omega, show m % 256 % 128 = m % 128 from by omega] at h
  exact h
set_option maxRecDepth 100000 in
set_option maxHeartbeats 4000000 in
theorem octets1_in (k : Nat) (hk : 1 ≤ k) (l Bk Bn b n : Nat) (p : Nat → Prop) (J : List UInt8 → World → Prop) (W : World) (hJ : AbidesFrom W.heap.size J) (hSt : ∀ (pre : List UInt8) (A B : World), J pre A → StB Bn A B → J pre B)
    (hY : ∀ pre (x : UInt8) W1, J pre W1 → pre.length < (numB n b).length → YieldAt Fence.wide (k - 1) Try.prog l #[.int .u8 (x.toNat : Int)] W1 fun e W' => e = .returned (.bool true) ∧ J (pre ++ [x]) W' ∧ KeepZ p W1 W')
    (hpk : p Bk) (hpn : p Bn) (hne : Bk ≠ Bn) (hb1 : 1 ≤ b) (hb8 : b ≤ 8) (hn : n < 2147483648)
    (hck : W.heap[Bk]? = some (.cells #[.int .i64 (b : Int)] 3)) (hcn : W.heap[Bn]? = some (.cells #[.int .i64 (n : Int)] 3)) (h0 : J [] W) :
    CallsIn Fence.wide k Try.prog 26 #[.func (.yield l) #[] #[], .pointer (some ⟨Bk, 0, none⟩), .pointer (some ⟨Bn, 0, none⟩)] W fun e W' => (∃ v, e = .returned v) ∧ ∃ ys : List UInt8, ys = numB n b ∧ J ys W' := by
  have HY := Lib.hid hY
  have HJ := Lib.hid hJ
  have HST := Lib.hid hSt
  have hM1 := mx_pos hb1
  have hM8 := mx_le hb8
  have HF : Hid (∀ w, Calls Try.prog 19 #[.int .i64 (b : Int)] w fun e w' => e = .returned (.int .u8 (mx b : Int)) ∧ w = w') := Lib.hid (fun w => x_full b w hb1 hb8)
  have HN : Hid (numB n b = if n < mx b then [UInt8.ofNat n] else UInt8.ofNat (mx b) :: tailB (n - mx b)) := Lib.hid rfl
  clear hY hJ hSt hb1 hb8
  generalize mx b = M at *
  have ck := cells1_row hck
  have cn := cells1_row hcn
  have HCK := Lib.hid hck
  have HCN := Lib.hid hcn
  clear hck hcn
  refine callsIn_of_wp Try.func26 rfl trivial ?_ rfl
  simp only [Try.ntmps26, List.size_toArray, List.length_cons, List.length_nil, Nat.reduceAdd, Nat.reduceSub, Array.replicate_succ, Array.replicate_zero, List.push_toArray, List.append_toArray, List.nil_append, List.cons_append]
  rcases Nat.lt_trichotomy n M with h | h | h
  · have e0 : ((UInt8.ofNat n).toNat : Int) = (n : Int) := by simp; omega
    have hN : numB n b = [UInt8.ofNat n] := by rw [HN.out, if_pos h]
    have HN1 := Lib.hid hN
    obtain ⟨fn, tmps, assign, body, hy, hR⟩ := HY.out [] (UInt8.ofNat n) W h0 (by rw [HN1.out]; simp)
    rw [e0] at hy
    have HR := Lib.hid hR
    clear hR hN e0
    gi_wp2_with (first
      | go_skip
      | (refine ⟨trivial, ?_⟩; gi_at_call 19; (with_reducible refine (callsIn_wide.2 (HF.out W)).mono ?_); rintro e w1 ⟨rfl, rfl⟩))
    refine HR.out.mono ?_
    rintro e w2 ⟨rfl, hJ2, hk2⟩
    have cn2 := cells1_row (hk2.1 Bn _ hpn HCN.out rfl)
    have HJ2 := Lib.hid hJ2
    have HK2 := Lib.hid hk2
    clear hJ2 hk2
    gi_wp2
    refine bodyPost_ret (results_none rfl _ _ _) rfl ⟨⟨_, rfl⟩, _, HN1.out.symm, HJ2.out⟩
  · subst h
    have e0 : ((UInt8.ofNat n).toNat : Int) = (n : Int) := by simp; omega
    have hN : numB n b = UInt8.ofNat n :: tailB (n - n) := by rw [HN.out, if_neg (by omega)]
    have HN1 := Lib.hid hN
    obtain ⟨fn, tmps, assign, body, hy, hR⟩ := HY.out [] (UInt8.ofNat n) W h0 (by rw [HN1.out]; simp)
    rw [e0] at hy
    have HR := Lib.hid hR
    clear hR hN e0
    gi_wp2_with (first
      | go_skip
      | (refine ⟨trivial, ?_⟩; gi_at_call 19; (with_reducible refine (callsIn_wide.2 (HF.out W)).mono ?_); rintro e w1 ⟨rfl, rfl⟩))
    refine HR.out.mono ?_
    rintro e w2 ⟨rfl, hJ2, hk2⟩
    have HCN2 := Lib.hid (hk2.1 Bn _ hpn HCN.out rfl)
    have cn2 := cells1_row HCN2.out
    have fn2 := frozen_of_row w2 Bn 0 _ _ HCN2.out
    have HJ2 := Lib.hid hJ2
    clear hJ2 hk2 ck cn
    gi_wp2
    gi_loopw [24] (fun _ wr => ∃ (m : Nat) (ys : List UInt8), wr.heap[Bn]? = some (.cells #[.int .i64 (m : Int)] 3) ∧ m < 2147483648 ∧ ys ++ tailB m = numB n b ∧ J ys wr) (fun _ wr => cellInt wr Bn)
    case atStart =>
      refine ⟨n - n, [UInt8.ofNat n], ?_, by omega, HN1.out.symm, HST.out _ _ _ HJ2.out ⟨_, rfl⟩⟩
      refine (Go.heap_setCell_same w2 Bn 0 _ _ _ HCN2.out).trans ?_
      rw [show ((n - n : Nat) : Int) = (n : Int) - (n : Int) from by omega]
      first | rfl | simp
    case round =>
      obtain ⟨m, ys, hcell, hm, hys, hJr⟩ := hrel
      have HCR := Lib.hid hcell
      have cr := cells1_row hcell
      have fr := frozen_of_row wr Bn 0 _ _ hcell
      have HYS := Lib.hid hys
      have HJR := Lib.hid hJr
      clear hcell hys hJr cn2 fn2
      by_cases h128 : 128 ≤ m
      · have ht := tailB_ge h128
        have hl : ys.length < (numB n b).length := by rw [← HYS.out, List.length_append]; have := tailB_pos m; omega
        have e1 : ((UInt8.ofNat (m % 128 + 128)).toNat : Int) = ((m % 128 + 128 : Nat) : Int) := by simp; omega
        obtain ⟨fn, tmps, assign, body, hy, hR⟩ := HY.out ys (UInt8.ofNat (m % 128 + 128)) wr HJR.out hl
        rw [e1, ← or128] at hy
        have HR := Lib.hid hR
        have HT := Lib.hid ht
        clear hR hl e1 ht
        gi_wp2
        refine HR.out.mono ?_
        rintro e w3 ⟨rfl, hJ3, hk3⟩
        have HC3 := Lib.hid (hk3.1 Bn _ hpn HCR.out rfl)
        have cn3 := cells1_row HC3.out
        have fn3 := frozen_of_row w3 Bn 0 _ _ HC3.out
        have HJ3 := Lib.hid hJ3
        clear hJ3 hk3 cr fr
        gi_wp2
        go_roundw
        case rel =>
          refine ⟨m / 128, ys ++ [UInt8.ofNat (m % 128 + 128)], (Go.heap_setCell_same w3 Bn 0 _ _ _ HC3.out).trans ?_, by omega, ?_, HST.out _ _ _ HJ3.out ⟨_, rfl⟩⟩
          · rw [show ((m / 128 : Nat) : Int) = (m : Int) / 128 from by omega]
            rfl
          · rw [List.append_assoc, List.singleton_append, ← HT.out]; exact HYS.out
        case measure =>
          rw [cellInt_of (k := .i64) (n := m / 128) ((World.cell?_setCell_same' _ _ _ (by rw [cn3]; rfl)).trans (by rw [show ((m / 128 : Nat) : Int) = (m : Int) / 128 from by omega])), cellInt_of (cells1_row HCR.out)]
          omega
      · have ht := tailB_lt (show m < 128 by omega)
        have hl : ys.length < (numB n b).length := by rw [← HYS.out, List.length_append]; have := tailB_pos m; omega
        have e1 : ((UInt8.ofNat m).toNat : Int) = (m : Int) := by simp; omega
        obtain ⟨fn, tmps, assign, body, hy, hR⟩ := HY.out ys (UInt8.ofNat m) wr HJR.out hl
        rw [e1] at hy
        have HR := Lib.hid hR
        have HT := Lib.hid ht
        clear hR hl e1 ht
        gi_wp2
        refine HR.out.mono ?_
        rintro e w3 ⟨rfl, hJ3, hk3⟩
        have HJ3 := Lib.hid hJ3
        clear hJ3 hk3
        gi_wp2
        go_end0
        exact ⟨⟨_, rfl⟩, _, by rw [← HYS.out, HT.out], HJ3.out⟩
  · have e0 : ((UInt8.ofNat M).toNat : Int) = (M : Int) := by simp; omega
    have hN : numB n b = UInt8.ofNat M :: tailB (n - M) := by rw [HN.out, if_neg (by omega)]
    have HN1 := Lib.hid hN
    obtain ⟨fn, tmps, assign, body, hy, hR⟩ := HY.out [] (UInt8.ofNat M) W h0 (by rw [HN1.out]; simp)
    rw [e0] at hy
    have HR := Lib.hid hR
    have d1 : (M : Int) < (n : Int) := by omega
    have d2 : decide ((n : Int) < (M : Int)) = false := decide_eq_false (by omega)
    have d3 : decide (n < M) = false := decide_eq_false (by omega)
    clear hR hN e0
    gi_wp2_with (first
      | go_skip
      | (refine ⟨trivial, ?_⟩; gi_at_call 19; (with_reducible refine (callsIn_wide.2 (HF.out W)).mono ?_); rintro e w1 ⟨rfl, rfl⟩))
    refine HR.out.mono ?_
    rintro e w2 ⟨rfl, hJ2, hk2⟩
    have HCN2 := Lib.hid (hk2.1 Bn _ hpn HCN.out rfl)
    have cn2 := cells1_row HCN2.out
    have fn2 := frozen_of_row w2 Bn 0 _ _ HCN2.out
    have HJ2 := Lib.hid hJ2
    clear hJ2 hk2 ck cn
    gi_wp2
    gi_loopw [24] (fun _ wr => ∃ (m : Nat) (ys : List UInt8), wr.heap[Bn]? = some (.cells #[.int .i64 (m : Int)] 3) ∧ m < 2147483648 ∧ ys ++ tailB m = numB n b ∧ J ys wr) (fun _ wr => cellInt wr Bn)
    case atStart =>
      refine ⟨n - M, [UInt8.ofNat M], ?_, by omega, HN1.out.symm, HST.out _ _ _ HJ2.out ⟨_, rfl⟩⟩
      refine (Go.heap_setCell_same w2 Bn 0 _ _ _ HCN2.out).trans ?_
      rw [show ((n - M : Nat) : Int) = (n : Int) - (M : Int) from by omega]
      first | rfl | simp
    case round =>
      obtain ⟨m, ys, hcell, hm, hys, hJr⟩ := hrel
      have HCR := Lib.hid hcell
      have cr := cells1_row hcell
      have fr := frozen_of_row wr Bn 0 _ _ hcell
      have HYS := Lib.hid hys
      have HJR := Lib.hid hJr
      clear hcell hys hJr cn2 fn2
      by_cases h128 : 128 ≤ m
      · have ht := tailB_ge h128
        have hl : ys.length < (numB n b).length := by rw [← HYS.out, List.length_append]; have := tailB_pos m; omega
        have e1 : ((UInt8.ofNat (m % 128 + 128)).toNat : Int) = ((m % 128 + 128 : Nat) : Int) := by simp; omega
        obtain ⟨fn, tmps, assign, body, hy, hR⟩ := HY.out ys (UInt8.ofNat (m % 128 + 128)) wr HJR.out hl
        rw [e1, ← or128] at hy
        have HR := Lib.hid hR
        have HT := Lib.hid ht
        clear hR hl e1 ht
        gi_wp2
        refine HR.out.mono ?_
        rintro e w3 ⟨rfl, hJ3, hk3⟩
        have HC3 := Lib.hid (hk3.1 Bn _ hpn HCR.out rfl)
        have cn3 := cells1_row HC3.out
        have fn3 := frozen_of_row w3 Bn 0 _ _ HC3.out
        have HJ3 := Lib.hid hJ3
        clear hJ3 hk3 cr fr
        gi_wp2
        go_roundw
        case rel =>
          refine ⟨m / 128, ys ++ [UInt8.ofNat (m % 128 + 128)], (Go.heap_setCell_same w3 Bn 0 _ _ _ HC3.out).trans ?_, by omega, ?_, HST.out _ _ _ HJ3.out ⟨_, rfl⟩⟩
          · rw [show ((m / 128 : Nat) : Int) = (m : Int) / 128 from by omega]
            rfl
          · rw [List.append_assoc, List.singleton_append, ← HT.out]; exact HYS.out
        case measure =>
          rw [cellInt_of (k := .i64) (n := m / 128) ((World.cell?_setCell_same' _ _ _ (by rw [cn3]; rfl)).trans (by rw [show ((m / 128 : Nat) : Int) = (m : Int) / 128 from by omega])), cellInt_of (cells1_row HCR.out)]
          omega
      · have ht := tailB_lt (show m < 128 by omega)
        have hl : ys.length < (numB n b).length := by rw [← HYS.out, List.length_append]; have := tailB_pos m; omega
        have e1 : ((UInt8.ofNat m).toNat : Int) = (m : Int) := by simp; omega
        obtain ⟨fn, tmps, assign, body, hy, hR⟩ := HY.out ys (UInt8.ofNat m) wr HJR.out hl
        rw [e1] at hy
        have HR := Lib.hid hR
        have HT := Lib.hid ht
        clear hR hl e1 ht
        gi_wp2
        refine HR.out.mono ?_
        rintro e w3 ⟨rfl, hJ3, hk3⟩
        have HJ3 := Lib.hid hJ3
        clear hJ3 hk3
        gi_wp2
        go_end0
        exact ⟨⟨_, rfl⟩, _, by rw [← HYS.out, HT.out], HJ3.out⟩
/-- A number's bytes, as an iterator's word. -/
theorem octets_stops (k : Nat) (hk : 1 ≤ k) (Bk Bn b n : Nat) (p : Nat → Prop) (w : World) (hpk : p Bk) (hpn : p Bn) (hne : Bk ≠ Bn) (hb1 : 1 ≤ b) (hb8 : b ≤ 8) (hn : n < 2147483648)
    (hck : w.heap[Bk]? = some (.cells #[.int .i64 (b : Int)] 3)) (hcn : w.heap[Bn]? = some (.cells #[.int .i64 (n : Int)] 3)) :
    SeqS Fence.wide k Try.prog 26 #[.pointer (some ⟨Bk, 0, none⟩), .pointer (some ⟨Bn, 0, none⟩)] (fun x : UInt8 => #[.int .u8 (x.toNat : Int)]) (KeepZ p) (StB Bn) (fun _ _ _ => True) (fun ys => ys = numB n b) (numB n b).length w := fun l J W hW hJ hSt hY h0 =>
  octets1_in k hk l Bk Bn b n p J W hJ hSt (fun pre x W1 hj hl => hY pre x W1 hj trivial hl) hpk hpn hne hb1 hb8 hn ((hW.block Bk (Array.getElem?_eq_some_iff.1 hck).1).trans hck) ((hW.block Bn (Array.getElem?_eq_some_iff.1 hcn).1).trans hcn) h0
end Go.Proofs.Ytmckopjchpgcpaa
