/- The two iterators: the bits of bytes, the bits of a code; each comes one by one, whatever the loop's body does to other memory. -/
import Derived.RangeFuncNested
import Derived.RangeFuncBound
import Derived.RangeFuncCalls
import Derived.RangeFuncLeaves
import Derived.Shelf.Abstract
import Derived.Shelf.RegionOpen
import Derived.WalkKit
import Derived.OwnWalkIn
import Derived.TacticsInMore
import Derived.LoopNIn
import Derived.LoopIn
import Derived.Test.YtfglpnfegfcmeaaOctB
namespace Go.Proofs.Ytfglpnfegfcmeaa
open Go.RowKit Oct Go.Shelf
attribute [local go_sem] Oper.semAt_some
attribute [local go_sem] i64_and1 i64_and7 i64_and31

/-- The blocks of p are as they were. -/
def KeepP (p : Nat → Prop) (W W' : World) : Prop := ∀ j, p j → W'.heap[j]? = W.heap[j]?
theorem KeepP.refl (p : Nat → Prop) (W : World) : KeepP p W W := fun _ _ => rfl
theorem KeepP.trans {p : Nat → Prop} {A B C : World} (h : KeepP p A B) (k : KeepP p B C) : KeepP p A C := fun j hj => (k j hj).trans (h j hj)
theorem KeepP.cell {p : Nat → Prop} {W W' : World} (h : KeepP p W W') {a : Addr} (ha : p a.block) : W'.cell? a = W.cell? a := World.cell?_of_block (h _ ha)
theorem KeepP.put {p : Nat → Prop} {B : Nat} (hp : ∀ j, p j → j < B) (W : World) (l : Nat) (o o' : Obj) (hl : B ≤ l) (_ : W.heap[l]? = some o) (_ : o.isCells = false) (_ : o.isWalk = false) : KeepP p W (W.putObj l o') := fun j hj =>
  (grownBy_putObj' W l o').block j (by have h1 := hp j hj; have h2 := (Array.getElem?_eq_some_iff.1 ‹W.heap[l]? = some o›).1; omega) (fun e => by cases e; have := hp _ hj; omega)
theorem KeepP.below {p : Nat → Prop} {B : Nat} {W W' : World} (h : Below B W W') (hp : ∀ j, p j → j < B) : KeepP p W W' := fun j hj => h.block j (hp j hj)

/-- The bits of bytes, as a list. -/
def bitsL (xs : List UInt8) (i k : Nat) : List (Fin 2) := (List.range k).map fun t => ⟨bitOf xs (i + t), bitOf_lt _ _⟩
theorem bitsL_length (xs : List UInt8) (i k : Nat) : (bitsL xs i k).length = k := by simp [bitsL]
theorem bitsL_succ (xs : List UInt8) (i k : Nat) : bitsL xs i (k + 1) = bitsL xs i k ++ [⟨bitOf xs (i + k), bitOf_lt _ _⟩] := by simp [bitsL, List.range_succ]

theorem bitsL_step (xs : List UInt8) {i m : Nat} (h : i ≤ m) : bitsL xs i (m - i) ++ [⟨bitOf xs m, bitOf_lt _ _⟩] = bitsL xs i (m + 1 - i) := by
  have e : m + 1 - i = m - i + 1 := by omega
  have e2 : i + (m - i) = m := by omega
  rw [e, bitsL_succ]
  simp only [e2]
/-- The bits of a code, the highest first, as a list. -/
def codeL (c k : Nat) (j : Nat) : List (Fin 2) := (List.range j).map fun t => ⟨c / 2 ^ (k - 1 - t) % 2, Nat.mod_lt _ (by decide)⟩
theorem codeL_length (c k j : Nat) : (codeL c k j).length = j := by simp [codeL]
theorem codeL_step (c : Nat) {k m : Nat} (h : m < k) : codeL c k (k - 1 - m) ++ [⟨c / 2 ^ m % 2, Nat.mod_lt _ (by decide)⟩] = codeL c k (k - m) := by
  have e : k - m = k - 1 - m + 1 := by omega
  have e2 : k - 1 - (k - 1 - m) = m := by omega
  rw [e]
  simp [codeL, List.range_succ, e2]

set_option maxRecDepth 100000 in
set_option maxHeartbeats 1000000 in
theorem of1_in (n : Nat) (hn : 1 ≤ n) (l B1 B2 cd k : Nat) (p : Nat → Prop) (J Jx : List (Fin 2) → World → Prop)
    (h1 : p B1) (h2 : p B2) (hk : k ≤ 30)
    (hY : ∀ pre (x : Fin 2) W, J pre W → pre.length < k → YieldAt Fence.wide (n - 1) Try.prog l #[.int .i64 ((x.val : Nat) : Int)] W fun e W' =>
      (e = .returned (.bool true) ∧ J (pre ++ [x]) W' ∧ KeepP p W W') ∨ (e = .returned (.bool false) ∧ Jx (pre ++ [x]) W'))
    (W : World) (hc1 : W.cell? ⟨B1, 0, none⟩ = some (.int .i64 k)) (hc2 : W.cell? ⟨B2, 0, none⟩ = some (.int .i64 cd)) (h0 : J [] W) :
    CallsIn Fence.wide n Try.prog 35 #[.func (.yield l) #[] #[], .pointer (some ⟨B1, 0, none⟩), .pointer (some ⟨B2, 0, none⟩)] W fun e W' => (∃ v, e = .returned v) ∧
      ((∃ ys, ys = codeL cd k k ∧ J ys W') ∨ (∃ pre, True ∧ Jx pre W')) := by
  have HY := Lib.hid hY
  clear hY
  refine callsIn_of_wp Try.func35 rfl trivial ?_ rfl
  simp only [Try.ntmps35, List.size_toArray, List.length_cons, List.length_nil, Nat.reduceAdd, Nat.reduceSub, Array.replicate_succ, Array.replicate_zero, List.push_toArray, List.append_toArray, List.nil_append, List.cons_append]
  gi_wp2
  gi_loopw [4] (fun t wr => ∃ m : Nat, m ≤ k ∧ t = .int .i64 ((m : Int) - 1) ∧ KeepP p W wr ∧ J (codeL cd k (k - m)) wr)
    (fun t _ => (intOf t + 1).toNat)
  case atStart =>
    exact ⟨k, Nat.le_refl _, rfl, KeepP.refl _ _, by rw [Nat.sub_self]; exact h0⟩
  case round =>
    obtain ⟨m, hm, rfl, hkp, hJ⟩ := hrel
    have hd1 : wr.cell? ⟨B1, 0, none⟩ = some (.int .i64 k) := (hkp.cell (a := ⟨B1, 0, none⟩) h1).trans hc1
    have hd2 : wr.cell? ⟨B2, 0, none⟩ = some (.int .i64 cd) := (hkp.cell (a := ⟨B2, 0, none⟩) h2).trans hc2
    clear hc1 hc2
    cases m with
    | zero =>
      gi_wp2
      go_end0
      exact ⟨⟨_, rfl⟩, .inl ⟨_, rfl, hJ⟩⟩
    | succ m =>
      rw [show ((m + 1 : Nat) : Int) - 1 = (m : Int) from by omega]
      rw [show k - (m + 1) = k - 1 - m from by omega] at hJ
      have HB := Lib.hid (codeL_step cd (show m < k by omega))
      obtain ⟨fn, tmps, assign, body, hy, hR⟩ := HY.out _ ⟨cd / 2 ^ m % 2, Nat.mod_lt _ (by decide)⟩ wr hJ (by rw [codeL_length]; omega)
      dsimp only at hy
      rw [HB.out] at hR
      simp only [Int.natCast_emod, Int.natCast_ediv, Int.natCast_pow, Int.cast_ofNat_Int] at hy
      gi_wp2
      refine hR.mono ?_
      rintro e W3 (⟨rfl, hJ3, hk3⟩ | ⟨rfl, hJx3⟩)
      · gi_wp2
        go_roundw
        case rel => exact ⟨m, by omega, by go_num, hkp.trans hk3, hJ3⟩
        case measure => simp [intOf]
      · gi_wp2
        refine bodyPost_ret (results_none rfl _ _ _) rfl ?_
        exact ⟨⟨_, rfl⟩, .inr ⟨_, trivial, hJx3⟩⟩

set_option maxRecDepth 100000 in
set_option maxHeartbeats 1000000 in
theorem from1_in (n : Nat) (hn : 1 ≤ n) (l B1 B2 B3 B nn c i k : Nat) (A : Option Addr) (xs : List UInt8) (p : Nat → Prop) (J Jx : List (Fin 2) → World → Prop)
    (hp : ∀ b, b < B → p b) (h1 : p B1) (h2 : p B2) (h3 : p B3) (hik : i + k ≤ 8 * nn) (hnn : nn ≤ 1000000)
    (hY : ∀ pre (x : Fin 2) W, J pre W → pre.length < k → YieldAt Fence.wide (n - 1) Try.prog l #[.int .i64 ((x.val : Nat) : Int)] W fun e W' =>
      (e = .returned (.bool true) ∧ J (pre ++ [x]) W' ∧ KeepP p W W') ∨ (e = .returned (.bool false) ∧ Jx (pre ++ [x]) W'))
    (W : World) (hc1 : W.cell? ⟨B1, 0, none⟩ = some (.int .i64 i)) (hc2 : W.cell? ⟨B2, 0, none⟩ = some (.int .i64 k)) (hc3 : W.cell? ⟨B3, 0, none⟩ = some (.slice A nn c))
    (hA : Bs W B A nn xs) (h0 : J [] W) :
    CallsIn Fence.wide n Try.prog 33 #[.func (.yield l) #[] #[], .pointer (some ⟨B1, 0, none⟩), .pointer (some ⟨B2, 0, none⟩), .pointer (some ⟨B3, 0, none⟩)] W fun e W' => (∃ v, e = .returned v) ∧
      ((∃ ys, ys = bitsL xs i k ∧ J ys W') ∨ (∃ pre, True ∧ Jx pre W')) := by
  have HY := Lib.hid hY
  have HA := Lib.hid hA
  clear hY hA
  have hKA : ∀ wr, KeepP p W wr → Bs wr B A nn xs := fun wr hk => HA.out.keep fun q hq => hk.cell (hp _ hq)
  have HK := Lib.hid hKA
  clear hKA
  refine callsIn_of_wp Try.func33 rfl trivial ?_ rfl
  simp only [Try.ntmps33, List.size_toArray, List.length_cons, List.length_nil, Nat.reduceAdd, Nat.reduceSub, Array.replicate_succ, Array.replicate_zero, List.push_toArray, List.append_toArray, List.nil_append, List.cons_append]
  gi_wp2
  gi_loopw [5] (fun t wr => ∃ m : Nat, i ≤ m ∧ m ≤ i + k ∧ t = .int .i64 m ∧ KeepP p W wr ∧ J (bitsL xs i (m - i)) wr)
    (fun t _ => k + i - (intOf t).toNat)
  case atStart =>
    exact ⟨i, Nat.le_refl _, by omega, rfl, KeepP.refl _ _, by rw [Nat.sub_self]; exact h0⟩
  case round =>
    obtain ⟨m, hm1, hm2, rfl, hkp, hJ⟩ := hrel
    have hd1 : wr.cell? ⟨B1, 0, none⟩ = some (.int .i64 i) := (hkp.cell (a := ⟨B1, 0, none⟩) h1).trans hc1
    have hd2 : wr.cell? ⟨B2, 0, none⟩ = some (.int .i64 k) := (hkp.cell (a := ⟨B2, 0, none⟩) h2).trans hc2
    have hd3 : wr.cell? ⟨B3, 0, none⟩ = some (.slice A nn c) := (hkp.cell (a := ⟨B3, 0, none⟩) h3).trans hc3
    clear hc1 hc2 hc3
    by_cases hlt : m < i + k
    · obtain ⟨b, o, rfl, hb, hc⟩ := bs_cell (HK.out _ hkp) (by omega)
      obtain ⟨x, hx, hcx⟩ := hc (m / 8) (by omega)
      have HX : Hid (x.toNat / 2 ^ (7 - m % 8) % 2 = bitOf xs m) := by unfold bitOf; rw [hx]; rfl
      clear hc hx
      have HB := Lib.hid (bitsL_step xs hm1)
      obtain ⟨fn, tmps, assign, body, hy, hR⟩ := HY.out _ ⟨bitOf xs m, bitOf_lt _ _⟩ wr hJ (by rw [bitsL_length]; omega)
      dsimp only at hy
      rw [HB.out] at hR
      gi_wp2_with (refine ⟨trivial, ?_⟩; gi_at_call 26; refine (callsIn_wide.2 (bit_raw _ _ _ _ _ x _ (by omega) hnn hcx)).mono ?_; rintro e w' ⟨rfl, rfl⟩; rw [HX.out])
      refine hR.mono ?_
      rintro e W3 (⟨rfl, hJ3, hk3⟩ | ⟨rfl, hJx3⟩)
      · gi_wp2
        go_roundw
        case rel => exact ⟨m + 1, by omega, by omega, by go_num, hkp.trans hk3, hJ3⟩
        case measure => simp [intOf]; omega
      · gi_wp2
        refine bodyPost_ret (results_none rfl _ _ _) rfl ?_
        exact ⟨⟨_, rfl⟩, .inr ⟨_, trivial, hJx3⟩⟩
    · obtain rfl : m = i + k := by omega
      gi_wp2
      go_end0
      exact ⟨⟨_, rfl⟩, .inl ⟨_, by rw [Nat.add_sub_cancel_left], hJ⟩⟩

/-- The bits of bytes, as an iterator's word. -/
theorem from_stops (n : Nat) (hn : 1 ≤ n) (B1 B2 B3 B nn c i k : Nat) (A : Option Addr) (xs : List UInt8) (p : Nat → Prop) (w : World)
    (hp : ∀ b, b < B → p b) (h1 : p B1) (h2 : p B2) (h3 : p B3) (hik : i + k ≤ 8 * nn) (hnn : nn ≤ 1000000) (hlt : ∀ b, p b → b < w.heap.size)
    (hc1 : w.cell? ⟨B1, 0, none⟩ = some (.int .i64 i)) (hc2 : w.cell? ⟨B2, 0, none⟩ = some (.int .i64 k)) (hc3 : w.cell? ⟨B3, 0, none⟩ = some (.slice A nn c)) (hA : Bs w B A nn xs) :
    SeqStopsK Fence.wide n Try.prog 33 #[.pointer (some ⟨B1, 0, none⟩), .pointer (some ⟨B2, 0, none⟩), .pointer (some ⟨B3, 0, none⟩)] (fun x : Fin 2 => #[Value.int .i64 ((x.val : Nat) : Int)]) (KeepP p)
      (fun ys => ys = bitsL xs i k) (fun _ => True) k w := fun l J Jx W hW _ _ hY h0 => by
  have hkp : KeepP p w W := KeepP.below hW hlt
  exact from1_in n hn l B1 B2 B3 B nn c i k A xs p J Jx hp h1 h2 h3 hik hnn hY W ((hkp.cell (a := ⟨B1, 0, none⟩) h1).trans hc1) ((hkp.cell (a := ⟨B2, 0, none⟩) h2).trans hc2) ((hkp.cell (a := ⟨B3, 0, none⟩) h3).trans hc3)
    (hA.keep fun q hq => hkp.cell (hp _ hq)) h0
/-- The bits of a code, as an iterator's word. -/
theorem of_stops (n : Nat) (hn : 1 ≤ n) (B1 B2 cd k : Nat) (p : Nat → Prop) (w : World)
    (h1 : p B1) (h2 : p B2) (hk : k ≤ 30) (hlt : ∀ b, p b → b < w.heap.size)
    (hc1 : w.cell? ⟨B1, 0, none⟩ = some (.int .i64 k)) (hc2 : w.cell? ⟨B2, 0, none⟩ = some (.int .i64 cd)) :
    SeqStopsK Fence.wide n Try.prog 35 #[.pointer (some ⟨B1, 0, none⟩), .pointer (some ⟨B2, 0, none⟩)] (fun x : Fin 2 => #[Value.int .i64 ((x.val : Nat) : Int)]) (KeepP p)
      (fun ys => ys = codeL cd k k) (fun _ => True) k w := fun l J Jx W hW _ _ hY h0 => by
  have hkp : KeepP p w W := KeepP.below hW hlt
  exact of1_in n hn l B1 B2 cd k p J Jx h1 h2 hk hY W ((hkp.cell (a := ⟨B1, 0, none⟩) h1).trans hc1) ((hkp.cell (a := ⟨B2, 0, none⟩) h2).trans hc2) h0
/-- octet.from boxes its three arguments and makes the function. -/
theorem from_any (A : Option Addr) (n c : Nat) (i k : Int) (w : World) :
    Calls Try.prog 28 #[.slice A n c, .int .i64 i, .int .i64 k] w fun e w' =>
      e = .returned (.func (.func 33) #[] #[.pointer (some ⟨w.heap.size + 1, 0, none⟩), .pointer (some ⟨w.heap.size + 2, 0, none⟩), .pointer (some ⟨w.heap.size, 0, none⟩)]) ∧
      ((w.alloc (.cells #[.slice A n c] 22)).alloc (.cells #[.int .i64 i] 3)).alloc (.cells #[.int .i64 k] 3) = w' := by
  go_enter Try.func28, Try.ntmps28
  go_wp2
  go_ret
  exact ⟨rfl, rfl⟩
/-- octet.of boxes its two arguments and makes the function. -/
theorem of_any (cd k : Int) (w : World) :
    Calls Try.prog 31 #[.int .i64 cd, .int .i64 k] w fun e w' =>
      e = .returned (.func (.func 35) #[] #[.pointer (some ⟨w.heap.size + 1, 0, none⟩), .pointer (some ⟨w.heap.size, 0, none⟩)]) ∧
      (w.alloc (.cells #[.int .i64 cd] 3)).alloc (.cells #[.int .i64 k] 3) = w' := by
  go_enter Try.func31, Try.ntmps31
  go_wp2
  go_ret
  exact ⟨rfl, rfl⟩
end Go.Proofs.Ytfglpnfegfcmeaa
