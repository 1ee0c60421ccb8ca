/- octet.Bits: the code that stands there; and where there is none. -/
import Derived.Test.YtfglpnfegfcmeaaOctIter
namespace Go.Proofs.Ytfglpnfegfcmeaa
open Go.RowKit Oct Go.Shelf
attribute [local go_sem] Oper.semAt_some
attribute [local go_sem] i64_and1 i64_and7 i64_and31

def numL (l : List (Fin 2)) : Nat := l.foldl (fun a x => 2 * a + x.val) 0
theorem numL_snoc (l : List (Fin 2)) (x : Fin 2) : numL (l ++ [x]) = 2 * numL l + x.val := by simp [numL]
theorem numL_bits (xs : List UInt8) (i k : Nat) : numL (bitsL xs i k) = codeOf xs i k := by
  induction k with
  | zero => rfl
  | succ k ih => rw [bitsL_succ, numL_snoc, ih, codeOf]
theorem foldL_lt (l : List (Fin 2)) : ∀ a : Nat, l.foldl (fun a x => 2 * a + x.val) a < (a + 1) * 2 ^ l.length := by
  induction l with
  | nil => intro a; simp
  | cons x l ih =>
    intro a
    have h := ih (2 * a + x.val)
    have hx := x.isLt
    rw [List.foldl_cons, List.length_cons, Nat.pow_succ, Nat.mul_comm (2 ^ l.length) 2, ← Nat.mul_assoc]
    refine Nat.lt_of_lt_of_le h (Nat.mul_le_mul_right _ ?_)
    omega
theorem numL_lt (l : List (Fin 2)) (h : l.length < 30) : numL l < 536870912 := by
  have h1 := foldL_lt l 0
  have h2 : 2 ^ l.length ≤ 2 ^ 29 := Nat.pow_le_pow_right (by decide) (by omega)
  rw [Nat.zero_add, Nat.one_mul] at h1
  have h3 : (2 : Nat) ^ 29 = 536870912 := by decide
  unfold numL
  omega
theorem or_join1 (a b : Nat) (hb : b < 2) (ha : a < 536870912) : bits .or .i64 ((a : Int) * 2) (b : Int) = (a : Int) * 2 + b := i64_or_join a b 1 hb (by omega)
theorem makeFunc_any (fn : Fn) (first cap : Array Value) (w : World) : (Instr.makeFunc fn first cap).run Try.prog w = .ok (.func fn first cap) w := rfl

set_option maxRecDepth 100000 in
set_option maxHeartbeats 1000000 in
theorem bits_yes (A : Option Addr) (n c : Nat) (xs : List UInt8) (i k : Int) (w : World) (hA : Bs w w.heap.size A n xs) (h0 : 0 ≤ i) (hk0 : 0 ≤ k) (hk : k ≤ 30) (h1 : i + k ≤ 8 * n) (hn : n ≤ 1000000) :
    Calls Try.prog 18 #[.slice A n c, .int .i64 i, .int .i64 k] w fun e w' => e = .returned (.tuple #[.int .i64 (codeOf xs i.toNat k.toNat), .bool true]) ∧ Below w.heap.size w w' := by
  obtain ⟨i, rfl⟩ := Int.eq_ofNat_of_zero_le h0
  obtain ⟨k, rfl⟩ := Int.eq_ofNat_of_zero_le hk0
  rw [Int.toNat_natCast, Int.toNat_natCast]
  have HA := Lib.hid hA
  clear hA
  have d1 : decide ((i : Int) < 0) = false := by simp
  have d2 : decide ((n : Int) * 8 < (i : Int)) = false := by simp; omega
  have d3 : decide ((n : Int) * 8 - (i : Int) < (k : Int)) = false := by simp; omega
  refine (callsIn_wide (n := 6)).1 (callsIn_of_wp_marks Try.func18 rfl trivial ?_ rfl)
  refine wpIn_wide.2 ?_
  simp only [Try.ntmps18, List.size_toArray, List.length_cons, List.length_nil, Nat.reduceAdd, Nat.reduceSub, Array.replicate_succ, Array.replicate_zero, List.push_toArray, List.append_toArray, List.nil_append, List.cons_append]
  go_wp2
  refine wp_scope_forward 0 rfl ?_
  go_wp2_with (first | (go_at_call 25; refine (room_any _ _ _ _ hn).mono ?_; rintro e w' ⟨rfl, rfl⟩) | (go_at_call 27; refine (coded_yes _ _ hk0 hk).mono ?_; rintro e w' ⟨rfl, rfl⟩) | (go_at_call 28; refine (from_any _ _ _ _ _ _).mono ?_; rintro e w' ⟨rfl, rfl⟩))
  have hW : ∀ W0, W0 = (((w.alloc (.cells #[.int .i64 0] 3)).alloc (.cells #[.slice A n c] 22)).alloc (.cells #[.int .i64 i] 3)).alloc (.cells #[.int .i64 k] 3) →
      (W0.cell? ⟨w.heap.size, 0, none⟩ = some (.int .i64 0) ∧ W0.frozen? ⟨w.heap.size, 0, none⟩ = false) ∧ W0.cell? ⟨w.heap.size + 1 + 1, 0, none⟩ = some (.int .i64 i) ∧ W0.cell? ⟨w.heap.size + 1 + 2, 0, none⟩ = some (.int .i64 k) ∧
      W0.cell? ⟨w.heap.size + 1, 0, none⟩ = some (.slice A n c) ∧ W0.heap.size = w.heap.size + 4 ∧ Below w.heap.size w W0 := by
    rintro W0 rfl
    refine ⟨⟨by simp [go_sem], by simp [go_sem]⟩, by simp [go_sem], by simp [go_sem], by simp [go_sem], by simp, ?_⟩
    exact ((((Below.refl _ w).alloc (Nat.le_refl _) _).alloc (by simp) _).alloc (by simp; omega) _).alloc (by simp; omega) _
  generalize hW0 : ((((w.alloc (.cells #[.int .i64 0] 3)).alloc (.cells #[.slice A n c] 22)).alloc (.cells #[.int .i64 i] 3)).alloc (.cells #[.int .i64 k] 3)) = W0
  obtain ⟨hcode, hc1, hc2, hc3, hsz, hB0⟩ := hW W0 hW0.symm
  clear hW hW0
  have HS := Lib.hid hsz
  have hp : ∀ j, (j < w.heap.size ∨ (w.heap.size < j ∧ j < w.heap.size + 4)) → j < W0.heap.size := fun j hj => by omega
  clear hsz
  refine (wpIn_wide (n := 6)).1 ?_
  refine wpIn_rangeFunc_ownG rfl (by omega) (gf := 33) (lb := #[.pointer (some ⟨w.heap.size + 1 + 1, 0, none⟩), .pointer (some ⟨w.heap.size + 1 + 2, 0, none⟩), .pointer (some ⟨w.heap.size + 1, 0, none⟩)]) rfl trivial (enters_of Try.func33 (by kernel_rfl) rfl)
    (from_stops 5 (by omega) (w.heap.size + 1 + 1) (w.heap.size + 1 + 2) (w.heap.size + 1) w.heap.size n c i k A xs (fun j => j < w.heap.size ∨ (w.heap.size < j ∧ j < w.heap.size + 4)) W0 (fun b hb => .inl hb) (.inr (by omega)) (.inr (by omega)) (.inr (by omega)) (by omega) hn hp hc1 hc2 hc3 (HA.out.below hB0))
    (fun h k => h.trans k) (KeepP.put hp) (Below.refl _ _) (fun _ => rfl)
    (fun pre W => (W.cell? ⟨w.heap.size, 0, none⟩ = some (.int .i64 (numL pre)) ∧ W.frozen? ⟨w.heap.size, 0, none⟩ = false) ∧ Below w.heap.size w W)
    (fun _ _ _ => False)
    (OwnFrom.and (Own.from (fun s A B row hs hg hr => ⟨cell_kept hs.1 hg hr, (frozen_kept hs.1 hg hr).trans hs.2⟩) _) (ownFrom_below (Nat.le_refl _) (by rw [HS.out]; omega)))
    (fun _ _ _ _ _ hs _ _ => hs)
    ⟨hcode, hB0⟩
    (fun x => { tmps := #[.slice A n c, .int .i64 i, .int .i64 k, undef, undef, undef, .int .i64 0, .bool false, .pointer (some ⟨w.heap.size, 0, none⟩), .int .i64 ((x.val : Nat) : Int), .int .i64 k, .bool true, .bool false, .bool false, .int .i64 i, .bool false, .bool false, .bool false, .int .i64 i, .slice A n c, .int .i64 ((n : Int) * 8), .bool false, .bool false, .bool false, .int .i64 k, .slice A n c, .int .i64 ((n : Int) * 8), .int .i64 i, .int .i64 ((n : Int) * 8 - i), .bool false, .bool false, .slice A n c, .int .i64 i, .int .i64 k, .func (.func 33) #[] #[.pointer (some ⟨w.heap.size + 1 + 1, 0, none⟩), .pointer (some ⟨w.heap.size + 1 + 2, 0, none⟩), .pointer (some ⟨w.heap.size + 1, 0, none⟩)], .int .i64 ((x.val : Nat) : Int), undef, undef, undef, undef, undef], defers := [] }) ?assign ?body ?done ?stop
  case assign =>
    intro l x W K hK
    gi_wp2
    exact hK
  case body =>
    rintro l pre x W ⟨⟨hc, hf⟩, hB⟩ hlen
    have hsm := numL_lt pre (by omega)
    have hx := x.isLt
    have hor := or_join1 (numL pre) x.val hx hsm
    gi_wp2
    refine ⟨(KeepsOthers.setCell _ _ _).from _, fun j hj => Below.heap_setCell _ _ _ _ (by simp only; omega), ⟨?_, by rw [World.frozen?_setCell]; exact hf⟩, hB.setCell (p := ⟨w.heap.size, 0, none⟩) (Nat.le_refl _) _⟩
    rw [numL_snoc]
    refine (World.cell?_setCell_same' _ _ _ (by rw [hc]; rfl)).trans ?_
    rw [Int.natCast_add, Int.natCast_mul, Int.mul_comm]
    rfl
  case done =>
    rintro D ys W hD rfl ⟨⟨hc, _⟩, hB⟩ hK
    have HN := Lib.hid (numL_bits xs i k)
    go_wp2
    rw [jump_ret]
    refine ⟨by simp, .inl ⟨_, _, rfl, run_takeDeferred hK, ?_⟩⟩
    exact ⟨_, results_tmp2 rfl _ _ _, by rw [HN.out]; rfl, hB.trans (belowK_b (w := w) (Nat.le_refl _) W D _ _ (by rw [HS.out] at hD; omega) hK rfl rfl)⟩
  case stop =>
    rintro D c pre W _ _ h _
    exact h.elim

theorem bits_none (A : Option Addr) (n c : Nat) (i k : Int) (w : World) (h : ¬ (0 ≤ k ∧ k ≤ 30 ∧ 0 ≤ i ∧ i + k ≤ 8 * n)) (hn : n ≤ 1000000) :
    Calls Try.prog 18 #[.slice A n c, .int .i64 i, .int .i64 k] w fun e w' => e = .returned (.tuple #[.int .i64 0, .bool false]) ∧ Below w.heap.size w w' := by
  have hB : ∀ v, Below w.heap.size w (w.alloc (.cells #[v] 3)) := fun v => (Below.refl _ w).alloc (Nat.le_refl _) _
  have HB := Lib.hid hB
  clear hB
  by_cases hk : 0 ≤ k ∧ k ≤ 30
  · have hk1 := hk.1
    have hk2 := hk.2
    by_cases hi : i < 0
    · clear h hk
      go_enter Try.func18, Try.ntmps18
      go_wp2
      refine wp_scope_forward 0 rfl ?_
      go_wp2_with (go_at_call 27; refine (coded_yes _ _ hk1 hk2).mono ?_; rintro e w' ⟨rfl, rfl⟩)
      go_step3
      refine ⟨rfl, ?_⟩
      go_wp2
      rw [jump_ret]
      go_ret2
      exact ⟨rfl, HB.out _⟩
    · have d1 : decide (i < 0) = false := by simpa using hi
      by_cases hi2 : (n : Int) * 8 < i
      · have d2 : decide ((n : Int) * 8 < i) = true := by simpa using hi2
        clear h hk
        go_enter Try.func18, Try.ntmps18
        go_wp2
        refine wp_scope_forward 0 rfl ?_
        go_wp2_with (first | (go_at_call 27; refine (coded_yes _ _ hk1 hk2).mono ?_; rintro e w' ⟨rfl, rfl⟩) | (go_at_call 25; refine (room_any _ _ _ _ hn).mono ?_; rintro e w' ⟨rfl, rfl⟩))
        go_step3
        refine ⟨rfl, ?_⟩
        go_wp2
        rw [jump_ret]
        go_ret2
        exact ⟨rfl, HB.out _⟩
      · have d2 : decide ((n : Int) * 8 < i) = false := by simpa using hi2
        have d3 : decide ((n : Int) * 8 - i < k) = true := by simp; omega
        clear h hk
        go_enter Try.func18, Try.ntmps18
        go_wp2
        refine wp_scope_forward 0 rfl ?_
        go_wp2_with (first | (go_at_call 27; refine (coded_yes _ _ hk1 hk2).mono ?_; rintro e w' ⟨rfl, rfl⟩) | (go_at_call 25; refine (room_any _ _ _ _ hn).mono ?_; rintro e w' ⟨rfl, rfl⟩))
        go_step3
        refine ⟨rfl, ?_⟩
        go_wp2
        rw [jump_ret]
        go_ret2
        exact ⟨rfl, HB.out _⟩
  · go_enter Try.func18, Try.ntmps18
    go_wp2
    refine wp_scope_forward 0 rfl ?_
    go_wp2_with (go_at_call 27; refine (coded_no _ _ hk).mono ?_; rintro e w' ⟨rfl, rfl⟩)
    go_step3
    refine ⟨rfl, ?_⟩
    go_wp2
    rw [jump_ret]
    go_ret2
    exact ⟨rfl, HB.out _⟩
end Go.Proofs.Ytfglpnfegfcmeaa
