/- FrameOrder: the ways out, and all of it. -/
import Derived.Test.YtmbjmpijilmbkaaFoLa
import Derived.Test.YtmbjmpijilmbkaaFoLb
import Derived.Test.YtmbjmpijilmbkaaFoLc
import Derived.Test.YtmbjmpijilmbkaaFoLd
import Derived.Test.YtmbjmpijilmbkaaMi
namespace Go.Proofs.Ytmbjmpijilmbkaa
open Go.RowKit Oct Fi Fm
set_option linter.unusedVariables false
set_option linter.unusedSimpArgs false
set_option maxRecDepth 100000 in
set_option maxHeartbeats 4000000 in
theorem fo_bad (L kv fv sv nv : Int) (w : World) (h0 : headB 0 sv = false) :
    Calls Try.prog 3 #[.agg #[.int .i64 L, .int .u8 kv, .int .u8 fv, .int .i64 sv], .int .i64 nv] w fun e w' => e = .returned (.bool true) ∧ Below w.heap.size w w' := by
  have K0 : Hid (EnvF (w.alloc (.cells #[.int .i64 L, .int .u8 kv, .int .u8 fv, .int .i64 sv] 23)) [] [(w.heap.size, #[.int .i64 L, .int .u8 kv, .int .u8 fv, .int .i64 sv], 23)]) := Lib.hid ((EnvF.nil w).boxg 23 #[.int .i64 L, .int .u8 kv, .int .u8 fv, .int .i64 sv] (w.heap.size) (by simp))
  have B0 : Hid (Below w.heap.size w (w.alloc (.cells #[.int .i64 L, .int .u8 kv, .int .u8 fv, .int .i64 sv] 23))) := Lib.hid ((Below.refl _ w).alloc (by first | exact Nat.le_refl _ | (simp only [World.size_alloc]; omega)) (.cells #[.int .i64 L, .int .u8 kv, .int .u8 fv, .int .i64 sv] 23))
  have H0 := Lib.hid h0
  clear h0
  go_enter Try.func3, Try.ntmps3
  go_wp2_with (first
    | go_skip
    | (refine at_store 3 (.tmp 9) (.const (.int .i64 0)) (by rfl) ?_; refine wpList_put (by rfl) 3 (.tmp 9) (.const (.int .i64 0)) (by rfl) (w.heap.size) 0 (.int .i64 0) (by rfl) (by rfl) 23 #[.int .i64 L, .int .u8 kv, .int .u8 fv, .int .i64 sv] #[.int .i64 0, .int .u8 kv, .int .u8 fv, .int .i64 sv] (K0.out.row 0 rfl) (by simp [Value.cells]) (by kernel_rfl) info_i (by kernel_rfl) ?_; intro w1 hrow hoth hz hbl; have K1 : Hid (EnvF w1 [] [(w.heap.size, #[.int .i64 0, .int .u8 kv, .int .u8 fv, .int .i64 sv], 23)]) := Lib.hid (K0.out.turn 0 rfl hrow hoth hz); have B1 : Hid (Below w.heap.size w w1) := Lib.hid (hbl _ _ (Nat.le_refl _) B0.out); clear hrow hoth hz hbl K0 B0)
    | (refine at_load 23 (.tmp 2) (by rfl) ?_; refine wpList_load_row (by rfl) 23 (.tmp 2) (by rfl) (w.heap.size) (by rfl) 23 #[.int .i64 0, .int .u8 kv, .int .u8 fv, .int .i64 sv] (0, 0) _ (K1.out.row 0 rfl) Try.underlying23 (by rfl) info_H ?_)
    | (go_at_call 5; (have hc := ((H0.out ▸ rright_any 0 kv fv sv w1)); (with_reducible refine hc.mono ?_); clear hc); rintro e w2 ⟨rfl, hb⟩; have K2 : Hid (EnvF w2 [] [(w.heap.size, #[.int .i64 0, .int .u8 kv, .int .u8 fv, .int .i64 sv], 23)]) := Lib.hid (K1.out.on hb); have B2 : Hid (Below w.heap.size w w2) := Lib.hid (below_step B1.out hb); clear hb K1 B1)
    | (go_at_call 6; (have hc := (wakes4 w2); (with_reducible refine hc.mono ?_); clear hc); rintro e w3 ⟨rfl, hb⟩; have K3 : Hid (EnvF w3 [] [(w.heap.size, #[.int .i64 0, .int .u8 kv, .int .u8 fv, .int .i64 sv], 23)]) := Lib.hid (K2.out.on hb); have B3 : Hid (Below w.heap.size w w3) := Lib.hid (below_step B2.out hb); clear hb K2 B2))
  go_ret
  exact ⟨rfl, B3.out⟩
set_option maxRecDepth 100000 in
set_option maxHeartbeats 4000000 in
theorem fo_neg (L kv fv sv nv : Int) (w : World) (h0 : headB 0 sv = true) (hn : decide (nv < 0) = true) :
    Calls Try.prog 3 #[.agg #[.int .i64 L, .int .u8 kv, .int .u8 fv, .int .i64 sv], .int .i64 nv] w fun e w' => e = .returned (.bool true) ∧ Below w.heap.size w w' := by
  have K0 : Hid (EnvF (w.alloc (.cells #[.int .i64 L, .int .u8 kv, .int .u8 fv, .int .i64 sv] 23)) [] [(w.heap.size, #[.int .i64 L, .int .u8 kv, .int .u8 fv, .int .i64 sv], 23)]) := Lib.hid ((EnvF.nil w).boxg 23 #[.int .i64 L, .int .u8 kv, .int .u8 fv, .int .i64 sv] (w.heap.size) (by simp))
  have B0 : Hid (Below w.heap.size w (w.alloc (.cells #[.int .i64 L, .int .u8 kv, .int .u8 fv, .int .i64 sv] 23))) := Lib.hid ((Below.refl _ w).alloc (by first | exact Nat.le_refl _ | (simp only [World.size_alloc]; omega)) (.cells #[.int .i64 L, .int .u8 kv, .int .u8 fv, .int .i64 sv] 23))
  have H0 := Lib.hid h0
  clear h0
  go_enter Try.func3, Try.ntmps3
  go_wp2_with (first
    | go_skip
    | (refine at_store 3 (.tmp 9) (.const (.int .i64 0)) (by rfl) ?_; refine wpList_put (by rfl) 3 (.tmp 9) (.const (.int .i64 0)) (by rfl) (w.heap.size) 0 (.int .i64 0) (by rfl) (by rfl) 23 #[.int .i64 L, .int .u8 kv, .int .u8 fv, .int .i64 sv] #[.int .i64 0, .int .u8 kv, .int .u8 fv, .int .i64 sv] (K0.out.row 0 rfl) (by simp [Value.cells]) (by kernel_rfl) info_i (by kernel_rfl) ?_; intro w1 hrow hoth hz hbl; have K1 : Hid (EnvF w1 [] [(w.heap.size, #[.int .i64 0, .int .u8 kv, .int .u8 fv, .int .i64 sv], 23)]) := Lib.hid (K0.out.turn 0 rfl hrow hoth hz); have B1 : Hid (Below w.heap.size w w1) := Lib.hid (hbl _ _ (Nat.le_refl _) B0.out); clear hrow hoth hz hbl K0 B0)
    | (refine at_load 23 (.tmp 2) (by rfl) ?_; refine wpList_load_row (by rfl) 23 (.tmp 2) (by rfl) (w.heap.size) (by rfl) 23 #[.int .i64 0, .int .u8 kv, .int .u8 fv, .int .i64 sv] (0, 0) _ (K1.out.row 0 rfl) Try.underlying23 (by rfl) info_H ?_)
    | (go_at_call 5; (have hc := ((H0.out ▸ rright_any 0 kv fv sv w1)); (with_reducible refine hc.mono ?_); clear hc); rintro e w2 ⟨rfl, hb⟩; have K2 : Hid (EnvF w2 [] [(w.heap.size, #[.int .i64 0, .int .u8 kv, .int .u8 fv, .int .i64 sv], 23)]) := Lib.hid (K1.out.on hb); have B2 : Hid (Below w.heap.size w w2) := Lib.hid (below_step B1.out hb); clear hb K1 B1)
    | (go_at_call 6; (have hc := (wakes4 w2); (with_reducible refine hc.mono ?_); clear hc); rintro e w3 ⟨rfl, hb⟩; have K3 : Hid (EnvF w3 [] [(w.heap.size, #[.int .i64 0, .int .u8 kv, .int .u8 fv, .int .i64 sv], 23)]) := Lib.hid (K2.out.on hb); have B3 : Hid (Below w.heap.size w w3) := Lib.hid (below_step B2.out hb); clear hb K2 B2))
  go_ret
  exact ⟨rfl, B3.out⟩
set_option maxRecDepth 100000 in
set_option maxHeartbeats 4000000 in
theorem fo_big (L kv fv sv nv : Int) (w : World) (h0 : headB 0 sv = true) (hn : decide (nv < 0) = false) (hm : decide (20000 < nv) = true) :
    Calls Try.prog 3 #[.agg #[.int .i64 L, .int .u8 kv, .int .u8 fv, .int .i64 sv], .int .i64 nv] w fun e w' => e = .returned (.bool true) ∧ Below w.heap.size w w' := by
  have K0 : Hid (EnvF (w.alloc (.cells #[.int .i64 L, .int .u8 kv, .int .u8 fv, .int .i64 sv] 23)) [] [(w.heap.size, #[.int .i64 L, .int .u8 kv, .int .u8 fv, .int .i64 sv], 23)]) := Lib.hid ((EnvF.nil w).boxg 23 #[.int .i64 L, .int .u8 kv, .int .u8 fv, .int .i64 sv] (w.heap.size) (by simp))
  have B0 : Hid (Below w.heap.size w (w.alloc (.cells #[.int .i64 L, .int .u8 kv, .int .u8 fv, .int .i64 sv] 23))) := Lib.hid ((Below.refl _ w).alloc (by first | exact Nat.le_refl _ | (simp only [World.size_alloc]; omega)) (.cells #[.int .i64 L, .int .u8 kv, .int .u8 fv, .int .i64 sv] 23))
  have H0 := Lib.hid h0
  clear h0
  go_enter Try.func3, Try.ntmps3
  go_wp2_with (first
    | go_skip
    | (refine at_store 3 (.tmp 9) (.const (.int .i64 0)) (by rfl) ?_; refine wpList_put (by rfl) 3 (.tmp 9) (.const (.int .i64 0)) (by rfl) (w.heap.size) 0 (.int .i64 0) (by rfl) (by rfl) 23 #[.int .i64 L, .int .u8 kv, .int .u8 fv, .int .i64 sv] #[.int .i64 0, .int .u8 kv, .int .u8 fv, .int .i64 sv] (K0.out.row 0 rfl) (by simp [Value.cells]) (by kernel_rfl) info_i (by kernel_rfl) ?_; intro w1 hrow hoth hz hbl; have K1 : Hid (EnvF w1 [] [(w.heap.size, #[.int .i64 0, .int .u8 kv, .int .u8 fv, .int .i64 sv], 23)]) := Lib.hid (K0.out.turn 0 rfl hrow hoth hz); have B1 : Hid (Below w.heap.size w w1) := Lib.hid (hbl _ _ (Nat.le_refl _) B0.out); clear hrow hoth hz hbl K0 B0)
    | (refine at_load 23 (.tmp 2) (by rfl) ?_; refine wpList_load_row (by rfl) 23 (.tmp 2) (by rfl) (w.heap.size) (by rfl) 23 #[.int .i64 0, .int .u8 kv, .int .u8 fv, .int .i64 sv] (0, 0) _ (K1.out.row 0 rfl) Try.underlying23 (by rfl) info_H ?_)
    | (go_at_call 5; (have hc := ((H0.out ▸ rright_any 0 kv fv sv w1)); (with_reducible refine hc.mono ?_); clear hc); rintro e w2 ⟨rfl, hb⟩; have K2 : Hid (EnvF w2 [] [(w.heap.size, #[.int .i64 0, .int .u8 kv, .int .u8 fv, .int .i64 sv], 23)]) := Lib.hid (K1.out.on hb); have B2 : Hid (Below w.heap.size w w2) := Lib.hid (below_step B1.out hb); clear hb K1 B1)
    | (go_at_call 6; (have hc := (wakes4 w2); (with_reducible refine hc.mono ?_); clear hc); rintro e w3 ⟨rfl, hb⟩; have K3 : Hid (EnvF w3 [] [(w.heap.size, #[.int .i64 0, .int .u8 kv, .int .u8 fv, .int .i64 sv], 23)]) := Lib.hid (K2.out.on hb); have B3 : Hid (Below w.heap.size w w3) := Lib.hid (below_step B2.out hb); clear hb K2 B2))
  go_ret
  exact ⟨rfl, B3.out⟩
theorem u8_ex {n : Int} (h : (Lit.int .u8 n).wf = true) : ∃ K : UInt8, n = (K.toNat : Int) := by
  have hb : 0 ≤ n ∧ n ≤ 255 := by simpa [Lit.wf, IntKind.min, IntKind.max, IntKind.signed, IntKind.bits] using h
  exact ⟨UInt8.ofNat n.toNat, by simp; omega⟩
theorem fo_any (L S nv : Int) (K F : UInt8) (w : World) :
    Calls Try.prog 3 #[.agg #[.int .i64 L, .int .u8 (K.toNat : Int), .int .u8 (F.toNat : Int), .int .i64 S], .int .i64 nv] w fun e w' => e = .returned (.bool true) ∧ Below w.heap.size w w' := by
  by_cases h0 : headB 0 S = true
  rotate_left
  · exact fo_bad L _ _ S nv w (by simpa using h0)
  by_cases hneg : nv < 0
  · exact fo_neg L _ _ S nv w h0 (decide_eq_true hneg)
  by_cases hbig : 20000 < nv
  · exact fo_big L _ _ S nv w h0 (decide_eq_false hneg) (decide_eq_true hbig)
  obtain ⟨n, rfl⟩ : ∃ n : Nat, nv = (n : Int) := ⟨nv.toNat, by omega⟩
  have hn : n ≤ 100000 := by omega
  have l1 : decide ((20000 : Int) < (n : Int)) = false := decide_eq_false hbig
  have l2 : decide (20000 < n) = false := decide_eq_false (by omega)
  have HS := parse_some K F S n hn
  have HP := fun (xb : Bool) (xs : Int) (xc : Nat) hx => parse_ord K F S n hn h0 (xb := xb) (xs := xs) (xc := xc) hx
  clear hneg hbig
  have hk0 : (0 : Int) ≤ (K.toNat : Int) := by omega
  have hkn : (K.toNat ≠ 0 ∧ K.toNat ≠ 1 ∧ K.toNat ≠ 2 ∧ K.toNat ≠ 3 ∧ K.toNat ≠ 4 ∧ K.toNat ≠ 5 ∧ K.toNat ≠ 6 ∧ K.toNat ≠ 7 ∧ K.toNat ≠ 8 ∧ K.toNat ≠ 9 ∧ K.toNat ≠ 16) → knownB (K.toNat : Int) = false := fun h => by unfold knownB; exact decide_eq_false (by omega)
  have hke : ∀ c : Nat, K.toNat ≠ c → ((K.toNat : Int) == (c : Int)) = false := fun c h => nat_beq_ne h
  rcases kinds_of K.toNat with e | e | e | e | e | e | e | e | e | e | e | e
  ·
    have ek : (K.toNat : Int) = 0 := by omega
    rw [ek]
    by_cases h1 : 16384 < n
    ·
      have hp := HP true (0 : Int) 6 (by unfold ordX farB; rw [e]; first | rfl | (simp [whole, fine, *]; done) | (simp [whole, fine, *]; omega))
      rw [ek] at hp
      exact fo_A0 L (F.toNat : Int) S n w h0 (Lib.hid wakes4) (Lib.hid hp) l1 l2 (decide_eq_true (by omega)) (decide_eq_true (by omega))
    by_cases hs : S = 0
    · subst hs
      have hp := HP true (0 : Int) 1 (by unfold ordX farB; rw [e]; first | rfl | (simp [whole, fine, *]; done) | (simp [whole, fine, *]; omega))
      rw [ek] at hp
      exact fo_B0 L (F.toNat : Int) n w h0 (Lib.hid wakes4) (Lib.hid hp) l1 l2 (decide_eq_false (by omega)) (decide_eq_false (by omega))
    obtain ⟨xb, xs, xc, hp⟩ := HS
    rw [ek] at hp
    exact fo_C0 L (F.toNat : Int) S n xb xs xc w (by simpa using hs) (by simpa using hs) h0 (Lib.hid wakes4) (Lib.hid hp) l1 l2 (decide_eq_false (by omega)) (decide_eq_false (by omega))
  ·
    have ek : (K.toNat : Int) = 1 := by omega
    rw [ek]
    by_cases h1 : 16384 < n
    ·
      have hp := HP true (0 : Int) 6 (by unfold ordX farB; rw [e]; first | rfl | (simp [whole, fine, *]; done) | (simp [whole, fine, *]; omega))
      rw [ek] at hp
      exact fo_A1 L (F.toNat : Int) S n w h0 (Lib.hid wakes4) (Lib.hid hp) l1 l2 (decide_eq_true (by omega)) (decide_eq_true (by omega))
    by_cases hs : S = 0
    · subst hs
      have hp := HP true (0 : Int) 1 (by unfold ordX farB; rw [e]; first | rfl | (simp [whole, fine, *]; done) | (simp [whole, fine, *]; omega))
      rw [ek] at hp
      exact fo_B1 L (F.toNat : Int) n w h0 (Lib.hid wakes4) (Lib.hid hp) l1 l2 (decide_eq_false (by omega)) (decide_eq_false (by omega))
    obtain ⟨xb, xs, xc, hp⟩ := HS
    rw [ek] at hp
    exact fo_C1 L (F.toNat : Int) S n xb xs xc w (by simpa using hs) (by simpa using hs) h0 (Lib.hid wakes4) (Lib.hid hp) l1 l2 (decide_eq_false (by omega)) (decide_eq_false (by omega))
  ·
    have ek : (K.toNat : Int) = 2 := by omega
    rw [ek]
    by_cases h1 : 16384 < n
    ·
      have hp := HP true (0 : Int) 6 (by unfold ordX farB; rw [e]; first | rfl | (simp [whole, fine, *]; done) | (simp [whole, fine, *]; omega))
      rw [ek] at hp
      exact fo_A2 L (F.toNat : Int) S n w h0 (Lib.hid wakes4) (Lib.hid hp) l1 l2 (decide_eq_true (by omega)) (decide_eq_true (by omega))
    by_cases hs : S = 0
    · subst hs
      have hp := HP true (0 : Int) 1 (by unfold ordX farB; rw [e]; first | rfl | (simp [whole, fine, *]; done) | (simp [whole, fine, *]; omega))
      rw [ek] at hp
      exact fo_B2 L (F.toNat : Int) n w h0 (Lib.hid wakes4) (Lib.hid hp) l1 l2 (decide_eq_false (by omega)) (decide_eq_false (by omega))
    by_cases hc : n = 5
    ·
      obtain ⟨xb, xs, xc, hp⟩ := HS
      rw [ek] at hp
      exact fo_D2 L (F.toNat : Int) S n xb xs xc w (by simpa using hs) (by simpa using hs) h0 (Lib.hid wakes4) (Lib.hid hp) l1 l2 (decide_eq_false (by omega)) (decide_eq_false (by omega)) (Lib.hid hc)
    have hp := HP false S 6 (by unfold ordX farB; rw [e]; first | rfl | (simp [whole, fine, *]; done) | (simp [whole, fine, *]; omega))
    rw [ek] at hp
    exact fo_C2 L (F.toNat : Int) S n w (by simpa using hs) (by simpa using hs) h0 (Lib.hid wakes4) (Lib.hid hp) l1 l2 (decide_eq_false (by omega)) (decide_eq_false (by omega)) (beq_eq_false_iff_ne.2 (by omega)) (bne_iff_ne.2 (by omega))
  ·
    have ek : (K.toNat : Int) = 3 := by omega
    rw [ek]
    by_cases h1 : 16384 < n
    ·
      have hp := HP true (0 : Int) 6 (by unfold ordX farB; rw [e]; first | rfl | (simp [whole, fine, *]; done) | (simp [whole, fine, *]; omega))
      rw [ek] at hp
      exact fo_A3 L (F.toNat : Int) S n w h0 (Lib.hid wakes4) (Lib.hid hp) l1 l2 (decide_eq_true (by omega)) (decide_eq_true (by omega))
    by_cases hs : S = 0
    · subst hs
      have hp := HP true (0 : Int) 1 (by unfold ordX farB; rw [e]; first | rfl | (simp [whole, fine, *]; done) | (simp [whole, fine, *]; omega))
      rw [ek] at hp
      exact fo_B3 L (F.toNat : Int) n w h0 (Lib.hid wakes4) (Lib.hid hp) l1 l2 (decide_eq_false (by omega)) (decide_eq_false (by omega))
    by_cases hc : n = 4
    ·
      have hp := HP false (0 : Int) 0 (by unfold ordX farB; rw [e]; first | rfl | (simp [whole, fine, *]; done) | (simp [whole, fine, *]; omega))
      rw [ek] at hp
      exact fo_D3 L (F.toNat : Int) S n w (by simpa using hs) (by simpa using hs) h0 (Lib.hid wakes4) (Lib.hid hp) l1 l2 (decide_eq_false (by omega)) (decide_eq_false (by omega)) (Lib.hid hc)
    have hp := HP true (0 : Int) 6 (by unfold ordX farB; rw [e]; first | rfl | (simp [whole, fine, *]; done) | (simp [whole, fine, *]; omega))
    rw [ek] at hp
    exact fo_C3 L (F.toNat : Int) S n w (by simpa using hs) (by simpa using hs) h0 (Lib.hid wakes4) (Lib.hid hp) l1 l2 (decide_eq_false (by omega)) (decide_eq_false (by omega)) (beq_eq_false_iff_ne.2 (by omega)) (bne_iff_ne.2 (by omega))
  ·
    have ek : (K.toNat : Int) = 4 := by omega
    rw [ek]
    by_cases h1 : 16384 < n
    ·
      have hp := HP true (0 : Int) 6 (by unfold ordX farB; rw [e]; first | rfl | (simp [whole, fine, *]; done) | (simp [whole, fine, *]; omega))
      rw [ek] at hp
      exact fo_A4 L (F.toNat : Int) S n w h0 (Lib.hid wakes4) (Lib.hid hp) l1 l2 (decide_eq_true (by omega)) (decide_eq_true (by omega))
    by_cases hs : S = 0
    rotate_left
    ·
      have hp := HP true (0 : Int) 1 (by unfold ordX farB; rw [e]; first | rfl | (simp [whole, fine, *]; done) | (simp [whole, fine, *]; omega))
      rw [ek] at hp
      exact fo_B4 L (F.toNat : Int) S n w (by simpa using hs) (by simpa using hs) h0 (Lib.hid wakes4) (Lib.hid hp) l1 l2 (decide_eq_false (by omega)) (decide_eq_false (by omega))
    subst hs
    obtain ⟨xb, xs, xc, hp⟩ := HS
    rw [ek] at hp
    exact fo_C4 L (F.toNat : Int) n xb xs xc w h0 (Lib.hid wakes4) (Lib.hid hp) l1 l2 (decide_eq_false (by omega)) (decide_eq_false (by omega))
  ·
    have ek : (K.toNat : Int) = 5 := by omega
    rw [ek]
    by_cases h1 : 16384 < n
    ·
      have hp := HP true (0 : Int) 6 (by unfold ordX farB; rw [e]; first | rfl | (simp [whole, fine, *]; done) | (simp [whole, fine, *]; omega))
      rw [ek] at hp
      exact fo_A5 L (F.toNat : Int) S n w h0 (Lib.hid wakes4) (Lib.hid hp) l1 l2 (decide_eq_true (by omega)) (decide_eq_true (by omega))
    have hp := HP true (0 : Int) 1 (by unfold ordX farB; rw [e]; first | rfl | (simp [whole, fine, *]; done) | (simp [whole, fine, *]; omega))
    rw [ek] at hp
    exact fo_B5 L (F.toNat : Int) S n w h0 (Lib.hid wakes4) (Lib.hid hp) l1 l2 (decide_eq_false (by omega)) (decide_eq_false (by omega))
  ·
    have ek : (K.toNat : Int) = 6 := by omega
    rw [ek]
    by_cases h1 : 16384 < n
    ·
      have hp := HP true (0 : Int) 6 (by unfold ordX farB; rw [e]; first | rfl | (simp [whole, fine, *]; done) | (simp [whole, fine, *]; omega))
      rw [ek] at hp
      exact fo_A6 L (F.toNat : Int) S n w h0 (Lib.hid wakes4) (Lib.hid hp) l1 l2 (decide_eq_true (by omega)) (decide_eq_true (by omega))
    by_cases hs : S = 0
    rotate_left
    ·
      have hp := HP true (0 : Int) 1 (by unfold ordX farB; rw [e]; first | rfl | (simp [whole, fine, *]; done) | (simp [whole, fine, *]; omega))
      rw [ek] at hp
      exact fo_B6 L (F.toNat : Int) S n w (by simpa using hs) (by simpa using hs) h0 (Lib.hid wakes4) (Lib.hid hp) l1 l2 (decide_eq_false (by omega)) (decide_eq_false (by omega))
    subst hs
    by_cases hc : n = 8
    ·
      have hp := HP false (0 : Int) 0 (by unfold ordX farB; rw [e]; first | rfl | (simp [whole, fine, *]; done) | (simp [whole, fine, *]; omega))
      rw [ek] at hp
      exact fo_D6 L (F.toNat : Int) n w h0 (Lib.hid wakes4) (Lib.hid hp) l1 l2 (decide_eq_false (by omega)) (decide_eq_false (by omega)) (Lib.hid hc)
    have hp := HP true (0 : Int) 6 (by unfold ordX farB; rw [e]; first | rfl | (simp [whole, fine, *]; done) | (simp [whole, fine, *]; omega))
    rw [ek] at hp
    exact fo_C6 L (F.toNat : Int) n w h0 (Lib.hid wakes4) (Lib.hid hp) l1 l2 (decide_eq_false (by omega)) (decide_eq_false (by omega)) (beq_eq_false_iff_ne.2 (by omega)) (bne_iff_ne.2 (by omega))
  ·
    have ek : (K.toNat : Int) = 7 := by omega
    rw [ek]
    by_cases h1 : 16384 < n
    ·
      have hp := HP true (0 : Int) 6 (by unfold ordX farB; rw [e]; first | rfl | (simp [whole, fine, *]; done) | (simp [whole, fine, *]; omega))
      rw [ek] at hp
      exact fo_A7 L (F.toNat : Int) S n w h0 (Lib.hid wakes4) (Lib.hid hp) l1 l2 (decide_eq_true (by omega)) (decide_eq_true (by omega))
    by_cases hs : S = 0
    rotate_left
    ·
      have hp := HP true (0 : Int) 1 (by unfold ordX farB; rw [e]; first | rfl | (simp [whole, fine, *]; done) | (simp [whole, fine, *]; omega))
      rw [ek] at hp
      exact fo_B7 L (F.toNat : Int) S n w (by simpa using hs) (by simpa using hs) h0 (Lib.hid wakes4) (Lib.hid hp) l1 l2 (decide_eq_false (by omega)) (decide_eq_false (by omega))
    subst hs
    by_cases hc : ¬ n < 8
    ·
      obtain ⟨xb, xs, xc, hp⟩ := HS
      rw [ek] at hp
      exact fo_D7 L (F.toNat : Int) n xb xs xc w h0 (Lib.hid wakes4) (Lib.hid hp) l1 l2 (decide_eq_false (by omega)) (decide_eq_false (by omega)) (decide_eq_false (by omega)) (decide_eq_false (by omega))
    have hp := HP true (0 : Int) 6 (by unfold ordX farB; rw [e]; first | rfl | (simp [whole, fine, *]; done) | (simp [whole, fine, *]; omega))
    rw [ek] at hp
    exact fo_C7 L (F.toNat : Int) n w h0 (Lib.hid wakes4) (Lib.hid hp) l1 l2 (decide_eq_false (by omega)) (decide_eq_false (by omega)) (decide_eq_true (by omega)) (decide_eq_true (by omega))
  ·
    have ek : (K.toNat : Int) = 8 := by omega
    rw [ek]
    by_cases h1 : 16384 < n
    ·
      have hp := HP true (0 : Int) 6 (by unfold ordX farB; rw [e]; first | rfl | (simp [whole, fine, *]; done) | (simp [whole, fine, *]; omega))
      rw [ek] at hp
      exact fo_A8 L (F.toNat : Int) S n w h0 (Lib.hid wakes4) (Lib.hid hp) l1 l2 (decide_eq_true (by omega)) (decide_eq_true (by omega))
    by_cases hc : n = 4
    ·
      obtain ⟨xb, xs, xc, hp⟩ := HS
      rw [ek] at hp
      exact fo_D8 L (F.toNat : Int) S n xb xs xc w h0 (Lib.hid wakes4) (Lib.hid hp) l1 l2 (decide_eq_false (by omega)) (decide_eq_false (by omega)) (Lib.hid hc)
    have hp := HP true (0 : Int) 6 (by unfold ordX farB; rw [e]; first | rfl | (simp [whole, fine, *]; done) | (simp [whole, fine, *]; omega))
    rw [ek] at hp
    exact fo_C8 L (F.toNat : Int) S n w h0 (Lib.hid wakes4) (Lib.hid hp) l1 l2 (decide_eq_false (by omega)) (decide_eq_false (by omega)) (beq_eq_false_iff_ne.2 (by omega)) (bne_iff_ne.2 (by omega))
  ·
    have ek : (K.toNat : Int) = 9 := by omega
    rw [ek]
    by_cases h1 : 16384 < n
    ·
      have hp := HP true (0 : Int) 6 (by unfold ordX farB; rw [e]; first | rfl | (simp [whole, fine, *]; done) | (simp [whole, fine, *]; omega))
      rw [ek] at hp
      exact fo_A9 L (F.toNat : Int) S n w h0 (Lib.hid wakes4) (Lib.hid hp) l1 l2 (decide_eq_true (by omega)) (decide_eq_true (by omega))
    by_cases hs : S = 0
    · subst hs
      have hp := HP true (0 : Int) 1 (by unfold ordX farB; rw [e]; first | rfl | (simp [whole, fine, *]; done) | (simp [whole, fine, *]; omega))
      rw [ek] at hp
      exact fo_B9 L (F.toNat : Int) n w h0 (Lib.hid wakes4) (Lib.hid hp) l1 l2 (decide_eq_false (by omega)) (decide_eq_false (by omega))
    have hp := HP false (0 : Int) 0 (by unfold ordX farB; rw [e]; first | rfl | (simp [whole, fine, *]; done) | (simp [whole, fine, *]; omega))
    rw [ek] at hp
    exact fo_C9 L (F.toNat : Int) S n w (by simpa using hs) (by simpa using hs) h0 (Lib.hid wakes4) (Lib.hid hp) l1 l2 (decide_eq_false (by omega)) (decide_eq_false (by omega))
  ·
    have ek : (K.toNat : Int) = 16 := by omega
    rw [ek]
    by_cases h1 : 16384 < n
    ·
      have hp := HP true (0 : Int) 6 (by unfold ordX farB; rw [e]; first | rfl | (simp [whole, fine, *]; done) | (simp [whole, fine, *]; omega))
      rw [ek] at hp
      exact fo_A16 L (F.toNat : Int) S n w h0 (Lib.hid wakes4) (Lib.hid hp) l1 l2 (decide_eq_true (by omega)) (decide_eq_true (by omega))
    by_cases hs : S = 0
    rotate_left
    ·
      have hp := HP true (0 : Int) 1 (by unfold ordX farB; rw [e]; first | rfl | (simp [whole, fine, *]; done) | (simp [whole, fine, *]; omega))
      rw [ek] at hp
      exact fo_B16 L (F.toNat : Int) S n w (by simpa using hs) (by simpa using hs) h0 (Lib.hid wakes4) (Lib.hid hp) l1 l2 (decide_eq_false (by omega)) (decide_eq_false (by omega))
    subst hs
    by_cases hc : ¬ 4 ≤ n
    ·
      obtain ⟨xb, xs, xc, hp⟩ := HS
      rw [ek] at hp
      exact fo_D16 L (F.toNat : Int) n xb xs xc w h0 (Lib.hid wakes4) (Lib.hid hp) l1 l2 (decide_eq_false (by omega)) (decide_eq_false (by omega)) (decide_eq_false (by omega)) (decide_eq_false (by omega))
    have hp := HP true (0 : Int) 1 (by unfold ordX farB; rw [e]; first | rfl | (simp [whole, fine, *]; done) | (simp [whole, fine, *]; omega))
    rw [ek] at hp
    exact fo_C16 L (F.toNat : Int) n w h0 (Lib.hid wakes4) (Lib.hid hp) l1 l2 (decide_eq_false (by omega)) (decide_eq_false (by omega)) (decide_eq_true (by omega)) (decide_eq_true (by omega))
  ·
    by_cases h1 : 16384 < n
    ·
      have hp := HP true (0 : Int) 6 (by unfold ordX farB; first | rfl | (simp [whole, fine, *]; done) | (simp [whole, fine, *]; omega))
      exact fo_Ao L (K.toNat : Int) (F.toNat : Int) S n w (hke 0 (by omega)) (hke 1 (by omega)) (hke 2 (by omega)) (hke 3 (by omega)) (hke 4 (by omega)) (hke 5 (by omega)) (hke 6 (by omega)) (hke 7 (by omega)) (hke 8 (by omega)) (hke 9 (by omega)) (hke 16 (by omega)) hk0 (hkn e) h0 (Lib.hid wakes4) (Lib.hid hp) l1 l2 (decide_eq_true (by omega)) (decide_eq_true (by omega))
    have hp := HP false (0 : Int) 0 (by unfold ordX farB; first | rfl | (simp [whole, fine, *]; done) | (simp [whole, fine, *]; omega))
    exact fo_Co L (K.toNat : Int) (F.toNat : Int) S n w (hke 0 (by omega)) (hke 1 (by omega)) (hke 2 (by omega)) (hke 3 (by omega)) (hke 4 (by omega)) (hke 5 (by omega)) (hke 6 (by omega)) (hke 7 (by omega)) (hke 8 (by omega)) (hke 9 (by omega)) (hke 16 (by omega)) hk0 (hkn e) h0 (Lib.hid wakes4) (Lib.hid hp) l1 l2 (decide_eq_false (by omega)) (decide_eq_false (by omega))
end Go.Proofs.Ytmbjmpijilmbkaa
