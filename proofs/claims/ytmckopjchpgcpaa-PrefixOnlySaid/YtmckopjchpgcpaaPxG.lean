/- Package prefix: Take, where bytes stand behind the first one. -/
import Derived.Test.YtmckopjchpgcpaaPxF
import Derived.BigRegionIn
namespace Go.Proofs.Ytmckopjchpgcpaa
open Go.RowKit Px Go.Shelf
set_option linter.unusedVariables false
set_option linter.unusedSimpArgs false
attribute [local go_sem] Oper.semAt_some
namespace Px
/-- What holds between two rounds of Take. -/
structure TakeI (w : World) (M : Nat) (pre : List (UInt8 × Nat)) (W : World) : Prop where
  acc : ∃ a, contP M pre = some a ∧ W.heap[w.heap.size]? = some (.cells #[.int .i64 (a : Int)] 3)
  err : W.heap[w.heap.size + 1]? = some (.cells #[.int .i64 0] 24)
  used : W.heap[w.heap.size + 1 + 1]? = some (.cells #[.int .i64 ((pre.length : Int) + 1)] 3)
  below : Below w.heap.size w W
/-- .. and where it is left. -/
structure TakeX (w : World) (M : Nat) (c : Code) (pre : List (UInt8 × Nat)) (W : World) : Prop where
  how : ∃ pre' x a, pre = pre' ++ [x] ∧ contP M pre' = some a ∧
    ((c = .goto 0 ∧ (x.2 < 35 → 2147483648 ≤ a + x.1.toNat % 128 * 2 ^ x.2) ∧ (∃ v : Int, W.heap[w.heap.size]? = some (.cells #[.int .i64 v] 3)) ∧ W.heap[w.heap.size + 1]? = some (.cells #[.int .i64 60] 24)) ∨
     (c = .goto 1 ∧ x.2 < 35 ∧ a + x.1.toNat % 128 * 2 ^ x.2 < 2147483648 ∧ x.1.toNat < 128 ∧ W.heap[w.heap.size]? = some (.cells #[.int .i64 ((a + x.1.toNat % 128 * 2 ^ x.2 : Nat) : Int)] 3) ∧ W.heap[w.heap.size + 1]? = some (.cells #[.int .i64 0] 24) ∧ W.heap[w.heap.size + 1 + 1]? = some (.cells #[.int .i64 ((pre.length : Int) + 1)] 3)))
  below : Below w.heap.size w W
theorem andNot128F : ∀ z : Fin 256, bits .andNot .u8 (z.val : Int) 128 = ((z.val % 128 : Nat) : Int) := by decide +kernel
theorem take_val (a y s : Nat) (ha : a < 2147483648) (hy : y < 256) (hs : s < 35) : IntKind.i64.wrap ((a : Int) + IntKind.i64.wrap (IntKind.i64.wrap (bits .andNot .u8 (y : Int) 128) * 2 ^ min s 64)) = ((a + y % 128 * 2 ^ s : Nat) : Int) := by
  have h1 := andNot128F ⟨y, hy⟩
  simp only at h1
  have hp : 2 ^ s ≤ 2 ^ 34 := Nat.pow_le_pow_right (by decide) (by omega)
  have hm : y % 128 * 2 ^ s ≤ 127 * 2 ^ 34 := Nat.mul_le_mul (by omega) hp
  have e34 : 127 * 2 ^ 34 = 2181843386368 := by decide
  rw [h1, show min s 64 = s by omega, IntWalk.i64_in ((y % 128 : Nat) : Int) (by omega)]
  have e1 : ((y % 128 : Nat) : Int) * 2 ^ s = ((y % 128 * 2 ^ s : Nat) : Int) := by rw [Int.natCast_mul, Int.natCast_pow]; rfl
  rw [e1]
  generalize y % 128 * 2 ^ s = q at *
  rw [IntWalk.i64_in (q : Int) (by omega), IntWalk.i64_in ((a : Int) + (q : Int)) (by omega)]
  omega
theorem and128F : ∀ z : Fin 256, bits .and .u8 (z.val : Int) 128 = if z.val < 128 then 0 else 128 := by decide +kernel
theorem and128_lo {y : Nat} (h : y < 128) : bits .and .u8 (y : Int) 128 = 0 := by
  have := and128F ⟨y, by omega⟩
  simp only at this
  rw [this, if_pos h]
theorem and128_hi {y : Nat} (h : 128 ≤ y) (h2 : y < 256) : bits .and .u8 (y : Int) 128 = 128 := by
  have := and128F ⟨y, by omega⟩
  simp only at this
  rw [this, if_neg (by omega)]
theorem takeI_own {w : World} {M B : Nat} (hB : w.heap.size ≤ B) : OwnFrom B (TakeI w M) := by
  intro s W W' row hs hg hr
  have hr' : ∀ k, row = some k → ∃ o : Obj, W.heap[k]? = some o ∧ o.isCells = false := fun k e => (hr k e).2
  obtain ⟨⟨a, h1, h2⟩, h3, h4, h5⟩ := hs
  exact ⟨⟨a, h1, heap_kept hg hr' h2⟩, heap_kept hg hr' h3, heap_kept hg hr' h4, h5.grown hg h5.size (fun k e => Nat.le_trans hB (hr k e).1)⟩
theorem takeX_own {w : World} {M B : Nat} (c : Code) (hB : w.heap.size ≤ B) : OwnFrom B (TakeX w M c) := by
  intro s W W' row hs hg hr
  have hr' : ∀ k, row = some k → ∃ o : Obj, W.heap[k]? = some o ∧ o.isCells = false := fun k e => (hr k e).2
  obtain ⟨⟨pre', x, a, h1, h2, h3⟩, h5⟩ := hs
  refine ⟨⟨pre', x, a, h1, h2, ?_⟩, h5.grown hg h5.size (fun k e => Nat.le_trans hB (hr k e).1)⟩
  rcases h3 with ⟨q1, q2, ⟨v, q3⟩, q4⟩ | ⟨q1, q2, q3, q4, q5, q6, q7⟩
  · exact .inl ⟨q1, q2, ⟨v, heap_kept hg hr' q3⟩, heap_kept hg hr' q4⟩
  · exact .inr ⟨q1, q2, q3, q4, heap_kept hg hr' q5, heap_kept hg hr' q6, heap_kept hg hr' q7⟩
/-- Two boxes turned and a draw: what lies there behind the loop's end. -/
theorem take_end {w W : World} {D : Nat} {u0 v0 : Value} {u v : Value} (hD : w.heap.size + 4 ≤ D) (hK : W.heap[D]? = some (.deferred (some []))) (q0 : W.heap[w.heap.size]? = some (.cells #[u0] 3)) (q1 : W.heap[w.heap.size + 1]? = some (.cells #[v0] 24)) (hb : Below w.heap.size w W) :
    let W' := ((W.setCell ⟨w.heap.size, 0, none⟩ u).setCell ⟨w.heap.size + 1, 0, none⟩ v).drew
    W'.heap[D]? = some (.deferred (some [])) ∧ (W'.putObj D (.deferred none)).heap[w.heap.size]? = some (.cells #[u] 3) ∧ (W'.putObj D (.deferred none)).heap[w.heap.size + 1]? = some (.cells #[v] 24) ∧ Below w.heap.size w (W'.putObj D (.deferred none)) := by
  have h2 := two_set q0 q1 (by omega) u v
  have hK' : (((W.setCell ⟨w.heap.size, 0, none⟩ u).setCell ⟨w.heap.size + 1, 0, none⟩ v).drew).heap[D]? = some (.deferred (some [])) := (h2.2.2.1 D (by omega) (by omega)).trans hK
  have hb2 : Below w.heap.size w ((W.setCell ⟨w.heap.size, 0, none⟩ u).setCell ⟨w.heap.size + 1, 0, none⟩ v).drew := ((hb.setCell (p := ⟨w.heap.size, 0, none⟩) (Nat.le_refl _) _).setCell (p := ⟨w.heap.size + 1, 0, none⟩) (Nat.le_succ _) _).drew
  exact ⟨hK', (World.putObj_heap_other (by omega)).trans h2.1, (World.putObj_heap_other (by omega)).trans h2.2.1, hb2.trans (belowK_b (w := w) (Nat.le_refl _) _ D _ _ (by omega) hK' rfl rfl)⟩
theorem keepsFrom_of {B : Nat} {W W' : World} (hz : W'.heap.size = W.heap.size) (h : ∀ k, B ≤ k → W'.heap[k]? = W.heap[k]?) : KeepsFrom B W W' :=
  ⟨by rw [hz]; exact Nat.le_refl _, fun k o hB hk _ => (h k hB).trans hk⟩
section
variable {w W W2 : World} {M a R : Nat} {pre : List (UInt8 × Nat)} {z : UInt8 × Nat} {V : Int} {act : Act} (hR : w.heap.size + 3 ≤ R)
  (hacc : contP M pre = some a) (hkeep : ∀ k, k ≠ w.heap.size → k ≠ w.heap.size + 1 + 1 → W2.heap[k]? = W.heap[k]?) (hwz : W2.heap.size = W.heap.size)
  (hr0 : W2.heap[w.heap.size]? = some (.cells #[.int .i64 V] 3)) (hr1 : W2.heap[w.heap.size + 1]? = some (.cells #[.int .i64 0] 24)) (hr2 : W2.heap[w.heap.size + 1 + 1]? = some (.cells #[.int .i64 ((pre.length : Int) + 1 + 1)] 3)) (hb : Below w.heap.size w W2)
include hR hacc hkeep hwz hr0 hr1 hr2 hb
theorem take_go (hs : z.2 < 35) (hv : V = ((a + z.1.toNat % 128 * 2 ^ z.2 : Nat) : Int)) (h2 : a + z.1.toNat % 128 * 2 ^ z.2 < 2147483648) (h3 : 128 ≤ z.1.toNat) :
    ownPostG R (KeepC fun j => j < w.heap.size ∨ j = w.heap.size + 1 + 1 + 1) (TakeI w M) (TakeX w M) (pre ++ [z]) W Exit.normal act W2 := by
  refine ⟨keepsFrom_of hwz fun k hk => hkeep k (by omega) (by omega), fun j o hp hj _ => (hkeep j (by omega) (by omega)).trans hj, ⟨⟨_, contP_go hacc hs h2 h3, by rw [← hv]; exact hr0⟩, hr1, ?_, hb⟩⟩
  rw [List.length_append, List.length_singleton, Int.natCast_add]
  exact hr2
theorem take_last (hs : z.2 < 35) (hv : V = ((a + z.1.toNat % 128 * 2 ^ z.2 : Nat) : Int)) (h2 : a + z.1.toNat % 128 * 2 ^ z.2 < 2147483648) (h3 : z.1.toNat < 128) :
    ownPostG R (KeepC fun j => j < w.heap.size ∨ j = w.heap.size + 1 + 1 + 1) (TakeI w M) (TakeX w M) (pre ++ [z]) W (Exit.goto 1) act W2 := by
  refine ⟨keepsFrom_of hwz fun k hk => hkeep k (by omega) (by omega), ⟨⟨pre, z, a, rfl, hacc, .inr ⟨rfl, hs, h2, h3, by rw [← hv]; exact hr0, hr1, ?_⟩⟩, hb⟩⟩
  rw [List.length_append, List.length_singleton, Int.natCast_add]
  exact hr2
omit hr2 in
theorem take_long (hs : z.2 < 35 → 2147483648 ≤ a + z.1.toNat % 128 * 2 ^ z.2) :
    ownPostG R (KeepC fun j => j < w.heap.size ∨ j = w.heap.size + 1 + 1 + 1) (TakeI w M) (TakeX w M) (pre ++ [z]) W (Exit.goto 0) act (W2.setCell ⟨w.heap.size + 1, 0, none⟩ (.int .i64 60)) := by
  have h1 := one_set hr1 (.int .i64 60)
  refine ⟨keepsFrom_of (by simp [World.setCell, hwz]) fun k hk => (h1.2 k (by omega)).trans (hkeep k (by omega) (by omega)), ⟨⟨pre, z, a, rfl, hacc, .inl ⟨rfl, hs, ⟨V, (h1.2 _ (by omega)).trans hr0⟩, h1.1⟩⟩, hb.setCell (p := ⟨w.heap.size + 1, 0, none⟩) (Nat.le_succ _) _⟩⟩
end
end Px
theorem wpIn_at {F : Fence} {n : Nat} {P : Program} {c : Code} {K : Act → World → Prop} {Q : Exit → Act → World → Prop} {a : Act} {w : World} (A : Act) (W : World) (h : c.wpIn F n P (Exit.then (fun a w => a = A ∧ w = W) fun _ _ _ => False) a w) (k : K A W) : c.wpIn F n P (Exit.then K Q) a w :=
  wpIn_mono h (fun e a w h => by
    cases e with
    | normal => obtain ⟨rfl, rfl⟩ := h; exact k
    | _ => exact h.elim)
set_option maxRecDepth 100000 in
set_option maxHeartbeats 1000000 in
theorem x_take_more (A : Option Addr) (n c k : Nat) (x : UInt8) (ys : List UInt8) (w : World) (hA : Bs w w.heap.size A n (x :: ys)) (hnc : n ≤ c) (hn : n ≤ 1000000) (h1 : 1 ≤ k) (h8 : k ≤ 8) (hlt : x.toNat % 2 ^ k = mx k) :
    Calls Try.prog 10 #[.slice A n c, .int .i64 (k : Int)] w fun e w' => ∃ A' c', e = .returned (.tuple #[.int .i64 ((scan (mx k) 0 ys).2.1 : Nat), .slice A' (if (scan (mx k) 0 ys).1 = 0 then n - 1 - (scan (mx k) 0 ys).2.2 else 0) c', .int .i64 ((scan (mx k) 0 ys).1 : Nat)]) ∧ HandS w' w.heap.size A' (if (scan (mx k) 0 ys).1 = 0 then n - 1 - (scan (mx k) 0 ys).2.2 else 0) c' (if (scan (mx k) 0 ys).1 = 0 then ys.drop (scan (mx k) 0 ys).2.2 else []) ∧ Below w.heap.size w w' := by
  have hl := hA.1
  rw [List.length_cons] at hl
  have hn1 : n ≠ 0 := by omega
  obtain ⟨b, o, rfl, hb, hcc⟩ := bs_cell hA (by omega)
  obtain ⟨x', hx', c0⟩ := hcc 0 (by omega)
  simp only [List.getElem?_cons_zero, Option.some.injEq] at hx'
  subst hx'
  rw [Nat.add_zero] at c0
  have han := and_first x.toNat k x.toNat_lt h8
  have hm8 := mx_le h8
  have hm0 := mx_succ k
  have hN0 := Nat.mod_lt x.toNat (Nat.two_pow_pos k)
  have HF : Hid (∀ w, Calls Try.prog 19 #[.int .i64 (k : Int)] w fun e w' => e = .returned (.int .u8 (mx k : Int)) ∧ w = w') := Lib.hid (fun w => x_full k w h1 h8)
  rw [hlt] at han hN0
  have hM1 := mx_pos h1
  clear hlt
  generalize mx k = M at *
  have HAN := Lib.hid han
  have HA := Lib.hid hA
  have hwm : IntKind.i64.wrap (M : Int) = (M : Int) := IntWalk.i64_in _ (by omega)
  have HWM := Lib.hid hwm
  have d1 : decide ((M : Int) < (M : Int)) = false := decide_eq_false (by omega)
  have D1 := Lib.hid d1
  have H3 := Lib.hid (three w (.int .i64 (M : Int)) (.int .i64 0) (.int .i64 1) 3 24 3)
  have H0 := Lib.hid (three w (.int .i64 0) (.int .i64 0) (.int .i64 1) 3 24 3)
  have c1 : (((w.alloc (.cells #[.int .i64 (0 : Int)] 3)).alloc (.cells #[.int .i64 0] 24)).alloc (.cells #[.int .i64 1] 3)).cell? ⟨b, o, none⟩ = some (.int .u8 (x.toNat : Int)) := (H0.out.2.2.2.2.cell (p := ⟨b, o, none⟩) hb).trans c0
  clear hA hcc han hwm hm0 hN0
  refine (callsIn_wide (n := 6)).1 (callsIn_of_wp_marks Try.func10 rfl trivial ?_ rfl)
  refine wpIn_wide.2 ?_
  simp only [Try.ntmps10, List.size_toArray, List.length_cons, List.length_nil, Nat.reduceAdd, Nat.reduceSub, Array.replicate_succ, Array.replicate_zero, List.push_toArray, List.append_toArray, List.nil_append, List.cons_append]
  go_wp2
  refine wp_scope_forward2 0 1 rfl rfl ?_
  go_wp2_with (go_at_call 22; (with_reducible refine (x_begun_yes _ n c (k : Int) _ ⟨by omega, by omega⟩).mono ?_); rintro e w' ⟨rfl, rfl⟩; rw [if_neg hn1])
  refine wp_at { tmps := #[(.slice (some ⟨b, o, none⟩) n c), (.int .i64 (k : Int)), undef, undef, .pointer (some ⟨w.heap.size, 0, none⟩), .slice none 0 0, .pointer (some ⟨w.heap.size + 1, 0, none⟩), .pointer (some ⟨w.heap.size + 1 + 1, 0, none⟩), undef, undef, (.slice (some ⟨b, o, none⟩) n c), (.int .i64 (k : Int)), .int .i64 0, .int .i64 0, .bool false, (.slice (some ⟨b, o, none⟩) n c), .pointer (some ⟨b, o, none⟩), (.int .u8 (x.toNat : Int)), (.int .i64 (k : Int)), (.int .u8 (M : Int)), (.int .u8 (M : Int)), (.int .i64 (M : Int)), undef, undef, undef, undef, undef, undef, undef, undef, undef, undef, undef, undef, undef, undef, undef, undef, undef, undef, undef, undef, undef, undef, undef, undef, undef, undef, undef, undef, undef, undef, undef, undef, undef], defers := [] } (((w.alloc (.cells #[.int .i64 (M : Int)] 3)).alloc (.cells #[.int .i64 0] 24)).alloc (.cells #[.int .i64 1] 3)).drew ?_ ?_
  · go_region_with (go_at_call 19; (with_reducible refine (HF.out _).mono ?_); rintro e w' ⟨rfl, rfl⟩)
    all_goals
      rw [HAN.out, HWM.out]
      exact ⟨rfl, rfl⟩
  clear c1
  go_wp2
  refine wp_at { tmps := #[(.slice (some ⟨b, o, none⟩) n c), (.int .i64 (k : Int)), undef, undef, .pointer (some ⟨w.heap.size, 0, none⟩), .slice none 0 0, .pointer (some ⟨w.heap.size + 1, 0, none⟩), .pointer (some ⟨w.heap.size + 1 + 1, 0, none⟩), undef, undef, (.slice (some ⟨b, o, none⟩) n c), (.int .i64 (k : Int)), .int .i64 0, .int .i64 0, .bool false, (.slice (some ⟨b, o, none⟩) n c), .pointer (some ⟨b, o, none⟩), (.int .u8 (x.toNat : Int)), (.int .i64 (k : Int)), (.int .u8 (M : Int)), (.int .u8 (M : Int)), (.int .i64 (M : Int)), (.int .i64 (M : Int)), (.int .i64 (k : Int)), (.int .u8 (M : Int)), (.int .i64 (M : Int)), .bool false, undef, undef, undef, undef, undef, undef, undef, undef, undef, undef, undef, undef, undef, undef, undef, undef, undef, undef, undef, undef, undef, undef, undef, undef, undef, undef, undef, undef], defers := [] } (((w.alloc (.cells #[.int .i64 (M : Int)] 3)).alloc (.cells #[.int .i64 0] 24)).alloc (.cells #[.int .i64 1] 3)).drew.drew ?_ ?_
  · go_region_with (go_at_call 19; (with_reducible refine (HF.out _).mono ?_); rintro e w' ⟨rfl, rfl⟩)
    all_goals
      (try rw [HWM.out])
      simp only [D1.out]
      exact ⟨rfl, rfl⟩
  go_wp2_with (go_at_call 23; refine (x_tail _ _ _ _).mono ?_; rintro e w' ⟨rfl, rfl⟩)
  have hWR : ∀ W0, W0 = (((((w.alloc (.cells #[.int .i64 (M : Int)] 3)).alloc (.cells #[.int .i64 0] 24)).alloc (.cells #[.int .i64 1] 3)).alloc (.cells #[(.slice (some ⟨b, o, none⟩) n c)] 22)).drew.drew) → W0.heap[w.heap.size]? = some (.cells #[.int .i64 (M : Int)] 3) ∧ W0.heap[w.heap.size + 1]? = some (.cells #[.int .i64 0] 24) ∧ W0.heap[w.heap.size + 1 + 1]? = some (.cells #[.int .i64 1] 3) ∧
      W0.cell? ⟨w.heap.size + 1 + 1 + 1, 0, none⟩ = some (.slice (some ⟨b, o, none⟩) n c) ∧ W0.heap.size = w.heap.size + 4 ∧ Below w.heap.size w W0 := by
    rintro W0 rfl
    have q := H3.out
    have hz : ((((w.alloc (.cells #[.int .i64 (M : Int)] 3)).alloc (.cells #[.int .i64 0] 24)).alloc (.cells #[.int .i64 1] 3))).heap.size = w.heap.size + 3 := q.2.2.2.1
    have hlt : ∀ j, j < w.heap.size + 3 → ((((((w.alloc (.cells #[.int .i64 (M : Int)] 3)).alloc (.cells #[.int .i64 0] 24)).alloc (.cells #[.int .i64 1] 3)).alloc (.cells #[(.slice (some ⟨b, o, none⟩) n c)] 22)).drew.drew)).heap[j]? = ((((w.alloc (.cells #[.int .i64 (M : Int)] 3)).alloc (.cells #[.int .i64 0] 24)).alloc (.cells #[.int .i64 1] 3))).heap[j]? := fun j hj => Below.heap_alloc ((((w.alloc (.cells #[.int .i64 (M : Int)] 3)).alloc (.cells #[.int .i64 0] 24)).alloc (.cells #[.int .i64 1] 3))) _ _ (by omega)
    refine ⟨(hlt _ (by omega)).trans q.1, (hlt _ (by omega)).trans q.2.1, (hlt _ (by omega)).trans q.2.2.1, ?_, by simp, ?_⟩
    · have h := World.alloc_heap_new ((((w.alloc (.cells #[.int .i64 (M : Int)] 3)).alloc (.cells #[.int .i64 0] 24)).alloc (.cells #[.int .i64 1] 3))) (.cells #[(.slice (some ⟨b, o, none⟩) n c)] 22)
      rw [hz] at h
      exact cells1_row (w := ((((((w.alloc (.cells #[.int .i64 (M : Int)] 3)).alloc (.cells #[.int .i64 0] 24)).alloc (.cells #[.int .i64 1] 3)).alloc (.cells #[(.slice (some ⟨b, o, none⟩) n c)] 22)).drew.drew))) h
    · exact ((q.2.2.2.2.alloc (by omega) _).drew).drew
  generalize hW0 : (((((w.alloc (.cells #[.int .i64 (M : Int)] 3)).alloc (.cells #[.int .i64 0] 24)).alloc (.cells #[.int .i64 1] 3)).alloc (.cells #[(.slice (some ⟨b, o, none⟩) n c)] 22)).drew.drew) = W0
  obtain ⟨r0, r1, r2, r3, hsz, hB0⟩ := hWR W0 hW0.symm
  clear hWR hW0 H3 H0
  have HS := Lib.hid hsz
  have hp : ∀ j, (j < w.heap.size ∨ j = w.heap.size + 1 + 1 + 1) → j < W0.heap.size := fun j hj => by omega
  have HI0 : TakeI w M [] W0 := ⟨⟨M, rfl, r0⟩, r1, r2, hB0⟩
  refine (wpIn_wide (n := 6)).1 ?_
  refine wpIn_rangeFunc_ownG rfl (by omega) (gf := 27) (lb := #[.pointer (some ⟨w.heap.size + 1 + 1 + 1, 0, none⟩)]) rfl trivial (enters_of Try.func27 (by kernel_rfl) rfl)
    (tail_stops 5 (by omega) (w.heap.size + 1 + 1 + 1) n c (some ⟨b, o, none⟩) (x :: ys) (fun j => j < w.heap.size ∨ j = w.heap.size + 1 + 1 + 1) W0 (by omega) (.inr rfl) (fun b' o' e => by cases e; exact .inl hb) (by omega) hnc hn r3 ((HA.out.below hB0).more hB0.size))
    (fun h k => h.trans k) (fun W l o o' _ h hc _ => KeepC.put W l o o' h hc) (Below.refl _ _) (fun _ => rfl)
    (TakeI w M) (TakeX w M) (takeI_own (by omega)) (fun c => takeX_own c (by omega)) HI0
    (fun z => { tmps := #[.slice (some ⟨b, o, none⟩) n c, .int .i64 (k : Int), undef, undef, .pointer (some ⟨w.heap.size, 0, none⟩), .slice none 0 0, .pointer (some ⟨w.heap.size + 1, 0, none⟩), .pointer (some ⟨w.heap.size + 1 + 1, 0, none⟩), .int .u8 (z.1.toNat : Int), .int .i64 (z.2 : Int), .slice (some ⟨b, o, none⟩) n c, .int .i64 (k : Int), .int .i64 0, .int .i64 0, .bool false, .slice (some ⟨b, o, none⟩) n c, .pointer (some ⟨b, o, none⟩), .int .u8 (x.toNat : Int), .int .i64 (k : Int), .int .u8 (M : Int), .int .u8 (M : Int), .int .i64 (M : Int), .int .i64 (M : Int), .int .i64 (k : Int), .int .u8 (M : Int), .int .i64 (M : Int), .bool false, .slice (some ⟨b, o, none⟩) n c, .func (.func 27) #[] #[.pointer (some ⟨w.heap.size + 1 + 1 + 1, 0, none⟩)], .int .u8 (z.1.toNat : Int), .int .i64 (z.2 : Int), undef, undef, undef, undef, undef, undef, undef, undef, undef, undef, undef, undef, undef, undef, undef, undef, undef, undef, undef, undef, undef, undef, undef, undef], defers := [] }) ?assign ?body ?done ?stop
  case assign =>
    intro l z W K hK
    gi_wp2
    exact hK
  case body =>
    rintro l pre z W hI hlen
    obtain ⟨⟨a, hacc, q0⟩, q1, q2, hbel⟩ := hI
    have halt := contP_lt (show M < 2147483648 by omega) pre a hacc
    have HACC := Lib.hid hacc
    have HBEL := Lib.hid hbel
    have Q0 := Lib.hid q0
    have Q1 := Lib.hid q1
    have Q2 := Lib.hid q2
    have c0 := cells1_row q0
    have c2 := cells1_row q2
    have f0 := frozen_of_row W _ 0 _ _ q0
    have f2 := frozen_of_row W _ 0 _ _ q2
    have f1 := frozen_of_row W _ 0 _ _ q1
    have c1' := cells1_row q1
    have hlen2 : (pre.length : Int) < 1000000 := by omega
    clear hacc hbel q0 q1 q2 r0 r1 r2 r3 hp HI0
    obtain ⟨C1, hC1⟩ : ∃ C1, bits .andNot .u8 (z.1.toNat : Int) 128 = C1 := ⟨_, rfl⟩
    obtain ⟨C2, hC2⟩ : ∃ C2, IntKind.i64.wrap C1 = C2 := ⟨_, rfl⟩
    obtain ⟨C3, hC3⟩ : ∃ C3, IntKind.i64.wrap (C2 * 2 ^ min z.2 64) = C3 := ⟨_, rfl⟩
    obtain ⟨V, hV⟩ : ∃ V, IntKind.i64.wrap ((a : Int) + C3) = V := ⟨_, rfl⟩
    have hval : z.2 < 35 → V = ((a + z.1.toNat % 128 * 2 ^ z.2 : Nat) : Int) := fun hs => by
      rw [← hV, ← hC3, ← hC2, ← hC1]; exact take_val a z.1.toNat z.2 halt z.1.toNat_lt hs
    have HC1 := Lib.hid hC1
    have HC2 := Lib.hid hC2
    have HC3 := Lib.hid hC3
    have HV := Lib.hid hV
    have HVAL := Lib.hid hval
    have hrows := two_set (t1 := 3) (t2 := 3) Q2.out Q0.out (by omega) (.int .i64 ((pre.length : Int) + 1 + 1)) (.int .i64 V)
    have hre := (hrows.2.2.1 (w.heap.size + 1) (by omega) (by omega)).trans Q1.out
    have HROWS := Lib.hid hrows
    have HRE := Lib.hid hre
    clear hC1 hC2 hC3 hV hval
    gi_wp2
    refine wpIn_at { tmps := #[.slice (some ⟨b, o, none⟩) n c, .int .i64 (k : Int), undef, undef, .pointer (some ⟨w.heap.size, 0, none⟩), .slice none 0 0, .pointer (some ⟨w.heap.size + 1, 0, none⟩), .pointer (some ⟨w.heap.size + 1 + 1, 0, none⟩), .int .u8 (z.1.toNat : Int), .int .i64 (z.2 : Int), .slice (some ⟨b, o, none⟩) n c, .int .i64 (k : Int), .int .i64 0, .int .i64 0, .bool false, .slice (some ⟨b, o, none⟩) n c, .pointer (some ⟨b, o, none⟩), .int .u8 (x.toNat : Int), .int .i64 (k : Int), .int .u8 (M : Int), .int .u8 (M : Int), .int .i64 (M : Int), .int .i64 (M : Int), .int .i64 (k : Int), .int .u8 (M : Int), .int .i64 (M : Int), .bool false, .slice (some ⟨b, o, none⟩) n c, .func (.func 27) #[] #[.pointer (some ⟨w.heap.size + 1 + 1 + 1, 0, none⟩)], .int .u8 (z.1.toNat : Int), .int .i64 (z.2 : Int), .int .i64 ((pre.length : Int) + 1), .int .i64 ((pre.length : Int) + 1 + 1), .int .i64 (a : Int), .int .u8 (z.1.toNat : Int), .int .u8 C1, .int .i64 C2, .int .i64 (z.2 : Int), .int .i64 C3, .int .i64 V, undef, undef, undef, undef, undef, undef, undef, undef, undef, undef, undef, undef, undef, undef, undef], defers := [] } (((W.setCell ⟨w.heap.size + 1 + 1, 0, none⟩ (.int .i64 ((pre.length : Int) + 1 + 1))).setCell ⟨w.heap.size, 0, none⟩ (.int .i64 V)).drew) ?_ ?_
    · gi_region
      all_goals
        rw [HC1.out, HC2.out, HC3.out, HV.out]
        exact ⟨rfl, rfl⟩
    have g0 : (((W.setCell ⟨w.heap.size + 1 + 1, 0, none⟩ (.int .i64 ((pre.length : Int) + 1 + 1))).setCell ⟨w.heap.size, 0, none⟩ (.int .i64 V)).drew).cell? ⟨w.heap.size, 0, none⟩ = some (.int .i64 V) := cells1_row HROWS.out.2.1
    have g1 : (((W.setCell ⟨w.heap.size + 1 + 1, 0, none⟩ (.int .i64 ((pre.length : Int) + 1 + 1))).setCell ⟨w.heap.size, 0, none⟩ (.int .i64 V)).drew).cell? ⟨w.heap.size + 1, 0, none⟩ = some (.int .i64 0) := cells1_row HRE.out
    have k1 : (((W.setCell ⟨w.heap.size + 1 + 1, 0, none⟩ (.int .i64 ((pre.length : Int) + 1 + 1))).setCell ⟨w.heap.size, 0, none⟩ (.int .i64 V)).drew).frozen? ⟨w.heap.size + 1, 0, none⟩ = false := frozen_of_row _ _ 0 _ _ HRE.out
    have hbs : Below w.heap.size w (((W.setCell ⟨w.heap.size + 1 + 1, 0, none⟩ (.int .i64 ((pre.length : Int) + 1 + 1))).setCell ⟨w.heap.size, 0, none⟩ (.int .i64 V)).drew) := ((HBEL.out.setCell (p := ⟨w.heap.size + 1 + 1, 0, none⟩) (by simp only; omega) _).setCell (p := ⟨w.heap.size, 0, none⟩) (Nat.le_refl _) _).drew
    have hkeep : ∀ k, k ≠ w.heap.size → k ≠ w.heap.size + 1 + 1 → (((W.setCell ⟨w.heap.size + 1 + 1, 0, none⟩ (.int .i64 ((pre.length : Int) + 1 + 1))).setCell ⟨w.heap.size, 0, none⟩ (.int .i64 V)).drew).heap[k]? = W.heap[k]? := fun k h1 h2 => HROWS.out.2.2.1 k h2 h1
    have hwz : (((W.setCell ⟨w.heap.size + 1 + 1, 0, none⟩ (.int .i64 ((pre.length : Int) + 1 + 1))).setCell ⟨w.heap.size, 0, none⟩ (.int .i64 V)).drew).heap.size = W.heap.size := HROWS.out.2.2.2
    have HBS := Lib.hid hbs
    have HKEEP := Lib.hid hkeep
    have HWZ := Lib.hid hwz
    have HR0 : Hid ((((W.setCell ⟨w.heap.size + 1 + 1, 0, none⟩ (.int .i64 ((pre.length : Int) + 1 + 1))).setCell ⟨w.heap.size, 0, none⟩ (.int .i64 V)).drew).heap[w.heap.size]? = some (.cells #[.int .i64 V] 3)) := Lib.hid HROWS.out.2.1
    have HR2 : Hid ((((W.setCell ⟨w.heap.size + 1 + 1, 0, none⟩ (.int .i64 ((pre.length : Int) + 1 + 1))).setCell ⟨w.heap.size, 0, none⟩ (.int .i64 V)).drew).heap[w.heap.size + 1 + 1]? = some (.cells #[.int .i64 ((pre.length : Int) + 1 + 1)] 3)) := Lib.hid HROWS.out.1
    have HR1 : Hid ((((W.setCell ⟨w.heap.size + 1 + 1, 0, none⟩ (.int .i64 ((pre.length : Int) + 1 + 1))).setCell ⟨w.heap.size, 0, none⟩ (.int .i64 V)).drew).heap[w.heap.size + 1]? = some (.cells #[.int .i64 0] 24)) := Lib.hid HRE.out
    clear hrows hre hbs hkeep hwz c0 c1' c2 f0 f1 f2
    generalize ((W.setCell ⟨w.heap.size + 1 + 1, 0, none⟩ (.int .i64 ((pre.length : Int) + 1 + 1))).setCell ⟨w.heap.size, 0, none⟩ (.int .i64 V)).drew = W2 at *
    by_cases hs : z.2 < 35
    · have hv := HVAL.out hs
      have e1 : decide ((35 : Int) ≤ (z.2 : Int)) = false := decide_eq_false (by omega)
      by_cases hbig : 2147483648 ≤ a + z.1.toNat % 128 * 2 ^ z.2
      · have e2 : decide ((2147483647 : Int) < V) = true := decide_eq_true (by omega)
        have HSB : Hid (z.2 < 35 → 2147483648 ≤ a + z.1.toNat % 128 * 2 ^ z.2) := Lib.hid (fun _ => hbig)
        clear hv hbig
        gi_wp2_with go_skip
        refine wpIn_goto ?_
        exact take_long (act := { tmps := #[], defers := [] }) (by omega) HACC.out HKEEP.out HWZ.out HR0.out HR1.out HBS.out HSB.out
      · have e2 : decide ((2147483647 : Int) < V) = false := decide_eq_false (by omega)
        by_cases hlast : z.1.toNat < 128
        · have e3 := and128_lo hlast
          have HVV := Lib.hid hv
          clear hv
          gi_wp2_with go_skip
          refine wpIn_goto ?_
          exact take_last (act := { tmps := #[], defers := [] }) (by omega) HACC.out HKEEP.out HWZ.out HR0.out HR1.out HR2.out HBS.out hs HVV.out (by omega) hlast
        · have e3 := and128_hi (show 128 ≤ z.1.toNat by omega) z.1.toNat_lt
          have HVV := Lib.hid hv
          clear hv
          gi_wp2_with go_skip
          exact take_go (by omega) HACC.out HKEEP.out HWZ.out HR0.out HR1.out HR2.out HBS.out hs HVV.out (by omega) (by omega)
    · have e1 : decide ((35 : Int) ≤ (z.2 : Int)) = true := decide_eq_true (by omega)
      gi_wp2_with go_skip
      refine wpIn_goto ?_
      exact take_long (act := { tmps := #[], defers := [] }) (by omega) HACC.out HKEEP.out HWZ.out HR0.out HR1.out HBS.out (fun h => absurd h hs)
  case done =>
    rintro D zs W hD rfl hI hK
    obtain ⟨⟨a, hacc, q0⟩, q1, q2, hbel⟩ := hI
    have hsc : scan M 0 ys = (10, 0, 0) := scan_all hacc
    have HSC := Lib.hid hsc
    have HBEL := Lib.hid hbel
    have hDz : w.heap.size + 4 ≤ D := by omega
    have c0 := cells1_row q0
    have c1' := cells1_row q1
    have f0 := frozen_of_row W _ 0 _ _ q0
    have f1 := frozen_of_row W _ 0 _ _ q1
    have HE := Lib.hid (take_end (u := .int .i64 0) (v := .int .i64 10) (W := W.setCell ⟨w.heap.size + 1, 0, none⟩ (.int .i64 10)) hDz (((one_set q1 (.int .i64 10)).2 _ (by omega)).trans hK) (((one_set q1 (.int .i64 10)).2 _ (by omega)).trans q0) (one_set q1 (.int .i64 10)).1 (hbel.setCell (p := ⟨w.heap.size + 1, 0, none⟩) (Nat.le_succ _) _))
    have Q0 := Lib.hid q0
    have Q1 := Lib.hid q1
    have HK := Lib.hid hK
    clear hbel q0 q1 q2 r0 r1 r2 r3 hp HI0 hacc hsc hK
    go_wp2
    refine wp_label ?_
    go_wp2
    refine wp_then_only ?_
    go_region
    all_goals
      go_wp2
      rw [jump2_ret]
      exact ⟨by simp, .inl ⟨_, _, rfl, run_takeDeferred HE.out.1, ⟨_, res_ctc rfl _ _ _ _ _ _ _ _ _ _ rfl HE.out.2.1 rfl HE.out.2.2.1 Try.underlying3 rfl Try.underlying24 rfl, none, 0, by rw [HSC.out]; rfl, by rw [HSC.out]; exact HandS.nil_ _ _, HE.out.2.2.2⟩⟩⟩
  case stop =>
    rintro D c' pre W hD hpre hX hK
    obtain ⟨⟨pre', z, a, rfl, hacc, hhow⟩, hbel⟩ := hX
    refine wpIn_wide.2 ?_
    rcases hhow with ⟨rfl, hlong, ⟨v, q0⟩, q1⟩ | ⟨rfl, hs, h2, h3, q0, q1, q2⟩
    · have HSC : Hid (scan M 0 ys = (60, 0, 0)) := Lib.hid (scan_long hpre hacc hlong)
      have HBEL := Lib.hid hbel
      have Q0 := Lib.hid q0
      have Q1 := Lib.hid q1
      have HK := Lib.hid hK
      have c0 := cells1_row q0
      have c1' := cells1_row q1
      have f0 := frozen_of_row W _ 0 _ _ q0
      have f1 := frozen_of_row W _ 0 _ _ q1
      have hDz : w.heap.size + 4 ≤ D := by omega
      have HE := Lib.hid (take_end (u := .int .i64 0) (v := .int .i64 60) (W := W) hDz hK q0 q1 hbel)
      clear hbel q0 q1 r0 r1 r2 r3 hp HI0 hacc hK hpre hlong
      go_step3
      refine .inl ⟨rfl, ?_⟩
      go_wp2
      refine wp_then_only ?_
      go_region
      all_goals
        go_wp2
        rw [jump_ret]
        exact ⟨by simp, .inl ⟨_, _, rfl, run_takeDeferred HE.out.1, ⟨_, res_ctc rfl _ _ _ _ _ _ _ _ _ _ rfl HE.out.2.1 rfl HE.out.2.2.1 Try.underlying3 rfl Try.underlying24 rfl, none, 0, by rw [HSC.out]; rfl, by rw [HSC.out]; exact HandS.nil_ _ _, HE.out.2.2.2⟩⟩⟩
    · obtain ⟨hsc, hle⟩ : scan M 0 ys = (0, a + z.1.toNat % 128 * 2 ^ z.2, pre'.length + 1) ∧ pre'.length + 1 ≤ ys.length := scan_last hpre hacc hs h2 h3
      have HSC := Lib.hid hsc
      generalize hNN : a + z.1.toNat % 128 * 2 ^ z.2 = N at *
      have hUl : (pre' ++ [z]).length = pre'.length + 1 := by simp
      rw [hUl] at q2
      generalize pre'.length = U at *
      have HBEL := Lib.hid hbel
      have HQ0 := Lib.hid q0
      have HQ1 := Lib.hid q1
      have HQ2 := Lib.hid q2
      have HK := Lib.hid hK
      have hDz : w.heap.size + 4 ≤ D := by omega
      have hz4 : w.heap.size + 4 ≤ W.heap.size := Nat.le_trans hDz (Nat.le_of_lt (Array.getElem?_eq_some_iff.1 hK).1)
      have c0 := cells1_row q0
      have c2 := cells1_row q2
      have hcut := HA.out.cut (k := U + 1 + 1) (by omega) hnc
      obtain ⟨A2, hA2⟩ : ∃ A2, (if c = U + 1 + 1 then some (⟨b, o, none⟩ : Addr) else some ⟨b, o + (U + 1 + 1), none⟩) = A2 := ⟨_, rfl⟩
      have hNO : A2 = none → c - (U + 1 + 1) = 0 := fun h => if_some_ne (hA2.trans h)
      rw [hA2] at hcut
      have hwz := HBEL.out.size
      have hown := (x_own A2 (n - (U + 1 + 1)) (c - (U + 1 + 1)) (List.drop (U + 1 + 1) (x :: ys)) W.drew ((hcut.below HBEL.out).drew.more (show w.heap.size ≤ W.drew.heap.size from hwz)) hNO (by omega))
      have s1 : (U : Int) + 1 + 1 ≤ (n : Int) := by omega
      have s2 : (U : Int) + 1 + 1 ≤ (c : Int) := by omega
      have s3 : 0 ≤ (U : Int) + 1 + 1 := by omega
      have s4 : ((U : Int) + 1 + 1).toNat = U + 1 + 1 := by omega
      rw [show n - (U + 1 + 1) = n - 1 - (U + 1) from by omega] at hown
      have e5 : n - (U + 1 + 1) = n - 1 - (U + 1) := by omega
      have HOWN := Lib.hid hown
      have HRO := Lib.hid (And.intro q0 (And.intro q1 q2))
      have S0 : Hid (W.cell? ⟨w.heap.size, 0, none⟩ = some (.int .i64 (N : Int)) ∧ W.cell? ⟨w.heap.size + 1 + 1, 0, none⟩ = some (.int .i64 ((U : Int) + 1 + 1))) := Lib.hid ⟨c0, c2⟩
      have S1 : Hid (W.drew.cell? ⟨w.heap.size, 0, none⟩ = some (.int .i64 (N : Int)) ∧ W.drew.cell? ⟨w.heap.size + 1 + 1, 0, none⟩ = some (.int .i64 ((U : Int) + 1 + 1))) := S0
      rw [show (((U + 1 : Nat) : Int) + 1) = (U : Int) + 1 + 1 from by omega] at *
      clear hbel q0 q1 q2 r0 r1 r2 r3 hp HI0 hacc hK hpre hsc hcut hNO h2 h3 hs hUl hNN hown
      go_step3
      refine .inr ⟨rfl, ?_⟩
      go_wp2
      refine wp_then_only ?_
      go_region_held3 (fun W' => W'.cell? ⟨w.heap.size, 0, none⟩ = some (.int .i64 (N : Int)) ∧ W'.cell? ⟨w.heap.size + 1 + 1, 0, none⟩ = some (.int .i64 ((U : Int) + 1 + 1)))
        (first
          | with_reducible exact S0.out
          | with_reducible exact S1.out
          | with_reducible exact S2.out
          | with_reducible exact S3.out
          | with_reducible exact S4.out)
        ((go_at_call 24; (with_reducible refine HOWN.out.mono ?_); rintro e w1 ⟨A1, c1, rfl, hh, hb⟩; have hr1 := (hb.block (w.heap.size) (Array.getElem?_eq_some_iff.1 HQ0.out).1).trans HQ0.out; have hr2 := (hb.block (w.heap.size + 1) (Array.getElem?_eq_some_iff.1 HQ1.out).1).trans HQ1.out; have hr3 := (hb.block (w.heap.size + 1 + 1) (Array.getElem?_eq_some_iff.1 HQ2.out).1).trans HQ2.out; have hrD := (hb.block D (Array.getElem?_eq_some_iff.1 HK.out).1).trans HK.out; have S2 : Hid (w1.cell? ⟨w.heap.size, 0, none⟩ = some (.int .i64 (N : Int)) ∧ w1.cell? ⟨w.heap.size + 1 + 1, 0, none⟩ = some (.int .i64 ((U : Int) + 1 + 1))) := Lib.hid ⟨cells1_row hr1, cells1_row hr3⟩; have HH := Lib.hid hh; have HB := Lib.hid hb; have HR1 := Lib.hid hr1; have HR2 := Lib.hid hr2; have HRD := Lib.hid hrD; have f1 := frozen_of_row w1 _ 0 _ _ hr1; have f2 := frozen_of_row w1 _ 0 _ _ hr2; have g1 := cells1_row hr1; have g2 := cells1_row hr2; have hs1 := one_set hr1 (.int .i64 (N : Int)); have hs3 := (hs1.2 (w.heap.size + 1 + 1) (by omega)).trans hr3; have hs2 := (hs1.2 (w.heap.size + 1) (by omega)).trans hr2; have hs5 := one_set hs2 (.int .i64 0); have S3 : Hid ((w1.setCell ⟨w.heap.size, 0, none⟩ (.int .i64 (N : Int))).cell? ⟨w.heap.size, 0, none⟩ = some (.int .i64 (N : Int)) ∧ (w1.setCell ⟨w.heap.size, 0, none⟩ (.int .i64 (N : Int))).cell? ⟨w.heap.size + 1 + 1, 0, none⟩ = some (.int .i64 ((U : Int) + 1 + 1))) := Lib.hid ⟨cells1_row hs1.1, cells1_row hs3⟩; have S4 : Hid (((w1.setCell ⟨w.heap.size, 0, none⟩ (.int .i64 (N : Int))).setCell ⟨w.heap.size + 1, 0, none⟩ (.int .i64 0)).cell? ⟨w.heap.size, 0, none⟩ = some (.int .i64 (N : Int)) ∧ ((w1.setCell ⟨w.heap.size, 0, none⟩ (.int .i64 (N : Int))).setCell ⟨w.heap.size + 1, 0, none⟩ (.int .i64 0)).cell? ⟨w.heap.size + 1 + 1, 0, none⟩ = some (.int .i64 ((U : Int) + 1 + 1))) := Lib.hid ⟨cells1_row ((hs5.2 _ (by omega)).trans hs1.1), cells1_row ((hs5.2 _ (by omega)).trans hs3)⟩; clear hh hb hr1 hr2 hr3 hrD hs1 hs2 hs3 hs5))
      all_goals
        go_wp2
        rw [jump_ret]
        have h2 := two_set HR1.out HR2.out (by omega) (.int .i64 (N : Int)) (.int .i64 0)
        have hbl : Below w.heap.size w W.drew := HBEL.out.drew
        have hbf : Below w.heap.size w ((w1.setCell ⟨w.heap.size, 0, none⟩ (.int .i64 (N : Int))).setCell ⟨w.heap.size + 1, 0, none⟩ (.int .i64 0)) := ((below_step hbl HB.out).setCell (p := ⟨w.heap.size, 0, none⟩) (Nat.le_refl _) _).setCell (p := ⟨w.heap.size + 1, 0, none⟩) (Nat.le_succ _) _
        have hzd : W.drew.heap.size = W.heap.size := rfl
        have hhf : HandS ((w1.setCell ⟨w.heap.size, 0, none⟩ (.int .i64 (N : Int))).setCell ⟨w.heap.size + 1, 0, none⟩ (.int .i64 0)) w.heap.size A1 (n - 1 - (U + 1)) c1 (ys.drop (U + 1)) := handS_less (handS_sets HH.out (fun k hk => h2.2.2.1 k (by omega) (by omega)) h2.2.2.2) (by omega)
        have hKD : (((w1.setCell ⟨w.heap.size, 0, none⟩ (.int .i64 (N : Int))).setCell ⟨w.heap.size + 1, 0, none⟩ (.int .i64 0))).heap[D]? = some (.deferred (some [])) := (h2.2.2.1 D (by omega) (by omega)).trans HRD.out
        exact ⟨by simp, .inl ⟨_, _, rfl, run_takeDeferred hKD, ⟨_, res_ctc rfl _ _ _ _ _ _ _ _ _ _ rfl ((World.putObj_heap_other (by omega)).trans h2.1) rfl ((World.putObj_heap_other (by omega)).trans h2.2.1) Try.underlying3 rfl Try.underlying24 rfl, A1, c1, by rw [HSC.out]; rfl, by rw [HSC.out]; exact handS_putD hhf hKD, hbf.trans (belowK_b (w := w) (Nat.le_refl _) _ D _ _ (by omega) hKD rfl rfl)⟩⟩⟩
end Go.Proofs.Ytmckopjchpgcpaa
