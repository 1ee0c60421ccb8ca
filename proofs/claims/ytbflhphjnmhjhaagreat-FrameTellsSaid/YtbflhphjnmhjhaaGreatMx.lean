/- FrA, FrB, FrC, FrD, FrE, FrF, FrG, FrH, FrI, FrJ. -/
import Derived.Test.YtbflhphjnmhjhaaGreatFrX
import Derived.Test.YtbflhphjnmhjhaaGreatGOwn
import Derived.Test.YtbflhphjnmhjhaaGreatMfi
import Derived.Test.YtbflhphjnmhjhaaGreatOcRStr
import Derived.Test.YtbflhphjnmhjhaaGreatMo
import Derived.Test.YtbflhphjnmhjhaaGreatGPut
import Derived.Deep.RegionHeld3
import Derived.BigRegion
/- The document's small calls of layer 4: has, far, long, fine, Whole, Of, ahead. -/
namespace Go.Proofs.YtbflhphjnmhjhaaGreat
open Go.RowKit Oct Fi Fm
attribute [local go_sem] i64_and1 i64_and7 i64_and31

theorem m_has (L S K : Int) (F : UInt8) (f : Int) (w : World) :
    Calls Tryz.prog 77 #[.agg #[.int .i64 L, .int .u8 K, .int .u8 F.toNat, .int .i64 S], .int .u8 f] w fun e w' => e = .returned (.bool (hasB (F.toNat : Int) f)) ∧ Below w.heap.size w w' := by
  go_enter Tryz.func77, Tryz.ntmps77
  go_wp2_with (go_at_call 97; (with_reducible refine (rhas_any L _ _ S f _).mono ?_); rintro e w1 ⟨rfl, hb1⟩)
  go_ret
  exact ⟨rfl, below_lit (Below.refl _ w) hb1⟩
theorem m_fine (w : World) : Calls Tryz.prog 24 #[] w fun e w' => e = .returned (.agg #[.bool false, .int .i64 0, .int .u32 0]) ∧ Below w.heap.size w w' := by
  go_enter Tryz.func24, Tryz.ntmps24
  go_wp2
  refine bodyPost_ret (v := .agg #[.bool false, .int .i64 0, .int .u32 0]) (by simp [results, Tryz.results24, go_sem]) rfl ⟨rfl, (Below.refl _ _).alloc (Nat.le_refl _) _⟩
theorem m_whole (c : Int) (w : World) : Calls Tryz.prog 17 #[.int .u32 c] w fun e w' => e = .returned (.agg #[.bool true, .int .i64 0, .int .u32 c]) ∧ Below w.heap.size w w' := by
  go_enter Tryz.func17, Tryz.ntmps17
  go_wp2
  refine bodyPost_ret (v := .agg #[.bool true, .int .i64 0, .int .u32 c]) (by simp [results, Tryz.results17, go_sem]) rfl ⟨rfl, (Below.refl _ _).alloc (Nat.le_refl _) _⟩
theorem m_of (s c : Int) (w : World) : Calls Tryz.prog 19 #[.int .i64 s, .int .u32 c] w fun e w' => e = .returned (.agg #[.bool false, .int .i64 s, .int .u32 c]) ∧ Below w.heap.size w w' := by
  go_enter Tryz.func19, Tryz.ntmps19
  go_wp2
  refine bodyPost_ret (v := .agg #[.bool false, .int .i64 s, .int .u32 c]) (by simp [results, Tryz.results19, go_sem]) rfl ⟨rfl, (Below.refl _ _).alloc (Nat.le_refl _) _⟩
theorem m_far (L S F : Int) (k : Nat) (w : World) :
    Calls Tryz.prog 41 #[.agg #[.int .i64 L, .int .u8 (k : Int), .int .u8 F, .int .i64 S]] w fun e w' => e = .returned (.bool (farB k S)) ∧ Below w.heap.size w w' := by
  rcases kinds_of k with rfl | rfl | rfl | rfl | rfl | rfl | rfl | rfl | rfl | rfl | rfl | ⟨h0, h1, h2, h3, h4, h5, h6, h7, h8, h9, h16⟩
  case inr.inr.inr.inr.inr.inr.inr.inr.inr.inr.inr =>
    have e : farB k S = false := by simp [farB, h0, h1, h2, h3, h4, h6, h7, h9, h16]
    rw [e]
    have d0 := nat_beq_ne h0
    have d1 := nat_beq_ne h1
    have d2 := nat_beq_ne h2
    have d3 := nat_beq_ne h3
    have d4 := nat_beq_ne h4
    have d6 := nat_beq_ne h6
    have d7 := nat_beq_ne h7
    have d9 := nat_beq_ne h9
    have d16 := nat_beq_ne h16
    clear h0 h1 h2 h3 h4 h5 h6 h7 h8 h9 h16 e
    go_enter Tryz.func41, Tryz.ntmps41
    go_wp2
    go_ret
    exact ⟨rfl, (Below.refl _ _).alloc (Nat.le_refl _) _⟩
  all_goals
    go_enter Tryz.func41, Tryz.ntmps41
    go_wp2
    go_ret
    exact ⟨rfl, (Below.refl _ _).alloc (Nat.le_refl _) _⟩
theorem four_on {u0 u1 u2 u3 : Value} {w1 : World} (w : World) (t : TypeId) (hb : Below (w.alloc (.cells #[u0, u1, u2, u3] t)).heap.size (w.alloc (.cells #[u0, u1, u2, u3] t)) w1) : Four w1 w.heap.size u0 u1 u2 u3 :=
  (Four.new w t u0 u1 u2 u3).below hb (by simp)
theorem ret_bool4 {b c : Bool} (h : b = c) : Ending.returned (.bool b) = .returned (.bool c) := by rw [h]
theorem lit_lt {w w1 : World} {o : Obj} (hb : Below (w.alloc o).heap.size (w.alloc o) w1) : w.heap.size < w1.heap.size := by
  have := hb.size
  simp at this
  omega
theorem longB_ways (k : Nat) (F : UInt8) (n : Nat) (p r a : Bool) (hp : hasB (F.toNat : Int) 8 = p) (hr : hasB (F.toNat : Int) 32 = r) (ha : hasB (F.toNat : Int) 1 = a) :
    longB k F n = if k = 0 then decide (n < if p then 1 else 0) else if k = 1 then decide (n < (if p then 1 else 0) + if r then 5 else 0) else if k = 2 then n != 5 else if k = 3 ∨ k = 8 then n != 4 else if k = 6 then n != 8
      else if k = 4 then (n % 6 != 0 || a && n != 0) else if k = 7 then decide (n < 8) else if k = 16 then decide (n < 4) else false := by
  unfold longB padN rankN
  rw [hp, hr, ha]
set_option maxHeartbeats 4000000 in
theorem m_long (L S : Int) (K F : UInt8) (n : Nat) (w : World) (hn : n ≤ 1000000) :
    Calls Tryz.prog 42 #[.agg #[.int .i64 L, .int .u8 K.toNat, .int .u8 F.toNat, .int .i64 S], .int .i64 n] w fun e w' => e = .returned (.bool (longB K.toNat F n)) ∧ Below w.heap.size w w' := by
  obtain ⟨p, hp⟩ : ∃ p, hasB (F.toNat : Int) 8 = p := ⟨_, rfl⟩
  obtain ⟨r, hr⟩ : ∃ r, hasB (F.toNat : Int) 32 = r := ⟨_, rfl⟩
  obtain ⟨a, ha⟩ : ∃ a, hasB (F.toNat : Int) 1 = a := ⟨_, rfl⟩
  rw [longB_ways K.toNat F n p r a hp hr ha]
  have HF8 : Hid (∀ (k : Int) w, Calls Tryz.prog 77 #[.agg #[.int .i64 L, .int .u8 k, .int .u8 F.toNat, .int .i64 S], .int .u8 8] w fun e w' => e = .returned (.bool p) ∧ Below w.heap.size w w') := Lib.hid (fun k w => by have := m_has L S k F 8 w; rw [hp] at this; exact this)
  have HF32 : Hid (∀ (k : Int) w, Calls Tryz.prog 77 #[.agg #[.int .i64 L, .int .u8 k, .int .u8 F.toNat, .int .i64 S], .int .u8 32] w fun e w' => e = .returned (.bool r) ∧ Below w.heap.size w w') := Lib.hid (fun k w => by have := m_has L S k F 32 w; rw [hr] at this; exact this)
  have HF1 : Hid (∀ (k : Int) w, Calls Tryz.prog 77 #[.agg #[.int .i64 L, .int .u8 k, .int .u8 F.toNat, .int .i64 S], .int .u8 1] w fun e w' => e = .returned (.bool a) ∧ Below w.heap.size w w') := Lib.hid (fun k w => by have := m_has L S k F 1 w; rw [ha] at this; exact this)
  clear hp hr ha
  generalize K.toNat = k at *
  cases p
  all_goals
    rcases kinds_of k with rfl | rfl | rfl | rfl | rfl | rfl | rfl | rfl | rfl | rfl | rfl | ⟨h0, h1, h2, h3, h4, h5, h6, h7, h8, h9, h16⟩
    case inr.inr.inr.inr.inr.inr.inr.inr.inr.inr.inr =>
      simp only [if_neg h0, if_neg h1, if_neg h2, if_neg h4, if_neg h6, if_neg h7, if_neg h16, h3, h8, or_self, if_false]
      have d0 := nat_beq_ne h0
      have d1 := nat_beq_ne h1
      have d2 := nat_beq_ne h2
      have d3 := nat_beq_ne h3
      have d4 := nat_beq_ne h4
      have d6 := nat_beq_ne h6
      have d7 := nat_beq_ne h7
      have d8 := nat_beq_ne h8
      have d16 := nat_beq_ne h16
      clear h0 h1 h2 h3 h4 h5 h6 h7 h8 h9 h16
      go_enter Tryz.func42, Tryz.ntmps42
      go_wp2_with (first
        | (go_at_call 77; (with_reducible refine (HF8.out _ _).mono ?_); rintro e w1 ⟨rfl, hb1⟩; have hb1' := below_lit (Below.refl _ w) hb1; obtain ⟨p0, p1, p2, p3⟩ := four_on w 23 hb1)
        | (go_at_call 77; (with_reducible refine (HF32.out _ _).mono ?_); rintro e w2 ⟨rfl, hb2⟩; have hb2' := below_step hb1' hb2; obtain ⟨p0, p1, p2, p3⟩ := Four.below ⟨p0, p1, p2, p3⟩ hb2 (lit_lt hb1))
        | (go_at_call 77; (with_reducible refine (HF1.out _ _).mono ?_); rintro e w2 ⟨rfl, hb2⟩; have hb2' := below_step hb1' hb2))
      go_ret
      refine ⟨ret_bool4 (by first | rfl | (rw [Bool.eq_iff_iff]; simp; done) | (rw [Bool.eq_iff_iff]; simp; omega)), ?_⟩
      first | exact hb2' | exact hb1'
    case inr.inl =>
      cases r
      all_goals
        go_enter Tryz.func42, Tryz.ntmps42
        go_wp2_with (first
          | (go_at_call 77; (with_reducible refine (HF8.out _ _).mono ?_); rintro e w1 ⟨rfl, hb1⟩; have hb1' := below_lit (Below.refl _ w) hb1; obtain ⟨p0, p1, p2, p3⟩ := four_on w 23 hb1)
          | (go_at_call 77; (with_reducible refine (HF32.out _ _).mono ?_); rintro e w2 ⟨rfl, hb2⟩; have hb2' := below_step hb1' hb2; obtain ⟨p0, p1, p2, p3⟩ := Four.below ⟨p0, p1, p2, p3⟩ hb2 (lit_lt hb1))
          | (go_at_call 77; (with_reducible refine (HF1.out _ _).mono ?_); rintro e w2 ⟨rfl, hb2⟩; have hb2' := below_step hb1' hb2))
        go_ret
        refine ⟨ret_bool4 (by first | rfl | (rw [Bool.eq_iff_iff]; simp; done) | (rw [Bool.eq_iff_iff]; simp; omega)), ?_⟩
        first | exact hb2' | exact hb1'
    case inr.inr.inr.inr.inl =>
      by_cases h6 : n % 6 = 0
      · have d6 : ((n : Int) % 6 != 0) = false := by simp; omega
        have e6 : (n % 6 != 0) = false := by simp [h6]
        cases a
        all_goals
          go_enter Tryz.func42, Tryz.ntmps42
          go_wp2_with (first
            | (go_at_call 77; (with_reducible refine (HF8.out _ _).mono ?_); rintro e w1 ⟨rfl, hb1⟩; have hb1' := below_lit (Below.refl _ w) hb1; obtain ⟨p0, p1, p2, p3⟩ := four_on w 23 hb1)
            | (go_at_call 77; (with_reducible refine (HF32.out _ _).mono ?_); rintro e w2 ⟨rfl, hb2⟩; have hb2' := below_step hb1' hb2; obtain ⟨p0, p1, p2, p3⟩ := Four.below ⟨p0, p1, p2, p3⟩ hb2 (lit_lt hb1))
            | (go_at_call 77; (with_reducible refine (HF1.out _ _).mono ?_); rintro e w2 ⟨rfl, hb2⟩; have hb2' := below_step hb1' hb2))
          go_ret
          refine ⟨ret_bool4 (by first | rfl | (rw [Bool.eq_iff_iff]; simp; done) | (rw [Bool.eq_iff_iff]; simp; omega)), ?_⟩
          first | exact hb2' | exact hb1'
      · have d6 : ((n : Int) % 6 != 0) = true := by simp; omega
        have e6 : (n % 6 != 0) = true := by simp [h6]
        go_enter Tryz.func42, Tryz.ntmps42
        go_wp2_with (first
          | (go_at_call 77; (with_reducible refine (HF8.out _ _).mono ?_); rintro e w1 ⟨rfl, hb1⟩; have hb1' := below_lit (Below.refl _ w) hb1; obtain ⟨p0, p1, p2, p3⟩ := four_on w 23 hb1)
          | (go_at_call 77; (with_reducible refine (HF32.out _ _).mono ?_); rintro e w2 ⟨rfl, hb2⟩; have hb2' := below_step hb1' hb2; obtain ⟨p0, p1, p2, p3⟩ := Four.below ⟨p0, p1, p2, p3⟩ hb2 (lit_lt hb1))
          | (go_at_call 77; (with_reducible refine (HF1.out _ _).mono ?_); rintro e w2 ⟨rfl, hb2⟩; have hb2' := below_step hb1' hb2))
        go_ret
        refine ⟨ret_bool4 (by first | rfl | (rw [Bool.eq_iff_iff]; simp; done) | (rw [Bool.eq_iff_iff]; simp; omega)), ?_⟩
        first | exact hb2' | exact hb1'
    all_goals
      go_enter Tryz.func42, Tryz.ntmps42
      go_wp2_with (first
        | (go_at_call 77; (with_reducible refine (HF8.out _ _).mono ?_); rintro e w1 ⟨rfl, hb1⟩; have hb1' := below_lit (Below.refl _ w) hb1; obtain ⟨p0, p1, p2, p3⟩ := four_on w 23 hb1)
        | (go_at_call 77; (with_reducible refine (HF32.out _ _).mono ?_); rintro e w2 ⟨rfl, hb2⟩; have hb2' := below_step hb1' hb2; obtain ⟨p0, p1, p2, p3⟩ := Four.below ⟨p0, p1, p2, p3⟩ hb2 (lit_lt hb1))
        | (go_at_call 77; (with_reducible refine (HF1.out _ _).mono ?_); rintro e w2 ⟨rfl, hb2⟩; have hb2' := below_step hb1' hb2))
      go_ret
      refine ⟨ret_bool4 (by first | rfl | (rw [Bool.eq_iff_iff]; simp; done) | (rw [Bool.eq_iff_iff]; simp; omega)), ?_⟩
      first | exact hb2' | exact hb1'
end Go.Proofs.YtbflhphjnmhjhaaGreat
/- The document's ahead: the faults that are told before a payload is taken apart. -/
namespace Go.Proofs.YtbflhphjnmhjhaaGreat
open Go.RowKit Oct Fi Fm
attribute [local go_sem] i64_and1 i64_and7 i64_and31

/-- The boxes of a head and of a fault, laid one behind the other, in any later world. -/
theorem hf_boxes {w w1 : World} {u0 u1 u2 u3 v0 v1 v2 : Value} {t s : TypeId} (hb : Below ((w.alloc (.cells #[u0, u1, u2, u3] t)).alloc (.cells #[v0, v1, v2] s)).heap.size ((w.alloc (.cells #[u0, u1, u2, u3] t)).alloc (.cells #[v0, v1, v2] s)) w1) :
    (w1.cell? ⟨w.heap.size, 0, none⟩ = some u0 ∧ w1.cell? ⟨w.heap.size, 1, none⟩ = some u1 ∧ w1.cell? ⟨w.heap.size, 2, none⟩ = some u2 ∧ w1.cell? ⟨w.heap.size, 3, none⟩ = some u3) ∧
    (w1.cell? ⟨w.heap.size + 1, 0, none⟩ = some v0 ∧ w1.cell? ⟨w.heap.size + 1, 1, none⟩ = some v1 ∧ w1.cell? ⟨w.heap.size + 1, 2, none⟩ = some v2) ∧ (∀ j, w1.frozen? ⟨w.heap.size + 1, j, none⟩ = false) ∧ Below w.heap.size w w1 ∧ w1.heap[w.heap.size + 1]? = some (.cells #[v0, v1, v2] s) := by
  refine ⟨?_, ?_, fun j => ?_, ?_, ?_⟩
  · have h := ((Four.new w t u0 u1 u2 u3).below ((Below.refl _ _).alloc (Nat.le_refl _) (.cells #[v0, v1, v2] s)) (by simp)).below hb (by simp; omega)
    exact h
  · have h := c3_al (c3_new (w.alloc (.cells #[u0, u1, u2, u3] t)) s v0 v1 v2) hb (by simp)
    rwa [World.size_alloc] at h
  · rw [hb.frozen (p := ⟨w.heap.size + 1, j, none⟩) (by simp)]
    simp [go_sem]
  · exact (((Below.refl _ w).alloc (Nat.le_refl _) _).alloc (by simp) _).trans (hb.mono (by simp; omega))
  · rw [hb.block _ (by simp)]
    have h := World.alloc_heap_new (w.alloc (.cells #[u0, u1, u2, u3] t)) (.cells #[v0, v1, v2] s)
    rwa [World.size_alloc] at h
theorem row_set3 {w : World} {g : Nat} {v0 v1 v2 : Value} {s : TypeId} (h : w.heap[g]? = some (.cells #[v0, v1, v2] s)) (u0 u1 u2 : Value) : (set3 w g u0 u1 u2).heap[g]? = some (.cells #[u0, u1, u2] s) := by
  unfold set3
  have h0 := heap_setCell_same w g 0 _ s u0 h
  have h1 := heap_setCell_same _ g 1 _ s u1 h0
  have h2 := heap_setCell_same _ g 2 _ s u2 h1
  simpa using h2
theorem fault_res {fn : Func} {p : Tmp} (hfn : fn.results = #[.cell p 34]) (tmps : Array Value) {w : World} {g : Nat} {v0 v1 v2 u0 u1 u2 : Value} {s : TypeId} (h : w.heap[g]? = some (.cells #[v0, v1, v2] s)) (hp : tmps.getD p undef = .pointer (some ⟨g, 0, none⟩)) :
    (results fn tmps).run Tryz.prog (set3 w g u0 u1 u2) = .ok (.agg #[u0, u1, u2]) (set3 w g u0 u1 u2) :=
  results_cell_row hfn tmps _ g s _ _ _ hp (row_set3 h u0 u1 u2) Tryz.underlying34 rfl (by kernel_rfl)
set_option maxHeartbeats 4000000 in
theorem m_ahead_at (L S : Int) (K F : UInt8) (n : Nat) (w : World) (hn : n ≤ 1000000) (b1 b2 b5 bb2 bn : Bool) (hb1 : farB K.toNat S = b1) (hb2 : longB K.toNat F n = b2)
    (h5 : (((K.toNat : Int)) == 5) = b5) (h2 : ((K.toNat : Int) == 2) = bb2) (hbn : decide (16384 < (n : Int)) = bn) :
    Calls Tryz.prog 23 #[.agg #[.int .i64 L, .int .u8 K.toNat, .int .u8 F.toNat, .int .i64 S], .int .i64 n] w fun e w' =>
      e = .returned (if bn then .agg #[.bool true, .int .i64 0, .int .u32 6] else if b5 || b1 then .agg #[.bool true, .int .i64 0, .int .u32 1] else if b2 then if bb2 then .agg #[.bool false, .int .i64 S, .int .u32 6] else .agg #[.bool true, .int .i64 0, .int .u32 6] else .agg #[.bool false, .int .i64 0, .int .u32 0]) ∧ Below w.heap.size w w' := by
  have HFar : Hid (∀ w, Calls Tryz.prog 41 #[.agg #[.int .i64 L, .int .u8 K.toNat, .int .u8 F.toNat, .int .i64 S]] w fun e w' => e = .returned (.bool b1) ∧ Below w.heap.size w w') := Lib.hid (fun w => by have := m_far L S (F.toNat : Int) K.toNat w; rw [hb1] at this; exact this)
  have HLong : Hid (∀ w, Calls Tryz.prog 42 #[.agg #[.int .i64 L, .int .u8 K.toNat, .int .u8 F.toNat, .int .i64 S], .int .i64 n] w fun e w' => e = .returned (.bool b2) ∧ Below w.heap.size w w') := Lib.hid (fun w => by have := m_long L S K F n w hn; rw [hb2] at this; exact this)
  clear hb1 hb2
  have B0 := Lib.hid (Below.refl ((w.alloc (.cells #[.int .i64 L, .int .u8 K.toNat, .int .u8 F.toNat, .int .i64 S] 23)).alloc (.cells #[.bool false, .int .i64 0, .int .u32 0] 34)).heap.size ((w.alloc (.cells #[.int .i64 L, .int .u8 K.toNat, .int .u8 F.toNat, .int .i64 S] 23)).alloc (.cells #[.bool false, .int .i64 0, .int .u32 0] 34)))
  cases bn <;> cases b5 <;> cases b1 <;> cases b2 <;> cases bb2
  all_goals
    simp only [Bool.or_true, Bool.or_false, if_true, if_false, Bool.false_eq_true]
    go_enter Tryz.func23, Tryz.ntmps23
    go_wp2_with (first
      | (go_at_call 41; (with_reducible refine (HFar.out _).mono ?_); rintro e w1 ⟨rfl, hc⟩; have B1 := Lib.hid (B0.out.trans (hc.mono B0.out.size)); clear hc; clear B0; have B0 := Lib.hid B1.out; obtain ⟨⟨p0, p1, p2, p3⟩, ⟨q0, q1, q2⟩, hfz, _, _⟩ := hf_boxes B1.out; clear B1)
      | (go_at_call 42; (with_reducible refine (HLong.out _).mono ?_); rintro e w1 ⟨rfl, hc⟩; have B1 := Lib.hid (B0.out.trans (hc.mono B0.out.size)); clear hc; clear B0; have B0 := Lib.hid B1.out; obtain ⟨⟨p0, p1, p2, p3⟩, ⟨q0, q1, q2⟩, hfz, _, _⟩ := hf_boxes B1.out; clear B1)
      | (go_at_call 17; (with_reducible refine (m_whole _ _).mono ?_); rintro e w1 ⟨rfl, hc⟩; have B1 := Lib.hid (B0.out.trans (hc.mono B0.out.size)); clear hc; clear B0; have B0 := Lib.hid B1.out; obtain ⟨⟨p0, p1, p2, p3⟩, ⟨q0, q1, q2⟩, hfz, hbw, hrow⟩ := hf_boxes B1.out; have HQ := Lib.hid hrow; have HB := Lib.hid hbw; clear hrow; clear hbw B1)
      | (go_at_call 19; (with_reducible refine (m_of _ _ _).mono ?_); rintro e w1 ⟨rfl, hc⟩; have B1 := Lib.hid (B0.out.trans (hc.mono B0.out.size)); clear hc; clear B0; have B0 := Lib.hid B1.out; obtain ⟨⟨p0, p1, p2, p3⟩, ⟨q0, q1, q2⟩, hfz, hbw, hrow⟩ := hf_boxes B1.out; have HQ := Lib.hid hrow; have HB := Lib.hid hbw; clear hrow; clear hbw B1)
      | (go_at_call 24; (with_reducible refine (m_fine _).mono ?_); rintro e w1 ⟨rfl, hc⟩; have B1 := Lib.hid (B0.out.trans (hc.mono B0.out.size)); clear hc; clear B0; have B0 := Lib.hid B1.out; obtain ⟨⟨p0, p1, p2, p3⟩, ⟨q0, q1, q2⟩, hfz, hbw, hrow⟩ := hf_boxes B1.out; have HQ := Lib.hid hrow; have HB := Lib.hid hbw; clear hrow; clear hbw B1))
    exact bodyPost_ret (fault_res rfl _ HQ.out rfl) rfl ⟨rfl, set3_below HB.out (Nat.le_succ _) _ _ _⟩
theorem m_ahead (L S : Int) (K F : UInt8) (n : Nat) (w : World) (hn : n ≤ 1000000) :
    Calls Tryz.prog 23 #[.agg #[.int .i64 L, .int .u8 K.toNat, .int .u8 F.toNat, .int .i64 S], .int .i64 n] w fun e w' => e = .returned (fv (aheadX K.toNat F S n)) ∧ Below w.heap.size w w' := by
  refine (m_ahead_at L S K F n w hn _ _ _ _ _ rfl rfl rfl rfl rfl).mono ?_
  rintro e w' ⟨rfl, hb⟩
  refine ⟨?_, hb⟩
  congr 1
  unfold aheadX fv
  by_cases h1 : 16384 < n
  · have h1' : (16384 : Int) < (n : Int) := by omega
    simp [h1, h1', whole]
  · have h1' : ¬ (16384 : Int) < (n : Int) := by omega
    by_cases h5 : K.toNat = 5
    · simp [h1, h1', h5, whole]
    · have h5' : ¬ (K.toNat : Int) = 5 := by omega
      cases h3 : farB K.toNat S
      · cases h4 : longB K.toNat F n
        · simp [h1, h1', h5, h5', fine]
        · by_cases h2 : K.toNat = 2
          · simp [h1, h1', h2]
          · have h2' : ¬ (K.toNat : Int) = 2 := by omega
            simp [h1, h1', h5, h5', h2, h2', whole]
      · simp [h1, h1', h5, whole]
end Go.Proofs.YtbflhphjnmhjhaaGreat
/- The document's number, own, set. -/
namespace Go.Proofs.YtbflhphjnmhjhaaGreat
open Go.RowKit Oct Fi Fm
attribute [local go_sem] i64_and1 i64_and7 i64_and31
set_option linter.unusedSimpArgs false
namespace Fm
def numN (xs : List UInt8) (n i : Nat) : Nat := if i + 4 ≤ n then takeB ((xs.drop i).take 4) else 0
def ownN (xs : List UInt8) (n i : Nat) : Nat := if i + 4 ≤ n then takeB ((xs.drop i).take 4) % 2147483648 else 0
def setX (p : Pr) : Ft :=
  if (p.1.toNat = 2 ∨ p.1.toNat = 9) ∧ 1 < p.2.toNat then whole 1 else if p.1.toNat = 5 ∧ (p.2.toNat < 16384 ∨ 16777215 < p.2.toNat) then whole 1 else if p.1.toNat = 4 ∧ 2147483647 < p.2.toNat then whole 3 else fine
end Fm
theorem numN_lt (xs : List UInt8) (n i : Nat) : numN xs n i < 4294967296 := by
  unfold numN
  split
  · have := takeB_le xs i 4
    simpa using this
  · omega
theorem m_number (A : Option Addr) (B n c i : Nat) (xs : List UInt8) (w : World) (hA : Bs w B A n xs) (hn : n ≤ 1000000) (hi : i ≤ 1000) :
    Calls Tryz.prog 45 #[.slice A n c, .int .i64 i] w fun e w' => e = .returned (.int .u32 (numN xs n i : Nat)) ∧ w = w' := by
  have HT : Hid (∃ q : Int, Calls Tryz.prog 79 #[.slice A n c, .int .i64 i, .int .i64 4] w fun e w' => e = .returned (.tuple #[.int .i64 (numN xs n i : Nat), .int .i64 q]) ∧ w = w') := Lib.hid (by
    by_cases h : i + 4 ≤ n
    · have := rtake_ok A B n c xs i 4 w hA (by omega) (by omega) (by omega) (by omega) hn
      rw [Int.toNat_natCast, show (4 : Int).toNat = 4 from rfl] at this
      exact ⟨0, by unfold numN; rw [if_pos h]; exact this⟩
    · have := rtake_short A n c i 4 w hn (by omega) (by omega) (by omega) (by omega)
      exact ⟨10, by unfold numN; rw [if_neg h]; exact this⟩)
  have hlt := numN_lt xs n i
  generalize numN xs n i = N at *
  obtain ⟨q, hq⟩ := HT.out
  have HQ := Lib.hid hq
  clear hq HT
  go_enter Tryz.func45, Tryz.ntmps45
  go_wp2_with (go_at_call 79; (with_reducible refine HQ.out.mono ?_); rintro e w' ⟨rfl, rfl⟩)
  go_ret
  exact ⟨rfl, rfl⟩
theorem m_own (A : Option Addr) (B n c i : Nat) (xs : List UInt8) (w : World) (hA : Bs w B A n xs) (hn : n ≤ 1000000) :
    Calls Tryz.prog 47 #[.slice A n c, .int .i64 i] w fun e w' => e = .returned (.int .i64 (ownN xs n i : Nat)) ∧ w = w' := by
  have HT : Hid (∃ q : Int, Calls Tryz.prog 80 #[.slice A n c, .int .i64 i] w fun e w' => e = .returned (.tuple #[.int .i64 (ownN xs n i : Nat), .int .i64 q]) ∧ w = w') := Lib.hid (by
    by_cases h : i + 4 ≤ n
    · have := rstream_ok A B n c xs i w hA (by omega) (by omega) hn
      rw [Int.toNat_natCast] at this
      exact ⟨0, by unfold ownN; rw [if_pos h]; exact this⟩
    · have := rstream_short A n c i w hn (by omega) (by omega)
      exact ⟨10, by unfold ownN; rw [if_neg h]; exact this⟩)
  generalize ownN xs n i = N at *
  obtain ⟨q, hq⟩ := HT.out
  have HQ := Lib.hid hq
  clear hq HT
  go_enter Tryz.func47, Tryz.ntmps47
  go_wp2_with (go_at_call 80; (with_reducible refine HQ.out.mono ?_); rintro e w' ⟨rfl, rfl⟩)
  go_ret
  exact ⟨rfl, rfl⟩
theorem pf_boxes {w w1 : World} {u0 u1 v0 v1 v2 : Value} {t s : TypeId} (hb : Below ((w.alloc (.cells #[u0, u1] t)).alloc (.cells #[v0, v1, v2] s)).heap.size ((w.alloc (.cells #[u0, u1] t)).alloc (.cells #[v0, v1, v2] s)) w1) :
    (w1.cell? ⟨w.heap.size + 1, 0, none⟩ = some v0 ∧ w1.cell? ⟨w.heap.size + 1, 1, none⟩ = some v1 ∧ w1.cell? ⟨w.heap.size + 1, 2, none⟩ = some v2) ∧ (∀ j, w1.frozen? ⟨w.heap.size + 1, j, none⟩ = false) ∧ Below w.heap.size w w1 ∧ w1.heap[w.heap.size + 1]? = some (.cells #[v0, v1, v2] s) := by
  refine ⟨?_, fun j => ?_, ?_, ?_⟩
  · have h := c3_al (c3_new (w.alloc (.cells #[u0, u1] t)) s v0 v1 v2) hb (by simp)
    rwa [World.size_alloc] at h
  · rw [hb.frozen (p := ⟨w.heap.size + 1, j, none⟩) (by simp)]
    simp [go_sem]
  · exact (((Below.refl _ w).alloc (Nat.le_refl _) _).alloc (by simp) _).trans (hb.mono (by simp; omega))
  · rw [hb.block _ (by simp)]
    have h := World.alloc_heap_new (w.alloc (.cells #[u0, u1] t)) (.cells #[v0, v1, v2] s)
    rwa [World.size_alloc] at h
set_option maxHeartbeats 4000000 in
theorem m_set_at (i v : Int) (w : World) (b2 b9 b5 b4 g1 gl gg gm : Bool) (h2 : (i == 2) = b2) (h9 : (i == 9) = b9) (h5 : (i == 5) = b5) (h4 : (i == 4) = b4) (hg1 : decide (1 < v) = g1) (hgl : decide (v < 16384) = gl) (hgg : decide (16777215 < v) = gg) (hgm : decide (2147483647 < v) = gm) :
    Calls Tryz.prog 48 #[.agg #[.int .u16 i, .int .u32 v]] w fun e w' =>
      e = .returned (if (b2 || b9) && g1 then .agg #[.bool true, .int .i64 0, .int .u32 1] else if b5 && (gl || gg) then .agg #[.bool true, .int .i64 0, .int .u32 1] else if b4 && gm then .agg #[.bool true, .int .i64 0, .int .u32 3] else .agg #[.bool false, .int .i64 0, .int .u32 0]) ∧ Below w.heap.size w w' := by
  have hx : (b2 && b9) = false ∧ (b2 && b5) = false ∧ (b2 && b4) = false ∧ (b9 && b5) = false ∧ (b9 && b4) = false ∧ (b5 && b4) = false := by
    rw [← h2, ← h9, ← h5, ← h4]
    refine ⟨?_, ?_, ?_, ?_, ?_, ?_⟩ <;> rw [Bool.eq_false_iff] <;> simp <;> omega
  have B0 := Lib.hid (Below.refl ((w.alloc (.cells #[.int .u16 i, .int .u32 v] 79)).alloc (.cells #[.bool false, .int .i64 0, .int .u32 0] 34)).heap.size ((w.alloc (.cells #[.int .u16 i, .int .u32 v] 79)).alloc (.cells #[.bool false, .int .i64 0, .int .u32 0] 34)))
  obtain ⟨x1, x2, x3, x4, x5, x6⟩ := hx
  cases b2
  · cases b9
    · cases b5
      · cases b4
        · clear x1 x2 x3 x4 x5 x6
          all_goals
            simp only [Bool.or_true, Bool.or_false, Bool.and_true, Bool.and_false, Bool.true_and, Bool.false_and, if_true, if_false, Bool.false_eq_true, Bool.true_or, Bool.false_or]
            go_enter Tryz.func48, Tryz.ntmps48
            go_wp2_with (first
              | (go_at_call 17; (with_reducible refine (m_whole _ _).mono ?_); rintro e w1 ⟨rfl, hc⟩; have B1 := Lib.hid (B0.out.trans (hc.mono B0.out.size)); clear hc; obtain ⟨⟨q0, q1, q2⟩, hfz, hbw, hrow⟩ := pf_boxes B1.out; have HQ := Lib.hid hrow; have HB := Lib.hid hbw; clear hbw hrow B1)
              | (go_at_call 24; (with_reducible refine (m_fine _).mono ?_); rintro e w1 ⟨rfl, hc⟩; have B1 := Lib.hid (B0.out.trans (hc.mono B0.out.size)); clear hc; obtain ⟨⟨q0, q1, q2⟩, hfz, hbw, hrow⟩ := pf_boxes B1.out; have HQ := Lib.hid hrow; have HB := Lib.hid hbw; clear hbw hrow B1))
            exact bodyPost_ret (fault_res rfl _ HQ.out rfl) rfl ⟨rfl, set3_below HB.out (Nat.le_succ _) _ _ _⟩
        · clear x1 x2 x3 x4 x5 x6
          cases gm
          all_goals
            simp only [Bool.or_true, Bool.or_false, Bool.and_true, Bool.and_false, Bool.true_and, Bool.false_and, if_true, if_false, Bool.false_eq_true, Bool.true_or, Bool.false_or]
            go_enter Tryz.func48, Tryz.ntmps48
            go_wp2_with (first
              | (go_at_call 17; (with_reducible refine (m_whole _ _).mono ?_); rintro e w1 ⟨rfl, hc⟩; have B1 := Lib.hid (B0.out.trans (hc.mono B0.out.size)); clear hc; obtain ⟨⟨q0, q1, q2⟩, hfz, hbw, hrow⟩ := pf_boxes B1.out; have HQ := Lib.hid hrow; have HB := Lib.hid hbw; clear hbw hrow B1)
              | (go_at_call 24; (with_reducible refine (m_fine _).mono ?_); rintro e w1 ⟨rfl, hc⟩; have B1 := Lib.hid (B0.out.trans (hc.mono B0.out.size)); clear hc; obtain ⟨⟨q0, q1, q2⟩, hfz, hbw, hrow⟩ := pf_boxes B1.out; have HQ := Lib.hid hrow; have HB := Lib.hid hbw; clear hbw hrow B1))
            exact bodyPost_ret (fault_res rfl _ HQ.out rfl) rfl ⟨rfl, set3_below HB.out (Nat.le_succ _) _ _ _⟩
      · obtain rfl : b4 = false := by simpa using x6
        clear x1 x2 x3 x4 x5 x6
        cases gl <;> cases gg
        all_goals
          simp only [Bool.or_true, Bool.or_false, Bool.and_true, Bool.and_false, Bool.true_and, Bool.false_and, if_true, if_false, Bool.false_eq_true, Bool.true_or, Bool.false_or]
          go_enter Tryz.func48, Tryz.ntmps48
          go_wp2_with (first
            | (go_at_call 17; (with_reducible refine (m_whole _ _).mono ?_); rintro e w1 ⟨rfl, hc⟩; have B1 := Lib.hid (B0.out.trans (hc.mono B0.out.size)); clear hc; obtain ⟨⟨q0, q1, q2⟩, hfz, hbw, hrow⟩ := pf_boxes B1.out; have HQ := Lib.hid hrow; have HB := Lib.hid hbw; clear hbw hrow B1)
            | (go_at_call 24; (with_reducible refine (m_fine _).mono ?_); rintro e w1 ⟨rfl, hc⟩; have B1 := Lib.hid (B0.out.trans (hc.mono B0.out.size)); clear hc; obtain ⟨⟨q0, q1, q2⟩, hfz, hbw, hrow⟩ := pf_boxes B1.out; have HQ := Lib.hid hrow; have HB := Lib.hid hbw; clear hbw hrow B1))
          exact bodyPost_ret (fault_res rfl _ HQ.out rfl) rfl ⟨rfl, set3_below HB.out (Nat.le_succ _) _ _ _⟩
    · obtain rfl : b5 = false := by simpa using x4
      obtain rfl : b4 = false := by simpa using x5
      clear x1 x2 x3 x4 x5 x6
      cases g1
      all_goals
        simp only [Bool.or_true, Bool.or_false, Bool.and_true, Bool.and_false, Bool.true_and, Bool.false_and, if_true, if_false, Bool.false_eq_true, Bool.true_or, Bool.false_or]
        go_enter Tryz.func48, Tryz.ntmps48
        go_wp2_with (first
          | (go_at_call 17; (with_reducible refine (m_whole _ _).mono ?_); rintro e w1 ⟨rfl, hc⟩; have B1 := Lib.hid (B0.out.trans (hc.mono B0.out.size)); clear hc; obtain ⟨⟨q0, q1, q2⟩, hfz, hbw, hrow⟩ := pf_boxes B1.out; have HQ := Lib.hid hrow; have HB := Lib.hid hbw; clear hbw hrow B1)
          | (go_at_call 24; (with_reducible refine (m_fine _).mono ?_); rintro e w1 ⟨rfl, hc⟩; have B1 := Lib.hid (B0.out.trans (hc.mono B0.out.size)); clear hc; obtain ⟨⟨q0, q1, q2⟩, hfz, hbw, hrow⟩ := pf_boxes B1.out; have HQ := Lib.hid hrow; have HB := Lib.hid hbw; clear hbw hrow B1))
        exact bodyPost_ret (fault_res rfl _ HQ.out rfl) rfl ⟨rfl, set3_below HB.out (Nat.le_succ _) _ _ _⟩
  · obtain rfl : b9 = false := by simpa using x1
    obtain rfl : b5 = false := by simpa using x2
    obtain rfl : b4 = false := by simpa using x3
    clear x1 x2 x3 x4 x5 x6
    cases g1
    all_goals
      simp only [Bool.or_true, Bool.or_false, Bool.and_true, Bool.and_false, Bool.true_and, Bool.false_and, if_true, if_false, Bool.false_eq_true, Bool.true_or, Bool.false_or]
      go_enter Tryz.func48, Tryz.ntmps48
      go_wp2_with (first
        | (go_at_call 17; (with_reducible refine (m_whole _ _).mono ?_); rintro e w1 ⟨rfl, hc⟩; have B1 := Lib.hid (B0.out.trans (hc.mono B0.out.size)); clear hc; obtain ⟨⟨q0, q1, q2⟩, hfz, hbw, hrow⟩ := pf_boxes B1.out; have HQ := Lib.hid hrow; have HB := Lib.hid hbw; clear hbw hrow B1)
        | (go_at_call 24; (with_reducible refine (m_fine _).mono ?_); rintro e w1 ⟨rfl, hc⟩; have B1 := Lib.hid (B0.out.trans (hc.mono B0.out.size)); clear hc; obtain ⟨⟨q0, q1, q2⟩, hfz, hbw, hrow⟩ := pf_boxes B1.out; have HQ := Lib.hid hrow; have HB := Lib.hid hbw; clear hbw hrow B1))
      exact bodyPost_ret (fault_res rfl _ HQ.out rfl) rfl ⟨rfl, set3_below HB.out (Nat.le_succ _) _ _ _⟩
theorem m_set (p : Pr) (w : World) :
    Calls Tryz.prog 48 #[.agg #[.int .u16 p.1.toNat, .int .u32 p.2.toNat]] w fun e w' => e = .returned (fv (setX p)) ∧ Below w.heap.size w w' := by
  refine (m_set_at (p.1.toNat : Int) (p.2.toNat : Int) w _ _ _ _ _ _ _ _ rfl rfl rfl rfl rfl rfl rfl rfl).mono ?_
  rintro e w' ⟨rfl, hb⟩
  refine ⟨?_, hb⟩
  congr 1
  unfold setX fv
  generalize p.1.toNat = i
  generalize p.2.toNat = v
  have e : ∀ (a b : Int), (a == b) = decide (a = b) := fun a b => by rw [Bool.eq_iff_iff]; simp
  simp only [e]
  have d2 : decide ((i : Int) = 2) = decide (i = 2) := by rw [Bool.eq_iff_iff]; simp; omega
  have d9 : decide ((i : Int) = 9) = decide (i = 9) := by rw [Bool.eq_iff_iff]; simp; omega
  have d5 : decide ((i : Int) = 5) = decide (i = 5) := by rw [Bool.eq_iff_iff]; simp; omega
  have d4 : decide ((i : Int) = 4) = decide (i = 4) := by rw [Bool.eq_iff_iff]; simp; omega
  have e1 : decide ((1 : Int) < v) = decide (1 < v) := by rw [Bool.eq_iff_iff]; simp; omega
  have el : decide ((v : Int) < 16384) = decide (v < 16384) := by rw [Bool.eq_iff_iff]; simp; omega
  have eg : decide ((16777215 : Int) < v) = decide (16777215 < v) := by rw [Bool.eq_iff_iff]; simp; omega
  have em : decide ((2147483647 : Int) < v) = decide (2147483647 < v) := by rw [Bool.eq_iff_iff]; simp; omega
  rw [d2, d9, d5, d4, e1, el, eg, em]
  by_cases h1 : (i = 2 ∨ i = 9) ∧ 1 < v
  · simp [h1, whole]
  · rw [if_neg h1]
    have h1' : ((decide (i = 2) || decide (i = 9)) && decide (1 < v)) = false := by rw [Bool.eq_false_iff]; simpa using h1
    rw [h1']
    by_cases h2 : i = 5 ∧ (v < 16384 ∨ 16777215 < v)
    · simp [h2, whole]
    · rw [if_neg h2]
      have h2' : (decide (i = 5) && (decide (v < 16384) || decide (16777215 < v))) = false := by rw [Bool.eq_false_iff]; simpa using h2
      rw [h2']
      by_cases h3 : i = 4 ∧ 2147483647 < v
      · simp [h3, whole]
      · rw [if_neg h3]
        have h3' : (decide (i = 4) && decide (2147483647 < v)) = false := by rw [Bool.eq_false_iff]; simpa using h3
        rw [h3']
        rfl
end Go.Proofs.YtbflhphjnmhjhaaGreat
/- The document's data: what stands in DATA's and HEADERS' payload. -/
namespace Go.Proofs.YtbflhphjnmhjhaaGreat
open Go.RowKit Oct Fi Fm
set_option linter.unusedVariables false
attribute [local go_sem] i64_and1 i64_and7 i64_and31

theorem info_F : (Tryz.prog.info? 30).map (·.size) = some 13 := by kernel_rfl
theorem info_H : (Tryz.prog.info? 23).map (·.size) = some 4 := by kernel_rfl
theorem info_X : (Tryz.prog.info? 34).map (·.size) = some 3 := by kernel_rfl
theorem info_R : (Tryz.prog.info? 28).map (·.size) = some 3 := by kernel_rfl
theorem info_B : (Tryz.prog.info? 24).map (·.size) = some 1 := by kernel_rfl
theorem info_P : (Tryz.prog.info? 26).map (·.size) = some 1 := by kernel_rfl
theorem info_i : (Tryz.prog.info? 3).map (·.size) = some 1 := by kernel_rfl
theorem info_n8 : (Tryz.prog.info? 5).map (·.size) = some 1 := by kernel_rfl
theorem info_u32 : (Tryz.prog.info? 25).map (·.size) = some 1 := by kernel_rfl
theorem info_b : (Tryz.prog.info? 4).map (·.size) = some 1 := by kernel_rfl
set_option maxRecDepth 100000 in
set_option maxHeartbeats 4000000 in
theorem m_data_FK (L S K : Int) (F : UInt8) (A : Option Addr) (n c : Nat) (xs : List UInt8) (w : World) (hA : Bs w w.heap.size A n xs) (hN : A = none → c = 0) (hn : n ≤ 100000) (hp : hasB (F.toNat : Int) 8 = false) (hk : (K == 1) = false) :
    Calls Tryz.prog 43 #[.agg (hF0 K F.toNat S), .agg #[.int .i64 L, .int .u8 K, .int .u8 F.toNat, .int .i64 S], .slice A n c] w fun e w' => ∃ A' n' c', e = .returned (.tuple #[.agg (fr13 K F.toNat S A' n' c' 0 0 0 0 none 0 0 false false 0 0), .bool true]) ∧ HandS w' w.heap.size A' n' c' xs ∧ Below w.heap.size w w' := by
  obtain ⟨i0, hi, hz0, hz1, hz2⟩ := info_parts info_u8
  have hinf := Lib.hid (And.intro hi (And.intro hz0 (And.intro hz1 hz2)))
  have HX : Hid (xs.length = n) := Lib.hid hA.1
  have HN := Lib.hid hN
  have HF8 : Hid (∀ w, Calls Tryz.prog 77 #[.agg #[.int .i64 L, .int .u8 K, .int .u8 F.toNat, .int .i64 S], .int .u8 8] w fun e w' => e = .returned (.bool false) ∧ Below w.heap.size w w') := Lib.hid (fun w => by have := m_has L S K F 8 w; rw [hp] at this; exact this)
  have K0 := Lib.hid (((((EnvB.nil w).addS0 hA).box 30 (hF0 K F.toNat S)).boxg 23 #[.int .i64 L, .int .u8 K, .int .u8 F.toNat, .int .i64 S] (w.heap.size + 1) (by simp)).boxg 30 zF0 (w.heap.size + 1 + 1) (by simp))
  have B0 : Hid (Below w.heap.size w (((w.alloc (.cells (hF0 K F.toNat S) 30)).alloc (.cells #[.int .i64 L, .int .u8 K, .int .u8 F.toNat, .int .i64 S] 23)).alloc (.cells zF0 30))) := Lib.hid ((((Below.refl _ w).alloc (Nat.le_refl _) _).alloc (by simp) _).alloc (by simp only [World.size_alloc]; omega) _)
  clear hi hz0 hz1 hz2 hA hN hp
  go_enter Tryz.func43, Tryz.ntmps43
  go_wp2_with (first
    | (at_builtin; refine wpList_append_bytes _ rfl (.tmp 14) (.tmp 15) 24 rfl (((w.alloc (.cells (hF0 K F.toNat S) 30)).alloc (.cells #[.int .i64 L, .int .u8 K, .int .u8 F.toNat, .int .i64 S] 23)).alloc (.cells zF0 30)).heap.size 5 i0 Tryz.underlying24 hinf.out.1 hinf.out.2.1 hinf.out.2.2.1 hinf.out.2.2.2 _ [] rfl (OwnB.lit2 (((w.alloc (.cells (hF0 K F.toNat S) 30)).alloc (.cells #[.int .i64 L, .int .u8 K, .int .u8 F.toNat, .int .i64 S] 23)).alloc (.cells zF0 30)) _ _ _ (by simp) (by simp)) _ A n c xs rfl ((K0.out.al _).s (A, n, xs) (by simp)).1 HN.out (by simp; omega) (by simp) ?_; intro v1 w1 hown1 hb1; rw [List.nil_append] at hown1; obtain ⟨A1, c1, rfl, hh⟩ := hown1.handS HX.out; have hb := ((Below.refl _ (((w.alloc (.cells (hF0 K F.toNat S) 30)).alloc (.cells #[.int .i64 L, .int .u8 K, .int .u8 F.toNat, .int .i64 S] 23)).alloc (.cells zF0 30))).alloc (Nat.le_refl _) _).trans hb1; have K1 := Lib.hid (K0.out.handS hb hh); have B1 := Lib.hid (below_step B0.out hb); have HD1 := Lib.hid (hh.2.1.less B0.out.size); have HC1 := Lib.hid hh.2.2; clear hown1 hb1 hb hh K0 B0)
    | (refine at_store 24 (.tmp 17) (.tmp 16) (by rfl) ?_; refine wpList_put (by rfl) 24 (.tmp 17) (.tmp 16) (by rfl) (w.heap.size) 3 (.slice A1 n c1) (by rfl) (by rfl) 30 _ (fr13 K F.toNat S A1 n c1 0 0 0 0 none 0 0 false false 0 0) (K1.out.row 2 rfl) (by simp [Value.cells]) (by kernel_rfl) info_B (by kernel_rfl) ?_; intro w2 hrow hoth hz hbl; have K2 := Lib.hid (K1.out.turn 2 rfl hrow hoth hz); have B2 := Lib.hid (hbl _ _ (by omega) B1.out); clear hrow hoth hz hbl K1 B1; obtain ⟨h_0, h_1, h_2, h_3⟩ := c4_row (K2.out.row 1 rfl))
    | (refine at_load 23 (.tmp 4) (by rfl) ?_; refine wpList_load_row (by rfl) 23 (.tmp 4) (by rfl) (w.heap.size + 1) (by rfl) 23 _ (0, 0) _ (K2.out.row 1 rfl) Tryz.underlying23 (by rfl) info_H ?_)
    | (go_at_call 77; (with_reducible refine (HF8.out _).mono ?_); rintro e w3 ⟨rfl, hb⟩; have K3 := Lib.hid (K2.out.on hb); have B3 := Lib.hid (below_step B2.out hb); clear hb K2 B2; obtain ⟨h_0, h_1, h_2, h_3⟩ := c4_row (K3.out.row 1 rfl))
    | (refine at_load 5 (.tmp 33) (by rfl) ?_; refine wpList_get (by rfl) 5 (.tmp 33) (by rfl) (w.heap.size + 1) 1 (by rfl) 23 _ (.int .u8 K) _ (K3.out.row 1 rfl) (by rfl) Tryz.underlying5 (by rfl) ?_)
    | (refine at_load 30 (.tmp 3) (by rfl) ?_; refine wpList_load_row (by rfl) 30 (.tmp 3) (by rfl) (w.heap.size) (by rfl) 30 _ (0, 0) _ (K3.out.row 2 rfl) Tryz.underlying30 (by rfl) info_F ?_)
    | (refine at_store 30 (.tmp 6) (.tmp 55) (by rfl) ?_; refine wpList_put (by rfl) 30 (.tmp 6) (.tmp 55) (by rfl) (w.heap.size + 1 + 1) 0 (.agg (fr13 K F.toNat S A1 n c1 0 0 0 0 none 0 0 false false 0 0)) (by rfl) (by rfl) 30 _ (fr13 K F.toNat S A1 n c1 0 0 0 0 none 0 0 false false 0 0) (K3.out.row 0 rfl) (by simp [Value.cells]) (by kernel_rfl) info_F (by kernel_rfl) ?_; intro w4 hrow hoth hz hbl; have K4 := Lib.hid (K3.out.turn 0 rfl hrow hoth hz); have B4 := Lib.hid (hbl _ _ (by omega) B3.out); clear hrow hoth hz hbl K3 B3; obtain ⟨h_0, h_1, h_2, h_3⟩ := c4_row (K4.out.row 1 rfl)))
  exact bodyPost_ret (res_cell_tmp rfl _ _ _ _ _ _ rfl (K4.out.row 0 rfl) Tryz.underlying30 rfl info_F) rfl ⟨A1, n, c1, rfl, ⟨(K4.out.s (A1, n, xs) (by simp)).1, HD1.out, HC1.out⟩, B4.out⟩
set_option maxRecDepth 100000 in
set_option maxHeartbeats 4000000 in
theorem m_data_FF (L S K : Int) (F : UInt8) (A : Option Addr) (n c : Nat) (xs : List UInt8) (w : World) (hA : Bs w w.heap.size A n xs) (hN : A = none → c = 0) (hn : n ≤ 100000) (hp : hasB (F.toNat : Int) 8 = false) (hk : (K == 1) = true) (hr : hasB (F.toNat : Int) 32 = false) :
    Calls Tryz.prog 43 #[.agg (hF0 K F.toNat S), .agg #[.int .i64 L, .int .u8 K, .int .u8 F.toNat, .int .i64 S], .slice A n c] w fun e w' => ∃ A' n' c', e = .returned (.tuple #[.agg (fr13 K F.toNat S A' n' c' 0 0 0 0 none 0 0 false false 0 0), .bool true]) ∧ HandS w' w.heap.size A' n' c' xs ∧ Below w.heap.size w w' := by
  obtain ⟨i0, hi, hz0, hz1, hz2⟩ := info_parts info_u8
  have hinf := Lib.hid (And.intro hi (And.intro hz0 (And.intro hz1 hz2)))
  have HX : Hid (xs.length = n) := Lib.hid hA.1
  have HN := Lib.hid hN
  have HF8 : Hid (∀ w, Calls Tryz.prog 77 #[.agg #[.int .i64 L, .int .u8 K, .int .u8 F.toNat, .int .i64 S], .int .u8 8] w fun e w' => e = .returned (.bool false) ∧ Below w.heap.size w w') := Lib.hid (fun w => by have := m_has L S K F 8 w; rw [hp] at this; exact this)
  have HF32 : Hid (∀ w, Calls Tryz.prog 77 #[.agg #[.int .i64 L, .int .u8 K, .int .u8 F.toNat, .int .i64 S], .int .u8 32] w fun e w' => e = .returned (.bool false) ∧ Below w.heap.size w w') := Lib.hid (fun w => by have := m_has L S K F 32 w; rw [hr] at this; exact this)
  clear hr
  have K0 := Lib.hid (((((EnvB.nil w).addS0 hA).box 30 (hF0 K F.toNat S)).boxg 23 #[.int .i64 L, .int .u8 K, .int .u8 F.toNat, .int .i64 S] (w.heap.size + 1) (by simp)).boxg 30 zF0 (w.heap.size + 1 + 1) (by simp))
  have B0 : Hid (Below w.heap.size w (((w.alloc (.cells (hF0 K F.toNat S) 30)).alloc (.cells #[.int .i64 L, .int .u8 K, .int .u8 F.toNat, .int .i64 S] 23)).alloc (.cells zF0 30))) := Lib.hid ((((Below.refl _ w).alloc (Nat.le_refl _) _).alloc (by simp) _).alloc (by simp only [World.size_alloc]; omega) _)
  clear hi hz0 hz1 hz2 hA hN hp
  go_enter Tryz.func43, Tryz.ntmps43
  go_wp2_with (first
    | (at_builtin; refine wpList_append_bytes _ rfl (.tmp 14) (.tmp 15) 24 rfl (((w.alloc (.cells (hF0 K F.toNat S) 30)).alloc (.cells #[.int .i64 L, .int .u8 K, .int .u8 F.toNat, .int .i64 S] 23)).alloc (.cells zF0 30)).heap.size 5 i0 Tryz.underlying24 hinf.out.1 hinf.out.2.1 hinf.out.2.2.1 hinf.out.2.2.2 _ [] rfl (OwnB.lit2 (((w.alloc (.cells (hF0 K F.toNat S) 30)).alloc (.cells #[.int .i64 L, .int .u8 K, .int .u8 F.toNat, .int .i64 S] 23)).alloc (.cells zF0 30)) _ _ _ (by simp) (by simp)) _ A n c xs rfl ((K0.out.al _).s (A, n, xs) (by simp)).1 HN.out (by simp; omega) (by simp) ?_; intro v1 w1 hown1 hb1; rw [List.nil_append] at hown1; obtain ⟨A1, c1, rfl, hh⟩ := hown1.handS HX.out; have hb := ((Below.refl _ (((w.alloc (.cells (hF0 K F.toNat S) 30)).alloc (.cells #[.int .i64 L, .int .u8 K, .int .u8 F.toNat, .int .i64 S] 23)).alloc (.cells zF0 30))).alloc (Nat.le_refl _) _).trans hb1; have K1 := Lib.hid (K0.out.handS hb hh); have B1 := Lib.hid (below_step B0.out hb); have HD1 := Lib.hid (hh.2.1.less B0.out.size); have HC1 := Lib.hid hh.2.2; clear hown1 hb1 hb hh K0 B0)
    | (refine at_store 24 (.tmp 17) (.tmp 16) (by rfl) ?_; refine wpList_put (by rfl) 24 (.tmp 17) (.tmp 16) (by rfl) (w.heap.size) 3 (.slice A1 n c1) (by rfl) (by rfl) 30 _ (fr13 K F.toNat S A1 n c1 0 0 0 0 none 0 0 false false 0 0) (K1.out.row 2 rfl) (by simp [Value.cells]) (by kernel_rfl) info_B (by kernel_rfl) ?_; intro w2 hrow hoth hz hbl; have K2 := Lib.hid (K1.out.turn 2 rfl hrow hoth hz); have B2 := Lib.hid (hbl _ _ (by omega) B1.out); clear hrow hoth hz hbl K1 B1; obtain ⟨h_0, h_1, h_2, h_3⟩ := c4_row (K2.out.row 1 rfl))
    | (refine at_load 23 (.tmp 4) (by rfl) ?_; refine wpList_load_row (by rfl) 23 (.tmp 4) (by rfl) (w.heap.size + 1) (by rfl) 23 _ (0, 0) _ (K2.out.row 1 rfl) Tryz.underlying23 (by rfl) info_H ?_)
    | (go_at_call 77; (with_reducible refine (HF8.out _).mono ?_); rintro e w3 ⟨rfl, hb⟩; have K3 := Lib.hid (K2.out.on hb); have B3 := Lib.hid (below_step B2.out hb); clear hb K2 B2; obtain ⟨h_0, h_1, h_2, h_3⟩ := c4_row (K3.out.row 1 rfl))
    | (refine at_load 5 (.tmp 33) (by rfl) ?_; refine wpList_get (by rfl) 5 (.tmp 33) (by rfl) (w.heap.size + 1) 1 (by rfl) 23 _ (.int .u8 K) _ (K3.out.row 1 rfl) (by rfl) Tryz.underlying5 (by rfl) ?_)
    | (go_at_call 77; (with_reducible refine (HF32.out _).mono ?_); rintro e w4 ⟨rfl, hb⟩; have K4 := Lib.hid (K3.out.on hb); have B4 := Lib.hid (below_step B3.out hb); clear hb K3 B3; obtain ⟨h_0, h_1, h_2, h_3⟩ := c4_row (K4.out.row 1 rfl))
    | (refine at_load 30 (.tmp 3) (by rfl) ?_; refine wpList_load_row (by rfl) 30 (.tmp 3) (by rfl) (w.heap.size) (by rfl) 30 _ (0, 0) _ (K4.out.row 2 rfl) Tryz.underlying30 (by rfl) info_F ?_)
    | (refine at_store 30 (.tmp 6) (.tmp 55) (by rfl) ?_; refine wpList_put (by rfl) 30 (.tmp 6) (.tmp 55) (by rfl) (w.heap.size + 1 + 1) 0 (.agg (fr13 K F.toNat S A1 n c1 0 0 0 0 none 0 0 false false 0 0)) (by rfl) (by rfl) 30 _ (fr13 K F.toNat S A1 n c1 0 0 0 0 none 0 0 false false 0 0) (K4.out.row 0 rfl) (by simp [Value.cells]) (by kernel_rfl) info_F (by kernel_rfl) ?_; intro w5 hrow hoth hz hbl; have K5 := Lib.hid (K4.out.turn 0 rfl hrow hoth hz); have B5 := Lib.hid (hbl _ _ (by omega) B4.out); clear hrow hoth hz hbl K4 B4; obtain ⟨h_0, h_1, h_2, h_3⟩ := c4_row (K5.out.row 1 rfl)))
  exact bodyPost_ret (res_cell_tmp rfl _ _ _ _ _ _ rfl (K5.out.row 0 rfl) Tryz.underlying30 rfl info_F) rfl ⟨A1, n, c1, rfl, ⟨(K5.out.s (A1, n, xs) (by simp)).1, HD1.out, HC1.out⟩, B5.out⟩
set_option maxRecDepth 100000 in
set_option maxHeartbeats 4000000 in
theorem m_data_FY (L S K : Int) (F : UInt8) (A : Option Addr) (n c : Nat) (xs : List UInt8) (w : World) (hA : Bs w w.heap.size A n xs) (hN : A = none → c = 0) (hn : n ≤ 100000) (hp : hasB (F.toNat : Int) 8 = false) (hk : (K == 1) = true) (hr : hasB (F.toNat : Int) 32 = true) (zs : List UInt8) (n3 : Nat) (ra : Bool) (rd rw re : Int) (hzs : zs.length = n3) (hre : (re != 0) = false) (HT : Hid (∀ D d w0, Bs w0 w0.heap.size D n xs → n ≤ d → Calls Tryz.prog 44 #[.slice D n d] w0 fun e w' => ∃ v, e = .returned (.tuple #[.agg #[.bool ra, .int .i64 rd, .int .u8 rw], v, .int .i64 re]) ∧ OwnB w' w0.heap.size 5 v zs ∧ Below w0.heap.size w0 w')) :
    Calls Tryz.prog 43 #[.agg (hF0 K F.toNat S), .agg #[.int .i64 L, .int .u8 K, .int .u8 F.toNat, .int .i64 S], .slice A n c] w fun e w' => ∃ A' n' c', e = .returned (.tuple #[.agg (fr13 K F.toNat S A' n' c' 0 0 0 0 none 0 0 true ra rd rw), .bool true]) ∧ HandS w' w.heap.size A' n' c' zs ∧ Below w.heap.size w w' := by
  obtain ⟨i0, hi, hz0, hz1, hz2⟩ := info_parts info_u8
  have hinf := Lib.hid (And.intro hi (And.intro hz0 (And.intro hz1 hz2)))
  have HX : Hid (xs.length = n) := Lib.hid hA.1
  have HN := Lib.hid hN
  have HF8 : Hid (∀ w, Calls Tryz.prog 77 #[.agg #[.int .i64 L, .int .u8 K, .int .u8 F.toNat, .int .i64 S], .int .u8 8] w fun e w' => e = .returned (.bool false) ∧ Below w.heap.size w w') := Lib.hid (fun w => by have := m_has L S K F 8 w; rw [hp] at this; exact this)
  have HF32 : Hid (∀ w, Calls Tryz.prog 77 #[.agg #[.int .i64 L, .int .u8 K, .int .u8 F.toNat, .int .i64 S], .int .u8 32] w fun e w' => e = .returned (.bool true) ∧ Below w.heap.size w w') := Lib.hid (fun w => by have := m_has L S K F 32 w; rw [hr] at this; exact this)
  clear hr
  have HTL := Lib.hid hzs
  clear hzs
  have K0 := Lib.hid (((((EnvB.nil w).addS0 hA).box 30 (hF0 K F.toNat S)).boxg 23 #[.int .i64 L, .int .u8 K, .int .u8 F.toNat, .int .i64 S] (w.heap.size + 1) (by simp)).boxg 30 zF0 (w.heap.size + 1 + 1) (by simp))
  have B0 : Hid (Below w.heap.size w (((w.alloc (.cells (hF0 K F.toNat S) 30)).alloc (.cells #[.int .i64 L, .int .u8 K, .int .u8 F.toNat, .int .i64 S] 23)).alloc (.cells zF0 30))) := Lib.hid ((((Below.refl _ w).alloc (Nat.le_refl _) _).alloc (by simp) _).alloc (by simp only [World.size_alloc]; omega) _)
  clear hi hz0 hz1 hz2 hA hN hp
  go_enter Tryz.func43, Tryz.ntmps43
  go_wp2_with (first
    | (at_builtin; refine wpList_append_bytes _ rfl (.tmp 14) (.tmp 15) 24 rfl (((w.alloc (.cells (hF0 K F.toNat S) 30)).alloc (.cells #[.int .i64 L, .int .u8 K, .int .u8 F.toNat, .int .i64 S] 23)).alloc (.cells zF0 30)).heap.size 5 i0 Tryz.underlying24 hinf.out.1 hinf.out.2.1 hinf.out.2.2.1 hinf.out.2.2.2 _ [] rfl (OwnB.lit2 (((w.alloc (.cells (hF0 K F.toNat S) 30)).alloc (.cells #[.int .i64 L, .int .u8 K, .int .u8 F.toNat, .int .i64 S] 23)).alloc (.cells zF0 30)) _ _ _ (by simp) (by simp)) _ A n c xs rfl ((K0.out.al _).s (A, n, xs) (by simp)).1 HN.out (by simp; omega) (by simp) ?_; intro v1 w1 hown1 hb1; rw [List.nil_append] at hown1; obtain ⟨A1, c1, rfl, hh⟩ := hown1.handS HX.out; have hb := ((Below.refl _ (((w.alloc (.cells (hF0 K F.toNat S) 30)).alloc (.cells #[.int .i64 L, .int .u8 K, .int .u8 F.toNat, .int .i64 S] 23)).alloc (.cells zF0 30))).alloc (Nat.le_refl _) _).trans hb1; have K1 := Lib.hid (K0.out.handS hb hh); have B1 := Lib.hid (below_step B0.out hb); have HD1 := Lib.hid (hh.2.1.less B0.out.size); have HC1 := Lib.hid hh.2.2; clear hown1 hb1 hb hh K0 B0)
    | (refine at_store 24 (.tmp 17) (.tmp 16) (by rfl) ?_; refine wpList_put (by rfl) 24 (.tmp 17) (.tmp 16) (by rfl) (w.heap.size) 3 (.slice A1 n c1) (by rfl) (by rfl) 30 _ (fr13 K F.toNat S A1 n c1 0 0 0 0 none 0 0 false false 0 0) (K1.out.row 2 rfl) (by simp [Value.cells]) (by kernel_rfl) info_B (by kernel_rfl) ?_; intro w2 hrow hoth hz hbl; have K2 := Lib.hid (K1.out.turn 2 rfl hrow hoth hz); have B2 := Lib.hid (hbl _ _ (by omega) B1.out); clear hrow hoth hz hbl K1 B1; obtain ⟨h_0, h_1, h_2, h_3⟩ := c4_row (K2.out.row 1 rfl))
    | (refine at_load 23 (.tmp 4) (by rfl) ?_; refine wpList_load_row (by rfl) 23 (.tmp 4) (by rfl) (w.heap.size + 1) (by rfl) 23 _ (0, 0) _ (K2.out.row 1 rfl) Tryz.underlying23 (by rfl) info_H ?_)
    | (go_at_call 77; (with_reducible refine (HF8.out _).mono ?_); rintro e w3 ⟨rfl, hb⟩; have K3 := Lib.hid (K2.out.on hb); have B3 := Lib.hid (below_step B2.out hb); clear hb K2 B2; obtain ⟨h_0, h_1, h_2, h_3⟩ := c4_row (K3.out.row 1 rfl))
    | (refine at_load 5 (.tmp 33) (by rfl) ?_; refine wpList_get (by rfl) 5 (.tmp 33) (by rfl) (w.heap.size + 1) 1 (by rfl) 23 _ (.int .u8 K) _ (K3.out.row 1 rfl) (by rfl) Tryz.underlying5 (by rfl) ?_)
    | (go_at_call 77; (with_reducible refine (HF32.out _).mono ?_); rintro e w4 ⟨rfl, hb⟩; have K4 := Lib.hid (K3.out.on hb); have B4 := Lib.hid (below_step B3.out hb); clear hb K3 B3; obtain ⟨h_0, h_1, h_2, h_3⟩ := c4_row (K4.out.row 1 rfl))
    | (refine at_load 24 (.tmp 41) (by rfl) ?_; refine wpList_get (by rfl) 24 (.tmp 41) (by rfl) (w.heap.size) 3 (by rfl) 30 _ (.slice A1 n c1) _ (K4.out.row 2 rfl) (by rfl) Tryz.underlying24 (by rfl) ?_)
    | (go_at_call 44; (with_reducible refine (HT.out A1 c1 _ (K4.out.s (A1, n, xs) (by simp)).1 HC1.out.1).mono ?_); rintro e w5 ⟨v3, rfl, ho, hb⟩; obtain ⟨A3, c3, rfl, hh⟩ := ho.handS HTL.out; have K5 := Lib.hid (K4.out.handS hb hh); have B5 := Lib.hid (below_step B4.out hb); have HD3 := Lib.hid (hh.2.1.less B4.out.size); have HC3 := Lib.hid hh.2.2; clear ho hh; clear hb K4 B4; have K6 := Lib.hid (K5.out.box 28 #[.bool ra, .int .i64 rd, .int .u8 rw]); have B6 := Lib.hid (B5.out.alloc B5.out.size (.cells #[.bool ra, .int .i64 rd, .int .u8 rw] 28)); clear K5 B5; obtain ⟨h_0, h_1, h_2, h_3⟩ := c4_row (K6.out.row 2 rfl))
    | (refine at_store 4 (.tmp 50) (.const (.bool true)) (by rfl) ?_; refine wpList_put (by rfl) 4 (.tmp 50) (.const (.bool true)) (by rfl) (w.heap.size) 9 (.bool true) (by rfl) (by rfl) 30 _ (fr13 K F.toNat S A1 n c1 0 0 0 0 none 0 0 true false 0 0) (K6.out.row 3 rfl) (by simp [Value.cells]) (by kernel_rfl) info_b (by kernel_rfl) ?_; intro w7 hrow hoth hz hbl; have K7 := Lib.hid (K6.out.turn 3 rfl hrow hoth hz); have B7 := Lib.hid (hbl _ _ (by omega) B6.out); clear hrow hoth hz hbl K6 B6; obtain ⟨h_0, h_1, h_2, h_3⟩ := c4_row (K7.out.row 2 rfl))
    | (refine at_load 28 (.tmp 11) (by rfl) ?_; refine wpList_load_row (by rfl) 28 (.tmp 11) (by rfl) (w5.heap.size) (by rfl) 28 _ (0, 0) _ (K7.out.row 0 rfl) Tryz.underlying28 (by rfl) info_R ?_)
    | (refine at_store 28 (.tmp 52) (.tmp 51) (by rfl) ?_; refine wpList_put (by rfl) 28 (.tmp 52) (.tmp 51) (by rfl) (w.heap.size) 10 (.agg #[.bool ra, .int .i64 rd, .int .u8 rw]) (by rfl) (by rfl) 30 _ (fr13 K F.toNat S A1 n c1 0 0 0 0 none 0 0 true ra rd rw) (K7.out.row 3 rfl) (by simp [Value.cells]) (by kernel_rfl) info_R (by kernel_rfl) ?_; intro w8 hrow hoth hz hbl; have K8 := Lib.hid (K7.out.turn 3 rfl hrow hoth hz); have B8 := Lib.hid (hbl _ _ (by omega) B7.out); clear hrow hoth hz hbl K7 B7; obtain ⟨h_0, h_1, h_2, h_3⟩ := c4_row (K8.out.row 2 rfl))
    | (refine at_store 24 (.tmp 54) (.tmp 53) (by rfl) ?_; refine wpList_put (by rfl) 24 (.tmp 54) (.tmp 53) (by rfl) (w.heap.size) 3 (.slice A3 n3 c3) (by rfl) (by rfl) 30 _ (fr13 K F.toNat S A3 n3 c3 0 0 0 0 none 0 0 true ra rd rw) (K8.out.row 3 rfl) (by simp [Value.cells]) (by kernel_rfl) info_B (by kernel_rfl) ?_; intro w9 hrow hoth hz hbl; have K9 := Lib.hid (K8.out.turn 3 rfl hrow hoth hz); have B9 := Lib.hid (hbl _ _ (by omega) B8.out); clear hrow hoth hz hbl K8 B8; obtain ⟨h_0, h_1, h_2, h_3⟩ := c4_row (K9.out.row 2 rfl))
    | (refine at_load 30 (.tmp 3) (by rfl) ?_; refine wpList_load_row (by rfl) 30 (.tmp 3) (by rfl) (w.heap.size) (by rfl) 30 _ (0, 0) _ (K9.out.row 3 rfl) Tryz.underlying30 (by rfl) info_F ?_)
    | (refine at_store 30 (.tmp 6) (.tmp 55) (by rfl) ?_; refine wpList_put (by rfl) 30 (.tmp 6) (.tmp 55) (by rfl) (w.heap.size + 1 + 1) 0 (.agg (fr13 K F.toNat S A3 n3 c3 0 0 0 0 none 0 0 true ra rd rw)) (by rfl) (by rfl) 30 _ (fr13 K F.toNat S A3 n3 c3 0 0 0 0 none 0 0 true ra rd rw) (K9.out.row 1 rfl) (by simp [Value.cells]) (by kernel_rfl) info_F (by kernel_rfl) ?_; intro w10 hrow hoth hz hbl; have K10 := Lib.hid (K9.out.turn 1 rfl hrow hoth hz); have B10 := Lib.hid (hbl _ _ (by omega) B9.out); clear hrow hoth hz hbl K9 B9; obtain ⟨h_0, h_1, h_2, h_3⟩ := c4_row (K10.out.row 2 rfl)))
  exact bodyPost_ret (res_cell_tmp rfl _ _ _ _ _ _ rfl (K10.out.row 1 rfl) Tryz.underlying30 rfl info_F) rfl ⟨A3, n3, c3, rfl, ⟨(K10.out.s (A3, n3, zs) (by simp)).1, HD3.out, HC3.out⟩, B10.out⟩
set_option maxRecDepth 100000 in
set_option maxHeartbeats 4000000 in
theorem m_data_FN (L S K : Int) (F : UInt8) (A : Option Addr) (n c : Nat) (xs : List UInt8) (w : World) (hA : Bs w w.heap.size A n xs) (hN : A = none → c = 0) (hn : n ≤ 100000) (hp : hasB (F.toNat : Int) 8 = false) (hk : (K == 1) = true) (hr : hasB (F.toNat : Int) 32 = true) (zs : List UInt8) (n3 : Nat) (ra : Bool) (rd rw re : Int) (hzs : zs.length = n3) (hre : (re != 0) = true) (HT : Hid (∀ D d w0, Bs w0 w0.heap.size D n xs → n ≤ d → Calls Tryz.prog 44 #[.slice D n d] w0 fun e w' => ∃ v, e = .returned (.tuple #[.agg #[.bool ra, .int .i64 rd, .int .u8 rw], v, .int .i64 re]) ∧ OwnB w' w0.heap.size 5 v zs ∧ Below w0.heap.size w0 w')) :
    Calls Tryz.prog 43 #[.agg (hF0 K F.toNat S), .agg #[.int .i64 L, .int .u8 K, .int .u8 F.toNat, .int .i64 S], .slice A n c] w fun e w' => ∃ A' n' c', e = .returned (.tuple #[.agg (fr13 K F.toNat S A' n' c' 0 0 0 0 none 0 0 false false 0 0), .bool false]) ∧ HandS w' w.heap.size A' n' c' xs ∧ Below w.heap.size w w' := by
  obtain ⟨i0, hi, hz0, hz1, hz2⟩ := info_parts info_u8
  have hinf := Lib.hid (And.intro hi (And.intro hz0 (And.intro hz1 hz2)))
  have HX : Hid (xs.length = n) := Lib.hid hA.1
  have HN := Lib.hid hN
  have HF8 : Hid (∀ w, Calls Tryz.prog 77 #[.agg #[.int .i64 L, .int .u8 K, .int .u8 F.toNat, .int .i64 S], .int .u8 8] w fun e w' => e = .returned (.bool false) ∧ Below w.heap.size w w') := Lib.hid (fun w => by have := m_has L S K F 8 w; rw [hp] at this; exact this)
  have HF32 : Hid (∀ w, Calls Tryz.prog 77 #[.agg #[.int .i64 L, .int .u8 K, .int .u8 F.toNat, .int .i64 S], .int .u8 32] w fun e w' => e = .returned (.bool true) ∧ Below w.heap.size w w') := Lib.hid (fun w => by have := m_has L S K F 32 w; rw [hr] at this; exact this)
  clear hr
  have HTL := Lib.hid hzs
  clear hzs
  have K0 := Lib.hid (((((EnvB.nil w).addS0 hA).box 30 (hF0 K F.toNat S)).boxg 23 #[.int .i64 L, .int .u8 K, .int .u8 F.toNat, .int .i64 S] (w.heap.size + 1) (by simp)).boxg 30 zF0 (w.heap.size + 1 + 1) (by simp))
  have B0 : Hid (Below w.heap.size w (((w.alloc (.cells (hF0 K F.toNat S) 30)).alloc (.cells #[.int .i64 L, .int .u8 K, .int .u8 F.toNat, .int .i64 S] 23)).alloc (.cells zF0 30))) := Lib.hid ((((Below.refl _ w).alloc (Nat.le_refl _) _).alloc (by simp) _).alloc (by simp only [World.size_alloc]; omega) _)
  clear hi hz0 hz1 hz2 hA hN hp
  go_enter Tryz.func43, Tryz.ntmps43
  go_wp2_with (first
    | (at_builtin; refine wpList_append_bytes _ rfl (.tmp 14) (.tmp 15) 24 rfl (((w.alloc (.cells (hF0 K F.toNat S) 30)).alloc (.cells #[.int .i64 L, .int .u8 K, .int .u8 F.toNat, .int .i64 S] 23)).alloc (.cells zF0 30)).heap.size 5 i0 Tryz.underlying24 hinf.out.1 hinf.out.2.1 hinf.out.2.2.1 hinf.out.2.2.2 _ [] rfl (OwnB.lit2 (((w.alloc (.cells (hF0 K F.toNat S) 30)).alloc (.cells #[.int .i64 L, .int .u8 K, .int .u8 F.toNat, .int .i64 S] 23)).alloc (.cells zF0 30)) _ _ _ (by simp) (by simp)) _ A n c xs rfl ((K0.out.al _).s (A, n, xs) (by simp)).1 HN.out (by simp; omega) (by simp) ?_; intro v1 w1 hown1 hb1; rw [List.nil_append] at hown1; obtain ⟨A1, c1, rfl, hh⟩ := hown1.handS HX.out; have hb := ((Below.refl _ (((w.alloc (.cells (hF0 K F.toNat S) 30)).alloc (.cells #[.int .i64 L, .int .u8 K, .int .u8 F.toNat, .int .i64 S] 23)).alloc (.cells zF0 30))).alloc (Nat.le_refl _) _).trans hb1; have K1 := Lib.hid (K0.out.handS hb hh); have B1 := Lib.hid (below_step B0.out hb); have HD1 := Lib.hid (hh.2.1.less B0.out.size); have HC1 := Lib.hid hh.2.2; clear hown1 hb1 hb hh K0 B0)
    | (refine at_store 24 (.tmp 17) (.tmp 16) (by rfl) ?_; refine wpList_put (by rfl) 24 (.tmp 17) (.tmp 16) (by rfl) (w.heap.size) 3 (.slice A1 n c1) (by rfl) (by rfl) 30 _ (fr13 K F.toNat S A1 n c1 0 0 0 0 none 0 0 false false 0 0) (K1.out.row 2 rfl) (by simp [Value.cells]) (by kernel_rfl) info_B (by kernel_rfl) ?_; intro w2 hrow hoth hz hbl; have K2 := Lib.hid (K1.out.turn 2 rfl hrow hoth hz); have B2 := Lib.hid (hbl _ _ (by omega) B1.out); clear hrow hoth hz hbl K1 B1; obtain ⟨h_0, h_1, h_2, h_3⟩ := c4_row (K2.out.row 1 rfl))
    | (refine at_load 23 (.tmp 4) (by rfl) ?_; refine wpList_load_row (by rfl) 23 (.tmp 4) (by rfl) (w.heap.size + 1) (by rfl) 23 _ (0, 0) _ (K2.out.row 1 rfl) Tryz.underlying23 (by rfl) info_H ?_)
    | (go_at_call 77; (with_reducible refine (HF8.out _).mono ?_); rintro e w3 ⟨rfl, hb⟩; have K3 := Lib.hid (K2.out.on hb); have B3 := Lib.hid (below_step B2.out hb); clear hb K2 B2; obtain ⟨h_0, h_1, h_2, h_3⟩ := c4_row (K3.out.row 1 rfl))
    | (refine at_load 5 (.tmp 33) (by rfl) ?_; refine wpList_get (by rfl) 5 (.tmp 33) (by rfl) (w.heap.size + 1) 1 (by rfl) 23 _ (.int .u8 K) _ (K3.out.row 1 rfl) (by rfl) Tryz.underlying5 (by rfl) ?_)
    | (go_at_call 77; (with_reducible refine (HF32.out _).mono ?_); rintro e w4 ⟨rfl, hb⟩; have K4 := Lib.hid (K3.out.on hb); have B4 := Lib.hid (below_step B3.out hb); clear hb K3 B3; obtain ⟨h_0, h_1, h_2, h_3⟩ := c4_row (K4.out.row 1 rfl))
    | (refine at_load 24 (.tmp 41) (by rfl) ?_; refine wpList_get (by rfl) 24 (.tmp 41) (by rfl) (w.heap.size) 3 (by rfl) 30 _ (.slice A1 n c1) _ (K4.out.row 2 rfl) (by rfl) Tryz.underlying24 (by rfl) ?_)
    | (go_at_call 44; (with_reducible refine (HT.out A1 c1 _ (K4.out.s (A1, n, xs) (by simp)).1 HC1.out.1).mono ?_); rintro e w5 ⟨v3, rfl, ho, hb⟩; obtain ⟨A3, c3, rfl, hh⟩ := ho.handS HTL.out; have K5 := Lib.hid (K4.out.handS hb hh); have B5 := Lib.hid (below_step B4.out hb); have HD3 := Lib.hid (hh.2.1.less B4.out.size); have HC3 := Lib.hid hh.2.2; clear ho hh; clear hb K4 B4; have K6 := Lib.hid (K5.out.box 28 #[.bool ra, .int .i64 rd, .int .u8 rw]); have B6 := Lib.hid (B5.out.alloc B5.out.size (.cells #[.bool ra, .int .i64 rd, .int .u8 rw] 28)); clear K5 B5; obtain ⟨h_0, h_1, h_2, h_3⟩ := c4_row (K6.out.row 2 rfl))
    | (refine at_load 30 (.tmp 3) (by rfl) ?_; refine wpList_load_row (by rfl) 30 (.tmp 3) (by rfl) (w.heap.size) (by rfl) 30 _ (0, 0) _ (K6.out.row 3 rfl) Tryz.underlying30 (by rfl) info_F ?_)
    | (refine at_store 30 (.tmp 6) (.tmp 49) (by rfl) ?_; refine wpList_put (by rfl) 30 (.tmp 6) (.tmp 49) (by rfl) (w.heap.size + 1 + 1) 0 (.agg (fr13 K F.toNat S A1 n c1 0 0 0 0 none 0 0 false false 0 0)) (by rfl) (by rfl) 30 _ (fr13 K F.toNat S A1 n c1 0 0 0 0 none 0 0 false false 0 0) (K6.out.row 1 rfl) (by simp [Value.cells]) (by kernel_rfl) info_F (by kernel_rfl) ?_; intro w7 hrow hoth hz hbl; have K7 := Lib.hid (K6.out.turn 1 rfl hrow hoth hz); have B7 := Lib.hid (hbl _ _ (by omega) B6.out); clear hrow hoth hz hbl K6 B6; obtain ⟨h_0, h_1, h_2, h_3⟩ := c4_row (K7.out.row 2 rfl)))
  exact bodyPost_ret (res_cell_tmp rfl _ _ _ _ _ _ rfl (K7.out.row 1 rfl) Tryz.underlying30 rfl info_F) rfl ⟨A1, n, c1, rfl, ⟨(K7.out.s (A1, n, xs) (by simp)).1, HD1.out, HC1.out⟩, B7.out⟩
set_option maxRecDepth 100000 in
set_option maxHeartbeats 4000000 in
theorem m_data_YK (L S K : Int) (F : UInt8) (A : Option Addr) (n c : Nat) (xs : List UInt8) (w : World) (hA : Bs w w.heap.size A n xs) (hN : A = none → c = 0) (hn : n ≤ 100000) (hp : hasB (F.toNat : Int) 8 = true) (hk : (K == 1) = false) (ys : List UInt8) (n2 : Nat) (pn pe : Int) (hys : ys.length = n2) (hpe : (pe != 0) = false) (HU : Hid (∀ w0, Bs w0 w0.heap.size A n xs → Calls Tryz.prog 78 #[.slice A n c] w0 fun e w' => ∃ v, e = .returned (.tuple #[v, .int .i64 pn, .int .i64 pe]) ∧ OwnB w' w0.heap.size 5 v ys ∧ Below w0.heap.size w0 w')) :
    Calls Tryz.prog 43 #[.agg (hF0 K F.toNat S), .agg #[.int .i64 L, .int .u8 K, .int .u8 F.toNat, .int .i64 S], .slice A n c] w fun e w' => ∃ A' n' c', e = .returned (.tuple #[.agg (fr13 K F.toNat S A' n' c' pn 0 0 0 none 0 0 false false 0 0), .bool true]) ∧ HandS w' w.heap.size A' n' c' ys ∧ Below w.heap.size w w' := by
  obtain ⟨i0, hi, hz0, hz1, hz2⟩ := info_parts info_u8
  have hinf := Lib.hid (And.intro hi (And.intro hz0 (And.intro hz1 hz2)))
  have HX : Hid (xs.length = n) := Lib.hid hA.1
  have HN := Lib.hid hN
  have HF8 : Hid (∀ w, Calls Tryz.prog 77 #[.agg #[.int .i64 L, .int .u8 K, .int .u8 F.toNat, .int .i64 S], .int .u8 8] w fun e w' => e = .returned (.bool true) ∧ Below w.heap.size w w') := Lib.hid (fun w => by have := m_has L S K F 8 w; rw [hp] at this; exact this)
  have HUL := Lib.hid hys
  clear hys
  have K0 := Lib.hid (((((EnvB.nil w).addS0 hA).box 30 (hF0 K F.toNat S)).boxg 23 #[.int .i64 L, .int .u8 K, .int .u8 F.toNat, .int .i64 S] (w.heap.size + 1) (by simp)).boxg 30 zF0 (w.heap.size + 1 + 1) (by simp))
  have B0 : Hid (Below w.heap.size w (((w.alloc (.cells (hF0 K F.toNat S) 30)).alloc (.cells #[.int .i64 L, .int .u8 K, .int .u8 F.toNat, .int .i64 S] 23)).alloc (.cells zF0 30))) := Lib.hid ((((Below.refl _ w).alloc (Nat.le_refl _) _).alloc (by simp) _).alloc (by simp only [World.size_alloc]; omega) _)
  clear hi hz0 hz1 hz2 hA hN hp
  go_enter Tryz.func43, Tryz.ntmps43
  go_wp2_with (first
    | (at_builtin; refine wpList_append_bytes _ rfl (.tmp 14) (.tmp 15) 24 rfl (((w.alloc (.cells (hF0 K F.toNat S) 30)).alloc (.cells #[.int .i64 L, .int .u8 K, .int .u8 F.toNat, .int .i64 S] 23)).alloc (.cells zF0 30)).heap.size 5 i0 Tryz.underlying24 hinf.out.1 hinf.out.2.1 hinf.out.2.2.1 hinf.out.2.2.2 _ [] rfl (OwnB.lit2 (((w.alloc (.cells (hF0 K F.toNat S) 30)).alloc (.cells #[.int .i64 L, .int .u8 K, .int .u8 F.toNat, .int .i64 S] 23)).alloc (.cells zF0 30)) _ _ _ (by simp) (by simp)) _ A n c xs rfl ((K0.out.al _).s (A, n, xs) (by simp)).1 HN.out (by simp; omega) (by simp) ?_; intro v1 w1 hown1 hb1; rw [List.nil_append] at hown1; obtain ⟨A1, c1, rfl, hh⟩ := hown1.handS HX.out; have hb := ((Below.refl _ (((w.alloc (.cells (hF0 K F.toNat S) 30)).alloc (.cells #[.int .i64 L, .int .u8 K, .int .u8 F.toNat, .int .i64 S] 23)).alloc (.cells zF0 30))).alloc (Nat.le_refl _) _).trans hb1; have K1 := Lib.hid (K0.out.handS hb hh); have B1 := Lib.hid (below_step B0.out hb); have HD1 := Lib.hid (hh.2.1.less B0.out.size); have HC1 := Lib.hid hh.2.2; clear hown1 hb1 hb hh K0 B0)
    | (refine at_store 24 (.tmp 17) (.tmp 16) (by rfl) ?_; refine wpList_put (by rfl) 24 (.tmp 17) (.tmp 16) (by rfl) (w.heap.size) 3 (.slice A1 n c1) (by rfl) (by rfl) 30 _ (fr13 K F.toNat S A1 n c1 0 0 0 0 none 0 0 false false 0 0) (K1.out.row 2 rfl) (by simp [Value.cells]) (by kernel_rfl) info_B (by kernel_rfl) ?_; intro w2 hrow hoth hz hbl; have K2 := Lib.hid (K1.out.turn 2 rfl hrow hoth hz); have B2 := Lib.hid (hbl _ _ (by omega) B1.out); clear hrow hoth hz hbl K1 B1; obtain ⟨h_0, h_1, h_2, h_3⟩ := c4_row (K2.out.row 1 rfl))
    | (refine at_load 23 (.tmp 4) (by rfl) ?_; refine wpList_load_row (by rfl) 23 (.tmp 4) (by rfl) (w.heap.size + 1) (by rfl) 23 _ (0, 0) _ (K2.out.row 1 rfl) Tryz.underlying23 (by rfl) info_H ?_)
    | (go_at_call 77; (with_reducible refine (HF8.out _).mono ?_); rintro e w3 ⟨rfl, hb⟩; have K3 := Lib.hid (K2.out.on hb); have B3 := Lib.hid (below_step B2.out hb); clear hb K2 B2; obtain ⟨h_0, h_1, h_2, h_3⟩ := c4_row (K3.out.row 1 rfl))
    | (go_at_call 78; (with_reducible refine (HU.out _ (K3.out.s (A, n, xs) (by simp)).1).mono ?_); rintro e w4 ⟨v2, rfl, ho, hb⟩; obtain ⟨A2, c2, rfl, hh⟩ := ho.handS HUL.out; have K4 := Lib.hid (K3.out.handS hb hh); have B4 := Lib.hid (below_step B3.out hb); have HD2 := Lib.hid (hh.2.1.less B3.out.size); have HC2 := Lib.hid hh.2.2; clear ho hh; clear hb K3 B3; obtain ⟨h_0, h_1, h_2, h_3⟩ := c4_row (K4.out.row 1 rfl))
    | (refine at_store 24 (.tmp 30) (.tmp 29) (by rfl) ?_; refine wpList_put (by rfl) 24 (.tmp 30) (.tmp 29) (by rfl) (w.heap.size) 3 (.slice A2 n2 c2) (by rfl) (by rfl) 30 _ (fr13 K F.toNat S A2 n2 c2 0 0 0 0 none 0 0 false false 0 0) (K4.out.row 2 rfl) (by simp [Value.cells]) (by kernel_rfl) info_B (by kernel_rfl) ?_; intro w5 hrow hoth hz hbl; have K5 := Lib.hid (K4.out.turn 2 rfl hrow hoth hz); have B5 := Lib.hid (hbl _ _ (by omega) B4.out); clear hrow hoth hz hbl K4 B4; obtain ⟨h_0, h_1, h_2, h_3⟩ := c4_row (K5.out.row 1 rfl))
    | (refine at_store 3 (.tmp 32) (.tmp 31) (by rfl) ?_; refine wpList_put (by rfl) 3 (.tmp 32) (.tmp 31) (by rfl) (w.heap.size) 4 (.int .i64 pn) (by rfl) (by rfl) 30 _ (fr13 K F.toNat S A2 n2 c2 pn 0 0 0 none 0 0 false false 0 0) (K5.out.row 2 rfl) (by simp [Value.cells]) (by kernel_rfl) info_i (by kernel_rfl) ?_; intro w6 hrow hoth hz hbl; have K6 := Lib.hid (K5.out.turn 2 rfl hrow hoth hz); have B6 := Lib.hid (hbl _ _ (by omega) B5.out); clear hrow hoth hz hbl K5 B5; obtain ⟨h_0, h_1, h_2, h_3⟩ := c4_row (K6.out.row 1 rfl))
    | (refine at_load 5 (.tmp 33) (by rfl) ?_; refine wpList_get (by rfl) 5 (.tmp 33) (by rfl) (w.heap.size + 1) 1 (by rfl) 23 _ (.int .u8 K) _ (K6.out.row 1 rfl) (by rfl) Tryz.underlying5 (by rfl) ?_)
    | (refine at_load 30 (.tmp 3) (by rfl) ?_; refine wpList_load_row (by rfl) 30 (.tmp 3) (by rfl) (w.heap.size) (by rfl) 30 _ (0, 0) _ (K6.out.row 2 rfl) Tryz.underlying30 (by rfl) info_F ?_)
    | (refine at_store 30 (.tmp 6) (.tmp 55) (by rfl) ?_; refine wpList_put (by rfl) 30 (.tmp 6) (.tmp 55) (by rfl) (w.heap.size + 1 + 1) 0 (.agg (fr13 K F.toNat S A2 n2 c2 pn 0 0 0 none 0 0 false false 0 0)) (by rfl) (by rfl) 30 _ (fr13 K F.toNat S A2 n2 c2 pn 0 0 0 none 0 0 false false 0 0) (K6.out.row 0 rfl) (by simp [Value.cells]) (by kernel_rfl) info_F (by kernel_rfl) ?_; intro w7 hrow hoth hz hbl; have K7 := Lib.hid (K6.out.turn 0 rfl hrow hoth hz); have B7 := Lib.hid (hbl _ _ (by omega) B6.out); clear hrow hoth hz hbl K6 B6; obtain ⟨h_0, h_1, h_2, h_3⟩ := c4_row (K7.out.row 1 rfl)))
  exact bodyPost_ret (res_cell_tmp rfl _ _ _ _ _ _ rfl (K7.out.row 0 rfl) Tryz.underlying30 rfl info_F) rfl ⟨A2, n2, c2, rfl, ⟨(K7.out.s (A2, n2, ys) (by simp)).1, HD2.out, HC2.out⟩, B7.out⟩
set_option maxRecDepth 100000 in
set_option maxHeartbeats 4000000 in
theorem m_data_YF (L S K : Int) (F : UInt8) (A : Option Addr) (n c : Nat) (xs : List UInt8) (w : World) (hA : Bs w w.heap.size A n xs) (hN : A = none → c = 0) (hn : n ≤ 100000) (hp : hasB (F.toNat : Int) 8 = true) (hk : (K == 1) = true) (hr : hasB (F.toNat : Int) 32 = false) (ys : List UInt8) (n2 : Nat) (pn pe : Int) (hys : ys.length = n2) (hpe : (pe != 0) = false) (HU : Hid (∀ w0, Bs w0 w0.heap.size A n xs → Calls Tryz.prog 78 #[.slice A n c] w0 fun e w' => ∃ v, e = .returned (.tuple #[v, .int .i64 pn, .int .i64 pe]) ∧ OwnB w' w0.heap.size 5 v ys ∧ Below w0.heap.size w0 w')) :
    Calls Tryz.prog 43 #[.agg (hF0 K F.toNat S), .agg #[.int .i64 L, .int .u8 K, .int .u8 F.toNat, .int .i64 S], .slice A n c] w fun e w' => ∃ A' n' c', e = .returned (.tuple #[.agg (fr13 K F.toNat S A' n' c' pn 0 0 0 none 0 0 false false 0 0), .bool true]) ∧ HandS w' w.heap.size A' n' c' ys ∧ Below w.heap.size w w' := by
  obtain ⟨i0, hi, hz0, hz1, hz2⟩ := info_parts info_u8
  have hinf := Lib.hid (And.intro hi (And.intro hz0 (And.intro hz1 hz2)))
  have HX : Hid (xs.length = n) := Lib.hid hA.1
  have HN := Lib.hid hN
  have HF8 : Hid (∀ w, Calls Tryz.prog 77 #[.agg #[.int .i64 L, .int .u8 K, .int .u8 F.toNat, .int .i64 S], .int .u8 8] w fun e w' => e = .returned (.bool true) ∧ Below w.heap.size w w') := Lib.hid (fun w => by have := m_has L S K F 8 w; rw [hp] at this; exact this)
  have HF32 : Hid (∀ w, Calls Tryz.prog 77 #[.agg #[.int .i64 L, .int .u8 K, .int .u8 F.toNat, .int .i64 S], .int .u8 32] w fun e w' => e = .returned (.bool false) ∧ Below w.heap.size w w') := Lib.hid (fun w => by have := m_has L S K F 32 w; rw [hr] at this; exact this)
  clear hr
  have HUL := Lib.hid hys
  clear hys
  have K0 := Lib.hid (((((EnvB.nil w).addS0 hA).box 30 (hF0 K F.toNat S)).boxg 23 #[.int .i64 L, .int .u8 K, .int .u8 F.toNat, .int .i64 S] (w.heap.size + 1) (by simp)).boxg 30 zF0 (w.heap.size + 1 + 1) (by simp))
  have B0 : Hid (Below w.heap.size w (((w.alloc (.cells (hF0 K F.toNat S) 30)).alloc (.cells #[.int .i64 L, .int .u8 K, .int .u8 F.toNat, .int .i64 S] 23)).alloc (.cells zF0 30))) := Lib.hid ((((Below.refl _ w).alloc (Nat.le_refl _) _).alloc (by simp) _).alloc (by simp only [World.size_alloc]; omega) _)
  clear hi hz0 hz1 hz2 hA hN hp
  go_enter Tryz.func43, Tryz.ntmps43
  go_wp2_with (first
    | (at_builtin; refine wpList_append_bytes _ rfl (.tmp 14) (.tmp 15) 24 rfl (((w.alloc (.cells (hF0 K F.toNat S) 30)).alloc (.cells #[.int .i64 L, .int .u8 K, .int .u8 F.toNat, .int .i64 S] 23)).alloc (.cells zF0 30)).heap.size 5 i0 Tryz.underlying24 hinf.out.1 hinf.out.2.1 hinf.out.2.2.1 hinf.out.2.2.2 _ [] rfl (OwnB.lit2 (((w.alloc (.cells (hF0 K F.toNat S) 30)).alloc (.cells #[.int .i64 L, .int .u8 K, .int .u8 F.toNat, .int .i64 S] 23)).alloc (.cells zF0 30)) _ _ _ (by simp) (by simp)) _ A n c xs rfl ((K0.out.al _).s (A, n, xs) (by simp)).1 HN.out (by simp; omega) (by simp) ?_; intro v1 w1 hown1 hb1; rw [List.nil_append] at hown1; obtain ⟨A1, c1, rfl, hh⟩ := hown1.handS HX.out; have hb := ((Below.refl _ (((w.alloc (.cells (hF0 K F.toNat S) 30)).alloc (.cells #[.int .i64 L, .int .u8 K, .int .u8 F.toNat, .int .i64 S] 23)).alloc (.cells zF0 30))).alloc (Nat.le_refl _) _).trans hb1; have K1 := Lib.hid (K0.out.handS hb hh); have B1 := Lib.hid (below_step B0.out hb); have HD1 := Lib.hid (hh.2.1.less B0.out.size); have HC1 := Lib.hid hh.2.2; clear hown1 hb1 hb hh K0 B0)
    | (refine at_store 24 (.tmp 17) (.tmp 16) (by rfl) ?_; refine wpList_put (by rfl) 24 (.tmp 17) (.tmp 16) (by rfl) (w.heap.size) 3 (.slice A1 n c1) (by rfl) (by rfl) 30 _ (fr13 K F.toNat S A1 n c1 0 0 0 0 none 0 0 false false 0 0) (K1.out.row 2 rfl) (by simp [Value.cells]) (by kernel_rfl) info_B (by kernel_rfl) ?_; intro w2 hrow hoth hz hbl; have K2 := Lib.hid (K1.out.turn 2 rfl hrow hoth hz); have B2 := Lib.hid (hbl _ _ (by omega) B1.out); clear hrow hoth hz hbl K1 B1; obtain ⟨h_0, h_1, h_2, h_3⟩ := c4_row (K2.out.row 1 rfl))
    | (refine at_load 23 (.tmp 4) (by rfl) ?_; refine wpList_load_row (by rfl) 23 (.tmp 4) (by rfl) (w.heap.size + 1) (by rfl) 23 _ (0, 0) _ (K2.out.row 1 rfl) Tryz.underlying23 (by rfl) info_H ?_)
    | (go_at_call 77; (with_reducible refine (HF8.out _).mono ?_); rintro e w3 ⟨rfl, hb⟩; have K3 := Lib.hid (K2.out.on hb); have B3 := Lib.hid (below_step B2.out hb); clear hb K2 B2; obtain ⟨h_0, h_1, h_2, h_3⟩ := c4_row (K3.out.row 1 rfl))
    | (go_at_call 78; (with_reducible refine (HU.out _ (K3.out.s (A, n, xs) (by simp)).1).mono ?_); rintro e w4 ⟨v2, rfl, ho, hb⟩; obtain ⟨A2, c2, rfl, hh⟩ := ho.handS HUL.out; have K4 := Lib.hid (K3.out.handS hb hh); have B4 := Lib.hid (below_step B3.out hb); have HD2 := Lib.hid (hh.2.1.less B3.out.size); have HC2 := Lib.hid hh.2.2; clear ho hh; clear hb K3 B3; obtain ⟨h_0, h_1, h_2, h_3⟩ := c4_row (K4.out.row 1 rfl))
    | (refine at_store 24 (.tmp 30) (.tmp 29) (by rfl) ?_; refine wpList_put (by rfl) 24 (.tmp 30) (.tmp 29) (by rfl) (w.heap.size) 3 (.slice A2 n2 c2) (by rfl) (by rfl) 30 _ (fr13 K F.toNat S A2 n2 c2 0 0 0 0 none 0 0 false false 0 0) (K4.out.row 2 rfl) (by simp [Value.cells]) (by kernel_rfl) info_B (by kernel_rfl) ?_; intro w5 hrow hoth hz hbl; have K5 := Lib.hid (K4.out.turn 2 rfl hrow hoth hz); have B5 := Lib.hid (hbl _ _ (by omega) B4.out); clear hrow hoth hz hbl K4 B4; obtain ⟨h_0, h_1, h_2, h_3⟩ := c4_row (K5.out.row 1 rfl))
    | (refine at_store 3 (.tmp 32) (.tmp 31) (by rfl) ?_; refine wpList_put (by rfl) 3 (.tmp 32) (.tmp 31) (by rfl) (w.heap.size) 4 (.int .i64 pn) (by rfl) (by rfl) 30 _ (fr13 K F.toNat S A2 n2 c2 pn 0 0 0 none 0 0 false false 0 0) (K5.out.row 2 rfl) (by simp [Value.cells]) (by kernel_rfl) info_i (by kernel_rfl) ?_; intro w6 hrow hoth hz hbl; have K6 := Lib.hid (K5.out.turn 2 rfl hrow hoth hz); have B6 := Lib.hid (hbl _ _ (by omega) B5.out); clear hrow hoth hz hbl K5 B5; obtain ⟨h_0, h_1, h_2, h_3⟩ := c4_row (K6.out.row 1 rfl))
    | (refine at_load 5 (.tmp 33) (by rfl) ?_; refine wpList_get (by rfl) 5 (.tmp 33) (by rfl) (w.heap.size + 1) 1 (by rfl) 23 _ (.int .u8 K) _ (K6.out.row 1 rfl) (by rfl) Tryz.underlying5 (by rfl) ?_)
    | (go_at_call 77; (with_reducible refine (HF32.out _).mono ?_); rintro e w7 ⟨rfl, hb⟩; have K7 := Lib.hid (K6.out.on hb); have B7 := Lib.hid (below_step B6.out hb); clear hb K6 B6; obtain ⟨h_0, h_1, h_2, h_3⟩ := c4_row (K7.out.row 1 rfl))
    | (refine at_load 30 (.tmp 3) (by rfl) ?_; refine wpList_load_row (by rfl) 30 (.tmp 3) (by rfl) (w.heap.size) (by rfl) 30 _ (0, 0) _ (K7.out.row 2 rfl) Tryz.underlying30 (by rfl) info_F ?_)
    | (refine at_store 30 (.tmp 6) (.tmp 55) (by rfl) ?_; refine wpList_put (by rfl) 30 (.tmp 6) (.tmp 55) (by rfl) (w.heap.size + 1 + 1) 0 (.agg (fr13 K F.toNat S A2 n2 c2 pn 0 0 0 none 0 0 false false 0 0)) (by rfl) (by rfl) 30 _ (fr13 K F.toNat S A2 n2 c2 pn 0 0 0 none 0 0 false false 0 0) (K7.out.row 0 rfl) (by simp [Value.cells]) (by kernel_rfl) info_F (by kernel_rfl) ?_; intro w8 hrow hoth hz hbl; have K8 := Lib.hid (K7.out.turn 0 rfl hrow hoth hz); have B8 := Lib.hid (hbl _ _ (by omega) B7.out); clear hrow hoth hz hbl K7 B7; obtain ⟨h_0, h_1, h_2, h_3⟩ := c4_row (K8.out.row 1 rfl)))
  exact bodyPost_ret (res_cell_tmp rfl _ _ _ _ _ _ rfl (K8.out.row 0 rfl) Tryz.underlying30 rfl info_F) rfl ⟨A2, n2, c2, rfl, ⟨(K8.out.s (A2, n2, ys) (by simp)).1, HD2.out, HC2.out⟩, B8.out⟩
set_option maxRecDepth 100000 in
set_option maxHeartbeats 4000000 in
theorem m_data_YY (L S K : Int) (F : UInt8) (A : Option Addr) (n c : Nat) (xs : List UInt8) (w : World) (hA : Bs w w.heap.size A n xs) (hN : A = none → c = 0) (hn : n ≤ 100000) (hp : hasB (F.toNat : Int) 8 = true) (hk : (K == 1) = true) (hr : hasB (F.toNat : Int) 32 = true) (ys : List UInt8) (n2 : Nat) (pn pe : Int) (hys : ys.length = n2) (hn2 : n2 ≤ 1000000) (hpe : (pe != 0) = false) (HU : Hid (∀ w0, Bs w0 w0.heap.size A n xs → Calls Tryz.prog 78 #[.slice A n c] w0 fun e w' => ∃ v, e = .returned (.tuple #[v, .int .i64 pn, .int .i64 pe]) ∧ OwnB w' w0.heap.size 5 v ys ∧ Below w0.heap.size w0 w')) (zs : List UInt8) (n3 : Nat) (ra : Bool) (rd rw re : Int) (hzs : zs.length = n3) (hre : (re != 0) = false) (HT : Hid (∀ D d w0, Bs w0 w0.heap.size D n2 ys → n2 ≤ d → Calls Tryz.prog 44 #[.slice D n2 d] w0 fun e w' => ∃ v, e = .returned (.tuple #[.agg #[.bool ra, .int .i64 rd, .int .u8 rw], v, .int .i64 re]) ∧ OwnB w' w0.heap.size 5 v zs ∧ Below w0.heap.size w0 w')) :
    Calls Tryz.prog 43 #[.agg (hF0 K F.toNat S), .agg #[.int .i64 L, .int .u8 K, .int .u8 F.toNat, .int .i64 S], .slice A n c] w fun e w' => ∃ A' n' c', e = .returned (.tuple #[.agg (fr13 K F.toNat S A' n' c' pn 0 0 0 none 0 0 true ra rd rw), .bool true]) ∧ HandS w' w.heap.size A' n' c' zs ∧ Below w.heap.size w w' := by
  obtain ⟨i0, hi, hz0, hz1, hz2⟩ := info_parts info_u8
  have hinf := Lib.hid (And.intro hi (And.intro hz0 (And.intro hz1 hz2)))
  have HX : Hid (xs.length = n) := Lib.hid hA.1
  have HN := Lib.hid hN
  have HF8 : Hid (∀ w, Calls Tryz.prog 77 #[.agg #[.int .i64 L, .int .u8 K, .int .u8 F.toNat, .int .i64 S], .int .u8 8] w fun e w' => e = .returned (.bool true) ∧ Below w.heap.size w w') := Lib.hid (fun w => by have := m_has L S K F 8 w; rw [hp] at this; exact this)
  have HF32 : Hid (∀ w, Calls Tryz.prog 77 #[.agg #[.int .i64 L, .int .u8 K, .int .u8 F.toNat, .int .i64 S], .int .u8 32] w fun e w' => e = .returned (.bool true) ∧ Below w.heap.size w w') := Lib.hid (fun w => by have := m_has L S K F 32 w; rw [hr] at this; exact this)
  clear hr
  have HUL := Lib.hid hys
  have HTL := Lib.hid hzs
  clear hzs
  clear hys
  have K0 := Lib.hid (((((EnvB.nil w).addS0 hA).box 30 (hF0 K F.toNat S)).boxg 23 #[.int .i64 L, .int .u8 K, .int .u8 F.toNat, .int .i64 S] (w.heap.size + 1) (by simp)).boxg 30 zF0 (w.heap.size + 1 + 1) (by simp))
  have B0 : Hid (Below w.heap.size w (((w.alloc (.cells (hF0 K F.toNat S) 30)).alloc (.cells #[.int .i64 L, .int .u8 K, .int .u8 F.toNat, .int .i64 S] 23)).alloc (.cells zF0 30))) := Lib.hid ((((Below.refl _ w).alloc (Nat.le_refl _) _).alloc (by simp) _).alloc (by simp only [World.size_alloc]; omega) _)
  clear hi hz0 hz1 hz2 hA hN hp
  go_enter Tryz.func43, Tryz.ntmps43
  go_wp2_with (first
    | (at_builtin; refine wpList_append_bytes _ rfl (.tmp 14) (.tmp 15) 24 rfl (((w.alloc (.cells (hF0 K F.toNat S) 30)).alloc (.cells #[.int .i64 L, .int .u8 K, .int .u8 F.toNat, .int .i64 S] 23)).alloc (.cells zF0 30)).heap.size 5 i0 Tryz.underlying24 hinf.out.1 hinf.out.2.1 hinf.out.2.2.1 hinf.out.2.2.2 _ [] rfl (OwnB.lit2 (((w.alloc (.cells (hF0 K F.toNat S) 30)).alloc (.cells #[.int .i64 L, .int .u8 K, .int .u8 F.toNat, .int .i64 S] 23)).alloc (.cells zF0 30)) _ _ _ (by simp) (by simp)) _ A n c xs rfl ((K0.out.al _).s (A, n, xs) (by simp)).1 HN.out (by simp; omega) (by simp) ?_; intro v1 w1 hown1 hb1; rw [List.nil_append] at hown1; obtain ⟨A1, c1, rfl, hh⟩ := hown1.handS HX.out; have hb := ((Below.refl _ (((w.alloc (.cells (hF0 K F.toNat S) 30)).alloc (.cells #[.int .i64 L, .int .u8 K, .int .u8 F.toNat, .int .i64 S] 23)).alloc (.cells zF0 30))).alloc (Nat.le_refl _) _).trans hb1; have K1 := Lib.hid (K0.out.handS hb hh); have B1 := Lib.hid (below_step B0.out hb); have HD1 := Lib.hid (hh.2.1.less B0.out.size); have HC1 := Lib.hid hh.2.2; clear hown1 hb1 hb hh K0 B0)
    | (refine at_store 24 (.tmp 17) (.tmp 16) (by rfl) ?_; refine wpList_put (by rfl) 24 (.tmp 17) (.tmp 16) (by rfl) (w.heap.size) 3 (.slice A1 n c1) (by rfl) (by rfl) 30 _ (fr13 K F.toNat S A1 n c1 0 0 0 0 none 0 0 false false 0 0) (K1.out.row 2 rfl) (by simp [Value.cells]) (by kernel_rfl) info_B (by kernel_rfl) ?_; intro w2 hrow hoth hz hbl; have K2 := Lib.hid (K1.out.turn 2 rfl hrow hoth hz); have B2 := Lib.hid (hbl _ _ (by omega) B1.out); clear hrow hoth hz hbl K1 B1; obtain ⟨h_0, h_1, h_2, h_3⟩ := c4_row (K2.out.row 1 rfl))
    | (refine at_load 23 (.tmp 4) (by rfl) ?_; refine wpList_load_row (by rfl) 23 (.tmp 4) (by rfl) (w.heap.size + 1) (by rfl) 23 _ (0, 0) _ (K2.out.row 1 rfl) Tryz.underlying23 (by rfl) info_H ?_)
    | (go_at_call 77; (with_reducible refine (HF8.out _).mono ?_); rintro e w3 ⟨rfl, hb⟩; have K3 := Lib.hid (K2.out.on hb); have B3 := Lib.hid (below_step B2.out hb); clear hb K2 B2; obtain ⟨h_0, h_1, h_2, h_3⟩ := c4_row (K3.out.row 1 rfl))
    | (go_at_call 78; (with_reducible refine (HU.out _ (K3.out.s (A, n, xs) (by simp)).1).mono ?_); rintro e w4 ⟨v2, rfl, ho, hb⟩; obtain ⟨A2, c2, rfl, hh⟩ := ho.handS HUL.out; have K4 := Lib.hid (K3.out.handS hb hh); have B4 := Lib.hid (below_step B3.out hb); have HD2 := Lib.hid (hh.2.1.less B3.out.size); have HC2 := Lib.hid hh.2.2; clear ho hh; clear hb K3 B3; obtain ⟨h_0, h_1, h_2, h_3⟩ := c4_row (K4.out.row 1 rfl))
    | (refine at_store 24 (.tmp 30) (.tmp 29) (by rfl) ?_; refine wpList_put (by rfl) 24 (.tmp 30) (.tmp 29) (by rfl) (w.heap.size) 3 (.slice A2 n2 c2) (by rfl) (by rfl) 30 _ (fr13 K F.toNat S A2 n2 c2 0 0 0 0 none 0 0 false false 0 0) (K4.out.row 2 rfl) (by simp [Value.cells]) (by kernel_rfl) info_B (by kernel_rfl) ?_; intro w5 hrow hoth hz hbl; have K5 := Lib.hid (K4.out.turn 2 rfl hrow hoth hz); have B5 := Lib.hid (hbl _ _ (by omega) B4.out); clear hrow hoth hz hbl K4 B4; obtain ⟨h_0, h_1, h_2, h_3⟩ := c4_row (K5.out.row 1 rfl))
    | (refine at_store 3 (.tmp 32) (.tmp 31) (by rfl) ?_; refine wpList_put (by rfl) 3 (.tmp 32) (.tmp 31) (by rfl) (w.heap.size) 4 (.int .i64 pn) (by rfl) (by rfl) 30 _ (fr13 K F.toNat S A2 n2 c2 pn 0 0 0 none 0 0 false false 0 0) (K5.out.row 2 rfl) (by simp [Value.cells]) (by kernel_rfl) info_i (by kernel_rfl) ?_; intro w6 hrow hoth hz hbl; have K6 := Lib.hid (K5.out.turn 2 rfl hrow hoth hz); have B6 := Lib.hid (hbl _ _ (by omega) B5.out); clear hrow hoth hz hbl K5 B5; obtain ⟨h_0, h_1, h_2, h_3⟩ := c4_row (K6.out.row 1 rfl))
    | (refine at_load 5 (.tmp 33) (by rfl) ?_; refine wpList_get (by rfl) 5 (.tmp 33) (by rfl) (w.heap.size + 1) 1 (by rfl) 23 _ (.int .u8 K) _ (K6.out.row 1 rfl) (by rfl) Tryz.underlying5 (by rfl) ?_)
    | (go_at_call 77; (with_reducible refine (HF32.out _).mono ?_); rintro e w7 ⟨rfl, hb⟩; have K7 := Lib.hid (K6.out.on hb); have B7 := Lib.hid (below_step B6.out hb); clear hb K6 B6; obtain ⟨h_0, h_1, h_2, h_3⟩ := c4_row (K7.out.row 1 rfl))
    | (refine at_load 24 (.tmp 41) (by rfl) ?_; refine wpList_get (by rfl) 24 (.tmp 41) (by rfl) (w.heap.size) 3 (by rfl) 30 _ (.slice A2 n2 c2) _ (K7.out.row 2 rfl) (by rfl) Tryz.underlying24 (by rfl) ?_)
    | (go_at_call 44; (with_reducible refine (HT.out A2 c2 _ (K7.out.s (A2, n2, ys) (by simp)).1 HC2.out.1).mono ?_); rintro e w8 ⟨v3, rfl, ho, hb⟩; obtain ⟨A3, c3, rfl, hh⟩ := ho.handS HTL.out; have K8 := Lib.hid (K7.out.handS hb hh); have B8 := Lib.hid (below_step B7.out hb); have HD3 := Lib.hid (hh.2.1.less B7.out.size); have HC3 := Lib.hid hh.2.2; clear ho hh; clear hb K7 B7; have K9 := Lib.hid (K8.out.box 28 #[.bool ra, .int .i64 rd, .int .u8 rw]); have B9 := Lib.hid (B8.out.alloc B8.out.size (.cells #[.bool ra, .int .i64 rd, .int .u8 rw] 28)); clear K8 B8; obtain ⟨h_0, h_1, h_2, h_3⟩ := c4_row (K9.out.row 2 rfl))
    | (refine at_store 4 (.tmp 50) (.const (.bool true)) (by rfl) ?_; refine wpList_put (by rfl) 4 (.tmp 50) (.const (.bool true)) (by rfl) (w.heap.size) 9 (.bool true) (by rfl) (by rfl) 30 _ (fr13 K F.toNat S A2 n2 c2 pn 0 0 0 none 0 0 true false 0 0) (K9.out.row 3 rfl) (by simp [Value.cells]) (by kernel_rfl) info_b (by kernel_rfl) ?_; intro w10 hrow hoth hz hbl; have K10 := Lib.hid (K9.out.turn 3 rfl hrow hoth hz); have B10 := Lib.hid (hbl _ _ (by omega) B9.out); clear hrow hoth hz hbl K9 B9; obtain ⟨h_0, h_1, h_2, h_3⟩ := c4_row (K10.out.row 2 rfl))
    | (refine at_load 28 (.tmp 11) (by rfl) ?_; refine wpList_load_row (by rfl) 28 (.tmp 11) (by rfl) (w8.heap.size) (by rfl) 28 _ (0, 0) _ (K10.out.row 0 rfl) Tryz.underlying28 (by rfl) info_R ?_)
    | (refine at_store 28 (.tmp 52) (.tmp 51) (by rfl) ?_; refine wpList_put (by rfl) 28 (.tmp 52) (.tmp 51) (by rfl) (w.heap.size) 10 (.agg #[.bool ra, .int .i64 rd, .int .u8 rw]) (by rfl) (by rfl) 30 _ (fr13 K F.toNat S A2 n2 c2 pn 0 0 0 none 0 0 true ra rd rw) (K10.out.row 3 rfl) (by simp [Value.cells]) (by kernel_rfl) info_R (by kernel_rfl) ?_; intro w11 hrow hoth hz hbl; have K11 := Lib.hid (K10.out.turn 3 rfl hrow hoth hz); have B11 := Lib.hid (hbl _ _ (by omega) B10.out); clear hrow hoth hz hbl K10 B10; obtain ⟨h_0, h_1, h_2, h_3⟩ := c4_row (K11.out.row 2 rfl))
    | (refine at_store 24 (.tmp 54) (.tmp 53) (by rfl) ?_; refine wpList_put (by rfl) 24 (.tmp 54) (.tmp 53) (by rfl) (w.heap.size) 3 (.slice A3 n3 c3) (by rfl) (by rfl) 30 _ (fr13 K F.toNat S A3 n3 c3 pn 0 0 0 none 0 0 true ra rd rw) (K11.out.row 3 rfl) (by simp [Value.cells]) (by kernel_rfl) info_B (by kernel_rfl) ?_; intro w12 hrow hoth hz hbl; have K12 := Lib.hid (K11.out.turn 3 rfl hrow hoth hz); have B12 := Lib.hid (hbl _ _ (by omega) B11.out); clear hrow hoth hz hbl K11 B11; obtain ⟨h_0, h_1, h_2, h_3⟩ := c4_row (K12.out.row 2 rfl))
    | (refine at_load 30 (.tmp 3) (by rfl) ?_; refine wpList_load_row (by rfl) 30 (.tmp 3) (by rfl) (w.heap.size) (by rfl) 30 _ (0, 0) _ (K12.out.row 3 rfl) Tryz.underlying30 (by rfl) info_F ?_)
    | (refine at_store 30 (.tmp 6) (.tmp 55) (by rfl) ?_; refine wpList_put (by rfl) 30 (.tmp 6) (.tmp 55) (by rfl) (w.heap.size + 1 + 1) 0 (.agg (fr13 K F.toNat S A3 n3 c3 pn 0 0 0 none 0 0 true ra rd rw)) (by rfl) (by rfl) 30 _ (fr13 K F.toNat S A3 n3 c3 pn 0 0 0 none 0 0 true ra rd rw) (K12.out.row 1 rfl) (by simp [Value.cells]) (by kernel_rfl) info_F (by kernel_rfl) ?_; intro w13 hrow hoth hz hbl; have K13 := Lib.hid (K12.out.turn 1 rfl hrow hoth hz); have B13 := Lib.hid (hbl _ _ (by omega) B12.out); clear hrow hoth hz hbl K12 B12; obtain ⟨h_0, h_1, h_2, h_3⟩ := c4_row (K13.out.row 2 rfl)))
  exact bodyPost_ret (res_cell_tmp rfl _ _ _ _ _ _ rfl (K13.out.row 1 rfl) Tryz.underlying30 rfl info_F) rfl ⟨A3, n3, c3, rfl, ⟨(K13.out.s (A3, n3, zs) (by simp)).1, HD3.out, HC3.out⟩, B13.out⟩
set_option maxRecDepth 100000 in
set_option maxHeartbeats 4000000 in
theorem m_data_YN (L S K : Int) (F : UInt8) (A : Option Addr) (n c : Nat) (xs : List UInt8) (w : World) (hA : Bs w w.heap.size A n xs) (hN : A = none → c = 0) (hn : n ≤ 100000) (hp : hasB (F.toNat : Int) 8 = true) (hk : (K == 1) = true) (hr : hasB (F.toNat : Int) 32 = true) (ys : List UInt8) (n2 : Nat) (pn pe : Int) (hys : ys.length = n2) (hn2 : n2 ≤ 1000000) (hpe : (pe != 0) = false) (HU : Hid (∀ w0, Bs w0 w0.heap.size A n xs → Calls Tryz.prog 78 #[.slice A n c] w0 fun e w' => ∃ v, e = .returned (.tuple #[v, .int .i64 pn, .int .i64 pe]) ∧ OwnB w' w0.heap.size 5 v ys ∧ Below w0.heap.size w0 w')) (zs : List UInt8) (n3 : Nat) (ra : Bool) (rd rw re : Int) (hzs : zs.length = n3) (hre : (re != 0) = true) (HT : Hid (∀ D d w0, Bs w0 w0.heap.size D n2 ys → n2 ≤ d → Calls Tryz.prog 44 #[.slice D n2 d] w0 fun e w' => ∃ v, e = .returned (.tuple #[.agg #[.bool ra, .int .i64 rd, .int .u8 rw], v, .int .i64 re]) ∧ OwnB w' w0.heap.size 5 v zs ∧ Below w0.heap.size w0 w')) :
    Calls Tryz.prog 43 #[.agg (hF0 K F.toNat S), .agg #[.int .i64 L, .int .u8 K, .int .u8 F.toNat, .int .i64 S], .slice A n c] w fun e w' => ∃ A' n' c', e = .returned (.tuple #[.agg (fr13 K F.toNat S A' n' c' pn 0 0 0 none 0 0 false false 0 0), .bool false]) ∧ HandS w' w.heap.size A' n' c' ys ∧ Below w.heap.size w w' := by
  obtain ⟨i0, hi, hz0, hz1, hz2⟩ := info_parts info_u8
  have hinf := Lib.hid (And.intro hi (And.intro hz0 (And.intro hz1 hz2)))
  have HX : Hid (xs.length = n) := Lib.hid hA.1
  have HN := Lib.hid hN
  have HF8 : Hid (∀ w, Calls Tryz.prog 77 #[.agg #[.int .i64 L, .int .u8 K, .int .u8 F.toNat, .int .i64 S], .int .u8 8] w fun e w' => e = .returned (.bool true) ∧ Below w.heap.size w w') := Lib.hid (fun w => by have := m_has L S K F 8 w; rw [hp] at this; exact this)
  have HF32 : Hid (∀ w, Calls Tryz.prog 77 #[.agg #[.int .i64 L, .int .u8 K, .int .u8 F.toNat, .int .i64 S], .int .u8 32] w fun e w' => e = .returned (.bool true) ∧ Below w.heap.size w w') := Lib.hid (fun w => by have := m_has L S K F 32 w; rw [hr] at this; exact this)
  clear hr
  have HUL := Lib.hid hys
  have HTL := Lib.hid hzs
  clear hzs
  clear hys
  have K0 := Lib.hid (((((EnvB.nil w).addS0 hA).box 30 (hF0 K F.toNat S)).boxg 23 #[.int .i64 L, .int .u8 K, .int .u8 F.toNat, .int .i64 S] (w.heap.size + 1) (by simp)).boxg 30 zF0 (w.heap.size + 1 + 1) (by simp))
  have B0 : Hid (Below w.heap.size w (((w.alloc (.cells (hF0 K F.toNat S) 30)).alloc (.cells #[.int .i64 L, .int .u8 K, .int .u8 F.toNat, .int .i64 S] 23)).alloc (.cells zF0 30))) := Lib.hid ((((Below.refl _ w).alloc (Nat.le_refl _) _).alloc (by simp) _).alloc (by simp only [World.size_alloc]; omega) _)
  clear hi hz0 hz1 hz2 hA hN hp
  go_enter Tryz.func43, Tryz.ntmps43
  go_wp2_with (first
    | (at_builtin; refine wpList_append_bytes _ rfl (.tmp 14) (.tmp 15) 24 rfl (((w.alloc (.cells (hF0 K F.toNat S) 30)).alloc (.cells #[.int .i64 L, .int .u8 K, .int .u8 F.toNat, .int .i64 S] 23)).alloc (.cells zF0 30)).heap.size 5 i0 Tryz.underlying24 hinf.out.1 hinf.out.2.1 hinf.out.2.2.1 hinf.out.2.2.2 _ [] rfl (OwnB.lit2 (((w.alloc (.cells (hF0 K F.toNat S) 30)).alloc (.cells #[.int .i64 L, .int .u8 K, .int .u8 F.toNat, .int .i64 S] 23)).alloc (.cells zF0 30)) _ _ _ (by simp) (by simp)) _ A n c xs rfl ((K0.out.al _).s (A, n, xs) (by simp)).1 HN.out (by simp; omega) (by simp) ?_; intro v1 w1 hown1 hb1; rw [List.nil_append] at hown1; obtain ⟨A1, c1, rfl, hh⟩ := hown1.handS HX.out; have hb := ((Below.refl _ (((w.alloc (.cells (hF0 K F.toNat S) 30)).alloc (.cells #[.int .i64 L, .int .u8 K, .int .u8 F.toNat, .int .i64 S] 23)).alloc (.cells zF0 30))).alloc (Nat.le_refl _) _).trans hb1; have K1 := Lib.hid (K0.out.handS hb hh); have B1 := Lib.hid (below_step B0.out hb); have HD1 := Lib.hid (hh.2.1.less B0.out.size); have HC1 := Lib.hid hh.2.2; clear hown1 hb1 hb hh K0 B0)
    | (refine at_store 24 (.tmp 17) (.tmp 16) (by rfl) ?_; refine wpList_put (by rfl) 24 (.tmp 17) (.tmp 16) (by rfl) (w.heap.size) 3 (.slice A1 n c1) (by rfl) (by rfl) 30 _ (fr13 K F.toNat S A1 n c1 0 0 0 0 none 0 0 false false 0 0) (K1.out.row 2 rfl) (by simp [Value.cells]) (by kernel_rfl) info_B (by kernel_rfl) ?_; intro w2 hrow hoth hz hbl; have K2 := Lib.hid (K1.out.turn 2 rfl hrow hoth hz); have B2 := Lib.hid (hbl _ _ (by omega) B1.out); clear hrow hoth hz hbl K1 B1; obtain ⟨h_0, h_1, h_2, h_3⟩ := c4_row (K2.out.row 1 rfl))
    | (refine at_load 23 (.tmp 4) (by rfl) ?_; refine wpList_load_row (by rfl) 23 (.tmp 4) (by rfl) (w.heap.size + 1) (by rfl) 23 _ (0, 0) _ (K2.out.row 1 rfl) Tryz.underlying23 (by rfl) info_H ?_)
    | (go_at_call 77; (with_reducible refine (HF8.out _).mono ?_); rintro e w3 ⟨rfl, hb⟩; have K3 := Lib.hid (K2.out.on hb); have B3 := Lib.hid (below_step B2.out hb); clear hb K2 B2; obtain ⟨h_0, h_1, h_2, h_3⟩ := c4_row (K3.out.row 1 rfl))
    | (go_at_call 78; (with_reducible refine (HU.out _ (K3.out.s (A, n, xs) (by simp)).1).mono ?_); rintro e w4 ⟨v2, rfl, ho, hb⟩; obtain ⟨A2, c2, rfl, hh⟩ := ho.handS HUL.out; have K4 := Lib.hid (K3.out.handS hb hh); have B4 := Lib.hid (below_step B3.out hb); have HD2 := Lib.hid (hh.2.1.less B3.out.size); have HC2 := Lib.hid hh.2.2; clear ho hh; clear hb K3 B3; obtain ⟨h_0, h_1, h_2, h_3⟩ := c4_row (K4.out.row 1 rfl))
    | (refine at_store 24 (.tmp 30) (.tmp 29) (by rfl) ?_; refine wpList_put (by rfl) 24 (.tmp 30) (.tmp 29) (by rfl) (w.heap.size) 3 (.slice A2 n2 c2) (by rfl) (by rfl) 30 _ (fr13 K F.toNat S A2 n2 c2 0 0 0 0 none 0 0 false false 0 0) (K4.out.row 2 rfl) (by simp [Value.cells]) (by kernel_rfl) info_B (by kernel_rfl) ?_; intro w5 hrow hoth hz hbl; have K5 := Lib.hid (K4.out.turn 2 rfl hrow hoth hz); have B5 := Lib.hid (hbl _ _ (by omega) B4.out); clear hrow hoth hz hbl K4 B4; obtain ⟨h_0, h_1, h_2, h_3⟩ := c4_row (K5.out.row 1 rfl))
    | (refine at_store 3 (.tmp 32) (.tmp 31) (by rfl) ?_; refine wpList_put (by rfl) 3 (.tmp 32) (.tmp 31) (by rfl) (w.heap.size) 4 (.int .i64 pn) (by rfl) (by rfl) 30 _ (fr13 K F.toNat S A2 n2 c2 pn 0 0 0 none 0 0 false false 0 0) (K5.out.row 2 rfl) (by simp [Value.cells]) (by kernel_rfl) info_i (by kernel_rfl) ?_; intro w6 hrow hoth hz hbl; have K6 := Lib.hid (K5.out.turn 2 rfl hrow hoth hz); have B6 := Lib.hid (hbl _ _ (by omega) B5.out); clear hrow hoth hz hbl K5 B5; obtain ⟨h_0, h_1, h_2, h_3⟩ := c4_row (K6.out.row 1 rfl))
    | (refine at_load 5 (.tmp 33) (by rfl) ?_; refine wpList_get (by rfl) 5 (.tmp 33) (by rfl) (w.heap.size + 1) 1 (by rfl) 23 _ (.int .u8 K) _ (K6.out.row 1 rfl) (by rfl) Tryz.underlying5 (by rfl) ?_)
    | (go_at_call 77; (with_reducible refine (HF32.out _).mono ?_); rintro e w7 ⟨rfl, hb⟩; have K7 := Lib.hid (K6.out.on hb); have B7 := Lib.hid (below_step B6.out hb); clear hb K6 B6; obtain ⟨h_0, h_1, h_2, h_3⟩ := c4_row (K7.out.row 1 rfl))
    | (refine at_load 24 (.tmp 41) (by rfl) ?_; refine wpList_get (by rfl) 24 (.tmp 41) (by rfl) (w.heap.size) 3 (by rfl) 30 _ (.slice A2 n2 c2) _ (K7.out.row 2 rfl) (by rfl) Tryz.underlying24 (by rfl) ?_)
    | (go_at_call 44; (with_reducible refine (HT.out A2 c2 _ (K7.out.s (A2, n2, ys) (by simp)).1 HC2.out.1).mono ?_); rintro e w8 ⟨v3, rfl, ho, hb⟩; obtain ⟨A3, c3, rfl, hh⟩ := ho.handS HTL.out; have K8 := Lib.hid (K7.out.handS hb hh); have B8 := Lib.hid (below_step B7.out hb); have HD3 := Lib.hid (hh.2.1.less B7.out.size); have HC3 := Lib.hid hh.2.2; clear ho hh; clear hb K7 B7; have K9 := Lib.hid (K8.out.box 28 #[.bool ra, .int .i64 rd, .int .u8 rw]); have B9 := Lib.hid (B8.out.alloc B8.out.size (.cells #[.bool ra, .int .i64 rd, .int .u8 rw] 28)); clear K8 B8; obtain ⟨h_0, h_1, h_2, h_3⟩ := c4_row (K9.out.row 2 rfl))
    | (refine at_load 30 (.tmp 3) (by rfl) ?_; refine wpList_load_row (by rfl) 30 (.tmp 3) (by rfl) (w.heap.size) (by rfl) 30 _ (0, 0) _ (K9.out.row 3 rfl) Tryz.underlying30 (by rfl) info_F ?_)
    | (refine at_store 30 (.tmp 6) (.tmp 49) (by rfl) ?_; refine wpList_put (by rfl) 30 (.tmp 6) (.tmp 49) (by rfl) (w.heap.size + 1 + 1) 0 (.agg (fr13 K F.toNat S A2 n2 c2 pn 0 0 0 none 0 0 false false 0 0)) (by rfl) (by rfl) 30 _ (fr13 K F.toNat S A2 n2 c2 pn 0 0 0 none 0 0 false false 0 0) (K9.out.row 1 rfl) (by simp [Value.cells]) (by kernel_rfl) info_F (by kernel_rfl) ?_; intro w10 hrow hoth hz hbl; have K10 := Lib.hid (K9.out.turn 1 rfl hrow hoth hz); have B10 := Lib.hid (hbl _ _ (by omega) B9.out); clear hrow hoth hz hbl K9 B9; obtain ⟨h_0, h_1, h_2, h_3⟩ := c4_row (K10.out.row 2 rfl)))
  exact bodyPost_ret (res_cell_tmp rfl _ _ _ _ _ _ rfl (K10.out.row 1 rfl) Tryz.underlying30 rfl info_F) rfl ⟨A2, n2, c2, rfl, ⟨(K10.out.s (A2, n2, ys) (by simp)).1, HD2.out, HC2.out⟩, B10.out⟩
set_option maxRecDepth 100000 in
set_option maxHeartbeats 4000000 in
theorem m_data_NK (L S K : Int) (F : UInt8) (A : Option Addr) (n c : Nat) (xs : List UInt8) (w : World) (hA : Bs w w.heap.size A n xs) (hN : A = none → c = 0) (hn : n ≤ 100000) (hp : hasB (F.toNat : Int) 8 = true) (ys : List UInt8) (n2 : Nat) (pn pe : Int) (hys : ys.length = n2) (hpe : (pe != 0) = true) (HU : Hid (∀ w0, Bs w0 w0.heap.size A n xs → Calls Tryz.prog 78 #[.slice A n c] w0 fun e w' => ∃ v, e = .returned (.tuple #[v, .int .i64 pn, .int .i64 pe]) ∧ OwnB w' w0.heap.size 5 v ys ∧ Below w0.heap.size w0 w')) :
    Calls Tryz.prog 43 #[.agg (hF0 K F.toNat S), .agg #[.int .i64 L, .int .u8 K, .int .u8 F.toNat, .int .i64 S], .slice A n c] w fun e w' => ∃ A' n' c', e = .returned (.tuple #[.agg (fr13 K F.toNat S A' n' c' 0 0 0 0 none 0 0 false false 0 0), .bool false]) ∧ HandS w' w.heap.size A' n' c' xs ∧ Below w.heap.size w w' := by
  obtain ⟨i0, hi, hz0, hz1, hz2⟩ := info_parts info_u8
  have hinf := Lib.hid (And.intro hi (And.intro hz0 (And.intro hz1 hz2)))
  have HX : Hid (xs.length = n) := Lib.hid hA.1
  have HN := Lib.hid hN
  have HF8 : Hid (∀ w, Calls Tryz.prog 77 #[.agg #[.int .i64 L, .int .u8 K, .int .u8 F.toNat, .int .i64 S], .int .u8 8] w fun e w' => e = .returned (.bool true) ∧ Below w.heap.size w w') := Lib.hid (fun w => by have := m_has L S K F 8 w; rw [hp] at this; exact this)
  have HUL := Lib.hid hys
  clear hys
  have K0 := Lib.hid (((((EnvB.nil w).addS0 hA).box 30 (hF0 K F.toNat S)).boxg 23 #[.int .i64 L, .int .u8 K, .int .u8 F.toNat, .int .i64 S] (w.heap.size + 1) (by simp)).boxg 30 zF0 (w.heap.size + 1 + 1) (by simp))
  have B0 : Hid (Below w.heap.size w (((w.alloc (.cells (hF0 K F.toNat S) 30)).alloc (.cells #[.int .i64 L, .int .u8 K, .int .u8 F.toNat, .int .i64 S] 23)).alloc (.cells zF0 30))) := Lib.hid ((((Below.refl _ w).alloc (Nat.le_refl _) _).alloc (by simp) _).alloc (by simp only [World.size_alloc]; omega) _)
  clear hi hz0 hz1 hz2 hA hN hp
  go_enter Tryz.func43, Tryz.ntmps43
  go_wp2_with (first
    | (at_builtin; refine wpList_append_bytes _ rfl (.tmp 14) (.tmp 15) 24 rfl (((w.alloc (.cells (hF0 K F.toNat S) 30)).alloc (.cells #[.int .i64 L, .int .u8 K, .int .u8 F.toNat, .int .i64 S] 23)).alloc (.cells zF0 30)).heap.size 5 i0 Tryz.underlying24 hinf.out.1 hinf.out.2.1 hinf.out.2.2.1 hinf.out.2.2.2 _ [] rfl (OwnB.lit2 (((w.alloc (.cells (hF0 K F.toNat S) 30)).alloc (.cells #[.int .i64 L, .int .u8 K, .int .u8 F.toNat, .int .i64 S] 23)).alloc (.cells zF0 30)) _ _ _ (by simp) (by simp)) _ A n c xs rfl ((K0.out.al _).s (A, n, xs) (by simp)).1 HN.out (by simp; omega) (by simp) ?_; intro v1 w1 hown1 hb1; rw [List.nil_append] at hown1; obtain ⟨A1, c1, rfl, hh⟩ := hown1.handS HX.out; have hb := ((Below.refl _ (((w.alloc (.cells (hF0 K F.toNat S) 30)).alloc (.cells #[.int .i64 L, .int .u8 K, .int .u8 F.toNat, .int .i64 S] 23)).alloc (.cells zF0 30))).alloc (Nat.le_refl _) _).trans hb1; have K1 := Lib.hid (K0.out.handS hb hh); have B1 := Lib.hid (below_step B0.out hb); have HD1 := Lib.hid (hh.2.1.less B0.out.size); have HC1 := Lib.hid hh.2.2; clear hown1 hb1 hb hh K0 B0)
    | (refine at_store 24 (.tmp 17) (.tmp 16) (by rfl) ?_; refine wpList_put (by rfl) 24 (.tmp 17) (.tmp 16) (by rfl) (w.heap.size) 3 (.slice A1 n c1) (by rfl) (by rfl) 30 _ (fr13 K F.toNat S A1 n c1 0 0 0 0 none 0 0 false false 0 0) (K1.out.row 2 rfl) (by simp [Value.cells]) (by kernel_rfl) info_B (by kernel_rfl) ?_; intro w2 hrow hoth hz hbl; have K2 := Lib.hid (K1.out.turn 2 rfl hrow hoth hz); have B2 := Lib.hid (hbl _ _ (by omega) B1.out); clear hrow hoth hz hbl K1 B1; obtain ⟨h_0, h_1, h_2, h_3⟩ := c4_row (K2.out.row 1 rfl))
    | (refine at_load 23 (.tmp 4) (by rfl) ?_; refine wpList_load_row (by rfl) 23 (.tmp 4) (by rfl) (w.heap.size + 1) (by rfl) 23 _ (0, 0) _ (K2.out.row 1 rfl) Tryz.underlying23 (by rfl) info_H ?_)
    | (go_at_call 77; (with_reducible refine (HF8.out _).mono ?_); rintro e w3 ⟨rfl, hb⟩; have K3 := Lib.hid (K2.out.on hb); have B3 := Lib.hid (below_step B2.out hb); clear hb K2 B2; obtain ⟨h_0, h_1, h_2, h_3⟩ := c4_row (K3.out.row 1 rfl))
    | (go_at_call 78; (with_reducible refine (HU.out _ (K3.out.s (A, n, xs) (by simp)).1).mono ?_); rintro e w4 ⟨v2, rfl, ho, hb⟩; obtain ⟨A2, c2, rfl, hh⟩ := ho.handS HUL.out; have K4 := Lib.hid (K3.out.handS hb hh); have B4 := Lib.hid (below_step B3.out hb); have HD2 := Lib.hid (hh.2.1.less B3.out.size); have HC2 := Lib.hid hh.2.2; clear ho hh; clear hb K3 B3; obtain ⟨h_0, h_1, h_2, h_3⟩ := c4_row (K4.out.row 1 rfl))
    | (refine at_load 30 (.tmp 3) (by rfl) ?_; refine wpList_load_row (by rfl) 30 (.tmp 3) (by rfl) (w.heap.size) (by rfl) 30 _ (0, 0) _ (K4.out.row 2 rfl) Tryz.underlying30 (by rfl) info_F ?_)
    | (refine at_store 30 (.tmp 6) (.tmp 28) (by rfl) ?_; refine wpList_put (by rfl) 30 (.tmp 6) (.tmp 28) (by rfl) (w.heap.size + 1 + 1) 0 (.agg (fr13 K F.toNat S A1 n c1 0 0 0 0 none 0 0 false false 0 0)) (by rfl) (by rfl) 30 _ (fr13 K F.toNat S A1 n c1 0 0 0 0 none 0 0 false false 0 0) (K4.out.row 0 rfl) (by simp [Value.cells]) (by kernel_rfl) info_F (by kernel_rfl) ?_; intro w5 hrow hoth hz hbl; have K5 := Lib.hid (K4.out.turn 0 rfl hrow hoth hz); have B5 := Lib.hid (hbl _ _ (by omega) B4.out); clear hrow hoth hz hbl K4 B4; obtain ⟨h_0, h_1, h_2, h_3⟩ := c4_row (K5.out.row 1 rfl)))
  exact bodyPost_ret (res_cell_tmp rfl _ _ _ _ _ _ rfl (K5.out.row 0 rfl) Tryz.underlying30 rfl info_F) rfl ⟨A1, n, c1, rfl, ⟨(K5.out.s (A1, n, xs) (by simp)).1, HD1.out, HC1.out⟩, B5.out⟩
end Go.Proofs.YtbflhphjnmhjhaaGreat
/- The document's data, whatever it is handed. -/
namespace Go.Proofs.YtbflhphjnmhjhaaGreat
open Go.RowKit Oct Fi Fm
namespace Fm
def data1 (K F : UInt8) (S : Int) (xs : List UInt8) : Fr × Bool :=
  if hasB (F.toNat : Int) 8 = true then if UnIn xs xs.length then ({ frZ K F S with da := unV xs xs.length, pd := unN xs xs.length }, true) else ({ frZ K F S with da := xs }, false) else ({ frZ K F S with da := xs }, true)
def rank1 (f : Fr) : Fr × Bool :=
  if 5 ≤ f.da.length then ({ f with rk := true, al := trA f.da f.da.length, dp := trD f.da f.da.length, wt := f.da[4]?.getD 0, da := trR f.da f.da.length }, true) else (f, false)
def dataR (K F : UInt8) (S : Int) (xs : List UInt8) : Fr × Bool :=
  if (data1 K F S xs).2 = true then if K.toNat = 1 ∧ hasB (F.toNat : Int) 32 = true then rank1 (data1 K F S xs).1 else (data1 K F S xs).1 |> fun f => (f, true) else ((data1 K F S xs).1, false)
end Fm
theorem HU_of (A : Option Addr) (n c : Nat) (xs : List UInt8) (hn : n ≤ 100000) (hnc : n ≤ c) : Hid (∀ w0, Bs w0 w0.heap.size A n xs → Calls Tryz.prog 78 #[.slice A n c] w0 fun e w' => ∃ v, e = .returned (.tuple #[v, .int .i64 (unN xs n), .int .i64 (unE xs n)]) ∧ OwnB w' w0.heap.size 5 v (unV xs n) ∧ Below w0.heap.size w0 w') :=
  Lib.hid (fun w0 h => runpad_tot A n c xs w0 h (by omega) hnc)
theorem HT_of (n : Nat) (xs : List UInt8) (hn : n ≤ 1000000) : Hid (∀ D d w0, Bs w0 w0.heap.size D n xs → n ≤ d → Calls Tryz.prog 44 #[.slice D n d] w0 fun e w' => ∃ v, e = .returned (.tuple #[.agg #[.bool (trA xs n), .int .i64 (trD xs n), .int .u8 (trW xs n)], v, .int .i64 (trE n)]) ∧ OwnB w' w0.heap.size 5 v (trR xs n) ∧ Below w0.heap.size w0 w') :=
  Lib.hid (fun D d w0 h hnd => rtrank_tot D n d xs w0 h hn hnd)
theorem unV_len (xs : List UInt8) (n : Nat) : (unV xs n).length ≤ xs.length := by
  unfold unV
  split
  · simp; omega
  · simp
theorem m_data (L S : Int) (K F : UInt8) (A : Option Addr) (n c : Nat) (xs : List UInt8) (w : World) (hA : Bs w w.heap.size A n xs) (hN : A = none → c = 0) (hn : n ≤ 100000) (hnc : n ≤ c) :
    Calls Tryz.prog 43 #[frv (frZ K F S) (.slice none 0 0) (.slice none 0 0), .agg #[.int .i64 L, .int .u8 K.toNat, .int .u8 F.toNat, .int .i64 S], .slice A n c] w fun e w' =>
      ∃ A' n' c', e = .returned (.tuple #[frv (dataR K F S xs).1 (.slice A' n' c') (.slice none 0 0), .bool (dataR K F S xs).2]) ∧ HandS w' w.heap.size A' n' c' (dataR K F S xs).1.da ∧ Below w.heap.size w w' := by
  have hl : xs.length = n := hA.1
  have HT := fun ys : List UInt8 => HT_of ys.length ys
  by_cases hk : K.toNat = 1
  · have hk' : ((K.toNat : Int) == 1) = true := by simp; omega
    by_cases hp : hasB (F.toNat : Int) 8 = true
    · by_cases hu : UnIn xs n
      · have hpe : (unE xs n != 0) = false := by unfold unE; rw [if_pos hu]; rfl
        have h1 : data1 K F S xs = ({ frZ K F S with da := unV xs n, pd := unN xs n }, true) := by unfold data1; rw [if_pos hp, hl, if_pos hu]
        have hul := unV_len xs n
        by_cases hr : hasB (F.toNat : Int) 32 = true
        · by_cases h5 : 5 ≤ (unV xs n).length
          · have e : dataR K F S xs = ({ frZ K F S with da := trR (unV xs n) (unV xs n).length, pd := unN xs n, rk := true, al := trA (unV xs n) (unV xs n).length, dp := trD (unV xs n) (unV xs n).length, wt := (unV xs n)[4]?.getD 0 }, true) := by
              unfold dataR rank1
              rw [h1]
              simp [hk, hr, h5]
            have hw : trW (unV xs n) (unV xs n).length = (((unV xs n)[4]?.getD 0).toNat : Int) := by unfold trW; rw [if_pos h5]
            have := m_data_YY L S (K.toNat : Int) F A n c xs w hA hN hn hp hk' hr (unV xs n) _ (unN xs n) (unE xs n) rfl (by omega) hpe (HU_of A n c xs hn hnc) _ _ _ _ _ _ rfl (by unfold trE; rw [if_pos h5]; rfl) (HT (unV xs n) (by omega))
            rw [e]
            rw [hw] at this
            exact this
          · have e : dataR K F S xs = ({ frZ K F S with da := unV xs n, pd := unN xs n }, false) := by
              unfold dataR rank1
              rw [h1]
              simp [hk, hr, h5]
            have := m_data_YN L S (K.toNat : Int) F A n c xs w hA hN hn hp hk' hr (unV xs n) _ (unN xs n) (unE xs n) rfl (by omega) hpe (HU_of A n c xs hn hnc) _ _ _ _ _ _ rfl (by unfold trE; rw [if_neg h5]; rfl) (HT (unV xs n) (by omega))
            rw [e]
            exact this
        · have hr' : hasB (F.toNat : Int) 32 = false := by simpa using hr
          have e : dataR K F S xs = ({ frZ K F S with da := unV xs n, pd := unN xs n }, true) := by
            unfold dataR
            rw [h1]
            simp [hr']
          have := m_data_YF L S (K.toNat : Int) F A n c xs w hA hN hn hp hk' hr' (unV xs n) _ (unN xs n) (unE xs n) rfl hpe (HU_of A n c xs hn hnc)
          rw [e]
          exact this
      · have hpe : (unE xs n != 0) = true := by unfold unE; rw [if_neg hu]; split <;> rfl
        have e : dataR K F S xs = ({ frZ K F S with da := xs }, false) := by unfold dataR data1; rw [if_pos hp, hl, if_neg hu]; rfl
        have := m_data_NK L S (K.toNat : Int) F A n c xs w hA hN hn hp (unV xs n) _ (unN xs n) (unE xs n) rfl hpe (HU_of A n c xs hn hnc)
        rw [e]
        exact this
    · have hp' : hasB (F.toNat : Int) 8 = false := by simpa using hp
      have h1 : data1 K F S xs = ({ frZ K F S with da := xs }, true) := by unfold data1; rw [if_neg hp]
      by_cases hr : hasB (F.toNat : Int) 32 = true
      · by_cases h5 : 5 ≤ n
        · have e : dataR K F S xs = ({ frZ K F S with da := trR xs n, rk := true, al := trA xs n, dp := trD xs n, wt := xs[4]?.getD 0 }, true) := by
            unfold dataR rank1
            rw [h1]
            simp [hk, hr, h5, hl]
          have hw : trW xs n = ((xs[4]?.getD 0).toNat : Int) := by unfold trW; rw [if_pos h5]
          have := m_data_FY L S (K.toNat : Int) F A n c xs w hA hN hn hp' hk' hr _ _ _ _ _ _ rfl (by unfold trE; rw [if_pos h5]; rfl) (HT_of n xs (by omega))
          rw [e]
          rw [hw] at this
          exact this
        · have e : dataR K F S xs = ({ frZ K F S with da := xs }, false) := by
            unfold dataR rank1
            rw [h1]
            simp [hk, hr, h5, hl]
          have := m_data_FN L S (K.toNat : Int) F A n c xs w hA hN hn hp' hk' hr _ _ _ _ _ _ rfl (by unfold trE; rw [if_neg h5]; rfl) (HT_of n xs (by omega))
          rw [e]
          exact this
      · have hr' : hasB (F.toNat : Int) 32 = false := by simpa using hr
        have e : dataR K F S xs = ({ frZ K F S with da := xs }, true) := by
          unfold dataR
          rw [h1]
          simp [hr']
        have := m_data_FF L S (K.toNat : Int) F A n c xs w hA hN hn hp' hk' hr'
        rw [e]
        exact this
  · have hk' : ((K.toNat : Int) == 1) = false := by simp; omega
    by_cases hp : hasB (F.toNat : Int) 8 = true
    · by_cases hu : UnIn xs n
      · have hpe : (unE xs n != 0) = false := by unfold unE; rw [if_pos hu]; rfl
        have h1 : data1 K F S xs = ({ frZ K F S with da := unV xs n, pd := unN xs n }, true) := by unfold data1; rw [if_pos hp, hl, if_pos hu]
        have e : dataR K F S xs = ({ frZ K F S with da := unV xs n, pd := unN xs n }, true) := by
          unfold dataR
          rw [h1]
          simp [hk]
        have := m_data_YK L S (K.toNat : Int) F A n c xs w hA hN hn hp hk' (unV xs n) _ (unN xs n) (unE xs n) rfl hpe (HU_of A n c xs hn hnc)
        rw [e]
        exact this
      · have hpe : (unE xs n != 0) = true := by unfold unE; rw [if_neg hu]; split <;> rfl
        have e : dataR K F S xs = ({ frZ K F S with da := xs }, false) := by unfold dataR data1; rw [if_pos hp, hl, if_neg hu]; rfl
        have := m_data_NK L S (K.toNat : Int) F A n c xs w hA hN hn hp (unV xs n) _ (unN xs n) (unE xs n) rfl hpe (HU_of A n c xs hn hnc)
        rw [e]
        exact this
    · have hp' : hasB (F.toNat : Int) 8 = false := by simpa using hp
      have h1 : data1 K F S xs = ({ frZ K F S with da := xs }, true) := by unfold data1; rw [if_neg hp]
      have e : dataR K F S xs = ({ frZ K F S with da := xs }, true) := by
        unfold dataR
        rw [h1]
        simp [hk]
      have := m_data_FK L S (K.toNat : Int) F A n c xs w hA hN hn hp' hk'
      rw [e]
      exact this
end Go.Proofs.YtbflhphjnmhjhaaGreat
/- The document's values: the faults of what stands in a frame. -/
namespace Go.Proofs.YtbflhphjnmhjhaaGreat
open Go.RowKit Oct Fi Fm
set_option linter.unusedVariables false
set_option linter.unusedSimpArgs false
attribute [local go_sem] i64_and1 i64_and7 i64_and31
namespace Fm
def pairsX (l : List Pr) : Ft := match l.find? (fun p => decide (setX p ≠ fine)) with
  | some p => setX p
  | none => fine
def valuesI (px : Ft) (b8 bi bs b16 bl rk bd : Bool) (st : Int) : Ft :=
  if px ≠ fine then px else if b8 && bi && bs then whole 1 else if b8 && bi then (false, st, 1) else if b16 && bl then whole 1 else if rk && bd then (false, st, 1) else fine
def valuesX (f : Fr) : Ft := valuesI (pairsX f.ps) ((f.kd.toNat : Int) == 8) (f.ic == 0) (f.st == 0) ((f.kd.toNat : Int) == 16) (f.la == 0) f.rk (f.dp == f.st) f.st
end Fm
theorem setX_ways (p : Pr) : setX p = fine ∨ setX p = whole 1 ∨ setX p = whole 3 := by
  unfold setX
  split
  · exact .inr (.inl rfl)
  · split
    · exact .inr (.inl rfl)
    · split
      · exact .inr (.inr rfl)
      · exact .inl rfl
theorem pairsX_hit {l : List Pr} {j : Nat} {x : Pr} (hx : l[j]? = some x) (hall : ∀ p ∈ l.take j, setX p = fine) (hn : setX x ≠ fine) : pairsX l = setX x := by
  obtain ⟨h1, h2⟩ := List.getElem?_eq_some_iff.1 hx
  have e : l = l.take j ++ x :: l.drop (j + 1) := by
    have := List.take_append_drop j l
    rw [List.drop_eq_getElem_cons h1, h2] at this
    exact this.symm
  unfold pairsX
  have hf : l.find? (fun p => decide (setX p ≠ fine)) = some x := by
    rw [e, List.find?_append, List.find?_eq_none.2 (fun p hp => by simp [hall p hp])]
    simp [hn]
  rw [hf]
theorem pairsX_none {l : List Pr} (hall : ∀ p ∈ l, setX p = fine) : pairsX l = fine := by
  unfold pairsX
  rw [List.find?_eq_none.2 (fun p hp => by simp [hall p hp])]
theorem fx_boxes {w w1 : World} {a0 a1 a2 a3 a4 a5 a6 a7 a8 a9 a10 a11 a12 v0 v1 v2 : Value} {t s : TypeId} (hb : Below ((w.alloc (.cells #[a0, a1, a2, a3, a4, a5, a6, a7, a8, a9, a10, a11, a12] t)).alloc (.cells #[v0, v1, v2] s)).heap.size ((w.alloc (.cells #[a0, a1, a2, a3, a4, a5, a6, a7, a8, a9, a10, a11, a12] t)).alloc (.cells #[v0, v1, v2] s)) w1) :
    (w1.cell? ⟨w.heap.size, 0, none⟩ = some a0 ∧ w1.cell? ⟨w.heap.size, 1, none⟩ = some a1 ∧ w1.cell? ⟨w.heap.size, 2, none⟩ = some a2 ∧ w1.cell? ⟨w.heap.size, 3, none⟩ = some a3 ∧ w1.cell? ⟨w.heap.size, 4, none⟩ = some a4 ∧ w1.cell? ⟨w.heap.size, 5, none⟩ = some a5 ∧ w1.cell? ⟨w.heap.size, 6, none⟩ = some a6 ∧ w1.cell? ⟨w.heap.size, 7, none⟩ = some a7 ∧ w1.cell? ⟨w.heap.size, 8, none⟩ = some a8 ∧ w1.cell? ⟨w.heap.size, 9, none⟩ = some a9 ∧ w1.cell? ⟨w.heap.size, 10, none⟩ = some a10 ∧ w1.cell? ⟨w.heap.size, 11, none⟩ = some a11 ∧ w1.cell? ⟨w.heap.size, 12, none⟩ = some a12) ∧
    (w1.cell? ⟨w.heap.size + 1, 0, none⟩ = some v0 ∧ w1.cell? ⟨w.heap.size + 1, 1, none⟩ = some v1 ∧ w1.cell? ⟨w.heap.size + 1, 2, none⟩ = some v2) ∧ (∀ j, w1.frozen? ⟨w.heap.size + 1, j, none⟩ = false) ∧ Below w.heap.size w w1 ∧ w1.heap[w.heap.size + 1]? = some (.cells #[v0, v1, v2] s) := by
  have hr : w1.heap[w.heap.size]? = some (.cells #[a0, a1, a2, a3, a4, a5, a6, a7, a8, a9, a10, a11, a12] t) := by
    rw [hb.block _ (by simp; omega), Below.heap_alloc _ _ _ (by simp)]
    exact World.alloc_heap_new w _
  have hx : w1.heap[w.heap.size + 1]? = some (.cells #[v0, v1, v2] s) := by
    rw [hb.block _ (by simp)]
    have h := World.alloc_heap_new (w.alloc (.cells #[a0, a1, a2, a3, a4, a5, a6, a7, a8, a9, a10, a11, a12] t)) (.cells #[v0, v1, v2] s)
    rwa [World.size_alloc] at h
  refine ⟨c13_row hr, ⟨?_, ?_, ?_⟩, fun j => frozen_of_row w1 _ j _ s hx, ?_, hx⟩
  · rw [cell_of_row _ _ _ _ _ (0, 0) hx]; rfl
  · rw [cell_of_row _ _ _ _ _ (0, 0) hx]; rfl
  · rw [cell_of_row _ _ _ _ _ (0, 0) hx]; rfl
  · exact (((Below.refl _ w).alloc (Nat.le_refl _) _).alloc (by simp) _).trans (hb.mono (by simp; omega))
theorem c2_at {w w1 : World} {b i k : Nat} {u v : Value} {o o' : Obj} (h : w.cell? ⟨b, i, none⟩ = some u ∧ w.cell? ⟨b, k, none⟩ = some v) (hb : b < w.heap.size) (hb1 : Below ((w.alloc o).alloc o').heap.size ((w.alloc o).alloc o') w1) : w1.cell? ⟨b, i, none⟩ = some u ∧ w1.cell? ⟨b, k, none⟩ = some v := by
  have hl : b < (w.alloc o).heap.size := by simp; omega
  have hl2 : b < ((w.alloc o).alloc o').heap.size := by simp; omega
  exact ⟨cell_on hb1 hl2 (cell_al hl (cell_al hb h.1)), cell_on hb1 hl2 (cell_al hl (cell_al hb h.2))⟩
set_option maxRecDepth 100000 in
set_option maxHeartbeats 4000000 in
theorem m_values_at (kd fl st pd la ic co dp wt : Int) (v : Value) (rk al : Bool) (A : Option Addr) (m c : Nat) (l : List Pr) (w : World) (hv : v.oneCell' = true) (hA : Ps w w.heap.size A m l) (hm : m ≤ 100000) (b8 bi bs b16 bl bd : Bool)
    (h8 : (kd == 8) = b8) (hi : (ic == 0) = bi) (hs : (st == 0) = bs) (h16 : (kd == 16) = b16) (hl : (la == 0) = bl) (hd : (dp == st) = bd) :
    Calls Tryz.prog 26 #[.agg #[.int .u8 kd, .int .u8 fl, .int .i64 st, v, .int .i64 pd, .int .i64 la, .int .i64 ic, .int .u32 co, .slice A m c, .bool rk, .bool al, .int .i64 dp, .int .u8 wt]] w fun e w' => e = .returned (fv (valuesI (pairsX l) b8 bi bs b16 bl rk bd st)) ∧ Below w.heap.size w w' := by
  have HA := Lib.hid hA
  have BR0 := Lib.hid (Below.refl ((w.alloc (.cells #[.int .u8 kd, .int .u8 fl, .int .i64 st, v, .int .i64 pd, .int .i64 la, .int .i64 ic, .int .u32 co, .slice A m c, .bool rk, .bool al, .int .i64 dp, .int .u8 wt] 30)).alloc (.cells #[.bool false, .int .i64 0, .int .u32 0] 34)).heap.size ((w.alloc (.cells #[.int .u8 kd, .int .u8 fl, .int .i64 st, v, .int .i64 pd, .int .i64 la, .int .i64 ic, .int .u32 co, .slice A m c, .bool rk, .bool al, .int .i64 dp, .int .u8 wt] 30)).alloc (.cells #[.bool false, .int .i64 0, .int .u32 0] 34)))
  clear hA
  go_enter Tryz.func26, Tryz.ntmps26
  go_wp2
  go_loopw [3] (fun t wr => ∃ j : Nat, j ≤ m ∧ t = .int .i64 j ∧ (∀ p ∈ l.take j, setX p = fine) ∧ Below ((w.alloc (.cells #[.int .u8 kd, .int .u8 fl, .int .i64 st, v, .int .i64 pd, .int .i64 la, .int .i64 ic, .int .u32 co, .slice A m c, .bool rk, .bool al, .int .i64 dp, .int .u8 wt] 30)).alloc (.cells #[.bool false, .int .i64 0, .int .u32 0] 34)).heap.size ((w.alloc (.cells #[.int .u8 kd, .int .u8 fl, .int .i64 st, v, .int .i64 pd, .int .i64 la, .int .i64 ic, .int .u32 co, .slice A m c, .bool rk, .bool al, .int .i64 dp, .int .u8 wt] 30)).alloc (.cells #[.bool false, .int .i64 0, .int .u32 0] 34)) wr) (fun t _ => m - (intOf t).toNat)
  case atStart => exact ⟨0, Nat.zero_le _, rfl, fun p hp => by simp at hp, BR0.out⟩
  case round =>
    clear BR0
    obtain ⟨j, hj, rfl, hall0, hbel⟩ := hrel
    have hall := Lib.hid hall0
    have BR := Lib.hid hbel
    obtain ⟨⟨p0, p1, p2, p3, p4, p5, p6, p7, p8, p9, p10, p11, p12⟩, ⟨q0, q1, q2⟩, hfz, hbw, hrow⟩ := fx_boxes BR.out
    clear hbel hall0 hbw hrow
    by_cases hlt : j < m
    · obtain ⟨b, o, rfl, hbb, hcc⟩ := ps_cell HA.out (by omega)
      obtain ⟨x, hx, hc1, hc2⟩ := hcc j hlt
      rw [← Nat.add_assoc] at hc2
      have HP := Lib.hid (And.intro hc1 hc2)
      obtain ⟨hc1, hc2⟩ := c2_at HP.out hbb BR.out
      clear hcc
      rcases setX_ways x with hs | hs | hs
      · have HS : Hid (∀ w, Calls Tryz.prog 48 #[.agg #[.int .u16 x.1.toNat, .int .u32 x.2.toNat]] w fun e w' => e = .returned (.agg #[.bool false, .int .i64 0, .int .u32 0]) ∧ Below w.heap.size w w') := Lib.hid (fun w => by have := m_set x w; rw [hs] at this; exact this)
        have HN : Hid (∀ p ∈ l.take (j + 1), setX p = fine) := Lib.hid (by
          obtain ⟨g1, g2⟩ := List.getElem?_eq_some_iff.1 hx
          intro p hp
          rw [← List.take_append_getElem g1, g2] at hp
          rcases List.mem_append.1 hp with hp | hp
          · exact hall.out p hp
          · simp at hp; rw [hp]; exact hs)
        clear hs hx
        go_wp2_with (first
          | (go_at_call 48; (with_reducible refine (HS.out _).mono ?_); rintro e w1 ⟨rfl, hc⟩; have B1 := Lib.hid (BR.out.trans (hc.mono BR.out.size)); clear hc BR; have BR := Lib.hid B1.out; clear B1)
          | (go_at_call 24; (with_reducible refine (m_fine _).mono ?_); rintro e w1 ⟨rfl, hc⟩; have B1 := Lib.hid (BR.out.trans (hc.mono BR.out.size)); clear hc BR; have BR := Lib.hid B1.out; clear B1))
        go_roundw
        case rel => exact ⟨j + 1, by omega, by go_num, HN.out, BR.out⟩
        case measure => simp [intOf]; omega
      · have HS : Hid (∀ w, Calls Tryz.prog 48 #[.agg #[.int .u16 x.1.toNat, .int .u32 x.2.toNat]] w fun e w' => e = .returned (.agg #[.bool true, .int .i64 0, .int .u32 1]) ∧ Below w.heap.size w w') := Lib.hid (fun w => by have := m_set x w; rw [hs] at this; exact this)
        have HV : Hid (fv (valuesI (pairsX l) b8 bi bs b16 bl rk bd st) = .agg #[.bool true, .int .i64 0, .int .u32 1]) := Lib.hid (by rw [pairsX_hit hx hall.out (by rw [hs]; decide), hs]; rfl)
        clear hs hx
        go_wp2_with (first
          | (go_at_call 48; (with_reducible refine (HS.out _).mono ?_); rintro e w1 ⟨rfl, hc⟩; have B1 := Lib.hid (BR.out.trans (hc.mono BR.out.size)); clear hc BR; have BR := Lib.hid B1.out; obtain ⟨⟨p0, p1, p2, p3, p4, p5, p6, p7, p8, p9, p10, p11, p12⟩, ⟨q0, q1, q2⟩, hfz, hbw, hrow⟩ := fx_boxes B1.out; obtain ⟨hc1, hc2⟩ := c2_at (HP.out) hbb B1.out; have HQ := Lib.hid hrow; have HB := Lib.hid hbw; clear hbw hrow B1)
          | (go_at_call 24; (with_reducible refine (m_fine _).mono ?_); rintro e w1 ⟨rfl, hc⟩; have B1 := Lib.hid (BR.out.trans (hc.mono BR.out.size)); clear hc BR; have BR := Lib.hid B1.out; obtain ⟨⟨p0, p1, p2, p3, p4, p5, p6, p7, p8, p9, p10, p11, p12⟩, ⟨q0, q1, q2⟩, hfz, hbw, hrow⟩ := fx_boxes B1.out; obtain ⟨hc1, hc2⟩ := c2_at (HP.out) hbb B1.out; clear hbw hrow B1))
        exact bodyPost_ret (fault_res rfl _ HQ.out rfl) rfl ⟨congrArg Ending.returned HV.out.symm, set3_below HB.out (Nat.le_succ _) _ _ _⟩
      · have HS : Hid (∀ w, Calls Tryz.prog 48 #[.agg #[.int .u16 x.1.toNat, .int .u32 x.2.toNat]] w fun e w' => e = .returned (.agg #[.bool true, .int .i64 0, .int .u32 3]) ∧ Below w.heap.size w w') := Lib.hid (fun w => by have := m_set x w; rw [hs] at this; exact this)
        have HV : Hid (fv (valuesI (pairsX l) b8 bi bs b16 bl rk bd st) = .agg #[.bool true, .int .i64 0, .int .u32 3]) := Lib.hid (by rw [pairsX_hit hx hall.out (by rw [hs]; decide), hs]; rfl)
        clear hs hx
        go_wp2_with (first
          | (go_at_call 48; (with_reducible refine (HS.out _).mono ?_); rintro e w1 ⟨rfl, hc⟩; have B1 := Lib.hid (BR.out.trans (hc.mono BR.out.size)); clear hc BR; have BR := Lib.hid B1.out; obtain ⟨⟨p0, p1, p2, p3, p4, p5, p6, p7, p8, p9, p10, p11, p12⟩, ⟨q0, q1, q2⟩, hfz, hbw, hrow⟩ := fx_boxes B1.out; obtain ⟨hc1, hc2⟩ := c2_at (HP.out) hbb B1.out; have HQ := Lib.hid hrow; have HB := Lib.hid hbw; clear hbw hrow B1)
          | (go_at_call 24; (with_reducible refine (m_fine _).mono ?_); rintro e w1 ⟨rfl, hc⟩; have B1 := Lib.hid (BR.out.trans (hc.mono BR.out.size)); clear hc BR; have BR := Lib.hid B1.out; obtain ⟨⟨p0, p1, p2, p3, p4, p5, p6, p7, p8, p9, p10, p11, p12⟩, ⟨q0, q1, q2⟩, hfz, hbw, hrow⟩ := fx_boxes B1.out; obtain ⟨hc1, hc2⟩ := c2_at (HP.out) hbb B1.out; clear hbw hrow B1))
        exact bodyPost_ret (fault_res rfl _ HQ.out rfl) rfl ⟨congrArg Ending.returned HV.out.symm, set3_below HB.out (Nat.le_succ _) _ _ _⟩
    · obtain rfl : j = m := by omega
      have HPX := Lib.hid (pairsX_none (l := l) (fun p hp => hall.out p (by rw [List.take_of_length_le (by have := HA.out.1; omega)]; exact hp)))
      cases b8
      · cases b16
        · cases rk
          · go_wp2_with (first
              | (go_at_call 17; (with_reducible refine (m_whole _ _).mono ?_); rintro e w1 ⟨rfl, hc⟩; have B1 := Lib.hid (BR.out.trans (hc.mono BR.out.size)); clear hc; obtain ⟨_, ⟨q0, q1, q2⟩, hfz, hbw, hrow⟩ := fx_boxes B1.out; have HQ := Lib.hid hrow; have HB := Lib.hid hbw; clear hbw hrow B1)
              | (go_at_call 19; (with_reducible refine (m_of _ _ _).mono ?_); rintro e w1 ⟨rfl, hc⟩; have B1 := Lib.hid (BR.out.trans (hc.mono BR.out.size)); clear hc; obtain ⟨_, ⟨q0, q1, q2⟩, hfz, hbw, hrow⟩ := fx_boxes B1.out; have HQ := Lib.hid hrow; have HB := Lib.hid hbw; clear hbw hrow B1)
              | (go_at_call 24; (with_reducible refine (m_fine _).mono ?_); rintro e w1 ⟨rfl, hc⟩; have B1 := Lib.hid (BR.out.trans (hc.mono BR.out.size)); clear hc; obtain ⟨_, ⟨q0, q1, q2⟩, hfz, hbw, hrow⟩ := fx_boxes B1.out; have HQ := Lib.hid hrow; have HB := Lib.hid hbw; clear hbw hrow B1))
            exact bodyPost_ret (fault_res rfl _ HQ.out rfl) rfl ⟨by rw [HPX.out]; rfl, set3_below HB.out (Nat.le_succ _) _ _ _⟩
          · cases bd
            all_goals
              go_wp2_with (first
                | (go_at_call 17; (with_reducible refine (m_whole _ _).mono ?_); rintro e w1 ⟨rfl, hc⟩; have B1 := Lib.hid (BR.out.trans (hc.mono BR.out.size)); clear hc; obtain ⟨_, ⟨q0, q1, q2⟩, hfz, hbw, hrow⟩ := fx_boxes B1.out; have HQ := Lib.hid hrow; have HB := Lib.hid hbw; clear hbw hrow B1)
                | (go_at_call 19; (with_reducible refine (m_of _ _ _).mono ?_); rintro e w1 ⟨rfl, hc⟩; have B1 := Lib.hid (BR.out.trans (hc.mono BR.out.size)); clear hc; obtain ⟨_, ⟨q0, q1, q2⟩, hfz, hbw, hrow⟩ := fx_boxes B1.out; have HQ := Lib.hid hrow; have HB := Lib.hid hbw; clear hbw hrow B1)
                | (go_at_call 24; (with_reducible refine (m_fine _).mono ?_); rintro e w1 ⟨rfl, hc⟩; have B1 := Lib.hid (BR.out.trans (hc.mono BR.out.size)); clear hc; obtain ⟨_, ⟨q0, q1, q2⟩, hfz, hbw, hrow⟩ := fx_boxes B1.out; have HQ := Lib.hid hrow; have HB := Lib.hid hbw; clear hbw hrow B1))
              exact bodyPost_ret (fault_res rfl _ HQ.out rfl) rfl ⟨by rw [HPX.out]; rfl, set3_below HB.out (Nat.le_succ _) _ _ _⟩
        · cases bl
          · cases rk
            · go_wp2_with (first
                | (go_at_call 17; (with_reducible refine (m_whole _ _).mono ?_); rintro e w1 ⟨rfl, hc⟩; have B1 := Lib.hid (BR.out.trans (hc.mono BR.out.size)); clear hc; obtain ⟨_, ⟨q0, q1, q2⟩, hfz, hbw, hrow⟩ := fx_boxes B1.out; have HQ := Lib.hid hrow; have HB := Lib.hid hbw; clear hbw hrow B1)
                | (go_at_call 19; (with_reducible refine (m_of _ _ _).mono ?_); rintro e w1 ⟨rfl, hc⟩; have B1 := Lib.hid (BR.out.trans (hc.mono BR.out.size)); clear hc; obtain ⟨_, ⟨q0, q1, q2⟩, hfz, hbw, hrow⟩ := fx_boxes B1.out; have HQ := Lib.hid hrow; have HB := Lib.hid hbw; clear hbw hrow B1)
                | (go_at_call 24; (with_reducible refine (m_fine _).mono ?_); rintro e w1 ⟨rfl, hc⟩; have B1 := Lib.hid (BR.out.trans (hc.mono BR.out.size)); clear hc; obtain ⟨_, ⟨q0, q1, q2⟩, hfz, hbw, hrow⟩ := fx_boxes B1.out; have HQ := Lib.hid hrow; have HB := Lib.hid hbw; clear hbw hrow B1))
              exact bodyPost_ret (fault_res rfl _ HQ.out rfl) rfl ⟨by rw [HPX.out]; rfl, set3_below HB.out (Nat.le_succ _) _ _ _⟩
            · cases bd
              all_goals
                go_wp2_with (first
                  | (go_at_call 17; (with_reducible refine (m_whole _ _).mono ?_); rintro e w1 ⟨rfl, hc⟩; have B1 := Lib.hid (BR.out.trans (hc.mono BR.out.size)); clear hc; obtain ⟨_, ⟨q0, q1, q2⟩, hfz, hbw, hrow⟩ := fx_boxes B1.out; have HQ := Lib.hid hrow; have HB := Lib.hid hbw; clear hbw hrow B1)
                  | (go_at_call 19; (with_reducible refine (m_of _ _ _).mono ?_); rintro e w1 ⟨rfl, hc⟩; have B1 := Lib.hid (BR.out.trans (hc.mono BR.out.size)); clear hc; obtain ⟨_, ⟨q0, q1, q2⟩, hfz, hbw, hrow⟩ := fx_boxes B1.out; have HQ := Lib.hid hrow; have HB := Lib.hid hbw; clear hbw hrow B1)
                  | (go_at_call 24; (with_reducible refine (m_fine _).mono ?_); rintro e w1 ⟨rfl, hc⟩; have B1 := Lib.hid (BR.out.trans (hc.mono BR.out.size)); clear hc; obtain ⟨_, ⟨q0, q1, q2⟩, hfz, hbw, hrow⟩ := fx_boxes B1.out; have HQ := Lib.hid hrow; have HB := Lib.hid hbw; clear hbw hrow B1))
                exact bodyPost_ret (fault_res rfl _ HQ.out rfl) rfl ⟨by rw [HPX.out]; rfl, set3_below HB.out (Nat.le_succ _) _ _ _⟩
          · go_wp2_with (first
              | (go_at_call 17; (with_reducible refine (m_whole _ _).mono ?_); rintro e w1 ⟨rfl, hc⟩; have B1 := Lib.hid (BR.out.trans (hc.mono BR.out.size)); clear hc; obtain ⟨_, ⟨q0, q1, q2⟩, hfz, hbw, hrow⟩ := fx_boxes B1.out; have HQ := Lib.hid hrow; have HB := Lib.hid hbw; clear hbw hrow B1)
              | (go_at_call 19; (with_reducible refine (m_of _ _ _).mono ?_); rintro e w1 ⟨rfl, hc⟩; have B1 := Lib.hid (BR.out.trans (hc.mono BR.out.size)); clear hc; obtain ⟨_, ⟨q0, q1, q2⟩, hfz, hbw, hrow⟩ := fx_boxes B1.out; have HQ := Lib.hid hrow; have HB := Lib.hid hbw; clear hbw hrow B1)
              | (go_at_call 24; (with_reducible refine (m_fine _).mono ?_); rintro e w1 ⟨rfl, hc⟩; have B1 := Lib.hid (BR.out.trans (hc.mono BR.out.size)); clear hc; obtain ⟨_, ⟨q0, q1, q2⟩, hfz, hbw, hrow⟩ := fx_boxes B1.out; have HQ := Lib.hid hrow; have HB := Lib.hid hbw; clear hbw hrow B1))
            exact bodyPost_ret (fault_res rfl _ HQ.out rfl) rfl ⟨by rw [HPX.out]; rfl, set3_below HB.out (Nat.le_succ _) _ _ _⟩
      · cases bi
        · obtain rfl : b16 = false := by
            rw [← h16]
            simp at h8 ⊢
            omega
          cases rk
          · go_wp2_with (first
              | (go_at_call 17; (with_reducible refine (m_whole _ _).mono ?_); rintro e w1 ⟨rfl, hc⟩; have B1 := Lib.hid (BR.out.trans (hc.mono BR.out.size)); clear hc; obtain ⟨_, ⟨q0, q1, q2⟩, hfz, hbw, hrow⟩ := fx_boxes B1.out; have HQ := Lib.hid hrow; have HB := Lib.hid hbw; clear hbw hrow B1)
              | (go_at_call 19; (with_reducible refine (m_of _ _ _).mono ?_); rintro e w1 ⟨rfl, hc⟩; have B1 := Lib.hid (BR.out.trans (hc.mono BR.out.size)); clear hc; obtain ⟨_, ⟨q0, q1, q2⟩, hfz, hbw, hrow⟩ := fx_boxes B1.out; have HQ := Lib.hid hrow; have HB := Lib.hid hbw; clear hbw hrow B1)
              | (go_at_call 24; (with_reducible refine (m_fine _).mono ?_); rintro e w1 ⟨rfl, hc⟩; have B1 := Lib.hid (BR.out.trans (hc.mono BR.out.size)); clear hc; obtain ⟨_, ⟨q0, q1, q2⟩, hfz, hbw, hrow⟩ := fx_boxes B1.out; have HQ := Lib.hid hrow; have HB := Lib.hid hbw; clear hbw hrow B1))
            exact bodyPost_ret (fault_res rfl _ HQ.out rfl) rfl ⟨by rw [HPX.out]; rfl, set3_below HB.out (Nat.le_succ _) _ _ _⟩
          · cases bd
            all_goals
              go_wp2_with (first
                | (go_at_call 17; (with_reducible refine (m_whole _ _).mono ?_); rintro e w1 ⟨rfl, hc⟩; have B1 := Lib.hid (BR.out.trans (hc.mono BR.out.size)); clear hc; obtain ⟨_, ⟨q0, q1, q2⟩, hfz, hbw, hrow⟩ := fx_boxes B1.out; have HQ := Lib.hid hrow; have HB := Lib.hid hbw; clear hbw hrow B1)
                | (go_at_call 19; (with_reducible refine (m_of _ _ _).mono ?_); rintro e w1 ⟨rfl, hc⟩; have B1 := Lib.hid (BR.out.trans (hc.mono BR.out.size)); clear hc; obtain ⟨_, ⟨q0, q1, q2⟩, hfz, hbw, hrow⟩ := fx_boxes B1.out; have HQ := Lib.hid hrow; have HB := Lib.hid hbw; clear hbw hrow B1)
                | (go_at_call 24; (with_reducible refine (m_fine _).mono ?_); rintro e w1 ⟨rfl, hc⟩; have B1 := Lib.hid (BR.out.trans (hc.mono BR.out.size)); clear hc; obtain ⟨_, ⟨q0, q1, q2⟩, hfz, hbw, hrow⟩ := fx_boxes B1.out; have HQ := Lib.hid hrow; have HB := Lib.hid hbw; clear hbw hrow B1))
              exact bodyPost_ret (fault_res rfl _ HQ.out rfl) rfl ⟨by rw [HPX.out]; rfl, set3_below HB.out (Nat.le_succ _) _ _ _⟩
        · cases bs
          all_goals
            go_wp2_with (first
              | (go_at_call 17; (with_reducible refine (m_whole _ _).mono ?_); rintro e w1 ⟨rfl, hc⟩; have B1 := Lib.hid (BR.out.trans (hc.mono BR.out.size)); clear hc; obtain ⟨_, ⟨q0, q1, q2⟩, hfz, hbw, hrow⟩ := fx_boxes B1.out; have HQ := Lib.hid hrow; have HB := Lib.hid hbw; clear hbw hrow B1)
              | (go_at_call 19; (with_reducible refine (m_of _ _ _).mono ?_); rintro e w1 ⟨rfl, hc⟩; have B1 := Lib.hid (BR.out.trans (hc.mono BR.out.size)); clear hc; obtain ⟨_, ⟨q0, q1, q2⟩, hfz, hbw, hrow⟩ := fx_boxes B1.out; have HQ := Lib.hid hrow; have HB := Lib.hid hbw; clear hbw hrow B1)
              | (go_at_call 24; (with_reducible refine (m_fine _).mono ?_); rintro e w1 ⟨rfl, hc⟩; have B1 := Lib.hid (BR.out.trans (hc.mono BR.out.size)); clear hc; obtain ⟨_, ⟨q0, q1, q2⟩, hfz, hbw, hrow⟩ := fx_boxes B1.out; have HQ := Lib.hid hrow; have HB := Lib.hid hbw; clear hbw hrow B1))
            exact bodyPost_ret (fault_res rfl _ HQ.out rfl) rfl ⟨by rw [HPX.out]; rfl, set3_below HB.out (Nat.le_succ _) _ _ _⟩
theorem m_values (f : Fr) (v : Value) (A : Option Addr) (m c : Nat) (w : World) (hv : v.oneCell' = true) (hA : Ps w w.heap.size A m f.ps) (hm : m ≤ 100000) :
    Calls Tryz.prog 26 #[frv f v (.slice A m c)] w fun e w' => e = .returned (fv (valuesX f)) ∧ Below w.heap.size w w' :=
  m_values_at (f.kd.toNat : Int) (f.fl.toNat : Int) f.st f.pd f.la f.ic (f.co.toNat : Int) f.dp (f.wt.toNat : Int) v f.rk f.al A m c f.ps w hv hA hm _ _ _ _ _ _ rfl rfl rfl rfl rfl rfl
end Go.Proofs.YtbflhphjnmhjhaaGreat
/- The document's inner: what stands in a payload of as many bytes as its kind wants. -/
namespace Go.Proofs.YtbflhphjnmhjhaaGreat
open Go.RowKit Oct Fi Fm
set_option linter.unusedVariables false
set_option linter.unusedSimpArgs false
attribute [local go_sem] i64_and1 i64_and7 i64_and31

set_option maxRecDepth 100000 in
set_option maxHeartbeats 4000000 in
theorem m_inner_0 (L S : Int) (F : UInt8) (A : Option Addr) (n c : Nat) (xs : List UInt8) (w : World) (hA : Bs w w.heap.size A n xs) (hN : A = none → c = 0) (hn : n ≤ 1000000) (hnc : n ≤ c) (d : Fr) (dok : Bool) (HDA : Hid (∀ w0, Bs w0 w0.heap.size A n xs → Calls Tryz.prog 43 #[.agg (hF0 0 F.toNat S), .agg #[.int .i64 L, .int .u8 0, .int .u8 F.toNat, .int .i64 S], .slice A n c] w0 fun e w' => ∃ A' n' c', e = .returned (.tuple #[.agg (fra d A' n' c' none 0 0), .bool dok]) ∧ HandS w' w0.heap.size A' n' c' d.da ∧ Below w0.heap.size w0 w')) :
    Calls Tryz.prog 25 #[.agg (hF0 0 F.toNat S), .agg #[.int .i64 L, .int .u8 0, .int .u8 F.toNat, .int .i64 S], .slice A n c] w fun e w' => ∃ A' n' c' A3 n3 c3 v u, v = .slice A' n' c' ∧ u = .slice A3 n3 c3 ∧ e = .returned (.tuple #[.agg #[.int .u8 d.kd.toNat, .int .u8 d.fl.toNat, .int .i64 d.st, v, .int .i64 d.pd, .int .i64 d.la, .int .i64 d.ic, .int .u32 d.co.toNat, u, .bool d.rk, .bool d.al, .int .i64 d.dp, .int .u8 d.wt.toNat], .bool dok]) ∧ HandS w' w.heap.size A' n' c' (d.da) ∧ HandP w' w.heap.size A3 n3 c3 ([]) ∧ Below w.heap.size w w' := by
  obtain ⟨i0, hi, hz0, hz1, hz2⟩ := info_parts info_u8
  have hinf := Lib.hid (And.intro hi (And.intro hz0 (And.intro hz1 hz2)))
  have HX : Hid (xs.length = n) := Lib.hid hA.1
  have HN := Lib.hid hN
  have K0 : Hid (EnvB (((w.alloc (.cells (hF0 0 F.toNat S) 30)).alloc (.cells #[.int .i64 L, .int .u8 0, .int .u8 F.toNat, .int .i64 S] 23)).alloc (.cells zF0 30)) [(A, n, xs)] [] [(w.heap.size + 1 + 1, zF0, 30), (w.heap.size + 1, #[.int .i64 L, .int .u8 0, .int .u8 F.toNat, .int .i64 S], 23), (w.heap.size, (hF0 0 F.toNat S), 30)]) := Lib.hid (((((EnvB.nil w).addS0 hA).box 30 (hF0 0 F.toNat S)).boxg 23 #[.int .i64 L, .int .u8 0, .int .u8 F.toNat, .int .i64 S] (w.heap.size + 1) (by simp)).boxg 30 zF0 (w.heap.size + 1 + 1) (by simp))
  have B0 : Hid (Below w.heap.size w (((w.alloc (.cells (hF0 0 F.toNat S) 30)).alloc (.cells #[.int .i64 L, .int .u8 0, .int .u8 F.toNat, .int .i64 S] 23)).alloc (.cells zF0 30))) := Lib.hid ((((Below.refl _ w).alloc (Nat.le_refl _) _).alloc (by simp) _).alloc (by simp only [World.size_alloc]; omega) _)
  clear hi hz0 hz1 hz2 hA hN
  go_enter Tryz.func25, Tryz.ntmps25
  go_wp2_with (first
    | (refine at_load 30 (.tmp 3) (by rfl) ?_; refine wpList_load_row (by rfl) 30 (.tmp 3) (by rfl) (w.heap.size) (by rfl) 30 _ (0, 0) _ (K0.out.row 2 rfl) Tryz.underlying30 (by rfl) info_F ?_)
    | (refine at_load 23 (.tmp 4) (by rfl) ?_; refine wpList_load_row (by rfl) 23 (.tmp 4) (by rfl) (w.heap.size + 1) (by rfl) 23 _ (0, 0) _ (K0.out.row 1 rfl) Tryz.underlying23 (by rfl) info_H ?_)
    | (go_at_call 43; (with_reducible refine (HDA.out _ (K0.out.s (A, n, xs) (by simp)).1).mono ?_); rintro e w1 ⟨A1, n1, c1, rfl, hh, hb⟩; have HD1 := Lib.hid (hh.2.1.less B0.out.size); have HC1 := Lib.hid hh.2.2; have K1 := Lib.hid (K0.out.handS hb hh); have B1 := Lib.hid (below_step B0.out hb); clear hh; clear hb K0 B0)
    | (refine at_store 30 (.tmp 6) (.tmp 21) (by rfl) ?_; refine wpList_put (by rfl) 30 (.tmp 6) (.tmp 21) (by rfl) (w.heap.size + 1 + 1) 0 (.agg (fra d A1 n1 c1 none 0 0)) (by rfl) (by rfl) 30 _ (fra d A1 n1 c1 none 0 0) (K1.out.row 0 rfl) (by simp [Value.cells]) (by kernel_rfl) info_F (by kernel_rfl) ?_; intro w2 hrow hoth hz hbl; have K2 := Lib.hid (K1.out.turn 0 rfl hrow hoth hz); have B2 := Lib.hid (hbl _ _ (by omega) B1.out); clear hrow hoth hz hbl K1 B1))
  exact bodyPost_ret (res_cell_tmp rfl _ _ _ _ _ _ rfl (K2.out.row 0 rfl) Tryz.underlying30 rfl info_F) rfl ⟨A1, n1, c1, none, 0, 0, _, _, rfl, rfl, rfl, ⟨(K2.out.s (A1, n1, d.da) (by simp)).1, HD1.out, HC1.out⟩, HandP.nil_ _ _, B2.out⟩
set_option maxRecDepth 100000 in
set_option maxHeartbeats 4000000 in
theorem m_inner_1 (L S : Int) (F : UInt8) (A : Option Addr) (n c : Nat) (xs : List UInt8) (w : World) (hA : Bs w w.heap.size A n xs) (hN : A = none → c = 0) (hn : n ≤ 1000000) (hnc : n ≤ c) (d : Fr) (dok : Bool) (HDA : Hid (∀ w0, Bs w0 w0.heap.size A n xs → Calls Tryz.prog 43 #[.agg (hF0 1 F.toNat S), .agg #[.int .i64 L, .int .u8 1, .int .u8 F.toNat, .int .i64 S], .slice A n c] w0 fun e w' => ∃ A' n' c', e = .returned (.tuple #[.agg (fra d A' n' c' none 0 0), .bool dok]) ∧ HandS w' w0.heap.size A' n' c' d.da ∧ Below w0.heap.size w0 w')) :
    Calls Tryz.prog 25 #[.agg (hF0 1 F.toNat S), .agg #[.int .i64 L, .int .u8 1, .int .u8 F.toNat, .int .i64 S], .slice A n c] w fun e w' => ∃ A' n' c' A3 n3 c3 v u, v = .slice A' n' c' ∧ u = .slice A3 n3 c3 ∧ e = .returned (.tuple #[.agg #[.int .u8 d.kd.toNat, .int .u8 d.fl.toNat, .int .i64 d.st, v, .int .i64 d.pd, .int .i64 d.la, .int .i64 d.ic, .int .u32 d.co.toNat, u, .bool d.rk, .bool d.al, .int .i64 d.dp, .int .u8 d.wt.toNat], .bool dok]) ∧ HandS w' w.heap.size A' n' c' (d.da) ∧ HandP w' w.heap.size A3 n3 c3 ([]) ∧ Below w.heap.size w w' := by
  obtain ⟨i0, hi, hz0, hz1, hz2⟩ := info_parts info_u8
  have hinf := Lib.hid (And.intro hi (And.intro hz0 (And.intro hz1 hz2)))
  have HX : Hid (xs.length = n) := Lib.hid hA.1
  have HN := Lib.hid hN
  have K0 : Hid (EnvB (((w.alloc (.cells (hF0 1 F.toNat S) 30)).alloc (.cells #[.int .i64 L, .int .u8 1, .int .u8 F.toNat, .int .i64 S] 23)).alloc (.cells zF0 30)) [(A, n, xs)] [] [(w.heap.size + 1 + 1, zF0, 30), (w.heap.size + 1, #[.int .i64 L, .int .u8 1, .int .u8 F.toNat, .int .i64 S], 23), (w.heap.size, (hF0 1 F.toNat S), 30)]) := Lib.hid (((((EnvB.nil w).addS0 hA).box 30 (hF0 1 F.toNat S)).boxg 23 #[.int .i64 L, .int .u8 1, .int .u8 F.toNat, .int .i64 S] (w.heap.size + 1) (by simp)).boxg 30 zF0 (w.heap.size + 1 + 1) (by simp))
  have B0 : Hid (Below w.heap.size w (((w.alloc (.cells (hF0 1 F.toNat S) 30)).alloc (.cells #[.int .i64 L, .int .u8 1, .int .u8 F.toNat, .int .i64 S] 23)).alloc (.cells zF0 30))) := Lib.hid ((((Below.refl _ w).alloc (Nat.le_refl _) _).alloc (by simp) _).alloc (by simp only [World.size_alloc]; omega) _)
  clear hi hz0 hz1 hz2 hA hN
  go_enter Tryz.func25, Tryz.ntmps25
  go_wp2_with (first
    | (refine at_load 30 (.tmp 3) (by rfl) ?_; refine wpList_load_row (by rfl) 30 (.tmp 3) (by rfl) (w.heap.size) (by rfl) 30 _ (0, 0) _ (K0.out.row 2 rfl) Tryz.underlying30 (by rfl) info_F ?_)
    | (refine at_load 23 (.tmp 4) (by rfl) ?_; refine wpList_load_row (by rfl) 23 (.tmp 4) (by rfl) (w.heap.size + 1) (by rfl) 23 _ (0, 0) _ (K0.out.row 1 rfl) Tryz.underlying23 (by rfl) info_H ?_)
    | (go_at_call 43; (with_reducible refine (HDA.out _ (K0.out.s (A, n, xs) (by simp)).1).mono ?_); rintro e w1 ⟨A1, n1, c1, rfl, hh, hb⟩; have HD1 := Lib.hid (hh.2.1.less B0.out.size); have HC1 := Lib.hid hh.2.2; have K1 := Lib.hid (K0.out.handS hb hh); have B1 := Lib.hid (below_step B0.out hb); clear hh; clear hb K0 B0)
    | (refine at_store 30 (.tmp 6) (.tmp 21) (by rfl) ?_; refine wpList_put (by rfl) 30 (.tmp 6) (.tmp 21) (by rfl) (w.heap.size + 1 + 1) 0 (.agg (fra d A1 n1 c1 none 0 0)) (by rfl) (by rfl) 30 _ (fra d A1 n1 c1 none 0 0) (K1.out.row 0 rfl) (by simp [Value.cells]) (by kernel_rfl) info_F (by kernel_rfl) ?_; intro w2 hrow hoth hz hbl; have K2 := Lib.hid (K1.out.turn 0 rfl hrow hoth hz); have B2 := Lib.hid (hbl _ _ (by omega) B1.out); clear hrow hoth hz hbl K1 B1))
  exact bodyPost_ret (res_cell_tmp rfl _ _ _ _ _ _ rfl (K2.out.row 0 rfl) Tryz.underlying30 rfl info_F) rfl ⟨A1, n1, c1, none, 0, 0, _, _, rfl, rfl, rfl, ⟨(K2.out.s (A1, n1, d.da) (by simp)).1, HD1.out, HC1.out⟩, HandP.nil_ _ _, B2.out⟩
set_option maxRecDepth 100000 in
set_option maxHeartbeats 4000000 in
theorem m_inner_2 (L S : Int) (F : UInt8) (A : Option Addr) (n c : Nat) (xs : List UInt8) (w : World) (hA : Bs w w.heap.size A n xs) (hN : A = none → c = 0) (hn : n ≤ 1000000) (hnc : n ≤ c)  :
    Calls Tryz.prog 25 #[.agg (hF0 2 F.toNat S), .agg #[.int .i64 L, .int .u8 2, .int .u8 F.toNat, .int .i64 S], .slice A n c] w fun e w' => ∃ A' n' c' A3 n3 c3 v u, v = .slice A' n' c' ∧ u = .slice A3 n3 c3 ∧ e = .returned (.tuple #[.agg #[.int .u8 2, .int .u8 F.toNat, .int .i64 S, v, .int .i64 0, .int .i64 0, .int .i64 0, .int .u32 0, u, .bool true, .bool (trA xs n), .int .i64 (trD xs n), .int .u8 (trW xs n)], .bool true]) ∧ HandS w' w.heap.size A' n' c' ([]) ∧ HandP w' w.heap.size A3 n3 c3 ([]) ∧ Below w.heap.size w w' := by
  obtain ⟨i0, hi, hz0, hz1, hz2⟩ := info_parts info_u8
  have hinf := Lib.hid (And.intro hi (And.intro hz0 (And.intro hz1 hz2)))
  have HX : Hid (xs.length = n) := Lib.hid hA.1
  have HN := Lib.hid hN
  have HT := HT_of n xs hn
  have K0 : Hid (EnvB (((w.alloc (.cells (hF0 2 F.toNat S) 30)).alloc (.cells #[.int .i64 L, .int .u8 2, .int .u8 F.toNat, .int .i64 S] 23)).alloc (.cells zF0 30)) [(A, n, xs)] [] [(w.heap.size + 1 + 1, zF0, 30), (w.heap.size + 1, #[.int .i64 L, .int .u8 2, .int .u8 F.toNat, .int .i64 S], 23), (w.heap.size, (hF0 2 F.toNat S), 30)]) := Lib.hid (((((EnvB.nil w).addS0 hA).box 30 (hF0 2 F.toNat S)).boxg 23 #[.int .i64 L, .int .u8 2, .int .u8 F.toNat, .int .i64 S] (w.heap.size + 1) (by simp)).boxg 30 zF0 (w.heap.size + 1 + 1) (by simp))
  have B0 : Hid (Below w.heap.size w (((w.alloc (.cells (hF0 2 F.toNat S) 30)).alloc (.cells #[.int .i64 L, .int .u8 2, .int .u8 F.toNat, .int .i64 S] 23)).alloc (.cells zF0 30))) := Lib.hid ((((Below.refl _ w).alloc (Nat.le_refl _) _).alloc (by simp) _).alloc (by simp only [World.size_alloc]; omega) _)
  clear hi hz0 hz1 hz2 hA hN
  go_enter Tryz.func25, Tryz.ntmps25
  go_wp2_with (first
    | (refine at_store 4 (.tmp 25) (.const (.bool true)) (by rfl) ?_; refine wpList_put (by rfl) 4 (.tmp 25) (.const (.bool true)) (by rfl) (w.heap.size) 9 (.bool true) (by rfl) (by rfl) 30 _ (fr13 2 F.toNat S none 0 0 0 0 0 0 none 0 0 true false 0 0) (K0.out.row 2 rfl) (by simp [Value.cells]) (by kernel_rfl) info_b (by kernel_rfl) ?_; intro w1 hrow hoth hz hbl; have K1 := Lib.hid (K0.out.turn 2 rfl hrow hoth hz); have B1 := Lib.hid (hbl _ _ (by omega) B0.out); clear hrow hoth hz hbl K0 B0)
    | (go_at_call 44; (with_reducible refine (HT.out A c _ (K1.out.s (A, n, xs) (by simp)).1 hnc).mono ?_); rintro e w2 ⟨v3, rfl, ho, hb⟩; have K2 := Lib.hid (K1.out.on hb); have B2 := Lib.hid (below_step B1.out hb); clear ho; clear hb K1 B1)
    | (refine at_store 28 (.tmp 32) (.tmp 29) (by rfl) ?_; refine wpList_put (by rfl) 28 (.tmp 32) (.tmp 29) (by rfl) (w.heap.size) 10 (.agg #[.bool (trA xs n), .int .i64 (trD xs n), .int .u8 (trW xs n)]) (by rfl) (by rfl) 30 _ (fr13 2 F.toNat S none 0 0 0 0 0 0 none 0 0 true (trA xs n) (trD xs n) (trW xs n)) (K2.out.row 2 rfl) (by simp [Value.cells]) (by kernel_rfl) info_R (by kernel_rfl) ?_; intro w3 hrow hoth hz hbl; have K3 := Lib.hid (K2.out.turn 2 rfl hrow hoth hz); have B3 := Lib.hid (hbl _ _ (by omega) B2.out); clear hrow hoth hz hbl K2 B2)
    | (refine at_load 30 (.tmp 3) (by rfl) ?_; refine wpList_load_row (by rfl) 30 (.tmp 3) (by rfl) (w.heap.size) (by rfl) 30 _ (0, 0) _ (K3.out.row 2 rfl) Tryz.underlying30 (by rfl) info_F ?_)
    | (refine at_store 30 (.tmp 6) (.tmp 74) (by rfl) ?_; refine wpList_put (by rfl) 30 (.tmp 6) (.tmp 74) (by rfl) (w.heap.size + 1 + 1) 0 (.agg (fr13 2 F.toNat S none 0 0 0 0 0 0 none 0 0 true (trA xs n) (trD xs n) (trW xs n))) (by rfl) (by rfl) 30 _ (fr13 2 F.toNat S none 0 0 0 0 0 0 none 0 0 true (trA xs n) (trD xs n) (trW xs n)) (K3.out.row 0 rfl) (by simp [Value.cells]) (by kernel_rfl) info_F (by kernel_rfl) ?_; intro w4 hrow hoth hz hbl; have K4 := Lib.hid (K3.out.turn 0 rfl hrow hoth hz); have B4 := Lib.hid (hbl _ _ (by omega) B3.out); clear hrow hoth hz hbl K3 B3))
  exact bodyPost_ret (res_cell_tmp rfl _ _ _ _ _ _ rfl (K4.out.row 0 rfl) Tryz.underlying30 rfl info_F) rfl ⟨none, 0, 0, none, 0, 0, _, _, rfl, rfl, rfl, HandS.nil_ _ _, HandP.nil_ _ _, B4.out⟩
set_option maxRecDepth 100000 in
set_option maxHeartbeats 4000000 in
theorem m_inner_3 (L S : Int) (F : UInt8) (A : Option Addr) (n c : Nat) (xs : List UInt8) (w : World) (hA : Bs w w.heap.size A n xs) (hN : A = none → c = 0) (hn : n ≤ 1000000) (hnc : n ≤ c)  :
    Calls Tryz.prog 25 #[.agg (hF0 3 F.toNat S), .agg #[.int .i64 L, .int .u8 3, .int .u8 F.toNat, .int .i64 S], .slice A n c] w fun e w' => ∃ A' n' c' A3 n3 c3 v u, v = .slice A' n' c' ∧ u = .slice A3 n3 c3 ∧ e = .returned (.tuple #[.agg #[.int .u8 3, .int .u8 F.toNat, .int .i64 S, v, .int .i64 0, .int .i64 0, .int .i64 0, .int .u32 (numN xs n 0 : Nat), u, .bool false, .bool false, .int .i64 0, .int .u8 0], .bool true]) ∧ HandS w' w.heap.size A' n' c' ([]) ∧ HandP w' w.heap.size A3 n3 c3 ([]) ∧ Below w.heap.size w w' := by
  obtain ⟨i0, hi, hz0, hz1, hz2⟩ := info_parts info_u8
  have hinf := Lib.hid (And.intro hi (And.intro hz0 (And.intro hz1 hz2)))
  have HX : Hid (xs.length = n) := Lib.hid hA.1
  have HN := Lib.hid hN
  have K0 : Hid (EnvB (((w.alloc (.cells (hF0 3 F.toNat S) 30)).alloc (.cells #[.int .i64 L, .int .u8 3, .int .u8 F.toNat, .int .i64 S] 23)).alloc (.cells zF0 30)) [(A, n, xs)] [] [(w.heap.size + 1 + 1, zF0, 30), (w.heap.size + 1, #[.int .i64 L, .int .u8 3, .int .u8 F.toNat, .int .i64 S], 23), (w.heap.size, (hF0 3 F.toNat S), 30)]) := Lib.hid (((((EnvB.nil w).addS0 hA).box 30 (hF0 3 F.toNat S)).boxg 23 #[.int .i64 L, .int .u8 3, .int .u8 F.toNat, .int .i64 S] (w.heap.size + 1) (by simp)).boxg 30 zF0 (w.heap.size + 1 + 1) (by simp))
  have B0 : Hid (Below w.heap.size w (((w.alloc (.cells (hF0 3 F.toNat S) 30)).alloc (.cells #[.int .i64 L, .int .u8 3, .int .u8 F.toNat, .int .i64 S] 23)).alloc (.cells zF0 30))) := Lib.hid ((((Below.refl _ w).alloc (Nat.le_refl _) _).alloc (by simp) _).alloc (by simp only [World.size_alloc]; omega) _)
  clear hi hz0 hz1 hz2 hA hN
  go_enter Tryz.func25, Tryz.ntmps25
  go_wp2_with (first
    | (go_at_call 45; refine (m_number A _ n c 0 xs _ (K0.out.s (A, n, xs) (by simp)).1 hn (by omega)).mono ?_; rintro e w' ⟨rfl, rfl⟩)
    | (refine at_store 25 (.tmp 37) (.tmp 36) (by rfl) ?_; refine wpList_put (by rfl) 25 (.tmp 37) (.tmp 36) (by rfl) (w.heap.size) 7 (.int .u32 (numN xs n 0 : Nat)) (by rfl) (by rfl) 30 _ (fr13 3 F.toNat S none 0 0 0 0 0 (numN xs n 0 : Nat) none 0 0 false false 0 0) (K0.out.row 2 rfl) (by simp [Value.cells]) (by kernel_rfl) info_u32 (by kernel_rfl) ?_; intro w1 hrow hoth hz hbl; have K1 := Lib.hid (K0.out.turn 2 rfl hrow hoth hz); have B1 := Lib.hid (hbl _ _ (by omega) B0.out); clear hrow hoth hz hbl K0 B0)
    | (refine at_load 30 (.tmp 3) (by rfl) ?_; refine wpList_load_row (by rfl) 30 (.tmp 3) (by rfl) (w.heap.size) (by rfl) 30 _ (0, 0) _ (K1.out.row 2 rfl) Tryz.underlying30 (by rfl) info_F ?_)
    | (refine at_store 30 (.tmp 6) (.tmp 74) (by rfl) ?_; refine wpList_put (by rfl) 30 (.tmp 6) (.tmp 74) (by rfl) (w.heap.size + 1 + 1) 0 (.agg (fr13 3 F.toNat S none 0 0 0 0 0 (numN xs n 0 : Nat) none 0 0 false false 0 0)) (by rfl) (by rfl) 30 _ (fr13 3 F.toNat S none 0 0 0 0 0 (numN xs n 0 : Nat) none 0 0 false false 0 0) (K1.out.row 0 rfl) (by simp [Value.cells]) (by kernel_rfl) info_F (by kernel_rfl) ?_; intro w2 hrow hoth hz hbl; have K2 := Lib.hid (K1.out.turn 0 rfl hrow hoth hz); have B2 := Lib.hid (hbl _ _ (by omega) B1.out); clear hrow hoth hz hbl K1 B1))
  exact bodyPost_ret (res_cell_tmp rfl _ _ _ _ _ _ rfl (K2.out.row 0 rfl) Tryz.underlying30 rfl info_F) rfl ⟨none, 0, 0, none, 0, 0, _, _, rfl, rfl, rfl, HandS.nil_ _ _, HandP.nil_ _ _, B2.out⟩
set_option maxRecDepth 100000 in
set_option maxHeartbeats 4000000 in
theorem m_inner_4 (L S : Int) (F : UInt8) (A : Option Addr) (n c : Nat) (xs : List UInt8) (w : World) (hA : Bs w w.heap.size A n xs) (hN : A = none → c = 0) (hn : n ≤ 1000000) (hnc : n ≤ c)  :
    Calls Tryz.prog 25 #[.agg (hF0 4 F.toNat S), .agg #[.int .i64 L, .int .u8 4, .int .u8 F.toNat, .int .i64 S], .slice A n c] w fun e w' => ∃ A' n' c' A3 n3 c3 v u, v = .slice A' n' c' ∧ u = .slice A3 n3 c3 ∧ e = .returned (.tuple #[.agg #[.int .u8 4, .int .u8 F.toNat, .int .i64 S, v, .int .i64 0, .int .i64 0, .int .i64 0, .int .u32 0, u, .bool false, .bool false, .int .i64 0, .int .u8 0], .bool true]) ∧ HandS w' w.heap.size A' n' c' ([]) ∧ HandP w' w.heap.size A3 n3 c3 (tpV xs n) ∧ Below w.heap.size w w' := by
  obtain ⟨i0, hi, hz0, hz1, hz2⟩ := info_parts info_u8
  have hinf := Lib.hid (And.intro hi (And.intro hz0 (And.intro hz1 hz2)))
  have HX : Hid (xs.length = n) := Lib.hid hA.1
  have HN := Lib.hid hN
  have K0 : Hid (EnvB (((w.alloc (.cells (hF0 4 F.toNat S) 30)).alloc (.cells #[.int .i64 L, .int .u8 4, .int .u8 F.toNat, .int .i64 S] 23)).alloc (.cells zF0 30)) [(A, n, xs)] [] [(w.heap.size + 1 + 1, zF0, 30), (w.heap.size + 1, #[.int .i64 L, .int .u8 4, .int .u8 F.toNat, .int .i64 S], 23), (w.heap.size, (hF0 4 F.toNat S), 30)]) := Lib.hid (((((EnvB.nil w).addS0 hA).box 30 (hF0 4 F.toNat S)).boxg 23 #[.int .i64 L, .int .u8 4, .int .u8 F.toNat, .int .i64 S] (w.heap.size + 1) (by simp)).boxg 30 zF0 (w.heap.size + 1 + 1) (by simp))
  have B0 : Hid (Below w.heap.size w (((w.alloc (.cells (hF0 4 F.toNat S) 30)).alloc (.cells #[.int .i64 L, .int .u8 4, .int .u8 F.toNat, .int .i64 S] 23)).alloc (.cells zF0 30))) := Lib.hid ((((Below.refl _ w).alloc (Nat.le_refl _) _).alloc (by simp) _).alloc (by simp only [World.size_alloc]; omega) _)
  clear hi hz0 hz1 hz2 hA hN
  go_enter Tryz.func25, Tryz.ntmps25
  go_wp2_with (first
    | (go_at_call 46; (with_reducible refine (rtp_tot A n c xs _ (K0.out.s (A, n, xs) (by simp)).1 hn).mono ?_); rintro e w1 ⟨v4, rfl, ho, hb⟩; obtain ⟨A4, c4, rfl, hh⟩ := ho.handP rfl; have HP4 := Lib.hid (hh.2.1.less B0.out.size); have HC4 := Lib.hid hh.2.2; have K1 := Lib.hid (K0.out.handP hb hh); have B1 := Lib.hid (below_step B0.out hb); clear ho hh; clear hb K0 B0)
    | (refine at_store 26 (.tmp 45) (.tmp 43) (by rfl) ?_; refine wpList_put (by rfl) 26 (.tmp 45) (.tmp 43) (by rfl) (w.heap.size) 8 (.slice A4 (tpV xs n).length c4) (by rfl) (by rfl) 30 _ (fr13 4 F.toNat S none 0 0 0 0 0 0 A4 (tpV xs n).length c4 false false 0 0) (K1.out.row 2 rfl) (by simp [Value.cells]) (by kernel_rfl) info_P (by kernel_rfl) ?_; intro w2 hrow hoth hz hbl; have K2 := Lib.hid (K1.out.turn 2 rfl hrow hoth hz); have B2 := Lib.hid (hbl _ _ (by omega) B1.out); clear hrow hoth hz hbl K1 B1)
    | (refine at_load 30 (.tmp 3) (by rfl) ?_; refine wpList_load_row (by rfl) 30 (.tmp 3) (by rfl) (w.heap.size) (by rfl) 30 _ (0, 0) _ (K2.out.row 2 rfl) Tryz.underlying30 (by rfl) info_F ?_)
    | (refine at_store 30 (.tmp 6) (.tmp 74) (by rfl) ?_; refine wpList_put (by rfl) 30 (.tmp 6) (.tmp 74) (by rfl) (w.heap.size + 1 + 1) 0 (.agg (fr13 4 F.toNat S none 0 0 0 0 0 0 A4 (tpV xs n).length c4 false false 0 0)) (by rfl) (by rfl) 30 _ (fr13 4 F.toNat S none 0 0 0 0 0 0 A4 (tpV xs n).length c4 false false 0 0) (K2.out.row 0 rfl) (by simp [Value.cells]) (by kernel_rfl) info_F (by kernel_rfl) ?_; intro w3 hrow hoth hz hbl; have K3 := Lib.hid (K2.out.turn 0 rfl hrow hoth hz); have B3 := Lib.hid (hbl _ _ (by omega) B2.out); clear hrow hoth hz hbl K2 B2))
  exact bodyPost_ret (res_cell_tmp rfl _ _ _ _ _ _ rfl (K3.out.row 0 rfl) Tryz.underlying30 rfl info_F) rfl ⟨none, 0, 0, A4, (tpV xs n).length, c4, _, _, rfl, rfl, rfl, HandS.nil_ _ _, ⟨(K3.out.p (A4, (tpV xs n).length, tpV xs n) (by simp)).1, HP4.out, HC4.out⟩, B3.out⟩
set_option maxRecDepth 100000 in
set_option maxHeartbeats 4000000 in
theorem m_inner_7 (L S : Int) (F : UInt8) (A : Option Addr) (n c : Nat) (xs : List UInt8) (w : World) (hA : Bs w w.heap.size A n xs) (hN : A = none → c = 0) (hn : n ≤ 1000000) (hnc : n ≤ c)  (hcn : 8 ≤ n) :
    Calls Tryz.prog 25 #[.agg (hF0 7 F.toNat S), .agg #[.int .i64 L, .int .u8 7, .int .u8 F.toNat, .int .i64 S], .slice A n c] w fun e w' => ∃ A' n' c' A3 n3 c3 v u, v = .slice A' n' c' ∧ u = .slice A3 n3 c3 ∧ e = .returned (.tuple #[.agg #[.int .u8 7, .int .u8 F.toNat, .int .i64 S, v, .int .i64 0, .int .i64 (ownN xs n 0 : Nat), .int .i64 0, .int .u32 (numN xs n 4 : Nat), u, .bool false, .bool false, .int .i64 0, .int .u8 0], .bool true]) ∧ HandS w' w.heap.size A' n' c' (xs.drop 8) ∧ HandP w' w.heap.size A3 n3 c3 ([]) ∧ Below w.heap.size w w' := by
  obtain ⟨i0, hi, hz0, hz1, hz2⟩ := info_parts info_u8
  have hinf := Lib.hid (And.intro hi (And.intro hz0 (And.intro hz1 hz2)))
  have HX : Hid (xs.length = n) := Lib.hid hA.1
  have HN := Lib.hid hN
  obtain ⟨b, o, rfl, hb0, hc0⟩ := hA.2 (by omega)
  obtain ⟨AC, hA2, hcut⟩ : ∃ AC, (if c = 8 then some (⟨b, o, none⟩ : Addr) else some ⟨b, o + 8, none⟩) = AC ∧ Bs w w.heap.size AC (n - 8) (xs.drop 8) := ⟨_, rfl, hA.cut (k := 8) hcn hnc⟩
  have hN2 : AC = none → c - 8 = 0 := fun h => if_some_ne (hA2.trans h)
  have HN2 := Lib.hid hN2
  have HX2 : Hid ((xs.drop 8).length = n - 8) := Lib.hid hcut.1
  have gcn : (8 : Int) ≤ (n : Int) := by omega
  have gnc : (n : Int) ≤ (c : Int) := by omega
  have K0 : Hid (EnvB (((w.alloc (.cells (hF0 7 F.toNat S) 30)).alloc (.cells #[.int .i64 L, .int .u8 7, .int .u8 F.toNat, .int .i64 S] 23)).alloc (.cells zF0 30)) [(AC, n - 8, xs.drop 8), ((some ⟨b, o, none⟩), n, xs)] [] [(w.heap.size + 1 + 1, zF0, 30), (w.heap.size + 1, #[.int .i64 L, .int .u8 7, .int .u8 F.toNat, .int .i64 S], 23), (w.heap.size, (hF0 7 F.toNat S), 30)]) := Lib.hid ((((((EnvB.nil w).addS0 hA).addS0 hcut).box 30 (hF0 7 F.toNat S)).boxg 23 #[.int .i64 L, .int .u8 7, .int .u8 F.toNat, .int .i64 S] (w.heap.size + 1) (by simp)).boxg 30 zF0 (w.heap.size + 1 + 1) (by simp))
  have B0 : Hid (Below w.heap.size w (((w.alloc (.cells (hF0 7 F.toNat S) 30)).alloc (.cells #[.int .i64 L, .int .u8 7, .int .u8 F.toNat, .int .i64 S] 23)).alloc (.cells zF0 30))) := Lib.hid ((((Below.refl _ w).alloc (Nat.le_refl _) _).alloc (by simp) _).alloc (by simp only [World.size_alloc]; omega) _)
  clear hi hz0 hz1 hz2 hA hN hc0 hcut hN2
  go_enter Tryz.func25, Tryz.ntmps25
  go_wp2_with (first
    | (go_at_call 47; refine (m_own (some ⟨b, o, none⟩) _ n c 0 xs _ (K0.out.s ((some ⟨b, o, none⟩), n, xs) (by simp)).1 hn).mono ?_; rintro e w' ⟨rfl, rfl⟩)
    | (go_at_call 45; refine (m_number (some ⟨b, o, none⟩) _ n c 4 xs _ (K0.out.s ((some ⟨b, o, none⟩), n, xs) (by simp)).1 hn (by omega)).mono ?_; rintro e w' ⟨rfl, rfl⟩)
    | (refine at_store 3 (.tmp 52) (.tmp 49) (by rfl) ?_; refine wpList_put (by rfl) 3 (.tmp 52) (.tmp 49) (by rfl) (w.heap.size) 5 (.int .i64 (ownN xs n 0 : Nat)) (by rfl) (by rfl) 30 _ (fr13 7 F.toNat S none 0 0 0 (ownN xs n 0 : Nat) 0 0 none 0 0 false false 0 0) (K0.out.row 2 rfl) (by simp [Value.cells]) (by kernel_rfl) info_i (by kernel_rfl) ?_; intro w1 hrow hoth hz hbl; have K1 := Lib.hid (K0.out.turn 2 rfl hrow hoth hz); have B1 := Lib.hid (hbl _ _ (by omega) B0.out); clear hrow hoth hz hbl K0 B0)
    | (refine at_store 25 (.tmp 53) (.tmp 51) (by rfl) ?_; refine wpList_put (by rfl) 25 (.tmp 53) (.tmp 51) (by rfl) (w.heap.size) 7 (.int .u32 (numN xs n 4 : Nat)) (by rfl) (by rfl) 30 _ (fr13 7 F.toNat S none 0 0 0 (ownN xs n 0 : Nat) 0 (numN xs n 4 : Nat) none 0 0 false false 0 0) (K1.out.row 2 rfl) (by simp [Value.cells]) (by kernel_rfl) info_u32 (by kernel_rfl) ?_; intro w2 hrow hoth hz hbl; have K2 := Lib.hid (K1.out.turn 2 rfl hrow hoth hz); have B2 := Lib.hid (hbl _ _ (by omega) B1.out); clear hrow hoth hz hbl K1 B1)
    | (at_builtin; refine wpList_append_bytes _ rfl (.tmp 54) (.tmp 56) 24 rfl w2.heap.size 5 i0 Tryz.underlying24 hinf.out.1 hinf.out.2.1 hinf.out.2.2.1 hinf.out.2.2.2 _ [] rfl (OwnB.lit2 w2 _ _ _ (by simp) (by simp)) _ AC (n - 8) (c - 8) (xs.drop 8) rfl ((K2.out.al _).s (AC, n - 8, xs.drop 8) (by simp)).1 HN2.out (by first | (simp; done) | (simp; omega)) (by simp) ?_; intro v3 w3 hown hbb; rw [List.nil_append] at hown; obtain ⟨A3, c3, rfl, hh⟩ := hown.handS HX2.out; have hb := ((Below.refl _ w2).alloc (Nat.le_refl _) _).trans hbb; have K3 := Lib.hid (K2.out.handS hb hh); have B3 := Lib.hid (below_step B2.out hb); have HD3 := Lib.hid (hh.2.1.less B2.out.size); have HC3 := Lib.hid hh.2.2; clear hown hbb hb hh K2 B2)
    | (refine at_store 24 (.tmp 58) (.tmp 57) (by rfl) ?_; refine wpList_put (by rfl) 24 (.tmp 58) (.tmp 57) (by rfl) (w.heap.size) 3 (.slice A3 (n - 8) c3) (by rfl) (by rfl) 30 _ (fr13 7 F.toNat S A3 (n - 8) c3 0 (ownN xs n 0 : Nat) 0 (numN xs n 4 : Nat) none 0 0 false false 0 0) (K3.out.row 2 rfl) (by simp [Value.cells]) (by kernel_rfl) info_B (by kernel_rfl) ?_; intro w4 hrow hoth hz hbl; have K4 := Lib.hid (K3.out.turn 2 rfl hrow hoth hz); have B4 := Lib.hid (hbl _ _ (by omega) B3.out); clear hrow hoth hz hbl K3 B3)
    | (refine at_load 30 (.tmp 3) (by rfl) ?_; refine wpList_load_row (by rfl) 30 (.tmp 3) (by rfl) (w.heap.size) (by rfl) 30 _ (0, 0) _ (K4.out.row 2 rfl) Tryz.underlying30 (by rfl) info_F ?_)
    | (refine at_store 30 (.tmp 6) (.tmp 74) (by rfl) ?_; refine wpList_put (by rfl) 30 (.tmp 6) (.tmp 74) (by rfl) (w.heap.size + 1 + 1) 0 (.agg (fr13 7 F.toNat S A3 (n - 8) c3 0 (ownN xs n 0 : Nat) 0 (numN xs n 4 : Nat) none 0 0 false false 0 0)) (by rfl) (by rfl) 30 _ (fr13 7 F.toNat S A3 (n - 8) c3 0 (ownN xs n 0 : Nat) 0 (numN xs n 4 : Nat) none 0 0 false false 0 0) (K4.out.row 0 rfl) (by simp [Value.cells]) (by kernel_rfl) info_F (by kernel_rfl) ?_; intro w5 hrow hoth hz hbl; have K5 := Lib.hid (K4.out.turn 0 rfl hrow hoth hz); have B5 := Lib.hid (hbl _ _ (by omega) B4.out); clear hrow hoth hz hbl K4 B4))
  exact bodyPost_ret (res_cell_tmp rfl _ _ _ _ _ _ rfl (K5.out.row 0 rfl) Tryz.underlying30 rfl info_F) rfl ⟨A3, n - 8, c3, none, 0, 0, _, _, rfl, rfl, rfl, ⟨(K5.out.s (A3, n - 8, xs.drop 8) (by simp)).1, HD3.out, HC3.out⟩, HandP.nil_ _ _, B5.out⟩
set_option maxRecDepth 100000 in
set_option maxHeartbeats 4000000 in
theorem m_inner_8 (L S : Int) (F : UInt8) (A : Option Addr) (n c : Nat) (xs : List UInt8) (w : World) (hA : Bs w w.heap.size A n xs) (hN : A = none → c = 0) (hn : n ≤ 1000000) (hnc : n ≤ c)  :
    Calls Tryz.prog 25 #[.agg (hF0 8 F.toNat S), .agg #[.int .i64 L, .int .u8 8, .int .u8 F.toNat, .int .i64 S], .slice A n c] w fun e w' => ∃ A' n' c' A3 n3 c3 v u, v = .slice A' n' c' ∧ u = .slice A3 n3 c3 ∧ e = .returned (.tuple #[.agg #[.int .u8 8, .int .u8 F.toNat, .int .i64 S, v, .int .i64 0, .int .i64 0, .int .i64 (ownN xs n 0 : Nat), .int .u32 0, u, .bool false, .bool false, .int .i64 0, .int .u8 0], .bool true]) ∧ HandS w' w.heap.size A' n' c' ([]) ∧ HandP w' w.heap.size A3 n3 c3 ([]) ∧ Below w.heap.size w w' := by
  obtain ⟨i0, hi, hz0, hz1, hz2⟩ := info_parts info_u8
  have hinf := Lib.hid (And.intro hi (And.intro hz0 (And.intro hz1 hz2)))
  have HX : Hid (xs.length = n) := Lib.hid hA.1
  have HN := Lib.hid hN
  have K0 : Hid (EnvB (((w.alloc (.cells (hF0 8 F.toNat S) 30)).alloc (.cells #[.int .i64 L, .int .u8 8, .int .u8 F.toNat, .int .i64 S] 23)).alloc (.cells zF0 30)) [(A, n, xs)] [] [(w.heap.size + 1 + 1, zF0, 30), (w.heap.size + 1, #[.int .i64 L, .int .u8 8, .int .u8 F.toNat, .int .i64 S], 23), (w.heap.size, (hF0 8 F.toNat S), 30)]) := Lib.hid (((((EnvB.nil w).addS0 hA).box 30 (hF0 8 F.toNat S)).boxg 23 #[.int .i64 L, .int .u8 8, .int .u8 F.toNat, .int .i64 S] (w.heap.size + 1) (by simp)).boxg 30 zF0 (w.heap.size + 1 + 1) (by simp))
  have B0 : Hid (Below w.heap.size w (((w.alloc (.cells (hF0 8 F.toNat S) 30)).alloc (.cells #[.int .i64 L, .int .u8 8, .int .u8 F.toNat, .int .i64 S] 23)).alloc (.cells zF0 30))) := Lib.hid ((((Below.refl _ w).alloc (Nat.le_refl _) _).alloc (by simp) _).alloc (by simp only [World.size_alloc]; omega) _)
  clear hi hz0 hz1 hz2 hA hN
  go_enter Tryz.func25, Tryz.ntmps25
  go_wp2_with (first
    | (go_at_call 47; refine (m_own A _ n c 0 xs _ (K0.out.s (A, n, xs) (by simp)).1 hn).mono ?_; rintro e w' ⟨rfl, rfl⟩)
    | (refine at_store 3 (.tmp 63) (.tmp 62) (by rfl) ?_; refine wpList_put (by rfl) 3 (.tmp 63) (.tmp 62) (by rfl) (w.heap.size) 6 (.int .i64 (ownN xs n 0 : Nat)) (by rfl) (by rfl) 30 _ (fr13 8 F.toNat S none 0 0 0 0 (ownN xs n 0 : Nat) 0 none 0 0 false false 0 0) (K0.out.row 2 rfl) (by simp [Value.cells]) (by kernel_rfl) info_i (by kernel_rfl) ?_; intro w1 hrow hoth hz hbl; have K1 := Lib.hid (K0.out.turn 2 rfl hrow hoth hz); have B1 := Lib.hid (hbl _ _ (by omega) B0.out); clear hrow hoth hz hbl K0 B0)
    | (refine at_load 30 (.tmp 3) (by rfl) ?_; refine wpList_load_row (by rfl) 30 (.tmp 3) (by rfl) (w.heap.size) (by rfl) 30 _ (0, 0) _ (K1.out.row 2 rfl) Tryz.underlying30 (by rfl) info_F ?_)
    | (refine at_store 30 (.tmp 6) (.tmp 74) (by rfl) ?_; refine wpList_put (by rfl) 30 (.tmp 6) (.tmp 74) (by rfl) (w.heap.size + 1 + 1) 0 (.agg (fr13 8 F.toNat S none 0 0 0 0 (ownN xs n 0 : Nat) 0 none 0 0 false false 0 0)) (by rfl) (by rfl) 30 _ (fr13 8 F.toNat S none 0 0 0 0 (ownN xs n 0 : Nat) 0 none 0 0 false false 0 0) (K1.out.row 0 rfl) (by simp [Value.cells]) (by kernel_rfl) info_F (by kernel_rfl) ?_; intro w2 hrow hoth hz hbl; have K2 := Lib.hid (K1.out.turn 0 rfl hrow hoth hz); have B2 := Lib.hid (hbl _ _ (by omega) B1.out); clear hrow hoth hz hbl K1 B1))
  exact bodyPost_ret (res_cell_tmp rfl _ _ _ _ _ _ rfl (K2.out.row 0 rfl) Tryz.underlying30 rfl info_F) rfl ⟨none, 0, 0, none, 0, 0, _, _, rfl, rfl, rfl, HandS.nil_ _ _, HandP.nil_ _ _, B2.out⟩
set_option maxRecDepth 100000 in
set_option maxHeartbeats 4000000 in
theorem m_inner_16 (L S : Int) (F : UInt8) (A : Option Addr) (n c : Nat) (xs : List UInt8) (w : World) (hA : Bs w w.heap.size A n xs) (hN : A = none → c = 0) (hn : n ≤ 1000000) (hnc : n ≤ c)  (hcn : 4 ≤ n) :
    Calls Tryz.prog 25 #[.agg (hF0 16 F.toNat S), .agg #[.int .i64 L, .int .u8 16, .int .u8 F.toNat, .int .i64 S], .slice A n c] w fun e w' => ∃ A' n' c' A3 n3 c3 v u, v = .slice A' n' c' ∧ u = .slice A3 n3 c3 ∧ e = .returned (.tuple #[.agg #[.int .u8 16, .int .u8 F.toNat, .int .i64 S, v, .int .i64 0, .int .i64 (ownN xs n 0 : Nat), .int .i64 0, .int .u32 0, u, .bool false, .bool false, .int .i64 0, .int .u8 0], .bool true]) ∧ HandS w' w.heap.size A' n' c' (xs.drop 4) ∧ HandP w' w.heap.size A3 n3 c3 ([]) ∧ Below w.heap.size w w' := by
  obtain ⟨i0, hi, hz0, hz1, hz2⟩ := info_parts info_u8
  have hinf := Lib.hid (And.intro hi (And.intro hz0 (And.intro hz1 hz2)))
  have HX : Hid (xs.length = n) := Lib.hid hA.1
  have HN := Lib.hid hN
  obtain ⟨b, o, rfl, hb0, hc0⟩ := hA.2 (by omega)
  obtain ⟨AC, hA2, hcut⟩ : ∃ AC, (if c = 4 then some (⟨b, o, none⟩ : Addr) else some ⟨b, o + 4, none⟩) = AC ∧ Bs w w.heap.size AC (n - 4) (xs.drop 4) := ⟨_, rfl, hA.cut (k := 4) hcn hnc⟩
  have hN2 : AC = none → c - 4 = 0 := fun h => if_some_ne (hA2.trans h)
  have HN2 := Lib.hid hN2
  have HX2 : Hid ((xs.drop 4).length = n - 4) := Lib.hid hcut.1
  have gcn : (4 : Int) ≤ (n : Int) := by omega
  have gnc : (n : Int) ≤ (c : Int) := by omega
  have K0 : Hid (EnvB (((w.alloc (.cells (hF0 16 F.toNat S) 30)).alloc (.cells #[.int .i64 L, .int .u8 16, .int .u8 F.toNat, .int .i64 S] 23)).alloc (.cells zF0 30)) [(AC, n - 4, xs.drop 4), ((some ⟨b, o, none⟩), n, xs)] [] [(w.heap.size + 1 + 1, zF0, 30), (w.heap.size + 1, #[.int .i64 L, .int .u8 16, .int .u8 F.toNat, .int .i64 S], 23), (w.heap.size, (hF0 16 F.toNat S), 30)]) := Lib.hid ((((((EnvB.nil w).addS0 hA).addS0 hcut).box 30 (hF0 16 F.toNat S)).boxg 23 #[.int .i64 L, .int .u8 16, .int .u8 F.toNat, .int .i64 S] (w.heap.size + 1) (by simp)).boxg 30 zF0 (w.heap.size + 1 + 1) (by simp))
  have B0 : Hid (Below w.heap.size w (((w.alloc (.cells (hF0 16 F.toNat S) 30)).alloc (.cells #[.int .i64 L, .int .u8 16, .int .u8 F.toNat, .int .i64 S] 23)).alloc (.cells zF0 30))) := Lib.hid ((((Below.refl _ w).alloc (Nat.le_refl _) _).alloc (by simp) _).alloc (by simp only [World.size_alloc]; omega) _)
  clear hi hz0 hz1 hz2 hA hN hc0 hcut hN2
  go_enter Tryz.func25, Tryz.ntmps25
  go_wp2_with (first
    | (go_at_call 47; refine (m_own (some ⟨b, o, none⟩) _ n c 0 xs _ (K0.out.s ((some ⟨b, o, none⟩), n, xs) (by simp)).1 hn).mono ?_; rintro e w' ⟨rfl, rfl⟩)
    | (refine at_store 3 (.tmp 68) (.tmp 67) (by rfl) ?_; refine wpList_put (by rfl) 3 (.tmp 68) (.tmp 67) (by rfl) (w.heap.size) 5 (.int .i64 (ownN xs n 0 : Nat)) (by rfl) (by rfl) 30 _ (fr13 16 F.toNat S none 0 0 0 (ownN xs n 0 : Nat) 0 0 none 0 0 false false 0 0) (K0.out.row 2 rfl) (by simp [Value.cells]) (by kernel_rfl) info_i (by kernel_rfl) ?_; intro w1 hrow hoth hz hbl; have K1 := Lib.hid (K0.out.turn 2 rfl hrow hoth hz); have B1 := Lib.hid (hbl _ _ (by omega) B0.out); clear hrow hoth hz hbl K0 B0)
    | (at_builtin; refine wpList_append_bytes _ rfl (.tmp 69) (.tmp 71) 24 rfl w1.heap.size 5 i0 Tryz.underlying24 hinf.out.1 hinf.out.2.1 hinf.out.2.2.1 hinf.out.2.2.2 _ [] rfl (OwnB.lit2 w1 _ _ _ (by simp) (by simp)) _ AC (n - 4) (c - 4) (xs.drop 4) rfl ((K1.out.al _).s (AC, n - 4, xs.drop 4) (by simp)).1 HN2.out (by first | (simp; done) | (simp; omega)) (by simp) ?_; intro v2 w2 hown hbb; rw [List.nil_append] at hown; obtain ⟨A2, c2, rfl, hh⟩ := hown.handS HX2.out; have hb := ((Below.refl _ w1).alloc (Nat.le_refl _) _).trans hbb; have K2 := Lib.hid (K1.out.handS hb hh); have B2 := Lib.hid (below_step B1.out hb); have HD2 := Lib.hid (hh.2.1.less B1.out.size); have HC2 := Lib.hid hh.2.2; clear hown hbb hb hh K1 B1)
    | (refine at_store 24 (.tmp 73) (.tmp 72) (by rfl) ?_; refine wpList_put (by rfl) 24 (.tmp 73) (.tmp 72) (by rfl) (w.heap.size) 3 (.slice A2 (n - 4) c2) (by rfl) (by rfl) 30 _ (fr13 16 F.toNat S A2 (n - 4) c2 0 (ownN xs n 0 : Nat) 0 0 none 0 0 false false 0 0) (K2.out.row 2 rfl) (by simp [Value.cells]) (by kernel_rfl) info_B (by kernel_rfl) ?_; intro w3 hrow hoth hz hbl; have K3 := Lib.hid (K2.out.turn 2 rfl hrow hoth hz); have B3 := Lib.hid (hbl _ _ (by omega) B2.out); clear hrow hoth hz hbl K2 B2)
    | (refine at_load 30 (.tmp 3) (by rfl) ?_; refine wpList_load_row (by rfl) 30 (.tmp 3) (by rfl) (w.heap.size) (by rfl) 30 _ (0, 0) _ (K3.out.row 2 rfl) Tryz.underlying30 (by rfl) info_F ?_)
    | (refine at_store 30 (.tmp 6) (.tmp 74) (by rfl) ?_; refine wpList_put (by rfl) 30 (.tmp 6) (.tmp 74) (by rfl) (w.heap.size + 1 + 1) 0 (.agg (fr13 16 F.toNat S A2 (n - 4) c2 0 (ownN xs n 0 : Nat) 0 0 none 0 0 false false 0 0)) (by rfl) (by rfl) 30 _ (fr13 16 F.toNat S A2 (n - 4) c2 0 (ownN xs n 0 : Nat) 0 0 none 0 0 false false 0 0) (K3.out.row 0 rfl) (by simp [Value.cells]) (by kernel_rfl) info_F (by kernel_rfl) ?_; intro w4 hrow hoth hz hbl; have K4 := Lib.hid (K3.out.turn 0 rfl hrow hoth hz); have B4 := Lib.hid (hbl _ _ (by omega) B3.out); clear hrow hoth hz hbl K3 B3))
  exact bodyPost_ret (res_cell_tmp rfl _ _ _ _ _ _ rfl (K4.out.row 0 rfl) Tryz.underlying30 rfl info_F) rfl ⟨A2, n - 4, c2, none, 0, 0, _, _, rfl, rfl, rfl, ⟨(K4.out.s (A2, n - 4, xs.drop 4) (by simp)).1, HD2.out, HC2.out⟩, HandP.nil_ _ _, B4.out⟩
set_option maxRecDepth 100000 in
set_option maxHeartbeats 4000000 in
theorem m_inner_D (L S K : Int) (F : UInt8) (A : Option Addr) (n c : Nat) (xs : List UInt8) (w : World) (hA : Bs w w.heap.size A n xs) (hN : A = none → c = 0) (hn : n ≤ 1000000) (hnc : n ≤ c)  (h0 : (K == 0) = false)  (h1 : (K == 1) = false)  (h2 : (K == 2) = false)  (h3 : (K == 3) = false)  (h4 : (K == 4) = false)  (h7 : (K == 7) = false)  (h8 : (K == 8) = false)  (h16 : (K == 16) = false) :
    Calls Tryz.prog 25 #[.agg (hF0 K F.toNat S), .agg #[.int .i64 L, .int .u8 K, .int .u8 F.toNat, .int .i64 S], .slice A n c] w fun e w' => ∃ A' n' c' A3 n3 c3 v u, v = .slice A' n' c' ∧ u = .slice A3 n3 c3 ∧ e = .returned (.tuple #[.agg #[.int .u8 K, .int .u8 F.toNat, .int .i64 S, v, .int .i64 0, .int .i64 0, .int .i64 0, .int .u32 0, u, .bool false, .bool false, .int .i64 0, .int .u8 0], .bool true]) ∧ HandS w' w.heap.size A' n' c' (xs) ∧ HandP w' w.heap.size A3 n3 c3 ([]) ∧ Below w.heap.size w w' := by
  obtain ⟨i0, hi, hz0, hz1, hz2⟩ := info_parts info_u8
  have hinf := Lib.hid (And.intro hi (And.intro hz0 (And.intro hz1 hz2)))
  have HX : Hid (xs.length = n) := Lib.hid hA.1
  have HN := Lib.hid hN
  have K0 : Hid (EnvB (((w.alloc (.cells (hF0 K F.toNat S) 30)).alloc (.cells #[.int .i64 L, .int .u8 K, .int .u8 F.toNat, .int .i64 S] 23)).alloc (.cells zF0 30)) [(A, n, xs)] [] [(w.heap.size + 1 + 1, zF0, 30), (w.heap.size + 1, #[.int .i64 L, .int .u8 K, .int .u8 F.toNat, .int .i64 S], 23), (w.heap.size, (hF0 K F.toNat S), 30)]) := Lib.hid (((((EnvB.nil w).addS0 hA).box 30 (hF0 K F.toNat S)).boxg 23 #[.int .i64 L, .int .u8 K, .int .u8 F.toNat, .int .i64 S] (w.heap.size + 1) (by simp)).boxg 30 zF0 (w.heap.size + 1 + 1) (by simp))
  have B0 : Hid (Below w.heap.size w (((w.alloc (.cells (hF0 K F.toNat S) 30)).alloc (.cells #[.int .i64 L, .int .u8 K, .int .u8 F.toNat, .int .i64 S] 23)).alloc (.cells zF0 30))) := Lib.hid ((((Below.refl _ w).alloc (Nat.le_refl _) _).alloc (by simp) _).alloc (by simp only [World.size_alloc]; omega) _)
  clear hi hz0 hz1 hz2 hA hN
  go_enter Tryz.func25, Tryz.ntmps25
  go_wp2_with (first
    | (at_builtin; refine wpList_append_bytes _ rfl (.tmp 10) (.tmp 11) 24 rfl (((w.alloc (.cells (hF0 K F.toNat S) 30)).alloc (.cells #[.int .i64 L, .int .u8 K, .int .u8 F.toNat, .int .i64 S] 23)).alloc (.cells zF0 30)).heap.size 5 i0 Tryz.underlying24 hinf.out.1 hinf.out.2.1 hinf.out.2.2.1 hinf.out.2.2.2 _ [] rfl (OwnB.lit2 (((w.alloc (.cells (hF0 K F.toNat S) 30)).alloc (.cells #[.int .i64 L, .int .u8 K, .int .u8 F.toNat, .int .i64 S] 23)).alloc (.cells zF0 30)) _ _ _ (by simp) (by simp)) _ A (n) (c) (xs) rfl ((K0.out.al _).s (A, n, xs) (by simp)).1 HN.out (by first | (simp; done) | (simp; omega)) (by simp) ?_; intro v1 w1 hown hbb; rw [List.nil_append] at hown; obtain ⟨A1, c1, rfl, hh⟩ := hown.handS HX.out; have hb := ((Below.refl _ (((w.alloc (.cells (hF0 K F.toNat S) 30)).alloc (.cells #[.int .i64 L, .int .u8 K, .int .u8 F.toNat, .int .i64 S] 23)).alloc (.cells zF0 30))).alloc (Nat.le_refl _) _).trans hbb; have K1 := Lib.hid (K0.out.handS hb hh); have B1 := Lib.hid (below_step B0.out hb); have HD1 := Lib.hid (hh.2.1.less B0.out.size); have HC1 := Lib.hid hh.2.2; clear hown hbb hb hh K0 B0)
    | (refine at_store 24 (.tmp 13) (.tmp 12) (by rfl) ?_; refine wpList_put (by rfl) 24 (.tmp 13) (.tmp 12) (by rfl) (w.heap.size) 3 (.slice A1 n c1) (by rfl) (by rfl) 30 _ (fr13 K F.toNat S A1 n c1 0 0 0 0 none 0 0 false false 0 0) (K1.out.row 2 rfl) (by simp [Value.cells]) (by kernel_rfl) info_B (by kernel_rfl) ?_; intro w2 hrow hoth hz hbl; have K2 := Lib.hid (K1.out.turn 2 rfl hrow hoth hz); have B2 := Lib.hid (hbl _ _ (by omega) B1.out); clear hrow hoth hz hbl K1 B1)
    | (refine at_load 30 (.tmp 3) (by rfl) ?_; refine wpList_load_row (by rfl) 30 (.tmp 3) (by rfl) (w.heap.size) (by rfl) 30 _ (0, 0) _ (K2.out.row 2 rfl) Tryz.underlying30 (by rfl) info_F ?_)
    | (refine at_store 30 (.tmp 6) (.tmp 74) (by rfl) ?_; refine wpList_put (by rfl) 30 (.tmp 6) (.tmp 74) (by rfl) (w.heap.size + 1 + 1) 0 (.agg (fr13 K F.toNat S A1 n c1 0 0 0 0 none 0 0 false false 0 0)) (by rfl) (by rfl) 30 _ (fr13 K F.toNat S A1 n c1 0 0 0 0 none 0 0 false false 0 0) (K2.out.row 0 rfl) (by simp [Value.cells]) (by kernel_rfl) info_F (by kernel_rfl) ?_; intro w3 hrow hoth hz hbl; have K3 := Lib.hid (K2.out.turn 0 rfl hrow hoth hz); have B3 := Lib.hid (hbl _ _ (by omega) B2.out); clear hrow hoth hz hbl K2 B2))
  exact bodyPost_ret (res_cell_tmp rfl _ _ _ _ _ _ rfl (K3.out.row 0 rfl) Tryz.underlying30 rfl info_F) rfl ⟨A1, n, c1, none, 0, 0, _, _, rfl, rfl, rfl, ⟨(K3.out.s (A1, n, xs) (by simp)).1, HD1.out, HC1.out⟩, HandP.nil_ _ _, B3.out⟩
end Go.Proofs.YtbflhphjnmhjhaaGreat
/- The document's inner, whatever it is handed. -/
namespace Go.Proofs.YtbflhphjnmhjhaaGreat
open Go.RowKit Oct Fi Fm
namespace Fm
def innerR (K F : UInt8) (S : Int) (xs : List UInt8) : Fr × Bool :=
  if K.toNat = 0 ∨ K.toNat = 1 then dataR K F S xs
  else if K.toNat = 2 then ({ frZ K F S with rk := true, al := trA xs xs.length, dp := trD xs xs.length, wt := if 5 ≤ xs.length then xs[4]?.getD 0 else 0 }, true)
  else if K.toNat = 3 then ({ frZ K F S with co := UInt32.ofNat (numN xs xs.length 0) }, true)
  else if K.toNat = 4 then ({ frZ K F S with ps := tpV xs xs.length }, true)
  else if K.toNat = 7 then ({ frZ K F S with la := (ownN xs xs.length 0 : Nat), co := UInt32.ofNat (numN xs xs.length 4), da := xs.drop 8 }, true)
  else if K.toNat = 8 then ({ frZ K F S with ic := (ownN xs xs.length 0 : Nat) }, true)
  else if K.toNat = 16 then ({ frZ K F S with la := (ownN xs xs.length 0 : Nat), da := xs.drop 4 }, true)
  else ({ frZ K F S with da := xs }, true)
end Fm
theorem data1_ps (K F : UInt8) (S : Int) (xs : List UInt8) : (data1 K F S xs).1.ps = [] := by
  unfold data1
  split
  · split <;> rfl
  · rfl
theorem dataR_ps (K F : UInt8) (S : Int) (xs : List UInt8) : (dataR K F S xs).1.ps = [] := by
  have h := data1_ps K F S xs
  unfold dataR
  split
  · split
    · unfold rank1
      split
      · exact h
      · exact h
    · exact h
  · exact h
theorem num_u32 (xs : List UInt8) (n i : Nat) : ((UInt32.ofNat (numN xs n i)).toNat : Int) = (numN xs n i : Nat) := by
  have := numN_lt xs n i
  simp
  omega
theorem m_inner (L S : Int) (K F : UInt8) (A : Option Addr) (n c : Nat) (xs : List UInt8) (w : World) (hA : Bs w w.heap.size A n xs) (hN : A = none → c = 0) (hn : n ≤ 100000) (hnc : n ≤ c) (hlong : longB K.toNat F n = false) :
    Calls Tryz.prog 25 #[frv (frZ K F S) (.slice none 0 0) (.slice none 0 0), .agg #[.int .i64 L, .int .u8 K.toNat, .int .u8 F.toNat, .int .i64 S], .slice A n c] w fun e w' =>
      ∃ A' n' c' A3 n3 c3, e = .returned (.tuple #[frv (innerR K F S xs).1 (.slice A' n' c') (.slice A3 n3 c3), .bool (innerR K F S xs).2]) ∧ HandS w' w.heap.size A' n' c' (innerR K F S xs).1.da ∧ HandP w' w.heap.size A3 n3 c3 (innerR K F S xs).1.ps ∧ Below w.heap.size w w' := by
  have hl : xs.length = n := hA.1
  have HD : ∀ w0, Bs w0 w0.heap.size A n xs → _ := fun w0 h => m_data L S K F A n c xs w0 h hN hn hnc
  have hps := dataR_ps K F S xs
  have hn6 : n ≤ 1000000 := by omega
  have k256 := K.toNat_lt
  by_cases h0 : K.toNat = 0
  · obtain rfl : K = 0 := UInt8.toNat_inj.1 h0
    refine (m_inner_0 L S F A n c xs w hA hN hn6 hnc (dataR 0 F S xs).1 (dataR 0 F S xs).2 (Lib.hid HD)).mono ?_
    rintro e w' ⟨A', n', c', A3, n3, c3, v, u, rfl, rfl, rfl, h1, h2, h3⟩
    have e : innerR 0 F S xs = dataR 0 F S xs := by unfold innerR; simp
    rw [e, hps]
    exact ⟨A', n', c', A3, n3, c3, rfl, h1, h2, h3⟩
  by_cases h1 : K.toNat = 1
  · obtain rfl : K = 1 := UInt8.toNat_inj.1 h1
    refine (m_inner_1 L S F A n c xs w hA hN hn6 hnc (dataR 1 F S xs).1 (dataR 1 F S xs).2 (Lib.hid HD)).mono ?_
    rintro e w' ⟨A', n', c', A3, n3, c3, v, u, rfl, rfl, rfl, h1, h2, h3⟩
    have e : innerR 1 F S xs = dataR 1 F S xs := by unfold innerR; simp
    rw [e, hps]
    exact ⟨A', n', c', A3, n3, c3, rfl, h1, h2, h3⟩
  clear HD hps
  by_cases h2 : K.toNat = 2
  · obtain rfl : K = 2 := UInt8.toNat_inj.1 h2
    refine (m_inner_2 L S F A n c xs w hA hN hn6 hnc).mono ?_
    rintro e w' ⟨A', n', c', A3, n3, c3, v, u, rfl, rfl, rfl, h1, h2, h3⟩
    have e : innerR 2 F S xs = ({ frZ 2 F S with rk := true, al := trA xs n, dp := trD xs n, wt := if 5 ≤ n then xs[4]?.getD 0 else 0 }, true) := by unfold innerR; simp [hl]
    have hw : trW xs n = ((if 5 ≤ n then xs[4]?.getD 0 else 0 : UInt8).toNat : Int) := by unfold trW; split <;> rfl
    rw [e, hw]
    exact ⟨A', n', c', A3, n3, c3, rfl, h1, h2, h3⟩
  by_cases h3 : K.toNat = 3
  · obtain rfl : K = 3 := UInt8.toNat_inj.1 h3
    refine (m_inner_3 L S F A n c xs w hA hN hn6 hnc).mono ?_
    rintro e w' ⟨A', n', c', A3, n3, c3, v, u, rfl, rfl, rfl, h1, h2, h3⟩
    have e : innerR 3 F S xs = ({ frZ 3 F S with co := UInt32.ofNat (numN xs n 0) }, true) := by unfold innerR; simp [hl]
    rw [e, ← num_u32]
    exact ⟨A', n', c', A3, n3, c3, rfl, h1, h2, h3⟩
  by_cases h4 : K.toNat = 4
  · obtain rfl : K = 4 := UInt8.toNat_inj.1 h4
    refine (m_inner_4 L S F A n c xs w hA hN hn6 hnc).mono ?_
    rintro e w' ⟨A', n', c', A3, n3, c3, v, u, rfl, rfl, rfl, h1, h2, h3⟩
    have e : innerR 4 F S xs = ({ frZ 4 F S with ps := tpV xs n }, true) := by unfold innerR; simp [hl]
    rw [e]
    exact ⟨A', n', c', A3, n3, c3, rfl, h1, h2, h3⟩
  by_cases h7 : K.toNat = 7
  · obtain rfl : K = 7 := UInt8.toNat_inj.1 h7
    have hcn : 8 ≤ n := by
      have : longB 7 F n = decide (n < 8) := by unfold longB; simp
      rw [show (7 : UInt8).toNat = 7 from rfl, this] at hlong
      simpa using hlong
    refine (m_inner_7 L S F A n c xs w hA hN hn6 hnc hcn).mono ?_
    rintro e w' ⟨A', n', c', A3, n3, c3, v, u, rfl, rfl, rfl, h1, h2, h3⟩
    have e : innerR 7 F S xs = ({ frZ 7 F S with la := (ownN xs n 0 : Nat), co := UInt32.ofNat (numN xs n 4), da := xs.drop 8 }, true) := by unfold innerR; simp [hl]
    rw [e, ← num_u32]
    exact ⟨A', n', c', A3, n3, c3, rfl, h1, h2, h3⟩
  by_cases h8 : K.toNat = 8
  · obtain rfl : K = 8 := UInt8.toNat_inj.1 h8
    refine (m_inner_8 L S F A n c xs w hA hN hn6 hnc).mono ?_
    rintro e w' ⟨A', n', c', A3, n3, c3, v, u, rfl, rfl, rfl, h1, h2, h3⟩
    have e : innerR 8 F S xs = ({ frZ 8 F S with ic := (ownN xs n 0 : Nat) }, true) := by unfold innerR; simp [hl]
    rw [e]
    exact ⟨A', n', c', A3, n3, c3, rfl, h1, h2, h3⟩
  by_cases h16 : K.toNat = 16
  · obtain rfl : K = 16 := UInt8.toNat_inj.1 h16
    have hcn : 4 ≤ n := by
      have : longB 16 F n = decide (n < 4) := by unfold longB; simp
      rw [show (16 : UInt8).toNat = 16 from rfl, this] at hlong
      simpa using hlong
    refine (m_inner_16 L S F A n c xs w hA hN hn6 hnc hcn).mono ?_
    rintro e w' ⟨A', n', c', A3, n3, c3, v, u, rfl, rfl, rfl, h1, h2, h3⟩
    have e : innerR 16 F S xs = ({ frZ 16 F S with la := (ownN xs n 0 : Nat), da := xs.drop 4 }, true) := by unfold innerR; simp [hl]
    rw [e]
    exact ⟨A', n', c', A3, n3, c3, rfl, h1, h2, h3⟩
  refine (m_inner_D L S (K.toNat : Int) F A n c xs w hA hN hn6 hnc (nat_beq_ne h0) (nat_beq_ne h1) (nat_beq_ne h2) (nat_beq_ne h3) (nat_beq_ne h4) (nat_beq_ne h7) (nat_beq_ne h8) (nat_beq_ne h16)).mono ?_
  rintro e w' ⟨A', n', c', A3, n3, c3, v, u, rfl, rfl, rfl, g1, g2, g3⟩
  have e : innerR K F S xs = ({ frZ K F S with da := xs }, true) := by
    unfold innerR
    rw [if_neg (by omega), if_neg h2, if_neg h3, if_neg h4, if_neg h7, if_neg h8, if_neg h16]
  rw [e]
  exact ⟨A', n', c', A3, n3, c3, rfl, g1, g2, g3⟩
end Go.Proofs.YtbflhphjnmhjhaaGreat
/- The document's Parse. -/
namespace Go.Proofs.YtbflhphjnmhjhaaGreat
open Go.RowKit Oct Fi Fm
set_option linter.unusedVariables false
set_option linter.unusedSimpArgs false
attribute [local go_sem] i64_and1 i64_and7 i64_and31

set_option maxRecDepth 100000 in
set_option maxHeartbeats 4000000 in
theorem m_parse_A (L S : Int) (K F : UInt8) (A : Option Addr) (n c : Nat) (xs : List UInt8) (w : World) (hA : Bs w w.heap.size A n xs) (hN : A = none → c = 0) (hn : n ≤ 100000) (hnc : n ≤ c) (hr : headB 0 S = false) :
    Calls Tryz.prog 7 #[.agg #[.int .i64 L, .int .u8 K.toNat, .int .u8 F.toNat, .int .i64 S], .slice A n c] w fun e w' => e = .returned (.tuple #[.agg zF0, .agg #[.bool true, .int .i64 0, .int .u32 2]]) ∧ Below w.heap.size w w' := by
  have HR : Hid (∀ w, Calls Tryz.prog 22 #[.agg #[.int .i64 0, .int .u8 K.toNat, .int .u8 F.toNat, .int .i64 S]] w fun e w' => e = .returned (.bool false) ∧ Below w.heap.size w w') := Lib.hid (fun w => by have := rright_any 0 (K.toNat : Int) (F.toNat : Int) S w; rw [hr] at this; exact this)
  have K0 : Hid (EnvB (((w.alloc (.cells #[.int .i64 L, .int .u8 K.toNat, .int .u8 F.toNat, .int .i64 S] 23)).alloc (.cells zF0 30)).alloc (.cells #[.bool false, .int .i64 0, .int .u32 0] 34)) [(A, n, xs)] [] [(w.heap.size + 1 + 1, #[.bool false, .int .i64 0, .int .u32 0], 34), (w.heap.size + 1, zF0, 30), (w.heap.size, #[.int .i64 L, .int .u8 K.toNat, .int .u8 F.toNat, .int .i64 S], 23)]) := Lib.hid (((((EnvB.nil w).addS0 hA).box 23 #[.int .i64 L, .int .u8 K.toNat, .int .u8 F.toNat, .int .i64 S]).boxg 30 zF0 (w.heap.size + 1) (by simp)).boxg 34 #[.bool false, .int .i64 0, .int .u32 0] (w.heap.size + 1 + 1) (by simp))
  have B0 : Hid (Below w.heap.size w (((w.alloc (.cells #[.int .i64 L, .int .u8 K.toNat, .int .u8 F.toNat, .int .i64 S] 23)).alloc (.cells zF0 30)).alloc (.cells #[.bool false, .int .i64 0, .int .u32 0] 34))) := Lib.hid ((((Below.refl _ w).alloc (Nat.le_refl _) _).alloc (by simp) _).alloc (by simp only [World.size_alloc]; omega) _)
  clear hA hN
  go_enter Tryz.func7, Tryz.ntmps7
  go_wp2_with (first
    | (refine at_store 3 (.tmp 9) (.const (.int .i64 0)) (by rfl) ?_; refine wpList_put (by rfl) 3 (.tmp 9) (.const (.int .i64 0)) (by rfl) (w.heap.size) 0 (.int .i64 0) (by rfl) (by rfl) 23 _ #[.int .i64 0, .int .u8 K.toNat, .int .u8 F.toNat, .int .i64 S] (K0.out.row 2 rfl) (by simp [Value.cells]) (by kernel_rfl) info_i (by kernel_rfl) ?_; intro w1 hrow hoth hz hbl; have K1 := Lib.hid (K0.out.turn 2 rfl hrow hoth hz); have B1 := Lib.hid (hbl _ _ (by omega) B0.out); clear hrow hoth hz hbl K0 B0)
    | (refine at_load 23 (.tmp 2) (by rfl) ?_; refine wpList_load_row (by rfl) 23 (.tmp 2) (by rfl) (w.heap.size) (by rfl) 23 _ (0, 0) _ (K1.out.row 2 rfl) Tryz.underlying23 (by rfl) info_H ?_)
    | (go_at_call 22; (with_reducible refine (HR.out _).mono ?_); rintro e w2 ⟨rfl, hb⟩; have K2 := Lib.hid (K1.out.on hb); have B2 := Lib.hid (below_step B1.out hb); clear hb K1 B1)
    | (go_at_call 17; (with_reducible refine (m_whole _ _).mono ?_); rintro e w3 ⟨rfl, hb⟩; have K3 := Lib.hid (K2.out.on hb); have B3 := Lib.hid (below_step B2.out hb); clear hb K2 B2)
    | (refine at_store 30 (.tmp 4) (.tmp 13) (by rfl) ?_; refine wpList_put (by rfl) 30 (.tmp 4) (.tmp 13) (by rfl) (w.heap.size + 1) 0 (.agg zF0) (by rfl) (by rfl) 30 _ zF0 (K3.out.row 1 rfl) (by simp [Value.cells]) (by kernel_rfl) info_F (by kernel_rfl) ?_; intro w4 hrow hoth hz hbl; have K4 := Lib.hid (K3.out.turn 1 rfl hrow hoth hz); have B4 := Lib.hid (hbl _ _ (by omega) B3.out); clear hrow hoth hz hbl K3 B3)
    | (refine at_store 34 (.tmp 5) (.tmp 14) (by rfl) ?_; refine wpList_put (by rfl) 34 (.tmp 5) (.tmp 14) (by rfl) (w.heap.size + 1 + 1) 0 (.agg #[.bool true, .int .i64 0, .int .u32 2]) (by rfl) (by rfl) 34 _ #[.bool true, .int .i64 0, .int .u32 2] (K4.out.row 0 rfl) (by simp [Value.cells]) (by kernel_rfl) info_X (by kernel_rfl) ?_; intro w5 hrow hoth hz hbl; have K5 := Lib.hid (K4.out.turn 0 rfl hrow hoth hz); have B5 := Lib.hid (hbl _ _ (by omega) B4.out); clear hrow hoth hz hbl K4 B4))
  exact bodyPost_ret (res_cell_cell rfl _ _ _ _ _ _ _ _ _ _ rfl (K5.out.row 1 rfl) rfl (K5.out.row 0 rfl) Tryz.underlying30 rfl info_F Tryz.underlying34 rfl info_X) rfl ⟨rfl, B5.out⟩
set_option maxRecDepth 100000 in
set_option maxHeartbeats 4000000 in
theorem m_parse_B (L S : Int) (K F : UInt8) (A : Option Addr) (n c : Nat) (xs : List UInt8) (w : World) (hA : Bs w w.heap.size A n xs) (hN : A = none → c = 0) (hn : n ≤ 100000) (hnc : n ≤ c) (x1 x2 : Int) (hr : headB 0 S = true) (hah : ∀ w, Calls Tryz.prog 23 #[.agg #[.int .i64 0, .int .u8 K.toNat, .int .u8 F.toNat, .int .i64 S], .int .i64 n] w fun e w' => e = .returned (.agg #[.bool true, .int .i64 x1, .int .u32 x2]) ∧ Below w.heap.size w w') :
    Calls Tryz.prog 7 #[.agg #[.int .i64 L, .int .u8 K.toNat, .int .u8 F.toNat, .int .i64 S], .slice A n c] w fun e w' => e = .returned (.tuple #[.agg zF0, .agg #[.bool true, .int .i64 x1, .int .u32 x2]]) ∧ Below w.heap.size w w' := by
  have HR : Hid (∀ w, Calls Tryz.prog 22 #[.agg #[.int .i64 0, .int .u8 K.toNat, .int .u8 F.toNat, .int .i64 S]] w fun e w' => e = .returned (.bool true) ∧ Below w.heap.size w w') := Lib.hid (fun w => by have := rright_any 0 (K.toNat : Int) (F.toNat : Int) S w; rw [hr] at this; exact this)
  have HA2 := Lib.hid hah
  have HNC := Lib.hid hN
  clear hah hr
  have K0 : Hid (EnvB (((w.alloc (.cells #[.int .i64 L, .int .u8 K.toNat, .int .u8 F.toNat, .int .i64 S] 23)).alloc (.cells zF0 30)).alloc (.cells #[.bool false, .int .i64 0, .int .u32 0] 34)) [(A, n, xs)] [] [(w.heap.size + 1 + 1, #[.bool false, .int .i64 0, .int .u32 0], 34), (w.heap.size + 1, zF0, 30), (w.heap.size, #[.int .i64 L, .int .u8 K.toNat, .int .u8 F.toNat, .int .i64 S], 23)]) := Lib.hid (((((EnvB.nil w).addS0 hA).box 23 #[.int .i64 L, .int .u8 K.toNat, .int .u8 F.toNat, .int .i64 S]).boxg 30 zF0 (w.heap.size + 1) (by simp)).boxg 34 #[.bool false, .int .i64 0, .int .u32 0] (w.heap.size + 1 + 1) (by simp))
  have B0 : Hid (Below w.heap.size w (((w.alloc (.cells #[.int .i64 L, .int .u8 K.toNat, .int .u8 F.toNat, .int .i64 S] 23)).alloc (.cells zF0 30)).alloc (.cells #[.bool false, .int .i64 0, .int .u32 0] 34))) := Lib.hid ((((Below.refl _ w).alloc (Nat.le_refl _) _).alloc (by simp) _).alloc (by simp only [World.size_alloc]; omega) _)
  clear hA hN
  go_enter Tryz.func7, Tryz.ntmps7
  go_wp2_with (first
    | (refine at_store 3 (.tmp 9) (.const (.int .i64 0)) (by rfl) ?_; refine wpList_put (by rfl) 3 (.tmp 9) (.const (.int .i64 0)) (by rfl) (w.heap.size) 0 (.int .i64 0) (by rfl) (by rfl) 23 _ #[.int .i64 0, .int .u8 K.toNat, .int .u8 F.toNat, .int .i64 S] (K0.out.row 2 rfl) (by simp [Value.cells]) (by kernel_rfl) info_i (by kernel_rfl) ?_; intro w1 hrow hoth hz hbl; have K1 := Lib.hid (K0.out.turn 2 rfl hrow hoth hz); have B1 := Lib.hid (hbl _ _ (by omega) B0.out); clear hrow hoth hz hbl K0 B0)
    | (refine at_load 23 (.tmp 2) (by rfl) ?_; refine wpList_load_row (by rfl) 23 (.tmp 2) (by rfl) (w.heap.size) (by rfl) 23 _ (0, 0) _ (K1.out.row 2 rfl) Tryz.underlying23 (by rfl) info_H ?_)
    | (go_at_call 22; (with_reducible refine (HR.out _).mono ?_); rintro e w2 ⟨rfl, hb⟩; have K2 := Lib.hid (K1.out.on hb); have B2 := Lib.hid (below_step B1.out hb); obtain ⟨h_0, h_1, h_2, h_3⟩ := c4_row (K2.out.row 2 rfl); have le_f := B2.out.size; clear hb K1 B1; have K3 := Lib.hid (K2.out.box 30 (hF0 K.toNat F.toNat S)); have B3 := Lib.hid (B2.out.alloc B2.out.size (.cells (hF0 K.toNat F.toNat S) 30)); clear K2 B2)
    | (refine at_load 23 (.tmp 2) (by rfl) ?_; refine wpList_load_row (by rfl) 23 (.tmp 2) (by rfl) (w.heap.size) (by rfl) 23 _ (0, 0) _ (K3.out.row 3 rfl) Tryz.underlying23 (by rfl) info_H ?_)
    | (go_at_call 23; (with_reducible refine (HA2.out _).mono ?_); rintro e w4 ⟨rfl, hb⟩; have K4 := Lib.hid (K3.out.on hb); have B4 := Lib.hid (below_step B3.out hb); have le_x := B4.out.size; clear hb K3 B3; have K5 := Lib.hid (K4.out.box 34 #[.bool true, .int .i64 x1, .int .u32 x2]); have B5 := Lib.hid (B4.out.alloc B4.out.size (.cells #[.bool true, .int .i64 x1, .int .u32 x2] 34)); clear K4 B4; obtain ⟨x_0, x_1, x_2⟩ := c3_row (K5.out.row 0 rfl)))
  obtain ⟨rf_0, rf_1, rf_2, rf_3, rf_4, rf_5, rf_6, rf_7, rf_8, rf_9, rf_10, rf_11, rf_12⟩ := c13_row (K5.out.row 3 rfl)
  obtain ⟨rx_0, rx_1, rx_2⟩ := c3_row (K5.out.row 2 rfl)
  obtain ⟨x_0, x_1, x_2⟩ := c3_row (K5.out.row 0 rfl)
  have zf := fun j => frozen_of_row _ _ j _ _ (K5.out.row 3 rfl)
  have zx := fun j => frozen_of_row _ _ j _ _ (K5.out.row 2 rfl)
  have nxrf : w4.heap.size ≠ w.heap.size + 1 := K5.out.ne 0 3 rfl rfl (by decide)
  have nrfx := nxrf.symm
  have nxrx : w4.heap.size ≠ w.heap.size + 1 + 1 := K5.out.ne 0 2 rfl rfl (by decide)
  have nrxx := nxrx.symm
  have KA := Lib.hid ((K5.out).setCells 3 rfl [.int .u8 0, .int .u8 0, .int .i64 0, .slice none 0 0, .int .i64 0, .int .i64 0, .int .i64 0, .int .u32 0, .slice none 0 0, .bool false, .bool false, .int .i64 0, .int .u8 0] (cs := zF0) (by kernel_rfl))
  have KB := Lib.hid ((KA.out.setCells 2 rfl [.bool true, .int .i64 x1, .int .u32 x2] (cs := #[.bool true, .int .i64 x1, .int .u32 x2]) (by kernel_rfl)).drew)
  have BB0 := (setCells_below (g := w.heap.size + 1 + 1) (by omega) [.bool true, .int .i64 x1, .int .u32 x2] 0 _ _ (setCells_below (g := w.heap.size + 1) (by omega) [.int .u8 0, .int .u8 0, .int .i64 0, .slice none 0 0, .int .i64 0, .int .i64 0, .int .i64 0, .int .u32 0, .slice none 0 0, .bool false, .bool false, .int .i64 0, .int .u8 0] 0 _ _ B5.out)).drew
  have hr10 := KB.out.row 3 rfl
  have hr20 := KB.out.row 2 rfl
  simp only [World.setCells, Nat.reduceAdd] at hr10 hr20 BB0
  have hr1 := Lib.hid hr10
  clear hr10
  have hr2 := Lib.hid hr20
  clear hr20
  have BB := Lib.hid BB0
  clear BB0
  clear KA KB
  go_region
  all_goals
    go_wp2
    exact bodyPost_ret (res_cell_cell rfl _ _ _ _ _ _ _ _ _ _ rfl hr1.out rfl hr2.out Tryz.underlying30 rfl info_F Tryz.underlying34 rfl info_X) rfl ⟨rfl, BB.out⟩
set_option maxRecDepth 100000 in
set_option maxHeartbeats 4000000 in
theorem m_parse_C (L S : Int) (K F : UInt8) (A : Option Addr) (n c : Nat) (xs : List UInt8) (w : World) (hA : Bs w w.heap.size A n xs) (hN : A = none → c = 0) (hn : n ≤ 100000) (hnc : n ≤ c) (hS : ¬ S = 0) (hr : headB 0 S = true) (hah : ∀ w, Calls Tryz.prog 23 #[.agg #[.int .i64 0, .int .u8 K.toNat, .int .u8 F.toNat, .int .i64 S], .int .i64 n] w fun e w' => e = .returned (.agg #[.bool false, .int .i64 S, .int .u32 6]) ∧ Below w.heap.size w w') :
    Calls Tryz.prog 7 #[.agg #[.int .i64 L, .int .u8 K.toNat, .int .u8 F.toNat, .int .i64 S], .slice A n c] w fun e w' => e = .returned (.tuple #[.agg (hF0 K.toNat F.toNat S), .agg #[.bool false, .int .i64 S, .int .u32 6]]) ∧ Below w.heap.size w w' := by
  have HR : Hid (∀ w, Calls Tryz.prog 22 #[.agg #[.int .i64 0, .int .u8 K.toNat, .int .u8 F.toNat, .int .i64 S]] w fun e w' => e = .returned (.bool true) ∧ Below w.heap.size w w') := Lib.hid (fun w => by have := rright_any 0 (K.toNat : Int) (F.toNat : Int) S w; rw [hr] at this; exact this)
  have HA2 := Lib.hid hah
  have HNC := Lib.hid hN
  clear hah hr
  have K0 : Hid (EnvB (((w.alloc (.cells #[.int .i64 L, .int .u8 K.toNat, .int .u8 F.toNat, .int .i64 S] 23)).alloc (.cells zF0 30)).alloc (.cells #[.bool false, .int .i64 0, .int .u32 0] 34)) [(A, n, xs)] [] [(w.heap.size + 1 + 1, #[.bool false, .int .i64 0, .int .u32 0], 34), (w.heap.size + 1, zF0, 30), (w.heap.size, #[.int .i64 L, .int .u8 K.toNat, .int .u8 F.toNat, .int .i64 S], 23)]) := Lib.hid (((((EnvB.nil w).addS0 hA).box 23 #[.int .i64 L, .int .u8 K.toNat, .int .u8 F.toNat, .int .i64 S]).boxg 30 zF0 (w.heap.size + 1) (by simp)).boxg 34 #[.bool false, .int .i64 0, .int .u32 0] (w.heap.size + 1 + 1) (by simp))
  have B0 : Hid (Below w.heap.size w (((w.alloc (.cells #[.int .i64 L, .int .u8 K.toNat, .int .u8 F.toNat, .int .i64 S] 23)).alloc (.cells zF0 30)).alloc (.cells #[.bool false, .int .i64 0, .int .u32 0] 34))) := Lib.hid ((((Below.refl _ w).alloc (Nat.le_refl _) _).alloc (by simp) _).alloc (by simp only [World.size_alloc]; omega) _)
  clear hA hN
  go_enter Tryz.func7, Tryz.ntmps7
  go_wp2_with (first
    | (refine at_store 3 (.tmp 9) (.const (.int .i64 0)) (by rfl) ?_; refine wpList_put (by rfl) 3 (.tmp 9) (.const (.int .i64 0)) (by rfl) (w.heap.size) 0 (.int .i64 0) (by rfl) (by rfl) 23 _ #[.int .i64 0, .int .u8 K.toNat, .int .u8 F.toNat, .int .i64 S] (K0.out.row 2 rfl) (by simp [Value.cells]) (by kernel_rfl) info_i (by kernel_rfl) ?_; intro w1 hrow hoth hz hbl; have K1 := Lib.hid (K0.out.turn 2 rfl hrow hoth hz); have B1 := Lib.hid (hbl _ _ (by omega) B0.out); clear hrow hoth hz hbl K0 B0)
    | (refine at_load 23 (.tmp 2) (by rfl) ?_; refine wpList_load_row (by rfl) 23 (.tmp 2) (by rfl) (w.heap.size) (by rfl) 23 _ (0, 0) _ (K1.out.row 2 rfl) Tryz.underlying23 (by rfl) info_H ?_)
    | (go_at_call 22; (with_reducible refine (HR.out _).mono ?_); rintro e w2 ⟨rfl, hb⟩; have K2 := Lib.hid (K1.out.on hb); have B2 := Lib.hid (below_step B1.out hb); obtain ⟨h_0, h_1, h_2, h_3⟩ := c4_row (K2.out.row 2 rfl); have le_f := B2.out.size; clear hb K1 B1; have K3 := Lib.hid (K2.out.box 30 (hF0 K.toNat F.toNat S)); have B3 := Lib.hid (B2.out.alloc B2.out.size (.cells (hF0 K.toNat F.toNat S) 30)); clear K2 B2)
    | (refine at_load 23 (.tmp 2) (by rfl) ?_; refine wpList_load_row (by rfl) 23 (.tmp 2) (by rfl) (w.heap.size) (by rfl) 23 _ (0, 0) _ (K3.out.row 3 rfl) Tryz.underlying23 (by rfl) info_H ?_)
    | (go_at_call 23; (with_reducible refine (HA2.out _).mono ?_); rintro e w4 ⟨rfl, hb⟩; have K4 := Lib.hid (K3.out.on hb); have B4 := Lib.hid (below_step B3.out hb); have le_x := B4.out.size; clear hb K3 B3; have K5 := Lib.hid (K4.out.box 34 #[.bool false, .int .i64 S, .int .u32 6]); have B5 := Lib.hid (B4.out.alloc B4.out.size (.cells #[.bool false, .int .i64 S, .int .u32 6] 34)); clear K4 B4; obtain ⟨x_0, x_1, x_2⟩ := c3_row (K5.out.row 0 rfl)))
  have S0 := Lib.hid (c3_row (K5.out.row 0 rfl))
  go_region_held3 (fun W' => W'.cell? ⟨w4.heap.size, 0, none⟩ = some (.bool false) ∧ W'.cell? ⟨w4.heap.size, 1, none⟩ = some (.int .i64 S) ∧ W'.cell? ⟨w4.heap.size, 2, none⟩ = some (.int .u32 6))
    (first | with_reducible exact S0.out | with_reducible exact c3_drew S0.out | with_reducible exact S1.out)
    ((go_at_call 24; refine (m_fine _).mono ?_; rintro e w6 ⟨rfl, hb⟩; have K6 := Lib.hid (K5.out.drew.on hb); have B6 := Lib.hid (below_step B5.out.drew hb); have S1 := Lib.hid (c3_row (K6.out.row 0 rfl)); clear hb))
  all_goals
    go_wp2
  obtain ⟨rf_0, rf_1, rf_2, rf_3, rf_4, rf_5, rf_6, rf_7, rf_8, rf_9, rf_10, rf_11, rf_12⟩ := c13_row (K6.out.row 3 rfl)
  obtain ⟨rx_0, rx_1, rx_2⟩ := c3_row (K6.out.row 2 rfl)
  obtain ⟨x_0, x_1, x_2⟩ := c3_row (K6.out.row 0 rfl)
  have zf := fun j => frozen_of_row _ _ j _ _ (K6.out.row 3 rfl)
  have zx := fun j => frozen_of_row _ _ j _ _ (K6.out.row 2 rfl)
  obtain ⟨f_0, f_1, f_2, f_3, f_4, f_5, f_6, f_7, f_8, f_9, f_10, f_11, f_12⟩ := c13_row (K6.out.row 1 rfl)
  have nxrf : w4.heap.size ≠ w.heap.size + 1 := K6.out.ne 0 3 rfl rfl (by decide)
  have nrfx := nxrf.symm
  have nxrx : w4.heap.size ≠ w.heap.size + 1 + 1 := K6.out.ne 0 2 rfl rfl (by decide)
  have nrxx := nxrx.symm
  have nfrf : w2.heap.size ≠ w.heap.size + 1 := K6.out.ne 1 3 rfl rfl (by decide)
  have nrff := nfrf.symm
  have nfrx : w2.heap.size ≠ w.heap.size + 1 + 1 := K6.out.ne 1 2 rfl rfl (by decide)
  have nrxf := nfrx.symm
  have KA := Lib.hid ((K6.out).setCells 3 rfl [.int .u8 K.toNat, .int .u8 F.toNat, .int .i64 S, .slice none 0 0, .int .i64 0, .int .i64 0, .int .i64 0, .int .u32 0, .slice none 0 0, .bool false, .bool false, .int .i64 0, .int .u8 0] (cs := (hF0 K.toNat F.toNat S)) (by kernel_rfl))
  have KB := Lib.hid ((KA.out.setCells 2 rfl [.bool false, .int .i64 S, .int .u32 6] (cs := #[.bool false, .int .i64 S, .int .u32 6]) (by kernel_rfl)).drew)
  have BB0 := (setCells_below (g := w.heap.size + 1 + 1) (by omega) [.bool false, .int .i64 S, .int .u32 6] 0 _ _ (setCells_below (g := w.heap.size + 1) (by omega) [.int .u8 K.toNat, .int .u8 F.toNat, .int .i64 S, .slice none 0 0, .int .i64 0, .int .i64 0, .int .i64 0, .int .u32 0, .slice none 0 0, .bool false, .bool false, .int .i64 0, .int .u8 0] 0 _ _ B6.out)).drew
  have hr10 := KB.out.row 3 rfl
  have hr20 := KB.out.row 2 rfl
  simp only [World.setCells, Nat.reduceAdd] at hr10 hr20 BB0
  have hr1 := Lib.hid hr10
  clear hr10
  have hr2 := Lib.hid hr20
  clear hr20
  have BB := Lib.hid BB0
  clear BB0
  clear KA KB
  go_region
  all_goals
    go_wp2
    exact bodyPost_ret (res_cell_cell rfl _ _ _ _ _ _ _ _ _ _ rfl hr1.out rfl hr2.out Tryz.underlying30 rfl info_F Tryz.underlying34 rfl info_X) rfl ⟨rfl, BB.out⟩
set_option maxRecDepth 100000 in
set_option maxHeartbeats 4000000 in
theorem m_parse_D1 (L S : Int) (K F : UInt8) (A : Option Addr) (n c : Nat) (xs : List UInt8) (w : World) (hA : Bs w w.heap.size A n xs) (hN : A = none → c = 0) (hn : n ≤ 100000) (hnc : n ≤ c) (d : Fr) (HIN : Hid (∀ w0, Bs w0 w0.heap.size A n xs → Calls Tryz.prog 25 #[.agg (hF0 K.toNat F.toNat S), .agg #[.int .i64 0, .int .u8 K.toNat, .int .u8 F.toNat, .int .i64 S], .slice A n c] w0 fun e w' => ∃ A1 n1 c1 A3 n3 c3, e = .returned (.tuple #[.agg (fra d A1 n1 c1 A3 n3 c3), .bool true]) ∧ HandS w' w0.heap.size A1 n1 c1 d.da ∧ HandP w' w0.heap.size A3 n3 c3 d.ps ∧ Below w0.heap.size w0 w')) (hdp : d.ps.length ≤ 100000) (z0 : Bool) (z1 z2 : Int) (hz0 : z0 = true) (HVA : Hid (∀ v A m c w0, Value.oneCell' v = true → Ps w0 w0.heap.size A m d.ps → m ≤ 100000 → Calls Tryz.prog 26 #[.agg #[.int .u8 d.kd.toNat, .int .u8 d.fl.toNat, .int .i64 d.st, v, .int .i64 d.pd, .int .i64 d.la, .int .i64 d.ic, .int .u32 d.co.toNat, .slice A m c, .bool d.rk, .bool d.al, .int .i64 d.dp, .int .u8 d.wt.toNat]] w0 fun e w' => e = .returned (.agg #[.bool z0, .int .i64 z1, .int .u32 z2]) ∧ Below w0.heap.size w0 w')) (hr : headB 0 S = true) (hah : ∀ w, Calls Tryz.prog 23 #[.agg #[.int .i64 0, .int .u8 K.toNat, .int .u8 F.toNat, .int .i64 S], .int .i64 n] w fun e w' => e = .returned (.agg #[.bool false, .int .i64 0, .int .u32 0]) ∧ Below w.heap.size w w') :
    Calls Tryz.prog 7 #[.agg #[.int .i64 L, .int .u8 K.toNat, .int .u8 F.toNat, .int .i64 S], .slice A n c] w fun e w' => e = .returned (.tuple #[.agg zF0, .agg #[.bool z0, .int .i64 z1, .int .u32 z2]]) ∧ Below w.heap.size w w' := by
  have HR : Hid (∀ w, Calls Tryz.prog 22 #[.agg #[.int .i64 0, .int .u8 K.toNat, .int .u8 F.toNat, .int .i64 S]] w fun e w' => e = .returned (.bool true) ∧ Below w.heap.size w w') := Lib.hid (fun w => by have := rright_any 0 (K.toNat : Int) (F.toNat : Int) S w; rw [hr] at this; exact this)
  have HA2 := Lib.hid hah
  have HNC := Lib.hid hN
  clear hah hr
  have K0 : Hid (EnvB (((w.alloc (.cells #[.int .i64 L, .int .u8 K.toNat, .int .u8 F.toNat, .int .i64 S] 23)).alloc (.cells zF0 30)).alloc (.cells #[.bool false, .int .i64 0, .int .u32 0] 34)) [(A, n, xs)] [] [(w.heap.size + 1 + 1, #[.bool false, .int .i64 0, .int .u32 0], 34), (w.heap.size + 1, zF0, 30), (w.heap.size, #[.int .i64 L, .int .u8 K.toNat, .int .u8 F.toNat, .int .i64 S], 23)]) := Lib.hid (((((EnvB.nil w).addS0 hA).box 23 #[.int .i64 L, .int .u8 K.toNat, .int .u8 F.toNat, .int .i64 S]).boxg 30 zF0 (w.heap.size + 1) (by simp)).boxg 34 #[.bool false, .int .i64 0, .int .u32 0] (w.heap.size + 1 + 1) (by simp))
  have B0 : Hid (Below w.heap.size w (((w.alloc (.cells #[.int .i64 L, .int .u8 K.toNat, .int .u8 F.toNat, .int .i64 S] 23)).alloc (.cells zF0 30)).alloc (.cells #[.bool false, .int .i64 0, .int .u32 0] 34))) := Lib.hid ((((Below.refl _ w).alloc (Nat.le_refl _) _).alloc (by simp) _).alloc (by simp only [World.size_alloc]; omega) _)
  clear hA hN
  subst hz0
  go_enter Tryz.func7, Tryz.ntmps7
  go_wp2_with (first
    | (refine at_store 3 (.tmp 9) (.const (.int .i64 0)) (by rfl) ?_; refine wpList_put (by rfl) 3 (.tmp 9) (.const (.int .i64 0)) (by rfl) (w.heap.size) 0 (.int .i64 0) (by rfl) (by rfl) 23 _ #[.int .i64 0, .int .u8 K.toNat, .int .u8 F.toNat, .int .i64 S] (K0.out.row 2 rfl) (by simp [Value.cells]) (by kernel_rfl) info_i (by kernel_rfl) ?_; intro w1 hrow hoth hz hbl; have K1 := Lib.hid (K0.out.turn 2 rfl hrow hoth hz); have B1 := Lib.hid (hbl _ _ (by omega) B0.out); clear hrow hoth hz hbl K0 B0)
    | (refine at_load 23 (.tmp 2) (by rfl) ?_; refine wpList_load_row (by rfl) 23 (.tmp 2) (by rfl) (w.heap.size) (by rfl) 23 _ (0, 0) _ (K1.out.row 2 rfl) Tryz.underlying23 (by rfl) info_H ?_)
    | (go_at_call 22; (with_reducible refine (HR.out _).mono ?_); rintro e w2 ⟨rfl, hb⟩; have K2 := Lib.hid (K1.out.on hb); have B2 := Lib.hid (below_step B1.out hb); obtain ⟨h_0, h_1, h_2, h_3⟩ := c4_row (K2.out.row 2 rfl); have le_f := B2.out.size; clear hb K1 B1; have K3 := Lib.hid (K2.out.box 30 (hF0 K.toNat F.toNat S)); have B3 := Lib.hid (B2.out.alloc B2.out.size (.cells (hF0 K.toNat F.toNat S) 30)); clear K2 B2)
    | (refine at_load 23 (.tmp 2) (by rfl) ?_; refine wpList_load_row (by rfl) 23 (.tmp 2) (by rfl) (w.heap.size) (by rfl) 23 _ (0, 0) _ (K3.out.row 3 rfl) Tryz.underlying23 (by rfl) info_H ?_)
    | (go_at_call 23; (with_reducible refine (HA2.out _).mono ?_); rintro e w4 ⟨rfl, hb⟩; have K4 := Lib.hid (K3.out.on hb); have B4 := Lib.hid (below_step B3.out hb); have le_x := B4.out.size; clear hb K3 B3; have K5 := Lib.hid (K4.out.box 34 #[.bool false, .int .i64 0, .int .u32 0]); have B5 := Lib.hid (B4.out.alloc B4.out.size (.cells #[.bool false, .int .i64 0, .int .u32 0] 34)); clear K4 B4; obtain ⟨x_0, x_1, x_2⟩ := c3_row (K5.out.row 0 rfl)))
  have S0 := Lib.hid (c3_row (K5.out.row 0 rfl))
  go_region_held3 (fun W' => W'.cell? ⟨w4.heap.size, 0, none⟩ = some (.bool false) ∧ W'.cell? ⟨w4.heap.size, 1, none⟩ = some (.int .i64 0) ∧ W'.cell? ⟨w4.heap.size, 2, none⟩ = some (.int .u32 0))
    (first | with_reducible exact S0.out | with_reducible exact c3_drew S0.out | with_reducible exact S1.out)
    ((go_at_call 24; refine (m_fine _).mono ?_; rintro e w6 ⟨rfl, hb⟩; have K6 := Lib.hid (K5.out.drew.on hb); have B6 := Lib.hid (below_step B5.out.drew hb); have S1 := Lib.hid (c3_row (K6.out.row 0 rfl)); clear hb))
  all_goals
    have LEF : w.heap.size ≤ w2.heap.size := le_f
    have LEX : w.heap.size ≤ w4.heap.size := le_x
    go_wp2_with (first
      | (refine at_load 30 (.tmp 6) (by rfl) ?_; refine wpList_load_row (by rfl) 30 (.tmp 6) (by rfl) (w2.heap.size) (by rfl) 30 _ (0, 0) _ (K6.out.row 1 rfl) Tryz.underlying30 (by rfl) info_F ?_)
      | (refine at_load 23 (.tmp 2) (by rfl) ?_; refine wpList_load_row (by rfl) 23 (.tmp 2) (by rfl) (w.heap.size) (by rfl) 23 _ (0, 0) _ (K6.out.row 4 rfl) Tryz.underlying23 (by rfl) info_H ?_)
      | (go_at_call 25; (with_reducible refine (HIN.out _ (K6.out.s (A, n, xs) (by simp)).1).mono ?_); rintro e w7 ⟨A1, n1, c1, A3, n3, c3, rfl, hh, hp, hb⟩; have HD1 := Lib.hid (hh.2.1.less B6.out.size); have HC1 := Lib.hid hh.2.2; have HP1 := Lib.hid (hp.2.1.less B6.out.size); have HQ1 := Lib.hid hp.2.2; have hm3 : n3 ≤ 100000 := (by have := hp.1.1; omega); have K7 : Hid (EnvB w7 [(A1, n1, d.da), (A, n, xs)] [(A3, n3, d.ps)] [(w4.heap.size, #[.bool false, .int .i64 0, .int .u32 0], 34), (w2.heap.size, (hF0 K.toNat F.toNat S), 30), (w.heap.size + 1 + 1, #[.bool false, .int .i64 0, .int .u32 0], 34), (w.heap.size + 1, zF0, 30), (w.heap.size, #[.int .i64 0, .int .u8 K.toNat, .int .u8 F.toNat, .int .i64 S], 23)]) := Lib.hid (handB K6.out hb hh hp); have B7 := Lib.hid (below_step B6.out hb); clear hh hp; clear hb K6 B6)
      | (refine at_store 30 (.tmp 6) (.tmp 40) (by rfl) ?_; refine wpList_put (by rfl) 30 (.tmp 6) (.tmp 40) (by rfl) (w2.heap.size) 0 (.agg (fra d A1 n1 c1 A3 n3 c3)) (by rfl) (by rfl) 30 _ (fra d A1 n1 c1 A3 n3 c3) (K7.out.row 1 rfl) (by simp [Value.cells]) (by kernel_rfl) info_F (by kernel_rfl) ?_; intro w8 hrow hoth hz hbl; have K8 := Lib.hid (K7.out.turn 1 rfl hrow hoth hz); have B8 := Lib.hid (hbl _ _ LEF B7.out); clear hrow hoth hz hbl K7 B7)
      | (refine at_load 30 (.tmp 6) (by rfl) ?_; refine wpList_load_row (by rfl) 30 (.tmp 6) (by rfl) (w2.heap.size) (by rfl) 30 _ (0, 0) _ (K8.out.row 1 rfl) Tryz.underlying30 (by rfl) info_F ?_)
      | (go_at_call 26; (with_reducible refine (HVA.out _ A3 n3 c3 _ rfl (K8.out.p (A3, n3, d.ps) (by simp)).1 hm3).mono ?_); rintro e w9 ⟨rfl, hb⟩; have K9 := Lib.hid (K8.out.on hb); have B9 := Lib.hid (below_step B8.out hb); clear hb K8 B8)
      | (refine at_store 34 (.tmp 7) (.tmp 43) (by rfl) ?_; refine wpList_put (by rfl) 34 (.tmp 7) (.tmp 43) (by rfl) (w4.heap.size) 0 (.agg #[.bool true, .int .i64 z1, .int .u32 z2]) (by rfl) (by rfl) 34 _ #[.bool true, .int .i64 z1, .int .u32 z2] (K9.out.row 0 rfl) (by simp [Value.cells]) (by kernel_rfl) info_X (by kernel_rfl) ?_; intro w10 hrow hoth hz hbl; have K10 := Lib.hid (K9.out.turn 0 rfl hrow hoth hz); have B10 := Lib.hid (hbl _ _ LEX B9.out); clear hrow hoth hz hbl K9 B9)
      | (refine at_load 4 (.tmp 47) (by rfl) ?_; refine wpList_get (by rfl) 4 (.tmp 47) (by rfl) (w4.heap.size) 0 (by rfl) 34 _ (.bool true) _ (K10.out.row 0 rfl) (by rfl) Tryz.underlying4 (by rfl) ?_))
    obtain ⟨rf_0, rf_1, rf_2, rf_3, rf_4, rf_5, rf_6, rf_7, rf_8, rf_9, rf_10, rf_11, rf_12⟩ := c13_row (K10.out.row 3 rfl)
    obtain ⟨rx_0, rx_1, rx_2⟩ := c3_row (K10.out.row 2 rfl)
    obtain ⟨x_0, x_1, x_2⟩ := c3_row (K10.out.row 0 rfl)
    have zf := fun j => frozen_of_row _ _ j _ _ (K10.out.row 3 rfl)
    have zx := fun j => frozen_of_row _ _ j _ _ (K10.out.row 2 rfl)
    have nxrf : w4.heap.size ≠ w.heap.size + 1 := K10.out.ne 0 3 rfl rfl (by decide)
    have nrfx := nxrf.symm
    have nxrx : w4.heap.size ≠ w.heap.size + 1 + 1 := K10.out.ne 0 2 rfl rfl (by decide)
    have nrxx := nxrx.symm
    have KA := Lib.hid ((K10.out).setCells 3 rfl [.int .u8 0, .int .u8 0, .int .i64 0, .slice none 0 0, .int .i64 0, .int .i64 0, .int .i64 0, .int .u32 0, .slice none 0 0, .bool false, .bool false, .int .i64 0, .int .u8 0] (cs := zF0) (by kernel_rfl))
    have KB := Lib.hid ((KA.out.setCells 2 rfl [.bool true, .int .i64 z1, .int .u32 z2] (cs := #[.bool true, .int .i64 z1, .int .u32 z2]) (by kernel_rfl)).drew)
    have BB0 := (setCells_below (g := w.heap.size + 1 + 1) (by omega) [.bool true, .int .i64 z1, .int .u32 z2] 0 _ _ (setCells_below (g := w.heap.size + 1) (by omega) [.int .u8 0, .int .u8 0, .int .i64 0, .slice none 0 0, .int .i64 0, .int .i64 0, .int .i64 0, .int .u32 0, .slice none 0 0, .bool false, .bool false, .int .i64 0, .int .u8 0] 0 _ _ B10.out)).drew
    have hr10 := KB.out.row 3 rfl
    have hr20 := KB.out.row 2 rfl
    simp only [World.setCells, Nat.reduceAdd] at hr10 hr20 BB0
    have hr1 := Lib.hid hr10
    clear hr10
    have hr2 := Lib.hid hr20
    clear hr20
    have BB := Lib.hid BB0
    clear BB0
    clear KA KB
    go_region
    all_goals
      go_wp2
      exact bodyPost_ret (res_cell_cell rfl _ _ _ _ _ _ _ _ _ _ rfl hr1.out rfl hr2.out Tryz.underlying30 rfl info_F Tryz.underlying34 rfl info_X) rfl ⟨rfl, BB.out⟩
set_option maxRecDepth 100000 in
set_option maxHeartbeats 4000000 in
theorem m_parse_D2 (L S : Int) (K F : UInt8) (A : Option Addr) (n c : Nat) (xs : List UInt8) (w : World) (hA : Bs w w.heap.size A n xs) (hN : A = none → c = 0) (hn : n ≤ 100000) (hnc : n ≤ c) (d : Fr) (HIN : Hid (∀ w0, Bs w0 w0.heap.size A n xs → Calls Tryz.prog 25 #[.agg (hF0 K.toNat F.toNat S), .agg #[.int .i64 0, .int .u8 K.toNat, .int .u8 F.toNat, .int .i64 S], .slice A n c] w0 fun e w' => ∃ A1 n1 c1 A3 n3 c3, e = .returned (.tuple #[.agg (fra d A1 n1 c1 A3 n3 c3), .bool true]) ∧ HandS w' w0.heap.size A1 n1 c1 d.da ∧ HandP w' w0.heap.size A3 n3 c3 d.ps ∧ Below w0.heap.size w0 w')) (hdp : d.ps.length ≤ 100000) (z0 : Bool) (z1 z2 : Int) (hz0 : z0 = false) (HVA : Hid (∀ v A m c w0, Value.oneCell' v = true → Ps w0 w0.heap.size A m d.ps → m ≤ 100000 → Calls Tryz.prog 26 #[.agg #[.int .u8 d.kd.toNat, .int .u8 d.fl.toNat, .int .i64 d.st, v, .int .i64 d.pd, .int .i64 d.la, .int .i64 d.ic, .int .u32 d.co.toNat, .slice A m c, .bool d.rk, .bool d.al, .int .i64 d.dp, .int .u8 d.wt.toNat]] w0 fun e w' => e = .returned (.agg #[.bool z0, .int .i64 z1, .int .u32 z2]) ∧ Below w0.heap.size w0 w')) (hr : headB 0 S = true) (hah : ∀ w, Calls Tryz.prog 23 #[.agg #[.int .i64 0, .int .u8 K.toNat, .int .u8 F.toNat, .int .i64 S], .int .i64 n] w fun e w' => e = .returned (.agg #[.bool false, .int .i64 0, .int .u32 0]) ∧ Below w.heap.size w w') :
    Calls Tryz.prog 7 #[.agg #[.int .i64 L, .int .u8 K.toNat, .int .u8 F.toNat, .int .i64 S], .slice A n c] w fun e w' => ∃ A1 n1 c1 A3 n3 c3, e = .returned (.tuple #[.agg (fra d A1 n1 c1 A3 n3 c3), .agg #[.bool z0, .int .i64 z1, .int .u32 z2]]) ∧ HandS w' w.heap.size A1 n1 c1 d.da ∧ HandP w' w.heap.size A3 n3 c3 d.ps ∧ Below w.heap.size w w' := by
  have HR : Hid (∀ w, Calls Tryz.prog 22 #[.agg #[.int .i64 0, .int .u8 K.toNat, .int .u8 F.toNat, .int .i64 S]] w fun e w' => e = .returned (.bool true) ∧ Below w.heap.size w w') := Lib.hid (fun w => by have := rright_any 0 (K.toNat : Int) (F.toNat : Int) S w; rw [hr] at this; exact this)
  have HA2 := Lib.hid hah
  have HNC := Lib.hid hN
  clear hah hr
  have K0 : Hid (EnvB (((w.alloc (.cells #[.int .i64 L, .int .u8 K.toNat, .int .u8 F.toNat, .int .i64 S] 23)).alloc (.cells zF0 30)).alloc (.cells #[.bool false, .int .i64 0, .int .u32 0] 34)) [(A, n, xs)] [] [(w.heap.size + 1 + 1, #[.bool false, .int .i64 0, .int .u32 0], 34), (w.heap.size + 1, zF0, 30), (w.heap.size, #[.int .i64 L, .int .u8 K.toNat, .int .u8 F.toNat, .int .i64 S], 23)]) := Lib.hid (((((EnvB.nil w).addS0 hA).box 23 #[.int .i64 L, .int .u8 K.toNat, .int .u8 F.toNat, .int .i64 S]).boxg 30 zF0 (w.heap.size + 1) (by simp)).boxg 34 #[.bool false, .int .i64 0, .int .u32 0] (w.heap.size + 1 + 1) (by simp))
  have B0 : Hid (Below w.heap.size w (((w.alloc (.cells #[.int .i64 L, .int .u8 K.toNat, .int .u8 F.toNat, .int .i64 S] 23)).alloc (.cells zF0 30)).alloc (.cells #[.bool false, .int .i64 0, .int .u32 0] 34))) := Lib.hid ((((Below.refl _ w).alloc (Nat.le_refl _) _).alloc (by simp) _).alloc (by simp only [World.size_alloc]; omega) _)
  clear hA hN
  subst hz0
  go_enter Tryz.func7, Tryz.ntmps7
  go_wp2_with (first
    | (refine at_store 3 (.tmp 9) (.const (.int .i64 0)) (by rfl) ?_; refine wpList_put (by rfl) 3 (.tmp 9) (.const (.int .i64 0)) (by rfl) (w.heap.size) 0 (.int .i64 0) (by rfl) (by rfl) 23 _ #[.int .i64 0, .int .u8 K.toNat, .int .u8 F.toNat, .int .i64 S] (K0.out.row 2 rfl) (by simp [Value.cells]) (by kernel_rfl) info_i (by kernel_rfl) ?_; intro w1 hrow hoth hz hbl; have K1 := Lib.hid (K0.out.turn 2 rfl hrow hoth hz); have B1 := Lib.hid (hbl _ _ (by omega) B0.out); clear hrow hoth hz hbl K0 B0)
    | (refine at_load 23 (.tmp 2) (by rfl) ?_; refine wpList_load_row (by rfl) 23 (.tmp 2) (by rfl) (w.heap.size) (by rfl) 23 _ (0, 0) _ (K1.out.row 2 rfl) Tryz.underlying23 (by rfl) info_H ?_)
    | (go_at_call 22; (with_reducible refine (HR.out _).mono ?_); rintro e w2 ⟨rfl, hb⟩; have K2 := Lib.hid (K1.out.on hb); have B2 := Lib.hid (below_step B1.out hb); obtain ⟨h_0, h_1, h_2, h_3⟩ := c4_row (K2.out.row 2 rfl); have le_f := B2.out.size; clear hb K1 B1; have K3 := Lib.hid (K2.out.box 30 (hF0 K.toNat F.toNat S)); have B3 := Lib.hid (B2.out.alloc B2.out.size (.cells (hF0 K.toNat F.toNat S) 30)); clear K2 B2)
    | (refine at_load 23 (.tmp 2) (by rfl) ?_; refine wpList_load_row (by rfl) 23 (.tmp 2) (by rfl) (w.heap.size) (by rfl) 23 _ (0, 0) _ (K3.out.row 3 rfl) Tryz.underlying23 (by rfl) info_H ?_)
    | (go_at_call 23; (with_reducible refine (HA2.out _).mono ?_); rintro e w4 ⟨rfl, hb⟩; have K4 := Lib.hid (K3.out.on hb); have B4 := Lib.hid (below_step B3.out hb); have le_x := B4.out.size; clear hb K3 B3; have K5 := Lib.hid (K4.out.box 34 #[.bool false, .int .i64 0, .int .u32 0]); have B5 := Lib.hid (B4.out.alloc B4.out.size (.cells #[.bool false, .int .i64 0, .int .u32 0] 34)); clear K4 B4; obtain ⟨x_0, x_1, x_2⟩ := c3_row (K5.out.row 0 rfl)))
  have S0 := Lib.hid (c3_row (K5.out.row 0 rfl))
  go_region_held3 (fun W' => W'.cell? ⟨w4.heap.size, 0, none⟩ = some (.bool false) ∧ W'.cell? ⟨w4.heap.size, 1, none⟩ = some (.int .i64 0) ∧ W'.cell? ⟨w4.heap.size, 2, none⟩ = some (.int .u32 0))
    (first | with_reducible exact S0.out | with_reducible exact c3_drew S0.out | with_reducible exact S1.out)
    ((go_at_call 24; refine (m_fine _).mono ?_; rintro e w6 ⟨rfl, hb⟩; have K6 := Lib.hid (K5.out.drew.on hb); have B6 := Lib.hid (below_step B5.out.drew hb); have S1 := Lib.hid (c3_row (K6.out.row 0 rfl)); clear hb))
  all_goals
    have LEF : w.heap.size ≤ w2.heap.size := le_f
    have LEX : w.heap.size ≤ w4.heap.size := le_x
    go_wp2_with (first
      | (refine at_load 30 (.tmp 6) (by rfl) ?_; refine wpList_load_row (by rfl) 30 (.tmp 6) (by rfl) (w2.heap.size) (by rfl) 30 _ (0, 0) _ (K6.out.row 1 rfl) Tryz.underlying30 (by rfl) info_F ?_)
      | (refine at_load 23 (.tmp 2) (by rfl) ?_; refine wpList_load_row (by rfl) 23 (.tmp 2) (by rfl) (w.heap.size) (by rfl) 23 _ (0, 0) _ (K6.out.row 4 rfl) Tryz.underlying23 (by rfl) info_H ?_)
      | (go_at_call 25; (with_reducible refine (HIN.out _ (K6.out.s (A, n, xs) (by simp)).1).mono ?_); rintro e w7 ⟨A1, n1, c1, A3, n3, c3, rfl, hh, hp, hb⟩; have HD1 := Lib.hid (hh.2.1.less B6.out.size); have HC1 := Lib.hid hh.2.2; have HP1 := Lib.hid (hp.2.1.less B6.out.size); have HQ1 := Lib.hid hp.2.2; have hm3 : n3 ≤ 100000 := (by have := hp.1.1; omega); have K7 : Hid (EnvB w7 [(A1, n1, d.da), (A, n, xs)] [(A3, n3, d.ps)] [(w4.heap.size, #[.bool false, .int .i64 0, .int .u32 0], 34), (w2.heap.size, (hF0 K.toNat F.toNat S), 30), (w.heap.size + 1 + 1, #[.bool false, .int .i64 0, .int .u32 0], 34), (w.heap.size + 1, zF0, 30), (w.heap.size, #[.int .i64 0, .int .u8 K.toNat, .int .u8 F.toNat, .int .i64 S], 23)]) := Lib.hid (handB K6.out hb hh hp); have B7 := Lib.hid (below_step B6.out hb); clear hh hp; clear hb K6 B6)
      | (refine at_store 30 (.tmp 6) (.tmp 40) (by rfl) ?_; refine wpList_put (by rfl) 30 (.tmp 6) (.tmp 40) (by rfl) (w2.heap.size) 0 (.agg (fra d A1 n1 c1 A3 n3 c3)) (by rfl) (by rfl) 30 _ (fra d A1 n1 c1 A3 n3 c3) (K7.out.row 1 rfl) (by simp [Value.cells]) (by kernel_rfl) info_F (by kernel_rfl) ?_; intro w8 hrow hoth hz hbl; have K8 := Lib.hid (K7.out.turn 1 rfl hrow hoth hz); have B8 := Lib.hid (hbl _ _ LEF B7.out); clear hrow hoth hz hbl K7 B7)
      | (refine at_load 30 (.tmp 6) (by rfl) ?_; refine wpList_load_row (by rfl) 30 (.tmp 6) (by rfl) (w2.heap.size) (by rfl) 30 _ (0, 0) _ (K8.out.row 1 rfl) Tryz.underlying30 (by rfl) info_F ?_)
      | (go_at_call 26; (with_reducible refine (HVA.out _ A3 n3 c3 _ rfl (K8.out.p (A3, n3, d.ps) (by simp)).1 hm3).mono ?_); rintro e w9 ⟨rfl, hb⟩; have K9 := Lib.hid (K8.out.on hb); have B9 := Lib.hid (below_step B8.out hb); clear hb K8 B8)
      | (refine at_store 34 (.tmp 7) (.tmp 43) (by rfl) ?_; refine wpList_put (by rfl) 34 (.tmp 7) (.tmp 43) (by rfl) (w4.heap.size) 0 (.agg #[.bool false, .int .i64 z1, .int .u32 z2]) (by rfl) (by rfl) 34 _ #[.bool false, .int .i64 z1, .int .u32 z2] (K9.out.row 0 rfl) (by simp [Value.cells]) (by kernel_rfl) info_X (by kernel_rfl) ?_; intro w10 hrow hoth hz hbl; have K10 := Lib.hid (K9.out.turn 0 rfl hrow hoth hz); have B10 := Lib.hid (hbl _ _ LEX B9.out); clear hrow hoth hz hbl K9 B9)
      | (refine at_load 4 (.tmp 47) (by rfl) ?_; refine wpList_get (by rfl) 4 (.tmp 47) (by rfl) (w4.heap.size) 0 (by rfl) 34 _ (.bool false) _ (K10.out.row 0 rfl) (by rfl) Tryz.underlying4 (by rfl) ?_))
    obtain ⟨rf_0, rf_1, rf_2, rf_3, rf_4, rf_5, rf_6, rf_7, rf_8, rf_9, rf_10, rf_11, rf_12⟩ := c13_row (K10.out.row 3 rfl)
    obtain ⟨rx_0, rx_1, rx_2⟩ := c3_row (K10.out.row 2 rfl)
    obtain ⟨x_0, x_1, x_2⟩ := c3_row (K10.out.row 0 rfl)
    have zf := fun j => frozen_of_row _ _ j _ _ (K10.out.row 3 rfl)
    have zx := fun j => frozen_of_row _ _ j _ _ (K10.out.row 2 rfl)
    obtain ⟨f_0, f_1, f_2, f_3, f_4, f_5, f_6, f_7, f_8, f_9, f_10, f_11, f_12⟩ := c13_row (K10.out.row 1 rfl)
    have nxrf : w4.heap.size ≠ w.heap.size + 1 := K10.out.ne 0 3 rfl rfl (by decide)
    have nrfx := nxrf.symm
    have nxrx : w4.heap.size ≠ w.heap.size + 1 + 1 := K10.out.ne 0 2 rfl rfl (by decide)
    have nrxx := nxrx.symm
    have nfrf : w2.heap.size ≠ w.heap.size + 1 := K10.out.ne 1 3 rfl rfl (by decide)
    have nrff := nfrf.symm
    have nfrx : w2.heap.size ≠ w.heap.size + 1 + 1 := K10.out.ne 1 2 rfl rfl (by decide)
    have nrxf := nfrx.symm
    have KA := Lib.hid ((K10.out).setCells 3 rfl [.int .u8 d.kd.toNat, .int .u8 d.fl.toNat, .int .i64 d.st, .slice A1 n1 c1, .int .i64 d.pd, .int .i64 d.la, .int .i64 d.ic, .int .u32 d.co.toNat, .slice A3 n3 c3, .bool d.rk, .bool d.al, .int .i64 d.dp, .int .u8 d.wt.toNat] (cs := (fra d A1 n1 c1 A3 n3 c3)) (by kernel_rfl))
    have KB := Lib.hid ((KA.out.setCells 2 rfl [.bool false, .int .i64 z1, .int .u32 z2] (cs := #[.bool false, .int .i64 z1, .int .u32 z2]) (by kernel_rfl)).drew)
    have BB0 := (setCells_below (g := w.heap.size + 1 + 1) (by omega) [.bool false, .int .i64 z1, .int .u32 z2] 0 _ _ (setCells_below (g := w.heap.size + 1) (by omega) [.int .u8 d.kd.toNat, .int .u8 d.fl.toNat, .int .i64 d.st, .slice A1 n1 c1, .int .i64 d.pd, .int .i64 d.la, .int .i64 d.ic, .int .u32 d.co.toNat, .slice A3 n3 c3, .bool d.rk, .bool d.al, .int .i64 d.dp, .int .u8 d.wt.toNat] 0 _ _ B10.out)).drew
    have hr10 := KB.out.row 3 rfl
    have hr20 := KB.out.row 2 rfl
    have KBS0 := (KB.out.s (A1, n1, d.da) (by simp)).1
    have KBP0 := (KB.out.p (A3, n3, d.ps) (by simp)).1
    simp only [World.setCells, Nat.reduceAdd] at hr10 hr20 BB0 KBS0 KBP0
    have hr1 := Lib.hid hr10
    clear hr10
    have hr2 := Lib.hid hr20
    clear hr20
    have BB := Lib.hid BB0
    clear BB0
    have KBS := Lib.hid KBS0
    clear KBS0
    have KBP := Lib.hid KBP0
    clear KBP0
    clear KA KB
    go_region
    all_goals
      go_wp2
      exact bodyPost_ret (res_cell_cell rfl _ _ _ _ _ _ _ _ _ _ rfl hr1.out rfl hr2.out Tryz.underlying30 rfl info_F Tryz.underlying34 rfl info_X) rfl ⟨A1, n1, c1, A3, n3, c3, rfl, ⟨KBS.out, HD1.out, HC1.out⟩, ⟨KBP.out, HP1.out, HQ1.out⟩, BB.out⟩
set_option maxRecDepth 100000 in
set_option maxHeartbeats 4000000 in
theorem m_parse_D3 (L S : Int) (K F : UInt8) (A : Option Addr) (n c : Nat) (xs : List UInt8) (w : World) (hA : Bs w w.heap.size A n xs) (hN : A = none → c = 0) (hn : n ≤ 100000) (hnc : n ≤ c) (d : Fr) (HIN : Hid (∀ w0, Bs w0 w0.heap.size A n xs → Calls Tryz.prog 25 #[.agg (hF0 K.toNat F.toNat S), .agg #[.int .i64 0, .int .u8 K.toNat, .int .u8 F.toNat, .int .i64 S], .slice A n c] w0 fun e w' => ∃ A1 n1 c1 A3 n3 c3, e = .returned (.tuple #[.agg (fra d A1 n1 c1 A3 n3 c3), .bool false]) ∧ HandS w' w0.heap.size A1 n1 c1 d.da ∧ HandP w' w0.heap.size A3 n3 c3 d.ps ∧ Below w0.heap.size w0 w')) (hdp : d.ps.length ≤ 100000) (z0 : Bool) (z1 z2 : Int) (HVA : Hid (∀ v A m c w0, Value.oneCell' v = true → Ps w0 w0.heap.size A m d.ps → m ≤ 100000 → Calls Tryz.prog 26 #[.agg #[.int .u8 d.kd.toNat, .int .u8 d.fl.toNat, .int .i64 d.st, v, .int .i64 d.pd, .int .i64 d.la, .int .i64 d.ic, .int .u32 d.co.toNat, .slice A m c, .bool d.rk, .bool d.al, .int .i64 d.dp, .int .u8 d.wt.toNat]] w0 fun e w' => e = .returned (.agg #[.bool z0, .int .i64 z1, .int .u32 z2]) ∧ Below w0.heap.size w0 w')) (hr : headB 0 S = true) (hah : ∀ w, Calls Tryz.prog 23 #[.agg #[.int .i64 0, .int .u8 K.toNat, .int .u8 F.toNat, .int .i64 S], .int .i64 n] w fun e w' => e = .returned (.agg #[.bool false, .int .i64 0, .int .u32 0]) ∧ Below w.heap.size w w') :
    Calls Tryz.prog 7 #[.agg #[.int .i64 L, .int .u8 K.toNat, .int .u8 F.toNat, .int .i64 S], .slice A n c] w fun e w' => e = .returned (.tuple #[.agg zF0, .agg #[.bool true, .int .i64 0, .int .u32 1]]) ∧ Below w.heap.size w w' := by
  have HR : Hid (∀ w, Calls Tryz.prog 22 #[.agg #[.int .i64 0, .int .u8 K.toNat, .int .u8 F.toNat, .int .i64 S]] w fun e w' => e = .returned (.bool true) ∧ Below w.heap.size w w') := Lib.hid (fun w => by have := rright_any 0 (K.toNat : Int) (F.toNat : Int) S w; rw [hr] at this; exact this)
  have HA2 := Lib.hid hah
  have HNC := Lib.hid hN
  clear hah hr
  have K0 : Hid (EnvB (((w.alloc (.cells #[.int .i64 L, .int .u8 K.toNat, .int .u8 F.toNat, .int .i64 S] 23)).alloc (.cells zF0 30)).alloc (.cells #[.bool false, .int .i64 0, .int .u32 0] 34)) [(A, n, xs)] [] [(w.heap.size + 1 + 1, #[.bool false, .int .i64 0, .int .u32 0], 34), (w.heap.size + 1, zF0, 30), (w.heap.size, #[.int .i64 L, .int .u8 K.toNat, .int .u8 F.toNat, .int .i64 S], 23)]) := Lib.hid (((((EnvB.nil w).addS0 hA).box 23 #[.int .i64 L, .int .u8 K.toNat, .int .u8 F.toNat, .int .i64 S]).boxg 30 zF0 (w.heap.size + 1) (by simp)).boxg 34 #[.bool false, .int .i64 0, .int .u32 0] (w.heap.size + 1 + 1) (by simp))
  have B0 : Hid (Below w.heap.size w (((w.alloc (.cells #[.int .i64 L, .int .u8 K.toNat, .int .u8 F.toNat, .int .i64 S] 23)).alloc (.cells zF0 30)).alloc (.cells #[.bool false, .int .i64 0, .int .u32 0] 34))) := Lib.hid ((((Below.refl _ w).alloc (Nat.le_refl _) _).alloc (by simp) _).alloc (by simp only [World.size_alloc]; omega) _)
  clear hA hN
  go_enter Tryz.func7, Tryz.ntmps7
  go_wp2_with (first
    | (refine at_store 3 (.tmp 9) (.const (.int .i64 0)) (by rfl) ?_; refine wpList_put (by rfl) 3 (.tmp 9) (.const (.int .i64 0)) (by rfl) (w.heap.size) 0 (.int .i64 0) (by rfl) (by rfl) 23 _ #[.int .i64 0, .int .u8 K.toNat, .int .u8 F.toNat, .int .i64 S] (K0.out.row 2 rfl) (by simp [Value.cells]) (by kernel_rfl) info_i (by kernel_rfl) ?_; intro w1 hrow hoth hz hbl; have K1 := Lib.hid (K0.out.turn 2 rfl hrow hoth hz); have B1 := Lib.hid (hbl _ _ (by omega) B0.out); clear hrow hoth hz hbl K0 B0)
    | (refine at_load 23 (.tmp 2) (by rfl) ?_; refine wpList_load_row (by rfl) 23 (.tmp 2) (by rfl) (w.heap.size) (by rfl) 23 _ (0, 0) _ (K1.out.row 2 rfl) Tryz.underlying23 (by rfl) info_H ?_)
    | (go_at_call 22; (with_reducible refine (HR.out _).mono ?_); rintro e w2 ⟨rfl, hb⟩; have K2 := Lib.hid (K1.out.on hb); have B2 := Lib.hid (below_step B1.out hb); obtain ⟨h_0, h_1, h_2, h_3⟩ := c4_row (K2.out.row 2 rfl); have le_f := B2.out.size; clear hb K1 B1; have K3 := Lib.hid (K2.out.box 30 (hF0 K.toNat F.toNat S)); have B3 := Lib.hid (B2.out.alloc B2.out.size (.cells (hF0 K.toNat F.toNat S) 30)); clear K2 B2)
    | (refine at_load 23 (.tmp 2) (by rfl) ?_; refine wpList_load_row (by rfl) 23 (.tmp 2) (by rfl) (w.heap.size) (by rfl) 23 _ (0, 0) _ (K3.out.row 3 rfl) Tryz.underlying23 (by rfl) info_H ?_)
    | (go_at_call 23; (with_reducible refine (HA2.out _).mono ?_); rintro e w4 ⟨rfl, hb⟩; have K4 := Lib.hid (K3.out.on hb); have B4 := Lib.hid (below_step B3.out hb); have le_x := B4.out.size; clear hb K3 B3; have K5 := Lib.hid (K4.out.box 34 #[.bool false, .int .i64 0, .int .u32 0]); have B5 := Lib.hid (B4.out.alloc B4.out.size (.cells #[.bool false, .int .i64 0, .int .u32 0] 34)); clear K4 B4; obtain ⟨x_0, x_1, x_2⟩ := c3_row (K5.out.row 0 rfl)))
  have S0 := Lib.hid (c3_row (K5.out.row 0 rfl))
  go_region_held3 (fun W' => W'.cell? ⟨w4.heap.size, 0, none⟩ = some (.bool false) ∧ W'.cell? ⟨w4.heap.size, 1, none⟩ = some (.int .i64 0) ∧ W'.cell? ⟨w4.heap.size, 2, none⟩ = some (.int .u32 0))
    (first | with_reducible exact S0.out | with_reducible exact c3_drew S0.out | with_reducible exact S1.out)
    ((go_at_call 24; refine (m_fine _).mono ?_; rintro e w6 ⟨rfl, hb⟩; have K6 := Lib.hid (K5.out.drew.on hb); have B6 := Lib.hid (below_step B5.out.drew hb); have S1 := Lib.hid (c3_row (K6.out.row 0 rfl)); clear hb))
  all_goals
    have LEF : w.heap.size ≤ w2.heap.size := le_f
    have LEX : w.heap.size ≤ w4.heap.size := le_x
    go_wp2_with (first
      | (refine at_load 30 (.tmp 6) (by rfl) ?_; refine wpList_load_row (by rfl) 30 (.tmp 6) (by rfl) (w2.heap.size) (by rfl) 30 _ (0, 0) _ (K6.out.row 1 rfl) Tryz.underlying30 (by rfl) info_F ?_)
      | (refine at_load 23 (.tmp 2) (by rfl) ?_; refine wpList_load_row (by rfl) 23 (.tmp 2) (by rfl) (w.heap.size) (by rfl) 23 _ (0, 0) _ (K6.out.row 4 rfl) Tryz.underlying23 (by rfl) info_H ?_)
      | (go_at_call 25; (with_reducible refine (HIN.out _ (K6.out.s (A, n, xs) (by simp)).1).mono ?_); rintro e w7 ⟨A1, n1, c1, A3, n3, c3, rfl, hh, hp, hb⟩; have HD1 := Lib.hid (hh.2.1.less B6.out.size); have HC1 := Lib.hid hh.2.2; have HP1 := Lib.hid (hp.2.1.less B6.out.size); have HQ1 := Lib.hid hp.2.2; have hm3 : n3 ≤ 100000 := (by have := hp.1.1; omega); have K7 : Hid (EnvB w7 [(A1, n1, d.da), (A, n, xs)] [(A3, n3, d.ps)] [(w4.heap.size, #[.bool false, .int .i64 0, .int .u32 0], 34), (w2.heap.size, (hF0 K.toNat F.toNat S), 30), (w.heap.size + 1 + 1, #[.bool false, .int .i64 0, .int .u32 0], 34), (w.heap.size + 1, zF0, 30), (w.heap.size, #[.int .i64 0, .int .u8 K.toNat, .int .u8 F.toNat, .int .i64 S], 23)]) := Lib.hid (handB K6.out hb hh hp); have B7 := Lib.hid (below_step B6.out hb); clear hh hp; clear hb K6 B6)
      | (refine at_store 30 (.tmp 6) (.tmp 40) (by rfl) ?_; refine wpList_put (by rfl) 30 (.tmp 6) (.tmp 40) (by rfl) (w2.heap.size) 0 (.agg (fra d A1 n1 c1 A3 n3 c3)) (by rfl) (by rfl) 30 _ (fra d A1 n1 c1 A3 n3 c3) (K7.out.row 1 rfl) (by simp [Value.cells]) (by kernel_rfl) info_F (by kernel_rfl) ?_; intro w8 hrow hoth hz hbl; have K8 := Lib.hid (K7.out.turn 1 rfl hrow hoth hz); have B8 := Lib.hid (hbl _ _ LEF B7.out); clear hrow hoth hz hbl K7 B7)
      | (refine at_load 30 (.tmp 6) (by rfl) ?_; refine wpList_load_row (by rfl) 30 (.tmp 6) (by rfl) (w2.heap.size) (by rfl) 30 _ (0, 0) _ (K8.out.row 1 rfl) Tryz.underlying30 (by rfl) info_F ?_)
      | (go_at_call 26; (with_reducible refine (HVA.out _ A3 n3 c3 _ rfl (K8.out.p (A3, n3, d.ps) (by simp)).1 hm3).mono ?_); rintro e w9 ⟨rfl, hb⟩; have K9 := Lib.hid (K8.out.on hb); have B9 := Lib.hid (below_step B8.out hb); clear hb K8 B8)
      | (refine at_store 34 (.tmp 7) (.tmp 43) (by rfl) ?_; refine wpList_put (by rfl) 34 (.tmp 7) (.tmp 43) (by rfl) (w4.heap.size) 0 (.agg #[.bool z0, .int .i64 z1, .int .u32 z2]) (by rfl) (by rfl) 34 _ #[.bool z0, .int .i64 z1, .int .u32 z2] (K9.out.row 0 rfl) (by simp [Value.cells]) (by kernel_rfl) info_X (by kernel_rfl) ?_; intro w10 hrow hoth hz hbl; have K10 := Lib.hid (K9.out.turn 0 rfl hrow hoth hz); have B10 := Lib.hid (hbl _ _ LEX B9.out); clear hrow hoth hz hbl K9 B9)
      | (go_at_call 17; (with_reducible refine (m_whole _ _).mono ?_); rintro e w11 ⟨rfl, hb⟩; have K11 := Lib.hid (K10.out.on hb); have B11 := Lib.hid (below_step B10.out hb); clear hb K10 B10)
      | (refine at_store 34 (.tmp 7) (.tmp 46) (by rfl) ?_; refine wpList_put (by rfl) 34 (.tmp 7) (.tmp 46) (by rfl) (w4.heap.size) 0 (.agg #[.bool true, .int .i64 0, .int .u32 1]) (by rfl) (by rfl) 34 _ #[.bool true, .int .i64 0, .int .u32 1] (K11.out.row 0 rfl) (by simp [Value.cells]) (by kernel_rfl) info_X (by kernel_rfl) ?_; intro w12 hrow hoth hz hbl; have K12 := Lib.hid (K11.out.turn 0 rfl hrow hoth hz); have B12 := Lib.hid (hbl _ _ LEX B11.out); clear hrow hoth hz hbl K11 B11)
      | (refine at_load 4 (.tmp 47) (by rfl) ?_; refine wpList_get (by rfl) 4 (.tmp 47) (by rfl) (w4.heap.size) 0 (by rfl) 34 _ (.bool true) _ (K12.out.row 0 rfl) (by rfl) Tryz.underlying4 (by rfl) ?_))
    obtain ⟨rf_0, rf_1, rf_2, rf_3, rf_4, rf_5, rf_6, rf_7, rf_8, rf_9, rf_10, rf_11, rf_12⟩ := c13_row (K12.out.row 3 rfl)
    obtain ⟨rx_0, rx_1, rx_2⟩ := c3_row (K12.out.row 2 rfl)
    obtain ⟨x_0, x_1, x_2⟩ := c3_row (K12.out.row 0 rfl)
    have zf := fun j => frozen_of_row _ _ j _ _ (K12.out.row 3 rfl)
    have zx := fun j => frozen_of_row _ _ j _ _ (K12.out.row 2 rfl)
    have nxrf : w4.heap.size ≠ w.heap.size + 1 := K12.out.ne 0 3 rfl rfl (by decide)
    have nrfx := nxrf.symm
    have nxrx : w4.heap.size ≠ w.heap.size + 1 + 1 := K12.out.ne 0 2 rfl rfl (by decide)
    have nrxx := nxrx.symm
    have KA := Lib.hid ((K12.out).setCells 3 rfl [.int .u8 0, .int .u8 0, .int .i64 0, .slice none 0 0, .int .i64 0, .int .i64 0, .int .i64 0, .int .u32 0, .slice none 0 0, .bool false, .bool false, .int .i64 0, .int .u8 0] (cs := zF0) (by kernel_rfl))
    have KB := Lib.hid ((KA.out.setCells 2 rfl [.bool true, .int .i64 0, .int .u32 1] (cs := #[.bool true, .int .i64 0, .int .u32 1]) (by kernel_rfl)).drew)
    have BB0 := (setCells_below (g := w.heap.size + 1 + 1) (by omega) [.bool true, .int .i64 0, .int .u32 1] 0 _ _ (setCells_below (g := w.heap.size + 1) (by omega) [.int .u8 0, .int .u8 0, .int .i64 0, .slice none 0 0, .int .i64 0, .int .i64 0, .int .i64 0, .int .u32 0, .slice none 0 0, .bool false, .bool false, .int .i64 0, .int .u8 0] 0 _ _ B12.out)).drew
    have hr10 := KB.out.row 3 rfl
    have hr20 := KB.out.row 2 rfl
    simp only [World.setCells, Nat.reduceAdd] at hr10 hr20 BB0
    have hr1 := Lib.hid hr10
    clear hr10
    have hr2 := Lib.hid hr20
    clear hr20
    have BB := Lib.hid BB0
    clear BB0
    clear KA KB
    go_region
    all_goals
      go_wp2
      exact bodyPost_ret (res_cell_cell rfl _ _ _ _ _ _ _ _ _ _ rfl hr1.out rfl hr2.out Tryz.underlying30 rfl info_F Tryz.underlying34 rfl info_X) rfl ⟨rfl, BB.out⟩
end Go.Proofs.YtbflhphjnmhjhaaGreat
/- The document's Parse, whatever it is handed. -/
namespace Go.Proofs.YtbflhphjnmhjhaaGreat
open Go.RowKit Oct Fi Fm
namespace Fm
def parseX (r : Fr × Bool) : Ft := if r.2 = true then valuesX r.1 else whole 1
def parseR (K F : UInt8) (S : Int) (xs : List UInt8) : Fr × Ft :=
  if headB 0 S = false then (frZ 0 0 0, whole 2)
  else if (aheadX K.toNat F S xs.length).1 = true then (frZ 0 0 0, aheadX K.toNat F S xs.length)
  else if aheadX K.toNat F S xs.length ≠ fine then (frZ K F S, aheadX K.toNat F S xs.length)
  else if (parseX (innerR K F S xs)).1 = true then (frZ 0 0 0, parseX (innerR K F S xs)) else ((innerR K F S xs).1, parseX (innerR K F S xs))
end Fm
theorem ahead_ways (k : Nat) (F : UInt8) (S : Int) (n : Nat) : aheadX k F S n = whole 6 ∨ aheadX k F S n = whole 1 ∨ (aheadX k F S n = (false, S, 6) ∧ S ≠ 0) ∨ (aheadX k F S n = fine ∧ longB k F n = false) := by
  unfold aheadX
  split
  · exact .inl rfl
  · split
    · exact .inr (.inl rfl)
    · rename_i h5
      split
      · split
        · rename_i h2
          refine .inr (.inr (.inl ⟨rfl, fun hS => h5 (.inr ?_)⟩))
          subst h2
          simp [farB, hS]
        · exact .inl rfl
      · rename_i hl
        exact .inr (.inr (.inr ⟨rfl, by simpa using hl⟩))
theorem inner_ps_len (K F : UInt8) (S : Int) (xs : List UInt8) : (innerR K F S xs).1.ps.length ≤ xs.length := by
  unfold innerR
  split
  · rw [dataR_ps]; simp
  · repeat' split
    all_goals first | (simp [frZ]; done) | skip
    unfold tpV
    split
    · simp; omega
    · simp
theorem m_parse (L S : Int) (K F : UInt8) (A : Option Addr) (n c : Nat) (xs : List UInt8) (w : World) (hA : Bs w w.heap.size A n xs) (hN : A = none → c = 0) (hn : n ≤ 100000) (hnc : n ≤ c) :
    Calls Tryz.prog 7 #[.agg #[.int .i64 L, .int .u8 K.toNat, .int .u8 F.toNat, .int .i64 S], .slice A n c] w fun e w' =>
      ∃ A' n' c' A3 n3 c3, e = .returned (.tuple #[frv (parseR K F S xs).1 (.slice A' n' c') (.slice A3 n3 c3), fv (parseR K F S xs).2]) ∧ HandS w' w.heap.size A' n' c' (parseR K F S xs).1.da ∧ HandP w' w.heap.size A3 n3 c3 (parseR K F S xs).1.ps ∧ Below w.heap.size w w' := by
  have hl : xs.length = n := hA.1
  have hn6 : n ≤ 1000000 := by omega
  have hah : ∀ w, Calls Tryz.prog 23 #[.agg #[.int .i64 0, .int .u8 K.toNat, .int .u8 F.toNat, .int .i64 S], .int .i64 n] w fun e w' => e = .returned (fv (aheadX K.toNat F S n)) ∧ Below w.heap.size w w' := fun w => m_ahead 0 S K F n w hn6
  by_cases hr : headB 0 S = true
  · rcases ahead_ways K.toNat F S n with ha | ha | ⟨ha, hS⟩ | ⟨ha, hlong⟩
    · have e : parseR K F S xs = (frZ 0 0 0, whole 6) := by unfold parseR; rw [if_neg (by simp [hr]), hl, ha, if_pos (by rfl)]
      rw [ha] at hah
      refine (m_parse_B L S K F A n c xs w hA hN hn hnc 0 6 hr hah).mono ?_
      rintro e w' ⟨rfl, hb⟩
      rw [e]
      exact ⟨_, _, _, _, _, _, rfl, HandS.nil_ _ _, HandP.nil_ _ _, hb⟩
    · have e : parseR K F S xs = (frZ 0 0 0, whole 1) := by unfold parseR; rw [if_neg (by simp [hr]), hl, ha, if_pos (by rfl)]
      rw [ha] at hah
      refine (m_parse_B L S K F A n c xs w hA hN hn hnc 0 1 hr hah).mono ?_
      rintro e w' ⟨rfl, hb⟩
      rw [e]
      exact ⟨_, _, _, _, _, _, rfl, HandS.nil_ _ _, HandP.nil_ _ _, hb⟩
    · have e : parseR K F S xs = (frZ K F S, (false, S, 6)) := by
        unfold parseR
        rw [if_neg (by simp [hr]), hl, ha, if_neg (by simp), if_pos (by simp [fine])]
      rw [ha] at hah
      refine (m_parse_C L S K F A n c xs w hA hN hn hnc hS hr hah).mono ?_
      rintro e w' ⟨rfl, hb⟩
      rw [e]
      exact ⟨_, _, _, _, _, _, rfl, HandS.nil_ _ _, HandP.nil_ _ _, hb⟩
    · have e : parseR K F S xs = if (parseX (innerR K F S xs)).1 = true then (frZ 0 0 0, parseX (innerR K F S xs)) else ((innerR K F S xs).1, parseX (innerR K F S xs)) := by
        unfold parseR
        rw [if_neg (by simp [hr]), hl, ha, if_neg (by simp [fine]), if_neg (by simp)]
      rw [ha] at hah
      have HIN := fun (w0 : World) (h : Bs w0 w0.heap.size A n xs) => m_inner 0 S K F A n c xs w0 h hN hn hnc hlong
      have hpl := inner_ps_len K F S xs
      have HVA := fun (v : Value) (A : Option Addr) (m c : Nat) (w0 : World) (hv : v.oneCell' = true) (h : Ps w0 w0.heap.size A m (innerR K F S xs).1.ps) (hm : m ≤ 100000) => m_values (innerR K F S xs).1 v A m c w0 hv h hm
      rw [e]
      clear e
      unfold parseX
      generalize innerR K F S xs = r at *
      obtain ⟨d, ok⟩ := r
      cases ok
      · refine (m_parse_D3 L S K F A n c xs w hA hN hn hnc d (Lib.hid HIN) (by simp only at hpl; omega) _ _ _ (Lib.hid HVA) hr hah).mono ?_
        rintro e w' ⟨rfl, hb⟩
        exact ⟨_, _, _, _, _, _, rfl, HandS.nil_ _ _, HandP.nil_ _ _, hb⟩
      · simp only [if_true]
        by_cases hw : (valuesX d).1 = true
        · rw [if_pos hw]
          refine (m_parse_D1 L S K F A n c xs w hA hN hn hnc d (Lib.hid HIN) (by simp only at hpl; omega) _ _ _ hw (Lib.hid HVA) hr hah).mono ?_
          rintro e w' ⟨rfl, hb⟩
          exact ⟨_, _, _, _, _, _, rfl, HandS.nil_ _ _, HandP.nil_ _ _, hb⟩
        · rw [if_neg hw]
          refine (m_parse_D2 L S K F A n c xs w hA hN hn hnc d (Lib.hid HIN) (by simp only at hpl; omega) _ _ _ (by simpa using hw) (Lib.hid HVA) hr hah).mono ?_
          rintro e w' ⟨A1, n1, c1, A3, n3, c3, rfl, h1, h2, hb⟩
          exact ⟨_, _, _, _, _, _, rfl, h1, h2, hb⟩
  · have hr' : headB 0 S = false := by simpa using hr
    have e : parseR K F S xs = (frZ 0 0 0, whole 2) := by unfold parseR; rw [if_pos hr']
    refine (m_parse_A L S K F A n c xs w hA hN hn hnc hr').mono ?_
    rintro e w' ⟨rfl, hb⟩
    rw [e]
    exact ⟨_, _, _, _, _, _, rfl, HandS.nil_ _ _, HandP.nil_ _ _, hb⟩
end Go.Proofs.YtbflhphjnmhjhaaGreat
