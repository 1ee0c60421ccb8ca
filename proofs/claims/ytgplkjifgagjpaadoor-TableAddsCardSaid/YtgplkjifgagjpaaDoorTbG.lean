/- The document's evicted. -/
import Derived.Test.YtgplkjifgagjpaaDoorTbE
import Derived.Test.YtgplkjifgagjpaaDoorGDraw
import Derived.Deep.RegionHeld3
namespace Go.Proofs.YtgplkjifgagjpaaDoor
open Go.RowKit Tb
set_option linter.unusedVariables false
set_option linter.unusedSimpArgs false
def Tb.lenAt (g : Nat) (w : World) : Nat := match w.cell? ⟨g, 1, none⟩ with
  | some (.slice _ m _) => m
  | _ => 0
theorem Tb.lenAt_eq {g : Nat} {w : World} {a : Value} {A : Option Addr} {m c : Nat} {t : TypeId} (h : w.heap[g]? = some (.cells #[a, .slice A m c] t)) : lenAt g w = m := by
  unfold lenAt
  rw [(cells2_row h).2]
theorem Fs.take {w : World} {B n : Nat} {A : Option Addr} {xs : List Fd} (h : Fs w B A n xs) (k : Nat) (hk : k ≤ n) : Fs w B A k (xs.take k) :=
  ⟨by rw [List.length_take, h.1]; exact Nat.min_eq_left hk, fun hn => by
    obtain ⟨b, o, e, hb, hc⟩ := h.2 (by omega)
    refine ⟨b, o, e, hb, fun j hj => ?_⟩
    rw [List.getElem?_take_of_lt hj]
    exact hc j (by omega)⟩
theorem flatMap_take (xs : List Fd) (k : Nat) : (xs.take k).flatMap fdc = (xs.flatMap fdc).take (k * 2) := by
  induction xs generalizing k with
  | nil => simp
  | cons x xs ih =>
    cases k with
    | zero => simp
    | succ k => rw [List.take_succ_cons, List.flatMap_cons, List.flatMap_cons, ih, show (k + 1) * 2 = k * 2 + 1 + 1 by omega]; rfl
theorem OwnF.take {w : World} {B n c : Nat} {t : TypeId} {A : Option Addr} {xs : List Fd} (h : OwnF w B t (.slice A n c) xs) (k : Nat) (hk : k ≤ n) : OwnF w B t (.slice A k c) (xs.take k) := by
  have hl := h.form
  obtain ⟨A', c', e, _⟩ := hl
  cases e
  have hlen : (xs.take k).length = k := by rw [List.length_take]; omega
  unfold OwnF
  rw [hlen, flatMap_take]
  refine ⟨by rw [List.length_take, fcs_len]; omega, ?_⟩
  rcases h.2 with ⟨e, h0⟩ | ⟨g, cap, cur, e, hBg, hg, hle, hmax, hs, htake⟩
  · simp only [Value.slice.injEq] at e
    obtain ⟨rfl, _, rfl⟩ := e
    obtain rfl : k = 0 := by omega
    exact .inl ⟨rfl, rfl⟩
  · cases e
    refine .inr ⟨g, c, cur, rfl, hBg, hg, by omega, hmax, hs, ?_⟩
    rw [← htake, List.take_take]
    congr 1
    omega
theorem OwnF.fs {w : World} {B n c : Nat} {t : TypeId} {A : Option Addr} {xs : List Fd} (h : OwnF w B t (.slice A n c) xs) (hl : xs.length = n) : Fs w w.heap.size A n xs := by
  obtain ⟨A', c', e, _, _, h3⟩ := h.form2 hl
  cases e
  exact h3
set_option maxRecDepth 100000 in
set_option maxHeartbeats 4000000 in
theorem r_evicted (M : Int) (A : Option Addr) (n c : Nat) (xs : List Fd) (w : World) (hA : Fs w w.heap.size A n xs) (hN : A = none → c = 0) (hF : full xs ≤ 1000000) (hM : 0 ≤ M) :
    Calls Tryd.prog 33 #[.agg #[.int .i64 M, .slice A n c]] w fun e w' => ∃ v, e = .returned (.agg #[.int .i64 M, v]) ∧ OwnF w' w.heap.size 26 v (keep M xs) ∧ Below w.heap.size w w' := by
  obtain ⟨i0, hi, hz0, hz1, hz2⟩ := info_parts info_fld
  have hinf := Lib.hid (And.intro hi (And.intro hz0 (And.intro hz1 hz2)))
  clear hi hz0 hz1 hz2
  have hn := hA.1
  have hfl := full_len xs
  have hfu := fit_le M xs
  have hN' := Lib.hid hN
  have hr0 : ((w.alloc (.cells #[.int .i64 M, .slice A n c] 24)).alloc (.cells #[.int .i64 0, .slice none 0 0] 24)).heap[w.heap.size]? = some (.cells #[.int .i64 M, .slice A n c] 24) := (Below.heap_alloc _ _ _ (by simp)).trans (World.alloc_heap_new _ _)
  have hr1 : ((w.alloc (.cells #[.int .i64 M, .slice A n c] 24)).alloc (.cells #[.int .i64 0, .slice none 0 0] 24)).heap[w.heap.size + 1]? = some (.cells #[.int .i64 0, .slice none 0 0] 24) := by
    have h := World.alloc_heap_new (w.alloc (.cells #[.int .i64 M, .slice A n c] 24)) (.cells #[.int .i64 0, .slice none 0 0] 24)
    rwa [World.size_alloc] at h
  have B0 : Hid (Below w.heap.size w ((w.alloc (.cells #[.int .i64 M, .slice A n c] 24)).alloc (.cells #[.int .i64 0, .slice none 0 0] 24))) := Lib.hid (((Below.refl _ w).alloc (Nat.le_refl _) (.cells #[.int .i64 M, .slice A n c] 24)).alloc (by simp) (.cells #[.int .i64 0, .slice none 0 0] 24))
  have hz : ((w.alloc (.cells #[.int .i64 M, .slice A n c] 24)).alloc (.cells #[.int .i64 0, .slice none 0 0] 24)).heap.size = w.heap.size + 1 + 1 := by simp
  have HZ := Lib.hid hz
  have HR0 := Lib.hid hr0
  have HR1 := Lib.hid hr1
  have HA0 := Lib.hid ((hA.on B0.out).alloc (Nat.le_refl _) (.cells #[] 26))
  have r1 := (cells2_row hr0).2
  have r1' : (((w.alloc (.cells #[.int .i64 M, .slice A n c] 24)).alloc (.cells #[.int .i64 0, .slice none 0 0] 24)).alloc (.cells #[] 26)).cell? ⟨w.heap.size, 1, none⟩ = some (.slice A n c) := (World.cell?_alloc_lt _ _ ⟨w.heap.size, 1, none⟩ (by simp; omega)).trans r1
  clear hA hN hr0 hr1 hz r1
  go_enter Tryd.func33, Tryd.ntmps33
  go_wp2_with (first
    | go_skip
    | (at_builtin; refine wpList_append_flds _ rfl (.tmp 3) (.tmp 5) 22 rfl (w.heap.size + 1 + 1) 26 i0 Tryd.underlying22 hinf.out.1 hinf.out.2.1 hinf.out.2.2.1 hinf.out.2.2.2 _ [] rfl (OwnF.lit ((w.alloc (.cells #[.int .i64 M, .slice A n c] 24)).alloc (.cells #[.int .i64 0, .slice none 0 0] 24)) 26 _ (Nat.le_of_eq HZ.out.symm) (w.heap.size + 1 + 1) HZ.out) _ A n c xs rfl HA0.out hN'.out (by simp; omega) (by have := HZ.out; rw [World.size_alloc]; omega) ?_; intro v4 w4 hown4 hb4 hg4 _; rw [List.nil_append] at hown4; obtain ⟨A4, c4, rfl, _⟩ := hown4.form2 (n := n) hn; have O4 := Lib.hid hown4; have hb6 := ((Below.refl (w.heap.size + 1 + 1) ((w.alloc (.cells #[.int .i64 M, .slice A n c] 24)).alloc (.cells #[.int .i64 0, .slice none 0 0] 24))).alloc (Nat.le_of_eq HZ.out.symm) (.cells #[] 26)).trans hb4; have B4 := Lib.hid (B0.out.trans (hb6.mono (by omega))); have R4 := Lib.hid ((hb6.block (w.heap.size) (by omega)).trans HR0.out); have R5 := Lib.hid ((hb6.block (w.heap.size + 1) (by omega)).trans HR1.out); have Z4 := Lib.hid (show w.heap.size + 1 + 1 ≤ w4.heap.size from Nat.le_trans (Nat.le_of_eq HZ.out.symm) hb6.size); clear hown4 hb4 hg4 hb6 HR0 HR1 HA0 r1' B0 HZ)
    | (refine at_store 22 (.tmp 7) (.tmp 6) (by rfl) ?_; refine wpList_put (by rfl) 22 (.tmp 7) (.tmp 6) (by rfl) (w.heap.size) 1 (.slice A4 n c4) (by rfl) (by rfl) 24 #[.int .i64 M, .slice A n c] #[.int .i64 M, .slice A4 n c4] R4.out (by simp [Value.cells]) (by kernel_rfl) infoc_L (by kernel_rfl) ?_; intro w5 hrow hoth hz5 hbl; have H5 := Lib.hid (And.intro hrow (And.intro ((hoth (w.heap.size + 1) (by omega)).trans R5.out) (And.intro (O4.out.above fun k hk => hoth k (by omega)) (And.intro (show w.heap.size + 1 + 1 ≤ w5.heap.size by have := Z4.out; omega) (hbl _ _ (Nat.le_refl _) B4.out))))); clear hrow hoth hz5 hbl O4 B4 R4 R5 Z4))
  simp only [Act.put]
  go_loopw [8] (fun t wr => ∃ j : Nat, fit M xs ≤ j ∧ j ≤ n ∧ wr.heap[w.heap.size]? = some (.cells #[.int .i64 M, .slice A4 j c4] 24) ∧ wr.heap[w.heap.size + 1]? = some (.cells #[.int .i64 0, .slice none 0 0] 24) ∧ OwnF wr (w.heap.size + 1 + 1) 26 (.slice A4 n c4) xs ∧ w.heap.size + 1 + 1 ≤ wr.heap.size ∧ Below w.heap.size w wr) (fun _ wr => Tb.lenAt (w.heap.size) wr)
  case atStart => exact ⟨n, by omega, Nat.le_refl _, H5.out⟩
  case round =>
    obtain ⟨j, hfj, hj, hr0, hr1, hown, hsz, hbel⟩ := hrel
    have arm : ∀ (wa wb : World), (wa.heap[w.heap.size]? = some (.cells #[.int .i64 M, .slice A4 j c4] 24) ∧ wa.heap[w.heap.size + 1]? = some (.cells #[.int .i64 0, .slice none 0 0] 24) ∧ OwnF wa (w.heap.size + 1 + 1) 26 (.slice A4 n c4) xs ∧ w.heap.size + 1 + 1 ≤ wa.heap.size ∧ Below w.heap.size w wa) → Below wa.heap.size wa wb → (wb.heap[w.heap.size]? = some (.cells #[.int .i64 M, .slice A4 j c4] 24) ∧ wb.heap[w.heap.size + 1]? = some (.cells #[.int .i64 0, .slice none 0 0] 24) ∧ OwnF wb (w.heap.size + 1 + 1) 26 (.slice A4 n c4) xs ∧ w.heap.size + 1 + 1 ≤ wb.heap.size ∧ Below w.heap.size w wb) := fun wa wb h hb => ⟨(hb.block _ (by omega)).trans h.1, (hb.block _ (by omega)).trans h.2.1, h.2.2.1.kept hb, Nat.le_trans h.2.2.2.1 hb.size, below_step h.2.2.2.2 hb⟩
    have ARM := Lib.hid arm
    clear arm
    have HR0 := Lib.hid hr0
    have SH0 : Hid (wr.cell? ⟨w.heap.size, 0, none⟩ = some (.int .i64 M) ∧ wr.cell? ⟨w.heap.size, 1, none⟩ = some (.slice A4 j c4)) := Lib.hid (cells2_row hr0)
    have SH : Hid (wr.drew.cell? ⟨w.heap.size, 0, none⟩ = some (.int .i64 M) ∧ wr.drew.cell? ⟨w.heap.size, 1, none⟩ = some (.slice A4 j c4)) := SH0
    have BL : Hid (wr.drew.heap[w.heap.size]? = some (.cells #[.int .i64 M, .slice A4 j c4] 24) ∧ wr.drew.heap[w.heap.size + 1]? = some (.cells #[.int .i64 0, .slice none 0 0] 24) ∧ OwnF wr.drew (w.heap.size + 1 + 1) 26 (.slice A4 n c4) xs ∧ w.heap.size + 1 + 1 ≤ wr.drew.heap.size ∧ Below w.heap.size w wr.drew) := Lib.hid ⟨hr0, hr1, hown.drew, hsz, hbel.drew⟩
    have hft := full_take xs j
    clear H5 hr0 hr1 hown hsz hbel
    by_cases hgt : (full (xs.take j) : Int) ≤ M
    · have hjf : j = fit M xs := by have := (fit_iff hM (by omega)).1 hgt; omega
      have d2 : decide (M < (full (xs.take j) : Int)) = false := decide_eq_false (by omega)
      have HJ := Lib.hid hjf
      clear hgt hjf hfj
      go_wp2
      go_region_held3 (fun W' => W'.cell? ⟨w.heap.size, 0, none⟩ = some (.int .i64 M) ∧ W'.cell? ⟨w.heap.size, 1, none⟩ = some (.slice A4 j c4)) (first | with_reducible exact SH.out | with_reducible exact SH0.out)
        ((go_at_call 18; (have hc := r_full M A4 j c4 (xs.take j) _ (((BL.out.2.2.1.fs hn).take j hj)) (by omega); (with_reducible refine hc.mono ?_); clear hc); rintro e1 w9 ⟨rfl, hb⟩; replace BL : Hid (w9.heap[w.heap.size]? = some (.cells #[.int .i64 M, .slice A4 j c4] 24) ∧ w9.heap[w.heap.size + 1]? = some (.cells #[.int .i64 0, .slice none 0 0] 24) ∧ OwnF w9 (w.heap.size + 1 + 1) 26 (.slice A4 n c4) xs ∧ w.heap.size + 1 + 1 ≤ w9.heap.size ∧ Below w.heap.size w w9) := Lib.hid (ARM.out _ _ BL.out hb); replace SH : Hid (w9.cell? ⟨w.heap.size, 0, none⟩ = some (.int .i64 M) ∧ w9.cell? ⟨w.heap.size, 1, none⟩ = some (.slice A4 j c4)) := Lib.hid (cells2_row BL.out.1); clear hb))
      all_goals
        have h0 := Lib.hid BL.out.1
        have h1 := Lib.hid BL.out.2.1
        go_wp2_with (first
          | go_skip
          | (refine at_load 24 (.tmp 1) (by rfl) ?_; refine wpList_load_row (by rfl) 24 (.tmp 1) (by rfl) (w.heap.size) (by rfl) 24 #[.int .i64 M, .slice A4 j c4] (0, 0) _ h0.out Tryd.underlying24 (by rfl) infoc_T ?_)
          | (refine at_store 24 (.tmp 2) (.tmp 21) (by rfl) ?_; refine wpList_put (by rfl) 24 (.tmp 2) (.tmp 21) (by rfl) (w.heap.size + 1) 0 (.agg #[.int .i64 M, .slice A4 j c4]) (by rfl) (by rfl) 24 #[.int .i64 0, .slice none 0 0] #[.int .i64 M, .slice A4 j c4] h1.out (by simp [Value.cells]) (by kernel_rfl) infoc_T (by kernel_rfl) ?_; intro w5 hrow hoth hz5 hbl; have H5 := Lib.hid (And.intro hrow (And.intro hoth (And.intro hz5 hbl))); clear hrow hoth hz5 hbl))
        obtain ⟨hrow, hoth, hz5, hbl⟩ := H5.out
        refine bodyPost_ret (res_cell1 rfl _ _ _ _ _ _ rfl hrow Tryd.underlying24 rfl infoc_T) rfl ⟨_, rfl, ?_, hbl _ _ (by omega) BL.out.2.2.2.2⟩
        have hO := BL.out.2.2.1.take j hj
        unfold keep
        rw [← HJ.out]
        exact (hO.above fun k hk => hoth k (by omega)).less (by omega)
    · have hjf : fit M xs < j := by
        rcases Nat.lt_or_ge (fit M xs) j with h | h
        · exact h
        · exact absurd ((fit_iff hM (by omega)).2 h) hgt
      have d2 : decide (M < (full (xs.take j) : Int)) = true := decide_eq_true (by omega)
      obtain ⟨k, rfl⟩ : ∃ k, j = k + 1 := ⟨j - 1, by omega⟩
      have HJ := Lib.hid hjf
      clear hgt hjf hfj
      go_wp2
      go_region_held3 (fun W' => W'.cell? ⟨w.heap.size, 0, none⟩ = some (.int .i64 M) ∧ W'.cell? ⟨w.heap.size, 1, none⟩ = some (.slice A4 (k + 1) c4)) (first | with_reducible exact SH.out | with_reducible exact SH0.out)
        ((go_at_call 18; (have hc := r_full M A4 (k + 1) c4 (xs.take (k + 1)) _ (((BL.out.2.2.1.fs hn).take (k + 1) hj)) (by omega); (with_reducible refine hc.mono ?_); clear hc); rintro e1 w9 ⟨rfl, hb⟩; replace BL : Hid (w9.heap[w.heap.size]? = some (.cells #[.int .i64 M, .slice A4 (k + 1) c4] 24) ∧ w9.heap[w.heap.size + 1]? = some (.cells #[.int .i64 0, .slice none 0 0] 24) ∧ OwnF w9 (w.heap.size + 1 + 1) 26 (.slice A4 n c4) xs ∧ w.heap.size + 1 + 1 ≤ w9.heap.size ∧ Below w.heap.size w w9) := Lib.hid (ARM.out _ _ BL.out hb); replace SH : Hid (w9.cell? ⟨w.heap.size, 0, none⟩ = some (.int .i64 M) ∧ w9.cell? ⟨w.heap.size, 1, none⟩ = some (.slice A4 (k + 1) c4)) := Lib.hid (cells2_row BL.out.1); clear hb))
      all_goals
        have h0 := Lib.hid BL.out.1
        have r1 := SH.out.2
        go_wp2_with (first
          | go_skip
          | (refine at_store 22 (.tmp 20) (.tmp 19) (by rfl) ?_; refine wpList_put (by rfl) 22 (.tmp 20) (.tmp 19) (by rfl) (w.heap.size) 1 (.slice A4 k c4) (by rfl) (by rfl) 24 #[.int .i64 M, .slice A4 (k + 1) c4] #[.int .i64 M, .slice A4 k c4] h0.out (by simp [Value.cells]) (by kernel_rfl) infoc_L (by kernel_rfl) ?_; intro w5 hrow hoth hz5 hbl; have H5 := Lib.hid (And.intro hrow (And.intro hoth (And.intro hz5 hbl))); clear hrow hoth hz5 hbl))
        simp only [Act.put]
        go_roundw
        case rel =>
          obtain ⟨hrow, hoth, hz5, hbl⟩ := H5.out
          exact ⟨k, by have := HJ.out; omega, by omega, hrow, (hoth _ (by omega)).trans BL.out.2.1, BL.out.2.2.1.above fun k hk => hoth k (by omega), by have := BL.out.2.2.2.1; omega, hbl _ _ (Nat.le_refl _) BL.out.2.2.2.2⟩
        case measure =>
          have h1 := lenAt_eq H5.out.1
          have h2 := lenAt_eq HR0.out
          omega
end Go.Proofs.YtgplkjifgagjpaaDoor
