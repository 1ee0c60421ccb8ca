/- The document's own answers of layer 2: Take, Whole. -/
import Derived.Test.YtjoopekgbfplpaaHdF
import Derived.Test.YtjoopekgbfplpaaGOwn
import Derived.Test.YtjoopekgbfplpaaOcRTake
import Derived.Deep.RegionHeld3
import Derived.BigRegion
namespace Go.Proofs.Ytjoopekgbfplpaa
open Go.RowKit Oct

theorem four_box2 {w w5 : World} {u0 u1 u2 u3 : Value} {t s : TypeId} (hb : Below (w.heap.size + 1) ((w.alloc (.cells #[u0, u1, u2, u3] t)).alloc (.cells #[] s)).drew w5) :
    Four w5 w.heap.size u0 u1 u2 u3 ∧ ∀ j, w5.frozen? ⟨w.heap.size, j, none⟩ = false := by
  refine ⟨((Four.new w t u0 u1 u2 u3).below (B := w.heap.size + 1) ((Below.refl _ _).alloc (by simp) _) (by omega)).drew.below hb (by omega), fun j => ?_⟩
  rw [(bcell hb).2 _ j (by omega)]
  show ((w.alloc (.cells #[u0, u1, u2, u3] t)).alloc (.cells #[] s)).frozen? _ = false
  simp [go_sem]
theorem cell_old {w w5 : World} {o1 o2 : Obj} {b i : Nat} {u : Value} (hb : Below (w.heap.size + 1) ((w.alloc o1).alloc o2).drew w5) (hl : b < w.heap.size) (h : w.cell? ⟨b, i, none⟩ = some u) : w5.cell? ⟨b, i, none⟩ = some u := by
  rw [(bcell hb).1 _ i (by omega)]
  show ((w.alloc o1).alloc o2).cell? _ = _
  rw [World.cell?_alloc_lt _ _ _ (by simp; omega), World.cell?_alloc_lt _ _ _ (by simpa using hl)]
  exact h
theorem cell_set4 {w : World} {g b i : Nat} {u0 u1 u2 u3 u : Value} (hne : b ≠ g) (h : w.cell? ⟨b, i, none⟩ = some u) : (set4 w g u0 u1 u2 u3).cell? ⟨b, i, none⟩ = some u :=
  (World.cell?_of_block (a := ⟨b, i, none⟩) (set4_heap w g u0 u1 u2 u3 b hne)).trans h
theorem cell_ald {w : World} {o1 : Obj} {b i : Nat} {u : Value} (hl : b < w.heap.size) (h : w.cell? ⟨b, i, none⟩ = some u) : (w.alloc o1).drew.cell? ⟨b, i, none⟩ = some u := cell_al hl h
theorem cell_al2 {w : World} {o1 o2 : Obj} {b i : Nat} {u : Value} (hl : b < w.heap.size) (h : w.cell? ⟨b, i, none⟩ = some u) : ((w.alloc o1).alloc o2).cell? ⟨b, i, none⟩ = some u :=
  cell_al (by simp; omega) (cell_al hl h)
theorem cell_al2d {w : World} {o1 o2 : Obj} {b i : Nat} {u : Value} (hl : b < w.heap.size) (h : w.cell? ⟨b, i, none⟩ = some u) : ((w.alloc o1).alloc o2).drew.cell? ⟨b, i, none⟩ = some u := cell_al2 hl h
theorem cell_st4 {w : World} {g b i : Nat} {u0 u1 u2 u3 u : Value} (hne : b ≠ g) (h : w.cell? ⟨b, i, none⟩ = some u) :
    ((((w.setCell ⟨g, 0, none⟩ u0).setCell ⟨g, 1, none⟩ u1).setCell ⟨g, 2, none⟩ u2).setCell ⟨g, 3, none⟩ u3).cell? ⟨b, i, none⟩ = some u := cell_set4 hne h
theorem rtake3 (A : Option Addr) (B n c : Nat) (xs : List UInt8) (w : World) (hA : Bs w B A n xs) (h9 : 9 ≤ n) (hn : n ≤ 1000000) :
    Calls Try.prog 25 #[.slice A n c, .int .i64 0, .int .i64 3] w fun e w' => e = .returned (.tuple #[.int .i64 (hL xs), .int .i64 0]) ∧ w = w' :=
  rtake_ok A B n c xs 0 3 w hA (by omega) (by omega) (by omega) (by omega) hn
theorem rstream5 (A : Option Addr) (B n c : Nat) (xs : List UInt8) (w : World) (hA : Bs w B A n xs) (h9 : 9 ≤ n) (hn : n ≤ 1000000) :
    Calls Try.prog 26 #[.slice A n c, .int .i64 5] w fun e w' => e = .returned (.tuple #[.int .i64 (hS xs), .int .i64 0]) ∧ w = w' :=
  rstream_ok A B n c xs 5 w hA (by omega) (by omega) hn
theorem rhtake_no (A : Option Addr) (n c : Nat) (w : World) (h9 : n < 9) :
    Calls Try.prog 10 #[.slice A n c] w fun e w' => e = .returned (.tuple #[.agg #[.int .i64 0, .int .u8 0, .int .u8 0, .int .i64 0], .slice none 0 0, .int .i64 10]) ∧ Below w.heap.size w w' := by
  go_enter Try.func10, Try.ntmps10
  go_wp2
  refine bodyPost_ret (v := .tuple #[.agg #[.int .i64 0, .int .u8 0, .int .u8 0, .int .i64 0], .slice none 0 0, .int .i64 10]) (by simp [results, Try.results10, go_sem]) rfl ⟨rfl, ?_⟩
  exact (Below.refl _ _).alloc (Nat.le_refl _) _
set_option maxHeartbeats 1000000 in
theorem rhtake_yes0 (b o B n c L K F S : Nat) (xs : List UInt8) (w : World) (hL0 : hL xs = L) (hK0 : hK xs = K) (hF0 : hF xs = F) (hS0 : hS xs = S) (hA : Bs w B (some ⟨b, o, none⟩) n xs) (h9 : 9 ≤ n) (hn : n ≤ 1000000) (hnc : n ≤ c) (hB : B ≤ w.heap.size) :
    Calls Try.prog 10 #[.slice (some ⟨b, o, none⟩) n c] w fun e w' => ∃ v, e = .returned (.tuple #[.agg #[.int .i64 L, .int .u8 K, .int .u8 F, .int .i64 S], v, .int .i64 0]) ∧ v ≠ .slice none 0 0 ∧ OwnB w' w.heap.size 5 v (xs.drop 9) ∧ Below w.heap.size w w' := by
  obtain ⟨b', o', e, hb, hc⟩ := hA.2 (by omega)
  cases e
  have h3 := hc 3 (by omega)
  have h4 := hc 4 (by omega)
  have HK0 : Hid (((xs[3]?.getD 0).toNat : Int) = K) := Lib.hid (by rw [← hK0]; rfl)
  have HF0 : Hid (((xs[4]?.getD 0).toNat : Int) = F) := Lib.hid (by rw [← hF0]; rfl)
  rw [HK0.out] at h3
  rw [HF0.out] at h4
  have HA := Lib.hid hA
  have HL0 := Lib.hid hL0
  have HS0 := Lib.hid hS0
  clear hA hL0 hK0 hF0 hS0 hc HK0 HF0
  have hbl : b < w.heap.size := by omega
  have hbl1 : b < w.heap.size + 1 := by omega
  have HR := Lib.hid (HA.out.cut (k := 9) h9 hnc)
  obtain ⟨A1, hA1⟩ : ∃ A1, (if c = 9 then some (⟨b, o, none⟩ : Addr) else some ⟨b, o + 9, none⟩) = A1 := ⟨_, rfl⟩
  have hN1 : A1 = none → c - 9 = 0 := fun h => if_some_ne (hA1.trans h)
  have HN1 := Lib.hid hN1
  clear hN1
  rw [hA1] at HR
  obtain ⟨i0, hi, hz0, hz1, hz2⟩ := info_parts info_u8
  have hinf := Lib.hid (And.intro hi (And.intro hz0 (And.intro hz1 hz2)))
  clear hi hz0 hz1 hz2
  have g9 : (9 : Int) ≤ (n : Int) := by omega
  have q3 : (3 : Int) < (n : Int) := by omega
  have q4 : (4 : Int) < (n : Int) := by omega
  have r3 : 3 < n := by omega
  have r4 : 4 < n := by omega
  have g9c : (9 : Int) ≤ (c : Int) := by omega
  go_enter Try.func10, Try.ntmps10
  go_wp2_with (first
    | (go_at_call 25; refine (rtake3 _ B n c xs _ (HA.out.alloc hB _) h9 hn).mono ?_; rintro e w' ⟨rfl, rfl⟩; rw [HL0.out])
    | (go_at_call 26; refine (rstream5 _ B n c xs _ (HA.out.alloc hB _) h9 hn).mono ?_; rintro e w' ⟨rfl, rfl⟩; rw [HS0.out]))
  have hbne : b ≠ w.heap.size := by omega
  go_region_held3 (fun W' => W'.cell? ⟨b, o + 3, none⟩ = some (.int .u8 K) ∧ W'.cell? ⟨b, o + 4, none⟩ = some (.int .u8 F))
    (first | with_reducible exact HK5.out | (with_reducible refine ⟨cell_al hbl h3, cell_al hbl h4⟩) | (with_reducible refine ⟨cell_ald hbl h3, cell_ald hbl h4⟩) | (with_reducible refine ⟨cell_al2 hbl h3, cell_al2 hbl h4⟩) | (with_reducible refine ⟨cell_al2d hbl h3, cell_al2d hbl h4⟩) | (with_reducible refine ⟨cell_st4 hbne HK5.out.1, cell_st4 hbne HK5.out.2⟩))
    ((refine step_append_full _ (by rfl) (.tmp 32) (.tmp 34) 22 (by rfl) (w.heap.size + 1) 5 i0 Try.underlying22 hinf.out.1 hinf.out.2.1 hinf.out.2.2.1 hinf.out.2.2.2 _ [] (by rfl) ?c1 B A1 (n - 9) (c - 9) (xs.drop 9) (by rfl) ?c2 HN1.out ?c3 ?c4 ?_; (case c1 => exact OwnB.drew (OwnB.lit2 (w.alloc _) _ _ _ (by simp) (by simp))); (case c2 => exact ((HR.out.alloc hB _).alloc (by simp; omega) _).drew); (case c3 => simp; omega); (case c4 => simp); intro v5 w5 hown5 hb5 _ _ hne5; have HO5 := Lib.hid hown5; have HV5 := Lib.hid (hne5 (fun h => by cases h)); clear hown5 hne5; have HK5 := Lib.hid (And.intro (cell_old hb5 hbl h3) (cell_old hb5 hbl h4)); have hF5 := four_box2 hb5; have HF5 := Lib.hid hF5.1; obtain ⟨⟨p0, p1, p2, p3⟩, hfr5⟩ := hF5))
  go_wp2
  have hsz5 := hb5.size
  have hbel5 : Below w.heap.size w w5 := (((Below.refl _ w).alloc (Nat.le_refl _) _).alloc (by simp) _).drew.trans (hb5.mono (by omega))
  have hbel := set4_below hbel5 (Nat.le_refl _) (.int .i64 L) (.int .u8 K) (.int .u8 F) (.int .i64 S)
  have hown := (HO5.out.above (w' := set4 w5 w.heap.size (.int .i64 L) (.int .u8 K) (.int .u8 F) (.int .i64 S)) (fun k hk => set4_heap _ _ _ _ _ _ _ (by omega))).less (B' := w.heap.size) (by omega)
  rw [List.nil_append] at hown
  obtain ⟨f0, f1, f2, f3⟩ := HF5.out.set (.int .i64 L) (.int .u8 K) (.int .u8 F) (.int .i64 S)
  unfold set4 at f0 f1 f2 f3
  refine bodyPost_ret (v := .tuple #[.agg #[.int .i64 L, .int .u8 K, .int .u8 F, .int .i64 S], v5, .int .i64 0]) (by simp [results, Try.results10, go_sem, f0, f1, f2, f3]) rfl ⟨v5, rfl, HV5.out, hown, hbel⟩
theorem rhtake_tot (A : Option Addr) (B n c : Nat) (xs : List UInt8) (w : World) (hA : Bs w B A n xs) (hn : n ≤ 1000000) (hnc : n ≤ c) (hB : B ≤ w.heap.size) :
    Calls Try.prog 10 #[.slice A n c] w fun e w' => ∃ v, e = .returned (.tuple #[.agg #[.int .i64 (tL xs n), .int .u8 (tK xs n), .int .u8 (tF xs n), .int .i64 (tS xs n)], v, .int .i64 (tE n)]) ∧ OwnB w' w.heap.size 5 v (xs.drop 9) ∧ Below w.heap.size w w' := by
  by_cases h : 9 ≤ n
  · obtain ⟨b, o, rfl, _, _⟩ := hA.2 (by omega)
    refine (rhtake_yes0 b o B n c _ _ _ _ xs w rfl rfl rfl rfl hA h hn hnc hB).mono ?_
    rintro e w' ⟨v, rfl, _, ho, hb⟩
    exact ⟨v, by unfold tL tK tF tS tE; simp only [if_pos h], ho, hb⟩
  · refine (rhtake_no A n c w (by omega)).mono ?_
    rintro e w' ⟨rfl, hb⟩
    have h1 : xs.drop 9 = [] := List.drop_eq_nil_of_le (by rw [hA.1]; omega)
    exact ⟨.slice none 0 0, by unfold tL tK tF tS tE; simp only [if_neg h]; rfl, by rw [h1]; exact OwnB.nil_ _ _ _, hb⟩
end Go.Proofs.Ytjoopekgbfplpaa
