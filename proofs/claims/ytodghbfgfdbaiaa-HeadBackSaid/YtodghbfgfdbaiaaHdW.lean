/- head.Whole: the first frame's head, its payload, what stands behind it. -/
import Derived.Test.YtodghbfgfdbaiaaHdR
import Derived.Deep.RegionHeld3
namespace Go.Proofs.Ytodghbfgfdbaiaa
open Go.RowKit Oct

theorem whole_few (A : Option Addr) (n c : Nat) (w : World) (h9 : n < 9) :
    Calls Try.prog 13 #[.slice A n c] w fun e w' => e = .returned (.tuple #[.agg #[.int .i64 0, .int .u8 0, .int .u8 0, .int .i64 0], .slice none 0 0, .slice none 0 0, .int .i64 10]) ∧ Below w.heap.size w w' := by
  go_enter Try.func13, Try.ntmps13
  go_wp2
  refine wp_scope_forward 0 rfl ?_
  go_wp2
  go_step3
  refine ⟨rfl, ?_⟩
  go_wp2
  rw [jump_ret]
  refine bodyPost_ret (v := .tuple #[.agg #[.int .i64 0, .int .u8 0, .int .u8 0, .int .i64 0], .slice none 0 0, .slice none 0 0, .int .i64 10]) (by simp [results, Try.results13, go_sem]) rfl ⟨rfl, ?_⟩
  exact (Below.refl _ _).alloc (Nat.le_refl _) _
theorem whole_short (A : Option Addr) (B n c : Nat) (xs : List UInt8) (w : World) (hA : Bs w B A n xs) (h9 : 9 ≤ n) (hn : n ≤ 1000000) (hnc : n ≤ c) (hB : B ≤ w.heap.size) (hs : n < 9 + hL xs) :
    Calls Try.prog 13 #[.slice A n c] w fun e w' => e = .returned (.tuple #[.agg #[.int .i64 (hL xs), .int .u8 (hK xs), .int .u8 (hF xs), .int .i64 (hS xs)], .slice none 0 0, .slice none 0 0, .int .i64 10]) ∧ Below w.heap.size w w' := by
  have HA := Lib.hid hA
  clear hA
  have hl := hL_lt xs
  have d1 : decide ((n : Int) - 9 < (hL xs : Int)) = true := by simp; omega
  go_enter Try.func13, Try.ntmps13
  go_wp2
  refine wp_scope_forward 0 rfl ?_
  go_wp2_with (go_at_call 23; refine (read_any _ B _ _ xs _ (HA.out.alloc hB _) h9 hn hnc ?_).mono ?_; (simp; omega); rintro e w1 ⟨rfl, hb1⟩; obtain ⟨hcc, hff⟩ := bcell hb1)
  go_step3
  refine ⟨rfl, ?_⟩
  go_wp2
  rw [jump_ret]
  have hF4 : Four w1 w.heap.size (.int .i64 0) (.int .u8 0) (.int .u8 0) (.int .i64 0) := (Four.new w 23 _ _ _ _).below hb1 (by simp)
  have hbel := set4_below (set4_below (((Below.refl _ w).alloc (Nat.le_refl _) _).trans (hb1.mono (by simp))) (Nat.le_refl _) (.int .i64 (hL xs)) (.int .u8 (hK xs)) (.int .u8 (hF xs)) (.int .i64 (hS xs))) (Nat.le_refl _) (.int .i64 (hL xs)) (.int .u8 (hK xs)) (.int .u8 (hF xs)) (.int .i64 (hS xs))
  obtain ⟨f0, f1, f2, f3⟩ := (hF4.set (.int .i64 (hL xs)) (.int .u8 (hK xs)) (.int .u8 (hF xs)) (.int .i64 (hS xs))).set (.int .i64 (hL xs)) (.int .u8 (hK xs)) (.int .u8 (hF xs)) (.int .i64 (hS xs))
  unfold set4 at f0 f1 f2 f3
  refine bodyPost_ret (v := .tuple #[.agg #[.int .i64 (hL xs), .int .u8 (hK xs), .int .u8 (hF xs), .int .i64 (hS xs)], .slice none 0 0, .slice none 0 0, .int .i64 10]) (by simp [results, Try.results13, go_sem, f0, f1, f2, f3]) rfl ⟨rfl, hbel⟩
set_option maxHeartbeats 1000000 in
theorem whole_yes0 (b o B n c L K F S : Nat) (xs : List UInt8) (w : World) (hL0 : hL xs = L) (hK0 : hK xs = K) (hF0 : hF xs = F) (hS0 : hS xs = S) (hA : Bs w B (some ⟨b, o, none⟩) n xs) (h9 : 9 ≤ n) (hn : n ≤ 1000000) (hnc : n ≤ c) (hB : B ≤ w.heap.size) (hs : 9 + L ≤ n) :
    Calls Try.prog 13 #[.slice (some ⟨b, o, none⟩) n c] w fun e w' => ∃ v u, e = .returned (.tuple #[.agg #[.int .i64 L, .int .u8 K, .int .u8 F, .int .i64 S], v, u, .int .i64 0]) ∧ OwnB w' w.heap.size 5 v ((xs.drop 9).take L) ∧ OwnB w' w.heap.size 5 u (xs.drop (9 + L)) ∧ Below w.heap.size w w' := by
  have HA := Lib.hid hA
  have HL0 := Lib.hid hL0
  have HK0 := Lib.hid hK0
  have HF0 := Lib.hid hF0
  have HS0 := Lib.hid hS0
  clear hA hL0 hK0 hF0 hS0
  have HT := Lib.hid ((HA.out.cut h9 hnc).take (k := L) (by omega))
  have HR := Lib.hid (HA.out.cut (k := 9 + L) hs hnc)
  obtain ⟨A1, hA1⟩ : ∃ A1, (if c = 9 then some (⟨b, o, none⟩ : Addr) else some ⟨b, o + 9, none⟩) = A1 := ⟨_, rfl⟩
  obtain ⟨A2, hA2⟩ : ∃ A2, (if c = 9 + L then some (⟨b, o, none⟩ : Addr) else some ⟨b, o + (9 + L), none⟩) = A2 := ⟨_, rfl⟩
  have hN1 : A1 = none → c - 9 = 0 := fun h => if_some_ne (hA1.trans h)
  have hN2 : A2 = none → c - (9 + L) = 0 := fun h => if_some_ne (hA2.trans h)
  have HN1 := Lib.hid hN1
  have HN2 := Lib.hid hN2
  clear hN1 hN2
  rw [hA1] at HT
  rw [hA2] at HR
  have hl : L < 16777216 := by rw [← HL0.out]; exact hL_lt xs
  have d1 : decide ((n : Int) - 9 < (L : Int)) = false := by simp; omega
  go_enter Try.func13, Try.ntmps13
  go_wp2
  refine wp_scope_forward 0 rfl ?_
  go_wp2_with (go_at_call 23; refine (read_any _ B _ _ xs _ (HA.out.alloc hB _) h9 hn hnc ?_).mono ?_; (simp; omega); rintro e w1 ⟨rfl, hb1⟩; rw [HL0.out, HK0.out, HF0.out, HS0.out]; obtain ⟨hcc, hff⟩ := bcell hb1)
  have hF4 : Four w1 w.heap.size (.int .i64 0) (.int .u8 0) (.int .u8 0) (.int .i64 0) := (Four.new w 23 _ _ _ _).below hb1 (by simp)
  have hbel := set4_below (((Below.refl _ w).alloc (Nat.le_refl _) _).trans (hb1.mono (by simp))) (Nat.le_refl _) (.int .i64 L) (.int .u8 K) (.int .u8 F) (.int .i64 S)
  have hfs := hF4.set (.int .i64 L) (.int .u8 K) (.int .u8 F) (.int .i64 S)
  have hsz : w.heap.size < (set4 w1 w.heap.size (.int .i64 L) (.int .u8 K) (.int .u8 F) (.int .i64 S)).heap.size := by
    rw [set4_size]; have := hb1.size; simp at this; omega
  have hfr : ∀ j, (set4 w1 w.heap.size (.int .i64 L) (.int .u8 K) (.int .u8 F) (.int .i64 S)).frozen? ⟨w.heap.size, j, none⟩ = false := fun j => by
    simp [set4, World.frozen?_setCell, hff]
  change Code.wp _ _ _ _ (set4 w1 w.heap.size _ _ _ _)
  generalize hW2 : set4 w1 w.heap.size _ _ _ _ = W at *
  clear hcc hff hW2 hF4 hb1
  have HFS := Lib.hid hfs
  have HFR := Lib.hid hfr
  clear hfs hfr
  have HT2 := Lib.hid (HT.out.below (hbel.mono hB))
  have HR2 := Lib.hid (HR.out.below (hbel.mono hB))
  have hBW : B ≤ W.drew.heap.size := Nat.le_trans hB hbel.size
  have s1 : IntKind.i64.wrap (9 + (L : Int)) = 9 + (L : Int) := IntWalk.i64_in _ (by omega)
  have s2 : 0 ≤ 9 + (L : Int) := by omega
  have s3 : (9 + (L : Int)).toNat = 9 + L := by omega
  have s4 : 9 ≤ 9 + (L : Int) := by omega
  have s5 : 9 + (L : Int) ≤ (c : Int) := by omega
  have s6 : 9 + (L : Int) ≤ (n : Int) := by omega
  have s9 : (9 : Int) ≤ (n : Int) := by omega
  have s10 : (9 : Int) ≤ (c : Int) := by omega
  go_region_held3 (fun W' => W'.cell? ⟨w.heap.size, 0, none⟩ = some (.int .i64 L) ∧ W'.cell? ⟨w.heap.size, 1, none⟩ = some (.int .u8 K) ∧ W'.cell? ⟨w.heap.size, 2, none⟩ = some (.int .u8 F) ∧ W'.cell? ⟨w.heap.size, 3, none⟩ = some (.int .i64 S))
    (first | exact HFS.out | exact HF2.out | exact HF3.out | exact HF3.out.set _ _ _ _)
    (first
    | (go_at_call 24; (with_reducible refine (own_any A1 B L _ _ _ HT2.out.drew HN1.out ?_).mono ?_); omega; rintro e w2 ⟨v2, rfl, hown2, hb2⟩; have HO2 := Lib.hid hown2; clear hown2; have HF2 := Lib.hid (Four.below (g := w.heap.size) HFS.out.drew hb2 hsz); have hsz2 := hb2.size; have HR3 := Lib.hid (HR2.out.drew.below (hb2.mono hBW)))
    | (go_at_call 24; (with_reducible refine (own_any A2 B (n - (9 + L)) _ _ _ HR3.out HN2.out ?_).mono ?_); omega; rintro e w3 ⟨v3, rfl, hown3, hb3⟩; have HO3 := Lib.hid hown3; clear hown3; have HF3 := Lib.hid (Four.below (g := w.heap.size) HF2.out hb3 (Nat.lt_of_lt_of_le hsz hsz2)); have hb23 := hb2.trans (hb3.mono hb2.size); have hfr3 : ∀ j, w3.frozen? ⟨w.heap.size, j, none⟩ = false := fun j => ((bcell hb23).2 _ j hsz).trans (HFR.out j); obtain ⟨p0, p1, p2, p3⟩ := HF3.out))
  go_wp2
  rw [jump_ret]
  have hF3' : Four w3 w.heap.size (.int .i64 L) (.int .u8 K) (.int .u8 F) (.int .i64 S) := HF3.out
  have hz23 := hb23.size
  have hbel2 := set4_below (hbel.drew.trans (hb23.mono (Nat.le_of_lt hsz))) (Nat.le_refl _) (.int .i64 L) (.int .u8 K) (.int .u8 F) (.int .i64 S)
  have hg : ∀ k, w.heap.size + 1 ≤ k → (set4 w3 w.heap.size (.int .i64 L) (.int .u8 K) (.int .u8 F) (.int .i64 S)).heap[k]? = w3.heap[k]? := fun k hk => set4_heap _ _ _ _ _ _ _ (by omega)
  have hv2 := (((HO2.out.kept hb3).less (B' := w.heap.size + 1) hsz).above hg).less (B' := w.heap.size) (by omega)
  have hv3 := ((HO3.out.less (B' := w.heap.size + 1) (by have := hb2.size; simp at this; omega)).above hg).less (B' := w.heap.size) (by omega)
  obtain ⟨f0, f1, f2, f3⟩ := hF3'.set (.int .i64 L) (.int .u8 K) (.int .u8 F) (.int .i64 S)
  unfold set4 at f0 f1 f2 f3
  refine bodyPost_ret (v := .tuple #[.agg #[.int .i64 L, .int .u8 K, .int .u8 F, .int .i64 S], v2, v3, .int .i64 0]) (by simp [results, Try.results13, go_sem, f0, f1, f2, f3]) rfl ⟨v2, v3, rfl, hv2, hv3, hbel2⟩
theorem whole_yes (A : Option Addr) (B n c : Nat) (xs : List UInt8) (w : World) (hA : Bs w B A n xs) (h9 : 9 ≤ n) (hn : n ≤ 1000000) (hnc : n ≤ c) (hB : B ≤ w.heap.size) (hs : 9 + hL xs ≤ n) :
    Calls Try.prog 13 #[.slice A n c] w fun e w' => ∃ v u, e = .returned (.tuple #[.agg #[.int .i64 (hL xs), .int .u8 (hK xs), .int .u8 (hF xs), .int .i64 (hS xs)], v, u, .int .i64 0]) ∧ OwnB w' w.heap.size 5 v ((xs.drop 9).take (hL xs)) ∧ OwnB w' w.heap.size 5 u (xs.drop (9 + hL xs)) ∧ Below w.heap.size w w' := by
  obtain ⟨b, o, rfl, hb, hc⟩ := hA.2 (by omega)
  exact whole_yes0 b o B n c _ _ _ _ xs w rfl rfl rfl rfl hA h9 hn hnc hB hs
namespace Oct
/-- The four numbers of the head that the first nine bytes tell, if there are nine; else noughts. -/
def tL (xs : List UInt8) (n : Nat) : Nat := if 9 ≤ n then hL xs else 0
def tK (xs : List UInt8) (n : Nat) : Nat := if 9 ≤ n then hK xs else 0
def tF (xs : List UInt8) (n : Nat) : Nat := if 9 ≤ n then hF xs else 0
def tS (xs : List UInt8) (n : Nat) : Nat := if 9 ≤ n then hS xs else 0
def tE (n : Nat) : Int := if 9 ≤ n then 0 else 10
def WholeIn (xs : List UInt8) (n : Nat) : Prop := 9 ≤ n ∧ 9 + hL xs ≤ n
instance (xs : List UInt8) (n : Nat) : Decidable (WholeIn xs n) := by unfold WholeIn; infer_instance
def wE (xs : List UInt8) (n : Nat) : Int := if WholeIn xs n then 0 else 10
def wP (xs : List UInt8) (n : Nat) : List UInt8 := if WholeIn xs n then (xs.drop 9).take (hL xs) else []
def wR (xs : List UInt8) (n : Nat) : List UInt8 := if WholeIn xs n then xs.drop (9 + hL xs) else []
end Oct
def headV (xs : List UInt8) (n : Nat) : Value := .agg #[.int .i64 (tL xs n), .int .u8 (tK xs n), .int .u8 (tF xs n), .int .i64 (tS xs n)]
theorem headV_yes {xs : List UInt8} {n : Nat} (h : 9 ≤ n) : headV xs n = .agg #[.int .i64 (hL xs), .int .u8 (hK xs), .int .u8 (hF xs), .int .i64 (hS xs)] := by
  unfold headV tL tK tF tS; simp only [if_pos h]
theorem headV_no {xs : List UInt8} {n : Nat} (h : ¬ 9 ≤ n) : headV xs n = .agg #[.int .i64 0, .int .u8 0, .int .u8 0, .int .i64 0] := by
  unfold headV tL tK tF tS; simp only [if_neg h]; rfl
theorem htake_tot (A : Option Addr) (B n c : Nat) (xs : List UInt8) (w : World) (hA : Bs w B A n xs) (hAc : A = none → c = 0) (hn : n ≤ 1000000) (hnc : n ≤ c) (hB : B ≤ w.heap.size) :
    Calls Try.prog 10 #[.slice A n c] w fun e w' => ∃ v, e = .returned (.tuple #[.agg #[.int .i64 (tL xs n), .int .u8 (tK xs n), .int .u8 (tF xs n), .int .i64 (tS xs n)], v, .int .i64 (tE n)]) ∧ OwnB w' w.heap.size 5 v (xs.drop 9) ∧ Below w.heap.size w w' := by
  by_cases h : 9 ≤ n
  · refine (htake_yes A B n c xs w hA hAc h hn hnc hB).mono ?_
    rintro e w' ⟨v, rfl, ho, hb⟩
    exact ⟨v, by unfold tL tK tF tS tE; simp only [if_pos h], ho, hb⟩
  · refine (htake_no A n c w (by omega)).mono ?_
    rintro e w' ⟨rfl, hb⟩
    have h1 : xs.drop 9 = [] := List.drop_eq_nil_of_le (by rw [hA.1]; omega)
    exact ⟨_, by unfold tL tK tF tS tE; simp only [if_neg h]; rfl, by rw [h1]; exact OwnB.nil_ _ _ _, hb⟩
theorem whole_tot (A : Option Addr) (B n c : Nat) (xs : List UInt8) (w : World) (hA : Bs w B A n xs) (hn : n ≤ 1000000) (hnc : n ≤ c) (hB : B ≤ w.heap.size) :
    Calls Try.prog 13 #[.slice A n c] w fun e w' => ∃ v u, e = .returned (.tuple #[.agg #[.int .i64 (tL xs n), .int .u8 (tK xs n), .int .u8 (tF xs n), .int .i64 (tS xs n)], v, u, .int .i64 (wE xs n)]) ∧ OwnB w' w.heap.size 5 v (wP xs n) ∧ OwnB w' w.heap.size 5 u (wR xs n) ∧ Below w.heap.size w w' := by
  by_cases h : 9 ≤ n
  · by_cases h2 : 9 + hL xs ≤ n
    · have hw : WholeIn xs n := ⟨h, h2⟩
      refine (whole_yes A B n c xs w hA h hn hnc hB h2).mono ?_
      rintro e w' ⟨v, u, rfl, ho, hu, hb⟩
      exact ⟨v, u, by unfold tL tK tF tS wE; simp only [if_pos h, if_pos hw], by unfold wP; rw [if_pos hw]; exact ho, by unfold wR; rw [if_pos hw]; exact hu, hb⟩
    · have hw : ¬ WholeIn xs n := fun h' => h2 h'.2
      refine (whole_short A B n c xs w hA h hn hnc hB (by omega)).mono ?_
      rintro e w' ⟨rfl, hb⟩
      exact ⟨.slice none 0 0, .slice none 0 0, by unfold tL tK tF tS wE; simp only [if_pos h, if_neg hw], by unfold wP; rw [if_neg hw]; exact OwnB.nil_ _ _ _, by unfold wR; rw [if_neg hw]; exact OwnB.nil_ _ _ _, hb⟩
  · have hw : ¬ WholeIn xs n := fun h' => h h'.1
    refine (whole_few A n c w (by omega)).mono ?_
    rintro e w' ⟨rfl, hb⟩
    exact ⟨.slice none 0 0, .slice none 0 0, by unfold tL tK tF tS wE; simp only [if_neg h, if_neg hw]; rfl, by unfold wP; rw [if_neg hw]; exact OwnB.nil_ _ _ _, by unfold wR; rw [if_neg hw]; exact OwnB.nil_ _ _ _, hb⟩
end Go.Proofs.Ytodghbfgfdbaiaa
