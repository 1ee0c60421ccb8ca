import Derived.Test.YtgkbjopgmbdnoaaMg
import Derived.Test.YtgkbjopgmbdnoaaOcRPut
import Derived.Test.YtgkbjopgmbdnoaaGApp
import Derived.Test.YtgkbjopgmbdnoaaGOwn
import Derived.Test.YtgkbjopgmbdnoaaOcRTake
import Derived.Deep.RegionHeld3
import Derived.BigRegion
import Derived.Test.YtgkbjopgmbdnoaaMi
import Derived.Test.YtgkbjopgmbdnoaaMf
import Derived.Test.YtgkbjopgmbdnoaaMh
/- The document's own answers of layer 2: Put, Take, Whole. -/
namespace Go.Proofs.Ytgkbjopgmbdnoaa
open Go.RowKit Oct

theorem rput3 (L : Nat) (w : World) (h : L < 16777216) :
    Calls Try.prog 41 #[.int .i64 L, .int .i64 3] w fun e w' => ∃ v, e = .returned (.tuple #[v, .int .i64 0]) ∧ OwnB w' w.heap.size 5 v (putB L 3) ∧ Below w.heap.size w w' :=
  rput_ok L 3 w (by omega) (by omega) (by omega) (by have e : (256 : Int) ^ (3 : Int).toNat = 16777216 := by decide
                                                     rw [e]; omega)
theorem rput4 (L : Nat) (w : World) (h : L < 2147483648) :
    Calls Try.prog 41 #[.int .i64 L, .int .i64 4] w fun e w' => ∃ v, e = .returned (.tuple #[v, .int .i64 0]) ∧ OwnB w' w.heap.size 5 v (putB L 4) ∧ Below w.heap.size w w' :=
  rput_ok L 4 w (by omega) (by omega) (by omega) (by have e : (256 : Int) ^ (4 : Int).toNat = 4294967296 := by decide
                                                     rw [e]; omega)
theorem headB_yes {L S : Int} (h : HeadIn L S) : headB L S = true := decide_eq_true h
theorem headB_no {L S : Int} (h : ¬ HeadIn L S) : headB L S = false := decide_eq_false h
theorem rhput_no (L K F S : Int) (w : World) (h : ¬ HeadIn L S) :
    Calls Try.prog 27 #[.agg #[.int .i64 L, .int .u8 K, .int .u8 F, .int .i64 S]] w fun e w' => e = .returned (.tuple #[.slice none 0 0, .int .i64 2]) ∧ Below w.heap.size w w' := by
  have hh := headB_no h
  go_enter Try.func27, Try.ntmps27
  go_wp2_with (go_at_call 17; refine (rright_any _ _ _ _ _).mono ?_; rintro e w1 ⟨rfl, hb1⟩; rw [hh])
  go_ret2
  exact ⟨rfl, ((Below.refl _ _).alloc (Nat.le_refl _) _).trans (hb1.mono (by simp))⟩
set_option maxRecDepth 100000 in
set_option maxHeartbeats 1000000 in
theorem rhput_yes (L S : Nat) (K F : UInt8) (w : World) (hL : L < 16777216) (hS : S < 2147483648) :
    Calls Try.prog 27 #[.agg #[.int .i64 L, .int .u8 (K.toNat : Int), .int .u8 (F.toNat : Int), .int .i64 S]] w fun e w' => ∃ v, e = .returned (.tuple #[v, .int .i64 0]) ∧ OwnB w' w.heap.size 5 v (hdBytes L K F S) ∧ Below w.heap.size w w' := by
  have hh := headB_yes (L := L) (S := S) ⟨by omega, by omega, by omega, by omega⟩
  obtain ⟨i0, hi, hz0, hz1, hz2⟩ := info_parts info_u8
  have hinf := Lib.hid (And.intro hi (And.intro hz0 (And.intro hz1 hz2)))
  clear hi hz0 hz1 hz2
  have HC0 := Lib.hid (Four.new w 35 (.int .i64 L) (.int .u8 (K.toNat : Int)) (.int .u8 (F.toNat : Int)) (.int .i64 S))
  have hB0 : Below w.heap.size w (w.alloc (.cells #[.int .i64 L, .int .u8 (K.toNat : Int), .int .u8 (F.toNat : Int), .int .i64 S] 35)) := (Below.refl _ _).alloc (Nat.le_refl _) _
  go_enter Try.func27, Try.ntmps27
  go_wp2_with (first
    | (go_at_call 17; refine (rright_any _ _ _ _ _).mono ?_; rintro e w1 ⟨rfl, hb1⟩; rw [hh]; have hz1 := hb1.size; rw [World.size_alloc] at hz1; have hF1 := HC0.out.below hb1 (by rw [World.size_alloc]; omega); have HC1 := Lib.hid hF1; obtain ⟨c0, c1, c2, c3⟩ := hF1; clear HC0)
    | (go_at_call 41; (with_reducible refine (rput3 L _ hL).mono ?_); rintro e w2 ⟨v2, rfl, ho2, hb2⟩; obtain ⟨A2, k2, rfl, hk2, hn2, hr2⟩ := ho2.form2 (putB_length _ _); have HO2 := Lib.hid ho2; clear ho2 hr2; have hz2 := hb2.size; have hF2 := HC1.out.below hb2 (by omega); have HC2 := Lib.hid hF2; obtain ⟨d0, d1, d2, d3⟩ := hF2; clear HC1)
    | (go_at_call 41; (with_reducible refine (rput4 S _ hS).mono ?_); rintro e w3 ⟨v3, rfl, ho3, hb3⟩; obtain ⟨A3, k3, rfl, hk3, hn3, hr3⟩ := ho3.form2 (putB_length _ _); have HN3 := Lib.hid hn3; have HR3 := Lib.hid hr3; have HO3 := Lib.hid ho3; clear ho3 hr3; have hz3 := hb3.size; have hF3 := HC2.out.below hb3 (by omega); have HC3 := Lib.hid hF3; obtain ⟨e0, e1, e2, e3⟩ := hF3; clear HC2; have HP2 := Lib.hid (HO2.out.kept hb3))
    | (at_builtin; refine wpList_append_at _ rfl (.tmp 23) (.tmp 28) 22 rfl w1.heap.size 5 i0 Try.underlying22 hinf.out.1 hinf.out.2.1 hinf.out.2.2.1 hinf.out.2.2.2 _ (putB L 3) rfl (HP2.out.alloc _) _ _ 2 2 [K, F] rfl (bs_lit _ _ [K, F] _ _ rfl (by simp [bv])) (fun h => by cases h) (by rw [putB_length]; omega) (by simp; omega) ?_; intro v4 w4 hown4 hb4 hg4; have HO4 := Lib.hid hown4; clear hown4; have HG4 := Lib.hid hg4; clear hg4; have HR4 := Lib.hid (Bs.grown (HR3.out.alloc (Nat.le_refl _) _) HG4.out (by simp) (fun b o e e2 => by have h1 := HO2.out.block e2; have h2 := HO3.out.addr e; omega)))
    | (at_builtin; refine wpList_append_at _ rfl (.tmp 29) (.tmp 30) 22 rfl w1.heap.size 5 i0 Try.underlying22 hinf.out.1 hinf.out.2.1 hinf.out.2.2.1 hinf.out.2.2.2 _ (putB L 3 ++ [K, F]) rfl HO4.out _ A3 4 k3 (putB S 4) rfl HR4.out HN3.out (by simp [putB_length]) (Nat.le_trans (Nat.le_trans hz2 hz3) (Nat.le_trans (by simp) hb4.size)) ?_; intro v5 w5 hown5 hb5 hg5; clear hg5))
  go_ret2
  have hsz3 : w1.heap.size ≤ w3.heap.size := Nat.le_trans hz2 hz3
  have hbx : Below w1.heap.size w1 w3 := hb2.trans (hb3.mono hz2)
  have hby : Below w1.heap.size w1 w5 := (hbx.alloc hsz3 _).trans (hb4.trans hb5)
  refine ⟨_, rfl, ?_, hB0.trans ((hb1.mono (by simp)).trans (hby.mono (by omega)))⟩
  have h := hown5.less (B' := w.heap.size) (by omega)
  rwa [List.append_assoc] at h
theorem rhput_tot (L S : Int) (K F : UInt8) (w : World) :
    Calls Try.prog 27 #[.agg #[.int .i64 L, .int .u8 (K.toNat : Int), .int .u8 (F.toNat : Int), .int .i64 S]] w fun e w' => ∃ v, e = .returned (.tuple #[v, .int .i64 (hpE L S)]) ∧ OwnB w' w.heap.size 5 v (hpV L K F S) ∧ Below w.heap.size w w' := by
  unfold hpE hpV
  by_cases h : HeadIn L S
  · simp only [if_pos h]
    obtain ⟨h1, h2, h3, h4⟩ := h
    obtain ⟨L, rfl⟩ := Int.eq_ofNat_of_zero_le h1
    obtain ⟨S, rfl⟩ := Int.eq_ofNat_of_zero_le h3
    exact rhput_yes L S K F w (by omega) (by omega)
  · simp only [if_neg h]
    refine (rhput_no _ _ _ _ w h).mono ?_
    rintro e w' ⟨rfl, hb⟩
    exact ⟨_, rfl, OwnB.nil_ _ _ _, hb⟩
end Go.Proofs.Ytgkbjopgmbdnoaa
/- The document's own answers of layer 2: Take, Whole. -/
namespace Go.Proofs.Ytgkbjopgmbdnoaa
open Go.RowKit Oct

theorem four_box2 {w w5 : World} {u0 u1 u2 u3 : Value} {t s : TypeId} (hb : Below (w.heap.size + 1) ((w.alloc (.cells #[u0, u1, u2, u3] t)).alloc (.cells #[] s)).drew w5) :
    Four w5 w.heap.size u0 u1 u2 u3 ∧ ∀ j, w5.frozen? ⟨w.heap.size, j, none⟩ = false := by
  refine ⟨((Four.new w t u0 u1 u2 u3).below (B := w.heap.size + 1) ((Below.refl _ _).alloc (by simp) _) (by omega)).drew.below hb (by omega), fun j => ?_⟩
  rw [(bcell hb).2 _ j (by omega)]
  show ((w.alloc (.cells #[u0, u1, u2, u3] t)).alloc (.cells #[] s)).frozen? _ = false
  simp [go_sem]
theorem cell_old {w w5 : World} {o1 o2 : Obj} {b i : Nat} {u : Value} (hb : Below (w.heap.size + 1) ((w.alloc o1).alloc o2).drew w5) (hl : b < w.heap.size) (h : w.cell? ⟨b, i, none⟩ = some u) : w5.cell? ⟨b, i, none⟩ = some u := by
  rw [(bcell hb).1 _ i (by omega)]
  show ((w.alloc o1).alloc o2).cell? _ = _
  rw [World.cell?_alloc_lt _ _ _ (by simp; omega), World.cell?_alloc_lt _ _ _ (by simpa using hl)]
  exact h
theorem cell_set4 {w : World} {g b i : Nat} {u0 u1 u2 u3 u : Value} (hne : b ≠ g) (h : w.cell? ⟨b, i, none⟩ = some u) : (set4 w g u0 u1 u2 u3).cell? ⟨b, i, none⟩ = some u :=
  (World.cell?_of_block (a := ⟨b, i, none⟩) (set4_heap w g u0 u1 u2 u3 b hne)).trans h
theorem cell_ald {w : World} {o1 : Obj} {b i : Nat} {u : Value} (hl : b < w.heap.size) (h : w.cell? ⟨b, i, none⟩ = some u) : (w.alloc o1).drew.cell? ⟨b, i, none⟩ = some u := cell_al hl h
theorem cell_al2 {w : World} {o1 o2 : Obj} {b i : Nat} {u : Value} (hl : b < w.heap.size) (h : w.cell? ⟨b, i, none⟩ = some u) : ((w.alloc o1).alloc o2).cell? ⟨b, i, none⟩ = some u :=
  cell_al (by simp; omega) (cell_al hl h)
theorem cell_al2d {w : World} {o1 o2 : Obj} {b i : Nat} {u : Value} (hl : b < w.heap.size) (h : w.cell? ⟨b, i, none⟩ = some u) : ((w.alloc o1).alloc o2).drew.cell? ⟨b, i, none⟩ = some u := cell_al2 hl h
theorem cell_st4 {w : World} {g b i : Nat} {u0 u1 u2 u3 u : Value} (hne : b ≠ g) (h : w.cell? ⟨b, i, none⟩ = some u) :
    ((((w.setCell ⟨g, 0, none⟩ u0).setCell ⟨g, 1, none⟩ u1).setCell ⟨g, 2, none⟩ u2).setCell ⟨g, 3, none⟩ u3).cell? ⟨b, i, none⟩ = some u := cell_set4 hne h
theorem rtake3 (A : Option Addr) (B n c : Nat) (xs : List UInt8) (w : World) (hA : Bs w B A n xs) (h9 : 9 ≤ n) (hn : n ≤ 1000000) :
    Calls Try.prog 53 #[.slice A n c, .int .i64 0, .int .i64 3] w fun e w' => e = .returned (.tuple #[.int .i64 (hL xs), .int .i64 0]) ∧ w = w' :=
  rtake_ok A B n c xs 0 3 w hA (by omega) (by omega) (by omega) (by omega) hn
theorem rstream5 (A : Option Addr) (B n c : Nat) (xs : List UInt8) (w : World) (hA : Bs w B A n xs) (h9 : 9 ≤ n) (hn : n ≤ 1000000) :
    Calls Try.prog 54 #[.slice A n c, .int .i64 5] w fun e w' => e = .returned (.tuple #[.int .i64 (hS xs), .int .i64 0]) ∧ w = w' :=
  rstream_ok A B n c xs 5 w hA (by omega) (by omega) hn
theorem rhtake_no (A : Option Addr) (n c : Nat) (w : World) (h9 : n < 9) :
    Calls Try.prog 29 #[.slice A n c] w fun e w' => e = .returned (.tuple #[.agg #[.int .i64 0, .int .u8 0, .int .u8 0, .int .i64 0], .slice none 0 0, .int .i64 10]) ∧ Below w.heap.size w w' := by
  go_enter Try.func29, Try.ntmps29
  go_wp2
  refine bodyPost_ret (v := .tuple #[.agg #[.int .i64 0, .int .u8 0, .int .u8 0, .int .i64 0], .slice none 0 0, .int .i64 10]) (by simp [results, Try.results29, go_sem]) rfl ⟨rfl, ?_⟩
  exact (Below.refl _ _).alloc (Nat.le_refl _) _
set_option maxHeartbeats 1000000 in
theorem rhtake_yes0 (b o B n c L K F S : Nat) (xs : List UInt8) (w : World) (hL0 : hL xs = L) (hK0 : hK xs = K) (hF0 : hF xs = F) (hS0 : hS xs = S) (hA : Bs w B (some ⟨b, o, none⟩) n xs) (h9 : 9 ≤ n) (hn : n ≤ 1000000) (hnc : n ≤ c) (hB : B ≤ w.heap.size) :
    Calls Try.prog 29 #[.slice (some ⟨b, o, none⟩) n c] w fun e w' => ∃ v, e = .returned (.tuple #[.agg #[.int .i64 L, .int .u8 K, .int .u8 F, .int .i64 S], v, .int .i64 0]) ∧ v ≠ .slice none 0 0 ∧ OwnB w' w.heap.size 5 v (xs.drop 9) ∧ Below w.heap.size w w' := by
  obtain ⟨b', o', e, hb, hc⟩ := hA.2 (by omega)
  cases e
  have h3 := hc 3 (by omega)
  have h4 := hc 4 (by omega)
  have HK0 : Hid (((xs[3]?.getD 0).toNat : Int) = K) := Lib.hid (by rw [← hK0]; rfl)
  have HF0 : Hid (((xs[4]?.getD 0).toNat : Int) = F) := Lib.hid (by rw [← hF0]; rfl)
  rw [HK0.out] at h3
  rw [HF0.out] at h4
  have HA := Lib.hid hA
  have HL0 := Lib.hid hL0
  have HS0 := Lib.hid hS0
  clear hA hL0 hK0 hF0 hS0 hc HK0 HF0
  have hbl : b < w.heap.size := by omega
  have hbl1 : b < w.heap.size + 1 := by omega
  have HR := Lib.hid (HA.out.cut (k := 9) h9 hnc)
  obtain ⟨A1, hA1⟩ : ∃ A1, (if c = 9 then some (⟨b, o, none⟩ : Addr) else some ⟨b, o + 9, none⟩) = A1 := ⟨_, rfl⟩
  have hN1 : A1 = none → c - 9 = 0 := fun h => if_some_ne (hA1.trans h)
  have HN1 := Lib.hid hN1
  clear hN1
  rw [hA1] at HR
  obtain ⟨i0, hi, hz0, hz1, hz2⟩ := info_parts info_u8
  have hinf := Lib.hid (And.intro hi (And.intro hz0 (And.intro hz1 hz2)))
  clear hi hz0 hz1 hz2
  have g9 : (9 : Int) ≤ (n : Int) := by omega
  have q3 : (3 : Int) < (n : Int) := by omega
  have q4 : (4 : Int) < (n : Int) := by omega
  have r3 : 3 < n := by omega
  have r4 : 4 < n := by omega
  have g9c : (9 : Int) ≤ (c : Int) := by omega
  go_enter Try.func29, Try.ntmps29
  go_wp2_with (first
    | (go_at_call 53; refine (rtake3 _ B n c xs _ (HA.out.alloc hB _) h9 hn).mono ?_; rintro e w' ⟨rfl, rfl⟩; rw [HL0.out])
    | (go_at_call 54; refine (rstream5 _ B n c xs _ (HA.out.alloc hB _) h9 hn).mono ?_; rintro e w' ⟨rfl, rfl⟩; rw [HS0.out]))
  have hbne : b ≠ w.heap.size := by omega
  go_region_held3 (fun W' => W'.cell? ⟨b, o + 3, none⟩ = some (.int .u8 K) ∧ W'.cell? ⟨b, o + 4, none⟩ = some (.int .u8 F))
    (first | with_reducible exact HK5.out | (with_reducible refine ⟨cell_al hbl h3, cell_al hbl h4⟩) | (with_reducible refine ⟨cell_ald hbl h3, cell_ald hbl h4⟩) | (with_reducible refine ⟨cell_al2 hbl h3, cell_al2 hbl h4⟩) | (with_reducible refine ⟨cell_al2d hbl h3, cell_al2d hbl h4⟩) | (with_reducible refine ⟨cell_st4 hbne HK5.out.1, cell_st4 hbne HK5.out.2⟩))
    ((refine step_append_full _ (by rfl) (.tmp 32) (.tmp 34) 22 (by rfl) (w.heap.size + 1) 5 i0 Try.underlying22 hinf.out.1 hinf.out.2.1 hinf.out.2.2.1 hinf.out.2.2.2 _ [] (by rfl) ?c1 B A1 (n - 9) (c - 9) (xs.drop 9) (by rfl) ?c2 HN1.out ?c3 ?c4 ?_; (case c1 => exact OwnB.drew (OwnB.lit2 (w.alloc _) _ _ _ (by simp) (by simp))); (case c2 => exact ((HR.out.alloc hB _).alloc (by simp; omega) _).drew); (case c3 => simp; omega); (case c4 => simp); intro v5 w5 hown5 hb5 _ _ hne5; have HO5 := Lib.hid hown5; have HV5 := Lib.hid (hne5 (fun h => by cases h)); clear hown5 hne5; have HK5 := Lib.hid (And.intro (cell_old hb5 hbl h3) (cell_old hb5 hbl h4)); have hF5 := four_box2 hb5; have HF5 := Lib.hid hF5.1; obtain ⟨⟨p0, p1, p2, p3⟩, hfr5⟩ := hF5))
  go_wp2
  have hsz5 := hb5.size
  have hbel5 : Below w.heap.size w w5 := (((Below.refl _ w).alloc (Nat.le_refl _) _).alloc (by simp) _).drew.trans (hb5.mono (by omega))
  have hbel := set4_below hbel5 (Nat.le_refl _) (.int .i64 L) (.int .u8 K) (.int .u8 F) (.int .i64 S)
  have hown := (HO5.out.above (w' := set4 w5 w.heap.size (.int .i64 L) (.int .u8 K) (.int .u8 F) (.int .i64 S)) (fun k hk => set4_heap _ _ _ _ _ _ _ (by omega))).less (B' := w.heap.size) (by omega)
  rw [List.nil_append] at hown
  obtain ⟨f0, f1, f2, f3⟩ := HF5.out.set (.int .i64 L) (.int .u8 K) (.int .u8 F) (.int .i64 S)
  unfold set4 at f0 f1 f2 f3
  refine bodyPost_ret (v := .tuple #[.agg #[.int .i64 L, .int .u8 K, .int .u8 F, .int .i64 S], v5, .int .i64 0]) (by simp [results, Try.results29, go_sem, f0, f1, f2, f3]) rfl ⟨v5, rfl, HV5.out, hown, hbel⟩
theorem rhtake_tot (A : Option Addr) (B n c : Nat) (xs : List UInt8) (w : World) (hA : Bs w B A n xs) (hn : n ≤ 1000000) (hnc : n ≤ c) (hB : B ≤ w.heap.size) :
    Calls Try.prog 29 #[.slice A n c] w fun e w' => ∃ v, e = .returned (.tuple #[.agg #[.int .i64 (tL xs n), .int .u8 (tK xs n), .int .u8 (tF xs n), .int .i64 (tS xs n)], v, .int .i64 (tE n)]) ∧ OwnB w' w.heap.size 5 v (xs.drop 9) ∧ Below w.heap.size w w' := by
  by_cases h : 9 ≤ n
  · obtain ⟨b, o, rfl, _, _⟩ := hA.2 (by omega)
    refine (rhtake_yes0 b o B n c _ _ _ _ xs w rfl rfl rfl rfl hA h hn hnc hB).mono ?_
    rintro e w' ⟨v, rfl, _, ho, hb⟩
    exact ⟨v, by unfold tL tK tF tS tE; simp only [if_pos h], ho, hb⟩
  · refine (rhtake_no A n c w (by omega)).mono ?_
    rintro e w' ⟨rfl, hb⟩
    have h1 : xs.drop 9 = [] := List.drop_eq_nil_of_le (by rw [hA.1]; omega)
    exact ⟨.slice none 0 0, by unfold tL tK tF tS tE; simp only [if_neg h]; rfl, by rw [h1]; exact OwnB.nil_ _ _ _, hb⟩
end Go.Proofs.Ytgkbjopgmbdnoaa
/- Plain lists: a head's bytes, and what is told of them. -/
namespace Go.Proofs.Ytgkbjopgmbdnoaa
open Go.RowKit Oct

theorem putB_takeB (l : List UInt8) : putB (takeB l) l.length = l := by
  induction h : l.length generalizing l with
  | zero => have := List.eq_nil_of_length_eq_zero h; subst this; rfl
  | succ k ih =>
    obtain ⟨l', x, rfl⟩ : ∃ l' x, l = l' ++ [x] := ⟨l.dropLast, l.getLast (by intro e; subst e; simp at h), (List.dropLast_concat_getLast _).symm⟩
    have hl : l'.length = k := by simpa using h
    rw [takeB_snoc, putB]
    have e1 : (takeB l' * 256 + x.toNat) / 256 = takeB l' := by have := x.toNat_lt; omega
    have e2 : UInt8.ofNat (takeB l' * 256 + x.toNat) = x := by
      apply UInt8.toNat_inj.1
      have := x.toNat_lt
      simp
    rw [e1, e2, ih l' hl]
section
variable (L : Nat) (K F : UInt8) (S : Nat) (r : List UInt8)
theorem hd_take3 : (hdBytes L K F S ++ r).take 3 = putB L 3 := by
  unfold hdBytes
  rw [List.append_assoc, List.take_append_of_le_length (by simp [putB_length]), List.take_of_length_le (by simp [putB_length])]
theorem hL_hd (h : L < 16777216) : hL (hdBytes L K F S ++ r) = L := by
  unfold hL
  rw [hd_take3, takeB_putB]
  exact Nat.mod_eq_of_lt h
theorem hd_at3 : (hdBytes L K F S ++ r)[3]? = some K := by
  unfold hdBytes
  rw [List.append_assoc, List.getElem?_append_right (by simp [putB_length])]
  simp [putB_length]
theorem hd_at4 : (hdBytes L K F S ++ r)[4]? = some F := by
  unfold hdBytes
  rw [List.append_assoc, List.getElem?_append_right (by simp [putB_length])]
  simp [putB_length]
theorem hK_hd : hK (hdBytes L K F S ++ r) = K.toNat := by unfold hK; rw [hd_at3]; rfl
theorem hF_hd : hF (hdBytes L K F S ++ r) = F.toNat := by unfold hF; rw [hd_at4]; rfl
theorem hd_drop5 : ((hdBytes L K F S ++ r).drop 5).take 4 = putB S 4 := by
  have e : hdBytes L K F S ++ r = (putB L 3 ++ [K, F]) ++ (putB S 4 ++ r) := by simp [hdBytes]
  rw [e, List.drop_append_of_le_length (by simp [putB_length]), List.drop_eq_nil_of_le (by simp [putB_length]), List.nil_append, List.take_append_of_le_length (by simp [putB_length]), List.take_of_length_le (by simp [putB_length])]
theorem hS_hd (h : S < 2147483648) : hS (hdBytes L K F S ++ r) = S := by
  unfold hS
  rw [hd_drop5, takeB_putB]
  have : S % 256 ^ 4 = S := Nat.mod_eq_of_lt (by omega)
  rw [this]
  exact Nat.mod_eq_of_lt h
theorem hd_drop9 : (hdBytes L K F S ++ r).drop 9 = r := by
  have := hdBytes_length L K F S
  rw [← this, List.drop_left]
end
theorem takeB4_mod (a b c d : UInt8) : takeB [a, b, c, d] % 2147483648 = takeB [a &&& 127, b, c, d] := by
  have hm : (a &&& 127).toNat = a.toNat % 128 := by
    rw [UInt8.toNat_and]
    exact Nat.and_two_pow_sub_one_eq_mod a.toNat 7
  have h1 := a.toNat_lt
  have h2 := b.toNat_lt
  have h3 := c.toNat_lt
  have h4 := d.toNat_lt
  simp only [takeB, List.foldl_cons, List.foldl_nil, hm]
  omega
/-- What is taken has just those bytes, but for the one bit. -/
theorem hd_back (a0 a1 a2 a3 a4 a5 a6 a7 a8 : UInt8) (r : List UInt8) :
    hdBytes (hL (a0 :: a1 :: a2 :: a3 :: a4 :: a5 :: a6 :: a7 :: a8 :: r)) a3 a4 (hS (a0 :: a1 :: a2 :: a3 :: a4 :: a5 :: a6 :: a7 :: a8 :: r)) = [a0, a1, a2, a3, a4, a5 &&& 127, a6, a7, a8] := by
  have e1 : hL (a0 :: a1 :: a2 :: a3 :: a4 :: a5 :: a6 :: a7 :: a8 :: r) = takeB [a0, a1, a2] := rfl
  have e2 : hS (a0 :: a1 :: a2 :: a3 :: a4 :: a5 :: a6 :: a7 :: a8 :: r) = takeB [a5 &&& 127, a6, a7, a8] := takeB4_mod a5 a6 a7 a8
  have p1 : putB (takeB [a0, a1, a2]) 3 = [a0, a1, a2] := putB_takeB [a0, a1, a2]
  have p2 : putB (takeB [a5 &&& 127, a6, a7, a8]) 4 = [a5 &&& 127, a6, a7, a8] := putB_takeB [a5 &&& 127, a6, a7, a8]
  unfold hdBytes
  rw [e1, e2, p1, p2]
  rfl
theorem nine {xs : List UInt8} (h : 9 ≤ xs.length) : ∃ a0 a1 a2 a3 a4 a5 a6 a7 a8 r, xs = a0 :: a1 :: a2 :: a3 :: a4 :: a5 :: a6 :: a7 :: a8 :: r := by
  match xs, h with
  | a0 :: a1 :: a2 :: a3 :: a4 :: a5 :: a6 :: a7 :: a8 :: r, _ => exact ⟨a0, a1, a2, a3, a4, a5, a6, a7, a8, r, rfl⟩
end Go.Proofs.Ytgkbjopgmbdnoaa
/- The document's own Whole of layer 2. -/
namespace Go.Proofs.Ytgkbjopgmbdnoaa
open Go.RowKit Oct

theorem four_box1 {w w5 : World} {u0 u1 u2 u3 : Value} {t : TypeId} (hb : Below (w.alloc (.cells #[u0, u1, u2, u3] t)).heap.size (w.alloc (.cells #[u0, u1, u2, u3] t)) w5) :
    Four w5 w.heap.size u0 u1 u2 u3 ∧ ∀ j, w5.frozen? ⟨w.heap.size, j, none⟩ = false := by
  refine ⟨(Four.new w t u0 u1 u2 u3).below hb (by simp), fun j => ?_⟩
  rw [(bcell hb).2 _ j (by simp)]
  simp [go_sem]
theorem tE_yes {n : Nat} (h : 9 ≤ n) : tE n = 0 := if_pos h
theorem tE_no {n : Nat} (h : ¬ 9 ≤ n) : tE n = 10 := if_neg h
set_option maxRecDepth 100000 in
theorem rwhole_no (A : Option Addr) (B n c : Nat) (xs : List UInt8) (w : World) (hA : Bs w B A n xs) (hn : n ≤ 1000000) (hnc : n ≤ c) (hB : B ≤ w.heap.size) (h : ¬ WholeIn xs n) :
    Calls Try.prog 14 #[.slice A n c] w fun e w' => e = .returned (.tuple #[.agg #[.int .i64 (tL xs n), .int .u8 (tK xs n), .int .u8 (tF xs n), .int .i64 (tS xs n)], .slice none 0 0, .slice none 0 0, .int .i64 10]) ∧ Below w.heap.size w w' := by
  have HA := Lib.hid hA
  have hl : (xs.drop 9).length = n - 9 := by rw [List.length_drop, hA.1]
  have HT := Lib.hid (fun W (hW : Bs W B A n xs) (hBW : B ≤ W.heap.size) => rhtake_tot A B n c xs W hW hn hnc hBW)
  clear hA
  by_cases h9 : 9 ≤ n
  · have ht := tE_yes h9
    have hs : n < 9 + hL xs := by
      rcases Nat.lt_or_ge n (9 + hL xs) with h1 | h1
      · exact h1
      · exact absurd ⟨h9, h1⟩ h
    have hLx : tL xs n = hL xs := if_pos h9
    have HLX := Lib.hid hLx
    have hd : decide (n - 9 < tL xs n) = true := by rw [hLx]; simp; omega
    clear h hLx
    go_enter Try.func14, Try.ntmps14
    go_wp2_with (go_at_call 29; refine (HT.out _ (HA.out.alloc hB _) (by simp; omega)).mono ?_; rintro e w1 ⟨v1, rfl, ho1, hb1⟩; rw [ht]; obtain ⟨A1, k1, rfl, hk1, hn1, hr1⟩ := ho1.form2 hl; clear ho1 hn1 hr1; obtain ⟨⟨c0, c1, c2, c3⟩, hfr⟩ := four_box1 hb1; have hz1 := hb1.size; rw [World.size_alloc] at hz1; have hlt1 : w.heap.size < w1.heap.size := hz1; have hne1 : w.heap.size ≠ w1.heap.size := Nat.ne_of_lt hz1)
    have hF := (four_box1 hb1).1
    have hFs := hF.set (.int .i64 (tL xs n)) (.int .u8 (tK xs n)) (.int .u8 (tF xs n)) (.int .i64 (tS xs n))
    have hbs := set4_below (((Below.refl _ w).alloc (Nat.le_refl _) _).trans (hb1.mono (by simp))) (Nat.le_refl _) (.int .i64 (tL xs n)) (.int .u8 (tK xs n)) (.int .u8 (tF xs n)) (.int .i64 (tS xs n))
    obtain ⟨f0, f1, f2, f3⟩ := hFs.below ((Below.refl _ (set4 w1 w.heap.size (.int .i64 (tL xs n)) (.int .u8 (tK xs n)) (.int .u8 (tF xs n)) (.int .i64 (tS xs n)))).alloc (Nat.le_refl _) (.cells #[.int .i64 (tL xs n), .int .u8 (tK xs n), .int .u8 (tF xs n), .int .i64 (tS xs n)] 35)) (by rw [set4_size]; exact hz1)
    unfold set4 at f0 f1 f2 f3
    refine bodyPost_ret (v := .tuple #[.agg #[.int .i64 (tL xs n), .int .u8 (tK xs n), .int .u8 (tF xs n), .int .i64 (tS xs n)], .slice none 0 0, .slice none 0 0, .int .i64 10]) (by simp [results, Try.results14, go_sem, f0, f1, f2, f3]) rfl ⟨rfl, hbs.alloc (by rw [set4_size]; omega) _⟩
  · have ht := tE_no h9
    clear h
    go_enter Try.func14, Try.ntmps14
    go_wp2_with (go_at_call 29; refine (HT.out _ (HA.out.alloc hB _) (by simp; omega)).mono ?_; rintro e w1 ⟨v1, rfl, ho1, hb1⟩; rw [ht]; obtain ⟨A1, k1, rfl, hk1, hn1, hr1⟩ := ho1.form2 hl; clear ho1 hn1 hr1; obtain ⟨⟨c0, c1, c2, c3⟩, hfr⟩ := four_box1 hb1; have hz1 := hb1.size; rw [World.size_alloc] at hz1; have hlt1 : w.heap.size < w1.heap.size := hz1; have hne1 : w.heap.size ≠ w1.heap.size := Nat.ne_of_lt hz1)
    have hF := (four_box1 hb1).1
    have hFs := hF.set (.int .i64 (tL xs n)) (.int .u8 (tK xs n)) (.int .u8 (tF xs n)) (.int .i64 (tS xs n))
    have hbs := set4_below (((Below.refl _ w).alloc (Nat.le_refl _) _).trans (hb1.mono (by simp))) (Nat.le_refl _) (.int .i64 (tL xs n)) (.int .u8 (tK xs n)) (.int .u8 (tF xs n)) (.int .i64 (tS xs n))
    obtain ⟨f0, f1, f2, f3⟩ := hFs.below ((Below.refl _ (set4 w1 w.heap.size (.int .i64 (tL xs n)) (.int .u8 (tK xs n)) (.int .u8 (tF xs n)) (.int .i64 (tS xs n)))).alloc (Nat.le_refl _) (.cells #[.int .i64 (tL xs n), .int .u8 (tK xs n), .int .u8 (tF xs n), .int .i64 (tS xs n)] 35)) (by rw [set4_size]; exact hz1)
    unfold set4 at f0 f1 f2 f3
    refine bodyPost_ret (v := .tuple #[.agg #[.int .i64 (tL xs n), .int .u8 (tK xs n), .int .u8 (tF xs n), .int .i64 (tS xs n)], .slice none 0 0, .slice none 0 0, .int .i64 10]) (by simp [results, Try.results14, go_sem, f0, f1, f2, f3]) rfl ⟨rfl, hbs.alloc (by rw [set4_size]; omega) _⟩
theorem ownB_addr0 {W : World} {B : Nat} {t : TypeId} {a : Addr} {n c : Nat} {xs : List UInt8} (h : OwnB W B t (.slice (some a) n c) xs) : ∃ g, a = ⟨g, 0, none⟩ ∧ B ≤ g ∧ g < W.heap.size := by
  rcases h.2 with ⟨h2, _⟩ | ⟨g, cap, cur, e, hB, hh, rest⟩
  · cases h2
  · cases e
    exact ⟨g, rfl, hB, (Array.getElem?_eq_some_iff.1 hh).1⟩
section
variable {w : World} {g q : Nat} {u0 u1 u2 u3 v0 v1 v2 v3 : Value}
theorem fo (h : Four w g u0 u1 u2 u3) : w.cell? ⟨g, 0, none⟩ = some u0 ∧ w.cell? ⟨g, 1, none⟩ = some u1 ∧ w.cell? ⟨g, 2, none⟩ = some u2 ∧ w.cell? ⟨g, 3, none⟩ = some u3 := h
theorem fod (h : Four w g u0 u1 u2 u3) : w.drew.cell? ⟨g, 0, none⟩ = some u0 ∧ w.drew.cell? ⟨g, 1, none⟩ = some u1 ∧ w.drew.cell? ⟨g, 2, none⟩ = some u2 ∧ w.drew.cell? ⟨g, 3, none⟩ = some u3 := h
theorem Four.al (h : Four w g u0 u1 u2 u3) (hg : g < w.heap.size) (o : Obj) : Four (w.alloc o) g u0 u1 u2 u3 := h.below ((Below.refl _ w).alloc (Nat.le_refl _) o) hg
theorem Four.st (h : Four w q u0 u1 u2 u3) (hne : q ≠ g) : Four (set4 w g v0 v1 v2 v3) q u0 u1 u2 u3 := ⟨cell_set4 hne h.1, cell_set4 hne h.2.1, cell_set4 hne h.2.2.1, cell_set4 hne h.2.2.2⟩
theorem fost (h : Four w q u0 u1 u2 u3) (hne : q ≠ g) :
    ((((w.setCell ⟨g, 0, none⟩ v0).setCell ⟨g, 1, none⟩ v1).setCell ⟨g, 2, none⟩ v2).setCell ⟨g, 3, none⟩ v3).cell? ⟨q, 0, none⟩ = some u0 ∧
    ((((w.setCell ⟨g, 0, none⟩ v0).setCell ⟨g, 1, none⟩ v1).setCell ⟨g, 2, none⟩ v2).setCell ⟨g, 3, none⟩ v3).cell? ⟨q, 1, none⟩ = some u1 ∧
    ((((w.setCell ⟨g, 0, none⟩ v0).setCell ⟨g, 1, none⟩ v1).setCell ⟨g, 2, none⟩ v2).setCell ⟨g, 3, none⟩ v3).cell? ⟨q, 2, none⟩ = some u2 ∧
    ((((w.setCell ⟨g, 0, none⟩ v0).setCell ⟨g, 1, none⟩ v1).setCell ⟨g, 2, none⟩ v2).setCell ⟨g, 3, none⟩ v3).cell? ⟨q, 3, none⟩ = some u3 := h.st hne
end
theorem frozen_al {w : World} {g j : Nat} (h : w.frozen? ⟨g, j, none⟩ = false) (hg : g < w.heap.size) (o : Obj) : (w.alloc o).frozen? ⟨g, j, none⟩ = false := by
  rw [World.frozen?_alloc_old _ _ _ (by simp; omega)]; exact h
theorem two_below {w0 w5 w6 : World} {o o' : Obj} (h1 : Below w0.heap.size ((w0.alloc o).alloc o').drew w5) (h2 : Below w0.heap.size w5 w6) : Below w0.heap.size w0 w6 :=
  (((Below.refl _ w0).alloc (Nat.le_refl _) o).alloc (by simp) o').drew.trans (h1.trans h2)
theorem two_lit {w0 w5 : World} {o : Obj} {t : TypeId} (hg : ((w0.alloc o).alloc (.cells #[] t)).drew.grownBy w5 (some w0.heap.size)) : OwnB w5 w0.heap.size t (.slice (some ⟨w0.heap.size + 1, 0, none⟩) 0 0) [] := by
  have h := (OwnB.lit2 (w0.alloc o) t w0.heap.size (w0.heap.size + 1) (by simp) (by omega)).drew
  exact h.beside hg (fun k hk => by
    have : k = w0.heap.size + 1 := by simpa [Value.ownBlock] using hk.symm
    intro e; cases e; omega)
theorem own_ne {w5 : World} {B : Nat} {t : TypeId} {v : Value} {xs : List UInt8} (h : OwnB w5 B t v xs) : ∀ k, v.ownBlock = some k → some w5.heap.size ≠ some k := fun k hk e => by
  have := h.block hk
  cases e
  omega
theorem own_ne2 {w0 : World} {o o' : Obj} {v : Value} (h : v.ownBlock = (Value.slice (some ⟨w0.heap.size, 0, none⟩) 0 0).ownBlock ∨ v.ownBlock = some ((w0.alloc o).alloc o').drew.heap.size) : ∀ k, v.ownBlock = some k → some (w0.heap.size + 1) ≠ some k := fun k hk e => by
  cases e
  rcases h with h | h
  · rw [hk] at h; simp [Value.ownBlock] at h
  · rw [hk] at h; simp at h
theorem two_lit2 {w0 w5 : World} {o : Obj} {t : TypeId} (hg : ((w0.alloc (.cells #[] t)).alloc o).drew.grownBy w5 (some (w0.heap.size + 1))) : OwnB w5 w0.heap.size t (.slice (some ⟨w0.heap.size, 0, none⟩) 0 0) [] := by
  have h := ((OwnB.lit2 w0 t w0.heap.size w0.heap.size rfl (Nat.le_refl _)).alloc o).drew
  exact h.beside hg (fun k hk => by
    have : k = w0.heap.size := by simpa [Value.ownBlock] using hk.symm
    intro e; cases e; omega)
theorem own_ne3 {w0 : World} {o o' : Obj} {v : Value} (h : v.ownBlock = (Value.slice (some ⟨w0.heap.size + 1, 0, none⟩) 0 0).ownBlock ∨ v.ownBlock = some ((w0.alloc o).alloc o').drew.heap.size) : ∀ k, v.ownBlock = some k → some w0.heap.size ≠ some k := fun k hk e => by
  cases e
  rcases h with h | h
  · rw [hk] at h; simp [Value.ownBlock] at h
  · rw [hk] at h; simp at h; omega
theorem box_two {w1 w6 : World} {g : Nat} {u0 u1 u2 u3 : Value} (hg : g < w1.heap.size) (hF : Four w1 g u0 u1 u2 u3) (hfr : ∀ j, w1.frozen? ⟨g, j, none⟩ = false)
    (h1 : Below w1.heap.size w1 w6) : Four w6 g u0 u1 u2 u3 ∧ ∀ j, w6.frozen? ⟨g, j, none⟩ = false :=
  ⟨hF.below h1 hg, fun j => ((bcell h1).2 _ j hg).trans (hfr j)⟩
set_option maxRecDepth 100000 in
set_option maxHeartbeats 2000000 in
theorem rwhole_yes0 (A : Option Addr) (B n c L K F S : Nat) (xs : List UInt8) (w : World) (hL0 : hL xs = L) (hK0 : hK xs = K) (hF0 : hF xs = F) (hS0 : hS xs = S) (hA : Bs w B A n xs) (h9 : 9 ≤ n) (hn : n ≤ 1000000) (hnc : n ≤ c) (hB : B ≤ w.heap.size) (hs : 9 + L ≤ n) :
    Calls Try.prog 14 #[.slice A n c] w fun e w' => ∃ v u, e = .returned (.tuple #[.agg #[.int .i64 L, .int .u8 K, .int .u8 F, .int .i64 S], v, u, .int .i64 0]) ∧ OwnB w' w.heap.size 5 v ((xs.drop 9).take L) ∧ OwnB w' w.heap.size 5 u (xs.drop (9 + L)) ∧ Below w.heap.size w w' := by
  have HA := Lib.hid hA
  have hl : (xs.drop 9).length = n - 9 := by rw [List.length_drop, hA.1]
  have hxd : (xs.drop 9).drop L = xs.drop (9 + L) := by rw [List.drop_drop]
  have HT : Hid (∀ (W : World), Bs W B A n xs → B ≤ W.heap.size → Calls Try.prog 29 #[.slice A n c] W fun e w' => ∃ v, e = .returned (.tuple #[.agg #[.int .i64 L, .int .u8 K, .int .u8 F, .int .i64 S], v, .int .i64 0]) ∧ v ≠ .slice none 0 0 ∧ OwnB w' W.heap.size 5 v (xs.drop 9) ∧ Below W.heap.size W w') :=
    Lib.hid (fun W hW hBW => by
      obtain ⟨b, o, rfl, _, _⟩ := hW.2 (by omega)
      exact rhtake_yes0 b o B n c L K F S xs W hL0 hK0 hF0 hS0 hW h9 hn hnc hBW)
  generalize hys : xs.drop 9 = ys at *
  rw [← hxd]
  have HL := Lib.hid hl
  clear hA hL0 hK0 hF0 hS0 hys hl hxd
  have hd : decide (n - 9 < L) = false := by simp; omega
  obtain ⟨i0, hi, hz0, hz1, hz2⟩ := info_parts info_u8
  have hinf := Lib.hid (And.intro hi (And.intro hz0 (And.intro hz1 hz2)))
  clear hi hz0 hz1 hz2
  go_enter Try.func14, Try.ntmps14
  go_wp2_with (go_at_call 29; refine (HT.out _ (HA.out.alloc hB _) (by simp; omega)).mono ?_; rintro e w1 ⟨v1, rfl, hv1, ho1, hb1⟩; obtain ⟨A1, k1, rfl, hk1, hn1, hr1⟩ := ho1.form2 HL.out; have HV1 := Lib.hid hv1; clear hv1; have HO1 := Lib.hid ho1; have HR1 := Lib.hid hr1; have HN1 := Lib.hid hn1; clear ho1 hr1 hn1)
  have hz1 := hb1.size
  rw [World.size_alloc] at hz1
  obtain ⟨hF1, hfr1⟩ := four_box1 hb1
  have HF1 := Lib.hid hF1
  have HFR1 := Lib.hid hfr1
  have HQ0 := Lib.hid (Four.new w1 35 (.int .i64 L) (.int .u8 K) (.int .u8 F) (.int .i64 S))
  have HB1 := Lib.hid (((Below.refl _ w).alloc (Nat.le_refl _) _).trans (hb1.mono (by simp)))
  clear hF1 hfr1 hb1
  have HF0 := Lib.hid (HF1.out.al hz1 (.cells #[.int .i64 L, .int .u8 K, .int .u8 F, .int .i64 S] 35))
  have HFR0 : Hid (∀ j, _) := Lib.hid (fun j => frozen_al (HFR1.out j) hz1 (.cells #[.int .i64 L, .int .u8 K, .int .u8 F, .int .i64 S] 35))
  have HR0 := Lib.hid ((HR1.out.alloc (Nat.le_refl _) (.cells #[.int .i64 L, .int .u8 K, .int .u8 F, .int .i64 S] 35)))
  have hsz0 : (w1.alloc (.cells #[.int .i64 L, .int .u8 K, .int .u8 F, .int .i64 S] 35)).heap.size = w1.heap.size + 1 := by simp
  have HB0 := Lib.hid (HB1.out.alloc (by omega) (.cells #[.int .i64 L, .int .u8 K, .int .u8 F, .int .i64 S] 35))
  generalize hW0 : w1.alloc (.cells #[.int .i64 L, .int .u8 K, .int .u8 F, .int .i64 S] 35) = W0 at *
  have HSZ0 := Lib.hid hsz0
  have hqW : w1.heap.size < W0.heap.size := by omega
  have hgW : w.heap.size < W0.heap.size := by omega
  have hqW1 : w1.heap.size ≤ W0.heap.size := by omega
  have hqW2 : ∀ {o : Obj}, w1.heap.size ≤ (W0.alloc o).heap.size := by intro o; simp; omega
  have hqW2' : ∀ o : Obj, w1.heap.size < (W0.alloc o).heap.size := by intro o; simp; omega
  have hqg : w1.heap.size ≠ w.heap.size := by omega
  clear hsz0 hW0 HF1 HFR1 HR1 HB1
  rcases A1 with _ | a1
  · have hc : k1 = 0 := HN1.out rfl
    subst hc
    exact absurd (by have : n - 9 = 0 := by omega
                     rw [this]) HV1.out
  · have hln : L ≤ n - 9 := by omega
    have hlk : L ≤ k1 := by omega
    have HP := Lib.hid (HR0.out.take hln)
    obtain ⟨b1, rfl, _, _⟩ := ownB_addr0 HO1.out
    have hcut := HR0.out.cut hln hk1
    rw [Nat.zero_add] at hcut
    obtain ⟨A2, hA2⟩ : ∃ A2, (if k1 = L then some (⟨b1, 0, none⟩ : Addr) else some ⟨b1, L, none⟩) = A2 := ⟨_, rfl⟩
    rw [hA2] at hcut
    have HU := Lib.hid hcut
    have hN2 : A2 = none → k1 - L = 0 := fun h => if_some_ne (hA2.trans h)
    have HN2 := Lib.hid hN2
    clear hcut hN2
    have s1 : (0 : Int) ≤ (L : Int) := by omega
    have s2 : (L : Int) ≤ (k1 : Int) := by omega
    have s3 : (L : Int) ≤ ((n - 9 : Nat) : Int) := by omega
    have s4 : ((n - 9 : Nat) : Int) ≤ (k1 : Int) := by omega
    go_region_held3 (fun W' => W'.cell? ⟨w1.heap.size, 0, none⟩ = some (.int .i64 L) ∧ W'.cell? ⟨w1.heap.size, 1, none⟩ = some (.int .u8 K) ∧ W'.cell? ⟨w1.heap.size, 2, none⟩ = some (.int .u8 F) ∧ W'.cell? ⟨w1.heap.size, 3, none⟩ = some (.int .i64 S))
      (first
        | with_reducible exact fo HQ0.out
        | with_reducible exact fod HQ0.out
        | with_reducible exact fo (HQ0.out.al hqW _)
        | with_reducible exact fod (HQ0.out.al hqW _)
        | with_reducible exact fo HQ5.out
        | with_reducible exact fo (HQ5.out.al hq5 _)
        | with_reducible exact fo ((HQ0.out.al hqW _).al (hqW2' _) _)
        | with_reducible exact fod ((HQ0.out.al hqW _).al (hqW2' _) _)
        | with_reducible exact fo HQ6.out
        | with_reducible exact fost HQ6.out hqg)
      ((first
        | (refine step_append_full _ (by rfl) (.tmp 26) (.tmp 30) 22 (by rfl) W0.heap.size 5 i0 Try.underlying22 hinf.out.1 hinf.out.2.1 hinf.out.2.2.1 hinf.out.2.2.2 _ [] (by rfl) ?c1 w1.heap.size (some ⟨b1, 0, none⟩) L k1 (ys.take L) (by rfl) ?c2 (fun h => by cases h) ?c3 ?c4 ?_; (case c1 => exact (OwnB.lit2 W0 _ _ _ rfl (Nat.le_refl _)).drew); (case c2 => exact (HP.out.alloc hqW1 _).drew); (case c3 => simp; omega); (case c4 => simp); intro v5 w5 hown5 hb5 hg5 hl5 _; have HB5 := Lib.hid (((Below.refl _ W0).alloc (Nat.le_refl _) _).drew.trans hb5); have HG5 := Lib.hid hg5; have HL5 := Lib.hid hl5; have HO5 := Lib.hid hown5; clear hown5 hg5 hl5; have HQ5 := Lib.hid (HQ0.out.below HB5.out hqW); have HU5 := Lib.hid (HU.out.below (HB5.out.mono hqW1)); have hz5 := HB5.out.size; have hz51 : w1.heap.size ≤ w5.heap.size := Nat.le_trans hqW1 hz5; have hq5 : w1.heap.size < w5.heap.size := Nat.lt_of_lt_of_le hqW hz5)
        | (refine step_append_full _ (by rfl) (.tmp 26) (.tmp 30) 22 (by rfl) W0.heap.size 5 i0 Try.underlying22 hinf.out.1 hinf.out.2.1 hinf.out.2.2.1 hinf.out.2.2.2 _ [] (by rfl) ?c1 w1.heap.size (some ⟨b1, 0, none⟩) L k1 (ys.take L) (by rfl) ?c2 (fun h => by cases h) ?c3 ?c4 ?_; (case c1 => exact ((OwnB.lit2 W0 _ _ _ rfl (Nat.le_refl _)).alloc _).drew); (case c2 => exact ((HP.out.alloc hqW1 _).alloc hqW2 _).drew); (case c3 => simp; omega); (case c4 => simp; omega); intro v5 w5 hown5 hb5 hg5 hl5 _; have HB5 := Lib.hid ((((Below.refl _ W0).alloc (Nat.le_refl _) _).alloc (by simp) _).drew.trans hb5); have HG5 := Lib.hid hg5; have HL5 := Lib.hid hl5; have HO5 := Lib.hid hown5; clear hown5 hg5 hl5; have HQ5 := Lib.hid (HQ0.out.below HB5.out hqW); have HU5 := Lib.hid (HU.out.below (HB5.out.mono hqW1)); have hz5 := HB5.out.size; have hz51 : w1.heap.size ≤ w5.heap.size := Nat.le_trans hqW1 hz5; have hq5 : w1.heap.size < w5.heap.size := Nat.lt_of_lt_of_le hqW hz5)
        | (refine step_append_full _ (by rfl) (.tmp 26) (.tmp 30) 22 (by rfl) W0.heap.size 5 i0 Try.underlying22 hinf.out.1 hinf.out.2.1 hinf.out.2.2.1 hinf.out.2.2.2 _ [] (by rfl) ?c1 w1.heap.size (some ⟨b1, 0, none⟩) L k1 (ys.take L) (by rfl) ?c2 (fun h => by cases h) ?c3 ?c4 ?_; (case c1 => exact (OwnB.lit2 (W0.alloc _) _ _ _ (by simp) (by omega)).drew); (case c2 => exact ((HP.out.alloc hqW1 _).alloc hqW2 _).drew); (case c3 => simp; omega); (case c4 => simp; omega); intro v5 w5 hown5 hb5 hg5 hl5 _; have HB5 := Lib.hid ((((Below.refl _ W0).alloc (Nat.le_refl _) _).alloc (by simp) _).drew.trans hb5); have HG5 := Lib.hid hg5; have HL5 := Lib.hid hl5; have HO5 := Lib.hid hown5; clear hown5 hg5 hl5; have HQ5 := Lib.hid (HQ0.out.below HB5.out hqW); have HU5 := Lib.hid (HU.out.below (HB5.out.mono hqW1)); have hz5 := HB5.out.size; have hz51 : w1.heap.size ≤ w5.heap.size := Nat.le_trans hqW1 hz5; have hq5 : w1.heap.size < w5.heap.size := Nat.lt_of_lt_of_le hqW hz5)
        | (refine step_append_full _ (by rfl) (.tmp 32) (.tmp 36) 22 (by rfl) W0.heap.size 5 i0 Try.underlying22 hinf.out.1 hinf.out.2.1 hinf.out.2.2.1 hinf.out.2.2.2 _ [] (by rfl) ?d1 w1.heap.size A2 (n - 9 - L) (k1 - L) (ys.drop L) (by rfl) ?d2 HN2.out ?d3 ?d4 ?_; (case d1 => exact OwnB.lit2 w5 _ _ _ rfl hz5); (case d2 => exact HU5.out.alloc hz51 _); (case d3 => simp; omega); (case d4 => simp; omega); intro v6 w6 hown6 hb6 hg6 _ _; have HV5 := Lib.hid ((HO5.out.alloc _).beside hg6 (own_ne HO5.out)); have HB56 := Lib.hid (((Below.refl _ w5).alloc hz5 _).trans hb6); have HO6 := Lib.hid hown6; clear hown6; have HQ6 := Lib.hid (HQ5.out.below HB56.out hqW); have hx6 := box_two hgW HF0.out HFR0.out (HB5.out.trans HB56.out); have HX6 := Lib.hid hx6.1; have HB6 := Lib.hid (HB5.out.trans HB56.out); obtain ⟨⟨p0, p1, p2, p3⟩, hfr6⟩ := hx6)
        | (refine step_append_full _ (by rfl) (.tmp 32) (.tmp 36) 22 (by rfl) W0.heap.size 5 i0 Try.underlying22 hinf.out.1 hinf.out.2.1 hinf.out.2.2.1 hinf.out.2.2.2 _ [] (by rfl) ?d1 w1.heap.size A2 (n - 9 - L) (k1 - L) (ys.drop L) (by rfl) ?d2 HN2.out ?d3 ?d4 ?_; (case d1 => exact two_lit HG5.out); (case d2 => exact HU5.out); (case d3 => simp; omega); (case d4 => omega); intro v6 w6 hown6 hb6 hg6 _ _; have HV5 := Lib.hid (HO5.out.beside hg6 (own_ne2 HL5.out)); have HB56 := Lib.hid hb6; have HO6 := Lib.hid hown6; clear hown6; have HQ6 := Lib.hid (HQ5.out.below HB56.out hqW); have hx6 := box_two hgW HF0.out HFR0.out (HB5.out.trans HB56.out); have HX6 := Lib.hid hx6.1; have HB6 := Lib.hid (HB5.out.trans HB56.out); obtain ⟨⟨p0, p1, p2, p3⟩, hfr6⟩ := hx6)
        | (refine step_append_full _ (by rfl) (.tmp 32) (.tmp 36) 22 (by rfl) W0.heap.size 5 i0 Try.underlying22 hinf.out.1 hinf.out.2.1 hinf.out.2.2.1 hinf.out.2.2.2 _ [] (by rfl) ?d1 w1.heap.size A2 (n - 9 - L) (k1 - L) (ys.drop L) (by rfl) ?d2 HN2.out ?d3 ?d4 ?_; (case d1 => exact two_lit2 HG5.out); (case d2 => exact HU5.out); (case d3 => simp; omega); (case d4 => omega); intro v6 w6 hown6 hb6 hg6 _ _; have HV5 := Lib.hid (HO5.out.beside hg6 (own_ne3 HL5.out)); have HB56 := Lib.hid hb6; have HO6 := Lib.hid hown6; clear hown6; have HQ6 := Lib.hid (HQ5.out.below HB56.out hqW); have hx6 := box_two hgW HF0.out HFR0.out (HB5.out.trans HB56.out); have HX6 := Lib.hid hx6.1; have HB6 := Lib.hid (HB5.out.trans HB56.out); obtain ⟨⟨p0, p1, p2, p3⟩, hfr6⟩ := hx6)))
    all_goals
      go_wp2
      have hbel6 := HB0.out.trans (HB6.out.mono (Nat.le_of_lt hgW))
      have hbel := set4_below hbel6 (Nat.le_refl _) (.int .i64 L) (.int .u8 K) (.int .u8 F) (.int .i64 S)
      have hset : ∀ k, W0.heap.size ≤ k → (set4 w6 w.heap.size (.int .i64 L) (.int .u8 K) (.int .u8 F) (.int .i64 S)).heap[k]? = w6.heap[k]? := fun k hk => set4_heap _ _ _ _ _ _ _ (by omega)
      have hv5 := (HV5.out.above hset).less (B' := w.heap.size) (Nat.le_of_lt hgW)
      have hv6 := (HO6.out.above hset).less (B' := w.heap.size) (Nat.le_of_lt hgW)
      rw [List.nil_append] at hv5 hv6
      obtain ⟨f0, f1, f2, f3⟩ := HX6.out.set (.int .i64 L) (.int .u8 K) (.int .u8 F) (.int .i64 S)
      unfold set4 at f0 f1 f2 f3
      refine bodyPost_ret (v := .tuple #[.agg #[.int .i64 L, .int .u8 K, .int .u8 F, .int .i64 S], v5, v6, .int .i64 0]) (by simp [results, Try.results14, go_sem, f0, f1, f2, f3]) rfl ⟨v5, v6, rfl, hv5, hv6, hbel⟩
theorem rwhole_tot (A : Option Addr) (B n c : Nat) (xs : List UInt8) (w : World) (hA : Bs w B A n xs) (hn : n ≤ 1000000) (hnc : n ≤ c) (hB : B ≤ w.heap.size) :
    Calls Try.prog 14 #[.slice A n c] w fun e w' => ∃ v u, e = .returned (.tuple #[.agg #[.int .i64 (tL xs n), .int .u8 (tK xs n), .int .u8 (tF xs n), .int .i64 (tS xs n)], v, u, .int .i64 (wE xs n)]) ∧ OwnB w' w.heap.size 5 v (wP xs n) ∧ OwnB w' w.heap.size 5 u (wR xs n) ∧ Below w.heap.size w w' := by
  by_cases hw : WholeIn xs n
  · refine (rwhole_yes0 A B n c _ _ _ _ xs w rfl rfl rfl rfl hA hw.1 hn hnc hB hw.2).mono ?_
    rintro e w' ⟨v, u, rfl, ho, hu, hb⟩
    exact ⟨v, u, by unfold tL tK tF tS wE; simp only [if_pos hw.1, if_pos hw], by unfold wP; rw [if_pos hw]; exact ho, by unfold wR; rw [if_pos hw]; exact hu, hb⟩
  · refine (rwhole_no A B n c xs w hA hn hnc hB hw).mono ?_
    rintro e w' ⟨rfl, hb⟩
    exact ⟨.slice none 0 0, .slice none 0 0, by unfold wE; simp only [if_neg hw], by unfold wP; rw [if_neg hw]; exact OwnB.nil_ _ _ _, by unfold wR; rw [if_neg hw]; exact OwnB.nil_ _ _ _, hb⟩
end Go.Proofs.Ytgkbjopgmbdnoaa
/- FrameBack. -/
namespace Go.Proofs.Ytgkbjopgmbdnoaa
open Go.RowKit Oct Fi Fm
set_option linter.unusedVariables false
set_option linter.unusedSimpArgs false
theorem whole_put (f : Fr) (hs : standB f = true) (A : Option Addr) (n c : Nat) (w : World) (hA : Bs w w.heap.size A n (putR f)) (hnc : n ≤ c) :
    Calls Try.prog 14 #[.slice A n c] w fun e w' => ∃ v u, e = .returned (.tuple #[.agg #[.int .i64 ((layR f).1.length : Int), .int .u8 (f.kd.toNat : Int), .int .u8 (f.fl.toNat : Int), .int .i64 f.st], v, u, .int .i64 0]) ∧ OwnB w' w.heap.size 5 v (layR f).1 ∧ OwnB w' w.heap.size 5 u [] ∧ Below w.heap.size w w' := by
  obtain ⟨_, _, hi, h16⟩ := stand_head hs
  obtain ⟨S, hS⟩ := Int.eq_ofNat_of_zero_le hi.2.2.1
  have hSl : S < 2147483648 := by have := hi.2.2.2; omega
  have hx : putR f = hdBytes (layR f).1.length f.kd f.fl S ++ (layR f).1 := by
    unfold putR hpV
    rw [if_pos hs, if_pos hi, hS]
    simp
  rw [hx] at hA
  have hl : n = 9 + (layR f).1.length := by rw [← hA.1, List.length_append, hdBytes_length]
  have h := rwhole_yes0 A w.heap.size n c (layR f).1.length f.kd.toNat f.fl.toNat S _ w (hL_hd _ _ _ _ _ (by omega)) (hK_hd _ _ _ _ _) (hF_hd _ _ _ _ _) (hS_hd _ _ _ _ _ hSl) hA (by omega) (by omega) hnc (Nat.le_refl _) (by omega)
  rw [hd_drop9, List.take_length, List.drop_eq_nil_of_le (by rw [List.length_append, hdBytes_length]; exact Nat.le_refl _), ← hS] at h
  exact h
set_option maxRecDepth 100000 in
set_option maxHeartbeats 8000000 in
theorem back4_G (f : Fr) (A D : Option Addr) (n c m e : Nat) (w : World) (hA : Bs w w.heap.size A n f.da) (hN : A = none → c = 0) (hnc : n ≤ c) (hD : Ps w w.heap.size D m f.ps) (hg : 3000 < n ∨ 300 < m) :
    Calls Try.prog 3 #[frv f (.slice A n c) (.slice D m e)] w fun e' w' => e' = .returned (.bool true) ∧ Below w.heap.size w w' := by
  have HG : Hid (∀ w0, Calls Try.prog 10 #[.agg #[.int .u8 (f.kd.toNat : Int), .int .u8 (f.fl.toNat : Int), .int .i64 f.st, .slice A n c, .int .i64 f.pd, .int .i64 f.la, .int .i64 f.ic, .int .u32 (f.co.toNat : Int), .slice D m e, .bool f.rk, .bool f.al, .int .i64 f.dp, .int .u8 (f.wt.toNat : Int)]] w0 fun e' w' => e' = .returned (.bool true) ∧ Below w0.heap.size w0 w') := Lib.hid (fun w0 => by have h := m_great f A D n c m e w0; rw [decide_eq_true hg] at h; exact h)
  have HN := Lib.hid hN
  have K0 : Hid (EnvB (w.alloc (.cells #[.int .u8 (f.kd.toNat : Int), .int .u8 (f.fl.toNat : Int), .int .i64 f.st, .slice A n c, .int .i64 f.pd, .int .i64 f.la, .int .i64 f.ic, .int .u32 (f.co.toNat : Int), .slice D m e, .bool f.rk, .bool f.al, .int .i64 f.dp, .int .u8 (f.wt.toNat : Int)] 28)) [(A, n, f.da)] [(D, m, f.ps)] [(w.heap.size, #[.int .u8 (f.kd.toNat : Int), .int .u8 (f.fl.toNat : Int), .int .i64 f.st, .slice A n c, .int .i64 f.pd, .int .i64 f.la, .int .i64 f.ic, .int .u32 (f.co.toNat : Int), .slice D m e, .bool f.rk, .bool f.al, .int .i64 f.dp, .int .u8 (f.wt.toNat : Int)], 28)]) := Lib.hid ((((EnvB.nil w).addS0 hA).addP0 hD).box 28 #[.int .u8 (f.kd.toNat : Int), .int .u8 (f.fl.toNat : Int), .int .i64 f.st, .slice A n c, .int .i64 f.pd, .int .i64 f.la, .int .i64 f.ic, .int .u32 (f.co.toNat : Int), .slice D m e, .bool f.rk, .bool f.al, .int .i64 f.dp, .int .u8 (f.wt.toNat : Int)])
  have B0 : Hid (Below w.heap.size w (w.alloc (.cells #[.int .u8 (f.kd.toNat : Int), .int .u8 (f.fl.toNat : Int), .int .i64 f.st, .slice A n c, .int .i64 f.pd, .int .i64 f.la, .int .i64 f.ic, .int .u32 (f.co.toNat : Int), .slice D m e, .bool f.rk, .bool f.al, .int .i64 f.dp, .int .u8 (f.wt.toNat : Int)] 28))) := Lib.hid ((Below.refl _ w).alloc (Nat.le_refl _) _)
  unfold frv
  clear hA hN hD
  skip
  go_enter Try.func3, Try.ntmps3
  go_wp2_with (first
    | ((with_reducible refine at_wp ?_); refine at_load 28 (.tmp 1) (by rfl) ?_; refine wpList_load_row (by rfl) 28 (.tmp 1) (by rfl) (w.heap.size) (by rfl) 28 #[.int .u8 (f.kd.toNat : Int), .int .u8 (f.fl.toNat : Int), .int .i64 f.st, .slice A n c, .int .i64 f.pd, .int .i64 f.la, .int .i64 f.ic, .int .u32 (f.co.toNat : Int), .slice D m e, .bool f.rk, .bool f.al, .int .i64 f.dp, .int .u8 (f.wt.toNat : Int)] (0, 0) _ (K0.out.row 0 rfl) Try.underlying28 (by rfl) info_F ?_)
    | (go_at_call 10; (refine (HG.out _).mono ?_); rintro e w1 ⟨rfl, hb⟩; have K1 : Hid (EnvB w1 [(A, n, f.da)] [(D, m, f.ps)] [(w.heap.size, #[.int .u8 (f.kd.toNat : Int), .int .u8 (f.fl.toNat : Int), .int .i64 f.st, .slice A n c, .int .i64 f.pd, .int .i64 f.la, .int .i64 f.ic, .int .u32 (f.co.toNat : Int), .slice D m e, .bool f.rk, .bool f.al, .int .i64 f.dp, .int .u8 (f.wt.toNat : Int)], 28)]) := Lib.hid (K0.out.on hb); have B1 := Lib.hid (below_step B0.out hb); clear hb K0 B0)
    | (go_at_call 11; (refine (wakes4 _).mono ?_); rintro e w2 ⟨rfl, hb⟩; have K2 : Hid (EnvB w2 [(A, n, f.da)] [(D, m, f.ps)] [(w.heap.size, #[.int .u8 (f.kd.toNat : Int), .int .u8 (f.fl.toNat : Int), .int .i64 f.st, .slice A n c, .int .i64 f.pd, .int .i64 f.la, .int .i64 f.ic, .int .u32 (f.co.toNat : Int), .slice D m e, .bool f.rk, .bool f.al, .int .i64 f.dp, .int .u8 (f.wt.toNat : Int)], 28)]) := Lib.hid (K1.out.on hb); have B2 := Lib.hid (below_step B1.out hb); clear hb K1 B1))
  go_ret
  exact ⟨rfl, B2.out⟩
set_option maxRecDepth 100000 in
set_option maxHeartbeats 8000000 in
theorem back4_N (f : Fr) (A D : Option Addr) (n c m e : Nat) (w : World) (hA : Bs w w.heap.size A n f.da) (hN : A = none → c = 0) (hnc : n ≤ c) (hD : Ps w w.heap.size D m f.ps) (hg : ¬ (3000 < n ∨ 300 < m)) (hs : standB f = false) :
    Calls Try.prog 3 #[frv f (.slice A n c) (.slice D m e)] w fun e' w' => e' = .returned (.bool true) ∧ Below w.heap.size w w' := by
  have HG : Hid (∀ w0, Calls Try.prog 10 #[.agg #[.int .u8 (f.kd.toNat : Int), .int .u8 (f.fl.toNat : Int), .int .i64 f.st, .slice A n c, .int .i64 f.pd, .int .i64 f.la, .int .i64 f.ic, .int .u32 (f.co.toNat : Int), .slice D m e, .bool f.rk, .bool f.al, .int .i64 f.dp, .int .u8 (f.wt.toNat : Int)]] w0 fun e' w' => e' = .returned (.bool false) ∧ Below w0.heap.size w0 w') := Lib.hid (fun w0 => by have h := m_great f A D n c m e w0; rw [decide_eq_false hg] at h; exact h)
  have HN := Lib.hid hN
  have K0 : Hid (EnvB (w.alloc (.cells #[.int .u8 (f.kd.toNat : Int), .int .u8 (f.fl.toNat : Int), .int .i64 f.st, .slice A n c, .int .i64 f.pd, .int .i64 f.la, .int .i64 f.ic, .int .u32 (f.co.toNat : Int), .slice D m e, .bool f.rk, .bool f.al, .int .i64 f.dp, .int .u8 (f.wt.toNat : Int)] 28)) [(A, n, f.da)] [(D, m, f.ps)] [(w.heap.size, #[.int .u8 (f.kd.toNat : Int), .int .u8 (f.fl.toNat : Int), .int .i64 f.st, .slice A n c, .int .i64 f.pd, .int .i64 f.la, .int .i64 f.ic, .int .u32 (f.co.toNat : Int), .slice D m e, .bool f.rk, .bool f.al, .int .i64 f.dp, .int .u8 (f.wt.toNat : Int)], 28)]) := Lib.hid ((((EnvB.nil w).addS0 hA).addP0 hD).box 28 #[.int .u8 (f.kd.toNat : Int), .int .u8 (f.fl.toNat : Int), .int .i64 f.st, .slice A n c, .int .i64 f.pd, .int .i64 f.la, .int .i64 f.ic, .int .u32 (f.co.toNat : Int), .slice D m e, .bool f.rk, .bool f.al, .int .i64 f.dp, .int .u8 (f.wt.toNat : Int)])
  have B0 : Hid (Below w.heap.size w (w.alloc (.cells #[.int .u8 (f.kd.toNat : Int), .int .u8 (f.fl.toNat : Int), .int .i64 f.st, .slice A n c, .int .i64 f.pd, .int .i64 f.la, .int .i64 f.ic, .int .u32 (f.co.toNat : Int), .slice D m e, .bool f.rk, .bool f.al, .int .i64 f.dp, .int .u8 (f.wt.toNat : Int)] 28))) := Lib.hid ((Below.refl _ w).alloc (Nat.le_refl _) _)
  have hn : n ≤ 8900 := by omega
  have hm : m ≤ 10000 := by omega
  have HR : Hid (∀ w0, Bs w0 w0.heap.size A n f.da → Ps w0 w0.heap.size D m f.ps → Calls Try.prog 13 #[.agg #[.int .u8 (f.kd.toNat : Int), .int .u8 (f.fl.toNat : Int), .int .i64 f.st, .slice A n c, .int .i64 f.pd, .int .i64 f.la, .int .i64 f.ic, .int .u32 (f.co.toNat : Int), .slice D m e, .bool f.rk, .bool f.al, .int .i64 f.dp, .int .u8 (f.wt.toNat : Int)]] w0 fun e' w' => e' = .returned (.bool false) ∧ Below w0.heap.size w0 w') := Lib.hid (fun w0 h1 h2 => by have h := p_right f A D n c m e w0 h1 hN hnc hn h2 hm; rw [hs] at h; exact h)
  have HP : Hid (∀ w0, Bs w0 w0.heap.size A n f.da → Ps w0 w0.heap.size D m f.ps → Calls Try.prog 12 #[.agg #[.int .u8 (f.kd.toNat : Int), .int .u8 (f.fl.toNat : Int), .int .i64 f.st, .slice A n c, .int .i64 f.pd, .int .i64 f.la, .int .i64 f.ic, .int .u32 (f.co.toNat : Int), .slice D m e, .bool f.rk, .bool f.al, .int .i64 f.dp, .int .u8 (f.wt.toNat : Int)]] w0 fun e' w' => ∃ v, e' = .returned (.tuple #[v, .int .i64 2]) ∧ OwnB w' w0.heap.size 5 v [] ∧ Below w0.heap.size w0 w') := Lib.hid (fun w0 h1 h2 => by have h := p_put f A D n c m e w0 h1 hN hnc hn h2 hm; rw [show putRE f = 2 by unfold putRE; rw [hs]; rfl, show putR f = [] by unfold putR; rw [hs]; rfl] at h; exact h)
  unfold frv
  clear hA hN hD
  clear hs
  go_enter Try.func3, Try.ntmps3
  go_wp2_with (first
    | ((with_reducible refine at_wp ?_); refine at_load 28 (.tmp 1) (by rfl) ?_; refine wpList_load_row (by rfl) 28 (.tmp 1) (by rfl) (w.heap.size) (by rfl) 28 #[.int .u8 (f.kd.toNat : Int), .int .u8 (f.fl.toNat : Int), .int .i64 f.st, .slice A n c, .int .i64 f.pd, .int .i64 f.la, .int .i64 f.ic, .int .u32 (f.co.toNat : Int), .slice D m e, .bool f.rk, .bool f.al, .int .i64 f.dp, .int .u8 (f.wt.toNat : Int)] (0, 0) _ (K0.out.row 0 rfl) Try.underlying28 (by rfl) info_F ?_)
    | (go_at_call 10; (refine (HG.out _).mono ?_); rintro e w1 ⟨rfl, hb⟩; have K1 : Hid (EnvB w1 [(A, n, f.da)] [(D, m, f.ps)] [(w.heap.size, #[.int .u8 (f.kd.toNat : Int), .int .u8 (f.fl.toNat : Int), .int .i64 f.st, .slice A n c, .int .i64 f.pd, .int .i64 f.la, .int .i64 f.ic, .int .u32 (f.co.toNat : Int), .slice D m e, .bool f.rk, .bool f.al, .int .i64 f.dp, .int .u8 (f.wt.toNat : Int)], 28)]) := Lib.hid (K0.out.on hb); have B1 := Lib.hid (below_step B0.out hb); clear hb K0 B0)
    | ((with_reducible refine at_wp ?_); refine at_load 28 (.tmp 1) (by rfl) ?_; refine wpList_load_row (by rfl) 28 (.tmp 1) (by rfl) (w.heap.size) (by rfl) 28 #[.int .u8 (f.kd.toNat : Int), .int .u8 (f.fl.toNat : Int), .int .i64 f.st, .slice A n c, .int .i64 f.pd, .int .i64 f.la, .int .i64 f.ic, .int .u32 (f.co.toNat : Int), .slice D m e, .bool f.rk, .bool f.al, .int .i64 f.dp, .int .u8 (f.wt.toNat : Int)] (0, 0) _ (K1.out.row 0 rfl) Try.underlying28 (by rfl) info_F ?_)
    | (go_at_call 12; (refine (HP.out _ (K1.out.s (A, n, f.da) (by simp)).1 (K1.out.p (D, m, f.ps) (by simp)).1).mono ?_); rintro e w2 ⟨v1, rfl, ho, hb⟩; obtain ⟨A1, c1, rfl, hh⟩ := ho.handS (n := 0) rfl; have K2 : Hid (EnvB w2 [(A, n, f.da)] [(D, m, f.ps)] [(w.heap.size, #[.int .u8 (f.kd.toNat : Int), .int .u8 (f.fl.toNat : Int), .int .i64 f.st, .slice A n c, .int .i64 f.pd, .int .i64 f.la, .int .i64 f.ic, .int .u32 (f.co.toNat : Int), .slice D m e, .bool f.rk, .bool f.al, .int .i64 f.dp, .int .u8 (f.wt.toNat : Int)], 28)]) := Lib.hid (K1.out.on hb); have B2 := Lib.hid (below_step B1.out hb); clear ho hh; clear hb K1 B1)
    | ((with_reducible refine at_wp ?_); refine at_load 28 (.tmp 1) (by rfl) ?_; refine wpList_load_row (by rfl) 28 (.tmp 1) (by rfl) (w.heap.size) (by rfl) 28 #[.int .u8 (f.kd.toNat : Int), .int .u8 (f.fl.toNat : Int), .int .i64 f.st, .slice A n c, .int .i64 f.pd, .int .i64 f.la, .int .i64 f.ic, .int .u32 (f.co.toNat : Int), .slice D m e, .bool f.rk, .bool f.al, .int .i64 f.dp, .int .u8 (f.wt.toNat : Int)] (0, 0) _ (K2.out.row 0 rfl) Try.underlying28 (by rfl) info_F ?_)
    | (go_at_call 13; (refine (HR.out _ (K2.out.s (A, n, f.da) (by simp)).1 (K2.out.p (D, m, f.ps) (by simp)).1).mono ?_); rintro e w3 ⟨rfl, hb⟩; have K3 : Hid (EnvB w3 [(A, n, f.da)] [(D, m, f.ps)] [(w.heap.size, #[.int .u8 (f.kd.toNat : Int), .int .u8 (f.fl.toNat : Int), .int .i64 f.st, .slice A n c, .int .i64 f.pd, .int .i64 f.la, .int .i64 f.ic, .int .u32 (f.co.toNat : Int), .slice D m e, .bool f.rk, .bool f.al, .int .i64 f.dp, .int .u8 (f.wt.toNat : Int)], 28)]) := Lib.hid (K2.out.on hb); have B3 := Lib.hid (below_step B2.out hb); clear hb K2 B2)
    | (go_at_call 11; (refine (wakes4 _).mono ?_); rintro e w4 ⟨rfl, hb⟩; have K4 : Hid (EnvB w4 [(A, n, f.da)] [(D, m, f.ps)] [(w.heap.size, #[.int .u8 (f.kd.toNat : Int), .int .u8 (f.fl.toNat : Int), .int .i64 f.st, .slice A n c, .int .i64 f.pd, .int .i64 f.la, .int .i64 f.ic, .int .u32 (f.co.toNat : Int), .slice D m e, .bool f.rk, .bool f.al, .int .i64 f.dp, .int .u8 (f.wt.toNat : Int)], 28)]) := Lib.hid (K3.out.on hb); have B4 := Lib.hid (below_step B3.out hb); clear hb K3 B3))
  go_ret
  exact ⟨rfl, B4.out⟩
set_option maxRecDepth 100000 in
set_option maxHeartbeats 8000000 in
theorem back4_Y (f : Fr) (A D : Option Addr) (n c m e : Nat) (w : World) (hA : Bs w w.heap.size A n f.da) (hN : A = none → c = 0) (hnc : n ≤ c) (hD : Ps w w.heap.size D m f.ps) (hg : ¬ (3000 < n ∨ 300 < m)) (hs : standB f = true) :
    Calls Try.prog 3 #[frv f (.slice A n c) (.slice D m e)] w fun e' w' => e' = .returned (.bool true) ∧ Below w.heap.size w w' := by
  have HG : Hid (∀ w0, Calls Try.prog 10 #[.agg #[.int .u8 (f.kd.toNat : Int), .int .u8 (f.fl.toNat : Int), .int .i64 f.st, .slice A n c, .int .i64 f.pd, .int .i64 f.la, .int .i64 f.ic, .int .u32 (f.co.toNat : Int), .slice D m e, .bool f.rk, .bool f.al, .int .i64 f.dp, .int .u8 (f.wt.toNat : Int)]] w0 fun e' w' => e' = .returned (.bool false) ∧ Below w0.heap.size w0 w') := Lib.hid (fun w0 => by have h := m_great f A D n c m e w0; rw [decide_eq_false hg] at h; exact h)
  have HN := Lib.hid hN
  have K0 : Hid (EnvB (w.alloc (.cells #[.int .u8 (f.kd.toNat : Int), .int .u8 (f.fl.toNat : Int), .int .i64 f.st, .slice A n c, .int .i64 f.pd, .int .i64 f.la, .int .i64 f.ic, .int .u32 (f.co.toNat : Int), .slice D m e, .bool f.rk, .bool f.al, .int .i64 f.dp, .int .u8 (f.wt.toNat : Int)] 28)) [(A, n, f.da)] [(D, m, f.ps)] [(w.heap.size, #[.int .u8 (f.kd.toNat : Int), .int .u8 (f.fl.toNat : Int), .int .i64 f.st, .slice A n c, .int .i64 f.pd, .int .i64 f.la, .int .i64 f.ic, .int .u32 (f.co.toNat : Int), .slice D m e, .bool f.rk, .bool f.al, .int .i64 f.dp, .int .u8 (f.wt.toNat : Int)], 28)]) := Lib.hid ((((EnvB.nil w).addS0 hA).addP0 hD).box 28 #[.int .u8 (f.kd.toNat : Int), .int .u8 (f.fl.toNat : Int), .int .i64 f.st, .slice A n c, .int .i64 f.pd, .int .i64 f.la, .int .i64 f.ic, .int .u32 (f.co.toNat : Int), .slice D m e, .bool f.rk, .bool f.al, .int .i64 f.dp, .int .u8 (f.wt.toNat : Int)])
  have B0 : Hid (Below w.heap.size w (w.alloc (.cells #[.int .u8 (f.kd.toNat : Int), .int .u8 (f.fl.toNat : Int), .int .i64 f.st, .slice A n c, .int .i64 f.pd, .int .i64 f.la, .int .i64 f.ic, .int .u32 (f.co.toNat : Int), .slice D m e, .bool f.rk, .bool f.al, .int .i64 f.dp, .int .u8 (f.wt.toNat : Int)] 28))) := Lib.hid ((Below.refl _ w).alloc (Nat.le_refl _) _)
  have hn : n ≤ 8900 := by omega
  have hm : m ≤ 10000 := by omega
  have HR : Hid (∀ w0, Bs w0 w0.heap.size A n f.da → Ps w0 w0.heap.size D m f.ps → Calls Try.prog 13 #[.agg #[.int .u8 (f.kd.toNat : Int), .int .u8 (f.fl.toNat : Int), .int .i64 f.st, .slice A n c, .int .i64 f.pd, .int .i64 f.la, .int .i64 f.ic, .int .u32 (f.co.toNat : Int), .slice D m e, .bool f.rk, .bool f.al, .int .i64 f.dp, .int .u8 (f.wt.toNat : Int)]] w0 fun e' w' => e' = .returned (.bool true) ∧ Below w0.heap.size w0 w') := Lib.hid (fun w0 h1 h2 => by have h := p_right f A D n c m e w0 h1 hN hnc hn h2 hm; rw [hs] at h; exact h)
  have HP : Hid (∀ w0, Bs w0 w0.heap.size A n f.da → Ps w0 w0.heap.size D m f.ps → Calls Try.prog 12 #[.agg #[.int .u8 (f.kd.toNat : Int), .int .u8 (f.fl.toNat : Int), .int .i64 f.st, .slice A n c, .int .i64 f.pd, .int .i64 f.la, .int .i64 f.ic, .int .u32 (f.co.toNat : Int), .slice D m e, .bool f.rk, .bool f.al, .int .i64 f.dp, .int .u8 (f.wt.toNat : Int)]] w0 fun e' w' => ∃ v, e' = .returned (.tuple #[v, .int .i64 0]) ∧ OwnB w' w0.heap.size 5 v (putR f) ∧ Below w0.heap.size w0 w') := Lib.hid (fun w0 h1 h2 => by have h := p_put f A D n c m e w0 h1 hN hnc hn h2 hm; rw [show putRE f = 0 by unfold putRE; rw [hs]; rfl] at h; exact h)
  obtain ⟨_, hpr, _, h16⟩ := stand_head hs
  obtain ⟨NB, hNB⟩ : ∃ N, (putR f).length = N := ⟨_, rfl⟩
  have HNB := Lib.hid hNB
  have HW : Hid (∀ A' c' w0, Bs w0 w0.heap.size A' NB (putR f) → NB ≤ c' → Calls Try.prog 14 #[.slice A' NB c'] w0 fun e w' => ∃ v u, e = .returned (.tuple #[.agg #[.int .i64 ((layR f).1.length : Int), .int .u8 (f.kd.toNat : Int), .int .u8 (f.fl.toNat : Int), .int .i64 f.st], v, u, .int .i64 0]) ∧ OwnB w' w0.heap.size 5 v (layR f).1 ∧ OwnB w' w0.heap.size 5 u [] ∧ Below w0.heap.size w0 w') := Lib.hid (fun A' c' w0 h1 h2 => whole_put f hs A' NB c' w0 h1 h2)
  obtain ⟨NL, hNL⟩ : ∃ N, (layR f).1.length = N := ⟨_, rfl⟩
  have HNL := Lib.hid hNL
  have HPA : Hid (∀ A' c' w0, Bs w0 w0.heap.size A' NL (layR f).1 → (A' = none → c' = 0) → NL ≤ c' → Calls Try.prog 15 #[.agg #[.int .i64 (NL : Int), .int .u8 (f.kd.toNat : Int), .int .u8 (f.fl.toNat : Int), .int .i64 f.st], .slice A' NL c'] w0 fun e w' => ∃ A7 n7 c7 A8 n8 c8, e = .returned (.tuple #[.agg #[.int .u8 (f.kd.toNat : Int), .int .u8 (f.fl.toNat : Int), .int .i64 f.st, .slice A7 n7 c7, .int .i64 f.pd, .int .i64 f.la, .int .i64 f.ic, .int .u32 (f.co.toNat : Int), .slice A8 n8 c8, .bool f.rk, .bool f.al, .int .i64 f.dp, .int .u8 (f.wt.toNat : Int)], .agg #[.bool false, .int .i64 0, .int .u32 0]]) ∧ HandS w' w0.heap.size A7 n7 c7 f.da ∧ HandP w' w0.heap.size A8 n8 c8 f.ps ∧ Below w0.heap.size w0 w') := Lib.hid (fun A' c' w0 h1 h2 h3 => by have h := p_parse (NL : Int) f.st f.kd f.fl A' NL c' (layR f).1 w0 h1 h2 (by omega) h3; rw [hpr] at h; exact h)
  rw [hNL] at HW
  have hps : m ≤ 100000 := by omega
  have HDP : Hid (f.ps.length = m) := Lib.hid hD.1
  clear hNB hNL hpr
  unfold frv
  clear hA hN hD
  clear hs
  go_enter Try.func3, Try.ntmps3
  go_wp2_with (first
    | ((with_reducible refine at_wp ?_); refine at_load 28 (.tmp 1) (by rfl) ?_; refine wpList_load_row (by rfl) 28 (.tmp 1) (by rfl) (w.heap.size) (by rfl) 28 #[.int .u8 (f.kd.toNat : Int), .int .u8 (f.fl.toNat : Int), .int .i64 f.st, .slice A n c, .int .i64 f.pd, .int .i64 f.la, .int .i64 f.ic, .int .u32 (f.co.toNat : Int), .slice D m e, .bool f.rk, .bool f.al, .int .i64 f.dp, .int .u8 (f.wt.toNat : Int)] (0, 0) _ (K0.out.row 0 rfl) Try.underlying28 (by rfl) info_F ?_)
    | (go_at_call 10; (refine (HG.out _).mono ?_); rintro e w1 ⟨rfl, hb⟩; have K1 : Hid (EnvB w1 [(A, n, f.da)] [(D, m, f.ps)] [(w.heap.size, #[.int .u8 (f.kd.toNat : Int), .int .u8 (f.fl.toNat : Int), .int .i64 f.st, .slice A n c, .int .i64 f.pd, .int .i64 f.la, .int .i64 f.ic, .int .u32 (f.co.toNat : Int), .slice D m e, .bool f.rk, .bool f.al, .int .i64 f.dp, .int .u8 (f.wt.toNat : Int)], 28)]) := Lib.hid (K0.out.on hb); have B1 := Lib.hid (below_step B0.out hb); clear hb K0 B0)
    | ((with_reducible refine at_wp ?_); refine at_load 28 (.tmp 1) (by rfl) ?_; refine wpList_load_row (by rfl) 28 (.tmp 1) (by rfl) (w.heap.size) (by rfl) 28 #[.int .u8 (f.kd.toNat : Int), .int .u8 (f.fl.toNat : Int), .int .i64 f.st, .slice A n c, .int .i64 f.pd, .int .i64 f.la, .int .i64 f.ic, .int .u32 (f.co.toNat : Int), .slice D m e, .bool f.rk, .bool f.al, .int .i64 f.dp, .int .u8 (f.wt.toNat : Int)] (0, 0) _ (K1.out.row 0 rfl) Try.underlying28 (by rfl) info_F ?_)
    | (go_at_call 12; (refine (HP.out _ (K1.out.s (A, n, f.da) (by simp)).1 (K1.out.p (D, m, f.ps) (by simp)).1).mono ?_); rintro e w2 ⟨v1, rfl, ho, hb⟩; obtain ⟨A1, c1, rfl, hh⟩ := ho.handS HNB.out; have K2 : Hid (EnvB w2 [(A1, NB, putR f), (A, n, f.da)] [(D, m, f.ps)] [(w.heap.size, #[.int .u8 (f.kd.toNat : Int), .int .u8 (f.fl.toNat : Int), .int .i64 f.st, .slice A n c, .int .i64 f.pd, .int .i64 f.la, .int .i64 f.ic, .int .u32 (f.co.toNat : Int), .slice D m e, .bool f.rk, .bool f.al, .int .i64 f.dp, .int .u8 (f.wt.toNat : Int)], 28)]) := Lib.hid (K1.out.handS hb hh); have B2 := Lib.hid (below_step B1.out hb); have HC1 := Lib.hid hh.2.2; clear ho hh; clear hb K1 B1)
    | ((with_reducible refine at_wp ?_); refine at_load 28 (.tmp 1) (by rfl) ?_; refine wpList_load_row (by rfl) 28 (.tmp 1) (by rfl) (w.heap.size) (by rfl) 28 #[.int .u8 (f.kd.toNat : Int), .int .u8 (f.fl.toNat : Int), .int .i64 f.st, .slice A n c, .int .i64 f.pd, .int .i64 f.la, .int .i64 f.ic, .int .u32 (f.co.toNat : Int), .slice D m e, .bool f.rk, .bool f.al, .int .i64 f.dp, .int .u8 (f.wt.toNat : Int)] (0, 0) _ (K2.out.row 0 rfl) Try.underlying28 (by rfl) info_F ?_)
    | (go_at_call 13; (refine (HR.out _ (K2.out.s (A, n, f.da) (by simp)).1 (K2.out.p (D, m, f.ps) (by simp)).1).mono ?_); rintro e w3 ⟨rfl, hb⟩; have K3 : Hid (EnvB w3 [(A1, NB, putR f), (A, n, f.da)] [(D, m, f.ps)] [(w.heap.size, #[.int .u8 (f.kd.toNat : Int), .int .u8 (f.fl.toNat : Int), .int .i64 f.st, .slice A n c, .int .i64 f.pd, .int .i64 f.la, .int .i64 f.ic, .int .u32 (f.co.toNat : Int), .slice D m e, .bool f.rk, .bool f.al, .int .i64 f.dp, .int .u8 (f.wt.toNat : Int)], 28)]) := Lib.hid (K2.out.on hb); have B3 := Lib.hid (below_step B2.out hb); clear hb K2 B2)
    | (go_at_call 14; (refine (HW.out A1 c1 _ (K3.out.s (A1, NB, putR f) (by simp)).1 HC1.out.1).mono ?_); rintro e w4 ⟨v2, u2, rfl, ho, hu, hb⟩; obtain ⟨A2, c2, rfl, hh⟩ := ho.handS HNL.out; obtain ⟨A3, c3, rfl, _⟩ := hu.handS (n := 0) rfl; have K4 : Hid (EnvB w4 [(A2, NL, (layR f).1), (A1, NB, putR f), (A, n, f.da)] [(D, m, f.ps)] [(w.heap.size, #[.int .u8 (f.kd.toNat : Int), .int .u8 (f.fl.toNat : Int), .int .i64 f.st, .slice A n c, .int .i64 f.pd, .int .i64 f.la, .int .i64 f.ic, .int .u32 (f.co.toNat : Int), .slice D m e, .bool f.rk, .bool f.al, .int .i64 f.dp, .int .u8 (f.wt.toNat : Int)], 28)]) := Lib.hid (K3.out.handS hb hh); have B4 := Lib.hid (below_step B3.out hb); have HC2 := Lib.hid hh.2.2; have leh := B4.out.size; clear ho hu hh; clear hb K3 B3; have K5 : Hid (EnvB (w4.alloc (.cells #[.int .i64 0, .int .u8 0, .int .u8 0, .int .i64 0] 35)) [(A2, NL, (layR f).1), (A1, NB, putR f), (A, n, f.da)] [(D, m, f.ps)] [(w4.heap.size, #[.int .i64 0, .int .u8 0, .int .u8 0, .int .i64 0], 35), (w.heap.size, #[.int .u8 (f.kd.toNat : Int), .int .u8 (f.fl.toNat : Int), .int .i64 f.st, .slice A n c, .int .i64 f.pd, .int .i64 f.la, .int .i64 f.ic, .int .u32 (f.co.toNat : Int), .slice D m e, .bool f.rk, .bool f.al, .int .i64 f.dp, .int .u8 (f.wt.toNat : Int)], 28)]) := Lib.hid (K4.out.box 35 #[.int .i64 0, .int .u8 0, .int .u8 0, .int .i64 0]); have B5 := Lib.hid (B4.out.alloc B4.out.size (.cells #[.int .i64 0, .int .u8 0, .int .u8 0, .int .i64 0] 35)); clear K4 B4)
    | ((with_reducible refine at_wp ?_); refine at_store 35 (.tmp 5) (.tmp 39) (by rfl) ?_; refine wpList_put (by rfl) 35 (.tmp 5) (.tmp 39) (by rfl) (w4.heap.size) 0 (.agg #[.int .i64 (NL : Int), .int .u8 (f.kd.toNat : Int), .int .u8 (f.fl.toNat : Int), .int .i64 f.st]) (by rfl) (by rfl) 35 #[.int .i64 0, .int .u8 0, .int .u8 0, .int .i64 0] #[.int .i64 (NL : Int), .int .u8 (f.kd.toNat : Int), .int .u8 (f.fl.toNat : Int), .int .i64 f.st] (K5.out.row 0 rfl) (by simp [Value.cells]) (by kernel_rfl) info_H (by kernel_rfl) ?_; intro w6 hrow hoth hz hbl; have K6 : Hid (EnvB w6 [(A2, NL, (layR f).1), (A1, NB, putR f), (A, n, f.da)] [(D, m, f.ps)] [(w4.heap.size, #[.int .i64 (NL : Int), .int .u8 (f.kd.toNat : Int), .int .u8 (f.fl.toNat : Int), .int .i64 f.st], 35), (w.heap.size, #[.int .u8 (f.kd.toNat : Int), .int .u8 (f.fl.toNat : Int), .int .i64 f.st, .slice A n c, .int .i64 f.pd, .int .i64 f.la, .int .i64 f.ic, .int .u32 (f.co.toNat : Int), .slice D m e, .bool f.rk, .bool f.al, .int .i64 f.dp, .int .u8 (f.wt.toNat : Int)], 28)]) := Lib.hid (K5.out.turn 0 rfl hrow hoth hz); have B6 := Lib.hid (hbl _ _ leh B5.out); clear hrow hoth hz hbl K5 B5)
    | ((with_reducible refine at_wp ?_); refine at_load 35 (.tmp 5) (by rfl) ?_; refine wpList_load_row (by rfl) 35 (.tmp 5) (by rfl) (w4.heap.size) (by rfl) 35 #[.int .i64 (NL : Int), .int .u8 (f.kd.toNat : Int), .int .u8 (f.fl.toNat : Int), .int .i64 f.st] (0, 0) _ (K6.out.row 0 rfl) Try.underlying35 (by rfl) info_H ?_)
    | (go_at_call 15; (refine (HPA.out A2 c2 _ (K6.out.s (A2, NL, (layR f).1) (by simp)).1 HC2.out.2 HC2.out.1).mono ?_); rintro e w7 ⟨A7, n7, c7, A8, n8, c8, rfl, hh, hp, hb⟩; have HM8 : Hid (n8 = m) := Lib.hid (by have := hp.1.1; rw [HDP.out] at this; exact this.symm); have K7 : Hid (EnvB w7 [(A7, n7, f.da), (A2, NL, (layR f).1), (A1, NB, putR f), (A, n, f.da)] [(A8, n8, f.ps), (D, m, f.ps)] [(w4.heap.size, #[.int .i64 (NL : Int), .int .u8 (f.kd.toNat : Int), .int .u8 (f.fl.toNat : Int), .int .i64 f.st], 35), (w.heap.size, #[.int .u8 (f.kd.toNat : Int), .int .u8 (f.fl.toNat : Int), .int .i64 f.st, .slice A n c, .int .i64 f.pd, .int .i64 f.la, .int .i64 f.ic, .int .u32 (f.co.toNat : Int), .slice D m e, .bool f.rk, .bool f.al, .int .i64 f.dp, .int .u8 (f.wt.toNat : Int)], 28)]) := Lib.hid (handB K6.out hb hh hp); have B7 := Lib.hid (below_step B6.out hb); clear hh hp; clear hb K6 B6; have leo := B7.out.size; have K8 : Hid (EnvB ((w7.alloc (.cells #[.int .u8 0, .int .u8 0, .int .i64 0, .slice none 0 0, .int .i64 0, .int .i64 0, .int .i64 0, .int .u32 0, .slice none 0 0, .bool false, .bool false, .int .i64 0, .int .u8 0] 28)).alloc (.cells #[.bool false, .int .i64 0, .int .u32 0] 39)) [(A7, n7, f.da), (A2, NL, (layR f).1), (A1, NB, putR f), (A, n, f.da)] [(A8, n8, f.ps), (D, m, f.ps)] [(w7.heap.size + 1, #[.bool false, .int .i64 0, .int .u32 0], 39), (w7.heap.size, #[.int .u8 0, .int .u8 0, .int .i64 0, .slice none 0 0, .int .i64 0, .int .i64 0, .int .i64 0, .int .u32 0, .slice none 0 0, .bool false, .bool false, .int .i64 0, .int .u8 0], 28), (w4.heap.size, #[.int .i64 (NL : Int), .int .u8 (f.kd.toNat : Int), .int .u8 (f.fl.toNat : Int), .int .i64 f.st], 35), (w.heap.size, #[.int .u8 (f.kd.toNat : Int), .int .u8 (f.fl.toNat : Int), .int .i64 f.st, .slice A n c, .int .i64 f.pd, .int .i64 f.la, .int .i64 f.ic, .int .u32 (f.co.toNat : Int), .slice D m e, .bool f.rk, .bool f.al, .int .i64 f.dp, .int .u8 (f.wt.toNat : Int)], 28)]) := Lib.hid ((K7.out.box 28 #[.int .u8 0, .int .u8 0, .int .i64 0, .slice none 0 0, .int .i64 0, .int .i64 0, .int .i64 0, .int .u32 0, .slice none 0 0, .bool false, .bool false, .int .i64 0, .int .u8 0]).boxg 39 #[.bool false, .int .i64 0, .int .u32 0] (w7.heap.size + 1) (by simp)); have B8 := Lib.hid ((B7.out.alloc B7.out.size (.cells #[.int .u8 0, .int .u8 0, .int .i64 0, .slice none 0 0, .int .i64 0, .int .i64 0, .int .i64 0, .int .u32 0, .slice none 0 0, .bool false, .bool false, .int .i64 0, .int .u8 0] 28)).alloc (Nat.le_trans B7.out.size (by simp)) (.cells #[.bool false, .int .i64 0, .int .u32 0] 39)); clear K7 B7)
    | ((with_reducible refine at_wp ?_); refine at_store 28 (.tmp 9) (.tmp 47) (by rfl) ?_; refine wpList_put (by rfl) 28 (.tmp 9) (.tmp 47) (by rfl) (w7.heap.size) 0 (.agg #[.int .u8 (f.kd.toNat : Int), .int .u8 (f.fl.toNat : Int), .int .i64 f.st, .slice A7 n7 c7, .int .i64 f.pd, .int .i64 f.la, .int .i64 f.ic, .int .u32 (f.co.toNat : Int), .slice A8 n8 c8, .bool f.rk, .bool f.al, .int .i64 f.dp, .int .u8 (f.wt.toNat : Int)]) (by rfl) (by rfl) 28 #[.int .u8 0, .int .u8 0, .int .i64 0, .slice none 0 0, .int .i64 0, .int .i64 0, .int .i64 0, .int .u32 0, .slice none 0 0, .bool false, .bool false, .int .i64 0, .int .u8 0] #[.int .u8 (f.kd.toNat : Int), .int .u8 (f.fl.toNat : Int), .int .i64 f.st, .slice A7 n7 c7, .int .i64 f.pd, .int .i64 f.la, .int .i64 f.ic, .int .u32 (f.co.toNat : Int), .slice A8 n8 c8, .bool f.rk, .bool f.al, .int .i64 f.dp, .int .u8 (f.wt.toNat : Int)] (K8.out.row 1 rfl) (by simp [Value.cells]) (by kernel_rfl) info_F (by kernel_rfl) ?_; intro w9 hrow hoth hz hbl; have K9 : Hid (EnvB w9 [(A7, n7, f.da), (A2, NL, (layR f).1), (A1, NB, putR f), (A, n, f.da)] [(A8, n8, f.ps), (D, m, f.ps)] [(w7.heap.size + 1, #[.bool false, .int .i64 0, .int .u32 0], 39), (w7.heap.size, #[.int .u8 (f.kd.toNat : Int), .int .u8 (f.fl.toNat : Int), .int .i64 f.st, .slice A7 n7 c7, .int .i64 f.pd, .int .i64 f.la, .int .i64 f.ic, .int .u32 (f.co.toNat : Int), .slice A8 n8 c8, .bool f.rk, .bool f.al, .int .i64 f.dp, .int .u8 (f.wt.toNat : Int)], 28), (w4.heap.size, #[.int .i64 (NL : Int), .int .u8 (f.kd.toNat : Int), .int .u8 (f.fl.toNat : Int), .int .i64 f.st], 35), (w.heap.size, #[.int .u8 (f.kd.toNat : Int), .int .u8 (f.fl.toNat : Int), .int .i64 f.st, .slice A n c, .int .i64 f.pd, .int .i64 f.la, .int .i64 f.ic, .int .u32 (f.co.toNat : Int), .slice D m e, .bool f.rk, .bool f.al, .int .i64 f.dp, .int .u8 (f.wt.toNat : Int)], 28)]) := Lib.hid (K8.out.turn 1 rfl hrow hoth hz); have B9 := Lib.hid (hbl _ _ leo B8.out); clear hrow hoth hz hbl K8 B8)
    | ((with_reducible refine at_wp ?_); refine at_store 39 (.tmp 10) (.tmp 48) (by rfl) ?_; refine wpList_put (by rfl) 39 (.tmp 10) (.tmp 48) (by rfl) (w7.heap.size + 1) 0 (.agg #[.bool false, .int .i64 0, .int .u32 0]) (by rfl) (by rfl) 39 #[.bool false, .int .i64 0, .int .u32 0] #[.bool false, .int .i64 0, .int .u32 0] (K9.out.row 0 rfl) (by simp [Value.cells]) (by kernel_rfl) info_X (by kernel_rfl) ?_; intro w10 hrow hoth hz hbl; have K10 : Hid (EnvB w10 [(A7, n7, f.da), (A2, NL, (layR f).1), (A1, NB, putR f), (A, n, f.da)] [(A8, n8, f.ps), (D, m, f.ps)] [(w7.heap.size + 1, #[.bool false, .int .i64 0, .int .u32 0], 39), (w7.heap.size, #[.int .u8 (f.kd.toNat : Int), .int .u8 (f.fl.toNat : Int), .int .i64 f.st, .slice A7 n7 c7, .int .i64 f.pd, .int .i64 f.la, .int .i64 f.ic, .int .u32 (f.co.toNat : Int), .slice A8 n8 c8, .bool f.rk, .bool f.al, .int .i64 f.dp, .int .u8 (f.wt.toNat : Int)], 28), (w4.heap.size, #[.int .i64 (NL : Int), .int .u8 (f.kd.toNat : Int), .int .u8 (f.fl.toNat : Int), .int .i64 f.st], 35), (w.heap.size, #[.int .u8 (f.kd.toNat : Int), .int .u8 (f.fl.toNat : Int), .int .i64 f.st, .slice A n c, .int .i64 f.pd, .int .i64 f.la, .int .i64 f.ic, .int .u32 (f.co.toNat : Int), .slice D m e, .bool f.rk, .bool f.al, .int .i64 f.dp, .int .u8 (f.wt.toNat : Int)], 28)]) := Lib.hid (K9.out.turn 0 rfl hrow hoth hz); have B10 := Lib.hid (hbl _ _ (Nat.le_succ_of_le leo) B9.out); clear hrow hoth hz hbl K9 B9)
    | ((with_reducible refine at_wp ?_); refine at_load 5 (.tmp 57) (by rfl) ?_; refine wpList_get_g (by rfl) 5 (.tmp 57) (by rfl) (w4.heap.size) 1 (by rfl) 35 #[.int .i64 (NL : Int), .int .u8 (f.kd.toNat : Int), .int .u8 (f.fl.toNat : Int), .int .i64 f.st] (.int .u8 (f.kd.toNat : Int)) _ (K10.out.row 2 rfl) (by rfl) Try.underlying5 (by rfl) ?_)
    | ((with_reducible refine at_wp ?_); refine at_load 5 (.tmp 59) (by rfl) ?_; refine wpList_get_g (by rfl) 5 (.tmp 59) (by rfl) (w.heap.size) 0 (by rfl) 28 #[.int .u8 (f.kd.toNat : Int), .int .u8 (f.fl.toNat : Int), .int .i64 f.st, .slice A n c, .int .i64 f.pd, .int .i64 f.la, .int .i64 f.ic, .int .u32 (f.co.toNat : Int), .slice D m e, .bool f.rk, .bool f.al, .int .i64 f.dp, .int .u8 (f.wt.toNat : Int)] (.int .u8 (f.kd.toNat : Int)) _ (K10.out.row 3 rfl) (by rfl) Try.underlying5 (by rfl) ?_)
    | ((with_reducible refine at_wp ?_); refine at_load 5 (.tmp 64) (by rfl) ?_; refine wpList_get_g (by rfl) 5 (.tmp 64) (by rfl) (w4.heap.size) 2 (by rfl) 35 #[.int .i64 (NL : Int), .int .u8 (f.kd.toNat : Int), .int .u8 (f.fl.toNat : Int), .int .i64 f.st] (.int .u8 (f.fl.toNat : Int)) _ (K10.out.row 2 rfl) (by rfl) Try.underlying5 (by rfl) ?_)
    | ((with_reducible refine at_wp ?_); refine at_load 5 (.tmp 66) (by rfl) ?_; refine wpList_get_g (by rfl) 5 (.tmp 66) (by rfl) (w.heap.size) 1 (by rfl) 28 #[.int .u8 (f.kd.toNat : Int), .int .u8 (f.fl.toNat : Int), .int .i64 f.st, .slice A n c, .int .i64 f.pd, .int .i64 f.la, .int .i64 f.ic, .int .u32 (f.co.toNat : Int), .slice D m e, .bool f.rk, .bool f.al, .int .i64 f.dp, .int .u8 (f.wt.toNat : Int)] (.int .u8 (f.fl.toNat : Int)) _ (K10.out.row 3 rfl) (by rfl) Try.underlying5 (by rfl) ?_)
    | ((with_reducible refine at_wp ?_); refine at_load 3 (.tmp 71) (by rfl) ?_; refine wpList_get_g (by rfl) 3 (.tmp 71) (by rfl) (w4.heap.size) 3 (by rfl) 35 #[.int .i64 (NL : Int), .int .u8 (f.kd.toNat : Int), .int .u8 (f.fl.toNat : Int), .int .i64 f.st] (.int .i64 f.st) _ (K10.out.row 2 rfl) (by rfl) Try.underlying3 (by rfl) ?_)
    | ((with_reducible refine at_wp ?_); refine at_load 3 (.tmp 73) (by rfl) ?_; refine wpList_get_g (by rfl) 3 (.tmp 73) (by rfl) (w.heap.size) 2 (by rfl) 28 #[.int .u8 (f.kd.toNat : Int), .int .u8 (f.fl.toNat : Int), .int .i64 f.st, .slice A n c, .int .i64 f.pd, .int .i64 f.la, .int .i64 f.ic, .int .u32 (f.co.toNat : Int), .slice D m e, .bool f.rk, .bool f.al, .int .i64 f.dp, .int .u8 (f.wt.toNat : Int)] (.int .i64 f.st) _ (K10.out.row 3 rfl) (by rfl) Try.underlying3 (by rfl) ?_)
    | ((with_reducible refine at_wp ?_); refine at_load 23 (.tmp 78) (by rfl) ?_; refine wpList_get_g (by rfl) 23 (.tmp 78) (by rfl) (w7.heap.size + 1) 2 (by rfl) 39 #[.bool false, .int .i64 0, .int .u32 0] (.int .u32 0) _ (K10.out.row 0 rfl) (by rfl) Try.underlying23 (by rfl) ?_)
    | ((with_reducible refine at_wp ?_); refine at_load 28 (.tmp 9) (by rfl) ?_; refine wpList_row_g (by rfl) 28 (.tmp 9) (by rfl) (w7.heap.size) (by rfl) 28 #[.int .u8 (f.kd.toNat : Int), .int .u8 (f.fl.toNat : Int), .int .i64 f.st, .slice A7 n7 c7, .int .i64 f.pd, .int .i64 f.la, .int .i64 f.ic, .int .u32 (f.co.toNat : Int), .slice A8 n8 c8, .bool f.rk, .bool f.al, .int .i64 f.dp, .int .u8 (f.wt.toNat : Int)] _ (K10.out.row 1 rfl) Try.underlying28 (by rfl) info_F ?_)
    | ((with_reducible refine at_wp ?_); refine at_load 28 (.tmp 1) (by rfl) ?_; refine wpList_row_g (by rfl) 28 (.tmp 1) (by rfl) (w.heap.size) (by rfl) 28 #[.int .u8 (f.kd.toNat : Int), .int .u8 (f.fl.toNat : Int), .int .i64 f.st, .slice A n c, .int .i64 f.pd, .int .i64 f.la, .int .i64 f.ic, .int .u32 (f.co.toNat : Int), .slice D m e, .bool f.rk, .bool f.al, .int .i64 f.dp, .int .u8 (f.wt.toNat : Int)] _ (K10.out.row 3 rfl) Try.underlying28 (by rfl) info_F ?_)
    | (go_at_call 16; (refine (m_same f f A7 A A8 D n7 c7 n c n8 c8 m e _ (K10.out.s (A7, n7, f.da) (by simp)).1 (K10.out.s (A, n, f.da) (by simp)).1 (K10.out.p (A8, n8, f.ps) (by simp)).1 (K10.out.p (D, m, f.ps) (by simp)).1 (by rw [HM8.out]; exact hps)).mono ?_); rintro e w11 ⟨rfl, hb⟩; have K11 : Hid (EnvB w11 [(A7, n7, f.da), (A2, NL, (layR f).1), (A1, NB, putR f), (A, n, f.da)] [(A8, n8, f.ps), (D, m, f.ps)] [(w7.heap.size + 1, #[.bool false, .int .i64 0, .int .u32 0], 39), (w7.heap.size, #[.int .u8 (f.kd.toNat : Int), .int .u8 (f.fl.toNat : Int), .int .i64 f.st, .slice A7 n7 c7, .int .i64 f.pd, .int .i64 f.la, .int .i64 f.ic, .int .u32 (f.co.toNat : Int), .slice A8 n8 c8, .bool f.rk, .bool f.al, .int .i64 f.dp, .int .u8 (f.wt.toNat : Int)], 28), (w4.heap.size, #[.int .i64 (NL : Int), .int .u8 (f.kd.toNat : Int), .int .u8 (f.fl.toNat : Int), .int .i64 f.st], 35), (w.heap.size, #[.int .u8 (f.kd.toNat : Int), .int .u8 (f.fl.toNat : Int), .int .i64 f.st, .slice A n c, .int .i64 f.pd, .int .i64 f.la, .int .i64 f.ic, .int .u32 (f.co.toNat : Int), .slice D m e, .bool f.rk, .bool f.al, .int .i64 f.dp, .int .u8 (f.wt.toNat : Int)], 28)]) := Lib.hid (K10.out.on hb); have B11 := Lib.hid (below_step B10.out hb); rw [decide_eq_true (rfl : f = f)]; clear hb K10 B10)
    | (go_at_call 11; (refine (wakes4 _).mono ?_); rintro e w12 ⟨rfl, hb⟩; have K12 : Hid (EnvB w12 [(A7, n7, f.da), (A2, NL, (layR f).1), (A1, NB, putR f), (A, n, f.da)] [(A8, n8, f.ps), (D, m, f.ps)] [(w7.heap.size + 1, #[.bool false, .int .i64 0, .int .u32 0], 39), (w7.heap.size, #[.int .u8 (f.kd.toNat : Int), .int .u8 (f.fl.toNat : Int), .int .i64 f.st, .slice A7 n7 c7, .int .i64 f.pd, .int .i64 f.la, .int .i64 f.ic, .int .u32 (f.co.toNat : Int), .slice A8 n8 c8, .bool f.rk, .bool f.al, .int .i64 f.dp, .int .u8 (f.wt.toNat : Int)], 28), (w4.heap.size, #[.int .i64 (NL : Int), .int .u8 (f.kd.toNat : Int), .int .u8 (f.fl.toNat : Int), .int .i64 f.st], 35), (w.heap.size, #[.int .u8 (f.kd.toNat : Int), .int .u8 (f.fl.toNat : Int), .int .i64 f.st, .slice A n c, .int .i64 f.pd, .int .i64 f.la, .int .i64 f.ic, .int .u32 (f.co.toNat : Int), .slice D m e, .bool f.rk, .bool f.al, .int .i64 f.dp, .int .u8 (f.wt.toNat : Int)], 28)]) := Lib.hid (K11.out.on hb); have B12 := Lib.hid (below_step B11.out hb); clear hb K11 B11))
  go_ret
  exact ⟨rfl, B12.out⟩
theorem back4_any (f : Fr) (A D : Option Addr) (n c m e : Nat) (w : World) (hA : Bs w w.heap.size A n f.da) (hN : A = none → c = 0) (hnc : n ≤ c) (hD : Ps w w.heap.size D m f.ps) : Calls Try.prog 3 #[frv f (.slice A n c) (.slice D m e)] w fun e' w' => e' = .returned (.bool true) ∧ Below w.heap.size w w' := by
  by_cases hg : 3000 < n ∨ 300 < m
  · exact back4_G f A D n c m e w hA hN hnc hD hg
  · by_cases hs : standB f = true
    · exact back4_Y f A D n c m e w hA hN hnc hD hg hs
    · exact back4_N f A D n c m e w hA hN hnc hD hg (by simpa using hs)
end Go.Proofs.Ytgkbjopgmbdnoaa
