/- The document's own answers of layer 2: Put, Take, Whole. -/
import Derived.Test.YtbflhphjnmhjhaaGreatMg
import Derived.Test.YtbflhphjnmhjhaaGreatMo
import Derived.Test.YtbflhphjnmhjhaaGreatGApp
namespace Go.Proofs.YtbflhphjnmhjhaaGreat
open Go.RowKit Oct

theorem rput3 (L : Nat) (w : World) (h : L < 16777216) :
    Calls Tryz.prog 53 #[.int .i64 L, .int .i64 3] w fun e w' => ∃ v, e = .returned (.tuple #[v, .int .i64 0]) ∧ OwnB w' w.heap.size 5 v (putB L 3) ∧ Below w.heap.size w w' :=
  rput_ok L 3 w (by omega) (by omega) (by omega) (by have e : (256 : Int) ^ (3 : Int).toNat = 16777216 := by decide
                                                     rw [e]; omega)
theorem rput4 (L : Nat) (w : World) (h : L < 2147483648) :
    Calls Tryz.prog 53 #[.int .i64 L, .int .i64 4] w fun e w' => ∃ v, e = .returned (.tuple #[v, .int .i64 0]) ∧ OwnB w' w.heap.size 5 v (putB L 4) ∧ Below w.heap.size w w' :=
  rput_ok L 4 w (by omega) (by omega) (by omega) (by have e : (256 : Int) ^ (4 : Int).toNat = 4294967296 := by decide
                                                     rw [e]; omega)
theorem headB_yes {L S : Int} (h : HeadIn L S) : headB L S = true := decide_eq_true h
theorem headB_no {L S : Int} (h : ¬ HeadIn L S) : headB L S = false := decide_eq_false h
theorem rhput_no (L K F S : Int) (w : World) (h : ¬ HeadIn L S) :
    Calls Tryz.prog 31 #[.agg #[.int .i64 L, .int .u8 K, .int .u8 F, .int .i64 S]] w fun e w' => e = .returned (.tuple #[.slice none 0 0, .int .i64 2]) ∧ Below w.heap.size w w' := by
  have hh := headB_no h
  go_enter Tryz.func31, Tryz.ntmps31
  go_wp2_with (go_at_call 22; refine (rright_any _ _ _ _ _).mono ?_; rintro e w1 ⟨rfl, hb1⟩; rw [hh])
  go_ret2
  exact ⟨rfl, ((Below.refl _ _).alloc (Nat.le_refl _) _).trans (hb1.mono (by simp))⟩
set_option maxRecDepth 100000 in
set_option maxHeartbeats 1000000 in
theorem rhput_yes (L S : Nat) (K F : UInt8) (w : World) (hL : L < 16777216) (hS : S < 2147483648) :
    Calls Tryz.prog 31 #[.agg #[.int .i64 L, .int .u8 K.toNat, .int .u8 F.toNat, .int .i64 S]] w fun e w' => ∃ v, e = .returned (.tuple #[v, .int .i64 0]) ∧ OwnB w' w.heap.size 5 v (hdBytes L K F S) ∧ Below w.heap.size w w' := by
  have hh := headB_yes (L := L) (S := S) ⟨by omega, by omega, by omega, by omega⟩
  obtain ⟨i0, hi, hz0, hz1, hz2⟩ := info_parts info_u8
  have hinf := Lib.hid (And.intro hi (And.intro hz0 (And.intro hz1 hz2)))
  clear hi hz0 hz1 hz2
  have HC0 := Lib.hid (Four.new w 23 (.int .i64 L) (.int .u8 K.toNat) (.int .u8 F.toNat) (.int .i64 S))
  have hB0 : Below w.heap.size w (w.alloc (.cells #[.int .i64 L, .int .u8 K.toNat, .int .u8 F.toNat, .int .i64 S] 23)) := (Below.refl _ _).alloc (Nat.le_refl _) _
  go_enter Tryz.func31, Tryz.ntmps31
  go_wp2_with (first
    | (go_at_call 22; refine (rright_any _ _ _ _ _).mono ?_; rintro e w1 ⟨rfl, hb1⟩; rw [hh]; have hz1 := hb1.size; rw [World.size_alloc] at hz1; have hF1 := HC0.out.below hb1 (by rw [World.size_alloc]; omega); have HC1 := Lib.hid hF1; obtain ⟨c0, c1, c2, c3⟩ := hF1; clear HC0)
    | (go_at_call 53; (with_reducible refine (rput3 L _ hL).mono ?_); rintro e w2 ⟨v2, rfl, ho2, hb2⟩; obtain ⟨A2, k2, rfl, hk2, hn2, hr2⟩ := ho2.form2 (putB_length _ _); have HO2 := Lib.hid ho2; clear ho2 hr2; have hz2 := hb2.size; have hF2 := HC1.out.below hb2 (by omega); have HC2 := Lib.hid hF2; obtain ⟨d0, d1, d2, d3⟩ := hF2; clear HC1)
    | (go_at_call 53; (with_reducible refine (rput4 S _ hS).mono ?_); rintro e w3 ⟨v3, rfl, ho3, hb3⟩; obtain ⟨A3, k3, rfl, hk3, hn3, hr3⟩ := ho3.form2 (putB_length _ _); have HN3 := Lib.hid hn3; have HR3 := Lib.hid hr3; have HO3 := Lib.hid ho3; clear ho3 hr3; have hz3 := hb3.size; have hF3 := HC2.out.below hb3 (by omega); have HC3 := Lib.hid hF3; obtain ⟨e0, e1, e2, e3⟩ := hF3; clear HC2; have HP2 := Lib.hid (HO2.out.kept hb3))
    | (at_builtin; refine wpList_append_at _ rfl (.tmp 23) (.tmp 28) 24 rfl w1.heap.size 5 i0 Tryz.underlying24 hinf.out.1 hinf.out.2.1 hinf.out.2.2.1 hinf.out.2.2.2 _ (putB L 3) rfl (HP2.out.alloc _) _ _ 2 2 [K, F] rfl (bs_lit _ _ [K, F] _ _ rfl (by simp [bv])) (fun h => by cases h) (by rw [putB_length]; omega) (by simp; omega) ?_; intro v4 w4 hown4 hb4 hg4; have HO4 := Lib.hid hown4; clear hown4; have HG4 := Lib.hid hg4; clear hg4; have HR4 := Lib.hid (Bs.grown (HR3.out.alloc (Nat.le_refl _) _) HG4.out (by simp) (fun b o e e2 => by have h1 := HO2.out.block e2; have h2 := HO3.out.addr e; omega)))
    | (at_builtin; refine wpList_append_at _ rfl (.tmp 29) (.tmp 30) 24 rfl w1.heap.size 5 i0 Tryz.underlying24 hinf.out.1 hinf.out.2.1 hinf.out.2.2.1 hinf.out.2.2.2 _ (putB L 3 ++ [K, F]) rfl HO4.out _ A3 4 k3 (putB S 4) rfl HR4.out HN3.out (by simp [putB_length]) (Nat.le_trans (Nat.le_trans hz2 hz3) (Nat.le_trans (by simp) hb4.size)) ?_; intro v5 w5 hown5 hb5 hg5; clear hg5))
  go_ret2
  have hsz3 : w1.heap.size ≤ w3.heap.size := Nat.le_trans hz2 hz3
  have hbx : Below w1.heap.size w1 w3 := hb2.trans (hb3.mono hz2)
  have hby : Below w1.heap.size w1 w5 := (hbx.alloc hsz3 _).trans (hb4.trans hb5)
  refine ⟨_, rfl, ?_, hB0.trans ((hb1.mono (by simp)).trans (hby.mono (by omega)))⟩
  have h := hown5.less (B' := w.heap.size) (by omega)
  rwa [List.append_assoc] at h
theorem rhput_tot (L S : Int) (K F : UInt8) (w : World) :
    Calls Tryz.prog 31 #[.agg #[.int .i64 L, .int .u8 K.toNat, .int .u8 F.toNat, .int .i64 S]] w fun e w' => ∃ v, e = .returned (.tuple #[v, .int .i64 (hpE L S)]) ∧ OwnB w' w.heap.size 5 v (hpV L K F S) ∧ Below w.heap.size w w' := by
  unfold hpE hpV
  by_cases h : HeadIn L S
  · simp only [if_pos h]
    obtain ⟨h1, h2, h3, h4⟩ := h
    obtain ⟨L, rfl⟩ := Int.eq_ofNat_of_zero_le h1
    obtain ⟨S, rfl⟩ := Int.eq_ofNat_of_zero_le h3
    exact rhput_yes L S K F w (by omega) (by omega)
  · simp only [if_neg h]
    refine (rhput_no _ _ _ _ w h).mono ?_
    rintro e w' ⟨rfl, hb⟩
    exact ⟨_, rfl, OwnB.nil_ _ _ _, hb⟩
end Go.Proofs.YtbflhphjnmhjhaaGreat
