import Derived.Test.YtahiajeggbpogaaGreatDoorPkA
set_option maxRecDepth 100000
set_option maxHeartbeats 4000000
namespace Go.Proofs.YtahiajeggbpogaaGreatDoor
open Go.RowKit Go.Shelf Px Tx Tb Up Pk
set_option linter.unusedVariables false
set_option linter.unusedSimpArgs false
attribute [local go_sem] Oper.semAt_some
theorem c_of_w {fs : List Fact} {gs : List Bx} {B : Nat} {L : List UInt8} {k m : Nat} {X : List Fd} (M : Int) (A : Option Addr) (n c : Nat) (xs : List Fd) (g : Nat) (fa fb : List UInt8) (w : World) (hV : EnvF w fs ((g, #[.string ⟨fa.toArray⟩, .string ⟨fb.toArray⟩], 27) :: gs)) (HBz : Hid (B ≤ w.heap.size)) (HO : Hid (oF B 27 (.slice A n c) xs ∈ fs)) (HA : Hid (fF A n xs ∈ fs)) (HN : Hid (A = none → c = 0)) (HS : Hid (stF ∈ fs)) (HR : Hid (rwF ∈ fs)) (HM : Hid (mvF ∈ fs)) (Ha : Hid (fa.length ≤ 10000)) (Hb : Hid (fb.length ≤ 10000)) (Hn : Hid (n ≤ 1000000)) (HF : Hid (full xs ≤ 100000)) (HF1 : Hid (full xs ≤ 1000000)) (Hz : Hid (sz ((⟨fa.toArray⟩, ⟨fb.toArray⟩) : Fd) ≤ 100000)) (Hz1 : Hid (sz ((⟨fa.toArray⟩, ⟨fb.toArray⟩) : Fd) ≤ 1000000)) (HK : Hid (L.length = k)) (i : Nat) (HI : Hid (findI xs (⟨fa.toArray⟩, ⟨fb.toArray⟩) = i)) (HB : Hid (findB xs (⟨fa.toArray⟩, ⟨fb.toArray⟩) = true)) (HL : Hid (putL (i : Int) (7 : Nat) 128 = L)) (HE : Hid (putE (i : Int) (7 : Nat) = 0)) (hm : n = m) (hX : xs = X) :
    Calls Tryz.prog 120 #[.agg #[.int .i64 M, .slice A n c], .pointer (some ⟨g, 0, none⟩)] w fun e w' => ∃ A1 c1 A2 c2, e = .returned (.tuple #[.slice A1 k c1, .agg #[.int .i64 M, .slice A2 m c2], .int .i64 0]) ∧ Below w.heap.size w w' ∧ EnvF w' (bF A1 k L :: oF B 27 (.slice A2 m c2) X :: fF A2 m X :: fs) ((g, #[.string ⟨fa.toArray⟩, .string ⟨fb.toArray⟩], 27) :: gs) ∧ (k ≤ c1 ∧ (A1 = none → c1 = 0)) ∧ (A2 = none → c2 = 0) := by
  subst hm hX
  have K0 := Lib.hid (((hV).boxg 24 #[.int .i64 M, .slice A n c] w.heap.size (by simp)).boxg 24 #[.int .i64 0, .slice none 0 0] (w.heap.size + 1) (by simp))
  have G0 := Lib.hid (((Below.refl w.heap.size w).alloc (by simp) (.cells #[.int .i64 M, .slice A n c] 24)).alloc (by simp) (.cells #[.int .i64 0, .slice none 0 0] 24))
  clear hV
  go_enter Tryz.func120, Tryz.ntmps120
  go_wp2_with (first
    | go_skip
    | (refine at_load 24 (.tmp 2) (by rfl) ?_; refine wpListG_row (by rfl) 24 (.tmp 2) (by rfl) w.heap.size (by rfl) 24 #[.int .i64 M, .slice A n c] _ (K0.out.row 1 rfl) Tryz.underlying24 (by rfl) infoc_T ?_)
    | (refine at_load 27 (.tmp 1) (by rfl) ?_; refine wpListG_row (by rfl) 27 (.tmp 1) (by rfl) g (by rfl) 27 #[.string ⟨fa.toArray⟩, .string ⟨fb.toArray⟩] _ (K0.out.row 2 rfl) Tryz.underlying27 (by rfl) infoc_D ?_)
    | (go_at_call 121; (with_reducible refine (p_find (A := A) (n := n) (xs := xs) _ K0.out (by simp [HS.out]) (by simp [HA.out]) Hn.out HF1.out Hz1.out HI.out HB.out).mono ?_); rintro e w1 ⟨rfl, hb⟩; have K1 := Lib.hid (K0.out.on hb); have G1 := Lib.hid (below_step G0.out hb); clear hb K0 G0)
    | (go_at_call 11; (with_reducible refine (p_put _ K1.out (u_Indexed (i : Int) _ (Up.EnvF.mks K1.out (by simp [HM.out]))) HL.out HE.out HK.out).mono ?_); rintro e w2 ⟨A1, c1, rfl, hb, hE, HA10⟩; have K2 := Lib.hid hE; have HA1 := Lib.hid HA10; have G2 := Lib.hid (below_step G1.out hb); clear hb hE HA10 K1 G1))
  obtain ⟨ct0, ct1⟩ := cells2_row (K2.out.row 1 rfl)
  obtain ⟨cr0, cr1⟩ := cells2_row (K2.out.row 0 rfl)
  have zu0 := frozen_of_row w2 ((w.heap.size + 1)) 0 _ _ (K2.out.row 0 rfl)
  have zu1 := frozen_of_row w2 ((w.heap.size + 1)) 1 _ _ (K2.out.row 0 rfl)
  have hne1 : w.heap.size ≠ (w.heap.size + 1) := by omega
  have hne2 : (w.heap.size + 1) ≠ w.heap.size := by omega
  refine pk_to (fun a w' => ∃ (v0 v1 v2 v6 v7 v8 v9 v10 v11 v12 v13 v14 v15 v16 v17 v18 v19 v20 v21 v22 v23 v24 v25 v26 v27 v28 v29 v30 v31 v32 v33 v34 v35 v36 v37 v38 v39 v40 v41 v42 v43 v44 v45 v46 v47 v48 v49 v50 v51 v52 : Value), a = { tmps := #[v0, v1, v2, .slice A1 k c1, .pointer (some ⟨(w.heap.size + 1), 0, none⟩), .int .i64 0, v6, v7, v8, v9, v10, v11, v12, v13, v14, v15, v16, v17, v18, v19, v20, v21, v22, v23, v24, v25, v26, v27, v28, v29, v30, v31, v32, v33, v34, v35, v36, v37, v38, v39, v40, v41, v42, v43, v44, v45, v46, v47, v48, v49, v50, v51, v52], defers := [] } ∧ w' = (w2.setCells ((w.heap.size + 1)) 0 [.int .i64 M, .slice A n c]).drew) ?_ ?_
  · go_region
    all_goals exact ⟨_, _, _, _, _, _, _, _, _, _, _, _, _, _, _, _, _, _, _, _, _, _, _, _, _, _, _, _, _, _, _, _, _, _, _, _, _, _, _, _, _, _, _, _, _, _, _, _, _, _, rfl, rfl⟩
  rintro a w' ⟨v0, v1, v2, v6, v7, v8, v9, v10, v11, v12, v13, v14, v15, v16, v17, v18, v19, v20, v21, v22, v23, v24, v25, v26, v27, v28, v29, v30, v31, v32, v33, v34, v35, v36, v37, v38, v39, v40, v41, v42, v43, v44, v45, v46, v47, v48, v49, v50, v51, v52, rfl, rfl⟩
  go_wp2
  have KE := (K2.out.setCells 0 rfl [.int .i64 M, .slice A n c] rfl).drew
  exact bodyPost_ret (res_tct rfl _ _ _ _ _ _ rfl (KE.row 0 rfl) Tryz.underlying24 rfl infoc_T) rfl ⟨A1, c1, A, c, rfl, (setCells_below (by omega) _ _ _ _ G2.out).drew, KE.sub (fun y hy => by simp only [List.mem_cons] at hy ⊢; rcases hy with rfl | rfl | rfl | hy <;> simp [HA.out, HO.out, *]) ((List.sublist_cons_self _ _).trans (List.sublist_cons_self _ _)), HA1.out, HN.out⟩
theorem c_of_n {fs : List Fact} {gs : List Bx} {B : Nat} {L : List UInt8} {k m : Nat} {X : List Fd} (M : Int) (A : Option Addr) (n c : Nat) (xs : List Fd) (g : Nat) (fa fb : List UInt8) (w : World) (hV : EnvF w fs ((g, #[.string ⟨fa.toArray⟩, .string ⟨fb.toArray⟩], 27) :: gs)) (HBz : Hid (B ≤ w.heap.size)) (HO : Hid (oF B 27 (.slice A n c) xs ∈ fs)) (HA : Hid (fF A n xs ∈ fs)) (HN : Hid (A = none → c = 0)) (HS : Hid (stF ∈ fs)) (HR : Hid (rwF ∈ fs)) (HM : Hid (mvF ∈ fs)) (Ha : Hid (fa.length ≤ 10000)) (Hb : Hid (fb.length ≤ 10000)) (Hn : Hid (n ≤ 1000000)) (HF : Hid (full xs ≤ 100000)) (HF1 : Hid (full xs ≤ 1000000)) (Hz : Hid (sz ((⟨fa.toArray⟩, ⟨fb.toArray⟩) : Fd) ≤ 100000)) (Hz1 : Hid (sz ((⟨fa.toArray⟩, ⟨fb.toArray⟩) : Fd) ≤ 1000000)) (HK : Hid (L.length = k)) (i : Nat) (HI : Hid (findI xs (⟨fa.toArray⟩, ⟨fb.toArray⟩) = i)) (HB : Hid (findB xs (⟨fa.toArray⟩, ⟨fb.toArray⟩) = false)) {V : Int} (HW : Hid (wy M (⟨fa.toArray⟩, ⟨fb.toArray⟩) = V)) (HL : Hid (oL i ((⟨fa.toArray⟩, ⟨fb.toArray⟩) : Fd) V = L)) (Hi : Hid (i < 2147483648)) (hV1 : (V == 1) = false) (hm : n = m) (hX : xs = X) :
    Calls Tryz.prog 120 #[.agg #[.int .i64 M, .slice A n c], .pointer (some ⟨g, 0, none⟩)] w fun e w' => ∃ A1 c1 A2 c2, e = .returned (.tuple #[.slice A1 k c1, .agg #[.int .i64 M, .slice A2 m c2], .int .i64 0]) ∧ Below w.heap.size w w' ∧ EnvF w' (bF A1 k L :: oF B 27 (.slice A2 m c2) X :: fF A2 m X :: fs) ((g, #[.string ⟨fa.toArray⟩, .string ⟨fb.toArray⟩], 27) :: gs) ∧ (k ≤ c1 ∧ (A1 = none → c1 = 0)) ∧ (A2 = none → c2 = 0) := by
  subst hm hX
  have K0 := Lib.hid (((hV).boxg 24 #[.int .i64 M, .slice A n c] w.heap.size (by simp)).boxg 24 #[.int .i64 0, .slice none 0 0] (w.heap.size + 1) (by simp))
  have G0 := Lib.hid (((Below.refl w.heap.size w).alloc (by simp) (.cells #[.int .i64 M, .slice A n c] 24)).alloc (by simp) (.cells #[.int .i64 0, .slice none 0 0] 24))
  clear hV
  go_enter Tryz.func120, Tryz.ntmps120
  go_wp2_with (first
    | go_skip
    | (refine at_load 24 (.tmp 2) (by rfl) ?_; refine wpListG_row (by rfl) 24 (.tmp 2) (by rfl) w.heap.size (by rfl) 24 #[.int .i64 M, .slice A n c] _ (K0.out.row 1 rfl) Tryz.underlying24 (by rfl) infoc_T ?_)
    | (refine at_load 27 (.tmp 1) (by rfl) ?_; refine wpListG_row (by rfl) 27 (.tmp 1) (by rfl) g (by rfl) 27 #[.string ⟨fa.toArray⟩, .string ⟨fb.toArray⟩] _ (K0.out.row 2 rfl) Tryz.underlying27 (by rfl) infoc_D ?_)
    | (go_at_call 121; (with_reducible refine (p_find (A := A) (n := n) (xs := xs) _ K0.out (by simp [HS.out]) (by simp [HA.out]) Hn.out HF1.out Hz1.out HI.out HB.out).mono ?_); rintro e w1 ⟨rfl, hb⟩; have K1 := Lib.hid (K0.out.on hb); have G1 := Lib.hid (below_step G0.out hb); clear hb K0 G0)
    | (refine at_load 24 (.tmp 2) (by rfl) ?_; refine wpListG_row (by rfl) 24 (.tmp 2) (by rfl) w.heap.size (by rfl) 24 #[.int .i64 M, .slice A n c] _ (K1.out.row 1 rfl) Tryz.underlying24 (by rfl) infoc_T ?_)
    | (refine at_load 27 (.tmp 1) (by rfl) ?_; refine wpListG_row (by rfl) 27 (.tmp 1) (by rfl) g (by rfl) 27 #[.string ⟨fa.toArray⟩, .string ⟨fb.toArray⟩] _ (K1.out.row 2 rfl) Tryz.underlying27 (by rfl) infoc_D ?_)
    | (go_at_call 122; (with_reducible refine (p_way M A n c ⟨fa.toArray⟩ ⟨fb.toArray⟩ _ Hz.out HW.out).mono ?_); rintro e w2 ⟨rfl, hb⟩; have K2 := Lib.hid (K1.out.on hb); have G2 := Lib.hid (below_step G1.out hb); clear hb K1 G1)
    | (refine at_load 27 (.tmp 1) (by rfl) ?_; refine wpListG_row (by rfl) 27 (.tmp 1) (by rfl) g (by rfl) 27 #[.string ⟨fa.toArray⟩, .string ⟨fb.toArray⟩] _ (K2.out.row 2 rfl) Tryz.underlying27 (by rfl) infoc_D ?_)
    | (go_at_call 123; (with_reducible refine (p_own i V fa fb _ K2.out (by simp [HR.out]) (by simp [HM.out]) Ha.out Hb.out Hi.out HL.out HK.out).mono ?_); rintro e w3 ⟨A1, c1, rfl, hb, hE, HA10⟩; have K3 := Lib.hid hE; have HA1 := Lib.hid HA10; have G3 := Lib.hid (below_step G2.out hb); clear hb hE HA10 K2 G2))
  obtain ⟨ct0, ct1⟩ := cells2_row (K3.out.row 1 rfl)
  obtain ⟨cr0, cr1⟩ := cells2_row (K3.out.row 0 rfl)
  have zu0 := frozen_of_row w3 ((w.heap.size + 1)) 0 _ _ (K3.out.row 0 rfl)
  have zu1 := frozen_of_row w3 ((w.heap.size + 1)) 1 _ _ (K3.out.row 0 rfl)
  have hne1 : w.heap.size ≠ (w.heap.size + 1) := by omega
  have hne2 : (w.heap.size + 1) ≠ w.heap.size := by omega
  refine pk_to (fun a w' => ∃ (v0 v1 v2 v6 v7 v8 v9 v10 v11 v12 v13 v14 v15 v16 v17 v18 v19 v20 v21 v22 v23 v24 v25 v26 v27 v28 v29 v30 v31 v32 v33 v34 v35 v36 v37 v38 v39 v40 v41 v42 v43 v44 v45 v46 v47 v48 v49 v50 v51 v52 : Value), a = { tmps := #[v0, v1, v2, .slice A1 k c1, .pointer (some ⟨(w.heap.size + 1), 0, none⟩), .int .i64 0, v6, v7, v8, v9, v10, v11, v12, v13, v14, v15, v16, v17, v18, v19, v20, v21, v22, v23, v24, v25, v26, v27, v28, v29, v30, v31, v32, v33, v34, v35, v36, v37, v38, v39, v40, v41, v42, v43, v44, v45, v46, v47, v48, v49, v50, v51, v52], defers := [] } ∧ w' = (w3.setCells ((w.heap.size + 1)) 0 [.int .i64 M, .slice A n c]).drew) ?_ ?_
  · go_region
    all_goals exact ⟨_, _, _, _, _, _, _, _, _, _, _, _, _, _, _, _, _, _, _, _, _, _, _, _, _, _, _, _, _, _, _, _, _, _, _, _, _, _, _, _, _, _, _, _, _, _, _, _, _, _, rfl, rfl⟩
  rintro a w' ⟨v0, v1, v2, v6, v7, v8, v9, v10, v11, v12, v13, v14, v15, v16, v17, v18, v19, v20, v21, v22, v23, v24, v25, v26, v27, v28, v29, v30, v31, v32, v33, v34, v35, v36, v37, v38, v39, v40, v41, v42, v43, v44, v45, v46, v47, v48, v49, v50, v51, v52, rfl, rfl⟩
  go_wp2
  have KE := (K3.out.setCells 0 rfl [.int .i64 M, .slice A n c] rfl).drew
  exact bodyPost_ret (res_tct rfl _ _ _ _ _ _ rfl (KE.row 0 rfl) Tryz.underlying24 rfl infoc_T) rfl ⟨A1, c1, A, c, rfl, (setCells_below (by omega) _ _ _ _ G3.out).drew, KE.sub (fun y hy => by simp only [List.mem_cons] at hy ⊢; rcases hy with rfl | rfl | rfl | hy <;> simp [HA.out, HO.out, *]) ((List.sublist_cons_self _ _).trans (List.sublist_cons_self _ _)), HA1.out, HN.out⟩
theorem c_of_a {fs : List Fact} {gs : List Bx} {B : Nat} {L : List UInt8} {k m : Nat} {X : List Fd} (M : Int) (A : Option Addr) (n c : Nat) (xs : List Fd) (g : Nat) (fa fb : List UInt8) (w : World) (hV : EnvF w fs ((g, #[.string ⟨fa.toArray⟩, .string ⟨fb.toArray⟩], 27) :: gs)) (HBz : Hid (B ≤ w.heap.size)) (HO : Hid (oF B 27 (.slice A n c) xs ∈ fs)) (HA : Hid (fF A n xs ∈ fs)) (HN : Hid (A = none → c = 0)) (HS : Hid (stF ∈ fs)) (HR : Hid (rwF ∈ fs)) (HM : Hid (mvF ∈ fs)) (Ha : Hid (fa.length ≤ 10000)) (Hb : Hid (fb.length ≤ 10000)) (Hn : Hid (n ≤ 1000000)) (HF : Hid (full xs ≤ 100000)) (HF1 : Hid (full xs ≤ 1000000)) (Hz : Hid (sz ((⟨fa.toArray⟩, ⟨fb.toArray⟩) : Fd) ≤ 100000)) (Hz1 : Hid (sz ((⟨fa.toArray⟩, ⟨fb.toArray⟩) : Fd) ≤ 1000000)) (HK : Hid (L.length = k)) (i : Nat) (HI : Hid (findI xs (⟨fa.toArray⟩, ⟨fb.toArray⟩) = i)) (HB : Hid (findB xs (⟨fa.toArray⟩, ⟨fb.toArray⟩) = false)) (HW : Hid (wy M (⟨fa.toArray⟩, ⟨fb.toArray⟩) = 1)) (HL : Hid (oL i ((⟨fa.toArray⟩, ⟨fb.toArray⟩) : Fd) 1 = L)) (Hi : Hid (i < 2147483648)) (H1 : Hid (addM M xs = M)) (H2 : Hid (addE M xs = 0)) (H3 : Hid (addL M xs (⟨fa.toArray⟩, ⟨fb.toArray⟩) = X)) (H4 : Hid (X.length = m)) :
    Calls Tryz.prog 120 #[.agg #[.int .i64 M, .slice A n c], .pointer (some ⟨g, 0, none⟩)] w fun e w' => ∃ A1 c1 A2 c2, e = .returned (.tuple #[.slice A1 k c1, .agg #[.int .i64 M, .slice A2 m c2], .int .i64 0]) ∧ Below w.heap.size w w' ∧ EnvF w' (bF A1 k L :: oF B 27 (.slice A2 m c2) X :: fF A2 m X :: fs) ((g, #[.string ⟨fa.toArray⟩, .string ⟨fb.toArray⟩], 27) :: gs) ∧ (k ≤ c1 ∧ (A1 = none → c1 = 0)) ∧ (A2 = none → c2 = 0) := by
  have K0 := Lib.hid (((hV).boxg 24 #[.int .i64 M, .slice A n c] w.heap.size (by simp)).boxg 24 #[.int .i64 0, .slice none 0 0] (w.heap.size + 1) (by simp))
  have G0 := Lib.hid (((Below.refl w.heap.size w).alloc (by simp) (.cells #[.int .i64 M, .slice A n c] 24)).alloc (by simp) (.cells #[.int .i64 0, .slice none 0 0] 24))
  clear hV
  go_enter Tryz.func120, Tryz.ntmps120
  go_wp2_with (first
    | go_skip
    | (refine at_load 24 (.tmp 2) (by rfl) ?_; refine wpListG_row (by rfl) 24 (.tmp 2) (by rfl) w.heap.size (by rfl) 24 #[.int .i64 M, .slice A n c] _ (K0.out.row 1 rfl) Tryz.underlying24 (by rfl) infoc_T ?_)
    | (refine at_load 27 (.tmp 1) (by rfl) ?_; refine wpListG_row (by rfl) 27 (.tmp 1) (by rfl) g (by rfl) 27 #[.string ⟨fa.toArray⟩, .string ⟨fb.toArray⟩] _ (K0.out.row 2 rfl) Tryz.underlying27 (by rfl) infoc_D ?_)
    | (go_at_call 121; (with_reducible refine (p_find (A := A) (n := n) (xs := xs) _ K0.out (by simp [HS.out]) (by simp [HA.out]) Hn.out HF1.out Hz1.out HI.out HB.out).mono ?_); rintro e w1 ⟨rfl, hb⟩; have K1 := Lib.hid (K0.out.on hb); have G1 := Lib.hid (below_step G0.out hb); clear hb K0 G0)
    | (refine at_load 24 (.tmp 2) (by rfl) ?_; refine wpListG_row (by rfl) 24 (.tmp 2) (by rfl) w.heap.size (by rfl) 24 #[.int .i64 M, .slice A n c] _ (K1.out.row 1 rfl) Tryz.underlying24 (by rfl) infoc_T ?_)
    | (refine at_load 27 (.tmp 1) (by rfl) ?_; refine wpListG_row (by rfl) 27 (.tmp 1) (by rfl) g (by rfl) 27 #[.string ⟨fa.toArray⟩, .string ⟨fb.toArray⟩] _ (K1.out.row 2 rfl) Tryz.underlying27 (by rfl) infoc_D ?_)
    | (go_at_call 122; (with_reducible refine (p_way M A n c ⟨fa.toArray⟩ ⟨fb.toArray⟩ _ Hz.out HW.out).mono ?_); rintro e w2 ⟨rfl, hb⟩; have K2 := Lib.hid (K1.out.on hb); have G2 := Lib.hid (below_step G1.out hb); clear hb K1 G1)
    | (refine at_load 27 (.tmp 1) (by rfl) ?_; refine wpListG_row (by rfl) 27 (.tmp 1) (by rfl) g (by rfl) 27 #[.string ⟨fa.toArray⟩, .string ⟨fb.toArray⟩] _ (K2.out.row 2 rfl) Tryz.underlying27 (by rfl) infoc_D ?_)
    | (go_at_call 123; (with_reducible refine (p_own i 1 fa fb _ K2.out (by simp [HR.out]) (by simp [HM.out]) Ha.out Hb.out Hi.out HL.out HK.out).mono ?_); rintro e w3 ⟨A1, c1, rfl, hb, hE, HA10⟩; have K3 := Lib.hid hE; have HA1 := Lib.hid HA10; have G3 := Lib.hid (below_step G2.out hb); clear hb hE HA10 K2 G2)
    | (refine at_load 24 (.tmp 2) (by rfl) ?_; refine wpListG_row (by rfl) 24 (.tmp 2) (by rfl) w.heap.size (by rfl) 24 #[.int .i64 M, .slice A n c] _ (K3.out.row 1 rfl) Tryz.underlying24 (by rfl) infoc_T ?_)
    | (refine at_load 27 (.tmp 1) (by rfl) ?_; refine wpListG_row (by rfl) 27 (.tmp 1) (by rfl) g (by rfl) 27 #[.string ⟨fa.toArray⟩, .string ⟨fb.toArray⟩] _ (K3.out.row 2 rfl) Tryz.underlying27 (by rfl) infoc_D ?_; have HZ0 : Hid (B ≤ w3.heap.size) := Lib.hid (Nat.le_trans HBz.out G3.out.size))
    | (go_at_call 88; (with_reducible refine (p_add (B := B) (A := A) (n := n) (xs := xs) _ K3.out HZ0.out (by simp [HA.out]) HN.out HF.out Hz.out H1.out H2.out H3.out H4.out).mono ?_); rintro e w4 ⟨A2, c2, rfl, hb, hE, HA20⟩; have K4 := Lib.hid hE; have HA2 := Lib.hid HA20; have G4 := Lib.hid (below_step G3.out hb); clear hb hE HA20 K3 G3)
    | (refine at_store 24 (.tmp 2) (.tmp 48) (by rfl) ?_; refine wpList_put (by rfl) 24 (.tmp 2) (.tmp 48) (by rfl) w.heap.size 0 (.agg #[.int .i64 M, .slice A2 m c2]) (by rfl) (by rfl) 24 #[.int .i64 M, .slice A n c] #[.int .i64 M, .slice A2 m c2] (K4.out.row 1 rfl) (by simp [Value.cells]) (by kernel_rfl) infoc_T (by kernel_rfl) ?_; intro w5 hrow hoth hz hbl; have K5 := Lib.hid (K4.out.turn 1 rfl hrow hoth hz); have G5 := Lib.hid (hbl _ _ (by omega) G4.out); clear hrow hoth hz hbl K4 G4))
  obtain ⟨ct0, ct1⟩ := cells2_row (K5.out.row 1 rfl)
  obtain ⟨cr0, cr1⟩ := cells2_row (K5.out.row 0 rfl)
  have zu0 := frozen_of_row w5 ((w.heap.size + 1)) 0 _ _ (K5.out.row 0 rfl)
  have zu1 := frozen_of_row w5 ((w.heap.size + 1)) 1 _ _ (K5.out.row 0 rfl)
  have hne1 : w.heap.size ≠ (w.heap.size + 1) := by omega
  have hne2 : (w.heap.size + 1) ≠ w.heap.size := by omega
  refine pk_to (fun a w' => ∃ (v0 v1 v2 v6 v7 v8 v9 v10 v11 v12 v13 v14 v15 v16 v17 v18 v19 v20 v21 v22 v23 v24 v25 v26 v27 v28 v29 v30 v31 v32 v33 v34 v35 v36 v37 v38 v39 v40 v41 v42 v43 v44 v45 v46 v47 v48 v49 v50 v51 v52 : Value), a = { tmps := #[v0, v1, v2, .slice A1 k c1, .pointer (some ⟨(w.heap.size + 1), 0, none⟩), .int .i64 0, v6, v7, v8, v9, v10, v11, v12, v13, v14, v15, v16, v17, v18, v19, v20, v21, v22, v23, v24, v25, v26, v27, v28, v29, v30, v31, v32, v33, v34, v35, v36, v37, v38, v39, v40, v41, v42, v43, v44, v45, v46, v47, v48, v49, v50, v51, v52], defers := [] } ∧ w' = (w5.setCells ((w.heap.size + 1)) 0 [.int .i64 M, .slice A2 m c2]).drew) ?_ ?_
  · go_region
    all_goals exact ⟨_, _, _, _, _, _, _, _, _, _, _, _, _, _, _, _, _, _, _, _, _, _, _, _, _, _, _, _, _, _, _, _, _, _, _, _, _, _, _, _, _, _, _, _, _, _, _, _, _, _, rfl, rfl⟩
  rintro a w' ⟨v0, v1, v2, v6, v7, v8, v9, v10, v11, v12, v13, v14, v15, v16, v17, v18, v19, v20, v21, v22, v23, v24, v25, v26, v27, v28, v29, v30, v31, v32, v33, v34, v35, v36, v37, v38, v39, v40, v41, v42, v43, v44, v45, v46, v47, v48, v49, v50, v51, v52, rfl, rfl⟩
  go_wp2
  have KE := (K5.out.setCells 0 rfl [.int .i64 M, .slice A2 m c2] rfl).drew
  exact bodyPost_ret (res_tct rfl _ _ _ _ _ _ rfl (KE.row 0 rfl) Tryz.underlying24 rfl infoc_T) rfl ⟨A1, c1, A2, c2, rfl, (setCells_below (by omega) _ _ _ _ G5.out).drew, KE.sub (fun y hy => by simp only [List.mem_cons] at hy ⊢; rcases hy with rfl | rfl | rfl | hy <;> simp [*]) ((List.sublist_cons_self _ _).trans (List.sublist_cons_self _ _)), HA1.out, HA2.out⟩
theorem c_of1 {fs : List Fact} {gs : List Bx} {B : Nat} {L : List UInt8} {k m : Nat} {X : List Fd} (M : Int) (A : Option Addr) (n c : Nat) (xs : List Fd) (g : Nat) (f : Fd) (w : World) (hV : EnvF w fs ((g, #[.string f.1, .string f.2], 27) :: gs)) (hBz : B ≤ w.heap.size) (hO : oF B 27 (.slice A n c) xs ∈ fs) (hA : fF A n xs ∈ fs) (hN : A = none → c = 0) (hS : stF ∈ fs) (hR : rwF ∈ fs) (hM : mvF ∈ fs) (hz : sz f ≤ 7000) (hr : rightB M xs = true) (hL : fB M xs f = L) (hX : fX M xs f = X) (hk : L.length = k) (hm : X.length = m) :
    Calls Tryz.prog 120 #[.agg #[.int .i64 M, .slice A n c], .pointer (some ⟨g, 0, none⟩)] w fun e w' => ∃ A1 c1 A2 c2, e = .returned (.tuple #[.slice A1 k c1, .agg #[.int .i64 M, .slice A2 m c2], .int .i64 0]) ∧ Below w.heap.size w w' ∧ EnvF w' (bF A1 k L :: oF B 27 (.slice A2 m c2) X :: fF A2 m X :: fs) ((g, #[.string f.1, .string f.2], 27) :: gs) ∧ (k ≤ c1 ∧ (A1 = none → c1 = 0)) ∧ (A2 = none → c2 = 0) := by
  obtain ⟨fa, fb, rfl⟩ := fd_form f
  obtain ⟨h0, h1, h2⟩ := okB_of hr
  have hln := full_len xs
  have hi := findI_le xs (⟨fa.toArray⟩, ⟨fb.toArray⟩)
  have hnl := (hV.fs hA).1
  have hzz := la_sz ((⟨fa.toArray⟩, ⟨fb.toArray⟩) : Fd)
  rw [la_of, lb_of] at hzz
  have ha : Hid (fa.length ≤ 10000) := Lib.hid (by omega)
  have hb : Hid (fb.length ≤ 10000) := Lib.hid (by omega)
  have q1 : Hid (n ≤ 1000000) := Lib.hid (by omega)
  have q2 : Hid (full xs ≤ 100000) := Lib.hid (by omega)
  have q3 : Hid (full xs ≤ 1000000) := Lib.hid (by omega)
  have q4 : Hid (sz ((⟨fa.toArray⟩, ⟨fb.toArray⟩) : Fd) ≤ 100000) := Lib.hid (by omega)
  have q5 : Hid (sz ((⟨fa.toArray⟩, ⟨fb.toArray⟩) : Fd) ≤ 1000000) := Lib.hid (by omega)
  by_cases hf : findB xs (⟨fa.toArray⟩, ⟨fb.toArray⟩) = true
  · unfold fB at hL
    unfold fX at hX
    rw [if_pos hf] at hL hX
    exact c_of_w M A n c xs g fa fb w hV (Lib.hid hBz) (Lib.hid hO) (Lib.hid hA) (Lib.hid hN) (Lib.hid hS) (Lib.hid hR) (Lib.hid hM) ha hb q1 q2 q3 q4 q5 (Lib.hid hk) _ (Lib.hid rfl) (Lib.hid hf) (Lib.hid hL) (Lib.hid (putE_small (by omega) (by omega))) (by rw [← hm, ← hX]; exact hnl.symm) hX
  · unfold fB at hL
    unfold fX at hX
    rw [if_neg hf] at hL hX
    have hf' : findB xs (⟨fa.toArray⟩, ⟨fb.toArray⟩) = false := by simpa using hf
    by_cases hw : wy M (⟨fa.toArray⟩, ⟨fb.toArray⟩) = 1
    · rw [if_pos hw] at hX
      rw [hw] at hL
      exact c_of_a M A n c xs g fa fb w hV (Lib.hid hBz) (Lib.hid hO) (Lib.hid hA) (Lib.hid hN) (Lib.hid hS) (Lib.hid hR) (Lib.hid hM) ha hb q1 q2 q3 q4 q5 (Lib.hid hk) _ (Lib.hid rfl) (Lib.hid hf') (Lib.hid hw) (Lib.hid hL) (Lib.hid (by omega)) (Lib.hid (if_pos hr)) (Lib.hid (if_pos hr)) (Lib.hid ((if_pos hr).trans hX)) (Lib.hid hm)
    · rw [if_neg hw] at hX
      exact c_of_n M A n c xs g fa fb w hV (Lib.hid hBz) (Lib.hid hO) (Lib.hid hA) (Lib.hid hN) (Lib.hid hS) (Lib.hid hR) (Lib.hid hM) ha hb q1 q2 q3 q4 q5 (Lib.hid hk) _ (Lib.hid rfl) (Lib.hid hf') (Lib.hid rfl) (Lib.hid hL) (Lib.hid (by omega)) (by rw [beq_eq_false_iff_ne]; exact hw) (by rw [← hm, ← hX]; exact hnl.symm) hX
theorem c_of (a b : ByteArray) (w : World) : Calls Tryz.prog 102 #[.agg #[.string a, .string b]] w fun e w' =>
      e = .returned (.func (.func 120) #[] #[.pointer (some ⟨w.heap.size, 0, none⟩)]) ∧ w.alloc (.cells #[.string a, .string b] 27) = w' := by
  go_enter Tryz.func102, Tryz.ntmps102
  go_wp2
  go_ret
  exact ⟨rfl, rfl⟩
theorem c_tellings (A : Option Addr) (n c : Nat) (w : World) : Calls Tryz.prog 80 #[.slice A n c] w fun e w' =>
      e = .returned (.func (.func 101) #[] #[.pointer (some ⟨w.heap.size, 0, none⟩)]) ∧ w.alloc (.cells #[.slice A n c] 22) = w' := by
  go_enter Tryz.func80, Tryz.ntmps80
  go_wp2
  go_ret
  exact ⟨rfl, rfl⟩
end Go.Proofs.YtahiajeggbpogaaGreatDoor
