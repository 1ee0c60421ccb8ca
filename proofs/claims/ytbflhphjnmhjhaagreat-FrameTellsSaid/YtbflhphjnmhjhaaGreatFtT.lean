/- FrameTells: the document's Right in one, and its Put. -/
import Derived.Test.YtbflhphjnmhjhaaGreatFtS
import Derived.Test.YtbflhphjnmhjhaaGreatHdF
namespace Go.Proofs.YtbflhphjnmhjhaaGreat
open Go.RowKit Oct Fi Fm
set_option linter.unusedVariables false
set_option linter.unusedSimpArgs false
namespace Fm
theorem putV4_len (x : Int) : (putV x 4).length ≤ 4 := by
  unfold putV
  split <;> simp [putB_length]
theorem padV_len (xs : List UInt8) (K : Int) : (padV xs K).length ≤ xs.length + 256 := by
  unfold padV
  split
  · rename_i h
    obtain ⟨h1, h2⟩ := h
    simp
    omega
  · simp
theorem payB_len (f : Fr) (h1 : f.da.length ≤ 8900) (h2 : f.ps.length ≤ 10000) : (payB f).length ≤ 99000 := by
  have e1 := prV_5 f.al f.dp f.wt
  have e2 := ppV_len f.ps
  have e3 := putV4_len (fourN f)
  have e4 := putV4_len f.la
  unfold payB
  repeat' split
  all_goals first | omega | (simp only [List.length_append]; omega)
theorem payV_len (f : Fr) (h1 : f.da.length ≤ 8900) (h2 : f.ps.length ≤ 10000) : (payV f).length ≤ 100000 := by
  have e1 := payB_len f h1 h2
  have e2 := padV_len (payB f) (wrap64 (f.pd - 1))
  unfold payV
  split <;> omega
end Fm
theorem m_right (f : Fr) (A D : Option Addr) (n c m e : Nat) (w : World) (hA : Bs w w.heap.size A n f.da) (hN : A = none → c = 0) (hn : n ≤ 8900) (hD : Ps w w.heap.size D m f.ps) (hm : m ≤ 10000) :
    Calls Tryz.prog 13 #[.agg (fra f A n c D m e)] w fun e' w' => e' = .returned (.bool (rightB f)) ∧ Below w.heap.size w w' := by
  have hpl := payV_len f (by rw [hA.1]; omega) (by rw [hD.1]; omega)
  have HPY := Lib.hid (pay_to f A D n c m e hN (by omega) hm)
  have hw := parseR_ways f.kd f.fl f.st (payV f)
  unfold rightB
  generalize hq : parseR f.kd f.fl f.st (payV f) = r at hw
  obtain ⟨d, xb, xs, xc⟩ := r
  have hdoc := doc_to f hpl d xb xs xc hq
  simp only at hw
  rcases hw with h | ⟨h, h'⟩ | h
  · subst h
    rw [show decide ((d, true, xs, xc) = (f, fine)) = false from decide_eq_false (fun e => by cases e)]
    exact m_right_W f A D n c m e _ d w hA hD hm HPY xs _ (Lib.hid hdoc)
  · subst h
    rw [show decide ((d, false, xs, xc) = (f, fine)) = false from decide_eq_false (fun e => by cases e; exact h' rfl)]
    exact m_right_F f A D n c m e _ d w hA hD hm HPY xs _ (by simpa using h') (Lib.hid hdoc)
  · cases h
    have e2 : decide ((d, fine) = (f, fine)) = decide (f = d) := by
      by_cases g : f = d
      · subst g; simp
      · rw [decide_eq_false g]; exact decide_eq_false (fun e => g (Prod.mk.inj e).1.symm)
    have e3 : decide ((d, false, (0 : Int), (0 : Nat)) = (f, fine)) = decide (f = d) := e2
    first | rw [e3] | rw [e2]
    by_cases g : f = d
    · rw [decide_eq_true g]
      exact m_right_Y f A D n c m e _ d w hA hD hm HPY (decide_eq_true g) (Lib.hid hdoc)
    · rw [decide_eq_false g]
      exact m_right_N f A D n c m e _ d w hA hD hm HPY (decide_eq_false g) (Lib.hid hdoc)
set_option maxRecDepth 100000 in
set_option maxHeartbeats 4000000 in
theorem m_put_N (f : Fr) (A D : Option Addr) (n c m e pn : Nat) (w : World) (hA : Bs w w.heap.size A n f.da) (hD : Ps w w.heap.size D m f.ps) (HR : Hid (∀ w0, Bs w0 w0.heap.size A n f.da → Ps w0 w0.heap.size D m f.ps → Calls Tryz.prog 13 #[.agg (fra f A n c D m e)] w0 fun e' w' => e' = .returned (.bool false) ∧ Below w0.heap.size w0 w')) :
    Calls Tryz.prog 9 #[.agg (fra f A n c D m e)] w fun e' w' => e' = .returned (.tuple #[.slice none 0 0, .int .i64 2]) ∧ Below w.heap.size w w' := by
  have K0 : Hid (EnvF (w.alloc (.cells (fra f A n c D m e) 30)) [pF D m f.ps, bF A n f.da] [(w.heap.size, (fra f A n c D m e), 30)]) := Lib.hid ((((EnvF.nil w).add0 (x := bF A n f.da) hA (bs_on hA)).add0 (x := pF D m f.ps) hD (psF_on hD)).boxg 30 (fra f A n c D m e) (w.heap.size) (by simp))
  have B0 : Hid (Below w.heap.size w (w.alloc (.cells (fra f A n c D m e) 30))) := Lib.hid ((Below.refl _ w).alloc (by first | exact Nat.le_refl _ | (simp only [World.size_alloc]; omega)) (.cells (fra f A n c D m e) 30))
  clear hA hD
  go_enter Tryz.func9, Tryz.ntmps9
  go_wp2_with (first
    | go_skip
    | (refine at_load 30 (.tmp 1) (by rfl) ?_; refine wpList_load_row (by rfl) 30 (.tmp 1) (by rfl) (w.heap.size) (by rfl) 30 _ (0, 0) _ (K0.out.row 0 rfl) Tryz.underlying30 (by rfl) info_F ?_)
    | (go_at_call 13; (have hc := (HR.out _ (K0.out.bs (A := A) (n := n) (xs := f.da) (by simp)) (K0.out.ps (A := D) (n := m) (xs := f.ps) (by simp))); (with_reducible refine hc.mono ?_); clear hc); rintro e w1 ⟨rfl, hb⟩; have K1 := Lib.hid (K0.out.on hb); have B1 := Lib.hid (below_step B0.out hb); clear hb K0 B0))
  go_ret2
  exact ⟨rfl, B1.out⟩
set_option maxRecDepth 100000 in
set_option maxHeartbeats 4000000 in
theorem m_put_Y (f : Fr) (A D : Option Addr) (n c m e pn : Nat) (w : World) (hA : Bs w w.heap.size A n f.da) (hD : Ps w w.heap.size D m f.ps) (HR : Hid (∀ w0, Bs w0 w0.heap.size A n f.da → Ps w0 w0.heap.size D m f.ps → Calls Tryz.prog 13 #[.agg (fra f A n c D m e)] w0 fun e' w' => e' = .returned (.bool true) ∧ Below w0.heap.size w0 w')) (H : List UInt8) (hH : H.length = 9) (hpn : pn ≤ 100000) (HPY : Hid (PayTo f A D n c m e pn)) (HPU : Hid (∀ w0 : World, Calls Tryz.prog 31 #[.agg #[.int .i64 (pn : Int), .int .u8 f.kd.toNat, .int .u8 f.fl.toNat, .int .i64 f.st]] w0 fun e' w' => ∃ v, e' = .returned (.tuple #[v, .int .i64 0]) ∧ OwnB w' w0.heap.size 5 v H ∧ Below w0.heap.size w0 w')) :
    Calls Tryz.prog 9 #[.agg (fra f A n c D m e)] w fun e' w' => ∃ v, e' = .returned (.tuple #[v, .int .i64 0]) ∧ OwnB w' w.heap.size 5 v (H ++ payV f) ∧ Below w.heap.size w w' := by
  obtain ⟨i0, hi, hz0, hz1, hz2⟩ := info_parts info_u8
  have hinf := Lib.hid (And.intro hi (And.intro hz0 (And.intro hz1 hz2)))
  clear hi hz0 hz1 hz2
  have K0 : Hid (EnvF (w.alloc (.cells (fra f A n c D m e) 30)) [pF D m f.ps, bF A n f.da] [(w.heap.size, (fra f A n c D m e), 30)]) := Lib.hid ((((EnvF.nil w).add0 (x := bF A n f.da) hA (bs_on hA)).add0 (x := pF D m f.ps) hD (psF_on hD)).boxg 30 (fra f A n c D m e) (w.heap.size) (by simp))
  have B0 : Hid (Below w.heap.size w (w.alloc (.cells (fra f A n c D m e) 30))) := Lib.hid ((Below.refl _ w).alloc (by first | exact Nat.le_refl _ | (simp only [World.size_alloc]; omega)) (.cells (fra f A n c D m e) 30))
  clear hA hD
  go_enter Tryz.func9, Tryz.ntmps9
  go_wp2_with (first
    | go_skip
    | (refine at_load 30 (.tmp 1) (by rfl) ?_; refine wpList_load_row (by rfl) 30 (.tmp 1) (by rfl) (w.heap.size) (by rfl) 30 _ (0, 0) _ (K0.out.row 0 rfl) Tryz.underlying30 (by rfl) info_F ?_)
    | (go_at_call 13; (have hc := (HR.out _ (K0.out.bs (A := A) (n := n) (xs := f.da) (by simp)) (K0.out.ps (A := D) (n := m) (xs := f.ps) (by simp))); (with_reducible refine hc.mono ?_); clear hc); rintro e w1 ⟨rfl, hb⟩; have K1 := Lib.hid (K0.out.on hb); have B1 := Lib.hid (below_step B0.out hb); clear hb K0 B0)
    | (refine at_load 30 (.tmp 1) (by rfl) ?_; refine wpList_load_row (by rfl) 30 (.tmp 1) (by rfl) (w.heap.size) (by rfl) 30 _ (0, 0) _ (K1.out.row 0 rfl) Tryz.underlying30 (by rfl) info_F ?_)
    | (go_at_call 30; (have hc := (HPY.out _ (K1.out.bs (A := A) (n := n) (xs := f.da) (by simp)) (K1.out.ps (A := D) (n := m) (xs := f.ps) (by simp))); (with_reducible refine hc.mono ?_); clear hc); rintro e w2 ⟨A2, c2, rfl, hh, hb⟩; have HNA := Lib.hid hh.2.2; have K2 := Lib.hid (K1.out.handS hb hh); have B2 := Lib.hid (below_step B1.out hb); clear hb hh K1 B1)
    | (refine at_load 5 (.tmp 15) (by rfl) ?_; refine wpList_get (by rfl) 5 (.tmp 15) (by rfl) (w.heap.size) 0 (by rfl) 30 _ (.int .u8 f.kd.toNat) _ (K2.out.row 0 rfl) (by rfl) Tryz.underlying5 (by rfl) ?_)
    | (refine at_load 5 (.tmp 17) (by rfl) ?_; refine wpList_get (by rfl) 5 (.tmp 17) (by rfl) (w.heap.size) 1 (by rfl) 30 _ (.int .u8 f.fl.toNat) _ (K2.out.row 0 rfl) (by rfl) Tryz.underlying5 (by rfl) ?_)
    | (refine at_load 3 (.tmp 19) (by rfl) ?_; refine wpList_get (by rfl) 3 (.tmp 19) (by rfl) (w.heap.size) 2 (by rfl) 30 _ (.int .i64 f.st) _ (K2.out.row 0 rfl) (by rfl) Tryz.underlying3 (by rfl) ?_)
    | (go_at_call 31; (have hc := (HPU.out w2); (with_reducible refine hc.mono ?_); clear hc); rintro e w3 ⟨v3, rfl, ho, hb⟩; have HB2 := B2; have HO3 := Lib.hid ho; have HS3 := Lib.hid hb.size; have K3 := Lib.hid (K2.out.on hb); have B3 := Lib.hid (below_step B2.out hb); clear ho; clear hb K2 B2)
    | (at_builtin; refine wpList_append_bytes _ rfl (.tmp 25) (.tmp 26) 24 rfl w2.heap.size 5 i0 Tryz.underlying24 hinf.out.1 hinf.out.2.1 hinf.out.2.2.1 hinf.out.2.2.2 _ _ rfl HO3.out _ A2 pn c2 (payV f) rfl (K3.out.bs (A := A2) (n := pn) (xs := payV f) (by simp)) HNA.out.2 (by omega) HS3.out ?_; intro v9 w9 ho hb; have HO9 := Lib.hid (ho.less HB2.out.size); have B9 := Lib.hid (B3.out.trans (hb.mono HB2.out.size)); clear ho hb))
  go_ret2
  exact ⟨v9, rfl, HO9.out, B9.out⟩
theorem m_put (f : Fr) (A D : Option Addr) (n c m e : Nat) (w : World) (hA : Bs w w.heap.size A n f.da) (hN : A = none → c = 0) (hn : n ≤ 8900) (hD : Ps w w.heap.size D m f.ps) (hm : m ≤ 10000) :
    Calls Tryz.prog 9 #[.agg (fra f A n c D m e)] w fun e' w' => ∃ v, e' = .returned (.tuple #[v, .int .i64 (putRE f)]) ∧ OwnB w' w.heap.size 5 v (putR f) ∧ Below w.heap.size w w' := by
  have hpl := payV_len f (by rw [hA.1]; omega) (by rw [hD.1]; omega)
  have HR := Lib.hid fun (w0 : World) (h1 : Bs w0 w0.heap.size A n f.da) (h2 : Ps w0 w0.heap.size D m f.ps) => m_right f A D n c m e w0 h1 hN hn h2 hm
  rw [right_stand] at HR
  unfold putR putRE
  by_cases hs : standB f = true
  · rw [if_pos hs, if_pos hs]
    rw [hs] at HR
    obtain ⟨_, _, hin, hl⟩ := stand_head hs
    have hp := pay_lay hs
    have hin2 := hin
    obtain ⟨h1, h2, h3, h4⟩ := hin
    have hst : ((f.st.toNat : Nat) : Int) = f.st := Int.toNat_of_nonneg h3
    have HPU : Hid (∀ w0 : World, Calls Tryz.prog 31 #[.agg #[.int .i64 ((payV f).length : Int), .int .u8 f.kd.toNat, .int .u8 f.fl.toNat, .int .i64 f.st]] w0 fun e' w' => ∃ v, e' = .returned (.tuple #[v, .int .i64 0]) ∧ OwnB w' w0.heap.size 5 v (hpV (layR f).1.length f.kd f.fl f.st) ∧ Below w0.heap.size w0 w') := Lib.hid fun w0 => by
      have hc := rhput_yes (payV f).length f.st.toNat f.kd f.fl w0 (by rw [hp]; omega) (by omega)
      rw [hst] at hc
      have e : hpV (layR f).1.length f.kd f.fl f.st = hdBytes (payV f).length f.kd f.fl f.st.toNat := by
        unfold hpV
        rw [if_pos hin2, hp, Int.toNat_natCast]
      rw [e]
      exact hc
    have hH : (hpV (layR f).1.length f.kd f.fl f.st).length = 9 := by
      unfold hpV
      rw [if_pos hin2]
      exact hdBytes_length _ _ _ _
    have h := m_put_Y f A D n c m e (payV f).length w hA hD HR _ hH hpl (Lib.hid (pay_to f A D n c m e hN (by omega) hm)) HPU
    rw [hp] at h
    exact h
  · rw [if_neg hs, if_neg hs]
    rw [show standB f = false from by simpa using hs] at HR
    refine (m_put_N f A D n c m e 0 w hA hD HR).mono ?_
    rintro e' w' ⟨rfl, hb⟩
    exact ⟨_, rfl, OwnB.nil_ _ _ _, hb⟩
end Go.Proofs.YtbflhphjnmhjhaaGreat
