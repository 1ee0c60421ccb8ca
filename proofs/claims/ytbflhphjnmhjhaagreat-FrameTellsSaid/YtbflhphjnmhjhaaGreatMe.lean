/- PrN, PrO, PrP. -/
import Derived.Test.YtbflhphjnmhjhaaGreatPrA
import Derived.Test.YtbflhphjnmhjhaaGreatMfi
import Derived.Test.YtbflhphjnmhjhaaGreatMd
/- The program's numbers: numbers in four bytes each, and data behind them. -/
namespace Go.Proofs.YtbflhphjnmhjhaaGreat
open Go.RowKit Oct Fi Fm
set_option linter.unusedVariables false
set_option linter.unusedSimpArgs false
namespace Fm
def nuOk (l : List Int) : Bool := l.all (fun x => decide (PutIn x 4))
def nuE (l : List Int) : Int := if nuOk l = true then 0 else 2
def nuV (l : List Int) (xs : List UInt8) : List UInt8 := if nuOk l = true then l.flatMap (fun x => putB x.toNat 4) ++ xs else []
end Fm
theorem nu_step (l : List Int) (j : Nat) (x : Int) (h : l[j]? = some x) : (l.take j).flatMap (fun x => putB x.toNat 4) ++ putB x.toNat 4 = (l.take (j + 1)).flatMap (fun x => putB x.toNat 4) := by
  obtain ⟨h1, h2⟩ := List.getElem?_eq_some_iff.1 h
  rw [List.take_add_one, h, List.flatMap_append]
  simp
theorem nu_len (l : List Int) : (l.flatMap (fun x => putB x.toNat 4)).length = 4 * l.length := by
  induction l with
  | nil => rfl
  | cons a r ih => rw [List.flatMap_cons, List.length_append, ih, putB_length]; simp; omega
set_option maxRecDepth 100000 in
set_option maxHeartbeats 2000000 in
theorem p_numbers (A : Option Addr) (n c : Nat) (xs : List UInt8) (b m cb : Nat) (l : List Int) (w : World) (hl : l.length = m) (hm : m ≤ 2) (hc : ∀ j x, l[j]? = some x → w.cell? ⟨b, j, none⟩ = some (.int .i64 x)) (hb : b < w.heap.size) (hA : Bs w w.heap.size A n xs) (hN : A = none → c = 0) (hn : n ≤ 10000) :
    Calls Tryz.prog 91 #[.slice A n c, .slice (some ⟨b, 0, none⟩) m cb] w fun e w' => ∃ v, e = .returned (.tuple #[v, .int .i64 (nuE l)]) ∧ OwnB w' w.heap.size 5 v (nuV l xs) ∧ Below w.heap.size w w' := by
  obtain ⟨i0, hi, hz0, hz1, hz2⟩ := info_parts info_u8
  have hinf := Lib.hid (And.intro hi (And.intro hz0 (And.intro hz1 hz2)))
  have HA := Lib.hid hA
  have HN := Lib.hid hN
  have HC := Lib.hid hc
  have HL := Lib.hid hl
  have hxl : xs.length = n := hA.1
  have HXL := Lib.hid hxl
  clear hi hz0 hz1 hz2 hA hN hc hxl hl
  go_enter Tryz.func91, Tryz.ntmps91
  go_wp2
  go_loopw [6, 13] (fun a t wr => ∃ j : Nat, j ≤ m ∧ t = .int .i64 j ∧ OwnB wr w.heap.size 5 a ((l.take j).flatMap (fun x => putB x.toNat 4)) ∧ (∀ x ∈ l.take j, PutIn x 4) ∧ Below w.heap.size w wr) (fun _ t _ => m - (intOf t).toNat)
  case atStart => exact ⟨0, Nat.zero_le _, rfl, OwnB.nil_ _ _ _, (fun x hx => by simp at hx), Below.refl _ _⟩
  case round =>
    obtain ⟨j, hj, rfl, hown, hall, hbel⟩ := hrel
    have HO := Lib.hid hown
    have HB := Lib.hid hbel
    have HAL := Lib.hid hall
    clear hown hbel hall
    by_cases hlt : j < m
    · obtain ⟨x, hx⟩ : ∃ x, l[j]? = some x := ⟨_, List.getElem?_eq_getElem (by rw [HL.out]; exact hlt)⟩
      have h1 := (HB.out.cell (p := ⟨b, j, none⟩) hb).trans (HC.out j x hx)
      have h1' : wr.cell? ⟨b, 0 + j, none⟩ = some (.int .i64 x) := by rw [Nat.zero_add]; exact h1
      have HX := Lib.hid (nu_step l j x hx)
      have HLn : Hid (((l.take j).flatMap (fun x => putB x.toNat 4)).length ≤ 8) := Lib.hid (by rw [nu_len, List.length_take]; omega)
      by_cases hp : PutIn x 4
      · have HP : Hid (∀ w, Calls Tryz.prog 82 #[.int .i64 x, .int .i64 4] w fun e w' => ∃ v, e = .returned (.tuple #[v, .int .i64 0]) ∧ OwnB w' w.heap.size 5 v (putB x.toNat 4) ∧ Below w.heap.size w w') := Lib.hid (fun w => put_ok x 4 w hp.1 hp.2.1 hp.2.2.1 hp.2.2.2)
        have HAL2 : Hid (∀ y ∈ l.take (j + 1), PutIn y 4) := Lib.hid (fun y hy => by
          rw [List.take_add_one, hx] at hy
          rcases List.mem_append.1 hy with h | h
          · exact HAL.out y h
          · simp at h; rw [h]; exact hp)
        clear hx hp
        go_wp2_with (first
          | (go_at_call 82; (with_reducible refine (HP.out _).mono ?_); rintro e w1 ⟨v1, rfl, ho1, hb1⟩; obtain ⟨A1, k1, rfl, hk1, hn1, hr1⟩ := ho1.form2 (putB_length _ _); have HR1 := Lib.hid hr1; have HN1 := Lib.hid hn1; have HB1 := Lib.hid (below_step HB.out hb1); have HO1 := Lib.hid (HO.out.kept hb1); clear ho1 hr1 hn1 hb1)
          | (at_builtin; refine wpList_append_bytes _ rfl (.tmp 25) (.tmp 26) 24 rfl w.heap.size 5 i0 Tryz.underlying24 hinf.out.1 hinf.out.2.1 hinf.out.2.2.1 hinf.out.2.2.2 _ _ rfl HO1.out _ A1 4 k1 _ rfl HR1.out HN1.out (by have := HLn.out; omega) HB1.out.size ?_; intro v4 w4 hown4 hb4; rw [HX.out] at hown4; have HO4 := Lib.hid hown4; have HB4 := Lib.hid (HB1.out.trans hb4); clear hown4 hb4))
        go_roundw
        case rel => exact ⟨j + 1, by omega, by go_num, HO4.out, HAL2.out, HB4.out⟩
        case measure => simp [intOf]; omega
      · have HP : Hid (∀ w, Calls Tryz.prog 82 #[.int .i64 x, .int .i64 4] w fun e w' => e = .returned (.tuple #[.slice none 0 0, .int .i64 2]) ∧ w = w') := Lib.hid (fun w => put_no x 4 w hp)
        have hno : nuOk l = false := by
          unfold nuOk
          rw [Bool.eq_false_iff]
          intro h
          exact hp (by simpa using List.all_eq_true.1 h x (List.mem_of_getElem? hx))
        have HE : Hid (nuE l = 2 ∧ nuV l xs = []) := Lib.hid ⟨by unfold nuE; rw [hno]; rfl, by unfold nuV; rw [hno]; rfl⟩
        clear hx hp hno
        go_wp2_with (go_at_call 82; (with_reducible refine (HP.out _).mono ?_); rintro e w1 ⟨rfl, rfl⟩)
        go_ret2
        rw [HE.out.1, HE.out.2]
        exact ⟨_, rfl, OwnB.nil_ _ _ _, HB.out⟩
    · obtain rfl : j = m := by omega
      rw [List.take_of_length_le (by rw [HL.out]; omega)] at HO HAL
      have hok : nuOk l = true := by
        unfold nuOk
        exact List.all_eq_true.2 (fun x hx => by simpa using HAL.out x hx)
      have HE : Hid (nuE l = 0 ∧ nuV l xs = l.flatMap (fun x => putB x.toNat 4) ++ xs) := Lib.hid ⟨by unfold nuE; rw [hok]; rfl, by unfold nuV; rw [hok]; rfl⟩
      have HLn : Hid ((l.flatMap (fun x => putB x.toNat 4)).length ≤ 8) := Lib.hid (by rw [nu_len, HL.out]; omega)
      have HAw := Lib.hid (HA.out.on HB.out)
      clear hok
      go_wp2_with (at_builtin; refine wpList_append_bytes _ rfl (.tmp 29) (.tmp 30) 24 rfl w.heap.size 5 i0 Tryz.underlying24 hinf.out.1 hinf.out.2.1 hinf.out.2.2.1 hinf.out.2.2.2 _ _ rfl HO.out _ A n c xs rfl HAw.out HN.out (by have := HLn.out; omega) HB.out.size ?_; intro v4 w4 hown4 hb4; have HO4 := Lib.hid hown4; have HB4 := Lib.hid (HB.out.trans hb4); clear hown4 hb4)
      go_ret2
      rw [HE.out.1, HE.out.2]
      exact ⟨_, rfl, HO4.out, HB4.out⟩
end Go.Proofs.YtbflhphjnmhjhaaGreat
/- The program's payloads, kind by kind. -/
namespace Go.Proofs.YtbflhphjnmhjhaaGreat
open Go.RowKit Oct Fi Fm
set_option linter.unusedVariables false
set_option linter.unusedSimpArgs false
namespace Fm
def padF (f : Fr) (xs : List UInt8) : List UInt8 × Int := if hasB (f.fl.toNat : Int) 8 = true then (padV xs (wrap64 (f.pd - 1)), padE (wrap64 (f.pd - 1))) else (xs, 0)
def rkF (f : Fr) (xs : List UInt8) : List UInt8 × Int := if prE f.dp = 0 then padF f (prV f.al f.dp f.wt ++ xs) else ([], prE f.dp)
def layR (f : Fr) : List UInt8 × Int :=
  if f.kd.toNat = 0 then padF f f.da
  else if f.kd.toNat = 1 then (if hasB (f.fl.toNat : Int) 32 = true then rkF f f.da else padF f f.da)
  else if f.kd.toNat = 2 then (prV f.al f.dp f.wt, prE f.dp)
  else if f.kd.toNat = 3 then (nuV [(f.co.toNat : Int)] [], nuE [(f.co.toNat : Int)])
  else if f.kd.toNat = 4 then (ppV f.ps, 0)
  else if f.kd.toNat = 7 then (nuV [f.la, (f.co.toNat : Int)] f.da, nuE [f.la, (f.co.toNat : Int)])
  else if f.kd.toNat = 8 then (nuV [f.ic] [], nuE [f.ic])
  else if f.kd.toNat = 16 then (nuV [f.la] f.da, nuE [f.la])
  else (f.da, 0)
/-- A payload, and whether it could be laid: memory of its own, or the frame's data itself. -/
def LayPost (A : Option Addr) (n c : Nat) (xs : List UInt8) (r : List UInt8 × Int) (w : World) (e : Ending) (w' : World) : Prop :=
  ∃ A' n' c', e = .returned (.tuple #[.slice A' n' c', .int .i64 r.2]) ∧ (HandS w' w.heap.size A' n' c' r.1 ∨ A' = A ∧ n' = n ∧ c' = c ∧ r.1 = xs) ∧ Below w.heap.size w w'
end Fm
theorem layPost_own {A : Option Addr} {n c : Nat} {xs : List UInt8} {r : List UInt8 × Int} {w w' : World} {v : Value} (h : OwnB w' w.heap.size 5 v r.1) (hb : Below w.heap.size w w') : LayPost A n c xs r w (.returned (.tuple #[v, .int .i64 r.2])) w' := by
  obtain ⟨A', c', rfl, hh⟩ := h.handS rfl
  exact ⟨A', _, c', rfl, .inl hh, hb⟩
theorem prV_5 (a : Bool) (D : Int) (W : UInt8) : (prV a D W).length ≤ 5 := by
  unfold prV
  split <;> simp [putB_length]
set_option maxRecDepth 100000 in
set_option maxHeartbeats 4000000 in
theorem l_rest (f : Fr) (A D : Option Addr) (n c m e : Nat) (w : World) (hA : Bs w w.heap.size A n f.da) (hN : A = none → c = 0) (hnc : n ≤ c) (hn : n ≤ 9000) (hD : Ps w w.heap.size D m f.ps) (hm : m ≤ 10000)  :
    Calls Tryz.prog 39 #[.agg (fra f A n c D m e)] w (LayPost A n c f.da ((f.da, 0)) w) := by
  obtain ⟨i0, hi, hz0, hz1, hz2⟩ := info_parts info_u8
  have hinf := Lib.hid (And.intro hi (And.intro hz0 (And.intro hz1 hz2)))
  have hco := f.co.toNat_lt
  have hwt := f.wt.toNat_lt
  have HN := Lib.hid hN
  have HX : Hid (f.da.length = n) := Lib.hid hA.1
  have K0 : Hid (EnvB (w.alloc (.cells (fra f A n c D m e) 30)) [(A, n, f.da)] [(D, m, f.ps)] [(w.heap.size, (fra f A n c D m e), 30)]) := Lib.hid ((((EnvB.nil w).addS0 hA).addP0 hD).box 30 (fra f A n c D m e))
  have B0 : Hid (Below w.heap.size w (w.alloc (.cells (fra f A n c D m e) 30))) := Lib.hid ((Below.refl _ w).alloc (Nat.le_refl _) _)
  clear hi hz0 hz1 hz2 hA hN hD
  go_enter Tryz.func39, Tryz.ntmps39
  go_wp2_with (first
    | (refine at_load 24 (.tmp 4) (by rfl) ?_; refine wpList_get (by rfl) 24 (.tmp 4) (by rfl) (w.heap.size) 3 (by rfl) 30 _ (.slice A n c) _ (K0.out.row 0 rfl) (by rfl) Tryz.underlying24 (by rfl) ?_))
  go_ret2
  exact ⟨A, n, c, rfl, .inr ⟨rfl, rfl, rfl, rfl⟩, B0.out⟩
set_option maxRecDepth 100000 in
set_option maxHeartbeats 4000000 in
theorem l_data_N (f : Fr) (A D : Option Addr) (n c m e : Nat) (w : World) (hA : Bs w w.heap.size A n f.da) (hN : A = none → c = 0) (hnc : n ≤ c) (hn : n ≤ 9000) (hD : Ps w w.heap.size D m f.ps) (hm : m ≤ 10000) (HP8 : Hid (∀ w0, Calls Tryz.prog 83 #[.agg (fra f A n c D m e), .int .u8 8] w0 fun e w' => e = .returned (.bool false) ∧ Below w0.heap.size w0 w')) :
    Calls Tryz.prog 60 #[.agg (fra f A n c D m e)] w (LayPost A n c f.da ((f.da, 0)) w) := by
  obtain ⟨i0, hi, hz0, hz1, hz2⟩ := info_parts info_u8
  have hinf := Lib.hid (And.intro hi (And.intro hz0 (And.intro hz1 hz2)))
  have hco := f.co.toNat_lt
  have hwt := f.wt.toNat_lt
  have HN := Lib.hid hN
  have HX : Hid (f.da.length = n) := Lib.hid hA.1
  have K0 : Hid (EnvB (w.alloc (.cells (fra f A n c D m e) 30)) [(A, n, f.da)] [(D, m, f.ps)] [(w.heap.size, (fra f A n c D m e), 30)]) := Lib.hid ((((EnvB.nil w).addS0 hA).addP0 hD).box 30 (fra f A n c D m e))
  have B0 : Hid (Below w.heap.size w (w.alloc (.cells (fra f A n c D m e) 30))) := Lib.hid ((Below.refl _ w).alloc (Nat.le_refl _) _)
  clear hi hz0 hz1 hz2 hA hN hD
  go_enter Tryz.func60, Tryz.ntmps60
  go_wp2_with (first
    | (refine at_load 30 (.tmp 1) (by rfl) ?_; refine wpList_load_row (by rfl) 30 (.tmp 1) (by rfl) (w.heap.size) (by rfl) 30 _ (0, 0) _ (K0.out.row 0 rfl) Tryz.underlying30 (by rfl) info_F ?_)
    | (go_at_call 83; (with_reducible refine (HP8.out _).mono ?_); rintro e w1 ⟨rfl, hb⟩; have K1 := Lib.hid (K0.out.on hb); have B1 := Lib.hid (below_step B0.out hb); clear hb K0 B0)
    | (refine at_load 24 (.tmp 7) (by rfl) ?_; refine wpList_get (by rfl) 24 (.tmp 7) (by rfl) (w.heap.size) 3 (by rfl) 30 _ (.slice A n c) _ (K1.out.row 0 rfl) (by rfl) Tryz.underlying24 (by rfl) ?_))
  go_ret2
  exact ⟨A, n, c, rfl, .inr ⟨rfl, rfl, rfl, rfl⟩, B1.out⟩
set_option maxRecDepth 100000 in
set_option maxHeartbeats 4000000 in
theorem l_data_P (f : Fr) (A D : Option Addr) (n c m e : Nat) (w : World) (hA : Bs w w.heap.size A n f.da) (hN : A = none → c = 0) (hnc : n ≤ c) (hn : n ≤ 9000) (hD : Ps w w.heap.size D m f.ps) (hm : m ≤ 10000) (HP8 : Hid (∀ w0, Calls Tryz.prog 83 #[.agg (fra f A n c D m e), .int .u8 8] w0 fun e w' => e = .returned (.bool true) ∧ Below w0.heap.size w0 w')) :
    Calls Tryz.prog 60 #[.agg (fra f A n c D m e)] w (LayPost A n c f.da ((padV f.da (wrap64 (f.pd - 1)), padE (wrap64 (f.pd - 1)))) w) := by
  obtain ⟨i0, hi, hz0, hz1, hz2⟩ := info_parts info_u8
  have hinf := Lib.hid (And.intro hi (And.intro hz0 (And.intro hz1 hz2)))
  have hco := f.co.toNat_lt
  have hwt := f.wt.toNat_lt
  have HN := Lib.hid hN
  have HX : Hid (f.da.length = n) := Lib.hid hA.1
  have K0 : Hid (EnvB (w.alloc (.cells (fra f A n c D m e) 30)) [(A, n, f.da)] [(D, m, f.ps)] [(w.heap.size, (fra f A n c D m e), 30)]) := Lib.hid ((((EnvB.nil w).addS0 hA).addP0 hD).box 30 (fra f A n c D m e))
  have B0 : Hid (Below w.heap.size w (w.alloc (.cells (fra f A n c D m e) 30))) := Lib.hid ((Below.refl _ w).alloc (Nat.le_refl _) _)
  clear hi hz0 hz1 hz2 hA hN hD
  go_enter Tryz.func60, Tryz.ntmps60
  go_wp2_with (first
    | (refine at_load 30 (.tmp 1) (by rfl) ?_; refine wpList_load_row (by rfl) 30 (.tmp 1) (by rfl) (w.heap.size) (by rfl) 30 _ (0, 0) _ (K0.out.row 0 rfl) Tryz.underlying30 (by rfl) info_F ?_)
    | (go_at_call 83; (with_reducible refine (HP8.out _).mono ?_); rintro e w1 ⟨rfl, hb⟩; have K1 := Lib.hid (K0.out.on hb); have B1 := Lib.hid (below_step B0.out hb); clear hb K0 B0)
    | (refine at_load 24 (.tmp 9) (by rfl) ?_; refine wpList_get (by rfl) 24 (.tmp 9) (by rfl) (w.heap.size) 3 (by rfl) 30 _ (.slice A n c) _ (K1.out.row 0 rfl) (by rfl) Tryz.underlying24 (by rfl) ?_)
    | (refine at_load 3 (.tmp 11) (by rfl) ?_; refine wpList_get (by rfl) 3 (.tmp 11) (by rfl) (w.heap.size) 4 (by rfl) 30 _ (.int .i64 f.pd) _ (K1.out.row 0 rfl) (by rfl) Tryz.underlying3 (by rfl) ?_)
    | (go_at_call 85; (with_reducible refine (fpad_tot A n c (wrap64 (f.pd - 1)) f.da _ (K1.out.s (A, n, f.da) (by simp)).1 HN.out (by omega)).mono ?_); rintro e w2 ⟨v1, rfl, ho, hb⟩; have K2 := Lib.hid (K1.out.on hb); have B2 := Lib.hid (below_step B1.out hb); have HO9 := Lib.hid (ho.less B1.out.size); clear ho; clear hb K1 B1))
  go_ret2
  exact layPost_own (r := ((padV f.da (wrap64 (f.pd - 1)), padE (wrap64 (f.pd - 1))))) HO9.out B2.out
set_option maxRecDepth 100000 in
set_option maxHeartbeats 4000000 in
theorem l_priority (f : Fr) (A D : Option Addr) (n c m e : Nat) (w : World) (hA : Bs w w.heap.size A n f.da) (hN : A = none → c = 0) (hnc : n ≤ c) (hn : n ≤ 9000) (hD : Ps w w.heap.size D m f.ps) (hm : m ≤ 10000)  :
    Calls Tryz.prog 64 #[.agg (fra f A n c D m e)] w (LayPost A n c f.da ((prV f.al f.dp f.wt, prE f.dp)) w) := by
  obtain ⟨i0, hi, hz0, hz1, hz2⟩ := info_parts info_u8
  have hinf := Lib.hid (And.intro hi (And.intro hz0 (And.intro hz1 hz2)))
  have hco := f.co.toNat_lt
  have hwt := f.wt.toNat_lt
  have HN := Lib.hid hN
  have HX : Hid (f.da.length = n) := Lib.hid hA.1
  have K0 : Hid (EnvB (w.alloc (.cells (fra f A n c D m e) 30)) [(A, n, f.da)] [(D, m, f.ps)] [(w.heap.size, (fra f A n c D m e), 30)]) := Lib.hid ((((EnvB.nil w).addS0 hA).addP0 hD).box 30 (fra f A n c D m e))
  have B0 : Hid (Below w.heap.size w (w.alloc (.cells (fra f A n c D m e) 30))) := Lib.hid ((Below.refl _ w).alloc (Nat.le_refl _) _)
  clear hi hz0 hz1 hz2 hA hN hD
  obtain ⟨f_0, f_1, f_2, f_3, f_4, f_5, f_6, f_7, f_8, f_9, f_10, f_11, f_12⟩ := c13_row (K0.out.row 0 rfl)
  go_enter Tryz.func64, Tryz.ntmps64
  go_wp2_with (first
    | (go_at_call 88; (with_reducible refine (fprank_tot f.al f.dp f.wt _).mono ?_); rintro e w1 ⟨v1, rfl, ho, hb⟩; have K1 := Lib.hid (K0.out.on hb); have B1 := Lib.hid (below_step B0.out hb); have HO9 := Lib.hid (ho.less B0.out.size); clear ho; clear hb K0 B0))
  go_ret2
  exact layPost_own (r := ((prV f.al f.dp f.wt, prE f.dp))) HO9.out B1.out
set_option maxRecDepth 100000 in
set_option maxHeartbeats 4000000 in
theorem l_settings (f : Fr) (A D : Option Addr) (n c m e : Nat) (w : World) (hA : Bs w w.heap.size A n f.da) (hN : A = none → c = 0) (hnc : n ≤ c) (hn : n ≤ 9000) (hD : Ps w w.heap.size D m f.ps) (hm : m ≤ 10000)  :
    Calls Tryz.prog 69 #[.agg (fra f A n c D m e)] w (LayPost A n c f.da ((ppV f.ps, 0)) w) := by
  obtain ⟨i0, hi, hz0, hz1, hz2⟩ := info_parts info_u8
  have hinf := Lib.hid (And.intro hi (And.intro hz0 (And.intro hz1 hz2)))
  have hco := f.co.toNat_lt
  have hwt := f.wt.toNat_lt
  have HN := Lib.hid hN
  have HX : Hid (f.da.length = n) := Lib.hid hA.1
  have K0 : Hid (EnvB (w.alloc (.cells (fra f A n c D m e) 30)) [(A, n, f.da)] [(D, m, f.ps)] [(w.heap.size, (fra f A n c D m e), 30)]) := Lib.hid ((((EnvB.nil w).addS0 hA).addP0 hD).box 30 (fra f A n c D m e))
  have B0 : Hid (Below w.heap.size w (w.alloc (.cells (fra f A n c D m e) 30))) := Lib.hid ((Below.refl _ w).alloc (Nat.le_refl _) _)
  clear hi hz0 hz1 hz2 hA hN hD
  go_enter Tryz.func69, Tryz.ntmps69
  go_wp2_with (first
    | (refine at_load 26 (.tmp 4) (by rfl) ?_; refine wpList_get (by rfl) 26 (.tmp 4) (by rfl) (w.heap.size) 8 (by rfl) 30 _ (.slice D m e) _ (K0.out.row 0 rfl) (by rfl) Tryz.underlying26 (by rfl) ?_)
    | (go_at_call 94; (with_reducible refine (fpp_any D m e f.ps _ (K0.out.p (D, m, f.ps) (by simp)).1 hm).mono ?_); rintro e w1 ⟨v1, rfl, ho, hb⟩; have K1 := Lib.hid (K0.out.on hb); have B1 := Lib.hid (below_step B0.out hb); have HO9 := Lib.hid (ho.less B0.out.size); clear ho; clear hb K0 B0))
  go_ret2
  exact layPost_own (r := ((ppV f.ps, 0))) HO9.out B1.out
set_option maxRecDepth 100000 in
set_option maxHeartbeats 4000000 in
theorem l_reset (f : Fr) (A D : Option Addr) (n c m e : Nat) (w : World) (hA : Bs w w.heap.size A n f.da) (hN : A = none → c = 0) (hnc : n ≤ c) (hn : n ≤ 9000) (hD : Ps w w.heap.size D m f.ps) (hm : m ≤ 10000)  :
    Calls Tryz.prog 67 #[.agg (fra f A n c D m e)] w (LayPost A n c f.da ((nuV [(f.co.toNat : Int)] [], nuE [(f.co.toNat : Int)])) w) := by
  obtain ⟨i0, hi, hz0, hz1, hz2⟩ := info_parts info_u8
  have hinf := Lib.hid (And.intro hi (And.intro hz0 (And.intro hz1 hz2)))
  have hco := f.co.toNat_lt
  have hwt := f.wt.toNat_lt
  have HN := Lib.hid hN
  have HX : Hid (f.da.length = n) := Lib.hid hA.1
  have K0 : Hid (EnvB (w.alloc (.cells (fra f A n c D m e) 30)) [(A, n, f.da)] [(D, m, f.ps)] [(w.heap.size, (fra f A n c D m e), 30)]) := Lib.hid ((((EnvB.nil w).addS0 hA).addP0 hD).box 30 (fra f A n c D m e))
  have B0 : Hid (Below w.heap.size w (w.alloc (.cells (fra f A n c D m e) 30))) := Lib.hid ((Below.refl _ w).alloc (Nat.le_refl _) _)
  clear hi hz0 hz1 hz2 hA hN hD
  have hcell : ∀ j x, ([(f.co.toNat : Int)] : List Int)[j]? = some x → ((w.alloc (.cells (fra f A n c D m e) 30)).alloc (.cells #[.int .i64 f.co.toNat] 3)).cell? ⟨w.heap.size + 1, j, none⟩ = some (.int .i64 x) := by
    intro j x h
    have hg : ((w.alloc (.cells (fra f A n c D m e) 30)).alloc (.cells #[.int .i64 f.co.toNat] 3)).heap[w.heap.size + 1]? = some (.cells #[.int .i64 f.co.toNat] 3) := by
      have := World.alloc_heap_new (w.alloc (.cells (fra f A n c D m e) 30)) (.cells #[.int .i64 f.co.toNat] 3)
      rwa [World.size_alloc] at this
    rw [cell_of_row _ _ _ _ _ (0, 0) hg]
    match j, h with
    | 0, h => cases h; rfl
    | j + 1, h => cases h
  have HCELL := Lib.hid hcell
  have hlt : w.heap.size + 1 < ((w.alloc (.cells (fra f A n c D m e) 30)).alloc (.cells #[.int .i64 f.co.toNat] 3)).heap.size := by simp
  clear hcell
  go_enter Tryz.func67, Tryz.ntmps67
  go_wp2_with (first
    | (refine at_load 25 (.tmp 4) (by rfl) ?_; refine wpList_get (by rfl) 25 (.tmp 4) (by rfl) (w.heap.size) 7 (by rfl) 30 _ (.int .u32 f.co.toNat) _ (K0.out.row 0 rfl) (by rfl) Tryz.underlying25 (by rfl) ?_)
    | (go_at_call 91; (refine (p_numbers none 0 0 [] (w.heap.size + 1) 1 1 [(f.co.toNat : Int)] ((w.alloc (.cells (fra f A n c D m e) 30)).alloc (.cells #[.int .i64 f.co.toNat] 3)) rfl (by omega) HCELL.out hlt (Bs.none_) (fun _ => rfl) (by omega)).mono ?_); rintro e w1 ⟨v1, rfl, ho, hb⟩; have B1 := Lib.hid (below_step (B0.out.alloc B0.out.size (.cells #[.int .i64 f.co.toNat] 3)) hb); have HO9 := Lib.hid (ho.less (B0.out.alloc B0.out.size (.cells #[.int .i64 f.co.toNat] 3)).size); clear ho hb))
  go_ret2
  generalize nuE [(f.co.toNat : Int)] = E at *
  generalize nuV [(f.co.toNat : Int)] [] = V at *
  exact layPost_own (r := (V, E)) HO9.out B1.out
set_option maxRecDepth 100000 in
set_option maxHeartbeats 4000000 in
theorem l_away (f : Fr) (A D : Option Addr) (n c m e : Nat) (w : World) (hA : Bs w w.heap.size A n f.da) (hN : A = none → c = 0) (hnc : n ≤ c) (hn : n ≤ 9000) (hD : Ps w w.heap.size D m f.ps) (hm : m ≤ 10000)  :
    Calls Tryz.prog 72 #[.agg (fra f A n c D m e)] w (LayPost A n c f.da ((nuV [f.la, (f.co.toNat : Int)] f.da, nuE [f.la, (f.co.toNat : Int)])) w) := by
  obtain ⟨i0, hi, hz0, hz1, hz2⟩ := info_parts info_u8
  have hinf := Lib.hid (And.intro hi (And.intro hz0 (And.intro hz1 hz2)))
  have hco := f.co.toNat_lt
  have hwt := f.wt.toNat_lt
  have HN := Lib.hid hN
  have HX : Hid (f.da.length = n) := Lib.hid hA.1
  have K0 : Hid (EnvB (w.alloc (.cells (fra f A n c D m e) 30)) [(A, n, f.da)] [(D, m, f.ps)] [(w.heap.size, (fra f A n c D m e), 30)]) := Lib.hid ((((EnvB.nil w).addS0 hA).addP0 hD).box 30 (fra f A n c D m e))
  have B0 : Hid (Below w.heap.size w (w.alloc (.cells (fra f A n c D m e) 30))) := Lib.hid ((Below.refl _ w).alloc (Nat.le_refl _) _)
  clear hi hz0 hz1 hz2 hA hN hD
  have hcell : ∀ j x, ([f.la, (f.co.toNat : Int)] : List Int)[j]? = some x → ((w.alloc (.cells (fra f A n c D m e) 30)).alloc (.cells #[.int .i64 f.la, .int .i64 f.co.toNat] 3)).cell? ⟨w.heap.size + 1, j, none⟩ = some (.int .i64 x) := by
    intro j x h
    have hg : ((w.alloc (.cells (fra f A n c D m e) 30)).alloc (.cells #[.int .i64 f.la, .int .i64 f.co.toNat] 3)).heap[w.heap.size + 1]? = some (.cells #[.int .i64 f.la, .int .i64 f.co.toNat] 3) := by
      have := World.alloc_heap_new (w.alloc (.cells (fra f A n c D m e) 30)) (.cells #[.int .i64 f.la, .int .i64 f.co.toNat] 3)
      rwa [World.size_alloc] at this
    rw [cell_of_row _ _ _ _ _ (0, 0) hg]
    match j, h with
    | 0, h => cases h; rfl
    | 1, h => cases h; rfl
    | j + 2, h => cases h
  have HCELL := Lib.hid hcell
  have hlt : w.heap.size + 1 < ((w.alloc (.cells (fra f A n c D m e) 30)).alloc (.cells #[.int .i64 f.la, .int .i64 f.co.toNat] 3)).heap.size := by simp
  clear hcell
  go_enter Tryz.func72, Tryz.ntmps72
  go_wp2_with (first
    | (refine at_load 24 (.tmp 4) (by rfl) ?_; refine wpList_get (by rfl) 24 (.tmp 4) (by rfl) (w.heap.size) 3 (by rfl) 30 _ (.slice A n c) _ (K0.out.row 0 rfl) (by rfl) Tryz.underlying24 (by rfl) ?_)
    | (refine at_load 3 (.tmp 6) (by rfl) ?_; refine wpList_get (by rfl) 3 (.tmp 6) (by rfl) (w.heap.size) 5 (by rfl) 30 _ (.int .i64 f.la) _ (K0.out.row 0 rfl) (by rfl) Tryz.underlying3 (by rfl) ?_)
    | (refine at_load 25 (.tmp 8) (by rfl) ?_; refine wpList_get (by rfl) 25 (.tmp 8) (by rfl) (w.heap.size) 7 (by rfl) 30 _ (.int .u32 f.co.toNat) _ (K0.out.row 0 rfl) (by rfl) Tryz.underlying25 (by rfl) ?_)
    | (go_at_call 91; (refine (p_numbers A n c f.da (w.heap.size + 1) 2 2 [f.la, (f.co.toNat : Int)] ((w.alloc (.cells (fra f A n c D m e) 30)).alloc (.cells #[.int .i64 f.la, .int .i64 f.co.toNat] 3)) rfl (by omega) HCELL.out hlt (((K0.out.al (.cells #[.int .i64 f.la, .int .i64 f.co.toNat] 3)).s (A, n, f.da) (by simp)).1) HN.out (by omega)).mono ?_); rintro e w1 ⟨v1, rfl, ho, hb⟩; have B1 := Lib.hid (below_step (B0.out.alloc B0.out.size (.cells #[.int .i64 f.la, .int .i64 f.co.toNat] 3)) hb); have HO9 := Lib.hid (ho.less (B0.out.alloc B0.out.size (.cells #[.int .i64 f.la, .int .i64 f.co.toNat] 3)).size); clear ho hb))
  go_ret2
  exact layPost_own (r := ((nuV [f.la, (f.co.toNat : Int)] f.da, nuE [f.la, (f.co.toNat : Int)]))) HO9.out B1.out
set_option maxRecDepth 100000 in
set_option maxHeartbeats 4000000 in
theorem l_window (f : Fr) (A D : Option Addr) (n c m e : Nat) (w : World) (hA : Bs w w.heap.size A n f.da) (hN : A = none → c = 0) (hnc : n ≤ c) (hn : n ≤ 9000) (hD : Ps w w.heap.size D m f.ps) (hm : m ≤ 10000)  :
    Calls Tryz.prog 74 #[.agg (fra f A n c D m e)] w (LayPost A n c f.da ((nuV [f.ic] [], nuE [f.ic])) w) := by
  obtain ⟨i0, hi, hz0, hz1, hz2⟩ := info_parts info_u8
  have hinf := Lib.hid (And.intro hi (And.intro hz0 (And.intro hz1 hz2)))
  have hco := f.co.toNat_lt
  have hwt := f.wt.toNat_lt
  have HN := Lib.hid hN
  have HX : Hid (f.da.length = n) := Lib.hid hA.1
  have K0 : Hid (EnvB (w.alloc (.cells (fra f A n c D m e) 30)) [(A, n, f.da)] [(D, m, f.ps)] [(w.heap.size, (fra f A n c D m e), 30)]) := Lib.hid ((((EnvB.nil w).addS0 hA).addP0 hD).box 30 (fra f A n c D m e))
  have B0 : Hid (Below w.heap.size w (w.alloc (.cells (fra f A n c D m e) 30))) := Lib.hid ((Below.refl _ w).alloc (Nat.le_refl _) _)
  clear hi hz0 hz1 hz2 hA hN hD
  have hcell : ∀ j x, ([f.ic] : List Int)[j]? = some x → ((w.alloc (.cells (fra f A n c D m e) 30)).alloc (.cells #[.int .i64 f.ic] 3)).cell? ⟨w.heap.size + 1, j, none⟩ = some (.int .i64 x) := by
    intro j x h
    have hg : ((w.alloc (.cells (fra f A n c D m e) 30)).alloc (.cells #[.int .i64 f.ic] 3)).heap[w.heap.size + 1]? = some (.cells #[.int .i64 f.ic] 3) := by
      have := World.alloc_heap_new (w.alloc (.cells (fra f A n c D m e) 30)) (.cells #[.int .i64 f.ic] 3)
      rwa [World.size_alloc] at this
    rw [cell_of_row _ _ _ _ _ (0, 0) hg]
    match j, h with
    | 0, h => cases h; rfl
    | j + 1, h => cases h
  have HCELL := Lib.hid hcell
  have hlt : w.heap.size + 1 < ((w.alloc (.cells (fra f A n c D m e) 30)).alloc (.cells #[.int .i64 f.ic] 3)).heap.size := by simp
  clear hcell
  go_enter Tryz.func74, Tryz.ntmps74
  go_wp2_with (first
    | (refine at_load 3 (.tmp 4) (by rfl) ?_; refine wpList_get (by rfl) 3 (.tmp 4) (by rfl) (w.heap.size) 6 (by rfl) 30 _ (.int .i64 f.ic) _ (K0.out.row 0 rfl) (by rfl) Tryz.underlying3 (by rfl) ?_)
    | (go_at_call 91; (refine (p_numbers none 0 0 [] (w.heap.size + 1) 1 1 [f.ic] ((w.alloc (.cells (fra f A n c D m e) 30)).alloc (.cells #[.int .i64 f.ic] 3)) rfl (by omega) HCELL.out hlt (Bs.none_) (fun _ => rfl) (by omega)).mono ?_); rintro e w1 ⟨v1, rfl, ho, hb⟩; have B1 := Lib.hid (below_step (B0.out.alloc B0.out.size (.cells #[.int .i64 f.ic] 3)) hb); have HO9 := Lib.hid (ho.less (B0.out.alloc B0.out.size (.cells #[.int .i64 f.ic] 3)).size); clear ho hb))
  go_ret2
  exact layPost_own (r := ((nuV [f.ic] [], nuE [f.ic]))) HO9.out B1.out
set_option maxRecDepth 100000 in
set_option maxHeartbeats 4000000 in
theorem l_urgency (f : Fr) (A D : Option Addr) (n c m e : Nat) (w : World) (hA : Bs w w.heap.size A n f.da) (hN : A = none → c = 0) (hnc : n ≤ c) (hn : n ≤ 9000) (hD : Ps w w.heap.size D m f.ps) (hm : m ≤ 10000)  :
    Calls Tryz.prog 76 #[.agg (fra f A n c D m e)] w (LayPost A n c f.da ((nuV [f.la] f.da, nuE [f.la])) w) := by
  obtain ⟨i0, hi, hz0, hz1, hz2⟩ := info_parts info_u8
  have hinf := Lib.hid (And.intro hi (And.intro hz0 (And.intro hz1 hz2)))
  have hco := f.co.toNat_lt
  have hwt := f.wt.toNat_lt
  have HN := Lib.hid hN
  have HX : Hid (f.da.length = n) := Lib.hid hA.1
  have K0 : Hid (EnvB (w.alloc (.cells (fra f A n c D m e) 30)) [(A, n, f.da)] [(D, m, f.ps)] [(w.heap.size, (fra f A n c D m e), 30)]) := Lib.hid ((((EnvB.nil w).addS0 hA).addP0 hD).box 30 (fra f A n c D m e))
  have B0 : Hid (Below w.heap.size w (w.alloc (.cells (fra f A n c D m e) 30))) := Lib.hid ((Below.refl _ w).alloc (Nat.le_refl _) _)
  clear hi hz0 hz1 hz2 hA hN hD
  have hcell : ∀ j x, ([f.la] : List Int)[j]? = some x → ((w.alloc (.cells (fra f A n c D m e) 30)).alloc (.cells #[.int .i64 f.la] 3)).cell? ⟨w.heap.size + 1, j, none⟩ = some (.int .i64 x) := by
    intro j x h
    have hg : ((w.alloc (.cells (fra f A n c D m e) 30)).alloc (.cells #[.int .i64 f.la] 3)).heap[w.heap.size + 1]? = some (.cells #[.int .i64 f.la] 3) := by
      have := World.alloc_heap_new (w.alloc (.cells (fra f A n c D m e) 30)) (.cells #[.int .i64 f.la] 3)
      rwa [World.size_alloc] at this
    rw [cell_of_row _ _ _ _ _ (0, 0) hg]
    match j, h with
    | 0, h => cases h; rfl
    | j + 1, h => cases h
  have HCELL := Lib.hid hcell
  have hlt : w.heap.size + 1 < ((w.alloc (.cells (fra f A n c D m e) 30)).alloc (.cells #[.int .i64 f.la] 3)).heap.size := by simp
  clear hcell
  go_enter Tryz.func76, Tryz.ntmps76
  go_wp2_with (first
    | (refine at_load 24 (.tmp 4) (by rfl) ?_; refine wpList_get (by rfl) 24 (.tmp 4) (by rfl) (w.heap.size) 3 (by rfl) 30 _ (.slice A n c) _ (K0.out.row 0 rfl) (by rfl) Tryz.underlying24 (by rfl) ?_)
    | (refine at_load 3 (.tmp 6) (by rfl) ?_; refine wpList_get (by rfl) 3 (.tmp 6) (by rfl) (w.heap.size) 5 (by rfl) 30 _ (.int .i64 f.la) _ (K0.out.row 0 rfl) (by rfl) Tryz.underlying3 (by rfl) ?_)
    | (go_at_call 91; (refine (p_numbers A n c f.da (w.heap.size + 1) 1 1 [f.la] ((w.alloc (.cells (fra f A n c D m e) 30)).alloc (.cells #[.int .i64 f.la] 3)) rfl (by omega) HCELL.out hlt (((K0.out.al (.cells #[.int .i64 f.la] 3)).s (A, n, f.da) (by simp)).1) HN.out (by omega)).mono ?_); rintro e w1 ⟨v1, rfl, ho, hb⟩; have B1 := Lib.hid (below_step (B0.out.alloc B0.out.size (.cells #[.int .i64 f.la] 3)) hb); have HO9 := Lib.hid (ho.less (B0.out.alloc B0.out.size (.cells #[.int .i64 f.la] 3)).size); clear ho hb))
  go_ret2
  exact layPost_own (r := ((nuV [f.la] f.da, nuE [f.la]))) HO9.out B1.out
set_option maxRecDepth 100000 in
set_option maxHeartbeats 4000000 in
theorem l_headers_N (f : Fr) (A D : Option Addr) (n c m e : Nat) (w : World) (hA : Bs w w.heap.size A n f.da) (hN : A = none → c = 0) (hnc : n ≤ c) (hn : n ≤ 9000) (hD : Ps w w.heap.size D m f.ps) (hm : m ≤ 10000) (HP32 : Hid (∀ w0, Calls Tryz.prog 83 #[.agg (fra f A n c D m e), .int .u8 32] w0 fun e w' => e = .returned (.bool false) ∧ Below w0.heap.size w0 w')) (r : List UInt8 × Int) (HL : Hid (∀ w0, Bs w0 w0.heap.size A n f.da → Ps w0 w0.heap.size D m f.ps → Calls Tryz.prog 60 #[.agg (fra f A n c D m e)] w0 (LayPost A n c f.da r w0))) :
    Calls Tryz.prog 62 #[.agg (fra f A n c D m e)] w (LayPost A n c f.da (r) w) := by
  obtain ⟨i0, hi, hz0, hz1, hz2⟩ := info_parts info_u8
  have hinf := Lib.hid (And.intro hi (And.intro hz0 (And.intro hz1 hz2)))
  have hco := f.co.toNat_lt
  have hwt := f.wt.toNat_lt
  have HN := Lib.hid hN
  have HX : Hid (f.da.length = n) := Lib.hid hA.1
  have K0 : Hid (EnvB (w.alloc (.cells (fra f A n c D m e) 30)) [(A, n, f.da)] [(D, m, f.ps)] [(w.heap.size, (fra f A n c D m e), 30)]) := Lib.hid ((((EnvB.nil w).addS0 hA).addP0 hD).box 30 (fra f A n c D m e))
  have B0 : Hid (Below w.heap.size w (w.alloc (.cells (fra f A n c D m e) 30))) := Lib.hid ((Below.refl _ w).alloc (Nat.le_refl _) _)
  clear hi hz0 hz1 hz2 hA hN hD
  go_enter Tryz.func62, Tryz.ntmps62
  go_wp2_with (first
    | (refine at_load 30 (.tmp 1) (by rfl) ?_; refine wpList_load_row (by rfl) 30 (.tmp 1) (by rfl) (w.heap.size) (by rfl) 30 _ (0, 0) _ (K0.out.row 0 rfl) Tryz.underlying30 (by rfl) info_F ?_)
    | (go_at_call 83; (with_reducible refine (HP32.out _).mono ?_); rintro e w1 ⟨rfl, hb⟩; have K1 := Lib.hid (K0.out.on hb); have B1 := Lib.hid (below_step B0.out hb); clear hb K0 B0)
    | (refine at_load 30 (.tmp 1) (by rfl) ?_; refine wpList_load_row (by rfl) 30 (.tmp 1) (by rfl) (w.heap.size) (by rfl) 30 _ (0, 0) _ (K1.out.row 0 rfl) Tryz.underlying30 (by rfl) info_F ?_)
    | (go_at_call 60; (with_reducible refine (HL.out _ (K1.out.s (A, n, f.da) (by simp)).1 (K1.out.p (D, m, f.ps) (by simp)).1).mono ?_); rintro e w2 ⟨A9, n9, c9, rfl, hor, hb⟩; have K2 := Lib.hid (K1.out.on hb); have B2 := Lib.hid (below_step B1.out hb); have HR9 := Lib.hid hor; have HS9 := Lib.hid B1.out.size; clear hor; clear hb K1 B1))
  go_ret2
  refine ⟨A9, n9, c9, rfl, ?_, B2.out⟩
  rcases HR9.out with h | h
  · exact .inl ⟨h.1, h.2.1.less HS9.out, h.2.2⟩
  · exact .inr h
set_option maxRecDepth 100000 in
set_option maxHeartbeats 4000000 in
theorem l_headers_E (f : Fr) (A D : Option Addr) (n c m e : Nat) (w : World) (hA : Bs w w.heap.size A n f.da) (hN : A = none → c = 0) (hnc : n ≤ c) (hn : n ≤ 9000) (hD : Ps w w.heap.size D m f.ps) (hm : m ≤ 10000) (HP32 : Hid (∀ w0, Calls Tryz.prog 83 #[.agg (fra f A n c D m e), .int .u8 32] w0 fun e w' => e = .returned (.bool true) ∧ Below w0.heap.size w0 w')) (hpe : (prE f.dp != 0) = true) :
    Calls Tryz.prog 62 #[.agg (fra f A n c D m e)] w (LayPost A n c f.da (([], prE f.dp)) w) := by
  obtain ⟨i0, hi, hz0, hz1, hz2⟩ := info_parts info_u8
  have hinf := Lib.hid (And.intro hi (And.intro hz0 (And.intro hz1 hz2)))
  have hco := f.co.toNat_lt
  have hwt := f.wt.toNat_lt
  have HN := Lib.hid hN
  have HX : Hid (f.da.length = n) := Lib.hid hA.1
  have K0 : Hid (EnvB (w.alloc (.cells (fra f A n c D m e) 30)) [(A, n, f.da)] [(D, m, f.ps)] [(w.heap.size, (fra f A n c D m e), 30)]) := Lib.hid ((((EnvB.nil w).addS0 hA).addP0 hD).box 30 (fra f A n c D m e))
  have B0 : Hid (Below w.heap.size w (w.alloc (.cells (fra f A n c D m e) 30))) := Lib.hid ((Below.refl _ w).alloc (Nat.le_refl _) _)
  clear hi hz0 hz1 hz2 hA hN hD
  go_enter Tryz.func62, Tryz.ntmps62
  go_wp2_with (first
    | (refine at_load 30 (.tmp 1) (by rfl) ?_; refine wpList_load_row (by rfl) 30 (.tmp 1) (by rfl) (w.heap.size) (by rfl) 30 _ (0, 0) _ (K0.out.row 0 rfl) Tryz.underlying30 (by rfl) info_F ?_)
    | (go_at_call 83; (with_reducible refine (HP32.out _).mono ?_); rintro e w1 ⟨rfl, hb⟩; have K1 := Lib.hid (K0.out.on hb); have B1 := Lib.hid (below_step B0.out hb); clear hb K0 B0; obtain ⟨f_0, f_1, f_2, f_3, f_4, f_5, f_6, f_7, f_8, f_9, f_10, f_11, f_12⟩ := c13_row (K1.out.row 0 rfl))
    | (go_at_call 88; (with_reducible refine (fprank_tot f.al f.dp f.wt _).mono ?_); rintro e w2 ⟨v1, rfl, ho, hb⟩; have K2 := Lib.hid (K1.out.on hb); have B2 := Lib.hid (below_step B1.out hb); have HO1 := Lib.hid (ho.less B1.out.size); clear ho; clear hb K1 B1))
  go_ret2
  exact ⟨none, 0, 0, rfl, .inl (HandS.nil_ _ _), B2.out⟩
set_option maxRecDepth 100000 in
set_option maxHeartbeats 4000000 in
theorem l_headers_R (f : Fr) (A D : Option Addr) (n c m e : Nat) (w : World) (hA : Bs w w.heap.size A n f.da) (hN : A = none → c = 0) (hnc : n ≤ c) (hn : n ≤ 9000) (hD : Ps w w.heap.size D m f.ps) (hm : m ≤ 10000) (HP32 : Hid (∀ w0, Calls Tryz.prog 83 #[.agg (fra f A n c D m e), .int .u8 32] w0 fun e w' => e = .returned (.bool true) ∧ Below w0.heap.size w0 w')) (hpe : (prE f.dp != 0) = false) (r : List UInt8 × Int) (HL : Hid (∀ A4 n4 c4 w0, (A4 = none → c4 = 0) → n4 ≤ c4 → n4 ≤ 9000 → Bs w0 w0.heap.size A4 n4 (prV f.al f.dp f.wt ++ f.da) → Ps w0 w0.heap.size D m f.ps → Calls Tryz.prog 60 #[.agg (fra f A4 n4 c4 D m e)] w0 (LayPost A4 n4 c4 (prV f.al f.dp f.wt ++ f.da) r w0))) (hn2 : n ≤ 8900) :
    Calls Tryz.prog 62 #[.agg (fra f A n c D m e)] w (LayPost A n c f.da (r) w) := by
  obtain ⟨i0, hi, hz0, hz1, hz2⟩ := info_parts info_u8
  have hinf := Lib.hid (And.intro hi (And.intro hz0 (And.intro hz1 hz2)))
  have hco := f.co.toNat_lt
  have hwt := f.wt.toNat_lt
  have HN := Lib.hid hN
  have HX : Hid (f.da.length = n) := Lib.hid hA.1
  have K0 : Hid (EnvB (w.alloc (.cells (fra f A n c D m e) 30)) [(A, n, f.da)] [(D, m, f.ps)] [(w.heap.size, (fra f A n c D m e), 30)]) := Lib.hid ((((EnvB.nil w).addS0 hA).addP0 hD).box 30 (fra f A n c D m e))
  have B0 : Hid (Below w.heap.size w (w.alloc (.cells (fra f A n c D m e) 30))) := Lib.hid ((Below.refl _ w).alloc (Nat.le_refl _) _)
  clear hi hz0 hz1 hz2 hA hN hD
  obtain ⟨NL, hNL⟩ : ∃ N, (prV f.al f.dp f.wt ++ f.da).length = N := ⟨_, rfl⟩
  have HNL := Lib.hid hNL
  have HNL9 : Hid (NL ≤ 9000) := Lib.hid (by rw [← hNL, List.length_append]; have := prV_5 f.al f.dp f.wt; have := HX.out; omega)
  clear hNL
  go_enter Tryz.func62, Tryz.ntmps62
  go_wp2_with (first
    | (refine at_load 30 (.tmp 1) (by rfl) ?_; refine wpList_load_row (by rfl) 30 (.tmp 1) (by rfl) (w.heap.size) (by rfl) 30 _ (0, 0) _ (K0.out.row 0 rfl) Tryz.underlying30 (by rfl) info_F ?_)
    | (go_at_call 83; (with_reducible refine (HP32.out _).mono ?_); rintro e w1 ⟨rfl, hb⟩; have K1 := Lib.hid (K0.out.on hb); have B1 := Lib.hid (below_step B0.out hb); clear hb K0 B0; obtain ⟨f_0, f_1, f_2, f_3, f_4, f_5, f_6, f_7, f_8, f_9, f_10, f_11, f_12⟩ := c13_row (K1.out.row 0 rfl))
    | (go_at_call 88; (with_reducible refine (fprank_tot f.al f.dp f.wt _).mono ?_); rintro e w2 ⟨v1, rfl, ho, hb⟩; have HO1 := Lib.hid ho; have HB12 := Lib.hid hb; have K2 := Lib.hid (K1.out.on hb); clear ho hb)
    | (refine at_load 24 (.tmp 18) (by rfl) ?_; refine wpList_get (by rfl) 24 (.tmp 18) (by rfl) (w.heap.size) 3 (by rfl) 30 _ (.slice A n c) _ (K2.out.row 0 rfl) (by rfl) Tryz.underlying24 (by rfl) ?_)
    | (at_builtin; refine wpList_append_bytes _ rfl (.tmp 17) (.tmp 19) 24 rfl w1.heap.size 5 i0 Tryz.underlying24 hinf.out.1 hinf.out.2.1 hinf.out.2.2.1 hinf.out.2.2.2 _ _ rfl HO1.out _ A n c f.da rfl (K2.out.s (A, n, f.da) (by simp)).1 HN.out (by have := prV_5 f.al f.dp f.wt; omega) HB12.out.size ?_; intro v3 w3 ho hb; obtain ⟨A3, c3, rfl, hh⟩ := ho.handS HNL.out; have HB13 := Lib.hid (HB12.out.trans hb); have K3 : Hid (EnvB w3 [(A3, NL, prV f.al f.dp f.wt ++ f.da), (A, n, f.da)] [(D, m, f.ps)] [(w.heap.size, (fra f A n c D m e), 30)]) := Lib.hid (K1.out.handS HB13.out hh); have B3 := Lib.hid (below_step B1.out HB13.out); have HH3 := Lib.hid hh.2.2; have HF3 := Lib.hid (hh.2.1.less B1.out.size); clear ho hb hh)
    | (refine at_store 24 (.tmp 21) (.tmp 20) (by rfl) ?_; refine wpList_put (by rfl) 24 (.tmp 21) (.tmp 20) (by rfl) (w.heap.size) 3 (.slice A3 NL c3) (by rfl) (by rfl) 30 _ (fra f A3 NL c3 D m e) (K3.out.row 0 rfl) (by simp [Value.cells]) (by kernel_rfl) info_B (by kernel_rfl) ?_; intro w4 hrow hoth hz hbl; have K4 := Lib.hid (K3.out.turn 0 rfl hrow hoth hz); have B4 := Lib.hid (hbl _ _ (Nat.le_refl _) B3.out); clear hrow hoth hz hbl K3 B3)
    | (refine at_load 30 (.tmp 1) (by rfl) ?_; refine wpList_load_row (by rfl) 30 (.tmp 1) (by rfl) (w.heap.size) (by rfl) 30 _ (0, 0) _ (K4.out.row 0 rfl) Tryz.underlying30 (by rfl) info_F ?_)
    | (go_at_call 60; (with_reducible refine (HL.out A3 NL c3 _ HH3.out.2 HH3.out.1 HNL9.out (K4.out.s (A3, NL, prV f.al f.dp f.wt ++ f.da) (by simp)).1 (K4.out.p (D, m, f.ps) (by simp)).1).mono ?_); rintro e w5 ⟨A9, n9, c9, rfl, hor, hb⟩; have K5 := Lib.hid (K4.out.on hb); have B5 := Lib.hid (below_step B4.out hb); have HR9 := Lib.hid hor; have HS9 := Lib.hid B4.out.size; clear hor; clear hb K4 B4))
  go_ret2
  refine ⟨A9, n9, c9, rfl, .inl ?_, B5.out⟩
  rcases HR9.out with h | ⟨h1, h2, h3, h⟩
  · exact ⟨h.1, h.2.1.less HS9.out, h.2.2⟩
  · rw [h, h1, h2, h3]
    exact ⟨(K5.out.s (A3, NL, prV f.al f.dp f.wt ++ f.da) (by simp)).1, HF3.out, HH3.out⟩
end Go.Proofs.YtbflhphjnmhjhaaGreat
/- The payload of a frame, by its kind. -/
namespace Go.Proofs.YtbflhphjnmhjhaaGreat
open Go.RowKit Oct Fi Fm
set_option linter.unusedVariables false
set_option linter.unusedSimpArgs false
theorem lay_enters (k : Nat) : Enters Tryz.prog (layF k) := by
  unfold layF
  repeat' split
  · exact enters_of Tryz.func60 (by kernel_rfl) rfl
  · exact enters_of Tryz.func62 (by kernel_rfl) rfl
  · exact enters_of Tryz.func64 (by kernel_rfl) rfl
  · exact enters_of Tryz.func67 (by kernel_rfl) rfl
  · exact enters_of Tryz.func69 (by kernel_rfl) rfl
  · exact enters_of Tryz.func39 (by kernel_rfl) rfl
  · exact enters_of Tryz.func39 (by kernel_rfl) rfl
  · exact enters_of Tryz.func72 (by kernel_rfl) rfl
  · exact enters_of Tryz.func74 (by kernel_rfl) rfl
  · exact enters_of Tryz.func39 (by kernel_rfl) rfl
  · exact enters_of Tryz.func76 (by kernel_rfl) rfl
  · exact enters_of Tryz.func39 (by kernel_rfl) rfl
section
variable (f : Fr) (A D : Option Addr) (n c m e : Nat) (w : World) (hA : Bs w w.heap.size A n f.da) (hN : A = none → c = 0) (hnc : n ≤ c) (hD : Ps w w.heap.size D m f.ps) (hm : m ≤ 10000)
include hA hN hnc hD hm
theorem lay_data (hn : n ≤ 9000) : Calls Tryz.prog 60 #[frv f (.slice A n c) (.slice D m e)] w (LayPost A n c f.da (padF f f.da) w) := by
  have hp := fun w0 => p_has (a := A) (p := D) (n := n) (c := c) (m := m) (d := e) (pd := f.pd) (la := f.la) (ic := f.ic) (co := (f.co.toNat : Int)) (dp := f.dp) (wt := (f.wt.toNat : Int)) (rk := f.rk) (al := f.al) (f.kd.toNat : Int) f.st 8 f.fl w0
  unfold padF
  by_cases hb : hasB (f.fl.toNat : Int) 8 = true
  · rw [if_pos hb]
    rw [hb] at hp
    exact l_data_P f A D n c m e w hA hN hnc hn hD hm (Lib.hid hp)
  · rw [if_neg hb]
    rw [show hasB (f.fl.toNat : Int) 8 = false by simpa using hb] at hp
    exact l_data_N f A D n c m e w hA hN hnc hn hD hm (Lib.hid hp)
theorem lay_headers (hn : n ≤ 8900) : Calls Tryz.prog 62 #[frv f (.slice A n c) (.slice D m e)] w (LayPost A n c f.da (if hasB (f.fl.toNat : Int) 32 = true then rkF f f.da else padF f f.da) w) := by
  have hp := fun w0 => p_has (a := A) (p := D) (n := n) (c := c) (m := m) (d := e) (pd := f.pd) (la := f.la) (ic := f.ic) (co := (f.co.toNat : Int)) (dp := f.dp) (wt := (f.wt.toNat : Int)) (rk := f.rk) (al := f.al) (f.kd.toNat : Int) f.st 32 f.fl w0
  by_cases hb : hasB (f.fl.toNat : Int) 32 = true
  · rw [if_pos hb]
    rw [hb] at hp
    unfold rkF
    by_cases h0 : prE f.dp = 0
    · rw [if_pos h0]
      exact l_headers_R f A D n c m e w hA hN hnc (by omega) hD hm (Lib.hid hp) (by simpa using h0) _ (Lib.hid (fun A4 n4 c4 w0 h1 h2 h3 h4 h5 => lay_data { f with da := prV f.al f.dp f.wt ++ f.da } A4 D n4 c4 m e w0 h4 h1 h2 h5 hm h3)) hn
    · rw [if_neg h0]
      exact l_headers_E f A D n c m e w hA hN hnc (by omega) hD hm (Lib.hid hp) (by simpa using h0)
  · rw [if_neg hb]
    rw [show hasB (f.fl.toNat : Int) 32 = false by simpa using hb] at hp
    exact l_headers_N f A D n c m e w hA hN hnc (by omega) hD hm (Lib.hid hp) _ (Lib.hid (fun w0 h4 h5 => lay_data f A D n c m e w0 h4 hN hnc h5 hm (by omega)))
theorem lay_any (hn : n ≤ 8900) : Calls Tryz.prog (layF f.kd.toNat) #[frv f (.slice A n c) (.slice D m e)] w (LayPost A n c f.da (layR f) w) := by
  have hn9 : n ≤ 9000 := by omega
  rcases kinds_of f.kd.toNat with hk | hk | hk | hk | hk | hk | hk | hk | hk | hk | hk | hk
  · have h := lay_data f A D n c m e w hA hN hnc hD hm hn9
    have hL : layF f.kd.toNat = 60 := by rw [hk]; rfl
    have hR : layR f = padF f f.da := by unfold layR; simp only [hk, if_true, if_false, Nat.reduceEqDiff]
    rw [hL, hR]
    exact h
  · have h := lay_headers f A D n c m e w hA hN hnc hD hm hn
    have hL : layF f.kd.toNat = 62 := by rw [hk]; rfl
    have hR : layR f = (if hasB (f.fl.toNat : Int) 32 = true then rkF f f.da else padF f f.da) := by unfold layR; simp only [hk, if_true, if_false, Nat.reduceEqDiff]
    rw [hL, hR]
    exact h
  · have h := l_priority f A D n c m e w hA hN hnc hn9 hD hm
    have hL : layF f.kd.toNat = 64 := by rw [hk]; rfl
    have hR : layR f = (prV f.al f.dp f.wt, prE f.dp) := by unfold layR; simp only [hk, if_true, if_false, Nat.reduceEqDiff]
    rw [hL, hR]
    exact h
  · have h := l_reset f A D n c m e w hA hN hnc hn9 hD hm
    have hL : layF f.kd.toNat = 67 := by rw [hk]; rfl
    have hR : layR f = (nuV [(f.co.toNat : Int)] [], nuE [(f.co.toNat : Int)]) := by unfold layR; simp only [hk, if_true, if_false, Nat.reduceEqDiff]
    rw [hL, hR]
    exact h
  · have h := l_settings f A D n c m e w hA hN hnc hn9 hD hm
    have hL : layF f.kd.toNat = 69 := by rw [hk]; rfl
    have hR : layR f = (ppV f.ps, 0) := by unfold layR; simp only [hk, if_true, if_false, Nat.reduceEqDiff]
    rw [hL, hR]
    exact h
  · have h := l_rest f A D n c m e w hA hN hnc hn9 hD hm
    have hL : layF f.kd.toNat = 39 := by rw [hk]; rfl
    have hR : layR f = (f.da, 0) := by unfold layR; simp only [hk, if_true, if_false, Nat.reduceEqDiff]
    rw [hL, hR]
    exact h
  · have h := l_rest f A D n c m e w hA hN hnc hn9 hD hm
    have hL : layF f.kd.toNat = 39 := by rw [hk]; rfl
    have hR : layR f = (f.da, 0) := by unfold layR; simp only [hk, if_true, if_false, Nat.reduceEqDiff]
    rw [hL, hR]
    exact h
  · have h := l_away f A D n c m e w hA hN hnc hn9 hD hm
    have hL : layF f.kd.toNat = 72 := by rw [hk]; rfl
    have hR : layR f = (nuV [f.la, (f.co.toNat : Int)] f.da, nuE [f.la, (f.co.toNat : Int)]) := by unfold layR; simp only [hk, if_true, if_false, Nat.reduceEqDiff]
    rw [hL, hR]
    exact h
  · have h := l_window f A D n c m e w hA hN hnc hn9 hD hm
    have hL : layF f.kd.toNat = 74 := by rw [hk]; rfl
    have hR : layR f = (nuV [f.ic] [], nuE [f.ic]) := by unfold layR; simp only [hk, if_true, if_false, Nat.reduceEqDiff]
    rw [hL, hR]
    exact h
  · have h := l_rest f A D n c m e w hA hN hnc hn9 hD hm
    have hL : layF f.kd.toNat = 39 := by rw [hk]; rfl
    have hR : layR f = (f.da, 0) := by unfold layR; simp only [hk, if_true, if_false, Nat.reduceEqDiff]
    rw [hL, hR]
    exact h
  · have h := l_urgency f A D n c m e w hA hN hnc hn9 hD hm
    have hL : layF f.kd.toNat = 76 := by rw [hk]; rfl
    have hR : layR f = (nuV [f.la] f.da, nuE [f.la]) := by unfold layR; simp only [hk, if_true, if_false, Nat.reduceEqDiff]
    rw [hL, hR]
    exact h
  · have hL : layF f.kd.toNat = 39 := by
      unfold layF
      simp only [hk.1, hk.2.1, hk.2.2.1, hk.2.2.2.1, hk.2.2.2.2.1, hk.2.2.2.2.2.1, hk.2.2.2.2.2.2.1, hk.2.2.2.2.2.2.2.1, hk.2.2.2.2.2.2.2.2.1, hk.2.2.2.2.2.2.2.2.2.1, hk.2.2.2.2.2.2.2.2.2.2, if_false]
    have hR : layR f = (f.da, 0) := by
      unfold layR
      simp only [hk.1, hk.2.1, hk.2.2.1, hk.2.2.2.1, hk.2.2.2.2.1, hk.2.2.2.2.2.1, hk.2.2.2.2.2.2.1, hk.2.2.2.2.2.2.2.1, hk.2.2.2.2.2.2.2.2.1, hk.2.2.2.2.2.2.2.2.2.1, hk.2.2.2.2.2.2.2.2.2.2, if_false]
    rw [hL, hR]
    exact l_rest f A D n c m e w hA hN hnc hn9 hD hm
end
end Go.Proofs.YtbflhphjnmhjhaaGreat
