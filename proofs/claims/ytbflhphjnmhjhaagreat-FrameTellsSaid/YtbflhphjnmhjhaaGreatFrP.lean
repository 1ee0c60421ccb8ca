/- The document's payload of a frame, kind by kind. -/
import Derived.Test.YtbflhphjnmhjhaaGreatFrN
import Derived.Test.YtbflhphjnmhjhaaGreatMfi
namespace Go.Proofs.YtbflhphjnmhjhaaGreat
open Go.RowKit Oct Fi Fm
set_option linter.unusedVariables false
set_option linter.unusedSimpArgs false
attribute [local go_sem] i64_and1 i64_and7 i64_and31

theorem row_on {w w' : World} {B g : Nat} {o : Obj} (h : w.heap[g]? = some o) (hb : Below B w w') (hg : g < B) : w'.heap[g]? = some o := by
  have hlt := (Array.getElem?_eq_some_iff.1 h).1
  rw [hb.block _ (by omega)]
  exact h
theorem u8_and8 (F : UInt8) : bits .and .u8 (F.toNat : Int) 8 = if hasB (F.toNat : Int) 8 = true then 8 else 0 := by
  have h : ∀ i : Fin 256, bits .and .u8 ((i.val : Nat) : Int) 8 = if (bits .and .u8 ((i.val : Nat) : Int) 8 == 8) = true then 8 else 0 := by decide +kernel
  exact h ⟨F.toNat, F.toNat_lt⟩
theorem prV_le5 (a : Bool) (D : Int) (W : UInt8) : (prV a D W).length ≤ 5 := by
  unfold prV
  split <;> simp [putB_length]
theorem putV4_len (N : Int) : (putV N 4).length ≤ 4 := by
  unfold putV
  split
  · simp [putB_length]
  · simp
set_option maxRecDepth 100000 in
set_option maxHeartbeats 4000000 in
theorem m_pay_rank (f : Fr) (A D : Option Addr) (n c m e : Nat) (w : World) (hA : Bs w w.heap.size A n f.da) (hN : A = none → c = 0) (hn : n ≤ 9000) (hD : Ps w w.heap.size D m f.ps) (hm : m ≤ 10000) (hk : f.kd.toNat = 2) :
    Calls Tryz.prog 30 #[.agg #[.int .u8 f.kd.toNat, .int .u8 f.fl.toNat, .int .i64 f.st, .slice A n c, .int .i64 f.pd, .int .i64 f.la, .int .i64 f.ic, .int .u32 f.co.toNat, .slice D m e, .bool f.rk, .bool f.al, .int .i64 f.dp, .int .u8 f.wt.toNat]] w fun e' w' => ∃ v, e' = .returned v ∧ OwnB w' w.heap.size 5 v (prV f.al f.dp f.wt) ∧ Below w.heap.size w w' := by
  obtain ⟨i0, hi, hz0, hz1, hz2⟩ := info_parts info_u8
  have hinf := Lib.hid (And.intro hi (And.intro hz0 (And.intro hz1 hz2)))
  have HA := Lib.hid hA
  have HD := Lib.hid hD
  have HN := Lib.hid hN
  have HX : Hid (f.da.length = n) := Lib.hid hA.1
  have HF := m_four f A D n c m e
  unfold frv at HF
  have hk2 : (f.kd.toNat : Int) = 2 := by omega
  rw [hk2] at HF ⊢
  clear hk hk2
  have hF := Lib.hid HF
  clear hi hz0 hz1 hz2 hA hD hN HF
  go_enter Tryz.func30, Tryz.ntmps30
  go_wp2_with (first
    | (go_at_call 50; (with_reducible refine (hF.out _).mono ?_); rintro e1 w1 ⟨v1, rfl, ho, hb⟩; have hr := f_box hb; obtain ⟨p0, p1, p2, p3, p4, p5, p6, p7, p8, p9, p10, p11, p12⟩ := c13_row hr; have R1 := Lib.hid hr; have B1 := Lib.hid (below_lit (Below.refl _ w) hb); have HO1 := Lib.hid ho; have C1 := Lib.hid hb.size; clear ho hb hr)
    | (go_at_call 51; (with_reducible refine (rprank_tot f.al f.dp f.wt _).mono ?_); rintro e2 w2 ⟨v2, rfl, ho, hb⟩; have hr := row_on R1.out hb (Array.getElem?_eq_some_iff.1 R1.out).1; clear p0 p1 p2 p3 p4 p5 p6 p7 p8 p9 p10 p11 p12; obtain ⟨p0, p1, p2, p3, p4, p5, p6, p7, p8, p9, p10, p11, p12⟩ := c13_row hr; have R2 := Lib.hid hr; have B2 := Lib.hid (below_step B1.out hb); have HO2 := Lib.hid (ho.less B1.out.size); clear ho hb hr)
)
  go_ret
  exact ⟨_, rfl, HO2.out, B2.out⟩
set_option maxRecDepth 100000 in
set_option maxHeartbeats 4000000 in
theorem m_pay_settings (f : Fr) (A D : Option Addr) (n c m e : Nat) (w : World) (hA : Bs w w.heap.size A n f.da) (hN : A = none → c = 0) (hn : n ≤ 9000) (hD : Ps w w.heap.size D m f.ps) (hm : m ≤ 10000) (hk : f.kd.toNat = 4) :
    Calls Tryz.prog 30 #[.agg #[.int .u8 f.kd.toNat, .int .u8 f.fl.toNat, .int .i64 f.st, .slice A n c, .int .i64 f.pd, .int .i64 f.la, .int .i64 f.ic, .int .u32 f.co.toNat, .slice D m e, .bool f.rk, .bool f.al, .int .i64 f.dp, .int .u8 f.wt.toNat]] w fun e' w' => ∃ v, e' = .returned v ∧ OwnB w' w.heap.size 5 v (ppV f.ps) ∧ Below w.heap.size w w' := by
  obtain ⟨i0, hi, hz0, hz1, hz2⟩ := info_parts info_u8
  have hinf := Lib.hid (And.intro hi (And.intro hz0 (And.intro hz1 hz2)))
  have HA := Lib.hid hA
  have HD := Lib.hid hD
  have HN := Lib.hid hN
  have HX : Hid (f.da.length = n) := Lib.hid hA.1
  have HF := m_four f A D n c m e
  unfold frv at HF
  have hk2 : (f.kd.toNat : Int) = 4 := by omega
  rw [hk2] at HF ⊢
  clear hk hk2
  have hF := Lib.hid HF
  clear hi hz0 hz1 hz2 hA hD hN HF
  go_enter Tryz.func30, Tryz.ntmps30
  go_wp2_with (first
    | (go_at_call 50; (with_reducible refine (hF.out _).mono ?_); rintro e1 w1 ⟨v1, rfl, ho, hb⟩; have hr := f_box hb; obtain ⟨p0, p1, p2, p3, p4, p5, p6, p7, p8, p9, p10, p11, p12⟩ := c13_row hr; have R1 := Lib.hid hr; have B1 := Lib.hid (below_lit (Below.refl _ w) hb); have HO1 := Lib.hid ho; have C1 := Lib.hid hb.size; clear ho hb hr)
    | (go_at_call 52; (with_reducible refine (rpp_any D m e f.ps _ (HD.out.on B1.out) (by omega)).mono ?_); rintro e2 w2 ⟨v2, rfl, ho, hb⟩; have hr := row_on R1.out hb (Array.getElem?_eq_some_iff.1 R1.out).1; clear p0 p1 p2 p3 p4 p5 p6 p7 p8 p9 p10 p11 p12; obtain ⟨p0, p1, p2, p3, p4, p5, p6, p7, p8, p9, p10, p11, p12⟩ := c13_row hr; have R2 := Lib.hid hr; have B2 := Lib.hid (below_step B1.out hb); have HO2 := Lib.hid (ho.less B1.out.size); clear ho hb hr)
)
  go_ret
  exact ⟨_, rfl, HO2.out, B2.out⟩
set_option maxRecDepth 100000 in
set_option maxHeartbeats 4000000 in
theorem m_pay_reset (f : Fr) (A D : Option Addr) (n c m e : Nat) (w : World) (hA : Bs w w.heap.size A n f.da) (hN : A = none → c = 0) (hn : n ≤ 9000) (hD : Ps w w.heap.size D m f.ps) (hm : m ≤ 10000) (hk : f.kd.toNat = 3) :
    Calls Tryz.prog 30 #[.agg #[.int .u8 f.kd.toNat, .int .u8 f.fl.toNat, .int .i64 f.st, .slice A n c, .int .i64 f.pd, .int .i64 f.la, .int .i64 f.ic, .int .u32 f.co.toNat, .slice D m e, .bool f.rk, .bool f.al, .int .i64 f.dp, .int .u8 f.wt.toNat]] w fun e' w' => ∃ v, e' = .returned v ∧ OwnB w' w.heap.size 5 v (putV (fourN f) 4) ∧ Below w.heap.size w w' := by
  obtain ⟨i0, hi, hz0, hz1, hz2⟩ := info_parts info_u8
  have hinf := Lib.hid (And.intro hi (And.intro hz0 (And.intro hz1 hz2)))
  have HA := Lib.hid hA
  have HD := Lib.hid hD
  have HN := Lib.hid hN
  have HX : Hid (f.da.length = n) := Lib.hid hA.1
  have HF := m_four f A D n c m e
  unfold frv at HF
  have hk2 : (f.kd.toNat : Int) = 3 := by omega
  rw [hk2] at HF ⊢
  clear hk hk2
  have hF := Lib.hid HF
  clear hi hz0 hz1 hz2 hA hD hN HF
  go_enter Tryz.func30, Tryz.ntmps30
  go_wp2_with (first
    | (go_at_call 50; (with_reducible refine (hF.out _).mono ?_); rintro e1 w1 ⟨v1, rfl, ho, hb⟩; have hr := f_box hb; obtain ⟨p0, p1, p2, p3, p4, p5, p6, p7, p8, p9, p10, p11, p12⟩ := c13_row hr; have R1 := Lib.hid hr; have B1 := Lib.hid (below_lit (Below.refl _ w) hb); have HO1 := Lib.hid ho; have C1 := Lib.hid hb.size; clear ho hb hr)
)
  go_ret
  exact ⟨_, rfl, HO1.out.less (by simp), B1.out⟩
set_option maxRecDepth 100000 in
set_option maxHeartbeats 4000000 in
theorem m_pay_window (f : Fr) (A D : Option Addr) (n c m e : Nat) (w : World) (hA : Bs w w.heap.size A n f.da) (hN : A = none → c = 0) (hn : n ≤ 9000) (hD : Ps w w.heap.size D m f.ps) (hm : m ≤ 10000) (hk : f.kd.toNat = 8) :
    Calls Tryz.prog 30 #[.agg #[.int .u8 f.kd.toNat, .int .u8 f.fl.toNat, .int .i64 f.st, .slice A n c, .int .i64 f.pd, .int .i64 f.la, .int .i64 f.ic, .int .u32 f.co.toNat, .slice D m e, .bool f.rk, .bool f.al, .int .i64 f.dp, .int .u8 f.wt.toNat]] w fun e' w' => ∃ v, e' = .returned v ∧ OwnB w' w.heap.size 5 v (putV (fourN f) 4) ∧ Below w.heap.size w w' := by
  obtain ⟨i0, hi, hz0, hz1, hz2⟩ := info_parts info_u8
  have hinf := Lib.hid (And.intro hi (And.intro hz0 (And.intro hz1 hz2)))
  have HA := Lib.hid hA
  have HD := Lib.hid hD
  have HN := Lib.hid hN
  have HX : Hid (f.da.length = n) := Lib.hid hA.1
  have HF := m_four f A D n c m e
  unfold frv at HF
  have hk2 : (f.kd.toNat : Int) = 8 := by omega
  rw [hk2] at HF ⊢
  clear hk hk2
  have hF := Lib.hid HF
  clear hi hz0 hz1 hz2 hA hD hN HF
  go_enter Tryz.func30, Tryz.ntmps30
  go_wp2_with (first
    | (go_at_call 50; (with_reducible refine (hF.out _).mono ?_); rintro e1 w1 ⟨v1, rfl, ho, hb⟩; have hr := f_box hb; obtain ⟨p0, p1, p2, p3, p4, p5, p6, p7, p8, p9, p10, p11, p12⟩ := c13_row hr; have R1 := Lib.hid hr; have B1 := Lib.hid (below_lit (Below.refl _ w) hb); have HO1 := Lib.hid ho; have C1 := Lib.hid hb.size; clear ho hb hr)
)
  go_ret
  exact ⟨_, rfl, HO1.out.less (by simp), B1.out⟩
set_option maxRecDepth 100000 in
set_option maxHeartbeats 4000000 in
theorem m_pay_other (f : Fr) (A D : Option Addr) (n c m e : Nat) (w : World) (hA : Bs w w.heap.size A n f.da) (hN : A = none → c = 0) (hn : n ≤ 9000) (hD : Ps w w.heap.size D m f.ps) (hm : m ≤ 10000) (hk : f.kd.toNat ≠ 0 ∧ f.kd.toNat ≠ 1 ∧ f.kd.toNat ≠ 2 ∧ f.kd.toNat ≠ 3 ∧ f.kd.toNat ≠ 4 ∧ f.kd.toNat ≠ 7 ∧ f.kd.toNat ≠ 8 ∧ f.kd.toNat ≠ 16) :
    Calls Tryz.prog 30 #[.agg #[.int .u8 f.kd.toNat, .int .u8 f.fl.toNat, .int .i64 f.st, .slice A n c, .int .i64 f.pd, .int .i64 f.la, .int .i64 f.ic, .int .u32 f.co.toNat, .slice D m e, .bool f.rk, .bool f.al, .int .i64 f.dp, .int .u8 f.wt.toNat]] w fun e' w' => ∃ v, e' = .returned v ∧ OwnB w' w.heap.size 5 v (f.da) ∧ Below w.heap.size w w' := by
  obtain ⟨i0, hi, hz0, hz1, hz2⟩ := info_parts info_u8
  have hinf := Lib.hid (And.intro hi (And.intro hz0 (And.intro hz1 hz2)))
  have HA := Lib.hid hA
  have HD := Lib.hid hD
  have HN := Lib.hid hN
  have HX : Hid (f.da.length = n) := Lib.hid hA.1
  have HF := m_four f A D n c m e
  unfold frv at HF
  have d0 : ((f.kd.toNat : Int) == 0) = false := by rw [beq_eq_false_iff_ne]; omega
  have d1 : ((f.kd.toNat : Int) == 1) = false := by rw [beq_eq_false_iff_ne]; omega
  have d2 : ((f.kd.toNat : Int) == 2) = false := by rw [beq_eq_false_iff_ne]; omega
  have d3 : ((f.kd.toNat : Int) == 3) = false := by rw [beq_eq_false_iff_ne]; omega
  have d4 : ((f.kd.toNat : Int) == 4) = false := by rw [beq_eq_false_iff_ne]; omega
  have d7 : ((f.kd.toNat : Int) == 7) = false := by rw [beq_eq_false_iff_ne]; omega
  have d8 : ((f.kd.toNat : Int) == 8) = false := by rw [beq_eq_false_iff_ne]; omega
  have d16 : ((f.kd.toNat : Int) == 16) = false := by rw [beq_eq_false_iff_ne]; omega
  have hF := Lib.hid HF
  clear hi hz0 hz1 hz2 hA hD hN HF
  go_enter Tryz.func30, Tryz.ntmps30
  go_wp2_with (first
    | (go_at_call 50; (with_reducible refine (hF.out _).mono ?_); rintro e1 w1 ⟨v1, rfl, ho, hb⟩; have hr := f_box hb; obtain ⟨p0, p1, p2, p3, p4, p5, p6, p7, p8, p9, p10, p11, p12⟩ := c13_row hr; have R1 := Lib.hid hr; have B1 := Lib.hid (below_lit (Below.refl _ w) hb); have HO1 := Lib.hid ho; have C1 := Lib.hid hb.size; clear ho hb hr)
    | (at_builtin; refine wpList_append_bytes _ rfl (.tmp 11) (.tmp 13) 24 rfl w1.heap.size 5 i0 Tryz.underlying24 hinf.out.1 hinf.out.2.1 hinf.out.2.2.1 hinf.out.2.2.2 _ [] rfl (OwnB.nil_ _ _ _) _ A n c f.da rfl (HA.out.on B1.out) HN.out (by simp; omega) (by first | exact Nat.le_refl _ | exact C1.out | exact B1.out.size) ?_; intro v2 w2 ho hb; have hr := row_on R1.out hb (by first | (simp; done) | exact (Array.getElem?_eq_some_iff.1 R1.out).1); clear p0 p1 p2 p3 p4 p5 p6 p7 p8 p9 p10 p11 p12; obtain ⟨p0, p1, p2, p3, p4, p5, p6, p7, p8, p9, p10, p11, p12⟩ := c13_row hr; have R2 := Lib.hid hr; have B2 := Lib.hid (B1.out.trans (hb.mono (by first | (simp; done) | exact B1.out.size))); have HO2 := Lib.hid (ho.less (show w.heap.size ≤ _ from (by first | (simp; done) | exact B1.out.size))); clear ho hb hr)
)
  go_ret
  exact ⟨_, rfl, HO2.out, B2.out⟩
set_option maxRecDepth 100000 in
set_option maxHeartbeats 4000000 in
theorem m_pay_urgency (f : Fr) (A D : Option Addr) (n c m e : Nat) (w : World) (hA : Bs w w.heap.size A n f.da) (hN : A = none → c = 0) (hn : n ≤ 9000) (hD : Ps w w.heap.size D m f.ps) (hm : m ≤ 10000) (hk : f.kd.toNat = 16) :
    Calls Tryz.prog 30 #[.agg #[.int .u8 f.kd.toNat, .int .u8 f.fl.toNat, .int .i64 f.st, .slice A n c, .int .i64 f.pd, .int .i64 f.la, .int .i64 f.ic, .int .u32 f.co.toNat, .slice D m e, .bool f.rk, .bool f.al, .int .i64 f.dp, .int .u8 f.wt.toNat]] w fun e' w' => ∃ v, e' = .returned v ∧ OwnB w' w.heap.size 5 v (putV (fourN f) 4 ++ f.da) ∧ Below w.heap.size w w' := by
  obtain ⟨i0, hi, hz0, hz1, hz2⟩ := info_parts info_u8
  have hinf := Lib.hid (And.intro hi (And.intro hz0 (And.intro hz1 hz2)))
  have HA := Lib.hid hA
  have HD := Lib.hid hD
  have HN := Lib.hid hN
  have HX : Hid (f.da.length = n) := Lib.hid hA.1
  have HF := m_four f A D n c m e
  unfold frv at HF
  have hk2 : (f.kd.toNat : Int) = 16 := by omega
  rw [hk2] at HF ⊢
  clear hk hk2
  have HL : (putV (fourN f) 4).length ≤ 4 := putV4_len _
  have hF := Lib.hid HF
  clear hi hz0 hz1 hz2 hA hD hN HF
  go_enter Tryz.func30, Tryz.ntmps30
  go_wp2_with (first
    | (go_at_call 50; (with_reducible refine (hF.out _).mono ?_); rintro e1 w1 ⟨v1, rfl, ho, hb⟩; have hr := f_box hb; obtain ⟨p0, p1, p2, p3, p4, p5, p6, p7, p8, p9, p10, p11, p12⟩ := c13_row hr; have R1 := Lib.hid hr; have B1 := Lib.hid (below_lit (Below.refl _ w) hb); have HO1 := Lib.hid ho; have C1 := Lib.hid hb.size; clear ho hb hr)
    | (at_builtin; refine wpList_append_bytes _ rfl (.tmp 48) (.tmp 50) 24 rfl (w.alloc (.cells #[.int .u8 16, .int .u8 f.fl.toNat, .int .i64 f.st, .slice A n c, .int .i64 f.pd, .int .i64 f.la, .int .i64 f.ic, .int .u32 f.co.toNat, .slice D m e, .bool f.rk, .bool f.al, .int .i64 f.dp, .int .u8 f.wt.toNat] 30)).heap.size 5 i0 Tryz.underlying24 hinf.out.1 hinf.out.2.1 hinf.out.2.2.1 hinf.out.2.2.2 _ _ rfl HO1.out _ A n c f.da rfl (HA.out.on B1.out) HN.out (by omega) (by first | exact Nat.le_refl _ | exact C1.out | exact B1.out.size) ?_; intro v2 w2 ho hb; have hr := row_on R1.out hb (by first | (simp; done) | exact (Array.getElem?_eq_some_iff.1 R1.out).1); clear p0 p1 p2 p3 p4 p5 p6 p7 p8 p9 p10 p11 p12; obtain ⟨p0, p1, p2, p3, p4, p5, p6, p7, p8, p9, p10, p11, p12⟩ := c13_row hr; have R2 := Lib.hid hr; have B2 := Lib.hid (B1.out.trans (hb.mono (by first | (simp; done) | exact B1.out.size))); have HO2 := Lib.hid (ho.less (show w.heap.size ≤ _ from (by first | (simp; done) | exact B1.out.size))); clear ho hb hr)
)
  go_ret
  exact ⟨_, rfl, HO2.out, B2.out⟩
set_option maxRecDepth 100000 in
set_option maxHeartbeats 4000000 in
theorem m_pay_data_N (f : Fr) (A D : Option Addr) (n c m e : Nat) (w : World) (hA : Bs w w.heap.size A n f.da) (hN : A = none → c = 0) (hn : n ≤ 9000) (hD : Ps w w.heap.size D m f.ps) (hm : m ≤ 10000) (hk : f.kd.toNat = 0) (hp : hasB (f.fl.toNat : Int) 8 = false) :
    Calls Tryz.prog 30 #[.agg #[.int .u8 f.kd.toNat, .int .u8 f.fl.toNat, .int .i64 f.st, .slice A n c, .int .i64 f.pd, .int .i64 f.la, .int .i64 f.ic, .int .u32 f.co.toNat, .slice D m e, .bool f.rk, .bool f.al, .int .i64 f.dp, .int .u8 f.wt.toNat]] w fun e' w' => ∃ v, e' = .returned v ∧ OwnB w' w.heap.size 5 v (f.da) ∧ Below w.heap.size w w' := by
  obtain ⟨i0, hi, hz0, hz1, hz2⟩ := info_parts info_u8
  have hinf := Lib.hid (And.intro hi (And.intro hz0 (And.intro hz1 hz2)))
  have HA := Lib.hid hA
  have HD := Lib.hid hD
  have HN := Lib.hid hN
  have HX : Hid (f.da.length = n) := Lib.hid hA.1
  have HF := m_four f A D n c m e
  unfold frv at HF
  have hk2 : (f.kd.toNat : Int) = 0 := by omega
  rw [hk2] at HF ⊢
  clear hk hk2
  have hps : bits .and .u8 (f.fl.toNat : Int) 8 = 0 := by rw [u8_and8, hp]; rfl
  clear hp
  obtain ⟨N, hNN⟩ : ∃ N, (f.da).length = N := ⟨_, rfl⟩
  have HNL := Lib.hid hNN
  have HL2 : Hid (N ≤ 10000) := Lib.hid (by rw [← hNN]; have := HX.out; omega)
  clear hNN
  have hF := Lib.hid HF
  clear hi hz0 hz1 hz2 hA hD hN HF
  go_enter Tryz.func30, Tryz.ntmps30
  go_wp2_with (first
    | (go_at_call 50; (with_reducible refine (hF.out _).mono ?_); rintro e1 w1 ⟨v1, rfl, ho, hb⟩; have hr := f_box hb; obtain ⟨p0, p1, p2, p3, p4, p5, p6, p7, p8, p9, p10, p11, p12⟩ := c13_row hr; have R1 := Lib.hid hr; have B1 := Lib.hid (below_lit (Below.refl _ w) hb); have HO1 := Lib.hid ho; have C1 := Lib.hid hb.size; clear ho hb hr)
    | (at_builtin; refine wpList_append_bytes _ rfl (.tmp 11) (.tmp 13) 24 rfl w1.heap.size 5 i0 Tryz.underlying24 hinf.out.1 hinf.out.2.1 hinf.out.2.2.1 hinf.out.2.2.2 _ [] rfl (OwnB.nil_ _ _ _) _ A n c f.da rfl (HA.out.on B1.out) HN.out (by simp; omega) (by first | exact Nat.le_refl _ | exact C1.out | exact B1.out.size) ?_; intro v2 w2 ho hb; (try rw [List.nil_append] at ho); obtain ⟨A2, c2, rfl, hh⟩ := ho.handS HNL.out; obtain ⟨hs1, _, _, hs3⟩ := hh; have HS2 := Lib.hid hs1; have HZ2 := Lib.hid hs3; clear hs1 hs3; have hr := row_on R1.out hb (by first | (simp; done) | exact (Array.getElem?_eq_some_iff.1 R1.out).1); clear p0 p1 p2 p3 p4 p5 p6 p7 p8 p9 p10 p11 p12; obtain ⟨p0, p1, p2, p3, p4, p5, p6, p7, p8, p9, p10, p11, p12⟩ := c13_row hr; have R2 := Lib.hid hr; have B2 := Lib.hid (B1.out.trans (hb.mono (by first | (simp; done) | exact B1.out.size))); have HO2 := Lib.hid (ho.less (show w.heap.size ≤ _ from (by first | (simp; done) | exact B1.out.size))); clear ho hb hr)
)
  go_ret
  exact ⟨_, rfl, HO2.out, B2.out⟩
set_option maxRecDepth 100000 in
set_option maxHeartbeats 4000000 in
theorem m_pay_data_P (f : Fr) (A D : Option Addr) (n c m e : Nat) (w : World) (hA : Bs w w.heap.size A n f.da) (hN : A = none → c = 0) (hn : n ≤ 9000) (hD : Ps w w.heap.size D m f.ps) (hm : m ≤ 10000) (hk : f.kd.toNat = 0) (hp : hasB (f.fl.toNat : Int) 8 = true) :
    Calls Tryz.prog 30 #[.agg #[.int .u8 f.kd.toNat, .int .u8 f.fl.toNat, .int .i64 f.st, .slice A n c, .int .i64 f.pd, .int .i64 f.la, .int .i64 f.ic, .int .u32 f.co.toNat, .slice D m e, .bool f.rk, .bool f.al, .int .i64 f.dp, .int .u8 f.wt.toNat]] w fun e' w' => ∃ v, e' = .returned v ∧ OwnB w' w.heap.size 5 v (padV (f.da) (wrap64 (f.pd - 1))) ∧ Below w.heap.size w w' := by
  obtain ⟨i0, hi, hz0, hz1, hz2⟩ := info_parts info_u8
  have hinf := Lib.hid (And.intro hi (And.intro hz0 (And.intro hz1 hz2)))
  have HA := Lib.hid hA
  have HD := Lib.hid hD
  have HN := Lib.hid hN
  have HX : Hid (f.da.length = n) := Lib.hid hA.1
  have HF := m_four f A D n c m e
  unfold frv at HF
  have hk2 : (f.kd.toNat : Int) = 0 := by omega
  rw [hk2] at HF ⊢
  clear hk hk2
  have hps : bits .and .u8 (f.fl.toNat : Int) 8 = 8 := by rw [u8_and8, hp]; rfl
  clear hp
  obtain ⟨N, hNN⟩ : ∃ N, (f.da).length = N := ⟨_, rfl⟩
  have HNL := Lib.hid hNN
  have HL2 : Hid (N ≤ 10000) := Lib.hid (by rw [← hNN]; have := HX.out; omega)
  clear hNN
  have hF := Lib.hid HF
  clear hi hz0 hz1 hz2 hA hD hN HF
  go_enter Tryz.func30, Tryz.ntmps30
  go_wp2_with (first
    | (go_at_call 50; (with_reducible refine (hF.out _).mono ?_); rintro e1 w1 ⟨v1, rfl, ho, hb⟩; have hr := f_box hb; obtain ⟨p0, p1, p2, p3, p4, p5, p6, p7, p8, p9, p10, p11, p12⟩ := c13_row hr; have R1 := Lib.hid hr; have B1 := Lib.hid (below_lit (Below.refl _ w) hb); have HO1 := Lib.hid ho; have C1 := Lib.hid hb.size; clear ho hb hr)
    | (at_builtin; refine wpList_append_bytes _ rfl (.tmp 11) (.tmp 13) 24 rfl w1.heap.size 5 i0 Tryz.underlying24 hinf.out.1 hinf.out.2.1 hinf.out.2.2.1 hinf.out.2.2.2 _ [] rfl (OwnB.nil_ _ _ _) _ A n c f.da rfl (HA.out.on B1.out) HN.out (by simp; omega) (by first | exact Nat.le_refl _ | exact C1.out | exact B1.out.size) ?_; intro v2 w2 ho hb; (try rw [List.nil_append] at ho); obtain ⟨A2, c2, rfl, hh⟩ := ho.handS HNL.out; obtain ⟨hs1, _, _, hs3⟩ := hh; have HS2 := Lib.hid hs1; have HZ2 := Lib.hid hs3; clear hs1 hs3; have hr := row_on R1.out hb (by first | (simp; done) | exact (Array.getElem?_eq_some_iff.1 R1.out).1); clear p0 p1 p2 p3 p4 p5 p6 p7 p8 p9 p10 p11 p12; obtain ⟨p0, p1, p2, p3, p4, p5, p6, p7, p8, p9, p10, p11, p12⟩ := c13_row hr; have R2 := Lib.hid hr; have B2 := Lib.hid (B1.out.trans (hb.mono (by first | (simp; done) | exact B1.out.size))); have HO2 := Lib.hid (ho.less (show w.heap.size ≤ _ from (by first | (simp; done) | exact B1.out.size))); clear ho hb hr)
    | (go_at_call 54; (with_reducible refine (rfpad_tot A2 _ c2 (wrap64 (f.pd - 1)) (f.da) _ HS2.out HZ2.out HL2.out).mono ?_); rintro e3 w3 ⟨v3, rfl, ho, hb⟩; have B3 := Lib.hid (below_step B2.out hb); have HO3 := Lib.hid (ho.less B2.out.size); clear ho hb)
)
  go_ret
  exact ⟨_, rfl, HO3.out, B3.out⟩
set_option maxRecDepth 100000 in
set_option maxHeartbeats 4000000 in
theorem m_pay_headers_NN (f : Fr) (A D : Option Addr) (n c m e : Nat) (w : World) (hA : Bs w w.heap.size A n f.da) (hN : A = none → c = 0) (hn : n ≤ 9000) (hD : Ps w w.heap.size D m f.ps) (hm : m ≤ 10000) (hk : f.kd.toNat = 1) (hp : hasB (f.fl.toNat : Int) 8 = false) (hr : f.rk = false) :
    Calls Tryz.prog 30 #[.agg #[.int .u8 f.kd.toNat, .int .u8 f.fl.toNat, .int .i64 f.st, .slice A n c, .int .i64 f.pd, .int .i64 f.la, .int .i64 f.ic, .int .u32 f.co.toNat, .slice D m e, .bool f.rk, .bool f.al, .int .i64 f.dp, .int .u8 f.wt.toNat]] w fun e' w' => ∃ v, e' = .returned v ∧ OwnB w' w.heap.size 5 v (f.da) ∧ Below w.heap.size w w' := by
  obtain ⟨i0, hi, hz0, hz1, hz2⟩ := info_parts info_u8
  have hinf := Lib.hid (And.intro hi (And.intro hz0 (And.intro hz1 hz2)))
  have HA := Lib.hid hA
  have HD := Lib.hid hD
  have HN := Lib.hid hN
  have HX : Hid (f.da.length = n) := Lib.hid hA.1
  have HF := m_four f A D n c m e
  unfold frv at HF
  have hk2 : (f.kd.toNat : Int) = 1 := by omega
  rw [hk2] at HF ⊢
  clear hk hk2
  have hps : bits .and .u8 (f.fl.toNat : Int) 8 = 0 := by rw [u8_and8, hp]; rfl
  clear hp
  rw [hr] at HF ⊢
  clear hr
  obtain ⟨N, hNN⟩ : ∃ N, (f.da).length = N := ⟨_, rfl⟩
  have HNL := Lib.hid hNN
  have HL2 : Hid (N ≤ 10000) := Lib.hid (by rw [← hNN]; have := HX.out; omega)
  clear hNN
  have hF := Lib.hid HF
  clear hi hz0 hz1 hz2 hA hD hN HF
  go_enter Tryz.func30, Tryz.ntmps30
  go_wp2_with (first
    | (go_at_call 50; (with_reducible refine (hF.out _).mono ?_); rintro e1 w1 ⟨v1, rfl, ho, hb⟩; have hr := f_box hb; obtain ⟨p0, p1, p2, p3, p4, p5, p6, p7, p8, p9, p10, p11, p12⟩ := c13_row hr; have R1 := Lib.hid hr; have B1 := Lib.hid (below_lit (Below.refl _ w) hb); have HO1 := Lib.hid ho; have C1 := Lib.hid hb.size; clear ho hb hr)
    | (at_builtin; refine wpList_append_bytes _ rfl (.tmp 62) (.tmp 64) 24 rfl w1.heap.size 5 i0 Tryz.underlying24 hinf.out.1 hinf.out.2.1 hinf.out.2.2.1 hinf.out.2.2.2 _ [] rfl (OwnB.nil_ _ _ _) _ A n c f.da rfl (HA.out.on B1.out) HN.out (by simp; omega) (by first | exact Nat.le_refl _ | exact C1.out | exact B1.out.size) ?_; intro v2 w2 ho hb; (try rw [List.nil_append] at ho); obtain ⟨A2, c2, rfl, hh⟩ := ho.handS HNL.out; obtain ⟨hs1, _, _, hs3⟩ := hh; have HS2 := Lib.hid hs1; have HZ2 := Lib.hid hs3; clear hs1 hs3; have hr := row_on R1.out hb (by first | (simp; done) | exact (Array.getElem?_eq_some_iff.1 R1.out).1); clear p0 p1 p2 p3 p4 p5 p6 p7 p8 p9 p10 p11 p12; obtain ⟨p0, p1, p2, p3, p4, p5, p6, p7, p8, p9, p10, p11, p12⟩ := c13_row hr; have R2 := Lib.hid hr; have B2 := Lib.hid (B1.out.trans (hb.mono (by first | (simp; done) | exact B1.out.size))); have HO2 := Lib.hid (ho.less (show w.heap.size ≤ _ from (by first | (simp; done) | exact B1.out.size))); clear ho hb hr)
)
  go_ret
  exact ⟨_, rfl, HO2.out, B2.out⟩
set_option maxRecDepth 100000 in
set_option maxHeartbeats 4000000 in
theorem m_pay_headers_NP (f : Fr) (A D : Option Addr) (n c m e : Nat) (w : World) (hA : Bs w w.heap.size A n f.da) (hN : A = none → c = 0) (hn : n ≤ 9000) (hD : Ps w w.heap.size D m f.ps) (hm : m ≤ 10000) (hk : f.kd.toNat = 1) (hp : hasB (f.fl.toNat : Int) 8 = true) (hr : f.rk = false) :
    Calls Tryz.prog 30 #[.agg #[.int .u8 f.kd.toNat, .int .u8 f.fl.toNat, .int .i64 f.st, .slice A n c, .int .i64 f.pd, .int .i64 f.la, .int .i64 f.ic, .int .u32 f.co.toNat, .slice D m e, .bool f.rk, .bool f.al, .int .i64 f.dp, .int .u8 f.wt.toNat]] w fun e' w' => ∃ v, e' = .returned v ∧ OwnB w' w.heap.size 5 v (padV (f.da) (wrap64 (f.pd - 1))) ∧ Below w.heap.size w w' := by
  obtain ⟨i0, hi, hz0, hz1, hz2⟩ := info_parts info_u8
  have hinf := Lib.hid (And.intro hi (And.intro hz0 (And.intro hz1 hz2)))
  have HA := Lib.hid hA
  have HD := Lib.hid hD
  have HN := Lib.hid hN
  have HX : Hid (f.da.length = n) := Lib.hid hA.1
  have HF := m_four f A D n c m e
  unfold frv at HF
  have hk2 : (f.kd.toNat : Int) = 1 := by omega
  rw [hk2] at HF ⊢
  clear hk hk2
  have hps : bits .and .u8 (f.fl.toNat : Int) 8 = 8 := by rw [u8_and8, hp]; rfl
  clear hp
  rw [hr] at HF ⊢
  clear hr
  obtain ⟨N, hNN⟩ : ∃ N, (f.da).length = N := ⟨_, rfl⟩
  have HNL := Lib.hid hNN
  have HL2 : Hid (N ≤ 10000) := Lib.hid (by rw [← hNN]; have := HX.out; omega)
  clear hNN
  have hF := Lib.hid HF
  clear hi hz0 hz1 hz2 hA hD hN HF
  go_enter Tryz.func30, Tryz.ntmps30
  go_wp2_with (first
    | (go_at_call 50; (with_reducible refine (hF.out _).mono ?_); rintro e1 w1 ⟨v1, rfl, ho, hb⟩; have hr := f_box hb; obtain ⟨p0, p1, p2, p3, p4, p5, p6, p7, p8, p9, p10, p11, p12⟩ := c13_row hr; have R1 := Lib.hid hr; have B1 := Lib.hid (below_lit (Below.refl _ w) hb); have HO1 := Lib.hid ho; have C1 := Lib.hid hb.size; clear ho hb hr)
    | (at_builtin; refine wpList_append_bytes _ rfl (.tmp 62) (.tmp 64) 24 rfl w1.heap.size 5 i0 Tryz.underlying24 hinf.out.1 hinf.out.2.1 hinf.out.2.2.1 hinf.out.2.2.2 _ [] rfl (OwnB.nil_ _ _ _) _ A n c f.da rfl (HA.out.on B1.out) HN.out (by simp; omega) (by first | exact Nat.le_refl _ | exact C1.out | exact B1.out.size) ?_; intro v2 w2 ho hb; (try rw [List.nil_append] at ho); obtain ⟨A2, c2, rfl, hh⟩ := ho.handS HNL.out; obtain ⟨hs1, _, _, hs3⟩ := hh; have HS2 := Lib.hid hs1; have HZ2 := Lib.hid hs3; clear hs1 hs3; have hr := row_on R1.out hb (by first | (simp; done) | exact (Array.getElem?_eq_some_iff.1 R1.out).1); clear p0 p1 p2 p3 p4 p5 p6 p7 p8 p9 p10 p11 p12; obtain ⟨p0, p1, p2, p3, p4, p5, p6, p7, p8, p9, p10, p11, p12⟩ := c13_row hr; have R2 := Lib.hid hr; have B2 := Lib.hid (B1.out.trans (hb.mono (by first | (simp; done) | exact B1.out.size))); have HO2 := Lib.hid (ho.less (show w.heap.size ≤ _ from (by first | (simp; done) | exact B1.out.size))); clear ho hb hr)
    | (go_at_call 54; (with_reducible refine (rfpad_tot A2 _ c2 (wrap64 (f.pd - 1)) (f.da) _ HS2.out HZ2.out HL2.out).mono ?_); rintro e3 w3 ⟨v3, rfl, ho, hb⟩; have B3 := Lib.hid (below_step B2.out hb); have HO3 := Lib.hid (ho.less B2.out.size); clear ho hb)
)
  go_ret
  exact ⟨_, rfl, HO3.out, B3.out⟩
set_option maxRecDepth 100000 in
set_option maxHeartbeats 4000000 in
theorem m_pay_headers_RN (f : Fr) (A D : Option Addr) (n c m e : Nat) (w : World) (hA : Bs w w.heap.size A n f.da) (hN : A = none → c = 0) (hn : n ≤ 9000) (hD : Ps w w.heap.size D m f.ps) (hm : m ≤ 10000) (hk : f.kd.toNat = 1) (hp : hasB (f.fl.toNat : Int) 8 = false) (hr : f.rk = true) :
    Calls Tryz.prog 30 #[.agg #[.int .u8 f.kd.toNat, .int .u8 f.fl.toNat, .int .i64 f.st, .slice A n c, .int .i64 f.pd, .int .i64 f.la, .int .i64 f.ic, .int .u32 f.co.toNat, .slice D m e, .bool f.rk, .bool f.al, .int .i64 f.dp, .int .u8 f.wt.toNat]] w fun e' w' => ∃ v, e' = .returned v ∧ OwnB w' w.heap.size 5 v (prV f.al f.dp f.wt ++ f.da) ∧ Below w.heap.size w w' := by
  obtain ⟨i0, hi, hz0, hz1, hz2⟩ := info_parts info_u8
  have hinf := Lib.hid (And.intro hi (And.intro hz0 (And.intro hz1 hz2)))
  have HA := Lib.hid hA
  have HD := Lib.hid hD
  have HN := Lib.hid hN
  have HX : Hid (f.da.length = n) := Lib.hid hA.1
  have HF := m_four f A D n c m e
  unfold frv at HF
  have hk2 : (f.kd.toNat : Int) = 1 := by omega
  rw [hk2] at HF ⊢
  clear hk hk2
  have hps : bits .and .u8 (f.fl.toNat : Int) 8 = 0 := by rw [u8_and8, hp]; rfl
  clear hp
  rw [hr] at HF ⊢
  clear hr
  have HQ : (prV f.al f.dp f.wt).length ≤ 5 := prV_le5 _ _ _
  obtain ⟨N, hNN⟩ : ∃ N, (prV f.al f.dp f.wt ++ f.da).length = N := ⟨_, rfl⟩
  have HNL := Lib.hid hNN
  have HL3 : Hid (N ≤ 10000) := Lib.hid (by rw [← hNN]; have := HX.out; simp only [List.length_append]; omega)
  clear hNN
  have hF := Lib.hid HF
  clear hi hz0 hz1 hz2 hA hD hN HF
  go_enter Tryz.func30, Tryz.ntmps30
  go_wp2_with (first
    | (go_at_call 50; (with_reducible refine (hF.out _).mono ?_); rintro e1 w1 ⟨v1, rfl, ho, hb⟩; have hr := f_box hb; obtain ⟨p0, p1, p2, p3, p4, p5, p6, p7, p8, p9, p10, p11, p12⟩ := c13_row hr; have R1 := Lib.hid hr; have B1 := Lib.hid (below_lit (Below.refl _ w) hb); have HO1 := Lib.hid ho; have C1 := Lib.hid hb.size; clear ho hb hr)
    | (go_at_call 51; (with_reducible refine (rprank_tot f.al f.dp f.wt _).mono ?_); rintro e2 w2 ⟨v2, rfl, ho, hb⟩; have hr := row_on R1.out hb (Array.getElem?_eq_some_iff.1 R1.out).1; clear p0 p1 p2 p3 p4 p5 p6 p7 p8 p9 p10 p11 p12; obtain ⟨p0, p1, p2, p3, p4, p5, p6, p7, p8, p9, p10, p11, p12⟩ := c13_row hr; have R2 := Lib.hid hr; have B2 := Lib.hid (below_step B1.out hb); have HP2 := Lib.hid ho; have C2 := Lib.hid hb.size; clear ho hb hr)
    | (at_builtin; refine wpList_append_bytes _ rfl (.tmp 62) (.tmp 64) 24 rfl w1.heap.size 5 i0 Tryz.underlying24 hinf.out.1 hinf.out.2.1 hinf.out.2.2.1 hinf.out.2.2.2 _ _ rfl HP2.out _ A n c f.da rfl (HA.out.on B2.out) HN.out (by omega) C2.out ?_; intro v3 w3 ho hb; (try rw [List.nil_append] at ho); obtain ⟨A3, c3, rfl, hh⟩ := ho.handS HNL.out; obtain ⟨hs1, _, _, hs3⟩ := hh; have HS3 := Lib.hid hs1; have HZ3 := Lib.hid hs3; clear hs1 hs3; have hr := row_on R2.out hb (by first | (simp; done) | exact (Array.getElem?_eq_some_iff.1 R1.out).1); clear p0 p1 p2 p3 p4 p5 p6 p7 p8 p9 p10 p11 p12; obtain ⟨p0, p1, p2, p3, p4, p5, p6, p7, p8, p9, p10, p11, p12⟩ := c13_row hr; have R3 := Lib.hid hr; have B3 := Lib.hid (B2.out.trans (hb.mono (by first | (simp; done) | exact B1.out.size))); have HO3 := Lib.hid (ho.less (show w.heap.size ≤ _ from (by first | (simp; done) | exact B1.out.size))); clear ho hb hr)
)
  go_ret
  exact ⟨_, rfl, HO3.out, B3.out⟩
set_option maxRecDepth 100000 in
set_option maxHeartbeats 4000000 in
theorem m_pay_headers_RP (f : Fr) (A D : Option Addr) (n c m e : Nat) (w : World) (hA : Bs w w.heap.size A n f.da) (hN : A = none → c = 0) (hn : n ≤ 9000) (hD : Ps w w.heap.size D m f.ps) (hm : m ≤ 10000) (hk : f.kd.toNat = 1) (hp : hasB (f.fl.toNat : Int) 8 = true) (hr : f.rk = true) :
    Calls Tryz.prog 30 #[.agg #[.int .u8 f.kd.toNat, .int .u8 f.fl.toNat, .int .i64 f.st, .slice A n c, .int .i64 f.pd, .int .i64 f.la, .int .i64 f.ic, .int .u32 f.co.toNat, .slice D m e, .bool f.rk, .bool f.al, .int .i64 f.dp, .int .u8 f.wt.toNat]] w fun e' w' => ∃ v, e' = .returned v ∧ OwnB w' w.heap.size 5 v (padV (prV f.al f.dp f.wt ++ f.da) (wrap64 (f.pd - 1))) ∧ Below w.heap.size w w' := by
  obtain ⟨i0, hi, hz0, hz1, hz2⟩ := info_parts info_u8
  have hinf := Lib.hid (And.intro hi (And.intro hz0 (And.intro hz1 hz2)))
  have HA := Lib.hid hA
  have HD := Lib.hid hD
  have HN := Lib.hid hN
  have HX : Hid (f.da.length = n) := Lib.hid hA.1
  have HF := m_four f A D n c m e
  unfold frv at HF
  have hk2 : (f.kd.toNat : Int) = 1 := by omega
  rw [hk2] at HF ⊢
  clear hk hk2
  have hps : bits .and .u8 (f.fl.toNat : Int) 8 = 8 := by rw [u8_and8, hp]; rfl
  clear hp
  rw [hr] at HF ⊢
  clear hr
  have HQ : (prV f.al f.dp f.wt).length ≤ 5 := prV_le5 _ _ _
  obtain ⟨N, hNN⟩ : ∃ N, (prV f.al f.dp f.wt ++ f.da).length = N := ⟨_, rfl⟩
  have HNL := Lib.hid hNN
  have HL3 : Hid (N ≤ 10000) := Lib.hid (by rw [← hNN]; have := HX.out; simp only [List.length_append]; omega)
  clear hNN
  have hF := Lib.hid HF
  clear hi hz0 hz1 hz2 hA hD hN HF
  go_enter Tryz.func30, Tryz.ntmps30
  go_wp2_with (first
    | (go_at_call 50; (with_reducible refine (hF.out _).mono ?_); rintro e1 w1 ⟨v1, rfl, ho, hb⟩; have hr := f_box hb; obtain ⟨p0, p1, p2, p3, p4, p5, p6, p7, p8, p9, p10, p11, p12⟩ := c13_row hr; have R1 := Lib.hid hr; have B1 := Lib.hid (below_lit (Below.refl _ w) hb); have HO1 := Lib.hid ho; have C1 := Lib.hid hb.size; clear ho hb hr)
    | (go_at_call 51; (with_reducible refine (rprank_tot f.al f.dp f.wt _).mono ?_); rintro e2 w2 ⟨v2, rfl, ho, hb⟩; have hr := row_on R1.out hb (Array.getElem?_eq_some_iff.1 R1.out).1; clear p0 p1 p2 p3 p4 p5 p6 p7 p8 p9 p10 p11 p12; obtain ⟨p0, p1, p2, p3, p4, p5, p6, p7, p8, p9, p10, p11, p12⟩ := c13_row hr; have R2 := Lib.hid hr; have B2 := Lib.hid (below_step B1.out hb); have HP2 := Lib.hid ho; have C2 := Lib.hid hb.size; clear ho hb hr)
    | (at_builtin; refine wpList_append_bytes _ rfl (.tmp 62) (.tmp 64) 24 rfl w1.heap.size 5 i0 Tryz.underlying24 hinf.out.1 hinf.out.2.1 hinf.out.2.2.1 hinf.out.2.2.2 _ _ rfl HP2.out _ A n c f.da rfl (HA.out.on B2.out) HN.out (by omega) C2.out ?_; intro v3 w3 ho hb; (try rw [List.nil_append] at ho); obtain ⟨A3, c3, rfl, hh⟩ := ho.handS HNL.out; obtain ⟨hs1, _, _, hs3⟩ := hh; have HS3 := Lib.hid hs1; have HZ3 := Lib.hid hs3; clear hs1 hs3; have hr := row_on R2.out hb (by first | (simp; done) | exact (Array.getElem?_eq_some_iff.1 R1.out).1); clear p0 p1 p2 p3 p4 p5 p6 p7 p8 p9 p10 p11 p12; obtain ⟨p0, p1, p2, p3, p4, p5, p6, p7, p8, p9, p10, p11, p12⟩ := c13_row hr; have R3 := Lib.hid hr; have B3 := Lib.hid (B2.out.trans (hb.mono (by first | (simp; done) | exact B1.out.size))); have HO3 := Lib.hid (ho.less (show w.heap.size ≤ _ from (by first | (simp; done) | exact B1.out.size))); clear ho hb hr)
    | (go_at_call 54; (with_reducible refine (rfpad_tot A3 _ c3 (wrap64 (f.pd - 1)) (prV f.al f.dp f.wt ++ f.da) _ HS3.out HZ3.out HL3.out).mono ?_); rintro e4 w4 ⟨v4, rfl, ho, hb⟩; have B4 := Lib.hid (below_step B3.out hb); have HO4 := Lib.hid (ho.less B3.out.size); clear ho hb)
)
  go_ret
  exact ⟨_, rfl, HO4.out, B4.out⟩
set_option maxRecDepth 100000 in
set_option maxHeartbeats 4000000 in
theorem m_pay_goaway (f : Fr) (A D : Option Addr) (n c m e : Nat) (w : World) (hA : Bs w w.heap.size A n f.da) (hN : A = none → c = 0) (hn : n ≤ 9000) (hD : Ps w w.heap.size D m f.ps) (hm : m ≤ 10000) (hk : f.kd.toNat = 7) :
    Calls Tryz.prog 30 #[.agg #[.int .u8 f.kd.toNat, .int .u8 f.fl.toNat, .int .i64 f.st, .slice A n c, .int .i64 f.pd, .int .i64 f.la, .int .i64 f.ic, .int .u32 f.co.toNat, .slice D m e, .bool f.rk, .bool f.al, .int .i64 f.dp, .int .u8 f.wt.toNat]] w fun e' w' => ∃ v, e' = .returned v ∧ OwnB w' w.heap.size 5 v (putV f.la 4 ++ putV (fourN f) 4 ++ f.da) ∧ Below w.heap.size w w' := by
  obtain ⟨i0, hi, hz0, hz1, hz2⟩ := info_parts info_u8
  have hinf := Lib.hid (And.intro hi (And.intro hz0 (And.intro hz1 hz2)))
  have HA := Lib.hid hA
  have HD := Lib.hid hD
  have HN := Lib.hid hN
  have HX : Hid (f.da.length = n) := Lib.hid hA.1
  have HF := m_four f A D n c m e
  unfold frv at HF
  have hk2 : (f.kd.toNat : Int) = 7 := by omega
  rw [hk2] at HF ⊢
  clear hk hk2
  have HT : ∀ (N : Int) (w : World), Calls Tryz.prog 53 #[.int .i64 N, .int .i64 4] w fun e w' => ∃ v, e = .returned (.tuple #[v, .int .i64 (putE N 4)]) ∧ OwnB w' w.heap.size 5 v (putV N 4) ∧ Below w.heap.size w w' := fun N w => by
    unfold putV putE
    by_cases h : PutIn N 4
    · rw [if_pos h, if_pos h]
      exact rput_ok N 4 w h.1 h.2.1 h.2.2.1 h.2.2.2
    · rw [if_neg h, if_neg h]
      refine (rput_no N 4 w h).mono ?_
      rintro e w' ⟨rfl, rfl⟩
      exact ⟨_, rfl, OwnB.nil_ _ _ _, Below.refl _ _⟩
  have hT := Lib.hid HT
  clear HT
  obtain ⟨N, hNN⟩ : ∃ N, (putV (fourN f) 4).length = N := ⟨_, rfl⟩
  have HNL := Lib.hid hNN
  have HL := Lib.hid (show N ≤ 4 from hNN ▸ putV4_len _)
  have HL2 := Lib.hid (putV4_len f.la)
  clear hNN
  have hF := Lib.hid HF
  clear hi hz0 hz1 hz2 hA hD hN HF
  go_enter Tryz.func30, Tryz.ntmps30
  go_wp2_with (first
    | (go_at_call 50; (with_reducible refine (hF.out _).mono ?_); rintro e1 w1 ⟨v1, rfl, ho, hb⟩; obtain ⟨A1, c1, rfl, hh⟩ := ho.handS HNL.out; obtain ⟨hs1, _, _, hs3⟩ := hh; have HS1 := Lib.hid hs1; have HZ1 := Lib.hid hs3; clear hs1 hs3; have hr := f_box hb; obtain ⟨p0, p1, p2, p3, p4, p5, p6, p7, p8, p9, p10, p11, p12⟩ := c13_row hr; have R1 := Lib.hid hr; have B1 := Lib.hid (below_lit (Below.refl _ w) hb); have HO1 := Lib.hid ho; have C1 := Lib.hid hb.size; clear ho hb hr)
    | (go_at_call 53; (with_reducible refine (hT.out f.la _).mono ?_); rintro e2 w2 ⟨v2, rfl, ho, hb⟩; have hr := row_on R1.out hb (Array.getElem?_eq_some_iff.1 R1.out).1; clear p0 p1 p2 p3 p4 p5 p6 p7 p8 p9 p10 p11 p12; obtain ⟨p0, p1, p2, p3, p4, p5, p6, p7, p8, p9, p10, p11, p12⟩ := c13_row hr; have R2 := Lib.hid hr; have B2 := Lib.hid (below_step B1.out hb); have HO2 := Lib.hid ho; have C2 := Lib.hid hb.size; have HS2 := Lib.hid (HS1.out.on hb); clear ho hb hr)
)
  have HC2 := Lib.hid p3
  go_region_held3 (fun W' => W'.cell? ⟨w.heap.size, 3, none⟩ = some (.slice A n c))
    (first
      | with_reducible exact HC2.out
      | with_reducible exact cell_drew HC2.out
      | with_reducible exact HC3.out
      | with_reducible exact HC4.out)
    (first
      | (refine step_append_full _ (by rfl) (.tmp 40) (.tmp 41) 24 (by rfl) w1.heap.size 5 i0 Tryz.underlying24 hinf.out.1 hinf.out.2.1 hinf.out.2.2.1 hinf.out.2.2.2 _ (putV f.la 4) (by rfl) ?c1 w2.heap.size A1 N c1 (putV (fourN f) 4) (by rfl) ?c2 HZ1.out ?c3 ?c4 ?_; (case c1 => first | exact HO2.out.drew | exact HO2.out); (case c2 => first | exact HS2.out.drew | exact HS2.out); (case c3 => have := HL.out; have := HL2.out; omega); (case c4 => exact C2.out); intro v3 w3 ho hb _ _ _; have HO3 := Lib.hid ho; have hbb := ((Below.refl w1.heap.size w2).drew.trans hb); have C3 := Lib.hid (Nat.le_trans C2.out hbb.size); have hr := row_on R2.out hbb (Array.getElem?_eq_some_iff.1 R1.out).1; clear p0 p1 p2 p3 p4 p5 p6 p7 p8 p9 p10 p11 p12; obtain ⟨p0, p1, p2, p3, p4, p5, p6, p7, p8, p9, p10, p11, p12⟩ := c13_row hr; have R3 := Lib.hid hr; have HC3 := Lib.hid p3; have B3 := Lib.hid (B2.out.trans (hbb.mono B1.out.size)); clear ho hb hbb hr)
      | (refine step_append_full _ (by rfl) (.tmp 42) (.tmp 44) 24 (by rfl) w1.heap.size 5 i0 Tryz.underlying24 hinf.out.1 hinf.out.2.1 hinf.out.2.2.1 hinf.out.2.2.2 _ (putV f.la 4 ++ putV (fourN f) 4) (by rfl) ?c1 w3.heap.size A n c f.da (by rfl) ?c2 HN.out ?c3 ?c4 ?_; (case c1 => exact HO3.out); (case c2 => exact HA.out.on B3.out); (case c3 => have := HL2.out; have h4 := putV4_len (fourN f); rw [List.length_append]; omega); (case c4 => exact C3.out); intro v4 w4 ho hb _ _ _; have HO4 := Lib.hid ho; have hbb := hb; have C4 := Lib.hid (Nat.le_trans C3.out hbb.size); have hr := row_on R3.out hbb (Array.getElem?_eq_some_iff.1 R1.out).1; clear p0 p1 p2 p3 p4 p5 p6 p7 p8 p9 p10 p11 p12; obtain ⟨p0, p1, p2, p3, p4, p5, p6, p7, p8, p9, p10, p11, p12⟩ := c13_row hr; have R4 := Lib.hid hr; have HC4 := Lib.hid p3; have B4 := Lib.hid (B3.out.trans (hbb.mono B1.out.size)); clear ho hb hbb hr))
  all_goals
    go_wp2
    go_ret
    exact ⟨_, rfl, HO4.out.less B1.out.size, B4.out⟩
end Go.Proofs.YtbflhphjnmhjhaaGreat
