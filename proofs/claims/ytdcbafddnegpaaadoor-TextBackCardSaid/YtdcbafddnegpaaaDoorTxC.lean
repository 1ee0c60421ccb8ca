/- Package text: tell, for either way. -/
import Derived.Test.YtdcbafddnegpaaaDoorTxA
import Derived.Test.YtdcbafddnegpaaaDoorTxB
namespace Go.Proofs.YtdcbafddnegpaaaDoor
open Go.RowKit Hf Oct Tx Go.Shelf
set_option linter.unusedVariables false
set_option linter.unusedSimpArgs false
attribute [local go_sem] Oper.semAt_some
theorem infot_B : (Tryd.prog.info? 22).map (·.size) = some 1 := by kernel_rfl
theorem info_tu8 : (Tryd.prog.info? 5).map (fun i => (i.zero, i.size, i.bytes)) = some (some (.int .u8 0), 1, 1) := by kernel_rfl
theorem x_put7 (n : Nat) (u : UInt8) (w : World) (hn : n < 2147483648) :
    Calls Tryd.prog 40 #[.int .i64 (n : Int), .int .i64 7, .int .u8 (u.toNat : Int)] w fun e w' => ∃ A c, e = .returned (.tuple #[.slice A (Px.numB n 7).length c, .int .i64 0]) ∧ HandS w' w.heap.size A (Px.numB n 7).length c (Px.putN n 7 u.toNat) ∧ Below w.heap.size w w' := x_put_yes n 7 u w (by omega) (by omega) hn
theorem x_put7' (n : Nat) (u : UInt8) (w : World) (L : List UInt8) (hL : L.length = n) (q : Nat) (hq : (Px.numB L.length 7).length = q) (hn : n < 2147483648) :
    Calls Tryd.prog 40 #[.int .i64 (n : Int), .int .i64 7, .int .u8 (u.toNat : Int)] w fun e w' => ∃ A c, e = .returned (.tuple #[.slice A q c, .int .i64 0]) ∧ HandS w' w.heap.size A q c (Px.putN n 7 u.toNat) ∧ Below w.heap.size w w' := by
  subst hL
  subst hq
  exact x_put7 _ u w hn
set_option maxRecDepth 100000 in
set_option maxHeartbeats 4000000 in
theorem x_tell (J J2 : FuncId) (u : UInt8) (s L : List UInt8) (w : World) (hE : Enters Tryd.prog J)
    (hJ : ∀ w', Below w.heap.size w w' → Calls Tryd.prog J #[.string ⟨s.toArray⟩] w' fun e w'' => ∃ A c, e = .returned (.slice A L.length c) ∧ HandS w'' w'.heap.size A L.length c L ∧ Below w'.heap.size w' w'') (hL : L.length ≤ 100000) :
    Calls Tryd.prog 25 #[.agg #[.int .u8 (u.toNat : Int), .func (.func J) #[] #[], .func (.func J2) #[] #[]], .string ⟨s.toArray⟩] w fun e w' => ∃ A c, e = .returned (.slice A (Px.putN L.length 7 u.toNat ++ L).length c) ∧ HandS w' w.heap.size A (Px.putN L.length 7 u.toNat ++ L).length c (Px.putN L.length 7 u.toNat ++ L) ∧ Below w.heap.size w w' := by
  obtain ⟨i0, hi, hz0, hz1, hz2⟩ := info_parts info_tu8
  have hinf := Lib.hid (And.intro hi (And.intro hz0 (And.intro hz1 hz2)))
  have HJ := Lib.hid hJ
  have HL := Lib.hid hL
  have hul := u.toNat_lt
  have hnl := Px.numB_len (n := L.length) (k := 7) (by omega)
  clear hi hz0 hz1 hz2 hJ
  obtain ⟨m, hm⟩ : ∃ m : Nat, L.length = m := ⟨_, rfl⟩
  obtain ⟨q, hq⟩ : ∃ q : Nat, (Px.numB L.length 7).length = q := ⟨_, rfl⟩
  have HM := Lib.hid hm
  have HQ := Lib.hid hq
  have hm2 : m ≤ 100000 := by omega
  have hq2 : q ≤ 6 := by omega
  clear hm hq hL hnl
  have K0 : Hid (EnvF ((w.alloc (.cells #[.int .u8 (u.toNat : Int), .func (.func J) #[] #[], .func (.func J2) #[] #[]] 43)).alloc (.cells #[.slice none 0 0] 22)) [] [(w.heap.size + 1, #[.slice none 0 0], 22), (w.heap.size, #[.int .u8 (u.toNat : Int), .func (.func J) #[] #[], .func (.func J2) #[] #[]], 43)]) := Lib.hid (((EnvF.nil w).boxg 43 #[.int .u8 (u.toNat : Int), .func (.func J) #[] #[], .func (.func J2) #[] #[]] (w.heap.size) (by simp)).boxg 22 #[.slice none 0 0] (w.heap.size + 1) (by simp))
  have B0 : Hid (Below w.heap.size w ((w.alloc (.cells #[.int .u8 (u.toNat : Int), .func (.func J) #[] #[], .func (.func J2) #[] #[]] 43)).alloc (.cells #[.slice none 0 0] 22))) := Lib.hid (((Below.refl _ w).alloc (by first | exact Nat.le_refl _ | (simp only [World.size_alloc]; omega)) (.cells #[.int .u8 (u.toNat : Int), .func (.func J) #[] #[], .func (.func J2) #[] #[]] 43)).alloc (by first | exact Nat.le_refl _ | (simp only [World.size_alloc]; omega)) (.cells #[.slice none 0 0] 22))
  refine (callsIn_wide (n := 6)).1 (callsIn_of_wp_marks Tryd.func25 rfl trivial ?_ rfl)
  refine wpIn_wide.2 ?_
  simp only [Tryd.ntmps25, List.size_toArray, List.length_cons, List.length_nil, Nat.reduceAdd, Nat.reduceSub, Array.replicate_succ, Array.replicate_zero, List.push_toArray, List.append_toArray, List.nil_append, List.cons_append]
  go_wp2
  refine wp_scope_forward 0 rfl ?_
  go_wp2_with (first
    | go_skip
    | (refine at_load 28 (.tmp 10) (by rfl) ?_; refine wpList_get (by rfl) 28 (.tmp 10) (by rfl) (w.heap.size) 1 (by rfl) 43 #[.int .u8 (u.toNat : Int), .func (.func J) #[] #[], .func (.func J2) #[] #[]] (.func (.func J) #[] #[]) _ (K0.out.row 1 rfl) (by rfl) Tryd.underlying28 (by rfl) ?_)
    | (refine at_callv (.tmp 11) #[.tmp 12] _ (by rfl) ?_; refine wpList_callv (by rfl) (.tmp 11) #[.tmp 12] _ (by rfl) J #[] (by rfl) hE #[.string ⟨s.toArray⟩] (by first | (simp [go_sem]; done) | (simp [Act.eval]; done)) (fun v w' => ∃ A c, v = .slice A m c ∧ HandS w' ((w.alloc (.cells #[.int .u8 (u.toNat : Int), .func (.func J) #[] #[], .func (.func J2) #[] #[]] 43)).alloc (.cells #[.slice none 0 0] 22)).heap.size A m c L ∧ Below ((w.alloc (.cells #[.int .u8 (u.toNat : Int), .func (.func J) #[] #[], .func (.func J2) #[] #[]] 43)).alloc (.cells #[.slice none 0 0] 22)).heap.size ((w.alloc (.cells #[.int .u8 (u.toNat : Int), .func (.func J) #[] #[], .func (.func J2) #[] #[]] 43)).alloc (.cells #[.slice none 0 0] 22)) w') ((HJ.out ((w.alloc (.cells #[.int .u8 (u.toNat : Int), .func (.func J) #[] #[], .func (.func J2) #[] #[]] 43)).alloc (.cells #[.slice none 0 0] 22)) B0.out).mono fun e w' ⟨A, c, h1, h2, h3⟩ => ⟨_, h1, A, c, by rw [HM.out], by rw [← HM.out]; exact h2, h3⟩) ?_; rintro v w1 ⟨A1, c1, rfl, hh, hb⟩; have K1 : Hid (EnvF w1 [bF A1 m L] [(w.heap.size + 1, #[.slice none 0 0], 22), (w.heap.size, #[.int .u8 (u.toNat : Int), .func (.func J) #[] #[], .func (.func J2) #[] #[]], 43)]) := Lib.hid (K0.out.handS hb hh); have B1 : Hid (Below w.heap.size w w1) := Lib.hid (below_step B0.out hb); clear hb hh K0 B0)
    | (refine at_load 5 (.tmp 17) (by rfl) ?_; refine wpList_get (by rfl) 5 (.tmp 17) (by rfl) (w.heap.size) 0 (by rfl) 43 #[.int .u8 (u.toNat : Int), .func (.func J) #[] #[], .func (.func J2) #[] #[]] (.int .u8 (u.toNat : Int)) _ (K1.out.row 1 rfl) (by rfl) Tryd.underlying5 (by rfl) ?_)
    | (go_at_call 40; (have hc := (x_put7' m u w1 L HM.out q HQ.out (by omega)); (with_reducible refine hc.mono ?_); clear hc); rintro e w2 ⟨A2, c2, rfl, hh, hb⟩; have K2 : Hid (EnvF w2 [bF A2 q (Px.putN m 7 u.toNat), bF A1 m L] [(w.heap.size + 1, #[.slice none 0 0], 22), (w.heap.size, #[.int .u8 (u.toNat : Int), .func (.func J) #[] #[], .func (.func J2) #[] #[]], 43)]) := Lib.hid (K1.out.handS hb hh); have B2 : Hid (Below w.heap.size w w2) := Lib.hid (below_step B1.out hb); clear hb hh K1 B1)
    | (at_make; refine wpList_make_own _ rfl (.const (.int .i64 0)) (.tmp 28) 22 rfl w2.heap.size 5 i0 (.int .u8 0) 1 Tryd.underlying22 hinf.out.1 hinf.out.2.1 hinf.out.2.2.1 .i64 .i64 _ (q + m) rfl rfl rfl (by rw [hinf.out.2.2.2]; omega) (by unfold maxLen; omega) (Nat.le_refl _) ?_; intro w3 hown hgr; have hb : Below w2.heap.size w2 w3 := (Below.refl _ w2).grown hgr (Nat.le_refl _) (fun k e => by cases e); have HO3 : Hid (OwnB w3 w2.heap.size 5 (.slice (some ⟨w2.heap.size, 0, none⟩) 0 (q + m)) []) := Lib.hid hown; have hz3 : w2.heap.size < w3.heap.size := (World.ownsRow.lt hown _ rfl).2; have hgB : w.heap.size + 1 < w2.heap.size := (Array.getElem?_eq_some_iff.1 (K2.out.row 0 rfl)).1; have HPA2 : Hid (∀ b o, 0 < q → A2 = some ⟨b, o, none⟩ → b < w2.heap.size ∧ b ≠ w.heap.size + 1) := Lib.hid (fun b o h0 e => by have h := (K2.out.f (bF A2 q (Px.putN m 7 u.toNat)) (by simp)).2 b ⟨h0, o, e⟩; exact ⟨h.1, h.2 (w.heap.size + 1, _, _) (List.mem_cons_self ..)⟩); have HPA1 : Hid (∀ b o, 0 < m → A1 = some ⟨b, o, none⟩ → b < w2.heap.size ∧ b ≠ w.heap.size + 1) := Lib.hid (fun b o h0 e => by have h := (K2.out.f (bF A1 m L) (by simp)).2 b ⟨h0, o, e⟩; exact ⟨h.1, h.2 (w.heap.size + 1, _, _) (List.mem_cons_self ..)⟩); have K3 : Hid (EnvF w3 [bF A2 q (Px.putN m 7 u.toNat), bF A1 m L] [(w.heap.size + 1, #[.slice none 0 0], 22), (w.heap.size, #[.int .u8 (u.toNat : Int), .func (.func J) #[] #[], .func (.func J2) #[] #[]], 43)]) := Lib.hid (K2.out.on hb); have B3 : Hid (Below w.heap.size w w3) := Lib.hid (below_step B2.out hb); clear hown hgr hb K2 B2)
    | (refine at_store 22 (.tmp 5) (.tmp 29) (by rfl) ?_; refine wpList_put (by rfl) 22 (.tmp 5) (.tmp 29) (by rfl) (w.heap.size + 1) 0 (.slice (some ⟨w2.heap.size, 0, none⟩) 0 (q + m)) (by rfl) (by rfl) 22 #[.slice none 0 0] #[.slice (some ⟨w2.heap.size, 0, none⟩) 0 (q + m)] (K3.out.row 0 rfl) (by simp [Value.cells]) (by kernel_rfl) infot_B (by kernel_rfl) ?_; intro w4 hrow hoth hz hbl; have K4 : Hid (EnvF w4 [bF A2 q (Px.putN m 7 u.toNat), bF A1 m L] [(w.heap.size + 1, #[.slice (some ⟨w2.heap.size, 0, none⟩) 0 (q + m)], 22), (w.heap.size, #[.int .u8 (u.toNat : Int), .func (.func J) #[] #[], .func (.func J2) #[] #[]], 43)]) := Lib.hid (K3.out.turn 0 rfl hrow hoth hz); have B4 : Hid (Below w.heap.size w w4) := Lib.hid (hbl _ _ (by omega) B3.out); have HO4 : Hid (OwnB w4 w2.heap.size 5 (.slice (some ⟨w2.heap.size, 0, none⟩) 0 (q + m)) []) := Lib.hid (HO3.out.sameBlock fun k e => by have e2 : some w2.heap.size = some k := e; cases e2; exact hoth _ (by omega)); have hz4 : w4.heap.size = w3.heap.size := hz; clear HO3 hrow hoth hz hbl K3 B3)
    | (go_at_call 41; refine (x_both _ _ _ _ _ _ _).mono ?_; rintro e w' ⟨rfl, rfl⟩))
  have KS := (K4.out.boxg 22 #[.slice A2 q c2] w3.heap.size hz4).boxg 22 #[.slice A1 m c1] (w3.heap.size + 1) (by rw [World.size_alloc, hz4])
  have BS := (B4.out.alloc B4.out.size (.cells #[.slice A2 q c2] 22)).alloc (by rw [World.size_alloc]; have := B4.out.size; omega) (.cells #[.slice A1 m c1] 22)
  have ho0 : OwnB ((w4.alloc (.cells #[.slice A2 q c2] 22)).alloc (.cells #[.slice A1 m c1] 22)) w2.heap.size 5 (.slice (some ⟨w2.heap.size, 0, none⟩) 0 (q + m)) [] := HO4.out.kept (((Below.refl _ w4).alloc (Nat.le_refl _) _).alloc (by simp) _)
  have hzs : ((w4.alloc (.cells #[.slice A2 q c2] 22)).alloc (.cells #[.slice A1 m c1] 22)).heap.size = w3.heap.size + 2 := by simp [hz4]
  generalize ((w4.alloc (.cells #[.slice A2 q c2] 22)).alloc (.cells #[.slice A1 m c1] 22)) = Ws at *
  have hr0 := KS.row 2 rfl
  have hq1 := cells1_row (KS.row 1 rfl)
  have hq2 := cells1_row (KS.row 0 rfl)
  have hA2 := KS.bs (A := A2) (n := q) (xs := Px.putN m 7 u.toNat) (by simp)
  have hA1 := KS.bs (A := A1) (n := m) (xs := L) (by simp)
  have hwz : w.heap.size ≤ w2.heap.size := by omega
  refine (wpIn_wide (n := 6)).1 ?_
  refine wpIn_rangeFunc_state rfl (by omega) (gf := 57) (lb := #[.pointer (some ⟨w3.heap.size, 0, none⟩), .pointer (some ⟨w3.heap.size + 1, 0, none⟩)]) rfl trivial (enters_of Tryd.func57 (by kernel_rfl) rfl)
    (both_stops 5 (by omega) w3.heap.size (w3.heap.size + 1) q c2 m c1 A2 A1 (Px.putN m 7 u.toNat) L (fun j => j < w2.heap.size ∧ j ≠ w.heap.size + 1) Ws (by omega) (by omega) (fun h0 b o e => HPA2.out b o h0 e) (fun h0 b o e => HPA1.out b o h0 e) (by omega) (by omega) hq1 hq2 hA2 hA1)
    (fun h k => KeepZ.trans h k) (fun W l o o' _ h hc _ => ⟨KeepC.put W l o o' h hc, (grownBy_putObj' W l o').size⟩) (fun _ => rfl) (fun A B l o hs h hc => hs.elim)
    (GatherM w (w.heap.size + 1) w2.heap.size Ws.heap.size 22 5) (gatherM_own (by omega)) (fun pre A B h hs => hs.elim) ⟨⟨_, hr0, ho0, fun k e => by cases e; exact .inl rfl⟩, BS, Nat.le_refl _⟩
    (fun pre x a' W => a' = { tmps := #[.agg #[.int .u8 (u.toNat : Int), .func (.func J) #[] #[], .func (.func J2) #[] #[]], .string ⟨s.toArray⟩, .pointer (some ⟨w.heap.size, 0, none⟩), undef, .slice none 0 0, .pointer (some ⟨w.heap.size + 1, 0, none⟩), .slice A1 m c1, .slice A2 q c2, .int .i64 0, .int .u8 (x.toNat : Int), .pointer (some ⟨w.heap.size, 1, none⟩), .func (.func J) #[] #[], .string ⟨s.toArray⟩, .slice A1 m c1, .tuple #[.slice A2 q c2, .int .i64 0], .slice A1 m c1, .int .i64 (m : Int), .pointer (some ⟨w.heap.size, 0, none⟩), .int .u8 (u.toNat : Int), .tuple #[.slice A2 q c2, .int .i64 0], .slice A2 q c2, .int .i64 0, .int .i64 0, .bool false, .slice A2 q c2, .int .i64 (q : Int), .slice A1 m c1, .int .i64 (m : Int), .int .i64 ((q : Int) + (m : Int)), .slice (some ⟨w2.heap.size, 0, none⟩) 0 (q + m), .slice A2 q c2, .slice A1 m c1, .func (.func 57) #[] #[.pointer (some ⟨w3.heap.size, 0, none⟩), .pointer (some ⟨w3.heap.size + 1, 0, none⟩)], .int .u8 (x.toNat : Int), undef, undef, undef, undef, undef], defers := [] }) (fun pre x a' _ _ _ _ h _ _ => h)
    ?assign ?body ?done
  case assign =>
    intro l pre x W K hI hV hK
    have HK := Lib.hid hK
    have HI := Lib.hid hI
    clear hK hI hV
    gi_wp2
    exact HK.out _ _ (KeepsFrom.refl _ _) (KeepZ.refl _ _) HI.out rfl
  case body =>
    rintro l pre x a' W hl0 hI rfl hlen2
    obtain ⟨⟨v, hrow, hown, hob⟩, hbel, hsz⟩ := hI
    have c0 := cells1_row hrow
    have HROW := Lib.hid hrow
    have HOWN := Lib.hid hown
    have HOB := Lib.hid hob
    have HOWN2 := Lib.hid (hown.alloc (.cells #[.int .u8 (x.toNat : Int)] 5))
    have hlW : ∀ j u, ([x].map bv)[j]? = some u → (W.alloc (.cells #[.int .u8 (x.toNat : Int)] 5)).cell? ((⟨W.heap.size, 0, none⟩ : Addr).add j) = some u := by
      intro j y hy
      have hj : j = 0 := by
        have := (List.getElem?_eq_some_iff.1 hy).1
        simp at this
        omega
      subst hj
      simp only [List.map_cons, List.map_nil, List.getElem?_cons_zero, Option.some.injEq] at hy
      subst hy
      simp [go_sem, bv]
    have HLW := Lib.hid hlW
    have HBEL := Lib.hid hbel
    clear hrow hown hob hlW hbel hr0 hq1 hq2 KS BS ho0 hA1 hA2
    gi_wp2_with (gi_at_builtin; refine wpListIn_append_full _ rfl (.tmp 34) (.tmp 36) 22 rfl w2.heap.size 5 i0 Tryd.underlying22 hinf.out.1 hinf.out.2.1 hinf.out.2.2.1 hinf.out.2.2.2 v pre rfl HOWN2.out ⟨W.heap.size, 0, none⟩ 1 1 [x] rfl HLW.out rfl (by omega) (by simp; omega) ?_; intro v4 w5 hown4 hb4 hg4 hv4; have HO5 := Lib.hid hown4; have HG4 := Lib.hid hg4; have HV4 := Lib.hid hv4; have hr4 : w5.heap[w.heap.size + 1]? = some (.cells #[v] 22) := (hg4.block (w.heap.size + 1) (by simp; omega) (fun e => by have := HOB.out _ e.symm; omega)).trans ((Below.heap_alloc _ _ _ (by omega)).trans HROW.out); have c4 := cells1_row hr4; have f4 := frozen_of_row w5 _ 0 _ _ hr4; obtain ⟨A6, c6, rfl, hh6⟩ := hown4.handS (n := pre.length + 1) (by simp); clear hown4 hb4 hg4 hv4 hr4 hh6)
    exact gatherM_round (KeepZ _) (fun j => j < w2.heap.size ∧ j ≠ w.heap.size + 1) (fun A B h h2 => ⟨h, h2⟩) (by omega) (by omega) (by omega) (by omega) hsz (fun j hj => by omega) HROW.out HOWN.out HOB.out HBEL.out HG4.out HO5.out HV4.out
  case done =>
    rintro D ys W hD hput hI hK
    subst hput
    obtain ⟨⟨v, hrow, hown, hob⟩, hbel, hsz⟩ := hI
    obtain ⟨A3, c3, rfl, hh⟩ := hown.handS (n := (Px.putN m 7 u.toNat ++ L).length) rfl
    have c0 := cells1_row hrow
    have HK := Lib.hid hK
    have HFIN := Lib.hid (handS_putD hh hK)
    have HBF := Lib.hid (hbel.trans (belowK_b (w := w) (Nat.le_refl _) W D _ (.deferred none) (by omega) hK rfl rfl))
    clear hrow hown hob hbel hh hK hr0 hq1 hq2 KS BS ho0 hA1 hA2
    go_wp2
    rw [jump_ret]
    have hlp : (Px.putN m 7 u.toNat ++ L).length = (Px.putN m 7 u.toNat).length + L.length := List.length_append
    have hmm := HM.out
    subst hmm
    exact ⟨by simp, .inl ⟨_, _, rfl, run_takeDeferred HK.out, ⟨_, results_tmp rfl _ _ _, A3, c3, by first | rfl | (rw [hlp]; rfl), ⟨HFIN.out.1, FreshS.less HFIN.out.2.1 (by omega), HFIN.out.2.2⟩, HBF.out⟩⟩⟩
end Go.Proofs.YtdcbafddnegpaaaDoor
