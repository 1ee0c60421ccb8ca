/- Package huff: Take. -/
import Derived.Test.YtfjmgfahlicleaaDoorHfM
namespace Go.Proofs.YtfjmgfahlicleaaDoor
open Go.RowKit Hf Go.Shelf Oct
set_option linter.unusedVariables false
set_option linter.unusedSimpArgs false
attribute [local go_sem] Oper.semAt_some
set_option maxRecDepth 100000 in
set_option maxHeartbeats 2000000 in
theorem h_take (A : Option Addr) (n c : Nat) (xs : List UInt8) (w : World) (hR : Rws w) (hA : Bs w w.heap.size A n xs) (hn : n ≤ 10000) :
    Calls Tryd.prog 13 #[.slice A n c] w fun e w' => ∃ A' m c', e = .returned (.tuple #[.slice A' m c', .int .i64 (takeE xs)]) ∧ HandS w' w.heap.size A' m c' (takeL xs) ∧ Below w.heap.size w w' := by
  have HA := Lib.hid hA
  have HR := Lib.hid hR
  have HLEN := Lib.hid hA.1
  obtain ⟨i0, hi, hz0, hz1, hz2⟩ := info_parts info_hu8
  have hinf := Lib.hid (And.intro hi (And.intro hz0 (And.intro hz1 hz2)))
  clear hi hz0 hz1 hz2 hA hR
  refine (callsIn_wide (n := 6)).1 (callsIn_of_wp_marks Tryd.func13 rfl trivial ?_ rfl)
  refine wpIn_wide.2 ?_
  simp only [Tryd.ntmps13, List.size_toArray, List.length_cons, List.length_nil, Nat.reduceAdd, Nat.reduceSub, Array.replicate_succ, Array.replicate_zero, List.push_toArray, List.append_toArray, List.nil_append, List.cons_append]
  go_wp2
  refine wp_scope_forward 0 rfl ?_
  go_wp2_with (go_at_call 29; refine (h_taken _ _ _ _).mono ?_; rintro e w' ⟨rfl, rfl⟩)
  have hb0 : Below w.heap.size w (((w.alloc (.cells #[.slice none 0 0] 22)).alloc (.cells #[.int .i64 0] 3)).alloc (.cells #[.slice A n c] 22)) := (((Below.refl _ w).alloc (Nat.le_refl _) _).alloc (by simp) _).alloc (by simp only [World.size_alloc]; omega) _
  have hr0 : (((w.alloc (.cells #[.slice none 0 0] 22)).alloc (.cells #[.int .i64 0] 3)).alloc (.cells #[.slice A n c] 22)).heap[w.heap.size]? = some (.cells #[.slice none 0 0] 22) := (Below.heap_alloc _ _ _ (by simp; omega)).trans ((Below.heap_alloc _ _ _ (by simp)).trans (World.alloc_heap_new _ _))
  have hr1 : (((w.alloc (.cells #[.slice none 0 0] 22)).alloc (.cells #[.int .i64 0] 3)).alloc (.cells #[.slice A n c] 22)).heap[w.heap.size + 1]? = some (.cells #[.int .i64 0] 3) :=
    (Below.heap_alloc _ _ _ (by simp)).trans (by have h := World.alloc_heap_new (w.alloc (.cells #[.slice none 0 0] 22)) (.cells #[.int .i64 0] 3); rwa [World.size_alloc] at h)
  have hr2 : (((w.alloc (.cells #[.slice none 0 0] 22)).alloc (.cells #[.int .i64 0] 3)).alloc (.cells #[.slice A n c] 22)).heap[w.heap.size + 1 + 1]? = some (.cells #[.slice A n c] 22) := by
    have h := World.alloc_heap_new ((w.alloc (.cells #[.slice none 0 0] 22)).alloc (.cells #[.int .i64 0] 3)) (.cells #[.slice A n c] 22); rwa [World.size_alloc, World.size_alloc] at h
  have hz : (((w.alloc (.cells #[.slice none 0 0] 22)).alloc (.cells #[.int .i64 0] 3)).alloc (.cells #[.slice A n c] 22)).heap.size = w.heap.size + 3 := by simp
  have hR0 := HR.out.on hb0
  have hA0 := HA.out.on hb0
  generalize (((w.alloc (.cells #[.slice none 0 0] 22)).alloc (.cells #[.int .i64 0] 3)).alloc (.cells #[.slice A n c] 22)) = Ws at *
  have hbb : ∀ b o, 0 < n → A = some ⟨b, o, none⟩ → b < w.heap.size := fun b o h0 e => by
    obtain ⟨b', o', e', hb', _⟩ := bs_cell HA.out h0
    rw [e] at e'
    cases e'
    exact hb'
  have HI0 : TakeI w Ws.heap.size 22 5 3 [] Ws := ⟨⟨_, hr0, OwnB.nil_ _ _ _⟩, hr1, fun x hx => (by cases hx), hb0, Nat.le_refl _⟩
  refine (wpIn_wide (n := 6)).1 ?_
  refine wpIn_rangeFunc_ownG rfl (by omega) (gf := 36) (lb := #[.pointer (some ⟨w.heap.size + 1 + 1, 0, none⟩)]) rfl trivial (enters_of Tryd.func36 (by kernel_rfl) rfl)
    (taken_stops 5 (by omega) (w.heap.size + 1 + 1) n c A xs (fun j => j < w.heap.size ∨ j = w.heap.size + 1 + 1) Ws hR0 (.inl HR.out.lt) (.inr rfl) (by omega) (fun h0 b o e => .inl (hbb b o h0 e)) hn (cells1_row hr2) hA0)
    (fun h k => KeepW.trans h k) (fun W l o o' hl h hc hw => ⟨KeepC.put W l o o' h hc, walksK_b (w := Ws) W l o o' hl h hc hw⟩) (Below.refl _ _) (fun _ => rfl)
    (TakeI w Ws.heap.size 22 5 3) (TakeX w Ws.heap.size 22 5 3) (takeI_own (by omega)) (fun c => takeX_own c (by omega)) HI0
    (fun z => { tmps := #[.slice A n c, undef, .slice none 0 0, .int .i64 0, .pointer (some ⟨w.heap.size, 0, none⟩), .pointer (some ⟨w.heap.size + 1, 0, none⟩), .int .u8 (z.1.toNat : Int), .int .i64 (z.2.val : Int), .slice A n c, .func (.func 36) #[] #[.pointer (some ⟨w.heap.size + 1 + 1, 0, none⟩)], .int .u8 (z.1.toNat : Int), .int .i64 (z.2.val : Int), undef, undef, undef, undef, undef, undef, undef, undef, undef, undef, undef, undef, undef, undef, undef], defers := [] }) ?assign ?body ?done ?stop
  case assign =>
    intro l z W K hK
    gi_wp2
    exact hK
  case body =>
    rintro l pre z W hI hlen2
    have HI := Lib.hid hI
    obtain ⟨⟨v, hrow, hown⟩, hat, hnz, hbel, hsz⟩ := hI
    have hsl := sumL_le pre
    have hz12 := z.2.isLt
    have c0 := cells1_row hrow
    have c1 := cells1_row hat
    have HROW := Lib.hid hrow
    have HAT := Lib.hid hat
    have HNZ := Lib.hid hnz
    have HOWN := Lib.hid hown
    have HOWN2 := Lib.hid (hown.alloc (.cells #[.int .u8 (z.1.toNat : Int)] 5))
    have hlW : ∀ j u, ([z.1].map bv)[j]? = some u → (W.alloc (.cells #[.int .u8 (z.1.toNat : Int)] 5)).cell? ((⟨W.heap.size, 0, none⟩ : Addr).add j) = some u := by
      intro j y hy
      have hj : j = 0 := by
        have := (List.getElem?_eq_some_iff.1 hy).1
        simp at this
        omega
      subst hj
      simp only [List.map_cons, List.map_nil, List.getElem?_cons_zero, Option.some.injEq] at hy
      subst hy
      simp [go_sem, bv]
    have HLW := Lib.hid hlW
    have HBEL := Lib.hid hbel
    clear hrow hat hnz hown hlW hbel hr0 hr1 hr2 hb0 hR0 hA0 hbb HI0
    by_cases hm : z.2.val = 0
    · have HM := Lib.hid hm
      have hq : ((z.2.val : Int) == 0) = true := by simp; omega
      clear hm
      gi_wp2
      refine wpIn_goto ?_
      exact ⟨KeepsFrom.refl _ _, pre, z, rfl, HM.out, rfl, HI.out⟩
    · have hq : ((z.2.val : Int) == 0) = false := by simp; omega
      have HM := Lib.hid hm
      generalize hS : sumL pre = S at *
      have HS := Lib.hid hS
      have hplen : (pre.map Prod.fst).length = pre.length := by simp
      clear hm hS HI
      gi_wp2_with (first
        | (gi_at_builtin; refine wpListIn_append_full _ rfl (.tmp 14) (.tmp 16) 22 rfl Ws.heap.size 5 i0 Tryd.underlying22 hinf.out.1 hinf.out.2.1 hinf.out.2.2.1 hinf.out.2.2.2 v (pre.map Prod.fst) rfl HOWN2.out ⟨W.heap.size, 0, none⟩ 1 1 [z.1] rfl HLW.out rfl (by rw [hplen]; omega) (by simp; omega) ?_; intro v4 w4 hown4 hb4 hg4 hv4; obtain ⟨A6, c6, rfl, hh6⟩ := hown4.handS (n := pre.length + 1) (by simp); have HO4 := Lib.hid hown4; have HB4 := Lib.hid hb4; have HG4 := Lib.hid hg4; have hr4 := (hb4.block w.heap.size (by omega)).trans ((Below.heap_alloc _ _ _ (by omega)).trans HROW.out); have hr5 := (hb4.block (w.heap.size + 1) (by omega)).trans ((Below.heap_alloc _ _ _ (by omega)).trans HAT.out); have c4 := cells1_row hr4; have f4 := frozen_of_row w4 _ 0 _ _ hr4; have c5 := cells1_row hr5; have f5 := frozen_of_row w4 _ 0 _ _ hr5; clear hown4 hb4 hg4 hv4 hr4 hr5 hh6 c0 c1))
      rw [← HS.out]
      exact take_round (fun j => j < w.heap.size ∨ j = w.heap.size + 1 + 1) (by omega) (fun j hj => by omega) HROW.out HOWN.out (by rw [HS.out]; exact HAT.out) HNZ.out HBEL.out hsz HM.out HB4.out HG4.out HO4.out
  case done =>
    rintro D ys W hD ⟨b, a, hE, rfl⟩ hI hK
    obtain ⟨⟨v, hrow, hown⟩, hat, hnz, hbel, hsz⟩ := hI
    obtain ⟨t1, t2⟩ := take_done HLEN.out hE hnz
    rw [t2] at hown
    obtain ⟨A1, c1, rfl, hh⟩ := hown.handS (n := (takeL xs).length) rfl
    have c0 := cells1_row hrow
    have HT1 := Lib.hid t1
    have HK := Lib.hid hK
    have HFIN := Lib.hid (handS_putD hh hK)
    have HBF := Lib.hid (hbel.trans (belowK_b (w := w) (Nat.le_refl _) W D _ (.deferred none) (by omega) hK rfl rfl))
    clear hrow hown hat hnz hbel hh hK hr0 hr1 hr2 hb0 hR0 hA0 hbb HI0 t1 t2 hE
    go_wp2
    rw [jump_ret]
    exact ⟨by simp, .inl ⟨_, _, rfl, run_takeDeferred HK.out, ⟨_, results_tmp2 rfl _ _ _, A1, (takeL xs).length, c1, by rw [HT1.out]; rfl, ⟨HFIN.out.1, FreshS.less HFIN.out.2.1 (by omega), HFIN.out.2.2⟩, HBF.out⟩⟩⟩
  case stop =>
    rintro D c' pre W hD hpre ⟨pre', x, hp, hx, rfl, hI⟩ hK
    obtain ⟨⟨v, hrow, hown⟩, hat, hnz, hbel, hsz⟩ := hI
    obtain ⟨t1, t2⟩ := take_left hpre hp hx
    rw [t1] at hown
    rw [t2] at hat
    obtain ⟨A1, c1, rfl, hh⟩ := hown.handS (n := (allL xs).length) rfl
    have c0 := cells1_row hrow
    have c2 := cells1_row hat
    have HK := Lib.hid hK
    have HOWN := Lib.hid hown
    have HBEL := Lib.hid hbel
    have hale : allA xs ≤ 8 * n := by have := (all_ends xs).run.le; rw [HLEN.out] at this; exact this
    have HFL := Lib.hid (h_fills A n c (allA xs) xs W (HA.out.on hbel) hn hale)
    have HROW := Lib.hid hrow
    clear hrow hown hat hnz hbel hh hK hr0 hr1 hr2 hb0 hR0 hA0 hbb HI0 t1 t2 hpre hp
    refine wpIn_wide.2 ?_
    go_step3
    refine ⟨rfl, ?_⟩
    have harm : ∀ (e : Ending) (w' : World), (e = .returned (.bool (fillB xs (allA xs))) ∧ Below W.heap.size W w') → w'.heap[w.heap.size]? = some (.cells #[.slice A1 (allL xs).length c1] 22) ∧ w'.heap[D]? = some (.deferred (some [])) ∧ OwnB w' Ws.heap.size 5 (.slice A1 (allL xs).length c1) (allL xs) ∧ Below w.heap.size w w' := fun e w' h =>
      ⟨(h.2.block _ (Array.getElem?_eq_some_iff.1 HROW.out).1).trans HROW.out, (h.2.block _ (Array.getElem?_eq_some_iff.1 HK.out).1).trans HK.out, HOWN.out.kept h.2, HBEL.out.trans (h.2.mono HBEL.out.size)⟩
    have HARM := Lib.hid harm
    clear harm
    by_cases hfb : fillB xs (allA xs) = true
    · have t3 : takeE xs = 0 ∧ takeL xs = allL xs := by unfold takeE takeL; rw [if_pos hfb, if_pos hfb]; exact ⟨rfl, rfl⟩
      have HT3 := Lib.hid t3
      rw [hfb] at HFL HARM
      clear t3 hfb
      go_wp2_with (go_at_call 30; (with_reducible refine HFL.out.mono ?_); rintro e w5 ⟨rfl, hb5⟩; obtain ⟨k1, k2, k3, k4⟩ := HARM.out _ w5 ⟨rfl, hb5⟩; have c5 := cells1_row k1; obtain ⟨A6, c6, e6, hh6⟩ := k3.handS (n := (allL xs).length) rfl; have HE6 := Lib.hid e6; have HK5 := Lib.hid k2; have HFIN := Lib.hid (handS_putD hh6 k2); have HBF := Lib.hid (k4.trans (belowK_b (w := w) (Nat.le_refl _) w5 D _ (.deferred none) (by omega) k2 rfl rfl)); clear k1 k2 k3 k4 hb5 hh6 c0 c2 e6)
      rw [jump_ret]
      exact ⟨by simp, .inl ⟨_, _, rfl, run_takeDeferred HK5.out, ⟨_, results_tmp2 rfl _ _ _, A6, (allL xs).length, c6, by rw [HT3.out.1, ← HE6.out]; rfl, by rw [HT3.out.2]; exact ⟨HFIN.out.1, FreshS.less HFIN.out.2.1 (by omega), HFIN.out.2.2⟩, HBF.out⟩⟩⟩
    · have hfb2 : fillB xs (allA xs) = false := by simpa using hfb
      have t3 : takeE xs = 70 ∧ takeL xs = [] := by unfold takeE takeL; rw [if_neg hfb, if_neg hfb]; exact ⟨rfl, rfl⟩
      have HT3 := Lib.hid t3
      rw [hfb2] at HFL HARM
      clear t3 hfb hfb2
      go_wp2_with (go_at_call 30; (with_reducible refine HFL.out.mono ?_); rintro e w5 ⟨rfl, hb5⟩; obtain ⟨k1, k2, k3, k4⟩ := HARM.out _ w5 ⟨rfl, hb5⟩; have HK5 := Lib.hid k2; have HBF := Lib.hid (k4.trans (belowK_b (w := w) (Nat.le_refl _) w5 D _ (.deferred none) (by omega) k2 rfl rfl)); clear k1 k2 k3 k4 hb5 c0 c2)
      rw [jump_ret]
      exact ⟨by simp, .inl ⟨_, _, rfl, run_takeDeferred HK5.out, ⟨_, results_tmp2 rfl _ _ _, none, 0, 0, by rw [HT3.out.1]; rfl, by rw [HT3.out.2]; exact HandS.nil_ _ _, HBF.out⟩⟩⟩
end Go.Proofs.YtfjmgfahlicleaaDoor
