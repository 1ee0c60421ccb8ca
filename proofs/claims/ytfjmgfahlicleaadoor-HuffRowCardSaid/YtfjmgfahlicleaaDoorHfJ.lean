/- Package huff: Put. -/
import Derived.Test.YtfjmgfahlicleaaDoorHfI
import Derived.Test.YtfjmgfahlicleaaDoorGGatM
import Derived.Test.YtfjmgfahlicleaaDoorGStr
namespace Go.Proofs.YtfjmgfahlicleaaDoor
open Go.RowKit Hf Go.Shelf Oct
set_option linter.unusedVariables false
set_option linter.unusedSimpArgs false
attribute [local go_sem] Oper.semAt_some
theorem info_hu8 : (Tryd.prog.info? 5).map (fun i => (i.zero, i.size, i.bytes)) = some (some (.int .u8 0), 1, 1) := by kernel_rfl
theorem h_packed (A : Option Addr) (n c : Nat) (w : World) : Calls Tryd.prog 33 #[.slice A n c] w fun e w' =>
      e = .returned (.func (.func 39) #[] #[.pointer (some ⟨w.heap.size, 0, none⟩)]) ∧ w.alloc (.cells #[.slice A n c] 22) = w' := by
  go_enter Tryd.func33, Tryd.ntmps33
  go_wp2
  go_ret
  exact ⟨rfl, rfl⟩
theorem packed_stops (k : Nat) (hk : 1 ≤ k) (B1 n c : Nat) (A : Option Addr) (xs : List UInt8) (p : Nat → Prop) (w : World) (hR : Rws w)
    (hp0 : p 0) (hp1 : p B1) (hB1 : B1 < w.heap.size) (hpA : 0 < n → ∀ b o, A = some ⟨b, o, none⟩ → p b) (hn : n ≤ 10000)
    (hc : w.cell? ⟨B1, 0, none⟩ = some (.slice A n c)) (hA : Bs w w.heap.size A n xs) :
    SeqS Fence.wide k Tryd.prog 39 #[.pointer (some ⟨B1, 0, none⟩)] (fun x : UInt8 => #[.int .u8 (x.toNat : Int)]) (KeepZ p) (fun _ _ => False) (fun _ _ _ => True) (fun ys => IsPut (bl xs) ys) (((bl xs).length + 7) / 8) w := fun l J W hW hJ hSt hY h0 =>
  packed1_in k hk l B1 n c A xs p J W hJ (hR.on hW) hp0 hp1 hpA hn (fun pre x W1 hj hl => hY pre x W1 hj trivial hl) ((hW.cell (p := ⟨B1, 0, none⟩) hB1).trans hc) ((hA.below hW).more hW.size) h0
set_option maxRecDepth 100000 in
set_option maxHeartbeats 1000000 in
theorem h_put (A : Option Addr) (n c : Nat) (xs : List UInt8) (w : World) (hR : Rws w) (hA : Bs w w.heap.size A n xs) (hn : n ≤ 10000) :
    Calls Tryd.prog 18 #[.slice A n c] w fun e w' => ∃ A' m c' ys, e = .returned (.slice A' m c') ∧ IsPut (bl xs) ys ∧ HandS w' w.heap.size A' m c' ys ∧ Below w.heap.size w w' := by
  have hbd := bl_le xs
  have hl := hA.1
  have hbd2 : (bl xs).length ≤ 110000 := by omega
  have HSZ := Lib.hid (h_size A n c xs w hR hA hn)
  have HA := Lib.hid hA
  have HR := Lib.hid hR
  obtain ⟨i0, hi, hz0, hz1, hz2⟩ := info_parts info_hu8
  have hinf := Lib.hid (And.intro hi (And.intro hz0 (And.intro hz1 hz2)))
  clear hi hz0 hz1 hz2 hbd hl hA hR
  obtain ⟨m0, hm0⟩ : ∃ m, ((bl xs).length + 7) / 8 = m := ⟨_, rfl⟩
  rw [hm0] at HSZ
  have hm1 : m0 ≤ 20000 := by omega
  have HM0 := Lib.hid hm0
  clear hm0
  refine (callsIn_wide (n := 6)).1 (callsIn_of_wp_marks Tryd.func18 rfl trivial ?_ rfl)
  refine wpIn_wide.2 ?_
  simp only [Tryd.ntmps18, List.size_toArray, List.length_cons, List.length_nil, Nat.reduceAdd, Nat.reduceSub, Array.replicate_succ, Array.replicate_zero, List.push_toArray, List.append_toArray, List.nil_append, List.cons_append]
  go_wp2_with (first
    | (go_at_call 32; (with_reducible refine HSZ.out.mono ?_); rintro e w1 ⟨rfl, hb1⟩; have HB1 := Lib.hid hb1; have hz1 : w.heap.size ≤ w1.heap.size := hb1.size; clear hb1)
    | (at_make; refine wpList_make_own _ rfl (.const (.int .i64 0)) (.tmp 6) 22 rfl w1.heap.size 5 i0 (.int .u8 0) 1 Tryd.underlying22 hinf.out.1 hinf.out.2.1 hinf.out.2.2.1 .i64 .i64 _ m0 rfl rfl rfl (by rw [hinf.out.2.2.2]; omega) (by unfold maxLen; omega) (Nat.le_refl _) ?_; intro w2 hown2 hgrow2; have HO2 : Hid (OwnB w2 w1.heap.size 5 (.slice (some ⟨w1.heap.size, 0, none⟩) 0 m0) []) := Lib.hid hown2; have HG2 := Lib.hid hgrow2; have hz2 : w1.heap.size < w2.heap.size := World.ownsRow.lt hown2 _ rfl |>.2; clear hown2 hgrow2)
    | (go_at_call 33; refine (h_packed _ _ _ _).mono ?_; rintro e w' ⟨rfl, rfl⟩))
  have hb2 : Below w.heap.size w w2 := HB1.out.grown HG2.out HB1.out.size (fun k e => by cases e)
  have hb0 : Below w.heap.size w ((w2.alloc (.cells #[.slice (some ⟨w1.heap.size, 0, none⟩) 0 m0] 22)).alloc (.cells #[.slice A n c] 22)) := (hb2.alloc hb2.size _).alloc (by simp only [World.size_alloc]; have := hb2.size; omega) _
  have hr0 : ((w2.alloc (.cells #[.slice (some ⟨w1.heap.size, 0, none⟩) 0 m0] 22)).alloc (.cells #[.slice A n c] 22)).heap[w2.heap.size]? = some (.cells #[.slice (some ⟨w1.heap.size, 0, none⟩) 0 m0] 22) := (Below.heap_alloc _ _ _ (by simp)).trans (World.alloc_heap_new _ _)
  have hr1 : ((w2.alloc (.cells #[.slice (some ⟨w1.heap.size, 0, none⟩) 0 m0] 22)).alloc (.cells #[.slice A n c] 22)).heap[w2.heap.size + 1]? = some (.cells #[.slice A n c] 22) := by
    have h := World.alloc_heap_new (w2.alloc (.cells #[.slice (some ⟨w1.heap.size, 0, none⟩) 0 m0] 22)) (.cells #[.slice A n c] 22)
    rwa [World.size_alloc] at h
  have hz : ((w2.alloc (.cells #[.slice (some ⟨w1.heap.size, 0, none⟩) 0 m0] 22)).alloc (.cells #[.slice A n c] 22)).heap.size = w2.heap.size + 2 := by simp
  have ho0 : OwnB ((w2.alloc (.cells #[.slice (some ⟨w1.heap.size, 0, none⟩) 0 m0] 22)).alloc (.cells #[.slice A n c] 22)) w1.heap.size 5 (.slice (some ⟨w1.heap.size, 0, none⟩) 0 m0) [] := HO2.out.kept (((Below.refl _ w2).alloc (Nat.le_refl _) _).alloc (by simp) _)
  have hR0 := HR.out.on hb0
  have hA0 := HA.out.on hb0
  generalize ((w2.alloc (.cells #[.slice (some ⟨w1.heap.size, 0, none⟩) 0 m0] 22)).alloc (.cells #[.slice A n c] 22)) = Ws at *
  have hzw := hb2.size
  have hbb : ∀ b o, 0 < n → A = some ⟨b, o, none⟩ → b < w.heap.size := fun b o h0 e => by
    obtain ⟨b', o', e', hb', _⟩ := bs_cell HA.out h0
    rw [e] at e'
    cases e'
    exact hb'
  refine (wpIn_wide (n := 6)).1 ?_
  refine wpIn_rangeFunc_state rfl (by omega) (gf := 39) (lb := #[.pointer (some ⟨w2.heap.size + 1, 0, none⟩)]) rfl trivial (enters_of Tryd.func39 (by kernel_rfl) rfl)
    (packed_stops 5 (by omega) (w2.heap.size + 1) n c A xs (fun j => j < w.heap.size ∨ j = w2.heap.size + 1) Ws hR0 (.inl HR.out.lt) (.inr rfl) (by omega) (fun h0 b o e => .inl (hbb b o h0 e)) hn (cells1_row hr1) hA0)
    (fun h k => KeepZ.trans h k) (fun W l o o' _ h hc _ => ⟨KeepC.put W l o o' h hc, (grownBy_putObj' W l o').size⟩) (fun _ => rfl) (fun A B l o hs h hc => hs.elim)
    (GatherM w w2.heap.size w1.heap.size Ws.heap.size 22 5) (gatherM_own (by omega)) (fun pre A B h hs => hs.elim) ⟨⟨_, hr0, ho0, fun k e => by cases e; exact .inl rfl⟩, hb0, Nat.le_refl _⟩
    (fun pre x a' W => a' = { tmps := #[.slice A n c, undef, .slice none 0 0, .pointer (some ⟨w2.heap.size, 0, none⟩), .int .u8 (x.toNat : Int), .slice A n c, .int .i64 (m0 : Int), .slice (some ⟨w1.heap.size, 0, none⟩) 0 m0, .slice A n c, .func (.func 39) #[] #[.pointer (some ⟨w2.heap.size + 1, 0, none⟩)], .int .u8 (x.toNat : Int), undef, undef, undef, undef, undef], defers := [] }) (fun pre x a' _ _ _ _ h _ _ => h)
    ?assign ?body ?done
  case assign =>
    intro l pre x W K hI hV hK
    have HK := Lib.hid hK
    have HI := Lib.hid hI
    clear hK hI hV
    gi_wp2
    exact HK.out _ _ (KeepsFrom.refl _ _) (KeepZ.refl _ _) HI.out rfl
  case body =>
    rintro l pre x a' W hl0 hI rfl hlen2
    obtain ⟨⟨v, hrow, hown, hob⟩, hbel, hsz⟩ := hI
    have c0 := cells1_row hrow
    have HROW := Lib.hid hrow
    have HOWN := Lib.hid hown
    have HOB := Lib.hid hob
    have HOWN2 := Lib.hid (hown.alloc (.cells #[.int .u8 (x.toNat : Int)] 5))
    have hlW : ∀ j u, ([x].map bv)[j]? = some u → (W.alloc (.cells #[.int .u8 (x.toNat : Int)] 5)).cell? ((⟨W.heap.size, 0, none⟩ : Addr).add j) = some u := by
      intro j y hy
      have hj : j = 0 := by
        have := (List.getElem?_eq_some_iff.1 hy).1
        simp at this
        omega
      subst hj
      simp only [List.map_cons, List.map_nil, List.getElem?_cons_zero, Option.some.injEq] at hy
      subst hy
      simp [go_sem, bv]
    have HLW := Lib.hid hlW
    have HBEL := Lib.hid hbel
    rw [HM0.out] at hlen2
    clear hrow hown hob hlW hbel hr0 hr1 hb0 hb2 ho0 hR0 hA0 hbb
    gi_wp2_with (gi_at_builtin; refine wpListIn_append_full _ rfl (.tmp 11) (.tmp 13) 22 rfl w1.heap.size 5 i0 Tryd.underlying22 hinf.out.1 hinf.out.2.1 hinf.out.2.2.1 hinf.out.2.2.2 v pre rfl HOWN2.out ⟨W.heap.size, 0, none⟩ 1 1 [x] rfl HLW.out rfl (by omega) (by simp; omega) ?_; intro v4 w4 hown4 hb4 hg4 hv4; have HO4 := Lib.hid hown4; have HG4 := Lib.hid hg4; have HV4 := Lib.hid hv4; have hr4 : w4.heap[w2.heap.size]? = some (.cells #[v] 22) := (hg4.block w2.heap.size (by simp; omega) (fun e => by have := HOB.out _ e.symm; omega)).trans ((Below.heap_alloc _ _ _ (by omega)).trans HROW.out); have c4 := cells1_row hr4; have f4 := frozen_of_row w4 _ 0 _ _ hr4; obtain ⟨A6, c6, rfl, hh6⟩ := hown4.handS (n := pre.length + 1) (by simp); clear hown4 hb4 hg4 hv4 hr4 hh6)
    exact gatherM_round (KeepZ _) (fun j => j < w.heap.size ∨ j = w2.heap.size + 1) (fun A B h h2 => ⟨h, h2⟩) (by omega) (by omega) (by omega) (by omega) hsz (fun j hj => by omega) HROW.out HOWN.out HOB.out HBEL.out HG4.out HO4.out HV4.out
  case done =>
    rintro D ys W hD hput hI hK
    obtain ⟨⟨v, hrow, hown, hob⟩, hbel, hsz⟩ := hI
    obtain ⟨A1, c1, rfl, hh⟩ := hown.handS (n := ys.length) rfl
    have c0 := cells1_row hrow
    have HPUT := Lib.hid hput
    have HK := Lib.hid hK
    have HFIN := Lib.hid (handS_putD hh hK)
    have HBF := Lib.hid (hbel.trans (belowK_b (w := w) (Nat.le_refl _) W D _ (.deferred none) (by omega) hK rfl rfl))
    clear hrow hown hob hbel hh hK hr0 hr1 hb0 hb2 ho0 hR0 hA0 hbb hput
    go_wp2
    exact ⟨by simp, .inl ⟨_, _, rfl, run_takeDeferred HK.out, ⟨_, results_tmp rfl _ _ _, A1, ys.length, c1, ys, rfl, HPUT.out, ⟨HFIN.out.1, FreshS.less HFIN.out.2.1 (by omega), HFIN.out.2.2⟩, HBF.out⟩⟩⟩
end Go.Proofs.YtfjmgfahlicleaaDoor
