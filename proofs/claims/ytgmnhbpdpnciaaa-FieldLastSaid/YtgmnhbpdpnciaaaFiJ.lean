/- field.backward: the iterator of settings, the last one first; Last. -/
import Derived.Test.YtgmnhbpdpnciaaaFiH
import Derived.Test.YtgmnhbpdpnciaaaFiI
namespace Go.Proofs.Ytgmnhbpdpnciaaa
open Go.RowKit Oct Fi Go.Shelf
attribute [local go_sem] Oper.semAt_some

theorem drop_step {l : List Pr} {j : Nat} {x : Pr} (h : l[j]? = some x) : (l.drop (j + 1)).reverse ++ [x] = (l.drop j).reverse := by
  obtain ⟨h1, h2⟩ := List.getElem?_eq_some_iff.1 h
  rw [← h2, List.drop_eq_getElem_cons h1, List.reverse_cons]
theorem drop_pre (l : List Pr) (j : Nat) : (l.drop j).reverse <+: l.reverse := List.reverse_prefix.2 (List.drop_suffix j l)
set_option maxRecDepth 100000 in
set_option maxHeartbeats 1000000 in
theorem backward1_in (k : Nat) (hk : 1 ≤ k) (l B1 n c : Nat) (A : Option Addr) (xs : List Pr) (p : Nat → Prop) (J Jx : List Pr → World → Prop) (W : World)
    (hp1 : p B1) (hpA : 0 < n → ∀ b o, A = some ⟨b, o, none⟩ → p b) (hn : n ≤ 1000000)
    (hY : ∀ pre (x : Pr) W1, J pre W1 → pre.length < n → YieldAt Fence.wide (k - 1) Try.prog l #[pv x] W1 fun e W' =>
      (e = .returned (.bool true) ∧ J (pre ++ [x]) W' ∧ KeepC p W1 W') ∨ (e = .returned (.bool false) ∧ Jx (pre ++ [x]) W'))
    (hc : W.cell? ⟨B1, 0, none⟩ = some (.slice A n c)) (hA : Ps W W.heap.size A n xs) (h0 : J [] W) :
    CallsIn Fence.wide k Try.prog 39 #[.func (.yield l) #[] #[], .pointer (some ⟨B1, 0, none⟩)] W fun e W' => (∃ v, e = .returned v) ∧
      ((∃ ys, ys = xs.reverse ∧ J ys W') ∨ (∃ pre, pre <+: xs.reverse ∧ Jx pre W')) := by
  have HY := Lib.hid hY
  have HP := Lib.hid hp1
  have HPA := Lib.hid hpA
  have HC := Lib.hid hc
  have HA := Lib.hid hA
  have hlen := hA.1
  clear hY hp1 hpA hA
  refine callsIn_of_wp Try.func39 rfl trivial ?_ rfl
  simp only [Try.ntmps39, List.size_toArray, List.length_cons, List.length_nil, Nat.reduceAdd, Nat.reduceSub, Array.replicate_succ, Array.replicate_zero, List.push_toArray, List.append_toArray, List.nil_append, List.cons_append]
  gi_wp2
  gi_loopw [3] (fun t wr => ∃ j : Nat, j ≤ n ∧ t = .int .i64 ((j : Int) - 1) ∧ KeepC p W wr ∧ J ((xs.drop j).reverse) wr) (fun t _ => (intOf t + 1).toNat)
  case atStart => exact ⟨n, Nat.le_refl _, rfl, KeepC.refl _ _, by rw [List.drop_eq_nil_of_le (by omega)]; exact h0⟩
  case round =>
    obtain ⟨j, hj, rfl, hkp, hJj⟩ := hrel
    have hcb := hkp.cell (a := ⟨B1, 0, none⟩) HP.out HC.out
    have HK := Lib.hid hkp
    have HJj := Lib.hid hJj
    clear hkp hJj
    cases j with
    | zero =>
      gi_wp2
      go_end0
      exact ⟨⟨_, rfl⟩, .inl ⟨_, rfl, HJj.out⟩⟩
    | succ j =>
      have HA1 := Lib.hid (HK.out.ps HA.out HPA.out)
      obtain ⟨b, o, rfl, hb, hcc⟩ := ps_cell HA1.out (by omega)
      obtain ⟨x, hx, hc1, hc2⟩ := hcc j (by omega)
      rw [← Nat.add_assoc] at hc2
      have HX := Lib.hid (drop_step hx)
      have HL : Hid ((xs.drop (j + 1)).reverse.length < n) := Lib.hid (by rw [List.length_reverse, List.length_drop]; omega)
      have HD := Lib.hid (drop_pre xs j)
      rw [show ((j + 1 : Nat) : Int) - 1 = (j : Int) from by omega]
      obtain ⟨fn, tmps, assign, body, hy, hR⟩ := HY.out _ x wr HJj.out HL.out
      rw [HX.out] at hR
      unfold pv at hy
      have HR := Lib.hid hR
      clear hR hcc hx
      gi_wp2
      refine HR.out.mono ?_
      rintro e W4 (⟨rfl, hJ4, hk4⟩ | ⟨rfl, hJx4⟩)
      · gi_wp2
        go_roundw
        case rel => exact ⟨j, by omega, by go_num, HK.out.trans hk4, hJ4⟩
        case measure => simp [intOf]
      · gi_wp2
        refine bodyPost_ret (results_none rfl _ _ _) rfl ?_
        exact ⟨⟨_, rfl⟩, .inr ⟨_, HD.out, hJx4⟩⟩
theorem backward_stops (k : Nat) (hk : 1 ≤ k) (B1 n c : Nat) (A : Option Addr) (xs : List Pr) (p : Nat → Prop) (w : World)
    (hB : B1 < w.heap.size) (hp1 : p B1) (hpA : 0 < n → ∀ b o, A = some ⟨b, o, none⟩ → p b) (hn : n ≤ 1000000)
    (hc : w.cell? ⟨B1, 0, none⟩ = some (.slice A n c)) (hA : Ps w w.heap.size A n xs) :
    SeqStopsK Fence.wide k Try.prog 39 #[.pointer (some ⟨B1, 0, none⟩)] (fun x : Pr => #[.agg #[.int .u16 (x.1.toNat : Int), .int .u32 (x.2.toNat : Int)]]) (KeepC p) (fun ys => ys = xs.reverse) (fun pre => pre <+: xs.reverse) n w := fun l J Jx W hW _ _ hY h0 =>
  backward1_in k hk l B1 n c A xs p J Jx W hp1 hpA hn hY ((hW.cell (p := ⟨B1, 0, none⟩) hB).trans hc) (hA.on hW) h0
theorem backward_any (A : Option Addr) (n c : Nat) (w : World) :
    Calls Try.prog 33 #[.slice A n c] w fun e w' =>
      e = .returned (.func (.func 39) #[] #[.pointer (some ⟨w.heap.size, 0, none⟩)]) ∧ w.alloc (.cells #[.slice A n c] 25) = w' := by
  go_enter Try.func33, Try.ntmps33
  go_wp2
  go_ret
  exact ⟨rfl, rfl⟩
/-- What holds between two rounds of Last: none yet, and its cells as they were laid. -/
structure LastI (w : World) (id : UInt16) (g g1 g2 : Nat) (pre : List Pr) (W : World) : Prop where
  none_ : pre.find? (fun p => p.1 == id) = none
  cid : W.cell? ⟨g, 0, none⟩ = some (.int .u16 (id.toNat : Int))
  cv : W.cell? ⟨g1, 0, none⟩ = some (.int .u32 0)
  fv : W.frozen? ⟨g1, 0, none⟩ = false
  cb : W.cell? ⟨g2, 0, none⟩ = some (.bool false)
  fb : W.frozen? ⟨g2, 0, none⟩ = false
  below : Below w.heap.size w W
/-- .. and once one is there. -/
structure LastX (w : World) (id : UInt16) (g g1 g2 : Nat) (c : Code) (pre : List Pr) (W : World) : Prop where
  code : c = .ret
  some_ : ∃ x, pre.find? (fun p => p.1 == id) = some x ∧ W.cell? ⟨g1, 0, none⟩ = some (.int .u32 (x.2.toNat : Int))
  cb : W.cell? ⟨g2, 0, none⟩ = some (.bool true)
  below : Below w.heap.size w W
theorem lastI_own {w : World} {id : UInt16} {g g1 g2 B : Nat} (hB : w.heap.size ≤ B) : OwnFrom B (LastI w id g g1 g2) := by
  intro s W W' row hs hg hr
  have hr' : ∀ k, row = some k → ∃ o : Obj, W.heap[k]? = some o ∧ o.isCells = false := fun k e => (hr k e).2
  exact ⟨hs.none_, cell_kept hs.cid hg hr', cell_kept hs.cv hg hr', (frozen_kept hs.cv hg hr').trans hs.fv, cell_kept hs.cb hg hr', (frozen_kept hs.cb hg hr').trans hs.fb, hs.below.grown hg hs.below.size (fun k e => Nat.le_trans hB (hr k e).1)⟩
theorem lastX_own {w : World} {id : UInt16} {g g1 g2 B : Nat} (c : Code) (hB : w.heap.size ≤ B) : OwnFrom B (LastX w id g g1 g2 c) := by
  intro s W W' row hs hg hr
  have hr' : ∀ k, row = some k → ∃ o : Obj, W.heap[k]? = some o ∧ o.isCells = false := fun k e => (hr k e).2
  obtain ⟨x, h1, h2⟩ := hs.some_
  exact ⟨hs.code, ⟨x, h1, cell_kept h2 hg hr'⟩, cell_kept hs.cb hg hr', hs.below.grown hg hs.below.size (fun k e => Nat.le_trans hB (hr k e).1)⟩
theorem last_round {w W : World} {id : UInt16} {g g1 g2 R : Nat} {pre : List Pr} {x : Pr} {a : Act} (p : Nat → Prop) (hI : LastI w id g g1 g2 pre W) (hx : x.1 ≠ id) : ownPostG R (KeepC p) (LastI w id g g1 g2) (LastX w id g g1 g2) (pre ++ [x]) W Exit.normal a W :=
  ⟨KeepsFrom.refl _ _, KeepC.refl _ _, ⟨by rw [List.find?_append, hI.none_]; simp [hx], hI.cid, hI.cv, hI.fv, hI.cb, hI.fb, hI.below⟩⟩
theorem last_leaves {w W : World} {id : UInt16} {g g1 g2 R : Nat} {pre : List Pr} {x : Pr} {a : Act} (p : Nat → Prop) (hI : LastI w id g g1 g2 pre W) (hx : x.1 = id) (h1 : w.heap.size ≤ g1) (h2 : w.heap.size ≤ g2) (h12 : g1 ≠ g2) :
    ownPostG R (KeepC p) (LastI w id g g1 g2) (LastX w id g g1 g2) (pre ++ [x]) W Exit.ret a ((W.setCell ⟨g1, 0, none⟩ (.int .u32 (x.2.toNat : Int))).setCell ⟨g2, 0, none⟩ (.bool true)) := by
  refine ⟨((KeepsOthers.setCell _ _ _).trans (KeepsOthers.setCell _ _ _)).from _, ⟨rfl, ⟨x, ?_, ?_⟩, ?_, ?_⟩⟩
  · rw [List.find?_append, hI.none_]; simp [hx]
  · rw [World.cell?_setCell_other _ _ _ _ (fun e => h12 (by cases e; rfl))]
    exact World.cell?_setCell_same' _ _ _ (by rw [hI.cv]; rfl)
  · refine World.cell?_setCell_same' _ _ _ ?_
    rw [World.cell?_setCell_other _ _ _ _ (fun e => h12 (by cases e; rfl)), hI.cb]; rfl
  · exact (hI.below.setCell (p := ⟨g1, 0, none⟩) h1 _).setCell (p := ⟨g2, 0, none⟩) h2 _
theorem last_fin {w W : World} {l : List Pr} {id : UInt16} {D : Nat} {v : Int} {b : Bool} (A : Option Addr) (n c : Nat) (hD : w.heap.size ≤ D) (hK : W.heap[D]? = some (.deferred (some []))) (c1 : W.cell? ⟨w.heap.size + 1, 0, none⟩ = some (.int .u32 v)) (c2 : W.cell? ⟨w.heap.size + 1 + 1, 0, none⟩ = some (.bool b)) (hb : Below w.heap.size w W)
    (hv : laV l id = v ∧ laB l id = b) :
    bodyPostM Fence.wide 6 Try.prog Try.f19 (fun e w' => e = Ending.returned (Value.tuple #[Value.int IntKind.u32 (laV l id), Value.bool (laB l id)]) ∧ Below w.heap.size w w') Exit.ret { tmps := #[.slice A n c, .int .u16 (id.toNat : Int), undef, .pointer (some ⟨w.heap.size, 0, none⟩), .pointer (some ⟨w.heap.size + 1, 0, none⟩), .pointer (some ⟨w.heap.size + 1 + 1, 0, none⟩), undef, .slice A n c, .func (.func 39) #[] #[.pointer (some ⟨w.heap.size + 1 + 1 + 1, 0, none⟩)], undef, undef, undef, undef, undef, undef, undef], defers := [{ target := .collected D, args := #[] }] } W := by
  have hbl : Below w.heap.size w (W.putObj D (.deferred none)) := hb.trans (belowK_b (w := w) (Nat.le_refl _) W D _ _ hD hK rfl rfl)
  have f1 := cell_kept c1 (grownBy_putObj' W D (.deferred none)) (fun k e => by cases e; exact ⟨_, hK, rfl⟩)
  have f2 := cell_kept c2 (grownBy_putObj' W D (.deferred none)) (fun k e => by cases e; exact ⟨_, hK, rfl⟩)
  refine ⟨by simp, .inl ⟨_, _, rfl, run_takeDeferred hK, ⟨.tuple #[.int .u32 (laV l id), .bool (laB l id)], ?_, rfl, hbl⟩⟩⟩
  rw [hv.1, hv.2]
  simp [results, Try.results19, go_sem, f1, f2]
theorem last_boxes (w : World) (a b c : Value) (t1 t2 t3 : TypeId) (o : Obj) :
    let W := (((w.alloc (.cells #[a] t1)).alloc (.cells #[b] t2)).alloc (.cells #[c] t3)).alloc o
    W.cell? ⟨w.heap.size, 0, none⟩ = some a ∧ W.cell? ⟨w.heap.size + 1, 0, none⟩ = some b ∧ W.frozen? ⟨w.heap.size + 1, 0, none⟩ = false ∧ W.cell? ⟨w.heap.size + 1 + 1, 0, none⟩ = some c ∧ W.frozen? ⟨w.heap.size + 1 + 1, 0, none⟩ = false ∧ W.heap.size = w.heap.size + 4 ∧ Below w.heap.size w W := by
  refine ⟨?_, ?_, ?_, ?_, ?_, ?_, ?_⟩
  · simp [go_sem]
  · simp [go_sem]
  · simp [go_sem]
  · simp [go_sem]
  · simp [go_sem]
  · simp
  · exact ((((Below.refl _ w).alloc (Nat.le_refl _) _).alloc (by simp) _).alloc (by simp only [World.size_alloc]; omega) _).alloc (by simp only [World.size_alloc]; omega) _
set_option maxRecDepth 100000 in
set_option maxHeartbeats 1000000 in
theorem flast_any (A : Option Addr) (n c : Nat) (l : List Pr) (id : UInt16) (w : World) (hA : Ps w w.heap.size A n l) (hn : n ≤ 1000000) :
    Calls Try.prog 19 #[.slice A n c, .int .u16 (id.toNat : Int)] w fun e w' => e = .returned (.tuple #[.int .u32 (laV l id), .bool (laB l id)]) ∧ Below w.heap.size w w' := by
  have HA := Lib.hid hA
  clear hA
  have hid := id.toNat_lt
  refine (callsIn_wide (n := 6)).1 (callsIn_of_wp_marks Try.func19 rfl trivial ?_ rfl)
  refine wpIn_wide.2 ?_
  simp only [Try.ntmps19, List.size_toArray, List.length_cons, List.length_nil, Nat.reduceAdd, Nat.reduceSub, Array.replicate_succ, Array.replicate_zero, List.push_toArray, List.append_toArray, List.nil_append, List.cons_append]
  go_wp2_with (go_at_call 33; refine (backward_any _ _ _ _).mono ?_; rintro e w3 ⟨rfl, rfl⟩)
  have hW0 := last_boxes w (.int .u16 (id.toNat : Int)) (.int .u32 0) (.bool false) 26 39 4 (.cells #[.slice A n c] 25)
  have hc3 : ((((w.alloc (.cells #[.int .u16 (id.toNat : Int)] 26)).alloc (.cells #[.int .u32 0] 39)).alloc (.cells #[.bool false] 4)).alloc (.cells #[.slice A n c] 25)).cell? ⟨w.heap.size + 1 + 1 + 1, 0, none⟩ = some (.slice A n c) := by simp [go_sem]
  generalize (((w.alloc (.cells #[.int .u16 (id.toNat : Int)] 26)).alloc (.cells #[.int .u32 0] 39)).alloc (.cells #[.bool false] 4)).alloc (.cells #[.slice A n c] 25) = W0 at *
  obtain ⟨g1, g2, g3, g4, g5, hsz, hBW⟩ := hW0
  have hA0 := HA.out.on hBW
  have hpA : 0 < n → ∀ b o, A = some ⟨b, o, none⟩ → b < w.heap.size ∨ b = w.heap.size + 1 + 1 + 1 := fun hm0 b o e => by
    obtain ⟨b', o', e', hb, _⟩ := HA.out.2 (by omega)
    rw [e] at e'
    cases e'
    omega
  have h0 : LastI w id w.heap.size (w.heap.size + 1) (w.heap.size + 1 + 1) [] W0 := ⟨rfl, g1, g2, g3, g4, g5, hBW⟩
  refine (wpIn_wide (n := 6)).1 ?_
  refine wpIn_rangeFunc_ownH rfl (by omega) (gf := 39) (lb := #[.pointer (some ⟨w.heap.size + 1 + 1 + 1, 0, none⟩)]) rfl trivial (enters_of Try.func39 (by kernel_rfl) rfl)
    (backward_stops 5 (by omega) (w.heap.size + 1 + 1 + 1) n c A l (fun j => j < w.heap.size ∨ j = w.heap.size + 1 + 1 + 1) W0 (by omega) (by omega) hpA hn hc3 hA0)
    (fun h k => h.trans k) (fun W l o o' _ h hc _ => KeepC.put W l o o' h hc) (Below.refl _ _) (fun _ => rfl)
    (LastI w id w.heap.size (w.heap.size + 1) (w.heap.size + 1 + 1))
    (LastX w id w.heap.size (w.heap.size + 1) (w.heap.size + 1 + 1))
    (lastI_own (by omega))
    (fun c => lastX_own c (by omega))
    h0
    (fun x => AtP (fun b => { tmps := #[.slice A n c, .int .u16 (id.toNat : Int), undef, .pointer (some ⟨w.heap.size, 0, none⟩), .pointer (some ⟨w.heap.size + 1, 0, none⟩), .pointer (some ⟨w.heap.size + 1 + 1, 0, none⟩), .pointer (some ⟨b, 0, none⟩), .slice A n c, .func (.func 39) #[] #[.pointer (some ⟨w.heap.size + 1 + 1 + 1, 0, none⟩)], .agg #[.int .u16 (x.1.toNat : Int), .int .u32 (x.2.toNat : Int)], undef, undef, undef, undef, undef, undef], defers := [] }) x)
    (fun x a' => atP_own _ _ x a')
    ?assign ?body ?done ?stop
  case assign =>
    intro l pre x W K hI hK
    have HK := Lib.hid hK
    have HI := Lib.hid hI
    clear hK hI
    gi_wp2
    refine HK.out _ _ ?_ ?_ ?_ ⟨W.heap.size, rfl, ?_, ?_⟩
    · exact (KeepsOthers.alloc _ _).from _
    · exact KeepC.below ((Below.refl _ W).alloc (Nat.le_refl _) _)
    · exact (lastI_own (B := W0.heap.size) (by omega)).alloc _ HI.out
    · simp [go_sem]
    · simp [go_sem]
  case body =>
    rintro l pre x a' W _ _ hI ⟨b, rfl, k1, k2⟩ hlen
    have HI := Lib.hid hI
    obtain ⟨_, r1, r2, r3, r4, r5, _⟩ := hI
    by_cases he : x.1 = id
    · have HE := Lib.hid he
      rw [he] at k1
      gi_wp2
      exact last_leaves _ HI.out HE.out (by omega) (by omega) (by omega)
    · have HE := Lib.hid he
      have hne : ((x.1.toNat : Int) == (id.toNat : Int)) = false := by
        rw [beq_eq_false_iff_ne]
        intro h2
        exact he (UInt16.toNat_inj.1 (by omega))
      gi_wp2
      exact last_round _ HI.out HE.out
  case done =>
    rintro D ys W hD rfl hI hK
    have HI := Lib.hid hI
    obtain ⟨_, r1, r2, r3, r4, r5, _⟩ := hI
    go_wp2
    have hD2 : W0.heap.size ≤ D := hD
    have n12 : (⟨w.heap.size + 1 + 1, 0, none⟩ : Addr) ≠ ⟨w.heap.size + 1, 0, none⟩ := fun e => by injection e; omega
    refine last_fin (w := w) A n c (by omega) ?_ ?_ ?_ ?_ (la_none HI.out.none_)
    · rw [Below.heap_setCell _ _ _ _ (by simp only; omega), Below.heap_setCell _ _ _ _ (by simp only; omega)]
      exact hK
    · rw [World.cell?_setCell_other _ _ _ _ n12]
      exact World.cell?_setCell_same' _ _ _ (by rw [r2]; rfl)
    · refine World.cell?_setCell_same' _ _ _ ?_
      rw [World.cell?_setCell_other _ _ _ _ n12.symm, r4]; rfl
    · exact (HI.out.below.setCell (p := ⟨w.heap.size + 1, 0, none⟩) (Nat.le_succ _) _).setCell (p := ⟨w.heap.size + 1 + 1, 0, none⟩) (Nat.le_add_right _ 2) _
  case stop =>
    rintro D c pre W hD hpre hX hK
    obtain ⟨rfl, ⟨x, hx, q1⟩, q2, hb⟩ := hX
    have hD2 : W0.heap.size ≤ D := hD
    have HL : Hid (lastO l id = some x) := Lib.hid (by
      obtain ⟨r, hr⟩ := hpre
      unfold lastO
      rw [← hr, List.find?_append, hx]
      rfl)
    refine wpIn_wide.2 ?_
    go_wp2
    exact last_fin (w := w) A n c (by omega) hK q1 q2 hb (la_some HL.out)
end Go.Proofs.Ytgmnhbpdpnciaaa
