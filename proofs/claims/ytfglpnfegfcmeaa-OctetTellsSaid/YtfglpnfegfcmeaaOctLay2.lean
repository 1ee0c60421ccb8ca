/- octet.Lay: what is laid, in memory of its own; and what may not be laid. -/
import Derived.Laws.CopyOwn
import Derived.Laws.EntriesVeiled
import Derived.Test.YtfglpnfegfcmeaaOctLay
namespace Go.Proofs.Ytfglpnfegfcmeaa
open Go.RowKit Oct Go.Shelf
attribute [local go_sem] Oper.semAt_some
attribute [local go_sem] i64_and1 i64_and7 i64_and31

theorem lay_bound (c : Int) (k : Nat) (h0 : 0 ≤ c) (h : ¬ c < 2 ^ k) : (c / 2 ^ k != 0) = true := by
  obtain ⟨C, rfl⟩ := Int.eq_ofNat_of_zero_le h0
  have h1 : 2 ^ k ≤ C := by
    have h2 : ((2 ^ k : Nat) : Int) ≤ (C : Int) := by rw [Int.natCast_pow]; exact Int.not_lt.1 h
    omega
  have h3 : 1 ≤ C / 2 ^ k := (Nat.le_div_iff_mul_le (Nat.two_pow_pos _)).2 (by omega)
  have h4 : ((C : Int) / 2 ^ k) = ((C / 2 ^ k : Nat) : Int) := by simp
  rw [h4, bne_iff_ne]
  omega
theorem lay_inside (c : Int) (k : Nat) (h0 : 0 ≤ c) (h : c < 2 ^ k) : (c / 2 ^ k != 0) = false := by
  obtain ⟨C, rfl⟩ := Int.eq_ofNat_of_zero_le h0
  have h1 : C < 2 ^ k := by
    have h2 : (C : Int) < ((2 ^ k : Nat) : Int) := by rw [Int.natCast_pow]; exact h
    omega
  have h3 : C / 2 ^ k = 0 := Nat.div_eq_of_lt h1
  have h4 : ((C : Int) / 2 ^ k) = ((C / 2 ^ k : Nat) : Int) := by simp
  rw [h4, h3]
  rfl
theorem RowB.kept {W W' : World} {g : Nat} {t : TypeId} {ys : List UInt8} {row : Option Nat} (h : RowB W g t ys) (hg : W.grownBy W' row) (hrow : ∀ r, row = some r → ∃ o : Obj, W.heap[r]? = some o ∧ o.isCells = false) : RowB W' g t ys :=
  h.same (grownBy_keeps_cells hg hrow h rfl)
theorem laid_end {xs ys : List UInt8} {used c k : Nat} (h : Laying xs used ((used + k + 7) / 8) (codeL c k k) ys) : IsLaid xs used c k ys := by
  refine ⟨h.len, fun i hi => ?_⟩
  rw [h.bit i (by have := h.len; omega)]
  unfold layL layBit
  by_cases h1 : i < used
  · rw [if_pos h1, if_pos h1]
  · rw [if_neg h1, if_neg h1]
    by_cases h2 : i < used + k
    · rw [if_pos h2]
      have e : used + k - 1 - i = k - 1 - (i - used) := by omega
      rw [e]
      simp [codeL, show i - used < k by omega]
    · rw [if_neg h2, List.getElem?_eq_none (by rw [codeL_length]; omega)]
      rfl

/-- What holds between two rounds. -/
structure LayI (h g h3 n used L : Nat) (xs : List UInt8) (w : World) (pre : List (Fin 2)) (W : World) : Prop where
  row : ∃ ys, RowB W g 5 ys ∧ Laying xs used L pre ys
  boxU : W.cell? ⟨h3 + 1, 0, none⟩ = some (.int .i64 ((used + pre.length : Nat) : Int))
  free : W.frozen? ⟨h3 + 1, 0, none⟩ = false
  boxO : W.cell? ⟨h3, 0, none⟩ = some (.slice (some ⟨g, 0, none⟩) n n)
  boxL : W.cell? ⟨h, 0, none⟩ = some (.func (.func 34) #[] #[.pointer (some ⟨h3, 0, none⟩), .pointer (some ⟨h3 + 1, 0, none⟩)])
  size : h3 + 4 ≤ W.heap.size
  below : Below w.heap.size w W
theorem layI_own {h g h3 n used L : Nat} {xs : List UInt8} {w : World} {B : Nat} (hB : w.heap.size ≤ B) : OwnFrom B (LayI h g h3 n used L xs w) := by
  intro s W W' row hs hg hr
  have hr' : ∀ r, row = some r → ∃ o : Obj, W.heap[r]? = some o ∧ o.isCells = false := fun r e => (hr r e).2
  obtain ⟨ys, h1, h2⟩ := hs.row
  exact ⟨⟨ys, h1.kept hg hr', h2⟩, cell_kept hs.boxU hg hr', (frozen_kept hs.boxU hg hr').trans hs.free, cell_kept hs.boxO hg hr', cell_kept hs.boxL hg hr', Nat.le_trans hs.size hg.size,
    hs.below.grown hg hs.below.size (fun k e => Nat.le_trans hB (hr k e).1)⟩

theorem size_u8 : (Try.prog.info? 5).map (fun i => i.size) = some 1 := by kernel_rfl
theorem made_facts {w w2 : World} {L : Nat} (hown : w2.ownsRow (w.heap.size + 1) 5 1 (.slice (some ⟨(w.alloc (.cells #[.nilFunc] 49)).heap.size, 0, none⟩) L L) L (madeCells (Value.int IntKind.u8 0).cells (L * 1)).toList)
    (hg : (w.alloc (.cells #[.nilFunc] 49)).grownBy w2 none) :
    w2.heap[w.heap.size + 1]? = some (.cells (List.replicate L (Value.int .u8 0)).toArray 5 (0, 0)) ∧ Below (w.heap.size + 1) (w.alloc (.cells #[.nilFunc] 49)) w2 := by
  refine ⟨?_, (Below.refl _ _).grown hg (by simp) (fun k h => by cases h)⟩
  have e : (madeCells (Value.int IntKind.u8 0).cells (L * 1)).toList = (List.replicate L (0 : UInt8)).map bv := by
    rw [Nat.mul_one]
    have h1 : (Value.int IntKind.u8 0).cells = #[Value.int IntKind.u8 0] := rfl
    rw [h1, toList_madeCells_one, List.map_replicate]
    rfl
  rw [e, World.size_alloc] at hown
  have h := RowB.of_own hown
  unfold RowB at h
  rw [h, List.map_replicate]
  rfl
theorem copy_pos {w w2 : World} {A : Option Addr} {n L : Nat} {xs : List UInt8} (hA : Bs w w.heap.size A n xs) (hb : Below (w.heap.size + 1) (w.alloc (.cells #[.nilFunc] 49)) w2) (hn : n ≤ L := by omega) :
    (xs.map bv).length = Nat.min n L ∧ (0 < (xs.map bv).length → (some (⟨w.heap.size + 1, 0, none⟩ : Addr)) = some ⟨w.heap.size + 1, 0, none⟩ ∧ ∃ ad, A = some ad ∧ ∀ j v, (xs.map bv)[j]? = some v → w2.cell? (ad.add j) = some v) := by
  have hl := hA.1
  refine ⟨by rw [List.length_map, hl]; exact (Nat.min_eq_left hn).symm, fun hpos => ⟨rfl, ?_⟩⟩
  rw [List.length_map, hl] at hpos
  have h2 : Bs w2 w.heap.size A n xs := (hA.alloc (Nat.le_refl _) _).below (hb.mono (Nat.le_succ _))
  obtain ⟨b, o, rfl, hb, hc⟩ := bs_cell h2 hpos
  refine ⟨_, rfl, fun j v hv => ?_⟩
  have hj : j < n := by
    have := (List.getElem?_eq_some_iff.1 hv).1
    simpa [hl] using this
  obtain ⟨x, hx, hcx⟩ := hc j hj
  rw [List.getElem?_map, hx] at hv
  cases hv
  rw [Addr.add_lit]
  exact hcx
theorem copied_row {w3 : World} {g L : Nat} {xs : List UInt8} (h : Hid (w3.heap[g]? = some (.cells (splice (List.replicate L (Value.int .u8 0)) 0 (xs.map bv)).toArray 5 (0, 0)))) : RowB w3 g 5 (xs ++ List.replicate (L - xs.length) 0) := by
  unfold RowB
  rw [h.out]
  have e : splice (List.replicate L (Value.int .u8 0)) 0 (xs.map bv) = (xs ++ List.replicate (L - xs.length) 0).map bv := by
    simp [splice, bv]
  rw [e]
theorem lay_box {w w3 w4 : World} {n c u g : Nat} {ys : List UInt8} (hb : Below (w.heap.size + 1) (w.alloc (.cells #[.nilFunc] 49)) w3) (h : Layered w3 w4 g n c u ys) (hg : w.heap.size + 1 = g := by rfl) :
    w4.cell? ⟨w.heap.size, 0, none⟩ = some .nilFunc ∧ w4.frozen? ⟨w.heap.size, 0, none⟩ = false := by
  have hs := hb.size
  rw [World.size_alloc] at hs
  have e : w4.heap[w.heap.size]? = (w.alloc (.cells #[.nilFunc] 49)).heap[w.heap.size]? := (h.turn.block _ (by omega) (by omega)).trans (hb.block _ (by omega))
  constructor
  · exact (World.cell?_of_block (w := w.alloc (.cells #[.nilFunc] 49)) (a := ⟨w.heap.size, 0, none⟩) e).trans (by simp [go_sem])
  · exact (World.frozen?_of_block (w := w.alloc (.cells #[.nilFunc] 49)) (a := ⟨w.heap.size, 0, none⟩) e).trans (by simp [go_sem])

theorem lay_start {w w3 w4 : World} {L used cd k : Nat} {xs ys : List UInt8} (hb : Below (w.heap.size + 1) (w.alloc (.cells #[.nilFunc] 49)) w3) (hd : Layered w3 w4 (w.heap.size + 1) L L used ys) (hy : Laying xs used L [] ys) :
    LayI w.heap.size (w.heap.size + 1) w3.heap.size L used L xs w [] (((w4.setCell ⟨w.heap.size, 0, none⟩ (.func (.func 34) #[] #[.pointer (some ⟨w3.heap.size, 0, none⟩), .pointer (some ⟨w3.heap.size + 1, 0, none⟩)])).alloc (.cells #[.int .i64 cd] 3)).alloc (.cells #[.int .i64 k] 3)) ∧
    (((w4.setCell ⟨w.heap.size, 0, none⟩ (.func (.func 34) #[] #[.pointer (some ⟨w3.heap.size, 0, none⟩), .pointer (some ⟨w3.heap.size + 1, 0, none⟩)])).alloc (.cells #[.int .i64 cd] 3)).alloc (.cells #[.int .i64 k] 3)).cell? ⟨w4.heap.size, 0, none⟩ = some (.int .i64 (cd : Int)) ∧
    (((w4.setCell ⟨w.heap.size, 0, none⟩ (.func (.func 34) #[] #[.pointer (some ⟨w3.heap.size, 0, none⟩), .pointer (some ⟨w3.heap.size + 1, 0, none⟩)])).alloc (.cells #[.int .i64 cd] 3)).alloc (.cells #[.int .i64 k] 3)).cell? ⟨w4.heap.size + 1, 0, none⟩ = some (.int .i64 (k : Int)) ∧
    (((w4.setCell ⟨w.heap.size, 0, none⟩ (.func (.func 34) #[] #[.pointer (some ⟨w3.heap.size, 0, none⟩), .pointer (some ⟨w3.heap.size + 1, 0, none⟩)])).alloc (.cells #[.int .i64 cd] 3)).alloc (.cells #[.int .i64 k] 3)).heap.size = w4.heap.size + 2 := by
  have hs := hb.size
  rw [World.size_alloc] at hs
  have hz := hd.size
  have hx := lay_box hb hd
  generalize hF : Value.func (.func 34) #[] #[.pointer (some ⟨w3.heap.size, 0, none⟩), .pointer (some ⟨w3.heap.size + 1, 0, none⟩)] = F
  have hzs : (w4.setCell ⟨w.heap.size, 0, none⟩ F).heap.size = w4.heap.size := by simp [World.setCell]
  have keep : ∀ j, j < w4.heap.size → j ≠ w.heap.size → (((w4.setCell ⟨w.heap.size, 0, none⟩ F).alloc (.cells #[.int .i64 cd] 3)).alloc (.cells #[.int .i64 k] 3)).heap[j]? = w4.heap[j]? := fun j hj hne =>
    ((Below.heap_alloc _ _ j (by simp [hzs]; omega)).trans (Below.heap_alloc _ _ j (by omega))).trans (Below.heap_setCell _ _ _ _ hne)
  refine ⟨⟨⟨ys, hd.row.same (keep _ (by omega) (by omega)), hy⟩, ?_, ?_, ?_, ?_, by simp [hzs]; omega, ?_⟩, ?_, ?_, by simp [hzs]⟩
  · exact (World.cell?_of_block (w := w4) (a := ⟨w3.heap.size + 1, 0, none⟩) (keep _ (by simp only; omega) (by simp only; omega))).trans (by rw [hd.boxU]; rfl)
  · exact (World.frozen?_of_block (w := w4) (a := ⟨w3.heap.size + 1, 0, none⟩) (keep _ (by simp only; omega) (by simp only; omega))).trans hd.free
  · exact (World.cell?_of_block (w := w4) (a := ⟨w3.heap.size, 0, none⟩) (keep _ (by simp only; omega) (by simp only; omega))).trans hd.boxO
  · have e := World.cell?_setCell_same' w4 ⟨w.heap.size, 0, none⟩ F (by rw [hx.1]; rfl)
    rw [World.cell?_alloc_lt _ _ _ (by simp [hzs]; omega), World.cell?_alloc_lt _ _ _ (by simp only [hzs]; omega), e, hF]
  · refine ((((((Below.refl _ w).alloc (Nat.le_refl _) _).trans (hb.mono (by omega))).trans (hd.turn.below (by omega) (fun k hk => by omega))).setCell (p := ⟨w.heap.size, 0, none⟩) (Nat.le_refl _) _).alloc (by rw [hzs]; omega) _).alloc (by simp [hzs]; omega) _
  · rw [World.cell?_alloc_lt _ _ _ (by simp [hzs])]
    rw [← hzs]
    simp [go_sem]
  · rw [← hzs]
    simp [go_sem]

theorem layI_round {h3 h4 n used L B : Nat} {xs zs : List UInt8} {w W w' : World} {pre : List (Fin 2)} {x : Fin 2} {a : Act}
    (hh : RowB w' (w.heap.size + 1) 5 zs ∧ w'.cell? ⟨h3 + 1, 0, none⟩ = some (.int .i64 ((used + pre.length + 1 : Nat) : Int)) ∧ w'.frozen? ⟨h3 + 1, 0, none⟩ = false ∧ Turn (fun k => k = w.heap.size + 1 ∨ k = h3 + 1) W w')
    (hs : Laying xs used L (pre ++ [x]) zs) (hI : LayI w.heap.size (w.heap.size + 1) h3 n used L xs w pre W) (hg : w.heap.size + 1 < h3) (h4e : h4 = h3 + 2) (hBe : B = h4 + 2) :
    ownPostG B (KeepP fun j => j = h4 ∨ j = h4 + 1) (LayI w.heap.size (w.heap.size + 1) h3 n used L xs w) (fun _ _ _ => False) (pre ++ [x]) W Exit.normal a w' := by
  obtain ⟨h1, h2, h3', ht⟩ := hh
  have hsz := hI.size
  have keep : ∀ j, j < h3 + 4 → j ≠ w.heap.size + 1 → j ≠ h3 + 1 → w'.heap[j]? = W.heap[j]? := fun j hj ha hb => ht.block j (by omega) (by omega)
  refine ⟨⟨ht.size, fun k o hk ho _ => (ht.block k (Array.getElem?_eq_some_iff.1 ho).1 (by omega)).trans ho⟩, fun j hj => keep j (by omega) (by omega) (by omega), ⟨zs, h1, hs⟩, ?_, h3', ?_, ?_, by have := ht.size; omega, ?_⟩
  · rw [h2, List.length_append, List.length_singleton]; rfl
  · exact (World.cell?_of_block (w := W) (a := ⟨h3, 0, none⟩) (keep _ (by simp only; omega) (by simp only; omega) (by simp only; omega))).trans hI.boxO
  · exact (World.cell?_of_block (w := W) (a := ⟨w.heap.size, 0, none⟩) (keep _ (by simp only; omega) (by simp only; omega) (by simp only; omega))).trans hI.boxL
  · exact hI.below.trans (ht.below (by omega) (fun k hk => by omega))
set_option maxRecDepth 100000 in
set_option maxHeartbeats 2000000 in
theorem lay_ok (A : Option Addr) (n c : Nat) (xs : List UInt8) (used cd k : Int) (w : World) (hA : Bs w w.heap.size A n xs) (hu0 : 0 ≤ used) (hc0 : 0 ≤ cd) (hk0 : 0 ≤ k) (hk : k ≤ 30) (hcd : cd < 2 ^ k.toNat)
    (hu1 : used ≤ 8 * n) (hu2 : (n : Int) ≤ (used + 7) / 8) (hn : n ≤ 1000000) :
    Calls Try.prog 20 #[.slice A n c, .int .i64 used, .int .i64 cd, .int .i64 k] w fun e w' =>
      ∃ v ys, e = .returned (.tuple #[v, .int .i64 (used + k), .int .i64 0]) ∧ IsLaid xs used.toNat cd.toNat k.toNat ys ∧ OwnB w' w.heap.size 5 v ys ∧ Below w.heap.size w w' := by
  obtain ⟨used, rfl⟩ := Int.eq_ofNat_of_zero_le hu0
  obtain ⟨k, rfl⟩ := Int.eq_ofNat_of_zero_le hk0
  have hins := lay_inside cd k hc0 hcd
  clear hcd
  obtain ⟨cd, rfl⟩ := Int.eq_ofNat_of_zero_le hc0
  simp only [Int.toNat_natCast] at *
  have HA := Lib.hid hA
  clear hA
  obtain ⟨L, hL⟩ : ∃ L, L = (used + k + 7) / 8 := ⟨_, rfl⟩
  have HL := Lib.hid hL
  have hLn : n ≤ L := by omega
  have hLk : L ≤ 1000005 := by omega
  have hneed : ((used : Int) + k + 7) / 8 = (L : Int) := by omega
  have HN := Lib.hid hneed
  clear hL hneed
  have d0 : decide ((cd : Int) < 0) = false := by simp
  have d1 : decide ((used : Int) < 0) = false := by simp
  have d2 : decide ((n : Int) * 8 < (used : Int)) = false := by simp; omega
  have d3 : decide (((used : Int) + 7) / 8 < (n : Int)) = false := by simp; omega
  obtain ⟨i0, hi, hz0, hz1, hz2⟩ := info_parts info_u8
  have hinf := Lib.hid (And.intro hi (And.intro hz0 (And.intro hz1 hz2)))
  clear hi hz0 hz1 hz2
  refine (callsIn_wide (n := 6)).1 (callsIn_of_wp_marks Try.func20 rfl trivial ?_ rfl)
  refine wpIn_wide.2 ?_
  simp only [Try.ntmps20, List.size_toArray, List.length_cons, List.length_nil, Nat.reduceAdd, Nat.reduceSub, Array.replicate_succ, Array.replicate_zero, List.push_toArray, List.append_toArray, List.nil_append, List.cons_append]
  go_wp2
  refine wp_scope_forward 0 rfl ?_
  go_wp2_with (first
    | (go_at_call 25; refine (room_any _ _ _ _ hn).mono ?_; rintro e w' ⟨rfl, rfl⟩)
    | (go_at_call 27; refine (coded_yes _ _ hk0 hk).mono ?_; rintro e w' ⟨rfl, rfl⟩)
    | (go_at_call 29; refine (need_any _ _ (by omega) (by omega)).mono ?_; rintro e w' ⟨rfl, rfl⟩; try rw [HN.out])
    | (refine wpList_make_full _ rfl (.tmp 45) (.tmp 45) 22 rfl (w.heap.size + 1) 5 i0 (.int .u8 0) 1 Try.underlying22 hinf.out.1 hinf.out.2.1 hinf.out.2.2.1 .i64 .i64 _ _ L rfl rfl rfl rfl (by rw [hinf.out.2.2.2]; omega) (by unfold maxLen; omega) (by simp) ?_; intro w2 hown2 hgrow2; clear hinf; have hfacts := made_facts hown2 hgrow2; clear hown2 hgrow2; have HG := Lib.hid hfacts.1; have hbel2 := hfacts.2; clear hfacts)
    | (refine wpList_copy_splice rfl (.tmp 47) (.tmp 48) 22 22 rfl 5 Try.underlying22 size_u8 (some ⟨w.heap.size + 1, 0, none⟩) A L L n c rfl rfl (w.heap.size + 1) 0 (List.replicate L (.int .u8 0)) 5 HG.out (xs.map bv) (copy_pos HA.out hbel2 hLn).1 (copy_pos HA.out hbel2 hLn).2 (by rw [List.length_map, HA.out.1, List.length_replicate]; omega) (bv_one xs) (w.heap.size + 1) (w.alloc (.cells #[.nilFunc] 49)) hbel2 (Nat.le_refl _) ?_; intro w3 HW3 hbel3; clear HG; have HR := Lib.hid (copied_row HW3); clear HW3)
    | (go_at_call 30; refine (layer_any _ used L L L xs _ HR.out (by have := HA.out.1; omega) (by have := HA.out.1; omega) (by have := HA.out.1; omega) (by omega) rfl).mono ?_; rintro e w4 ⟨rfl, ys, hly, hld⟩; have HY := Lib.hid hly; have HD := Lib.hid hld; clear hly hld; have hx4 := lay_box hbel3 HD.out; have hc4 := hx4.1; have hf4 := hx4.2; clear hx4)
    | (go_at_call 31; refine (of_any _ _ _).mono ?_; rintro e w' ⟨rfl, rfl⟩))
  have hW := lay_start (cd := cd) (k := k) hbel3 HD.out HY.out
  generalize hW6 : (((w4.setCell ⟨w.heap.size, 0, none⟩ (.func (.func 34) #[] #[.pointer (some ⟨w3.heap.size, 0, none⟩), .pointer (some ⟨w3.heap.size + 1, 0, none⟩)])).alloc (.cells #[.int .i64 cd] 3)).alloc (.cells #[.int .i64 k] 3)) = W6
  rw [hW6] at hW
  obtain ⟨hI0, hk1, hk2, hz⟩ := hW
  clear hW6
  have hz4 := Lib.hid HD.out.size
  have hg3 := HR.out.lt
  have hp : ∀ j, (j = w4.heap.size ∨ j = w4.heap.size + 1) → j < W6.heap.size := fun j hj => by rw [hz]; omega
  have HZ := Lib.hid hz
  have hb30 := hbel3.size
  rw [World.size_alloc] at hb30
  clear hz
  refine (wpIn_wide (n := 6)).1 ?_
  refine wpIn_rangeFunc_ownG rfl (by omega) (gf := 35) (lb := #[.pointer (some ⟨w4.heap.size + 1, 0, none⟩), .pointer (some ⟨w4.heap.size, 0, none⟩)]) rfl trivial (enters_of Try.func35 (by kernel_rfl) rfl)
    (of_stops 5 (by omega) (w4.heap.size + 1) w4.heap.size cd k (fun j => j = w4.heap.size ∨ j = w4.heap.size + 1) W6 (.inr rfl) (.inl rfl) (by omega) hp hk2 hk1)
    (fun h k => h.trans k) (KeepP.put hp) (Below.refl _ _) (fun _ => rfl)
    (LayI w.heap.size (w.heap.size + 1) w3.heap.size L used L xs w)
    (fun _ _ _ => False)
    (layI_own (by rw [HZ.out, hz4.out]; omega))
    (fun _ _ _ _ _ hs _ _ => hs)
    hI0
    (fun x => { tmps := #[.slice A n c, .int .i64 used, .int .i64 cd, .int .i64 k, undef, undef, undef, undef, .slice none 0 0, .int .i64 0, .int .i64 0, .slice (some ⟨w.heap.size + 1, 0, none⟩) L L, .pointer (some ⟨w.heap.size, 0, none⟩), .int .i64 ((x.val : Nat) : Int), .int .i64 k, .bool true, .bool false, .bool false, .int .i64 cd, .bool false, .bool false, .bool false, .int .i64 cd, .int .i64 k, .int .i64 ((cd : Int) / 2 ^ k), .bool false, .bool false, .int .i64 used, .bool false, .bool false, .int .i64 used, .slice A n c, .int .i64 ((n : Int) * 8), .bool false, .bool false, .bool false, .slice A n c, .int .i64 n, .int .i64 used, .int .i64 (((used : Int) + 7) / 8), .bool false, .bool false, .int .i64 used, .int .i64 k, .int .i64 ((used : Int) + k), .int .i64 L, .slice (some ⟨w.heap.size + 1, 0, none⟩) L L, .slice (some ⟨w.heap.size + 1, 0, none⟩) L L, .slice A n c, .int .i64 xs.length, .slice (some ⟨w.heap.size + 1, 0, none⟩) L L, .int .i64 used, .func (.func 34) #[] #[.pointer (some ⟨w3.heap.size, 0, none⟩), .pointer (some ⟨w3.heap.size + 1, 0, none⟩)], .int .i64 cd, .int .i64 k, .func (.func 35) #[] #[.pointer (some ⟨w4.heap.size + 1, 0, none⟩), .pointer (some ⟨w4.heap.size, 0, none⟩)], .int .i64 ((x.val : Nat) : Int), undef, undef, undef, undef, undef, undef, undef], defers := [] }) ?assign ?body ?done ?stop
  case assign =>
    intro l x W K hK
    gi_wp2
    exact hK
  case body =>
    rintro l pre x W hI hlen
    obtain ⟨zs, hrow, hlay⟩ := hI.row
    have hlt : (used + pre.length) / 8 < zs.length := by have := hlay.len; have := HL.out; omega
    have hy := List.getElem?_eq_getElem hlt
    have HC := Lib.hid (layer1_any (w.heap.size + 1) w3.heap.size (w3.heap.size + 1) (used + pre.length) L L x.val zs W hrow (by have := hlay.len; omega) x.isLt _ hy (by omega) (by omega) hI.boxO hI.boxU hI.free)
    have HS := Lib.hid (laying_step hlay x (by have := hlay.len; omega) hy)
    have hL1 := hI.boxL
    have HI := Lib.hid hI
    clear hrow hlay hI hy
    gi_wp2_with (refine ⟨trivial, ?_⟩; gi_at_call 34; refine (CallsIn.inRound l (callsIn_wide.2 HC.out)).mono ?_; rintro e w' ⟨rfl, hh⟩)
    exact layI_round hh HS.out HI.out hg3 hz4.out HZ.out
  case done =>
    rintro D ys W hD rfl hI hK
    have HI := Lib.hid hI
    clear hI
    go_wp2
    rw [jump_ret]
    refine ⟨by simp, .inl ⟨_, _, rfl, run_takeDeferred hK, ?_⟩⟩
    obtain ⟨zs, hrow, hlay⟩ := HI.out.row
    have hlk := hlay.len
    have hrow' : RowB (W.putObj D (.deferred none)) (w.heap.size + 1) 5 zs := hrow.kept (grownBy_putObj' _ D (.deferred none)) (fun r e => by cases e; exact ⟨_, hK, rfl⟩)
    have hbl : Below w.heap.size w (W.putObj D (.deferred none)) := HI.out.below.trans (belowK_b (w := w) (Nat.le_refl _) W D _ _ (by rw [HZ.out, hz4.out] at hD; omega) hK rfl rfl)
    refine ⟨_, results_tmp3 rfl _ _ _, _, zs, rfl, laid_end (by rw [← HL.out]; exact hlay), ?_, hbl⟩
    have := hrow'.own (B := w.heap.size) (by omega) (by unfold maxLen; omega)
    rw [hlk] at this
    exact this
  case stop =>
    rintro D c pre W _ _ h _
    exact h.elim
theorem lay_no (A : Option Addr) (n c : Nat) (used cd k : Int) (w : World) (h : ¬ (0 ≤ k ∧ k ≤ 30 ∧ 0 ≤ cd ∧ cd < 2 ^ k.toNat ∧ 0 ≤ used ∧ used ≤ 8 * n ∧ (n : Int) ≤ (used + 7) / 8)) (hn : n ≤ 1000000) :
    Calls Try.prog 20 #[.slice A n c, .int .i64 used, .int .i64 cd, .int .i64 k] w fun e w' => e = .returned (.tuple #[.slice none 0 0, .int .i64 0, .int .i64 2]) ∧ Below w.heap.size w w' := by
  have hB : ∀ v, Below w.heap.size w (w.alloc (.cells #[v] 49)) := fun v => (Below.refl _ w).alloc (Nat.le_refl _) _
  have HB := Lib.hid hB
  clear hB
  by_cases hk : 0 ≤ k ∧ k ≤ 30
  · have hk1 := hk.1
    have hk2 := hk.2
    obtain ⟨k, rfl⟩ := Int.eq_ofNat_of_zero_le hk1
    by_cases hc : cd < 0
    · clear h hk
      go_enter Try.func20, Try.ntmps20
      go_wp2
      refine wp_scope_forward 0 rfl ?_
      go_wp2_with (first | (go_at_call 27; refine (coded_yes _ _ hk1 hk2).mono ?_; rintro e w' ⟨rfl, rfl⟩))
      go_step3
      refine ⟨rfl, ?_⟩
      go_wp2
      rw [jump_ret]
      go_ret3
      exact ⟨rfl, HB.out _⟩
    · by_cases hc2 : cd < 2 ^ k
      · have hins := lay_inside cd k (by omega) hc2
        have d0 : decide (cd < 0) = false := by simpa using hc
        by_cases hu : used < 0
        · have d1 : decide (used < 0) = true := by simpa using hu
          clear h hk hc2
          go_enter Try.func20, Try.ntmps20
          go_wp2
          refine wp_scope_forward 0 rfl ?_
          go_wp2_with (first | (go_at_call 27; refine (coded_yes _ _ hk1 hk2).mono ?_; rintro e w' ⟨rfl, rfl⟩) | (go_at_call 25; refine (room_any _ _ _ _ hn).mono ?_; rintro e w' ⟨rfl, rfl⟩))
          go_step3
          refine ⟨rfl, ?_⟩
          go_wp2
          rw [jump_ret]
          go_ret3
          exact ⟨rfl, HB.out _⟩
        · have d1 : decide (used < 0) = false := by simpa using hu
          by_cases hu2 : (n : Int) * 8 < used
          · have d2 : decide ((n : Int) * 8 < used) = true := by simpa using hu2
            clear h hk hc2
            go_enter Try.func20, Try.ntmps20
            go_wp2
            refine wp_scope_forward 0 rfl ?_
            go_wp2_with (first | (go_at_call 27; refine (coded_yes _ _ hk1 hk2).mono ?_; rintro e w' ⟨rfl, rfl⟩) | (go_at_call 25; refine (room_any _ _ _ _ hn).mono ?_; rintro e w' ⟨rfl, rfl⟩))
            go_step3
            refine ⟨rfl, ?_⟩
            go_wp2
            rw [jump_ret]
            go_ret3
            exact ⟨rfl, HB.out _⟩
          · have d2 : decide ((n : Int) * 8 < used) = false := by simpa using hu2
            have d3 : decide ((used + 7) / 8 < (n : Int)) = true := by
              simp only [decide_eq_true_eq]
              refine Int.not_le.1 fun hle => h ⟨hk1, hk2, by omega, by simpa using hc2, by omega, by omega, hle⟩
            clear h hk hc2
            go_enter Try.func20, Try.ntmps20
            go_wp2
            refine wp_scope_forward 0 rfl ?_
            go_wp2_with (first | (go_at_call 27; refine (coded_yes _ _ hk1 hk2).mono ?_; rintro e w' ⟨rfl, rfl⟩) | (go_at_call 25; refine (room_any _ _ _ _ hn).mono ?_; rintro e w' ⟨rfl, rfl⟩) | (go_at_call 29; refine (need_any _ _ (by omega) (by omega)).mono ?_; rintro e w' ⟨rfl, rfl⟩))
            go_step3
            refine ⟨rfl, ?_⟩
            go_wp2
            rw [jump_ret]
            go_ret3
            exact ⟨rfl, HB.out _⟩
      · have hb := lay_bound cd k (by omega) hc2
        have d0 : decide (cd < 0) = false := by simpa using hc
        clear h hk hc2
        go_enter Try.func20, Try.ntmps20
        go_wp2
        refine wp_scope_forward 0 rfl ?_
        go_wp2_with (first | (go_at_call 27; refine (coded_yes _ _ hk1 hk2).mono ?_; rintro e w' ⟨rfl, rfl⟩))
        go_step3
        refine ⟨rfl, ?_⟩
        go_wp2
        rw [jump_ret]
        go_ret3
        exact ⟨rfl, HB.out _⟩
  · go_enter Try.func20, Try.ntmps20
    go_wp2
    refine wp_scope_forward 0 rfl ?_
    go_wp2_with (first | (go_at_call 27; refine (coded_no _ _ hk).mono ?_; rintro e w' ⟨rfl, rfl⟩))
    go_step3
    refine ⟨rfl, ?_⟩
    go_wp2
    rw [jump_ret]
    go_ret3
    exact ⟨rfl, HB.out _⟩
end Go.Proofs.Ytfglpnfegfcmeaa
