/- Walks of Pairs and Last, the document's; field.Pairs. -/
import Derived.Test.YtbflhphjnmhjhaaGreatMfi
namespace Go.Proofs.YtbflhphjnmhjhaaGreat
open Go.RowKit Oct Fi
attribute [local go_sem] i64_and1 i64_and7 i64_and31

theorem pr_ways (x y : Pr) : x = y ∨ (x ≠ y ∧ ¬ ((x.1.toNat : Int) = (y.1.toNat : Int))) ∨ (x ≠ y ∧ (x.1.toNat : Int) = (y.1.toNat : Int) ∧ ¬ ((x.2.toNat : Int) = (y.2.toNat : Int))) := by
  by_cases h : x = y
  · exact .inl h
  · by_cases h1 : x.1 = y.1
    · refine .inr (.inr ⟨h, by rw [h1], fun h2 => h ?_⟩)
      have h3 : x.2 = y.2 := UInt32.toNat_inj.1 (by omega)
      exact Prod.ext h1 h3
    · exact .inr (.inl ⟨h, fun h2 => h1 (UInt16.toNat_inj.1 (by omega))⟩)
theorem beq_take {l l' : List Pr} {n : Nat} (h : l.length = n) (h' : l'.length = n) (hs : l.take n = l'.take n) : (l == l') = true := by
  rw [List.take_of_length_le (by omega), List.take_of_length_le (by omega)] at hs
  simp [hs]
theorem beq_at {l l' : List Pr} {j : Nat} {x y : Pr} (h : l[j]? = some x) (h' : l'[j]? = some y) (hne : x ≠ y) : (l == l') = false := by
  rw [beq_eq_false_iff_ne]
  intro e
  subst e
  rw [h] at h'
  cases h'
  exact hne rfl
theorem take_same {l l' : List Pr} {j : Nat} {x : Pr} (h : l[j]? = some x) (h' : l'[j]? = some x) (hs : l.take j = l'.take j) : l.take (j + 1) = l'.take (j + 1) := by
  obtain ⟨h1, h2⟩ := List.getElem?_eq_some_iff.1 h
  obtain ⟨h3, h4⟩ := List.getElem?_eq_some_iff.1 h'
  rw [← List.take_append_getElem h1, ← List.take_append_getElem h3, hs, h2, h4]
theorem ret_bool {b c : Bool} (h : b = c) : Ending.returned (.bool b) = .returned (.bool c) := by rw [h]
set_option maxHeartbeats 1000000 in
theorem fpairs_any (A A' : Option Addr) (n n' c c' : Nat) (l l' : List Pr) (w : World) (hA : Ps w w.heap.size A n l) (hA' : Ps w w.heap.size A' n' l') (hn : n ≤ 1000000) :
    Calls Tryz.prog 34 #[.slice A n c, .slice A' n' c'] w fun e w' => e = .returned (.bool (l == l')) ∧ Below w.heap.size w w' := by
  by_cases hne : n = n'
  · subst hne
    have HA := Lib.hid hA
    have HA' := Lib.hid hA'
    clear hA hA'
    go_enter Tryz.func34, Tryz.ntmps34
    go_wp2
    refine wp_scope_forward 0 rfl ?_
    go_wp2
    go_loopw [14] (fun t wr => ∃ j : Nat, j ≤ n ∧ t = .int .i64 j ∧ l.take j = l'.take j ∧ Below w.heap.size w wr) (fun t _ => n - (intOf t).toNat)
    case atStart => exact ⟨0, Nat.zero_le _, rfl, rfl, Below.refl _ _⟩
    case round =>
      obtain ⟨j, hj, rfl, hsame, hbel⟩ := hrel
      have HS := Lib.hid hsame
      have HB := Lib.hid hbel
      clear hsame hbel
      by_cases hlt : j < n
      · obtain ⟨b, o, rfl, hb, hc⟩ := ps_cell HA.out (by omega)
        obtain ⟨x, hx, hc1, hc2⟩ := hc j hlt
        obtain ⟨b', o', rfl, hb', hc'⟩ := ps_cell HA'.out (by omega)
        obtain ⟨y, hy, hc1', hc2'⟩ := hc' j hlt
        have h1 := (HB.out.cell (p := ⟨b, o + j * 2, none⟩) hb).trans hc1
        have h2 := (HB.out.cell (p := ⟨b, o + (j * 2 + 1), none⟩) hb).trans hc2
        have h1' := (HB.out.cell (p := ⟨b', o' + j * 2, none⟩) hb').trans hc1'
        have h2' := (HB.out.cell (p := ⟨b', o' + (j * 2 + 1), none⟩) hb').trans hc2'
        rw [← Nat.add_assoc] at h2 h2'
        clear hc hc' hc1 hc2 hc1' hc2'
        go_wp2
        have h1a := cell_al (x := .cells #[.int .u16 x.1.toNat, .int .u32 x.2.toNat] 79) (Nat.lt_of_lt_of_le hb' HB.out.size) h1'
        have h2a := cell_al (x := .cells #[.int .u16 x.1.toNat, .int .u32 x.2.toNat] 79) (Nat.lt_of_lt_of_le hb' HB.out.size) h2'
        obtain ⟨g1, g2⟩ := c2_new wr 79 (.int .u16 x.1.toNat) (.int .u32 x.2.toNat)
        have hb1 := HB.out.alloc HB.out.size (.cells #[.int .u16 x.1.toNat, .int .u32 x.2.toNat] 79)
        generalize wr.alloc (.cells #[.int .u16 x.1.toNat, .int .u32 x.2.toNat] 79) = W1 at *
        clear h1 h2 h1' h2'
        rcases pr_ways x y with rfl | ⟨hxy, n1⟩ | ⟨hxy, n1, n2⟩
        · have HT := Lib.hid (take_same hx hy HS.out)
          go_region
          go_wp2
          go_roundw
          case rel => exact ⟨j + 1, by omega, by go_num, HT.out, hb1.drew⟩
          case measure => simp [intOf]; omega
        · have HE := Lib.hid (beq_at hx hy hxy)
          go_region
          go_wp2
          go_step3
          refine ⟨rfl, ?_⟩
          go_wp2
          rw [jump_ret]
          go_ret
          exact ⟨ret_bool HE.out.symm, hb1.drew⟩
        · have HE := Lib.hid (beq_at hx hy hxy)
          go_region
          go_wp2
          go_step3
          refine ⟨rfl, ?_⟩
          go_wp2
          rw [jump_ret]
          go_ret
          exact ⟨ret_bool HE.out.symm, hb1.drew⟩
      · obtain rfl : j = n := by omega
        go_wp2
        rw [jump_ret]
        go_ret
        exact ⟨ret_bool (beq_take HA.out.1 HA'.out.1 HS.out).symm, HB.out⟩
  · have hb : (l == l') = false := by
      rw [beq_eq_false_iff_ne]
      intro e
      subst e
      exact hne (hA.1.symm.trans hA'.1)
    rw [hb]
    have d : ((n : Int) != (n' : Int)) = true := by simp; omega
    clear hA hA' hb
    go_enter Tryz.func34, Tryz.ntmps34
    go_wp2
    refine wp_scope_forward 0 rfl ?_
    go_wp2
    go_step3
    refine ⟨rfl, ?_⟩
    go_wp2
    rw [jump_ret]
    go_ret
    exact ⟨rfl, Below.refl _ _⟩
set_option maxHeartbeats 1000000 in
theorem rpairs_any (A A' : Option Addr) (n n' c c' : Nat) (l l' : List Pr) (w : World) (hA : Ps w w.heap.size A n l) (hA' : Ps w w.heap.size A' n' l') (hn : n ≤ 1000000) :
    Calls Tryz.prog 32 #[.slice A n c, .slice A' n' c'] w fun e w' => e = .returned (.bool (l == l')) ∧ Below w.heap.size w w' := by
  by_cases hne : n = n'
  · subst hne
    have HA := Lib.hid hA
    have HA' := Lib.hid hA'
    clear hA hA'
    go_enter Tryz.func32, Tryz.ntmps32
    go_wp2
    go_loopw [5] (fun t wr => ∃ j : Nat, j ≤ n ∧ t = .int .i64 j ∧ l.take j = l'.take j ∧ Below w.heap.size w wr) (fun t _ => n - (intOf t).toNat)
    case atStart => exact ⟨0, Nat.zero_le _, rfl, rfl, Below.refl _ _⟩
    case round =>
      obtain ⟨j, hj, rfl, hsame, hbel⟩ := hrel
      have HS := Lib.hid hsame
      have HB := Lib.hid hbel
      clear hsame hbel
      by_cases hlt : j < n
      · obtain ⟨b, o, rfl, hb, hc⟩ := ps_cell HA.out (by omega)
        obtain ⟨x, hx, hc1, hc2⟩ := hc j hlt
        obtain ⟨b', o', rfl, hb', hc'⟩ := ps_cell HA'.out (by omega)
        obtain ⟨y, hy, hc1', hc2'⟩ := hc' j hlt
        have h1 := (HB.out.cell (p := ⟨b, o + j * 2, none⟩) hb).trans hc1
        have h2 := (HB.out.cell (p := ⟨b, o + (j * 2 + 1), none⟩) hb).trans hc2
        have h1' := (HB.out.cell (p := ⟨b', o' + j * 2, none⟩) hb').trans hc1'
        have h2' := (HB.out.cell (p := ⟨b', o' + (j * 2 + 1), none⟩) hb').trans hc2'
        rw [← Nat.add_assoc] at h2 h2'
        clear hc hc' hc1 hc2 hc1' hc2'
        have hb1 := HB.out
        go_wp2
        rcases pr_ways x y with rfl | ⟨hxy, n1⟩ | ⟨hxy, n1, n2⟩
        · have HT := Lib.hid (take_same hx hy HS.out)
          go_region
          go_wp2
          go_roundw
          case rel => exact ⟨j + 1, by omega, by go_num, HT.out, hb1.drew⟩
          case measure => simp [intOf]; omega
        · have HE := Lib.hid (beq_at hx hy hxy)
          go_region
          go_wp2
          go_ret
          exact ⟨ret_bool HE.out.symm, hb1.drew⟩
        · have HE := Lib.hid (beq_at hx hy hxy)
          go_region
          go_wp2
          go_ret
          exact ⟨ret_bool HE.out.symm, hb1.drew⟩
      · obtain rfl : j = n := by omega
        go_wp2
        go_ret
        exact ⟨ret_bool (beq_take HA.out.1 HA'.out.1 HS.out).symm, HB.out⟩
  · have hb : (l == l') = false := by
      rw [beq_eq_false_iff_ne]
      intro e
      subst e
      exact hne (hA.1.symm.trans hA'.1)
    rw [hb]
    have d : ((n : Int) != (n' : Int)) = true := by simp; omega
    clear hA hA' hb
    go_enter Tryz.func32, Tryz.ntmps32
    go_wp2
    go_ret
    exact ⟨rfl, Below.refl _ _⟩
theorem lastO_hit {l : List Pr} {j : Nat} {x : Pr} {id : UInt16} (h : l[j]? = some x) (hx : x.1 = id) : lastO (l.take (j + 1)) id = some x := by
  obtain ⟨h1, h2⟩ := List.getElem?_eq_some_iff.1 h
  rw [← List.take_append_getElem h1, h2]
  simp [lastO, hx]
theorem lastO_miss {l : List Pr} {j : Nat} {x : Pr} {id : UInt16} (h : l[j]? = some x) (hx : x.1 ≠ id) : lastO (l.take (j + 1)) id = lastO (l.take j) id := by
  obtain ⟨h1, h2⟩ := List.getElem?_eq_some_iff.1 h
  rw [← List.take_append_getElem h1, h2]
  simp [lastO, hx]
theorem la_some {l : List Pr} {id : UInt16} {x : Pr} (h : lastO l id = some x) : laV l id = (x.2.toNat : Int) ∧ laB l id = true := by
  unfold laV laB
  rw [h]
  exact ⟨rfl, rfl⟩
theorem la_none {l : List Pr} {id : UInt16} (h : lastO l id = none) : laV l id = 0 ∧ laB l id = false := by
  unfold laV laB
  rw [h]
  exact ⟨rfl, rfl⟩
theorem ret_la {v v' : Int} {b b' : Bool} (h : v' = v ∧ b' = b) : Ending.returned (.tuple #[.int .u32 v, .bool b]) = .returned (.tuple #[.int .u32 v', .bool b']) := by rw [h.1, h.2]
end Go.Proofs.YtbflhphjnmhjhaaGreat
