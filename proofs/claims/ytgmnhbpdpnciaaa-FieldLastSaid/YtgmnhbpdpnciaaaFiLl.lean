/- The walk of FieldLast: whatever is handed in, true; nothing that was there has turned. -/
import Derived.Test.YtgmnhbpdpnciaaaFiS
import Derived.Test.YtgmnhbpdpnciaaaGArgsP
import Derived.Deep.RegionHeld3
namespace Go.Proofs.Ytgmnhbpdpnciaaa
open Go.RowKit Oct Fi

theorem last_great (A : Option Addr) (n c : Nat) (p0 p1 id : Int) (w : World) (h : 60 < n) (hm : n ≤ maxLen) :
    Calls Try.prog 5 #[.slice A n c, .agg #[.int .u16 p0, .int .u32 p1], .int .u16 id] w fun e w' => e = .returned (.bool true) ∧ Below w.heap.size w w' := by
  unfold maxLen at hm
  go_enter Try.func5, Try.ntmps5
  go_wp2_with (go_at_call 7; refine (wakes_any _).mono ?_; rintro e w' ⟨rfl, hb⟩)
  go_ret
  exact ⟨rfl, ((Below.refl _ w).alloc (Nat.le_refl _) _).trans (hb.mono (by simp))⟩
theorem c2_drew {w : World} {g : Nat} {a b : Value} (h : w.cell? ⟨g, 0, none⟩ = some a ∧ w.cell? ⟨g, 1, none⟩ = some b) : w.drew.cell? ⟨g, 0, none⟩ = some a ∧ w.drew.cell? ⟨g, 1, none⟩ = some b := h
theorem c2_al {w : World} {g : Nat} {a b : Value} (hg : g < w.heap.size) (o : Obj) (h : w.cell? ⟨g, 0, none⟩ = some a ∧ w.cell? ⟨g, 1, none⟩ = some b) : (w.alloc o).cell? ⟨g, 0, none⟩ = some a ∧ (w.alloc o).cell? ⟨g, 1, none⟩ = some b :=
  c2_on h ((Below.refl _ w).alloc (Nat.le_refl _) o) hg
theorem c2_al2 {w : World} {g : Nat} {a b : Value} {o o2 : Obj} (hg : g < w.heap.size) (h : w.cell? ⟨g, 0, none⟩ = some a ∧ w.cell? ⟨g, 1, none⟩ = some b) : ((w.alloc o).alloc o2).cell? ⟨g, 0, none⟩ = some a ∧ ((w.alloc o).alloc o2).cell? ⟨g, 1, none⟩ = some b :=
  c2_al (Nat.lt_of_lt_of_le hg (by simp)) _ (c2_al hg _ h)
theorem one_lit {w5 : World} {t : TypeId} {x : Pr} {o' : Obj} {w0 : World} (hg : ((w0.alloc o').alloc (.cells #[.int .u16 (x.1.toNat : Int), .int .u32 (x.2.toNat : Int)] t)).drew.grownBy w5 (some w0.heap.size)) : Ps w5 w5.heap.size (some ⟨w0.heap.size + 1, 0, none⟩) 1 [x] := by
  have h := ps_lit (w0.alloc o') t [x] #[.int .u16 (x.1.toNat : Int), .int .u32 (x.2.toNat : Int)] (w0.heap.size + 1) (by simp) (by simp [pc])
  have hz := hg.size
  have h2 := h.2 (by simp)
  obtain ⟨b, o, e, hb, hc⟩ := h2
  have eb : b = w0.heap.size + 1 := by injection e with e1; injection e1 with e2; exact e2.symm
  refine ⟨rfl, fun _ => ⟨b, o, e, ?_, fun j hj => ?_⟩⟩
  · simp at hz; omega
  · have hbk : w5.heap[b]? = ((w0.alloc o').alloc (.cells #[.int .u16 (x.1.toNat : Int), .int .u32 (x.2.toNat : Int)] t)).heap[b]? := hg.block b (by simp; omega) (fun e2 => by cases e2; omega)
    exact ⟨(World.cell?_of_block (a := ⟨b, o + j * 2, none⟩) hbk).trans (hc j (by simpa using hj)).1, (World.cell?_of_block (a := ⟨b, o + (j * 2 + 1), none⟩) hbk).trans (hc j (by simpa using hj)).2⟩
theorem one_lit2 {w5 : World} {t : TypeId} {x : Pr} {o' : Obj} {w0 : World} (hg : ((w0.alloc (.cells #[.int .u16 (x.1.toNat : Int), .int .u32 (x.2.toNat : Int)] t)).alloc o').drew.grownBy w5 (some (w0.heap.size + 1))) : Ps w5 w5.heap.size (some ⟨w0.heap.size, 0, none⟩) 1 [x] := by
  have h := (ps_lit w0 t [x] #[.int .u16 (x.1.toNat : Int), .int .u32 (x.2.toNat : Int)] w0.heap.size rfl (by simp [pc])).alloc (by simp) o'
  have hz := hg.size
  obtain ⟨b, o, e, hb, hc⟩ := h.2 (by simp)
  have eb : b = w0.heap.size := by injection e with e1; injection e1 with e2; exact e2.symm
  refine ⟨rfl, fun _ => ⟨b, o, e, ?_, fun j hj => ?_⟩⟩
  · simp at hz; omega
  · have hbk : w5.heap[b]? = ((w0.alloc (.cells #[.int .u16 (x.1.toNat : Int), .int .u32 (x.2.toNat : Int)] t)).alloc o').heap[b]? := hg.block b (by simp; omega) (fun e2 => by cases e2; omega)
    exact ⟨(World.cell?_of_block (a := ⟨b, o + j * 2, none⟩) hbk).trans (hc j (by simpa using hj)).1, (World.cell?_of_block (a := ⟨b, o + (j * 2 + 1), none⟩) hbk).trans (hc j (by simpa using hj)).2⟩
theorem la_app_yes (l : List Pr) {P : Pr} {id : UInt16} (h : P.1 = id) : laV (l ++ [P]) id = (P.2.toNat : Int) ∧ laB (l ++ [P]) id = true := la_some (by simp [lastO, h])
theorem la_app_no (l : List Pr) {P : Pr} {id : UInt16} (h : P.1 ≠ id) : laV (l ++ [P]) id = laV l id ∧ laB (l ++ [P]) id = laB l id := by
  have : lastO (l ++ [P]) id = lastO l id := by simp [lastO, h]
  unfold laV laB
  rw [this]
  exact ⟨rfl, rfl⟩
theorem la_zero {l : List Pr} {id : UInt16} (h : laB l id = false) : laV l id = 0 := by
  unfold laB at h
  unfold laV
  cases h2 : lastO l id with
  | none => rfl
  | some x => rw [h2] at h; cases h
def anyP (l : List Pr) (j : Nat) (id : UInt16) : Bool := (l.take j).any fun p => p.1 == id
theorem anyP_step {l : List Pr} {j : Nat} {x : Pr} {id : UInt16} (h : l[j]? = some x) : anyP l (j + 1) id = (anyP l j id || x.1 == id) := by
  obtain ⟨h1, h2⟩ := List.getElem?_eq_some_iff.1 h
  unfold anyP
  rw [← List.take_append_getElem h1, h2, List.any_append]
  simp
theorem anyP_all {l : List Pr} {n : Nat} (id : UInt16) (h : l.length = n) : anyP l n id = laB l id := by
  unfold anyP laB lastO
  rw [List.take_of_length_le (by omega), Bool.eq_iff_iff]
  simp
theorem u16_beq_ne {x y : UInt16} (h : x ≠ y) : ((x.toNat : Int) == (y.toNat : Int)) = false := by
  rw [beq_eq_false_iff_ne]
  intro h2
  exact h (UInt16.toNat_inj.1 (by omega))
set_option maxHeartbeats 1000000 in
theorem last_small (A : Option Addr) (n c : Nat) (l : List Pr) (P : Pr) (id : UInt16) (w : World) (hA : Ps w w.heap.size A n l) (hN : A = none → c = 0) (hn : n ≤ 60) :
    Calls Try.prog 5 #[.slice A n c, .agg #[.int .u16 (P.1.toNat : Int), .int .u32 (P.2.toNat : Int)], .int .u16 (id.toNat : Int)] w fun e w' => e = .returned (.bool true) ∧ Below w.heap.size w w' := by
  obtain ⟨i0, hi, hz0, hz1, hz2⟩ := info_parts info_pair
  have hinf := Lib.hid (And.intro hi (And.intro hz0 (And.intro hz1 hz2)))
  have HX : Hid (l.length = n) := Lib.hid hA.1
  have K0 := Lib.hid ((EnvP.nil w).addP hA)
  have HN := Lib.hid hN
  clear hi hz0 hz1 hz2 hA hN
  go_enter Try.func5, Try.ntmps5
  go_wp2_with (first
    | (go_at_call 19; (with_reducible refine (flast_any A n c l id _ ((K0.out.box 47 #[.int .u16 (P.1.toNat : Int), .int .u32 (P.2.toNat : Int)]).p (A, n, l) (by simp)) (by omega)).mono ?_); rintro e w1 ⟨rfl, hb1⟩; have K1 := Lib.hid ((K0.out.box 47 #[.int .u16 (P.1.toNat : Int), .int .u32 (P.2.toNat : Int)]).on hb1); have B1 := Lib.hid (below_lit (Below.refl _ w) hb1); clear K0))
  have HC := Lib.hid (c2_on (c2_new w 47 (.int .u16 (P.1.toNat : Int)) (.int .u32 (P.2.toNat : Int))) hb1 (by simp))
  have hgw : w.heap.size < w1.heap.size := by have := hb1.size; simp at this; omega
  have HP1 := Lib.hid (K1.out.p (A, n, l) (by simp))
  have HBW := Lib.hid B1.out
  have hq1 : ∀ o : Obj, w1.heap.size ≤ (w1.alloc o).heap.size := fun o => by simp
  have hs1 : ∀ o : Obj, (w1.alloc o).heap.size = w1.heap.size + 1 := fun o => by simp
  go_region_held3 (fun W' => W'.cell? ⟨w.heap.size, 0, none⟩ = some (.int .u16 (P.1.toNat : Int)) ∧ W'.cell? ⟨w.heap.size, 1, none⟩ = some (.int .u32 (P.2.toNat : Int)))
    (first
      | with_reducible exact HC.out
      | with_reducible exact c2_drew HC.out
      | with_reducible exact c2_al hgw _ HC.out
      | with_reducible exact c2_drew (c2_al hgw _ HC.out)
      | with_reducible exact c2_al2 hgw HC.out
      | with_reducible exact c2_drew (c2_al2 hgw HC.out)
      | with_reducible exact HC5.out
      | with_reducible exact c2_al hg5w _ HC5.out
      | with_reducible exact HC6.out
      | with_reducible exact HC7.out)
    ((first
      | (refine step_append_pairs _ (by rfl) (.tmp 24) (.tmp 25) 25 (by rfl) w1.heap.size 47 i0 Try.underlying25 hinf.out.1 hinf.out.2.1 hinf.out.2.2.1 hinf.out.2.2.2 _ [] (by rfl) ?c1 w1.heap.size A n c l (by rfl) ?c2 HN.out ?c3 ?c4 ?_; (case c1 => exact (OwnP.lit w1 _ _ (Nat.le_refl _) _ rfl).drew); (case c2 => exact (HP1.out.alloc (Nat.le_refl _) _).drew); (case c3 => simp; omega); (case c4 => first | done | (simp; done) | (simp; omega)); intro v5 w5 hown5 hb5 hg5 _; have HB5 := Lib.hid (((Below.refl _ w1).alloc (Nat.le_refl _) _).drew.trans hb5); have HO5 := Lib.hid hown5; have HG5 := Lib.hid hg5; have HC5 := Lib.hid (c2_on HC.out HB5.out hgw); have hz5 := HB5.out.size; have hg5w : w.heap.size < w5.heap.size := Nat.lt_of_lt_of_le hgw hz5; clear hown5 hb5 hg5)
      | (refine step_append_pairs _ (by rfl) (.tmp 24) (.tmp 25) 25 (by rfl) w1.heap.size 47 i0 Try.underlying25 hinf.out.1 hinf.out.2.1 hinf.out.2.2.1 hinf.out.2.2.2 _ [] (by rfl) ?c1 w1.heap.size A n c l (by rfl) ?c2 HN.out ?c3 ?c4 ?_; (case c1 => exact ((OwnP.lit w1 _ _ (Nat.le_refl _) _ rfl).alloc _).drew); (case c2 => exact ((HP1.out.alloc (Nat.le_refl _) _).alloc (hq1 _) _).drew); (case c3 => simp; omega); (case c4 => first | done | (simp; done) | (simp; omega)); intro v5 w5 hown5 hb5 hg5 _; have HB5 := Lib.hid ((((Below.refl _ w1).alloc (Nat.le_refl _) _).alloc (hq1 _) _).drew.trans hb5); have HO5 := Lib.hid hown5; have HG5 := Lib.hid hg5; have HC5 := Lib.hid (c2_on HC.out HB5.out hgw); have hz5 := HB5.out.size; have hg5w : w.heap.size < w5.heap.size := Nat.lt_of_lt_of_le hgw hz5; clear hown5 hb5 hg5)
      | (refine step_append_pairs _ (by rfl) (.tmp 24) (.tmp 25) 25 (by rfl) w1.heap.size 47 i0 Try.underlying25 hinf.out.1 hinf.out.2.1 hinf.out.2.2.1 hinf.out.2.2.2 _ [] (by rfl) ?c1 w1.heap.size A n c l (by rfl) ?c2 HN.out ?c3 ?c4 ?_; (case c1 => exact (OwnP.lit (w1.alloc _) _ _ (hq1 _) _ (hs1 _)).drew); (case c2 => exact ((HP1.out.alloc (Nat.le_refl _) _).alloc (hq1 _) _).drew); (case c3 => simp; omega); (case c4 => first | done | (simp; done) | (simp; omega)); intro v5 w5 hown5 hb5 hg5 _; have HB5 := Lib.hid ((((Below.refl _ w1).alloc (Nat.le_refl _) _).alloc (hq1 _) _).drew.trans hb5); have HO5 := Lib.hid hown5; have HG5 := Lib.hid hg5; have HC5 := Lib.hid (c2_on HC.out HB5.out hgw); have hz5 := HB5.out.size; have hg5w : w.heap.size < w5.heap.size := Nat.lt_of_lt_of_le hgw hz5; clear hown5 hb5 hg5)
      | (refine step_append_pairs _ (by rfl) (.tmp 26) (.tmp 28) 25 (by rfl) w1.heap.size 47 i0 Try.underlying25 hinf.out.1 hinf.out.2.1 hinf.out.2.2.1 hinf.out.2.2.2 _ ([] ++ l) (by rfl) ?d1 (w5.heap.size + 1) (some ⟨w5.heap.size, 0, none⟩) 1 1 [P] (by rfl) ?d2 (fun h => by cases h) ?d3 ?d4 ?_; (case d1 => exact HO5.out.alloc _); (case d2 => exact ps_lit w5 _ [P] _ _ rfl (by simp [pc])); (case d3 => have := HX.out; simp; omega); (case d4 => first | exact hz5 | (simp; omega)); intro v6 w6 hown6 hb6 _ _; obtain ⟨A6, c6, rfl, hc6, _, hr6⟩ := hown6.form2 (n := n + 1) (by have := HX.out; simp; omega); have HR6 := Lib.hid hr6; have HB6 := Lib.hid (HB5.out.trans (((Below.refl _ w5).alloc hz5 _).trans hb6)); have HC6 := Lib.hid (c2_on HC.out HB6.out hgw); clear hown6 hb6 hr6)
      | (refine step_append_pairs _ (by rfl) (.tmp 26) (.tmp 28) 25 (by rfl) w1.heap.size 47 i0 Try.underlying25 hinf.out.1 hinf.out.2.1 hinf.out.2.2.1 hinf.out.2.2.2 _ ([] ++ l) (by rfl) ?d1 w5.heap.size (some ⟨w1.heap.size + 1, 0, none⟩) 1 1 [P] (by rfl) ?d2 (fun h => by cases h) ?d3 ?d4 ?_; (case d1 => exact HO5.out); (case d2 => exact one_lit HG5.out); (case d3 => have := HX.out; simp; omega); (case d4 => first | exact hz5 | (simp; omega)); intro v6 w6 hown6 hb6 _ _; obtain ⟨A6, c6, rfl, hc6, _, hr6⟩ := hown6.form2 (n := n + 1) (by have := HX.out; simp; omega); have HR6 := Lib.hid hr6; have HB6 := Lib.hid (HB5.out.trans hb6); have HC6 := Lib.hid (c2_on HC.out HB6.out hgw); clear hown6 hb6 hr6)
      | (refine step_append_pairs _ (by rfl) (.tmp 26) (.tmp 28) 25 (by rfl) w1.heap.size 47 i0 Try.underlying25 hinf.out.1 hinf.out.2.1 hinf.out.2.2.1 hinf.out.2.2.2 _ ([] ++ l) (by rfl) ?d1 w5.heap.size (some ⟨w1.heap.size, 0, none⟩) 1 1 [P] (by rfl) ?d2 (fun h => by cases h) ?d3 ?d4 ?_; (case d1 => exact HO5.out); (case d2 => exact one_lit2 HG5.out); (case d3 => have := HX.out; simp; omega); (case d4 => first | exact hz5 | (simp; omega)); intro v6 w6 hown6 hb6 _ _; obtain ⟨A6, c6, rfl, hc6, _, hr6⟩ := hown6.form2 (n := n + 1) (by have := HX.out; simp; omega); have HR6 := Lib.hid hr6; have HB6 := Lib.hid (HB5.out.trans hb6); have HC6 := Lib.hid (c2_on HC.out HB6.out hgw); clear hown6 hb6 hr6)
      | (go_at_call 19; (with_reducible refine (flast_any A6 (n + 1) c6 (([] ++ l) ++ [P]) id _ HR6.out (by omega)).mono ?_); rintro e w7 ⟨rfl, hb7⟩; have HB7 := Lib.hid (below_step HB6.out hb7); have HC7 := Lib.hid (c2_on HC.out HB7.out hgw); have HP7 := Lib.hid (HP1.out.on HB7.out); clear hb7)))
  all_goals
    clear HP1 K1 HC HC5 HC6 HB5 HB6 HO5 HG5 HR6 hz5 hg5w hq1 hs1 hb1 B1
    obtain ⟨q0, q1⟩ := HC7.out
    have B7 := Lib.hid (HBW.out.trans (HB7.out.mono HBW.out.size))
    by_cases he : P.1 = id
    · obtain ⟨e1, e2⟩ := la_app_yes l he
      rw [e1, e2]
      subst he
      clear e1 e2
      go_wp2_with (go_at_call 7; refine (wakes_any _).mono ?_; rintro e w' ⟨rfl, hb8⟩)
      go_ret
      exact ⟨rfl, below_step B7.out hb8⟩
    · obtain ⟨e1, e2⟩ := la_app_no l he
      rw [e1, e2]
      have hne : ((P.1.toNat : Int) == (id.toNat : Int)) = false := u16_beq_ne he
      clear e1 e2
      go_wp2
      go_loop [11, 12] (fun a t => ∃ j : Nat, j ≤ n ∧ t = .int .i64 j ∧ a = .bool (anyP l j id)) (fun _ t => n - (intOf t).toNat)
      case atStart => exact ⟨0, Nat.zero_le _, rfl, rfl⟩
      case round =>
        obtain ⟨j, hj, rfl, rfl⟩ := hrel
        by_cases hlt : j < n
        · obtain ⟨b, o, rfl, hb, hc⟩ := ps_cell HP7.out (by omega)
          obtain ⟨x, hx, hc1, hc2⟩ := hc j hlt
          have HS := Lib.hid (anyP_step (id := id) hx)
          clear hc hc2 hx
          generalize anyP l j id = q at *
          cases q
          · by_cases hx : x.1 = id
            · subst hx
              have HS2 : Hid (anyP l (j + 1) x.1 = true) := Lib.hid (by rw [HS.out]; simp)
              go_wp2
              go_round
              case rel => exact ⟨j + 1, by omega, by go_num, by rw [HS2.out]⟩
              case measure => simp [intOf]; omega
            · have hxe : ((x.1.toNat : Int) == (id.toNat : Int)) = false := u16_beq_ne hx
              have HS2 : Hid (anyP l (j + 1) id = false) := Lib.hid (by rw [HS.out]; simp [hx])
              go_wp2
              go_round
              case rel => exact ⟨j + 1, by omega, by go_num, by rw [HS2.out]⟩
              case measure => simp [intOf]; omega
          · have HS2 : Hid (anyP l (j + 1) id = true) := Lib.hid (by rw [HS.out]; rfl)
            go_wp2
            go_round
            case rel => exact ⟨j + 1, by omega, by go_num, by rw [HS2.out]⟩
            case measure => simp [intOf]; omega
        · obtain rfl : j = n := by omega
          rw [anyP_all id HX.out]
          have hz := la_zero (l := l) (id := id)
          generalize laV l id = v at *
          generalize laB l id = q at *
          cases q
          · rw [hz rfl]
            clear hz
            go_wp2_with (go_at_call 7; refine (wakes_any _).mono ?_; rintro e w' ⟨rfl, hb8⟩)
            go_ret
            exact ⟨rfl, below_step B7.out hb8⟩
          · clear hz
            go_wp2_with (go_at_call 7; refine (wakes_any _).mono ?_; rintro e w' ⟨rfl, hb8⟩)
            go_ret
            exact ⟨rfl, below_step B7.out hb8⟩
end Go.Proofs.Ytgmnhbpdpnciaaa
