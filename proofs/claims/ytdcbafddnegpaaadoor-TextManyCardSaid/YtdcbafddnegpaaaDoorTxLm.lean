/- The walk of TextMany. -/
import Derived.Test.YtdcbafddnegpaaaDoorTxLb
import Derived.Test.YtdcbafddnegpaaaDoorGArgsS
namespace Go.Proofs.YtdcbafddnegpaaaDoor
open Go.RowKit Hf Oct Tx
set_option linter.unusedVariables false
set_option linter.unusedSimpArgs false
namespace Tx
/-- What is told of the text number i, one behind the other, from i on. -/
noncomputable def tellW (bb : List Bool) (ss : List (List UInt8)) (i : Nat) : List UInt8 := if bb.getD i false = true then biB (ss.getD i []) else plB (ss.getD i [])
def cat (f : Nat → List UInt8) : Nat → List UInt8
  | 0 => []
  | i + 1 => cat f i ++ f i
def restF (f : Nat → List UInt8) : Nat → Nat → List UInt8
  | 0, _ => []
  | k + 1, i => f i ++ restF f k (i + 1)
theorem cat_rest (f : Nat → List UInt8) : ∀ (k i : Nat), cat f i ++ restF f k i = cat f (i + k)
  | 0, i => by simp [restF]
  | k + 1, i => by
    have h := cat_rest f k (i + 1)
    rw [restF, ← List.append_assoc]
    rw [show i + (k + 1) = i + 1 + k from by omega]
    exact h
theorem cat_le (f : Nat → List UInt8) {B : Nat} : ∀ i, (∀ j, j < i → (f j).length ≤ B) → (cat f i).length ≤ B * i
  | 0, _ => by simp [cat]
  | i + 1, h => by
    have h1 := cat_le f i (fun j hj => h j (by omega))
    have h2 := h i (by omega)
    rw [cat, List.length_append, Nat.mul_succ]
    omega
structure Told4 (s l : List UInt8) : Prop where
  told : Told s l
  le : l.length ≤ 820
  num : ∀ ys, nT (l ++ ys) ≤ 10000
theorem told4 (bb : List Bool) (ss : List (List UInt8)) (i : Nat) (hs : (ss.getD i []).length ≤ 400) : Told4 (ss.getD i []) (tellW bb ss i) := by
  unfold tellW
  generalize ss.getD i [] = s at *
  have ho := hO_le s
  split
  · refine ⟨told_bi (by omega), ?_, fun ys => ?_⟩
    · have := bi_len s; have := Px.numB_len (n := (hO s).length) (k := 7) (by omega); omega
    · unfold biB
      rw [List.append_assoc, (num_of (n := (hO s).length) (u := 128) (by omega) (by omega)).2.1]
      omega
  · refine ⟨told_pl (by omega), ?_, fun ys => ?_⟩
    · have := pl_len s; have := Px.numB_len (n := s.length) (k := 7) (by omega); omega
    · unfold plB
      rw [List.append_assoc, (num_of (n := s.length) (u := 0) (by omega) (by omega)).2.1]
      omega
end Tx
theorem tm_take {s l : List UInt8} (h : Tx.Told4 s l) (bs : List UInt8) (A : Option Addr) (m c : Nat) (w : World) (hR : Rws w) (hA : Bs w w.heap.size A m (l ++ bs)) (hnc : m ≤ c) (hm : m ≤ 100000) :
    Calls Tryd.prog 8 #[.slice A m c] w fun e w' => ∃ A' c', e = .returned (.tuple #[.string ⟨s.toArray⟩, .slice A' bs.length c', .int .i64 0]) ∧ HandS w' w.heap.size A' bs.length c' bs ∧ Below w.heap.size w w' := by
  have h1 := x_Take A m c _ w hR hA hnc hm (.inr (h.num bs))
  obtain ⟨e1, e2, e3⟩ := h.told.ok bs
  rw [e1, e2, e3] at h1
  exact h1
set_option maxHeartbeats 1000000 in
theorem tm_great (A A2 : Option Addr) (n c n2 c2 : Nat) (w : World) (hR : Rws w) (h : 40 < n) (hn : n ≤ maxLen) :
    Calls Tryd.prog 6 #[.slice A n c, .slice A2 n2 c2] w fun e w' => e = .returned (.bool true) ∧ Below w.heap.size w w' := by
  have HW := Lib.hid (wakes8 w hR)
  clear hR
  unfold maxLen at hn
  · go_enter Tryd.func6, Tryd.ntmps6
    go_wp2_with (go_at_call 7; (with_reducible refine HW.out.mono ?_); rintro e w1 ⟨rfl, hb1⟩; have HB1 := Lib.hid hb1; clear hb1)
    go_ret
    exact ⟨rfl, HB1.out⟩
set_option maxRecDepth 100000 in
set_option maxHeartbeats 4000000 in
theorem tm_main (A A2 : Option Addr) (n c n2 c2 : Nat) (ss : List (List UInt8)) (bb : List Bool) (w : World) (hR : Rws w) (hA : Vs w w.heap.size A n (ss.map fun s => .string ⟨s.toArray⟩)) (hA2 : Vs w w.heap.size A2 n2 (bb.map Value.bool)) (hn : n ≤ 40) (hn2 : n2 ≤ maxLen) (hss : ∀ s ∈ ss, s.length ≤ maxLen) :
    Calls Tryd.prog 6 #[.slice A n c, .slice A2 n2 c2] w fun e w' => e = .returned (.bool true) ∧ Below w.heap.size w w' := by
  unfold maxLen at hn2 hss
  have hsl : ss.length = n := by simpa using hA.1
  have hbl : bb.length = n2 := by simpa using hA2.1
  have HA := Lib.hid hA
  have HA2 := Lib.hid hA2
  have HR := Lib.hid hR
  have HSS := Lib.hid hss
  have HBL := Lib.hid hbl
  have HSL := Lib.hid hsl
  obtain ⟨i0, hi, hz0, hz1, hz2⟩ := info_parts info_tu8
  have hinf := Lib.hid (And.intro hi (And.intro hz0 (And.intro hz1 hz2)))
  clear hi hz0 hz1 hz2 hA hA2 hR hss hbl hsl
  go_enter Tryd.func6, Tryd.ntmps6
  go_wp2
  go_loopw [5, 6] (fun v t wr => ∃ (i : Nat) (A1 : Option Addr) (c1 : Nat), i ≤ n ∧ t = .int .i64 (i : Int) ∧ v = .slice A1 (Tx.cat (Tx.tellW bb ss) i).length c1 ∧ (∀ j, j < i → (ss.getD j []).length ≤ 400) ∧ OwnB wr w.heap.size 5 (.slice A1 (Tx.cat (Tx.tellW bb ss) i).length c1) (Tx.cat (Tx.tellW bb ss) i) ∧ Below w.heap.size w wr) (fun _ t _ => n - (intOf t).toNat)
  case atStart => exact ⟨0, none, 0, Nat.zero_le _, rfl, rfl, fun j hj => absurd hj (by omega), OwnB.nil_ _ _ _, Below.refl _ _⟩
  case round =>
    obtain ⟨i, A1, c1, hin, rfl, rfl, hle, hown, hbel⟩ := hrel
    obtain ⟨wo, rfl⟩ : ∃ wo : World, wo = wr := ⟨_, rfl⟩
    have HLE := Lib.hid hle
    have HOWN := Lib.hid hown
    have HB := Lib.hid hbel
    have hcl := Tx.cat_le (Tx.tellW bb ss) (B := 820) i (fun j hj => (Tx.told4 bb ss j (hle j hj)).le)
    have hcl2 : (Tx.cat (Tx.tellW bb ss) i).length ≤ 33000 := by omega
    obtain ⟨m, hm⟩ : ∃ m, (Tx.cat (Tx.tellW bb ss) i).length = m := ⟨_, rfl⟩
    rw [hm] at hcl2 HOWN ⊢
    have HM := Lib.hid hm
    clear hle hown hbel hcl hm
    by_cases hlt : i < n
    · obtain ⟨b, o, rfl, hb, hcc⟩ := HA.out.2 (by omega)
      have hcw := hcc i (.string ⟨(ss.getD i []).toArray⟩) (by have := HSL.out; simp [List.getD, show i < ss.length from by omega])
      have hcx : wo.cell? ⟨b, o + i, none⟩ = some (.string ⟨(ss.getD i []).toArray⟩) := (HB.out.cell (p := ⟨b, o + i, none⟩) hb).trans hcw
      have hsm : (ss.getD i []).length ≤ 9223372036854775807 := by
        have := HSL.out
        rw [show ss.getD i [] = ss[i]'(by omega) from by simp [List.getD, show i < ss.length from by omega]]
        exact HSS.out _ (List.getElem_mem _)
      by_cases h400 : 400 < (ss.getD i []).length
      · obtain ⟨s, hs⟩ : ∃ s, ss.getD i [] = s := ⟨_, rfl⟩
        rw [hs] at hcx h400 hsm
        have hq : decide (400 < s.length) = true := decide_eq_true h400
        have hq2 : decide ((400 : Int) < (s.length : Int)) = true := decide_eq_true (by omega)
        have HW := Lib.hid (wakes8 wo (HR.out.on HB.out))
        clear hcc hcw hs hinf
        go_wp2_with (go_at_call 7; (with_reducible refine HW.out.mono ?_); rintro e w1 ⟨rfl, hb1⟩; have HB1 := Lib.hid (below_step HB.out hb1); clear hb1)
        go_ret
        exact ⟨rfl, HB1.out⟩
      · have hs4 : (ss.getD i []).length ≤ 400 := by omega
        have HT := Lib.hid (Tx.told4 bb ss i hs4)
        have HNX : Hid (∀ j, j < i + 1 → (ss.getD j []).length ≤ 400) := Lib.hid (fun j hj => by
          rcases Nat.lt_or_ge j i with g | g
          · exact HLE.out j g
          · rw [show j = i from by omega]; exact hs4)
        have hel : (Tx.tellW bb ss i).length ≤ 820 := HT.out.le
        obtain ⟨s, hs⟩ : ∃ s, ss.getD i [] = s := ⟨_, rfl⟩
        have hsl4 : s.length ≤ 400 := by rw [← hs]; exact hs4
        rw [hs] at hcx
        have hq : decide (400 < s.length) = false := decide_eq_false (by omega)
        have hq2 : decide ((400 : Int) < (s.length : Int)) = false := decide_eq_false (by omega)
        have HBI := Lib.hid (x_Bits s wo (HR.out.on HB.out) (by omega))
        have HPL := Lib.hid (x_Plain s wo (by omega))
        clear hcc hcw h400 hs4 hsm
        by_cases hw : bb.getD i false = true
        · have hib : i < n2 := by
            have := HBL.out
            rcases Nat.lt_or_ge i bb.length with g | g
            · omega
            · simp [List.getD, List.getElem?_eq_none g] at hw
          obtain ⟨b2, o2, rfl, hb2, hcc2⟩ := HA2.out.2 (by omega)
          have hcw2 := hcc2 i (.bool true) (by have := HBL.out; simp [List.getD, show i < bb.length from by omega] at hw ⊢; exact hw)
          have hcy : wo.cell? ⟨b2, o2 + i, none⟩ = some (.bool true) := (HB.out.cell (p := ⟨b2, o2 + i, none⟩) hb2).trans hcw2
          have hte : Tx.tellW bb ss i = biB s := by unfold Tx.tellW; rw [if_pos hw, hs]
          rw [hte] at hel
          have HTE := Lib.hid hte
          clear hcc2 hcw2 hte hw hs
          go_wp2_with (first
            | (go_at_call 13; (with_reducible refine HBI.out.mono ?_); rintro e w1 ⟨A3, c3, rfl, hh, hb1⟩; have HH3 := Lib.hid hh; have HB1 := Lib.hid hb1; clear hh hb1)
            | (at_builtin; refine wpList_append_bytes _ rfl (.tmp 38) (.tmp 43) 22 rfl w.heap.size 5 i0 Tryd.underlying22 hinf.out.1 hinf.out.2.1 hinf.out.2.2.1 hinf.out.2.2.2 _ (Tx.cat (Tx.tellW bb ss) i) rfl (HOWN.out.kept HB1.out) _ A3 (biB s).length c3 (biB s) rfl HH3.out.1 HH3.out.2.2.2 (by rw [HM.out]; omega) (below_step HB.out HB1.out).size ?_; intro v4 w4 ho hb4; obtain ⟨A4, c4, rfl, hh4⟩ := ho.handS (n := (Tx.cat (Tx.tellW bb ss) (i + 1)).length) (by rw [← HTE.out]; rfl); have HO4 : Hid (OwnB w4 w.heap.size 5 (.slice A4 (Tx.cat (Tx.tellW bb ss) (i + 1)).length c4) (Tx.cat (Tx.tellW bb ss) (i + 1))) := Lib.hid (by rw [← HTE.out] at ho; exact ho); have HB4 := Lib.hid ((below_step HB.out HB1.out).trans hb4); clear ho hb4 hh4))
          go_roundw
          case rel => exact ⟨i + 1, A4, c4, by omega, by go_num, rfl, HNX.out, HO4.out, HB4.out⟩
          case measure => simp [intOf]; omega
        · have hte : Tx.tellW bb ss i = plB s := by unfold Tx.tellW; rw [if_neg hw, hs]
          rw [hte] at hel
          have HTE := Lib.hid hte
          by_cases hib : i < n2
          · obtain ⟨b2, o2, rfl, hb2, hcc2⟩ := HA2.out.2 (by omega)
            have hcw2 := hcc2 i (.bool false) (by have := HBL.out; simp [List.getD, show i < bb.length from by omega] at hw ⊢; exact hw)
            have hcy : wo.cell? ⟨b2, o2 + i, none⟩ = some (.bool false) := (HB.out.cell (p := ⟨b2, o2 + i, none⟩) hb2).trans hcw2
            clear hcc2 hcw2 hte hw hs
            go_wp2_with (first
              | (go_at_call 11; (with_reducible refine HPL.out.mono ?_); rintro e w1 ⟨A3, c3, rfl, hh, hb1⟩; have HH3 := Lib.hid hh; have HB1 := Lib.hid hb1; clear hh hb1)
              | (at_builtin; refine wpList_append_bytes _ rfl (.tmp 45) (.tmp 50) 22 rfl w.heap.size 5 i0 Tryd.underlying22 hinf.out.1 hinf.out.2.1 hinf.out.2.2.1 hinf.out.2.2.2 _ (Tx.cat (Tx.tellW bb ss) i) rfl (HOWN.out.kept HB1.out) _ A3 (plB s).length c3 (plB s) rfl HH3.out.1 HH3.out.2.2.2 (by rw [HM.out]; omega) (below_step HB.out HB1.out).size ?_; intro v4 w4 ho hb4; obtain ⟨A4, c4, rfl, hh4⟩ := ho.handS (n := (Tx.cat (Tx.tellW bb ss) (i + 1)).length) (by rw [← HTE.out]; rfl); have HO4 : Hid (OwnB w4 w.heap.size 5 (.slice A4 (Tx.cat (Tx.tellW bb ss) (i + 1)).length c4) (Tx.cat (Tx.tellW bb ss) (i + 1))) := Lib.hid (by rw [← HTE.out] at ho; exact ho); have HB4 := Lib.hid ((below_step HB.out HB1.out).trans hb4); clear ho hb4 hh4))
            go_roundw
            case rel => exact ⟨i + 1, A4, c4, by omega, by go_num, rfl, HNX.out, HO4.out, HB4.out⟩
            case measure => simp [intOf]; omega
          · have hge : decide (i < n2) = false := decide_eq_false hib
            have hge2 : decide ((i : Int) < (n2 : Int)) = false := decide_eq_false (by omega)
            clear hte hw hs
            go_wp2_with (first
              | ((first | (with_reducible refine wpList_skip (o := { dst := some 33, op := _, type := _, pos := _, after := _, guard := _ }) (by kernel_rfl) ?_) | (with_reducible refine wpList_skip (o := { dst := some 34, op := _, type := _, pos := _, after := _, guard := _ }) (by kernel_rfl) ?_) | (with_reducible refine wpList_skip (o := { dst := some 35, op := _, type := _, pos := _, after := _, guard := _ }) (by kernel_rfl) ?_) | (with_reducible refine wpList_skip (o := { dst := some 36, op := _, type := _, pos := _, after := _, guard := _ }) (by kernel_rfl) ?_)); try simp only [Act.put, List.setIfInBounds_toArray, List.set_cons_zero, List.set_cons_succ])
              | (go_at_call 11; (with_reducible refine HPL.out.mono ?_); rintro e w1 ⟨A3, c3, rfl, hh, hb1⟩; have HH3 := Lib.hid hh; have HB1 := Lib.hid hb1; clear hh hb1)
              | (at_builtin; refine wpList_append_bytes _ rfl (.tmp 45) (.tmp 50) 22 rfl w.heap.size 5 i0 Tryd.underlying22 hinf.out.1 hinf.out.2.1 hinf.out.2.2.1 hinf.out.2.2.2 _ (Tx.cat (Tx.tellW bb ss) i) rfl (HOWN.out.kept HB1.out) _ A3 (plB s).length c3 (plB s) rfl HH3.out.1 HH3.out.2.2.2 (by rw [HM.out]; omega) (below_step HB.out HB1.out).size ?_; intro v4 w4 ho hb4; obtain ⟨A4, c4, rfl, hh4⟩ := ho.handS (n := (Tx.cat (Tx.tellW bb ss) (i + 1)).length) (by rw [← HTE.out]; rfl); have HO4 : Hid (OwnB w4 w.heap.size 5 (.slice A4 (Tx.cat (Tx.tellW bb ss) (i + 1)).length c4) (Tx.cat (Tx.tellW bb ss) (i + 1))) := Lib.hid (by rw [← HTE.out] at ho; exact ho); have HB4 := Lib.hid ((below_step HB.out HB1.out).trans hb4); clear ho hb4 hh4))
            go_roundw
            case rel => exact ⟨i + 1, A4, c4, by omega, by go_num, rfl, HNX.out, HO4.out, HB4.out⟩
            case measure => simp [intOf]; omega
    · obtain rfl : i = n := by omega
      have hrest : Tx.restF (Tx.tellW bb ss) i 0 = Tx.cat (Tx.tellW bb ss) i := by
        have h := Tx.cat_rest (Tx.tellW bb ss) i 0
        rw [Nat.zero_add] at h
        rw [← h]
        simp [Tx.cat]
      obtain ⟨A9, c9, e9, h9⟩ := HOWN.out.handS (n := m) HM.out
      cases e9
      have H9 := Lib.hid h9
      have HRS := Lib.hid hrest
      clear h9 hrest
      go_wp2
      go_loopw [5, 7] (fun v t wr => ∃ (j : Nat) (A1 : Option Addr) (c1 : Nat) (L : List UInt8), j ≤ i ∧ t = .int .i64 (j : Int) ∧ L = Tx.restF (Tx.tellW bb ss) (i - j) j ∧ v = .slice A1 L.length c1 ∧ L.length ≤ c1 ∧ L.length ≤ 33000 ∧ Bs wr wr.heap.size A1 L.length L ∧ Below w.heap.size w wr) (fun _ t _ => i - (intOf t).toNat)
      case atStart => exact ⟨0, A1, c1, Tx.cat (Tx.tellW bb ss) i, Nat.zero_le _, rfl, HRS.out.symm, by rw [HM.out], by rw [HM.out]; exact H9.out.2.2.1, by rw [HM.out]; omega, by rw [HM.out]; exact H9.out.1, HB.out⟩
      case round =>
        obtain ⟨j, A5, c5, L, hji, rfl, hL, rfl, hLc, hLm, hLb, hbel⟩ := hrel
        obtain ⟨wp, rfl⟩ : ∃ wp : World, wp = wr := ⟨_, rfl⟩
        have HB2 := Lib.hid hbel
        have HLB := Lib.hid hLb
        clear hbel hLb
        by_cases hjt : j < i
        · obtain ⟨k, hk⟩ : ∃ k, i - j = k + 1 := ⟨i - j - 1, by omega⟩
          rw [hk, Tx.restF] at hL
          have HT4 := Tx.told4 bb ss j (HLE.out j hjt)
          obtain ⟨b, o, rfl, hb, hcc⟩ := HA.out.2 (by omega)
          have hcw := hcc j (.string ⟨(ss.getD j []).toArray⟩) (by have := HSL.out; simp [List.getD, show j < ss.length from by omega])
          have hcx : wp.cell? ⟨b, o + j, none⟩ = some (.string ⟨(ss.getD j []).toArray⟩) := (HB2.out.cell (p := ⟨b, o + j, none⟩) hb).trans hcw
          obtain ⟨s, hs⟩ : ∃ s, ss.getD j [] = s := ⟨_, rfl⟩
          rw [hs] at hcx HT4
          obtain ⟨R, hR2⟩ : ∃ R, Tx.restF (Tx.tellW bb ss) k (j + 1) = R := ⟨_, rfl⟩
          rw [hR2] at hL
          have hRL : R.length ≤ 33000 := by have := congrArg List.length hL; rw [List.length_append] at this; omega
          have HTK := Lib.hid (tm_take HT4 R A5 L.length c5 wp (HR.out.on HB2.out) (hL ▸ HLB.out) hLc (by omega))
          have HR2 : Hid (R = Tx.restF (Tx.tellW bb ss) (i - (j + 1)) (j + 1)) := Lib.hid (by rw [← hR2, show i - (j + 1) = k from by omega])
          have hcz : ∀ w', Below wp.heap.size wp w' → w'.cell? ⟨b, o + j, none⟩ = some (.string ⟨s.toArray⟩) := fun w' h => (h.cell (p := ⟨b, o + j, none⟩) (by have := HB2.out.size; show b < wp.heap.size; omega)).trans hcx
          have HCZ := Lib.hid hcz
          clear hL hR2 hcc hcw hcx hcz HT4 hs hk
          obtain ⟨q, hq⟩ : ∃ q, L.length = q := ⟨_, rfl⟩
          obtain ⟨p, hp⟩ : ∃ p, R.length = p := ⟨_, rfl⟩
          have HP := Lib.hid hp
          rw [hq, hp] at HTK
          rw [hq]
          rw [hp] at hRL
          clear hp hq hLc hLm
          go_wp2_with (go_at_call 8; (with_reducible refine HTK.out.mono ?_); rintro e w6 ⟨A7, c7, rfl, hh, hb7⟩; have hc6 := HCZ.out w6 hb7; have HH7 := Lib.hid hh; have HB7 := Lib.hid (below_step HB2.out hb7); clear hh hb7)
          go_roundw
          case rel => exact ⟨j + 1, A7, c7, R, by omega, by go_num, HR2.out, by rw [HP.out], by rw [HP.out]; exact HH7.out.2.2.1, by rw [HP.out]; exact hRL, by rw [HP.out]; exact HH7.out.1, HB7.out⟩
          case measure => simp [intOf]; omega
        · obtain rfl : j = i := by omega
          rw [Nat.sub_self, Tx.restF] at hL
          subst hL
          have HW := Lib.hid (wakes8 wp (HR.out.on HB2.out))
          go_wp2_with (go_at_call 7; (with_reducible refine HW.out.mono ?_); rintro e w7 ⟨rfl, hb1⟩; have HB7 := Lib.hid (below_step HB2.out hb1); clear hb1)
          go_ret
          exact ⟨rfl, HB7.out⟩
end Go.Proofs.YtdcbafddnegpaaaDoor
