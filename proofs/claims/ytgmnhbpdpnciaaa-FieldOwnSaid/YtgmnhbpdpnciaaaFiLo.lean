/- The walk of FieldOwn: whatever is handed in, true; nothing that was there has turned. -/
import Derived.Test.YtgmnhbpdpnciaaaFiS
import Derived.Test.YtgmnhbpdpnciaaaGArgs
import Derived.Deep.RegionHeld3
namespace Go.Proofs.Ytgmnhbpdpnciaaa
open Go.RowKit Oct Fi

theorem own_great (A : Option Addr) (n c : Nat) (K : Int) (w : World) (h : 600 < n) (hm : n ≤ maxLen) :
    Calls Try.prog 6 #[.slice A n c, .int .i64 K] w fun e w' => e = .returned (.bool true) ∧ Below w.heap.size w w' := by
  unfold maxLen at hm
  go_enter Try.func6, Try.ntmps6
  go_wp2_with (go_at_call 7; refine (wakes_any _).mono ?_; rintro e w' ⟨rfl, hb⟩)
  go_ret
  exact ⟨rfl, hb⟩
/-- Bytes that may be turned: none lies in block g, all from block B on. -/
def MutB (w : World) (B g : Nat) (A : Option Addr) (n : Nat) : Prop := ∀ k, k < n → ∃ b, A = some ⟨b, 0, none⟩ ∧ B ≤ b ∧ b ≠ g ∧ (∃ z : Int, w.cell? ⟨b, k, none⟩ = some (.int .u8 z)) ∧ w.frozen? ⟨b, k, none⟩ = false
theorem MutB.set {w : World} {B g : Nat} {A : Option Addr} {n : Nat} (h : MutB w B g A n) (b k : Nat) (z : Int) : MutB (w.setCell ⟨b, k, none⟩ (.int .u8 z)) B g A n := by
  intro j hj
  obtain ⟨b', e, h1, h2, ⟨z', hc⟩, hf⟩ := h j hj
  refine ⟨b', e, h1, h2, ?_, by rw [World.frozen?_setCell]; exact hf⟩
  by_cases he : (⟨b, k, none⟩ : Addr) = ⟨b', j, none⟩
  · cases he
    exact ⟨z, World.cell?_setCell_same' _ _ _ (by rw [hc]; rfl)⟩
  · exact ⟨z', (World.cell?_setCell_other _ _ _ _ he).trans hc⟩
theorem MutB.of {w w' : World} {B B' g n c : Nat} {t : TypeId} {A : Option Addr} {zs : List UInt8} (h : OwnB w B t (.slice A n c) zs) (hl : zs.length = n) (hb : Below w.heap.size w w') (hg : w.heap.size ≤ g) (hB : B' ≤ B) : MutB w' B' g A n := by
  intro k hk
  obtain ⟨b, e, h1, h2, _, hc, hf, _⟩ := h.at_ (j := k) (by omega)
  exact ⟨b, e, by omega, by omega, ⟨_, (hb.cell (p := ⟨b, k, none⟩) h2).trans hc⟩, (hb.frozen (p := ⟨b, k, none⟩) h2).trans hf⟩
/-- What holds in both loops. -/
structure OwnL (W0 : World) (B g : Nat) (sl : Nat → Option Addr × Nat × Nat) (wr : World) : Prop where
  below : Below B W0 wr
  arr : ∀ i, i < 3 → wr.cell? ⟨g, i, none⟩ = some (.slice (sl i).1 (sl i).2.1 (sl i).2.2) ∧ MutB wr B g (sl i).1 (sl i).2.1
theorem OwnL.set {W0 wr : World} {B g : Nat} {sl : Nat → Option Addr × Nat × Nat} (h : OwnL W0 B g sl wr) {b : Nat} (k : Nat) (z : Int) (hB : B ≤ b) (hb : b ≠ g) : OwnL W0 B g sl (wr.setCell ⟨b, k, none⟩ (.int .u8 z)).drew :=
  ⟨(h.below.setCell (p := ⟨b, k, none⟩) hB _).drew, fun i hi => ⟨(World.cell?_setCell_other wr _ _ _ (fun e => hb (by injection e))).trans (h.arr i hi).1, (h.arr i hi).2.set b k z⟩⟩
theorem padV_le (xs : List UInt8) (K : Int) : (padV xs K).length ≤ xs.length + 256 := by
  unfold padV
  by_cases h : PadIn K
  · rw [if_pos h]
    unfold PadIn at h
    simp
    omega
  · rw [if_neg h]
    simp
theorem unV_le (xs : List UInt8) (n : Nat) : (unV xs n).length ≤ xs.length := by
  unfold unV
  split
  · simp; omega
  · simp
theorem trR_le (xs : List UInt8) (n : Nat) : (trR xs n).length ≤ xs.length := by
  unfold trR
  split <;> simp
set_option maxHeartbeats 1000000 in
theorem own_yes (A : Option Addr) (n c : Nat) (xs : List UInt8) (K : Int) (w : World) (hA : Bs w w.heap.size A n xs) (hN : A = none → c = 0) (hn : n ≤ 600) (hnc : n ≤ c) (hw : (Lit.int .i64 K).wf = true) :
    Calls Try.prog 6 #[.slice A n c, .int .i64 K] w fun e w' => e = .returned (.bool true) ∧ Below w.heap.size w w' := by
  have hK := int_bounds hw
  obtain ⟨i0, hi, hz0, hz1, hz2⟩ := info_parts info_u8
  have hinf := Lib.hid (And.intro hi (And.intro hz0 (And.intro hz1 hz2)))
  have HX : Hid (xs.length = n) := Lib.hid hA.1
  have K0 := Lib.hid ((EnvP.nil w).addS hA)
  have HN := Lib.hid hN
  clear hi hz0 hz1 hz2 hA hN hw
  go_enter Try.func6, Try.ntmps6
  go_wp2_with (first
    | (at_builtin; refine wpList_append_bytes _ rfl (.tmp 21) (.tmp 22) 22 rfl w.heap.size 5 i0 Try.underlying22 hinf.out.1 hinf.out.2.1 hinf.out.2.2.1 hinf.out.2.2.2 _ [] rfl (OwnB.lit2 w _ _ _ rfl (Nat.le_refl _)) _ A n c xs rfl ((K0.out.al _).s (A, n, xs) (by simp)) HN.out (by simp; omega) (by simp) ?_; intro v1 w1 hown1 hb1; obtain ⟨A1, c1, rfl, hc1, _, hr1⟩ := hown1.form2 (n := n) (by simpa using HX.out); have B1 := Lib.hid (((Below.refl _ w).alloc (Nat.le_refl _) _).trans hb1); have K1 := Lib.hid ((K0.out.on B1.out).addS hr1); have KK := Lib.hid K1.out; clear hown1 hb1 hr1 K0)
    | (go_at_call 8; (with_reducible refine (fpad_tot A n c K xs _ (K1.out.s (A, n, xs) (by simp)) HN.out (by omega)).mono ?_); rintro e w2 ⟨v2, rfl, ho2, hb2⟩; obtain ⟨A2, c2, rfl, hc2, _, _⟩ := ho2.form2 rfl; have HO2 := Lib.hid ho2; have B2 := Lib.hid hb2; have K2 := Lib.hid (K1.out.on hb2); clear ho2 hb2 K1)
    | (go_at_call 10; (with_reducible refine (unpad_tot A n c xs _ (K2.out.s (A, n, xs) (by simp)) (by omega) hnc).mono ?_); rintro e w3 ⟨v3, rfl, ho3, hb3⟩; obtain ⟨A3, c3, rfl, hc3, _, _⟩ := ho3.form2 rfl; have HO3 := Lib.hid ho3; have B3 := Lib.hid hb3; have K3 := Lib.hid (K2.out.on hb3); clear ho3 hb3 K2)
    | (go_at_call 15; (with_reducible refine (ftrank_tot A n c xs _ (K3.out.s (A, n, xs) (by simp)) (by omega) hnc).mono ?_); rintro e w4 ⟨v4, rfl, ho4, hb4⟩; obtain ⟨A4, c4, rfl, hc4, _, _⟩ := ho4.form2 rfl; have HO4 := Lib.hid ho4; have B4 := Lib.hid hb4; have K4 := Lib.hid (K3.out.on hb4); clear ho4 hb4 K3))
  have h234 := below_step (below_step B2.out B3.out) B4.out
  have bsz := h234.size
  have b4z := B4.out.size
  have b3z := B3.out.size
  have b2z := B2.out.size
  have bl : Below w4.heap.size w4 ((w4.alloc (.cells #[.bool (trA xs n), .int .i64 (trD xs n), .int .u8 (trW xs n)] 24)).alloc (.cells #[.slice A2 (padV xs K).length c2, .slice A3 (unV xs n).length c3, .slice A4 (trR xs n).length c4] 49)) := ((Below.refl _ w4).alloc (Nat.le_refl _) _).alloc (by simp) _
  obtain ⟨sl, hsl⟩ : ∃ sl : Nat → Option Addr × Nat × Nat, sl = fun i => if i = 0 then (A2, (padV xs K).length, c2) else if i = 1 then (A3, (unV xs n).length, c3) else (A4, (trR xs n).length, c4) := ⟨_, rfl⟩
  have hlen : ∀ i, i < 3 → (sl i).2.1 ≤ 1000 := by
    intro i hi
    have h1 := padV_le xs K
    have h2 := unV_le xs n
    have h3 := trR_le xs n
    have h4 := HX.out
    have : i = 0 ∨ i = 1 ∨ i = 2 := by omega
    rcases this with rfl | rfl | rfl <;> simp [hsl] <;> omega
  have h0 : OwnL w4 w1.heap.size (w4.heap.size + 1) sl ((w4.alloc (.cells #[.bool (trA xs n), .int .i64 (trD xs n), .int .u8 (trW xs n)] 24)).alloc (.cells #[.slice A2 (padV xs K).length c2, .slice A3 (unV xs n).length c3, .slice A4 (trR xs n).length c4] 49)) := by
    refine ⟨bl.mono bsz, fun i hi => ?_⟩
    have : i = 0 ∨ i = 1 ∨ i = 2 := by omega
    rcases this with rfl | rfl | rfl
    · rw [hsl]
      exact ⟨by simp [go_sem], MutB.of HO2.out rfl ((B3.out.trans (B4.out.mono b3z)).trans (bl.mono (by omega))) (by omega) (Nat.le_refl _)⟩
    · rw [hsl]
      exact ⟨by simp [go_sem], MutB.of HO3.out rfl (B4.out.trans (bl.mono b4z)) (by omega) (by omega)⟩
    · rw [hsl]
      exact ⟨by simp [go_sem], MutB.of HO4.out rfl bl (by omega) (by omega)⟩
  have HL := Lib.hid hlen
  have H0 := Lib.hid h0
  have H14 := Lib.hid h234
  have B14 := Lib.hid (B1.out.trans (h234.mono B1.out.size))
  have HZ := Lib.hid bsz
  clear hlen h0 hsl bl b4z b3z b2z h234 HO2 HO3 HO4 B2 B3 B4
  go_loopw [15] (fun t wr => ∃ i : Nat, i ≤ 3 ∧ t = .int .i64 i ∧ OwnL w4 w1.heap.size (w4.heap.size + 1) sl wr) (fun t _ => 3 - (intOf t).toNat)
  case atStart => exact ⟨0, by omega, rfl, H0.out⟩
  case round =>
    obtain ⟨i, hi, rfl, hol⟩ := hrel
    have HO := Lib.hid hol
    clear hol
    by_cases hlt : i < 3
    · have hl1 := HL.out i hlt
      have HI : Hid (∀ wr', OwnL w4 w1.heap.size (w4.heap.size + 1) sl wr' → wr'.cell? ⟨w4.heap.size + 1, i, none⟩ = some (.slice (sl i).1 (sl i).2.1 (sl i).2.2) ∧ MutB wr' w1.heap.size (w4.heap.size + 1) (sl i).1 (sl i).2.1) := Lib.hid (fun wr' h => h.arr i hlt)
      generalize sl i = s at *
      obtain ⟨Ai, ni, ci⟩ := s
      simp only at hl1
      have hd3 : decide ((i : Int) < 3) = true := by simp; omega
      go_wp2
      go_loopw [16] (fun t wr => ∃ k : Nat, k ≤ ni ∧ t = .int .i64 k ∧ OwnL w4 w1.heap.size (w4.heap.size + 1) sl wr) (fun t _ => ni - (intOf t).toNat)
      case atStart => exact ⟨0, by omega, rfl, HO.out⟩
      case round =>
        obtain ⟨k, hk, rfl, hol2⟩ := hrel
        obtain ⟨harr, hmut⟩ := HI.out _ hol2
        have HO2 := Lib.hid hol2
        clear hol2
        by_cases hlk : k < ni
        · obtain ⟨b, rfl, hbB, hbg, ⟨z, hcz⟩, hfz⟩ := hmut k hlk
          clear hmut
          have hidx : (i : Int) < 3 := by omega
          have hkx : (k : Int) < (ni : Int) := by omega
          go_wp2
          go_region
          go_wp2
          go_roundw
          case rel => exact ⟨k + 1, by omega, by go_num, HO2.out.set k _ hbB hbg⟩
          case measure => simp [intOf]; omega
        · obtain rfl : k = ni := by omega
          clear hmut
          go_wp2
          go_roundw
          case rel => exact ⟨i + 1, by omega, by go_num, HO2.out⟩
          case measure => simp [intOf]; omega
    · obtain rfl : i = 3 := by omega
      have hbel := HO.out.below
      have hz := hbel.size
      have hb1 := H14.out.trans hbel
      have HS1 := Lib.hid ((KK.out.s (A, n, xs) (by simp)).below hb1)
      have HS2 := Lib.hid ((KK.out.s (A1, n, xs) (by simp)).below hb1)
      have HBF := Lib.hid (B14.out.trans (hbel.mono B1.out.size))
      clear hb1 hbel
      go_wp2_with (first
        | (go_at_call 12; (with_reducible refine (refsame_any A A1 n n c c1 _ _ xs xs _ HS1.out HS2.out).mono ?_); rintro e w' ⟨rfl, rfl⟩; rw [show (xs == xs) = true from by simp])
        | (go_at_call 7; refine (wakes_any _).mono ?_; rintro e w' ⟨rfl, hb5⟩))
      go_ret
      exact ⟨rfl, below_step HBF.out hb5⟩
end Go.Proofs.Ytgmnhbpdpnciaaa
