/- Walks of package field's Pad, and of the document's. -/
import Derived.Test.YtmbjmpijilmbkaaFiA
namespace Go.Proofs.Ytmbjmpijilmbkaa
open Go.RowKit Oct Fi
attribute [local go_sem] i64_and1 i64_and7 i64_and31

theorem fpad_yes (A : Option Addr) (n c K : Nat) (xs : List UInt8) (w : World) (hA : Bs w w.heap.size A n xs) (hnone : A = none → c = 0) (hn : n ≤ 10000) (hK : K ≤ 255) :
    Calls Try.prog 83 #[.slice A n c, .int .i64 K] w fun e w' => ∃ v, e = .returned (.tuple #[v, .int .i64 0]) ∧ OwnB w' w.heap.size 5 v ([UInt8.ofNat K] ++ xs ++ List.replicate K 0) ∧ Below w.heap.size w w' := by
  obtain ⟨i0, hi, hz0, hz1, hz2⟩ := info_parts info_u8
  have hinf := Lib.hid (And.intro hi (And.intro hz0 (And.intro hz1 hz2)))
  have HA := Lib.hid hA
  have HN := Lib.hid hnone
  have HL := Lib.hid hA.1
  clear hi hz0 hz1 hz2 hA hnone
  have d0 : decide ((K : Int) < 0) = false := by simp
  have d1 : decide (255 < (K : Int)) = false := by simp; omega
  have hm : (K : Int) % 256 = K := by omega
  have hcs : (([UInt8.ofNat K] : List UInt8).map bv).toArray = #[.int .u8 (K : Int)] := by simp [bv]; omega
  have HCS := Lib.hid hcs
  clear hcs
  go_enter Try.func83, Try.ntmps83
  go_wp2
  refine wp_scope_forward 0 rfl ?_
  go_wp2_with (first
    | (at_make; refine wpList_make_own _ rfl (.const (.int .i64 0)) (.tmp 17) 26 rfl w.heap.size 5 i0 (.int .u8 0) 1 Try.underlying26 hinf.out.1 hinf.out.2.1 hinf.out.2.2.1 .i64 .i64 _ (1 + n + K) rfl (by simp [go_sem]) rfl (by rw [hinf.out.2.2.2]; omega) (by unfold maxLen; omega) (Nat.le_refl _) ?_; intro w1 hown1 hgrow1; have HO1 : Hid (OwnB w1 w.heap.size 5 (.slice (some ⟨w.heap.size, 0, none⟩) 0 (1 + n + K)) []) := Lib.hid hown1; have HB1 := Lib.hid ((Below.refl _ w).grown hgrow1 (Nat.le_refl _) (fun k h => by cases h)); clear hown1 hgrow1)
    | (at_builtin; refine wpList_append_bytes _ rfl (.tmp 19) (.tmp 22) 26 rfl w.heap.size 5 i0 Try.underlying26 hinf.out.1 hinf.out.2.1 hinf.out.2.2.1 hinf.out.2.2.2 _ [] rfl (HO1.out.alloc _) _ _ 1 1 [UInt8.ofNat K] rfl (bs_lit w1 _ [UInt8.ofNat K] _ _ rfl HCS.out) (fun h => by cases h) (by simp) (Nat.le_trans HB1.out.size (by simp)) ?_; intro v2 w2 hown2 hb2; have HO2 := Lib.hid hown2; have HB2 := Lib.hid ((HB1.out.alloc HB1.out.size _).trans hb2); clear hown2 hb2)
    | (at_builtin; refine wpList_append_bytes _ rfl (.tmp 24) (.tmp 25) 26 rfl w.heap.size 5 i0 Try.underlying26 hinf.out.1 hinf.out.2.1 hinf.out.2.2.1 hinf.out.2.2.2 _ _ rfl HO2.out _ A n c xs rfl (HA.out.below HB2.out) HN.out (by simp; omega) HB2.out.size ?_; intro v3 w3 hown3 hb3; have HO3 := Lib.hid hown3; have HB3 := Lib.hid (HB2.out.trans hb3); clear hown3 hb3)
    | (at_builtin; refine wpList_append_zeros _ rfl (.tmp 27) (.tmp 28) 26 3 rfl w.heap.size 5 i0 .i64 .i64 Try.underlying26 Try.underlying3 hinf.out.1 hinf.out.2.1 hinf.out.2.2.1 hinf.out.2.2.2 _ _ rfl HO3.out K rfl (by have := HL.out; simp; omega) HB3.out.size ?_; intro v4 w4 hown4 hb4; have HO4 := Lib.hid hown4; have HB4 := Lib.hid (HB3.out.trans hb4); clear hown4 hb4))
  rw [jump_ret]
  go_ret2
  exact ⟨_, rfl, by simpa using HO4.out, HB4.out⟩
theorem fpad_no (A : Option Addr) (n c : Nat) (K : Int) (w : World) (h : ¬ PadIn K) :
    Calls Try.prog 83 #[.slice A n c, .int .i64 K] w fun e w' => e = .returned (.tuple #[.slice none 0 0, .int .i64 2]) ∧ w = w' := by
  unfold PadIn at h
  by_cases h0 : K < 0
  · go_enter Try.func83, Try.ntmps83
    go_wp2
    refine wp_scope_forward 0 rfl ?_
    go_wp2
    go_step3
    refine ⟨rfl, ?_⟩
    go_wp2
    rw [jump_ret]
    go_ret2
    exact ⟨rfl, rfl⟩
  · have h1 : 255 < K := by omega
    clear h
    go_enter Try.func83, Try.ntmps83
    go_wp2
    refine wp_scope_forward 0 rfl ?_
    go_wp2
    go_step3
    refine ⟨rfl, ?_⟩
    go_wp2
    rw [jump_ret]
    go_ret2
    exact ⟨rfl, rfl⟩
theorem fpad_tot (A : Option Addr) (n c : Nat) (K : Int) (xs : List UInt8) (w : World) (hA : Bs w w.heap.size A n xs) (hnone : A = none → c = 0) (hn : n ≤ 10000) :
    Calls Try.prog 83 #[.slice A n c, .int .i64 K] w fun e w' => ∃ v, e = .returned (.tuple #[v, .int .i64 (padE K)]) ∧ OwnB w' w.heap.size 5 v (padV xs K) ∧ Below w.heap.size w w' := by
  unfold padE padV
  by_cases h : PadIn K
  · simp only [if_pos h]
    obtain ⟨h1, h2⟩ := h
    obtain ⟨K, rfl⟩ := Int.eq_ofNat_of_zero_le h1
    exact fpad_yes A n c K xs w hA hnone hn (by omega)
  · simp only [if_neg h]
    refine (fpad_no A n c K w h).mono ?_
    rintro e w' ⟨rfl, rfl⟩
    exact ⟨_, rfl, OwnB.nil_ _ _ _, Below.refl _ _⟩
end Go.Proofs.Ytmbjmpijilmbkaa
