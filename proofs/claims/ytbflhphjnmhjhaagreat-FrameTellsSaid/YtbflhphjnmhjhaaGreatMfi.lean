/- FiA, FiB, FiC, FiD, FiE, FiF. -/
import Derived.Test.YtbflhphjnmhjhaaGreatFiX
import Derived.Deep.RegionHeld3
import Derived.Test.YtbflhphjnmhjhaaGreatGOwn
import Derived.BigRegion
/- Walks of package field's bytes: own, padding, Pad, Unpad, and the document's. -/
namespace Go.Proofs.YtbflhphjnmhjhaaGreat
open Go.RowKit Oct Fi
attribute [local go_sem] i64_and1 i64_and7 i64_and31

theorem fown_any (A : Option Addr) (n c : Nat) (xs : List UInt8) (w : World) (hA : Bs w w.heap.size A n xs) (hnone : A = none → c = 0) (hn : n ≤ 1000000) :
    Calls Tryz.prog 101 #[.slice A n c] w fun e w' => ∃ v, e = .returned v ∧ OwnB w' w.heap.size 5 v xs ∧ Below w.heap.size w w' := by
  obtain ⟨i0, hi, hz0, hz1, hz2⟩ := info_parts info_u8
  have hinf := Lib.hid (And.intro hi (And.intro hz0 (And.intro hz1 hz2)))
  have HA := Lib.hid hA
  have HN := Lib.hid hnone
  clear hi hz0 hz1 hz2 hA hnone
  go_enter Tryz.func101, Tryz.ntmps101
  go_wp2_with (at_builtin; refine wpList_append_bytes _ rfl (.const (.slice none 0 0)) (.tmp 3) 24 rfl w.heap.size 5 i0 Tryz.underlying24 hinf.out.1 hinf.out.2.1 hinf.out.2.2.1 hinf.out.2.2.2 _ [] rfl (OwnB.nil_ _ _ _) _ A n c xs rfl HA.out HN.out (by simp; omega) (Nat.le_refl _) ?_; intro v1 w1 hown1 hb1)
  go_ret
  exact ⟨_, rfl, by simpa using hown1, hb1⟩
theorem padding_ok (b o n c : Nat) (x : UInt8) (w : World) (h0 : 0 < n) (hn : n ≤ 1000000) (hc : w.cell? ⟨b, o, none⟩ = some (.int .u8 x.toNat)) (h : x.toNat ≤ n - 1) :
    Calls Tryz.prog 100 #[.slice (some ⟨b, o, none⟩) n c] w fun e w' => e = .returned (.tuple #[.int .i64 x.toNat, .int .i64 0]) ∧ w = w' := by
  have hx := x.toNat_lt
  have d0 : ((n : Int) == 0) = false := by simp; omega
  have d1 : decide ((n : Int) - 1 < (x.toNat : Int)) = false := by simp; omega
  go_enter Tryz.func100, Tryz.ntmps100
  go_wp2
  go_ret2
  exact ⟨rfl, rfl⟩
theorem padding_short (A : Option Addr) (c : Nat) (w : World) :
    Calls Tryz.prog 100 #[.slice A 0 c] w fun e w' => e = .returned (.tuple #[.int .i64 0, .int .i64 10]) ∧ w = w' := by
  go_enter Tryz.func100, Tryz.ntmps100
  go_wp2
  go_ret2
  exact ⟨rfl, rfl⟩
theorem padding_more (b o n c : Nat) (x : UInt8) (w : World) (h0 : 0 < n) (hn : n ≤ 1000000) (hc : w.cell? ⟨b, o, none⟩ = some (.int .u8 x.toNat)) (h : ¬ x.toNat ≤ n - 1) :
    Calls Tryz.prog 100 #[.slice (some ⟨b, o, none⟩) n c] w fun e w' => e = .returned (.tuple #[.int .i64 0, .int .i64 11]) ∧ w = w' := by
  have hx := x.toNat_lt
  have d0 : ((n : Int) == 0) = false := by simp; omega
  have d1 : decide ((n : Int) - 1 < (x.toNat : Int)) = true := by simp; omega
  go_enter Tryz.func100, Tryz.ntmps100
  go_wp2
  go_ret2
  exact ⟨rfl, rfl⟩
theorem pm_cell {w : World} {B n : Nat} {A : Option Addr} {xs : List UInt8} (h : Bs w B A n xs) (hn : 0 < n) :
    ∃ b o x, A = some ⟨b, o, none⟩ ∧ b < B ∧ w.cell? ⟨b, o, none⟩ = some (.int .u8 (x : UInt8).toNat) ∧ pm xs = x.toNat := by
  obtain ⟨b, o, rfl, hb, hc⟩ := bs_cell h hn
  obtain ⟨x, hx, hcx⟩ := hc 0 hn
  exact ⟨b, o, x, rfl, hb, hcx, by unfold pm; rw [hx]; rfl⟩
theorem unpad_yes (A : Option Addr) (n c : Nat) (xs : List UInt8) (w : World) (hA : Bs w w.heap.size A n xs) (hn : n ≤ 1000000) (hnc : n ≤ c) (h : UnIn xs n) :
    Calls Tryz.prog 84 #[.slice A n c] w fun e w' => ∃ v, e = .returned (.tuple #[v, .int .i64 (1 + (pm xs : Int)), .int .i64 0]) ∧ OwnB w' w.heap.size 5 v ((xs.drop 1).take (n - pm xs - 1)) ∧ Below w.heap.size w w' := by
  obtain ⟨h1, h2⟩ := h
  obtain ⟨b, o, x, rfl, hb, hcx, hp⟩ := pm_cell hA h1
  rw [hp] at h2 ⊢
  have hx := x.toNat_lt
  obtain ⟨A2, hA2, hcut⟩ : ∃ A2, (if c = 1 then some (⟨b, o, none⟩ : Addr) else some ⟨b, o + 1, none⟩) = A2 ∧ Bs w w.heap.size A2 (n - x.toNat - 1) ((xs.drop 1).take (n - x.toNat - 1)) := ⟨_, rfl, (hA.cut (k := 1) (by omega) hnc).take (k := n - x.toNat - 1) (by omega)⟩
  have HC := Lib.hid hcut
  have hN2 : A2 = none → c - 1 = 0 := fun h => if_some_ne (hA2.trans h)
  have HN := Lib.hid hN2
  clear hA hcut hp hN2
  have s2 : (1 : Int) ≤ (n : Int) - (x.toNat : Int) := by omega
  have s3 : (n : Int) - (x.toNat : Int) ≤ (c : Int) := by omega
  go_enter Tryz.func84, Tryz.ntmps84
  go_wp2
  refine wp_scope_forward 0 rfl ?_
  go_wp2_with (first
    | (go_at_call 100; refine (padding_ok b o n c x _ h1 hn hcx h2).mono ?_; rintro e w1 ⟨rfl, rfl⟩)
    | (go_at_call 101; refine (fown_any A2 _ _ _ _ HC.out HN.out (by omega)).mono ?_; rintro e w1 ⟨v1, rfl, ho1, hb1⟩))
  rw [jump_ret]
  go_ret3
  exact ⟨_, rfl, ho1, hb1⟩
theorem unpad_no (A : Option Addr) (n c : Nat) (xs : List UInt8) (w : World) (hA : Bs w w.heap.size A n xs) (hn : n ≤ 1000000) (h : ¬ UnIn xs n) :
    Calls Tryz.prog 84 #[.slice A n c] w fun e w' => e = .returned (.tuple #[.slice none 0 0, .int .i64 0, .int .i64 (if n = 0 then 10 else 11)]) ∧ w = w' := by
  rcases Nat.eq_zero_or_pos n with h0 | h0
  · subst h0
    rw [if_pos rfl]
    clear h hA
    go_enter Tryz.func84, Tryz.ntmps84
    go_wp2
    refine wp_scope_forward 0 rfl ?_
    go_wp2_with (go_at_call 100; refine (padding_short A c _).mono ?_; rintro e w1 ⟨rfl, rfl⟩)
    go_step3
    refine ⟨rfl, ?_⟩
    go_wp2
    rw [jump_ret]
    go_ret3
    exact ⟨rfl, rfl⟩
  · rw [if_neg (by omega)]
    obtain ⟨b, o, x, rfl, hb, hcx, hp⟩ := pm_cell hA h0
    have hm : ¬ x.toNat ≤ n - 1 := fun h2 => h ⟨h0, by rw [hp]; exact h2⟩
    clear h hA hp
    go_enter Tryz.func84, Tryz.ntmps84
    go_wp2
    refine wp_scope_forward 0 rfl ?_
    go_wp2_with (go_at_call 100; refine (padding_more b o n c x _ h0 hn hcx hm).mono ?_; rintro e w1 ⟨rfl, rfl⟩)
    go_step3
    refine ⟨rfl, ?_⟩
    go_wp2
    rw [jump_ret]
    go_ret3
    exact ⟨rfl, rfl⟩
theorem unpad_tot (A : Option Addr) (n c : Nat) (xs : List UInt8) (w : World) (hA : Bs w w.heap.size A n xs) (hn : n ≤ 1000000) (hnc : n ≤ c) :
    Calls Tryz.prog 84 #[.slice A n c] w fun e w' => ∃ v, e = .returned (.tuple #[v, .int .i64 (unN xs n), .int .i64 (unE xs n)]) ∧ OwnB w' w.heap.size 5 v (unV xs n) ∧ Below w.heap.size w w' := by
  unfold unN unE unV
  by_cases h : UnIn xs n
  · simp only [if_pos h]
    exact unpad_yes A n c xs w hA hn hnc h
  · simp only [if_neg h]
    refine (unpad_no A n c xs w hA hn h).mono ?_
    rintro e w' ⟨rfl, rfl⟩
    exact ⟨_, rfl, OwnB.nil_ _ _ _, Below.refl _ _⟩
theorem ret_int3 {k k' : IntKind} {a b c : Int} {v : Value} (h : a = b) : Ending.returned (.tuple #[v, .int k a, .int k' c]) = .returned (.tuple #[v, .int k b, .int k' c]) := by rw [h]
theorem runpad_yes (A : Option Addr) (n c : Nat) (xs : List UInt8) (w : World) (hA : Bs w w.heap.size A n xs) (hn : n ≤ 1000000) (hnc : n ≤ c) (h : UnIn xs n) :
    Calls Tryz.prog 78 #[.slice A n c] w fun e w' => ∃ v, e = .returned (.tuple #[v, .int .i64 (1 + (pm xs : Int)), .int .i64 0]) ∧ OwnB w' w.heap.size 5 v ((xs.drop 1).take (n - pm xs - 1)) ∧ Below w.heap.size w w' := by
  obtain ⟨h1, h2⟩ := h
  obtain ⟨b, o, x, rfl, hb, hcx, hp⟩ := pm_cell hA h1
  rw [hp] at h2 ⊢
  have hx := x.toNat_lt
  obtain ⟨A2, hA2, hcut⟩ : ∃ A2, (if c = 1 then some (⟨b, o, none⟩ : Addr) else some ⟨b, o + 1, none⟩) = A2 ∧ Bs w w.heap.size A2 (n - x.toNat - 1) ((xs.drop 1).take (n - x.toNat - 1)) := ⟨_, rfl, (hA.cut (k := 1) (by omega) hnc).take (k := n - x.toNat - 1) (by omega)⟩
  have HC := Lib.hid (hcut.alloc (Nat.le_refl _) (.cells #[] 5))
  have hN2 : A2 = none → c - 1 = 0 := fun h => if_some_ne (hA2.trans h)
  have HN := Lib.hid hN2
  clear hA hcut hp hN2
  have s2 : (1 : Int) ≤ (n : Int) - (x.toNat : Int) := by omega
  have s3 : (n : Int) - (x.toNat : Int) ≤ (c : Int) := by omega
  have d0 : ((n : Int) == 0) = false := by simp; omega
  have d1 : decide ((n : Int) - 1 < (x.toNat : Int)) = false := by simp; omega
  obtain ⟨i0, hi, hz0, hz1, hz2⟩ := info_parts info_u8
  have hinf := Lib.hid (And.intro hi (And.intro hz0 (And.intro hz1 hz2)))
  clear hi hz0 hz1 hz2
  go_enter Tryz.func78, Tryz.ntmps78
  go_wp2_with (at_builtin; refine wpList_append_bytes _ rfl (.tmp 18) (.tmp 24) 24 rfl w.heap.size 5 i0 Tryz.underlying24 hinf.out.1 hinf.out.2.1 hinf.out.2.2.1 hinf.out.2.2.2 _ [] rfl (OwnB.lit _ _ _ (Nat.le_refl _)) _ A2 (n - x.toNat - 1) (c - 1) _ rfl HC.out HN.out (by simp; omega) (by simp) ?_; intro v1 w1 hown1 hb1)
  go_ret3
  exact ⟨_, ret_int3 (by omega), by simpa using hown1, ((Below.refl _ w).alloc (Nat.le_refl _) _).trans hb1⟩
theorem runpad_no (A : Option Addr) (n c : Nat) (xs : List UInt8) (w : World) (hA : Bs w w.heap.size A n xs) (hn : n ≤ 1000000) (h : ¬ UnIn xs n) :
    Calls Tryz.prog 78 #[.slice A n c] w fun e w' => e = .returned (.tuple #[.slice none 0 0, .int .i64 0, .int .i64 (if n = 0 then 10 else 11)]) ∧ w = w' := by
  rcases Nat.eq_zero_or_pos n with h0 | h0
  · subst h0
    rw [if_pos rfl]
    clear h hA
    go_enter Tryz.func78, Tryz.ntmps78
    go_wp2
    go_ret3
    exact ⟨rfl, rfl⟩
  · rw [if_neg (by omega)]
    obtain ⟨b, o, x, rfl, hb, hcx, hp⟩ := pm_cell hA h0
    have hx := x.toNat_lt
    have hm : ¬ x.toNat ≤ n - 1 := fun h2 => h ⟨h0, by rw [hp]; exact h2⟩
    have d0 : ((n : Int) == 0) = false := by simp; omega
    have d1 : decide ((n : Int) - 1 < (x.toNat : Int)) = true := by simp; omega
    clear h hA hp
    go_enter Tryz.func78, Tryz.ntmps78
    go_wp2
    go_ret3
    exact ⟨rfl, rfl⟩
theorem runpad_tot (A : Option Addr) (n c : Nat) (xs : List UInt8) (w : World) (hA : Bs w w.heap.size A n xs) (hn : n ≤ 1000000) (hnc : n ≤ c) :
    Calls Tryz.prog 78 #[.slice A n c] w fun e w' => ∃ v, e = .returned (.tuple #[v, .int .i64 (unN xs n), .int .i64 (unE xs n)]) ∧ OwnB w' w.heap.size 5 v (unV xs n) ∧ Below w.heap.size w w' := by
  unfold unN unE unV
  by_cases h : UnIn xs n
  · simp only [if_pos h]
    exact runpad_yes A n c xs w hA hn hnc h
  · simp only [if_neg h]
    refine (runpad_no A n c xs w hA hn h).mono ?_
    rintro e w' ⟨rfl, rfl⟩
    exact ⟨_, rfl, OwnB.nil_ _ _ _, Below.refl _ _⟩
end Go.Proofs.YtbflhphjnmhjhaaGreat
/- Walks of package field's Pad, and of the document's. -/
namespace Go.Proofs.YtbflhphjnmhjhaaGreat
open Go.RowKit Oct Fi
attribute [local go_sem] i64_and1 i64_and7 i64_and31

theorem fpad_yes (A : Option Addr) (n c K : Nat) (xs : List UInt8) (w : World) (hA : Bs w w.heap.size A n xs) (hnone : A = none → c = 0) (hn : n ≤ 10000) (hK : K ≤ 255) :
    Calls Tryz.prog 85 #[.slice A n c, .int .i64 K] w fun e w' => ∃ v, e = .returned (.tuple #[v, .int .i64 0]) ∧ OwnB w' w.heap.size 5 v ([UInt8.ofNat K] ++ xs ++ List.replicate K 0) ∧ Below w.heap.size w w' := by
  obtain ⟨i0, hi, hz0, hz1, hz2⟩ := info_parts info_u8
  have hinf := Lib.hid (And.intro hi (And.intro hz0 (And.intro hz1 hz2)))
  have HA := Lib.hid hA
  have HN := Lib.hid hnone
  have HL := Lib.hid hA.1
  clear hi hz0 hz1 hz2 hA hnone
  have d0 : decide ((K : Int) < 0) = false := by simp
  have d1 : decide (255 < (K : Int)) = false := by simp; omega
  have hm : (K : Int) % 256 = K := by omega
  have hcs : (([UInt8.ofNat K] : List UInt8).map bv).toArray = #[.int .u8 (K : Int)] := by simp [bv]; omega
  have HCS := Lib.hid hcs
  clear hcs
  go_enter Tryz.func85, Tryz.ntmps85
  go_wp2
  refine wp_scope_forward 0 rfl ?_
  go_wp2_with (first
    | (at_make; refine wpList_make_own _ rfl (.const (.int .i64 0)) (.tmp 17) 24 rfl w.heap.size 5 i0 (.int .u8 0) 1 Tryz.underlying24 hinf.out.1 hinf.out.2.1 hinf.out.2.2.1 .i64 .i64 _ (1 + n + K) rfl (by simp [go_sem]) rfl (by rw [hinf.out.2.2.2]; omega) (by unfold maxLen; omega) (Nat.le_refl _) ?_; intro w1 hown1 hgrow1; have HO1 : Hid (OwnB w1 w.heap.size 5 (.slice (some ⟨w.heap.size, 0, none⟩) 0 (1 + n + K)) []) := Lib.hid hown1; have HB1 := Lib.hid ((Below.refl _ w).grown hgrow1 (Nat.le_refl _) (fun k h => by cases h)); clear hown1 hgrow1)
    | (at_builtin; refine wpList_append_bytes _ rfl (.tmp 19) (.tmp 22) 24 rfl w.heap.size 5 i0 Tryz.underlying24 hinf.out.1 hinf.out.2.1 hinf.out.2.2.1 hinf.out.2.2.2 _ [] rfl (HO1.out.alloc _) _ _ 1 1 [UInt8.ofNat K] rfl (bs_lit w1 _ [UInt8.ofNat K] _ _ rfl HCS.out) (fun h => by cases h) (by simp) (Nat.le_trans HB1.out.size (by simp)) ?_; intro v2 w2 hown2 hb2; have HO2 := Lib.hid hown2; have HB2 := Lib.hid ((HB1.out.alloc HB1.out.size _).trans hb2); clear hown2 hb2)
    | (at_builtin; refine wpList_append_bytes _ rfl (.tmp 24) (.tmp 25) 24 rfl w.heap.size 5 i0 Tryz.underlying24 hinf.out.1 hinf.out.2.1 hinf.out.2.2.1 hinf.out.2.2.2 _ _ rfl HO2.out _ A n c xs rfl (HA.out.below HB2.out) HN.out (by simp; omega) HB2.out.size ?_; intro v3 w3 hown3 hb3; have HO3 := Lib.hid hown3; have HB3 := Lib.hid (HB2.out.trans hb3); clear hown3 hb3)
    | (at_builtin; refine wpList_append_zeros _ rfl (.tmp 27) (.tmp 28) 24 3 rfl w.heap.size 5 i0 .i64 .i64 Tryz.underlying24 Tryz.underlying3 hinf.out.1 hinf.out.2.1 hinf.out.2.2.1 hinf.out.2.2.2 _ _ rfl HO3.out K rfl (by have := HL.out; simp; omega) HB3.out.size ?_; intro v4 w4 hown4 hb4; have HO4 := Lib.hid hown4; have HB4 := Lib.hid (HB3.out.trans hb4); clear hown4 hb4))
  rw [jump_ret]
  go_ret2
  exact ⟨_, rfl, by simpa using HO4.out, HB4.out⟩
theorem fpad_no (A : Option Addr) (n c : Nat) (K : Int) (w : World) (h : ¬ PadIn K) :
    Calls Tryz.prog 85 #[.slice A n c, .int .i64 K] w fun e w' => e = .returned (.tuple #[.slice none 0 0, .int .i64 2]) ∧ w = w' := by
  unfold PadIn at h
  by_cases h0 : K < 0
  · go_enter Tryz.func85, Tryz.ntmps85
    go_wp2
    refine wp_scope_forward 0 rfl ?_
    go_wp2
    go_step3
    refine ⟨rfl, ?_⟩
    go_wp2
    rw [jump_ret]
    go_ret2
    exact ⟨rfl, rfl⟩
  · have h1 : 255 < K := by omega
    clear h
    go_enter Tryz.func85, Tryz.ntmps85
    go_wp2
    refine wp_scope_forward 0 rfl ?_
    go_wp2
    go_step3
    refine ⟨rfl, ?_⟩
    go_wp2
    rw [jump_ret]
    go_ret2
    exact ⟨rfl, rfl⟩
theorem fpad_tot (A : Option Addr) (n c : Nat) (K : Int) (xs : List UInt8) (w : World) (hA : Bs w w.heap.size A n xs) (hnone : A = none → c = 0) (hn : n ≤ 10000) :
    Calls Tryz.prog 85 #[.slice A n c, .int .i64 K] w fun e w' => ∃ v, e = .returned (.tuple #[v, .int .i64 (padE K)]) ∧ OwnB w' w.heap.size 5 v (padV xs K) ∧ Below w.heap.size w w' := by
  unfold padE padV
  by_cases h : PadIn K
  · simp only [if_pos h]
    obtain ⟨h1, h2⟩ := h
    obtain ⟨K, rfl⟩ := Int.eq_ofNat_of_zero_le h1
    exact fpad_yes A n c K xs w hA hnone hn (by omega)
  · simp only [if_neg h]
    refine (fpad_no A n c K w h).mono ?_
    rintro e w' ⟨rfl, rfl⟩
    exact ⟨_, rfl, OwnB.nil_ _ _ _, Below.refl _ _⟩
theorem rfpad_yes (A : Option Addr) (n c K : Nat) (xs : List UInt8) (w : World) (hA : Bs w w.heap.size A n xs) (hnone : A = none → c = 0) (hn : n ≤ 10000) (hK : K ≤ 255) :
    Calls Tryz.prog 54 #[.slice A n c, .int .i64 K] w fun e w' => ∃ v, e = .returned (.tuple #[v, .int .i64 0]) ∧ OwnB w' w.heap.size 5 v ([UInt8.ofNat K] ++ xs ++ List.replicate K 0) ∧ Below w.heap.size w w' := by
  obtain ⟨i0, hi, hz0, hz1, hz2⟩ := info_parts info_u8
  have hinf := Lib.hid (And.intro hi (And.intro hz0 (And.intro hz1 hz2)))
  have HA := Lib.hid hA
  have HN := Lib.hid hnone
  have HL := Lib.hid hA.1
  clear hi hz0 hz1 hz2 hA hnone
  have d0 : decide ((K : Int) < 0) = false := by simp
  have d1 : decide (255 < (K : Int)) = false := by simp; omega
  have hm : (K : Int) % 256 = K := by omega
  have hcs : (([UInt8.ofNat K] : List UInt8).map bv).toArray = #[.int .u8 (K : Int)] := by simp [bv]; omega
  have HO : Hid (OwnB (w.alloc (.cells #[.int .u8 (K : Int)] 5)) w.heap.size 5 (.slice (some ⟨w.heap.size, 0, none⟩) 1 1) [UInt8.ofNat K]) := Lib.hid (by
    have h : RowB (w.alloc (.cells #[.int .u8 (K : Int)] 5)) w.heap.size 5 [UInt8.ofNat K] := by rw [← hcs]; exact World.alloc_heap_new w _
    exact h.own (Nat.le_refl _) (by simp [maxLen]))
  clear hcs
  go_enter Tryz.func54, Tryz.ntmps54
  go_wp2_with (first
    | (at_builtin; refine wpList_append_bytes _ rfl (.tmp 15) (.tmp 16) 24 rfl w.heap.size 5 i0 Tryz.underlying24 hinf.out.1 hinf.out.2.1 hinf.out.2.2.1 hinf.out.2.2.2 _ _ rfl HO.out _ A n c xs rfl (HA.out.alloc (Nat.le_refl _) _) HN.out (by simp; omega) (by simp) ?_; intro v3 w3 hown3 hb3; have HO3 := Lib.hid hown3; have HB3 := Lib.hid (((Below.refl _ w).alloc (Nat.le_refl _) _).trans hb3); clear hown3 hb3)
    | (at_builtin; refine wpList_append_zeros _ rfl (.tmp 18) (.tmp 19) 24 3 rfl w.heap.size 5 i0 .i64 .i64 Tryz.underlying24 Tryz.underlying3 hinf.out.1 hinf.out.2.1 hinf.out.2.2.1 hinf.out.2.2.2 _ _ rfl HO3.out K rfl (by have := HL.out; simp; omega) HB3.out.size ?_; intro v4 w4 hown4 hb4; have HO4 := Lib.hid hown4; have HB4 := Lib.hid (HB3.out.trans hb4); clear hown4 hb4))
  go_ret2
  exact ⟨_, rfl, by simpa using HO4.out, HB4.out⟩
theorem rfpad_no (A : Option Addr) (n c : Nat) (K : Int) (w : World) (h : ¬ PadIn K) :
    Calls Tryz.prog 54 #[.slice A n c, .int .i64 K] w fun e w' => e = .returned (.tuple #[.slice none 0 0, .int .i64 2]) ∧ w = w' := by
  unfold PadIn at h
  by_cases h0 : K < 0
  · go_enter Tryz.func54, Tryz.ntmps54
    go_wp2
    go_ret2
    exact ⟨rfl, rfl⟩
  · have h1 : 255 < K := by omega
    clear h
    go_enter Tryz.func54, Tryz.ntmps54
    go_wp2
    go_ret2
    exact ⟨rfl, rfl⟩
theorem rfpad_tot (A : Option Addr) (n c : Nat) (K : Int) (xs : List UInt8) (w : World) (hA : Bs w w.heap.size A n xs) (hnone : A = none → c = 0) (hn : n ≤ 10000) :
    Calls Tryz.prog 54 #[.slice A n c, .int .i64 K] w fun e w' => ∃ v, e = .returned (.tuple #[v, .int .i64 (padE K)]) ∧ OwnB w' w.heap.size 5 v (padV xs K) ∧ Below w.heap.size w w' := by
  unfold padE padV
  by_cases h : PadIn K
  · simp only [if_pos h]
    obtain ⟨h1, h2⟩ := h
    obtain ⟨K, rfl⟩ := Int.eq_ofNat_of_zero_le h1
    exact rfpad_yes A n c K xs w hA hnone hn (by omega)
  · simp only [if_neg h]
    refine (rfpad_no A n c K w h).mono ?_
    rintro e w' ⟨rfl, rfl⟩
    exact ⟨_, rfl, OwnB.nil_ _ _ _, Below.refl _ _⟩
end Go.Proofs.YtbflhphjnmhjhaaGreat
/- Walks of package field's PutRank, and of the document's. -/
namespace Go.Proofs.YtbflhphjnmhjhaaGreat
open Go.RowKit Oct Fi
attribute [local go_sem] i64_and1 i64_and7 i64_and31

theorem or_31 (D : Nat) (h : D < 2147483648) : bits .or .i64 (D : Int) 2147483648 = (D : Int) + 2147483648 := by
  have h1 := i64_or_join 1 D 31 (by simpa using h) (by omega)
  have h2 : bits .or .i64 ((1 : Nat) * ((2 ^ 31 : Nat) : Int)) (D : Int) = bits .or .i64 (D : Int) 2147483648 := by
    have e : ((1 : Nat) : Int) * ((2 ^ 31 : Nat) : Int) = ((2147483648 : Nat) : Int) := by decide
    rw [e, i64_or_nat _ _ (by omega) (by omega)]
    have := i64_or_nat D 2147483648 (by omega) (by omega)
    rw [show ((2147483648 : Nat) : Int) = 2147483648 from rfl] at this
    rw [this, Nat.or_comm]
  rw [← h2, h1]
  have e : ((1 : Nat) : Int) * ((2 ^ 31 : Nat) : Int) = 2147483648 := by decide
  rw [e]
  omega
theorem or_0 (D : Nat) (h : D < 2147483648) : bits .or .i64 (D : Int) 0 = (D : Int) := by
  have := i64_or_nat D 0 (by omega) (by omega)
  rw [show ((0 : Nat) : Int) = 0 from rfl, Nat.or_zero] at this
  exact this
theorem alone_any (a : Bool) (D W : Int) (w : World) :
    Calls Tryz.prog 103 #[.agg #[.bool a, .int .i64 D, .int .u8 W]] w fun e w' => e = .returned (.int .i64 (if a then 1 else 0)) ∧ Below w.heap.size w w' := by
  cases a
  · go_enter Tryz.func103, Tryz.ntmps103
    go_wp2
    go_ret
    exact ⟨rfl, (Below.refl _ _).alloc (Nat.le_refl _) _⟩
  · go_enter Tryz.func103, Tryz.ntmps103
    go_wp2
    go_ret
    exact ⟨rfl, (Below.refl _ _).alloc (Nat.le_refl _) _⟩
theorem fprank_no (a : Bool) (D W : Int) (w : World) (h : ¬ RankIn D) :
    Calls Tryz.prog 88 #[.agg #[.bool a, .int .i64 D, .int .u8 W]] w fun e w' => e = .returned (.tuple #[.slice none 0 0, .int .i64 2]) ∧ Below w.heap.size w w' := by
  unfold RankIn at h
  have d : (D / 2147483648 != 0) = true := by simp; omega
  clear h
  go_enter Tryz.func88, Tryz.ntmps88
  go_wp2
  refine wp_scope_forward 0 rfl ?_
  go_wp2
  go_step3
  refine ⟨rfl, ?_⟩
  go_wp2
  rw [jump_ret]
  go_ret2
  exact ⟨rfl, (Below.refl _ _).alloc (Nat.le_refl _) _⟩
theorem put_rank (N : Nat) (w : World) (h : N < 4294967296) :
    Calls Tryz.prog 82 #[.int .i64 N, .int .i64 4] w fun e w' => ∃ v, e = .returned (.tuple #[v, .int .i64 0]) ∧ OwnB w' w.heap.size 5 v (putB N 4) ∧ Below w.heap.size w w' :=
  put_ok N 4 w (by omega) (by omega) (by omega) (by have e : (256 : Int) ^ (4 : Int).toNat = 4294967296 := by decide
                                                    rw [e]; omega)
set_option maxHeartbeats 1000000 in
theorem fprank_yes (a : Bool) (D : Nat) (W : UInt8) (w : World) (h : D < 2147483648) :
    Calls Tryz.prog 88 #[.agg #[.bool a, .int .i64 D, .int .u8 W.toNat]] w fun e w' => ∃ v, e = .returned (.tuple #[v, .int .i64 0]) ∧ OwnB w' w.heap.size 5 v (putB (rkN a D) 4 ++ [W]) ∧ Below w.heap.size w w' := by
  have d : ((D : Int) / 2147483648 != 0) = false := by simp; omega
  have hN : Hid (rkN a D < 4294967296) := Lib.hid (by unfold rkN; split <;> omega)
  obtain ⟨s, u, hs, hsu, hor⟩ : ∃ s u : Int, (if a then 1 else 0) = s ∧ IntKind.i64.wrap (s * 2147483648) = u ∧ bits .or .i64 (D : Int) u = (rkN a D : Int) := by
    unfold rkN
    cases a
    · exact ⟨0, 0, rfl, by decide, by simpa using or_0 D h⟩
    · exact ⟨1, 2147483648, rfl, by decide, by simpa using or_31 D h⟩
  have HS := Lib.hid hs
  have HR := Lib.hid (Nat.zero_le (rkN a D))
  generalize rkN a D = N at *
  clear hs
  obtain ⟨i0, hi, hz0, hz1, hz2⟩ := info_parts info_u8
  have hinf := Lib.hid (And.intro hi (And.intro hz0 (And.intro hz1 hz2)))
  clear hi hz0 hz1 hz2
  have HC0 := Lib.hid (c3_new w 28 (.bool a) (.int .i64 D) (.int .u8 W.toNat))
  have hsz : w.heap.size < (w.alloc (.cells #[.bool a, .int .i64 D, .int .u8 W.toNat] 28)).heap.size := by simp
  go_enter Tryz.func88, Tryz.ntmps88
  go_wp2
  refine wp_scope_forward 0 rfl ?_
  go_wp2
  go_region_held3 (fun W' => W'.cell? ⟨w.heap.size, 0, none⟩ = some (.bool a) ∧ W'.cell? ⟨w.heap.size, 1, none⟩ = some (.int .i64 D) ∧ W'.cell? ⟨w.heap.size, 2, none⟩ = some (.int .u8 W.toNat))
    (first
      | with_reducible exact HC0.out
      | with_reducible exact c3_drew HC0.out
      | with_reducible exact HC1.out
      | with_reducible exact HC2.out)
    ((first
      | (go_at_call 103; go_loud (refine (alone_any a D _ _).mono ?_; rintro e w1 ⟨rfl, hb1⟩; rw [HS.out]; have HB1 := Lib.hid hb1; have HC1 := Lib.hid (c3_al (c3_drew HC0.out) hb1 hsz); clear hb1))
      | (go_at_call 82; go_loud (refine (put_rank N _ hN.out).mono ?_; rintro e w2 ⟨v2, rfl, ho2, hb2⟩; have HB2 := Lib.hid hb2; have HO2 := Lib.hid ho2; have HC2 := Lib.hid (c3_al HC1.out hb2 (Nat.lt_of_lt_of_le hsz HB1.out.size)); clear ho2 hb2))))
  obtain ⟨c0, c1, c2⟩ := HC2.out
  have hb12 : Below w.heap.size w w2 := ((Below.refl _ w).alloc (Nat.le_refl _) (.cells #[.bool a, .int .i64 D, .int .u8 W.toNat] 28)).drew.trans ((HB1.out.trans (HB2.out.mono HB1.out.size)).mono (Nat.le_of_lt hsz))
  have hz1 := HB1.out.size
  have hz1' : w.heap.size ≤ w1.heap.size := Nat.le_trans (Nat.le_of_lt hsz) hz1
  have HO3 := Lib.hid (HO2.out.less hz1')
  have HB3 := Lib.hid hb12
  clear hb12 hz1 hz1'
  go_wp2_with (at_builtin; refine wpList_append_bytes _ rfl (.tmp 19) (.tmp 22) 24 rfl w.heap.size 5 i0 Tryz.underlying24 hinf.out.1 hinf.out.2.1 hinf.out.2.2.1 hinf.out.2.2.2 _ _ rfl (HO3.out.alloc _) _ _ 1 1 [W] rfl (bs_lit w2 _ [W] _ _ rfl (by simp [bv])) (fun h => by cases h) (by rw [putB_length]; omega) (Nat.le_trans HB3.out.size (by simp)) ?_; intro v4 w4 hown4 hb4; have HO4 := Lib.hid hown4; have HB4 := Lib.hid ((HB3.out.alloc HB3.out.size _).trans hb4); clear hown4 hb4)
  rw [jump_ret]
  go_ret2
  exact ⟨_, rfl, HO4.out, HB4.out⟩
theorem fprank_tot (a : Bool) (D : Int) (W : UInt8) (w : World) :
    Calls Tryz.prog 88 #[.agg #[.bool a, .int .i64 D, .int .u8 W.toNat]] w fun e w' => ∃ v, e = .returned (.tuple #[v, .int .i64 (prE D)]) ∧ OwnB w' w.heap.size 5 v (prV a D W) ∧ Below w.heap.size w w' := by
  unfold prE prV
  by_cases h : RankIn D
  · simp only [if_pos h]
    obtain ⟨h1, h2⟩ := h
    obtain ⟨D, rfl⟩ := Int.eq_ofNat_of_zero_le h1
    exact fprank_yes a D W w (by omega)
  · simp only [if_neg h]
    refine (fprank_no a D _ w h).mono ?_
    rintro e w' ⟨rfl, hb⟩
    exact ⟨_, rfl, OwnB.nil_ _ _ _, hb⟩
theorem rprank_no (a : Bool) (D W : Int) (w : World) (h : ¬ RankIn D) :
    Calls Tryz.prog 51 #[.agg #[.bool a, .int .i64 D, .int .u8 W]] w fun e w' => e = .returned (.tuple #[.slice none 0 0, .int .i64 2]) ∧ Below w.heap.size w w' := by
  unfold RankIn at h
  by_cases h0 : D < 0
  · go_enter Tryz.func51, Tryz.ntmps51
    go_wp2
    go_ret2
    exact ⟨rfl, (Below.refl _ _).alloc (Nat.le_refl _) _⟩
  · have h1 : 2147483648 ≤ D := by omega
    clear h
    go_enter Tryz.func51, Tryz.ntmps51
    go_wp2
    go_ret2
    exact ⟨rfl, (Below.refl _ _).alloc (Nat.le_refl _) _⟩
theorem rput_rank (N : Nat) (w : World) (h : N < 4294967296) :
    Calls Tryz.prog 53 #[.int .i64 N, .int .i64 4] w fun e w' => ∃ v, e = .returned (.tuple #[v, .int .i64 0]) ∧ OwnB w' w.heap.size 5 v (putB N 4) ∧ Below w.heap.size w w' :=
  rput_ok N 4 w (by omega) (by omega) (by omega) (by have e : (256 : Int) ^ (4 : Int).toNat = 4294967296 := by decide
                                                     rw [e]; omega)
theorem rprank_yes (a : Bool) (D : Nat) (W : UInt8) (w : World) (h : D < 2147483648) :
    Calls Tryz.prog 51 #[.agg #[.bool a, .int .i64 D, .int .u8 W.toNat]] w fun e w' => ∃ v, e = .returned (.tuple #[v, .int .i64 0]) ∧ OwnB w' w.heap.size 5 v (putB (rkN a D) 4 ++ [W]) ∧ Below w.heap.size w w' := by
  have d : decide ((D : Int) < 0) = false := by simp
  have d2 : decide (2147483648 ≤ (D : Int)) = false := by simp; omega
  have hN : rkN a D < 4294967296 := by unfold rkN; split <;> omega
  obtain ⟨i0, hi, hz0, hz1, hz2⟩ := info_parts info_u8
  have hinf := Lib.hid (And.intro hi (And.intro hz0 (And.intro hz1 hz2)))
  clear hi hz0 hz1 hz2
  have HC0 := Lib.hid (c3_new w 28 (.bool a) (.int .i64 D) (.int .u8 W.toNat))
  have hsz : w.heap.size < (w.alloc (.cells #[.bool a, .int .i64 D, .int .u8 W.toNat] 28)).heap.size := by simp
  cases a
  · have hr : rkN false D = D := rfl
    rw [hr] at hN ⊢
    have HN := Lib.hid hN
    clear hN
    go_enter Tryz.func51, Tryz.ntmps51
    go_wp2_with (first
      | (go_at_call 53; refine (rput_rank D _ HN.out).mono ?_; rintro e w2 ⟨v2, rfl, ho2, hb2⟩; have HB2 := Lib.hid (((Below.refl _ w).alloc (Nat.le_refl _) _).trans (hb2.mono (Nat.le_of_lt hsz))); have HO2 := Lib.hid (ho2.less (Nat.le_of_lt hsz)); obtain ⟨c0, c1, c2⟩ := c3_al HC0.out hb2 hsz; clear ho2 hb2)
      | (at_builtin; refine wpList_append_bytes _ rfl (.tmp 26) (.tmp 29) 24 rfl w.heap.size 5 i0 Tryz.underlying24 hinf.out.1 hinf.out.2.1 hinf.out.2.2.1 hinf.out.2.2.2 _ _ rfl (HO2.out.alloc _) _ _ 1 1 [W] rfl (bs_lit w2 _ [W] _ _ rfl (by simp [bv])) (fun h => by cases h) (by rw [putB_length]; omega) (Nat.le_trans HB2.out.size (by simp)) ?_; intro v4 w4 hown4 hb4; have HO4 := Lib.hid hown4; have HB4 := Lib.hid ((HB2.out.alloc HB2.out.size _).trans hb4); clear hown4 hb4))
    go_ret2
    exact ⟨_, rfl, HO4.out, HB4.out⟩
  · have hr : rkN true D = D + 2147483648 := rfl
    rw [hr] at hN ⊢
    have HN := Lib.hid hN
    have hT : Hid (∀ w : World, Calls Tryz.prog 53 #[.int .i64 ((D : Int) + 2147483648), .int .i64 4] w fun e w' => ∃ v, e = .returned (.tuple #[v, .int .i64 0]) ∧ OwnB w' w.heap.size 5 v (putB (D + 2147483648) 4) ∧ Below w.heap.size w w') := Lib.hid (fun w => rput_rank (D + 2147483648) w hN)
    clear hN
    go_enter Tryz.func51, Tryz.ntmps51
    go_wp2_with (first
      | (go_at_call 53; refine (hT.out _).mono ?_; rintro e w2 ⟨v2, rfl, ho2, hb2⟩; have HB2 := Lib.hid (((Below.refl _ w).alloc (Nat.le_refl _) _).trans (hb2.mono (Nat.le_of_lt hsz))); have HO2 := Lib.hid (ho2.less (Nat.le_of_lt hsz)); obtain ⟨c0, c1, c2⟩ := c3_al HC0.out hb2 hsz; clear ho2 hb2)
      | (at_builtin; refine wpList_append_bytes _ rfl (.tmp 26) (.tmp 29) 24 rfl w.heap.size 5 i0 Tryz.underlying24 hinf.out.1 hinf.out.2.1 hinf.out.2.2.1 hinf.out.2.2.2 _ _ rfl (HO2.out.alloc _) _ _ 1 1 [W] rfl (bs_lit w2 _ [W] _ _ rfl (by simp [bv])) (fun h => by cases h) (by rw [putB_length]; omega) (Nat.le_trans HB2.out.size (by simp)) ?_; intro v4 w4 hown4 hb4; have HO4 := Lib.hid hown4; have HB4 := Lib.hid ((HB2.out.alloc HB2.out.size _).trans hb4); clear hown4 hb4))
    go_ret2
    exact ⟨_, rfl, HO4.out, HB4.out⟩
theorem rprank_tot (a : Bool) (D : Int) (W : UInt8) (w : World) :
    Calls Tryz.prog 51 #[.agg #[.bool a, .int .i64 D, .int .u8 W.toNat]] w fun e w' => ∃ v, e = .returned (.tuple #[v, .int .i64 (prE D)]) ∧ OwnB w' w.heap.size 5 v (prV a D W) ∧ Below w.heap.size w w' := by
  unfold prE prV
  by_cases h : RankIn D
  · simp only [if_pos h]
    obtain ⟨h1, h2⟩ := h
    obtain ⟨D, rfl⟩ := Int.eq_ofNat_of_zero_le h1
    exact rprank_yes a D W w (by omega)
  · simp only [if_neg h]
    refine (rprank_no a D _ w h).mono ?_
    rintro e w' ⟨rfl, hb⟩
    exact ⟨_, rfl, OwnB.nil_ _ _ _, hb⟩
end Go.Proofs.YtbflhphjnmhjhaaGreat
/- Walks of package field's TakeRank, and of the document's. -/
namespace Go.Proofs.YtbflhphjnmhjhaaGreat
open Go.RowKit Oct Fi
attribute [local go_sem] i64_and1 i64_and7 i64_and31

theorem tr4_lt (xs : List UInt8) : tr4 xs < 4294967296 := by
  have h1 := takeB_lt (xs.take 4)
  have h2 : (xs.take 4).length ≤ 4 := List.length_take_le _ _
  have h3 : 256 ^ (xs.take 4).length ≤ 256 ^ 4 := Nat.pow_le_pow_right (by decide) h2
  unfold tr4
  omega
theorem tr4_bit (xs : List UInt8) (h : 4 ≤ xs.length) : (((bitOf xs 0 : Nat) : Int) == 1) = decide (2147483648 ≤ tr4 xs) := by
  match xs, h with
  | a :: b :: c :: d :: r, _ =>
    have ha := a.toNat_lt
    have hb := b.toNat_lt
    have hc := c.toNat_lt
    have hd := d.toNat_lt
    have e1 : tr4 (a :: b :: c :: d :: r) = ((a.toNat * 256 + b.toNat) * 256 + c.toNat) * 256 + d.toNat := by simp [tr4, takeB]
    have e2 : bitOf (a :: b :: c :: d :: r) 0 = a.toNat / 128 % 2 := by simp [bitOf]
    rw [e1, e2, Bool.eq_iff_iff]
    simp
    omega
theorem bit0 (A : Option Addr) (n c : Nat) (xs : List UInt8) (w : World) (B : Nat) (hA : Bs w B A n xs) (h4 : 5 ≤ n) (hn : n ≤ 1000000) :
    Calls Tryz.prog 112 #[.slice A n c, .int .i64 0] w fun e w' => ∃ k : Int, (k == 1) = decide (2147483648 ≤ tr4 xs) ∧ e = .returned (.tuple #[.int .i64 k, .bool true]) ∧ w = w' := by
  refine (bit_yes A B n c xs 0 w hA (by omega) (by omega) hn).mono ?_
  rintro e w' ⟨rfl, rfl⟩
  exact ⟨_, tr4_bit xs (by have := hA.1; omega), rfl, rfl⟩
theorem stream0 (A : Option Addr) (n c : Nat) (xs : List UInt8) (w : World) (B : Nat) (hA : Bs w B A n xs) (h4 : 5 ≤ n) (hn : n ≤ 1000000) (hnc : n ≤ c) :
    Calls Tryz.prog 108 #[.slice A n c, .int .i64 0] w fun e w' => e = .returned (.tuple #[.int .i64 (tr4 xs % 2147483648 : Nat), .int .i64 0]) ∧ w = w' :=
  stream_ok A B n c xs 0 w hA (by omega) (by omega) hn hnc
theorem frank_any (b o n c : Nat) (q : Bool) (D W : Nat) (xs : List UInt8) (w : World) (hA : Bs w w.heap.size (some ⟨b, o, none⟩) n xs) (h5 : 5 ≤ n) (hn : n ≤ 1000000) (hnc : n ≤ c)
    (hq : decide (2147483648 ≤ tr4 xs) = q) (hD : tr4 xs % 2147483648 = D) (hW : (xs[4]?.getD 0).toNat = W) :
    Calls Tryz.prog 109 #[.slice (some ⟨b, o, none⟩) n c] w fun e w' => e = .returned (.agg #[.bool q, .int .i64 D, .int .u8 W]) ∧ Below w.heap.size w w' := by
  obtain ⟨b', o', e, hb, hc⟩ := hA.2 (by omega)
  cases e
  have h4 := hc 4 (by omega)
  rw [hW] at h4
  have HA := Lib.hid (hA.alloc (Nat.le_refl _) (.cells #[.bool false, .int .i64 0, .int .u8 0] 28))
  have HQ := Lib.hid hq
  have HD := Lib.hid hD
  clear hc hA hW hq hD
  have r4 : 4 < n := by omega
  go_enter Tryz.func109, Tryz.ntmps109
  go_wp2_with (first
    | (go_at_call 112; refine (bit0 _ n c xs _ _ HA.out h5 hn).mono ?_; rintro e w' ⟨k, hk, rfl, rfl⟩; rw [HQ.out] at hk)
    | (go_at_call 108; refine (stream0 _ n c xs _ _ HA.out h5 hn hnc).mono ?_; rintro e w' ⟨rfl, rfl⟩; rw [HD.out]))
  refine bodyPost_ret (v := .agg #[.bool q, .int .i64 D, .int .u8 W]) (by simp [results, Tryz.results109, go_sem]) rfl ⟨rfl, ?_⟩
  exact (Below.refl _ _).alloc (Nat.le_refl _) _
def C3 (w : World) (g : Nat) (a b c : Value) : Prop := w.cell? ⟨g, 0, none⟩ = some a ∧ w.cell? ⟨g, 1, none⟩ = some b ∧ w.cell? ⟨g, 2, none⟩ = some c
def set3 (w : World) (g : Nat) (u0 u1 u2 : Value) : World := ((w.setCell ⟨g, 0, none⟩ u0).setCell ⟨g, 1, none⟩ u1).setCell ⟨g, 2, none⟩ u2
section
variable {w w' : World} {g : Nat} {u0 u1 u2 : Value}
theorem C3.set (h : C3 w g u0 u1 u2) (v0 v1 v2 : Value) : C3 (set3 w g v0 v1 v2) g v0 v1 v2 := by
  obtain ⟨h0, h1, h2⟩ := h
  have ne : ∀ i j : Nat, i ≠ j → (⟨g, i, none⟩ : Addr) ≠ ⟨g, j, none⟩ := fun i j hij e => hij (by cases e; rfl)
  unfold C3 set3
  refine ⟨?_, ?_, ?_⟩
  · rw [World.cell?_setCell_other _ _ _ _ (ne 2 0 (by omega)), World.cell?_setCell_other _ _ _ _ (ne 1 0 (by omega))]
    exact World.cell?_setCell_same' _ _ _ (by rw [h0]; rfl)
  · rw [World.cell?_setCell_other _ _ _ _ (ne 2 1 (by omega))]
    refine World.cell?_setCell_same' _ _ _ ?_
    rw [World.cell?_setCell_other _ _ _ _ (ne 0 1 (by omega)), h1]; rfl
  · refine World.cell?_setCell_same' _ _ _ ?_
    rw [World.cell?_setCell_other _ _ _ _ (ne 1 2 (by omega)), World.cell?_setCell_other _ _ _ _ (ne 0 2 (by omega)), h2]; rfl
theorem C3.below {B : Nat} (h : C3 w g u0 u1 u2) (hb : Below B w w') (hg : g < B) : C3 w' g u0 u1 u2 := c3_al h hb hg
theorem set3_heap (w : World) (g : Nat) (u0 u1 u2 : Value) (k : Nat) (hk : k ≠ g) : (set3 w g u0 u1 u2).heap[k]? = w.heap[k]? := by
  unfold set3
  rw [Below.heap_setCell _ _ _ _ (by simpa using hk), Below.heap_setCell _ _ _ _ (by simpa using hk), Below.heap_setCell _ _ _ _ (by simpa using hk)]
theorem set3_below {B : Nat} {a : World} (h : Below B a w) (hg : B ≤ g) (u0 u1 u2 : Value) : Below B a (set3 w g u0 u1 u2) :=
  ((h.setCell (p := ⟨g, 0, none⟩) hg _).setCell (p := ⟨g, 1, none⟩) hg _).setCell (p := ⟨g, 2, none⟩) hg _
theorem set3_size (w : World) (g : Nat) (u0 u1 u2 : Value) : (set3 w g u0 u1 u2).heap.size = w.heap.size := by simp [set3, World.setCell]
end
theorem ftrank_no (A : Option Addr) (n c : Nat) (w : World) (h5 : n < 5) :
    Calls Tryz.prog 102 #[.slice A n c] w fun e w' => e = .returned (.tuple #[.agg #[.bool false, .int .i64 0, .int .u8 0], .slice none 0 0, .int .i64 10]) ∧ Below w.heap.size w w' := by
  go_enter Tryz.func102, Tryz.ntmps102
  go_wp2
  refine wp_scope_forward 0 rfl ?_
  go_wp2
  go_step3
  refine ⟨rfl, ?_⟩
  go_wp2
  rw [jump_ret]
  refine bodyPost_ret (v := .tuple #[.agg #[.bool false, .int .i64 0, .int .u8 0], .slice none 0 0, .int .i64 10]) (by simp [results, Tryz.results102, go_sem]) rfl ⟨rfl, ?_⟩
  exact (Below.refl _ _).alloc (Nat.le_refl _) _
theorem ftrank_yes (A : Option Addr) (n c : Nat) (q : Bool) (D W : Nat) (xs : List UInt8) (w : World) (hA : Bs w w.heap.size A n xs) (h5 : 5 ≤ n) (hn : n ≤ 1000000) (hnc : n ≤ c)
    (hq : decide (2147483648 ≤ tr4 xs) = q) (hD : tr4 xs % 2147483648 = D) (hW : (xs[4]?.getD 0).toNat = W) :
    Calls Tryz.prog 102 #[.slice A n c] w fun e w' => ∃ v, e = .returned (.tuple #[.agg #[.bool q, .int .i64 D, .int .u8 W], v, .int .i64 0]) ∧ OwnB w' w.heap.size 5 v (xs.drop 5) ∧ Below w.heap.size w w' := by
  obtain ⟨b, o, rfl, hb, hc⟩ := hA.2 (by omega)
  obtain ⟨A2, hA2, hcut⟩ : ∃ A2, (if c = 5 then some (⟨b, o, none⟩ : Addr) else some ⟨b, o + 5, none⟩) = A2 ∧ Bs w w.heap.size A2 (n - 5) (xs.drop 5) := ⟨_, rfl, hA.cut (k := 5) h5 hnc⟩
  have hN2 : A2 = none → c - 5 = 0 := fun h => if_some_ne (hA2.trans h)
  have HN := Lib.hid hN2
  have HA := Lib.hid (hA.on ((Below.refl _ w).alloc (Nat.le_refl _) (.cells #[.bool false, .int .i64 0, .int .u8 0] 28)).drew)
  have HD := Lib.hid (hcut.on ((Below.refl _ w).alloc (Nat.le_refl _) (.cells #[.bool false, .int .i64 0, .int .u8 0] 28)).drew)
  have hsz : w.heap.size < (w.alloc (.cells #[.bool false, .int .i64 0, .int .u8 0] 28)).drew.heap.size := by simp
  clear hc hA hcut hN2
  have HR : Hid (∀ W0 : World, Bs W0 W0.heap.size (some ⟨b, o, none⟩) n xs → Calls Tryz.prog 109 #[.slice (some ⟨b, o, none⟩) n c] W0 fun e w' => e = .returned (.agg #[.bool q, .int .i64 D, .int .u8 W]) ∧ Below W0.heap.size W0 w') := Lib.hid (fun W0 h => frank_any b o n c q D W xs W0 h h5 hn hnc hq hD hW)
  clear hq hD hW
  have g5 : (5 : Int) ≤ (n : Int) := by omega
  have g5c : (n : Int) ≤ (c : Int) := by omega
  go_enter Tryz.func102, Tryz.ntmps102
  go_wp2
  refine wp_scope_forward 0 rfl ?_
  go_wp2
  go_region_with (first
    | (go_at_call 109; refine (HR.out _ HA.out).mono ?_; rintro e w1 ⟨rfl, hb1⟩; have HB1 := Lib.hid hb1; clear hb1)
    | (go_at_call 101; refine (fown_any A2 _ _ (xs.drop 5) _ (HD.out.on HB1.out) HN.out (by omega)).mono ?_; rintro e w2 ⟨v2, rfl, hown2, hb2⟩; have HO2 := Lib.hid hown2; have HZ := Lib.hid HB1.out.size; have hb3 := HB1.out.trans (hb2.mono HB1.out.size); clear hown2 hb2; have HB3 := Lib.hid hb3; obtain ⟨hcc, hff⟩ := bcell hb3; clear hb3))
  go_wp2
  rw [jump_ret]
  have hz := HZ.out
  have hF3 : C3 w2 w.heap.size (.bool false) (.int .i64 0) (.int .u8 0) := (show C3 (w.alloc _).drew _ _ _ _ from c3_new w 28 _ _ _).below HB3.out hsz
  have hbel := set3_below (((Below.refl _ w).alloc (Nat.le_refl _) (.cells #[.bool false, .int .i64 0, .int .u8 0] 28)).drew.trans (HB3.out.mono (by simp))) (Nat.le_refl _) (.bool q) (.int .i64 D) (.int .u8 W)
  have hown : OwnB (set3 w2 w.heap.size (.bool q) (.int .i64 D) (.int .u8 W)) w.heap.size 5 v2 (xs.drop 5) :=
    (HO2.out.above fun k hk => set3_heap _ _ _ _ _ _ (by simp at hz; omega)).less (by simp at hz; omega)
  obtain ⟨f0, f1, f2⟩ := hF3.set (.bool q) (.int .i64 D) (.int .u8 W)
  unfold set3 at f0 f1 f2
  refine bodyPost_ret (v := .tuple #[.agg #[.bool q, .int .i64 D, .int .u8 W], v2, .int .i64 0]) (by simp [results, Tryz.results102, go_sem, f0, f1, f2]) rfl ⟨v2, rfl, hown, hbel⟩
theorem ftrank_tot (A : Option Addr) (n c : Nat) (xs : List UInt8) (w : World) (hA : Bs w w.heap.size A n xs) (hn : n ≤ 1000000) (hnc : n ≤ c) :
    Calls Tryz.prog 102 #[.slice A n c] w fun e w' => ∃ v, e = .returned (.tuple #[.agg #[.bool (trA xs n), .int .i64 (trD xs n), .int .u8 (trW xs n)], v, .int .i64 (trE n)]) ∧ OwnB w' w.heap.size 5 v (trR xs n) ∧ Below w.heap.size w w' := by
  unfold trA trD trW trE trR
  by_cases h : 5 ≤ n
  · simp only [if_pos h]
    exact ftrank_yes A n c _ _ _ xs w hA h hn hnc rfl rfl rfl
  · simp only [if_neg h]
    refine (ftrank_no A n c w (by omega)).mono ?_
    rintro e w' ⟨rfl, hb⟩
    exact ⟨_, rfl, OwnB.nil_ _ _ _, hb⟩
theorem rtrank_no (A : Option Addr) (n c : Nat) (w : World) (h5 : n < 5) :
    Calls Tryz.prog 44 #[.slice A n c] w fun e w' => e = .returned (.tuple #[.agg #[.bool false, .int .i64 0, .int .u8 0], .slice none 0 0, .int .i64 10]) ∧ Below w.heap.size w w' := by
  go_enter Tryz.func44, Tryz.ntmps44
  go_wp2
  refine bodyPost_ret (v := .tuple #[.agg #[.bool false, .int .i64 0, .int .u8 0], .slice none 0 0, .int .i64 10]) (by simp [results, Tryz.results44, go_sem]) rfl ⟨rfl, ?_⟩
  exact (Below.refl _ _).alloc (Nat.le_refl _) _
theorem rtake4 (A : Option Addr) (B n c : Nat) (xs : List UInt8) (w : World) (hA : Bs w B A n xs) (h5 : 5 ≤ n) (hn : n ≤ 1000000) :
    Calls Tryz.prog 79 #[.slice A n c, .int .i64 0, .int .i64 4] w fun e w' => e = .returned (.tuple #[.int .i64 (tr4 xs : Nat), .int .i64 0]) ∧ w = w' :=
  rtake_ok A B n c xs 0 4 w hA (by omega) (by omega) (by omega) (by omega) hn
theorem cell_set3 {w : World} {b o q : Nat} {u0 u1 u2 v : Value} (hne : b ≠ q) (h : w.cell? ⟨b, o, none⟩ = some v) :
    (((w.setCell ⟨q, 0, none⟩ u0).setCell ⟨q, 1, none⟩ u1).setCell ⟨q, 2, none⟩ u2).cell? ⟨b, o, none⟩ = some v := by
  have ne : ∀ i, (⟨q, i, none⟩ : Addr) ≠ ⟨b, o, none⟩ := fun i e => hne (by cases e; rfl)
  rw [World.cell?_setCell_other _ _ _ _ (ne 2), World.cell?_setCell_other _ _ _ _ (ne 1), World.cell?_setCell_other _ _ _ _ (ne 0), h]
theorem c3_frozen {w w5 : World} {t : TypeId} {a b c : Value} {B : Nat} (hb : Below B (w.alloc (.cells #[a, b, c] t)) w5) (hB : w.heap.size < B) : ∀ j, w5.frozen? ⟨w.heap.size, j, none⟩ = false := fun j => by
  rw [(bcell hb).2 _ j hB]
  simp [go_sem]
set_option maxHeartbeats 1000000 in
theorem rtrank_yes (A : Option Addr) (n c : Nat) (q : Bool) (D W : Nat) (xs : List UInt8) (w : World) (hA : Bs w w.heap.size A n xs) (h5 : 5 ≤ n) (hn : n ≤ 1000000) (hnc : n ≤ c)
    (hq : decide (2147483648 ≤ tr4 xs) = q) (hD : tr4 xs % 2147483648 = D) (hW : (xs[4]?.getD 0).toNat = W) :
    Calls Tryz.prog 44 #[.slice A n c] w fun e w' => ∃ v, e = .returned (.tuple #[.agg #[.bool q, .int .i64 D, .int .u8 W], v, .int .i64 0]) ∧ OwnB w' w.heap.size 5 v (xs.drop 5) ∧ Below w.heap.size w w' := by
  obtain ⟨b, o, rfl, hb, hc⟩ := hA.2 (by omega)
  have h4 := hc 4 (by omega)
  rw [hW] at h4
  obtain ⟨A2, hA2, hcut⟩ : ∃ A2, (if c = 5 then some (⟨b, o, none⟩ : Addr) else some ⟨b, o + 5, none⟩) = A2 ∧ Bs w w.heap.size A2 (n - 5) (xs.drop 5) := ⟨_, rfl, hA.cut (k := 5) h5 hnc⟩
  have hN2 : A2 = none → c - 5 = 0 := fun h => if_some_ne (hA2.trans h)
  have HN := Lib.hid hN2
  have HA := Lib.hid hA
  have HD := Lib.hid hcut
  clear hc hA hcut hN2 hW
  have ht4 := tr4_lt xs
  have hT : Hid (∀ W0 : World, Bs W0 w.heap.size (some ⟨b, o, none⟩) n xs → Calls Tryz.prog 79 #[.slice (some ⟨b, o, none⟩) n c, .int .i64 0, .int .i64 4] W0 fun e w' => e = .returned (.tuple #[.int .i64 (tr4 xs : Nat), .int .i64 0]) ∧ W0 = w') := Lib.hid (fun W0 h => rtake4 _ _ n c xs W0 h h5 hn)
  generalize tr4 xs = N at *
  have m1 : IntKind.i64.wrap ((N : Int).tmod 2147483648) = (D : Int) := by rw [Int.tmod_eq_emod_of_nonneg (by omega), IntKind.wrap_i64]; omega
  have m2 : (N : Int).tmod 2147483648 = (D : Int) := by rw [Int.tmod_eq_emod_of_nonneg (by omega)]; omega
  have m3 : decide (2147483648 ≤ (N : Int)) = q := by rw [← hq, Bool.eq_iff_iff]; simp; omega
  obtain ⟨i0, hi, hz0, hz1, hz2⟩ := info_parts info_u8
  have hinf := Lib.hid (And.intro hi (And.intro hz0 (And.intro hz1 hz2)))
  clear hi hz0 hz1 hz2
  have g5 : (5 : Int) ≤ (n : Int) := by omega
  have g5c : (n : Int) ≤ (c : Int) := by omega
  have r4 : (4 : Int) < (n : Int) := by omega
  have r4' : 4 < n := by omega
  have hbne : b ≠ w.heap.size := by omega
  clear hq hD
  go_enter Tryz.func44, Tryz.ntmps44
  go_wp2_with (go_at_call 79; refine (hT.out _ (HA.out.alloc (Nat.le_refl _) _)).mono ?_; rintro e w' ⟨rfl, rfl⟩)
  have HFR : Hid (∀ w5, Below (w.alloc (.cells #[.bool false, .int .i64 0, .int .u8 0] 28)).heap.size (w.alloc (.cells #[.bool false, .int .i64 0, .int .u8 0] 28)) w5 → C3 w5 w.heap.size (.bool false) (.int .i64 0) (.int .u8 0) ∧ ∀ j, w5.frozen? ⟨w.heap.size, j, none⟩ = false) :=
    Lib.hid (fun w5 h => ⟨C3.below (c3_new w 28 _ _ _) h (by simp), c3_frozen h (by simp)⟩)
  have hb0 : Below w.heap.size w (w.alloc (.cells #[.bool false, .int .i64 0, .int .u8 0] 28)) := (Below.refl _ _).alloc (Nat.le_refl _) _
  have hsz : (w.alloc (.cells #[.bool false, .int .i64 0, .int .u8 0] 28)).heap.size = w.heap.size + 1 := by simp
  have h40 := cell_on hb0 hb h4
  generalize w.alloc (.cells #[.bool false, .int .i64 0, .int .u8 0] 28) = w0 at *
  have HB0 := Lib.hid hb0
  have H4 := Lib.hid h40
  have hbl : b < w0.heap.size := by omega
  have hsz' : w.heap.size < w0.heap.size := by omega
  have hsz'' : w.heap.size ≤ w0.heap.size := by omega
  clear hb0 h40 h4
  go_region_held3 (fun W' => W'.cell? ⟨b, o + 4, none⟩ = some (.int .u8 W))
    (first
      | with_reducible exact H4.out
      | with_reducible exact cell_drew H4.out
      | with_reducible exact cell_al hbl H4.out
      | with_reducible exact cell_drew (cell_al hbl H4.out)
      | with_reducible exact H5.out
      | with_reducible exact cell_drew H5.out
      | with_reducible exact cell_set3 hbne H5.out)
    ((refine step_append_full _ (by rfl) (.tmp 24) (.tmp 26) 24 (by rfl) w0.heap.size 5 i0 Tryz.underlying24 hinf.out.1 hinf.out.2.1 hinf.out.2.2.1 hinf.out.2.2.2 _ [] (by rfl) ?c1 w.heap.size A2 (n - 5) (c - 5) (xs.drop 5) (by rfl) ?c2 HN.out ?c3 ?c4 ?_; (case c1 => exact OwnB.drew (OwnB.lit2 w0 _ _ _ hsz (by omega))); (case c2 => exact ((HD.out.below HB0.out).alloc hsz'' _).drew); (case c3 => simp; omega); (case c4 => simp); intro v5 w5 hown5 hb5 _ _ _; have HO5 := Lib.hid hown5; have HB5 := Lib.hid (((Below.refl _ w0).alloc (Nat.le_refl _) _).drew.trans hb5); clear hown5 hb5; have H5 := Lib.hid (cell_on HB5.out hbl H4.out); have hF5 := HFR.out _ HB5.out; have HF5 := Lib.hid hF5.1; obtain ⟨⟨p0, p1, p2⟩, hfr⟩ := hF5))
  go_wp2
  have hbel := set3_below (HB0.out.trans (HB5.out.mono hsz'')) (Nat.le_refl _) (.bool q) (.int .i64 D) (.int .u8 W)
  have hown := (HO5.out.above (w' := set3 w5 w.heap.size (.bool q) (.int .i64 D) (.int .u8 W)) (fun k hk => set3_heap _ _ _ _ _ _ (by omega))).less (B' := w.heap.size) (by omega)
  rw [List.nil_append] at hown
  obtain ⟨f0, f1, f2⟩ := HF5.out.set (.bool q) (.int .i64 D) (.int .u8 W)
  unfold set3 at f0 f1 f2
  refine bodyPost_ret (v := .tuple #[.agg #[.bool q, .int .i64 D, .int .u8 W], v5, .int .i64 0]) (by simp [results, Tryz.results44, go_sem, f0, f1, f2]) rfl ⟨v5, rfl, hown, hbel⟩
theorem rtrank_tot (A : Option Addr) (n c : Nat) (xs : List UInt8) (w : World) (hA : Bs w w.heap.size A n xs) (hn : n ≤ 1000000) (hnc : n ≤ c) :
    Calls Tryz.prog 44 #[.slice A n c] w fun e w' => ∃ v, e = .returned (.tuple #[.agg #[.bool (trA xs n), .int .i64 (trD xs n), .int .u8 (trW xs n)], v, .int .i64 (trE n)]) ∧ OwnB w' w.heap.size 5 v (trR xs n) ∧ Below w.heap.size w w' := by
  unfold trA trD trW trE trR
  by_cases h : 5 ≤ n
  · simp only [if_pos h]
    exact rtrank_yes A n c _ _ _ xs w hA h hn hnc rfl rfl rfl
  · simp only [if_neg h]
    refine (rtrank_no A n c w (by omega)).mono ?_
    rintro e w' ⟨rfl, hb⟩
    exact ⟨_, rfl, OwnB.nil_ _ _ _, hb⟩
end Go.Proofs.YtbflhphjnmhjhaaGreat
/- Walks of package field's PutPairs, and of the document's. -/
namespace Go.Proofs.YtbflhphjnmhjhaaGreat
open Go.RowKit Oct Fi
attribute [local go_sem] i64_and1 i64_and7 i64_and31

theorem ppV_step (l : List Pr) (j : Nat) (x : Pr) (h : l[j]? = some x) : ppV (l.take j) ++ putB x.1.toNat 2 ++ putB x.2.toNat 4 = ppV (l.take (j + 1)) := by
  obtain ⟨hj, hx⟩ := List.getElem?_eq_some_iff.1 h
  rw [← List.take_append_getElem hj, hx]
  simp [ppV, pairB]
theorem ppV_len (l : List Pr) : (ppV l).length = 6 * l.length := by
  induction l with
  | nil => rfl
  | cons x l ih => simp only [ppV, List.flatMap_cons, List.length_append, List.length_cons] at *; rw [ih]; simp [pairB, putB_length]; omega
theorem pput2 (x : UInt16) (w : World) :
    Calls Tryz.prog 82 #[.int .i64 x.toNat, .int .i64 2] w fun e w' => ∃ v, e = .returned (.tuple #[v, .int .i64 0]) ∧ OwnB w' w.heap.size 5 v (putB x.toNat 2) ∧ Below w.heap.size w w' :=
  put_ok x.toNat 2 w (by omega) (by omega) (by omega) (by have := x.toNat_lt; have e : (256 : Int) ^ (2 : Int).toNat = 65536 := by decide
                                                          rw [e]; omega)
theorem pput4 (x : UInt32) (w : World) :
    Calls Tryz.prog 82 #[.int .i64 x.toNat, .int .i64 4] w fun e w' => ∃ v, e = .returned (.tuple #[v, .int .i64 0]) ∧ OwnB w' w.heap.size 5 v (putB x.toNat 4) ∧ Below w.heap.size w w' :=
  put_ok x.toNat 4 w (by omega) (by omega) (by omega) (by have := x.toNat_lt; have e : (256 : Int) ^ (4 : Int).toNat = 4294967296 := by decide
                                                          rw [e]; omega)
theorem rpput2 (x : UInt16) (w : World) :
    Calls Tryz.prog 53 #[.int .i64 x.toNat, .int .i64 2] w fun e w' => ∃ v, e = .returned (.tuple #[v, .int .i64 0]) ∧ OwnB w' w.heap.size 5 v (putB x.toNat 2) ∧ Below w.heap.size w w' :=
  rput_ok x.toNat 2 w (by omega) (by omega) (by omega) (by have := x.toNat_lt; have e : (256 : Int) ^ (2 : Int).toNat = 65536 := by decide
                                                           rw [e]; omega)
theorem rpput4 (x : UInt32) (w : World) :
    Calls Tryz.prog 53 #[.int .i64 x.toNat, .int .i64 4] w fun e w' => ∃ v, e = .returned (.tuple #[v, .int .i64 0]) ∧ OwnB w' w.heap.size 5 v (putB x.toNat 4) ∧ Below w.heap.size w w' :=
  rput_ok x.toNat 4 w (by omega) (by omega) (by omega) (by have := x.toNat_lt; have e : (256 : Int) ^ (4 : Int).toNat = 4294967296 := by decide
                                                           rw [e]; omega)
set_option maxHeartbeats 1000000 in
theorem fpp_any (A : Option Addr) (n c : Nat) (l : List Pr) (w : World) (hA : Ps w w.heap.size A n l) (hn : n ≤ 10000) :
    Calls Tryz.prog 94 #[.slice A n c] w fun e w' => ∃ v, e = .returned v ∧ OwnB w' w.heap.size 5 v (ppV l) ∧ Below w.heap.size w w' := by
  obtain ⟨i0, hi, hz0, hz1, hz2⟩ := info_parts info_u8
  have hinf := Lib.hid (And.intro hi (And.intro hz0 (And.intro hz1 hz2)))
  have HA := Lib.hid hA
  clear hi hz0 hz1 hz2 hA
  go_enter Tryz.func94, Tryz.ntmps94
  go_wp2
  go_loopw [3, 12] (fun a t wr => ∃ j : Nat, j ≤ n ∧ t = .int .i64 j ∧ OwnB wr w.heap.size 5 a (ppV (l.take j)) ∧ Below w.heap.size w wr) (fun _ t _ => n - (intOf t).toNat)
  case atStart => exact ⟨0, Nat.zero_le _, rfl, OwnB.nil_ _ _ _, Below.refl _ _⟩
  case round =>
    obtain ⟨j, hj, rfl, hown, hbel⟩ := hrel
    have HO := Lib.hid hown
    have HB := Lib.hid hbel
    clear hown hbel
    by_cases hlt : j < n
    · obtain ⟨b, o, rfl, hb, hc⟩ := ps_cell HA.out (by omega)
      obtain ⟨x, hx, hc1, hc2⟩ := hc j hlt
      have h1 := (HB.out.cell (p := ⟨b, o + j * 2, none⟩) hb).trans hc1
      have h2 := (HB.out.cell (p := ⟨b, o + (j * 2 + 1), none⟩) hb).trans hc2
      rw [← Nat.add_assoc] at h2
      have HX := Lib.hid (ppV_step l j x hx)
      have HLn : Hid ((ppV (l.take j)).length ≤ 60000) := Lib.hid (by rw [ppV_len, List.length_take]; omega)
      have hx1 := x.1.toNat_lt
      have hx2 := x.2.toNat_lt
      clear hc hx hc1 hc2
      have HC0 := Lib.hid (c2_new wr 79 (.int .u16 x.1.toNat) (.int .u32 x.2.toNat))
      have hsz : wr.heap.size < (wr.alloc (.cells #[.int .u16 x.1.toNat, .int .u32 x.2.toNat] 79)).heap.size := by simp
      have HB0 : Hid (Below w.heap.size w (wr.alloc (.cells #[.int .u16 x.1.toNat, .int .u32 x.2.toNat] 79))) := Lib.hid (HB.out.alloc HB.out.size _)
      go_wp2_with (first
        | (go_at_call 82; (with_reducible refine (pput2 x.1 _).mono ?_); rintro e w1 ⟨v1, rfl, ho1, hb1⟩; obtain ⟨A1, k1, rfl, hk1, hn1, hr1⟩ := ho1.form2 (putB_length _ _); have HR1 := Lib.hid hr1; have HN1 := Lib.hid hn1; have HB1 := Lib.hid hb1; have HC1 := Lib.hid (c2_on HC0.out hb1 hsz); obtain ⟨c0, c1⟩ := HC1.out; clear ho1 hr1 hn1 hb1)
        | (go_at_call 82; (with_reducible refine (pput4 x.2 _).mono ?_); rintro e w2 ⟨v2, rfl, ho2, hb2⟩; obtain ⟨A2, k2, rfl, hk2, hn2, hr2⟩ := ho2.form2 (putB_length _ _); have HR2 := Lib.hid hr2; have HN2 := Lib.hid hn2; have HB2 := Lib.hid (HB1.out.trans (hb2.mono HB1.out.size)); have HR12 := Lib.hid (HR1.out.below hb2); have HBT := Lib.hid (HB0.out.trans (HB2.out.mono HB0.out.size)); have HO2 := Lib.hid ((HO.out.alloc (.cells #[.int .u16 x.1.toNat, .int .u32 x.2.toNat] 79)).kept HB2.out); have HE2 := Lib.hid (ne_own HO.out ho2 (Nat.le_trans (Nat.le_of_lt hsz) HB1.out.size)); clear ho2 hr2 hn2 hb2)
        | (at_builtin; refine wpList_append_at _ rfl (.tmp 30) (.tmp 31) 24 rfl w.heap.size 5 i0 Tryz.underlying24 hinf.out.1 hinf.out.2.1 hinf.out.2.2.1 hinf.out.2.2.2 _ _ rfl HO2.out _ A1 2 k1 _ rfl HR12.out HN1.out (by have := HLn.out; omega) HBT.out.size ?_; intro v3 w3 hown3 hb3 hg3; have HO3 := Lib.hid hown3; have HB3 := Lib.hid (HBT.out.trans hb3); have HR23 := Lib.hid (HR2.out.grown hg3 (Nat.le_refl _) HE2.out); clear hown3 hb3 hg3)
        | (at_builtin; refine wpList_append_bytes _ rfl (.tmp 32) (.tmp 33) 24 rfl w.heap.size 5 i0 Tryz.underlying24 hinf.out.1 hinf.out.2.1 hinf.out.2.2.1 hinf.out.2.2.2 _ _ rfl HO3.out _ A2 4 k2 _ rfl HR23.out HN2.out (by rw [List.length_append, putB_length]; have := HLn.out; omega) HB3.out.size ?_; intro v4 w4 hown4 hb4; rw [HX.out] at hown4; have HO4 := Lib.hid hown4; have HB4 := Lib.hid (HB3.out.trans hb4); clear hown4 hb4))
      go_roundw
      case rel => exact ⟨j + 1, by omega, by go_num, HO4.out, HB4.out⟩
      case measure => simp [intOf]; omega
    · obtain rfl : j = n := by omega
      rw [List.take_of_length_le (by have := HA.out.1; omega)] at HO
      go_wp2
      go_ret
      exact ⟨_, rfl, HO.out, HB.out⟩
set_option maxHeartbeats 1000000 in
theorem rpp_any (A : Option Addr) (n c : Nat) (l : List Pr) (w : World) (hA : Ps w w.heap.size A n l) (hn : n ≤ 10000) :
    Calls Tryz.prog 52 #[.slice A n c] w fun e w' => ∃ v, e = .returned v ∧ OwnB w' w.heap.size 5 v (ppV l) ∧ Below w.heap.size w w' := by
  obtain ⟨i0, hi, hz0, hz1, hz2⟩ := info_parts info_u8
  have hinf := Lib.hid (And.intro hi (And.intro hz0 (And.intro hz1 hz2)))
  have HA := Lib.hid hA
  clear hi hz0 hz1 hz2 hA
  go_enter Tryz.func52, Tryz.ntmps52
  go_wp2
  go_loopw [3, 4] (fun a t wr => ∃ j : Nat, j ≤ n ∧ t = .int .i64 j ∧ OwnB wr w.heap.size 5 a (ppV (l.take j)) ∧ Below w.heap.size w wr) (fun _ t _ => n - (intOf t).toNat)
  case atStart => exact ⟨0, Nat.zero_le _, rfl, OwnB.nil_ _ _ _, Below.refl _ _⟩
  case round =>
    obtain ⟨j, hj, rfl, hown, hbel⟩ := hrel
    have HO := Lib.hid hown
    have HB := Lib.hid hbel
    clear hown hbel
    by_cases hlt : j < n
    · obtain ⟨b, o, rfl, hb, hc⟩ := ps_cell HA.out (by omega)
      obtain ⟨x, hx, hc1, hc2⟩ := hc j hlt
      have h1 := (HB.out.cell (p := ⟨b, o + j * 2, none⟩) hb).trans hc1
      have h2 := (HB.out.cell (p := ⟨b, o + (j * 2 + 1), none⟩) hb).trans hc2
      rw [← Nat.add_assoc] at h2
      have H2 := Lib.hid h2
      have HX := Lib.hid (ppV_step l j x hx)
      have HLn : Hid ((ppV (l.take j)).length ≤ 60000) := Lib.hid (by rw [ppV_len, List.length_take]; omega)
      have hx1 := x.1.toNat_lt
      have hx2 := x.2.toNat_lt
      have hbw : b < wr.heap.size := Nat.lt_of_lt_of_le hb HB.out.size
      clear hc hx hc1 hc2 h2
      go_wp2_with (first
        | (go_at_call 53; (with_reducible refine (rpput2 x.1 _).mono ?_); rintro e w1 ⟨v1, rfl, ho1, hb1⟩; obtain ⟨A1, k1, rfl, hk1, hn1, hr1⟩ := ho1.form2 (putB_length _ _); have HR1 := Lib.hid hr1; have HN1 := Lib.hid hn1; have HB1 := Lib.hid hb1; have h2' := (hb1.cell (p := ⟨b, o + j * 2 + 1, none⟩) hbw).trans H2.out; clear ho1 hr1 hn1 hb1)
        | (go_at_call 53; (with_reducible refine (rpput4 x.2 _).mono ?_); rintro e w2 ⟨v2, rfl, ho2, hb2⟩; obtain ⟨A2, k2, rfl, hk2, hn2, hr2⟩ := ho2.form2 (putB_length _ _); have HR2 := Lib.hid hr2; have HN2 := Lib.hid hn2; have HB2 := Lib.hid (HB1.out.trans (hb2.mono HB1.out.size)); have HR12 := Lib.hid (HR1.out.below hb2); have HBT := Lib.hid (HB.out.trans (HB2.out.mono HB.out.size)); have HO2 := Lib.hid (HO.out.kept HB2.out); have HE2 := Lib.hid (ne_own HO.out ho2 HB1.out.size); clear ho2 hr2 hn2 hb2)
        | (at_builtin; refine wpList_append_at _ rfl (.tmp 35) (.tmp 36) 24 rfl w.heap.size 5 i0 Tryz.underlying24 hinf.out.1 hinf.out.2.1 hinf.out.2.2.1 hinf.out.2.2.2 _ _ rfl HO2.out _ A1 2 k1 _ rfl HR12.out HN1.out (by have := HLn.out; omega) HBT.out.size ?_; intro v3 w3 hown3 hb3 hg3; have HO3 := Lib.hid hown3; have HB3 := Lib.hid (HBT.out.trans hb3); have HR23 := Lib.hid (HR2.out.grown hg3 (Nat.le_refl _) HE2.out); clear hown3 hb3 hg3)
        | (at_builtin; refine wpList_append_bytes _ rfl (.tmp 37) (.tmp 38) 24 rfl w.heap.size 5 i0 Tryz.underlying24 hinf.out.1 hinf.out.2.1 hinf.out.2.2.1 hinf.out.2.2.2 _ _ rfl HO3.out _ A2 4 k2 _ rfl HR23.out HN2.out (by rw [List.length_append, putB_length]; have := HLn.out; omega) HB3.out.size ?_; intro v4 w4 hown4 hb4; rw [HX.out] at hown4; have HO4 := Lib.hid hown4; have HB4 := Lib.hid (HB3.out.trans hb4); clear hown4 hb4))
      go_roundw
      case rel => exact ⟨j + 1, by omega, by go_num, HO4.out, HB4.out⟩
      case measure => simp [intOf]; omega
    · obtain rfl : j = n := by omega
      rw [List.take_of_length_le (by have := HA.out.1; omega)] at HO
      go_wp2
      go_ret
      exact ⟨_, rfl, HO.out, HB.out⟩
end Go.Proofs.YtbflhphjnmhjhaaGreat
/- Walks of the document's TakePairs; what both take at a place. -/
namespace Go.Proofs.YtbflhphjnmhjhaaGreat
open Go.RowKit Oct Fi
attribute [local go_sem] i64_and1 i64_and7 i64_and31

theorem takeB_le (xs : List UInt8) (d k : Nat) : takeB ((xs.drop d).take k) < 256 ^ k := by
  have h1 := takeB_lt ((xs.drop d).take k)
  have h2 : ((xs.drop d).take k).length ≤ k := List.length_take_le _ _
  exact Nat.lt_of_lt_of_le h1 (Nat.pow_le_pow_right (by decide) h2)
theorem pairAt_1 (xs : List UInt8) (j : Nat) : takeB ((xs.drop (j * 6)).take 2) = (pairAt xs j).1.toNat := by
  have h := takeB_le xs (j * 6) 2
  simp only [pairAt, UInt16.toNat_ofNat']
  omega
theorem pairAt_2 (xs : List UInt8) (j : Nat) : takeB ((xs.drop (j * 6 + 2)).take 4) = (pairAt xs j).2.toNat := by
  have h := takeB_le xs (j * 6 + 2) 4
  simp only [pairAt, UInt32.toNat_ofNat']
  omega
theorem rtakeP1 (A : Option Addr) (B n c : Nat) (xs : List UInt8) (j : Nat) (w : World) (hA : Bs w B A n xs) (hn : n ≤ 1000000) (hj : j * 6 + 6 ≤ n) :
    Calls Tryz.prog 79 #[.slice A n c, .int .i64 ((j : Int) * 6), .int .i64 2] w fun e w' => e = .returned (.tuple #[.int .i64 ((pairAt xs j).1.toNat : Int), .int .i64 0]) ∧ w = w' := by
  have h := rtake_ok A B n c xs ((j : Int) * 6) 2 w hA (by omega) (by omega) (by omega) (by omega) hn
  rw [show ((j : Int) * 6).toNat = j * 6 from by omega, show (2 : Int).toNat = 2 from rfl, pairAt_1] at h
  exact h
theorem rtakeP2 (A : Option Addr) (B n c : Nat) (xs : List UInt8) (j : Nat) (w : World) (hA : Bs w B A n xs) (hn : n ≤ 1000000) (hj : j * 6 + 6 ≤ n) :
    Calls Tryz.prog 79 #[.slice A n c, .int .i64 ((j : Int) * 6 + 2), .int .i64 4] w fun e w' => e = .returned (.tuple #[.int .i64 ((pairAt xs j).2.toNat : Int), .int .i64 0]) ∧ w = w' := by
  have h := rtake_ok A B n c xs ((j : Int) * 6 + 2) 4 w hA (by omega) (by omega) (by omega) (by omega) hn
  rw [show ((j : Int) * 6 + 2).toNat = j * 6 + 2 from by omega, show (4 : Int).toNat = 4 from rfl, pairAt_2] at h
  exact h
theorem ftakeP1 (A : Option Addr) (B n c : Nat) (xs : List UInt8) (j : Nat) (w : World) (hA : Bs w B A n xs) (hn : n ≤ 1000000) (hnc : n ≤ c) (hj : j * 6 + 6 ≤ n) :
    Calls Tryz.prog 104 #[.slice A n c, .int .i64 ((j : Int) * 6), .int .i64 2] w fun e w' => e = .returned (.tuple #[.int .i64 ((pairAt xs j).1.toNat : Int), .int .i64 0]) ∧ w = w' := by
  have h := take_ok A B n c xs ((j : Int) * 6) 2 w hA (by omega) (by omega) (by omega) (by omega) hn hnc
  rw [show ((j : Int) * 6).toNat = j * 6 from by omega, show (2 : Int).toNat = 2 from rfl, pairAt_1] at h
  exact h
theorem ftakeP2 (A : Option Addr) (B n c : Nat) (xs : List UInt8) (j : Nat) (w : World) (hA : Bs w B A n xs) (hn : n ≤ 1000000) (hnc : n ≤ c) (hj : j * 6 + 6 ≤ n) :
    Calls Tryz.prog 104 #[.slice A n c, .int .i64 ((j : Int) * 6 + 2), .int .i64 4] w fun e w' => e = .returned (.tuple #[.int .i64 ((pairAt xs j).2.toNat : Int), .int .i64 0]) ∧ w = w' := by
  have h := take_ok A B n c xs ((j : Int) * 6 + 2) 4 w hA (by omega) (by omega) (by omega) (by omega) hn hnc
  rw [show ((j : Int) * 6 + 2).toNat = j * 6 + 2 from by omega, show (4 : Int).toNat = 4 from rfl, pairAt_2] at h
  exact h
/-- The pairs up to a place. -/
def upP (xs : List UInt8) (j : Nat) : List Pr := (List.range j).map (pairAt xs)
theorem upP_len (xs : List UInt8) (j : Nat) : (upP xs j).length = j := by simp [upP]
theorem upP_step (xs : List UInt8) (j : Nat) : upP xs j ++ [pairAt xs j] = upP xs (j + 1) := by simp [upP, List.range_succ]
theorem info_pair : (Tryz.prog.info? 79).map (fun i => (i.zero, i.size, i.bytes)) = some (some (.agg #[.int .u16 0, .int .u32 0]), 2, 8) := by kernel_rfl
set_option maxHeartbeats 1000000 in
theorem rtp_yes (A : Option Addr) (n c m : Nat) (xs : List UInt8) (w : World) (hA : Bs w w.heap.size A n xs) (hn : n ≤ 1000000) (hm : n = m * 6) :
    Calls Tryz.prog 46 #[.slice A n c] w fun e w' => ∃ v, e = .returned (.tuple #[v, .int .i64 0]) ∧ OwnP w' w.heap.size 79 v (upP xs m) ∧ Below w.heap.size w w' := by
  obtain ⟨i0, hi, hz0, hz1, hz2⟩ := info_parts info_pair
  have hinf := Lib.hid (And.intro hi (And.intro hz0 (And.intro hz1 hz2)))
  have HA := Lib.hid hA
  clear hi hz0 hz1 hz2 hA
  subst hm
  go_enter Tryz.func46, Tryz.ntmps46
  go_wp2
  go_loopw [4, 5] (fun a t wr => ∃ j : Nat, j ≤ m ∧ t = .int .i64 ((j : Int) * 6) ∧ OwnP wr w.heap.size 79 a (upP xs j) ∧ Below w.heap.size w wr) (fun _ t _ => m - (intOf t / 6).toNat)
  case atStart => exact ⟨0, Nat.zero_le _, rfl, OwnP.nil_ _ _ _, Below.refl _ _⟩
  case round =>
    obtain ⟨j, hj, rfl, hown, hbel⟩ := hrel
    have HO := Lib.hid hown
    have HB := Lib.hid hbel
    clear hown hbel
    by_cases hlt : j < m
    · have HA1 := Lib.hid (HA.out.below HB.out)
      have hx1 := (pairAt xs j).1.toNat_lt
      have hx2 := (pairAt xs j).2.toNat_lt
      have HX := Lib.hid (upP_step xs j)
      have HL := Lib.hid (upP_len xs j)
      generalize hP : pairAt xs j = P at *
      have HP := Lib.hid hP
      have hT1 : Hid (∀ w1, Bs w1 w.heap.size A (m * 6) xs → Calls Tryz.prog 79 #[.slice A (m * 6) c, .int .i64 ((j : Int) * 6), .int .i64 2] w1 fun e w' => e = .returned (.tuple #[.int .i64 P.1.toNat, .int .i64 0]) ∧ w1 = w') := Lib.hid (fun w1 h => by subst hP; exact rtakeP1 A _ _ c xs j w1 h hn (by omega))
      have hT2 : Hid (∀ w1, Bs w1 w.heap.size A (m * 6) xs → Calls Tryz.prog 79 #[.slice A (m * 6) c, .int .i64 ((j : Int) * 6 + 2), .int .i64 4] w1 fun e w' => e = .returned (.tuple #[.int .i64 P.2.toNat, .int .i64 0]) ∧ w1 = w') := Lib.hid (fun w1 h => by subst hP; exact rtakeP2 A _ _ c xs j w1 h hn (by omega))
      clear hP
      go_wp2_with (first
        | (go_at_call 79; (with_reducible refine (hT1.out _ HA1.out).mono ?_); rintro e w1 ⟨rfl, rfl⟩)
        | (go_at_call 79; (with_reducible refine (hT2.out _ HA1.out).mono ?_); rintro e w1 ⟨rfl, rfl⟩)
        | (at_builtin; refine wpList_append_pairs _ rfl (.tmp 33) (.tmp 39) 26 rfl w.heap.size 79 i0 Tryz.underlying26 hinf.out.1 hinf.out.2.1 hinf.out.2.2.1 hinf.out.2.2.2 _ _ rfl (HO.out.alloc _) _ _ 1 1 [P] rfl (ps_lit wr _ [P] _ _ rfl (by simp [pc])) (fun h => by cases h) (by have := HL.out; omega) (Nat.le_trans HB.out.size (by simp)) ?_; intro v4 w4 hown4 hb4 _ _; rw [HX.out] at hown4; have HO4 := Lib.hid hown4; have HB4 := Lib.hid ((HB.out.alloc HB.out.size _).trans hb4); clear hown4 hb4))
      go_roundw
      case rel => exact ⟨j + 1, by omega, by go_num, HO4.out, HB4.out⟩
      case measure => simp [intOf]; omega
    · obtain rfl : j = m := by omega
      go_wp2
      go_ret2
      exact ⟨_, rfl, HO.out, HB.out⟩
theorem rtp_no (A : Option Addr) (n c : Nat) (w : World) (hn : n ≤ 1000000) (h : n % 6 ≠ 0) :
    Calls Tryz.prog 46 #[.slice A n c] w fun e w' => e = .returned (.tuple #[.slice none 0 0, .int .i64 10]) ∧ w = w' := by
  have d : ((n : Int) % 6 != 0) = true := by simp; omega
  go_enter Tryz.func46, Tryz.ntmps46
  go_wp2
  go_ret2
  exact ⟨rfl, rfl⟩
theorem tpV_yes (xs : List UInt8) (n m : Nat) (h : n = m * 6) : tpV xs n = upP xs m ∧ tpE n = 0 := by
  subst h
  unfold tpV tpE
  rw [if_pos (by omega), if_pos (by omega), show m * 6 / 6 = m from by omega]
  exact ⟨rfl, rfl⟩
theorem tpV_no (xs : List UInt8) (n : Nat) (h : n % 6 ≠ 0) : tpV xs n = [] ∧ tpE n = 10 := by
  unfold tpV tpE
  rw [if_neg h, if_neg h]
  exact ⟨rfl, rfl⟩
theorem rtp_tot (A : Option Addr) (n c : Nat) (xs : List UInt8) (w : World) (hA : Bs w w.heap.size A n xs) (hn : n ≤ 1000000) :
    Calls Tryz.prog 46 #[.slice A n c] w fun e w' => ∃ v, e = .returned (.tuple #[v, .int .i64 (tpE n)]) ∧ OwnP w' w.heap.size 79 v (tpV xs n) ∧ Below w.heap.size w w' := by
  by_cases h : n % 6 = 0
  · obtain ⟨m, hm⟩ : ∃ m, n = m * 6 := ⟨n / 6, by omega⟩
    rw [(tpV_yes xs n m hm).1, (tpV_yes xs n m hm).2]
    exact rtp_yes A n c m xs w hA hn hm
  · rw [(tpV_no xs n h).1, (tpV_no xs n h).2]
    refine (rtp_no A n c w hn h).mono ?_
    rintro e w' ⟨rfl, rfl⟩
    exact ⟨_, rfl, OwnP.nil_ _ _ _, Below.refl _ _⟩
end Go.Proofs.YtbflhphjnmhjhaaGreat
