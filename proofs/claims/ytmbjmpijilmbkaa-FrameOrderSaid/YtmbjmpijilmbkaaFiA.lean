/- Walks of package field's bytes: own, padding, Pad, Unpad, and the document's. -/
import Derived.Test.YtmbjmpijilmbkaaFiX
namespace Go.Proofs.Ytmbjmpijilmbkaa
open Go.RowKit Oct Fi
attribute [local go_sem] i64_and1 i64_and7 i64_and31

theorem fown_any (A : Option Addr) (n c : Nat) (xs : List UInt8) (w : World) (hA : Bs w w.heap.size A n xs) (hnone : A = none → c = 0) (hn : n ≤ 1000000) :
    Calls Try.prog 100 #[.slice A n c] w fun e w' => ∃ v, e = .returned v ∧ OwnB w' w.heap.size 5 v xs ∧ Below w.heap.size w w' := by
  obtain ⟨i0, hi, hz0, hz1, hz2⟩ := info_parts info_u8
  have hinf := Lib.hid (And.intro hi (And.intro hz0 (And.intro hz1 hz2)))
  have HA := Lib.hid hA
  have HN := Lib.hid hnone
  clear hi hz0 hz1 hz2 hA hnone
  go_enter Try.func100, Try.ntmps100
  go_wp2_with (at_builtin; refine wpList_append_bytes _ rfl (.const (.slice none 0 0)) (.tmp 3) 26 rfl w.heap.size 5 i0 Try.underlying26 hinf.out.1 hinf.out.2.1 hinf.out.2.2.1 hinf.out.2.2.2 _ [] rfl (OwnB.nil_ _ _ _) _ A n c xs rfl HA.out HN.out (by simp; omega) (Nat.le_refl _) ?_; intro v1 w1 hown1 hb1)
  go_ret
  exact ⟨_, rfl, by simpa using hown1, hb1⟩
theorem padding_ok (b o n c : Nat) (x : UInt8) (w : World) (h0 : 0 < n) (hn : n ≤ 1000000) (hc : w.cell? ⟨b, o, none⟩ = some (.int .u8 (x.toNat : Int))) (h : x.toNat ≤ n - 1) :
    Calls Try.prog 99 #[.slice (some ⟨b, o, none⟩) n c] w fun e w' => e = .returned (.tuple #[.int .i64 (x.toNat : Int), .int .i64 0]) ∧ w = w' := by
  have hx := x.toNat_lt
  have d0 : ((n : Int) == 0) = false := by simp; omega
  have d1 : decide ((n : Int) - 1 < (x.toNat : Int)) = false := by simp; omega
  go_enter Try.func99, Try.ntmps99
  go_wp2
  go_ret2
  exact ⟨rfl, rfl⟩
theorem padding_short (A : Option Addr) (c : Nat) (w : World) :
    Calls Try.prog 99 #[.slice A 0 c] w fun e w' => e = .returned (.tuple #[.int .i64 0, .int .i64 10]) ∧ w = w' := by
  go_enter Try.func99, Try.ntmps99
  go_wp2
  go_ret2
  exact ⟨rfl, rfl⟩
theorem padding_more (b o n c : Nat) (x : UInt8) (w : World) (h0 : 0 < n) (hn : n ≤ 1000000) (hc : w.cell? ⟨b, o, none⟩ = some (.int .u8 (x.toNat : Int))) (h : ¬ x.toNat ≤ n - 1) :
    Calls Try.prog 99 #[.slice (some ⟨b, o, none⟩) n c] w fun e w' => e = .returned (.tuple #[.int .i64 0, .int .i64 11]) ∧ w = w' := by
  have hx := x.toNat_lt
  have d0 : ((n : Int) == 0) = false := by simp; omega
  have d1 : decide ((n : Int) - 1 < (x.toNat : Int)) = true := by simp; omega
  go_enter Try.func99, Try.ntmps99
  go_wp2
  go_ret2
  exact ⟨rfl, rfl⟩
theorem pm_cell {w : World} {B n : Nat} {A : Option Addr} {xs : List UInt8} (h : Bs w B A n xs) (hn : 0 < n) :
    ∃ b o x, A = some ⟨b, o, none⟩ ∧ b < B ∧ w.cell? ⟨b, o, none⟩ = some (.int .u8 (x : UInt8).toNat) ∧ pm xs = x.toNat := by
  obtain ⟨b, o, rfl, hb, hc⟩ := bs_cell h hn
  obtain ⟨x, hx, hcx⟩ := hc 0 hn
  exact ⟨b, o, x, rfl, hb, hcx, by unfold pm; rw [hx]; rfl⟩
theorem unpad_yes (A : Option Addr) (n c : Nat) (xs : List UInt8) (w : World) (hA : Bs w w.heap.size A n xs) (hn : n ≤ 1000000) (hnc : n ≤ c) (h : UnIn xs n) :
    Calls Try.prog 82 #[.slice A n c] w fun e w' => ∃ v, e = .returned (.tuple #[v, .int .i64 (1 + (pm xs : Int)), .int .i64 0]) ∧ OwnB w' w.heap.size 5 v ((xs.drop 1).take (n - pm xs - 1)) ∧ Below w.heap.size w w' := by
  obtain ⟨h1, h2⟩ := h
  obtain ⟨b, o, x, rfl, hb, hcx, hp⟩ := pm_cell hA h1
  rw [hp] at h2 ⊢
  have hx := x.toNat_lt
  obtain ⟨A2, hA2, hcut⟩ : ∃ A2, (if c = 1 then some (⟨b, o, none⟩ : Addr) else some ⟨b, o + 1, none⟩) = A2 ∧ Bs w w.heap.size A2 (n - x.toNat - 1) ((xs.drop 1).take (n - x.toNat - 1)) := ⟨_, rfl, (hA.cut (k := 1) (by omega) hnc).take (k := n - x.toNat - 1) (by omega)⟩
  have HC := Lib.hid hcut
  have hN2 : A2 = none → c - 1 = 0 := fun h => if_some_ne (hA2.trans h)
  have HN := Lib.hid hN2
  clear hA hcut hp hN2
  have s2 : (1 : Int) ≤ (n : Int) - (x.toNat : Int) := by omega
  have s3 : (n : Int) - (x.toNat : Int) ≤ (c : Int) := by omega
  go_enter Try.func82, Try.ntmps82
  go_wp2
  refine wp_scope_forward 0 rfl ?_
  go_wp2_with (first
    | (go_at_call 99; refine (padding_ok b o n c x _ h1 hn hcx h2).mono ?_; rintro e w1 ⟨rfl, rfl⟩)
    | (go_at_call 100; refine (fown_any A2 _ _ _ _ HC.out HN.out (by omega)).mono ?_; rintro e w1 ⟨v1, rfl, ho1, hb1⟩))
  rw [jump_ret]
  go_ret3
  exact ⟨_, rfl, ho1, hb1⟩
theorem unpad_no (A : Option Addr) (n c : Nat) (xs : List UInt8) (w : World) (hA : Bs w w.heap.size A n xs) (hn : n ≤ 1000000) (h : ¬ UnIn xs n) :
    Calls Try.prog 82 #[.slice A n c] w fun e w' => e = .returned (.tuple #[.slice none 0 0, .int .i64 0, .int .i64 (if n = 0 then 10 else 11)]) ∧ w = w' := by
  rcases Nat.eq_zero_or_pos n with h0 | h0
  · subst h0
    rw [if_pos rfl]
    clear h hA
    go_enter Try.func82, Try.ntmps82
    go_wp2
    refine wp_scope_forward 0 rfl ?_
    go_wp2_with (go_at_call 99; refine (padding_short A c _).mono ?_; rintro e w1 ⟨rfl, rfl⟩)
    go_step3
    refine ⟨rfl, ?_⟩
    go_wp2
    rw [jump_ret]
    go_ret3
    exact ⟨rfl, rfl⟩
  · rw [if_neg (by omega)]
    obtain ⟨b, o, x, rfl, hb, hcx, hp⟩ := pm_cell hA h0
    have hm : ¬ x.toNat ≤ n - 1 := fun h2 => h ⟨h0, by rw [hp]; exact h2⟩
    clear h hA hp
    go_enter Try.func82, Try.ntmps82
    go_wp2
    refine wp_scope_forward 0 rfl ?_
    go_wp2_with (go_at_call 99; refine (padding_more b o n c x _ h0 hn hcx hm).mono ?_; rintro e w1 ⟨rfl, rfl⟩)
    go_step3
    refine ⟨rfl, ?_⟩
    go_wp2
    rw [jump_ret]
    go_ret3
    exact ⟨rfl, rfl⟩
theorem unpad_tot (A : Option Addr) (n c : Nat) (xs : List UInt8) (w : World) (hA : Bs w w.heap.size A n xs) (hn : n ≤ 1000000) (hnc : n ≤ c) :
    Calls Try.prog 82 #[.slice A n c] w fun e w' => ∃ v, e = .returned (.tuple #[v, .int .i64 (unN xs n), .int .i64 (unE xs n)]) ∧ OwnB w' w.heap.size 5 v (unV xs n) ∧ Below w.heap.size w w' := by
  unfold unN unE unV
  by_cases h : UnIn xs n
  · simp only [if_pos h]
    exact unpad_yes A n c xs w hA hn hnc h
  · simp only [if_neg h]
    refine (unpad_no A n c xs w hA hn h).mono ?_
    rintro e w' ⟨rfl, rfl⟩
    exact ⟨_, rfl, OwnB.nil_ _ _ _, Below.refl _ _⟩
theorem ret_int3 {k k' : IntKind} {a b c : Int} {v : Value} (h : a = b) : Ending.returned (.tuple #[v, .int k a, .int k' c]) = .returned (.tuple #[v, .int k b, .int k' c]) := by rw [h]
end Go.Proofs.Ytmbjmpijilmbkaa
