/- The program's small calls of layer 4: the faults, a frame's head, flags, numbers. -/
import Derived.Test.YtbflhphjnmhjhaaGreatMx
import Derived.Test.YtbflhphjnmhjhaaGreatGTurn
namespace Go.Proofs.YtbflhphjnmhjhaaGreat
open Go.RowKit Oct Fi Fm
attribute [local go_sem] i64_and1 i64_and7 i64_and31
set_option linter.unusedVariables false

theorem p_whole (c : Int) (w : World) : Calls Tryz.prog 16 #[.int .u32 c] w fun e w' => e = .returned (.agg #[.bool true, .int .i64 0, .int .u32 c]) ∧ Below w.heap.size w w' := by
  go_enter Tryz.func16, Tryz.ntmps16
  go_wp2
  refine bodyPost_ret (v := .agg #[.bool true, .int .i64 0, .int .u32 c]) (by simp [results, Tryz.results16, go_sem]) rfl ⟨rfl, (Below.refl _ _).alloc (Nat.le_refl _) _⟩
theorem p_of (s c : Int) (w : World) : Calls Tryz.prog 18 #[.int .i64 s, .int .u32 c] w fun e w' => e = .returned (.agg #[.bool false, .int .i64 s, .int .u32 c]) ∧ Below w.heap.size w w' := by
  go_enter Tryz.func18, Tryz.ntmps18
  go_wp2
  refine bodyPost_ret (v := .agg #[.bool false, .int .i64 s, .int .u32 c]) (by simp [results, Tryz.results18, go_sem]) rfl ⟨rfl, (Below.refl _ _).alloc (Nat.le_refl _) _⟩
theorem p_headOf {a p : Option Addr} {n c m d : Nat} {pd la ic co dp wt : Int} {rk al : Bool} (K F S L : Int) (w : World) :
    Calls Tryz.prog 29 #[.agg (fr13 K F S a n c pd la ic co p m d rk al dp wt), .int .i64 L] w fun e w' => e = .returned (.agg #[.int .i64 L, .int .u8 K, .int .u8 F, .int .i64 S]) ∧ Below w.heap.size w w' := by
  go_enter Tryz.func29, Tryz.ntmps29
  go_wp2
  refine bodyPost_ret (v := .agg #[.int .i64 L, .int .u8 K, .int .u8 F, .int .i64 S]) (by simp [results, Tryz.results29, go_sem]) rfl ⟨rfl, ?_⟩
  exact (((Below.refl _ _).alloc (Nat.le_refl _) _).alloc (by simp) _)
theorem p_has {a p : Option Addr} {n c m d : Nat} {pd la ic co dp wt : Int} {rk al : Bool} (K S f : Int) (F : UInt8) (w : World) :
    Calls Tryz.prog 83 #[.agg (fr13 K F.toNat S a n c pd la ic co p m d rk al dp wt), .int .u8 f] w fun e w' => e = .returned (.bool (hasB (F.toNat : Int) f)) ∧ Below w.heap.size w w' := by
  go_enter Tryz.func83, Tryz.ntmps83
  go_wp2_with (first
    | (go_at_call 29; (with_reducible refine (p_headOf K _ S 0 _).mono ?_); rintro e w1 ⟨rfl, hb1⟩)
    | (go_at_call 99; (with_reducible refine (has_any 0 _ _ S f _).mono ?_); rintro e w2 ⟨rfl, hb2⟩))
  go_ret
  exact ⟨rfl, below_step (below_lit (Below.refl _ w) hb1) hb2⟩
theorem p_least {a p : Option Addr} {n c m d : Nat} {pd la ic co dp wt : Int} {rk al : Bool} (K S : Int) (F : UInt8) (w : World) :
    Calls Tryz.prog 86 #[.agg (fr13 K F.toNat S a n c pd la ic co p m d rk al dp wt)] w fun e w' => e = .returned (.int .i64 ((padN F + rankN F : Nat) : Int)) ∧ Below w.heap.size w w' := by
  unfold padN rankN
  have hp : ∀ w, Calls Tryz.prog 83 #[.agg (fr13 K F.toNat S a n c pd la ic co p m d rk al dp wt), .int .u8 8] w fun e w' => e = .returned (.bool (hasB (F.toNat : Int) 8)) ∧ Below w.heap.size w w' := fun w => p_has K S 8 F w
  have hr : ∀ w, Calls Tryz.prog 83 #[.agg (fr13 K F.toNat S a n c pd la ic co p m d rk al dp wt), .int .u8 32] w fun e w' => e = .returned (.bool (hasB (F.toNat : Int) 32)) ∧ Below w.heap.size w w' := fun w => p_has K S 32 F w
  have HP := Lib.hid hp
  have HR := Lib.hid hr
  clear hp hr
  generalize hasB (F.toNat : Int) 8 = P8 at *
  generalize hasB (F.toNat : Int) 32 = R32 at *
  have K0 : Hid (EnvB (w.alloc (.cells (fr13 K F.toNat S a n c pd la ic co p m d rk al dp wt) 30)) [] [] [(w.heap.size, (fr13 K F.toNat S a n c pd la ic co p m d rk al dp wt), 30)]) := Lib.hid ((EnvB.nil w).box 30 (fr13 K F.toNat S a n c pd la ic co p m d rk al dp wt))
  have B0 : Hid (Below w.heap.size w (w.alloc (.cells (fr13 K F.toNat S a n c pd la ic co p m d rk al dp wt) 30))) := Lib.hid ((Below.refl _ w).alloc (Nat.le_refl _) _)
  cases P8 <;> cases R32 <;>
  · go_enter Tryz.func86, Tryz.ntmps86
    go_wp2_with (first
      | (refine at_load 30 (.tmp 1) (by rfl) ?_; first
          | refine wpList_load_row (by rfl) 30 (.tmp 1) (by rfl) (w.heap.size) (by rfl) 30 _ (0, 0) _ (K0.out.row 0 rfl) Tryz.underlying30 (by rfl) info_F ?_
          | refine wpList_load_row (by rfl) 30 (.tmp 1) (by rfl) (w.heap.size) (by rfl) 30 _ (0, 0) _ (K1.out.row 0 rfl) Tryz.underlying30 (by rfl) info_F ?_)
      | (go_at_call 83; (with_reducible refine (HP.out _).mono ?_); rintro e w1 ⟨rfl, hb⟩; have K1 := Lib.hid (K0.out.on hb); have B1 := Lib.hid (below_step B0.out hb); clear hb)
      | (go_at_call 83; (with_reducible refine (HR.out _).mono ?_); rintro e w2 ⟨rfl, hb⟩; have B2 := Lib.hid (below_step B1.out hb); clear hb))
    go_ret
    exact ⟨rfl, B2.out⟩
theorem p_own (A : Option Addr) (n c : Nat) (xs : List UInt8) (w : World) (hA : Bs w w.heap.size A n xs) (hnone : A = none → c = 0) (hn : n ≤ 1000000) :
    Calls Tryz.prog 35 #[.slice A n c] w fun e w' => ∃ v, e = .returned v ∧ OwnB w' w.heap.size 5 v xs ∧ Below w.heap.size w w' := by
  obtain ⟨i0, hi, hz0, hz1, hz2⟩ := info_parts info_u8
  have hinf := Lib.hid (And.intro hi (And.intro hz0 (And.intro hz1 hz2)))
  have HA := Lib.hid hA
  have HN := Lib.hid hnone
  clear hi hz0 hz1 hz2 hA hnone
  go_enter Tryz.func35, Tryz.ntmps35
  go_wp2_with (at_builtin; refine wpList_append_bytes _ rfl (.const (.slice none 0 0)) (.tmp 3) 24 rfl w.heap.size 5 i0 Tryz.underlying24 hinf.out.1 hinf.out.2.1 hinf.out.2.2.1 hinf.out.2.2.2 _ [] rfl (OwnB.nil_ _ _ _) _ A n c xs rfl HA.out HN.out (by simp; omega) (Nat.le_refl _) ?_; intro v1 w1 hown1 hb1)
  go_ret
  exact ⟨_, rfl, by simpa using hown1, hb1⟩
theorem p_low (A : Option Addr) (B n c : Nat) (xs : List UInt8) (w : World) (hA : Bs w B A n xs) (hn : n ≤ 1000000) (hnc : n ≤ c) (h4 : 4 ≤ n) :
    Calls Tryz.prog 96 #[.slice A n c] w fun e w' => e = .returned (.int .i64 (ownN xs n 0 : Nat)) ∧ w = w' := by
  have e0 : ownN xs n 0 = takeB ((xs.drop 0).take 4) % 2147483648 := by unfold ownN; rw [if_pos (by omega)]
  have HQ := Lib.hid (stream_ok A B n c xs 0 w hA (by omega) (by omega) hn hnc)
  rw [e0]
  go_enter Tryz.func96, Tryz.ntmps96
  go_wp2_with (go_at_call 108; (with_reducible refine HQ.out.mono ?_); rintro e w' ⟨rfl, rfl⟩)
  go_ret
  exact ⟨rfl, rfl⟩
theorem p_code (A : Option Addr) (B n c i : Nat) (xs : List UInt8) (w : World) (hA : Bs w B A n xs) (hn : n ≤ 1000000) (hnc : n ≤ c) (h4 : i + 4 ≤ n) :
    Calls Tryz.prog 90 #[.slice A n c, .int .i64 i] w fun e w' => e = .returned (.int .u32 (numN xs n i : Nat)) ∧ w = w' := by
  have e0 : numN xs n i = takeB ((xs.drop i).take 4) := by unfold numN; rw [if_pos h4]
  have hq := take_ok A B n c xs i 4 w hA (by omega) (by omega) (by omega) (by omega) hn hnc
  rw [Int.toNat_natCast, show (4 : Int).toNat = 4 from rfl, ← e0] at hq
  have HQ := Lib.hid hq
  have hlt := numN_lt xs n i
  generalize numN xs n i = N at *
  clear hq e0
  go_enter Tryz.func90, Tryz.ntmps90
  go_wp2_with (go_at_call 104; (with_reducible refine HQ.out.mono ?_); rintro e w' ⟨rfl, rfl⟩)
  go_ret
  exact ⟨rfl, rfl⟩
end Go.Proofs.YtbflhphjnmhjhaaGreat
