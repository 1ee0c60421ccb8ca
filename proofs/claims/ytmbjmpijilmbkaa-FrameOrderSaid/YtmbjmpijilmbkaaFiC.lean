/- Walks of package field's PutRank, and of the document's. -/
import Derived.Deep.RegionHeld3
import Derived.Test.YtmbjmpijilmbkaaFiB
import Derived.Test.YtmbjmpijilmbkaaGOwn
namespace Go.Proofs.Ytmbjmpijilmbkaa
open Go.RowKit Oct Fi
attribute [local go_sem] i64_and1 i64_and7 i64_and31

theorem or_31 (D : Nat) (h : D < 2147483648) : bits .or .i64 (D : Int) 2147483648 = (D : Int) + 2147483648 := by
  have h1 := i64_or_join 1 D 31 (by simpa using h) (by omega)
  have h2 : bits .or .i64 ((1 : Nat) * ((2 ^ 31 : Nat) : Int)) (D : Int) = bits .or .i64 (D : Int) 2147483648 := by
    have e : ((1 : Nat) : Int) * ((2 ^ 31 : Nat) : Int) = ((2147483648 : Nat) : Int) := by decide
    rw [e, i64_or_nat _ _ (by omega) (by omega)]
    have := i64_or_nat D 2147483648 (by omega) (by omega)
    rw [show ((2147483648 : Nat) : Int) = 2147483648 from rfl] at this
    rw [this, Nat.or_comm]
  rw [← h2, h1]
  have e : ((1 : Nat) : Int) * ((2 ^ 31 : Nat) : Int) = 2147483648 := by decide
  rw [e]
  omega
theorem or_0 (D : Nat) (h : D < 2147483648) : bits .or .i64 (D : Int) 0 = (D : Int) := by
  have := i64_or_nat D 0 (by omega) (by omega)
  rw [show ((0 : Nat) : Int) = 0 from rfl, Nat.or_zero] at this
  exact this
theorem alone_any (a : Bool) (D W : Int) (w : World) :
    Calls Try.prog 102 #[.agg #[.bool a, .int .i64 D, .int .u8 W]] w fun e w' => e = .returned (.int .i64 (if a then 1 else 0)) ∧ Below w.heap.size w w' := by
  cases a
  · go_enter Try.func102, Try.ntmps102
    go_wp2
    go_ret
    exact ⟨rfl, (Below.refl _ _).alloc (Nat.le_refl _) _⟩
  · go_enter Try.func102, Try.ntmps102
    go_wp2
    go_ret
    exact ⟨rfl, (Below.refl _ _).alloc (Nat.le_refl _) _⟩
theorem fprank_no (a : Bool) (D W : Int) (w : World) (h : ¬ RankIn D) :
    Calls Try.prog 86 #[.agg #[.bool a, .int .i64 D, .int .u8 W]] w fun e w' => e = .returned (.tuple #[.slice none 0 0, .int .i64 2]) ∧ Below w.heap.size w w' := by
  unfold RankIn at h
  have d : (D / 2147483648 != 0) = true := by simp; omega
  clear h
  go_enter Try.func86, Try.ntmps86
  go_wp2
  refine wp_scope_forward 0 rfl ?_
  go_wp2
  go_step3
  refine ⟨rfl, ?_⟩
  go_wp2
  rw [jump_ret]
  go_ret2
  exact ⟨rfl, (Below.refl _ _).alloc (Nat.le_refl _) _⟩
theorem put_rank (N : Nat) (w : World) (h : N < 4294967296) :
    Calls Try.prog 80 #[.int .i64 N, .int .i64 4] w fun e w' => ∃ v, e = .returned (.tuple #[v, .int .i64 0]) ∧ OwnB w' w.heap.size 5 v (putB N 4) ∧ Below w.heap.size w w' :=
  put_ok N 4 w (by omega) (by omega) (by omega) (by have e : (256 : Int) ^ (4 : Int).toNat = 4294967296 := by decide
                                                    rw [e]; omega)
set_option maxHeartbeats 1000000 in
theorem fprank_yes (a : Bool) (D : Nat) (W : UInt8) (w : World) (h : D < 2147483648) :
    Calls Try.prog 86 #[.agg #[.bool a, .int .i64 D, .int .u8 (W.toNat : Int)]] w fun e w' => ∃ v, e = .returned (.tuple #[v, .int .i64 0]) ∧ OwnB w' w.heap.size 5 v (putB (rkN a D) 4 ++ [W]) ∧ Below w.heap.size w w' := by
  have d : ((D : Int) / 2147483648 != 0) = false := by simp; omega
  have hN : Hid (rkN a D < 4294967296) := Lib.hid (by unfold rkN; split <;> omega)
  obtain ⟨s, u, hs, hsu, hor⟩ : ∃ s u : Int, (if a then 1 else 0) = s ∧ IntKind.i64.wrap (s * 2147483648) = u ∧ bits .or .i64 (D : Int) u = (rkN a D : Int) := by
    unfold rkN
    cases a
    · exact ⟨0, 0, rfl, by decide, by simpa using or_0 D h⟩
    · exact ⟨1, 2147483648, rfl, by decide, by simpa using or_31 D h⟩
  have HS := Lib.hid hs
  have HR := Lib.hid (Nat.zero_le (rkN a D))
  generalize rkN a D = N at *
  clear hs
  obtain ⟨i0, hi, hz0, hz1, hz2⟩ := info_parts info_u8
  have hinf := Lib.hid (And.intro hi (And.intro hz0 (And.intro hz1 hz2)))
  clear hi hz0 hz1 hz2
  have HC0 := Lib.hid (c3_new w 30 (.bool a) (.int .i64 D) (.int .u8 (W.toNat : Int)))
  have hsz : w.heap.size < (w.alloc (.cells #[.bool a, .int .i64 D, .int .u8 (W.toNat : Int)] 30)).heap.size := by simp
  go_enter Try.func86, Try.ntmps86
  go_wp2
  refine wp_scope_forward 0 rfl ?_
  go_wp2
  go_region_held3 (fun W' => W'.cell? ⟨w.heap.size, 0, none⟩ = some (.bool a) ∧ W'.cell? ⟨w.heap.size, 1, none⟩ = some (.int .i64 D) ∧ W'.cell? ⟨w.heap.size, 2, none⟩ = some (.int .u8 (W.toNat : Int)))
    (first
      | with_reducible exact HC0.out
      | with_reducible exact c3_drew HC0.out
      | with_reducible exact HC1.out
      | with_reducible exact HC2.out)
    ((first
      | (go_at_call 102; go_loud (refine (alone_any a D _ _).mono ?_; rintro e w1 ⟨rfl, hb1⟩; rw [HS.out]; have HB1 := Lib.hid hb1; have HC1 := Lib.hid (c3_al (c3_drew HC0.out) hb1 hsz); clear hb1))
      | (go_at_call 80; go_loud (refine (put_rank N _ hN.out).mono ?_; rintro e w2 ⟨v2, rfl, ho2, hb2⟩; have HB2 := Lib.hid hb2; have HO2 := Lib.hid ho2; have HC2 := Lib.hid (c3_al HC1.out hb2 (Nat.lt_of_lt_of_le hsz HB1.out.size)); clear ho2 hb2))))
  obtain ⟨c0, c1, c2⟩ := HC2.out
  have hb12 : Below w.heap.size w w2 := ((Below.refl _ w).alloc (Nat.le_refl _) (.cells #[.bool a, .int .i64 D, .int .u8 (W.toNat : Int)] 30)).drew.trans ((HB1.out.trans (HB2.out.mono HB1.out.size)).mono (Nat.le_of_lt hsz))
  have hz1 := HB1.out.size
  have hz1' : w.heap.size ≤ w1.heap.size := Nat.le_trans (Nat.le_of_lt hsz) hz1
  have HO3 := Lib.hid (HO2.out.less hz1')
  have HB3 := Lib.hid hb12
  clear hb12 hz1 hz1'
  go_wp2_with (at_builtin; refine wpList_append_bytes _ rfl (.tmp 19) (.tmp 22) 26 rfl w.heap.size 5 i0 Try.underlying26 hinf.out.1 hinf.out.2.1 hinf.out.2.2.1 hinf.out.2.2.2 _ _ rfl (HO3.out.alloc _) _ _ 1 1 [W] rfl (bs_lit w2 _ [W] _ _ rfl (by simp [bv])) (fun h => by cases h) (by rw [putB_length]; omega) (Nat.le_trans HB3.out.size (by simp)) ?_; intro v4 w4 hown4 hb4; have HO4 := Lib.hid hown4; have HB4 := Lib.hid ((HB3.out.alloc HB3.out.size _).trans hb4); clear hown4 hb4)
  rw [jump_ret]
  go_ret2
  exact ⟨_, rfl, HO4.out, HB4.out⟩
theorem fprank_tot (a : Bool) (D : Int) (W : UInt8) (w : World) :
    Calls Try.prog 86 #[.agg #[.bool a, .int .i64 D, .int .u8 (W.toNat : Int)]] w fun e w' => ∃ v, e = .returned (.tuple #[v, .int .i64 (prE D)]) ∧ OwnB w' w.heap.size 5 v (prV a D W) ∧ Below w.heap.size w w' := by
  unfold prE prV
  by_cases h : RankIn D
  · simp only [if_pos h]
    obtain ⟨h1, h2⟩ := h
    obtain ⟨D, rfl⟩ := Int.eq_ofNat_of_zero_le h1
    exact fprank_yes a D W w (by omega)
  · simp only [if_neg h]
    refine (fprank_no a D _ w h).mono ?_
    rintro e w' ⟨rfl, hb⟩
    exact ⟨_, rfl, OwnB.nil_ _ _ _, hb⟩
theorem rput_rank (N : Nat) (w : World) (h : N < 4294967296) :
    Calls Try.prog 37 #[.int .i64 N, .int .i64 4] w fun e w' => ∃ v, e = .returned (.tuple #[v, .int .i64 0]) ∧ OwnB w' w.heap.size 5 v (putB N 4) ∧ Below w.heap.size w w' :=
  rput_ok N 4 w (by omega) (by omega) (by omega) (by have e : (256 : Int) ^ (4 : Int).toNat = 4294967296 := by decide
                                                     rw [e]; omega)
end Go.Proofs.Ytmbjmpijilmbkaa
