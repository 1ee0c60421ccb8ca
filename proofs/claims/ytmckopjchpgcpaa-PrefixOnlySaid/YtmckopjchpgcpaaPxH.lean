/- The document's layer 6: Put, Size, Upper. -/
import Derived.Test.YtmckopjchpgcpaaPxA
import Derived.Test.YtmckopjchpgcpaaGFact
namespace Go.Proofs.Ytmckopjchpgcpaa
open Go.RowKit Px
set_option linter.unusedVariables false
set_option linter.unusedSimpArgs false
namespace Px
theorem w64 {x : Int} (h : -9223372036854775808 ≤ x ∧ x ≤ 9223372036854775807) : wrap64 x = x := IntWalk.wrap64_in x h
theorem hi_byte (u M n : Nat) (hu : u < 256) (hM : M ≤ 255) (hn : n ≤ M) (hhi : u / (M + 1) * (M + 1) ≤ 255) (hfit : (UInt8.ofNat (u / (M + 1) * (M + 1) + n)).toNat = u / (M + 1) * (M + 1) + n) :
    wrap64 (wrap64 ((u : Int) / ((M : Int) + 1)) * ((M : Int) + 1)) = ((u / (M + 1) * (M + 1) : Nat) : Int) ∧ wrap64 (wrap64 (wrap64 ((u : Int) / ((M : Int) + 1)) * ((M : Int) + 1)) + (n : Int)) % 256 = ((UInt8.ofNat (u / (M + 1) * (M + 1) + n)).toNat : Int) := by
  have e1 : (u : Int) / ((M : Int) + 1) = ((u / (M + 1) : Nat) : Int) := by rw [Int.natCast_ediv]; rfl
  have h1 : u / (M + 1) ≤ u := Nat.div_le_self _ _
  rw [e1]
  clear e1
  generalize u / (M + 1) = r at *
  have e2 : (r : Int) * ((M : Int) + 1) = ((r * (M + 1) : Nat) : Int) := by rw [Int.natCast_mul]; rfl
  rw [w64 (x := (r : Int)) (by omega), e2, hfit]
  have h256 : r * (M + 1) + n < 256 := by rw [← hfit]; exact UInt8.toNat_lt _
  clear e2 hfit
  generalize r * (M + 1) = q at *
  rw [w64 (x := (q : Int)) (by omega), w64 (x := (q : Int) + (n : Int)) (by omega)]
  exact ⟨rfl, by omega⟩
theorem ownB_one (w : World) (t : TypeId) (B : Nat) (x : UInt8) (v : Value) (hv : v = .int .u8 (x.toNat : Int)) (hB : B ≤ w.heap.size) : OwnB (w.alloc (.cells #[v] t)) B t (.slice (some ⟨w.heap.size, 0, none⟩) 1 1) [x] := by
  subst hv
  exact ⟨by simp, .inr ⟨w.heap.size, 1, #[.int .u8 (x.toNat : Int)], rfl, hB, World.alloc_heap_new w _, Nat.le_refl _, by simp [maxLen], rfl, rfl⟩⟩
theorem byte128 (m : Nat) : ((UInt8.ofNat (m % 128 + 128)).toNat : Int) = (m : Int) % 128 + 128 := by simp; omega
theorem byteLt {m : Nat} (h : m < 128) : ((UInt8.ofNat m).toNat : Int) = (m : Int) := by simp; omega
theorem hi_of (u k : Nat) (hu : u < 256) : u / 2 ^ k * 2 ^ k ≤ 255 := by have := Nat.div_mul_le_self u (2 ^ k); omega
end Px
theorem y_put_no (n k : Int) (u : UInt8) (w : World) (h : ¬ MayN n k) :
    Calls Try.prog 9 #[.int .i64 n, .int .i64 k, .int .u8 (u.toNat : Int)] w fun e w' => e = .returned (.tuple #[.slice none 0 0, .int .i64 2]) ∧ Below w.heap.size w w' := by
  have hd : decide (MayN n k) = false := decide_eq_false h
  clear h
  go_enter Try.func9, Try.ntmps9
  go_wp2_with (go_at_call 20; (with_reducible refine (x_may _ _ _).mono ?_); rintro e w' ⟨rfl, rfl⟩; rw [hd])
  go_ret2
  exact ⟨rfl, Below.refl _ _⟩
set_option maxRecDepth 100000 in
theorem y_put_one (n k : Nat) (u : UInt8) (w : World) (h1 : 1 ≤ k) (h8 : k ≤ 8) (hn : n < mx k) :
    Calls Try.prog 9 #[.int .i64 (n : Int), .int .i64 (k : Int), .int .u8 (u.toNat : Int)] w fun e w' => ∃ A c, e = .returned (.tuple #[.slice A 1 c, .int .i64 0]) ∧ HandS w' w.heap.size A 1 c [UInt8.ofNat (u.toNat / 2 ^ k * 2 ^ k + n)] ∧ Below w.heap.size w w' := by
  have hn2 := mx_le h8
  have hd : decide (MayN (n : Int) (k : Int)) = true := decide_eq_true ⟨⟨by omega, by omega⟩, by omega, by omega⟩
  have HF : Hid (∀ w, Calls Try.prog 21 #[.int .i64 (k : Int)] w fun e w' => e = .returned (.int .i64 (mx k : Int)) ∧ w = w') := Lib.hid (fun w => x_most k w h1 h8)
  have hM1 := mx_pos h1
  have hM8 := mx_le h8
  have hMs := mx_succ k
  have hul := u.toNat_lt
  have hhi := hi_of u.toNat k hul
  have hfit := byte_lo u.toNat k n h8 hul (by omega)
  rw [← hMs] at hhi hfit ⊢
  clear hMs
  generalize mx k = M at *
  have HBY := Lib.hid (hi_byte u.toNat M n hul (by omega) (by omega) hhi hfit)
  have hlt : decide ((n : Int) < (M : Int)) = true := decide_eq_true (by omega)
  go_enter Try.func9, Try.ntmps9
  go_wp2_with (first | (go_at_call 20; (with_reducible refine (x_may _ _ _).mono ?_); rintro e w' ⟨rfl, rfl⟩; rw [hd]) | (go_at_call 21; (with_reducible refine (HF.out _).mono ?_); rintro e w' ⟨rfl, rfl⟩))
  go_ret2
  have hh := bs_lit w 5 [UInt8.ofNat (u.toNat / (M + 1) * (M + 1) + n)] #[.int .u8 (wrap64 (wrap64 (wrap64 ((u.toNat : Int) / ((M : Int) + 1)) * ((M : Int) + 1)) + (n : Int)) % 256)] w.heap.size rfl (by rw [HBY.out.2]; simp [bv])
  exact ⟨_, _, rfl, ⟨hh.more (by simp), fun _ b o e => by cases e; exact Nat.le_refl _, Nat.le_refl _, fun e => by cases e⟩, (Below.refl _ w).alloc (Nat.le_refl _) _⟩
set_option maxRecDepth 100000 in
set_option maxHeartbeats 1000000 in
theorem y_put_more (n k : Nat) (u : UInt8) (w : World) (h1 : 1 ≤ k) (h8 : k ≤ 8) (hn : n < 2147483648) (hge : mx k ≤ n) :
    Calls Try.prog 9 #[.int .i64 (n : Int), .int .i64 (k : Int), .int .u8 (u.toNat : Int)] w fun e w' => ∃ A c, e = .returned (.tuple #[.slice A (tailB (n - mx k)).length.succ c, .int .i64 0]) ∧ HandS w' w.heap.size A (tailB (n - mx k)).length.succ c (UInt8.ofNat (u.toNat / 2 ^ k * 2 ^ k + mx k) :: tailB (n - mx k)) ∧ Below w.heap.size w w' := by
  obtain ⟨i0, hi, hz0, hz1, hz2⟩ := info_parts info_u8
  have hinf := Lib.hid (And.intro hi (And.intro hz0 (And.intro hz1 hz2)))
  clear hi hz0 hz1 hz2
  have hd : decide (MayN (n : Int) (k : Int)) = true := decide_eq_true ⟨⟨by omega, by omega⟩, by omega, by omega⟩
  have HF : Hid (∀ w, Calls Try.prog 21 #[.int .i64 (k : Int)] w fun e w' => e = .returned (.int .i64 (mx k : Int)) ∧ w = w') := Lib.hid (fun w => x_most k w h1 h8)
  have hM1 := mx_pos h1
  have hM8 := mx_le h8
  have hMs := mx_succ k
  have hul := u.toNat_lt
  have hhi := hi_of u.toNat k hul
  have hfit := byte_lo u.toNat k (mx k) h8 hul (by omega)
  rw [← hMs] at hhi hfit ⊢
  clear hMs
  generalize mx k = M at *
  have HBY := Lib.hid (hi_byte u.toNat M M hul (by omega) (Nat.le_refl _) hhi hfit)
  have hlt : decide ((n : Int) < (M : Int)) = false := decide_eq_false (by omega)
  have hlt2 : decide (n < M) = false := decide_eq_false (by omega)
  have hT := tailB_le (m := n - M) (by omega)
  have HT := Lib.hid hT
  generalize UInt8.ofNat (u.toNat / (M + 1) * (M + 1) + M) = B0 at *
  clear hhi hfit hT
  go_enter Try.func9, Try.ntmps9
  go_wp2_with (first | (go_at_call 20; (with_reducible refine (x_may _ _ _).mono ?_); rintro e w' ⟨rfl, rfl⟩; rw [hd]) | (go_at_call 21; (with_reducible refine (HF.out _).mono ?_); rintro e w' ⟨rfl, rfl⟩))
  go_loopw [0, 10] (fun a v wr => ∃ (m : Nat) (ys : List UInt8), a = .int .i64 (m : Int) ∧ m < 2147483648 ∧ ys ++ tailB m = tailB (n - M) ∧ OwnB wr w.heap.size 5 v (B0 :: ys) ∧ Below w.heap.size w wr) (fun a _ _ => (intOf a).toNat)
  case atStart =>
    refine ⟨n - M, [], ?_, by omega, rfl, ownB_one _ _ _ _ _ (by rw [HBY.out.2]) (Nat.le_refl _), (Below.refl _ w).alloc (Nat.le_refl _) _⟩
    rw [show ((n - M : Nat) : Int) = (n : Int) - (M : Int) from by omega]
  case round =>
    obtain ⟨m, ys, rfl, hm, hys, hown, hbel⟩ := hrel
    obtain ⟨A, c, rfl, _⟩ := hown.form
    have hyl : ys.length ≤ 5 := by have := congrArg List.length hys; rw [List.length_append] at this; have := HT.out; omega
    have HO := Lib.hid hown
    have HB := Lib.hid hbel
    have HYS := Lib.hid hys
    clear hown hbel hys
    by_cases h128 : 128 ≤ m
    · have ht := tailB_ge h128
      have HTT := Lib.hid ht
      have HX := Lib.hid (byte128 m)
      have hsz := HB.out.size
      clear ht
      go_wp2_with (at_builtin; refine wpList_append_bytes _ rfl (.tmp 43) (.tmp 48) 22 rfl w.heap.size 5 i0 Try.underlying22 hinf.out.1 hinf.out.2.1 hinf.out.2.2.1 hinf.out.2.2.2 _ (B0 :: ys) rfl (HO.out.alloc _) _ (some ⟨wr.heap.size, 0, none⟩) 1 1 [UInt8.ofNat (m % 128 + 128)] rfl (bs_lit wr 5 [UInt8.ofNat (m % 128 + 128)] _ wr.heap.size rfl (by simp only [List.map_cons, List.map_nil, bv]; rw [HX.out])) (fun e => by cases e) (by simp; omega) (by simp; omega) ?_; intro v2 w2 ho2 hb2; have HO2 := Lib.hid ho2; have HB2 := Lib.hid ((HB.out.alloc hsz _).trans hb2); clear ho2 hb2)
      go_roundw
      case rel =>
        refine ⟨m / 128, ys ++ [UInt8.ofNat (m % 128 + 128)], by rw [show ((m / 128 : Nat) : Int) = (m : Int) / 128 from by omega], by omega, ?_, HO2.out, HB2.out⟩
        rw [List.append_assoc, List.singleton_append, ← HTT.out]
        exact HYS.out
      case measure => simp only [intOf]; omega
    · have ht := tailB_lt (show m < 128 by omega)
      have HTT := Lib.hid ht
      have HX := Lib.hid (byteLt (show m < 128 by omega))
      have hsz := HB.out.size
      clear ht
      go_wp2_with (at_builtin; refine wpList_append_bytes _ rfl (.tmp 52) (.tmp 55) 22 rfl w.heap.size 5 i0 Try.underlying22 hinf.out.1 hinf.out.2.1 hinf.out.2.2.1 hinf.out.2.2.2 _ (B0 :: ys) rfl (HO.out.alloc _) _ (some ⟨wr.heap.size, 0, none⟩) 1 1 [UInt8.ofNat m] rfl (bs_lit wr 5 [UInt8.ofNat m] _ wr.heap.size rfl (by simp only [List.map_cons, List.map_nil, bv]; rw [HX.out])) (fun e => by cases e) (by simp; omega) (by simp; omega) ?_; intro v2 w2 ho2 hb2; obtain ⟨A2, c2, rfl, hh⟩ := ho2.handS (n := (ys ++ tailB m).length + 1) (by rw [HTT.out]; simp); have HH := Lib.hid hh; have HB2 := Lib.hid ((HB.out.alloc hsz _).trans hb2); clear ho2 hb2 hh)
      have hys := HYS.out
      rw [HTT.out] at hys
      have hlen : (tailB (n - M)).length = ys.length + 1 := by rw [← hys]; simp
      have hh := HH.out
      rw [List.cons_append, hys] at hh
      have hb2 := HB2.out
      go_ret2
      refine ⟨A2, c2, by rw [hlen]; simp [HTT.out], ?_, hb2⟩
      rw [show (tailB (n - M)).length.succ = (ys ++ tailB m).length + 1 from by rw [HYS.out]]
      exact hh
theorem y_put_yes (n k : Nat) (u : UInt8) (w : World) (h1 : 1 ≤ k) (h8 : k ≤ 8) (hn : n < 2147483648) :
    Calls Try.prog 9 #[.int .i64 (n : Int), .int .i64 (k : Int), .int .u8 (u.toNat : Int)] w fun e w' => ∃ A c, e = .returned (.tuple #[.slice A (numB n k).length c, .int .i64 0]) ∧ HandS w' w.heap.size A (numB n k).length c (putN n k u.toNat) ∧ Below w.heap.size w w' := by
  by_cases h : n < mx k
  · rw [show numB n k = [UInt8.ofNat n] from if_pos h, show putN n k u.toNat = [UInt8.ofNat (u.toNat / 2 ^ k * 2 ^ k + n)] from if_pos h]
    exact y_put_one n k u w h1 h8 h
  · rw [show numB n k = UInt8.ofNat (mx k) :: tailB (n - mx k) from if_neg h, show putN n k u.toNat = UInt8.ofNat (u.toNat / 2 ^ k * 2 ^ k + mx k) :: tailB (n - mx k) from if_neg h]
    exact y_put_more n k u w h1 h8 hn (by omega)
theorem y_put_no0 (n k : Int) (w : World) (h : ¬ MayN n k) : Calls Try.prog 9 #[.int .i64 n, .int .i64 k, .int .u8 0] w fun e w' => e = .returned (.tuple #[.slice none 0 0, .int .i64 2]) ∧ Below w.heap.size w w' := y_put_no n k 0 w h
theorem y_put_yes0 (n k : Nat) (w : World) (h1 : 1 ≤ k) (h8 : k ≤ 8) (hn : n < 2147483648) :
    Calls Try.prog 9 #[.int .i64 (n : Int), .int .i64 (k : Int), .int .u8 0] w fun e w' => ∃ A c, e = .returned (.tuple #[.slice A (numB n k).length c, .int .i64 0]) ∧ HandS w' w.heap.size A (numB n k).length c (putN n k 0) ∧ Below w.heap.size w w' := y_put_yes n k 0 w h1 h8 hn
theorem y_size_no (n k : Int) (w : World) (h : ¬ MayN n k) :
    Calls Try.prog 16 #[.int .i64 n, .int .i64 k] w fun e w' => e = .returned (.int .i64 0) ∧ Below w.heap.size w w' := by
  go_enter Try.func16, Try.ntmps16
  go_wp2_with (go_at_call 9; (with_reducible refine (y_put_no0 n k _ h).mono ?_); rintro e w1 ⟨rfl, hb⟩; have HB := Lib.hid hb; clear hb)
  go_ret
  exact ⟨rfl, HB.out⟩
theorem y_size_yes (n k : Nat) (w : World) (h1 : 1 ≤ k) (h8 : k ≤ 8) (hn : n < 2147483648) :
    Calls Try.prog 16 #[.int .i64 (n : Int), .int .i64 (k : Int)] w fun e w' => e = .returned (.int .i64 ((numB n k).length : Int)) ∧ Below w.heap.size w w' := by
  go_enter Try.func16, Try.ntmps16
  go_wp2_with (go_at_call 9; (with_reducible refine (y_put_yes0 n k _ h1 h8 hn).mono ?_); rintro e w1 ⟨A, c, rfl, hh, hb⟩; have HB := Lib.hid hb; clear hb hh)
  go_ret
  exact ⟨rfl, HB.out⟩
theorem y_upper_no (A : Option Addr) (n c : Nat) (k : Int) (w : World) (h : ¬ (1 ≤ k ∧ k ≤ 8)) : Calls Try.prog 13 #[.slice A n c, .int .i64 k] w fun e w' => e = .returned (.tuple #[.int .u8 0, .int .i64 2]) ∧ Below w.heap.size w w' := by
  by_cases h1 : k < 1
  · clear h
    have d1 : decide (k < 1) = true := decide_eq_true h1
    go_enter Try.func13, Try.ntmps13
    go_wp2_with go_skip
    go_ret2
    exact ⟨rfl, Below.refl _ _⟩
  · have d1 : decide (k < 1) = false := decide_eq_false h1
    have d2 : decide (8 < k) = true := decide_eq_true (by omega)
    clear h
    go_enter Try.func13, Try.ntmps13
    go_wp2_with go_skip
    go_ret2
    exact ⟨rfl, Below.refl _ _⟩
theorem y_upper_short (A : Option Addr) (c : Nat) (k : Int) (w : World) (h : 1 ≤ k ∧ k ≤ 8) : Calls Try.prog 13 #[.slice A 0 c, .int .i64 k] w fun e w' => e = .returned (.tuple #[.int .u8 0, .int .i64 10]) ∧ Below w.heap.size w w' := by
  have d1 : decide (k < 1) = false := decide_eq_false (by omega)
  have d2 : decide (8 < k) = false := decide_eq_false (by omega)
  go_enter Try.func13, Try.ntmps13
  go_wp2_with go_skip
  go_ret2
  exact ⟨rfl, Below.refl _ _⟩
theorem y_upper_yes (A : Option Addr) (n c k : Nat) (x : UInt8) (ys : List UInt8) (w : World) (hA : Bs w w.heap.size A n (x :: ys)) (h1 : 1 ≤ k) (h8 : k ≤ 8) : Calls Try.prog 13 #[.slice A n c, .int .i64 (k : Int)] w fun e w' => e = .returned (.tuple #[.int .u8 ((x.toNat / 2 ^ k * 2 ^ k : Nat) : Int), .int .i64 0]) ∧ Below w.heap.size w w' := by
  have hl := hA.1
  rw [List.length_cons] at hl
  have hn0 : 0 < n := by omega
  have hn1 : ((n : Int) == 0) = false := by rw [beq_eq_false_iff_ne]; omega
  have s0 : (0 : Int) < (n : Int) := by omega
  obtain ⟨b, o, rfl, hb, hcc⟩ := bs_cell hA (by omega)
  obtain ⟨x', hx', c0⟩ := hcc 0 (by omega)
  simp only [List.getElem?_cons_zero, Option.some.injEq] at hx'
  subst hx'
  rw [Nat.add_zero] at c0
  have d1 : decide ((k : Int) < 1) = false := decide_eq_false (by omega)
  have d2 : decide ((8 : Int) < (k : Int)) = false := decide_eq_false (by omega)
  have HF : Hid (∀ w, Calls Try.prog 21 #[.int .i64 (k : Int)] w fun e w' => e = .returned (.int .i64 (mx k : Int)) ∧ w = w') := Lib.hid (fun w => x_most k w h1 h8)
  have hM1 := mx_pos h1
  have hM8 := mx_le h8
  have hMs := mx_succ k
  have hul := x.toNat_lt
  have hhi := hi_of x.toNat k hul
  have hfit := byte_lo x.toNat k 0 h8 hul (by omega)
  rw [← hMs] at hhi hfit ⊢
  clear hMs
  generalize mx k = M at *
  have hq := hi_byte x.toNat M 0 hul (by omega) (by omega) hhi hfit
  have HQ := Lib.hid hq
  have HQ8 := Lib.hid hhi
  clear hA hcc hb hl hhi hfit hq
  go_enter Try.func13, Try.ntmps13
  go_wp2_with (first | go_skip | (go_at_call 21; (with_reducible refine (HF.out _).mono ?_); rintro e w' ⟨rfl, rfl⟩))
  go_ret2
  refine ⟨?_, Below.refl _ _⟩
  rw [HQ.out.1]
  have h8 : ((x.toNat / (M + 1) * (M + 1) : Nat) : Int) % 256 = ((x.toNat / (M + 1) * (M + 1) : Nat) : Int) := by have := HQ8.out; generalize x.toNat / (M + 1) * (M + 1) = q at *; omega
  rw [h8]
  rfl
end Go.Proofs.Ytmckopjchpgcpaa
