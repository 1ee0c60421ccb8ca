/- Whether two slices are the same bytes: the laws' own same. The statements' own samples: wakes. -/
import Derived.Test.YtodghbfgfdbaiaaHdH
import Derived.Test.YtodghbfgfdbaiaaHdK
import Derived.Test.YtodghbfgfdbaiaaGEnv
namespace Go.Proofs.Ytodghbfgfdbaiaa
open Go.RowKit Oct

theorem lsame_any (A A' : Option Addr) (n n' c c' B B' : Nat) (xs ys : List UInt8) (w : World) (h : Bs w B A n xs) (h' : Bs w B' A' n' ys) :
    Calls Try.prog 12 #[.slice A n c, .slice A' n' c'] w fun e w' => e = .returned (.bool (xs == ys)) ∧ w = w' := by
  have h1 := conv_bytes (c := c) h
  have h2 := conv_bytes (c := c') h'
  clear h h'
  go_enter Try.func12, Try.ntmps12
  go_wp2
  go_ret
  exact ⟨rfl, rfl⟩
theorem put_sample (w : World) :
    Calls Try.prog 8 #[.agg #[.int .i64 5, .int .u8 0, .int .u8 1, .int .i64 3]] w fun e w' => ∃ v, e = .returned (.tuple #[v, .int .i64 0]) ∧ OwnB w' w.heap.size 5 v [0, 0, 5, 0, 1, 0, 0, 0, 3] ∧ Below w.heap.size w w' :=
  hput_yes 5 3 0 1 w (by omega) (by omega)
theorem put_great (w : World) :
    Calls Try.prog 8 #[.agg #[.int .i64 16777216, .int .u8 0, .int .u8 0, .int .i64 0]] w fun e w' => e = .returned (.tuple #[.slice none 0 0, .int .i64 2]) ∧ Below w.heap.size w w' :=
  hput_no _ _ _ _ w (by decide)
theorem take_sample (A : Option Addr) (B c : Nat) (w : World) (hA : Bs w B A 10 [0, 0, 5, 0, 1, 0, 0, 0, 3, 7]) (hAc : A = none → c = 0) (hc : 10 ≤ c) (hB : B ≤ w.heap.size) :
    Calls Try.prog 10 #[.slice A 10 c] w fun e w' => ∃ v, e = .returned (.tuple #[.agg #[.int .i64 5, .int .u8 0, .int .u8 1, .int .i64 3], v, .int .i64 0]) ∧ OwnB w' w.heap.size 5 v [7] ∧ Below w.heap.size w w' := by
  have h := htake_tot A B 10 c _ w hA hAc (by omega) hc hB
  rw [show tL [0, 0, 5, 0, 1, 0, 0, 0, 3, 7] 10 = 5 from by decide +kernel, show tK [0, 0, 5, 0, 1, 0, 0, 0, 3, 7] 10 = 0 from by decide +kernel, show tF [0, 0, 5, 0, 1, 0, 0, 0, 3, 7] 10 = 1 from by decide +kernel, show tS [0, 0, 5, 0, 1, 0, 0, 0, 3, 7] 10 = 3 from by decide +kernel] at h
  exact h
theorem whole_sample (A : Option Addr) (B c : Nat) (w : World) (hA : Bs w B A 15 [0, 0, 5, 0, 1, 0, 0, 0, 3, 1, 2, 3, 4, 5, 6]) (hc : 15 ≤ c) (hB : B ≤ w.heap.size) :
    Calls Try.prog 13 #[.slice A 15 c] w fun e w' => ∃ v u, e = .returned (.tuple #[.agg #[.int .i64 5, .int .u8 0, .int .u8 1, .int .i64 3], v, u, .int .i64 0]) ∧ OwnB w' w.heap.size 5 v [1, 2, 3, 4, 5] ∧ OwnB w' w.heap.size 5 u [6] ∧ Below w.heap.size w w' := by
  have h := whole_tot A B 15 c _ w hA (by omega) hc hB
  rw [show tL [0, 0, 5, 0, 1, 0, 0, 0, 3, 1, 2, 3, 4, 5, 6] 15 = 5 from by decide +kernel, show tK [0, 0, 5, 0, 1, 0, 0, 0, 3, 1, 2, 3, 4, 5, 6] 15 = 0 from by decide +kernel, show tF [0, 0, 5, 0, 1, 0, 0, 0, 3, 1, 2, 3, 4, 5, 6] 15 = 1 from by decide +kernel, show tS [0, 0, 5, 0, 1, 0, 0, 0, 3, 1, 2, 3, 4, 5, 6] 15 = 3 from by decide +kernel,
    show wE [0, 0, 5, 0, 1, 0, 0, 0, 3, 1, 2, 3, 4, 5, 6] 15 = 0 from by decide +kernel, show wP [0, 0, 5, 0, 1, 0, 0, 0, 3, 1, 2, 3, 4, 5, 6] 15 = [1, 2, 3, 4, 5] from by decide +kernel, show wR [0, 0, 5, 0, 1, 0, 0, 0, 3, 1, 2, 3, 4, 5, 6] 15 = [6] from by decide +kernel] at h
  exact h
theorem short_sample (A : Option Addr) (B c : Nat) (w : World) (hA : Bs w B A 9 [0, 0, 5, 0, 1, 0, 0, 0, 3]) (hc : 9 ≤ c) (hB : B ≤ w.heap.size) :
    Calls Try.prog 13 #[.slice A 9 c] w fun e w' => ∃ v u, e = .returned (.tuple #[.agg #[.int .i64 5, .int .u8 0, .int .u8 1, .int .i64 3], v, u, .int .i64 10]) ∧ Below w.heap.size w w' := by
  have h := whole_tot A B 9 c _ w hA (by omega) hc hB
  rw [show tL [0, 0, 5, 0, 1, 0, 0, 0, 3] 9 = 5 from by decide +kernel, show tK [0, 0, 5, 0, 1, 0, 0, 0, 3] 9 = 0 from by decide +kernel, show tF [0, 0, 5, 0, 1, 0, 0, 0, 3] 9 = 1 from by decide +kernel, show tS [0, 0, 5, 0, 1, 0, 0, 0, 3] 9 = 3 from by decide +kernel,
    show wE [0, 0, 5, 0, 1, 0, 0, 0, 3] 9 = 10 from by decide +kernel] at h
  refine h.mono ?_
  rintro e w' ⟨v, u, he, _, _, hb⟩
  exact ⟨v, u, he, hb⟩
set_option maxRecDepth 100000 in
set_option maxHeartbeats 4000000 in
theorem wakes_any (w : World) : Calls Try.prog 7 #[] w fun e w' => e = .returned (.bool true) ∧ Below w.heap.size w w' := by
  obtain ⟨i0, hi, hz0, hz1, hz2⟩ := info_parts info_u8
  have hinf := Lib.hid (And.intro hi (And.intro hz0 (And.intro hz1 hz2)))
  clear hi hz0 hz1 hz2
  go_enter Try.func7, Try.ntmps7
  go_wp2_with (first
    | (go_at_call 8; (with_reducible refine (put_sample _).mono ?_); rintro e w1 ⟨v1, rfl, ho1, hb1⟩; obtain ⟨A1, c1, rfl, hc1, hn1, hr1⟩ := ho1.form2 (n := 9) rfl; have HN1 := Lib.hid hn1; have K1 := Lib.hid ((Env.nil w1).addS hr1); have B1 := Lib.hid hb1; clear ho1 hr1 hn1 hb1)
    | (at_builtin; refine wpList_append_full _ rfl (.tmp 25) (.tmp 26) 24 rfl w1.heap.size 5 i0 Try.underlying24 hinf.out.1 hinf.out.2.1 hinf.out.2.2.1 hinf.out.2.2.2 _ [] rfl (OwnB.lit2 w1 _ _ _ rfl (Nat.le_refl _)) _ A1 9 c1 _ rfl ((K1.out.al _).s (A1, 9, [0, 0, 5, 0, 1, 0, 0, 0, 3]) (by simp)) HN1.out (by simp) (by simp) ?_; intro v2 w2 hown2 hb2 _ _ _; have HO2 := Lib.hid hown2; have B2 := Lib.hid (((Below.refl _ w1).alloc (Nat.le_refl _) _).trans hb2); have K2 := Lib.hid (K1.out.on B2.out); clear hown2 hb2)
    | (at_builtin; refine wpList_append_full _ rfl (.tmp 27) (.tmp 28) 24 rfl w1.heap.size 5 i0 Try.underlying24 hinf.out.1 hinf.out.2.1 hinf.out.2.2.1 hinf.out.2.2.2 _ ([0, 0, 5, 0, 1, 0, 0, 0, 3]) rfl (HO2.out.alloc _) _ _ 1 1 [7] rfl (bs_lit w2 _ [7] _ _ rfl (by simp [bv])) (fun h => by cases h) (by simp) (Nat.le_trans B2.out.size (by simp)) ?_; intro v3 w3 hown3 hb3 _ _ _; obtain ⟨A3, c3, rfl, hc3, hn3, hr3⟩ := hown3.form2 (n := 10) rfl; have HR3 := Lib.hid hr3; have HN3 := Lib.hid hn3; have B3 := Lib.hid (B2.out.trans ((((Below.refl w1.heap.size w2).alloc B2.out.size _)).trans hb3)); have K3 := Lib.hid (K1.out.on B3.out); clear hown3 hb3 hn3 hr3)
    | (go_at_call 10; (with_reducible refine (take_sample A3 _ c3 _ HR3.out HN3.out hc3 (Nat.le_refl _)).mono ?_); rintro e w4 ⟨v4, rfl, ho4, hb4⟩; obtain ⟨A4, c4, rfl, hc4, hn4, hr4⟩ := ho4.form2 (n := 1) rfl; have K4 := Lib.hid (((K3.out.on hb4).addS hr4).box 23 (.int .i64 5) (.int .u8 0) (.int .u8 1) (.int .i64 3)); have B4 := Lib.hid (B3.out.trans (hb4.mono B3.out.size)); clear ho4 hn4 hr4 hb4)
    | (go_at_call 10; (with_reducible refine (htake_no A1 8 c1 _ (by omega)).mono ?_); rintro e w5 ⟨rfl, hb5⟩; have K5 := Lib.hid ((K4.out.on hb5).box 23 (.int .i64 0) (.int .u8 0) (.int .u8 0) (.int .i64 0)); have B5 := Lib.hid ((B4.out.alloc B4.out.size _).trans (hb5.mono (Nat.le_trans B4.out.size (by simp)))); clear hb5)
    | (at_builtin; refine wpList_append_full _ rfl (.tmp 45) (.tmp 46) 24 rfl (w5.heap.size + 1) 5 i0 Try.underlying24 hinf.out.1 hinf.out.2.1 hinf.out.2.2.1 hinf.out.2.2.2 _ [] rfl (OwnB.lit2 (w5.alloc _) _ _ _ (by simp) (Nat.le_refl _)) _ A1 9 c1 _ rfl ((K5.out.al _).s (A1, 9, [0, 0, 5, 0, 1, 0, 0, 0, 3]) (by simp)) HN1.out (by simp) (by simp) ?_; intro v6 w6 hown6 hb6 _ _ _; have HO6 := Lib.hid hown6; have B6 := Lib.hid (((Below.refl (w5.heap.size + 1) (w5.alloc (.cells #[.int .i64 0, .int .u8 0, .int .u8 0, .int .i64 0] 23))).alloc (by simp) _).trans hb6); clear hown6 hb6)
    | (at_builtin; refine wpList_append_full _ rfl (.tmp 47) (.tmp 48) 24 rfl (w5.heap.size + 1) 5 i0 Try.underlying24 hinf.out.1 hinf.out.2.1 hinf.out.2.2.1 hinf.out.2.2.2 _ ([0, 0, 5, 0, 1, 0, 0, 0, 3]) rfl (HO6.out.alloc _) _ _ 6 6 [1, 2, 3, 4, 5, 6] rfl (bs_lit w6 _ [1, 2, 3, 4, 5, 6] _ _ rfl (by simp [bv])) (fun h => by cases h) (by simp) (Nat.le_trans (by simp) (Nat.le_trans B6.out.size (by simp))) ?_; intro v7 w7 hown7 hb7 _ _ _; obtain ⟨A7, c7, rfl, hc7, hn7, hr7⟩ := hown7.form2 (n := 15) rfl; have HR7 := Lib.hid hr7; have B7 := Lib.hid (B6.out.trans (((Below.refl (w5.heap.size + 1) w6).alloc (Nat.le_trans (by simp) B6.out.size) _).trans hb7)); have K7 := Lib.hid (K5.out.on (B7.out.mono (by simp))); clear hown7 hb7 hn7 hr7)
    | (go_at_call 13; (with_reducible refine (whole_sample A7 _ c7 _ HR7.out hc7 (Nat.le_refl _)).mono ?_); rintro e w8 ⟨v8, u8, rfl, ho8, hu8, hb8⟩; obtain ⟨A8, c8, rfl, hc8, _, hr8⟩ := ho8.form2 (n := 5) rfl; obtain ⟨A9, c9, rfl, hc9, _, hr9⟩ := hu8.form2 (n := 1) rfl; have K8 := Lib.hid ((((K7.out.on hb8).addS hr8).addS hr9).box 23 (.int .i64 5) (.int .u8 0) (.int .u8 1) (.int .i64 3)); have B8 := Lib.hid hb8; clear ho8 hu8 hr8 hr9 hb8)
    | (go_at_call 13; (with_reducible refine (short_sample A1 _ c1 _ (K8.out.s (A1, 9, [0, 0, 5, 0, 1, 0, 0, 0, 3]) (by simp)) hc1 (Nat.le_refl _)).mono ?_); rintro e w9 ⟨v9, u9, rfl, hb9⟩; have K9 := Lib.hid ((K8.out.on hb9).box 23 (.int .i64 5) (.int .u8 0) (.int .u8 1) (.int .i64 3)); have B9 := Lib.hid hb9; clear hb9)
    | (go_at_call 8; (with_reducible refine (put_great _).mono ?_); rintro e w10 ⟨rfl, hb10⟩; have K10 := Lib.hid (K9.out.on hb10); have B10 := Lib.hid hb10; clear hb10)
    | (go_at_call 12; (with_reducible refine (lsame_any A1 _ 9 9 c1 9 _ _ [0, 0, 5, 0, 1, 0, 0, 0, 3] [0, 0, 5, 0, 1, 0, 0, 0, 3] _ (Env.s (K10.out.litg 5 [0, 0, 5, 0, 1, 0, 0, 0, 3] _ (by simp [bv]) (w10.heap.size) (by simp)) (A1, 9, [0, 0, 5, 0, 1, 0, 0, 0, 3]) (by simp)) (Env.s (K10.out.litg 5 [0, 0, 5, 0, 1, 0, 0, 0, 3] _ (by simp [bv]) (w10.heap.size) (by simp)) (_, 9, [0, 0, 5, 0, 1, 0, 0, 0, 3]) (List.mem_cons_self ..))).mono ?_); rintro e w' ⟨rfl, rfl⟩; rw [show (([0, 0, 5, 0, 1, 0, 0, 0, 3] : List UInt8) == [0, 0, 5, 0, 1, 0, 0, 0, 3]) = true from by decide]; have K11 := Lib.hid (K10.out.al (.cells #[.int .u8 0, .int .u8 0, .int .u8 5, .int .u8 0, .int .u8 1, .int .u8 0, .int .u8 0, .int .u8 0, .int .u8 3] 5)); obtain ⟨⟨c0, c1', c2', c3'⟩, hl⟩ := K11.out.f (w4.heap.size, .int .i64 5, .int .u8 0, .int .u8 1, .int .i64 3) (by simp); obtain ⟨⟨e0, e1', e2', e3'⟩, hl'⟩ := K11.out.f (w9.heap.size, .int .i64 5, .int .u8 0, .int .u8 1, .int .i64 3) (by simp); clear K10)
    | (go_at_call 12; (with_reducible refine (lsame_any A4 _ 1 1 c4 1 _ _ [7] [7] _ (Env.s (K11.out.litg 5 [7] _ (by simp [bv]) (w10.heap.size + 1) (by simp)) (A4, 1, [7]) (by simp)) (Env.s (K11.out.litg 5 [7] _ (by simp [bv]) (w10.heap.size + 1) (by simp)) (_, 1, [7]) (List.mem_cons_self ..))).mono ?_); rintro e w' ⟨rfl, rfl⟩; rw [show (([7] : List UInt8) == [7]) = true from by decide]; have K12 := Lib.hid (K11.out.al (.cells #[.int .u8 7] 5)); obtain ⟨⟨c0, c1', c2', c3'⟩, hl⟩ := K12.out.f (w4.heap.size, .int .i64 5, .int .u8 0, .int .u8 1, .int .i64 3) (by simp); obtain ⟨⟨e0, e1', e2', e3'⟩, hl'⟩ := K12.out.f (w9.heap.size, .int .i64 5, .int .u8 0, .int .u8 1, .int .i64 3) (by simp); clear K11)
    | (go_at_call 12; (with_reducible refine (lsame_any A8 _ 5 5 c8 5 _ _ [1, 2, 3, 4, 5] [1, 2, 3, 4, 5] _ (Env.s (K12.out.litg 5 [1, 2, 3, 4, 5] _ (by simp [bv]) (w10.heap.size + 2) (by simp)) (A8, 5, [1, 2, 3, 4, 5]) (by simp)) (Env.s (K12.out.litg 5 [1, 2, 3, 4, 5] _ (by simp [bv]) (w10.heap.size + 2) (by simp)) (_, 5, [1, 2, 3, 4, 5]) (List.mem_cons_self ..))).mono ?_); rintro e w' ⟨rfl, rfl⟩; rw [show (([1, 2, 3, 4, 5] : List UInt8) == [1, 2, 3, 4, 5]) = true from by decide]; have K13 := Lib.hid (K12.out.al (.cells #[.int .u8 1, .int .u8 2, .int .u8 3, .int .u8 4, .int .u8 5] 5)); obtain ⟨⟨c0, c1', c2', c3'⟩, hl⟩ := K13.out.f (w4.heap.size, .int .i64 5, .int .u8 0, .int .u8 1, .int .i64 3) (by simp); obtain ⟨⟨e0, e1', e2', e3'⟩, hl'⟩ := K13.out.f (w9.heap.size, .int .i64 5, .int .u8 0, .int .u8 1, .int .i64 3) (by simp); clear K12)
    | (go_at_call 12; (with_reducible refine (lsame_any A9 _ 1 1 c9 1 _ _ [6] [6] _ (Env.s (K13.out.litg 5 [6] _ (by simp [bv]) (w10.heap.size + 3) (by simp)) (A9, 1, [6]) (by simp)) (Env.s (K13.out.litg 5 [6] _ (by simp [bv]) (w10.heap.size + 3) (by simp)) (_, 1, [6]) (List.mem_cons_self ..))).mono ?_); rintro e w' ⟨rfl, rfl⟩; rw [show (([6] : List UInt8) == [6]) = true from by decide]; have K14 := Lib.hid (K13.out.al (.cells #[.int .u8 6] 5)); obtain ⟨⟨c0, c1', c2', c3'⟩, hl⟩ := K14.out.f (w4.heap.size, .int .i64 5, .int .u8 0, .int .u8 1, .int .i64 3) (by simp); obtain ⟨⟨e0, e1', e2', e3'⟩, hl'⟩ := K14.out.f (w9.heap.size, .int .i64 5, .int .u8 0, .int .u8 1, .int .i64 3) (by simp); clear K13)
    | (go_at_call 15; (with_reducible refine (right_yes 5 0 1 3 _ (by decide)).mono ?_); rintro e w15 ⟨rfl, hb⟩; have K15 := Lib.hid (K14.out.on hb); obtain ⟨⟨c0, c1', c2', c3'⟩, hl⟩ := K15.out.f (w4.heap.size, .int .i64 5, .int .u8 0, .int .u8 1, .int .i64 3) (by simp); have BK15 := Lib.hid hb; clear K14 hb)
    | (go_at_call 17; (with_reducible refine (has_any 5 0 1 3 1 _).mono ?_); rintro e w16 ⟨rfl, hb⟩; rw [show hasB 1 1 = true from by decide]; have K16 := Lib.hid (K15.out.on hb); obtain ⟨⟨c0, c1', c2', c3'⟩, hl⟩ := K16.out.f (w4.heap.size, .int .i64 5, .int .u8 0, .int .u8 1, .int .i64 3) (by simp); have BK16 := Lib.hid hb; clear K15 hb)
    | (go_at_call 17; (with_reducible refine (has_any 5 0 1 3 9 _).mono ?_); rintro e w17 ⟨rfl, hb⟩; rw [show hasB 1 9 = false from by decide]; have K17 := Lib.hid (K16.out.on hb); obtain ⟨⟨c0, c1', c2', c3'⟩, hl⟩ := K17.out.f (w4.heap.size, .int .i64 5, .int .u8 0, .int .u8 1, .int .i64 3) (by simp); have BK17 := Lib.hid hb; clear K16 hb)
    | (go_at_call 19; (with_reducible refine (known_any 16 _ (by decide)).mono ?_); rintro e w18 ⟨rfl, hb⟩; rw [show knownB 16 = true from by decide]; have K18 := Lib.hid (K17.out.on hb); obtain ⟨⟨c0, c1', c2', c3'⟩, hl⟩ := K18.out.f (w4.heap.size, .int .i64 5, .int .u8 0, .int .u8 1, .int .i64 3) (by simp); have BK18 := Lib.hid hb; clear K17 hb)
    | (go_at_call 19; (with_reducible refine (known_any 10 _ (by decide)).mono ?_); rintro e w19 ⟨rfl, hb⟩; rw [show knownB 10 = false from by decide]; have K19 := Lib.hid (K18.out.on hb); obtain ⟨⟨c0, c1', c2', c3'⟩, hl⟩ := K19.out.f (w4.heap.size, .int .i64 5, .int .u8 0, .int .u8 1, .int .i64 3) (by simp); have BK19 := Lib.hid hb; clear K18 hb))
  go_ret
  refine ⟨rfl, ?_⟩
  have b5 := B1.out.trans (B5.out.mono B1.out.size)
  have b5' := b5.alloc b5.size (.cells #[.int .i64 0, .int .u8 0, .int .u8 0, .int .i64 0] 23)
  have b7 := b5'.trans (B7.out.mono (by have := b5.size; omega))
  have b8 := b7.trans (B8.out.mono b7.size)
  have b8' := b8.alloc b8.size (.cells #[.int .i64 5, .int .u8 0, .int .u8 1, .int .i64 3] 23)
  have b9 := b8'.trans (B9.out.mono b8'.size)
  have b9' := b9.alloc b9.size (.cells #[.int .i64 5, .int .u8 0, .int .u8 1, .int .i64 3] 23)
  have b10 := b9'.trans (B10.out.mono b9'.size)
  have b11 := b10.alloc b10.size (.cells #[.int .u8 0, .int .u8 0, .int .u8 5, .int .u8 0, .int .u8 1, .int .u8 0, .int .u8 0, .int .u8 0, .int .u8 3] 5)
  have b12 := b11.alloc b11.size (.cells #[.int .u8 7] 5)
  have b13 := b12.alloc b12.size (.cells #[.int .u8 1, .int .u8 2, .int .u8 3, .int .u8 4, .int .u8 5] 5)
  have b14 := b13.alloc b13.size (.cells #[.int .u8 6] 5)
  have b15 := b14.trans (BK15.out.mono b14.size)
  have b16 := b15.trans (BK16.out.mono b15.size)
  have b17 := b16.trans (BK17.out.mono b16.size)
  have b18 := b17.trans (BK18.out.mono b17.size)
  exact b18.trans (BK19.out.mono b18.size)
end Go.Proofs.Ytodghbfgfdbaiaa
