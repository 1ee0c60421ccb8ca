/- Whether two slices are the same bytes: the document's Same. The statements' own samples: wakes. -/
import Derived.Test.YtgmnhbpdpnciaaaFiJ
import Derived.Test.YtgmnhbpdpnciaaaGStr
import Derived.Test.YtgmnhbpdpnciaaaGEnvP
namespace Go.Proofs.Ytgmnhbpdpnciaaa
open Go.RowKit Oct Fi

theorem refsame_any (A A' : Option Addr) (n n' c c' B B' : Nat) (xs ys : List UInt8) (w : World) (h : Bs w B A n xs) (h' : Bs w B' A' n' ys) :
    Calls Try.prog 12 #[.slice A n c, .slice A' n' c'] w fun e w' => e = .returned (.bool (xs == ys)) ∧ w = w' := by
  have h1 := conv_bytes (c := c) h
  have h2 := conv_bytes (c := c') h'
  clear h h'
  go_enter Try.func12, Try.ntmps12
  go_wp2
  go_ret
  exact ⟨rfl, rfl⟩
theorem below_step {w W W' : World} (h : Below w.heap.size w W) (h' : Below W.heap.size W W') : Below w.heap.size w W' := h.trans (h'.mono h.size)
theorem below_lit {w W W' : World} {o : Obj} (h : Below w.heap.size w W) (h' : Below (W.alloc o).heap.size (W.alloc o) W') : Below w.heap.size w W' := below_step (below_step h ((Below.refl _ W).alloc (Nat.le_refl _) o)) h'
theorem below_lit2 {w W W' : World} {o o2 : Obj} (h : Below w.heap.size w W) (h' : Below ((W.alloc o).alloc o2).heap.size ((W.alloc o).alloc o2) W') : Below w.heap.size w W' := below_lit (below_step h ((Below.refl _ W).alloc (Nat.le_refl _) o)) h'

theorem s_pad (A : Option Addr) (c : Nat) (w : World) (hA : Bs w w.heap.size A 2 [7, 8]) (hN : A = none → c = 0) :
    Calls Try.prog 8 #[.slice A 2 c, .int .i64 2] w fun e w' => ∃ v, e = .returned (.tuple #[v, .int .i64 0]) ∧ OwnB w' w.heap.size 5 v [2, 7, 8, 0, 0] ∧ Below w.heap.size w w' := by
  have h := fpad_tot A 2 c 2 [7, 8] w hA hN (by omega)
  rw [show padE 2 = 0 from by decide +kernel, show padV [7, 8] 2 = [2, 7, 8, 0, 0] from by decide +kernel] at h
  exact h
theorem s_unpad (A : Option Addr) (c : Nat) (w : World) (hA : Bs w w.heap.size A 5 [2, 7, 8, 1, 9]) (hc : 5 ≤ c) :
    Calls Try.prog 10 #[.slice A 5 c] w fun e w' => ∃ v, e = .returned (.tuple #[v, .int .i64 3, .int .i64 0]) ∧ OwnB w' w.heap.size 5 v [7, 8] ∧ Below w.heap.size w w' := by
  have h := unpad_tot A 5 c [2, 7, 8, 1, 9] w hA (by omega) hc
  rw [show unE [2, 7, 8, 1, 9] 5 = 0 from by decide +kernel, show unN [2, 7, 8, 1, 9] 5 = 3 from by decide +kernel, show unV [2, 7, 8, 1, 9] 5 = [7, 8] from by decide +kernel] at h
  exact h
theorem s_unpad0 (w : World) :
    Calls Try.prog 10 #[.slice none 0 0] w fun e w' => ∃ v, e = .returned (.tuple #[v, .int .i64 0, .int .i64 10]) ∧ OwnB w' w.heap.size 5 v [] ∧ Below w.heap.size w w' := by
  have h := unpad_tot none 0 0 [] w Bs.none_ (by omega) (by omega)
  rw [show unE [] 0 = 10 from by decide +kernel, show unN [] 0 = 0 from by decide +kernel, show unV [] 0 = [] from by decide +kernel] at h
  exact h
theorem s_unpad1 (A : Option Addr) (c : Nat) (w : World) (hA : Bs w w.heap.size A 1 [1]) (hc : 1 ≤ c) :
    Calls Try.prog 10 #[.slice A 1 c] w fun e w' => ∃ v, e = .returned (.tuple #[v, .int .i64 0, .int .i64 11]) ∧ OwnB w' w.heap.size 5 v [] ∧ Below w.heap.size w w' := by
  have h := unpad_tot A 1 c [1] w hA (by omega) hc
  rw [show unE [1] 1 = 11 from by decide +kernel, show unN [1] 1 = 0 from by decide +kernel, show unV [1] 1 = [] from by decide +kernel] at h
  exact h
theorem s_prank (w : World) :
    Calls Try.prog 13 #[.agg #[.bool true, .int .i64 3, .int .u8 15]] w fun e w' => ∃ v, e = .returned (.tuple #[v, .int .i64 0]) ∧ OwnB w' w.heap.size 5 v [128, 0, 0, 3, 15] ∧ Below w.heap.size w w' := by
  have h := fprank_tot true 3 15 w
  rw [show prE 3 = 0 from by decide +kernel, show prV true 3 15 = [128, 0, 0, 3, 15] from by decide +kernel] at h
  exact h
theorem s_trank (A : Option Addr) (c : Nat) (w : World) (hA : Bs w w.heap.size A 6 [128, 0, 0, 3, 15, 6]) (hc : 6 ≤ c) :
    Calls Try.prog 15 #[.slice A 6 c] w fun e w' => ∃ v, e = .returned (.tuple #[.agg #[.bool true, .int .i64 3, .int .u8 15], v, .int .i64 0]) ∧ OwnB w' w.heap.size 5 v [6] ∧ Below w.heap.size w w' := by
  have h := ftrank_tot A 6 c [128, 0, 0, 3, 15, 6] w hA (by omega) hc
  rw [show trA [128, 0, 0, 3, 15, 6] 6 = true from by decide +kernel, show trD [128, 0, 0, 3, 15, 6] 6 = 3 from by decide +kernel, show trW [128, 0, 0, 3, 15, 6] 6 = 15 from by decide +kernel, show trR [128, 0, 0, 3, 15, 6] 6 = [6] from by decide +kernel, show trE 6 = 0 from by decide +kernel] at h
  exact h
theorem s_ppairs (A : Option Addr) (c : Nat) (w : World) (hA : Ps w w.heap.size A 2 [(4, 258), (4, 7)]) :
    Calls Try.prog 21 #[.slice A 2 c] w fun e w' => ∃ v, e = .returned v ∧ OwnB w' w.heap.size 5 v [0, 4, 0, 0, 1, 2, 0, 4, 0, 0, 0, 7] ∧ Below w.heap.size w w' := by
  have h := fpp_any A 2 c [(4, 258), (4, 7)] w hA (by omega)
  rw [show ppV [(4, 258), (4, 7)] = [0, 4, 0, 0, 1, 2, 0, 4, 0, 0, 0, 7] from by decide +kernel] at h
  exact h
theorem s_tpairs (A : Option Addr) (c : Nat) (w : World) (hA : Bs w w.heap.size A 12 [0, 4, 0, 0, 1, 2, 0, 4, 0, 0, 0, 7]) (hc : 12 ≤ c) :
    Calls Try.prog 17 #[.slice A 12 c] w fun e w' => ∃ v, e = .returned (.tuple #[v, .int .i64 0]) ∧ OwnP w' w.heap.size 47 v [(4, 258), (4, 7)] ∧ Below w.heap.size w w' := by
  have h := ftp_tot A 12 c [0, 4, 0, 0, 1, 2, 0, 4, 0, 0, 0, 7] w hA (by omega) hc
  rw [show tpE 12 = 0 from by decide +kernel, show tpV [0, 4, 0, 0, 1, 2, 0, 4, 0, 0, 0, 7] 12 = [(4, 258), (4, 7)] from by decide +kernel] at h
  exact h
theorem s_tpairs1 (A : Option Addr) (c : Nat) (w : World) (hA : Bs w w.heap.size A 1 [1]) (hc : 1 ≤ c) :
    Calls Try.prog 17 #[.slice A 1 c] w fun e w' => ∃ v, e = .returned (.tuple #[v, .int .i64 10]) ∧ OwnP w' w.heap.size 47 v [] ∧ Below w.heap.size w w' := by
  have h := ftp_tot A 1 c [1] w hA (by omega) hc
  rw [show tpE 1 = 10 from by decide +kernel, show tpV [1] 1 = [] from by decide +kernel] at h
  exact h
theorem s_last4 (A : Option Addr) (c : Nat) (w : World) (hA : Ps w w.heap.size A 2 [(4, 258), (4, 7)]) :
    Calls Try.prog 19 #[.slice A 2 c, .int .u16 4] w fun e w' => e = .returned (.tuple #[.int .u32 7, .bool true]) ∧ Below w.heap.size w w' := by
  have h := flast_any A 2 c [(4, 258), (4, 7)] 4 w hA (by omega)
  rw [show laV [(4, 258), (4, 7)] 4 = 7 from by decide +kernel, show laB [(4, 258), (4, 7)] 4 = true from by decide +kernel] at h
  exact h
theorem s_last5 (A : Option Addr) (c : Nat) (w : World) (hA : Ps w w.heap.size A 2 [(4, 258), (4, 7)]) :
    Calls Try.prog 19 #[.slice A 2 c, .int .u16 5] w fun e w' => e = .returned (.tuple #[.int .u32 0, .bool false]) ∧ Below w.heap.size w w' := by
  have h := flast_any A 2 c [(4, 258), (4, 7)] 5 w hA (by omega)
  rw [show laV [(4, 258), (4, 7)] 5 = 0 from by decide +kernel, show laB [(4, 258), (4, 7)] 5 = false from by decide +kernel] at h
  exact h
theorem s_pairs2 (A : Option Addr) (c c' : Nat) (w : World) (hA : Ps w w.heap.size A 2 [(4, 258), (4, 7)]) :
    Calls Try.prog 24 #[.slice A 2 c, .slice A 2 c'] w fun e w' => e = .returned (.bool true) ∧ Below w.heap.size w w' := by
  have h := fpairs_any A A 2 2 c c' [(4, 258), (4, 7)] [(4, 258), (4, 7)] w hA hA (by omega)
  rw [show (([(4, 258), (4, 7)] : List Pr) == [(4, 258), (4, 7)]) = true from by decide +kernel] at h
  exact h
theorem s_pairs0 (A : Option Addr) (c : Nat) (w : World) (hA : Ps w w.heap.size A 2 [(4, 258), (4, 7)]) :
    Calls Try.prog 24 #[.slice A 2 c, .slice none 0 0] w fun e w' => e = .returned (.bool false) ∧ Below w.heap.size w w' := by
  have h := fpairs_any A none 2 0 c 0 [(4, 258), (4, 7)] [] w hA Ps.none_ (by omega)
  rw [show (([(4, 258), (4, 7)] : List Pr) == []) = false from by decide +kernel] at h
  exact h

set_option maxRecDepth 100000 in
set_option maxHeartbeats 4000000 in
theorem wakes_any (w : World) : Calls Try.prog 7 #[] w fun e w' => e = .returned (.bool true) ∧ Below w.heap.size w w' := by
  have K0 := Lib.hid (EnvP.nil w)
  have B0 := Lib.hid (Below.refl w.heap.size w)
  go_enter Try.func7, Try.ntmps7
  go_wp2_with (first
    | (go_at_call 8; (with_reducible refine (s_pad _ _ _ (EnvP.s (K0.out.litg 5 [7, 8] _ (by simp [bv]) (w.heap.size) (by simp)) (_, 2, [7, 8]) (List.mem_cons_self ..)) (fun h => by cases h)).mono ?_); rintro e w1 ⟨v1, rfl, ho1, hb1⟩; obtain ⟨A1, c1, rfl, hc1, hn1, hr1⟩ := ho1.form2 (n := 5) rfl; have K1 := Lib.hid (((K0.out.al _).on hb1).addS hr1); have B1 := Lib.hid (below_lit B0.out hb1); clear ho1 hr1 hn1 hb1 K0 B0)
    | (go_at_call 10; (with_reducible refine (s_unpad _ _ _ (EnvP.s (K1.out.litg 5 [2, 7, 8, 1, 9] _ (by simp [bv]) (w1.heap.size) (by simp)) (_, 5, [2, 7, 8, 1, 9]) (List.mem_cons_self ..)) (Nat.le_refl _)).mono ?_); rintro e w2 ⟨v2, rfl, ho2, hb2⟩; obtain ⟨A2, c2, rfl, hc2, hn2, hr2⟩ := ho2.form2 (n := 2) rfl; have K2 := Lib.hid (((K1.out.al _).on hb2).addS hr2); have B2 := Lib.hid (below_lit B1.out hb2); clear ho2 hr2 hn2 hb2 K1 B1)
    | (go_at_call 10; (with_reducible refine (s_unpad0 _).mono ?_); rintro e w3 ⟨v3, rfl, ho3, hb3⟩; obtain ⟨A3, c3, rfl, _, _, _⟩ := ho3.form2 (n := 0) rfl; have K3 := Lib.hid (K2.out.on hb3); have B3 := Lib.hid (below_step B2.out hb3); clear ho3 hb3 K2 B2)
    | (go_at_call 10; (with_reducible refine (s_unpad1 _ _ _ (EnvP.s (K3.out.litg 5 [1] _ (by simp [bv]) (w3.heap.size) (by simp)) (_, 1, [1]) (List.mem_cons_self ..)) (Nat.le_refl _)).mono ?_); rintro e w4 ⟨v4, rfl, ho4, hb4⟩; obtain ⟨A4, c4, rfl, hc4, hn4, hr4⟩ := ho4.form2 (n := 0) rfl; have K4 := Lib.hid (((K3.out.al _).on hb4).addS hr4); have B4 := Lib.hid (below_lit B3.out hb4); clear ho4 hr4 hn4 hb4 K3 B3)
    | (go_at_call 13; (with_reducible refine (s_prank _).mono ?_); rintro e w5 ⟨v5, rfl, ho5, hb5⟩; obtain ⟨A5, c5, rfl, hc5, _, hr5⟩ := ho5.form2 (n := 5) rfl; have K5 := Lib.hid ((K4.out.on hb5).addS hr5); have B5 := Lib.hid (below_step B4.out hb5); clear ho5 hr5 hb5 K4 B4)
    | (go_at_call 15; (with_reducible refine (s_trank _ _ _ (EnvP.s (K5.out.litg 5 [128, 0, 0, 3, 15, 6] _ (by simp [bv]) (w5.heap.size) (by simp)) (_, 6, [128, 0, 0, 3, 15, 6]) (List.mem_cons_self ..)) (Nat.le_refl _)).mono ?_); rintro e w6 ⟨v6, rfl, ho6, hb6⟩; obtain ⟨A6, c6, rfl, hc6, hn6, hr6⟩ := ho6.form2 (n := 1) rfl; have K6 := Lib.hid (((K5.out.al _).on hb6).addS hr6); have B6 := Lib.hid (below_lit B5.out hb6); clear ho6 hr6 hn6 hb6 K5 B5)
    | (go_at_call 21; (with_reducible refine (s_ppairs _ _ _ (EnvP.p (EnvP.litp (K6.out.box 24 #[.bool true, .int .i64 3, .int .u8 15]) 47 [(4, 258), (4, 7)] _ (by simp [pc]) (w6.heap.size + 1) (by simp)) (_, 2, [(4, 258), (4, 7)]) (List.mem_cons_self ..))).mono ?_); rintro e w7 ⟨v7, rfl, ho7, hb7⟩; obtain ⟨A7, c7, rfl, hc7, _, hr7⟩ := ho7.form2 (n := 12) rfl; have K7 := Lib.hid ((((K6.out.box 24 #[.bool true, .int .i64 3, .int .u8 15]).al _).on hb7).addS hr7); have B7 := Lib.hid (below_lit2 B6.out hb7); clear ho7 hr7 hb7 K6 B6)
    | (go_at_call 17; (with_reducible refine (s_tpairs A7 c7 _ (K7.out.s (A7, 12, [0, 4, 0, 0, 1, 2, 0, 4, 0, 0, 0, 7]) (by simp)) hc7).mono ?_); rintro e w8 ⟨v8, rfl, ho8, hb8⟩; obtain ⟨A8, c8, rfl, hc8, _, hr8⟩ := ho8.form2 (n := 2) rfl; have K8 := Lib.hid ((K7.out.on hb8).addP hr8); have B8 := Lib.hid (below_step B7.out hb8); clear ho8 hr8 hb8 K7 B7)
    | (go_at_call 17; (with_reducible refine (s_tpairs1 _ _ _ (EnvP.s (K8.out.litg 5 [1] _ (by simp [bv]) (w8.heap.size) (by simp)) (_, 1, [1]) (List.mem_cons_self ..)) (Nat.le_refl _)).mono ?_); rintro e w9 ⟨v9, rfl, ho9, hb9⟩; obtain ⟨A9, c9, rfl, hc9, hn9, hr9⟩ := ho9.form2 (n := 0) rfl; have K9 := Lib.hid (((K8.out.al _).on hb9).addP hr9); have B9 := Lib.hid (below_lit B8.out hb9); clear ho9 hr9 hn9 hb9 K8 B8)
    | (go_at_call 19; (with_reducible refine (s_last4 A8 c8 _ (K9.out.p (A8, 2, [(4, 258), (4, 7)]) (by simp))).mono ?_); rintro e w10 ⟨rfl, hb10⟩; have K10 := Lib.hid (K9.out.on hb10); have B10 := Lib.hid (below_step B9.out hb10); clear hb10 K9 B9)
    | (go_at_call 19; (with_reducible refine (s_last5 A8 c8 _ (K10.out.p (A8, 2, [(4, 258), (4, 7)]) (by simp))).mono ?_); rintro e w11 ⟨rfl, hb11⟩; have K11 := Lib.hid (K10.out.on hb11); have B11 := Lib.hid (below_step B10.out hb11); clear hb11 K10 B10)
    | (go_at_call 12; (with_reducible refine (refsame_any A1 _ 5 5 c1 5 _ _ [2, 7, 8, 0, 0] [2, 7, 8, 0, 0] _ (EnvP.s (K11.out.litg 5 [2, 7, 8, 0, 0] _ (by simp [bv]) (w11.heap.size) (by simp)) (A1, 5, [2, 7, 8, 0, 0]) (by simp)) (EnvP.s (K11.out.litg 5 [2, 7, 8, 0, 0] _ (by simp [bv]) (w11.heap.size) (by simp)) (_, 5, [2, 7, 8, 0, 0]) (List.mem_cons_self ..))).mono ?_); rintro e w' ⟨rfl, rfl⟩; rw [show (([2, 7, 8, 0, 0] : List UInt8) == [2, 7, 8, 0, 0]) = true from by decide]; have K12 := Lib.hid (K11.out.al (.cells #[.int .u8 2, .int .u8 7, .int .u8 8, .int .u8 0, .int .u8 0] 5)); have B12 := Lib.hid (B11.out.alloc B11.out.size (.cells #[.int .u8 2, .int .u8 7, .int .u8 8, .int .u8 0, .int .u8 0] 5)); clear K11 B11)
    | (go_at_call 12; (with_reducible refine (refsame_any A2 _ 2 2 c2 2 _ _ [7, 8] [7, 8] _ (EnvP.s (K12.out.litg 5 [7, 8] _ (by simp [bv]) (w11.heap.size + 1) (by simp)) (A2, 2, [7, 8]) (by simp)) (EnvP.s (K12.out.litg 5 [7, 8] _ (by simp [bv]) (w11.heap.size + 1) (by simp)) (_, 2, [7, 8]) (List.mem_cons_self ..))).mono ?_); rintro e w' ⟨rfl, rfl⟩; rw [show (([7, 8] : List UInt8) == [7, 8]) = true from by decide]; have K13 := Lib.hid (K12.out.al (.cells #[.int .u8 7, .int .u8 8] 5)); have B13 := Lib.hid (B12.out.alloc B12.out.size (.cells #[.int .u8 7, .int .u8 8] 5)); clear K12 B12)
    | (go_at_call 12; (with_reducible refine (refsame_any A5 _ 5 5 c5 5 _ _ [128, 0, 0, 3, 15] [128, 0, 0, 3, 15] _ (EnvP.s (K13.out.litg 5 [128, 0, 0, 3, 15] _ (by simp [bv]) (w11.heap.size + 2) (by simp)) (A5, 5, [128, 0, 0, 3, 15]) (by simp)) (EnvP.s (K13.out.litg 5 [128, 0, 0, 3, 15] _ (by simp [bv]) (w11.heap.size + 2) (by simp)) (_, 5, [128, 0, 0, 3, 15]) (List.mem_cons_self ..))).mono ?_); rintro e w' ⟨rfl, rfl⟩; rw [show (([128, 0, 0, 3, 15] : List UInt8) == [128, 0, 0, 3, 15]) = true from by decide]; have K14 := Lib.hid (K13.out.al (.cells #[.int .u8 128, .int .u8 0, .int .u8 0, .int .u8 3, .int .u8 15] 5)); have B14 := Lib.hid (B13.out.alloc B13.out.size (.cells #[.int .u8 128, .int .u8 0, .int .u8 0, .int .u8 3, .int .u8 15] 5)); clear K13 B13; obtain ⟨q0, q1, q2⟩ := K14.out.c3 (g := w6.heap.size) (a := .bool true) (b := .int .i64 3) (c := .int .u8 15) (by simp))
    | (go_at_call 12; (with_reducible refine (refsame_any A6 _ 1 1 c6 1 _ _ [6] [6] _ (EnvP.s (K14.out.litg 5 [6] _ (by simp [bv]) (w11.heap.size + 3) (by simp)) (A6, 1, [6]) (by simp)) (EnvP.s (K14.out.litg 5 [6] _ (by simp [bv]) (w11.heap.size + 3) (by simp)) (_, 1, [6]) (List.mem_cons_self ..))).mono ?_); rintro e w' ⟨rfl, rfl⟩; rw [show (([6] : List UInt8) == [6]) = true from by decide]; have K15 := Lib.hid (K14.out.al (.cells #[.int .u8 6] 5)); have B15 := Lib.hid (B14.out.alloc B14.out.size (.cells #[.int .u8 6] 5)); clear K14 B14)
    | (go_at_call 12; (with_reducible refine (refsame_any A7 _ 12 12 c7 12 _ _ [0, 4, 0, 0, 1, 2, 0, 4, 0, 0, 0, 7] [0, 4, 0, 0, 1, 2, 0, 4, 0, 0, 0, 7] _ (EnvP.s (K15.out.litg 5 [0, 4, 0, 0, 1, 2, 0, 4, 0, 0, 0, 7] _ (by simp [bv]) (w11.heap.size + 4) (by simp)) (A7, 12, [0, 4, 0, 0, 1, 2, 0, 4, 0, 0, 0, 7]) (by simp)) (EnvP.s (K15.out.litg 5 [0, 4, 0, 0, 1, 2, 0, 4, 0, 0, 0, 7] _ (by simp [bv]) (w11.heap.size + 4) (by simp)) (_, 12, [0, 4, 0, 0, 1, 2, 0, 4, 0, 0, 0, 7]) (List.mem_cons_self ..))).mono ?_); rintro e w' ⟨rfl, rfl⟩; rw [show (([0, 4, 0, 0, 1, 2, 0, 4, 0, 0, 0, 7] : List UInt8) == [0, 4, 0, 0, 1, 2, 0, 4, 0, 0, 0, 7]) = true from by decide]; have K16 := Lib.hid (K15.out.al (.cells #[.int .u8 0, .int .u8 4, .int .u8 0, .int .u8 0, .int .u8 1, .int .u8 2, .int .u8 0, .int .u8 4, .int .u8 0, .int .u8 0, .int .u8 0, .int .u8 7] 5)); have B16 := Lib.hid (B15.out.alloc B15.out.size (.cells #[.int .u8 0, .int .u8 4, .int .u8 0, .int .u8 0, .int .u8 1, .int .u8 2, .int .u8 0, .int .u8 4, .int .u8 0, .int .u8 0, .int .u8 0, .int .u8 7] 5)); clear K15 B15)
    | (go_at_call 24; (with_reducible refine (s_pairs2 A8 c8 c8 _ (K16.out.p (A8, 2, [(4, 258), (4, 7)]) (by simp))).mono ?_); rintro e w17 ⟨rfl, hb17⟩; have K17 := Lib.hid (K16.out.on hb17); have B17 := Lib.hid (below_step B16.out hb17); clear hb17 K16 B16)
    | (go_at_call 24; (with_reducible refine (s_pairs0 A8 c8 _ (K17.out.p (A8, 2, [(4, 258), (4, 7)]) (by simp))).mono ?_); rintro e w18 ⟨rfl, hb18⟩; have K18 := Lib.hid (K17.out.on hb18); have B18 := Lib.hid (below_step B17.out hb18); clear hb18 K17 B17))
  go_ret
  exact ⟨rfl, B18.out⟩
end Go.Proofs.Ytgmnhbpdpnciaaa
