/- CutBegins. -/
import Derived.Test.YtolminjedgoggaaCuWm
import Derived.Test.YtolminjedgoggaaGArgs
namespace Go.Proofs.Ytolminjedgoggaa
open Go.RowKit Oct Cu Go.Shelf
set_option linter.unusedVariables false
set_option linter.unusedSimpArgs false
/-- What Feed comes to, in letters. -/
def FeedTo (p : Int) (r : List UInt8) (rn : Nat) (cs : List UInt8) (cn P : Nat) (R : List UInt8) (RN X : Nat) (xb : Bool) (L : List (List UInt8)) (LN : Nat) : Prop :=
  ∀ (A A' : Option Addr) (c c' : Nat) (w : World), Bs w w.heap.size A rn r → (A = none → c = 0) → rn ≤ c → Bs w w.heap.size A' cn cs → (A' = none → c' = 0) → cn ≤ c' →
    Calls Try.prog 14 #[.agg #[.int .i64 p, .slice A rn c], .slice A' cn c'] w fun e w' => ∃ A1 c1 A2 c2 qs, e = .returned (.tuple #[.agg #[.int .i64 (P : Int), .slice A1 RN c1], .slice A2 LN c2, .agg #[.bool xb, .int .i64 0, .int .u32 (X : Int)], .int .i64 0]) ∧
      HandS w' w.heap.size A1 RN c1 R ∧ HandQ w' w.heap.size A2 LN c2 qs ∧ qs.map (·.f) = L ∧ Below w.heap.size w w'
theorem feedTo {pI : Int} {p : Nat} {r : List UInt8} {rn : Nat} {cs : List UInt8} {cn P : Nat} {R : List UInt8} {RN X : Nat} {xb : Bool} {L : List (List UInt8)} {LN : Nat} (hR : RightR p r) (h3 : rn ≤ 50000) (h4 : cn ≤ 50000) (eP : fdP p cs = P) (eR : fdR p r cs = R) (eX : fdX p r cs = X) (eb : (X != 0) = xb) (eL : fdL p r cs = L) (h5 : R.length = RN) (h6 : L.length = LN) (hpI : (p : Int) = pI) :
    FeedTo pI r rn cs cn P R RN X xb L LN := by
  subst eP eR eX eb eL h5 h6 hpI
  intro A A' c c' w h hN hc h' hN' hc'
  exact c_feed p A A' rn c cn c' r cs w h hN hc h3 h' hN' hc' h4 hR
theorem own_lit1 (w : World) (t : TypeId) (C : UInt8) (B : Nat) (hB : B ≤ w.heap.size) : OwnB (w.alloc (.cells #[.int .u8 (C.toNat : Int)] t)) B t (.slice (some ⟨w.heap.size, 0, none⟩) 1 1) [C] :=
  RowB.own (ys := [C]) (World.alloc_heap_new w _) hB (by simp; unfold maxLen; omega)
set_option maxRecDepth 100000 in
set_option maxHeartbeats 4000000 in
theorem beg_low (pre : Int) (C : UInt8) (A : Option Addr) (n c : Nat) (xs : List UInt8) (w : World) (hA : Bs w w.heap.size A n xs) (hN : A = none → c = 0) (hnc : n ≤ c) (hp : pre < 0) :
    Calls Try.prog 6 #[.int .i64 (pre : Int), .int .u8 (C.toNat : Int), .slice A n c] w fun e w' => e = .returned (.bool true) ∧ Below w.heap.size w w' := by
  have d0 : decide (pre < 0) = true := decide_eq_true hp
  have K0 : Hid (EnvF w [] []) := Lib.hid (EnvF.nil w)
  have B0 : Hid (Below w.heap.size w w) := Lib.hid (Below.refl _ w)
  go_enter Try.func6, Try.ntmps6
  go_wp2_with (first
    | go_skip
    | (go_at_call 13; (have hc := (wakes5 w); (with_reducible refine hc.mono ?_); clear hc); rintro e w1 ⟨rfl, hb⟩; have K1 : Hid (EnvF w1 [] []) := Lib.hid (K0.out.on hb); have B1 : Hid (Below w.heap.size w w1) := Lib.hid (below_step B0.out hb); clear hb K0 B0))
  go_ret
  exact ⟨by first | rfl | simp, B1.out⟩
set_option maxRecDepth 100000 in
set_option maxHeartbeats 4000000 in
theorem beg_high (pre : Int) (C : UInt8) (A : Option Addr) (n c : Nat) (xs : List UInt8) (w : World) (hA : Bs w w.heap.size A n xs) (hN : A = none → c = 0) (hnc : n ≤ c) (hp : 23 < pre) :
    Calls Try.prog 6 #[.int .i64 (pre : Int), .int .u8 (C.toNat : Int), .slice A n c] w fun e w' => e = .returned (.bool true) ∧ Below w.heap.size w w' := by
  have d0 : decide (pre < 0) = false := decide_eq_false (by omega)
  have d1 : decide (23 < pre) = true := decide_eq_true hp
  have K0 : Hid (EnvF w [] []) := Lib.hid (EnvF.nil w)
  have B0 : Hid (Below w.heap.size w w) := Lib.hid (Below.refl _ w)
  go_enter Try.func6, Try.ntmps6
  go_wp2_with (first
    | go_skip
    | (go_at_call 13; (have hc := (wakes5 w); (with_reducible refine hc.mono ?_); clear hc); rintro e w1 ⟨rfl, hb⟩; have K1 : Hid (EnvF w1 [] []) := Lib.hid (K0.out.on hb); have B1 : Hid (Below w.heap.size w w1) := Lib.hid (below_step B0.out hb); clear hb K0 B0))
  go_ret
  exact ⟨by first | rfl | simp, B1.out⟩
set_option maxRecDepth 100000 in
set_option maxHeartbeats 4000000 in
theorem beg_great (pre : Int) (C : UInt8) (A : Option Addr) (n c : Nat) (xs : List UInt8) (w : World) (hA : Bs w w.heap.size A n xs) (hN : A = none → c = 0) (hnc : n ≤ c) (h0 : 0 ≤ pre) (hp : pre ≤ 23) (hg : 600 < n) :
    Calls Try.prog 6 #[.int .i64 (pre : Int), .int .u8 (C.toNat : Int), .slice A n c] w fun e w' => e = .returned (.bool true) ∧ Below w.heap.size w w' := by
  have d0 : decide (pre < 0) = false := decide_eq_false (by omega)
  have d1 : decide (23 < pre) = false := decide_eq_false (by omega)
  have hb1 : decide ((600 : Int) < (n : Int)) = true := decide_eq_true (by omega)
  have K0 : Hid (EnvF w [] []) := Lib.hid (EnvF.nil w)
  have B0 : Hid (Below w.heap.size w w) := Lib.hid (Below.refl _ w)
  go_enter Try.func6, Try.ntmps6
  go_wp2_with (first
    | go_skip
    | (go_at_call 11; (have hc := (c_great' A n c _ hb1 w); (with_reducible refine hc.mono ?_); clear hc); rintro e w1 ⟨rfl, hb⟩; have K1 : Hid (EnvF w1 [] []) := Lib.hid (K0.out.on hb); have B1 : Hid (Below w.heap.size w w1) := Lib.hid (below_step B0.out hb); clear hb K0 B0)
    | (go_at_call 13; (have hc := (wakes5 w1); (with_reducible refine hc.mono ?_); clear hc); rintro e w2 ⟨rfl, hb⟩; have K2 : Hid (EnvF w2 [] []) := Lib.hid (K1.out.on hb); have B2 : Hid (Below w.heap.size w w2) := Lib.hid (below_step B1.out hb); clear hb K1 B1))
  go_ret
  exact ⟨by first | rfl | simp, B2.out⟩
set_option maxRecDepth 100000 in
set_option maxHeartbeats 4000000 in
theorem beg_other (pre : Nat) (C : UInt8) (A : Option Addr) (n c : Nat) (xs : List UInt8) (w : World) (hA : Bs w w.heap.size A n xs) (hN : A = none → c = 0) (hnc : n ≤ c) (hp : pre ≤ 23) (hg : n ≤ 600) (y : UInt8) (hy : prefB[pre]? = some y) (hne : ((C.toNat : Int) != (y.toNat : Int)) = true) :
    Calls Try.prog 6 #[.int .i64 (pre : Int), .int .u8 (C.toNat : Int), .slice A n c] w fun e w' => e = .returned (.bool true) ∧ Below w.heap.size w w' := by
  have hx := fd_other C xs (p := pre) (by omega) (fun h => by rw [hy] at h; cases h; simp at hne)
  have HFD : Hid (FeedTo pre [] 0 (C :: xs) (n + 1) pre [] 0 1 true [] 0) := Lib.hid (feedTo (right_nil (by omega)) (by omega) (by omega) hx.1 hx.2.2.2 hx.2.1 rfl hx.2.2.1 rfl rfl rfl)
  have HY := Lib.hid hy
  clear hx hy
  have d0 : decide ((pre : Int) < 0) = false := decide_eq_false (by omega)
  have d1 : decide (23 < (pre : Int)) = false := decide_eq_false (by omega)
  have hb1 : decide ((600 : Int) < (n : Int)) = false := decide_eq_false (by omega)
  obtain ⟨i0, hi, hz0, hz1, hz2⟩ := info_parts info_u8
  have hinf := Lib.hid (And.intro hi (And.intro hz0 (And.intro hz1 hz2)))
  clear hi hz0 hz1 hz2
  have hl := hA.1
  have g0 : (0 : Int) ≤ (pre : Int) := by omega
  have g1 : (pre : Int) < 24 := by omega
  have g2 : pre < 24 := by omega
  have K0 : Hid (EnvF w [bF A n xs] []) := Lib.hid ((EnvF.nil w).addB hA)
  have B0 : Hid (Below w.heap.size w w) := Lib.hid (Below.refl _ w)
  have HN := Lib.hid hN
  clear hA hN
  go_enter Try.func6, Try.ntmps6
  go_wp2_with (first
    | go_skip
    | (go_at_call 11; (have hc := (c_great' A n c _ hb1 w); (with_reducible refine hc.mono ?_); clear hc); rintro e w1 ⟨rfl, hb⟩; have K1 : Hid (EnvF w1 [bF A n xs] []) := Lib.hid (K0.out.on hb); have B1 : Hid (Below w.heap.size w w1) := Lib.hid (below_step B0.out hb); clear hb K0 B0)
    | (go_at_call 20; (have hc := (c_preface w1); (with_reducible refine hc.mono ?_); clear hc); rintro e w2 ⟨A1, c1, rfl, hh, hb⟩; obtain ⟨b1, o1, rfl, _, _⟩ := hh.1.2 (by omega); have HC1 := Lib.hid hh.2.2; have K2 : Hid (EnvF w2 [bF (some ⟨b1, o1, none⟩) 24 prefB, bF A n xs] []) := Lib.hid (K1.out.handS hb hh); have B2 : Hid (Below w.heap.size w w2) := Lib.hid (below_step B1.out hb); clear hb hh K1 B1)
    | (at_builtin; refine wpList_append_bytes _ rfl (.tmp 35) (.tmp 36) 26 rfl w2.heap.size 5 i0 Try.underlying26 hinf.out.1 hinf.out.2.1 hinf.out.2.2.1 hinf.out.2.2.2 _ [C] rfl (own_lit1 w2 _ C w2.heap.size (Nat.le_refl _)) _ A n c xs rfl ((K2.out.al (.cells #[.int .u8 (C.toNat : Int)] 5)).bs (A := A) (n := n) (xs := xs) (by simp)) HN.out (by simp; omega) (by simp) ?_; intro v9 w9 ho9 hb9; obtain ⟨A9, c9, rfl, hh9⟩ := ho9.handS (n := n + 1) (by simp; omega); have HC9 := Lib.hid hh9.2.2; have HB9 : Hid (Below w2.heap.size w2 w9) := Lib.hid (((Below.refl _ w2).alloc (Nat.le_refl _) (.cells #[.int .u8 (C.toNat : Int)] 5)).trans hb9); have K9 : Hid (EnvF w9 [bF A9 (n + 1) (C :: xs), bF (some ⟨b1, o1, none⟩) 24 prefB, bF A n xs] []) := Lib.hid (K2.out.handS HB9.out hh9); have B9 : Hid (Below w.heap.size w w9) := Lib.hid (below_step B2.out HB9.out); clear ho9 hb9 hh9 K2 B2 HB9)
    | (go_at_call 14; (have hc := (HFD.out none A9 0 c9 w9 Bs.none_ (fun _ => rfl) (Nat.le_refl _) (K9.out.bs (A := A9) (n := (n + 1)) (xs := (C :: xs)) (by simp)) HC9.out.2 HC9.out.1); (with_reducible refine hc.mono ?_); clear hc); rintro e w10 ⟨A2, c2, A3, c3, qs, rfl, hh, hq, hm, hb⟩; have HM := Lib.hid hm; have K10 : Hid (EnvF w10 [qF A3 0 qs, bF A2 0 [], bF A9 (n + 1) (C :: xs), bF (some ⟨b1, o1, none⟩) 24 prefB, bF A n xs] []) := Lib.hid ((K9.out.handS hb hh).hand2 K9.out hb ⟨hq.1, fun k hk => ⟨hq.2.1 k hk, hq.1.lt hk⟩⟩); have B10 : Hid (Below w.heap.size w w10) := Lib.hid (below_step B9.out hb); clear hb hh hq hm K9 B9; have leo : w.heap.size ≤ w10.heap.size := (by have := B10.out.size; (try simp only [World.size_alloc] at this); omega); have K11 : Hid (EnvF (w10.alloc (.cells #[.int .i64 0, .slice none 0 0] 40)) [qF A3 0 qs, bF A2 0 [], bF A9 (n + 1) (C :: xs), bF (some ⟨b1, o1, none⟩) 24 prefB, bF A n xs] [(w10.heap.size, #[.int .i64 0, .slice none 0 0], 40)]) := Lib.hid (K10.out.boxg 40 #[.int .i64 0, .slice none 0 0] (w10.heap.size) (by simp)); have B11 : Hid (Below w.heap.size w (w10.alloc (.cells #[.int .i64 0, .slice none 0 0] 40))) := Lib.hid (B10.out.alloc B10.out.size (.cells #[.int .i64 0, .slice none 0 0] 40)); clear K10 B10; have lef : w.heap.size ≤ w10.heap.size + 1 := (by have := B11.out.size; (try simp only [World.size_alloc] at this); omega); have K12 : Hid (EnvF ((w10.alloc (.cells #[.int .i64 0, .slice none 0 0] 40)).alloc (.cells #[.bool false, .int .i64 0, .int .u32 0] 34)) [qF A3 0 qs, bF A2 0 [], bF A9 (n + 1) (C :: xs), bF (some ⟨b1, o1, none⟩) 24 prefB, bF A n xs] [(w10.heap.size + 1, #[.bool false, .int .i64 0, .int .u32 0], 34), (w10.heap.size, #[.int .i64 0, .slice none 0 0], 40)]) := Lib.hid (K11.out.boxg 34 #[.bool false, .int .i64 0, .int .u32 0] (w10.heap.size + 1) (by simp)); have B12 : Hid (Below w.heap.size w ((w10.alloc (.cells #[.int .i64 0, .slice none 0 0] 40)).alloc (.cells #[.bool false, .int .i64 0, .int .u32 0] 34))) := Lib.hid (B11.out.alloc B11.out.size (.cells #[.bool false, .int .i64 0, .int .u32 0] 34)); clear K11 B11)
    | (refine at_store 40 (.tmp 8) (.tmp 39) (by rfl) ?_; refine wpList_put (by rfl) 40 (.tmp 8) (.tmp 39) (by rfl) (w10.heap.size) 0 (.agg #[.int .i64 (pre : Int), .slice A2 0 c2]) (by rfl) (by rfl) 40 #[.int .i64 0, .slice none 0 0] #[.int .i64 (pre : Int), .slice A2 0 c2] (K12.out.row 1 rfl) (by simp [Value.cells]) (by kernel_rfl) infoc_R (by kernel_rfl) ?_; intro w13 hrow hoth hz hbl; have K13 : Hid (EnvF w13 [qF A3 0 qs, bF A2 0 [], bF A9 (n + 1) (C :: xs), bF (some ⟨b1, o1, none⟩) 24 prefB, bF A n xs] [(w10.heap.size + 1, #[.bool false, .int .i64 0, .int .u32 0], 34), (w10.heap.size, #[.int .i64 (pre : Int), .slice A2 0 c2], 40)]) := Lib.hid (K12.out.turn 1 rfl hrow hoth hz); have B13 : Hid (Below w.heap.size w w13) := Lib.hid (hbl _ _ leo B12.out); clear hrow hoth hz hbl K12 B12)
    | (refine at_store 34 (.tmp 10) (.tmp 41) (by rfl) ?_; refine wpList_put (by rfl) 34 (.tmp 10) (.tmp 41) (by rfl) (w10.heap.size + 1) 0 (.agg #[.bool true, .int .i64 0, .int .u32 1]) (by rfl) (by rfl) 34 #[.bool false, .int .i64 0, .int .u32 0] #[.bool true, .int .i64 0, .int .u32 1] (K13.out.row 0 rfl) (by simp [Value.cells]) (by kernel_rfl) infoc_X (by kernel_rfl) ?_; intro w14 hrow hoth hz hbl; have K14 : Hid (EnvF w14 [qF A3 0 qs, bF A2 0 [], bF A9 (n + 1) (C :: xs), bF (some ⟨b1, o1, none⟩) 24 prefB, bF A n xs] [(w10.heap.size + 1, #[.bool true, .int .i64 0, .int .u32 1], 34), (w10.heap.size, #[.int .i64 (pre : Int), .slice A2 0 c2], 40)]) := Lib.hid (K13.out.turn 0 rfl hrow hoth hz); have B14 : Hid (Below w.heap.size w w14) := Lib.hid (hbl _ _ lef B13.out); clear hrow hoth hz hbl K13 B13; obtain ⟨b2, o2, e2, _, hcq⟩ := bs_cell (K14.out.bs (A := some ⟨b1, o1, none⟩) (n := 24) (xs := prefB) (by simp)) (by omega); cases e2; obtain ⟨y2, hy2, hcell⟩ := hcq pre g2; rw [HY.out] at hy2; cases hy2; clear hcq)
    | (refine at_load 34 (.tmp 10) (by rfl) ?_; refine wpListG_row (by kernel_rfl) 34 (.tmp 10) (by rfl) (w10.heap.size + 1) (by rfl) 34 #[.bool true, .int .i64 0, .int .u32 1] _ (K14.out.row 0 rfl) Try.underlying34 (by rfl) infoc_X ?_)
    | (refine at_load 40 (.tmp 8) (by rfl) ?_; refine wpListG_row (by kernel_rfl) 40 (.tmp 8) (by rfl) (w10.heap.size) (by rfl) 40 #[.int .i64 (pre : Int), .slice A2 0 c2] _ (K14.out.row 1 rfl) Try.underlying40 (by rfl) infoc_R ?_)
    | (go_at_call 16; (have hc := (d_same (pre : Int) A2 none 0 c2 0 0 [] _ (K14.out.bs (A := A2) (n := 0) (xs := []) (by simp)) Bs.none_); (with_reducible refine hc.mono ?_); clear hc); rintro e w15 ⟨rfl, hb⟩; have K15 : Hid (EnvF w15 [qF A3 0 qs, bF A2 0 [], bF A9 (n + 1) (C :: xs), bF (some ⟨b1, o1, none⟩) 24 prefB, bF A n xs] [(w10.heap.size + 1, #[.bool true, .int .i64 0, .int .u32 1], 34), (w10.heap.size, #[.int .i64 (pre : Int), .slice A2 0 c2], 40)]) := Lib.hid (K14.out.on hb); have B15 : Hid (Below w.heap.size w w15) := Lib.hid (below_step B14.out hb); clear hb K14 B14)
    | (go_at_call 13; (have hc := (wakes5 w15); (with_reducible refine hc.mono ?_); clear hc); rintro e w16 ⟨rfl, hb⟩; have K16 : Hid (EnvF w16 [qF A3 0 qs, bF A2 0 [], bF A9 (n + 1) (C :: xs), bF (some ⟨b1, o1, none⟩) 24 prefB, bF A n xs] [(w10.heap.size + 1, #[.bool true, .int .i64 0, .int .u32 1], 34), (w10.heap.size, #[.int .i64 (pre : Int), .slice A2 0 c2], 40)]) := Lib.hid (K15.out.on hb); have B16 : Hid (Below w.heap.size w w16) := Lib.hid (below_step B15.out hb); clear hb K15 B15))
  go_ret
  exact ⟨by first | rfl | simp, B16.out⟩
set_option maxRecDepth 100000 in
set_option maxHeartbeats 4000000 in
theorem beg_next (pre : Nat) (C : UInt8) (A : Option Addr) (n c : Nat) (xs : List UInt8) (w : World) (hA : Bs w w.heap.size A n xs) (hN : A = none → c = 0) (hnc : n ≤ c) (hp : pre ≤ 23) (hg : n ≤ 600) (y : UInt8) (hy : prefB[pre]? = some y) (heq : C = y) :
    Calls Try.prog 6 #[.int .i64 (pre : Int), .int .u8 (C.toNat : Int), .slice A n c] w fun e w' => e = .returned (.bool true) ∧ Below w.heap.size w w' := by
  have hx := fd_next C xs (p := pre) (by omega) (heq ▸ hy)
  obtain ⟨P, eP⟩ : ∃ P, fdP (pre + 1) xs = P := ⟨_, rfl⟩
  obtain ⟨X, eX⟩ : ∃ X, fdX (pre + 1) [] xs = X := ⟨_, rfl⟩
  obtain ⟨L, eL⟩ : ∃ L, fdL (pre + 1) [] xs = L := ⟨_, rfl⟩
  obtain ⟨R, eR⟩ : ∃ R, fdR (pre + 1) [] xs = R := ⟨_, rfl⟩
  obtain ⟨RN, eRN⟩ : ∃ RN, R.length = RN := ⟨_, rfl⟩
  obtain ⟨LN, eLN⟩ : ∃ LN, L.length = LN := ⟨_, rfl⟩
  obtain ⟨xb, exb⟩ : ∃ xb, (X != 0) = xb := ⟨_, rfl⟩
  have HFD : Hid (FeedTo pre [] 0 (C :: xs) (n + 1) P R RN X xb L LN) := Lib.hid (feedTo (right_nil (by omega)) (by omega) (by omega) (hx.1.trans eP) (hx.2.2.2.trans eR) (hx.2.1.trans eX) exb (hx.2.2.1.trans eL) eRN eLN rfl)
  have HFD2 : Hid (FeedTo ((pre : Int) + 1) [] 0 xs n P R RN X xb L LN) := Lib.hid (feedTo (p := pre + 1) (right_nil (by omega)) (by omega) (by omega) eP eR eX exb eL eRN eLN (by omega))
  have hLN : LN ≤ 100000 := by
    have hf := cut_len (xs.drop (gre (pre + 1) xs - (pre + 1))).length (xs.drop (gre (pre + 1) xs - (pre + 1)))
    have hxl := hA.1
    have e : L.length ≤ xs.length := by
      rw [← eL]
      unfold fdL
      split
      · simp
      · rw [List.nil_append]
        unfold fdC fs
        rw [List.length_drop] at hf
        rw [List.length_drop]
        omega
    omega
  have s1 : IntKind.i64.wrap ((pre : Int) + 1) = (pre : Int) + 1 := IntWalk.i64_in _ (by omega)
  have HY := Lib.hid hy
  have hne : ((C.toNat : Int) != (y.toNat : Int)) = false := by rw [heq]; simp
  clear hx hy eP eX eL eR eRN eLN exb heq
  have d0 : decide ((pre : Int) < 0) = false := decide_eq_false (by omega)
  have d1 : decide (23 < (pre : Int)) = false := decide_eq_false (by omega)
  have hb1 : decide ((600 : Int) < (n : Int)) = false := decide_eq_false (by omega)
  obtain ⟨i0, hi, hz0, hz1, hz2⟩ := info_parts info_u8
  have hinf := Lib.hid (And.intro hi (And.intro hz0 (And.intro hz1 hz2)))
  clear hi hz0 hz1 hz2
  have hl := hA.1
  have g0 : (0 : Int) ≤ (pre : Int) := by omega
  have g1 : (pre : Int) < 24 := by omega
  have g2 : pre < 24 := by omega
  have K0 : Hid (EnvF w [bF A n xs] []) := Lib.hid ((EnvF.nil w).addB hA)
  have B0 : Hid (Below w.heap.size w w) := Lib.hid (Below.refl _ w)
  have HN := Lib.hid hN
  clear hA hN
  go_enter Try.func6, Try.ntmps6
  go_wp2_with (first
    | go_skip
    | (go_at_call 11; (have hc := (c_great' A n c _ hb1 w); (with_reducible refine hc.mono ?_); clear hc); rintro e w1 ⟨rfl, hb⟩; have K1 : Hid (EnvF w1 [bF A n xs] []) := Lib.hid (K0.out.on hb); have B1 : Hid (Below w.heap.size w w1) := Lib.hid (below_step B0.out hb); clear hb K0 B0)
    | (go_at_call 20; (have hc := (c_preface w1); (with_reducible refine hc.mono ?_); clear hc); rintro e w2 ⟨A1, c1, rfl, hh, hb⟩; obtain ⟨b1, o1, rfl, _, _⟩ := hh.1.2 (by omega); have HC1 := Lib.hid hh.2.2; have K2 : Hid (EnvF w2 [bF (some ⟨b1, o1, none⟩) 24 prefB, bF A n xs] []) := Lib.hid (K1.out.handS hb hh); have B2 : Hid (Below w.heap.size w w2) := Lib.hid (below_step B1.out hb); clear hb hh K1 B1)
    | (at_builtin; refine wpList_append_bytes _ rfl (.tmp 35) (.tmp 36) 26 rfl w2.heap.size 5 i0 Try.underlying26 hinf.out.1 hinf.out.2.1 hinf.out.2.2.1 hinf.out.2.2.2 _ [C] rfl (own_lit1 w2 _ C w2.heap.size (Nat.le_refl _)) _ A n c xs rfl ((K2.out.al (.cells #[.int .u8 (C.toNat : Int)] 5)).bs (A := A) (n := n) (xs := xs) (by simp)) HN.out (by simp; omega) (by simp) ?_; intro v9 w9 ho9 hb9; obtain ⟨A9, c9, rfl, hh9⟩ := ho9.handS (n := n + 1) (by simp; omega); have HC9 := Lib.hid hh9.2.2; have HB9 : Hid (Below w2.heap.size w2 w9) := Lib.hid (((Below.refl _ w2).alloc (Nat.le_refl _) (.cells #[.int .u8 (C.toNat : Int)] 5)).trans hb9); have K9 : Hid (EnvF w9 [bF A9 (n + 1) (C :: xs), bF (some ⟨b1, o1, none⟩) 24 prefB, bF A n xs] []) := Lib.hid (K2.out.handS HB9.out hh9); have B9 : Hid (Below w.heap.size w w9) := Lib.hid (below_step B2.out HB9.out); clear ho9 hb9 hh9 K2 B2 HB9)
    | (go_at_call 14; (have hc := (HFD.out none A9 0 c9 w9 Bs.none_ (fun _ => rfl) (Nat.le_refl _) (K9.out.bs (A := A9) (n := (n + 1)) (xs := (C :: xs)) (by simp)) HC9.out.2 HC9.out.1); (with_reducible refine hc.mono ?_); clear hc); rintro e w10 ⟨A2, c2, A3, c3, qs, rfl, hh, hq, hm, hb⟩; have HM := Lib.hid hm; have K10 : Hid (EnvF w10 [qF A3 LN qs, bF A2 RN R, bF A9 (n + 1) (C :: xs), bF (some ⟨b1, o1, none⟩) 24 prefB, bF A n xs] []) := Lib.hid ((K9.out.handS hb hh).hand2 K9.out hb ⟨hq.1, fun k hk => ⟨hq.2.1 k hk, hq.1.lt hk⟩⟩); have B10 : Hid (Below w.heap.size w w10) := Lib.hid (below_step B9.out hb); clear hb hh hq hm K9 B9; have leo : w.heap.size ≤ w10.heap.size := (by have := B10.out.size; (try simp only [World.size_alloc] at this); omega); have K11 : Hid (EnvF (w10.alloc (.cells #[.int .i64 0, .slice none 0 0] 40)) [qF A3 LN qs, bF A2 RN R, bF A9 (n + 1) (C :: xs), bF (some ⟨b1, o1, none⟩) 24 prefB, bF A n xs] [(w10.heap.size, #[.int .i64 0, .slice none 0 0], 40)]) := Lib.hid (K10.out.boxg 40 #[.int .i64 0, .slice none 0 0] (w10.heap.size) (by simp)); have B11 : Hid (Below w.heap.size w (w10.alloc (.cells #[.int .i64 0, .slice none 0 0] 40))) := Lib.hid (B10.out.alloc B10.out.size (.cells #[.int .i64 0, .slice none 0 0] 40)); clear K10 B10; have lef : w.heap.size ≤ w10.heap.size + 1 := (by have := B11.out.size; (try simp only [World.size_alloc] at this); omega); have K12 : Hid (EnvF ((w10.alloc (.cells #[.int .i64 0, .slice none 0 0] 40)).alloc (.cells #[.bool false, .int .i64 0, .int .u32 0] 34)) [qF A3 LN qs, bF A2 RN R, bF A9 (n + 1) (C :: xs), bF (some ⟨b1, o1, none⟩) 24 prefB, bF A n xs] [(w10.heap.size + 1, #[.bool false, .int .i64 0, .int .u32 0], 34), (w10.heap.size, #[.int .i64 0, .slice none 0 0], 40)]) := Lib.hid (K11.out.boxg 34 #[.bool false, .int .i64 0, .int .u32 0] (w10.heap.size + 1) (by simp)); have B12 : Hid (Below w.heap.size w ((w10.alloc (.cells #[.int .i64 0, .slice none 0 0] 40)).alloc (.cells #[.bool false, .int .i64 0, .int .u32 0] 34))) := Lib.hid (B11.out.alloc B11.out.size (.cells #[.bool false, .int .i64 0, .int .u32 0] 34)); clear K11 B11)
    | (refine at_store 40 (.tmp 8) (.tmp 39) (by rfl) ?_; refine wpList_put (by rfl) 40 (.tmp 8) (.tmp 39) (by rfl) (w10.heap.size) 0 (.agg #[.int .i64 (P : Int), .slice A2 RN c2]) (by rfl) (by rfl) 40 #[.int .i64 0, .slice none 0 0] #[.int .i64 (P : Int), .slice A2 RN c2] (K12.out.row 1 rfl) (by simp [Value.cells]) (by kernel_rfl) infoc_R (by kernel_rfl) ?_; intro w13 hrow hoth hz hbl; have K13 : Hid (EnvF w13 [qF A3 LN qs, bF A2 RN R, bF A9 (n + 1) (C :: xs), bF (some ⟨b1, o1, none⟩) 24 prefB, bF A n xs] [(w10.heap.size + 1, #[.bool false, .int .i64 0, .int .u32 0], 34), (w10.heap.size, #[.int .i64 (P : Int), .slice A2 RN c2], 40)]) := Lib.hid (K12.out.turn 1 rfl hrow hoth hz); have B13 : Hid (Below w.heap.size w w13) := Lib.hid (hbl _ _ leo B12.out); clear hrow hoth hz hbl K12 B12)
    | (refine at_store 34 (.tmp 10) (.tmp 41) (by rfl) ?_; refine wpList_put (by rfl) 34 (.tmp 10) (.tmp 41) (by rfl) (w10.heap.size + 1) 0 (.agg #[.bool xb, .int .i64 0, .int .u32 (X : Int)]) (by rfl) (by rfl) 34 #[.bool false, .int .i64 0, .int .u32 0] #[.bool xb, .int .i64 0, .int .u32 (X : Int)] (K13.out.row 0 rfl) (by simp [Value.cells]) (by kernel_rfl) infoc_X (by kernel_rfl) ?_; intro w14 hrow hoth hz hbl; have K14 : Hid (EnvF w14 [qF A3 LN qs, bF A2 RN R, bF A9 (n + 1) (C :: xs), bF (some ⟨b1, o1, none⟩) 24 prefB, bF A n xs] [(w10.heap.size + 1, #[.bool xb, .int .i64 0, .int .u32 (X : Int)], 34), (w10.heap.size, #[.int .i64 (P : Int), .slice A2 RN c2], 40)]) := Lib.hid (K13.out.turn 0 rfl hrow hoth hz); have B14 : Hid (Below w.heap.size w w14) := Lib.hid (hbl _ _ lef B13.out); clear hrow hoth hz hbl K13 B13; obtain ⟨b2, o2, e2, _, hcq⟩ := bs_cell (K14.out.bs (A := some ⟨b1, o1, none⟩) (n := 24) (xs := prefB) (by simp)) (by omega); cases e2; obtain ⟨y2, hy2, hcell⟩ := hcq pre g2; rw [HY.out] at hy2; cases hy2; clear hcq)
    | (go_at_call 14; (have hc := (HFD2.out none A 0 c _ Bs.none_ (fun _ => rfl) (Nat.le_refl _) (K14.out.bs (A := A) (n := n) (xs := xs) (by simp)) HN.out hnc); (with_reducible refine hc.mono ?_); clear hc); rintro e w15 ⟨A4, c4, A5, c5, qs2, rfl, hh, hq, hm, hb⟩; have HM2 := Lib.hid hm; have K15 : Hid (EnvF w15 [qF A5 LN qs2, bF A4 RN R, qF A3 LN qs, bF A2 RN R, bF A9 (n + 1) (C :: xs), bF (some ⟨b1, o1, none⟩) 24 prefB, bF A n xs] [(w10.heap.size + 1, #[.bool xb, .int .i64 0, .int .u32 (X : Int)], 34), (w10.heap.size, #[.int .i64 (P : Int), .slice A2 RN c2], 40)]) := Lib.hid ((K14.out.handS hb hh).hand2 K14.out hb ⟨hq.1, fun k hk => ⟨hq.2.1 k hk, hq.1.lt hk⟩⟩); have B15 : Hid (Below w.heap.size w w15) := Lib.hid (below_step B14.out hb); clear hb hh hq hm K14 B14; have leq : w.heap.size ≤ w15.heap.size := (by have := B15.out.size; (try simp only [World.size_alloc] at this); omega); have K16 : Hid (EnvF (w15.alloc (.cells #[.int .i64 0, .slice none 0 0] 40)) [qF A5 LN qs2, bF A4 RN R, qF A3 LN qs, bF A2 RN R, bF A9 (n + 1) (C :: xs), bF (some ⟨b1, o1, none⟩) 24 prefB, bF A n xs] [(w15.heap.size, #[.int .i64 0, .slice none 0 0], 40), (w10.heap.size + 1, #[.bool xb, .int .i64 0, .int .u32 (X : Int)], 34), (w10.heap.size, #[.int .i64 (P : Int), .slice A2 RN c2], 40)]) := Lib.hid (K15.out.boxg 40 #[.int .i64 0, .slice none 0 0] (w15.heap.size) (by simp)); have B16 : Hid (Below w.heap.size w (w15.alloc (.cells #[.int .i64 0, .slice none 0 0] 40))) := Lib.hid (B15.out.alloc B15.out.size (.cells #[.int .i64 0, .slice none 0 0] 40)); clear K15 B15; have leg : w.heap.size ≤ w15.heap.size + 1 := (by have := B16.out.size; (try simp only [World.size_alloc] at this); omega); have K17 : Hid (EnvF ((w15.alloc (.cells #[.int .i64 0, .slice none 0 0] 40)).alloc (.cells #[.bool false, .int .i64 0, .int .u32 0] 34)) [qF A5 LN qs2, bF A4 RN R, qF A3 LN qs, bF A2 RN R, bF A9 (n + 1) (C :: xs), bF (some ⟨b1, o1, none⟩) 24 prefB, bF A n xs] [(w15.heap.size + 1, #[.bool false, .int .i64 0, .int .u32 0], 34), (w15.heap.size, #[.int .i64 0, .slice none 0 0], 40), (w10.heap.size + 1, #[.bool xb, .int .i64 0, .int .u32 (X : Int)], 34), (w10.heap.size, #[.int .i64 (P : Int), .slice A2 RN c2], 40)]) := Lib.hid (K16.out.boxg 34 #[.bool false, .int .i64 0, .int .u32 0] (w15.heap.size + 1) (by simp)); have B17 : Hid (Below w.heap.size w ((w15.alloc (.cells #[.int .i64 0, .slice none 0 0] 40)).alloc (.cells #[.bool false, .int .i64 0, .int .u32 0] 34))) := Lib.hid (B16.out.alloc B16.out.size (.cells #[.bool false, .int .i64 0, .int .u32 0] 34)); clear K16 B16)
    | (refine at_store 40 (.tmp 12) (.tmp 76) (by rfl) ?_; refine wpList_put (by rfl) 40 (.tmp 12) (.tmp 76) (by rfl) (w15.heap.size) 0 (.agg #[.int .i64 (P : Int), .slice A4 RN c4]) (by rfl) (by rfl) 40 #[.int .i64 0, .slice none 0 0] #[.int .i64 (P : Int), .slice A4 RN c4] (K17.out.row 1 rfl) (by simp [Value.cells]) (by kernel_rfl) infoc_R (by kernel_rfl) ?_; intro w18 hrow hoth hz hbl; have K18 : Hid (EnvF w18 [qF A5 LN qs2, bF A4 RN R, qF A3 LN qs, bF A2 RN R, bF A9 (n + 1) (C :: xs), bF (some ⟨b1, o1, none⟩) 24 prefB, bF A n xs] [(w15.heap.size + 1, #[.bool false, .int .i64 0, .int .u32 0], 34), (w15.heap.size, #[.int .i64 (P : Int), .slice A4 RN c4], 40), (w10.heap.size + 1, #[.bool xb, .int .i64 0, .int .u32 (X : Int)], 34), (w10.heap.size, #[.int .i64 (P : Int), .slice A2 RN c2], 40)]) := Lib.hid (K17.out.turn 1 rfl hrow hoth hz); have B18 : Hid (Below w.heap.size w w18) := Lib.hid (hbl _ _ leq B17.out); clear hrow hoth hz hbl K17 B17)
    | (refine at_store 34 (.tmp 14) (.tmp 78) (by rfl) ?_; refine wpList_put (by rfl) 34 (.tmp 14) (.tmp 78) (by rfl) (w15.heap.size + 1) 0 (.agg #[.bool xb, .int .i64 0, .int .u32 (X : Int)]) (by rfl) (by rfl) 34 #[.bool false, .int .i64 0, .int .u32 0] #[.bool xb, .int .i64 0, .int .u32 (X : Int)] (K18.out.row 0 rfl) (by simp [Value.cells]) (by kernel_rfl) infoc_X (by kernel_rfl) ?_; intro w19 hrow hoth hz hbl; have K19 : Hid (EnvF w19 [qF A5 LN qs2, bF A4 RN R, qF A3 LN qs, bF A2 RN R, bF A9 (n + 1) (C :: xs), bF (some ⟨b1, o1, none⟩) 24 prefB, bF A n xs] [(w15.heap.size + 1, #[.bool xb, .int .i64 0, .int .u32 (X : Int)], 34), (w15.heap.size, #[.int .i64 (P : Int), .slice A4 RN c4], 40), (w10.heap.size + 1, #[.bool xb, .int .i64 0, .int .u32 (X : Int)], 34), (w10.heap.size, #[.int .i64 (P : Int), .slice A2 RN c2], 40)]) := Lib.hid (K18.out.turn 0 rfl hrow hoth hz); have B19 : Hid (Below w.heap.size w w19) := Lib.hid (hbl _ _ leg B18.out); clear hrow hoth hz hbl K18 B18)
    | (refine at_load 34 (.tmp 10) (by rfl) ?_; refine wpListG_row (by kernel_rfl) 34 (.tmp 10) (by rfl) (w10.heap.size + 1) (by rfl) 34 #[.bool xb, .int .i64 0, .int .u32 (X : Int)] _ (K19.out.row 2 rfl) Try.underlying34 (by rfl) infoc_X ?_)
    | (refine at_load 34 (.tmp 14) (by rfl) ?_; refine wpListG_row (by kernel_rfl) 34 (.tmp 14) (by rfl) (w15.heap.size + 1) (by rfl) 34 #[.bool xb, .int .i64 0, .int .u32 (X : Int)] _ (K19.out.row 0 rfl) Try.underlying34 (by rfl) infoc_X ?_)
    | (refine at_load 40 (.tmp 8) (by rfl) ?_; refine wpListG_row (by kernel_rfl) 40 (.tmp 8) (by rfl) (w10.heap.size) (by rfl) 40 #[.int .i64 (P : Int), .slice A2 RN c2] _ (K19.out.row 3 rfl) Try.underlying40 (by rfl) infoc_R ?_)
    | (refine at_load 40 (.tmp 12) (by rfl) ?_; refine wpListG_row (by kernel_rfl) 40 (.tmp 12) (by rfl) (w15.heap.size) (by rfl) 40 #[.int .i64 (P : Int), .slice A4 RN c4] _ (K19.out.row 1 rfl) Try.underlying40 (by rfl) infoc_R ?_)
    | (go_at_call 16; (have hc := (d_same (P : Int) A2 A4 RN c2 RN c4 R _ (K19.out.bs (A := A2) (n := RN) (xs := R) (by simp)) (K19.out.bs (A := A4) (n := RN) (xs := R) (by simp))); (with_reducible refine hc.mono ?_); clear hc); rintro e w20 ⟨rfl, hb⟩; have K20 : Hid (EnvF w20 [qF A5 LN qs2, bF A4 RN R, qF A3 LN qs, bF A2 RN R, bF A9 (n + 1) (C :: xs), bF (some ⟨b1, o1, none⟩) 24 prefB, bF A n xs] [(w15.heap.size + 1, #[.bool xb, .int .i64 0, .int .u32 (X : Int)], 34), (w15.heap.size, #[.int .i64 (P : Int), .slice A4 RN c4], 40), (w10.heap.size + 1, #[.bool xb, .int .i64 0, .int .u32 (X : Int)], 34), (w10.heap.size, #[.int .i64 (P : Int), .slice A2 RN c2], 40)]) := Lib.hid (K19.out.on hb); have B20 : Hid (Below w.heap.size w w20) := Lib.hid (below_step B19.out hb); clear hb K19 B19)
    | (go_at_call 15; (have hc := (d_pieces A3 A5 LN c3 LN c5 qs qs2 _ (K20.out.qs (A := A3) (n := LN) (xs := qs) (by simp)) (K20.out.qs (A := A5) (n := LN) (xs := qs2) (by simp)) (HM.out.trans HM2.out.symm) hLN); (with_reducible refine hc.mono ?_); clear hc); rintro e w21 ⟨rfl, hb⟩; have K21 : Hid (EnvF w21 [qF A5 LN qs2, bF A4 RN R, qF A3 LN qs, bF A2 RN R, bF A9 (n + 1) (C :: xs), bF (some ⟨b1, o1, none⟩) 24 prefB, bF A n xs] [(w15.heap.size + 1, #[.bool xb, .int .i64 0, .int .u32 (X : Int)], 34), (w15.heap.size, #[.int .i64 (P : Int), .slice A4 RN c4], 40), (w10.heap.size + 1, #[.bool xb, .int .i64 0, .int .u32 (X : Int)], 34), (w10.heap.size, #[.int .i64 (P : Int), .slice A2 RN c2], 40)]) := Lib.hid (K20.out.on hb); have B21 : Hid (Below w.heap.size w w21) := Lib.hid (below_step B20.out hb); clear hb K20 B20)
    | (go_at_call 13; (have hc := (wakes5 w21); (with_reducible refine hc.mono ?_); clear hc); rintro e w22 ⟨rfl, hb⟩; have K22 : Hid (EnvF w22 [qF A5 LN qs2, bF A4 RN R, qF A3 LN qs, bF A2 RN R, bF A9 (n + 1) (C :: xs), bF (some ⟨b1, o1, none⟩) 24 prefB, bF A n xs] [(w15.heap.size + 1, #[.bool xb, .int .i64 0, .int .u32 (X : Int)], 34), (w15.heap.size, #[.int .i64 (P : Int), .slice A4 RN c4], 40), (w10.heap.size + 1, #[.bool xb, .int .i64 0, .int .u32 (X : Int)], 34), (w10.heap.size, #[.int .i64 (P : Int), .slice A2 RN c2], 40)]) := Lib.hid (K21.out.on hb); have B22 : Hid (Below w.heap.size w w22) := Lib.hid (below_step B21.out hb); clear hb K21 B21))
  go_ret
  exact ⟨by first | rfl | simp, B22.out⟩
theorem begins_any (pre : Int) (C : UInt8) (A : Option Addr) (n c : Nat) (xs : List UInt8) (w : World) (hA : Bs w w.heap.size A n xs) (hN : A = none → c = 0) (hnc : n ≤ c) :
    Calls Try.prog 6 #[.int .i64 pre, .int .u8 (C.toNat : Int), .slice A n c] w fun e w' => e = .returned (.bool true) ∧ Below w.heap.size w w' := by
  by_cases h0 : pre < 0
  · exact beg_low pre C A n c xs w hA hN hnc h0
  · by_cases h1 : 23 < pre
    · exact beg_high pre C A n c xs w hA hN hnc h1
    · by_cases hg : 600 < n
      · exact beg_great pre C A n c xs w hA hN hnc (by omega) (by omega) hg
      · obtain ⟨p, rfl⟩ := Int.eq_ofNat_of_zero_le (show 0 ≤ pre by omega)
        have hlt : p < prefB.length := by show p < 24; omega
        have hy := List.getElem?_eq_getElem hlt
        by_cases he : C = prefB[p]
        · exact beg_next p C A n c xs w hA hN hnc (by omega) (by omega) _ hy he
        · refine beg_other p C A n c xs w hA hN hnc (by omega) (by omega) _ hy ?_
          simp only [bne_iff_ne, ne_eq]
          intro e
          exact he (UInt8.toNat_inj.1 (by omega))
end Go.Proofs.Ytolminjedgoggaa
