/- CutWhole: CuPt, CuWy, CuWv, CuWz, CuWf in one text. -/
import Derived.Test.YtjoopekgbfplpaaCuPc
import Derived.Test.YtjoopekgbfplpaaCuX
import Derived.Test.YtjoopekgbfplpaaHdX
import Derived.Test.YtjoopekgbfplpaaGFact
import Derived.Test.YtjoopekgbfplpaaGStr
import Derived.Test.YtjoopekgbfplpaaChecked
import Derived.WalkKit
import Derived.Test.YtjoopekgbfplpaaCuWx
import Derived.Deep.RegionHeld3
import Derived.Test.YtjoopekgbfplpaaCuLb
/- CutParts: for its top. -/
namespace Go.Proofs.Ytjoopekgbfplpaa
theorem array2 {α : Type} {cs : Array α} (h : cs.size = 2) : ∃ c0 c1, cs = #[c0, c1] := by
  obtain ⟨l⟩ := cs
  match l, h with
  | [c0, c1], _ => exact ⟨c0, c1, rfl⟩
end Go.Proofs.Ytjoopekgbfplpaa
/- CutWhole, plainly: what its loop gathers. -/
namespace Go.Proofs.Ytjoopekgbfplpaa
open Go.RowKit Oct
namespace Cu
/-- The frames so far, one behind the other: the next one stands there among all bytes. -/
theorem told_at {L : List (List UInt8)} {t b f : List UInt8} {i : Nat} (hb : L.flatten ++ t = b) (hf : L[i]? = some f) (h9 : 9 ≤ f.length) :
    (L.take i).flatten.length + 9 ≤ b.length ∧ b[(L.take i).flatten.length + 5]? = f[5]? ∧ (L.take (i + 1)).flatten = (L.take i).flatten ++ f := by
  obtain ⟨hi, rfl⟩ := List.getElem?_eq_some_iff.1 hf
  have e : (L.take (i + 1)).flatten = (L.take i).flatten ++ L[i] := by
    rw [List.take_succ_eq_append_getElem hi, List.flatten_append, List.flatten_cons, List.flatten_nil, List.append_nil]
  have e2 : b = (L.take i).flatten ++ (L[i] ++ ((L.drop (i + 1)).flatten ++ t)) := by
    rw [← hb, ← List.append_assoc, ← List.append_assoc, ← e, ← List.flatten_append, List.take_append_drop]
  refine ⟨?_, ?_, e⟩
  · rw [e2, List.length_append, List.length_append]
    omega
  · rw [e2, List.getElem?_append_right (by omega), Nat.add_sub_cancel_left, List.getElem?_append_left (by omega)]
/-- At the end: all of them, and what is left. -/
theorem told_end (b : List UInt8) : ((fs b).take (fs b).length).flatten.length ≤ b.length ∧ b.take ((fs b).take (fs b).length).flatten.length = ((fs b).take (fs b).length).flatten ∧ b.drop ((fs b).take (fs b).length).flatten.length = rs b := by
  have h : (fs b).flatten ++ rs b = b := cut_all b.length b
  rw [List.take_length]
  have hl : (fs b).flatten.length + (rs b).length = b.length := by rw [← List.length_append, h]
  generalize (fs b).flatten = x at h hl ⊢
  generalize rs b = y at h hl ⊢
  subst h
  exact ⟨by omega, List.take_left, List.drop_left⟩
/-- The bit that is left out of a head, put in again where it stood. -/
theorem bit_back (a : UInt8) : (127 < (a.toNat : Int) → ((a &&& 127).toNat : Int) + 128 = (a.toNat : Int)) ∧ (¬ 127 < (a.toNat : Int) → a &&& 127 = a) := by
  have h := a.toNat_lt
  have e : (a &&& 127).toNat = a.toNat % 128 := by
    rw [UInt8.toNat_and]
    exact Nat.and_two_pow_sub_one_eq_mod a.toNat 7
  refine ⟨fun h1 => by rw [e]; omega, fun h1 => UInt8.toNat_inj.1 (by rw [e]; omega)⟩
end Cu
end Go.Proofs.Ytjoopekgbfplpaa
/- CutWhole, plainly: a round of its loop, in numbers. -/
namespace Go.Proofs.Ytjoopekgbfplpaa
open Go.RowKit Oct
theorem refsame5 (A A' : Option Addr) (n n' c c' B B' : Nat) (xs ys : List UInt8) (w : World) (h : Bs w B A n xs) (h' : Bs w B' A' n' ys) :
    Calls Try.prog 9 #[.slice A n c, .slice A' n' c'] w fun e w' => e = .returned (.bool (xs == ys)) ∧ w = w' := by
  have h1 := conv_bytes (c := c) h
  have h2 := conv_bytes (c := c') h'
  clear h h'
  go_enter Try.func9, Try.ntmps9
  go_wp2
  go_ret
  exact ⟨rfl, rfl⟩
namespace Cu
theorem less_on {w : World} {B n c k m : Nat} {A A3 : Option Addr} {xs ys : List UInt8} (hb : Bs w B A n xs) (h : (if c = k then A else A.map fun x => x.add k) = A3) (hm : m ≤ n) : ∀ j, (bF A3 m ys).on j → (bF A n xs).on j := fun j ⟨h0, o', e'⟩ => by
  obtain ⟨b, o, rfl, _⟩ := hb.2 (by omega)
  subst h
  refine ⟨by omega, ?_⟩
  split at e'
  · cases e'; exact ⟨o', rfl⟩
  · simp only [Option.map_some, Addr.add_lit, Option.some.injEq] at e'
    cases e'
    exact ⟨o, rfl⟩
theorem bit_val {a : UInt8} (h : ((a &&& 127).toNat : Int) + 128 = (a.toNat : Int)) : (((a.toNat &&& 127 : Nat) : Int) + 128) % 256 = (a.toNat : Int) := by
  have e : (a &&& 127).toNat = a.toNat &&& 127 := UInt8.toNat_and a 127
  rw [e] at h
  have := a.toNat_lt
  omega
theorem rnd {L : List (List UInt8)} {t b tl f : List UInt8} {j n n2 : Nat} (ht : L.flatten ++ t = b) (hlen : b.length = n + n2) (hn : n ≤ 600) (hn2 : n2 ≤ 600) (htl : tl = (L.take j).flatten) (hf : L[j]? = some f) (h9 : 9 ≤ f.length) (hfl : f.length = 9 + hL f) (hm : hL f ≤ 16384) :
    ∃ (a0 a1 a2 a3 a4 a5 a6 a7 a8 : UInt8), (tl.length : Int) + 9 ≤ (n : Int) + (n2 : Int) ∧ (tl.length : Int) + 5 < (n : Int) + (n2 : Int) ∧
      b[tl.length + 5]? = some a5 ∧ tl.length + 5 < n + n2 ∧ hdBytes (hL f) (f[3]?.getD 0) (f[4]?.getD 0) (hS f) = [a0, a1, a2, a3, a4, a5 &&& 127, a6, a7, a8] ∧ (L.take (j + 1)).flatten = (tl ++ [a0, a1, a2, a3, a4, a5, a6, a7, a8]) ++ f.drop 9 ∧ f.length - 9 = hL f ∧
      (hL f) + tl.length + 9 ≤ 1200 ∧ decide ((16384 : Int) < (hL f : Int)) = false ∧ decide (16384 < hL f) = false := by
  obtain ⟨q1, q2, q3⟩ := told_at ht hf h9
  rw [← htl] at q1 q2 q3
  have q4 : tl.length + f.length ≤ b.length := by
    obtain ⟨hi, e⟩ := List.getElem?_eq_some_iff.1 hf
    have h1 : (L.take (j + 1)).flatten ++ ((L.drop (j + 1)).flatten ++ t) = b := by
      rw [← List.append_assoc, ← List.flatten_append, List.take_append_drop]; exact ht
    have h2 := congrArg List.length h1
    rw [q3, List.length_append, List.length_append] at h2
    omega
  obtain ⟨a0, a1, a2, a3, a4, a5, a6, a7, a8, rr, hx9⟩ := nine h9
  refine ⟨a0, a1, a2, a3, a4, a5, a6, a7, a8, by omega, by omega, ?_, by omega, ?_, ?_, by omega, by omega, decide_eq_false (by omega), decide_eq_false (by omega)⟩
  · rw [q2, hx9]; rfl
  · rw [hx9]; exact hd_back a0 a1 a2 a3 a4 a5 a6 a7 a8 rr
  · rw [q3, List.append_assoc]
    congr 1
    rw [hx9]; rfl
end Cu
end Go.Proofs.Ytjoopekgbfplpaa
/- CutWhole: to its loop. -/
namespace Go.Proofs.Ytjoopekgbfplpaa
open Go.RowKit Oct Cu Go.Shelf
set_option linter.unusedVariables false
set_option linter.unusedSimpArgs false
set_option maxRecDepth 100000 in
set_option maxHeartbeats 4000000 in
theorem whole_main {P RN X LN : Nat} {R : List UInt8} {xb : Bool} {L : List (List UInt8)} (A : Option Addr) (n c : Nat) (r : List UInt8) (A2 : Option Addr) (n2 c2 : Nat) (cs : List UInt8) (w : World) (hA : Bs w w.heap.size A n r) (hN : A = none → c = 0) (hnc : n ≤ c) (hA2 : Bs w w.heap.size A2 n2 cs) (hN2 : A2 = none → c2 = 0) (hnc2 : n2 ≤ c2) (hb1 : decide ((600 : Int) < (n : Int)) = false) (hb2 : decide ((600 : Int) < (n2 : Int)) = false) (hR : RightR 24 r) (hn : n ≤ 600) (hn2 : n2 ≤ 600) (hLN : LN ≤ 2000) (HFD : Hid (FeedTo 24 r n cs n2 P R RN X xb L LN)) (HFR : Hid (∀ f ∈ L, 9 ≤ f.length ∧ f.length = 9 + hL f ∧ hL f ≤ 16384)) (T : List UInt8) (HT : Hid (L.flatten ++ T = r ++ cs)) (hEND : (X = 6 ∧ xb = true ∧ R = [] ∧ RN = 0 ∧ 9 ≤ T.length ∧ 16384 < hL T) ∨ (X = 0 ∧ xb = false ∧ R = T ∧ RN = T.length ∧ T.length < 9) ∨ (X = 0 ∧ xb = false ∧ R = T ∧ RN = T.length ∧ 9 ≤ T.length ∧ hL T ≤ 16384 ∧ T.length < 9 + hL T)) :
    Calls Try.prog 3 #[.agg #[.int .i64 24, .slice A n c], .slice A2 n2 c2] w fun e w' => e = .returned (.bool true) ∧ Below w.heap.size w w' := by
  have eR := decide_eq_true hR
  have HN := Lib.hid hN
  have HN2 := Lib.hid hN2
  obtain ⟨i0, hi, hz0, hz1, hz2⟩ := info_parts info_u8
  have hinf := Lib.hid (And.intro hi (And.intro hz0 (And.intro hz1 hz2)))
  have HR := Lib.hid hR
  have HL := Lib.hid (And.intro hA.1 hA2.1)
  clear hi hz0 hz1 hz2 hN hN2 hR
  have K0 : Hid (EnvF (w.alloc (.cells #[.int .i64 24, .slice A n c] 24)) [bF A2 n2 cs, bF A n r] [(w.heap.size, #[.int .i64 24, .slice A n c], 24)]) := Lib.hid ((((EnvF.nil w).addB hA).addB hA2).boxg 24 #[.int .i64 24, .slice A n c] (w.heap.size) (by simp))
  have B0 : Hid (Below w.heap.size w (w.alloc (.cells #[.int .i64 24, .slice A n c] 24))) := Lib.hid ((Below.refl _ w).alloc (by first | exact Nat.le_refl _ | (simp only [World.size_alloc]; omega)) (.cells #[.int .i64 24, .slice A n c] 24))
  obtain ⟨r_0, r_1⟩ := cells2_row (K0.out.row 0 rfl)
  go_enter Try.func3, Try.ntmps3
  go_wp2_with (first
    | go_skip
    | (go_at_call 4; (have hc := (c_great' A n c _ hb1 (w.alloc (.cells #[.int .i64 24, .slice A n c] 24))); (with_reducible refine hc.mono ?_); clear hc); rintro e w1 ⟨rfl, hb⟩; have K1 : Hid (EnvF w1 [bF A2 n2 cs, bF A n r] [(w.heap.size, #[.int .i64 24, .slice A n c], 24)]) := Lib.hid (K0.out.on hb); have B1 : Hid (Below w.heap.size w w1) := Lib.hid (below_step B0.out hb); clear hb K0 B0)
    | (go_at_call 4; (have hc := (c_great' A2 n2 c2 _ hb2 w1); (with_reducible refine hc.mono ?_); clear hc); rintro e w2 ⟨rfl, hb⟩; have K2 : Hid (EnvF w2 [bF A2 n2 cs, bF A n r] [(w.heap.size, #[.int .i64 24, .slice A n c], 24)]) := Lib.hid (K1.out.on hb); have B2 : Hid (Below w.heap.size w w2) := Lib.hid (below_step B1.out hb); clear hb K1 B1)
    | (refine at_load 24 (.tmp 2) (by rfl) ?_; refine wpListG_row (by kernel_rfl) 24 (.tmp 2) (by rfl) (w.heap.size) (by rfl) 24 #[.int .i64 24, .slice A n c] _ (K2.out.row 0 rfl) Try.underlying24 (by rfl) infoc_R ?_)
    | (go_at_call 5; (have hc := ((eR ▸ d_right 24 A n c r _ (K2.out.bs (A := A) (n := n) (xs := r) (by simp)) hnc (by omega))); (with_reducible refine hc.mono ?_); clear hc); rintro e w3 ⟨rfl, hb⟩; have K3 : Hid (EnvF w3 [bF A2 n2 cs, bF A n r] [(w.heap.size, #[.int .i64 24, .slice A n c], 24)]) := Lib.hid (K2.out.on hb); have B3 : Hid (Below w.heap.size w w3) := Lib.hid (below_step B2.out hb); clear hb K2 B2)
    | (refine at_load 3 (.tmp 32) (by rfl) ?_; refine wpListG_get (by kernel_rfl) 3 (.tmp 32) (by rfl) (w.heap.size) 0 (by rfl) 24 #[.int .i64 24, .slice A n c] (.int .i64 24) _ (K3.out.row 0 rfl) (by rfl) Try.underlying3 (by rfl) ?_)
    | (refine at_load 24 (.tmp 2) (by rfl) ?_; refine wpList_load_row (by rfl) 24 (.tmp 2) (by rfl) (w.heap.size) (by rfl) 24 #[.int .i64 24, .slice A n c] (0, 0) _ (K3.out.row 0 rfl) Try.underlying24 (by rfl) infoc_R ?_)
    | (go_at_call 7; (have hc := (HFD.out A A2 c c2 _ (K3.out.bs (A := A) (n := n) (xs := r) (by simp)) HN.out hnc (K3.out.bs (A := A2) (n := n2) (xs := cs) (by simp)) HN2.out hnc2); (with_reducible refine hc.mono ?_); clear hc); rintro e w4 ⟨A3, c3, A4, c4, qs, rfl, hh, hq, hm, hb⟩; have HM := Lib.hid hm; have HC3 := Lib.hid hh.2.2; have HC4 := Lib.hid hq.2.2; have K4 : Hid (EnvF w4 [qF A4 LN qs, bF A3 RN R, bF A2 n2 cs, bF A n r] [(w.heap.size, #[.int .i64 24, .slice A n c], 24)]) := Lib.hid ((K3.out.handS hb hh).hand2 K3.out hb ⟨hq.1, fun k hk => ⟨hq.2.1 k hk, hq.1.lt hk⟩⟩); have B4 : Hid (Below w.heap.size w w4) := Lib.hid (below_step B3.out hb); clear hb hh hq hm K3 B3; have leo : w.heap.size ≤ w4.heap.size := (by have := B4.out.size; (try simp only [World.size_alloc] at this); omega); have K5 : Hid (EnvF (w4.alloc (.cells #[.int .i64 0, .slice none 0 0] 24)) [qF A4 LN qs, bF A3 RN R, bF A2 n2 cs, bF A n r] [(w4.heap.size, #[.int .i64 0, .slice none 0 0], 24), (w.heap.size, #[.int .i64 24, .slice A n c], 24)]) := Lib.hid (K4.out.boxg 24 #[.int .i64 0, .slice none 0 0] (w4.heap.size) (by simp)); have B5 : Hid (Below w.heap.size w (w4.alloc (.cells #[.int .i64 0, .slice none 0 0] 24))) := Lib.hid (B4.out.alloc B4.out.size (.cells #[.int .i64 0, .slice none 0 0] 24)); clear K4 B4; have lef : w.heap.size ≤ w4.heap.size + 1 := (by have := B5.out.size; (try simp only [World.size_alloc] at this); omega); have K6 : Hid (EnvF ((w4.alloc (.cells #[.int .i64 0, .slice none 0 0] 24)).alloc (.cells #[.bool false, .int .i64 0, .int .u32 0] 31)) [qF A4 LN qs, bF A3 RN R, bF A2 n2 cs, bF A n r] [(w4.heap.size + 1, #[.bool false, .int .i64 0, .int .u32 0], 31), (w4.heap.size, #[.int .i64 0, .slice none 0 0], 24), (w.heap.size, #[.int .i64 24, .slice A n c], 24)]) := Lib.hid (K5.out.boxg 31 #[.bool false, .int .i64 0, .int .u32 0] (w4.heap.size + 1) (by simp)); have B6 : Hid (Below w.heap.size w ((w4.alloc (.cells #[.int .i64 0, .slice none 0 0] 24)).alloc (.cells #[.bool false, .int .i64 0, .int .u32 0] 31))) := Lib.hid (B5.out.alloc B5.out.size (.cells #[.bool false, .int .i64 0, .int .u32 0] 31)); clear K5 B5)
    | (refine at_store 24 (.tmp 5) (.tmp 41) (by rfl) ?_; refine wpList_put (by rfl) 24 (.tmp 5) (.tmp 41) (by rfl) (w4.heap.size) 0 (.agg #[.int .i64 (P : Int), .slice A3 RN c3]) (by rfl) (by rfl) 24 #[.int .i64 0, .slice none 0 0] #[.int .i64 (P : Int), .slice A3 RN c3] (K6.out.row 1 rfl) (by simp [Value.cells]) (by kernel_rfl) infoc_R (by kernel_rfl) ?_; intro w7 hrow hoth hz hbl; have K7 : Hid (EnvF w7 [qF A4 LN qs, bF A3 RN R, bF A2 n2 cs, bF A n r] [(w4.heap.size + 1, #[.bool false, .int .i64 0, .int .u32 0], 31), (w4.heap.size, #[.int .i64 (P : Int), .slice A3 RN c3], 24), (w.heap.size, #[.int .i64 24, .slice A n c], 24)]) := Lib.hid (K6.out.turn 1 rfl hrow hoth hz); have B7 : Hid (Below w.heap.size w w7) := Lib.hid (hbl _ _ leo B6.out); clear hrow hoth hz hbl K6 B6)
    | (refine at_store 31 (.tmp 7) (.tmp 43) (by rfl) ?_; refine wpList_put (by rfl) 31 (.tmp 7) (.tmp 43) (by rfl) (w4.heap.size + 1) 0 (.agg #[.bool xb, .int .i64 0, .int .u32 (X : Int)]) (by rfl) (by rfl) 31 #[.bool false, .int .i64 0, .int .u32 0] #[.bool xb, .int .i64 0, .int .u32 (X : Int)] (K7.out.row 0 rfl) (by simp [Value.cells]) (by kernel_rfl) infoc_X (by kernel_rfl) ?_; intro w8 hrow hoth hz hbl; have K8 : Hid (EnvF w8 [qF A4 LN qs, bF A3 RN R, bF A2 n2 cs, bF A n r] [(w4.heap.size + 1, #[.bool xb, .int .i64 0, .int .u32 (X : Int)], 31), (w4.heap.size, #[.int .i64 (P : Int), .slice A3 RN c3], 24), (w.heap.size, #[.int .i64 24, .slice A n c], 24)]) := Lib.hid (K7.out.turn 0 rfl hrow hoth hz); have B8 : Hid (Below w.heap.size w w8) := Lib.hid (hbl _ _ lef B7.out); clear hrow hoth hz hbl K7 B7)
    | (refine at_load 22 (.tmp 46) (by rfl) ?_; refine wpList_get (by rfl) 22 (.tmp 46) (by rfl) (w.heap.size) 1 (by rfl) 24 #[.int .i64 24, .slice A n c] (.slice A n c) _ ((K8.out.al (.cells #[] 5)).row 2 rfl) (by rfl) Try.underlying22 (by rfl) ?_)
    | (at_builtin; refine wpList_append_bytes _ rfl (.tmp 45) (.tmp 47) 22 rfl w8.heap.size 5 i0 Try.underlying22 hinf.out.1 hinf.out.2.1 hinf.out.2.2.1 hinf.out.2.2.2 _ [] rfl (OwnB.lit w8 _ w8.heap.size (Nat.le_refl _)) _ A n c r rfl ((K8.out.al (.cells #[] 5)).bs (A := A) (n := n) (xs := r) (by simp)) HN.out (by simp; omega) (by simp) ?_; intro v20 w20 ho20 hb20; obtain ⟨A20, c20, rfl, _⟩ := ho20.form2 (n := n) (by simpa using HL.out.1); have HO20 := Lib.hid ho20; have HB20 : Hid (Below w8.heap.size w8 w20) := Lib.hid (((Below.refl _ w8).alloc (Nat.le_refl _) (.cells #[] 5)).trans hb20); have K20 := Lib.hid (K8.out.on HB20.out); clear ho20 hb20)
    | (at_builtin; refine wpList_append_bytes _ rfl (.tmp 48) (.tmp 49) 22 rfl w8.heap.size 5 i0 Try.underlying22 hinf.out.1 hinf.out.2.1 hinf.out.2.2.1 hinf.out.2.2.2 _ ([] ++ r) rfl HO20.out _ A2 n2 c2 cs rfl (K20.out.bs (A := A2) (n := n2) (xs := cs) (by simp)) HN2.out (by have := HL.out.1; simp; omega) HB20.out.size ?_; intro v21 w21 ho21 hb21; obtain ⟨A21, c21, rfl, hh21⟩ := ho21.handS (n := n + n2) (by have h1 := HL.out.1; have h2 := HL.out.2; simp; omega); have HC21 := Lib.hid hh21.2.2; have HB21 := Lib.hid (HB20.out.trans hb21); rw [List.nil_append] at hh21; have K21 : Hid (EnvF w21 [bF A21 (n + n2) (r ++ cs), qF A4 LN qs, bF A3 RN R, bF A2 n2 cs, bF A n r] [(w4.heap.size + 1, #[.bool xb, .int .i64 0, .int .u32 (X : Int)], 31), (w4.heap.size, #[.int .i64 (P : Int), .slice A3 RN c3], 24), (w.heap.size, #[.int .i64 24, .slice A n c], 24)]) := Lib.hid (K8.out.handS HB21.out hh21); have B21 : Hid (Below w.heap.size w w21) := Lib.hid (below_step B8.out HB21.out); clear ho21 hb21 hh21 HB21 HB20 HO20 K20 K8 B8))
  have HLL := Lib.hid (show L.length = LN by have h := HM.out; have h2 := K21.out.qs (A := A4) (n := LN) (xs := qs) (by simp); rw [← h, List.length_map]; exact h2.1)
  have HLEN := Lib.hid (show (r ++ cs).length = n + n2 by rw [List.length_append, HL.out.1, HL.out.2])
  have HEND := Lib.hid hEND
  clear hEND
  go_loopw [10, 11] (fun s t wr => ∃ (j : Nat) (A1 : Option Addr) (c1 : Nat) (tl : List UInt8), j ≤ LN ∧ t = .int .i64 (j : Int) ∧ s = .slice A1 tl.length c1 ∧ OwnB wr w21.heap.size 5 (.slice A1 tl.length c1) tl ∧ tl = (L.take j).flatten ∧ Below w21.heap.size w21 wr) (fun _ t _ => LN - (intOf t).toNat)
  case atStart => exact ⟨0, none, 0, [], Nat.zero_le _, rfl, rfl, OwnB.nil_ _ _ _, rfl, Below.refl _ _⟩
  case round =>
    obtain ⟨j, A1, c1, tl, hj, rfl, rfl, ho, htl, hbr⟩ := hrel
    obtain ⟨wo, rfl⟩ : ∃ wo : World, wo = wr := ⟨_, rfl⟩
    have HO := Lib.hid ho
    have HBR := Lib.hid hbr
    have HTL2 := Lib.hid htl
    have KR : Hid (EnvF wo [bF A21 (n + n2) (r ++ cs), qF A4 LN qs, bF A3 RN R, bF A2 n2 cs, bF A n r] [(w4.heap.size + 1, #[.bool xb, .int .i64 0, .int .u32 (X : Int)], 31), (w4.heap.size, #[.int .i64 (P : Int), .slice A3 RN c3], 24), (w.heap.size, #[.int .i64 24, .slice A n c], 24)]) := Lib.hid (K21.out.on hbr)
    have BR : Hid (Below w.heap.size w wo) := Lib.hid (below_step B21.out hbr)
    clear ho hbr htl
    by_cases hlt : j < LN
    · have HJ1 : Hid (j + 1 ≤ LN) := Lib.hid hlt
      obtain ⟨b4, o4, rfl, hb4, hr⟩ := (KR.out.qs (A := A4) (n := LN) (xs := qs) (by simp)).row (by omega)
      obtain ⟨x, hx, px, x0, x1, x2, x3, x4⟩ := hr j hlt
      have hLj : L[j]? = some x.f := by rw [← HM.out, List.getElem?_map, hx]; rfl
      have hfr := HFR.out x.f (List.mem_of_getElem? hLj)
      obtain ⟨a0, a1, a2, a3, a4, a5, a6, a7, a8, w9', w5', hbN, hN5, hd9, hnext, e9, hlen12, hl16, hl16'⟩ := Cu.rnd HT.out HLEN.out hn hn2 HTL2.out hLj hfr.1 hfr.2.1 hfr.2.2
      rw [e9] at x4
      obtain ⟨b21, o21, rfl, hb21, hc21⟩ := (KR.out.bs (A := A21) (n := n + n2) (xs := r ++ cs) (by simp)).2 (by omega)
      have hz5 := hc21 (tl.length + 5) hN5
      rw [hbN] at hz5
      simp only [Option.getD_some] at hz5
      have HB21' := Lib.hid hb21
      have HB4 := Lib.hid hb4
      have HBB := Lib.hid (bit_back a5)
      have HPUT : Hid (∀ w0, Calls Try.prog 8 #[.agg #[.int .i64 (hL x.f : Int), .int .u8 (hK x.f : Int), .int .u8 (hF x.f : Int), .int .i64 (hS x.f : Int)]] w0 fun e w' => ∃ v, e = .returned (.tuple #[v, .int .i64 0]) ∧ OwnB w' w0.heap.size 5 v [a0, a1, a2, a3, a4, a5 &&& 127, a6, a7, a8] ∧ Below w0.heap.size w0 w') := Lib.hid (fun w0 => hd9 ▸ rhput_yes (hL x.f) (hS x.f) (x.f[3]?.getD 0) (x.f[4]?.getD 0) w0 (hL_lt x.f) (hS_lt x.f))
      have HPX : Hid (Bs wo wo.heap.size x.A (hL x.f) (x.f.drop 9) ∧ hL x.f ≤ x.c ∧ (x.A = none → x.c = 0)) := Lib.hid (by unfold PayB at px; rwa [e9] at px)
      have HNX := Lib.hid hnext
      have HQ : Hid (∀ W, Below w21.heap.size w21 W → W.cell? ⟨b4, o4 + j * 5 + 4, none⟩ = some (.slice x.A (hL x.f) x.c) ∧ Bs W W.heap.size x.A (hL x.f) (x.f.drop 9)) := Lib.hid (fun W hW => by
        obtain ⟨b', o', e', _, hr'⟩ := ((K21.out.on hW).qs (A := some ⟨b4, o4, none⟩) (n := LN) (xs := qs) (by simp)).row (by omega)
        cases e'
        obtain ⟨x', hx', px', _, _, _, _, y4⟩ := hr' j hlt
        have ex : x' = x := Option.some.inj (hx'.symm.trans hx)
        subst ex
        unfold PayB at px'
        rw [e9] at px' y4
        exact ⟨y4, px'.1⟩)
      have HX0 := Lib.hid x0
      have HX4 := Lib.hid x4
      have HZ5 := Lib.hid hz5
      clear hc21 hb21 hbN hd9 hr hx hLj hfr hb4 px hnext hz5 e9 K21 B21
      rcases Nat.lt_or_ge 127 a5.toNat with h7 | h7
      · have h7a : decide ((127 : Int) < (a5.toNat : Int)) = true := decide_eq_true (Int.ofNat_lt.2 h7)
        have h7b : decide (127 < a5.toNat) = true := decide_eq_true h7
        have H7 := Lib.hid (HBB.out.1 (Int.ofNat_lt.2 h7))
        clear h7
        go_wp2_with (first
          | (go_at_call 8; (with_reducible refine (HPUT.out _).mono ?_); rintro e w22 ⟨v, rfl, hv, hb⟩; obtain ⟨A9, c9, rfl, hc9, hn9, hs9⟩ := hv.form2 (n := 9) rfl; obtain ⟨g9, rfl, hg9, hg9', hcc9, hr9, hf9, hset9⟩ := hv.at_ (j := 5) (by simp); have HSET := Lib.hid (And.intro hg9 (And.intro hg9' hset9)); have HCC := Lib.hid hcc9; have HB := Lib.hid hb; have y0 := (hb.cell (p := ⟨b4, o4 + j * 5, none⟩) HB4.out).trans x0; have y4 := (hb.cell (p := ⟨b4, o4 + j * 5 + 4, none⟩) HB4.out).trans x4; have z5 := (hb.cell (p := ⟨b21, o21 + (tl.length + 5), none⟩) HB21'.out).trans HZ5.out; simp only [List.getElem_cons_succ, List.getElem_cons_zero] at hr9; clear hs9 hv hb x0 x1 x2 x3 x4 hg9 hg9' hset9 hc9 hn9 hcc9))
        go_quiet (fail)
        replace z5 : (w22.drewN nq).cell? ⟨b21, o21 + (tl.length + 5), none⟩ = some (.int .u8 (a5.toNat : Int)) := z5
        replace y4 : (w22.drewN nq).cell? ⟨b4, o4 + j * 5 + 4, none⟩ = some (.slice x.A (hL x.f) x.c) := y4
        go_wp2
        rw [Cu.bit_val H7.out]
        have hbq : Below wo.heap.size wo (w22.drewN nq) := ⟨HB.out.os, HB.out.tape, HB.out.output, HB.out.size, HB.out.block⟩
        have hbW : Below wo.heap.size wo ((w22.drewN nq).setCell ⟨g9, 5, none⟩ (.int .u8 (a5.toNat : Int))) := hbq.setCell (p := ⟨g9, 5, none⟩) HSET.out.1 _
        have hv9 : OwnB ((w22.drewN nq).setCell ⟨g9, 5, none⟩ (.int .u8 (a5.toNat : Int))) wo.heap.size 5 (.slice (some ⟨g9, 0, none⟩) 9 c9) [a0, a1, a2, a3, a4, a5, a6, a7, a8] := HSET.out.2.2 a5
        clear y0 y4 z5 hr9 hf9 hbq
        have HWB := Lib.hid (HBR.out.trans (hbW.mono HBR.out.size))
        have HO0 := Lib.hid (HO.out.kept hbW)
        obtain ⟨A9', c9', e9', hh9⟩ := hv9.handS (n := 9) rfl
        cases e9'
        have H9 := Lib.hid hh9
        have S0 := Lib.hid (HQ.out _ HWB.out).1
        clear hbW hv9 hh9
        generalize ((w22.drewN nq).setCell ⟨g9, 5, none⟩ (.int .u8 (a5.toNat : Int))) = wz at *
        obtain ⟨tl2, htl2⟩ : ∃ tl2, (tl ++ [a0, a1, a2, a3, a4, a5, a6, a7, a8]) ++ x.f.drop 9 = tl2 := ⟨_, rfl⟩
        have HT2 := Lib.hid htl2
        clear htl2
        have S0d : Hid (wz.drew.cell? ⟨b4, o4 + j * 5 + 4, none⟩ = some (.slice x.A (hL x.f) x.c)) := S0
        have S1 := S0
        have S2 := S0
        go_region_held3 (fun W' => W'.cell? ⟨b4, o4 + j * 5 + 4, none⟩ = some (.slice x.A (hL x.f) x.c)) (first | with_reducible exact S0.out | with_reducible exact S0d.out | with_reducible exact S1.out | with_reducible exact S2.out)
          (first
            | (refine step_append_bytes _ (by rfl) (.tmp 113) (.tmp 114) 22 (by rfl) w21.heap.size 5 i0 Try.underlying22 hinf.out.1 hinf.out.2.1 hinf.out.2.2.1 hinf.out.2.2.2 _ tl (by rfl) HO0.out _ (some ⟨g9, 0, none⟩) 9 c9 [a0, a1, a2, a3, a4, a5, a6, a7, a8] (by rfl) H9.out.1 (fun e => by cases e) (by omega) HWB.out.size ?_; intro v30 w30 ho30 hb30; have HO30 := Lib.hid ho30; have HW30 : Hid (Below w21.heap.size w21 w30) := Lib.hid (HWB.out.trans (show Below w21.heap.size wz w30 from ⟨hb30.os, hb30.tape, hb30.output, hb30.size, hb30.block⟩)); have S1 := Lib.hid (HQ.out _ HW30.out).1; clear ho30 hb30)
            | (refine step_append_bytes _ (by rfl) (.tmp 115) (.tmp 120) 22 (by rfl) w21.heap.size 5 i0 Try.underlying22 hinf.out.1 hinf.out.2.1 hinf.out.2.2.1 hinf.out.2.2.2 _ (tl ++ [a0, a1, a2, a3, a4, a5, a6, a7, a8]) (by rfl) HO30.out _ x.A (hL x.f) x.c (x.f.drop 9) (by rfl) (HQ.out _ HW30.out).2 HPX.out.2.2 (by rw [List.length_append]; show tl.length + 9 + hL x.f ≤ 1000000; omega) HW30.out.size ?_; intro v31 w31 ho31 hb31; rw [HT2.out] at ho31; obtain ⟨A31, c31, e31, _⟩ := ho31.handS (n := tl2.length) rfl; have HO31 := Lib.hid ho31; have HW31 : Hid (Below w21.heap.size w21 w31) := Lib.hid (HW30.out.trans hb31); have S2 := Lib.hid (HQ.out _ HW31.out).1; clear ho31 hb31; subst e31))
        all_goals
          go_wp2
          go_roundw
          case rel => exact ⟨j + 1, A31, c31, tl2, HJ1.out, by go_num, rfl, HO31.out, (HNX.out.trans HT2.out).symm, HW31.out⟩
          case measure => have hj1 := HJ1.out; simp [intOf]; omega
      · have h7a : decide ((127 : Int) < (a5.toNat : Int)) = false := decide_eq_false (by intro h; exact absurd (Int.ofNat_lt.1 h) (Nat.not_lt.2 h7))
        have h7b : decide (127 < a5.toNat) = false := decide_eq_false (Nat.not_lt.2 h7)
        have H7 := Lib.hid (HBB.out.2 (by intro h; exact absurd (Int.ofNat_lt.1 h) (Nat.not_lt.2 h7)))
        clear h7
        go_wp2_with (first
          | (go_at_call 8; (with_reducible refine (HPUT.out _).mono ?_); rintro e w22 ⟨v, rfl, hv, hb⟩; rw [H7.out] at hv; obtain ⟨A9, c9, rfl, hc9, hn9, hs9⟩ := hv.form2 (n := 9) rfl; have HV := Lib.hid hv; have HB := Lib.hid hb; have HS9 := Lib.hid hs9; have HN9 := Lib.hid hn9; have y0 := (hb.cell (p := ⟨b4, o4 + j * 5, none⟩) HB4.out).trans x0; have y4 := (hb.cell (p := ⟨b4, o4 + j * 5 + 4, none⟩) HB4.out).trans x4; have z5 := (hb.cell (p := ⟨b21, o21 + (tl.length + 5), none⟩) HB21'.out).trans HZ5.out; clear hs9 hv hb x0 x1 x2 x3 x4))
        go_quiet (fail)
        replace z5 : (w22.drewN nq).cell? ⟨b21, o21 + (tl.length + 5), none⟩ = some (.int .u8 (a5.toNat : Int)) := z5
        replace y4 : (w22.drewN nq).cell? ⟨b4, o4 + j * 5 + 4, none⟩ = some (.slice x.A (hL x.f) x.c) := y4
        go_wp2
        have hbW : Below wo.heap.size wo (w22.drewN nq) := ⟨HB.out.os, HB.out.tape, HB.out.output, HB.out.size, HB.out.block⟩
        have hv9 : OwnB (w22.drewN nq) wo.heap.size 5 (.slice A9 9 c9) [a0, a1, a2, a3, a4, a5, a6, a7, a8] := HV.out
        obtain ⟨g9, rfl, hg9, hg9', _, _, _, _⟩ := hv9.at_ (j := 5) (by simp)
        clear y0 y4 z5 hg9 hg9'
        have HWB := Lib.hid (HBR.out.trans (hbW.mono HBR.out.size))
        have HO0 := Lib.hid (HO.out.kept hbW)
        obtain ⟨A9', c9', e9', hh9⟩ := hv9.handS (n := 9) rfl
        cases e9'
        have H9 := Lib.hid hh9
        have S0 := Lib.hid (HQ.out _ HWB.out).1
        clear hbW hv9 hh9
        generalize (w22.drewN nq) = wz at *
        obtain ⟨tl2, htl2⟩ : ∃ tl2, (tl ++ [a0, a1, a2, a3, a4, a5, a6, a7, a8]) ++ x.f.drop 9 = tl2 := ⟨_, rfl⟩
        have HT2 := Lib.hid htl2
        clear htl2
        have S0d : Hid (wz.drew.cell? ⟨b4, o4 + j * 5 + 4, none⟩ = some (.slice x.A (hL x.f) x.c)) := S0
        have S1 := S0
        have S2 := S0
        go_region_held3 (fun W' => W'.cell? ⟨b4, o4 + j * 5 + 4, none⟩ = some (.slice x.A (hL x.f) x.c)) (first | with_reducible exact S0.out | with_reducible exact S0d.out | with_reducible exact S1.out | with_reducible exact S2.out)
          (first
            | (refine step_append_bytes _ (by rfl) (.tmp 113) (.tmp 114) 22 (by rfl) w21.heap.size 5 i0 Try.underlying22 hinf.out.1 hinf.out.2.1 hinf.out.2.2.1 hinf.out.2.2.2 _ tl (by rfl) HO0.out _ (some ⟨g9, 0, none⟩) 9 c9 [a0, a1, a2, a3, a4, a5, a6, a7, a8] (by rfl) H9.out.1 (fun e => by cases e) (by omega) HWB.out.size ?_; intro v30 w30 ho30 hb30; have HO30 := Lib.hid ho30; have HW30 : Hid (Below w21.heap.size w21 w30) := Lib.hid (HWB.out.trans (show Below w21.heap.size wz w30 from ⟨hb30.os, hb30.tape, hb30.output, hb30.size, hb30.block⟩)); have S1 := Lib.hid (HQ.out _ HW30.out).1; clear ho30 hb30)
            | (refine step_append_bytes _ (by rfl) (.tmp 115) (.tmp 120) 22 (by rfl) w21.heap.size 5 i0 Try.underlying22 hinf.out.1 hinf.out.2.1 hinf.out.2.2.1 hinf.out.2.2.2 _ (tl ++ [a0, a1, a2, a3, a4, a5, a6, a7, a8]) (by rfl) HO30.out _ x.A (hL x.f) x.c (x.f.drop 9) (by rfl) (HQ.out _ HW30.out).2 HPX.out.2.2 (by rw [List.length_append]; show tl.length + 9 + hL x.f ≤ 1000000; omega) HW30.out.size ?_; intro v31 w31 ho31 hb31; rw [HT2.out] at ho31; obtain ⟨A31, c31, e31, _⟩ := ho31.handS (n := tl2.length) rfl; have HO31 := Lib.hid ho31; have HW31 : Hid (Below w21.heap.size w21 w31) := Lib.hid (HW30.out.trans hb31); have S2 := Lib.hid (HQ.out _ HW31.out).1; clear ho31 hb31; subst e31))
        all_goals
          go_wp2
          go_roundw
          case rel => exact ⟨j + 1, A31, c31, tl2, HJ1.out, by go_num, rfl, HO31.out, (HNX.out.trans HT2.out).symm, HW31.out⟩
          case measure => have hj1 := HJ1.out; simp [intOf]; omega
    · have hjl : LN = j := (Nat.le_antisymm hj (Nat.not_lt.1 hlt)).symm
      subst hjl
      have htl2 : tl = L.flatten := by rw [HTL2.out, ← HLL.out, List.take_length]
      have hTT : tl ++ T = r ++ cs := by rw [htl2]; exact HT.out
      have hTl := congrArg List.length hTT
      rw [List.length_append, HLEN.out] at hTl
      obtain ⟨N2, hN2⟩ : ∃ N2, T.length = N2 := ⟨_, rfl⟩
      rw [hN2] at hTl
      have hsub : n + n2 - tl.length = N2 := by omega
      have hTk : (r ++ cs).take tl.length = tl := by rw [← hTT]; exact List.take_left
      have hTd : (r ++ cs).drop tl.length = T := by rw [← hTT]; exact List.drop_left
      obtain ⟨A1', c1', e1', hh1⟩ := HO.out.handS (n := tl.length) rfl
      cases e1'
      have hle1 : tl.length ≤ n + n2 := by omega
      have hB1 := hh1.1
      have hBA := KR.out.bs (A := A21) (n := n + n2) (xs := r ++ cs) (by simp)
      have hBT := hBA.take hle1
      rw [hTk] at hBT
      obtain ⟨A22, hA22⟩ : ∃ A22, (if c21 = tl.length then A21 else A21.map fun x => x.add tl.length) = A22 := ⟨_, rfl⟩
      have hBR := Bs.cutO' hBA hle1 HC21.out.1
      rw [hTd, hA22, hsub] at hBR
      have hN22 : A22 = none → c21 - tl.length = 0 := cutO_none' hA22 HC21.out.2
      have H1 := Lib.hid (And.intro hB1 (And.intro hBT hBR))
      have KE := Lib.hid (KR.out.less (x := bF A22 N2 T) (y := bF A21 (n + n2) (r ++ cs)) (by simp) hBR (Cu.less_on hBA hA22 (by omega)))
      have HN2' := Lib.hid hN2
      have hcN : N2 ≤ c21 - tl.length := by have := HC21.out.1; omega
      have HcN := Lib.hid hcN
      have hq1 : decide ((n : Int) + (n2 : Int) < (tl.length : Int)) = false := decide_eq_false (by omega)
      have hq2 : decide (n + n2 < tl.length) = false := decide_eq_false (by omega)
      have hq3 : (tl.length : Int) ≤ (n : Int) + (n2 : Int) := by omega
      have hq4 : (tl.length : Int) ≤ (c21 : Int) := by have := HC21.out.1; omega
      have hq5 : (n : Int) + (n2 : Int) ≤ (c21 : Int) := by have := HC21.out.1; omega
      have hq6 : tl.length ≤ c21 := by omega
      have hN2b : N2 ≤ 1200 := by omega
      have HOLD := Lib.hid (And.intro hN2 hTl)
      clear hTT hTl hTk hTd hB1 hBA hBT hBR htl2 hh1 hcN K21 B21
      rcases HEND.out with ⟨rfl, rfl, rfl, rfl, h9, hbig⟩ | ⟨rfl, rfl, hRT, hRN, h9⟩ | ⟨rfl, rfl, hRT, hRN, h9, hsm, hshort⟩
      · rw [HN2'.out] at h9
        have HTK : Hid (∀ w0, Bs w0 w0.heap.size A22 N2 T → Calls Try.prog 10 #[.slice A22 N2 (c21 - tl.length)] w0 fun e w' => ∃ v, e = .returned (.tuple #[.agg #[.int .i64 (hL T : Int), .int .u8 (hK T : Int), .int .u8 (hF T : Int), .int .i64 (hS T : Int)], v, .int .i64 0]) ∧ Below w0.heap.size w0 w') := Lib.hid (fun w0 h0 => by
          have h := rhtake_tot A22 _ N2 (c21 - tl.length) T w0 h0 (by omega) HcN.out (Nat.le_refl _)
          unfold tL tK tF tS tE at h
          rw [if_pos h9, if_pos h9, if_pos h9, if_pos h9, if_pos h9] at h
          exact h.mono fun e w' ⟨v, h1, _, h3⟩ => ⟨v, h1, h3⟩)
        have hA22' : (A21.map fun x => x.add tl.length) = A22 := by have h1 := HOLD.out.2; have h2 := HC21.out.1; rw [if_neg (by omega)] at hA22; exact hA22
        have hx1 : decide ((16384 : Int) < (hL T : Int)) = true := decide_eq_true (by omega)
        have hx2 : decide (16384 < hL T) = true := decide_eq_true hbig
        have K50 : Hid (EnvF wo [bF A22 N2 T, bF A21 (n + n2) (r ++ cs), qF A4 LN qs, bF A3 0 [], bF A2 n2 cs, bF A n r] [(w4.heap.size + 1, #[.bool true, .int .i64 0, .int .u32 ((6 : Nat) : Int)], 31), (w4.heap.size, #[.int .i64 (P : Int), .slice A3 0 c3], 24), (w.heap.size, #[.int .i64 24, .slice A n c], 24)]) := KE
        have B50 : Hid (Below w.heap.size w wo) := BR
        go_wp2_with (first
          | go_skip
          | (go_at_call 9; (have hc := (refsame5 A1 A21 tl.length tl.length c1 c21 _ _ tl tl wo H1.out.1 H1.out.2.1); (with_reducible refine hc.mono ?_); clear hc); rintro e w' ⟨rfl, rfl⟩; rw [beq_self_eq_true])
          | (go_at_call 10; (have hc := (HTK.out wo H1.out.2.2); (with_reducible refine hc.mono ?_); clear hc); rintro e w51 ⟨v51, rfl, hb⟩; have K51 : Hid (EnvF w51 [bF A22 N2 T, bF A21 (n + n2) (r ++ cs), qF A4 LN qs, bF A3 0 [], bF A2 n2 cs, bF A n r] [(w4.heap.size + 1, #[.bool true, .int .i64 0, .int .u32 ((6 : Nat) : Int)], 31), (w4.heap.size, #[.int .i64 (P : Int), .slice A3 0 c3], 24), (w.heap.size, #[.int .i64 24, .slice A n c], 24)]) := Lib.hid (K50.out.on hb); have B51 : Hid (Below w.heap.size w w51) := Lib.hid (below_step B50.out hb); clear hb K50 B50; have leh : w.heap.size ≤ w51.heap.size := (by have := B51.out.size; (try simp only [World.size_alloc] at this); omega); have K52 : Hid (EnvF (w51.alloc (.cells #[.int .i64 0, .int .u8 0, .int .u8 0, .int .i64 0] 38)) [bF A22 N2 T, bF A21 (n + n2) (r ++ cs), qF A4 LN qs, bF A3 0 [], bF A2 n2 cs, bF A n r] [(w51.heap.size, #[.int .i64 0, .int .u8 0, .int .u8 0, .int .i64 0], 38), (w4.heap.size + 1, #[.bool true, .int .i64 0, .int .u32 ((6 : Nat) : Int)], 31), (w4.heap.size, #[.int .i64 (P : Int), .slice A3 0 c3], 24), (w.heap.size, #[.int .i64 24, .slice A n c], 24)]) := Lib.hid (K51.out.boxg 38 #[.int .i64 0, .int .u8 0, .int .u8 0, .int .i64 0] (w51.heap.size) (by simp)); have B52 : Hid (Below w.heap.size w (w51.alloc (.cells #[.int .i64 0, .int .u8 0, .int .u8 0, .int .i64 0] 38))) := Lib.hid (B51.out.alloc B51.out.size (.cells #[.int .i64 0, .int .u8 0, .int .u8 0, .int .i64 0] 38)); clear K51 B51)
          | (refine at_store 38 (.tmp 15) (.tmp 147) (by rfl) ?_; refine wpList_put (by rfl) 38 (.tmp 15) (.tmp 147) (by rfl) (w51.heap.size) 0 (.agg #[.int .i64 (hL T : Int), .int .u8 (hK T : Int), .int .u8 (hF T : Int), .int .i64 (hS T : Int)]) (by rfl) (by rfl) 38 #[.int .i64 0, .int .u8 0, .int .u8 0, .int .i64 0] #[.int .i64 (hL T : Int), .int .u8 (hK T : Int), .int .u8 (hF T : Int), .int .i64 (hS T : Int)] (K52.out.row 0 rfl) (by simp [Value.cells]) (by kernel_rfl) infoc_H (by kernel_rfl) ?_; intro w53 hrow hoth hz hbl; have K53 : Hid (EnvF w53 [bF A22 N2 T, bF A21 (n + n2) (r ++ cs), qF A4 LN qs, bF A3 0 [], bF A2 n2 cs, bF A n r] [(w51.heap.size, #[.int .i64 (hL T : Int), .int .u8 (hK T : Int), .int .u8 (hF T : Int), .int .i64 (hS T : Int)], 38), (w4.heap.size + 1, #[.bool true, .int .i64 0, .int .u32 ((6 : Nat) : Int)], 31), (w4.heap.size, #[.int .i64 (P : Int), .slice A3 0 c3], 24), (w.heap.size, #[.int .i64 24, .slice A n c], 24)]) := Lib.hid (K52.out.turn 0 rfl hrow hoth hz); have B53 : Hid (Below w.heap.size w w53) := Lib.hid (hbl _ _ leh B52.out); clear hrow hoth hz hbl K52 B52)
          | (refine at_load 3 (.tmp 153) (by rfl) ?_; refine wpListG_get (by kernel_rfl) 3 (.tmp 153) (by rfl) (w51.heap.size) 0 (by rfl) 38 #[.int .i64 (hL T : Int), .int .u8 (hK T : Int), .int .u8 (hF T : Int), .int .i64 (hS T : Int)] (.int .i64 (hL T : Int)) _ (K53.out.row 0 rfl) (by rfl) Try.underlying3 (by rfl) ?_)
          | (refine at_load 31 (.tmp 7) (by rfl) ?_; refine wpList_load_row (by rfl) 31 (.tmp 7) (by rfl) (w4.heap.size + 1) (by rfl) 31 #[.bool true, .int .i64 0, .int .u32 ((6 : Nat) : Int)] (0, 0) _ (K53.out.row 1 rfl) Try.underlying31 (by rfl) infoc_X ?_)
          | (refine at_load 22 (.tmp 162) (by rfl) ?_; refine wpListG_get (by kernel_rfl) 22 (.tmp 162) (by rfl) (w4.heap.size) 1 (by rfl) 24 #[.int .i64 (P : Int), .slice A3 0 c3] (.slice A3 0 c3) _ (K53.out.row 2 rfl) (by rfl) Try.underlying22 (by rfl) ?_)
          | (go_at_call 6; (have hc := (wakes5 w53); (with_reducible refine hc.mono ?_); clear hc); rintro e w54 ⟨rfl, hb⟩; have K54 : Hid (EnvF w54 [bF A22 N2 T, bF A21 (n + n2) (r ++ cs), qF A4 LN qs, bF A3 0 [], bF A2 n2 cs, bF A n r] [(w51.heap.size, #[.int .i64 (hL T : Int), .int .u8 (hK T : Int), .int .u8 (hF T : Int), .int .i64 (hS T : Int)], 38), (w4.heap.size + 1, #[.bool true, .int .i64 0, .int .u32 ((6 : Nat) : Int)], 31), (w4.heap.size, #[.int .i64 (P : Int), .slice A3 0 c3], 24), (w.heap.size, #[.int .i64 24, .slice A n c], 24)]) := Lib.hid (K53.out.on hb); have B54 : Hid (Below w.heap.size w w54) := Lib.hid (below_step B53.out hb); clear hb K53 B53))
        all_goals
          go_ret
          exact ⟨by first | rfl | simp, B54.out⟩
      · rw [HN2'.out] at h9 hRN
        subst hRT
        subst hRN
        have HTK : Hid (∀ w0, Calls Try.prog 10 #[.slice A22 RN (c21 - tl.length)] w0 fun e w' => e = .returned (.tuple #[.agg #[.int .i64 0, .int .u8 0, .int .u8 0, .int .i64 0], .slice none 0 0, .int .i64 10]) ∧ Below w0.heap.size w0 w') := Lib.hid (fun w0 => rhtake_no A22 RN _ w0 h9)
        have K50 : Hid (EnvF wo [bF A22 RN R, bF A21 (n + n2) (r ++ cs), qF A4 LN qs, bF A3 RN R, bF A2 n2 cs, bF A n r] [(w4.heap.size + 1, #[.bool false, .int .i64 0, .int .u32 ((0 : Nat) : Int)], 31), (w4.heap.size, #[.int .i64 (P : Int), .slice A3 RN c3], 24), (w.heap.size, #[.int .i64 24, .slice A n c], 24)]) := KE
        have B50 : Hid (Below w.heap.size w wo) := BR
        go_wp2_with (first
          | go_skip
          | (go_at_call 9; (have hc := (refsame5 A1 A21 tl.length tl.length c1 c21 _ _ tl tl wo H1.out.1 H1.out.2.1); (with_reducible refine hc.mono ?_); clear hc); rintro e w' ⟨rfl, rfl⟩; rw [beq_self_eq_true])
          | (go_at_call 10; (have hc := (HTK.out wo); (with_reducible refine hc.mono ?_); clear hc); rintro e w51 ⟨rfl, hb⟩; have K51 : Hid (EnvF w51 [bF A22 RN R, bF A21 (n + n2) (r ++ cs), qF A4 LN qs, bF A3 RN R, bF A2 n2 cs, bF A n r] [(w4.heap.size + 1, #[.bool false, .int .i64 0, .int .u32 ((0 : Nat) : Int)], 31), (w4.heap.size, #[.int .i64 (P : Int), .slice A3 RN c3], 24), (w.heap.size, #[.int .i64 24, .slice A n c], 24)]) := Lib.hid (K50.out.on hb); have B51 : Hid (Below w.heap.size w w51) := Lib.hid (below_step B50.out hb); clear hb K50 B50; have leh : w.heap.size ≤ w51.heap.size := (by have := B51.out.size; (try simp only [World.size_alloc] at this); omega); have K52 : Hid (EnvF (w51.alloc (.cells #[.int .i64 0, .int .u8 0, .int .u8 0, .int .i64 0] 38)) [bF A22 RN R, bF A21 (n + n2) (r ++ cs), qF A4 LN qs, bF A3 RN R, bF A2 n2 cs, bF A n r] [(w51.heap.size, #[.int .i64 0, .int .u8 0, .int .u8 0, .int .i64 0], 38), (w4.heap.size + 1, #[.bool false, .int .i64 0, .int .u32 ((0 : Nat) : Int)], 31), (w4.heap.size, #[.int .i64 (P : Int), .slice A3 RN c3], 24), (w.heap.size, #[.int .i64 24, .slice A n c], 24)]) := Lib.hid (K51.out.boxg 38 #[.int .i64 0, .int .u8 0, .int .u8 0, .int .i64 0] (w51.heap.size) (by simp)); have B52 : Hid (Below w.heap.size w (w51.alloc (.cells #[.int .i64 0, .int .u8 0, .int .u8 0, .int .i64 0] 38))) := Lib.hid (B51.out.alloc B51.out.size (.cells #[.int .i64 0, .int .u8 0, .int .u8 0, .int .i64 0] 38)); clear K51 B51)
          | (refine at_store 38 (.tmp 15) (.tmp 147) (by rfl) ?_; refine wpList_put (by rfl) 38 (.tmp 15) (.tmp 147) (by rfl) (w51.heap.size) 0 (.agg #[.int .i64 0, .int .u8 0, .int .u8 0, .int .i64 0]) (by rfl) (by rfl) 38 #[.int .i64 0, .int .u8 0, .int .u8 0, .int .i64 0] #[.int .i64 0, .int .u8 0, .int .u8 0, .int .i64 0] (K52.out.row 0 rfl) (by simp [Value.cells]) (by kernel_rfl) infoc_H (by kernel_rfl) ?_; intro w53 hrow hoth hz hbl; have K53 : Hid (EnvF w53 [bF A22 RN R, bF A21 (n + n2) (r ++ cs), qF A4 LN qs, bF A3 RN R, bF A2 n2 cs, bF A n r] [(w51.heap.size, #[.int .i64 0, .int .u8 0, .int .u8 0, .int .i64 0], 38), (w4.heap.size + 1, #[.bool false, .int .i64 0, .int .u32 ((0 : Nat) : Int)], 31), (w4.heap.size, #[.int .i64 (P : Int), .slice A3 RN c3], 24), (w.heap.size, #[.int .i64 24, .slice A n c], 24)]) := Lib.hid (K52.out.turn 0 rfl hrow hoth hz); have B53 : Hid (Below w.heap.size w w53) := Lib.hid (hbl _ _ leh B52.out); clear hrow hoth hz hbl K52 B52)
          | (refine at_load 31 (.tmp 7) (by rfl) ?_; refine wpList_load_row (by rfl) 31 (.tmp 7) (by rfl) (w4.heap.size + 1) (by rfl) 31 #[.bool false, .int .i64 0, .int .u32 ((0 : Nat) : Int)] (0, 0) _ (K53.out.row 1 rfl) Try.underlying31 (by rfl) infoc_X ?_)
          | (refine at_load 22 (.tmp 174) (by rfl) ?_; refine wpListG_get (by kernel_rfl) 22 (.tmp 174) (by rfl) (w4.heap.size) 1 (by rfl) 24 #[.int .i64 (P : Int), .slice A3 RN c3] (.slice A3 RN c3) _ (K53.out.row 2 rfl) (by rfl) Try.underlying22 (by rfl) ?_)
          | (go_at_call 9; (have hc := (refsame5 A3 A22 RN RN c3 (c21 - tl.length) _ _ R R w53 (K53.out.bs (A := A3) (n := RN) (xs := R) (by simp)) (K53.out.bs (A := A22) (n := RN) (xs := R) (by simp))); (with_reducible refine hc.mono ?_); clear hc); rintro e w' ⟨rfl, rfl⟩; rw [beq_self_eq_true])
          | (go_at_call 6; (have hc := (wakes5 w53); (with_reducible refine hc.mono ?_); clear hc); rintro e w54 ⟨rfl, hb⟩; have K54 : Hid (EnvF w54 [bF A22 RN R, bF A21 (n + n2) (r ++ cs), qF A4 LN qs, bF A3 RN R, bF A2 n2 cs, bF A n r] [(w51.heap.size, #[.int .i64 0, .int .u8 0, .int .u8 0, .int .i64 0], 38), (w4.heap.size + 1, #[.bool false, .int .i64 0, .int .u32 ((0 : Nat) : Int)], 31), (w4.heap.size, #[.int .i64 (P : Int), .slice A3 RN c3], 24), (w.heap.size, #[.int .i64 24, .slice A n c], 24)]) := Lib.hid (K53.out.on hb); have B54 : Hid (Below w.heap.size w w54) := Lib.hid (below_step B53.out hb); clear hb K53 B53))
        all_goals
          go_ret
          exact ⟨by first | rfl | simp, B54.out⟩
      · rw [HN2'.out] at h9 hRN hshort
        subst hRT
        subst hRN
        have HTK : Hid (∀ w0, Bs w0 w0.heap.size A22 RN R → Calls Try.prog 10 #[.slice A22 RN (c21 - tl.length)] w0 fun e w' => ∃ v, e = .returned (.tuple #[.agg #[.int .i64 (hL R : Int), .int .u8 (hK R : Int), .int .u8 (hF R : Int), .int .i64 (hS R : Int)], v, .int .i64 0]) ∧ Below w0.heap.size w0 w') := Lib.hid (fun w0 h0 => by
          have h := rhtake_tot A22 _ RN (c21 - tl.length) R w0 h0 (by omega) HcN.out (Nat.le_refl _)
          unfold tL tK tF tS tE at h
          rw [if_pos h9, if_pos h9, if_pos h9, if_pos h9, if_pos h9] at h
          exact h.mono fun e w' ⟨v, h1, _, h3⟩ => ⟨v, h1, h3⟩)
        have hA22' : (A21.map fun x => x.add tl.length) = A22 := by have h1 := HOLD.out.2; have h2 := HC21.out.1; rw [if_neg (by omega)] at hA22; exact hA22
        have hx1 : decide ((16384 : Int) < (hL R : Int)) = false := decide_eq_false (by omega)
        have hx2 : decide (16384 < hL R) = false := decide_eq_false (by omega)
        have hx3 : decide ((RN : Int) < 9 + (hL R : Int)) = true := decide_eq_true (by omega)
        have hx4 : decide (RN < 9 + hL R) = true := decide_eq_true hshort
        have K50 : Hid (EnvF wo [bF A22 RN R, bF A21 (n + n2) (r ++ cs), qF A4 LN qs, bF A3 RN R, bF A2 n2 cs, bF A n r] [(w4.heap.size + 1, #[.bool false, .int .i64 0, .int .u32 ((0 : Nat) : Int)], 31), (w4.heap.size, #[.int .i64 (P : Int), .slice A3 RN c3], 24), (w.heap.size, #[.int .i64 24, .slice A n c], 24)]) := KE
        have B50 : Hid (Below w.heap.size w wo) := BR
        go_wp2_with (first
          | go_skip
          | (go_at_call 9; (have hc := (refsame5 A1 A21 tl.length tl.length c1 c21 _ _ tl tl wo H1.out.1 H1.out.2.1); (with_reducible refine hc.mono ?_); clear hc); rintro e w' ⟨rfl, rfl⟩; rw [beq_self_eq_true])
          | (go_at_call 10; (have hc := (HTK.out wo H1.out.2.2); (with_reducible refine hc.mono ?_); clear hc); rintro e w51 ⟨v51, rfl, hb⟩; have K51 : Hid (EnvF w51 [bF A22 RN R, bF A21 (n + n2) (r ++ cs), qF A4 LN qs, bF A3 RN R, bF A2 n2 cs, bF A n r] [(w4.heap.size + 1, #[.bool false, .int .i64 0, .int .u32 ((0 : Nat) : Int)], 31), (w4.heap.size, #[.int .i64 (P : Int), .slice A3 RN c3], 24), (w.heap.size, #[.int .i64 24, .slice A n c], 24)]) := Lib.hid (K50.out.on hb); have B51 : Hid (Below w.heap.size w w51) := Lib.hid (below_step B50.out hb); clear hb K50 B50; have leh : w.heap.size ≤ w51.heap.size := (by have := B51.out.size; (try simp only [World.size_alloc] at this); omega); have K52 : Hid (EnvF (w51.alloc (.cells #[.int .i64 0, .int .u8 0, .int .u8 0, .int .i64 0] 38)) [bF A22 RN R, bF A21 (n + n2) (r ++ cs), qF A4 LN qs, bF A3 RN R, bF A2 n2 cs, bF A n r] [(w51.heap.size, #[.int .i64 0, .int .u8 0, .int .u8 0, .int .i64 0], 38), (w4.heap.size + 1, #[.bool false, .int .i64 0, .int .u32 ((0 : Nat) : Int)], 31), (w4.heap.size, #[.int .i64 (P : Int), .slice A3 RN c3], 24), (w.heap.size, #[.int .i64 24, .slice A n c], 24)]) := Lib.hid (K51.out.boxg 38 #[.int .i64 0, .int .u8 0, .int .u8 0, .int .i64 0] (w51.heap.size) (by simp)); have B52 : Hid (Below w.heap.size w (w51.alloc (.cells #[.int .i64 0, .int .u8 0, .int .u8 0, .int .i64 0] 38))) := Lib.hid (B51.out.alloc B51.out.size (.cells #[.int .i64 0, .int .u8 0, .int .u8 0, .int .i64 0] 38)); clear K51 B51)
          | (refine at_store 38 (.tmp 15) (.tmp 147) (by rfl) ?_; refine wpList_put (by rfl) 38 (.tmp 15) (.tmp 147) (by rfl) (w51.heap.size) 0 (.agg #[.int .i64 (hL R : Int), .int .u8 (hK R : Int), .int .u8 (hF R : Int), .int .i64 (hS R : Int)]) (by rfl) (by rfl) 38 #[.int .i64 0, .int .u8 0, .int .u8 0, .int .i64 0] #[.int .i64 (hL R : Int), .int .u8 (hK R : Int), .int .u8 (hF R : Int), .int .i64 (hS R : Int)] (K52.out.row 0 rfl) (by simp [Value.cells]) (by kernel_rfl) infoc_H (by kernel_rfl) ?_; intro w53 hrow hoth hz hbl; have K53 : Hid (EnvF w53 [bF A22 RN R, bF A21 (n + n2) (r ++ cs), qF A4 LN qs, bF A3 RN R, bF A2 n2 cs, bF A n r] [(w51.heap.size, #[.int .i64 (hL R : Int), .int .u8 (hK R : Int), .int .u8 (hF R : Int), .int .i64 (hS R : Int)], 38), (w4.heap.size + 1, #[.bool false, .int .i64 0, .int .u32 ((0 : Nat) : Int)], 31), (w4.heap.size, #[.int .i64 (P : Int), .slice A3 RN c3], 24), (w.heap.size, #[.int .i64 24, .slice A n c], 24)]) := Lib.hid (K52.out.turn 0 rfl hrow hoth hz); have B53 : Hid (Below w.heap.size w w53) := Lib.hid (hbl _ _ leh B52.out); clear hrow hoth hz hbl K52 B52)
          | (refine at_load 3 (.tmp 153) (by rfl) ?_; refine wpListG_get (by kernel_rfl) 3 (.tmp 153) (by rfl) (w51.heap.size) 0 (by rfl) 38 #[.int .i64 (hL R : Int), .int .u8 (hK R : Int), .int .u8 (hF R : Int), .int .i64 (hS R : Int)] (.int .i64 (hL R : Int)) _ (K53.out.row 0 rfl) (by rfl) Try.underlying3 (by rfl) ?_)
          | (refine at_load 31 (.tmp 7) (by rfl) ?_; refine wpList_load_row (by rfl) 31 (.tmp 7) (by rfl) (w4.heap.size + 1) (by rfl) 31 #[.bool false, .int .i64 0, .int .u32 ((0 : Nat) : Int)] (0, 0) _ (K53.out.row 1 rfl) Try.underlying31 (by rfl) infoc_X ?_)
          | (refine at_load 22 (.tmp 174) (by rfl) ?_; refine wpListG_get (by kernel_rfl) 22 (.tmp 174) (by rfl) (w4.heap.size) 1 (by rfl) 24 #[.int .i64 (P : Int), .slice A3 RN c3] (.slice A3 RN c3) _ (K53.out.row 2 rfl) (by rfl) Try.underlying22 (by rfl) ?_)
          | (go_at_call 9; (have hc := (refsame5 A3 A22 RN RN c3 (c21 - tl.length) _ _ R R w53 (K53.out.bs (A := A3) (n := RN) (xs := R) (by simp)) (K53.out.bs (A := A22) (n := RN) (xs := R) (by simp))); (with_reducible refine hc.mono ?_); clear hc); rintro e w' ⟨rfl, rfl⟩; rw [beq_self_eq_true])
          | (refine at_load 3 (.tmp 185) (by rfl) ?_; refine wpListG_get (by kernel_rfl) 3 (.tmp 185) (by rfl) (w51.heap.size) 0 (by rfl) 38 #[.int .i64 (hL R : Int), .int .u8 (hK R : Int), .int .u8 (hF R : Int), .int .i64 (hS R : Int)] (.int .i64 (hL R : Int)) _ (K53.out.row 0 rfl) (by rfl) Try.underlying3 (by rfl) ?_)
          | (go_at_call 6; (have hc := (wakes5 w53); (with_reducible refine hc.mono ?_); clear hc); rintro e w54 ⟨rfl, hb⟩; have K54 : Hid (EnvF w54 [bF A22 RN R, bF A21 (n + n2) (r ++ cs), qF A4 LN qs, bF A3 RN R, bF A2 n2 cs, bF A n r] [(w51.heap.size, #[.int .i64 (hL R : Int), .int .u8 (hK R : Int), .int .u8 (hF R : Int), .int .i64 (hS R : Int)], 38), (w4.heap.size + 1, #[.bool false, .int .i64 0, .int .u32 ((0 : Nat) : Int)], 31), (w4.heap.size, #[.int .i64 (P : Int), .slice A3 RN c3], 24), (w.heap.size, #[.int .i64 24, .slice A n c], 24)]) := Lib.hid (K53.out.on hb); have B54 : Hid (Below w.heap.size w w54) := Lib.hid (below_step B53.out hb); clear hb K53 B53))
        all_goals
          go_ret
          exact ⟨by first | rfl | simp, B54.out⟩
end Go.Proofs.Ytjoopekgbfplpaa
/- CutWhole: all ways in one. -/
namespace Go.Proofs.Ytjoopekgbfplpaa
open Go.RowKit Oct Cu Go.Shelf
set_option linter.unusedVariables false
set_option linter.unusedSimpArgs false
namespace Cu
theorem fd24 (r cs : List UInt8) : fdP 24 cs = 24 ∧ fdL 24 r cs = fs (r ++ cs) ∧ fdX 24 r cs = (if Bad (rs (r ++ cs)) then 6 else 0) ∧ fdR 24 r cs = if Bad (rs (r ++ cs)) then [] else rs (r ++ cs) := by
  have h := gre_24 cs
  have hc : fdC 24 cs = cs := by unfold fdC; rw [h]; simp
  have hX : fdX 24 r cs = (if Bad (rs (r ++ cs)) then 6 else 0) := by
    unfold fdX
    rw [if_neg (fun hh => hh.1 h), hc]
  refine ⟨h, ?_, hX, ?_⟩
  · unfold fdL
    rw [if_neg (fun hh => hh.1 h), hc]
  · unfold fdR
    rw [hX, hc]
    by_cases hb : Bad (rs (r ++ cs))
    · rw [if_pos hb, if_pos hb]; rfl
    · rw [if_neg hb, if_neg hb]; rfl
end Cu
theorem whole_any (p : Int) (A : Option Addr) (n c : Nat) (r : List UInt8) (A2 : Option Addr) (n2 c2 : Nat) (cs : List UInt8) (w : World) (hA : Bs w w.heap.size A n r) (hN : A = none → c = 0) (hnc : n ≤ c) (hA2 : Bs w w.heap.size A2 n2 cs) (hN2 : A2 = none → c2 = 0) (hnc2 : n2 ≤ c2) :
    Calls Try.prog 3 #[.agg #[.int .i64 p, .slice A n c], .slice A2 n2 c2] w fun e w' => e = .returned (.bool true) ∧ Below w.heap.size w w' := by
  by_cases h1 : 600 < n
  · exact whole_g1 p A n c r A2 n2 c2 cs w hA hN hnc hA2 hN2 hnc2 (decide_eq_true (by omega))
  have hb1 : decide ((600 : Int) < (n : Int)) = false := decide_eq_false (by omega)
  by_cases h2 : 600 < n2
  · exact whole_g2 p A n c r A2 n2 c2 cs w hA hN hnc hA2 hN2 hnc2 hb1 (decide_eq_true (by omega))
  have hb2 : decide ((600 : Int) < (n2 : Int)) = false := decide_eq_false (by omega)
  by_cases hR : RightR p r
  · by_cases hp : p = 24
    · subst hp
      obtain ⟨e1, e2, e3, e4⟩ := fd24 r cs
      have hl : (r ++ cs).length = n + n2 := by rw [List.length_append, hA.1, hA2.1]
      have hall : (fs (r ++ cs)).flatten ++ rs (r ++ cs) = r ++ cs := cut_all _ _
      have hfr : ∀ f ∈ fs (r ++ cs), 9 ≤ f.length ∧ f.length = 9 + hL f ∧ hL f ≤ 16384 := cut_frames _ _
      have hln := cut_len (r ++ cs).length (r ++ cs)
      have hLN : (fs (r ++ cs)).length ≤ 2000 := by
        have : (fs (r ++ cs)).length = (cutF (r ++ cs).length (r ++ cs)).length := rfl
        omega
      have hfit := rs_fits (r ++ cs)
      by_cases hb : Bad (rs (r ++ cs))
      · rw [if_pos hb] at e3 e4
        exact whole_main (P := 24) (RN := 0) (X := 6) (R := []) (xb := true) (L := fs (r ++ cs)) (LN := (fs (r ++ cs)).length) A n c r A2 n2 c2 cs w hA hN hnc hA2 hN2 hnc2 hb1 hb2 hR (by omega) (by omega) hLN (Lib.hid (feedTo (p := 24) hR (by omega) (by omega) e1 e4 e3 rfl e2 rfl rfl rfl)) (Lib.hid hfr) (rs (r ++ cs)) (Lib.hid hall) (.inl ⟨rfl, rfl, rfl, rfl, hb.1, hb.2⟩)
      · rw [if_neg hb] at e3 e4
        refine whole_main (P := 24) (RN := (rs (r ++ cs)).length) (X := 0) (R := rs (r ++ cs)) (xb := false) (L := fs (r ++ cs)) (LN := (fs (r ++ cs)).length) A n c r A2 n2 c2 cs w hA hN hnc hA2 hN2 hnc2 hb1 hb2 hR (by omega) (by omega) hLN (Lib.hid (feedTo (p := 24) hR (by omega) (by omega) e1 e4 e3 rfl e2 rfl rfl rfl)) (Lib.hid hfr) (rs (r ++ cs)) (Lib.hid hall) (.inr ?_)
        rcases Nat.lt_or_ge (rs (r ++ cs)).length 9 with h9 | h9
        · exact .inl ⟨rfl, rfl, rfl, rfl, h9⟩
        · refine .inr ⟨rfl, rfl, rfl, rfl, h9, ?_, ?_⟩
          · unfold Bad at hb; omega
          · unfold Bad at hb; unfold Fits at hfit; omega
    · exact whole_pre p A n c r A2 n2 c2 cs w hA hN hnc hA2 hN2 hnc2 hb1 hb2 hR (by omega) (by simpa using hp)
  · exact whole_no p A n c r A2 n2 c2 cs w hA hN hnc hA2 hN2 hnc2 hb1 hb2 hR (by omega)
end Go.Proofs.Ytjoopekgbfplpaa
