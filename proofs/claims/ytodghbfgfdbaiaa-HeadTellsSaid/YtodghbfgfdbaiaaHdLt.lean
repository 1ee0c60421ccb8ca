/- The walk of HeadTells: the program's answers are the document's; nothing that was there has turned. -/
import Derived.Test.YtodghbfgfdbaiaaHdS
import Derived.Test.YtodghbfgfdbaiaaGArgs
import Derived.Deep.RegionHeld3
namespace Go.Proofs.Ytodghbfgfdbaiaa
open Go.RowKit Oct

theorem tells_great (L S : Int) (K F : Int) (A : Option Addr) (n c : Nat) (f k : Int) (w : World) (h : 3000 < n) (hm : n ≤ maxLen) :
    Calls Try.prog 3 #[.agg #[.int .i64 L, .int .u8 K, .int .u8 F, .int .i64 S], .slice A n c, .int .u8 f, .int .u8 k] w fun e w' => e = .returned (.bool true) ∧ Below w.heap.size w w' := by
  unfold maxLen at hm
  go_enter Try.func3, Try.ntmps3
  go_wp2_with (go_at_call 7; refine (wakes_any _).mono ?_; rintro e w' ⟨rfl, hb⟩)
  go_ret
  exact ⟨rfl, ((Below.refl _ w).alloc (Nat.le_refl _) _).trans (hb.mono (by simp))⟩
set_option maxRecDepth 100000 in
set_option maxHeartbeats 4000000 in
theorem tells_yes (L S : Int) (K F : UInt8) (A : Option Addr) (n c : Nat) (xs : List UInt8) (f k : Int) (w : World) (hA : Bs w w.heap.size A n xs) (hAc : A = none → c = 0) (hn : n ≤ 3000) (hnc : n ≤ c) (hk : (Lit.int .u8 k).wf = true) :
    Calls Try.prog 3 #[.agg #[.int .i64 L, .int .u8 (K.toNat : Int), .int .u8 (F.toNat : Int), .int .i64 S], .slice A n c, .int .u8 f, .int .u8 k] w fun e w' => e = .returned (.bool true) ∧ Below w.heap.size w w' := by
  have HAc := Lib.hid hAc
  have HB0 : Hid (Below w.heap.size w (w.alloc (.cells #[.int .i64 L, .int .u8 (K.toNat : Int), .int .u8 (F.toNat : Int), .int .i64 S] 23))) := Lib.hid ((Below.refl _ w).alloc (Nat.le_refl _) _)
  have K0 := Lib.hid (((Env.nil w).addS hA).box 23 (.int .i64 L) (.int .u8 (K.toNat : Int)) (.int .u8 (F.toNat : Int)) (.int .i64 S))
  have d1 : decide (3000 < (n : Int)) = false := by simp; omega
  have hn1 : n ≤ 1000000 := by omega
  have hk0 : 0 ≤ k := (u8_bounds hk).1
  clear hA hAc
  go_enter Try.func3, Try.ntmps3
  go_wp2_with (first
    | (go_at_call 8; (with_reducible refine (hput_tot L S K F _).mono ?_); rintro e w1 ⟨v1, rfl, ho, hb⟩; obtain ⟨A1, n1, c1, rfl, hr⟩ := ho.hands; have K1 := Lib.hid ((K0.out.on hb).addS hr); have HB1 := Lib.hid (HB0.out.trans (hb.mono HB0.out.size)); obtain ⟨⟨a0, a1, a2, a3⟩, ha⟩ := K1.out.f (w.heap.size, .int .i64 L, .int .u8 (K.toNat : Int), .int .u8 (F.toNat : Int), .int .i64 S) (by simp); clear ho hb hr K0)
    | (go_at_call 9; (with_reducible refine (rhput_tot L S K F _).mono ?_); rintro e w2 ⟨v2, rfl, ho, hb⟩; obtain ⟨A2, n2, c2, rfl, hr⟩ := ho.hands; have K2 := Lib.hid ((K1.out.on hb).addS hr); have HB2 := Lib.hid (HB1.out.trans (hb.mono HB1.out.size)); clear ho hb hr K1)
    | (go_at_call 10; (with_reducible refine (htake_tot A _ n c xs _ (K2.out.s (A, n, xs) (by simp)) HAc.out hn1 hnc (Nat.le_refl _)).mono ?_); rintro e w3 ⟨v3, rfl, ho, hb⟩; obtain ⟨A3, n3, c3, rfl, hr⟩ := ho.hands; have K3 := Lib.hid (((K2.out.on hb).addS hr).box 23 (.int .i64 (tL xs n)) (.int .u8 (tK xs n)) (.int .u8 (tF xs n)) (.int .i64 (tS xs n))); have HB3 := Lib.hid ((HB2.out.trans (hb.mono HB2.out.size)).alloc (HB2.out.trans (hb.mono HB2.out.size)).size (.cells #[.int .i64 (tL xs n), .int .u8 (tK xs n), .int .u8 (tF xs n), .int .i64 (tS xs n)] 23)); clear ho hb hr K2)
    | (go_at_call 11; (with_reducible refine (rhtake_tot A _ n c xs _ (K3.out.s (A, n, xs) (by simp)) hn1 hnc (Nat.le_refl _)).mono ?_); rintro e w4 ⟨v4, rfl, ho, hb⟩; obtain ⟨A4, n4, c4, rfl, hr⟩ := ho.hands; have K4 := Lib.hid (((K3.out.on hb).addS hr).box 23 (.int .i64 (tL xs n)) (.int .u8 (tK xs n)) (.int .u8 (tF xs n)) (.int .i64 (tS xs n))); have HB4 := Lib.hid ((HB3.out.trans (hb.mono HB3.out.size)).alloc (HB3.out.trans (hb.mono HB3.out.size)).size (.cells #[.int .i64 (tL xs n), .int .u8 (tK xs n), .int .u8 (tF xs n), .int .i64 (tS xs n)] 23)); clear ho hb hr K3; obtain ⟨⟨b0, b1, b2, b3⟩, _⟩ := K4.out.f (w3.heap.size, .int .i64 (tL xs n), .int .u8 (tK xs n), .int .u8 (tF xs n), .int .i64 (tS xs n)) (by simp))
    | (go_at_call 12; (with_reducible refine (lsame_any A1 A2 n1 n2 c1 c2 _ _ (hpV L K F S) (hpV L K F S) _ (K4.out.s (A1, n1, hpV L K F S) (by simp)) (K4.out.s (A2, n2, hpV L K F S) (by simp))).mono ?_); rintro e w' ⟨rfl, rfl⟩; rw [beq_self_eq_true])
    | (go_at_call 12; (with_reducible refine (lsame_any A3 A4 n3 n4 c3 c4 _ _ (xs.drop 9) (xs.drop 9) _ (K4.out.s (A3, n3, xs.drop 9) (by simp)) (K4.out.s (A4, n4, xs.drop 9) (by simp))).mono ?_); rintro e w' ⟨rfl, rfl⟩; rw [beq_self_eq_true])
    | (go_at_call 13; (with_reducible refine (whole_tot A _ n c xs _ (K4.out.s (A, n, xs) (by simp)) hn1 hnc (Nat.le_refl _)).mono ?_); rintro e w5 ⟨v5, u5, rfl, ho, hu, hb⟩; obtain ⟨A5, n5, c5, rfl, hr⟩ := ho.hands; obtain ⟨B5, m5, e5, rfl, hr'⟩ := hu.hands; have K5 := Lib.hid ((((K4.out.on hb).addS hr).addS hr').box 23 (.int .i64 (tL xs n)) (.int .u8 (tK xs n)) (.int .u8 (tF xs n)) (.int .i64 (tS xs n))); have HB5 := Lib.hid ((HB4.out.trans (hb.mono HB4.out.size)).alloc (HB4.out.trans (hb.mono HB4.out.size)).size (.cells #[.int .i64 (tL xs n), .int .u8 (tK xs n), .int .u8 (tF xs n), .int .i64 (tS xs n)] 23)); clear ho hu hb hr hr' K4)
    | (go_at_call 14; (with_reducible refine (rwhole_tot A _ n c xs _ (K5.out.s (A, n, xs) (by simp)) hn1 hnc (Nat.le_refl _)).mono ?_); rintro e w6 ⟨v6, u6, rfl, ho, hu, hb⟩; obtain ⟨A6, n6, c6, rfl, hr⟩ := ho.hands; obtain ⟨B6, m6, e6, rfl, hr'⟩ := hu.hands; have K6 := Lib.hid ((((K5.out.on hb).addS hr).addS hr').box 23 (.int .i64 (tL xs n)) (.int .u8 (tK xs n)) (.int .u8 (tF xs n)) (.int .i64 (tS xs n))); have HB6 := Lib.hid ((HB5.out.trans (hb.mono HB5.out.size)).alloc (HB5.out.trans (hb.mono HB5.out.size)).size (.cells #[.int .i64 (tL xs n), .int .u8 (tK xs n), .int .u8 (tF xs n), .int .i64 (tS xs n)] 23)); clear ho hu hb hr hr' K5))
  obtain ⟨FS, hFS⟩ : ∃ FS : List (Nat × Value × Value × Value × Value), FS = [(w6.heap.size, .int .i64 (tL xs n), .int .u8 (tK xs n), .int .u8 (tF xs n), .int .i64 (tS xs n)), (w5.heap.size, .int .i64 (tL xs n), .int .u8 (tK xs n), .int .u8 (tF xs n), .int .i64 (tS xs n)), (w4.heap.size, .int .i64 (tL xs n), .int .u8 (tK xs n), .int .u8 (tF xs n), .int .i64 (tS xs n)), (w3.heap.size, .int .i64 (tL xs n), .int .u8 (tK xs n), .int .u8 (tF xs n), .int .i64 (tS xs n)), (w.heap.size, .int .i64 L, .int .u8 (K.toNat : Int), .int .u8 (F.toNat : Int), .int .i64 S)] := ⟨_, rfl⟩
  rw [← hFS] at K6
  have M1 : Hid ((((w.heap.size, .int .i64 L, .int .u8 (K.toNat : Int), .int .u8 (F.toNat : Int), .int .i64 S)) : Nat × Value × Value × Value × Value) ∈ FS) := Lib.hid (by rw [hFS]; simp)
  have M2 : Hid ((((w5.heap.size, .int .i64 (tL xs n), .int .u8 (tK xs n), .int .u8 (tF xs n), .int .i64 (tS xs n))) : Nat × Value × Value × Value × Value) ∈ FS) := Lib.hid (by rw [hFS]; simp)
  have M3 : Hid ((((w6.heap.size, .int .i64 (tL xs n), .int .u8 (tK xs n), .int .u8 (tF xs n), .int .i64 (tS xs n))) : Nat × Value × Value × Value × Value) ∈ FS) := Lib.hid (by rw [hFS]; simp)
  clear hFS b0 b1 b2 b3 a0 a1 a2 a3
  go_region_held3 (fun W' => W'.cell? ⟨w.heap.size, 0, none⟩ = some (.int .i64 L) ∧ W'.cell? ⟨w.heap.size, 1, none⟩ = some (.int .u8 (K.toNat : Int)) ∧ W'.cell? ⟨w.heap.size, 2, none⟩ = some (.int .u8 (F.toNat : Int)) ∧ W'.cell? ⟨w.heap.size, 3, none⟩ = some (.int .i64 S) ∧ W'.cell? ⟨w5.heap.size, 0, none⟩ = some (.int .i64 (tL xs n)) ∧ W'.cell? ⟨w5.heap.size, 1, none⟩ = some (.int .u8 (tK xs n)) ∧ W'.cell? ⟨w5.heap.size, 2, none⟩ = some (.int .u8 (tF xs n)) ∧ W'.cell? ⟨w5.heap.size, 3, none⟩ = some (.int .i64 (tS xs n)) ∧ W'.cell? ⟨w6.heap.size, 0, none⟩ = some (.int .i64 (tL xs n)) ∧ W'.cell? ⟨w6.heap.size, 1, none⟩ = some (.int .u8 (tK xs n)) ∧ W'.cell? ⟨w6.heap.size, 2, none⟩ = some (.int .u8 (tF xs n)) ∧ W'.cell? ⟨w6.heap.size, 3, none⟩ = some (.int .i64 (tS xs n)))
    (first
        | with_reducible exact e12 K6.out M1.out M2.out M3.out
        | with_reducible exact e12 K6.out.drew M1.out M2.out M3.out
        | with_reducible exact e12 K7.out M1.out M2.out M3.out
        | with_reducible exact e12 K8.out M1.out M2.out M3.out
        | with_reducible exact e12 K9.out M1.out M2.out M3.out
        | with_reducible exact e12 K10.out M1.out M2.out M3.out
        | with_reducible exact e12 K11.out M1.out M2.out M3.out
        | with_reducible exact e12 K12.out M1.out M2.out M3.out
        | with_reducible exact e12 K13.out M1.out M2.out M3.out)
    ((first
    | (go_at_call 12; (with_reducible refine (lsame_any A5 A6 n5 n6 c5 c6 _ _ (wP xs n) (wP xs n) _ (K6.out.drew.s (A5, n5, wP xs n) (by simp)) (K6.out.drew.s (A6, n6, wP xs n) (by simp))).mono ?_); rintro e w' ⟨rfl, rfl⟩; rw [beq_self_eq_true])
    | (go_at_call 12; (with_reducible refine (lsame_any B5 B6 m5 m6 e5 e6 _ _ (wR xs n) (wR xs n) _ (K6.out.drew.s (B5, m5, wR xs n) (by simp)) (K6.out.drew.s (B6, m6, wR xs n) (by simp))).mono ?_); rintro e w' ⟨rfl, rfl⟩; rw [beq_self_eq_true])
    | (go_at_call 15; (with_reducible refine (right_any L _ _ S _).mono ?_); rintro e w7 ⟨rfl, hb⟩; have K7 := Lib.hid (K6.out.drew.on hb); have HB7 := Lib.hid (HB6.out.drew.trans (hb.mono HB6.out.size)); clear hb)
    | (go_at_call 16; (with_reducible refine (rright_any L _ _ S _).mono ?_); rintro e w8 ⟨rfl, hb⟩; have K8 := Lib.hid (K7.out.on hb); have HB8 := Lib.hid (HB7.out.trans (hb.mono HB7.out.size)); clear hb)
    | (go_at_call 17; (with_reducible refine (has_any L _ _ S f _).mono ?_); rintro e w9 ⟨rfl, hb⟩; have K9 := Lib.hid (K8.out.on hb); have HB9 := Lib.hid (HB8.out.trans (hb.mono HB8.out.size)); clear hb)
    | (go_at_call 18; (with_reducible refine (rhas_any L _ _ S f _).mono ?_); rintro e w10 ⟨rfl, hb⟩; have K10 := Lib.hid (K9.out.on hb); have HB10 := Lib.hid (HB9.out.trans (hb.mono HB9.out.size)); clear hb)
    | (go_at_call 19; (with_reducible refine (known_any k _ hk).mono ?_); rintro e w11 ⟨rfl, hb⟩; have K11 := Lib.hid (K10.out.on hb); have HB11 := Lib.hid (HB10.out.trans (hb.mono HB10.out.size)); clear hb)
    | (go_at_call 20; (with_reducible refine (rknown_any k _ hk0).mono ?_); rintro e w' ⟨rfl, rfl⟩)
    | (go_at_call 7; (with_reducible refine (wakes_any _).mono ?_); rintro e w12 ⟨rfl, hb⟩; have K12 := Lib.hid (K11.out.on hb); have HB12 := Lib.hid (HB11.out.trans (hb.mono HB11.out.size)); clear hb)))
  go_wp2
  go_ret
  exact ⟨rfl, HB12.out⟩
end Go.Proofs.Ytodghbfgfdbaiaa
