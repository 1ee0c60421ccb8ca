/- The statements' own samples: wakes returns true, and nothing that was there has turned. -/
import Derived.Test.YtfglpnfegfcmeaaOctSame
namespace Go.Proofs.Ytfglpnfegfcmeaa
open Go.RowKit Oct

theorem bs_lit (w : World) (t : TypeId) (xs : List UInt8) (cs : Array Value) (g : Nat) (hg : w.heap.size = g) (h : (xs.map bv).toArray = cs) : Bs (w.alloc (.cells cs t)) (g + 1) (some ⟨g, 0, none⟩) xs.length xs := by
  subst h
  subst hg
  have := (RowB.bs (w := w.alloc (.cells (xs.map bv).toArray t)) (g := w.heap.size) (t := t) (ys := xs) (World.alloc_heap_new w _))
  rw [World.size_alloc] at this
  exact this
theorem laid1 {ys : List UInt8} (h : IsLaid [] 0 5 3 ys) : ys = [0xa0] := isLaid_one h ⟨rfl, by decide⟩
theorem laid2 {ys : List UInt8} (h : IsLaid [0xa0] 3 1 7 ys) : ys = [0xa0, 0x40] := isLaid_one h ⟨rfl, by decide⟩

set_option maxRecDepth 100000 in
set_option maxHeartbeats 4000000 in
theorem wakes_any (w : World) : Calls Try.prog 8 #[] w fun e w' => e = .returned (.bool true) ∧ Below w.heap.size w w' := by
  go_enter Try.func8, Try.ntmps8
  go_wp2_with fail
  refine (put_ok 258 3 _ (by omega) (by omega) (by omega) (by decide)).mono ?_
  rintro e w1 ⟨v1, rfl, hown1, hb1⟩
  have hp : putB (258 : Int).toNat (3 : Int).toNat = [0, 1, 2] := by decide
  rw [hp] at hown1
  obtain ⟨A1, c1, rfl, hle1, _, _, hbs1⟩ := hown1.form
  have B1 := Lib.hid hbs1
  clear hbs1 hown1 hp
  go_wp2_with fail
  refine (take_ok _ _ 4 4 [9, 0, 1, 2] 1 3 _ (bs_lit _ _ [9, 0, 1, 2] _ _ (by simp) (by simp [bv])) (by omega) (by omega) (by omega) (by omega) (by omega) (by omega)).mono ?_
  rintro e w' ⟨rfl, rfl⟩
  rw [show takeB (List.take (3 : Int).toNat (List.drop (1 : Int).toNat [9, 0, 1, 2])) = 258 from by decide +kernel]
  go_wp2_with fail
  refine (put_no 256 1 _ (by decide)).mono ?_
  rintro e w' ⟨rfl, rfl⟩
  go_wp2_with fail
  refine (take_short none 0 0 0 1 _ (by omega) (by omega) (by omega) (by omega) (by omega)).mono ?_
  rintro e w' ⟨rfl, rfl⟩
  go_wp2_with fail
  refine (stream_ok _ _ 4 4 [128, 0, 0, 7] 0 _ (bs_lit _ _ [128, 0, 0, 7] _ _ (by simp) (by simp [bv])) (by omega) (by omega) (by omega) (by omega)).mono ?_
  rintro e w' ⟨rfl, rfl⟩
  rw [show takeB (List.take 4 (List.drop (0 : Int).toNat [128, 0, 0, 7])) % 2147483648 = 7 from by decide +kernel]
  go_wp2_with fail
  refine (bits_yes _ 1 1 [165] 1 3 _ (by simp only [World.size_alloc]; exact bs_lit _ _ [165] _ _ (by simp) (by simp [bv])) (by omega) (by omega) (by omega) (by omega) (by omega)).mono ?_
  rintro e w2 ⟨rfl, hb2⟩
  have hk2 : Below w1.heap.size w1 w2 := ((((Below.refl _ w1).alloc (Nat.le_refl _) _).alloc (by simp) _).alloc (by simp; omega) _).trans (hb2.mono (by simp; omega))
  clear hb2
  rw [show codeOf [165] (1 : Int).toNat (3 : Int).toNat = 2 from by decide +kernel]
  go_wp2_with fail
  refine (bit_yes _ _ 1 1 [165] 7 _ (bs_lit _ _ [165] _ _ (by simp) (by simp [bv])) (by omega) (by omega) (by omega)).mono ?_
  rintro e w' ⟨rfl, rfl⟩
  rw [show bitOf [165] (7 : Int).toNat = 1 from by decide +kernel]
  go_wp2_with fail
  refine (bit_none _ 1 1 8 _ (by omega) (by omega)).mono ?_
  rintro e w' ⟨rfl, rfl⟩
  go_wp2_with fail
  refine (lay_ok none 0 0 [] 0 5 3 _ Bs.none_ (by omega) (by omega) (by omega) (by omega) (by decide +kernel) (by omega) (by omega) (by omega)).mono ?_
  rintro e w3 ⟨v3, ys3, rfl, hl3, hown3, hb3⟩
  obtain rfl := laid1 hl3
  obtain ⟨A3, c3, rfl, hle3, _, _, hbs3⟩ := hown3.form
  have B3 := Lib.hid hbs3
  clear hbs3 hown3 hl3
  have hk3 : Below w2.heap.size w2 w3 := (((Below.refl _ w2).alloc (Nat.le_refl _) _).alloc (by simp) _).trans (hb3.mono (by simp; omega))
  clear hb3
  go_wp2_with fail
  refine (lay_ok _ 1 _ [160] 3 1 7 _ B3.out (by omega) (by omega) (by omega) (by omega) (by decide +kernel) (by omega) (by omega) (by omega)).mono ?_
  rintro e w4 ⟨v4, ys4, rfl, hl4, hown4, hb4⟩
  obtain rfl := laid2 hl4
  obtain ⟨A4, c4, rfl, hle4, _, _, hbs4⟩ := hown4.form
  have B4 := Lib.hid hbs4
  clear hbs4 hown4 hl4
  go_wp2_with fail
  refine (lay_no none 0 0 0 4 2 _ (by decide +kernel) (by omega)).mono ?_
  rintro e w5 ⟨rfl, hb5⟩
  have hz1 := hb1.size
  have hz2 := hk2.size
  have hz3 := hk3.size
  have hz4 := hb4.size
  have hz5 := hb5.size
  have C4 := Lib.hid (B4.out.below hb5)
  have C3 := Lib.hid ((B3.out.below hb4).below (hb5.mono hz4))
  have C1 := Lib.hid ((((B1.out.below hk2).below (hk3.mono hz2)).below (hb4.mono (by omega))).below (hb5.mono (by omega)))
  have hbw : Below w.heap.size w w5 := hb1.trans ((hk2.mono hz1).trans ((hk3.mono (by omega)).trans ((hb4.mono (by omega)).trans (hb5.mono (by omega)))))
  clear B1 B3 B4 hb1 hk2 hk3 hb4 hb5
  go_wp2_with fail
  refine (same_any _ _ 3 3 _ _ _ _ [0, 1, 2] [0, 1, 2] _ (C1.out.alloc (by omega) _) (bs_lit _ _ [0, 1, 2] _ _ (by simp) (by simp [bv]))).mono ?_
  rintro e w' ⟨rfl, rfl⟩
  rw [show (([0, 1, 2] : List UInt8) == [0, 1, 2]) = true from by decide]
  go_wp2_with fail
  refine (same_any _ _ 1 1 _ _ _ _ [160] [160] _ ((C3.out.alloc (by omega) _).alloc (by simp; omega) _) (bs_lit _ _ [160] _ _ (by simp) (by simp [bv]))).mono ?_
  rintro e w' ⟨rfl, rfl⟩
  rw [show (([160] : List UInt8) == [160]) = true from by decide]
  go_wp2_with fail
  refine (same_any _ _ 2 2 _ _ _ _ [160, 64] [160, 64] _ (((C4.out.alloc (by omega) _).alloc (by simp; omega) _).alloc (by simp; omega) _) (bs_lit _ _ [160, 64] _ _ (by simp) (by simp [bv]))).mono ?_
  rintro e w' ⟨rfl, rfl⟩
  rw [show (([160, 64] : List UInt8) == [160, 64]) = true from by decide]
  go_wp2_with fail
  refine (same_any _ _ 1 2 _ _ _ _ [160] [160, 64] _ (((C3.out.alloc (by omega) _).alloc (by simp; omega) _).alloc (by simp; omega) _) (((C4.out.alloc (by omega) _).alloc (by simp; omega) _).alloc (by simp; omega) _)).mono ?_
  rintro e w' ⟨rfl, rfl⟩
  rw [show (([160] : List UInt8) == [160, 64]) = false from by decide]
  go_wp2_with fail
  go_ret
  refine ⟨rfl, ((hbw.alloc (by omega) _).alloc (by simp; omega) _).alloc (by simp; omega) _⟩
end Go.Proofs.Ytfglpnfegfcmeaa
