/- The document's layer 7: Put, Take. -/
import Derived.Test.YtfjmgfahlicleaaDoorHfT
import Derived.Test.YtfjmgfahlicleaaDoorHfI
import Derived.Test.YtfjmgfahlicleaaDoorOcRLay
import Derived.Test.YtfjmgfahlicleaaDoorGPut
namespace Go.Proofs.YtfjmgfahlicleaaDoor
open Go.RowKit Hf Oct
set_option linter.unusedVariables false
set_option linter.unusedSimpArgs false
theorem Hf.run_len5 {xs l : List UInt8} {a : Nat} (h : Hf.Run xs l a) : 5 * l.length ≤ a := by
  have h2 : ∀ b : List UInt8, 5 * b.length ≤ (bl b).length := by
    intro b
    induction b with
    | nil => simp
    | cons c b ih => have := mny_bd c; rw [bl_cons, List.length_append, cbits_length, List.length_cons]; omega
  have := h2 l
  have := h.len
  omega
theorem info_ru8 : (Tryd.prog.info? 5).map (fun i => (i.zero, i.size, i.bytes)) = some (some (.int .u8 0), 1, 1) := by kernel_rfl
set_option maxRecDepth 100000 in
set_option maxHeartbeats 2000000 in
theorem r_put (A : Option Addr) (n c : Nat) (xs : List UInt8) (w : World) (hA : Bs w w.heap.size A n xs) (hn : n ≤ 10000) :
    Calls Tryd.prog 19 #[.slice A n c] w fun e w' => ∃ A' m c' ys, e = .returned (.slice A' m c') ∧ IsPut (bl xs) ys ∧ HandS w' w.heap.size A' m c' ys ∧ Below w.heap.size w w' := by
  have HA := Lib.hid hA
  clear hA
  go_enter Tryd.func19, Tryd.ntmps19
  go_wp2
  go_loopw [3, 4, 5] (fun s u t wr => ∃ (k : Nat) (A1 : Option Addr) (c1 : Nat) (o : List UInt8), k ≤ n ∧ t = .int .i64 (k : Int) ∧ u = .int .i64 ((bl (xs.take k)).length : Int) ∧ s = .slice A1 o.length c1 ∧ OwnB wr w.heap.size 5 (.slice A1 o.length c1) o ∧ IsSoFar (bl (xs.take k)) o ∧ Below w.heap.size w wr) (fun _ _ t _ => n - (intOf t).toNat)
  case atStart => exact ⟨0, none, 0, [], Nat.zero_le _, rfl, rfl, rfl, OwnB.nil_ _ _ _, IsSoFar.nil, Below.refl _ _⟩
  case round =>
    obtain ⟨k, A1, c1, o, hk, rfl, rfl, rfl, hown, hsf, hbel⟩ := hrel
    have HO := Lib.hid hown
    have HSF := Lib.hid hsf
    have HB := Lib.hid hbel
    have hle := bl_take_le xs k
    have hsl := soFar_len hsf
    obtain ⟨A2, c2, e2, hs2⟩ := hown.handS (n := o.length) rfl
    cases e2
    have HS2 := Lib.hid hs2
    have hol := hsf.1
    have HOL := Lib.hid hol
    clear hown hsf hbel hs2 hol
    by_cases hlt : k < n
    · obtain ⟨b, p, rfl, hb, hc⟩ := bs_cell HA.out (by omega)
      obtain ⟨x, hx, hcx⟩ := hc k hlt
      have hck : wr.cell? ⟨b, p + k, none⟩ = some (.int .u8 (x.toNat : Int)) := (HB.out.cell (p := ⟨b, p + k, none⟩) hb).trans hcx
      have hT := bl_take hx
      have hTT := take_next hx
      have hm := mny_bd x
      have hcd := cod_lt x
      have hcd2 : (cod x : Int) < 2 ^ ((mny x : Int)).toNat := by
        rw [Int.toNat_natCast, pow_int]; omega
      have hLAY := rlay_ok A1 o.length c1 o ((bl (xs.take k)).length : Int) (cod x : Int) (mny x : Int) wr HS2.out.1 (by omega) (by omega) (by omega) (by omega) hcd2 (by omega) (by rw [HOL.out]; omega) (by omega)
      have hFIN : ∀ ys, IsLaid o ((bl (xs.take k)).length : Int).toNat (cod x : Int).toNat (mny x : Int).toNat ys → IsSoFar (bl (xs.take (k + 1))) ys := fun ys hy => by
        rw [hTT, bl_snoc]
        simp only [Int.toNat_natCast] at hy
        exact HSF.out.code x hy
      have hsum : ((bl (xs.take k)).length : Int) + (mny x : Int) = ((bl (xs.take (k + 1))).length : Int) := by rw [hT]; omega
      rw [hsum] at hLAY
      have HLAY := Lib.hid hLAY
      have HFIN := Lib.hid hFIN
      clear hc hx hcx hT hTT hcd hcd2 hLAY hFIN hsum
      go_wp2_with (first
        | (go_at_call 10; (with_reducible refine (r_code x _ wr rfl).mono ?_); rintro e w1 ⟨rfl, rfl⟩)
        | (go_at_call 34; (with_reducible refine HLAY.out.mono ?_); rintro e w2 ⟨v2, ys, rfl, hl2, ho2, hb2⟩; obtain ⟨A3, c3, rfl, hh3⟩ := ho2.handS (n := ys.length) rfl; have HL2 := Lib.hid hl2; have HO2 := Lib.hid ho2; have HB2 := Lib.hid hb2; clear hl2 ho2 hb2 hh3))
      go_roundw
      case rel => exact ⟨k + 1, A3, c3, ys, by omega, by go_num, rfl, rfl, HO2.out.less HB.out.size, HFIN.out ys HL2.out, HB.out.trans (HB2.out.mono HB.out.size)⟩
      case measure => simp [intOf]; omega
    · obtain rfl : k = n := by omega
      have ht : xs.take k = xs := List.take_of_length_le (by rw [HA.out.1]; exact Nat.le_refl _)
      rw [ht] at HSF HOL hle hsl
      obtain ⟨L, hL⟩ : ∃ L : Nat, (bl xs).length + L = 8 * o.length := ⟨8 * o.length - (bl xs).length, by omega⟩
      have hL7 : L ≤ 7 := by omega
      have hpL : (2 : Nat) ^ L ≤ 2 ^ 7 := Nat.pow_le_pow_right (by decide) hL7
      have hp0 := Nat.two_pow_pos L
      have hL2 : (8 : Int) * (o.length : Int) - ((bl xs).length : Int) = (L : Int) := by omega
      have hLAY := rlay_ok A1 o.length c1 o ((bl xs).length : Int) ((2 ^ L - 1 : Nat) : Int) (L : Int) wr HS2.out.1 (by omega) (by omega) (by omega) (by omega) (by rw [Int.toNat_natCast, pow_int]; omega) (by omega) (by rw [HOL.out]; omega) (by omega)
      rw [← ones_val L (by omega)] at hLAY
      have HLAY := Lib.hid hLAY
      have HFIN : Hid (∀ ys, IsLaid o ((bl xs).length : Int).toNat (wrap64 (wrap64 (2 ^ L) - 1)).toNat (L : Int).toNat ys → IsPut (bl xs) ys) := Lib.hid (fun ys hy => by
        rw [ones_val L (by omega)] at hy
        simp only [Int.toNat_natCast] at hy
        exact HSF.out.fin (by omega) hy)
      rw [ht]
      clear hLAY ht hL hpL hp0
      generalize (bl xs).length = U at hL2 HLAY HFIN hle ⊢
      go_wp2_with (go_at_call 34; (with_reducible refine HLAY.out.mono ?_); rintro e w2 ⟨v2, ys, rfl, hl2, ho2, hb2⟩; obtain ⟨A3, c3, rfl, hh3⟩ := ho2.handS (n := ys.length) rfl; have HH3 := Lib.hid hh3; have HLL := Lib.hid hl2; have HB2 := Lib.hid hb2; clear hl2 ho2 hb2 hh3)
      go_ret
      exact ⟨A3, ys.length, c3, ys, rfl, HFIN.out ys HLL.out, ⟨HH3.out.1, FreshS.less HH3.out.2.1 HB.out.size, HH3.out.2.2⟩, HB.out.trans (HB2.out.mono HB.out.size)⟩
set_option maxRecDepth 100000 in
set_option maxHeartbeats 2000000 in
theorem r_take (A : Option Addr) (n c : Nat) (xs : List UInt8) (w : World) (hA : Bs w w.heap.size A n xs) (hn : n ≤ 10000) :
    Calls Tryd.prog 14 #[.slice A n c] w fun e w' => ∃ A' m c', e = .returned (.tuple #[.slice A' m c', .int .i64 (takeE xs)]) ∧ HandS w' w.heap.size A' m c' (takeL xs) ∧ Below w.heap.size w w' := by
  have HA := Lib.hid hA
  have HLEN := Lib.hid hA.1
  obtain ⟨i0, hi, hz0, hz1, hz2⟩ := info_parts info_ru8
  have hinf := Lib.hid (And.intro hi (And.intro hz0 (And.intro hz1 hz2)))
  clear hA hi hz0 hz1 hz2
  go_enter Tryd.func14, Tryd.ntmps14
  go_wp2
  go_loopw [4, 5] (fun s t wr => ∃ (b : List UInt8) (a : Nat) (A1 : Option Addr) (c1 : Nat), t = .int .i64 (a : Int) ∧ s = .slice A1 b.length c1 ∧ a ≤ 8 * n ∧ OwnB wr w.heap.size 5 (.slice A1 b.length c1) b ∧ Hf.Run xs b a ∧ Below w.heap.size w wr) (fun _ t _ => 8 * n - (intOf t).toNat)
  case atStart => exact ⟨[], 0, none, 0, rfl, rfl, Nat.zero_le _, OwnB.nil_ _ _ _, Hf.Run.nil xs, Below.refl _ _⟩
  case round =>
    obtain ⟨b, a, A1, c1, rfl, rfl, ha, hown, hrun, hbel⟩ := hrel
    have HO := Lib.hid hown
    have HRUN := Lib.hid hrun
    have HB := Lib.hid hbel
    have hbl := bl_le b
    have hrl := hrun.len
    have hr5 : 5 * b.length ≤ a := run_len5 hrun
    have HNX := Lib.hid (r_next A n c a xs wr (HA.out.on hbel) hn ha)
    clear hown hrun hbel hbl hrl
    have hle := next_le xs a
    have hST := fun h => HRUN.out.step h
    have hND : (nextN xs a).2 ≠ 0 → (nextN xs a).2 = mny (nextN xs a).1 ∧ a + (nextN xs a).2 ≤ 8 * xs.length := fun h => ⟨(next_some h).1, (next_some h).2.1⟩
    have hZ : (nextN xs a).2 = 0 → (nextN xs a).1 = 0 := fun h => by rw [(next_zero h).1]
    have hEN : (nextN xs a).2 = 0 → b = allL xs ∧ a = allA xs := fun h => Hf.Ends.one ⟨HRUN.out, h⟩ (all_ends xs)
    generalize nextN xs a = x at *
    obtain ⟨d, m⟩ := x
    simp only at *
    by_cases hm0 : m = 0
    · subst hm0
      have hd0 := hZ rfl
      subst hd0
      obtain ⟨e1, e2⟩ := hEN rfl
      have HNX0 : Hid (Calls Tryd.prog 31 #[.slice A n c, .int .i64 (a : Int)] wr fun e w' => e = .returned (.tuple #[.int .u8 0, .int .i64 0]) ∧ Below wr.heap.size wr w') := Lib.hid HNX.out
      obtain ⟨L, hL⟩ : ∃ L : Nat, a + L = 8 * n := ⟨8 * n - a, by omega⟩
      have hL2 : (8 : Int) * (n : Int) - (a : Int) = (L : Int) := by omega
      have hf : fillB xs (allA xs) = decide (L ≤ 7 ∧ codeOf xs a L = 2 ^ L - 1) := by
        unfold fillB
        rw [← e2, show 8 * xs.length - a = L by rw [HLEN.out]; omega]
      have HE1 := Lib.hid e1
      by_cases h7 : L ≤ 7
      · have h1 : (2 : Nat) ^ L ≤ 2 ^ 7 := Nat.pow_le_pow_right (by decide) h7
        have HY : Hid (∀ W, Below w.heap.size w W → Calls Tryd.prog 23 #[.slice A n c, .int .i64 (a : Int), .int .i64 (L : Int)] W fun e w' => e = .returned (.tuple #[.int .i64 (codeOf xs a L : Int), .bool true]) ∧ W = w') := Lib.hid fun W hW => by
          have h := rbits_yes A _ n c xs (a : Int) (L : Int) W (HA.out.on hW) (by omega) (by omega) (by omega) (by omega) (by omega)
          simpa using h
        have hcl := codeOf_lt xs a L
        generalize codeOf xs a L = C at *
        by_cases he : C = 2 ^ L - 1
        · have hfb : fillB xs (allA xs) = true := by rw [hf]; exact decide_eq_true ⟨h7, he⟩
          have HT3 := Lib.hid (show takeE xs = 0 ∧ takeL xs = allL xs by unfold takeE takeL; rw [if_pos hfb, if_pos hfb]; exact ⟨rfl, rfl⟩)
          have hq : ((C : Int) != wrap64 (wrap64 (2 ^ L) - 1)) = false := by rw [ones_val L (by omega), he]; simp
          clear hST hND hZ hEN hf e1 e2 hL hcl he h1 hfb hle hr5
          go_wp2_with (first
            | (go_at_call 31; (with_reducible refine HNX0.out.mono ?_); rintro e w2 ⟨rfl, hb2⟩; have HB2 := Lib.hid (HB.out.trans (hb2.mono HB.out.size)); have HO2 := Lib.hid (HO.out.kept hb2); clear hb2)
            | (go_at_call 23; (with_reducible refine (HY.out w2 HB2.out).mono ?_); rintro e w3 ⟨rfl, rfl⟩))
          obtain ⟨A6, c6, e6, hh6⟩ := HO2.out.handS (n := b.length) rfl
          go_ret2
          exact ⟨A6, b.length, c6, by rw [HT3.out.1, ← e6]; rfl, by rw [HT3.out.2, ← HE1.out]; exact hh6, HB2.out⟩
        · have hfb : fillB xs (allA xs) = false := by rw [hf]; exact decide_eq_false (by rintro ⟨_, h⟩; exact he h)
          have HT3 := Lib.hid (show takeE xs = 70 ∧ takeL xs = [] by unfold takeE takeL; rw [hfb]; exact ⟨rfl, rfl⟩)
          have hq : ((C : Int) != wrap64 (wrap64 (2 ^ L) - 1)) = true := by rw [ones_val L (by omega)]; simp; omega
          clear hST hND hZ hEN hf e1 e2 hL hcl he h1 hfb hle hr5
          go_wp2_with (first
            | (go_at_call 31; (with_reducible refine HNX0.out.mono ?_); rintro e w2 ⟨rfl, hb2⟩; have HB2 := Lib.hid (HB.out.trans (hb2.mono HB.out.size)); clear hb2)
            | (go_at_call 23; (with_reducible refine (HY.out w2 HB2.out).mono ?_); rintro e w3 ⟨rfl, rfl⟩))
          go_ret2
          exact ⟨none, 0, 0, by rw [HT3.out.1]; rfl, by rw [HT3.out.2]; exact HandS.nil_ _ _, HB2.out⟩
      · have hfb : fillB xs (allA xs) = false := by rw [hf]; exact decide_eq_false (by rintro ⟨h, _⟩; exact h7 h)
        have HT3 := Lib.hid (show takeE xs = 70 ∧ takeL xs = [] by unfold takeE takeL; rw [hfb]; exact ⟨rfl, rfl⟩)
        clear hST hND hZ hEN hf e1 e2 hL hfb hle hr5
        go_wp2_with (go_at_call 31; (with_reducible refine HNX0.out.mono ?_); rintro e w2 ⟨rfl, hb2⟩; have HB2 := Lib.hid (HB.out.trans (hb2.mono HB.out.size)); clear hb2)
        go_ret2
        exact ⟨none, 0, 0, by rw [HT3.out.1]; rfl, by rw [HT3.out.2]; exact HandS.nil_ _ _, HB2.out⟩
    · obtain ⟨hmd, hle2⟩ := hND hm0
      subst hmd
      rw [HLEN.out] at hle2
      have HST := Lib.hid (hST hm0)
      have hmb := mny_bd d
      have hq : ((mny d : Int) == 0) = false := by simp; omega
      clear hST hND hZ hEN hle hm0
      go_wp2_with (first
        | (go_at_call 31; (with_reducible refine HNX.out.mono ?_); rintro e w2 ⟨rfl, hb2⟩; have HB2 := Lib.hid (HB.out.trans (hb2.mono HB.out.size)); have HO2 := Lib.hid ((HO.out.kept hb2).alloc (.cells #[.int .u8 (d.toNat : Int)] 5)); have hz2 : w.heap.size ≤ w2.heap.size := HB2.out.size; have HX := Lib.hid (bs_lit w2 5 [d] #[.int .u8 (d.toNat : Int)] w2.heap.size rfl (by simp [bv])); clear hb2)
        | (at_builtin; refine wpList_append_bytes _ rfl (.tmp 19) (.tmp 21) 22 rfl w.heap.size 5 i0 Tryd.underlying22 hinf.out.1 hinf.out.2.1 hinf.out.2.2.1 hinf.out.2.2.2 _ b rfl HO2.out _ (some ⟨w2.heap.size, 0, none⟩) 1 1 [d] rfl HX.out (fun h => by cases h) (by omega) (by simp; omega) ?_; intro v4 w4 hown4 hb4; obtain ⟨A6, c6, rfl, hh6⟩ := hown4.handS (n := (b ++ [d]).length) rfl; have HO4 := Lib.hid hown4; have HB4 := Lib.hid ((HB2.out.alloc hz2 _).trans hb4); clear hown4 hb4 hh6))
      go_roundw
      case rel => exact ⟨b ++ [d], a + mny d, A6, c6, by go_num, by simp, hle2, HO4.out, HST.out, HB4.out⟩
      case measure => simp [intOf]; omega
end Go.Proofs.YtfjmgfahlicleaaDoor
