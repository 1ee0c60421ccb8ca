/- The walk of HuffMore. -/
import Derived.Test.YtfjmgfahlicleaaDoorHfW
namespace Go.Proofs.YtfjmgfahlicleaaDoor
open Go.RowKit Hf Oct
set_option linter.unusedVariables false
set_option linter.unusedSimpArgs false
set_option maxHeartbeats 1000000 in
theorem lm_great (A : Option Addr) (n cc : Nat) (w : World) (hR : Rws w) (h : 200 < n) (hm : n ≤ maxLen) :
    Calls Tryd.prog 7 #[.slice A n cc] w fun e w' => e = .returned (.bool true) ∧ Below w.heap.size w w' := by
  unfold maxLen at hm
  have HW := Lib.hid (wakes7 w hR)
  clear hR
  go_enter Tryd.func7, Tryd.ntmps7
  go_wp2_with (go_at_call 8; (with_reducible refine HW.out.mono ?_); rintro e w1 ⟨rfl, hb1⟩; have HB1 := Lib.hid hb1; clear hb1)
  go_ret
  exact ⟨rfl, HB1.out⟩
set_option maxRecDepth 100000 in
set_option maxHeartbeats 4000000 in
theorem lm_main (A : Option Addr) (n cc : Nat) (xs : List UInt8) (w : World) (hR : Rws w) (hA : Bs w w.heap.size A n xs) (hn : n ≤ 200) :
    Calls Tryd.prog 7 #[.slice A n cc] w fun e w' => e = .returned (.bool true) ∧ Below w.heap.size w w' := by
  obtain ⟨i0, hi, hz0, hz1, hz2⟩ := info_parts info_hu8
  have hinf := Lib.hid (And.intro hi (And.intro hz0 (And.intro hz1 hz2)))
  clear hi hz0 hz1 hz2
  have hxl := hA.1
  have HL0 := Lib.hid (OwnB.lit w 5 w.heap.size (Nat.le_refl _))
  have hb0 : Below w.heap.size w (w.alloc (.cells #[] 5)) := (Below.refl _ w).alloc (Nat.le_refl _) _
  have hbl := bl_le xs
  have HPUT := Lib.hid (h_put A n cc xs (w.alloc (.cells #[] 5)) (hR.on hb0) (hA.on hb0) (by omega))
  have HB0 := Lib.hid hb0
  have HR := Lib.hid hR
  clear hR hA hb0
  go_enter Tryd.func7, Tryd.ntmps7
  go_wp2_with (first
    | (go_at_call 18; (with_reducible refine HPUT.out.mono ?_); rintro e w1 ⟨A1, m1, c1, ys, rfl, hp, hh, hb⟩; have HP := Lib.hid hp; have HH := Lib.hid hh; have HB1 := Lib.hid hb; have HO1 := Lib.hid (HL0.out.kept hb); have hm1 : ys.length = m1 := hh.1.1; have hpl := hp.1; have hz1 : w.heap.size + 1 ≤ w1.heap.size := (by have := hb.size; simp at this; omega); clear hp hh hb)
    | (at_builtin; refine wpList_append_bytes _ rfl (.tmp 10) (.tmp 12) 22 rfl w.heap.size 5 i0 Tryd.underlying22 hinf.out.1 hinf.out.2.1 hinf.out.2.2.1 hinf.out.2.2.2 _ [] rfl HO1.out _ A1 m1 c1 ys rfl HH.out.1 HH.out.2.2.2 (by simp; omega) (by omega) ?_; intro v2 w2 hown2 hb2; obtain ⟨A2, c2, rfl, hh2⟩ := hown2.handS (n := m1) (by simpa using hm1); have HO2 := Lib.hid (hown2.alloc (.cells #[.int .u8 255] 5)); have HB2 := Lib.hid (((HB0.out.trans (HB1.out.mono (by simp))).trans hb2)); have hz2 : w.heap.size ≤ w2.heap.size := HB2.out.size; have HX := Lib.hid (bs_lit w2 5 [255] #[.int .u8 255] w2.heap.size rfl (by simp [bv])); clear hown2 hb2 hh2)
    | (at_builtin; refine wpList_append_bytes _ rfl (.tmp 13) (.tmp 14) 22 rfl w.heap.size 5 i0 Tryd.underlying22 hinf.out.1 hinf.out.2.1 hinf.out.2.2.1 hinf.out.2.2.2 _ ([] ++ ys) rfl HO2.out _ (some ⟨w2.heap.size, 0, none⟩) 1 1 [255] rfl HX.out (fun h => by cases h) (by simp; omega) (by simp; omega) ?_; intro v3 w3 hown3 hb3; obtain ⟨A3, c3, rfl, hh3⟩ := hown3.handS (n := m1 + 1) (by simp; omega); have HB3 := Lib.hid ((HB2.out.alloc hz2 _).trans hb3); have HT := Lib.hid (h_take A3 (m1 + 1) c3 ([] ++ ys ++ [255]) w3 (HR.out.on HB3.out) hh3.1 (by omega)); clear hown3 hb3 hh3)
    | (go_at_call 13; (with_reducible refine HT.out.mono ?_); rintro e w4 ⟨A4, m4, c4, rfl, hh4, hb4⟩; have hq : takeE ([] ++ ys ++ [255]) = 70 ∧ takeL ([] ++ ys ++ [255]) = [] := (by rw [List.nil_append]; exact take_more HP.out); rw [hq.1]; have hm4 := hh4.1.1; rw [hq.2] at hm4; have hm40 : m4 = 0 := (by simpa using hm4.symm); subst hm40; have HB4 := Lib.hid (HB3.out.trans (hb4.mono HB3.out.size)); clear hh4 hb4 hq hm4)
    | (go_at_call 8; (with_reducible refine (wakes7 w4 (HR.out.on HB4.out)).mono ?_); rintro e w5 ⟨rfl, hb5⟩; have HB5 := Lib.hid (HB4.out.trans (hb5.mono HB4.out.size)); clear hb5))
  go_ret
  exact ⟨rfl, HB5.out⟩
end Go.Proofs.YtfjmgfahlicleaaDoor
