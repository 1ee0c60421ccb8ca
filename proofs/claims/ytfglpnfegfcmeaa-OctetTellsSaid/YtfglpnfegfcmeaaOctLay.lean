/- octet.layer and the function that it makes: one bit more laid. -/
import Derived.RegionTactic
import Derived.BigRegion
import Derived.ChangeAlike
import Derived.Test.YtfglpnfegfcmeaaOctRow
import Derived.Test.YtfglpnfegfcmeaaOctPlain2
import Derived.Test.YtfglpnfegfcmeaaOctBits
namespace Go.Proofs.Ytfglpnfegfcmeaa
open Go.RowKit Oct
attribute [local go_sem] i64_and1 i64_and7 i64_and31

theorem u8_or_laid (y : UInt8) (x u : Nat) (hx : x < 2) : bits .or .u8 (y.toNat : Int) ((x : Int) * 2 ^ (7 - u % 8) % 256) = ((orB y x (7 - u % 8)).toNat : Int) := by
  have h1 : ((x : Int) * 2 ^ (7 - u % 8) % 256) = ((x * 2 ^ (7 - u % 8) : Nat) : Int) := by
    have h2 : x * 2 ^ (7 - u % 8) < 256 := by
      have h3 : 2 ^ (7 - u % 8) ≤ 2 ^ 7 := Nat.pow_le_pow_right (by decide) (by omega)
      have h4 : x * 2 ^ (7 - u % 8) ≤ 1 * 2 ^ (7 - u % 8) := Nat.mul_le_mul_right _ (by omega)
      omega
    have h5 : ((x : Int) * 2 ^ (7 - u % 8)) = ((x * 2 ^ (7 - u % 8) : Nat) : Int) := by simp
    rw [h5]
    omega
  have hlt : x * 2 ^ (7 - u % 8) < 256 := by
    have h3 : 2 ^ (7 - u % 8) ≤ 2 ^ 7 := Nat.pow_le_pow_right (by decide) (by omega)
    have h4 : x * 2 ^ (7 - u % 8) ≤ 1 * 2 ^ (7 - u % 8) := Nat.mul_le_mul_right _ (by omega)
    omega
  rw [h1, u8_or_nat _ _ y.toNat_lt hlt, orB_toNat _ _ _ hx (by omega)]
theorem layer1_any (g ho hu u n c : Nat) (x : Nat) (ys : List UInt8) (w : World) (hr : RowB w g 5 ys) (hlt : u / 8 < n) (hx : x < 2) (y : UInt8) (hy : ys[u / 8]? = some y)
    (hu1 : u ≤ 10000000) (hgu : g ≠ hu)
    (hco : w.cell? ⟨ho, 0, none⟩ = some (.slice (some ⟨g, 0, none⟩) n c)) (hcu : w.cell? ⟨hu, 0, none⟩ = some (.int .i64 u)) (hfu : w.frozen? ⟨hu, 0, none⟩ = false) :
    Calls Try.prog 34 #[.int .i64 x, .pointer (some ⟨ho, 0, none⟩), .pointer (some ⟨hu, 0, none⟩)] w fun e w' => e = .returned (.tuple #[]) ∧
      RowB w' g 5 (ys.set (u / 8) (orB y x (7 - u % 8))) ∧ w'.cell? ⟨hu, 0, none⟩ = some (.int .i64 ((u + 1 : Nat) : Int)) ∧ w'.frozen? ⟨hu, 0, none⟩ = false ∧ Turn (fun k => k = g ∨ k = hu) w w' := by
  have hcell := hr.cell hy
  have hfr := hr.frozen (u / 8)
  have HR := Lib.hid hr
  clear hr hy
  have hs : 0 ≤ 7 - (u : Int) % 8 := by omega
  have HO := u8_or_laid y x u hx
  go_enter Try.func34, Try.ntmps34
  go_wp2
  go_region
  go_wp2
  go_end0
  refine ⟨rfl, ?_, ?_, ?_, ?_⟩
  · exact (HR.out.set_ (u / 8) _).same (Below.heap_setCell _ _ _ _ hgu)
  · refine (World.cell?_setCell_same' _ _ _ ?_).trans (by go_num)
    rw [World.cell?_setCell_other _ _ _ _ (by simp only [ne_eq, Addr.mk.injEq]; omega), hcu]
    rfl
  · simp only [World.frozen?_setCell, frozen_drew_own]; exact hfu
  · exact (((Turn.refl _ w).setCell (x := ⟨g, u / 8, none⟩) (Or.inl rfl) _).setCell (x := ⟨hu, 0, none⟩) (Or.inr rfl) _).drew

theorem u8_and_masked (y : UInt8) (s : Nat) : bits .and .u8 (y.toNat : Int) (255 * 2 ^ (8 - s) % 256) = ((maskB y s).toNat : Int) := by
  have h1 : ((255 : Int) * 2 ^ (8 - s) % 256) = ((255 * 2 ^ (8 - s) % 256 : Nat) : Int) := by simp
  rw [h1, u8_and_nat _ _ y.toNat_lt (Nat.mod_lt _ (by decide)), maskB_toNat]

/-- What lies behind a call of layer: the row, and two boxes. -/
structure Layered (w w' : World) (g n c u : Nat) (ys : List UInt8) : Prop where
  row : RowB w' g 5 ys
  boxO : w'.cell? ⟨w.heap.size, 0, none⟩ = some (.slice (some ⟨g, 0, none⟩) n c)
  boxU : w'.cell? ⟨w.heap.size + 1, 0, none⟩ = some (.int .i64 (u : Int))
  free : w'.frozen? ⟨w.heap.size + 1, 0, none⟩ = false
  size : w'.heap.size = w.heap.size + 2
  turn : Turn (fun k => k = g) w w'
theorem layered_of {w w1 : World} {g n c u : Nat} {ys : List UInt8} (hr : RowB w1 g 5 ys) (hz : w1.heap.size = w.heap.size) (ht : Turn (fun k => k = g) w w1) :
    Layered w (((w1.alloc (.cells #[.slice (some ⟨g, 0, none⟩) n c] 22)).alloc (.cells #[.int .i64 u] 3))) g n c u ys := by
  have hlt := hr.lt
  refine ⟨?_, ?_, ?_, ?_, by simp [hz], (ht.alloc _).alloc _⟩
  · exact (hr.same (Below.heap_alloc w1 _ g hlt)).same (Below.heap_alloc _ _ g (by simp; omega))
  · rw [← hz]; simp [go_sem]
  · rw [← hz]; simp [go_sem]
  · rw [← hz]; simp [go_sem]
theorem layer_zero (g u n c : Nat) (w : World) (hs : u % 8 = 0) (ys : List UInt8) (hr : RowB w g 5 ys) :
    Calls Try.prog 30 #[.slice (some ⟨g, 0, none⟩) n c, .int .i64 u] w fun e w' => e = .returned (.func (.func 34) #[] #[.pointer (some ⟨w.heap.size, 0, none⟩), .pointer (some ⟨w.heap.size + 1, 0, none⟩)]) ∧
      Layered w w' g n c u ys := by
  have d0 : ((u : Int) % 8 != 0) = false := by simp; omega
  have HL := Lib.hid (layered_of (n := n) (c := c) (u := u) hr rfl (Turn.refl _ w))
  clear hr
  go_enter Try.func30, Try.ntmps30
  go_wp2
  go_ret
  exact ⟨rfl, HL.out⟩
theorem layer_mask (g u n c : Nat) (w : World) (hu1 : u ≤ 10000000) (hs : u % 8 ≠ 0) (y : UInt8) (ys : List UInt8) (hr : RowB w g 5 ys) (hlt : u / 8 < n) (hy : ys[u / 8]? = some y) :
    Calls Try.prog 30 #[.slice (some ⟨g, 0, none⟩) n c, .int .i64 u] w fun e w' => e = .returned (.func (.func 34) #[] #[.pointer (some ⟨w.heap.size, 0, none⟩), .pointer (some ⟨w.heap.size + 1, 0, none⟩)]) ∧
      Layered w w' g n c u (ys.set (u / 8) (maskB y (u % 8))) := by
  have d0 : ((u : Int) % 8 != 0) = true := by simp; omega
  have hg := hr.lt
  have hcell := hr.cell hy
  have hfr := hr.frozen (u / 8)
  have HL := Lib.hid (layered_of (n := n) (c := c) (u := u) (hr.set_ (u / 8) (maskB y (u % 8))) (by simp [World.setCell]) ((Turn.refl (fun k => k = g) w).setCell (x := ⟨g, u / 8, none⟩) rfl _))
  clear hr hy
  have hs1 : 0 ≤ 8 - (u : Int) % 8 := by omega
  have HM := u8_and_masked y (u % 8)
  go_enter Try.func30, Try.ntmps30
  go_wp2
  go_region
  go_wp2
  go_ret
  have h := HL.out
  exact ⟨rfl, h.row, h.boxO, h.boxU, h.free, h.size, h.turn.drew⟩
/-- Behind a copy: what is spare is cut off, then it may be laid on. -/
theorem layer_any (g used n c L : Nat) (xs : List UInt8) (w : World) (hr : RowB w g 5 (xs ++ List.replicate (L - xs.length) 0)) (hu1 : used ≤ 8 * xs.length) (hu2 : xs.length ≤ (used + 7) / 8) (hL : xs.length ≤ L) (hn : L ≤ 1000010) (hLn : L = n) :
    Calls Try.prog 30 #[.slice (some ⟨g, 0, none⟩) n c, .int .i64 used] w fun e w' => e = .returned (.func (.func 34) #[] #[.pointer (some ⟨w.heap.size, 0, none⟩), .pointer (some ⟨w.heap.size + 1, 0, none⟩)]) ∧
      ∃ ys, Laying xs used L [] ys ∧ Layered w w' g n c used ys := by
  by_cases hs : used % 8 = 0
  · refine (layer_zero g used n c w hs _ hr).mono fun e w' ⟨he, hl⟩ => ⟨he, _, laying_copy (by omega) hL, hl⟩
  · have hq : used / 8 < (xs ++ List.replicate (L - xs.length) (0 : UInt8)).length := by simp; omega
    have hy := List.getElem?_eq_getElem hq
    refine (layer_mask g used n c w (by omega) hs _ _ hr (by omega) hy).mono fun e w' ⟨he, hl⟩ => ⟨he, _, laying_mask hs hu1 hu2 hL hy, hl⟩
end Go.Proofs.Ytfglpnfegfcmeaa
