/- head.read: the head of the first nine bytes. -/
import Derived.Test.YtjoopekgbfplpaaHdA
import Derived.Test.YtjoopekgbfplpaaGFour
import Derived.Deep.RegionLaw
import Derived.Deep.RegionWith
import Derived.BigRegion
namespace Go.Proofs.Ytjoopekgbfplpaa
open Go.RowKit Oct

def hL (xs : List UInt8) : Nat := takeB (xs.take 3)
def hK (xs : List UInt8) : Nat := (xs[3]?.getD 0).toNat
def hF (xs : List UInt8) : Nat := (xs[4]?.getD 0).toNat
def hS (xs : List UInt8) : Nat := takeB ((xs.drop 5).take 4) % 2147483648
theorem hL_lt (xs : List UInt8) : hL xs < 16777216 := by
  have h1 := takeB_lt (xs.take 3)
  have h2 : (xs.take 3).length ≤ 3 := List.length_take_le _ _
  have h3 : 256 ^ (xs.take 3).length ≤ 256 ^ 3 := Nat.pow_le_pow_right (by decide) h2
  unfold hL
  omega
theorem hS_lt (xs : List UInt8) : hS xs < 2147483648 := Nat.mod_lt _ (by decide)
theorem hL_eq (xs : List UInt8) : takeB (List.take (3 : Int).toNat (List.drop (0 : Int).toNat xs)) = hL xs := rfl
theorem hS_eq (xs : List UInt8) : takeB (List.take 4 (List.drop (5 : Int).toNat xs)) % 2147483648 = hS xs := rfl

theorem read_any (A : Option Addr) (B n c : Nat) (xs : List UInt8) (w : World) (hA : Bs w B A n xs) (h9 : 9 ≤ n) (hn : n ≤ 1000000) (hnc : n ≤ c) (hB : B ≤ w.heap.size) :
    Calls Try.prog 31 #[.slice A n c] w fun e w' => e = .returned (.agg #[.int .i64 (hL xs), .int .u8 (hK xs), .int .u8 (hF xs), .int .i64 (hS xs)]) ∧ Below w.heap.size w w' := by
  obtain ⟨b, o, rfl, hb, hc⟩ := hA.2 (by omega)
  have HA := Lib.hid hA
  have h3 := hc 3 (by omega)
  have h4 := hc 4 (by omega)
  have hK' : Hid (((xs[3]?.getD 0).toNat : Int) = hK xs) := Lib.hid rfl
  have hF' : Hid (((xs[4]?.getD 0).toNat : Int) = hF xs) := Lib.hid rfl
  rw [hK'.out] at h3
  rw [hF'.out] at h4
  clear hc hA hK' hF'
  have hbl : b < w.heap.size := by omega
  go_enter Try.func31, Try.ntmps31
  go_wp2_with (first
    | (go_at_call 33; refine (take_ok _ B n c xs 0 3 _ (HA.out.alloc hB _) (by omega) (by omega) (by omega) (by omega) hn hnc).mono ?_; rintro e w' ⟨rfl, rfl⟩; rw [hL_eq])
    | (go_at_call 34; refine (stream_ok _ B n c xs 5 _ (HA.out.alloc hB _) (by omega) (by omega) hn hnc).mono ?_; rintro e w' ⟨rfl, rfl⟩; rw [hS_eq]))
  go_region
  go_wp2
  refine bodyPost_ret (v := .agg #[.int .i64 (hL xs), .int .u8 (hK xs), .int .u8 (hF xs), .int .i64 (hS xs)]) (by simp [results, Try.results31, go_sem]) rfl ⟨rfl, ?_⟩
  exact ((Below.refl _ _).alloc (Nat.le_refl _) _).drew
theorem htake_no (A : Option Addr) (n c : Nat) (w : World) (h9 : n < 9) :
    Calls Try.prog 30 #[.slice A n c] w fun e w' => e = .returned (.tuple #[.agg #[.int .i64 0, .int .u8 0, .int .u8 0, .int .i64 0], .slice none 0 0, .int .i64 10]) ∧ Below w.heap.size w w' := by
  go_enter Try.func30, Try.ntmps30
  go_wp2
  refine wp_scope_forward 0 rfl ?_
  go_wp2
  go_step3
  refine ⟨rfl, ?_⟩
  go_wp2
  rw [jump_ret]
  refine bodyPost_ret (v := .tuple #[.agg #[.int .i64 0, .int .u8 0, .int .u8 0, .int .i64 0], .slice none 0 0, .int .i64 10]) (by simp [results, Try.results30, go_sem]) rfl ⟨rfl, ?_⟩
  exact (Below.refl _ _).alloc (Nat.le_refl _) _
theorem htake_yes (A : Option Addr) (B n c : Nat) (xs : List UInt8) (w : World) (hA : Bs w B A n xs) (hAc : A = none → c = 0) (h9 : 9 ≤ n) (hn : n ≤ 1000000) (hnc : n ≤ c) (hB : B ≤ w.heap.size) :
    Calls Try.prog 30 #[.slice A n c] w fun e w' => ∃ v, e = .returned (.tuple #[.agg #[.int .i64 (hL xs), .int .u8 (hK xs), .int .u8 (hF xs), .int .i64 (hS xs)], v, .int .i64 0]) ∧ OwnB w' w.heap.size 5 v (xs.drop 9) ∧ Below w.heap.size w w' := by
  obtain ⟨b, o, rfl, hb, hc⟩ := hA.2 (by omega)
  have HA := Lib.hid hA
  have hD := hA.drop h9
  have HD := Lib.hid hD
  clear hc hA hAc hD
  have hE : ∀ W : World, n = 9 → Bs W B (some ⟨b, o, none⟩) 0 (xs.drop 9) := fun W h => by
    have h1 : xs.drop 9 = [] := List.drop_eq_nil_of_le (by rw [HA.out.1]; omega)
    rw [h1]
    exact Bs.empty _ _ _
  have HE := Lib.hid hE
  clear hE
  by_cases hc9 : 9 < c
  rotate_left
  obtain rfl : c = 9 := by omega
  obtain rfl : n = 9 := by omega
  clear hc9
  all_goals
    go_enter Try.func30, Try.ntmps30
    go_wp2
    refine wp_scope_forward 0 rfl ?_
    go_wp2
    go_region_with (first
      | (go_at_call 31; refine (read_any _ B _ _ xs _ (HA.out.alloc hB _).drew h9 hn hnc ?_).mono ?_; (simp; omega); rintro e w1 ⟨rfl, hb1⟩)
      | (go_at_call 32; refine (own_any _ B _ _ (xs.drop 9) _ ?_ ?_ ?_).mono ?_; (first | exact (HD.out.alloc hB _).drew.below (hb1.mono (by simp; omega)) | exact HE.out _ trivial); (intro h; cases h); omega; rintro e w2 ⟨v2, rfl, hown2, hb2⟩; have HO2 := Lib.hid hown2; clear hown2; have hb3 := hb1.trans (hb2.mono hb1.size); obtain ⟨hcc, hff⟩ := bcell hb3))
    go_wp2
    rw [jump_ret]
    have hF4 : Four w2 w.heap.size (.int .i64 0) (.int .u8 0) (.int .u8 0) (.int .i64 0) := (show Four (w.alloc _).drew _ _ _ _ _ from Four.new w 38 _ _ _ _).below hb3 (by simp)
    have hbel := set4_below (((Below.refl _ w).alloc (Nat.le_refl _) _).drew.trans (hb3.mono (by simp))) (Nat.le_refl _) (.int .i64 (hL xs)) (.int .u8 (hK xs)) (.int .u8 (hF xs)) (.int .i64 (hS xs))
    have hown : OwnB (set4 w2 w.heap.size (.int .i64 (hL xs)) (.int .u8 (hK xs)) (.int .u8 (hF xs)) (.int .i64 (hS xs))) w.heap.size 5 v2 (xs.drop 9) :=
      (HO2.out.above fun k hk => set4_heap _ _ _ _ _ _ _ (by have := hb1.size; simp at this; omega)).less (by have := hb1.size; simp at this; omega)
    have hfs := hF4.set (.int .i64 (hL xs)) (.int .u8 (hK xs)) (.int .u8 (hF xs)) (.int .i64 (hS xs))
    obtain ⟨f0, f1, f2, f3⟩ := hfs
    unfold set4 at f0 f1 f2 f3
    refine bodyPost_ret (v := .tuple #[.agg #[.int .i64 (hL xs), .int .u8 (hK xs), .int .u8 (hF xs), .int .i64 (hS xs)], v2, .int .i64 0]) (by simp [results, Try.results30, go_sem, f0, f1, f2, f3]) rfl ⟨v2, rfl, hown, hbel⟩
end Go.Proofs.Ytjoopekgbfplpaa
