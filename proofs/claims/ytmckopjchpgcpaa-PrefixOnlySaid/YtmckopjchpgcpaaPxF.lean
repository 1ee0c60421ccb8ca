/- Package prefix: Take. -/
import Derived.Test.YtmckopjchpgcpaaPxE
import Derived.StillTailTactics
import Derived.Deep.RegionHeld3
namespace Go.Proofs.Ytmckopjchpgcpaa
open Go.RowKit Px Go.Shelf
set_option linter.unusedVariables false
set_option linter.unusedSimpArgs false
attribute [local go_sem] Oper.semAt_some
namespace Px
/-- What stands behind a number. -/
def takeR (xs : List UInt8) (k : Nat) : List UInt8 := if (takeN xs k).1 = 0 then xs.drop (takeN xs k).2.2 else []
theorem u8_and_nat (a b : Nat) (ha : a < 256) (hb : b < 256) : bits .and .u8 (a : Int) (b : Int) = ((a &&& b : Nat) : Int) := by
  have h1 : (BitVec.ofInt 8 (a : Int)).toNat = a := by
    rw [BitVec.ofInt_natCast, BitVec.toNat_ofNat]; exact Nat.mod_eq_of_lt (by omega)
  have h2 : (BitVec.ofInt 8 (b : Int)).toNat = b := by
    rw [BitVec.ofInt_natCast, BitVec.toNat_ofNat]; exact Nat.mod_eq_of_lt (by omega)
  have hx : a &&& b < 2 ^ 8 := Nat.and_lt_two_pow a hb
  show IntKind.u8.wrap ((BitVec.ofInt 8 (a : Int) &&& BitVec.ofInt 8 (b : Int)).toNat : Int) = _
  rw [BitVec.toNat_and, h1, h2]
  exact IntWalk.u8_in _ (by omega)
theorem and_first (x k : Nat) (hx : x < 256) (hk : k ≤ 8) : bits .and .u8 (x : Int) (mx k : Int) = ((x % 2 ^ k : Nat) : Int) := by
  have h8 := mx_le hk
  rw [u8_and_nat x (mx k) hx (by omega)]
  unfold mx
  rw [Nat.and_two_pow_sub_one_eq_mod]
end Px
/-- Three results, of which the first and the last lie in cells. -/
theorem res_ctc {P : Program} {fn : Func} {p q r : Tmp} {ty tz : TypeId} (h : fn.results = #[.cell p ty, .tmp q, .cell r tz]) (tmps : Array Value) (w : World) (g k : Nat) (t s : TypeId) (u v : Value) (d d' : TypeDesc)
    (hp : tmps.getD p undef = .pointer (some ⟨g, 0, none⟩)) (hg : w.heap[g]? = some (.cells #[u] t)) (hr : tmps.getD r undef = .pointer (some ⟨k, 0, none⟩)) (hk : w.heap[k]? = some (.cells #[v] s))
    (hu : P.underlying ty = some d) (hd : (match d with | .struct _ | .array _ _ => true | _ => false) = false)
    (hu' : P.underlying tz = some d') (hd' : (match d' with | .struct _ | .array _ _ => true | _ => false) = false) :
    (results fn tmps).run P w = .ok (.tuple #[u, tmps.getD q undef, v]) w := by
  have hp' : tmps[p]?.getD undef = .pointer (some ⟨g, 0, none⟩) := by simpa using hp
  have hr' : tmps[r]?.getD undef = .pointer (some ⟨k, 0, none⟩) := by simpa using hr
  simp [results, h, hp', hr', asAddr, run_get w g 0 ty t #[u] u d hg rfl hu hd, run_get w k 0 tz s #[v] v d' hk rfl hu' hd']
namespace Px
/-- Two boxes turn. -/
theorem two_set {w1 : World} {g1 g2 : Nat} {a b : Value} {t1 t2 : TypeId} (h1 : w1.heap[g1]? = some (.cells #[a] t1)) (h2 : w1.heap[g2]? = some (.cells #[b] t2)) (hne : g1 ≠ g2) (u v : Value) :
    ((w1.setCell ⟨g1, 0, none⟩ u).setCell ⟨g2, 0, none⟩ v).heap[g1]? = some (.cells #[u] t1) ∧ ((w1.setCell ⟨g1, 0, none⟩ u).setCell ⟨g2, 0, none⟩ v).heap[g2]? = some (.cells #[v] t2) ∧
      (∀ k, k ≠ g1 → k ≠ g2 → ((w1.setCell ⟨g1, 0, none⟩ u).setCell ⟨g2, 0, none⟩ v).heap[k]? = w1.heap[k]?) ∧ ((w1.setCell ⟨g1, 0, none⟩ u).setCell ⟨g2, 0, none⟩ v).heap.size = w1.heap.size := by
  have h3 : (w1.setCell ⟨g1, 0, none⟩ u).heap[g2]? = some (.cells #[b] t2) := (Below.heap_setCell _ _ _ _ (by simpa using hne.symm)).trans h2
  refine ⟨(Below.heap_setCell _ _ _ _ (by simpa using hne)).trans ((Go.heap_setCell_same w1 g1 0 _ _ _ h1).trans rfl), (Go.heap_setCell_same _ g2 0 _ _ _ h3).trans rfl, fun k k1 k2 => (Below.heap_setCell _ _ _ _ (by simpa using k2)).trans (Below.heap_setCell _ _ _ _ (by simpa using k1)), by simp [World.setCell]⟩
theorem one_set {w1 : World} {g1 : Nat} {a : Value} {t1 : TypeId} (h1 : w1.heap[g1]? = some (.cells #[a] t1)) (u : Value) :
    (w1.setCell ⟨g1, 0, none⟩ u).heap[g1]? = some (.cells #[u] t1) ∧ (∀ k, k ≠ g1 → (w1.setCell ⟨g1, 0, none⟩ u).heap[k]? = w1.heap[k]?) :=
  ⟨(Go.heap_setCell_same w1 g1 0 _ _ _ h1).trans rfl, fun k k1 => Below.heap_setCell _ _ _ _ (by simpa using k1)⟩
theorem handS_sets {w1 W : World} {B n c : Nat} {A : Option Addr} {xs : List UInt8} (h : HandS w1 B A n c xs) (hk : ∀ k, B ≤ k → W.heap[k]? = w1.heap[k]?) (hz : W.heap.size = w1.heap.size) : HandS W B A n c xs := by
  refine ⟨⟨h.1.1, fun hn => ?_⟩, h.2⟩
  obtain ⟨b, o, e, hb, hc⟩ := h.1.2 hn
  exact ⟨b, o, e, by omega, fun j hj => (World.cell?_of_block (hk b (h.2.1 hn b o e))).trans (hc j hj)⟩
theorem handS_less {w1 : World} {B B' n c : Nat} {A : Option Addr} {xs : List UInt8} (h : HandS w1 B A n c xs) (hB : B' ≤ B) : HandS w1 B' A n c xs := ⟨h.1, h.2.1.less hB, h.2.2⟩
end Px
/-- Three boxes, one behind the other. -/
theorem Px.three (w : World) (a b c : Value) (t1 t2 t3 : TypeId) :
    let W := ((w.alloc (.cells #[a] t1)).alloc (.cells #[b] t2)).alloc (.cells #[c] t3)
    W.heap[w.heap.size]? = some (.cells #[a] t1) ∧ W.heap[w.heap.size + 1]? = some (.cells #[b] t2) ∧ W.heap[w.heap.size + 1 + 1]? = some (.cells #[c] t3) ∧ W.heap.size = w.heap.size + 3 ∧ Below w.heap.size w W := by
  refine ⟨(Below.heap_alloc _ _ _ (by simp; omega)).trans ((Below.heap_alloc _ _ _ (by simp)).trans (World.alloc_heap_new _ _)), (Below.heap_alloc _ _ _ (by simp)).trans (by have h := World.alloc_heap_new (w.alloc (.cells #[a] t1)) (.cells #[b] t2); rwa [World.size_alloc] at h), ?_, by simp, (((Below.refl _ w).alloc (Nat.le_refl _) _).alloc (by simp) _).alloc (by simp only [World.size_alloc]; omega) _⟩
  have h := World.alloc_heap_new ((w.alloc (.cells #[a] t1)).alloc (.cells #[b] t2)) (.cells #[c] t3)
  rwa [World.size_alloc, World.size_alloc] at h
set_option maxRecDepth 100000 in
theorem x_take_no (A : Option Addr) (n c : Nat) (k : Int) (w : World) (h : ¬ (1 ≤ k ∧ k ≤ 8)) :
    Calls Try.prog 10 #[.slice A n c, .int .i64 k] w fun e w' => e = .returned (.tuple #[.int .i64 0, .slice none 0 0, .int .i64 2]) ∧ Below w.heap.size w w' := by
  have H3 := Lib.hid (three w (.int .i64 0) (.int .i64 2) (.int .i64 1) 3 24 3)
  go_enter Try.func10, Try.ntmps10
  go_wp2
  refine wp_scope_forward2 0 1 rfl rfl ?_
  go_wp2_with (go_at_call 22; (with_reducible refine (x_begun_no A n c k _ h).mono ?_); rintro e w' ⟨rfl, rfl⟩)
  go_step3
  refine .inl ⟨rfl, ?_⟩
  go_wp2
  refine wp_then_only ?_
  go_region
  all_goals
    go_wp2
    rw [jump_ret]
    exact bodyPost_ret (res_ctc rfl _ _ _ _ _ _ _ _ _ _ rfl H3.out.1 rfl H3.out.2.1 Try.underlying3 rfl Try.underlying24 rfl) rfl ⟨rfl, H3.out.2.2.2.2.drew⟩
set_option maxRecDepth 100000 in
theorem x_take_empty (A : Option Addr) (c : Nat) (k : Int) (w : World) (h : 1 ≤ k ∧ k ≤ 8) :
    Calls Try.prog 10 #[.slice A 0 c, .int .i64 k] w fun e w' => e = .returned (.tuple #[.int .i64 0, .slice none 0 0, .int .i64 10]) ∧ Below w.heap.size w w' := by
  have H3 := Lib.hid (three w (.int .i64 0) (.int .i64 10) (.int .i64 1) 3 24 3)
  go_enter Try.func10, Try.ntmps10
  go_wp2
  refine wp_scope_forward2 0 1 rfl rfl ?_
  go_wp2_with (go_at_call 22; (with_reducible refine (x_begun_yes A 0 c k _ h).mono ?_); rintro e w' ⟨rfl, rfl⟩; rw [if_pos rfl])
  go_step3
  refine .inl ⟨rfl, ?_⟩
  go_wp2
  refine wp_then_only ?_
  go_region
  all_goals
    go_wp2
    rw [jump_ret]
    exact bodyPost_ret (res_ctc rfl _ _ _ _ _ _ _ _ _ _ rfl H3.out.1 rfl H3.out.2.1 Try.underlying3 rfl Try.underlying24 rfl) rfl ⟨rfl, H3.out.2.2.2.2.drew⟩
set_option maxRecDepth 100000 in
set_option maxHeartbeats 1000000 in
theorem x_take_one (A : Option Addr) (n c k : Nat) (x : UInt8) (ys : List UInt8) (w : World) (hA : Bs w w.heap.size A n (x :: ys)) (hnc : n ≤ c) (hn : n ≤ 1000000) (h1 : 1 ≤ k) (h8 : k ≤ 8) (hlt : x.toNat % 2 ^ k < mx k) :
    Calls Try.prog 10 #[.slice A n c, .int .i64 (k : Int)] w fun e w' => ∃ A' c', e = .returned (.tuple #[.int .i64 ((x.toNat % 2 ^ k : Nat) : Int), .slice A' (n - 1) c', .int .i64 0]) ∧ HandS w' w.heap.size A' (n - 1) c' ys ∧ Below w.heap.size w w' := by
  have hl := hA.1
  rw [List.length_cons] at hl
  have hn1 : n ≠ 0 := by omega
  obtain ⟨b, o, rfl, hb, hcc⟩ := bs_cell hA (by omega)
  obtain ⟨x', hx', c0⟩ := hcc 0 (by omega)
  simp only [List.getElem?_cons_zero, Option.some.injEq] at hx'
  subst hx'
  rw [Nat.add_zero] at c0
  have han := and_first x.toNat k x.toNat_lt h8
  have hm8 := mx_le h8
  have hm0 := mx_succ k
  have hN0 := Nat.mod_lt x.toNat (Nat.two_pow_pos k)
  have HF : Hid (∀ w, Calls Try.prog 19 #[.int .i64 (k : Int)] w fun e w' => e = .returned (.int .u8 (mx k : Int)) ∧ w = w') := Lib.hid (fun w => x_full k w h1 h8)
  generalize x.toNat % 2 ^ k = N at *
  generalize mx k = M at *
  have HAN := Lib.hid han
  have HA := Lib.hid hA
  have hwn : IntKind.i64.wrap (N : Int) = (N : Int) := IntWalk.i64_in _ (by omega)
  have hwm : IntKind.i64.wrap (M : Int) = (M : Int) := IntWalk.i64_in _ (by omega)
  have HWN := Lib.hid hwn
  have HWM := Lib.hid hwm
  have d1 : decide ((N : Int) < (M : Int)) = true := decide_eq_true (by omega)
  have D1 := Lib.hid d1
  have H3 := Lib.hid (three w (.int .i64 (N : Int)) (.int .i64 0) (.int .i64 1) 3 24 3)
  have H0 := Lib.hid (three w (.int .i64 0) (.int .i64 0) (.int .i64 1) 3 24 3)
  have c1 : (((w.alloc (.cells #[.int .i64 (0 : Int)] 3)).alloc (.cells #[.int .i64 0] 24)).alloc (.cells #[.int .i64 1] 3)).cell? ⟨b, o, none⟩ = some (.int .u8 (x.toNat : Int)) := (H0.out.2.2.2.2.cell (p := ⟨b, o, none⟩) hb).trans c0
  clear hA hcc han hwn hwm hm0 hN0
  obtain ⟨A2, hA2⟩ : ∃ A2, (if c = 1 then some (⟨b, o, none⟩ : Addr) else some ⟨b, o + 1, none⟩) = A2 := ⟨_, rfl⟩
  have HA2 := Lib.hid hA2
  go_enter Try.func10, Try.ntmps10
  go_wp2
  refine wp_scope_forward2 0 1 rfl rfl ?_
  go_wp2_with (go_at_call 22; (with_reducible refine (x_begun_yes _ n c (k : Int) _ ⟨by omega, by omega⟩).mono ?_); rintro e w' ⟨rfl, rfl⟩; rw [if_neg hn1])
  refine wp_at { tmps := #[(.slice (some ⟨b, o, none⟩) n c), (.int .i64 (k : Int)), undef, undef, .pointer (some ⟨w.heap.size, 0, none⟩), .slice none 0 0, .pointer (some ⟨w.heap.size + 1, 0, none⟩), .pointer (some ⟨w.heap.size + 1 + 1, 0, none⟩), undef, undef, (.slice (some ⟨b, o, none⟩) n c), (.int .i64 (k : Int)), .int .i64 0, .int .i64 0, .bool false, (.slice (some ⟨b, o, none⟩) n c), .pointer (some ⟨b, o, none⟩), (.int .u8 (x.toNat : Int)), (.int .i64 (k : Int)), (.int .u8 (M : Int)), (.int .u8 (N : Int)), (.int .i64 (N : Int)), undef, undef, undef, undef, undef, undef, undef, undef, undef, undef, undef, undef, undef, undef, undef, undef, undef, undef, undef, undef, undef, undef, undef, undef, undef, undef, undef, undef, undef, undef, undef, undef, undef], defers := [] } (((w.alloc (.cells #[.int .i64 (N : Int)] 3)).alloc (.cells #[.int .i64 0] 24)).alloc (.cells #[.int .i64 1] 3)).drew ?_ ?_
  · go_region_with (go_at_call 19; (with_reducible refine (HF.out _).mono ?_); rintro e w' ⟨rfl, rfl⟩)
    all_goals
      rw [HAN.out, HWN.out]
      exact ⟨rfl, rfl⟩
  clear c1
  go_wp2
  refine wp_at { tmps := #[(.slice (some ⟨b, o, none⟩) n c), (.int .i64 (k : Int)), undef, undef, .pointer (some ⟨w.heap.size, 0, none⟩), .slice none 0 0, .pointer (some ⟨w.heap.size + 1, 0, none⟩), .pointer (some ⟨w.heap.size + 1 + 1, 0, none⟩), undef, undef, (.slice (some ⟨b, o, none⟩) n c), (.int .i64 (k : Int)), .int .i64 0, .int .i64 0, .bool false, (.slice (some ⟨b, o, none⟩) n c), .pointer (some ⟨b, o, none⟩), (.int .u8 (x.toNat : Int)), (.int .i64 (k : Int)), (.int .u8 (M : Int)), (.int .u8 (N : Int)), (.int .i64 (N : Int)), (.int .i64 (N : Int)), (.int .i64 (k : Int)), (.int .u8 (M : Int)), (.int .i64 (M : Int)), .bool true, undef, undef, undef, undef, undef, undef, undef, undef, undef, undef, undef, undef, undef, undef, undef, undef, undef, undef, undef, undef, undef, undef, undef, undef, undef, undef, undef, undef], defers := [] } (((w.alloc (.cells #[.int .i64 (N : Int)] 3)).alloc (.cells #[.int .i64 0] 24)).alloc (.cells #[.int .i64 1] 3)).drew.drew ?_ ?_
  · go_region_with (go_at_call 19; (with_reducible refine (HF.out _).mono ?_); rintro e w' ⟨rfl, rfl⟩)
    all_goals
      (try rw [HWM.out])
      simp only [D1.out]
      exact ⟨rfl, rfl⟩
  go_wp2
  go_step3
  refine .inr ⟨rfl, ?_⟩
  go_wp2
  refine wp_then_only ?_
  have s1 : (1 : Int) ≤ (n : Int) := by omega
  have s2 : (1 : Int) ≤ (c : Int) := by omega
  have S0 : Hid ((((w.alloc (.cells #[.int .i64 (N : Int)] 3)).alloc (.cells #[.int .i64 0] 24)).alloc (.cells #[.int .i64 1] 3)).drew.drew.cell? ⟨w.heap.size, 0, none⟩ = some (.int .i64 (N : Int)) ∧ (((w.alloc (.cells #[.int .i64 (N : Int)] 3)).alloc (.cells #[.int .i64 0] 24)).alloc (.cells #[.int .i64 1] 3)).drew.drew.cell? ⟨w.heap.size + 1 + 1, 0, none⟩ = some (.int .i64 1)) := Lib.hid ⟨cells1_row H3.out.1, cells1_row H3.out.2.2.1⟩
  have S1 : Hid ((((w.alloc (.cells #[.int .i64 (N : Int)] 3)).alloc (.cells #[.int .i64 0] 24)).alloc (.cells #[.int .i64 1] 3)).drew.drew.drew.cell? ⟨w.heap.size, 0, none⟩ = some (.int .i64 (N : Int)) ∧ (((w.alloc (.cells #[.int .i64 (N : Int)] 3)).alloc (.cells #[.int .i64 0] 24)).alloc (.cells #[.int .i64 1] 3)).drew.drew.drew.cell? ⟨w.heap.size + 1 + 1, 0, none⟩ = some (.int .i64 1)) := S0
  have HNO : Hid (A2 = none → c - 1 = 0) := Lib.hid (fun h => if_some_ne (HA2.out.trans h))
  have hcut := HA.out.cut (k := 1) (by omega) hnc
  rw [HA2.out] at hcut
  have HBS := Lib.hid (((hcut.below H3.out.2.2.2.2).drew.drew.drew).more (show w.heap.size ≤ _ from H3.out.2.2.2.2.size))
  have HOWN := Lib.hid (x_own A2 (n - 1) (c - 1) (List.drop 1 (x :: ys)) _ HBS.out HNO.out (by omega))
  have hro := (show ((((w.alloc (.cells #[.int .i64 (N : Int)] 3)).alloc (.cells #[.int .i64 0] 24)).alloc (.cells #[.int .i64 1] 3)).drew.drew.drew).heap[w.heap.size]? = _ ∧ ((((w.alloc (.cells #[.int .i64 (N : Int)] 3)).alloc (.cells #[.int .i64 0] 24)).alloc (.cells #[.int .i64 1] 3)).drew.drew.drew).heap[w.heap.size + 1]? = _ ∧ ((((w.alloc (.cells #[.int .i64 (N : Int)] 3)).alloc (.cells #[.int .i64 0] 24)).alloc (.cells #[.int .i64 1] 3)).drew.drew.drew).heap[w.heap.size + 1 + 1]? = _ ∧ ((((w.alloc (.cells #[.int .i64 (N : Int)] 3)).alloc (.cells #[.int .i64 0] 24)).alloc (.cells #[.int .i64 1] 3)).drew.drew.drew).heap.size = _ ∧ Below w.heap.size w ((((w.alloc (.cells #[.int .i64 (N : Int)] 3)).alloc (.cells #[.int .i64 0] 24)).alloc (.cells #[.int .i64 1] 3)).drew.drew.drew) from ⟨H3.out.1, H3.out.2.1, H3.out.2.2.1, H3.out.2.2.2.1, H3.out.2.2.2.2.drew.drew.drew⟩)
  have hsz := hro.2.2.2.1
  have HRO := Lib.hid hro
  clear hro
  go_region_held3 (fun W' => W'.cell? ⟨w.heap.size, 0, none⟩ = some (.int .i64 (N : Int)) ∧ W'.cell? ⟨w.heap.size + 1 + 1, 0, none⟩ = some (.int .i64 1))
    (first
      | with_reducible exact S0.out
      | with_reducible exact S1.out
      | with_reducible exact S2.out
      | with_reducible exact S3.out
      | with_reducible exact S4.out)
    ((go_at_call 24; (with_reducible refine HOWN.out.mono ?_); rintro e w1 ⟨A1, c1, rfl, hh, hb⟩; have hr1 := (hb.block (w.heap.size) (Array.getElem?_eq_some_iff.1 HRO.out.1).1).trans HRO.out.1; have hr2 := (hb.block (w.heap.size + 1) (Array.getElem?_eq_some_iff.1 HRO.out.2.1).1).trans HRO.out.2.1; have hr3 := (hb.block (w.heap.size + 1 + 1) (Array.getElem?_eq_some_iff.1 HRO.out.2.2.1).1).trans HRO.out.2.2.1; have S2 : Hid (w1.cell? ⟨w.heap.size, 0, none⟩ = some (.int .i64 (N : Int)) ∧ w1.cell? ⟨w.heap.size + 1 + 1, 0, none⟩ = some (.int .i64 1)) := Lib.hid ⟨cells1_row hr1, cells1_row hr3⟩; have HH := Lib.hid hh; have HB := Lib.hid hb; have HR1 := Lib.hid hr1; have HR2 := Lib.hid hr2; have f1 := frozen_of_row w1 _ 0 _ _ hr1; have f2 := frozen_of_row w1 _ 0 _ _ hr2; have g1 := cells1_row hr1; have g2 := cells1_row hr2; have hs1 := one_set hr1 (.int .i64 (N : Int)); have hs3 := (hs1.2 (w.heap.size + 1 + 1) (by omega)).trans hr3; have hs2 := (hs1.2 (w.heap.size + 1) (by omega)).trans hr2; have hs5 := one_set hs2 (.int .i64 0); have S3 : Hid ((w1.setCell ⟨w.heap.size, 0, none⟩ (.int .i64 (N : Int))).cell? ⟨w.heap.size, 0, none⟩ = some (.int .i64 (N : Int)) ∧ (w1.setCell ⟨w.heap.size, 0, none⟩ (.int .i64 (N : Int))).cell? ⟨w.heap.size + 1 + 1, 0, none⟩ = some (.int .i64 1)) := Lib.hid ⟨cells1_row hs1.1, cells1_row hs3⟩; have S4 : Hid (((w1.setCell ⟨w.heap.size, 0, none⟩ (.int .i64 (N : Int))).setCell ⟨w.heap.size + 1, 0, none⟩ (.int .i64 0)).cell? ⟨w.heap.size, 0, none⟩ = some (.int .i64 (N : Int)) ∧ ((w1.setCell ⟨w.heap.size, 0, none⟩ (.int .i64 (N : Int))).setCell ⟨w.heap.size + 1, 0, none⟩ (.int .i64 0)).cell? ⟨w.heap.size + 1 + 1, 0, none⟩ = some (.int .i64 1)) := Lib.hid ⟨cells1_row ((hs5.2 _ (by omega)).trans hs1.1), cells1_row ((hs5.2 _ (by omega)).trans hs3)⟩; clear hh hb hr1 hr2 hr3 hs1 hs2 hs3 hs5))
  all_goals
    go_wp2
    rw [jump_ret]
    have h2 := two_set HR1.out HR2.out (by omega) (.int .i64 (N : Int)) (.int .i64 0)
    have hbf : Below w.heap.size w ((w1.setCell ⟨w.heap.size, 0, none⟩ (.int .i64 (N : Int))).setCell ⟨w.heap.size + 1, 0, none⟩ (.int .i64 0)) := ((below_step HRO.out.2.2.2.2 HB.out).setCell (p := ⟨w.heap.size, 0, none⟩) (Nat.le_refl _) _).setCell (p := ⟨w.heap.size + 1, 0, none⟩) (Nat.le_succ _) _
    have hhf : HandS ((w1.setCell ⟨w.heap.size, 0, none⟩ (.int .i64 (N : Int))).setCell ⟨w.heap.size + 1, 0, none⟩ (.int .i64 0)) w.heap.size A1 (n - 1) c1 ys := handS_less (handS_sets HH.out (fun k hk => h2.2.2.1 k (by omega) (by omega)) h2.2.2.2) (by omega)
    exact bodyPost_ret (res_ctc rfl _ _ _ _ _ _ _ _ _ _ rfl h2.1 rfl h2.2.1 Try.underlying3 rfl Try.underlying24 rfl) rfl ⟨A1, c1, rfl, hhf, hbf⟩
end Go.Proofs.Ytmckopjchpgcpaa
