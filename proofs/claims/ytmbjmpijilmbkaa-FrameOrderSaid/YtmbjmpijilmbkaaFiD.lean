/- Walks of package field's TakeRank, and of the document's. -/
import Derived.BigRegion
import Derived.Test.YtmbjmpijilmbkaaFiC
import Derived.Test.YtmbjmpijilmbkaaGOwn
namespace Go.Proofs.Ytmbjmpijilmbkaa
open Go.RowKit Oct Fi
attribute [local go_sem] i64_and1 i64_and7 i64_and31

theorem tr4_lt (xs : List UInt8) : tr4 xs < 4294967296 := by
  have h1 := takeB_lt (xs.take 4)
  have h2 : (xs.take 4).length ≤ 4 := List.length_take_le _ _
  have h3 : 256 ^ (xs.take 4).length ≤ 256 ^ 4 := Nat.pow_le_pow_right (by decide) h2
  unfold tr4
  omega
theorem tr4_bit (xs : List UInt8) (h : 4 ≤ xs.length) : (((bitOf xs 0 : Nat) : Int) == 1) = decide (2147483648 ≤ tr4 xs) := by
  match xs, h with
  | a :: b :: c :: d :: r, _ =>
    have ha := a.toNat_lt
    have hb := b.toNat_lt
    have hc := c.toNat_lt
    have hd := d.toNat_lt
    have e1 : tr4 (a :: b :: c :: d :: r) = ((a.toNat * 256 + b.toNat) * 256 + c.toNat) * 256 + d.toNat := by simp [tr4, takeB]
    have e2 : bitOf (a :: b :: c :: d :: r) 0 = a.toNat / 128 % 2 := by simp [bitOf]
    rw [e1, e2, Bool.eq_iff_iff]
    simp
    omega
theorem bit0 (A : Option Addr) (n c : Nat) (xs : List UInt8) (w : World) (B : Nat) (hA : Bs w B A n xs) (h4 : 5 ≤ n) (hn : n ≤ 1000000) :
    Calls Try.prog 109 #[.slice A n c, .int .i64 0] w fun e w' => ∃ k : Int, (k == 1) = decide (2147483648 ≤ tr4 xs) ∧ e = .returned (.tuple #[.int .i64 k, .bool true]) ∧ w = w' := by
  refine (bit_yes A B n c xs 0 w hA (by omega) (by omega) hn).mono ?_
  rintro e w' ⟨rfl, rfl⟩
  exact ⟨_, tr4_bit xs (by have := hA.1; omega), rfl, rfl⟩
theorem stream0 (A : Option Addr) (n c : Nat) (xs : List UInt8) (w : World) (B : Nat) (hA : Bs w B A n xs) (h4 : 5 ≤ n) (hn : n ≤ 1000000) (hnc : n ≤ c) :
    Calls Try.prog 96 #[.slice A n c, .int .i64 0] w fun e w' => e = .returned (.tuple #[.int .i64 (tr4 xs % 2147483648 : Nat), .int .i64 0]) ∧ w = w' :=
  stream_ok A B n c xs 0 w hA (by omega) (by omega) hn hnc
theorem frank_any (b o n c : Nat) (q : Bool) (D W : Nat) (xs : List UInt8) (w : World) (hA : Bs w w.heap.size (some ⟨b, o, none⟩) n xs) (h5 : 5 ≤ n) (hn : n ≤ 1000000) (hnc : n ≤ c)
    (hq : decide (2147483648 ≤ tr4 xs) = q) (hD : tr4 xs % 2147483648 = D) (hW : (xs[4]?.getD 0).toNat = W) :
    Calls Try.prog 107 #[.slice (some ⟨b, o, none⟩) n c] w fun e w' => e = .returned (.agg #[.bool q, .int .i64 D, .int .u8 W]) ∧ Below w.heap.size w w' := by
  obtain ⟨b', o', e, hb, hc⟩ := hA.2 (by omega)
  cases e
  have h4 := hc 4 (by omega)
  rw [hW] at h4
  have HA := Lib.hid (hA.alloc (Nat.le_refl _) (.cells #[.bool false, .int .i64 0, .int .u8 0] 30))
  have HQ := Lib.hid hq
  have HD := Lib.hid hD
  clear hc hA hW hq hD
  have r4 : 4 < n := by omega
  go_enter Try.func107, Try.ntmps107
  go_wp2_with (first
    | (go_at_call 109; refine (bit0 _ n c xs _ _ HA.out h5 hn).mono ?_; rintro e w' ⟨k, hk, rfl, rfl⟩; rw [HQ.out] at hk)
    | (go_at_call 96; refine (stream0 _ n c xs _ _ HA.out h5 hn hnc).mono ?_; rintro e w' ⟨rfl, rfl⟩; rw [HD.out]))
  refine bodyPost_ret (v := .agg #[.bool q, .int .i64 D, .int .u8 W]) (by simp [results, Try.results107, go_sem]) rfl ⟨rfl, ?_⟩
  exact (Below.refl _ _).alloc (Nat.le_refl _) _
def C3 (w : World) (g : Nat) (a b c : Value) : Prop := w.cell? ⟨g, 0, none⟩ = some a ∧ w.cell? ⟨g, 1, none⟩ = some b ∧ w.cell? ⟨g, 2, none⟩ = some c
def set3 (w : World) (g : Nat) (u0 u1 u2 : Value) : World := ((w.setCell ⟨g, 0, none⟩ u0).setCell ⟨g, 1, none⟩ u1).setCell ⟨g, 2, none⟩ u2
section
variable {w w' : World} {g : Nat} {u0 u1 u2 : Value}
theorem C3.set (h : C3 w g u0 u1 u2) (v0 v1 v2 : Value) : C3 (set3 w g v0 v1 v2) g v0 v1 v2 := by
  obtain ⟨h0, h1, h2⟩ := h
  have ne : ∀ i j : Nat, i ≠ j → (⟨g, i, none⟩ : Addr) ≠ ⟨g, j, none⟩ := fun i j hij e => hij (by cases e; rfl)
  unfold C3 set3
  refine ⟨?_, ?_, ?_⟩
  · rw [World.cell?_setCell_other _ _ _ _ (ne 2 0 (by omega)), World.cell?_setCell_other _ _ _ _ (ne 1 0 (by omega))]
    exact World.cell?_setCell_same' _ _ _ (by rw [h0]; rfl)
  · rw [World.cell?_setCell_other _ _ _ _ (ne 2 1 (by omega))]
    refine World.cell?_setCell_same' _ _ _ ?_
    rw [World.cell?_setCell_other _ _ _ _ (ne 0 1 (by omega)), h1]; rfl
  · refine World.cell?_setCell_same' _ _ _ ?_
    rw [World.cell?_setCell_other _ _ _ _ (ne 1 2 (by omega)), World.cell?_setCell_other _ _ _ _ (ne 0 2 (by omega)), h2]; rfl
theorem C3.below {B : Nat} (h : C3 w g u0 u1 u2) (hb : Below B w w') (hg : g < B) : C3 w' g u0 u1 u2 := c3_al h hb hg
theorem set3_heap (w : World) (g : Nat) (u0 u1 u2 : Value) (k : Nat) (hk : k ≠ g) : (set3 w g u0 u1 u2).heap[k]? = w.heap[k]? := by
  unfold set3
  rw [Below.heap_setCell _ _ _ _ (by simpa using hk), Below.heap_setCell _ _ _ _ (by simpa using hk), Below.heap_setCell _ _ _ _ (by simpa using hk)]
theorem set3_below {B : Nat} {a : World} (h : Below B a w) (hg : B ≤ g) (u0 u1 u2 : Value) : Below B a (set3 w g u0 u1 u2) :=
  ((h.setCell (p := ⟨g, 0, none⟩) hg _).setCell (p := ⟨g, 1, none⟩) hg _).setCell (p := ⟨g, 2, none⟩) hg _
theorem set3_size (w : World) (g : Nat) (u0 u1 u2 : Value) : (set3 w g u0 u1 u2).heap.size = w.heap.size := by simp [set3, World.setCell]
end
theorem ftrank_no (A : Option Addr) (n c : Nat) (w : World) (h5 : n < 5) :
    Calls Try.prog 101 #[.slice A n c] w fun e w' => e = .returned (.tuple #[.agg #[.bool false, .int .i64 0, .int .u8 0], .slice none 0 0, .int .i64 10]) ∧ Below w.heap.size w w' := by
  go_enter Try.func101, Try.ntmps101
  go_wp2
  refine wp_scope_forward 0 rfl ?_
  go_wp2
  go_step3
  refine ⟨rfl, ?_⟩
  go_wp2
  rw [jump_ret]
  refine bodyPost_ret (v := .tuple #[.agg #[.bool false, .int .i64 0, .int .u8 0], .slice none 0 0, .int .i64 10]) (by simp [results, Try.results101, go_sem]) rfl ⟨rfl, ?_⟩
  exact (Below.refl _ _).alloc (Nat.le_refl _) _
theorem ftrank_yes (A : Option Addr) (n c : Nat) (q : Bool) (D W : Nat) (xs : List UInt8) (w : World) (hA : Bs w w.heap.size A n xs) (h5 : 5 ≤ n) (hn : n ≤ 1000000) (hnc : n ≤ c)
    (hq : decide (2147483648 ≤ tr4 xs) = q) (hD : tr4 xs % 2147483648 = D) (hW : (xs[4]?.getD 0).toNat = W) :
    Calls Try.prog 101 #[.slice A n c] w fun e w' => ∃ v, e = .returned (.tuple #[.agg #[.bool q, .int .i64 D, .int .u8 W], v, .int .i64 0]) ∧ OwnB w' w.heap.size 5 v (xs.drop 5) ∧ Below w.heap.size w w' := by
  obtain ⟨b, o, rfl, hb, hc⟩ := hA.2 (by omega)
  obtain ⟨A2, hA2, hcut⟩ : ∃ A2, (if c = 5 then some (⟨b, o, none⟩ : Addr) else some ⟨b, o + 5, none⟩) = A2 ∧ Bs w w.heap.size A2 (n - 5) (xs.drop 5) := ⟨_, rfl, hA.cut (k := 5) h5 hnc⟩
  have hN2 : A2 = none → c - 5 = 0 := fun h => if_some_ne (hA2.trans h)
  have HN := Lib.hid hN2
  have HA := Lib.hid (hA.on ((Below.refl _ w).alloc (Nat.le_refl _) (.cells #[.bool false, .int .i64 0, .int .u8 0] 30)).drew)
  have HD := Lib.hid (hcut.on ((Below.refl _ w).alloc (Nat.le_refl _) (.cells #[.bool false, .int .i64 0, .int .u8 0] 30)).drew)
  have hsz : w.heap.size < (w.alloc (.cells #[.bool false, .int .i64 0, .int .u8 0] 30)).drew.heap.size := by simp
  clear hc hA hcut hN2
  have HR : Hid (∀ W0 : World, Bs W0 W0.heap.size (some ⟨b, o, none⟩) n xs → Calls Try.prog 107 #[.slice (some ⟨b, o, none⟩) n c] W0 fun e w' => e = .returned (.agg #[.bool q, .int .i64 D, .int .u8 W]) ∧ Below W0.heap.size W0 w') := Lib.hid (fun W0 h => frank_any b o n c q D W xs W0 h h5 hn hnc hq hD hW)
  clear hq hD hW
  have g5 : (5 : Int) ≤ (n : Int) := by omega
  have g5c : (n : Int) ≤ (c : Int) := by omega
  go_enter Try.func101, Try.ntmps101
  go_wp2
  refine wp_scope_forward 0 rfl ?_
  go_wp2
  go_region_with (first
    | (go_at_call 107; refine (HR.out _ HA.out).mono ?_; rintro e w1 ⟨rfl, hb1⟩; have HB1 := Lib.hid hb1; clear hb1)
    | (go_at_call 100; refine (fown_any A2 _ _ (xs.drop 5) _ (HD.out.on HB1.out) HN.out (by omega)).mono ?_; rintro e w2 ⟨v2, rfl, hown2, hb2⟩; have HO2 := Lib.hid hown2; have HZ := Lib.hid HB1.out.size; have hb3 := HB1.out.trans (hb2.mono HB1.out.size); clear hown2 hb2; have HB3 := Lib.hid hb3; obtain ⟨hcc, hff⟩ := bcell hb3; clear hb3))
  go_wp2
  rw [jump_ret]
  have hz := HZ.out
  have hF3 : C3 w2 w.heap.size (.bool false) (.int .i64 0) (.int .u8 0) := (show C3 (w.alloc _).drew _ _ _ _ from c3_new w 30 _ _ _).below HB3.out hsz
  have hbel := set3_below (((Below.refl _ w).alloc (Nat.le_refl _) (.cells #[.bool false, .int .i64 0, .int .u8 0] 30)).drew.trans (HB3.out.mono (by simp))) (Nat.le_refl _) (.bool q) (.int .i64 D) (.int .u8 W)
  have hown : OwnB (set3 w2 w.heap.size (.bool q) (.int .i64 D) (.int .u8 W)) w.heap.size 5 v2 (xs.drop 5) :=
    (HO2.out.above fun k hk => set3_heap _ _ _ _ _ _ (by simp at hz; omega)).less (by simp at hz; omega)
  obtain ⟨f0, f1, f2⟩ := hF3.set (.bool q) (.int .i64 D) (.int .u8 W)
  unfold set3 at f0 f1 f2
  refine bodyPost_ret (v := .tuple #[.agg #[.bool q, .int .i64 D, .int .u8 W], v2, .int .i64 0]) (by simp [results, Try.results101, go_sem, f0, f1, f2]) rfl ⟨v2, rfl, hown, hbel⟩
theorem ftrank_tot (A : Option Addr) (n c : Nat) (xs : List UInt8) (w : World) (hA : Bs w w.heap.size A n xs) (hn : n ≤ 1000000) (hnc : n ≤ c) :
    Calls Try.prog 101 #[.slice A n c] w fun e w' => ∃ v, e = .returned (.tuple #[.agg #[.bool (trA xs n), .int .i64 (trD xs n), .int .u8 (trW xs n)], v, .int .i64 (trE n)]) ∧ OwnB w' w.heap.size 5 v (trR xs n) ∧ Below w.heap.size w w' := by
  unfold trA trD trW trE trR
  by_cases h : 5 ≤ n
  · simp only [if_pos h]
    exact ftrank_yes A n c _ _ _ xs w hA h hn hnc rfl rfl rfl
  · simp only [if_neg h]
    refine (ftrank_no A n c w (by omega)).mono ?_
    rintro e w' ⟨rfl, hb⟩
    exact ⟨_, rfl, OwnB.nil_ _ _ _, hb⟩
theorem rtake4 (A : Option Addr) (B n c : Nat) (xs : List UInt8) (w : World) (hA : Bs w B A n xs) (h5 : 5 ≤ n) (hn : n ≤ 1000000) :
    Calls Try.prog 38 #[.slice A n c, .int .i64 0, .int .i64 4] w fun e w' => e = .returned (.tuple #[.int .i64 (tr4 xs : Nat), .int .i64 0]) ∧ w = w' :=
  rtake_ok A B n c xs 0 4 w hA (by omega) (by omega) (by omega) (by omega) hn
theorem cell_set3 {w : World} {b o q : Nat} {u0 u1 u2 v : Value} (hne : b ≠ q) (h : w.cell? ⟨b, o, none⟩ = some v) :
    (((w.setCell ⟨q, 0, none⟩ u0).setCell ⟨q, 1, none⟩ u1).setCell ⟨q, 2, none⟩ u2).cell? ⟨b, o, none⟩ = some v := by
  have ne : ∀ i, (⟨q, i, none⟩ : Addr) ≠ ⟨b, o, none⟩ := fun i e => hne (by cases e; rfl)
  rw [World.cell?_setCell_other _ _ _ _ (ne 2), World.cell?_setCell_other _ _ _ _ (ne 1), World.cell?_setCell_other _ _ _ _ (ne 0), h]
theorem c3_frozen {w w5 : World} {t : TypeId} {a b c : Value} {B : Nat} (hb : Below B (w.alloc (.cells #[a, b, c] t)) w5) (hB : w.heap.size < B) : ∀ j, w5.frozen? ⟨w.heap.size, j, none⟩ = false := fun j => by
  rw [(bcell hb).2 _ j hB]
  simp [go_sem]
end Go.Proofs.Ytmbjmpijilmbkaa
