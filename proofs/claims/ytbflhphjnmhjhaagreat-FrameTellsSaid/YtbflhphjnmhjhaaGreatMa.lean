/- FiG, FiH, GFun, PrB, PrC. -/
import Derived.Test.YtbflhphjnmhjhaaGreatMfi
import Derived.Test.YtbflhphjnmhjhaaGreatGKeep
import Derived.Test.YtbflhphjnmhjhaaGreatGPairsIn
import Derived.Maps.OwnSet
import Derived.WalkKit
import Derived.Test.YtbflhphjnmhjhaaGreatPrA
/- field.settings: the iterator of the settings of bytes; TakePairs. -/
namespace Go.Proofs.YtbflhphjnmhjhaaGreat
open Go.RowKit Oct Fi Go.Shelf
attribute [local go_sem] Oper.semAt_some

set_option maxRecDepth 100000 in
set_option maxHeartbeats 1000000 in
theorem settings1_in (k : Nat) (hk : 1 ≤ k) (l B1 m c : Nat) (A : Option Addr) (xs : List UInt8) (p : Nat → Prop) (J Jx : List Pr → World → Prop) (W : World)
    (hp1 : p B1) (hpA : 0 < m → ∀ b o, A = some ⟨b, o, none⟩ → p b) (hm : m * 6 ≤ 1000000) (hmc : m * 6 ≤ c)
    (hY : ∀ pre (x : Pr) W1, J pre W1 → pre.length < m → YieldAt Fence.wide (k - 1) Tryz.prog l #[pv x] W1 fun e W' =>
      (e = .returned (.bool true) ∧ J (pre ++ [x]) W' ∧ KeepC p W1 W') ∨ (e = .returned (.bool false) ∧ Jx (pre ++ [x]) W'))
    (hc : W.cell? ⟨B1, 0, none⟩ = some (.slice A (m * 6) c)) (hA : Bs W W.heap.size A (m * 6) xs) (h0 : J [] W) :
    CallsIn Fence.wide k Tryz.prog 111 #[.func (.yield l) #[] #[], .pointer (some ⟨B1, 0, none⟩)] W fun e W' => (∃ v, e = .returned v) ∧
      ((∃ ys, ys = upP xs m ∧ J ys W') ∨ (∃ pre, True ∧ Jx pre W')) := by
  have HY := Lib.hid hY
  have HP := Lib.hid hp1
  have HPA := Lib.hid hpA
  have HC := Lib.hid hc
  have HA := Lib.hid hA
  clear hY hp1 hpA hc hA
  refine callsIn_of_wp Tryz.func111 rfl trivial ?_ rfl
  simp only [Tryz.ntmps111, List.size_toArray, List.length_cons, List.length_nil, Nat.reduceAdd, Nat.reduceSub, Array.replicate_succ, Array.replicate_zero, List.push_toArray, List.append_toArray, List.nil_append, List.cons_append]
  gi_wp2
  gi_loopw [3] (fun t wr => ∃ j : Nat, j ≤ m ∧ t = .int .i64 ((j : Int) * 6) ∧ KeepC p W wr ∧ J (upP xs j) wr) (fun t _ => m - (intOf t / 6).toNat)
  case atStart => exact ⟨0, Nat.zero_le _, rfl, KeepC.refl _ _, h0⟩
  case round =>
    obtain ⟨j, hj, rfl, hkp, hJj⟩ := hrel
    have hcb := hkp.cell (a := ⟨B1, 0, none⟩) HP.out HC.out
    have HK := Lib.hid hkp
    have HJj := Lib.hid hJj
    clear hkp hJj
    by_cases hlt : j < m
    · have HA1 := Lib.hid (HK.out.bs HA.out (HPA.out (by omega)))
      have hx1 := (pairAt xs j).1.toNat_lt
      have hx2 := (pairAt xs j).2.toNat_lt
      have HX := Lib.hid (upP_step xs j)
      have HL := Lib.hid (upP_len xs j)
      generalize hP : pairAt xs j = P at *
      have hT1 : Hid (∀ w1, Bs w1 W.heap.size A (m * 6) xs → Calls Tryz.prog 104 #[.slice A (m * 6) c, .int .i64 ((j : Int) * 6), .int .i64 2] w1 fun e w' => e = .returned (.tuple #[.int .i64 P.1.toNat, .int .i64 0]) ∧ w1 = w') := Lib.hid (fun w1 h => by subst hP; exact ftakeP1 A _ _ c xs j w1 h hm hmc (by omega))
      have hT2 : Hid (∀ w1, Bs w1 W.heap.size A (m * 6) xs → Calls Tryz.prog 104 #[.slice A (m * 6) c, .int .i64 ((j : Int) * 6 + 2), .int .i64 4] w1 fun e w' => e = .returned (.tuple #[.int .i64 P.2.toNat, .int .i64 0]) ∧ w1 = w') := Lib.hid (fun w1 h => by subst hP; exact ftakeP2 A _ _ c xs j w1 h hm hmc (by omega))
      clear hP
      obtain ⟨fn, tmps, assign, body, hy, hR⟩ := HY.out _ P wr HJj.out (by rw [HL.out]; omega)
      rw [HX.out] at hR
      unfold pv at hy
      have HR := Lib.hid hR
      clear hR
      gi_wp2_with (first
        | (refine ⟨trivial, ?_⟩; gi_at_call 104; (with_reducible refine (callsIn_wide.2 (hT1.out _ HA1.out)).mono ?_); rintro e W1 ⟨rfl, rfl⟩)
        | (refine ⟨trivial, ?_⟩; gi_at_call 104; (with_reducible refine (callsIn_wide.2 (hT2.out _ HA1.out)).mono ?_); rintro e W1 ⟨rfl, rfl⟩))
      refine HR.out.mono ?_
      rintro e W4 (⟨rfl, hJ4, hk4⟩ | ⟨rfl, hJx4⟩)
      · gi_wp2
        go_roundw
        case rel => exact ⟨j + 1, by omega, by go_num, HK.out.trans hk4, hJ4⟩
        case measure => simp [intOf]; omega
      · gi_wp2
        refine bodyPost_ret (results_none rfl _ _ _) rfl ?_
        exact ⟨⟨_, rfl⟩, .inr ⟨_, trivial, hJx4⟩⟩
    · obtain rfl : j = m := by omega
      gi_wp2
      go_end0
      exact ⟨⟨_, rfl⟩, .inl ⟨_, rfl, HJj.out⟩⟩
end Go.Proofs.YtbflhphjnmhjhaaGreat
/- field.TakePairs. -/
namespace Go.Proofs.YtbflhphjnmhjhaaGreat
open Go.RowKit Oct Fi Go.Shelf
attribute [local go_sem] Oper.semAt_some

theorem settings_any (A : Option Addr) (n c : Nat) (w : World) :
    Calls Tryz.prog 105 #[.slice A n c] w fun e w' =>
      e = .returned (.func (.func 111) #[] #[.pointer (some ⟨w.heap.size, 0, none⟩)]) ∧ w.alloc (.cells #[.slice A n c] 24) = w' := by
  go_enter Tryz.func105, Tryz.ntmps105
  go_wp2
  go_ret
  exact ⟨rfl, rfl⟩
theorem settings_stops (k : Nat) (hk : 1 ≤ k) (B1 m c : Nat) (A : Option Addr) (xs : List UInt8) (p : Nat → Prop) (w : World)
    (hB : B1 < w.heap.size) (hp1 : p B1) (hpA : 0 < m → ∀ b o, A = some ⟨b, o, none⟩ → p b) (hm : m * 6 ≤ 1000000) (hmc : m * 6 ≤ c)
    (hc : w.cell? ⟨B1, 0, none⟩ = some (.slice A (m * 6) c)) (hA : Bs w w.heap.size A (m * 6) xs) :
    SeqStopsK Fence.wide k Tryz.prog 111 #[.pointer (some ⟨B1, 0, none⟩)] (fun x : Pr => #[.agg #[.int .u16 x.1.toNat, .int .u32 x.2.toNat]]) (KeepC p) (fun ys => ys = upP xs m) (fun _ => True) m w := fun l J Jx W hW _ _ hY h0 =>
  settings1_in k hk l B1 m c A xs p J Jx W hp1 hpA hm hmc hY ((hW.cell (p := ⟨B1, 0, none⟩) hB).trans hc) (hA.on hW) h0
/-- A fresh pair's box, as a range's body meets it. -/
def AtP (a₁ : Nat → Act) (x : Pr) (a : Act) (W : World) : Prop := ∃ b, a = a₁ b ∧ W.cell? ⟨b, 0, none⟩ = some (.int .u16 x.1.toNat) ∧ W.cell? ⟨b, 1, none⟩ = some (.int .u32 x.2.toNat)
theorem atP_own (B : Nat) (f : Nat → Act) (x : Pr) (a : Act) : OwnFrom B (fun (_ : Unit) W => AtP f x a W) := by
  intro s W W' row hs hg hr
  have hr' : ∀ k, row = some k → ∃ o : Obj, W.heap[k]? = some o ∧ o.isCells = false := fun k e => (hr k e).2
  obtain ⟨b, e, h1, h2⟩ := hs
  exact ⟨b, e, cell_kept h1 hg hr', cell_kept h2 hg hr'⟩
theorem gbox {W W4 : World} {o : Obj} {g : Nat} {u : Value} (hgs : g + 2 ≤ W.heap.size) (hb : Below (g + 2) (W.alloc o) W4) (h1 : W.cell? ⟨g, 0, none⟩ = some u) (h2 : W.frozen? ⟨g, 0, none⟩ = false) :
    W4.cell? ⟨g, 0, none⟩ = some u ∧ W4.frozen? ⟨g, 0, none⟩ = false := by
  have h := ((Below.refl (g + 2) W).alloc hgs o).trans hb
  exact ⟨(h.cell (p := ⟨g, 0, none⟩) (by simp only; omega)).trans h1, (h.frozen (p := ⟨g, 0, none⟩) (by simp only; omega)).trans h2⟩
set_option maxRecDepth 100000 in
set_option maxHeartbeats 1000000 in
theorem ftp_yes (A : Option Addr) (n c m : Nat) (xs : List UInt8) (w : World) (hA : Bs w w.heap.size A n xs) (hn : n ≤ 1000000) (hnc : n ≤ c) (hm : n = m * 6) :
    Calls Tryz.prog 92 #[.slice A n c] w fun e w' => ∃ v, e = .returned (.tuple #[v, .int .i64 0]) ∧ OwnP w' w.heap.size 79 v (upP xs m) ∧ Below w.heap.size w w' := by
  obtain ⟨i0, hi, hz0, hz1, hz2⟩ := info_parts info_pair
  have hinf := Lib.hid (And.intro hi (And.intro hz0 (And.intro hz1 hz2)))
  clear hi hz0 hz1 hz2
  have HA := Lib.hid hA
  clear hA
  have d0 : ((n : Int) % 6 != 0) = false := by simp; omega
  refine (callsIn_wide (n := 6)).1 (callsIn_of_wp_marks Tryz.func92 rfl trivial ?_ rfl)
  refine wpIn_wide.2 ?_
  simp only [Tryz.ntmps92, List.size_toArray, List.length_cons, List.length_nil, Nat.reduceAdd, Nat.reduceSub, Array.replicate_succ, Array.replicate_zero, List.push_toArray, List.append_toArray, List.nil_append, List.cons_append]
  go_wp2
  refine wp_scope_forward 0 rfl ?_
  go_wp2_with (go_at_call 105; refine (settings_any _ _ _ _).mono ?_; rintro e w3 ⟨rfl, rfl⟩)
  have hW0 : ((w.alloc (.cells #[.slice none 0 0] 26)).alloc (.cells #[.slice A n c] 24)).cell? ⟨w.heap.size, 0, none⟩ = some (.slice none 0 0) ∧ ((w.alloc (.cells #[.slice none 0 0] 26)).alloc (.cells #[.slice A n c] 24)).frozen? ⟨w.heap.size, 0, none⟩ = false ∧ ((w.alloc (.cells #[.slice none 0 0] 26)).alloc (.cells #[.slice A n c] 24)).cell? ⟨w.heap.size + 1, 0, none⟩ = some (.slice A n c) := by
    refine ⟨?_, ?_, ?_⟩ <;> simp [go_sem]
  have hBW : Below w.heap.size w ((w.alloc (.cells #[.slice none 0 0] 26)).alloc (.cells #[.slice A n c] 24)) := ((Below.refl _ w).alloc (Nat.le_refl _) _).alloc (by simp) _
  have hsz : ((w.alloc (.cells #[.slice none 0 0] 26)).alloc (.cells #[.slice A n c] 24)).heap.size = w.heap.size + 2 := by simp
  subst hm
  generalize (w.alloc (.cells #[.slice none 0 0] 26)).alloc (.cells #[.slice A (m * 6) c] 24) = W0 at *
  obtain ⟨g1, g2, g3⟩ := hW0
  have hA0 := HA.out.on hBW
  have hpA : 0 < m → ∀ b o, A = some ⟨b, o, none⟩ → b < w.heap.size + 2 ∧ b ≠ w.heap.size := fun hm0 b o e => by
    obtain ⟨b', o', e', hb, _⟩ := HA.out.2 (by omega)
    rw [e] at e'
    cases e'
    omega
  have h0 : GatherP w w.heap.size (w.heap.size + 2) 79 [] W0 := ⟨⟨_, g1, g2, OwnP.nil_ _ _ _⟩, hBW, by omega⟩
  refine (wpIn_wide (n := 6)).1 ?_
  refine wpIn_rangeFunc_ownH rfl (by omega) (gf := 111) (lb := #[.pointer (some ⟨w.heap.size + 1, 0, none⟩)]) rfl trivial (enters_of Tryz.func111 (by kernel_rfl) rfl)
    (settings_stops 5 (by omega) (w.heap.size + 1) m c A xs (fun j => j < w.heap.size + 2 ∧ j ≠ w.heap.size) W0 (by omega) (by omega) hpA hn hnc g3 hA0)
    (fun h k => h.trans k) (fun W l o o' _ h hc _ => KeepC.put W l o o' h hc) (Below.refl _ _) (fun _ => rfl)
    (GatherP w w.heap.size (w.heap.size + 2) 79)
    (fun _ _ _ => False)
    (gatherP_own (by omega))
    (fun _ _ _ _ _ hs _ _ => hs)
    h0
    (fun x => AtP (fun b => { tmps := #[.slice A (m * 6) c, undef, .slice none 0 0, .int .i64 0, .pointer (some ⟨w.heap.size, 0, none⟩), .pointer (some ⟨b, 0, none⟩), .slice A (m * 6) c, .int .i64 (m * 6), .int .i64 0, .bool false, .slice A (m * 6) c, .func (.func 111) #[] #[.pointer (some ⟨w.heap.size + 1, 0, none⟩)], .agg #[.int .u16 x.1.toNat, .int .u32 x.2.toNat], undef, undef, undef, undef, undef], defers := [] }) x)
    (fun x a' => atP_own _ _ x a')
    ?assign ?body ?done ?stop
  case assign =>
    intro l pre x W K hI hK
    have HK := Lib.hid hK
    have HI := Lib.hid hI
    clear hK hI
    gi_wp2
    refine HK.out _ _ ?_ ?_ ?_ ⟨W.heap.size, rfl, ?_, ?_⟩
    · exact (KeepsOthers.alloc _ _).from _
    · exact KeepC.below ((Below.refl _ W).alloc (Nat.le_refl _) _)
    · exact (gatherP_own (B' := W0.heap.size) (by omega)).alloc _ HI.out
    · simp [go_sem]
    · simp [go_sem]
  case body =>
    rintro l pre x a' W _ _ hI ⟨b, rfl, k1, k2⟩ hlen
    obtain ⟨⟨u, r1, r2, r3⟩, hbw, hgs⟩ := hI
    have HO := Lib.hid r3
    have HB := Lib.hid hbw
    have HK1 := Lib.hid r1
    have HK2 := Lib.hid r2
    clear r3 hbw
    gi_wp2_with (gi_at_builtin; refine wpListIn_append_pairs _ rfl (.tmp 13) (.tmp 15) 26 rfl (w.heap.size + 2) 79 i0 Tryz.underlying26 hinf.out.1 hinf.out.2.1 hinf.out.2.2.1 hinf.out.2.2.2 _ pre rfl (HO.out.alloc _) _ _ 1 1 [x] rfl (ps_lit W _ [x] _ _ rfl (by simp [pc])) (fun h => by cases h) (by omega) (by simp; omega) ?_; intro v4 w4 hown4 hb4 hg4; obtain ⟨A4, c4, rfl, _, _, _⟩ := hown4.form2 (n := pre.length + 1) (by simp); have HO4 := Lib.hid hown4; have HB4 := Lib.hid hb4; have HG4 := Lib.hid hg4; obtain ⟨q1, q2⟩ := gbox hgs hb4 HK1.out HK2.out; clear hown4 hb4 hg4)
    exact gatherP_round _ (Nat.le_refl _) (by omega) hgs (fun j h => h) HK1.out HK2.out HO.out HB.out HB4.out HG4.out HO4.out
  case done =>
    rintro D ys W hD rfl hI hK
    have HI := Lib.hid hI
    obtain ⟨⟨u, r1, r2, r3⟩, hbw, hgs⟩ := hI
    obtain ⟨A5, c5, rfl, _, _, _⟩ := r3.form2 (n := m) (upP_len _ _)
    have HO := Lib.hid r3
    have HB := Lib.hid hbw
    clear r3 hbw
    go_wp2
    rw [jump_ret]
    have hbl : Below w.heap.size w (W.putObj D (.deferred none)) := HB.out.trans (belowK_b (w := w) (Nat.le_refl _) W D _ _ (by omega) hK rfl rfl)
    have hown := (HO.out.other (grownBy_putObj' _ D (.deferred none)) (fun k e => by cases e; exact ⟨_, hK, rfl⟩)).less (B' := w.heap.size) (by omega)
    exact ⟨by simp, .inl ⟨_, _, rfl, run_takeDeferred hK, ⟨_, results_tmp2 rfl _ _ _, _, rfl, hown, hbl⟩⟩⟩
  case stop =>
    rintro D c pre W _ _ h _
    exact h.elim
theorem ftp_no (A : Option Addr) (n c : Nat) (w : World) (h : n % 6 ≠ 0) :
    Calls Tryz.prog 92 #[.slice A n c] w fun e w' => e = .returned (.tuple #[.slice none 0 0, .int .i64 10]) ∧ Below w.heap.size w w' := by
  have d : ((n : Int) % 6 != 0) = true := by simp; omega
  go_enter Tryz.func92, Tryz.ntmps92
  go_wp2
  refine wp_scope_forward 0 rfl ?_
  go_wp2
  go_step3
  refine ⟨rfl, ?_⟩
  go_wp2
  rw [jump_ret]
  go_ret2
  exact ⟨rfl, (Below.refl _ _).alloc (Nat.le_refl _) _⟩
theorem ftp_tot (A : Option Addr) (n c : Nat) (xs : List UInt8) (w : World) (hA : Bs w w.heap.size A n xs) (hn : n ≤ 1000000) (hnc : n ≤ c) :
    Calls Tryz.prog 92 #[.slice A n c] w fun e w' => ∃ v, e = .returned (.tuple #[v, .int .i64 (tpE n)]) ∧ OwnP w' w.heap.size 79 v (tpV xs n) ∧ Below w.heap.size w w' := by
  by_cases h : n % 6 = 0
  · obtain ⟨m, hm⟩ : ∃ m, n = m * 6 := ⟨n / 6, by omega⟩
    rw [(tpV_yes xs n m hm).1, (tpV_yes xs n m hm).2]
    exact ftp_yes A n c m xs w hA hn hnc hm
  · rw [(tpV_no xs n h).1, (tpV_no xs n h).2]
    refine (ftp_no A n c w h).mono ?_
    rintro e w' ⟨rfl, hb⟩
    exact ⟨_, rfl, OwnP.nil_ _ _ _, hb⟩
end Go.Proofs.YtbflhphjnmhjhaaGreat
/- A map of integers to whatever values that the call itself makes of a literal, asked with 'ok'. Plain, over any program. -/
namespace Go.Proofs.YtbflhphjnmhjhaaGreat
open Go.RowKit

/-- Values as they are. -/
def asIs (v : Value) : Option (DataW Value × List MemPlace) := some (.held v, [])
/-- Block b is a map of at most n entries whose value at each integer x is S x (none where there is none). -/
def FnMap (w : World) (P : Program) (k : TypeId) (q : IntKind) (b n : Nat) (S : Int → Option Value) : Prop :=
  ∃ D : DataW Value, w.ownsMap P k asIs b n D ∧ Maps.IsMap D ∧ ∀ x z, D.atKey (.int q x) (.held z) = .held ((S x).getD z) ∧ Maps.has D (.int q x) = (S x).isSome
section
variable {P : Program} {k e : TypeId} {q : IntKind} {w : World} {b n : Nat} {S : Int → Option Value}
theorem FnMap.made (w : World) (P : Program) (k : TypeId) (q : IntKind) : FnMap (w.alloc (.map #[] 0)) P k q w.heap.size 0 (fun _ => none) :=
  ⟨.map [], World.ownsMap_made w P k _, ⟨_, rfl⟩, fun _ _ => ⟨rfl, rfl⟩⟩
theorem FnMap.update {t : TypeId} (h : FnMap w P k q b n S) (hk : P.underlying k = some (.int q)) (ht : P.underlying t = some (.map k e)) (hn : n < maxLen) {x : Int} (hx : (Lit.int q x).wf = true) (v : Value) :
    ∃ w', (Instr.mapUpdate t (.map (some b)) (.int q x) v).run P w = .ok () w' ∧ FnMap w' P k q b (n + 1) (fun y => if y = x then some v else S y) ∧ w.grownBy w' (some b) := by
  obtain ⟨D, hown, hD, hat⟩ := h
  obtain ⟨w', hrun, hown', hg⟩ := hown.update (Maps.int_keyed hk) ht hn (Maps.keyOf_int_mk hk hx) (val := v) (d := .held v) (ps := []) rfl
  refine ⟨w', hrun, ⟨_, hown', ?_, fun y z => ?_⟩, hg⟩
  · obtain ⟨l, rfl⟩ := hD
    exact ⟨_, rfl⟩
  · by_cases hy : y = x
    · subst hy
      refine ⟨?_, ?_⟩
      · simp only [if_pos, Option.getD_some]
        exact Maps.atKey_put_same hD (by trivial) _ _
      · simp only [if_pos, Option.isSome_some]
        exact Maps.has_put_same hD (by trivial) _
    · refine ⟨?_, ?_⟩
      · simp only [if_neg hy]
        rw [← (hat y z).1]
        exact Maps.atKey_put_other (fun h => hy (by cases h; rfl)) _ _
      · simp only [if_neg hy]
        rw [← (hat y z).2]
        exact Maps.has_put_other (fun h => hy (by cases h; rfl)) _
end
theorem wpList_insert_fn {P : Program} (w : World) {ops : Array Oper} {rest : List Oper} {o : Oper} {a : Act} {Q : Exit → Act → World → Prop}
    (hg : o.guard = none) (m y : Operand) (t : TypeId) (q : IntKind) (x : Int) (v : Value) (hop : o.op = Op.insert t m (.const (.int q x)) y)
    (k e : TypeId) (hk : P.underlying k = some (.int q)) (ht : P.underlying t = some (.map k e)) (b n : Nat) (S : Int → Option Value)
    (hm : a.eval m = .map (some b)) (hv : a.eval y = v) (h : FnMap w P k q b n S) (hn : n < maxLen) (hx : (Lit.int q x).wf = true)
    (hK : ∀ w', FnMap w' P k q b (n + 1) (fun y => if y = x then some v else S y) → w.grownBy w' (some b) → wpList P ops Q rest (a.put o.dst undef) w') :
    wpList P ops Q (o :: rest) a w := by
  refine wpList_plain hg fun K' hK' => ?_
  obtain ⟨w', hrun, r1, r2⟩ := h.update hk ht hn hx v
  unfold Oper.wp
  have e1 : a.eval (.const (.int q x)) = .int q x := rfl
  simp [execOp, hop, hm, e1, hv, hrun, Result.andThen]
  exact hK' _ _ (hK w' r1 r2)
theorem wpList_lookup_fn {P : Program} (w : World) {ops : Array Oper} {rest : List Oper} {o : Oper} {a : Act} {Q : Exit → Act → World → Prop}
    (hg : o.guard = none) (m x : Operand) (t : TypeId) (hop : o.op = Op.lookup t m x true) (q : IntKind)
    (k e : TypeId) (hk : P.underlying k = some (.int q)) (ht : P.underlying t = some (.map k e)) {z : Value} (hz : (zeroValue e).run P w = .ok z w) (b n : Nat) (S : Int → Option Value) (i : Int)
    (hm : a.eval m = .map (some b)) (h : FnMap w P k q b n S) (hx : a.eval x = .int q i) (hi : (Lit.int q i).wf = true)
    (hK : wpList P ops Q rest (a.put o.dst (.tuple #[(S i).getD z, .bool (S i).isSome])) w) :
    wpList P ops Q (o :: rest) a w := by
  obtain ⟨D, hown, hD, hat⟩ := h
  refine wpList_lookup_own_ok w hg m x t hop k e (Maps.int_keyed hk) ht asIs hz (.held z) [] rfl b n D hm hown (.int q i) (.int q i) hx (Maps.keyOf_int_mk hk hi) fun v ps hv => ?_
  rw [(hat i z).1] at hv
  have e : v = (S i).getD z := by
    unfold asIs at hv
    cases hv
    rfl
  rw [e, (hat i z).2]
  exact hK
end Go.Proofs.YtbflhphjnmhjhaaGreat
/- The program's readers of payloads: all of it, padded, ranks. -/
namespace Go.Proofs.YtbflhphjnmhjhaaGreat
open Go.RowKit Oct Fi Fm
set_option linter.unusedVariables false
set_option linter.unusedSimpArgs false
attribute [local go_sem] i64_and1 i64_and7 i64_and31

set_option maxRecDepth 100000 in
set_option maxHeartbeats 4000000 in
theorem p_takeRest (K F : UInt8) (S la co : Int) (g : Nat) (A : Option Addr) (n c : Nat) (xs : List UInt8) (w : World) (hE : EnvB w [(A, n, xs)] [] [(g, (fr13 K.toNat F.toNat S none 0 0 0 la 0 co none 0 0 false false 0 0), 30)]) (hN : A = none → c = 0) (hn : n ≤ 100000) (hnc : n ≤ c) :
    Calls Tryz.prog 38 #[.pointer (some ⟨g, 0, none⟩), .slice A n c] w fun e w' => ∃ A' c', e = .returned (.agg #[.bool false, .int .i64 0, .int .u32 0]) ∧ w'.heap[g]? = some (.cells (fr13 K.toNat F.toNat S A' n c' 0 la 0 co none 0 0 false false 0 0) 30) ∧ HandS w' w.heap.size A' n c' xs ∧ TurnB g w w' := by
  have hl : xs.length = n := (hE.s (A, n, xs) (by simp)).1.1
  have hgw : g < w.heap.size := hE.lt (y := (g, (fr13 K.toNat F.toNat S none 0 0 0 la 0 co none 0 0 false false 0 0), 30)) (by simp)
  have K0 : Hid (EnvB (w.alloc (.cells #[.bool false, .int .i64 0, .int .u32 0] 34)) [(A, n, xs)] [] [(w.heap.size, #[.bool false, .int .i64 0, .int .u32 0], 34), (g, (fr13 K.toNat F.toNat S none 0 0 0 la 0 co none 0 0 false false 0 0), 30)]) := Lib.hid (hE.box 34 #[.bool false, .int .i64 0, .int .u32 0])
  have B0 : Hid (TurnB g w (w.alloc (.cells #[.bool false, .int .i64 0, .int .u32 0] 34))) := Lib.hid ((TurnB.refl g w).al _)
  have HN := Lib.hid hN
  have HL := Lib.hid hl
  clear hE hN hl
  go_enter Tryz.func38, Tryz.ntmps38
  go_wp2_with (first
    | (go_at_call 35; (with_reducible refine (p_own A n c xs _ ((K0.out.s (A, n, xs) (by simp)).1) HN.out (by omega)).mono ?_); rintro e w1 ⟨v1, rfl, ho, hb⟩; obtain ⟨A1, c1, rfl, hh⟩ := ho.handS HL.out; have K1 := Lib.hid (K0.out.handS hb hh); have B1 : Hid (TurnB g w w1) := Lib.hid (B0.out.callB hb); have HS1 := Lib.hid (hh.2.1.less B0.out.size); have HC1 := Lib.hid hh.2.2; clear ho hh; clear hb K0 B0)
    | (refine at_store 24 (.tmp 9) (.tmp 7) (by rfl) ?_; refine wpList_put (by rfl) 24 (.tmp 9) (.tmp 7) (by rfl) (g) 3 (.slice A1 n c1) (by rfl) (by rfl) 30 _ (fr13 K.toNat F.toNat S A1 n c1 0 la 0 co none 0 0 false false 0 0) (K1.out.row 1 rfl) (by simp [Value.cells]) (by kernel_rfl) info_B (by kernel_rfl) ?_; intro w2 hrow hoth hz hbl; have K2 := Lib.hid (K1.out.turn 1 rfl hrow hoth hz); have B2 : Hid (TurnB g w w2) := Lib.hid (B1.out.putg hoth hz hbl); clear hrow hoth hz hbl K1 B1)
    | (refine at_store 34 (.tmp 4) (.tmp 10) (by rfl) ?_; refine wpList_put (by rfl) 34 (.tmp 4) (.tmp 10) (by rfl) (w.heap.size) 0 (.agg #[.bool false, .int .i64 0, .int .u32 0]) (by rfl) (by rfl) 34 _ #[.bool false, .int .i64 0, .int .u32 0] (K2.out.row 0 rfl) (by simp [Value.cells]) (by kernel_rfl) info_X (by kernel_rfl) ?_; intro w3 hrow hoth hz hbl; have K3 := Lib.hid (K2.out.turn 0 rfl hrow hoth hz); have B3 : Hid (TurnB g w w3) := Lib.hid (B2.out.puto (Nat.le_refl _) hoth hz hbl); clear hrow hoth hz hbl K2 B2))
  exact bodyPost_ret (res_cell1 rfl _ _ _ _ _ _ rfl (K3.out.row 0 rfl) Tryz.underlying34 rfl info_X) rfl ⟨A1, c1, rfl, (K3.out.row 1 rfl), ⟨(K3.out.s (A1, n, xs) (by simp)).1, HS1.out, HC1.out⟩, B3.out⟩
set_option maxRecDepth 100000 in
set_option maxHeartbeats 4000000 in
theorem p_takeData_N (K F : UInt8) (S : Int) (g : Nat) (A : Option Addr) (n c : Nat) (xs : List UInt8) (w : World) (hE : EnvB w [(A, n, xs)] [] [(g, (hF0 K.toNat F.toNat S), 30)]) (hN : A = none → c = 0) (hn : n ≤ 100000) (hnc : n ≤ c) (HP : Hid (∀ w0, Calls Tryz.prog 83 #[.agg (hF0 K.toNat F.toNat S), .int .u8 8] w0 fun e w' => e = .returned (.bool false) ∧ Below w0.heap.size w0 w')) :
    Calls Tryz.prog 59 #[.pointer (some ⟨g, 0, none⟩), .slice A n c] w fun e w' => ∃ A' n' c', e = .returned (.agg #[.bool false, .int .i64 0, .int .u32 0]) ∧ w'.heap[g]? = some (.cells (fr13 K.toNat F.toNat S A' n' c' 0 0 0 0 none 0 0 false false 0 0) 30) ∧ HandS w' w.heap.size A' n' c' (xs) ∧ TurnB g w w' := by
  have hl : xs.length = n := (hE.s (A, n, xs) (by simp)).1.1
  have hgw : g < w.heap.size := hE.lt (y := (g, (hF0 K.toNat F.toNat S), 30)) (by simp)
  have K0 : Hid (EnvB (w.alloc (.cells #[.bool false, .int .i64 0, .int .u32 0] 34)) [(A, n, xs)] [] [(w.heap.size, #[.bool false, .int .i64 0, .int .u32 0], 34), (g, (hF0 K.toNat F.toNat S), 30)]) := Lib.hid (hE.box 34 #[.bool false, .int .i64 0, .int .u32 0])
  have B0 : Hid (TurnB g w (w.alloc (.cells #[.bool false, .int .i64 0, .int .u32 0] 34))) := Lib.hid ((TurnB.refl g w).al _)
  have HN := Lib.hid hN
  have HL := Lib.hid hl
  clear hE hN hl
  go_enter Tryz.func59, Tryz.ntmps59
  go_wp2_with (first
    | (refine at_load 30 (.tmp 9) (by rfl) ?_; refine wpList_load_row (by rfl) 30 (.tmp 9) (by rfl) (g) (by rfl) 30 _ (0, 0) _ (K0.out.row 1 rfl) Tryz.underlying30 (by rfl) info_F ?_)
    | (go_at_call 83; (with_reducible refine (HP.out _).mono ?_); rintro e w1 ⟨rfl, hb⟩; have K1 := Lib.hid (K0.out.on hb); have B1 : Hid (TurnB g w w1) := Lib.hid (B0.out.callB hb); clear hb K0 B0)
    | (go_at_call 38; (with_reducible refine (p_takeRest K F S 0 0 g A n c xs _ ((K1.out.sub (by simp) (by simp) (by simp))) HN.out hn hnc).mono ?_); rintro e w2 ⟨A1, c1, rfl, hrow, hh, ht⟩; have K2 : Hid (EnvB w2 [(A1, n, xs), (A, n, xs)] [] [(w.heap.size, #[.bool false, .int .i64 0, .int .u32 0], 34), (g, (fr13 K.toNat F.toNat S A1 n c1 0 0 0 0 none 0 0 false false 0 0), 30)]) := Lib.hid (K1.out.turnS 1 rfl hrow ht hh); have B2 : Hid (TurnB g w w2) := Lib.hid (B1.out.trans ht); have HS1 := Lib.hid (hh.2.1.less B1.out.size); have HC1 := Lib.hid hh.2.2; clear hh; clear hrow ht K1 B1)
    | (refine at_store 34 (.tmp 4) (.tmp 15) (by rfl) ?_; refine wpList_put (by rfl) 34 (.tmp 4) (.tmp 15) (by rfl) (w.heap.size) 0 (.agg #[.bool false, .int .i64 0, .int .u32 0]) (by rfl) (by rfl) 34 _ #[.bool false, .int .i64 0, .int .u32 0] (K2.out.row 0 rfl) (by simp [Value.cells]) (by kernel_rfl) info_X (by kernel_rfl) ?_; intro w3 hrow hoth hz hbl; have K3 := Lib.hid (K2.out.turn 0 rfl hrow hoth hz); have B3 : Hid (TurnB g w w3) := Lib.hid (B2.out.puto (Nat.le_refl _) hoth hz hbl); clear hrow hoth hz hbl K2 B2))
  exact bodyPost_ret (res_cell1 rfl _ _ _ _ _ _ rfl (K3.out.row 0 rfl) Tryz.underlying34 rfl info_X) rfl ⟨A1, n, c1, rfl, (K3.out.row 1 rfl), ⟨(K3.out.s (A1, n, xs) (by simp)).1, HS1.out, HC1.out⟩, B3.out⟩
set_option maxRecDepth 100000 in
set_option maxHeartbeats 4000000 in
theorem p_takeData_Y (K F : UInt8) (S : Int) (g : Nat) (A : Option Addr) (n c : Nat) (xs : List UInt8) (w : World) (hE : EnvB w [(A, n, xs)] [] [(g, (hF0 K.toNat F.toNat S), 30)]) (hN : A = none → c = 0) (hn : n ≤ 100000) (hnc : n ≤ c) (HP : Hid (∀ w0, Calls Tryz.prog 83 #[.agg (hF0 K.toNat F.toNat S), .int .u8 8] w0 fun e w' => e = .returned (.bool true) ∧ Below w0.heap.size w0 w')) (v1n : Nat) (ys : List UInt8) (pn pe : Int) (hys : ys.length = v1n) (HU : Hid (∀ w0, Bs w0 w0.heap.size A n xs → Calls Tryz.prog 84 #[.slice A n c] w0 fun e w' => ∃ v, e = .returned (.tuple #[v, .int .i64 pn, .int .i64 pe]) ∧ OwnB w' w0.heap.size 5 v ys ∧ Below w0.heap.size w0 w')) (hpe : (pe == 10) = false) (hpe2 : (pe == 11) = false) :
    Calls Tryz.prog 59 #[.pointer (some ⟨g, 0, none⟩), .slice A n c] w fun e w' => ∃ A' n' c', e = .returned (.agg #[.bool false, .int .i64 0, .int .u32 0]) ∧ w'.heap[g]? = some (.cells (fr13 K.toNat F.toNat S A' n' c' pn 0 0 0 none 0 0 false false 0 0) 30) ∧ HandS w' w.heap.size A' n' c' (ys) ∧ TurnB g w w' := by
  have hl : xs.length = n := (hE.s (A, n, xs) (by simp)).1.1
  have hgw : g < w.heap.size := hE.lt (y := (g, (hF0 K.toNat F.toNat S), 30)) (by simp)
  have K0 : Hid (EnvB (w.alloc (.cells #[.bool false, .int .i64 0, .int .u32 0] 34)) [(A, n, xs)] [] [(w.heap.size, #[.bool false, .int .i64 0, .int .u32 0], 34), (g, (hF0 K.toNat F.toNat S), 30)]) := Lib.hid (hE.box 34 #[.bool false, .int .i64 0, .int .u32 0])
  have B0 : Hid (TurnB g w (w.alloc (.cells #[.bool false, .int .i64 0, .int .u32 0] 34))) := Lib.hid ((TurnB.refl g w).al _)
  have HN := Lib.hid hN
  have HL := Lib.hid hl
  clear hE hN hl
  go_enter Tryz.func59, Tryz.ntmps59
  go_wp2_with (first
    | (refine at_load 30 (.tmp 9) (by rfl) ?_; refine wpList_load_row (by rfl) 30 (.tmp 9) (by rfl) (g) (by rfl) 30 _ (0, 0) _ (K0.out.row 1 rfl) Tryz.underlying30 (by rfl) info_F ?_)
    | (go_at_call 83; (with_reducible refine (HP.out _).mono ?_); rintro e w1 ⟨rfl, hb⟩; have K1 := Lib.hid (K0.out.on hb); have B1 : Hid (TurnB g w w1) := Lib.hid (B0.out.callB hb); clear hb K0 B0)
    | (go_at_call 84; (with_reducible refine (HU.out _ ((K1.out.s (A, n, xs) (by simp)).1)).mono ?_); rintro e w2 ⟨v1, rfl, ho, hb⟩; obtain ⟨A1, c1, rfl, hh⟩ := ho.handS hys; have K2 := Lib.hid (K1.out.handS hb hh); have B2 : Hid (TurnB g w w2) := Lib.hid (B1.out.callB hb); have HS1 := Lib.hid (hh.2.1.less B1.out.size); have HC1 := Lib.hid hh.2.2; clear ho hh; clear hb K1 B1)
    | (refine at_store 24 (.tmp 34) (.tmp 31) (by rfl) ?_; refine wpList_put (by rfl) 24 (.tmp 34) (.tmp 31) (by rfl) (g) 3 (.slice A1 v1n c1) (by rfl) (by rfl) 30 _ (fr13 K.toNat F.toNat S A1 v1n c1 0 0 0 0 none 0 0 false false 0 0) (K2.out.row 1 rfl) (by simp [Value.cells]) (by kernel_rfl) info_B (by kernel_rfl) ?_; intro w3 hrow hoth hz hbl; have K3 := Lib.hid (K2.out.turn 1 rfl hrow hoth hz); have B3 : Hid (TurnB g w w3) := Lib.hid (B2.out.putg hoth hz hbl); clear hrow hoth hz hbl K2 B2)
    | (refine at_store 3 (.tmp 36) (.tmp 32) (by rfl) ?_; refine wpList_put (by rfl) 3 (.tmp 36) (.tmp 32) (by rfl) (g) 4 (.int .i64 pn) (by rfl) (by rfl) 30 _ (fr13 K.toNat F.toNat S A1 v1n c1 pn 0 0 0 none 0 0 false false 0 0) (K3.out.row 1 rfl) (by simp [Value.cells]) (by kernel_rfl) info_i (by kernel_rfl) ?_; intro w4 hrow hoth hz hbl; have K4 := Lib.hid (K3.out.turn 1 rfl hrow hoth hz); have B4 : Hid (TurnB g w w4) := Lib.hid (B3.out.putg hoth hz hbl); clear hrow hoth hz hbl K3 B3)
    | (refine at_store 34 (.tmp 4) (.tmp 37) (by rfl) ?_; refine wpList_put (by rfl) 34 (.tmp 4) (.tmp 37) (by rfl) (w.heap.size) 0 (.agg #[.bool false, .int .i64 0, .int .u32 0]) (by rfl) (by rfl) 34 _ #[.bool false, .int .i64 0, .int .u32 0] (K4.out.row 0 rfl) (by simp [Value.cells]) (by kernel_rfl) info_X (by kernel_rfl) ?_; intro w5 hrow hoth hz hbl; have K5 := Lib.hid (K4.out.turn 0 rfl hrow hoth hz); have B5 : Hid (TurnB g w w5) := Lib.hid (B4.out.puto (Nat.le_refl _) hoth hz hbl); clear hrow hoth hz hbl K4 B4))
  exact bodyPost_ret (res_cell1 rfl _ _ _ _ _ _ rfl (K5.out.row 0 rfl) Tryz.underlying34 rfl info_X) rfl ⟨A1, v1n, c1, rfl, (K5.out.row 1 rfl), ⟨(K5.out.s (A1, v1n, ys) (by simp)).1, HS1.out, HC1.out⟩, B5.out⟩
set_option maxRecDepth 100000 in
set_option maxHeartbeats 4000000 in
theorem p_takeData_S (K F : UInt8) (S : Int) (g : Nat) (A : Option Addr) (n c : Nat) (xs : List UInt8) (w : World) (hE : EnvB w [(A, n, xs)] [] [(g, (hF0 K.toNat F.toNat S), 30)]) (hN : A = none → c = 0) (hn : n ≤ 100000) (hnc : n ≤ c) (HP : Hid (∀ w0, Calls Tryz.prog 83 #[.agg (hF0 K.toNat F.toNat S), .int .u8 8] w0 fun e w' => e = .returned (.bool true) ∧ Below w0.heap.size w0 w')) (v1n : Nat) (ys : List UInt8) (pn pe : Int) (hys : ys.length = v1n) (HU : Hid (∀ w0, Bs w0 w0.heap.size A n xs → Calls Tryz.prog 84 #[.slice A n c] w0 fun e w' => ∃ v, e = .returned (.tuple #[v, .int .i64 pn, .int .i64 pe]) ∧ OwnB w' w0.heap.size 5 v ys ∧ Below w0.heap.size w0 w')) (hpe : (pe == 10) = true) :
    Calls Tryz.prog 59 #[.pointer (some ⟨g, 0, none⟩), .slice A n c] w fun e w' => ∃ A' n' c', e = .returned (.agg #[.bool true, .int .i64 0, .int .u32 6]) ∧ w'.heap[g]? = some (.cells (fr13 K.toNat F.toNat S A' n' c' 0 0 0 0 none 0 0 false false 0 0) 30) ∧ HandS w' w.heap.size A' n' c' ([]) ∧ TurnB g w w' := by
  have hl : xs.length = n := (hE.s (A, n, xs) (by simp)).1.1
  have hgw : g < w.heap.size := hE.lt (y := (g, (hF0 K.toNat F.toNat S), 30)) (by simp)
  have K0 : Hid (EnvB (w.alloc (.cells #[.bool false, .int .i64 0, .int .u32 0] 34)) [(A, n, xs)] [] [(w.heap.size, #[.bool false, .int .i64 0, .int .u32 0], 34), (g, (hF0 K.toNat F.toNat S), 30)]) := Lib.hid (hE.box 34 #[.bool false, .int .i64 0, .int .u32 0])
  have B0 : Hid (TurnB g w (w.alloc (.cells #[.bool false, .int .i64 0, .int .u32 0] 34))) := Lib.hid ((TurnB.refl g w).al _)
  have HN := Lib.hid hN
  have HL := Lib.hid hl
  clear hE hN hl
  go_enter Tryz.func59, Tryz.ntmps59
  go_wp2_with (first
    | (refine at_load 30 (.tmp 9) (by rfl) ?_; refine wpList_load_row (by rfl) 30 (.tmp 9) (by rfl) (g) (by rfl) 30 _ (0, 0) _ (K0.out.row 1 rfl) Tryz.underlying30 (by rfl) info_F ?_)
    | (go_at_call 83; (with_reducible refine (HP.out _).mono ?_); rintro e w1 ⟨rfl, hb⟩; have K1 := Lib.hid (K0.out.on hb); have B1 : Hid (TurnB g w w1) := Lib.hid (B0.out.callB hb); clear hb K0 B0)
    | (go_at_call 84; (with_reducible refine (HU.out _ ((K1.out.s (A, n, xs) (by simp)).1)).mono ?_); rintro e w2 ⟨v1, rfl, ho, hb⟩; obtain ⟨A1, c1, rfl, hh⟩ := ho.handS hys; have K2 := Lib.hid (K1.out.handS hb hh); have B2 : Hid (TurnB g w w2) := Lib.hid (B1.out.callB hb); have HS1 := Lib.hid (hh.2.1.less B1.out.size); have HC1 := Lib.hid hh.2.2; clear ho hh; clear hb K1 B1)
    | (go_at_call 16; (with_reducible refine (p_whole _ _).mono ?_); rintro e w3 ⟨rfl, hb⟩; have K3 := Lib.hid (K2.out.on hb); have B3 : Hid (TurnB g w w3) := Lib.hid (B2.out.callB hb); clear hb K2 B2)
    | (refine at_store 34 (.tmp 4) (.tmp 25) (by rfl) ?_; refine wpList_put (by rfl) 34 (.tmp 4) (.tmp 25) (by rfl) (w.heap.size) 0 (.agg #[.bool true, .int .i64 0, .int .u32 6]) (by rfl) (by rfl) 34 _ #[.bool true, .int .i64 0, .int .u32 6] (K3.out.row 0 rfl) (by simp [Value.cells]) (by kernel_rfl) info_X (by kernel_rfl) ?_; intro w4 hrow hoth hz hbl; have K4 := Lib.hid (K3.out.turn 0 rfl hrow hoth hz); have B4 : Hid (TurnB g w w4) := Lib.hid (B3.out.puto (Nat.le_refl _) hoth hz hbl); clear hrow hoth hz hbl K3 B3))
  exact bodyPost_ret (res_cell1 rfl _ _ _ _ _ _ rfl (K4.out.row 0 rfl) Tryz.underlying34 rfl info_X) rfl ⟨none, 0, 0, rfl, (K4.out.row 1 rfl), HandS.nil_ _ _, B4.out⟩
set_option maxRecDepth 100000 in
set_option maxHeartbeats 4000000 in
theorem p_takeData_M (K F : UInt8) (S : Int) (g : Nat) (A : Option Addr) (n c : Nat) (xs : List UInt8) (w : World) (hE : EnvB w [(A, n, xs)] [] [(g, (hF0 K.toNat F.toNat S), 30)]) (hN : A = none → c = 0) (hn : n ≤ 100000) (hnc : n ≤ c) (HP : Hid (∀ w0, Calls Tryz.prog 83 #[.agg (hF0 K.toNat F.toNat S), .int .u8 8] w0 fun e w' => e = .returned (.bool true) ∧ Below w0.heap.size w0 w')) (v1n : Nat) (ys : List UInt8) (pn pe : Int) (hys : ys.length = v1n) (HU : Hid (∀ w0, Bs w0 w0.heap.size A n xs → Calls Tryz.prog 84 #[.slice A n c] w0 fun e w' => ∃ v, e = .returned (.tuple #[v, .int .i64 pn, .int .i64 pe]) ∧ OwnB w' w0.heap.size 5 v ys ∧ Below w0.heap.size w0 w')) (hpe : (pe == 10) = false) (hpe2 : (pe == 11) = true) :
    Calls Tryz.prog 59 #[.pointer (some ⟨g, 0, none⟩), .slice A n c] w fun e w' => ∃ A' n' c', e = .returned (.agg #[.bool true, .int .i64 0, .int .u32 1]) ∧ w'.heap[g]? = some (.cells (fr13 K.toNat F.toNat S A' n' c' 0 0 0 0 none 0 0 false false 0 0) 30) ∧ HandS w' w.heap.size A' n' c' ([]) ∧ TurnB g w w' := by
  have hl : xs.length = n := (hE.s (A, n, xs) (by simp)).1.1
  have hgw : g < w.heap.size := hE.lt (y := (g, (hF0 K.toNat F.toNat S), 30)) (by simp)
  have K0 : Hid (EnvB (w.alloc (.cells #[.bool false, .int .i64 0, .int .u32 0] 34)) [(A, n, xs)] [] [(w.heap.size, #[.bool false, .int .i64 0, .int .u32 0], 34), (g, (hF0 K.toNat F.toNat S), 30)]) := Lib.hid (hE.box 34 #[.bool false, .int .i64 0, .int .u32 0])
  have B0 : Hid (TurnB g w (w.alloc (.cells #[.bool false, .int .i64 0, .int .u32 0] 34))) := Lib.hid ((TurnB.refl g w).al _)
  have HN := Lib.hid hN
  have HL := Lib.hid hl
  clear hE hN hl
  go_enter Tryz.func59, Tryz.ntmps59
  go_wp2_with (first
    | (refine at_load 30 (.tmp 9) (by rfl) ?_; refine wpList_load_row (by rfl) 30 (.tmp 9) (by rfl) (g) (by rfl) 30 _ (0, 0) _ (K0.out.row 1 rfl) Tryz.underlying30 (by rfl) info_F ?_)
    | (go_at_call 83; (with_reducible refine (HP.out _).mono ?_); rintro e w1 ⟨rfl, hb⟩; have K1 := Lib.hid (K0.out.on hb); have B1 : Hid (TurnB g w w1) := Lib.hid (B0.out.callB hb); clear hb K0 B0)
    | (go_at_call 84; (with_reducible refine (HU.out _ ((K1.out.s (A, n, xs) (by simp)).1)).mono ?_); rintro e w2 ⟨v1, rfl, ho, hb⟩; obtain ⟨A1, c1, rfl, hh⟩ := ho.handS hys; have K2 := Lib.hid (K1.out.handS hb hh); have B2 : Hid (TurnB g w w2) := Lib.hid (B1.out.callB hb); have HS1 := Lib.hid (hh.2.1.less B1.out.size); have HC1 := Lib.hid hh.2.2; clear ho hh; clear hb K1 B1)
    | (go_at_call 16; (with_reducible refine (p_whole _ _).mono ?_); rintro e w3 ⟨rfl, hb⟩; have K3 := Lib.hid (K2.out.on hb); have B3 : Hid (TurnB g w w3) := Lib.hid (B2.out.callB hb); clear hb K2 B2)
    | (refine at_store 34 (.tmp 4) (.tmp 28) (by rfl) ?_; refine wpList_put (by rfl) 34 (.tmp 4) (.tmp 28) (by rfl) (w.heap.size) 0 (.agg #[.bool true, .int .i64 0, .int .u32 1]) (by rfl) (by rfl) 34 _ #[.bool true, .int .i64 0, .int .u32 1] (K3.out.row 0 rfl) (by simp [Value.cells]) (by kernel_rfl) info_X (by kernel_rfl) ?_; intro w4 hrow hoth hz hbl; have K4 := Lib.hid (K3.out.turn 0 rfl hrow hoth hz); have B4 : Hid (TurnB g w w4) := Lib.hid (B3.out.puto (Nat.le_refl _) hoth hz hbl); clear hrow hoth hz hbl K3 B3))
  exact bodyPost_ret (res_cell1 rfl _ _ _ _ _ _ rfl (K4.out.row 0 rfl) Tryz.underlying34 rfl info_X) rfl ⟨none, 0, 0, rfl, (K4.out.row 1 rfl), HandS.nil_ _ _, B4.out⟩
set_option maxRecDepth 100000 in
set_option maxHeartbeats 4000000 in
theorem p_takeRank_N (K F : UInt8) (S pd : Int) (a0 : Option Addr) (n0 c0 : Nat) (g : Nat) (A : Option Addr) (n c : Nat) (xs : List UInt8) (w : World) (hE : EnvB w [(A, n, xs)] [] [(g, (fr13 K.toNat F.toNat S a0 n0 c0 pd 0 0 0 none 0 0 false false 0 0), 30)]) (hN : A = none → c = 0) (hn : n ≤ 100000) (hnc : n ≤ c) (ra : Bool) (rd rw re : Int) (ys : List UInt8) (m1 : Nat) (hys : ys.length = m1) (HT : Hid (∀ w0, Bs w0 w0.heap.size A n xs → Calls Tryz.prog 102 #[.slice A n c] w0 fun e w' => ∃ v, e = .returned (.tuple #[.agg #[.bool ra, .int .i64 rd, .int .u8 rw], v, .int .i64 re]) ∧ OwnB w' w0.heap.size 5 v ys ∧ Below w0.heap.size w0 w')) (hre : (re != 0) = true) :
    Calls Tryz.prog 87 #[.pointer (some ⟨g, 0, none⟩), .slice A n c] w fun e w' => e = .returned (.agg #[.bool true, .int .i64 0, .int .u32 1]) ∧ w'.heap[g]? = some (.cells (fr13 K.toNat F.toNat S a0 n0 c0 pd 0 0 0 none 0 0 false false 0 0) 30) ∧ TurnB g w w' := by
  have hl : xs.length = n := (hE.s (A, n, xs) (by simp)).1.1
  have hgw : g < w.heap.size := hE.lt (y := (g, (fr13 K.toNat F.toNat S a0 n0 c0 pd 0 0 0 none 0 0 false false 0 0), 30)) (by simp)
  have K0 : Hid (EnvB (w.alloc (.cells #[.bool false, .int .i64 0, .int .u32 0] 34)) [(A, n, xs)] [] [(w.heap.size, #[.bool false, .int .i64 0, .int .u32 0], 34), (g, (fr13 K.toNat F.toNat S a0 n0 c0 pd 0 0 0 none 0 0 false false 0 0), 30)]) := Lib.hid (hE.box 34 #[.bool false, .int .i64 0, .int .u32 0])
  have B0 : Hid (TurnB g w (w.alloc (.cells #[.bool false, .int .i64 0, .int .u32 0] 34))) := Lib.hid ((TurnB.refl g w).al _)
  have HN := Lib.hid hN
  have HL := Lib.hid hl
  clear hE hN hl
  go_enter Tryz.func87, Tryz.ntmps87
  go_wp2_with (first
    | (go_at_call 102; (with_reducible refine (HT.out _ ((K0.out.s (A, n, xs) (by simp)).1)).mono ?_); rintro e w1 ⟨v1, rfl, ho, hb⟩; obtain ⟨A1, c1, rfl, hh⟩ := ho.handS hys; have K1 := Lib.hid (K0.out.handS hb hh); have B1 : Hid (TurnB g w w1) := Lib.hid (B0.out.callB hb); have HS1 := Lib.hid (hh.2.1.less B0.out.size); have HC1 := Lib.hid hh.2.2; clear ho hh; clear hb K0 B0; have hsz0 := B1.out.size; have K2 := Lib.hid (K1.out.box 28 #[.bool false, .int .i64 0, .int .u8 0]); have B2 : Hid (TurnB g w (w1.alloc (.cells #[.bool false, .int .i64 0, .int .u8 0] 28))) := Lib.hid (B1.out.al (.cells #[.bool false, .int .i64 0, .int .u8 0] 28)); clear K1 B1)
    | (refine at_store 28 (.tmp 5) (.tmp 11) (by rfl) ?_; refine wpList_put (by rfl) 28 (.tmp 5) (.tmp 11) (by rfl) (w1.heap.size) 0 (.agg #[.bool ra, .int .i64 rd, .int .u8 rw]) (by rfl) (by rfl) 28 _ #[.bool ra, .int .i64 rd, .int .u8 rw] (K2.out.row 0 rfl) (by simp [Value.cells]) (by kernel_rfl) info_R (by kernel_rfl) ?_; intro w3 hrow hoth hz hbl; have K3 := Lib.hid (K2.out.turn 0 rfl hrow hoth hz); have B3 : Hid (TurnB g w w3) := Lib.hid (B2.out.puto hsz0 hoth hz hbl); clear hrow hoth hz hbl K2 B2)
    | (go_at_call 16; (with_reducible refine (p_whole _ _).mono ?_); rintro e w4 ⟨rfl, hb⟩; have K4 := Lib.hid (K3.out.on hb); have B4 : Hid (TurnB g w w4) := Lib.hid (B3.out.callB hb); clear hb K3 B3)
    | (refine at_store 34 (.tmp 4) (.tmp 16) (by rfl) ?_; refine wpList_put (by rfl) 34 (.tmp 4) (.tmp 16) (by rfl) (w.heap.size) 0 (.agg #[.bool true, .int .i64 0, .int .u32 1]) (by rfl) (by rfl) 34 _ #[.bool true, .int .i64 0, .int .u32 1] (K4.out.row 1 rfl) (by simp [Value.cells]) (by kernel_rfl) info_X (by kernel_rfl) ?_; intro w5 hrow hoth hz hbl; have K5 := Lib.hid (K4.out.turn 1 rfl hrow hoth hz); have B5 : Hid (TurnB g w w5) := Lib.hid (B4.out.puto (Nat.le_refl _) hoth hz hbl); clear hrow hoth hz hbl K4 B4))
  exact bodyPost_ret (res_cell1 rfl _ _ _ _ _ _ rfl (K5.out.row 1 rfl) Tryz.underlying34 rfl info_X) rfl ⟨rfl, (K5.out.row 2 rfl), B5.out⟩
set_option maxRecDepth 100000 in
set_option maxHeartbeats 4000000 in
theorem p_takeRank_S (K F : UInt8) (S pd : Int) (a0 : Option Addr) (n0 c0 : Nat) (g : Nat) (A : Option Addr) (n c : Nat) (xs : List UInt8) (w : World) (hE : EnvB w [(A, n, xs)] [] [(g, (fr13 K.toNat F.toNat S a0 n0 c0 pd 0 0 0 none 0 0 false false 0 0), 30)]) (hN : A = none → c = 0) (hn : n ≤ 100000) (hnc : n ≤ c) (ra : Bool) (rd rw re : Int) (ys : List UInt8) (m1 : Nat) (hys : ys.length = m1) (HT : Hid (∀ w0, Bs w0 w0.heap.size A n xs → Calls Tryz.prog 102 #[.slice A n c] w0 fun e w' => ∃ v, e = .returned (.tuple #[.agg #[.bool ra, .int .i64 rd, .int .u8 rw], v, .int .i64 re]) ∧ OwnB w' w0.heap.size 5 v ys ∧ Below w0.heap.size w0 w')) (hre : (re != 0) = false) (hrd : (rd == S) = true) :
    Calls Tryz.prog 87 #[.pointer (some ⟨g, 0, none⟩), .slice A n c] w fun e w' => ∃ A' c', e = .returned (.agg #[.bool false, .int .i64 S, .int .u32 1]) ∧ w'.heap[g]? = some (.cells (fr13 K.toNat F.toNat S A' m1 c' pd 0 0 0 none 0 0 true ra rd rw) 30) ∧ HandS w' w.heap.size A' m1 c' ys ∧ TurnB g w w' := by
  have hl : xs.length = n := (hE.s (A, n, xs) (by simp)).1.1
  have hgw : g < w.heap.size := hE.lt (y := (g, (fr13 K.toNat F.toNat S a0 n0 c0 pd 0 0 0 none 0 0 false false 0 0), 30)) (by simp)
  have K0 : Hid (EnvB (w.alloc (.cells #[.bool false, .int .i64 0, .int .u32 0] 34)) [(A, n, xs)] [] [(w.heap.size, #[.bool false, .int .i64 0, .int .u32 0], 34), (g, (fr13 K.toNat F.toNat S a0 n0 c0 pd 0 0 0 none 0 0 false false 0 0), 30)]) := Lib.hid (hE.box 34 #[.bool false, .int .i64 0, .int .u32 0])
  have B0 : Hid (TurnB g w (w.alloc (.cells #[.bool false, .int .i64 0, .int .u32 0] 34))) := Lib.hid ((TurnB.refl g w).al _)
  have HN := Lib.hid hN
  have HL := Lib.hid hl
  clear hE hN hl
  go_enter Tryz.func87, Tryz.ntmps87
  go_wp2_with (first
    | (go_at_call 102; (with_reducible refine (HT.out _ ((K0.out.s (A, n, xs) (by simp)).1)).mono ?_); rintro e w1 ⟨v1, rfl, ho, hb⟩; obtain ⟨A1, c1, rfl, hh⟩ := ho.handS hys; have K1 := Lib.hid (K0.out.handS hb hh); have B1 : Hid (TurnB g w w1) := Lib.hid (B0.out.callB hb); have HS1 := Lib.hid (hh.2.1.less B0.out.size); have HC1 := Lib.hid hh.2.2; clear ho hh; clear hb K0 B0; have hsz0 := B1.out.size; have K2 := Lib.hid (K1.out.box 28 #[.bool false, .int .i64 0, .int .u8 0]); have B2 : Hid (TurnB g w (w1.alloc (.cells #[.bool false, .int .i64 0, .int .u8 0] 28))) := Lib.hid (B1.out.al (.cells #[.bool false, .int .i64 0, .int .u8 0] 28)); clear K1 B1)
    | (refine at_store 28 (.tmp 5) (.tmp 11) (by rfl) ?_; refine wpList_put (by rfl) 28 (.tmp 5) (.tmp 11) (by rfl) (w1.heap.size) 0 (.agg #[.bool ra, .int .i64 rd, .int .u8 rw]) (by rfl) (by rfl) 28 _ #[.bool ra, .int .i64 rd, .int .u8 rw] (K2.out.row 0 rfl) (by simp [Value.cells]) (by kernel_rfl) info_R (by kernel_rfl) ?_; intro w3 hrow hoth hz hbl; have K3 := Lib.hid (K2.out.turn 0 rfl hrow hoth hz); have B3 : Hid (TurnB g w w3) := Lib.hid (B2.out.puto hsz0 hoth hz hbl); clear hrow hoth hz hbl K2 B2))
  obtain ⟨f_0, f_1, f_2, f_3, f_4, f_5, f_6, f_7, f_8, f_9, f_10, f_11, f_12⟩ := c13_row (K3.out.row 2 rfl)
  obtain ⟨r_0, r_1, r_2⟩ := c3_row (K3.out.row 0 rfl)
  have zf := fun j => frozen_of_row _ _ j _ _ (K3.out.row 2 rfl)
  have nrf : w1.heap.size ≠ g := K3.out.ne 0 2 rfl rfl (by decide)
  have nfr := nrf.symm
  have KA0 : EnvB (w3.setCells g 9 [.bool true]) [(A1, m1, ys), (A, n, xs)] [] _ := K3.out.turn 2 rfl (show _ = some (Obj.cells (fr13 K.toNat F.toNat S a0 n0 c0 pd 0 0 0 none 0 0 true false 0 0) 30) from setCells_row g _ [.bool true] 9 _ _ (K3.out.row 2 rfl)) (setCells_other g [.bool true] 9 _) (setCells_size g [.bool true] 9 _)
  have BA0 : TurnB g w (w3.setCells g 9 [.bool true]) := B3.out.putg (setCells_other g [.bool true] 9 _) (setCells_size g [.bool true] 9 _) (fun B w0 hB hb => setCells_below hB _ _ _ w0 hb)
  have KA1 : EnvB ((w3.setCells g 9 [.bool true]).setCells g 10 [.bool ra, .int .i64 rd, .int .u8 rw]) [(A1, m1, ys), (A, n, xs)] [] _ := KA0.turn 2 rfl (show _ = some (Obj.cells (fr13 K.toNat F.toNat S a0 n0 c0 pd 0 0 0 none 0 0 true ra rd rw) 30) from setCells_row g _ [.bool ra, .int .i64 rd, .int .u8 rw] 10 _ _ (KA0.row 2 rfl)) (setCells_other g [.bool ra, .int .i64 rd, .int .u8 rw] 10 _) (setCells_size g [.bool ra, .int .i64 rd, .int .u8 rw] 10 _)
  have BA1 : TurnB g w ((w3.setCells g 9 [.bool true]).setCells g 10 [.bool ra, .int .i64 rd, .int .u8 rw]) := BA0.putg (setCells_other g [.bool ra, .int .i64 rd, .int .u8 rw] 10 _) (setCells_size g [.bool ra, .int .i64 rd, .int .u8 rw] 10 _) (fun B w0 hB hb => setCells_below hB _ _ _ w0 hb)
  have KA2 : EnvB (((w3.setCells g 9 [.bool true]).setCells g 10 [.bool ra, .int .i64 rd, .int .u8 rw]).setCells g 3 [.slice A1 m1 c1]) [(A1, m1, ys), (A, n, xs)] [] _ := KA1.turn 2 rfl (show _ = some (Obj.cells (fr13 K.toNat F.toNat S A1 m1 c1 pd 0 0 0 none 0 0 true ra rd rw) 30) from setCells_row g _ [.slice A1 m1 c1] 3 _ _ (KA1.row 2 rfl)) (setCells_other g [.slice A1 m1 c1] 3 _) (setCells_size g [.slice A1 m1 c1] 3 _)
  have BA2 : TurnB g w (((w3.setCells g 9 [.bool true]).setCells g 10 [.bool ra, .int .i64 rd, .int .u8 rw]).setCells g 3 [.slice A1 m1 c1]) := BA1.putg (setCells_other g [.slice A1 m1 c1] 3 _) (setCells_size g [.slice A1 m1 c1] 3 _) (fun B w0 hB hb => setCells_below hB _ _ _ w0 hb)
  have KD := KA2.drew
  have BD := BA2.callB (Below.refl _ _).drew
  simp only [World.setCells, Nat.reduceAdd] at KD BD
  have K4 := Lib.hid KD
  have B4 := Lib.hid BD
  clear KA0 KA1 KA2 BA0 BA1 BA2 KD BD K3 B3
  go_region
  all_goals
    go_wp2
    clear f_0 f_1 f_2 f_3 f_4 f_5 f_6 f_7 f_8 f_9 f_10 f_11 f_12 r_0 r_1 r_2 zf
    obtain ⟨f_0, f_1, f_2, f_3, f_4, f_5, f_6, f_7, f_8, f_9, f_10, f_11, f_12⟩ := c13_row (K4.out.row 2 rfl)
    obtain ⟨r_0, r_1, r_2⟩ := c3_row (K4.out.row 0 rfl)
    go_region
    all_goals
      have K5 := Lib.hid K4.out.drew
      have B5 := Lib.hid (B4.out.callB (Below.refl _ _).drew)
      clear K4 B4 f_0 f_1 f_2 f_3 f_4 f_5 f_6 f_7 f_8 f_9 f_10 f_11 f_12 r_0 r_1 r_2
      go_wp2_with (first
        | (refine at_load 3 (.tmp 37) (by rfl) ?_; refine wpList_get (by rfl) 3 (.tmp 37) (by rfl) (g) 2 (by rfl) 30 _ (.int .i64 S) _ (K5.out.row 2 rfl) (by rfl) Tryz.underlying3 (by rfl) ?_)
        | (go_at_call 18; (with_reducible refine (p_of _ _ _).mono ?_); rintro e w6 ⟨rfl, hb⟩; have K6 := Lib.hid (K5.out.on hb); have B6 : Hid (TurnB g w w6) := Lib.hid (B5.out.callB hb); clear hb K5 B5)
        | (refine at_store 34 (.tmp 4) (.tmp 39) (by rfl) ?_; refine wpList_put (by rfl) 34 (.tmp 4) (.tmp 39) (by rfl) (w.heap.size) 0 (.agg #[.bool false, .int .i64 S, .int .u32 1]) (by rfl) (by rfl) 34 _ #[.bool false, .int .i64 S, .int .u32 1] (K6.out.row 1 rfl) (by simp [Value.cells]) (by kernel_rfl) info_X (by kernel_rfl) ?_; intro w7 hrow hoth hz hbl; have K7 := Lib.hid (K6.out.turn 1 rfl hrow hoth hz); have B7 : Hid (TurnB g w w7) := Lib.hid (B6.out.puto (Nat.le_refl _) hoth hz hbl); clear hrow hoth hz hbl K6 B6))
      exact bodyPost_ret (res_cell1 rfl _ _ _ _ _ _ rfl (K7.out.row 1 rfl) Tryz.underlying34 rfl info_X) rfl ⟨A1, c1, rfl, (K7.out.row 2 rfl), ⟨(K7.out.s (A1, m1, ys) (by simp)).1, HS1.out, HC1.out⟩, B7.out⟩
set_option maxRecDepth 100000 in
set_option maxHeartbeats 4000000 in
theorem p_takeRank_Y (K F : UInt8) (S pd : Int) (a0 : Option Addr) (n0 c0 : Nat) (g : Nat) (A : Option Addr) (n c : Nat) (xs : List UInt8) (w : World) (hE : EnvB w [(A, n, xs)] [] [(g, (fr13 K.toNat F.toNat S a0 n0 c0 pd 0 0 0 none 0 0 false false 0 0), 30)]) (hN : A = none → c = 0) (hn : n ≤ 100000) (hnc : n ≤ c) (ra : Bool) (rd rw re : Int) (ys : List UInt8) (m1 : Nat) (hys : ys.length = m1) (HT : Hid (∀ w0, Bs w0 w0.heap.size A n xs → Calls Tryz.prog 102 #[.slice A n c] w0 fun e w' => ∃ v, e = .returned (.tuple #[.agg #[.bool ra, .int .i64 rd, .int .u8 rw], v, .int .i64 re]) ∧ OwnB w' w0.heap.size 5 v ys ∧ Below w0.heap.size w0 w')) (hre : (re != 0) = false) (hrd : (rd == S) = false) :
    Calls Tryz.prog 87 #[.pointer (some ⟨g, 0, none⟩), .slice A n c] w fun e w' => ∃ A' c', e = .returned (.agg #[.bool false, .int .i64 0, .int .u32 0]) ∧ w'.heap[g]? = some (.cells (fr13 K.toNat F.toNat S A' m1 c' pd 0 0 0 none 0 0 true ra rd rw) 30) ∧ HandS w' w.heap.size A' m1 c' ys ∧ TurnB g w w' := by
  have hl : xs.length = n := (hE.s (A, n, xs) (by simp)).1.1
  have hgw : g < w.heap.size := hE.lt (y := (g, (fr13 K.toNat F.toNat S a0 n0 c0 pd 0 0 0 none 0 0 false false 0 0), 30)) (by simp)
  have K0 : Hid (EnvB (w.alloc (.cells #[.bool false, .int .i64 0, .int .u32 0] 34)) [(A, n, xs)] [] [(w.heap.size, #[.bool false, .int .i64 0, .int .u32 0], 34), (g, (fr13 K.toNat F.toNat S a0 n0 c0 pd 0 0 0 none 0 0 false false 0 0), 30)]) := Lib.hid (hE.box 34 #[.bool false, .int .i64 0, .int .u32 0])
  have B0 : Hid (TurnB g w (w.alloc (.cells #[.bool false, .int .i64 0, .int .u32 0] 34))) := Lib.hid ((TurnB.refl g w).al _)
  have HN := Lib.hid hN
  have HL := Lib.hid hl
  clear hE hN hl
  go_enter Tryz.func87, Tryz.ntmps87
  go_wp2_with (first
    | (go_at_call 102; (with_reducible refine (HT.out _ ((K0.out.s (A, n, xs) (by simp)).1)).mono ?_); rintro e w1 ⟨v1, rfl, ho, hb⟩; obtain ⟨A1, c1, rfl, hh⟩ := ho.handS hys; have K1 := Lib.hid (K0.out.handS hb hh); have B1 : Hid (TurnB g w w1) := Lib.hid (B0.out.callB hb); have HS1 := Lib.hid (hh.2.1.less B0.out.size); have HC1 := Lib.hid hh.2.2; clear ho hh; clear hb K0 B0; have hsz0 := B1.out.size; have K2 := Lib.hid (K1.out.box 28 #[.bool false, .int .i64 0, .int .u8 0]); have B2 : Hid (TurnB g w (w1.alloc (.cells #[.bool false, .int .i64 0, .int .u8 0] 28))) := Lib.hid (B1.out.al (.cells #[.bool false, .int .i64 0, .int .u8 0] 28)); clear K1 B1)
    | (refine at_store 28 (.tmp 5) (.tmp 11) (by rfl) ?_; refine wpList_put (by rfl) 28 (.tmp 5) (.tmp 11) (by rfl) (w1.heap.size) 0 (.agg #[.bool ra, .int .i64 rd, .int .u8 rw]) (by rfl) (by rfl) 28 _ #[.bool ra, .int .i64 rd, .int .u8 rw] (K2.out.row 0 rfl) (by simp [Value.cells]) (by kernel_rfl) info_R (by kernel_rfl) ?_; intro w3 hrow hoth hz hbl; have K3 := Lib.hid (K2.out.turn 0 rfl hrow hoth hz); have B3 : Hid (TurnB g w w3) := Lib.hid (B2.out.puto hsz0 hoth hz hbl); clear hrow hoth hz hbl K2 B2))
  obtain ⟨f_0, f_1, f_2, f_3, f_4, f_5, f_6, f_7, f_8, f_9, f_10, f_11, f_12⟩ := c13_row (K3.out.row 2 rfl)
  obtain ⟨r_0, r_1, r_2⟩ := c3_row (K3.out.row 0 rfl)
  have zf := fun j => frozen_of_row _ _ j _ _ (K3.out.row 2 rfl)
  have nrf : w1.heap.size ≠ g := K3.out.ne 0 2 rfl rfl (by decide)
  have nfr := nrf.symm
  have KA0 : EnvB (w3.setCells g 9 [.bool true]) [(A1, m1, ys), (A, n, xs)] [] _ := K3.out.turn 2 rfl (show _ = some (Obj.cells (fr13 K.toNat F.toNat S a0 n0 c0 pd 0 0 0 none 0 0 true false 0 0) 30) from setCells_row g _ [.bool true] 9 _ _ (K3.out.row 2 rfl)) (setCells_other g [.bool true] 9 _) (setCells_size g [.bool true] 9 _)
  have BA0 : TurnB g w (w3.setCells g 9 [.bool true]) := B3.out.putg (setCells_other g [.bool true] 9 _) (setCells_size g [.bool true] 9 _) (fun B w0 hB hb => setCells_below hB _ _ _ w0 hb)
  have KA1 : EnvB ((w3.setCells g 9 [.bool true]).setCells g 10 [.bool ra, .int .i64 rd, .int .u8 rw]) [(A1, m1, ys), (A, n, xs)] [] _ := KA0.turn 2 rfl (show _ = some (Obj.cells (fr13 K.toNat F.toNat S a0 n0 c0 pd 0 0 0 none 0 0 true ra rd rw) 30) from setCells_row g _ [.bool ra, .int .i64 rd, .int .u8 rw] 10 _ _ (KA0.row 2 rfl)) (setCells_other g [.bool ra, .int .i64 rd, .int .u8 rw] 10 _) (setCells_size g [.bool ra, .int .i64 rd, .int .u8 rw] 10 _)
  have BA1 : TurnB g w ((w3.setCells g 9 [.bool true]).setCells g 10 [.bool ra, .int .i64 rd, .int .u8 rw]) := BA0.putg (setCells_other g [.bool ra, .int .i64 rd, .int .u8 rw] 10 _) (setCells_size g [.bool ra, .int .i64 rd, .int .u8 rw] 10 _) (fun B w0 hB hb => setCells_below hB _ _ _ w0 hb)
  have KA2 : EnvB (((w3.setCells g 9 [.bool true]).setCells g 10 [.bool ra, .int .i64 rd, .int .u8 rw]).setCells g 3 [.slice A1 m1 c1]) [(A1, m1, ys), (A, n, xs)] [] _ := KA1.turn 2 rfl (show _ = some (Obj.cells (fr13 K.toNat F.toNat S A1 m1 c1 pd 0 0 0 none 0 0 true ra rd rw) 30) from setCells_row g _ [.slice A1 m1 c1] 3 _ _ (KA1.row 2 rfl)) (setCells_other g [.slice A1 m1 c1] 3 _) (setCells_size g [.slice A1 m1 c1] 3 _)
  have BA2 : TurnB g w (((w3.setCells g 9 [.bool true]).setCells g 10 [.bool ra, .int .i64 rd, .int .u8 rw]).setCells g 3 [.slice A1 m1 c1]) := BA1.putg (setCells_other g [.slice A1 m1 c1] 3 _) (setCells_size g [.slice A1 m1 c1] 3 _) (fun B w0 hB hb => setCells_below hB _ _ _ w0 hb)
  have KD := KA2.drew
  have BD := BA2.callB (Below.refl _ _).drew
  simp only [World.setCells, Nat.reduceAdd] at KD BD
  have K4 := Lib.hid KD
  have B4 := Lib.hid BD
  clear KA0 KA1 KA2 BA0 BA1 BA2 KD BD K3 B3
  go_region
  all_goals
    go_wp2
    clear f_0 f_1 f_2 f_3 f_4 f_5 f_6 f_7 f_8 f_9 f_10 f_11 f_12 r_0 r_1 r_2 zf
    obtain ⟨f_0, f_1, f_2, f_3, f_4, f_5, f_6, f_7, f_8, f_9, f_10, f_11, f_12⟩ := c13_row (K4.out.row 2 rfl)
    obtain ⟨r_0, r_1, r_2⟩ := c3_row (K4.out.row 0 rfl)
    go_region
    all_goals
      have K5 := Lib.hid K4.out.drew
      have B5 := Lib.hid (B4.out.callB (Below.refl _ _).drew)
      clear K4 B4 f_0 f_1 f_2 f_3 f_4 f_5 f_6 f_7 f_8 f_9 f_10 f_11 f_12 r_0 r_1 r_2
      go_wp2_with (first
        | (refine at_store 34 (.tmp 4) (.tmp 40) (by rfl) ?_; refine wpList_put (by rfl) 34 (.tmp 4) (.tmp 40) (by rfl) (w.heap.size) 0 (.agg #[.bool false, .int .i64 0, .int .u32 0]) (by rfl) (by rfl) 34 _ #[.bool false, .int .i64 0, .int .u32 0] (K5.out.row 1 rfl) (by simp [Value.cells]) (by kernel_rfl) info_X (by kernel_rfl) ?_; intro w6 hrow hoth hz hbl; have K6 := Lib.hid (K5.out.turn 1 rfl hrow hoth hz); have B6 : Hid (TurnB g w w6) := Lib.hid (B5.out.puto (Nat.le_refl _) hoth hz hbl); clear hrow hoth hz hbl K5 B5))
      exact bodyPost_ret (res_cell1 rfl _ _ _ _ _ _ rfl (K6.out.row 1 rfl) Tryz.underlying34 rfl info_X) rfl ⟨A1, c1, rfl, (K6.out.row 2 rfl), ⟨(K6.out.s (A1, m1, ys) (by simp)).1, HS1.out, HC1.out⟩, B6.out⟩
end Go.Proofs.YtbflhphjnmhjhaaGreat
/- The program's readers of payloads: headers, priorities, numbers. -/
namespace Go.Proofs.YtbflhphjnmhjhaaGreat
open Go.RowKit Oct Fi Fm
set_option linter.unusedVariables false
set_option linter.unusedSimpArgs false
attribute [local go_sem] i64_and1 i64_and7 i64_and31

set_option maxRecDepth 100000 in
set_option maxHeartbeats 4000000 in
theorem p_takeHeaders_0 (K F : UInt8) (S : Int) (g : Nat) (A : Option Addr) (n c : Nat) (xs : List UInt8) (w : World) (hE : EnvB w [(A, n, xs)] [] [(g, (hF0 K.toNat F.toNat S), 30)]) (hN : A = none → c = 0) (hn : n ≤ 100000) (hnc : n ≤ c) (nl : Nat) (HLE : Hid (∀ w0, Calls Tryz.prog 86 #[.agg (hF0 K.toNat F.toNat S)] w0 fun e w' => e = .returned (.int .i64 (nl : Nat)) ∧ Below w0.heap.size w0 w')) (hlt : (n : Int) < (nl : Int)) :
    Calls Tryz.prog 61 #[.pointer (some ⟨g, 0, none⟩), .slice A n c] w fun e w' => e = .returned (.agg #[.bool true, .int .i64 0, .int .u32 6]) ∧ w'.heap[g]? = some (.cells (hF0 K.toNat F.toNat S) 30) ∧ TurnB g w w' := by
  have hl : xs.length = n := (hE.s (A, n, xs) (by simp)).1.1
  have hgw : g < w.heap.size := hE.lt (y := (g, (hF0 K.toNat F.toNat S), 30)) (by simp)
  have K0 : Hid (EnvB (w.alloc (.cells #[.bool false, .int .i64 0, .int .u32 0] 34)) [(A, n, xs)] [] [(w.heap.size, #[.bool false, .int .i64 0, .int .u32 0], 34), (g, (hF0 K.toNat F.toNat S), 30)]) := Lib.hid (hE.box 34 #[.bool false, .int .i64 0, .int .u32 0])
  have B0 : Hid (TurnB g w (w.alloc (.cells #[.bool false, .int .i64 0, .int .u32 0] 34))) := Lib.hid ((TurnB.refl g w).al _)
  have HN := Lib.hid hN
  have HL := Lib.hid hl
  clear hE hN hl
  go_enter Tryz.func61, Tryz.ntmps61
  go_wp2_with (first
    | (refine at_load 30 (.tmp 9) (by rfl) ?_; refine wpList_load_row (by rfl) 30 (.tmp 9) (by rfl) (g) (by rfl) 30 _ (0, 0) _ (K0.out.row 1 rfl) Tryz.underlying30 (by rfl) info_F ?_)
    | (go_at_call 86; (with_reducible refine (HLE.out _).mono ?_); rintro e w1 ⟨rfl, hb⟩; have K1 := Lib.hid (K0.out.on hb); have B1 : Hid (TurnB g w w1) := Lib.hid (B0.out.callB hb); clear hb K0 B0)
    | (go_at_call 16; (with_reducible refine (p_whole _ _).mono ?_); rintro e w2 ⟨rfl, hb⟩; have K2 := Lib.hid (K1.out.on hb); have B2 : Hid (TurnB g w w2) := Lib.hid (B1.out.callB hb); clear hb K1 B1)
    | (refine at_store 34 (.tmp 4) (.tmp 13) (by rfl) ?_; refine wpList_put (by rfl) 34 (.tmp 4) (.tmp 13) (by rfl) (w.heap.size) 0 (.agg #[.bool true, .int .i64 0, .int .u32 6]) (by rfl) (by rfl) 34 _ #[.bool true, .int .i64 0, .int .u32 6] (K2.out.row 0 rfl) (by simp [Value.cells]) (by kernel_rfl) info_X (by kernel_rfl) ?_; intro w3 hrow hoth hz hbl; have K3 := Lib.hid (K2.out.turn 0 rfl hrow hoth hz); have B3 : Hid (TurnB g w w3) := Lib.hid (B2.out.puto (Nat.le_refl _) hoth hz hbl); clear hrow hoth hz hbl K2 B2))
  exact bodyPost_ret (res_cell1 rfl _ _ _ _ _ _ rfl (K3.out.row 0 rfl) Tryz.underlying34 rfl info_X) rfl ⟨rfl, (K3.out.row 1 rfl), B3.out⟩
set_option maxRecDepth 100000 in
set_option maxHeartbeats 4000000 in
theorem p_takeHeaders_W (K F : UInt8) (S : Int) (g : Nat) (A : Option Addr) (n c : Nat) (xs : List UInt8) (w : World) (hE : EnvB w [(A, n, xs)] [] [(g, (hF0 K.toNat F.toNat S), 30)]) (hN : A = none → c = 0) (hn : n ≤ 100000) (hnc : n ≤ c) (nl : Nat) (HLE : Hid (∀ w0, Calls Tryz.prog 86 #[.agg (hF0 K.toNat F.toNat S)] w0 fun e w' => e = .returned (.int .i64 (nl : Nat)) ∧ Below w0.heap.size w0 w')) (hlt : ¬ (n : Int) < (nl : Int)) (pd : Int) (m1 : Nat) (ys : List UInt8) (x0 : Bool) (x1 x2 : Int) (hx0 : x0 = true) (HD : Hid (∀ w0, EnvB w0 [(A, n, xs)] [] [(g, (hF0 K.toNat F.toNat S), 30)] → Calls Tryz.prog 59 #[.pointer (some ⟨g, 0, none⟩), .slice A n c] w0 fun e w' => ∃ A' c', e = .returned (.agg #[.bool x0, .int .i64 x1, .int .u32 x2]) ∧ w'.heap[g]? = some (.cells (fr13 K.toNat F.toNat S A' m1 c' pd 0 0 0 none 0 0 false false 0 0) 30) ∧ HandS w' w0.heap.size A' m1 c' ys ∧ TurnB g w0 w')) :
    Calls Tryz.prog 61 #[.pointer (some ⟨g, 0, none⟩), .slice A n c] w fun e w' => ∃ A' c', e = .returned (.agg #[.bool x0, .int .i64 x1, .int .u32 x2]) ∧ w'.heap[g]? = some (.cells (fr13 K.toNat F.toNat S A' m1 c' pd 0 0 0 none 0 0 false false 0 0) 30) ∧ HandS w' w.heap.size A' m1 c' ys ∧ TurnB g w w' := by
  have hl : xs.length = n := (hE.s (A, n, xs) (by simp)).1.1
  have hgw : g < w.heap.size := hE.lt (y := (g, (hF0 K.toNat F.toNat S), 30)) (by simp)
  have K0 : Hid (EnvB (w.alloc (.cells #[.bool false, .int .i64 0, .int .u32 0] 34)) [(A, n, xs)] [] [(w.heap.size, #[.bool false, .int .i64 0, .int .u32 0], 34), (g, (hF0 K.toNat F.toNat S), 30)]) := Lib.hid (hE.box 34 #[.bool false, .int .i64 0, .int .u32 0])
  have B0 : Hid (TurnB g w (w.alloc (.cells #[.bool false, .int .i64 0, .int .u32 0] 34))) := Lib.hid ((TurnB.refl g w).al _)
  have HN := Lib.hid hN
  have HL := Lib.hid hl
  clear hE hN hl
  subst hx0
  go_enter Tryz.func61, Tryz.ntmps61
  go_wp2_with (first
    | (refine at_load 30 (.tmp 9) (by rfl) ?_; refine wpList_load_row (by rfl) 30 (.tmp 9) (by rfl) (g) (by rfl) 30 _ (0, 0) _ (K0.out.row 1 rfl) Tryz.underlying30 (by rfl) info_F ?_)
    | (go_at_call 86; (with_reducible refine (HLE.out _).mono ?_); rintro e w1 ⟨rfl, hb⟩; have K1 := Lib.hid (K0.out.on hb); have B1 : Hid (TurnB g w w1) := Lib.hid (B0.out.callB hb); clear hb K0 B0)
    | (go_at_call 59; (with_reducible refine (HD.out _ (EnvB.sub (ss' := [(A, n, xs)]) (ps' := []) (gs' := [(g, (hF0 K.toNat F.toNat S), 30)]) K1.out (by simp) (by simp) (by simp))).mono ?_); rintro e w2 ⟨A1, c1, rfl, hrow, hh, ht⟩; have K2 : Hid (EnvB w2 [(A1, m1, ys), (A, n, xs)] [] [(w.heap.size, #[.bool false, .int .i64 0, .int .u32 0], 34), (g, (fr13 K.toNat F.toNat S A1 m1 c1 pd 0 0 0 none 0 0 false false 0 0), 30)]) := Lib.hid (K1.out.turnS 1 rfl hrow ht hh); have B2 : Hid (TurnB g w w2) := Lib.hid (B1.out.trans ht); have HS1 := Lib.hid (hh.2.1.less B1.out.size); have HC1 := Lib.hid hh.2.2; clear hh; clear hrow ht K1 B1; have hsx := B2.out.size; have K3 := Lib.hid (K2.out.box 34 #[.bool false, .int .i64 0, .int .u32 0]); have B3 : Hid (TurnB g w (w2.alloc (.cells #[.bool false, .int .i64 0, .int .u32 0] 34))) := Lib.hid (B2.out.al (.cells #[.bool false, .int .i64 0, .int .u32 0] 34)); clear K2 B2)
    | (refine at_store 34 (.tmp 5) (.tmp 16) (by rfl) ?_; refine wpList_put (by rfl) 34 (.tmp 5) (.tmp 16) (by rfl) (w2.heap.size) 0 (.agg #[.bool true, .int .i64 x1, .int .u32 x2]) (by rfl) (by rfl) 34 _ #[.bool true, .int .i64 x1, .int .u32 x2] (K3.out.row 0 rfl) (by simp [Value.cells]) (by kernel_rfl) info_X (by kernel_rfl) ?_; intro w4 hrow hoth hz hbl; have K4 := Lib.hid (K3.out.turn 0 rfl hrow hoth hz); have B4 : Hid (TurnB g w w4) := Lib.hid (B3.out.puto hsx hoth hz hbl); clear hrow hoth hz hbl K3 B3; obtain ⟨f_0, f_1, f_2, f_3, f_4, f_5, f_6, f_7, f_8, f_9, f_10, f_11, f_12⟩ := c13_row (K4.out.row 2 rfl))
    | (refine at_load 4 (.tmp 17) (by rfl) ?_; refine wpList_get (by rfl) 4 (.tmp 17) (by rfl) (w2.heap.size) 0 (by rfl) 34 _ (.bool true) _ (K4.out.row 0 rfl) (by rfl) Tryz.underlying4 (by rfl) ?_)
    | (refine at_load 34 (.tmp 5) (by rfl) ?_; refine wpList_load_row (by rfl) 34 (.tmp 5) (by rfl) (w2.heap.size) (by rfl) 34 _ (0, 0) _ (K4.out.row 0 rfl) Tryz.underlying34 (by rfl) info_X ?_)
    | (refine at_store 34 (.tmp 4) (.tmp 26) (by rfl) ?_; refine wpList_put (by rfl) 34 (.tmp 4) (.tmp 26) (by rfl) (w.heap.size) 0 (.agg #[.bool true, .int .i64 x1, .int .u32 x2]) (by rfl) (by rfl) 34 _ #[.bool true, .int .i64 x1, .int .u32 x2] (K4.out.row 1 rfl) (by simp [Value.cells]) (by kernel_rfl) info_X (by kernel_rfl) ?_; intro w5 hrow hoth hz hbl; have K5 := Lib.hid (K4.out.turn 1 rfl hrow hoth hz); have B5 : Hid (TurnB g w w5) := Lib.hid (B4.out.puto (Nat.le_refl _) hoth hz hbl); clear hrow hoth hz hbl K4 B4))
  exact bodyPost_ret (res_cell1 rfl _ _ _ _ _ _ rfl (K5.out.row 1 rfl) Tryz.underlying34 rfl info_X) rfl ⟨A1, c1, rfl, (K5.out.row 2 rfl), ⟨(K5.out.s (A1, m1, ys) (by simp)).1, HS1.out, HC1.out⟩, B5.out⟩
set_option maxRecDepth 100000 in
set_option maxHeartbeats 4000000 in
theorem p_takeHeaders_N (K F : UInt8) (S : Int) (g : Nat) (A : Option Addr) (n c : Nat) (xs : List UInt8) (w : World) (hE : EnvB w [(A, n, xs)] [] [(g, (hF0 K.toNat F.toNat S), 30)]) (hN : A = none → c = 0) (hn : n ≤ 100000) (hnc : n ≤ c) (nl : Nat) (HLE : Hid (∀ w0, Calls Tryz.prog 86 #[.agg (hF0 K.toNat F.toNat S)] w0 fun e w' => e = .returned (.int .i64 (nl : Nat)) ∧ Below w0.heap.size w0 w')) (hlt : ¬ (n : Int) < (nl : Int)) (pd : Int) (m1 : Nat) (ys : List UInt8) (x0 : Bool) (x1 x2 : Int) (hx0 : x0 = false) (HD : Hid (∀ w0, EnvB w0 [(A, n, xs)] [] [(g, (hF0 K.toNat F.toNat S), 30)] → Calls Tryz.prog 59 #[.pointer (some ⟨g, 0, none⟩), .slice A n c] w0 fun e w' => ∃ A' c', e = .returned (.agg #[.bool x0, .int .i64 x1, .int .u32 x2]) ∧ w'.heap[g]? = some (.cells (fr13 K.toNat F.toNat S A' m1 c' pd 0 0 0 none 0 0 false false 0 0) 30) ∧ HandS w' w0.heap.size A' m1 c' ys ∧ TurnB g w0 w')) (HP : Hid (∀ a1 c1 w0, Calls Tryz.prog 83 #[.agg (fr13 K.toNat F.toNat S a1 m1 c1 pd 0 0 0 none 0 0 false false 0 0), .int .u8 32] w0 fun e w' => e = .returned (.bool false) ∧ Below w0.heap.size w0 w')) :
    Calls Tryz.prog 61 #[.pointer (some ⟨g, 0, none⟩), .slice A n c] w fun e w' => ∃ A' c', e = .returned (.agg #[.bool x0, .int .i64 x1, .int .u32 x2]) ∧ w'.heap[g]? = some (.cells (fr13 K.toNat F.toNat S A' m1 c' pd 0 0 0 none 0 0 false false 0 0) 30) ∧ HandS w' w.heap.size A' m1 c' ys ∧ TurnB g w w' := by
  have hl : xs.length = n := (hE.s (A, n, xs) (by simp)).1.1
  have hgw : g < w.heap.size := hE.lt (y := (g, (hF0 K.toNat F.toNat S), 30)) (by simp)
  have K0 : Hid (EnvB (w.alloc (.cells #[.bool false, .int .i64 0, .int .u32 0] 34)) [(A, n, xs)] [] [(w.heap.size, #[.bool false, .int .i64 0, .int .u32 0], 34), (g, (hF0 K.toNat F.toNat S), 30)]) := Lib.hid (hE.box 34 #[.bool false, .int .i64 0, .int .u32 0])
  have B0 : Hid (TurnB g w (w.alloc (.cells #[.bool false, .int .i64 0, .int .u32 0] 34))) := Lib.hid ((TurnB.refl g w).al _)
  have HN := Lib.hid hN
  have HL := Lib.hid hl
  clear hE hN hl
  subst hx0
  go_enter Tryz.func61, Tryz.ntmps61
  go_wp2_with (first
    | (refine at_load 30 (.tmp 9) (by rfl) ?_; refine wpList_load_row (by rfl) 30 (.tmp 9) (by rfl) (g) (by rfl) 30 _ (0, 0) _ (K0.out.row 1 rfl) Tryz.underlying30 (by rfl) info_F ?_)
    | (go_at_call 86; (with_reducible refine (HLE.out _).mono ?_); rintro e w1 ⟨rfl, hb⟩; have K1 := Lib.hid (K0.out.on hb); have B1 : Hid (TurnB g w w1) := Lib.hid (B0.out.callB hb); clear hb K0 B0)
    | (go_at_call 59; (with_reducible refine (HD.out _ (EnvB.sub (ss' := [(A, n, xs)]) (ps' := []) (gs' := [(g, (hF0 K.toNat F.toNat S), 30)]) K1.out (by simp) (by simp) (by simp))).mono ?_); rintro e w2 ⟨A1, c1, rfl, hrow, hh, ht⟩; have K2 : Hid (EnvB w2 [(A1, m1, ys), (A, n, xs)] [] [(w.heap.size, #[.bool false, .int .i64 0, .int .u32 0], 34), (g, (fr13 K.toNat F.toNat S A1 m1 c1 pd 0 0 0 none 0 0 false false 0 0), 30)]) := Lib.hid (K1.out.turnS 1 rfl hrow ht hh); have B2 : Hid (TurnB g w w2) := Lib.hid (B1.out.trans ht); have HS1 := Lib.hid (hh.2.1.less B1.out.size); have HC1 := Lib.hid hh.2.2; clear hh; clear hrow ht K1 B1; have hsx := B2.out.size; have K3 := Lib.hid (K2.out.box 34 #[.bool false, .int .i64 0, .int .u32 0]); have B3 : Hid (TurnB g w (w2.alloc (.cells #[.bool false, .int .i64 0, .int .u32 0] 34))) := Lib.hid (B2.out.al (.cells #[.bool false, .int .i64 0, .int .u32 0] 34)); clear K2 B2)
    | (refine at_store 34 (.tmp 5) (.tmp 16) (by rfl) ?_; refine wpList_put (by rfl) 34 (.tmp 5) (.tmp 16) (by rfl) (w2.heap.size) 0 (.agg #[.bool false, .int .i64 x1, .int .u32 x2]) (by rfl) (by rfl) 34 _ #[.bool false, .int .i64 x1, .int .u32 x2] (K3.out.row 0 rfl) (by simp [Value.cells]) (by kernel_rfl) info_X (by kernel_rfl) ?_; intro w4 hrow hoth hz hbl; have K4 := Lib.hid (K3.out.turn 0 rfl hrow hoth hz); have B4 : Hid (TurnB g w w4) := Lib.hid (B3.out.puto hsx hoth hz hbl); clear hrow hoth hz hbl K3 B3; obtain ⟨f_0, f_1, f_2, f_3, f_4, f_5, f_6, f_7, f_8, f_9, f_10, f_11, f_12⟩ := c13_row (K4.out.row 2 rfl))
    | (refine at_load 4 (.tmp 17) (by rfl) ?_; refine wpList_get (by rfl) 4 (.tmp 17) (by rfl) (w2.heap.size) 0 (by rfl) 34 _ (.bool false) _ (K4.out.row 0 rfl) (by rfl) Tryz.underlying4 (by rfl) ?_)
    | (go_at_call 83; (with_reducible refine (HP.out A1 c1 _).mono ?_); rintro e w5 ⟨rfl, hb⟩; have K5 := Lib.hid (K4.out.on hb); have B5 : Hid (TurnB g w w5) := Lib.hid (B4.out.callB hb); clear hb K4 B4)
    | (refine at_load 34 (.tmp 5) (by rfl) ?_; refine wpList_load_row (by rfl) 34 (.tmp 5) (by rfl) (w2.heap.size) (by rfl) 34 _ (0, 0) _ (K5.out.row 0 rfl) Tryz.underlying34 (by rfl) info_X ?_)
    | (refine at_store 34 (.tmp 4) (.tmp 26) (by rfl) ?_; refine wpList_put (by rfl) 34 (.tmp 4) (.tmp 26) (by rfl) (w.heap.size) 0 (.agg #[.bool false, .int .i64 x1, .int .u32 x2]) (by rfl) (by rfl) 34 _ #[.bool false, .int .i64 x1, .int .u32 x2] (K5.out.row 1 rfl) (by simp [Value.cells]) (by kernel_rfl) info_X (by kernel_rfl) ?_; intro w6 hrow hoth hz hbl; have K6 := Lib.hid (K5.out.turn 1 rfl hrow hoth hz); have B6 : Hid (TurnB g w w6) := Lib.hid (B5.out.puto (Nat.le_refl _) hoth hz hbl); clear hrow hoth hz hbl K5 B5))
  exact bodyPost_ret (res_cell1 rfl _ _ _ _ _ _ rfl (K6.out.row 1 rfl) Tryz.underlying34 rfl info_X) rfl ⟨A1, c1, rfl, (K6.out.row 2 rfl), ⟨(K6.out.s (A1, m1, ys) (by simp)).1, HS1.out, HC1.out⟩, B6.out⟩
set_option maxRecDepth 100000 in
set_option maxHeartbeats 4000000 in
theorem p_takeHeaders_R (K F : UInt8) (S : Int) (g : Nat) (A : Option Addr) (n c : Nat) (xs : List UInt8) (w : World) (hE : EnvB w [(A, n, xs)] [] [(g, (hF0 K.toNat F.toNat S), 30)]) (hN : A = none → c = 0) (hn : n ≤ 100000) (hnc : n ≤ c) (nl : Nat) (HLE : Hid (∀ w0, Calls Tryz.prog 86 #[.agg (hF0 K.toNat F.toNat S)] w0 fun e w' => e = .returned (.int .i64 (nl : Nat)) ∧ Below w0.heap.size w0 w')) (hlt : ¬ (n : Int) < (nl : Int)) (pd : Int) (m1 : Nat) (ys : List UInt8) (x0 : Bool) (x1 x2 : Int) (hx0 : x0 = false) (HD : Hid (∀ w0, EnvB w0 [(A, n, xs)] [] [(g, (hF0 K.toNat F.toNat S), 30)] → Calls Tryz.prog 59 #[.pointer (some ⟨g, 0, none⟩), .slice A n c] w0 fun e w' => ∃ A' c', e = .returned (.agg #[.bool x0, .int .i64 x1, .int .u32 x2]) ∧ w'.heap[g]? = some (.cells (fr13 K.toNat F.toNat S A' m1 c' pd 0 0 0 none 0 0 false false 0 0) 30) ∧ HandS w' w0.heap.size A' m1 c' ys ∧ TurnB g w0 w')) (HP : Hid (∀ a1 c1 w0, Calls Tryz.prog 83 #[.agg (fr13 K.toNat F.toNat S a1 m1 c1 pd 0 0 0 none 0 0 false false 0 0), .int .u8 32] w0 fun e w' => e = .returned (.bool true) ∧ Below w0.heap.size w0 w')) (m2 : Nat) (zs : List UInt8) (r9 ra : Bool) (rd rw : Int) (y0 : Bool) (y1 y2 : Int) (HR : Hid (∀ A1 c1 w0, m1 ≤ c1 → (A1 = none → c1 = 0) → EnvB w0 [(A1, m1, ys)] [] [(g, (fr13 K.toNat F.toNat S A1 m1 c1 pd 0 0 0 none 0 0 false false 0 0), 30)] → Calls Tryz.prog 87 #[.pointer (some ⟨g, 0, none⟩), .slice A1 m1 c1] w0 fun e w' => ∃ A' c', e = .returned (.agg #[.bool y0, .int .i64 y1, .int .u32 y2]) ∧ w'.heap[g]? = some (.cells (fr13 K.toNat F.toNat S A' m2 c' pd 0 0 0 none 0 0 r9 ra rd rw) 30) ∧ HandS w' w0.heap.size A' m2 c' zs ∧ TurnB g w0 w')) :
    Calls Tryz.prog 61 #[.pointer (some ⟨g, 0, none⟩), .slice A n c] w fun e w' => ∃ A' c', e = .returned (.agg #[.bool y0, .int .i64 y1, .int .u32 y2]) ∧ w'.heap[g]? = some (.cells (fr13 K.toNat F.toNat S A' m2 c' pd 0 0 0 none 0 0 r9 ra rd rw) 30) ∧ HandS w' w.heap.size A' m2 c' zs ∧ TurnB g w w' := by
  have hl : xs.length = n := (hE.s (A, n, xs) (by simp)).1.1
  have hgw : g < w.heap.size := hE.lt (y := (g, (hF0 K.toNat F.toNat S), 30)) (by simp)
  have K0 : Hid (EnvB (w.alloc (.cells #[.bool false, .int .i64 0, .int .u32 0] 34)) [(A, n, xs)] [] [(w.heap.size, #[.bool false, .int .i64 0, .int .u32 0], 34), (g, (hF0 K.toNat F.toNat S), 30)]) := Lib.hid (hE.box 34 #[.bool false, .int .i64 0, .int .u32 0])
  have B0 : Hid (TurnB g w (w.alloc (.cells #[.bool false, .int .i64 0, .int .u32 0] 34))) := Lib.hid ((TurnB.refl g w).al _)
  have HN := Lib.hid hN
  have HL := Lib.hid hl
  clear hE hN hl
  subst hx0
  go_enter Tryz.func61, Tryz.ntmps61
  go_wp2_with (first
    | (refine at_load 30 (.tmp 9) (by rfl) ?_; refine wpList_load_row (by rfl) 30 (.tmp 9) (by rfl) (g) (by rfl) 30 _ (0, 0) _ (K0.out.row 1 rfl) Tryz.underlying30 (by rfl) info_F ?_)
    | (go_at_call 86; (with_reducible refine (HLE.out _).mono ?_); rintro e w1 ⟨rfl, hb⟩; have K1 := Lib.hid (K0.out.on hb); have B1 : Hid (TurnB g w w1) := Lib.hid (B0.out.callB hb); clear hb K0 B0)
    | (go_at_call 59; (with_reducible refine (HD.out _ (EnvB.sub (ss' := [(A, n, xs)]) (ps' := []) (gs' := [(g, (hF0 K.toNat F.toNat S), 30)]) K1.out (by simp) (by simp) (by simp))).mono ?_); rintro e w2 ⟨A1, c1, rfl, hrow, hh, ht⟩; have K2 : Hid (EnvB w2 [(A1, m1, ys), (A, n, xs)] [] [(w.heap.size, #[.bool false, .int .i64 0, .int .u32 0], 34), (g, (fr13 K.toNat F.toNat S A1 m1 c1 pd 0 0 0 none 0 0 false false 0 0), 30)]) := Lib.hid (K1.out.turnS 1 rfl hrow ht hh); have B2 : Hid (TurnB g w w2) := Lib.hid (B1.out.trans ht); have HS1 := Lib.hid (hh.2.1.less B1.out.size); have HC1 := Lib.hid hh.2.2; clear hh; clear hrow ht K1 B1; have hsx := B2.out.size; have K3 := Lib.hid (K2.out.box 34 #[.bool false, .int .i64 0, .int .u32 0]); have B3 : Hid (TurnB g w (w2.alloc (.cells #[.bool false, .int .i64 0, .int .u32 0] 34))) := Lib.hid (B2.out.al (.cells #[.bool false, .int .i64 0, .int .u32 0] 34)); clear K2 B2)
    | (refine at_store 34 (.tmp 5) (.tmp 16) (by rfl) ?_; refine wpList_put (by rfl) 34 (.tmp 5) (.tmp 16) (by rfl) (w2.heap.size) 0 (.agg #[.bool false, .int .i64 x1, .int .u32 x2]) (by rfl) (by rfl) 34 _ #[.bool false, .int .i64 x1, .int .u32 x2] (K3.out.row 0 rfl) (by simp [Value.cells]) (by kernel_rfl) info_X (by kernel_rfl) ?_; intro w4 hrow hoth hz hbl; have K4 := Lib.hid (K3.out.turn 0 rfl hrow hoth hz); have B4 : Hid (TurnB g w w4) := Lib.hid (B3.out.puto hsx hoth hz hbl); clear hrow hoth hz hbl K3 B3; obtain ⟨f_0, f_1, f_2, f_3, f_4, f_5, f_6, f_7, f_8, f_9, f_10, f_11, f_12⟩ := c13_row (K4.out.row 2 rfl))
    | (refine at_load 4 (.tmp 17) (by rfl) ?_; refine wpList_get (by rfl) 4 (.tmp 17) (by rfl) (w2.heap.size) 0 (by rfl) 34 _ (.bool false) _ (K4.out.row 0 rfl) (by rfl) Tryz.underlying4 (by rfl) ?_)
    | (go_at_call 83; (with_reducible refine (HP.out A1 c1 _).mono ?_); rintro e w5 ⟨rfl, hb⟩; have K5 := Lib.hid (K4.out.on hb); have B5 : Hid (TurnB g w w5) := Lib.hid (B4.out.callB hb); clear hb K4 B4)
    | (refine at_load 24 (.tmp 30) (by rfl) ?_; refine wpList_get (by rfl) 24 (.tmp 30) (by rfl) (g) 3 (by rfl) 30 _ (.slice A1 m1 c1) _ (K5.out.row 2 rfl) (by rfl) Tryz.underlying24 (by rfl) ?_)
    | (go_at_call 87; (with_reducible refine (HR.out A1 c1 _ HC1.out.1 HC1.out.2 (EnvB.sub (ss' := [(A1, m1, ys)]) (ps' := []) (gs' := [(g, (fr13 K.toNat F.toNat S A1 m1 c1 pd 0 0 0 none 0 0 false false 0 0), 30)]) K5.out (by simp) (by simp) (by simp))).mono ?_); rintro e w6 ⟨A2, c2, rfl, hrow, hh, ht⟩; have K6 : Hid (EnvB w6 [(A2, m2, zs), (A1, m1, ys), (A, n, xs)] [] [(w2.heap.size, #[.bool false, .int .i64 x1, .int .u32 x2], 34), (w.heap.size, #[.bool false, .int .i64 0, .int .u32 0], 34), (g, (fr13 K.toNat F.toNat S A2 m2 c2 pd 0 0 0 none 0 0 r9 ra rd rw), 30)]) := Lib.hid (K5.out.turnS 2 rfl hrow ht hh); have B6 : Hid (TurnB g w w6) := Lib.hid (B5.out.trans ht); have HS2 := Lib.hid (hh.2.1.less B5.out.size); have HC2 := Lib.hid hh.2.2; clear hh; clear hrow ht K5 B5)
    | (refine at_store 34 (.tmp 4) (.tmp 32) (by rfl) ?_; refine wpList_put (by rfl) 34 (.tmp 4) (.tmp 32) (by rfl) (w.heap.size) 0 (.agg #[.bool y0, .int .i64 y1, .int .u32 y2]) (by rfl) (by rfl) 34 _ #[.bool y0, .int .i64 y1, .int .u32 y2] (K6.out.row 1 rfl) (by simp [Value.cells]) (by kernel_rfl) info_X (by kernel_rfl) ?_; intro w7 hrow hoth hz hbl; have K7 := Lib.hid (K6.out.turn 1 rfl hrow hoth hz); have B7 : Hid (TurnB g w w7) := Lib.hid (B6.out.puto (Nat.le_refl _) hoth hz hbl); clear hrow hoth hz hbl K6 B6))
  exact bodyPost_ret (res_cell1 rfl _ _ _ _ _ _ rfl (K7.out.row 1 rfl) Tryz.underlying34 rfl info_X) rfl ⟨A2, c2, rfl, (K7.out.row 2 rfl), ⟨(K7.out.s (A2, m2, zs) (by simp)).1, HS2.out, HC2.out⟩, B7.out⟩
set_option maxRecDepth 100000 in
set_option maxHeartbeats 4000000 in
theorem p_takeHeaders_B (K F : UInt8) (S : Int) (g : Nat) (A : Option Addr) (n c : Nat) (xs : List UInt8) (w : World) (hE : EnvB w [(A, n, xs)] [] [(g, (hF0 K.toNat F.toNat S), 30)]) (hN : A = none → c = 0) (hn : n ≤ 100000) (hnc : n ≤ c) (nl : Nat) (HLE : Hid (∀ w0, Calls Tryz.prog 86 #[.agg (hF0 K.toNat F.toNat S)] w0 fun e w' => e = .returned (.int .i64 (nl : Nat)) ∧ Below w0.heap.size w0 w')) (hlt : ¬ (n : Int) < (nl : Int)) (pd : Int) (m1 : Nat) (ys : List UInt8) (x0 : Bool) (x1 x2 : Int) (hx0 : x0 = false) (HD : Hid (∀ w0, EnvB w0 [(A, n, xs)] [] [(g, (hF0 K.toNat F.toNat S), 30)] → Calls Tryz.prog 59 #[.pointer (some ⟨g, 0, none⟩), .slice A n c] w0 fun e w' => ∃ A' c', e = .returned (.agg #[.bool x0, .int .i64 x1, .int .u32 x2]) ∧ w'.heap[g]? = some (.cells (fr13 K.toNat F.toNat S A' m1 c' pd 0 0 0 none 0 0 false false 0 0) 30) ∧ HandS w' w0.heap.size A' m1 c' ys ∧ TurnB g w0 w')) (HP : Hid (∀ a1 c1 w0, Calls Tryz.prog 83 #[.agg (fr13 K.toNat F.toNat S a1 m1 c1 pd 0 0 0 none 0 0 false false 0 0), .int .u8 32] w0 fun e w' => e = .returned (.bool true) ∧ Below w0.heap.size w0 w')) (HR : Hid (∀ A1 c1 w0, m1 ≤ c1 → (A1 = none → c1 = 0) → EnvB w0 [(A1, m1, ys)] [] [(g, (fr13 K.toNat F.toNat S A1 m1 c1 pd 0 0 0 none 0 0 false false 0 0), 30)] → Calls Tryz.prog 87 #[.pointer (some ⟨g, 0, none⟩), .slice A1 m1 c1] w0 fun e w' => e = .returned (.agg #[.bool true, .int .i64 0, .int .u32 1]) ∧ w'.heap[g]? = some (.cells (fr13 K.toNat F.toNat S A1 m1 c1 pd 0 0 0 none 0 0 false false 0 0) 30) ∧ TurnB g w0 w')) :
    Calls Tryz.prog 61 #[.pointer (some ⟨g, 0, none⟩), .slice A n c] w fun e w' => ∃ A' c', e = .returned (.agg #[.bool true, .int .i64 0, .int .u32 1]) ∧ w'.heap[g]? = some (.cells (fr13 K.toNat F.toNat S A' m1 c' pd 0 0 0 none 0 0 false false 0 0) 30) ∧ HandS w' w.heap.size A' m1 c' ys ∧ TurnB g w w' := by
  have hl : xs.length = n := (hE.s (A, n, xs) (by simp)).1.1
  have hgw : g < w.heap.size := hE.lt (y := (g, (hF0 K.toNat F.toNat S), 30)) (by simp)
  have K0 : Hid (EnvB (w.alloc (.cells #[.bool false, .int .i64 0, .int .u32 0] 34)) [(A, n, xs)] [] [(w.heap.size, #[.bool false, .int .i64 0, .int .u32 0], 34), (g, (hF0 K.toNat F.toNat S), 30)]) := Lib.hid (hE.box 34 #[.bool false, .int .i64 0, .int .u32 0])
  have B0 : Hid (TurnB g w (w.alloc (.cells #[.bool false, .int .i64 0, .int .u32 0] 34))) := Lib.hid ((TurnB.refl g w).al _)
  have HN := Lib.hid hN
  have HL := Lib.hid hl
  clear hE hN hl
  subst hx0
  go_enter Tryz.func61, Tryz.ntmps61
  go_wp2_with (first
    | (refine at_load 30 (.tmp 9) (by rfl) ?_; refine wpList_load_row (by rfl) 30 (.tmp 9) (by rfl) (g) (by rfl) 30 _ (0, 0) _ (K0.out.row 1 rfl) Tryz.underlying30 (by rfl) info_F ?_)
    | (go_at_call 86; (with_reducible refine (HLE.out _).mono ?_); rintro e w1 ⟨rfl, hb⟩; have K1 := Lib.hid (K0.out.on hb); have B1 : Hid (TurnB g w w1) := Lib.hid (B0.out.callB hb); clear hb K0 B0)
    | (go_at_call 59; (with_reducible refine (HD.out _ (EnvB.sub (ss' := [(A, n, xs)]) (ps' := []) (gs' := [(g, (hF0 K.toNat F.toNat S), 30)]) K1.out (by simp) (by simp) (by simp))).mono ?_); rintro e w2 ⟨A1, c1, rfl, hrow, hh, ht⟩; have K2 : Hid (EnvB w2 [(A1, m1, ys), (A, n, xs)] [] [(w.heap.size, #[.bool false, .int .i64 0, .int .u32 0], 34), (g, (fr13 K.toNat F.toNat S A1 m1 c1 pd 0 0 0 none 0 0 false false 0 0), 30)]) := Lib.hid (K1.out.turnS 1 rfl hrow ht hh); have B2 : Hid (TurnB g w w2) := Lib.hid (B1.out.trans ht); have HS1 := Lib.hid (hh.2.1.less B1.out.size); have HC1 := Lib.hid hh.2.2; clear hh; clear hrow ht K1 B1; have hsx := B2.out.size; have K3 := Lib.hid (K2.out.box 34 #[.bool false, .int .i64 0, .int .u32 0]); have B3 : Hid (TurnB g w (w2.alloc (.cells #[.bool false, .int .i64 0, .int .u32 0] 34))) := Lib.hid (B2.out.al (.cells #[.bool false, .int .i64 0, .int .u32 0] 34)); clear K2 B2)
    | (refine at_store 34 (.tmp 5) (.tmp 16) (by rfl) ?_; refine wpList_put (by rfl) 34 (.tmp 5) (.tmp 16) (by rfl) (w2.heap.size) 0 (.agg #[.bool false, .int .i64 x1, .int .u32 x2]) (by rfl) (by rfl) 34 _ #[.bool false, .int .i64 x1, .int .u32 x2] (K3.out.row 0 rfl) (by simp [Value.cells]) (by kernel_rfl) info_X (by kernel_rfl) ?_; intro w4 hrow hoth hz hbl; have K4 := Lib.hid (K3.out.turn 0 rfl hrow hoth hz); have B4 : Hid (TurnB g w w4) := Lib.hid (B3.out.puto hsx hoth hz hbl); clear hrow hoth hz hbl K3 B3; obtain ⟨f_0, f_1, f_2, f_3, f_4, f_5, f_6, f_7, f_8, f_9, f_10, f_11, f_12⟩ := c13_row (K4.out.row 2 rfl))
    | (refine at_load 4 (.tmp 17) (by rfl) ?_; refine wpList_get (by rfl) 4 (.tmp 17) (by rfl) (w2.heap.size) 0 (by rfl) 34 _ (.bool false) _ (K4.out.row 0 rfl) (by rfl) Tryz.underlying4 (by rfl) ?_)
    | (go_at_call 83; (with_reducible refine (HP.out A1 c1 _).mono ?_); rintro e w5 ⟨rfl, hb⟩; have K5 := Lib.hid (K4.out.on hb); have B5 : Hid (TurnB g w w5) := Lib.hid (B4.out.callB hb); clear hb K4 B4)
    | (refine at_load 24 (.tmp 30) (by rfl) ?_; refine wpList_get (by rfl) 24 (.tmp 30) (by rfl) (g) 3 (by rfl) 30 _ (.slice A1 m1 c1) _ (K5.out.row 2 rfl) (by rfl) Tryz.underlying24 (by rfl) ?_)
    | (go_at_call 87; (with_reducible refine (HR.out A1 c1 _ HC1.out.1 HC1.out.2 (EnvB.sub (ss' := [(A1, m1, ys)]) (ps' := []) (gs' := [(g, (fr13 K.toNat F.toNat S A1 m1 c1 pd 0 0 0 none 0 0 false false 0 0), 30)]) K5.out (by simp) (by simp) (by simp))).mono ?_); rintro e w6 ⟨rfl, hrow, ht⟩; have K6 : Hid (EnvB w6 [(A1, m1, ys), (A, n, xs)] [] [(w2.heap.size, #[.bool false, .int .i64 x1, .int .u32 x2], 34), (w.heap.size, #[.bool false, .int .i64 0, .int .u32 0], 34), (g, (fr13 K.toNat F.toNat S A1 m1 c1 pd 0 0 0 none 0 0 false false 0 0), 30)]) := Lib.hid (K5.out.turn2 2 rfl hrow ht); have B6 : Hid (TurnB g w w6) := Lib.hid (B5.out.trans ht); clear hrow ht K5 B5)
    | (refine at_store 34 (.tmp 4) (.tmp 32) (by rfl) ?_; refine wpList_put (by rfl) 34 (.tmp 4) (.tmp 32) (by rfl) (w.heap.size) 0 (.agg #[.bool true, .int .i64 0, .int .u32 1]) (by rfl) (by rfl) 34 _ #[.bool true, .int .i64 0, .int .u32 1] (K6.out.row 1 rfl) (by simp [Value.cells]) (by kernel_rfl) info_X (by kernel_rfl) ?_; intro w7 hrow hoth hz hbl; have K7 := Lib.hid (K6.out.turn 1 rfl hrow hoth hz); have B7 : Hid (TurnB g w w7) := Lib.hid (B6.out.puto (Nat.le_refl _) hoth hz hbl); clear hrow hoth hz hbl K6 B6))
  exact bodyPost_ret (res_cell1 rfl _ _ _ _ _ _ rfl (K7.out.row 1 rfl) Tryz.underlying34 rfl info_X) rfl ⟨A1, c1, rfl, (K7.out.row 2 rfl), ⟨(K7.out.s (A1, m1, ys) (by simp)).1, HS1.out, HC1.out⟩, B7.out⟩
set_option maxRecDepth 100000 in
set_option maxHeartbeats 4000000 in
theorem p_takePriority_0 (K F : UInt8) (S : Int) (g : Nat) (A : Option Addr) (n c : Nat) (xs : List UInt8) (w : World) (hE : EnvB w [(A, n, xs)] [] [(g, (hF0 K.toNat F.toNat S), 30)]) (hN : A = none → c = 0) (hn : n ≤ 100000) (hnc : n ≤ c) (h5 : ((n : Int) != 5) = true) :
    Calls Tryz.prog 63 #[.pointer (some ⟨g, 0, none⟩), .slice A n c] w fun e w' => e = .returned (.agg #[.bool false, .int .i64 S, .int .u32 6]) ∧ w'.heap[g]? = some (.cells (hF0 K.toNat F.toNat S) 30) ∧ TurnB g w w' := by
  have hl : xs.length = n := (hE.s (A, n, xs) (by simp)).1.1
  have hgw : g < w.heap.size := hE.lt (y := (g, (hF0 K.toNat F.toNat S), 30)) (by simp)
  have K0 : Hid (EnvB (w.alloc (.cells #[.bool false, .int .i64 0, .int .u32 0] 34)) [(A, n, xs)] [] [(w.heap.size, #[.bool false, .int .i64 0, .int .u32 0], 34), (g, (hF0 K.toNat F.toNat S), 30)]) := Lib.hid (hE.box 34 #[.bool false, .int .i64 0, .int .u32 0])
  have B0 : Hid (TurnB g w (w.alloc (.cells #[.bool false, .int .i64 0, .int .u32 0] 34))) := Lib.hid ((TurnB.refl g w).al _)
  have HN := Lib.hid hN
  have HL := Lib.hid hl
  clear hE hN hl
  go_enter Tryz.func63, Tryz.ntmps63
  go_wp2_with (first
    | (refine at_load 3 (.tmp 10) (by rfl) ?_; refine wpList_get (by rfl) 3 (.tmp 10) (by rfl) (g) 2 (by rfl) 30 _ (.int .i64 S) _ (K0.out.row 1 rfl) (by rfl) Tryz.underlying3 (by rfl) ?_)
    | (go_at_call 18; (with_reducible refine (p_of _ _ _).mono ?_); rintro e w1 ⟨rfl, hb⟩; have K1 := Lib.hid (K0.out.on hb); have B1 : Hid (TurnB g w w1) := Lib.hid (B0.out.callB hb); clear hb K0 B0)
    | (refine at_store 34 (.tmp 4) (.tmp 12) (by rfl) ?_; refine wpList_put (by rfl) 34 (.tmp 4) (.tmp 12) (by rfl) (w.heap.size) 0 (.agg #[.bool false, .int .i64 S, .int .u32 6]) (by rfl) (by rfl) 34 _ #[.bool false, .int .i64 S, .int .u32 6] (K1.out.row 0 rfl) (by simp [Value.cells]) (by kernel_rfl) info_X (by kernel_rfl) ?_; intro w2 hrow hoth hz hbl; have K2 := Lib.hid (K1.out.turn 0 rfl hrow hoth hz); have B2 : Hid (TurnB g w w2) := Lib.hid (B1.out.puto (Nat.le_refl _) hoth hz hbl); clear hrow hoth hz hbl K1 B1))
  exact bodyPost_ret (res_cell1 rfl _ _ _ _ _ _ rfl (K2.out.row 0 rfl) Tryz.underlying34 rfl info_X) rfl ⟨rfl, (K2.out.row 1 rfl), B2.out⟩
set_option maxRecDepth 100000 in
set_option maxHeartbeats 4000000 in
theorem p_takePriority_R (K F : UInt8) (S : Int) (g : Nat) (A : Option Addr) (n c : Nat) (xs : List UInt8) (w : World) (hE : EnvB w [(A, n, xs)] [] [(g, (hF0 K.toNat F.toNat S), 30)]) (hN : A = none → c = 0) (hn : n ≤ 100000) (hnc : n ≤ c) (h5 : ((n : Int) != 5) = false) (m2 : Nat) (zs : List UInt8) (r9 ra : Bool) (rd rw : Int) (y0 : Bool) (y1 y2 : Int) (HR : Hid (∀ w0, EnvB w0 [(A, n, xs)] [] [(g, (hF0 K.toNat F.toNat S), 30)] → Calls Tryz.prog 87 #[.pointer (some ⟨g, 0, none⟩), .slice A n c] w0 fun e w' => ∃ A' c', e = .returned (.agg #[.bool y0, .int .i64 y1, .int .u32 y2]) ∧ w'.heap[g]? = some (.cells (fr13 K.toNat F.toNat S A' m2 c' 0 0 0 0 none 0 0 r9 ra rd rw) 30) ∧ HandS w' w0.heap.size A' m2 c' zs ∧ TurnB g w0 w')) :
    Calls Tryz.prog 63 #[.pointer (some ⟨g, 0, none⟩), .slice A n c] w fun e w' => ∃ A' c', e = .returned (.agg #[.bool y0, .int .i64 y1, .int .u32 y2]) ∧ w'.heap[g]? = some (.cells (fr13 K.toNat F.toNat S A' m2 c' 0 0 0 0 none 0 0 r9 ra rd rw) 30) ∧ HandS w' w.heap.size A' m2 c' zs ∧ TurnB g w w' := by
  have hl : xs.length = n := (hE.s (A, n, xs) (by simp)).1.1
  have hgw : g < w.heap.size := hE.lt (y := (g, (hF0 K.toNat F.toNat S), 30)) (by simp)
  have K0 : Hid (EnvB (w.alloc (.cells #[.bool false, .int .i64 0, .int .u32 0] 34)) [(A, n, xs)] [] [(w.heap.size, #[.bool false, .int .i64 0, .int .u32 0], 34), (g, (hF0 K.toNat F.toNat S), 30)]) := Lib.hid (hE.box 34 #[.bool false, .int .i64 0, .int .u32 0])
  have B0 : Hid (TurnB g w (w.alloc (.cells #[.bool false, .int .i64 0, .int .u32 0] 34))) := Lib.hid ((TurnB.refl g w).al _)
  have HN := Lib.hid hN
  have HL := Lib.hid hl
  clear hE hN hl
  go_enter Tryz.func63, Tryz.ntmps63
  go_wp2_with (first
    | (go_at_call 87; (with_reducible refine (HR.out _ (EnvB.sub (ss' := [(A, n, xs)]) (ps' := []) (gs' := [(g, (hF0 K.toNat F.toNat S), 30)]) K0.out (by simp) (by simp) (by simp))).mono ?_); rintro e w1 ⟨A2, c2, rfl, hrow, hh, ht⟩; have K1 : Hid (EnvB w1 [(A2, m2, zs), (A, n, xs)] [] [(w.heap.size, #[.bool false, .int .i64 0, .int .u32 0], 34), (g, (fr13 K.toNat F.toNat S A2 m2 c2 0 0 0 0 none 0 0 r9 ra rd rw), 30)]) := Lib.hid (K0.out.turnS 1 rfl hrow ht hh); have B1 : Hid (TurnB g w w1) := Lib.hid (B0.out.trans ht); have HS2 := Lib.hid (hh.2.1.less B0.out.size); have HC2 := Lib.hid hh.2.2; clear hh; clear hrow ht K0 B0)
    | (refine at_store 34 (.tmp 4) (.tmp 15) (by rfl) ?_; refine wpList_put (by rfl) 34 (.tmp 4) (.tmp 15) (by rfl) (w.heap.size) 0 (.agg #[.bool y0, .int .i64 y1, .int .u32 y2]) (by rfl) (by rfl) 34 _ #[.bool y0, .int .i64 y1, .int .u32 y2] (K1.out.row 0 rfl) (by simp [Value.cells]) (by kernel_rfl) info_X (by kernel_rfl) ?_; intro w2 hrow hoth hz hbl; have K2 := Lib.hid (K1.out.turn 0 rfl hrow hoth hz); have B2 : Hid (TurnB g w w2) := Lib.hid (B1.out.puto (Nat.le_refl _) hoth hz hbl); clear hrow hoth hz hbl K1 B1))
  exact bodyPost_ret (res_cell1 rfl _ _ _ _ _ _ rfl (K2.out.row 0 rfl) Tryz.underlying34 rfl info_X) rfl ⟨A2, c2, rfl, (K2.out.row 1 rfl), ⟨(K2.out.s (A2, m2, zs) (by simp)).1, HS2.out, HC2.out⟩, B2.out⟩
set_option maxRecDepth 100000 in
set_option maxHeartbeats 4000000 in
theorem p_takeReset (K F : UInt8) (S : Int) (g : Nat) (A : Option Addr) (n c : Nat) (xs : List UInt8) (w : World) (hE : EnvB w [(A, n, xs)] [] [(g, (hF0 K.toNat F.toNat S), 30)]) (hN : A = none → c = 0) (hn : n ≤ 100000) (hnc : n ≤ c) (h4 : 0 + 4 ≤ n) :
    Calls Tryz.prog 66 #[.pointer (some ⟨g, 0, none⟩), .slice A n c] w fun e w' => e = .returned (.agg #[.bool false, .int .i64 0, .int .u32 0]) ∧ w'.heap[g]? = some (.cells (fr13 K.toNat F.toNat S none 0 0 0 0 0 (numN xs n 0 : Nat) none 0 0 false false 0 0) 30) ∧ TurnB g w w' := by
  have hl : xs.length = n := (hE.s (A, n, xs) (by simp)).1.1
  have hgw : g < w.heap.size := hE.lt (y := (g, (hF0 K.toNat F.toNat S), 30)) (by simp)
  have K0 : Hid (EnvB (w.alloc (.cells #[.bool false, .int .i64 0, .int .u32 0] 34)) [(A, n, xs)] [] [(w.heap.size, #[.bool false, .int .i64 0, .int .u32 0], 34), (g, (hF0 K.toNat F.toNat S), 30)]) := Lib.hid (hE.box 34 #[.bool false, .int .i64 0, .int .u32 0])
  have B0 : Hid (TurnB g w (w.alloc (.cells #[.bool false, .int .i64 0, .int .u32 0] 34))) := Lib.hid ((TurnB.refl g w).al _)
  have HN := Lib.hid hN
  have HL := Lib.hid hl
  clear hE hN hl
  go_enter Tryz.func66, Tryz.ntmps66
  go_wp2_with (first
    | (go_at_call 90; refine (p_code A _ n c 0 xs _ ((K0.out.s (A, n, xs) (by simp)).1) (by omega) hnc h4).mono ?_; rintro e w' ⟨rfl, rfl⟩)
    | (refine at_store 25 (.tmp 9) (.tmp 7) (by rfl) ?_; refine wpList_put (by rfl) 25 (.tmp 9) (.tmp 7) (by rfl) (g) 7 (.int .u32 (numN xs n 0 : Nat)) (by rfl) (by rfl) 30 _ (fr13 K.toNat F.toNat S none 0 0 0 0 0 (numN xs n 0 : Nat) none 0 0 false false 0 0) (K0.out.row 1 rfl) (by simp [Value.cells]) (by kernel_rfl) info_u32 (by kernel_rfl) ?_; intro w1 hrow hoth hz hbl; have K1 := Lib.hid (K0.out.turn 1 rfl hrow hoth hz); have B1 : Hid (TurnB g w w1) := Lib.hid (B0.out.putg hoth hz hbl); clear hrow hoth hz hbl K0 B0)
    | (refine at_store 34 (.tmp 4) (.tmp 10) (by rfl) ?_; refine wpList_put (by rfl) 34 (.tmp 4) (.tmp 10) (by rfl) (w.heap.size) 0 (.agg #[.bool false, .int .i64 0, .int .u32 0]) (by rfl) (by rfl) 34 _ #[.bool false, .int .i64 0, .int .u32 0] (K1.out.row 0 rfl) (by simp [Value.cells]) (by kernel_rfl) info_X (by kernel_rfl) ?_; intro w2 hrow hoth hz hbl; have K2 := Lib.hid (K1.out.turn 0 rfl hrow hoth hz); have B2 : Hid (TurnB g w w2) := Lib.hid (B1.out.puto (Nat.le_refl _) hoth hz hbl); clear hrow hoth hz hbl K1 B1))
  exact bodyPost_ret (res_cell1 rfl _ _ _ _ _ _ rfl (K2.out.row 0 rfl) Tryz.underlying34 rfl info_X) rfl ⟨rfl, (K2.out.row 1 rfl), B2.out⟩
set_option maxRecDepth 100000 in
set_option maxHeartbeats 4000000 in
theorem p_takeWindow_Y (K F : UInt8) (S : Int) (g : Nat) (A : Option Addr) (n c : Nat) (xs : List UInt8) (w : World) (hE : EnvB w [(A, n, xs)] [] [(g, (hF0 K.toNat F.toNat S), 30)]) (hN : A = none → c = 0) (hn : n ≤ 100000) (hnc : n ≤ c) (h4 : 4 ≤ n) (h0 : (((ownN xs n 0 : Nat) : Int) != 0) = true) :
    Calls Tryz.prog 73 #[.pointer (some ⟨g, 0, none⟩), .slice A n c] w fun e w' => e = .returned (.agg #[.bool false, .int .i64 0, .int .u32 0]) ∧ w'.heap[g]? = some (.cells (fr13 K.toNat F.toNat S none 0 0 0 0 (ownN xs n 0 : Nat) 0 none 0 0 false false 0 0) 30) ∧ TurnB g w w' := by
  have hl : xs.length = n := (hE.s (A, n, xs) (by simp)).1.1
  have hgw : g < w.heap.size := hE.lt (y := (g, (hF0 K.toNat F.toNat S), 30)) (by simp)
  have K0 : Hid (EnvB (w.alloc (.cells #[.bool false, .int .i64 0, .int .u32 0] 34)) [(A, n, xs)] [] [(w.heap.size, #[.bool false, .int .i64 0, .int .u32 0], 34), (g, (hF0 K.toNat F.toNat S), 30)]) := Lib.hid (hE.box 34 #[.bool false, .int .i64 0, .int .u32 0])
  have B0 : Hid (TurnB g w (w.alloc (.cells #[.bool false, .int .i64 0, .int .u32 0] 34))) := Lib.hid ((TurnB.refl g w).al _)
  have HN := Lib.hid hN
  have HL := Lib.hid hl
  clear hE hN hl
  go_enter Tryz.func73, Tryz.ntmps73
  go_wp2_with (first
    | (go_at_call 96; refine (p_low A _ n c xs _ ((K0.out.s (A, n, xs) (by simp)).1) (by omega) hnc h4).mono ?_; rintro e w' ⟨rfl, rfl⟩)
    | (refine at_store 3 (.tmp 9) (.tmp 7) (by rfl) ?_; refine wpList_put (by rfl) 3 (.tmp 9) (.tmp 7) (by rfl) (g) 6 (.int .i64 (ownN xs n 0 : Nat)) (by rfl) (by rfl) 30 _ (fr13 K.toNat F.toNat S none 0 0 0 0 (ownN xs n 0 : Nat) 0 none 0 0 false false 0 0) (K0.out.row 1 rfl) (by simp [Value.cells]) (by kernel_rfl) info_i (by kernel_rfl) ?_; intro w1 hrow hoth hz hbl; have K1 := Lib.hid (K0.out.turn 1 rfl hrow hoth hz); have B1 : Hid (TurnB g w w1) := Lib.hid (B0.out.putg hoth hz hbl); clear hrow hoth hz hbl K0 B0)
    | (refine at_load 3 (.tmp 13) (by rfl) ?_; refine wpList_get (by rfl) 3 (.tmp 13) (by rfl) (g) 6 (by rfl) 30 _ (.int .i64 (ownN xs n 0 : Nat)) _ (K1.out.row 1 rfl) (by rfl) Tryz.underlying3 (by rfl) ?_)
    | (refine at_store 34 (.tmp 4) (.tmp 16) (by rfl) ?_; refine wpList_put (by rfl) 34 (.tmp 4) (.tmp 16) (by rfl) (w.heap.size) 0 (.agg #[.bool false, .int .i64 0, .int .u32 0]) (by rfl) (by rfl) 34 _ #[.bool false, .int .i64 0, .int .u32 0] (K1.out.row 0 rfl) (by simp [Value.cells]) (by kernel_rfl) info_X (by kernel_rfl) ?_; intro w2 hrow hoth hz hbl; have K2 := Lib.hid (K1.out.turn 0 rfl hrow hoth hz); have B2 : Hid (TurnB g w w2) := Lib.hid (B1.out.puto (Nat.le_refl _) hoth hz hbl); clear hrow hoth hz hbl K1 B1))
  exact bodyPost_ret (res_cell1 rfl _ _ _ _ _ _ rfl (K2.out.row 0 rfl) Tryz.underlying34 rfl info_X) rfl ⟨rfl, (K2.out.row 1 rfl), B2.out⟩
set_option maxRecDepth 100000 in
set_option maxHeartbeats 4000000 in
theorem p_takeWindow_W (K F : UInt8) (S : Int) (g : Nat) (A : Option Addr) (n c : Nat) (xs : List UInt8) (w : World) (hE : EnvB w [(A, n, xs)] [] [(g, (hF0 K.toNat F.toNat S), 30)]) (hN : A = none → c = 0) (hn : n ≤ 100000) (hnc : n ≤ c) (h4 : 4 ≤ n) (h0 : (((ownN xs n 0 : Nat) : Int) != 0) = false) (hS : (S == 0) = true) :
    Calls Tryz.prog 73 #[.pointer (some ⟨g, 0, none⟩), .slice A n c] w fun e w' => e = .returned (.agg #[.bool true, .int .i64 0, .int .u32 1]) ∧ w'.heap[g]? = some (.cells (fr13 K.toNat F.toNat S none 0 0 0 0 (ownN xs n 0 : Nat) 0 none 0 0 false false 0 0) 30) ∧ TurnB g w w' := by
  have hl : xs.length = n := (hE.s (A, n, xs) (by simp)).1.1
  have hgw : g < w.heap.size := hE.lt (y := (g, (hF0 K.toNat F.toNat S), 30)) (by simp)
  have K0 : Hid (EnvB (w.alloc (.cells #[.bool false, .int .i64 0, .int .u32 0] 34)) [(A, n, xs)] [] [(w.heap.size, #[.bool false, .int .i64 0, .int .u32 0], 34), (g, (hF0 K.toNat F.toNat S), 30)]) := Lib.hid (hE.box 34 #[.bool false, .int .i64 0, .int .u32 0])
  have B0 : Hid (TurnB g w (w.alloc (.cells #[.bool false, .int .i64 0, .int .u32 0] 34))) := Lib.hid ((TurnB.refl g w).al _)
  have HN := Lib.hid hN
  have HL := Lib.hid hl
  clear hE hN hl
  go_enter Tryz.func73, Tryz.ntmps73
  go_wp2_with (first
    | (go_at_call 96; refine (p_low A _ n c xs _ ((K0.out.s (A, n, xs) (by simp)).1) (by omega) hnc h4).mono ?_; rintro e w' ⟨rfl, rfl⟩)
    | (refine at_store 3 (.tmp 9) (.tmp 7) (by rfl) ?_; refine wpList_put (by rfl) 3 (.tmp 9) (.tmp 7) (by rfl) (g) 6 (.int .i64 (ownN xs n 0 : Nat)) (by rfl) (by rfl) 30 _ (fr13 K.toNat F.toNat S none 0 0 0 0 (ownN xs n 0 : Nat) 0 none 0 0 false false 0 0) (K0.out.row 1 rfl) (by simp [Value.cells]) (by kernel_rfl) info_i (by kernel_rfl) ?_; intro w1 hrow hoth hz hbl; have K1 := Lib.hid (K0.out.turn 1 rfl hrow hoth hz); have B1 : Hid (TurnB g w w1) := Lib.hid (B0.out.putg hoth hz hbl); clear hrow hoth hz hbl K0 B0)
    | (refine at_load 3 (.tmp 13) (by rfl) ?_; refine wpList_get (by rfl) 3 (.tmp 13) (by rfl) (g) 6 (by rfl) 30 _ (.int .i64 (ownN xs n 0 : Nat)) _ (K1.out.row 1 rfl) (by rfl) Tryz.underlying3 (by rfl) ?_)
    | (refine at_load 3 (.tmp 20) (by rfl) ?_; refine wpList_get (by rfl) 3 (.tmp 20) (by rfl) (g) 2 (by rfl) 30 _ (.int .i64 S) _ (K1.out.row 1 rfl) (by rfl) Tryz.underlying3 (by rfl) ?_)
    | (go_at_call 16; (with_reducible refine (p_whole _ _).mono ?_); rintro e w2 ⟨rfl, hb⟩; have K2 := Lib.hid (K1.out.on hb); have B2 : Hid (TurnB g w w2) := Lib.hid (B1.out.callB hb); clear hb K1 B1)
    | (refine at_store 34 (.tmp 4) (.tmp 23) (by rfl) ?_; refine wpList_put (by rfl) 34 (.tmp 4) (.tmp 23) (by rfl) (w.heap.size) 0 (.agg #[.bool true, .int .i64 0, .int .u32 1]) (by rfl) (by rfl) 34 _ #[.bool true, .int .i64 0, .int .u32 1] (K2.out.row 0 rfl) (by simp [Value.cells]) (by kernel_rfl) info_X (by kernel_rfl) ?_; intro w3 hrow hoth hz hbl; have K3 := Lib.hid (K2.out.turn 0 rfl hrow hoth hz); have B3 : Hid (TurnB g w w3) := Lib.hid (B2.out.puto (Nat.le_refl _) hoth hz hbl); clear hrow hoth hz hbl K2 B2))
  exact bodyPost_ret (res_cell1 rfl _ _ _ _ _ _ rfl (K3.out.row 0 rfl) Tryz.underlying34 rfl info_X) rfl ⟨rfl, (K3.out.row 1 rfl), B3.out⟩
set_option maxRecDepth 100000 in
set_option maxHeartbeats 4000000 in
theorem p_takeWindow_S (K F : UInt8) (S : Int) (g : Nat) (A : Option Addr) (n c : Nat) (xs : List UInt8) (w : World) (hE : EnvB w [(A, n, xs)] [] [(g, (hF0 K.toNat F.toNat S), 30)]) (hN : A = none → c = 0) (hn : n ≤ 100000) (hnc : n ≤ c) (h4 : 4 ≤ n) (h0 : (((ownN xs n 0 : Nat) : Int) != 0) = false) (hS : (S == 0) = false) :
    Calls Tryz.prog 73 #[.pointer (some ⟨g, 0, none⟩), .slice A n c] w fun e w' => e = .returned (.agg #[.bool false, .int .i64 S, .int .u32 1]) ∧ w'.heap[g]? = some (.cells (fr13 K.toNat F.toNat S none 0 0 0 0 (ownN xs n 0 : Nat) 0 none 0 0 false false 0 0) 30) ∧ TurnB g w w' := by
  have hl : xs.length = n := (hE.s (A, n, xs) (by simp)).1.1
  have hgw : g < w.heap.size := hE.lt (y := (g, (hF0 K.toNat F.toNat S), 30)) (by simp)
  have K0 : Hid (EnvB (w.alloc (.cells #[.bool false, .int .i64 0, .int .u32 0] 34)) [(A, n, xs)] [] [(w.heap.size, #[.bool false, .int .i64 0, .int .u32 0], 34), (g, (hF0 K.toNat F.toNat S), 30)]) := Lib.hid (hE.box 34 #[.bool false, .int .i64 0, .int .u32 0])
  have B0 : Hid (TurnB g w (w.alloc (.cells #[.bool false, .int .i64 0, .int .u32 0] 34))) := Lib.hid ((TurnB.refl g w).al _)
  have HN := Lib.hid hN
  have HL := Lib.hid hl
  clear hE hN hl
  go_enter Tryz.func73, Tryz.ntmps73
  go_wp2_with (first
    | (go_at_call 96; refine (p_low A _ n c xs _ ((K0.out.s (A, n, xs) (by simp)).1) (by omega) hnc h4).mono ?_; rintro e w' ⟨rfl, rfl⟩)
    | (refine at_store 3 (.tmp 9) (.tmp 7) (by rfl) ?_; refine wpList_put (by rfl) 3 (.tmp 9) (.tmp 7) (by rfl) (g) 6 (.int .i64 (ownN xs n 0 : Nat)) (by rfl) (by rfl) 30 _ (fr13 K.toNat F.toNat S none 0 0 0 0 (ownN xs n 0 : Nat) 0 none 0 0 false false 0 0) (K0.out.row 1 rfl) (by simp [Value.cells]) (by kernel_rfl) info_i (by kernel_rfl) ?_; intro w1 hrow hoth hz hbl; have K1 := Lib.hid (K0.out.turn 1 rfl hrow hoth hz); have B1 : Hid (TurnB g w w1) := Lib.hid (B0.out.putg hoth hz hbl); clear hrow hoth hz hbl K0 B0)
    | (refine at_load 3 (.tmp 13) (by rfl) ?_; refine wpList_get (by rfl) 3 (.tmp 13) (by rfl) (g) 6 (by rfl) 30 _ (.int .i64 (ownN xs n 0 : Nat)) _ (K1.out.row 1 rfl) (by rfl) Tryz.underlying3 (by rfl) ?_)
    | (refine at_load 3 (.tmp 20) (by rfl) ?_; refine wpList_get (by rfl) 3 (.tmp 20) (by rfl) (g) 2 (by rfl) 30 _ (.int .i64 S) _ (K1.out.row 1 rfl) (by rfl) Tryz.underlying3 (by rfl) ?_)
    | (refine at_load 3 (.tmp 26) (by rfl) ?_; refine wpList_get (by rfl) 3 (.tmp 26) (by rfl) (g) 2 (by rfl) 30 _ (.int .i64 S) _ (K1.out.row 1 rfl) (by rfl) Tryz.underlying3 (by rfl) ?_)
    | (go_at_call 18; (with_reducible refine (p_of _ _ _).mono ?_); rintro e w2 ⟨rfl, hb⟩; have K2 := Lib.hid (K1.out.on hb); have B2 : Hid (TurnB g w w2) := Lib.hid (B1.out.callB hb); clear hb K1 B1)
    | (refine at_store 34 (.tmp 4) (.tmp 28) (by rfl) ?_; refine wpList_put (by rfl) 34 (.tmp 4) (.tmp 28) (by rfl) (w.heap.size) 0 (.agg #[.bool false, .int .i64 S, .int .u32 1]) (by rfl) (by rfl) 34 _ #[.bool false, .int .i64 S, .int .u32 1] (K2.out.row 0 rfl) (by simp [Value.cells]) (by kernel_rfl) info_X (by kernel_rfl) ?_; intro w3 hrow hoth hz hbl; have K3 := Lib.hid (K2.out.turn 0 rfl hrow hoth hz); have B3 : Hid (TurnB g w w3) := Lib.hid (B2.out.puto (Nat.le_refl _) hoth hz hbl); clear hrow hoth hz hbl K2 B2))
  exact bodyPost_ret (res_cell1 rfl _ _ _ _ _ _ rfl (K3.out.row 0 rfl) Tryz.underlying34 rfl info_X) rfl ⟨rfl, (K3.out.row 1 rfl), B3.out⟩
set_option maxRecDepth 100000 in
set_option maxHeartbeats 4000000 in
theorem p_takeAway (K F : UInt8) (S : Int) (g : Nat) (A : Option Addr) (n c : Nat) (xs : List UInt8) (w : World) (hE : EnvB w [(A, n, xs)] [] [(g, (hF0 K.toNat F.toNat S), 30)]) (hN : A = none → c = 0) (hn : n ≤ 100000) (hnc : n ≤ c) (h4 : 8 ≤ n) :
    Calls Tryz.prog 71 #[.pointer (some ⟨g, 0, none⟩), .slice A n c] w fun e w' => ∃ A' c', e = .returned (.agg #[.bool false, .int .i64 0, .int .u32 0]) ∧ w'.heap[g]? = some (.cells (fr13 K.toNat F.toNat S A' (n - 8) c' 0 (ownN xs n 0 : Nat) 0 (numN xs n 4 : Nat) none 0 0 false false 0 0) 30) ∧ HandS w' w.heap.size A' (n - 8) c' (xs.drop 8) ∧ TurnB g w w' := by
  have hl : xs.length = n := (hE.s (A, n, xs) (by simp)).1.1
  have hgw : g < w.heap.size := hE.lt (y := (g, (hF0 K.toNat F.toNat S), 30)) (by simp)
  obtain ⟨b, o, rfl, hb0, hc0⟩ := (hE.s (A, n, xs) (by simp)).1.2 (by simp only; omega)
  simp only at hb0 hc0
  have hAg := hE.s (some ⟨b, o, none⟩, n, xs) (by simp)
  simp only at hAg
  obtain ⟨AC, hA2, hcut⟩ : ∃ AC, (if c = 8 then some (⟨b, o, none⟩ : Addr) else some ⟨b, o + 8, none⟩) = AC ∧ Bs w w.heap.size AC (n - 8) (xs.drop 8) := ⟨_, rfl, hAg.1.cut (k := 8) h4 hnc⟩
  have hN2 : AC = none → c - 8 = 0 := fun h => if_some_ne (hA2.trans h)
  have hACg : 0 < n - 8 → ∀ b' o', AC = some ⟨b', o', none⟩ → b' ≠ g := fun hp b' o' e => by
    have hbg := hAg.2 (by omega) b o rfl _ (List.mem_singleton.2 rfl)
    rw [← hA2] at e
    split at e
    · cases e; exact hbg
    · cases e; exact hbg
  have hE2 : EnvB w [(AC, n - 8, xs.drop 8), (some ⟨b, o, none⟩, n, xs)] [] [(g, (hF0 K.toNat F.toNat S), 30)] := ⟨fun x hx => by
    rcases List.mem_cons.1 hx with rfl | hx
    · exact ⟨hcut, fun hp b' o' e y hy => by rw [List.mem_singleton.1 hy]; exact hACg hp b' o' e⟩
    · exact hE.s x hx, hE.p, hE.g, hE.d⟩
  have HN2 := Lib.hid hN2
  have HX2 : Hid ((xs.drop 8).length = n - 8) := Lib.hid hcut.1
  have gcn : (8 : Int) ≤ (n : Int) := by omega
  have gnc : (n : Int) ≤ (c : Int) := by omega
  clear hc0 hAg hcut hN2 hACg
  have K0 : Hid (EnvB (w.alloc (.cells #[.bool false, .int .i64 0, .int .u32 0] 34)) [(AC, n - 8, xs.drop 8), (some ⟨b, o, none⟩, n, xs)] [] [(w.heap.size, #[.bool false, .int .i64 0, .int .u32 0], 34), (g, (hF0 K.toNat F.toNat S), 30)]) := Lib.hid (hE2.box 34 #[.bool false, .int .i64 0, .int .u32 0])
  have B0 : Hid (TurnB g w (w.alloc (.cells #[.bool false, .int .i64 0, .int .u32 0] 34))) := Lib.hid ((TurnB.refl g w).al _)
  have HN := Lib.hid hN
  have HL := Lib.hid hl
  clear hE hE2 hN hl
  go_enter Tryz.func71, Tryz.ntmps71
  go_wp2_with (first
    | (go_at_call 96; refine (p_low (some ⟨b, o, none⟩) _ n c xs _ ((K0.out.s (some ⟨b, o, none⟩, n, xs) (by simp)).1) (by omega) hnc (by omega)).mono ?_; rintro e w' ⟨rfl, rfl⟩)
    | (go_at_call 90; refine (p_code (some ⟨b, o, none⟩) _ n c 4 xs _ ((K0.out.s (some ⟨b, o, none⟩, n, xs) (by simp)).1) (by omega) hnc h4).mono ?_; rintro e w' ⟨rfl, rfl⟩)
    | (refine at_store 3 (.tmp 12) (.tmp 8) (by rfl) ?_; refine wpList_put (by rfl) 3 (.tmp 12) (.tmp 8) (by rfl) (g) 5 (.int .i64 (ownN xs n 0 : Nat)) (by rfl) (by rfl) 30 _ (fr13 K.toNat F.toNat S none 0 0 0 (ownN xs n 0 : Nat) 0 0 none 0 0 false false 0 0) (K0.out.row 1 rfl) (by simp [Value.cells]) (by kernel_rfl) info_i (by kernel_rfl) ?_; intro w1 hrow hoth hz hbl; have K1 := Lib.hid (K0.out.turn 1 rfl hrow hoth hz); have B1 : Hid (TurnB g w w1) := Lib.hid (B0.out.putg hoth hz hbl); clear hrow hoth hz hbl K0 B0)
    | (refine at_store 25 (.tmp 14) (.tmp 10) (by rfl) ?_; refine wpList_put (by rfl) 25 (.tmp 14) (.tmp 10) (by rfl) (g) 7 (.int .u32 (numN xs n 4 : Nat)) (by rfl) (by rfl) 30 _ (fr13 K.toNat F.toNat S none 0 0 0 (ownN xs n 0 : Nat) 0 (numN xs n 4 : Nat) none 0 0 false false 0 0) (K1.out.row 1 rfl) (by simp [Value.cells]) (by kernel_rfl) info_u32 (by kernel_rfl) ?_; intro w2 hrow hoth hz hbl; have K2 := Lib.hid (K1.out.turn 1 rfl hrow hoth hz); have B2 : Hid (TurnB g w w2) := Lib.hid (B1.out.putg hoth hz hbl); clear hrow hoth hz hbl K1 B1)
    | (go_at_call 38; (with_reducible refine (p_takeRest K F S ((ownN xs n 0 : Nat) : Int) ((numN xs n 4 : Nat) : Int) g AC (n - 8) (c - 8) (xs.drop 8) _ (EnvB.sub (ss' := [(AC, n - 8, xs.drop 8)]) (ps' := []) (gs' := [(g, (fr13 K.toNat F.toNat S none 0 0 0 (ownN xs n 0 : Nat) 0 (numN xs n 4 : Nat) none 0 0 false false 0 0), 30)]) K2.out (by simp) (by simp) (by simp)) HN2.out (by omega) (by omega)).mono ?_); rintro e w3 ⟨A1, c1, rfl, hrow, hh, ht⟩; have K3 : Hid (EnvB w3 [(A1, n - 8, xs.drop 8), (AC, n - 8, xs.drop 8), (some ⟨b, o, none⟩, n, xs)] [] [(w.heap.size, #[.bool false, .int .i64 0, .int .u32 0], 34), (g, (fr13 K.toNat F.toNat S A1 (n - 8) c1 0 (ownN xs n 0 : Nat) 0 (numN xs n 4 : Nat) none 0 0 false false 0 0), 30)]) := Lib.hid (K2.out.turnS 1 rfl hrow ht hh); have B3 : Hid (TurnB g w w3) := Lib.hid (B2.out.trans ht); have HS1 := Lib.hid (hh.2.1.less B2.out.size); have HC1 := Lib.hid hh.2.2; clear hh; clear hrow ht K2 B2)
    | (refine at_store 34 (.tmp 4) (.tmp 18) (by rfl) ?_; refine wpList_put (by rfl) 34 (.tmp 4) (.tmp 18) (by rfl) (w.heap.size) 0 (.agg #[.bool false, .int .i64 0, .int .u32 0]) (by rfl) (by rfl) 34 _ #[.bool false, .int .i64 0, .int .u32 0] (K3.out.row 0 rfl) (by simp [Value.cells]) (by kernel_rfl) info_X (by kernel_rfl) ?_; intro w4 hrow hoth hz hbl; have K4 := Lib.hid (K3.out.turn 0 rfl hrow hoth hz); have B4 : Hid (TurnB g w w4) := Lib.hid (B3.out.puto (Nat.le_refl _) hoth hz hbl); clear hrow hoth hz hbl K3 B3))
  exact bodyPost_ret (res_cell1 rfl _ _ _ _ _ _ rfl (K4.out.row 0 rfl) Tryz.underlying34 rfl info_X) rfl ⟨A1, c1, rfl, (K4.out.row 1 rfl), ⟨(K4.out.s (A1, n - 8, xs.drop 8) (by simp)).1, HS1.out, HC1.out⟩, B4.out⟩
set_option maxRecDepth 100000 in
set_option maxHeartbeats 4000000 in
theorem p_takeUrg (K F : UInt8) (S : Int) (g : Nat) (A : Option Addr) (n c : Nat) (xs : List UInt8) (w : World) (hE : EnvB w [(A, n, xs)] [] [(g, (hF0 K.toNat F.toNat S), 30)]) (hN : A = none → c = 0) (hn : n ≤ 100000) (hnc : n ≤ c) (h4 : 4 ≤ n) (h0 : (((ownN xs n 0 : Nat) : Int) == 0) = false) :
    Calls Tryz.prog 75 #[.pointer (some ⟨g, 0, none⟩), .slice A n c] w fun e w' => ∃ A' c', e = .returned (.agg #[.bool false, .int .i64 0, .int .u32 0]) ∧ w'.heap[g]? = some (.cells (fr13 K.toNat F.toNat S A' (n - 4) c' 0 (ownN xs n 0 : Nat) 0 0 none 0 0 false false 0 0) 30) ∧ HandS w' w.heap.size A' (n - 4) c' (xs.drop 4) ∧ TurnB g w w' := by
  have hl : xs.length = n := (hE.s (A, n, xs) (by simp)).1.1
  have hgw : g < w.heap.size := hE.lt (y := (g, (hF0 K.toNat F.toNat S), 30)) (by simp)
  obtain ⟨b, o, rfl, hb0, hc0⟩ := (hE.s (A, n, xs) (by simp)).1.2 (by simp only; omega)
  simp only at hb0 hc0
  have hAg := hE.s (some ⟨b, o, none⟩, n, xs) (by simp)
  simp only at hAg
  obtain ⟨AC, hA2, hcut⟩ : ∃ AC, (if c = 4 then some (⟨b, o, none⟩ : Addr) else some ⟨b, o + 4, none⟩) = AC ∧ Bs w w.heap.size AC (n - 4) (xs.drop 4) := ⟨_, rfl, hAg.1.cut (k := 4) h4 hnc⟩
  have hN2 : AC = none → c - 4 = 0 := fun h => if_some_ne (hA2.trans h)
  have hACg : 0 < n - 4 → ∀ b' o', AC = some ⟨b', o', none⟩ → b' ≠ g := fun hp b' o' e => by
    have hbg := hAg.2 (by omega) b o rfl _ (List.mem_singleton.2 rfl)
    rw [← hA2] at e
    split at e
    · cases e; exact hbg
    · cases e; exact hbg
  have hE2 : EnvB w [(AC, n - 4, xs.drop 4), (some ⟨b, o, none⟩, n, xs)] [] [(g, (hF0 K.toNat F.toNat S), 30)] := ⟨fun x hx => by
    rcases List.mem_cons.1 hx with rfl | hx
    · exact ⟨hcut, fun hp b' o' e y hy => by rw [List.mem_singleton.1 hy]; exact hACg hp b' o' e⟩
    · exact hE.s x hx, hE.p, hE.g, hE.d⟩
  have HN2 := Lib.hid hN2
  have HX2 : Hid ((xs.drop 4).length = n - 4) := Lib.hid hcut.1
  have gcn : (4 : Int) ≤ (n : Int) := by omega
  have gnc : (n : Int) ≤ (c : Int) := by omega
  clear hc0 hAg hcut hN2 hACg
  have K0 : Hid (EnvB (w.alloc (.cells #[.bool false, .int .i64 0, .int .u32 0] 34)) [(AC, n - 4, xs.drop 4), (some ⟨b, o, none⟩, n, xs)] [] [(w.heap.size, #[.bool false, .int .i64 0, .int .u32 0], 34), (g, (hF0 K.toNat F.toNat S), 30)]) := Lib.hid (hE2.box 34 #[.bool false, .int .i64 0, .int .u32 0])
  have B0 : Hid (TurnB g w (w.alloc (.cells #[.bool false, .int .i64 0, .int .u32 0] 34))) := Lib.hid ((TurnB.refl g w).al _)
  have HN := Lib.hid hN
  have HL := Lib.hid hl
  clear hE hE2 hN hl
  go_enter Tryz.func75, Tryz.ntmps75
  go_wp2_with (first
    | (go_at_call 96; refine (p_low (some ⟨b, o, none⟩) _ n c xs _ ((K0.out.s (some ⟨b, o, none⟩, n, xs) (by simp)).1) (by omega) hnc (by omega)).mono ?_; rintro e w' ⟨rfl, rfl⟩)
    | (refine at_store 3 (.tmp 9) (.tmp 7) (by rfl) ?_; refine wpList_put (by rfl) 3 (.tmp 9) (.tmp 7) (by rfl) (g) 5 (.int .i64 (ownN xs n 0 : Nat)) (by rfl) (by rfl) 30 _ (fr13 K.toNat F.toNat S none 0 0 0 (ownN xs n 0 : Nat) 0 0 none 0 0 false false 0 0) (K0.out.row 1 rfl) (by simp [Value.cells]) (by kernel_rfl) info_i (by kernel_rfl) ?_; intro w1 hrow hoth hz hbl; have K1 := Lib.hid (K0.out.turn 1 rfl hrow hoth hz); have B1 : Hid (TurnB g w w1) := Lib.hid (B0.out.putg hoth hz hbl); clear hrow hoth hz hbl K0 B0)
    | (refine at_load 3 (.tmp 12) (by rfl) ?_; refine wpList_get (by rfl) 3 (.tmp 12) (by rfl) (g) 5 (by rfl) 30 _ (.int .i64 (ownN xs n 0 : Nat)) _ (K1.out.row 1 rfl) (by rfl) Tryz.underlying3 (by rfl) ?_)
    | (go_at_call 38; (with_reducible refine (p_takeRest K F S ((ownN xs n 0 : Nat) : Int) 0 g AC (n - 4) (c - 4) (xs.drop 4) _ (EnvB.sub (ss' := [(AC, n - 4, xs.drop 4)]) (ps' := []) (gs' := [(g, (fr13 K.toNat F.toNat S none 0 0 0 (ownN xs n 0 : Nat) 0 0 none 0 0 false false 0 0), 30)]) K1.out (by simp) (by simp) (by simp)) HN2.out (by omega) (by omega)).mono ?_); rintro e w2 ⟨A1, c1, rfl, hrow, hh, ht⟩; have K2 : Hid (EnvB w2 [(A1, n - 4, xs.drop 4), (AC, n - 4, xs.drop 4), (some ⟨b, o, none⟩, n, xs)] [] [(w.heap.size, #[.bool false, .int .i64 0, .int .u32 0], 34), (g, (fr13 K.toNat F.toNat S A1 (n - 4) c1 0 (ownN xs n 0 : Nat) 0 0 none 0 0 false false 0 0), 30)]) := Lib.hid (K1.out.turnS 1 rfl hrow ht hh); have B2 : Hid (TurnB g w w2) := Lib.hid (B1.out.trans ht); have HS1 := Lib.hid (hh.2.1.less B1.out.size); have HC1 := Lib.hid hh.2.2; clear hh; clear hrow ht K1 B1)
    | (refine at_store 34 (.tmp 4) (.tmp 19) (by rfl) ?_; refine wpList_put (by rfl) 34 (.tmp 4) (.tmp 19) (by rfl) (w.heap.size) 0 (.agg #[.bool false, .int .i64 0, .int .u32 0]) (by rfl) (by rfl) 34 _ #[.bool false, .int .i64 0, .int .u32 0] (K2.out.row 0 rfl) (by simp [Value.cells]) (by kernel_rfl) info_X (by kernel_rfl) ?_; intro w3 hrow hoth hz hbl; have K3 := Lib.hid (K2.out.turn 0 rfl hrow hoth hz); have B3 : Hid (TurnB g w w3) := Lib.hid (B2.out.puto (Nat.le_refl _) hoth hz hbl); clear hrow hoth hz hbl K2 B2))
  exact bodyPost_ret (res_cell1 rfl _ _ _ _ _ _ rfl (K3.out.row 0 rfl) Tryz.underlying34 rfl info_X) rfl ⟨A1, c1, rfl, (K3.out.row 1 rfl), ⟨(K3.out.s (A1, n - 4, xs.drop 4) (by simp)).1, HS1.out, HC1.out⟩, B3.out⟩
set_option maxRecDepth 100000 in
set_option maxHeartbeats 4000000 in
theorem p_takeUrg0 (K F : UInt8) (S : Int) (g : Nat) (A : Option Addr) (n c : Nat) (xs : List UInt8) (w : World) (hE : EnvB w [(A, n, xs)] [] [(g, (hF0 K.toNat F.toNat S), 30)]) (hN : A = none → c = 0) (hn : n ≤ 100000) (hnc : n ≤ c) (h4 : 4 ≤ n) (h0 : (((ownN xs n 0 : Nat) : Int) == 0) = true) :
    Calls Tryz.prog 75 #[.pointer (some ⟨g, 0, none⟩), .slice A n c] w fun e w' => e = .returned (.agg #[.bool true, .int .i64 0, .int .u32 1]) ∧ w'.heap[g]? = some (.cells (fr13 K.toNat F.toNat S none 0 0 0 (ownN xs n 0 : Nat) 0 0 none 0 0 false false 0 0) 30) ∧ TurnB g w w' := by
  have hl : xs.length = n := (hE.s (A, n, xs) (by simp)).1.1
  have hgw : g < w.heap.size := hE.lt (y := (g, (hF0 K.toNat F.toNat S), 30)) (by simp)
  obtain ⟨b, o, rfl, hb0, hc0⟩ := (hE.s (A, n, xs) (by simp)).1.2 (by simp only; omega)
  simp only at hb0 hc0
  have hAg := hE.s (some ⟨b, o, none⟩, n, xs) (by simp)
  simp only at hAg
  obtain ⟨AC, hA2, hcut⟩ : ∃ AC, (if c = 4 then some (⟨b, o, none⟩ : Addr) else some ⟨b, o + 4, none⟩) = AC ∧ Bs w w.heap.size AC (n - 4) (xs.drop 4) := ⟨_, rfl, hAg.1.cut (k := 4) h4 hnc⟩
  have hN2 : AC = none → c - 4 = 0 := fun h => if_some_ne (hA2.trans h)
  have hACg : 0 < n - 4 → ∀ b' o', AC = some ⟨b', o', none⟩ → b' ≠ g := fun hp b' o' e => by
    have hbg := hAg.2 (by omega) b o rfl _ (List.mem_singleton.2 rfl)
    rw [← hA2] at e
    split at e
    · cases e; exact hbg
    · cases e; exact hbg
  have hE2 : EnvB w [(AC, n - 4, xs.drop 4), (some ⟨b, o, none⟩, n, xs)] [] [(g, (hF0 K.toNat F.toNat S), 30)] := ⟨fun x hx => by
    rcases List.mem_cons.1 hx with rfl | hx
    · exact ⟨hcut, fun hp b' o' e y hy => by rw [List.mem_singleton.1 hy]; exact hACg hp b' o' e⟩
    · exact hE.s x hx, hE.p, hE.g, hE.d⟩
  have HN2 := Lib.hid hN2
  have HX2 : Hid ((xs.drop 4).length = n - 4) := Lib.hid hcut.1
  have gcn : (4 : Int) ≤ (n : Int) := by omega
  have gnc : (n : Int) ≤ (c : Int) := by omega
  clear hc0 hAg hcut hN2 hACg
  have K0 : Hid (EnvB (w.alloc (.cells #[.bool false, .int .i64 0, .int .u32 0] 34)) [(AC, n - 4, xs.drop 4), (some ⟨b, o, none⟩, n, xs)] [] [(w.heap.size, #[.bool false, .int .i64 0, .int .u32 0], 34), (g, (hF0 K.toNat F.toNat S), 30)]) := Lib.hid (hE2.box 34 #[.bool false, .int .i64 0, .int .u32 0])
  have B0 : Hid (TurnB g w (w.alloc (.cells #[.bool false, .int .i64 0, .int .u32 0] 34))) := Lib.hid ((TurnB.refl g w).al _)
  have HN := Lib.hid hN
  have HL := Lib.hid hl
  clear hE hE2 hN hl
  go_enter Tryz.func75, Tryz.ntmps75
  go_wp2_with (first
    | (go_at_call 96; refine (p_low (some ⟨b, o, none⟩) _ n c xs _ ((K0.out.s (some ⟨b, o, none⟩, n, xs) (by simp)).1) (by omega) hnc (by omega)).mono ?_; rintro e w' ⟨rfl, rfl⟩)
    | (refine at_store 3 (.tmp 9) (.tmp 7) (by rfl) ?_; refine wpList_put (by rfl) 3 (.tmp 9) (.tmp 7) (by rfl) (g) 5 (.int .i64 (ownN xs n 0 : Nat)) (by rfl) (by rfl) 30 _ (fr13 K.toNat F.toNat S none 0 0 0 (ownN xs n 0 : Nat) 0 0 none 0 0 false false 0 0) (K0.out.row 1 rfl) (by simp [Value.cells]) (by kernel_rfl) info_i (by kernel_rfl) ?_; intro w1 hrow hoth hz hbl; have K1 := Lib.hid (K0.out.turn 1 rfl hrow hoth hz); have B1 : Hid (TurnB g w w1) := Lib.hid (B0.out.putg hoth hz hbl); clear hrow hoth hz hbl K0 B0)
    | (refine at_load 3 (.tmp 12) (by rfl) ?_; refine wpList_get (by rfl) 3 (.tmp 12) (by rfl) (g) 5 (by rfl) 30 _ (.int .i64 (ownN xs n 0 : Nat)) _ (K1.out.row 1 rfl) (by rfl) Tryz.underlying3 (by rfl) ?_)
    | (go_at_call 16; (with_reducible refine (p_whole _ _).mono ?_); rintro e w2 ⟨rfl, hb⟩; have K2 := Lib.hid (K1.out.on hb); have B2 : Hid (TurnB g w w2) := Lib.hid (B1.out.callB hb); clear hb K1 B1)
    | (refine at_store 34 (.tmp 4) (.tmp 15) (by rfl) ?_; refine wpList_put (by rfl) 34 (.tmp 4) (.tmp 15) (by rfl) (w.heap.size) 0 (.agg #[.bool true, .int .i64 0, .int .u32 1]) (by rfl) (by rfl) 34 _ #[.bool true, .int .i64 0, .int .u32 1] (K2.out.row 0 rfl) (by simp [Value.cells]) (by kernel_rfl) info_X (by kernel_rfl) ?_; intro w3 hrow hoth hz hbl; have K3 := Lib.hid (K2.out.turn 0 rfl hrow hoth hz); have B3 : Hid (TurnB g w w3) := Lib.hid (B2.out.puto (Nat.le_refl _) hoth hz hbl); clear hrow hoth hz hbl K2 B2))
  exact bodyPost_ret (res_cell1 rfl _ _ _ _ _ _ rfl (K3.out.row 0 rfl) Tryz.underlying34 rfl info_X) rfl ⟨rfl, (K3.out.row 1 rfl), B3.out⟩
end Go.Proofs.YtbflhphjnmhjhaaGreat
