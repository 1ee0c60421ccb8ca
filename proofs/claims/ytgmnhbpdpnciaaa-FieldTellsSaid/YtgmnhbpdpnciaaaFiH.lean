/- field.TakePairs. -/
import Derived.Test.YtgmnhbpdpnciaaaFiG
import Derived.Test.YtgmnhbpdpnciaaaGPairsIn
namespace Go.Proofs.Ytgmnhbpdpnciaaa
open Go.RowKit Oct Fi Go.Shelf
attribute [local go_sem] Oper.semAt_some

theorem settings_any (A : Option Addr) (n c : Nat) (w : World) :
    Calls Try.prog 32 #[.slice A n c] w fun e w' =>
      e = .returned (.func (.func 37) #[] #[.pointer (some ⟨w.heap.size, 0, none⟩)]) ∧ w.alloc (.cells #[.slice A n c] 22) = w' := by
  go_enter Try.func32, Try.ntmps32
  go_wp2
  go_ret
  exact ⟨rfl, rfl⟩
theorem settings_stops (k : Nat) (hk : 1 ≤ k) (B1 m c : Nat) (A : Option Addr) (xs : List UInt8) (p : Nat → Prop) (w : World)
    (hB : B1 < w.heap.size) (hp1 : p B1) (hpA : 0 < m → ∀ b o, A = some ⟨b, o, none⟩ → p b) (hm : m * 6 ≤ 1000000) (hmc : m * 6 ≤ c)
    (hc : w.cell? ⟨B1, 0, none⟩ = some (.slice A (m * 6) c)) (hA : Bs w w.heap.size A (m * 6) xs) :
    SeqStopsK Fence.wide k Try.prog 37 #[.pointer (some ⟨B1, 0, none⟩)] (fun x : Pr => #[.agg #[.int .u16 (x.1.toNat : Int), .int .u32 (x.2.toNat : Int)]]) (KeepC p) (fun ys => ys = upP xs m) (fun _ => True) m w := fun l J Jx W hW _ _ hY h0 =>
  settings1_in k hk l B1 m c A xs p J Jx W hp1 hpA hm hmc hY ((hW.cell (p := ⟨B1, 0, none⟩) hB).trans hc) (hA.on hW) h0
/-- A fresh pair's box, as a range's body meets it. -/
def AtP (a₁ : Nat → Act) (x : Pr) (a : Act) (W : World) : Prop := ∃ b, a = a₁ b ∧ W.cell? ⟨b, 0, none⟩ = some (.int .u16 (x.1.toNat : Int)) ∧ W.cell? ⟨b, 1, none⟩ = some (.int .u32 (x.2.toNat : Int))
theorem atP_own (B : Nat) (f : Nat → Act) (x : Pr) (a : Act) : OwnFrom B (fun (_ : Unit) W => AtP f x a W) := by
  intro s W W' row hs hg hr
  have hr' : ∀ k, row = some k → ∃ o : Obj, W.heap[k]? = some o ∧ o.isCells = false := fun k e => (hr k e).2
  obtain ⟨b, e, h1, h2⟩ := hs
  exact ⟨b, e, cell_kept h1 hg hr', cell_kept h2 hg hr'⟩
theorem gbox {W W4 : World} {o : Obj} {g : Nat} {u : Value} (hgs : g + 2 ≤ W.heap.size) (hb : Below (g + 2) (W.alloc o) W4) (h1 : W.cell? ⟨g, 0, none⟩ = some u) (h2 : W.frozen? ⟨g, 0, none⟩ = false) :
    W4.cell? ⟨g, 0, none⟩ = some u ∧ W4.frozen? ⟨g, 0, none⟩ = false := by
  have h := ((Below.refl (g + 2) W).alloc hgs o).trans hb
  exact ⟨(h.cell (p := ⟨g, 0, none⟩) (by simp only; omega)).trans h1, (h.frozen (p := ⟨g, 0, none⟩) (by simp only; omega)).trans h2⟩
set_option maxRecDepth 100000 in
set_option maxHeartbeats 1000000 in
theorem ftp_yes (A : Option Addr) (n c m : Nat) (xs : List UInt8) (w : World) (hA : Bs w w.heap.size A n xs) (hn : n ≤ 1000000) (hnc : n ≤ c) (hm : n = m * 6) :
    Calls Try.prog 17 #[.slice A n c] w fun e w' => ∃ v, e = .returned (.tuple #[v, .int .i64 0]) ∧ OwnP w' w.heap.size 47 v (upP xs m) ∧ Below w.heap.size w w' := by
  obtain ⟨i0, hi, hz0, hz1, hz2⟩ := info_parts info_pair
  have hinf := Lib.hid (And.intro hi (And.intro hz0 (And.intro hz1 hz2)))
  clear hi hz0 hz1 hz2
  have HA := Lib.hid hA
  clear hA
  have d0 : ((n : Int) % 6 != 0) = false := by simp; omega
  refine (callsIn_wide (n := 6)).1 (callsIn_of_wp_marks Try.func17 rfl trivial ?_ rfl)
  refine wpIn_wide.2 ?_
  simp only [Try.ntmps17, List.size_toArray, List.length_cons, List.length_nil, Nat.reduceAdd, Nat.reduceSub, Array.replicate_succ, Array.replicate_zero, List.push_toArray, List.append_toArray, List.nil_append, List.cons_append]
  go_wp2
  refine wp_scope_forward 0 rfl ?_
  go_wp2_with (go_at_call 32; refine (settings_any _ _ _ _).mono ?_; rintro e w3 ⟨rfl, rfl⟩)
  have hW0 : ((w.alloc (.cells #[.slice none 0 0] 25)).alloc (.cells #[.slice A n c] 22)).cell? ⟨w.heap.size, 0, none⟩ = some (.slice none 0 0) ∧ ((w.alloc (.cells #[.slice none 0 0] 25)).alloc (.cells #[.slice A n c] 22)).frozen? ⟨w.heap.size, 0, none⟩ = false ∧ ((w.alloc (.cells #[.slice none 0 0] 25)).alloc (.cells #[.slice A n c] 22)).cell? ⟨w.heap.size + 1, 0, none⟩ = some (.slice A n c) := by
    refine ⟨?_, ?_, ?_⟩ <;> simp [go_sem]
  have hBW : Below w.heap.size w ((w.alloc (.cells #[.slice none 0 0] 25)).alloc (.cells #[.slice A n c] 22)) := ((Below.refl _ w).alloc (Nat.le_refl _) _).alloc (by simp) _
  have hsz : ((w.alloc (.cells #[.slice none 0 0] 25)).alloc (.cells #[.slice A n c] 22)).heap.size = w.heap.size + 2 := by simp
  subst hm
  generalize (w.alloc (.cells #[.slice none 0 0] 25)).alloc (.cells #[.slice A (m * 6) c] 22) = W0 at *
  obtain ⟨g1, g2, g3⟩ := hW0
  have hA0 := HA.out.on hBW
  have hpA : 0 < m → ∀ b o, A = some ⟨b, o, none⟩ → b < w.heap.size + 2 ∧ b ≠ w.heap.size := fun hm0 b o e => by
    obtain ⟨b', o', e', hb, _⟩ := HA.out.2 (by omega)
    rw [e] at e'
    cases e'
    omega
  have h0 : GatherP w w.heap.size (w.heap.size + 2) 47 [] W0 := ⟨⟨_, g1, g2, OwnP.nil_ _ _ _⟩, hBW, by omega⟩
  refine (wpIn_wide (n := 6)).1 ?_
  refine wpIn_rangeFunc_ownH rfl (by omega) (gf := 37) (lb := #[.pointer (some ⟨w.heap.size + 1, 0, none⟩)]) rfl trivial (enters_of Try.func37 (by kernel_rfl) rfl)
    (settings_stops 5 (by omega) (w.heap.size + 1) m c A xs (fun j => j < w.heap.size + 2 ∧ j ≠ w.heap.size) W0 (by omega) (by omega) hpA hn hnc g3 hA0)
    (fun h k => h.trans k) (fun W l o o' _ h hc _ => KeepC.put W l o o' h hc) (Below.refl _ _) (fun _ => rfl)
    (GatherP w w.heap.size (w.heap.size + 2) 47)
    (fun _ _ _ => False)
    (gatherP_own (by omega))
    (fun _ _ _ _ _ hs _ _ => hs)
    h0
    (fun x => AtP (fun b => { tmps := #[.slice A (m * 6) c, undef, .slice none 0 0, .int .i64 0, .pointer (some ⟨w.heap.size, 0, none⟩), .pointer (some ⟨b, 0, none⟩), .slice A (m * 6) c, .int .i64 (m * 6), .int .i64 0, .bool false, .slice A (m * 6) c, .func (.func 37) #[] #[.pointer (some ⟨w.heap.size + 1, 0, none⟩)], .agg #[.int .u16 (x.1.toNat : Int), .int .u32 (x.2.toNat : Int)], undef, undef, undef, undef, undef], defers := [] }) x)
    (fun x a' => atP_own _ _ x a')
    ?assign ?body ?done ?stop
  case assign =>
    intro l pre x W K hI hK
    have HK := Lib.hid hK
    have HI := Lib.hid hI
    clear hK hI
    gi_wp2
    refine HK.out _ _ ?_ ?_ ?_ ⟨W.heap.size, rfl, ?_, ?_⟩
    · exact (KeepsOthers.alloc _ _).from _
    · exact KeepC.below ((Below.refl _ W).alloc (Nat.le_refl _) _)
    · exact (gatherP_own (B' := W0.heap.size) (by omega)).alloc _ HI.out
    · simp [go_sem]
    · simp [go_sem]
  case body =>
    rintro l pre x a' W _ _ hI ⟨b, rfl, k1, k2⟩ hlen
    obtain ⟨⟨u, r1, r2, r3⟩, hbw, hgs⟩ := hI
    have HO := Lib.hid r3
    have HB := Lib.hid hbw
    have HK1 := Lib.hid r1
    have HK2 := Lib.hid r2
    clear r3 hbw
    gi_wp2_with (gi_at_builtin; refine wpListIn_append_pairs _ rfl (.tmp 13) (.tmp 15) 25 rfl (w.heap.size + 2) 47 i0 Try.underlying25 hinf.out.1 hinf.out.2.1 hinf.out.2.2.1 hinf.out.2.2.2 _ pre rfl (HO.out.alloc _) _ _ 1 1 [x] rfl (ps_lit W _ [x] _ _ rfl (by simp [pc])) (fun h => by cases h) (by omega) (by simp; omega) ?_; intro v4 w4 hown4 hb4 hg4; obtain ⟨A4, c4, rfl, _, _, _⟩ := hown4.form2 (n := pre.length + 1) (by simp); have HO4 := Lib.hid hown4; have HB4 := Lib.hid hb4; have HG4 := Lib.hid hg4; obtain ⟨q1, q2⟩ := gbox hgs hb4 HK1.out HK2.out; clear hown4 hb4 hg4)
    exact gatherP_round _ (Nat.le_refl _) (by omega) hgs (fun j h => h) HK1.out HK2.out HO.out HB.out HB4.out HG4.out HO4.out
  case done =>
    rintro D ys W hD rfl hI hK
    have HI := Lib.hid hI
    obtain ⟨⟨u, r1, r2, r3⟩, hbw, hgs⟩ := hI
    obtain ⟨A5, c5, rfl, _, _, _⟩ := r3.form2 (n := m) (upP_len _ _)
    have HO := Lib.hid r3
    have HB := Lib.hid hbw
    clear r3 hbw
    go_wp2
    rw [jump_ret]
    have hbl : Below w.heap.size w (W.putObj D (.deferred none)) := HB.out.trans (belowK_b (w := w) (Nat.le_refl _) W D _ _ (by omega) hK rfl rfl)
    have hown := (HO.out.other (grownBy_putObj' _ D (.deferred none)) (fun k e => by cases e; exact ⟨_, hK, rfl⟩)).less (B' := w.heap.size) (by omega)
    exact ⟨by simp, .inl ⟨_, _, rfl, run_takeDeferred hK, ⟨_, results_tmp2 rfl _ _ _, _, rfl, hown, hbl⟩⟩⟩
  case stop =>
    rintro D c pre W _ _ h _
    exact h.elim
theorem ftp_no (A : Option Addr) (n c : Nat) (w : World) (h : n % 6 ≠ 0) :
    Calls Try.prog 17 #[.slice A n c] w fun e w' => e = .returned (.tuple #[.slice none 0 0, .int .i64 10]) ∧ Below w.heap.size w w' := by
  have d : ((n : Int) % 6 != 0) = true := by simp; omega
  go_enter Try.func17, Try.ntmps17
  go_wp2
  refine wp_scope_forward 0 rfl ?_
  go_wp2
  go_step3
  refine ⟨rfl, ?_⟩
  go_wp2
  rw [jump_ret]
  go_ret2
  exact ⟨rfl, (Below.refl _ _).alloc (Nat.le_refl _) _⟩
theorem ftp_tot (A : Option Addr) (n c : Nat) (xs : List UInt8) (w : World) (hA : Bs w w.heap.size A n xs) (hn : n ≤ 1000000) (hnc : n ≤ c) :
    Calls Try.prog 17 #[.slice A n c] w fun e w' => ∃ v, e = .returned (.tuple #[v, .int .i64 (tpE n)]) ∧ OwnP w' w.heap.size 47 v (tpV xs n) ∧ Below w.heap.size w w' := by
  by_cases h : n % 6 = 0
  · obtain ⟨m, hm⟩ : ∃ m, n = m * 6 := ⟨n / 6, by omega⟩
    rw [(tpV_yes xs n m hm).1, (tpV_yes xs n m hm).2]
    exact ftp_yes A n c m xs w hA hn hnc hm
  · rw [(tpV_no xs n h).1, (tpV_no xs n h).2]
    refine (ftp_no A n c w h).mono ?_
    rintro e w' ⟨rfl, hb⟩
    exact ⟨_, rfl, OwnP.nil_ _ _ _, hb⟩
end Go.Proofs.Ytgmnhbpdpnciaaa
