/- table.fields, table.named, table.Find. -/
import Derived.Test.YtgplkjifgagjpaaDoorTbQ
import Derived.Test.YtgplkjifgagjpaaDoorGSeqS
namespace Go.Proofs.YtgplkjifgagjpaaDoor
open Go.RowKit Tb Go.Shelf Go.ChangeMaps
set_option linter.unusedVariables false
set_option linter.unusedSimpArgs false
attribute [local go_sem] Oper.semAt_some
def Tb.KeepM (p : Nat → Prop) (W W' : World) : Prop := KeepC p W W' ∧ W.heap.size ≤ W'.heap.size
theorem Tb.KeepM.trans {p : Nat → Prop} {A B C : World} (h : KeepM p A B) (k : KeepM p B C) : KeepM p A C := ⟨h.1.trans k.1, Nat.le_trans h.2 k.2⟩
theorem Tb.res_two {P : Program} {fn : Func} {p q : Tmp} {ty tz : TypeId} (h : fn.results = #[.cell p ty, .cell q tz]) (tmps : Array Value) (w : World) (g k : Nat) (t s : TypeId) (u v : Value) (d d' : TypeDesc)
    (hp : tmps.getD p undef = .pointer (some ⟨g, 0, none⟩)) (hg : w.heap[g]? = some (.cells #[u] t)) (hq : tmps.getD q undef = .pointer (some ⟨k, 0, none⟩)) (hk : w.heap[k]? = some (.cells #[v] s))
    (hu : P.underlying ty = some d) (hd : (match d with | .struct _ | .array _ _ => true | _ => false) = false) (hu' : P.underlying tz = some d') (hd' : (match d' with | .struct _ | .array _ _ => true | _ => false) = false) :
    (results fn tmps).run P w = .ok (.tuple #[u, v]) w := by
  have hp' : tmps[p]?.getD undef = .pointer (some ⟨g, 0, none⟩) := by simpa using hp
  have hq' : tmps[q]?.getD undef = .pointer (some ⟨k, 0, none⟩) := by simpa using hq
  simp [results, h, hp', hq', asAddr, run_get w g 0 ty t #[u] u d hg rfl hu hd, run_get w k 0 tz s #[v] v d' hk rfl hu' hd']
theorem t_fields (v : Value) (a b : Value) (w : World) (hv : v = .agg #[a, b]) : Calls Tryd.prog 35 #[v] w fun e w' =>
      e = .returned (.func (.func 36) #[] #[.pointer (some ⟨w.heap.size, 0, none⟩)]) ∧ w.alloc (.cells #[a, b] 24) = w' := by
  subst hv
  go_enter Tryd.func35, Tryd.ntmps35
  go_wp2
  go_ret
  exact ⟨rfl, rfl⟩
theorem fields_stops (k : Nat) (hk : 1 ≤ k) (B1 n c : Nat) (M : Int) (A : Option Addr) (xs : List Fd) (p : Nat → Prop) (w : World) (hR : Stv w) (hB : B1 < w.heap.size)
    (hp0 : p 0) (hp1 : p B1) (hpA : 0 < n → ∀ b o, A = some ⟨b, o, none⟩ → p b) (hn : n ≤ 1000000) (hF : full xs ≤ 1000000)
    (hc0 : w.cell? ⟨B1, 0, none⟩ = some (.int .i64 M)) (hc1 : w.cell? ⟨B1, 1, none⟩ = some (.slice A n c)) (hA : Fs w w.heap.size A n xs) :
    SeqS Fence.wide k Tryd.prog 36 #[.pointer (some ⟨B1, 0, none⟩)] (fun x : Nat × Fd => #[.int .i64 (x.1 : Int), .agg #[.string x.2.1, .string x.2.2]]) (KeepM p) (fun _ _ => False) (fun _ x _ => small x.2) (fun ys => ys = num (stat ++ xs)) (20 + n) w := fun l J W hW hJ _ hY h0 =>
  (fields1_in k hk l B1 n c M A xs p J (fun _ _ => False) W (hR.on hW) hJ hp0 hp1 hpA hn hF (fun pre x W1 hj hl hs => by
      obtain ⟨fn, tmps, assign, body, hy, hr⟩ := hY pre x W1 hj hs hl
      exact ⟨fn, tmps, assign, body, hy, hr.mono fun e W' h => .inl ⟨h.1, h.2.1, h.2.2.1, h.2.2.2⟩⟩)
    ((hW.cell (p := ⟨B1, 0, none⟩) hB).trans hc0) ((hW.cell (p := ⟨B1, 1, none⟩) hB).trans hc1) (hA.on hW) h0).mono fun e W' h => ⟨h.1, by
      rcases h.2 with h2 | ⟨_, _, h2⟩
      · exact h2
      · exact h2.elim⟩
/-- What holds between two rounds. -/
structure NamedI (w : World) (B : Nat) (name : ByteArray) (pre : List (Nat × Fd)) (W : World) : Prop where
  r1 : W.heap[w.heap.size + 1]? = some (.cells #[.string name] 9)
  r2 : W.heap[w.heap.size + 1 + 1]? = some (.cells #[.map (some (w.heap.size + 1 + 1 + 1 + 1))] 53)
  r3 : W.heap[w.heap.size + 1 + 1 + 1]? = some (.cells #[.int .i64 (leOf name pre : Int)] 3)
  mp : MapL W Tryd.prog 26 (w.heap.size + 1 + 1 + 1 + 1) (esOf name pre)
  below : Below w.heap.size w W
  size : B ≤ W.heap.size
theorem namedI_own {w : World} {B : Nat} {name : ByteArray} (hB : w.heap.size + 1 + 1 + 1 + 1 + 1 ≤ B) : OwnFrom B (NamedI w B name) := by
  intro s W W' row hs hg hr
  have hk : ∀ k, k < B → k < W.heap.size → W'.heap[k]? = W.heap[k]? := fun k h1 h2 => hg.block k h2 (fun e => by have := (hr k e.symm).1; omega)
  have hl := hs.size
  exact ⟨(hk _ (by omega) (by omega)).trans hs.r1, (hk _ (by omega) (by omega)).trans hs.r2, (hk _ (by omega) (by omega)).trans hs.r3, hs.mp.same (hk _ (by omega) (by omega)), hs.below.grown hg hs.below.size (fun k e => by have := (hr k e).1; omega), Nat.le_trans hs.size hg.size⟩
/-- A round's own box and frame. -/
def AtN (f : Nat → Act) (z : Nat × Fd) (a : Act) (W : World) : Prop := small z.2 ∧ ∃ b, a = f b ∧ W.cell? ⟨b, 0, none⟩ = some (.string z.2.1) ∧ W.cell? ⟨b, 1, none⟩ = some (.string z.2.2)
theorem atN_own (B : Nat) (f : Nat → Act) (z : Nat × Fd) (a : Act) : OwnFrom B (fun (_ : Unit) W => AtN f z a W) := by
  intro s W W' row hs hg hr
  have hr' : ∀ k, row = some k → ∃ o : Obj, W.heap[k]? = some o ∧ o.isCells = false := fun k e => (hr k e).2
  obtain ⟨h0, b, e, h1, h2⟩ := hs
  exact ⟨h0, b, e, cell_kept h1 hg hr', cell_kept h2 hg hr'⟩
theorem named_round {w W W' : World} {B R : Nat} {name : ByteArray} {pre : List (Nat × Fd)} {z : Nat × Fd} {a : Act} (hI : NamedI w B name pre W) (hB : w.heap.size + 1 + 1 + 1 + 1 + 1 < B) (hR : w.heap.size + 1 + 1 + 1 + 1 + 1 < R) (hz : W.heap.size ≤ W'.heap.size)
    (hk : ∀ k, k < W.heap.size → k ≠ w.heap.size + 1 + 1 + 1 → k ≠ w.heap.size + 1 + 1 + 1 + 1 → W'.heap[k]? = W.heap[k]?) (h3 : W'.heap[w.heap.size + 1 + 1 + 1]? = some (.cells #[.int .i64 (leOf name (pre ++ [z]) : Int)] 3)) (hm : MapL W' Tryd.prog 26 (w.heap.size + 1 + 1 + 1 + 1) (esOf name (pre ++ [z]))) (hb : Below w.heap.size w W') :
    ownPostG R (KeepM (fun j => j < w.heap.size ∨ j = w.heap.size + 1 + 1 + 1 + 1 + 1)) (NamedI w B name) (fun _ _ _ => False) (pre ++ [z]) W Exit.normal a W' := by
  have hs := hI.size
  refine ⟨⟨hz, fun k o hRk ho _ => ?_⟩, ⟨fun j o hj ho _ => ?_, hz⟩, ⟨(hk _ (by omega) (by omega) (by omega)).trans hI.r1, (hk _ (by omega) (by omega) (by omega)).trans hI.r2, h3, hm, hb, by omega⟩⟩
  · exact (hk k (Array.getElem?_eq_some_iff.1 ho).1 (by omega) (by omega)).trans ho
  · exact (hk j (Array.getElem?_eq_some_iff.1 ho).1 (by omega) (by omega)).trans ho
set_option maxRecDepth 100000 in
set_option maxHeartbeats 4000000 in
theorem t_named (M : Int) (A : Option Addr) (n c : Nat) (xs : List Fd) (name : ByteArray) (w : World) (hR : Stv w) (hA : Fs w w.heap.size A n xs) (hn : n ≤ 1000000) (hF : full xs ≤ 1000000) :
    Calls Tryd.prog 34 #[.agg #[.int .i64 M, .slice A n c], .string name] w fun e w' => ∃ b, e = .returned (.tuple #[.map (some b), .int .i64 (leOf name (num (stat ++ xs)) : Int)]) ∧ MapL w' Tryd.prog 26 b (esOf name (num (stat ++ xs))) ∧ Below w.heap.size w w' := by
  have HA := Lib.hid hA
  have HR := Lib.hid hR
  clear hA hR
  refine (callsIn_wide (n := 6)).1 (callsIn_of_wp_marks Tryd.func34 rfl trivial ?_ rfl)
  refine wpIn_wide.2 ?_
  simp only [Tryd.ntmps34, List.size_toArray, List.length_cons, List.length_nil, Nat.reduceAdd, Nat.reduceSub, Array.replicate_succ, Array.replicate_zero, List.push_toArray, List.append_toArray, List.nil_append, List.cons_append]
  have hmk : ∀ W : World, (Instr.makeMap 53 none).run Tryd.prog W = .ok (.map (some W.heap.size)) (W.alloc (.map #[] 0)) := fun W => by rfl
  go_wp2_with (go_at_call 35; (with_reducible refine (t_fields _ _ _ _ rfl).mono ?_); rintro e w3 ⟨rfl, rfl⟩)
  obtain ⟨WQ, hWQ⟩ : ∃ WQ, (((((w.alloc (.cells #[.int .i64 M, .slice A n c] 24)).alloc (.cells #[.string name] 9)).alloc (.cells #[.map (some (w.heap.size + 1 + 1 + 1 + 1))] 53)).alloc (.cells #[.int .i64 0] 3)).alloc (.map #[] 0)) = WQ := ⟨_, rfl⟩
  have K0 : Hid (EnvF ((((((w.alloc (.cells #[.int .i64 M, .slice A n c] 24)).alloc (.cells #[.string name] 9)).alloc (.cells #[.map (some (w.heap.size + 1 + 1 + 1 + 1))] 53)).alloc (.cells #[.int .i64 0] 3)).alloc (.map #[] 0)).alloc (.cells #[.int .i64 M, .slice A n c] 24)) [fF A n xs, stF] [(w.heap.size + 1 + 1 + 1 + 1 + 1, #[.int .i64 M, .slice A n c], 24), (w.heap.size + 1 + 1 + 1, #[.int .i64 0], 3), (w.heap.size + 1 + 1, #[.map (some (w.heap.size + 1 + 1 + 1 + 1))], 53), (w.heap.size + 1, #[.string name], 9), (w.heap.size, #[.int .i64 M, .slice A n c], 24)]) :=
    Lib.hid (((((((envS w HR.out).addF HA.out).boxg 24 #[.int .i64 M, .slice A n c] (w.heap.size) (by simp)).boxg 9 #[.string name] (w.heap.size + 1) (by simp)).boxg 53 #[.map (some (w.heap.size + 1 + 1 + 1 + 1))] (w.heap.size + 1 + 1) (by simp)).boxg 3 #[.int .i64 0] (w.heap.size + 1 + 1 + 1) (by simp)).al (.map #[] 0) |>.boxg 24 #[.int .i64 M, .slice A n c] (w.heap.size + 1 + 1 + 1 + 1 + 1) (by simp))
  have B0 : Hid (Below w.heap.size w ((((((w.alloc (.cells #[.int .i64 M, .slice A n c] 24)).alloc (.cells #[.string name] 9)).alloc (.cells #[.map (some (w.heap.size + 1 + 1 + 1 + 1))] 53)).alloc (.cells #[.int .i64 0] 3)).alloc (.map #[] 0)).alloc (.cells #[.int .i64 M, .slice A n c] 24))) := Lib.hid (((((((Below.refl _ w).alloc (Nat.le_refl _) (.cells #[.int .i64 M, .slice A n c] 24)).alloc (by simp) (.cells #[.string name] 9)).alloc (by simp only [World.size_alloc]; omega) (.cells #[.map (some (w.heap.size + 1 + 1 + 1 + 1))] 53)).alloc (by simp only [World.size_alloc]; omega) (.cells #[.int .i64 0] 3)).alloc (by simp only [World.size_alloc]; omega) (.map #[] 0)).alloc (by simp only [World.size_alloc]; omega) (.cells #[.int .i64 M, .slice A n c] 24))
  have M0 : Hid (MapL ((((((w.alloc (.cells #[.int .i64 M, .slice A n c] 24)).alloc (.cells #[.string name] 9)).alloc (.cells #[.map (some (w.heap.size + 1 + 1 + 1 + 1))] 53)).alloc (.cells #[.int .i64 0] 3)).alloc (.map #[] 0)).alloc (.cells #[.int .i64 M, .slice A n c] 24)) Tryd.prog 26 (w.heap.size + 1 + 1 + 1 + 1) []) := Lib.hid (by
    have h := MapL.made ((((w.alloc (.cells #[.int .i64 M, .slice A n c] 24)).alloc (.cells #[.string name] 9)).alloc (.cells #[.map (some (w.heap.size + 1 + 1 + 1 + 1))] 53)).alloc (.cells #[.int .i64 0] 3)) Tryd.prog 26
    simp only [World.size_alloc] at h
    exact h.below ((Below.refl _ _).alloc (Nat.le_refl _) _))
  have Z0 : Hid (((((((w.alloc (.cells #[.int .i64 M, .slice A n c] 24)).alloc (.cells #[.string name] 9)).alloc (.cells #[.map (some (w.heap.size + 1 + 1 + 1 + 1))] 53)).alloc (.cells #[.int .i64 0] 3)).alloc (.map #[] 0)).alloc (.cells #[.int .i64 M, .slice A n c] 24)).heap.size = w.heap.size + 1 + 1 + 1 + 1 + 1 + 1) := Lib.hid (by simp)
  clear hWQ hmk
  generalize ((((((w.alloc (.cells #[.int .i64 M, .slice A n c] 24)).alloc (.cells #[.string name] 9)).alloc (.cells #[.map (some (w.heap.size + 1 + 1 + 1 + 1))] 53)).alloc (.cells #[.int .i64 0] 3)).alloc (.map #[] 0)).alloc (.cells #[.int .i64 M, .slice A n c] 24)) = Ws at *
  have hz := Z0.out
  have hr5 := cells2_row (K0.out.row 0 rfl)
  have hpA : 0 < n → ∀ b o, A = some ⟨b, o, none⟩ → b < w.heap.size ∨ b = w.heap.size + 1 + 1 + 1 + 1 + 1 := fun h0 b o e => by
    obtain ⟨b', o', e', hb', _⟩ := HA.out.2 h0
    rw [e] at e'
    cases e'
    exact .inl hb'
  have HI0 : NamedI w Ws.heap.size name [] Ws := ⟨K0.out.row 3 rfl, K0.out.row 2 rfl, K0.out.row 1 rfl, M0.out, B0.out, Nat.le_refl _⟩
  have hR0 := Tb.EnvF.stv K0.out (by simp)
  have hA0 := K0.out.fs (A := A) (n := n) (xs := xs) (by simp)
  refine (wpIn_wide (n := 6)).1 ?_
  refine wpIn_rangeFunc_state rfl (by omega) (gf := 36) (lb := #[.pointer (some ⟨w.heap.size + 1 + 1 + 1 + 1 + 1, 0, none⟩)]) rfl trivial (enters_of Tryd.func36 (by kernel_rfl) rfl)
    (fields_stops 5 (by omega) (w.heap.size + 1 + 1 + 1 + 1 + 1) n c M A xs (fun j => j < w.heap.size ∨ j = w.heap.size + 1 + 1 + 1 + 1 + 1) Ws hR0 (by omega) (.inl HR.out.lt) (.inr rfl) hpA hn hF hr5.1 hr5.2 hA0)
    (fun h k => h.trans k) (fun W l o o' hl h hc hw => ⟨KeepC.put W l o o' h hc, (grownBy_putObj' W l o').size⟩) (fun _ => rfl) (fun _ _ _ _ h => h.elim)
    (NamedI w Ws.heap.size name) (namedI_own (by omega)) (fun _ _ _ _ h => h.elim) HI0
    (fun _ z => AtN (fun b => { tmps := #[.agg #[.int .i64 M, .slice A n c], .string name, .pointer (some ⟨w.heap.size, 0, none⟩), .pointer (some ⟨w.heap.size + 1, 0, none⟩), .pointer (some ⟨w.heap.size + 1 + 1, 0, none⟩), .pointer (some ⟨w.heap.size + 1 + 1 + 1, 0, none⟩), .int .i64 (z.1 : Int), .pointer (some ⟨b, 0, none⟩), undef, undef, .map (some (w.heap.size + 1 + 1 + 1 + 1)), .agg #[.int .i64 M, .slice A n c], .func (.func 36) #[] #[.pointer (some ⟨w.heap.size + 1 + 1 + 1 + 1 + 1, 0, none⟩)], .int .i64 (z.1 : Int), .agg #[.string z.2.1, .string z.2.2], undef, undef, undef, undef, undef, undef, undef, undef, undef, undef, undef, undef, undef, undef, undef, undef, undef, undef, undef, undef], defers := [] }) z)
    (fun _ z a' => atN_own _ _ z a')
    ?assign ?body ?done
  case assign =>
    intro l pre z W K hI hV hK
    have HK := Lib.hid hK
    have HI := Lib.hid hI
    have HV := Lib.hid hV
    clear hK hI hV
    gi_wp2
    refine HK.out _ _ ?_ ?_ ?_ ⟨HV.out, W.heap.size, rfl, ?_, ?_⟩
    · exact (KeepsOthers.alloc _ _).from _
    · exact ⟨KeepC.below ((Below.refl _ W).alloc (Nat.le_refl _) _), by simp⟩
    · exact (namedI_own (B := Ws.heap.size) (by omega)).alloc _ HI.out
    · simp [go_sem]
    · simp [go_sem]
  case body =>
    rintro l pre ⟨i, za, zb⟩ a' W _ hI ⟨hsm, b, rfl, k1, k2⟩ hlen
    simp only at k1 k2 hsm ⊢
    have HI := Lib.hid hI
    have c1 := cells1_row hI.r1
    have c2 := cells1_row hI.r2
    have c3 := cells1_row hI.r3
    have z3 := frozen_of_row _ _ 0 _ _ hI.r3
    have hsW := hI.size
    have hzz : w.heap.size + 1 + 1 + 1 + 1 + 1 < Ws.heap.size := by omega
    have hb3 : b ≠ w.heap.size + 1 + 1 + 1 := fun e => by
      subst e
      rw [c3] at k1
      cases k1
    clear hI HI0 hR0 hA0 hpA hr5 hz
    by_cases hn : za = name
    · obtain rfl := hn.symm
      clear hn
      obtain ⟨q, hkey⟩ := fld_key (name, zb) hsm
      by_cases m0 : leOf name pre = 0
      · rw [m0] at c3
        simp only [Int.natCast_zero] at c3
        by_cases hin : ∀ q ∈ esOf name pre, q.1 ≠ fdv (name, zb)
        · have HIN := Lib.hid hin
          have hoth : ∀ k, k ≠ w.heap.size + 1 + 1 + 1 → (W.setCell ⟨w.heap.size + 1 + 1 + 1, 0, none⟩ (.int .i64 (i : Int))).heap[k]? = W.heap[k]? := fun k hk => Below.heap_setCell _ _ _ _ (by simpa using hk)
          have mp1 : MapL (W.setCell ⟨w.heap.size + 1 + 1 + 1, 0, none⟩ (.int .i64 (i : Int))) Tryd.prog 26 (w.heap.size + 1 + 1 + 1 + 1) (esOf name pre) := HI.out.mp.same (hoth _ (by omega))
          have hr3 : (W.setCell ⟨w.heap.size + 1 + 1 + 1, 0, none⟩ (.int .i64 (i : Int))).heap[w.heap.size + 1 + 1 + 1]? = some (.cells #[.int .i64 (i : Int)] 3) := (Go.heap_setCell_same W _ 0 _ _ _ HI.out.r3).trans rfl
          have d2 : (W.setCell ⟨w.heap.size + 1 + 1 + 1, 0, none⟩ (.int .i64 (i : Int))).cell? ⟨w.heap.size + 1 + 1, 0, none⟩ = some (.map (some (w.heap.size + 1 + 1 + 1 + 1))) := (World.cell?_of_block (a := ⟨w.heap.size + 1 + 1, 0, none⟩) (hoth (w.heap.size + 1 + 1) (by omega))).trans c2
          have d4 : (W.setCell ⟨w.heap.size + 1 + 1 + 1, 0, none⟩ (.int .i64 (i : Int))).cell? ⟨b, 0, none⟩ = some (.string name) := (World.cell?_of_block (a := ⟨b, 0, none⟩) (hoth _ hb3)).trans k1
          have d5 : (W.setCell ⟨w.heap.size + 1 + 1 + 1, 0, none⟩ (.int .i64 (i : Int))).cell? ⟨b, 1, none⟩ = some (.string zb) := (World.cell?_of_block (a := ⟨b, 1, none⟩) (hoth _ hb3)).trans k2
          have hbl1 : Below w.heap.size w (W.setCell ⟨w.heap.size + 1 + 1 + 1, 0, none⟩ (.int .i64 (i : Int))) := HI.out.below.setCell (p := ⟨w.heap.size + 1 + 1 + 1, 0, none⟩) (by simp only; omega) _
          have hsz1 : (W.setCell ⟨w.heap.size + 1 + 1 + 1, 0, none⟩ (.int .i64 (i : Int))).heap.size = W.heap.size := by simp
          have hl := mp1.look_no fld_keyed Tryd.underlying53 (z := .int .i64 0) (e := 3) rfl hkey hin
          obtain ⟨w', hrun, hm2, hg2⟩ := mp1.update fld_keyed Tryd.underlying53 hkey hin (.int .i64 (i : Int))
          unfold fdv at hl hrun
          have HX := Lib.hid (And.intro hr3 (And.intro hbl1 (And.intro hsz1 (And.intro hm2 hg2))))
          have HO := Lib.hid hoth
          clear hr3 hbl1 hsz1 hm2 hg2 hoth mp1 hin
          gi_wp2
          obtain ⟨hr3, hbl1, hsz1, hm2, hg2⟩ := HX.out
          have hk2 : ∀ k, k < W.heap.size → k ≠ w.heap.size + 1 + 1 + 1 → k ≠ w.heap.size + 1 + 1 + 1 + 1 → w'.heap[k]? = W.heap[k]? := fun k h1 h2 h3 => (hg2.block k (by omega) (fun e => h3 (Option.some.inj e))).trans (HO.out k h2)
          exact named_round HI.out (by omega) (by omega) (by have := hg2.size; omega) hk2 (by rw [leOf_snoc]; unfold leStep; rw [if_pos ⟨rfl, m0⟩]; exact (hg2.block _ (by omega) (fun e => by have := Option.some.inj e; omega)).trans hr3) (by rw [esOf_snoc]; unfold esStep; rw [if_pos ⟨rfl, HIN.out⟩]; exact hm2) (hbl1.grown hg2 hbl1.size (fun k e => by have := Option.some.inj e; omega))
        · have HIN := Lib.hid hin
          obtain ⟨⟨kk, vv⟩, hin, ek⟩ : ∃ q, q ∈ esOf name pre ∧ q.1 = fdv (name, zb) := Classical.byContradiction fun h => hin fun q hq e => h ⟨q, hq, e⟩
          obtain rfl : kk = fdv (name, zb) := ek
          have hoth : ∀ k, k ≠ w.heap.size + 1 + 1 + 1 → (W.setCell ⟨w.heap.size + 1 + 1 + 1, 0, none⟩ (.int .i64 (i : Int))).heap[k]? = W.heap[k]? := fun k hk => Below.heap_setCell _ _ _ _ (by simpa using hk)
          have mp1 : MapL (W.setCell ⟨w.heap.size + 1 + 1 + 1, 0, none⟩ (.int .i64 (i : Int))) Tryd.prog 26 (w.heap.size + 1 + 1 + 1 + 1) (esOf name pre) := HI.out.mp.same (hoth _ (by omega))
          have hr3 : (W.setCell ⟨w.heap.size + 1 + 1 + 1, 0, none⟩ (.int .i64 (i : Int))).heap[w.heap.size + 1 + 1 + 1]? = some (.cells #[.int .i64 (i : Int)] 3) := (Go.heap_setCell_same W _ 0 _ _ _ HI.out.r3).trans rfl
          have d2 : (W.setCell ⟨w.heap.size + 1 + 1 + 1, 0, none⟩ (.int .i64 (i : Int))).cell? ⟨w.heap.size + 1 + 1, 0, none⟩ = some (.map (some (w.heap.size + 1 + 1 + 1 + 1))) := (World.cell?_of_block (a := ⟨w.heap.size + 1 + 1, 0, none⟩) (hoth (w.heap.size + 1 + 1) (by omega))).trans c2
          have d4 : (W.setCell ⟨w.heap.size + 1 + 1 + 1, 0, none⟩ (.int .i64 (i : Int))).cell? ⟨b, 0, none⟩ = some (.string name) := (World.cell?_of_block (a := ⟨b, 0, none⟩) (hoth _ hb3)).trans k1
          have d5 : (W.setCell ⟨w.heap.size + 1 + 1 + 1, 0, none⟩ (.int .i64 (i : Int))).cell? ⟨b, 1, none⟩ = some (.string zb) := (World.cell?_of_block (a := ⟨b, 1, none⟩) (hoth _ hb3)).trans k2
          have hbl1 : Below w.heap.size w (W.setCell ⟨w.heap.size + 1 + 1 + 1, 0, none⟩ (.int .i64 (i : Int))) := HI.out.below.setCell (p := ⟨w.heap.size + 1 + 1 + 1, 0, none⟩) (by simp only; omega) _
          have hsz1 : (W.setCell ⟨w.heap.size + 1 + 1 + 1, 0, none⟩ (.int .i64 (i : Int))).heap.size = W.heap.size := by simp
          have hl := mp1.look_yes fld_keyed Tryd.underlying53 hkey hin
          unfold fdv at hl
          have HX := Lib.hid (And.intro hr3 (And.intro hbl1 (And.intro hsz1 mp1)))
          have HO := Lib.hid hoth
          clear hr3 hbl1 hsz1 hoth mp1 hin
          gi_wp2
          obtain ⟨hr3, hbl1, hsz1, hm2⟩ := HX.out
          exact named_round HI.out (by omega) (by omega) (by omega) (fun k h1 h2 h3 => HO.out k h2) (by rw [leOf_snoc]; unfold leStep; rw [if_pos ⟨rfl, m0⟩]; exact hr3) (by rw [esOf_snoc]; unfold esStep; rw [if_neg (show ¬ ((i, name, zb).2.1 = name ∧ ∀ q ∈ esOf name pre, q.1 ≠ fdv (i, name, zb).2) from fun h => HIN.out h.2)]; exact hm2) hbl1
      · have m1 : ((leOf name pre : Int) == 0) = false := by simp; omega
        by_cases hin : ∀ q ∈ esOf name pre, q.1 ≠ fdv (name, zb)
        · have HIN := Lib.hid hin
          have hoth : True := trivial
          have mp1 : MapL W Tryd.prog 26 (w.heap.size + 1 + 1 + 1 + 1) (esOf name pre) := HI.out.mp
          have hr3 := HI.out.r3
          have hbl1 : Below w.heap.size w W := HI.out.below
          have hsz1 : W.heap.size = W.heap.size := rfl
          have hl := mp1.look_no fld_keyed Tryd.underlying53 (z := .int .i64 0) (e := 3) rfl hkey hin
          obtain ⟨w', hrun, hm2, hg2⟩ := mp1.update fld_keyed Tryd.underlying53 hkey hin (.int .i64 (i : Int))
          unfold fdv at hl hrun
          have HX := Lib.hid (And.intro hr3 (And.intro hbl1 (And.intro hsz1 (And.intro hm2 hg2))))
          have HO := Lib.hid hoth
          clear hr3 hbl1 hsz1 hm2 hg2 hoth mp1 hin
          gi_wp2
          obtain ⟨hr3, hbl1, hsz1, hm2, hg2⟩ := HX.out
          have hk2 : ∀ k, k < W.heap.size → k ≠ w.heap.size + 1 + 1 + 1 → k ≠ w.heap.size + 1 + 1 + 1 + 1 → w'.heap[k]? = W.heap[k]? := fun k h1 h2 h3 => (hg2.block k (by omega) (fun e => h3 (Option.some.inj e))).trans rfl
          exact named_round HI.out (by omega) (by omega) (by have := hg2.size; omega) hk2 (by rw [leOf_snoc]; unfold leStep; rw [if_neg (fun h => m0 h.2)]; exact (hg2.block _ (by omega) (fun e => by have := Option.some.inj e; omega)).trans hr3) (by rw [esOf_snoc]; unfold esStep; rw [if_pos ⟨rfl, HIN.out⟩]; exact hm2) (hbl1.grown hg2 hbl1.size (fun k e => by have := Option.some.inj e; omega))
        · have HIN := Lib.hid hin
          obtain ⟨⟨kk, vv⟩, hin, ek⟩ : ∃ q, q ∈ esOf name pre ∧ q.1 = fdv (name, zb) := Classical.byContradiction fun h => hin fun q hq e => h ⟨q, hq, e⟩
          obtain rfl : kk = fdv (name, zb) := ek
          have hoth : True := trivial
          have mp1 : MapL W Tryd.prog 26 (w.heap.size + 1 + 1 + 1 + 1) (esOf name pre) := HI.out.mp
          have hr3 := HI.out.r3
          have hbl1 : Below w.heap.size w W := HI.out.below
          have hsz1 : W.heap.size = W.heap.size := rfl
          have hl := mp1.look_yes fld_keyed Tryd.underlying53 hkey hin
          unfold fdv at hl
          have HX := Lib.hid (And.intro hr3 (And.intro hbl1 (And.intro hsz1 mp1)))
          have HO := Lib.hid hoth
          clear hr3 hbl1 hsz1 hoth mp1 hin
          gi_wp2
          obtain ⟨hr3, hbl1, hsz1, hm2⟩ := HX.out
          exact named_round HI.out (by omega) (by omega) (by omega) (fun k h1 h2 h3 => rfl) (by rw [leOf_snoc]; unfold leStep; rw [if_neg (fun h => m0 h.2)]; exact hr3) (by rw [esOf_snoc]; unfold esStep; rw [if_neg (show ¬ ((i, name, zb).2.1 = name ∧ ∀ q ∈ esOf name pre, q.1 ≠ fdv (i, name, zb).2) from fun h => HIN.out h.2)]; exact hm2) hbl1
    · have n1 : (za.toList == name.toList) = false := by rw [beq_eq_false_iff_ne]; exact fun h => hn (ba_eq h)
      gi_wp2
      exact named_round HI.out (by omega) (by omega) (Nat.le_refl _) (fun _ _ _ _ => rfl) (by rw [leOf_snoc]; unfold leStep; rw [if_neg (fun h => hn h.1)]; exact HI.out.r3) (by rw [esOf_snoc]; unfold esStep; rw [if_neg (fun h => hn h.1)]; exact HI.out.mp) HI.out.below
  case done =>
    rintro D ys W hD rfl hI hK
    have HI := Lib.hid hI
    have HK := Lib.hid hK
    have c2 := cells1_row hI.r2
    have c3 := cells1_row hI.r3
    have z2 := frozen_of_row _ _ 0 _ _ hI.r2
    have z3 := frozen_of_row _ _ 0 _ _ hI.r3
    clear hI hK HI0 hR0 hA0 hpA hr5 hz
    go_wp2
    go_region
    go_wp2
    have hx : ∀ k, k ≠ w.heap.size + 1 + 1 → k ≠ w.heap.size + 1 + 1 + 1 → ((W.setCell ⟨w.heap.size + 1 + 1, 0, none⟩ (.map (some (w.heap.size + 1 + 1 + 1 + 1)))).setCell ⟨w.heap.size + 1 + 1 + 1, 0, none⟩ (.int .i64 (leOf name (num (stat ++ xs)) : Int))).heap[k]? = W.heap[k]? := fun k h2 h3 => (Below.heap_setCell _ _ _ _ (by simpa using h3)).trans (Below.heap_setCell _ _ _ _ (by simpa using h2))
    have hx2 : ((W.setCell ⟨w.heap.size + 1 + 1, 0, none⟩ (.map (some (w.heap.size + 1 + 1 + 1 + 1)))).setCell ⟨w.heap.size + 1 + 1 + 1, 0, none⟩ (.int .i64 (leOf name (num (stat ++ xs)) : Int))).heap[w.heap.size + 1 + 1]? = some (.cells #[.map (some (w.heap.size + 1 + 1 + 1 + 1))] 53) := (Below.heap_setCell _ _ _ _ (by simp)).trans ((Go.heap_setCell_same W _ 0 _ _ _ HI.out.r2).trans rfl)
    have hx3 : ((W.setCell ⟨w.heap.size + 1 + 1, 0, none⟩ (.map (some (w.heap.size + 1 + 1 + 1 + 1)))).setCell ⟨w.heap.size + 1 + 1 + 1, 0, none⟩ (.int .i64 (leOf name (num (stat ++ xs)) : Int))).heap[w.heap.size + 1 + 1 + 1]? = some (.cells #[.int .i64 (leOf name (num (stat ++ xs)) : Int)] 3) := (Go.heap_setCell_same _ _ 0 _ _ _ ((Below.heap_setCell _ _ _ _ (by simp)).trans HI.out.r3)).trans rfl
    have hlt := HI.out.size
    have hz := Z0.out
    have hKx : ((W.setCell ⟨w.heap.size + 1 + 1, 0, none⟩ (.map (some (w.heap.size + 1 + 1 + 1 + 1)))).setCell ⟨w.heap.size + 1 + 1 + 1, 0, none⟩ (.int .i64 (leOf name (num (stat ++ xs)) : Int))).heap[D]? = some (.deferred (some [])) := (hx D (by omega) (by omega)).trans HK.out
    have hbx : Below w.heap.size w ((W.setCell ⟨w.heap.size + 1 + 1, 0, none⟩ (.map (some (w.heap.size + 1 + 1 + 1 + 1)))).setCell ⟨w.heap.size + 1 + 1 + 1, 0, none⟩ (.int .i64 (leOf name (num (stat ++ xs)) : Int))).drew := ((HI.out.below.setCell (p := ⟨w.heap.size + 1 + 1, 0, none⟩) (by simp only; omega) _).setCell (p := ⟨w.heap.size + 1 + 1 + 1, 0, none⟩) (by simp only; omega) _).drew
    have hmx := HI.out.mp.same (hx (w.heap.size + 1 + 1 + 1 + 1) (by omega) (by omega))
    clear HI HK c2 c3 z2 z3
    generalize ((W.setCell ⟨w.heap.size + 1 + 1, 0, none⟩ (.map (some (w.heap.size + 1 + 1 + 1 + 1)))).setCell ⟨w.heap.size + 1 + 1 + 1, 0, none⟩ (.int .i64 (leOf name (num (stat ++ xs)) : Int))) = Wx at *
    have hKd : Wx.drew.heap[D]? = some (.deferred (some [])) := hKx
    have hbl : Below w.heap.size w (Wx.drew.putObj D (.deferred none)) := hbx.trans (belowK_b (w := w) (Nat.le_refl _) Wx.drew D _ _ (by omega) hKd rfl rfl)
    have ho : ∀ k, k ≠ D → (Wx.drew.putObj D (.deferred none)).heap[k]? = Wx.heap[k]? := fun k hk => World.putObj_heap_other (by omega)
    exact ⟨by simp, .inl ⟨_, _, rfl, run_takeDeferred hKd, ⟨_, res_two rfl _ _ _ _ _ _ _ _ _ _ rfl ((ho _ (by omega)).trans hx2) rfl ((ho _ (by omega)).trans hx3) Tryd.underlying53 rfl Tryd.underlying3 rfl, _, rfl, hmx.same (ho _ (by omega)), hbl⟩⟩⟩
end Go.Proofs.YtgplkjifgagjpaaDoor
