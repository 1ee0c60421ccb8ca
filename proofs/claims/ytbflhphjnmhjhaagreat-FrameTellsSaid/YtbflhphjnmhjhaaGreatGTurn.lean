/- A call that writes one box that was there before it, and beside it only what it makes itself; calls through a function's value. Plain, over any program. -/
import Derived.Test.YtbflhphjnmhjhaaGreatGPut
namespace Go.Proofs.YtbflhphjnmhjhaaGreat
open Go.RowKit
set_option linter.unusedVariables false

/-- Of what was there only block g may have turned. -/
structure TurnB (g : Nat) (w w' : World) : Prop where
  os : w'.os = w.os
  tape : w'.tape = w.tape
  output : w'.output = w.output
  size : w.heap.size ≤ w'.heap.size
  oth : ∀ k, k < w.heap.size → k ≠ g → w'.heap[k]? = w.heap[k]?
section
variable {g : Nat} {w w' w1 w2 : World}
theorem TurnB.refl (g : Nat) (w : World) : TurnB g w w := ⟨rfl, rfl, rfl, Nat.le_refl _, fun _ _ _ => rfl⟩
theorem TurnB.trans (h : TurnB g w w1) (k : TurnB g w1 w2) : TurnB g w w2 :=
  ⟨k.os.trans h.os, k.tape.trans h.tape, k.output.trans h.output, Nat.le_trans h.size k.size, fun i hi hg => (k.oth i (Nat.lt_of_lt_of_le hi h.size) hg).trans (h.oth i hi hg)⟩
theorem TurnB.of (h : Below w.heap.size w w1) : TurnB g w w1 := ⟨h.os, h.tape, h.output, h.size, fun i hi _ => h.block i hi⟩
theorem TurnB.callB (h : TurnB g w w1) (hb : Below w1.heap.size w1 w2) : TurnB g w w2 := h.trans (.of hb)
theorem TurnB.al (h : TurnB g w w1) (o : Obj) : TurnB g w (w1.alloc o) := h.callB ((Below.refl _ _).alloc (Nat.le_refl _) _)
theorem TurnB.putg (h : TurnB g w w1) (hoth : ∀ k, k ≠ g → w2.heap[k]? = w1.heap[k]?) (hz : w2.heap.size = w1.heap.size) (hbl : ∀ B w0, B ≤ g → Below B w0 w1 → Below B w0 w2) : TurnB g w w2 := by
  have b := hbl 0 w1 (Nat.zero_le _) (Below.refl _ _)
  exact h.trans ⟨b.os, b.tape, b.output, b.size, fun k _ hk => hoth k hk⟩
theorem TurnB.puto {j : Nat} (h : TurnB g w w1) (hj : w.heap.size ≤ j) (hoth : ∀ k, k ≠ j → w2.heap[k]? = w1.heap[k]?) (hz : w2.heap.size = w1.heap.size) (hbl : ∀ B w0, B ≤ j → Below B w0 w1 → Below B w0 w2) : TurnB g w w2 := by
  have b := hbl 0 w1 (Nat.zero_le _) (Below.refl _ _)
  exact ⟨b.os.trans h.os, b.tape.trans h.tape, b.output.trans h.output, Nat.le_trans h.size b.size, fun k hk hg => (hoth k (by omega)).trans (h.oth k hk hg)⟩
/-- Seen from below the block. -/
theorem TurnB.below {B : Nat} {w0 : World} (h : TurnB g w w1) (hB : B ≤ g) (hlt : g < w.heap.size) (hb : Below B w0 w) : Below B w0 w1 :=
  hb.trans ⟨h.os, h.tape, h.output, h.size, fun k hk => h.oth k (by omega) (by omega)⟩
variable {ss : List (Option Addr × Nat × List UInt8)} {ps : List (Option Addr × Nat × List Pr)} {gs : List Bx}
/-- The world cut to what was there: block g as it is now, nothing else. -/
theorem EnvB.turn2 (h : EnvB w ss ps gs) (i : Nat) {g : Nat} {old cs : Array Value} {t : TypeId} (hi : gs[i]? = some (g, old, t)) (hrow : w'.heap[g]? = some (.cells cs t)) (ht : TurnB g w w') :
    EnvB w' ss ps (gs.set i (g, cs, t)) := by
  have hmem : (g, old, t) ∈ gs := List.mem_of_getElem? hi
  have hfst : (gs.set i (g, cs, t)).map Prod.fst = gs.map Prod.fst := by
    rw [List.map_set]
    apply List.ext_getElem?
    intro k
    rw [List.getElem?_set]
    split
    · rename_i e
      subst e
      rw [List.getElem?_map, hi]
      have : i < gs.length := (List.getElem?_eq_some_iff.1 hi).1
      simp [this]
    · rfl
  have hsub : ∀ y ∈ gs.set i (g, cs, t), y.1 ∈ gs.map Prod.fst := fun y hy => by rw [← hfst]; exact List.mem_map_of_mem hy
  have cellk : ∀ b o : Nat, b < w.heap.size → b ≠ g → w'.cell? ⟨b, o, none⟩ = w.cell? ⟨b, o, none⟩ := fun b o hl hb => World.cell?_of_block (a := ⟨b, o, none⟩) (ht.oth b hl hb)
  have hsz := ht.size
  refine ⟨fun x hx => ⟨⟨(h.s x hx).1.1, fun hn => ?_⟩, fun hn b o e y hy => ?_⟩, fun x hx => ⟨⟨(h.p x hx).1.1, fun hn => ?_⟩, fun hn b o e y hy => ?_⟩, fun y hy => ?_, by rw [hfst]; exact h.d⟩
  · obtain ⟨b, o, e, hb, hc⟩ := (h.s x hx).1.2 hn
    have hne := (h.s x hx).2 hn b o e _ hmem
    exact ⟨b, o, e, by omega, fun j hj => (cellk b _ hb hne).trans (hc j hj)⟩
  · obtain ⟨z, hz2, ez⟩ := List.mem_map.1 (hsub y hy)
    rw [← ez]
    exact (h.s x hx).2 hn b o e z hz2
  · obtain ⟨b, o, e, hb, hc⟩ := (h.p x hx).1.2 hn
    have hne := (h.p x hx).2 hn b o e _ hmem
    exact ⟨b, o, e, by omega, fun j hj => ⟨(cellk b _ hb hne).trans (hc j hj).1, (cellk b _ hb hne).trans (hc j hj).2⟩⟩
  · obtain ⟨z, hz2, ez⟩ := List.mem_map.1 (hsub y hy)
    rw [← ez]
    exact (h.p x hx).2 hn b o e z hz2
  · obtain ⟨k, hk, ek⟩ := List.mem_iff_getElem.1 hy
    rw [List.getElem_set] at ek
    split at ek
    · subst ek
      exact hrow
    · rename_i hne
      have hk' : k < gs.length := by simpa using hk
      have hy2 : y ∈ gs := ek ▸ List.getElem_mem hk'
      have hne2 : y.1 ≠ g := fun e => by
        have n1 : (gs.map Prod.fst)[k]? = some g := by rw [List.getElem?_map, List.getElem?_eq_getElem hk', ek]; simp [e]
        have n2 : (gs.map Prod.fst)[i]? = some g := by rw [List.getElem?_map, hi]; rfl
        have hi' : i < (gs.map Prod.fst).length := (List.getElem?_eq_some_iff.1 n2).1
        exact hne ((List.getElem?_inj hi' h.d).1 (n2.trans n1.symm))
      rw [ht.oth _ (h.lt hy2) hne2]
      exact h.g y hy2
/-- A slice that a call made lies beside the boxes that were there, whatever box it turned. -/
theorem EnvB.plusS (h : EnvB w ss ps gs) {gs' : List Bx} (h' : EnvB w' ss ps gs') (hf : gs'.map Prod.fst = gs.map Prod.fst) {A : Option Addr} {n c : Nat} {xs : List UInt8} (ho : HandS w' w.heap.size A n c xs) : EnvB w' ((A, n, xs) :: ss) ps gs' := by
  refine ⟨fun x hx => ?_, h'.p, h'.g, h'.d⟩
  rcases List.mem_cons.1 hx with rfl | hx
  · refine ⟨ho.1, fun hn b o e y hy => ?_⟩
    have hy2 : y.1 ∈ gs.map Prod.fst := by rw [← hf]; exact List.mem_map_of_mem hy
    obtain ⟨z, hz, ez⟩ := List.mem_map.1 hy2
    have := h.lt hz
    have := ho.2.1 hn b o e
    omega
  · exact h'.s x hx
theorem EnvB.plusP (h : EnvB w ss ps gs) {gs' : List Bx} (h' : EnvB w' ss ps gs') (hf : gs'.map Prod.fst = gs.map Prod.fst) {A : Option Addr} {n c : Nat} {xs : List Pr} (ho : HandP w' w.heap.size A n c xs) : EnvB w' ss ((A, n, xs) :: ps) gs' := by
  refine ⟨h'.s, fun x hx => ?_, h'.g, h'.d⟩
  rcases List.mem_cons.1 hx with rfl | hx
  · refine ⟨ho.1, fun hn b o e y hy => ?_⟩
    have hy2 : y.1 ∈ gs.map Prod.fst := by rw [← hf]; exact List.mem_map_of_mem hy
    obtain ⟨z, hz, ez⟩ := List.mem_map.1 hy2
    have := h.lt hz
    have := ho.2.1 hn b o e
    omega
  · exact h'.p x hx
theorem fst_set (gs : List Bx) (i : Nat) {g : Nat} {old cs : Array Value} {t : TypeId} (hi : gs[i]? = some (g, old, t)) : (gs.set i (g, cs, t)).map Prod.fst = gs.map Prod.fst := by
  rw [List.map_set]
  apply List.ext_getElem?
  intro k
  rw [List.getElem?_set]
  split
  · rename_i e
    subst e
    rw [List.getElem?_map, hi]
    have : i < gs.length := (List.getElem?_eq_some_iff.1 hi).1
    simp [this]
  · rfl
theorem EnvB.turnSP (h : EnvB w ss ps gs) (i : Nat) {g : Nat} {old cs : Array Value} {t : TypeId} (hi : gs[i]? = some (g, old, t)) (hrow : w'.heap[g]? = some (.cells cs t)) (ht : TurnB g w w')
    {A : Option Addr} {n c : Nat} {xs : List UInt8} (ho : HandS w' w.heap.size A n c xs) {A2 : Option Addr} {n2 c2 : Nat} {ys : List Pr} (hp : HandP w' w.heap.size A2 n2 c2 ys) :
    EnvB w' ((A, n, xs) :: ss) ((A2, n2, ys) :: ps) (gs.set i (g, cs, t)) :=
  have e := h.turn2 i hi hrow ht
  ⟨(h.plusS e (fst_set gs i hi) ho).s, (h.plusP e (fst_set gs i hi) hp).p, e.g, e.d⟩
theorem EnvB.turnS (h : EnvB w ss ps gs) (i : Nat) {g : Nat} {old cs : Array Value} {t : TypeId} (hi : gs[i]? = some (g, old, t)) (hrow : w'.heap[g]? = some (.cells cs t)) (ht : TurnB g w w')
    {A : Option Addr} {n c : Nat} {xs : List UInt8} (ho : HandS w' w.heap.size A n c xs) : EnvB w' ((A, n, xs) :: ss) ps (gs.set i (g, cs, t)) :=
  h.plusS (h.turn2 i hi hrow ht) (fst_set gs i hi) ho
/-- A box that was there and that a slice lies beside. -/
theorem EnvB.oldbox (h : EnvB w ss ps []) (g : Nat) (cs : Array Value) (t : TypeId) (hg : w.heap[g]? = some (.cells cs t)) (hs : ∀ x ∈ ss, 0 < x.2.1 → ∀ b o, x.1 = some ⟨b, o, none⟩ → b ≠ g) (hp : ∀ x ∈ ps, 0 < x.2.1 → ∀ b o, x.1 = some ⟨b, o, none⟩ → b ≠ g) : EnvB w ss ps [(g, cs, t)] := by
  refine ⟨fun x hx => ⟨(h.s x hx).1, fun hn b o e y hy => ?_⟩, fun x hx => ⟨(h.p x hx).1, fun hn b o e y hy => ?_⟩, fun y hy => ?_, by simp⟩
  · rcases List.mem_cons.1 hy with rfl | hy
    · exact hs x hx hn b o e
    · cases hy
  · rcases List.mem_cons.1 hy with rfl | hy
    · exact hp x hx hn b o e
    · cases hy
  · rcases List.mem_cons.1 hy with rfl | hy
    · exact hg
    · cases hy
/-- Fewer boxes, fewer slices. -/
theorem EnvB.sub {ss' : List (Option Addr × Nat × List UInt8)} {ps' : List (Option Addr × Nat × List Pr)} {gs' : List Bx} (h : EnvB w ss ps gs) (h1 : ∀ x ∈ ss', x ∈ ss) (h2 : ∀ x ∈ ps', x ∈ ps) (h3 : List.Sublist gs' gs) : EnvB w ss' ps' gs' :=
  ⟨fun x hx => ⟨(h.s x (h1 x hx)).1, fun hn b o e y hy => (h.s x (h1 x hx)).2 hn b o e y (h3.subset hy)⟩, fun x hx => ⟨(h.p x (h2 x hx)).1, fun hn b o e y hy => (h.p x (h2 x hx)).2 hn b o e y (h3.subset hy)⟩, fun y hy => h.g y (h3.subset hy), (h3.map Prod.fst).nodup h.d⟩
end
section
variable {P : Program}
/-- A function's value enters function J. -/
def Enters (P : Program) (J : FuncId) : Prop := ∀ (args : Array Value) (w : World), (callFunc J args).run P w = .ok (.enter J args) w
theorem at_callv {ops : Array Oper} {rest : List Oper} {o : Oper} {a : Act} {w : World} {Q : Exit → Act → World → Prop} (xv : Operand) (xs : Array Operand) (ats : Array TypeId) (_ : o.op = .call { callee := .value xv, args := xs, argTypes := ats }) (h : wpList P ops Q (o :: rest) a w) : wpList P ops Q (o :: rest) a w := h
theorem wp_callv {op : Oper} {a : Act} {w : World} {K : Act → World → Prop} {Q : Exit → Act → World → Prop} (xv : Operand) (xs : Array Operand) (ats : Array TypeId) (ho : op.op = .call { callee := .value xv, args := xs, argTypes := ats })
    (J : FuncId) (cap : Array Value) (hT : a.eval xv = .func (.func J) #[] cap) (hE : Enters P J) (args : Array Value) (ha : xs.map a.eval ++ cap = args)
    (R : Value → World → Prop) (hC : Calls P J args w fun e w' => ∃ v, e = .returned v ∧ R v w') (h : ∀ v w', R v w' → K (a.put op.dst v) w') : op.wp P a w K Q := by
  unfold Oper.wp execOp
  have e : (callFunc J args).run P w = .ok (.enter J args) w := hE args w
  have ha2 : #[] ++ xs.map a.eval ++ cap = args := by simpa using ha
  simp only [ho, resolve, hT, Deferred.ofValue, Sem.run_bind, Sem.run_pure, Result.andThen_ok, invoke, ha2, e, Oper.upon_enter]
  refine hC.mono ?_
  rintro e w' ⟨v, rfl, hr⟩
  exact h v w' hr
theorem wpList_callv {ops : Array Oper} {rest : List Oper} {op : Oper} {a : Act} {w : World} {Q : Exit → Act → World → Prop} (hgd : op.guard = none) (xv : Operand) (xs : Array Operand) (ats : Array TypeId) (ho : op.op = .call { callee := .value xv, args := xs, argTypes := ats })
    (J : FuncId) (cap : Array Value) (hT : a.eval xv = .func (.func J) #[] cap) (hE : Enters P J) (args : Array Value) (ha : xs.map a.eval ++ cap = args)
    (R : Value → World → Prop) (hC : Calls P J args w fun e w' => ∃ v, e = .returned v ∧ R v w') (h : ∀ v w', R v w' → wpList P ops Q rest (a.put op.dst v) w') : wpList P ops Q (op :: rest) a w :=
  wpList_plain hgd fun _ hK => wp_callv xv xs ats ho J cap hT hE args ha R hC fun v w' hr => hK _ _ (h v w' hr)
theorem step_callv {ops : Array Oper} {op : Oper} {a : Act} {w : World} {K : Act → World → Prop} {Q : Exit → Act → World → Prop} {E : Prop} (hgd : op.guard = none) (xv : Operand) (xs : Array Operand) (ats : Array TypeId) (ho : op.op = .call { callee := .value xv, args := xs, argTypes := ats })
    (J : FuncId) (cap : Array Value) (hT : a.eval xv = .func (.func J) #[] cap) (hE : Enters P J) (args : Array Value) (ha : xs.map a.eval ++ cap = args)
    (R : Value → World → Prop) (hC : Calls P J args w fun e w' => ∃ v, e = .returned v ∧ R v w') (h : ∀ v w', R v w' → K (a.put op.dst v) w') : if Region.wanted op (yielded ops a.tmps) = true then Oper.wp P op a w K Q else E := by
  have hw : Region.wanted op (yielded ops a.tmps) = true := by simp [Region.wanted, hgd]
  rw [if_pos hw]
  exact wp_callv xv xs ats ho J cap hT hE args ha R hC h
end
theorem res_cell1 {P : Program} {fn : Func} {p : Tmp} {ty : TypeId} (h : fn.results = #[.cell p ty]) (tmps : Array Value) (w : World) (g : Nat) (t : TypeId) (cs : Array Value) (d : TypeDesc)
    (hp : tmps.getD p undef = .pointer (some ⟨g, 0, none⟩)) (hg : w.heap[g]? = some (.cells cs t))
    (hu : P.underlying ty = some d) (hd : (match d with | .struct _ | .array _ _ => true | _ => false) = true) (hi : (P.info? ty).map (·.size) = some cs.size) :
    (results fn tmps).run P w = .ok (.agg cs) w := by
  have hp' : tmps[p]?.getD undef = .pointer (some ⟨g, 0, none⟩) := by simpa using hp
  simp [results, h, hp', asAddr, run_loadVar_row w g t ty cs _ d hg hu hd hi]
end Go.Proofs.YtbflhphjnmhjhaaGreat
