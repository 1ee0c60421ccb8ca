/- A scope that the run may leave by jumps ahead, to one of two labels. Plain, over any program. -/
import Derived.Test.YtgplkjifgagjpaaDoorGMem
namespace Go.Proofs.YtgplkjifgagjpaaDoor
open Go.RowKit
/-- As Q; by a goto to label l: J; to label m: K; by any other goto: no way out. -/
def jump2 (l m : Nat) (J K : Act → World → Prop) (Q : Exit → Act → World → Prop) : Exit → Act → World → Prop
  | .goto l', a, w => (l' = l ∧ J a w) ∨ (l' = m ∧ K a w)
  | e, a, w => Q e a w
@[go_sem] theorem jump2_normal (l m : Nat) (J K : Act → World → Prop) (Q : Exit → Act → World → Prop) (a : Act) (w : World) : jump2 l m J K Q .normal a w = Q .normal a w := rfl
@[go_sem] theorem jump2_exit (l m : Nat) (J K : Act → World → Prop) (Q : Exit → Act → World → Prop) (id : Nat) (a : Act) (w : World) : jump2 l m J K Q (.exit id) a w = Q (.exit id) a w := rfl
@[go_sem] theorem jump2_ret (l m : Nat) (J K : Act → World → Prop) (Q : Exit → Act → World → Prop) (a : Act) (w : World) : jump2 l m J K Q .ret a w = Q .ret a w := rfl
theorem jump2_l (l m : Nat) (J K : Act → World → Prop) (Q : Exit → Act → World → Prop) (a : Act) (w : World) (h : J a w) : jump2 l m J K Q (.goto l) a w := .inl ⟨rfl, h⟩
theorem jump2_m (l m : Nat) (J K : Act → World → Prop) (Q : Exit → Act → World → Prop) (a : Act) (w : World) (h : K a w) : jump2 l m J K Q (.goto m) a w := .inr ⟨rfl, h⟩
theorem wp_scope_forward2 {P : Program} {a : Act} {w : World} {Q : Exit → Act → World → Prop} {c r s : Code} (l m : Nat) (hl : findLabel c l = some r) (hm : findLabel c m = some s)
    (h : c.wp P (jump2 l m (fun a w => r.wp P (Exit.jump l (fun _ _ => False) Q) a w) (fun a w => s.wp P (Exit.jump l (fun _ _ => False) Q) a w) Q) a w) : (Code.scope c).wp P Q a w := by
  intro b k cs
  have gl : gotoIn l (.inScope c :: k) = some (.code r :: .inScope c :: k) := by simp [gotoIn, hl]
  have gm : gotoIn m (.inScope c :: k) = some (.code s :: .inScope c :: k) := by simp [gotoIn, hm]
  obtain ⟨e, a₁, w₁, hq, harr⟩ := h b (.inScope c :: k) cs
  cases e with
  | normal => exact ⟨.normal, a₁, w₁, hq, .head step_scope (Steps.trans harr (.one step_inScope))⟩
  | exit id => exact ⟨.exit id, a₁, w₁, hq, fun k' hk => .head step_scope (harr k' (by simp [exitTo, hk]))⟩
  | goto l' =>
    have key : ∀ (t : Code) (hg : gotoIn l' (.inScope c :: k) = some (.code t :: .inScope c :: k)) (hJ' : t.wp P (Exit.jump l (fun _ _ => False) Q) a₁ w₁), ∃ e a' w', Q e a' w' ∧ Arrives P (lone (b.at a (.code (.scope c) :: k)) cs w) b k cs e a' w' := by
      intro t hg hJ'
      obtain ⟨e₂, a₂, w₂, hq₂, harr₂⟩ := hJ' b (.inScope c :: k) cs
      cases e₂ with
      | normal => exact ⟨.normal, a₂, w₂, hq₂, .head step_scope (Steps.trans (harr _ hg) (Steps.trans harr₂ (.one step_inScope)))⟩
      | exit id => exact ⟨.exit id, a₂, w₂, hq₂, fun k' hk => .head step_scope (Steps.trans (harr _ hg) (harr₂ k' (by simp [exitTo, hk])))⟩
      | goto l'' => exact hq₂.2.elim
      | ret => exact ⟨_, a₂, w₂, hq₂, .of_steps (.one step_scope) (.of_steps (harr _ hg) harr₂)⟩
      | panic ch => exact ⟨_, a₂, w₂, hq₂, .of_steps (.one step_scope) (.of_steps (harr _ hg) harr₂)⟩
      | outgrown => exact ⟨_, a₂, w₂, hq₂, .of_steps (.one step_scope) (.of_steps (harr _ hg) harr₂)⟩
    rcases hq with ⟨rfl, hJ'⟩ | ⟨rfl, hJ'⟩
    · exact key r gl hJ'
    · exact key s gm hJ'
  | ret => exact ⟨_, a₁, w₁, hq, .of_steps (.one step_scope) harr⟩
  | panic ch => exact ⟨_, a₁, w₁, hq, .of_steps (.one step_scope) harr⟩
  | outgrown => exact ⟨_, a₁, w₁, hq, .of_steps (.one step_scope) harr⟩
/-- A piece of code that only falls off its end, in one frame and one world: what follows goes on there, once. -/
theorem wp_at {P : Program} {c : Code} {K : Act → World → Prop} {Q : Exit → Act → World → Prop} {a : Act} {w : World} (F : Act) (W : World) (h : c.wp P (Exit.then (fun a w => a = F ∧ w = W) fun _ _ _ => False) a w) (k : K F W) : c.wp P (Exit.then K Q) a w :=
  Code.wp_mono (fun e a w h => by
    cases e with
    | normal => obtain ⟨rfl, rfl⟩ := h; exact k
    | _ => exact h.elim) h
end Go.Proofs.YtgplkjifgagjpaaDoor
