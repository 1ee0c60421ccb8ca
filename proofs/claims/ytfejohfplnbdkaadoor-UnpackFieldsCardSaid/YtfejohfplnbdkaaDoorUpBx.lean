/- Bytes that a law puts together in a region that draws its order: their block as a box beside the others; Block in short. -/
import Derived.Test.YtfejohfplnbdkaaDoorUpS
import Derived.Test.YtfejohfplnbdkaaDoorUpT
import Derived.Test.YtfejohfplnbdkaaDoorUpYd
namespace Go.Proofs.YtfejohfplnbdkaaDoor
open Go.RowKit Go.Shelf Px Tx Tb Up
set_option linter.unusedVariables false
set_option linter.unusedSimpArgs false
namespace Up
/-- Bytes of the call's own, their block as a box. -/
def BBox (B : Nat) (v : Value) (L : List UInt8) (lb : List Bx) : Prop :=
  (v = .slice none 0 0 ∧ L = [] ∧ lb = []) ∨ ∃ g cap cur, v = .slice (some ⟨g, 0, none⟩) L.length cap ∧ lb = [(g, cur, 5)] ∧ B ≤ g ∧ ∀ w : World, w.heap[g]? = some (.cells cur 5) → OwnB w B 5 v L
theorem bbox_of {W : World} {B : Nat} {v : Value} {L : List UInt8} (h : OwnB W B 5 v L) : ∃ lb, BBox B v L lb ∧ (∀ y ∈ lb, W.heap[y.1]? = some (.cells y.2.1 y.2.2) ∧ v.ownBlock = some y.1) ∧ lb.length ≤ 1 := by
  rcases h.2 with ⟨rfl, h0⟩ | ⟨g, cap, cur, rfl, hBg, hg, rest⟩
  · exact ⟨[], .inl ⟨rfl, List.eq_nil_of_length_eq_zero h0, rfl⟩, fun y hy => (by cases hy), by simp⟩
  · exact ⟨[(g, cur, 5)], .inr ⟨g, cap, cur, rfl, rfl, hBg, fun w hw => ⟨h.1, .inr ⟨g, cap, cur, rfl, hBg, hw, rest⟩⟩⟩, fun y hy => by rw [List.mem_singleton.1 hy]; exact ⟨hg, rfl⟩, by simp⟩
theorem BBox.own {W : World} {B : Nat} {v : Value} {L : List UInt8} {lb : List Bx} {fs : List Fact} {gs : List Bx} (h : BBox B v L lb) (hE : EnvF W fs gs) (hs : ∀ y ∈ lb, y ∈ gs) : OwnB W B 5 v L := by
  rcases h with ⟨rfl, rfl, rfl⟩ | ⟨g, cap, cur, rfl, rfl, hB, h⟩
  · exact OwnB.nil_ _ _ _
  · exact h W (hE.g _ (hs _ (List.mem_singleton_self _)))
theorem BBox.block {B : Nat} {v : Value} {L : List UInt8} {lb : List Bx} (h : BBox B v L lb) {r : Nat} (hr : v.ownBlock = some r) : ∃ cs t, lb = [(r, cs, t)] := by
  rcases h with ⟨rfl, rfl, rfl⟩ | ⟨g, cap, cur, rfl, rfl, hB, h⟩
  · cases hr
  · have e : some g = some r := hr
    cases e
    exact ⟨_, _, rfl⟩
theorem bbox_append {W W' : World} {fs : List Fact} {gs lb : List Bx} {B : Nat} {v v' : Value} {L L' : List UInt8} (h : EnvF W fs (gs ++ lb)) (hl : BBox B v L lb) (ho : OwnB W' B 5 v' L') (hg : W.grownBy W' v.ownBlock) (hv : v'.ownBlock = v.ownBlock ∨ v'.ownBlock = some W.heap.size) :
    ∃ lb', BBox B v' L' lb' ∧ EnvF W' fs (gs ++ lb') := by
  have hsub : EnvF W fs gs := h.sub (fun x hx => hx) (List.sublist_append_left _ _)
  have hne : ∀ r, v.ownBlock = some r → (∀ x ∈ fs, ¬ x.on r) ∧ ∀ y ∈ gs, y.1 ≠ r := fun r hr => by
    obtain ⟨cs, t, rfl⟩ := hl.block hr
    refine ⟨fun x hx hk => ((h.f x hx).2 r hk).2 _ (List.mem_append_right _ (List.mem_singleton_self _)) rfl, fun y hy e => ?_⟩
    have hd := h.d
    rw [List.map_append, List.nodup_append] at hd
    exact hd.2.2 _ (List.mem_map_of_mem hy) r (by simp) e
  have h1 := hsub.grow3 hg hne
  obtain ⟨lb', hl', hb', hlen⟩ := bbox_of ho
  refine ⟨lb', hl', ?_⟩
  match lb', hlen, hb' with
  | [], _, _ => rw [List.append_nil]; exact h1
  | [y], _, hb' =>
    obtain ⟨hr, hy⟩ := hb' y (List.mem_singleton_self _)
    rw [hy] at hv
    refine h1.snoc hr ?_ ?_
    · intro x hx hk
      rcases hv with hv | hv
      · exact (hne _ hv.symm).1 x hx hk
      · have hy1 : y.1 = W.heap.size := Option.some.inj hv
        have := ((hsub.f x hx).2 _ hk).1
        omega
    · intro z hz e
      rcases hv with hv | hv
      · exact (hne _ hv.symm).2 z hz e
      · have hy1 : y.1 = W.heap.size := Option.some.inj hv
        have := hsub.lt hz
        omega
/-- What a call hands back, of its own. -/
theorem bbox_hand {W W' : World} {fs : List Fact} {gs : List Bx} {B : Nat} {v : Value} {L : List UInt8} (h : EnvF W fs gs) (hb : Below W.heap.size W W') (ho : OwnB W' W.heap.size 5 v L) (hB : B ≤ W.heap.size) :
    ∃ lb, BBox B v L lb ∧ EnvF W' fs (gs ++ lb) := by
  obtain ⟨lb, hl, hb', hlen⟩ := bbox_of (ho.less hB)
  refine ⟨lb, hl, ?_⟩
  have h1 := h.on hb
  match lb, hlen, hb' with
  | [], _, _ => rw [List.append_nil]; exact h1
  | [y], _, hb' =>
    obtain ⟨hr, hy⟩ := hb' y (List.mem_singleton_self _)
    have hbk := ho.block hy
    refine h1.snoc hr ?_ ?_
    · intro x hx hk
      have := ((h.f x hx).2 _ hk).1
      omega
    · intro z hz e
      have := h.lt hz
      omega
theorem bbox_lit {W : World} {fs : List Fact} {gs : List Bx} {B : Nat} (h : EnvF W fs gs) (hB : B ≤ W.heap.size) :
    ∃ lb, BBox B (.slice (some ⟨W.heap.size, 0, none⟩) 0 0) [] lb ∧ EnvF (W.alloc (.cells #[] 5)) fs (gs ++ lb) :=
  bbox_hand h ((Below.refl _ W).alloc (Nat.le_refl _) _) (OwnB.lit W _ _ (Nat.le_refl _)) hB
theorem BBox.form {B : Nat} {v : Value} {L : List UInt8} {lb : List Bx} {W : World} {fs : List Fact} {gs : List Bx} (h : BBox B v L lb) (hE : EnvF W fs (gs ++ lb)) : ∃ A c, v = .slice A L.length c ∧ L.length ≤ c ∧ (A = none → c = 0) := by
  obtain ⟨A, c, e, hh⟩ := (h.own hE (fun y hy => List.mem_append_right _ hy)).handS (n := L.length) rfl
  exact ⟨A, c, e, hh.2.2⟩
theorem BBox.form2 {B : Nat} {v : Value} {L : List UInt8} {lb : List Bx} {W : World} {fs : List Fact} {gs : List Bx} (h : BBox B v L lb) (hE : EnvF W fs (gs ++ lb)) : ∃ A n c, v = .slice A n c ∧ L.length = n ∧ n ≤ c ∧ (A = none → c = 0) := by
  obtain ⟨A, c, e, h1, h2⟩ := h.form hE
  exact ⟨A, _, c, e, rfl, h1, h2⟩
theorem bbox_fact {W : World} {fs : List Fact} {gs lb : List Bx} {B : Nat} {LL : Option Addr} {ll cl : Nat} {L : List UInt8} (h : EnvF W fs (gs ++ lb)) (hl : BBox B (.slice LL ll cl) L lb) (hn : L.length = ll) : EnvF W (bF LL ll L :: fs) gs := by
  have ho := hl.own h (fun y hy => List.mem_append_right _ hy)
  subst hn
  have hs : EnvF W fs gs := h.sub (fun x hx => hx) (List.sublist_append_left _ _)
  obtain ⟨A', c', e, hh⟩ := ho.handS (n := L.length) rfl
  cases e
  refine hs.fact hh.1 (fun k hk => ?_)
  have hlt := bs_on hh.1 k hk
  obtain ⟨hn, o, e⟩ := hk
  refine ⟨hlt, fun y hy e2 => ?_⟩
  obtain ⟨cs, t, rfl⟩ := hl.block (r := k) (by rw [e]; rfl)
  have hd := h.d
  rw [List.map_append, List.nodup_append] at hd
  exact hd.2.2 _ (List.mem_map_of_mem hy) k (by simp) e2.symm
theorem lbox_lit {W : World} {fs : List Fact} {gs : List Bx} {B : Nat} (h : EnvF W fs gs) (hB : B ≤ W.heap.size) :
    ∃ lb, LBox B (.slice (some ⟨W.heap.size, 0, none⟩) 0 0) [] lb ∧ EnvF (W.alloc (.cells #[] 38)) fs (gs ++ lb) := by
  have ho : OwnF (W.alloc (.cells #[] 38)) W.heap.size 38 (.slice (some ⟨W.heap.size, 0, none⟩) 0 0) [] := OwnF.lit W _ _ (Nat.le_refl _) _ rfl
  have hb := (Below.refl _ W).alloc (Nat.le_refl _) (.cells #[] 38)
  obtain ⟨lb, hl, hb', hlen⟩ := lbox_of (ho.less hB)
  refine ⟨lb, hl, ?_⟩
  have h1 := h.on hb
  match lb, hlen, hb' with
  | [], _, _ => rw [List.append_nil]; exact h1
  | [y], _, hb' =>
    obtain ⟨hr, hy⟩ := hb' y (List.mem_singleton_self _)
    have hbk := ho.block hy
    refine h1.snoc hr ?_ ?_
    · intro x hx hk
      have := ((h.f x hx).2 _ hk).1
      omega
    · intro z hz e
      have := h.lt hz
      omega
/-- What a block is, in letters. -/
structure BK (M most : Int) (xs : List Fd) (ls : List UInt8) (E : Int) (nl : Nat) (L : List Fd) (G : Bool) (N : Int) (nt : Nat) (X : List Fd) : Prop where
  e : bE M most xs ls = E
  l : bL M most xs ls = L
  g : bG M most xs ls = G
  m : bM M most xs ls = N
  x : bX M most xs ls = X
  nl : L.length = nl
  nt : X.length = nt
theorem bk_of (M most : Int) (xs : List Fd) (ls : List UInt8) : BK M most xs ls (bE M most xs ls) (bL M most xs ls).length (bL M most xs ls) (bG M most xs ls) (bM M most xs ls) (bX M most xs ls).length (bX M most xs ls) := ⟨rfl, rfl, rfl, rfl, rfl, rfl, rfl⟩
theorem EnvF.drop3 {w : World} {a b c : Fact} {fs : List Fact} {gs : List Bx} (h : EnvF w (a :: b :: c :: fs) gs) : EnvF w (a :: b :: fs) gs :=
  h.sub (fun y hy => by simp only [List.mem_cons] at hy ⊢; rcases hy with rfl | rfl | hy <;> simp [*]) (List.Sublist.refl _)
end Up
/-- Block, in letters. -/
theorem b_call {fs : List Fact} {gs : List Bx} {M most : Int} {A : Option Addr} {n c : Nat} {xs : List Fd} {LA : Option Addr} {ln lc : Nat} {ls : List UInt8} {E : Int} {nl : Nat} {L : List Fd} {G : Bool} {N : Int} {nt : Nat} {X : List Fd} (w : World) (hk : BK M most xs ls E nl L G N nt X) (hV : EnvF w fs gs) (hL : bF LA ln ls ∈ fs) (hlc : ln ≤ lc) (hLN : LA = none → lc = 0) (hA : fF A n xs ∈ fs) (hN : A = none → c = 0) (hS : stF ∈ fs) (hR : rwF ∈ fs) (hM : mvF ∈ fs) (hF : full xs ≤ 20000) (hn : ln ≤ 10000) :
    Calls Tryd.prog 9 #[.agg #[.int .i64 M, .slice A n c], .int .i64 most, .slice LA ln lc] w fun e w' => ∃ LL cl TT tc, e = .returned (.tuple #[.agg #[.slice LL nl cl, .bool G, .int .i64 N, .slice TT nt tc], .int .i64 E]) ∧ Below w.heap.size w w' ∧ EnvF w' (fF LL nl L :: fF TT nt X :: fs) gs ∧ (LL = none → cl = 0) ∧ (TT = none → tc = 0) := by
  obtain ⟨rfl, rfl, rfl, rfl, rfl, rfl, rfl⟩ := hk
  exact u_Block w hV hL hlc hLN hA hN hS hR hM hF hn
end Go.Proofs.YtfejohfplnbdkaaDoor
