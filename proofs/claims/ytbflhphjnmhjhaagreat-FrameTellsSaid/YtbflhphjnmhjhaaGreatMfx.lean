/- FtX, FtD, FtR. -/
import Derived.Test.YtbflhphjnmhjhaaGreatFrY
import Derived.Test.YtbflhphjnmhjhaaGreatFrQ
import Derived.Test.YtbflhphjnmhjhaaGreatMx
import Derived.Test.YtbflhphjnmhjhaaGreatGDraw
/- Layer 4, plainly: the document's Right and the program's are the same, and what is put. -/
namespace Go.Proofs.YtbflhphjnmhjhaaGreat
open Go.RowKit Oct Fi Fm
set_option linter.unusedVariables false
set_option linter.unusedSimpArgs false
namespace Fm
def rightB (f : Fr) : Bool := decide (parseR f.kd f.fl f.st (payV f) = (f, fine))
theorem data1_rk (K F : UInt8) (S : Int) (xs : List UInt8) : (data1 K F S xs).1.rk = false := by
  unfold data1
  split
  · split <;> rfl
  · rfl
theorem rk_parse {K F : UInt8} {S : Int} {xs : List UInt8} {d : Fr} (h : parseR K F S xs = (d, fine)) (hk : K.toNat = 1) : d.rk = hasB (F.toNat : Int) 32 := by
  obtain ⟨_, hi⟩ := fine_inv h
  have e : innerR K F S xs = dataR K F S xs := by unfold innerR; rw [if_pos (.inr hk)]
  rw [e] at hi
  have h1 := data1_rk K F S xs
  unfold dataR at hi
  by_cases g : (data1 K F S xs).2 = true
  · rw [if_pos g] at hi
    by_cases g2 : hasB (F.toNat : Int) 32 = true
    · rw [if_pos ⟨hk, g2⟩] at hi
      unfold rank1 at hi
      by_cases g3 : 5 ≤ (data1 K F S xs).1.da.length
      · rw [if_pos g3] at hi
        rw [← (Prod.mk.inj hi).1, g2]
      · rw [if_neg g3] at hi
        cases hi
    · rw [if_neg (fun h => g2 h.2)] at hi
      have hd : (data1 K F S xs).1 = d := (Prod.mk.inj hi).1
      rw [← hd, h1]
      simpa using g2
  · rw [if_neg g] at hi
    cases hi
theorem nu1_of {x : Int} (h : nuE [x] = 0) (zs : List UInt8) : nuV [x] zs = putV x 4 ++ zs := by
  unfold nuE at h
  have hb : nuOk [x] = true := by
    by_cases g : nuOk [x] = true
    · exact g
    · rw [if_neg g] at h; cases h
  have hp : PutIn x 4 := by simpa [nuOk] using hb
  unfold nuV putV
  rw [if_pos hb, if_pos hp]
  simp
theorem nu2_of {x y : Int} (h : nuE [x, y] = 0) (zs : List UInt8) : nuV [x, y] zs = putV x 4 ++ putV y 4 ++ zs := by
  unfold nuE at h
  have hb : nuOk [x, y] = true := by
    by_cases g : nuOk [x, y] = true
    · exact g
    · rw [if_neg g] at h; cases h
  have hp : PutIn x 4 ∧ PutIn y 4 := by simpa [nuOk] using hb
  unfold nuV putV
  rw [if_pos hb, if_pos hp.1, if_pos hp.2]
  simp
theorem pay_lay {f : Fr} (hs : standB f = true) : payV f = (layR f).1 := by
  obtain ⟨h0, hpar, _, _⟩ := stand_head hs
  unfold payV payB
  unfold layR at h0 ⊢
  by_cases k0 : f.kd.toNat = 0
  · simp only [k0, if_true] at h0 ⊢
    unfold padF
    by_cases g : hasB (f.fl.toNat : Int) 8 = true <;> simp [g]
  by_cases k1 : f.kd.toNat = 1
  · have hr := rk_parse hpar k1
    rw [if_neg k0, if_pos k1] at h0 ⊢
    by_cases g2 : hasB (f.fl.toNat : Int) 32 = true
    · rw [if_pos g2] at h0 ⊢
      rw [g2] at hr
      unfold rkF at h0 ⊢
      by_cases g3 : prE f.dp = 0
      · rw [if_pos g3]
        unfold padF
        by_cases g : hasB (f.fl.toNat : Int) 8 = true <;> simp [g, k1, hr]
      · rw [if_neg g3] at h0
        exact absurd h0 g3
    · rw [if_neg g2]
      have hr2 : f.rk = false := by rw [hr]; simpa using g2
      unfold padF
      by_cases g : hasB (f.fl.toNat : Int) 8 = true <;> simp [g, k1, hr2]
  rw [if_neg (show ¬ ((f.kd.toNat = 0 ∨ f.kd.toNat = 1) ∧ hasB (f.fl.toNat : Int) 8 = true) from fun h => by omega)]
  have K2 : f.kd.toNat = 2 ∨ ¬ f.kd.toNat = 2 := by omega
  by_cases k2 : f.kd.toNat = 2
  · simp [k2]
  by_cases k4 : f.kd.toNat = 4
  · simp [k4]
  by_cases k3 : f.kd.toNat = 3
  · simp only [k3, Nat.reduceEqDiff, or_self, or_false, false_or, true_or, reduceIte] at h0 ⊢
    rw [nu1_of h0]
    simp [fourN, k3]
  by_cases k7 : f.kd.toNat = 7
  · simp only [k7, Nat.reduceEqDiff, or_self, or_false, false_or, true_or, reduceIte] at h0 ⊢
    rw [nu2_of h0]
    simp [fourN, k7]
  by_cases k8 : f.kd.toNat = 8
  · simp only [k8, Nat.reduceEqDiff, or_self, or_false, false_or, true_or, or_true, reduceIte] at h0 ⊢
    rw [nu1_of h0]
    simp [fourN, k8]
  by_cases k16 : f.kd.toNat = 16
  · simp only [k16, Nat.reduceEqDiff, or_self, or_false, false_or, true_or, reduceIte] at h0 ⊢
    rw [nu1_of h0]
    simp [fourN, k16]
  · simp only [k0, k1, k2, k3, k4, k7, k8, k16, or_self, false_and, reduceIte]
theorem right_stand (f : Fr) : rightB f = standB f := by
  by_cases hs : standB f = true
  · rw [hs]
    unfold rightB
    rw [pay_lay hs]
    exact decide_eq_true (stand_head hs).2.1
  · have hs2 : standB f = false := by simpa using hs
    rw [hs2]
    unfold rightB
    refine decide_eq_false fun h => hs ?_
    obtain ⟨a1, _, a3, _⟩ := again h
    unfold standB
    exact decide_eq_true ⟨a1, a3⟩
end Fm
end Go.Proofs.YtbflhphjnmhjhaaGreat
/- FrameTells: slices of pairs among a walk's facts; what the document's payload and Parse tell, for a walk. -/
namespace Go.Proofs.YtbflhphjnmhjhaaGreat
open Go.RowKit Oct Fi Fm
set_option linter.unusedVariables false
/-- Pairs. -/
def pF (A : Option Addr) (n : Nat) (xs : List Pr) : Fact where
  on k := 0 < n ∧ ∃ o, A = some ⟨k, o, none⟩
  is w := Ps w w.heap.size A n xs
  dep w w' h hz hk := ⟨h.1, fun hn => by
    obtain ⟨b, o, e, hb, hc⟩ := h.2 hn
    exact ⟨b, o, e, by omega, fun j hj => ⟨(World.cell?_of_block (a := ⟨b, _, none⟩) (hk b ⟨hn, o, e⟩)).trans (hc j hj).1, (World.cell?_of_block (a := ⟨b, _, none⟩) (hk b ⟨hn, o, e⟩)).trans (hc j hj).2⟩⟩⟩
section
variable {w w' : World} {fs : List Fact} {gs : List Bx}
theorem EnvF.ps (h : EnvF w fs gs) {A : Option Addr} {n : Nat} {xs : List Pr} (hm : pF A n xs ∈ fs) : Ps w w.heap.size A n xs := (h.f _ hm).1
theorem psF_on {A : Option Addr} {n : Nat} {xs : List Pr} (h : Ps w w.heap.size A n xs) : ∀ k, (pF A n xs).on k → k < w.heap.size := fun k hk => by
  obtain ⟨hn, o, e⟩ := hk
  obtain ⟨b, o', e', hb, _⟩ := h.2 hn
  rw [e] at e'
  cases e'
  exact hb
theorem HandP.handF {B : Nat} {A : Option Addr} {n c : Nat} {xs : List Pr} (h : HandP w B A n c xs) : HandF w B (pF A n xs) := ⟨h.1, fun k hk => by
  have h1 := psF_on h.1 k hk
  obtain ⟨hn, o, e⟩ := hk
  exact ⟨h.2.1 hn k o e, h1⟩⟩
/-- One thing more that the same call hands back. -/
theorem EnvF.handP2 {x y : Fact} (h' : EnvF w' (y :: fs) gs) (h : EnvF w fs gs) (hb : Below w.heap.size w w') (hx : HandF w' w.heap.size x) : EnvF w' (x :: y :: fs) gs :=
  ⟨fun z hz => by
    rcases List.mem_cons.1 hz with rfl | hz
    · exact ⟨hx.1, fun k hk => ⟨(hx.2 k hk).2, fun u hu => by have := h.lt hu; have := (hx.2 k hk).1; omega⟩⟩
    · exact h'.f z hz, h'.g, h'.d⟩
end
namespace Fm
def PayTo (f : Fr) (A D : Option Addr) (n c m e pn : Nat) : Prop :=
  ∀ (w0 : World), Bs w0 w0.heap.size A n f.da → Ps w0 w0.heap.size D m f.ps →
    Calls Tryz.prog 30 #[.agg (fra f A n c D m e)] w0 fun e' w' => ∃ A2 c2, e' = .returned (.slice A2 pn c2) ∧ HandS w' w0.heap.size A2 pn c2 (payV f) ∧ Below w0.heap.size w0 w'
def DocTo (f : Fr) (pn : Nat) (d : Fr) (xb : Bool) (xs xc : Int) : Prop :=
  ∀ (A : Option Addr) (c : Nat) (w0 : World), Bs w0 w0.heap.size A pn (payV f) → (A = none → c = 0) → pn ≤ c →
    Calls Tryz.prog 7 #[.agg #[.int .i64 0, .int .u8 f.kd.toNat, .int .u8 f.fl.toNat, .int .i64 f.st], .slice A pn c] w0 fun e w' =>
      ∃ (A7 : Option Addr) (n7 c7 : Nat) (A8 : Option Addr) (n8 c8 : Nat), e = .returned (.tuple #[.agg (fra d A7 n7 c7 A8 n8 c8), .agg #[.bool xb, .int .i64 xs, .int .u32 xc]]) ∧ HandS w' w0.heap.size A7 n7 c7 d.da ∧ HandP w' w0.heap.size A8 n8 c8 d.ps ∧ Below w0.heap.size w0 w'
theorem pay_to (f : Fr) (A D : Option Addr) (n c m e : Nat) (hN : A = none → c = 0) (hn : n ≤ 9000) (hm : m ≤ 10000) : PayTo f A D n c m e (payV f).length := by
  intro w0 h1 h2
  refine (m_payload f A D n c m e w0 h1 hN hn h2 hm).mono ?_
  rintro e' w' ⟨v, rfl, ho, hb⟩
  obtain ⟨A2, c2, rfl, hh⟩ := ho.handS (n := (payV f).length) rfl
  exact ⟨A2, c2, rfl, hh, hb⟩
theorem doc_to (f : Fr) (hl : (payV f).length ≤ 100000) (d : Fr) (xb : Bool) (xs : Int) (xc : Nat) (h : parseR f.kd f.fl f.st (payV f) = (d, xb, xs, xc)) : DocTo f (payV f).length d xb xs (xc : Int) := by
  intro A c w0 hA hN hnc
  refine (m_parse 0 f.st f.kd f.fl A (payV f).length c (payV f) w0 hA hN hl hnc).mono ?_
  rintro e w' ⟨A7, n7, c7, A8, n8, c8, rfl, h1, h2, hb⟩
  rw [h] at h1 h2 ⊢
  exact ⟨A7, n7, c7, A8, n8, c8, rfl, h1, h2, hb⟩
end Fm
end Go.Proofs.YtbflhphjnmhjhaaGreat
/- FrameTells: the document's Right, region 2, which draws its order. -/
namespace Go.Proofs.YtbflhphjnmhjhaaGreat
open Go.RowKit Oct Fi Fm
set_option linter.unusedVariables false
set_option linter.unusedSimpArgs false
set_option linter.unusedSectionVars false
noncomputable def ftops : List Oper := GD.opsOf 2 (Tryz.f13.body.getD .skip)
section
variable {w0 : World} {fs : List Fact} {gs : List Bx} {f d : Fr} {A D : Option Addr} {n c m e pn : Nat} {xs xc : Int} {g1 g2 : Nat} {xb : Bool} {v0 v2 v4 v5 v6 v7 v8 v9 v10 v11 v12 v13 v16 v17 v18 v19 v20 v21 v22 v23 v24 v25 v26 v27 : Value} {KK : Act → World → Prop} (HPY : Hid (PayTo f A D n c m e pn)) (HPA : Hid (DocTo f pn d xb xs xc)) (h1 : (g1, (fra f A n c D m e), 30) ∈ gs) (h2 : (g2, #[.int .i64 0, .int .u8 f.kd.toNat, .int .u8 f.fl.toNat, .int .i64 f.st], 23) ∈ gs) (hfa : bF A n f.da ∈ fs) (hfp : pF D m f.ps ∈ fs) (hR : ∀ (g5 g6 : Nat) (A2 : Option Addr) (c2 : Nat) (A7 : Option Addr) (n7 c7 : Nat) (A8 : Option Addr) (n8 c8 : Nat) (w : World), EnvF w (pF A8 n8 d.ps :: bF A7 n7 d.da :: bF A2 pn (payV f) :: fs) ((g6, #[.bool xb, .int .i64 xs, .int .u32 xc], 34) :: (g5, (fra d A7 n7 c7 A8 n8 c8), 30) :: gs) → w0.heap.size ≤ g5 → w0.heap.size ≤ g6 → Below w0.heap.size w0 w → KK { tmps := #[v0, .pointer (some ⟨g1, 0, none⟩), v2, .pointer (some ⟨g2, 0, none⟩), .pointer (some ⟨g5, 0, none⟩), .pointer (some ⟨g6, 0, none⟩), v6, v7, v8, v9, v10, v11, v12, .tuple #[.agg (fra d A7 n7 c7 A8 n8 c8), .agg #[.bool xb, .int .i64 xs, .int .u32 xc]], .agg #[.int .i64 0, .int .u8 f.kd.toNat, .int .u8 f.fl.toNat, .int .i64 f.st], .agg (fra f A n c D m e), .slice A2 pn c2, .tuple #[.agg (fra d A7 n7 c7 A8 n8 c8), .agg #[.bool xb, .int .i64 xs, .int .u32 xc]], .agg (fra d A7 n7 c7 A8 n8 c8), .agg #[.bool xb, .int .i64 xs, .int .u32 xc], v20, v21, v22, v23, v24, v25, v26, v27], defers := [] } w)
include HPY HPA h1 h2 hfa hfp hR
set_option maxRecDepth 100000 in
set_option maxHeartbeats 4000000 in
theorem ft_mcab {A2 : Option Addr} {c2 : Nat} {g5 : Nat} {g6 : Nat} {A7 : Option Addr} {n7 c7 : Nat} {A8 : Option Addr} {n8 c8 : Nat}  (hc2 : Hid (pn ≤ c2 ∧ (A2 = none → c2 = 0))) (le5 : w0.heap.size ≤ g5) (le6 : w0.heap.size ≤ g6) {w : World} (ls : Array Bool) (hl : ls = #[true, true, true, true, true, true, true, true, true, false, false]) (K : EnvF w (pF A8 n8 d.ps :: bF A7 n7 d.da :: bF A2 pn (payV f) :: fs) ((g6, #[.bool false, .int .i64 0, .int .u32 0], 34) :: (g5, zF0, 30) :: gs)) (B : Below w0.heap.size w0 w) :
    wpAnyH Tryz.prog .any ftops.toArray (Exit.then KK fun _ _ _ => False) (fun W' => (W'.cell? ⟨g2, 0, none⟩ = some (.int .i64 0) ∧ W'.cell? ⟨g2, 1, none⟩ = some (.int .u8 f.kd.toNat) ∧ W'.cell? ⟨g2, 2, none⟩ = some (.int .u8 f.fl.toNat) ∧ W'.cell? ⟨g2, 3, none⟩ = some (.int .i64 f.st)) ∧ W'.cell? ⟨g1, 0, none⟩ = some (.int .u8 f.kd.toNat) ∧ W'.cell? ⟨g1, 1, none⟩ = some (.int .u8 f.fl.toNat) ∧ W'.cell? ⟨g1, 2, none⟩ = some (.int .i64 f.st) ∧ W'.cell? ⟨g1, 3, none⟩ = some (.slice A n c) ∧ W'.cell? ⟨g1, 4, none⟩ = some (.int .i64 f.pd) ∧ W'.cell? ⟨g1, 5, none⟩ = some (.int .i64 f.la) ∧ W'.cell? ⟨g1, 6, none⟩ = some (.int .i64 f.ic) ∧ W'.cell? ⟨g1, 7, none⟩ = some (.int .u32 f.co.toNat) ∧ W'.cell? ⟨g1, 8, none⟩ = some (.slice D m e) ∧ W'.cell? ⟨g1, 9, none⟩ = some (.bool f.rk) ∧ W'.cell? ⟨g1, 10, none⟩ = some (.bool f.al) ∧ W'.cell? ⟨g1, 11, none⟩ = some (.int .i64 f.dp) ∧ W'.cell? ⟨g1, 12, none⟩ = some (.int .u8 f.wt.toNat)) 2 ls { tmps := #[v0, .pointer (some ⟨g1, 0, none⟩), v2, .pointer (some ⟨g2, 0, none⟩), .pointer (some ⟨g5, 0, none⟩), .pointer (some ⟨g6, 0, none⟩), v6, v7, v8, v9, v10, v11, v12, .tuple #[.agg (fra d A7 n7 c7 A8 n8 c8), .agg #[.bool xb, .int .i64 xs, .int .u32 xc]], .agg #[.int .i64 0, .int .u8 f.kd.toNat, .int .u8 f.fl.toNat, .int .i64 f.st], .agg (fra f A n c D m e), .slice A2 pn c2, .tuple #[.agg (fra d A7 n7 c7 A8 n8 c8), .agg #[.bool xb, .int .i64 xs, .int .u32 xc]], .agg (fra d A7 n7 c7 A8 n8 c8), .agg #[.bool xb, .int .i64 xs, .int .u32 xc], v20, v21, v22, v23, v24, v25, v26, v27], defers := [] } w := by
  subst hl
  have K1 := K
  have B1 := B
  refine GD.readyD (i := 9) rfl (by as_aux_lemma => kernel_rfl) (fun K' hK => ?_)
  refine step_put (by rfl) 30 (.tmp 4) (.tmp 18) (by rfl) g5 0 (.agg (fra d A7 n7 c7 A8 n8 c8)) (by rfl) (by rfl) 30 zF0 (fra d A7 n7 c7 A8 n8 c8) (K1.row 1 rfl) (by simp [Value.cells]) (by kernel_rfl) info_F (by kernel_rfl) ?_
  intro w2 c1' c2' c3' c4'
  have K2 := K1.turn 1 rfl c1' c2' c3'
  have B2 := c4' _ _ le5 B1
  refine hK.out _ _ ⟨cells4_row (K2.g _ (List.Mem.tail _ (List.Mem.tail _ (h2)))), c13_row (K2.g _ (List.Mem.tail _ (List.Mem.tail _ (h1))))⟩ (fun hH => ?_)
  clear hK K'
  try simp only [Act.put, List.setIfInBounds_toArray, List.set_cons_zero, List.set_cons_succ]
  refine GD.readyD (i := 10) rfl (by as_aux_lemma => kernel_rfl) (fun K' hK => ?_)
  refine step_put (by rfl) 34 (.tmp 5) (.tmp 19) (by rfl) g6 0 (.agg #[.bool xb, .int .i64 xs, .int .u32 xc]) (by rfl) (by rfl) 34 #[.bool false, .int .i64 0, .int .u32 0] #[.bool xb, .int .i64 xs, .int .u32 xc] (K2.row 0 rfl) (by simp [Value.cells]) (by kernel_rfl) info_X (by kernel_rfl) ?_
  intro w3 c1' c2' c3' c4'
  have K3 := K2.turn 0 rfl c1' c2' c3'
  have B3 := c4' _ _ le6 B2
  refine hK.out _ _ ⟨cells4_row (K3.g _ (List.Mem.tail _ (List.Mem.tail _ (h2)))), c13_row (K3.g _ (List.Mem.tail _ (List.Mem.tail _ (h1))))⟩ (fun hH => ?_)
  clear hK K'
  try simp only [Act.put, List.setIfInBounds_toArray, List.set_cons_zero, List.set_cons_succ]
  refine wpAnyH_done (by as_aux_lemma => kernel_rfl) ?_ _
  exact hR _ _ _ _ _ _ _ _ _ _ _ K3 le5 le6 B3
set_option maxRecDepth 100000 in
set_option maxHeartbeats 4000000 in
theorem ft_mab {A2 : Option Addr} {c2 : Nat} {g5 : Nat} {g6 : Nat}  (hc2 : Hid (pn ≤ c2 ∧ (A2 = none → c2 = 0))) (le5 : w0.heap.size ≤ g5) (le6 : w0.heap.size ≤ g6) {w : World} (ls : Array Bool) (hl : ls = #[true, true, true, false, false, false, false, true, true, false, false]) (K : EnvF w (bF A2 pn (payV f) :: fs) ((g6, #[.bool false, .int .i64 0, .int .u32 0], 34) :: (g5, zF0, 30) :: gs)) (B : Below w0.heap.size w0 w) :
    wpAnyH Tryz.prog .any ftops.toArray (Exit.then KK fun _ _ _ => False) (fun W' => (W'.cell? ⟨g2, 0, none⟩ = some (.int .i64 0) ∧ W'.cell? ⟨g2, 1, none⟩ = some (.int .u8 f.kd.toNat) ∧ W'.cell? ⟨g2, 2, none⟩ = some (.int .u8 f.fl.toNat) ∧ W'.cell? ⟨g2, 3, none⟩ = some (.int .i64 f.st)) ∧ W'.cell? ⟨g1, 0, none⟩ = some (.int .u8 f.kd.toNat) ∧ W'.cell? ⟨g1, 1, none⟩ = some (.int .u8 f.fl.toNat) ∧ W'.cell? ⟨g1, 2, none⟩ = some (.int .i64 f.st) ∧ W'.cell? ⟨g1, 3, none⟩ = some (.slice A n c) ∧ W'.cell? ⟨g1, 4, none⟩ = some (.int .i64 f.pd) ∧ W'.cell? ⟨g1, 5, none⟩ = some (.int .i64 f.la) ∧ W'.cell? ⟨g1, 6, none⟩ = some (.int .i64 f.ic) ∧ W'.cell? ⟨g1, 7, none⟩ = some (.int .u32 f.co.toNat) ∧ W'.cell? ⟨g1, 8, none⟩ = some (.slice D m e) ∧ W'.cell? ⟨g1, 9, none⟩ = some (.bool f.rk) ∧ W'.cell? ⟨g1, 10, none⟩ = some (.bool f.al) ∧ W'.cell? ⟨g1, 11, none⟩ = some (.int .i64 f.dp) ∧ W'.cell? ⟨g1, 12, none⟩ = some (.int .u8 f.wt.toNat)) 6 ls { tmps := #[v0, .pointer (some ⟨g1, 0, none⟩), v2, .pointer (some ⟨g2, 0, none⟩), .pointer (some ⟨g5, 0, none⟩), .pointer (some ⟨g6, 0, none⟩), v6, v7, v8, v9, v10, v11, v12, v13, .agg #[.int .i64 0, .int .u8 f.kd.toNat, .int .u8 f.fl.toNat, .int .i64 f.st], .agg (fra f A n c D m e), .slice A2 pn c2, v17, v18, v19, v20, v21, v22, v23, v24, v25, v26, v27], defers := [] } w := by
  subst hl
  refine wpAnyH_ready (rs := [3]) (by as_aux_lemma => kernel_rfl) (by simp) ?_
  refine AllReadyH.cons (GD.getOf (i := 3) rfl) (fun K' hK => ?_) ?_
  ·
    go_simp
    go_at_call 7
    refine (HPA.out A2 c2 w (K.bs (List.Mem.head _)) hc2.out.2 hc2.out.1).mono ?_
    rintro e w2 ⟨A7, n7, c7, A8, n8, c8, rfl, hh, hp, hb⟩
    have K2 := (K.handS hb hh).handP2 K hb hp.handF
    have B2 := below_step B hb
    refine hK.out _ _ ⟨cells4_row (K2.g _ (List.Mem.tail _ (List.Mem.tail _ (h2)))), c13_row (K2.g _ (List.Mem.tail _ (List.Mem.tail _ (h1))))⟩ (fun hH => ?_)
    clear hK K'
    try simp only [Act.put, List.setIfInBounds_toArray, List.set_cons_zero, List.set_cons_succ]
    refine GD.takeD (i := 4) (v := ?_) rfl (by as_aux_lemma => kernel_rfl) (by as_aux_lemma => kernel_rfl) (by as_aux_lemma => kernel_rfl) (fun _ _ _ h => h) (Or.inl ⟨by rfl, ?_⟩) hH ?_
    rotate_left
    · intro w hSw; (try dsimp only at hSw); go_simp <;> with_reducible rfl
    try simp only [Act.put, List.setIfInBounds_toArray, List.set_cons_zero, List.set_cons_succ]
    refine GD.takeD (i := 5) (v := ?_) rfl (by as_aux_lemma => kernel_rfl) (by as_aux_lemma => kernel_rfl) (by as_aux_lemma => kernel_rfl) (fun _ _ _ h => h) (Or.inl ⟨by rfl, ?_⟩) hH ?_
    rotate_left
    · intro w hSw; (try dsimp only at hSw); go_simp <;> with_reducible rfl
    try simp only [Act.put, List.setIfInBounds_toArray, List.set_cons_zero, List.set_cons_succ]
    refine GD.takeD (i := 6) (v := ?_) rfl (by as_aux_lemma => kernel_rfl) (by as_aux_lemma => kernel_rfl) (by as_aux_lemma => kernel_rfl) (fun _ _ _ h => h) (Or.inl ⟨by rfl, ?_⟩) hH ?_
    rotate_left
    · intro w hSw; (try dsimp only at hSw); go_simp <;> with_reducible rfl
    try simp only [Act.put, List.setIfInBounds_toArray, List.set_cons_zero, List.set_cons_succ]
    exact ft_mcab HPY HPA h1 h2 hfa hfp hR hc2 le5 le6 _ (by kernel_rfl) K2 B2
  exact AllReadyH.nil
set_option maxRecDepth 100000 in
set_option maxHeartbeats 4000000 in
theorem ft_mcb {A2 : Option Addr} {c2 : Nat} {g6 : Nat} {A7 : Option Addr} {n7 c7 : Nat} {A8 : Option Addr} {n8 c8 : Nat}  (hc2 : Hid (pn ≤ c2 ∧ (A2 = none → c2 = 0))) (le6 : w0.heap.size ≤ g6) {w : World} (ls : Array Bool) (hl : ls = #[true, true, true, true, true, true, true, false, true, false, false]) (K : EnvF w (pF A8 n8 d.ps :: bF A7 n7 d.da :: bF A2 pn (payV f) :: fs) ((g6, #[.bool false, .int .i64 0, .int .u32 0], 34) :: gs)) (B : Below w0.heap.size w0 w) :
    wpAnyH Tryz.prog .any ftops.toArray (Exit.then KK fun _ _ _ => False) (fun W' => (W'.cell? ⟨g2, 0, none⟩ = some (.int .i64 0) ∧ W'.cell? ⟨g2, 1, none⟩ = some (.int .u8 f.kd.toNat) ∧ W'.cell? ⟨g2, 2, none⟩ = some (.int .u8 f.fl.toNat) ∧ W'.cell? ⟨g2, 3, none⟩ = some (.int .i64 f.st)) ∧ W'.cell? ⟨g1, 0, none⟩ = some (.int .u8 f.kd.toNat) ∧ W'.cell? ⟨g1, 1, none⟩ = some (.int .u8 f.fl.toNat) ∧ W'.cell? ⟨g1, 2, none⟩ = some (.int .i64 f.st) ∧ W'.cell? ⟨g1, 3, none⟩ = some (.slice A n c) ∧ W'.cell? ⟨g1, 4, none⟩ = some (.int .i64 f.pd) ∧ W'.cell? ⟨g1, 5, none⟩ = some (.int .i64 f.la) ∧ W'.cell? ⟨g1, 6, none⟩ = some (.int .i64 f.ic) ∧ W'.cell? ⟨g1, 7, none⟩ = some (.int .u32 f.co.toNat) ∧ W'.cell? ⟨g1, 8, none⟩ = some (.slice D m e) ∧ W'.cell? ⟨g1, 9, none⟩ = some (.bool f.rk) ∧ W'.cell? ⟨g1, 10, none⟩ = some (.bool f.al) ∧ W'.cell? ⟨g1, 11, none⟩ = some (.int .i64 f.dp) ∧ W'.cell? ⟨g1, 12, none⟩ = some (.int .u8 f.wt.toNat)) 3 ls { tmps := #[v0, .pointer (some ⟨g1, 0, none⟩), v2, .pointer (some ⟨g2, 0, none⟩), v4, .pointer (some ⟨g6, 0, none⟩), v6, v7, v8, v9, v10, v11, v12, .tuple #[.agg (fra d A7 n7 c7 A8 n8 c8), .agg #[.bool xb, .int .i64 xs, .int .u32 xc]], .agg #[.int .i64 0, .int .u8 f.kd.toNat, .int .u8 f.fl.toNat, .int .i64 f.st], .agg (fra f A n c D m e), .slice A2 pn c2, .tuple #[.agg (fra d A7 n7 c7 A8 n8 c8), .agg #[.bool xb, .int .i64 xs, .int .u32 xc]], .agg (fra d A7 n7 c7 A8 n8 c8), .agg #[.bool xb, .int .i64 xs, .int .u32 xc], v20, v21, v22, v23, v24, v25, v26, v27], defers := [] } w := by
  subst hl
  refine wpAnyH_ready (rs := [7]) (by as_aux_lemma => kernel_rfl) (by simp) ?_
  refine AllReadyH.cons (GD.getOf (i := 7) rfl) (fun K' hK => ?_) ?_
  ·
    go_simp
    have K2 := (GD.swapE (K.boxg 30 zF0 w.heap.size rfl))
    have B2 := B.alloc B.size (.cells zF0 30)
    have le5 := B.size
    refine hK.out _ _ ⟨cells4_row (K2.g _ (List.Mem.tail _ (List.Mem.tail _ (h2)))), c13_row (K2.g _ (List.Mem.tail _ (List.Mem.tail _ (h1))))⟩ (fun hH => ?_)
    clear hK K'
    try simp only [Act.put, List.setIfInBounds_toArray, List.set_cons_zero, List.set_cons_succ]
    exact ft_mcab HPY HPA h1 h2 hfa hfp hR hc2 le5 le6 _ (by kernel_rfl) K2 B2
  exact AllReadyH.nil
set_option maxRecDepth 100000 in
set_option maxHeartbeats 4000000 in
theorem ft_mca {A2 : Option Addr} {c2 : Nat} {g5 : Nat} {A7 : Option Addr} {n7 c7 : Nat} {A8 : Option Addr} {n8 c8 : Nat}  (hc2 : Hid (pn ≤ c2 ∧ (A2 = none → c2 = 0))) (le5 : w0.heap.size ≤ g5) {w : World} (ls : Array Bool) (hl : ls = #[true, true, true, true, true, true, true, true, false, false, false]) (K : EnvF w (pF A8 n8 d.ps :: bF A7 n7 d.da :: bF A2 pn (payV f) :: fs) ((g5, zF0, 30) :: gs)) (B : Below w0.heap.size w0 w) :
    wpAnyH Tryz.prog .any ftops.toArray (Exit.then KK fun _ _ _ => False) (fun W' => (W'.cell? ⟨g2, 0, none⟩ = some (.int .i64 0) ∧ W'.cell? ⟨g2, 1, none⟩ = some (.int .u8 f.kd.toNat) ∧ W'.cell? ⟨g2, 2, none⟩ = some (.int .u8 f.fl.toNat) ∧ W'.cell? ⟨g2, 3, none⟩ = some (.int .i64 f.st)) ∧ W'.cell? ⟨g1, 0, none⟩ = some (.int .u8 f.kd.toNat) ∧ W'.cell? ⟨g1, 1, none⟩ = some (.int .u8 f.fl.toNat) ∧ W'.cell? ⟨g1, 2, none⟩ = some (.int .i64 f.st) ∧ W'.cell? ⟨g1, 3, none⟩ = some (.slice A n c) ∧ W'.cell? ⟨g1, 4, none⟩ = some (.int .i64 f.pd) ∧ W'.cell? ⟨g1, 5, none⟩ = some (.int .i64 f.la) ∧ W'.cell? ⟨g1, 6, none⟩ = some (.int .i64 f.ic) ∧ W'.cell? ⟨g1, 7, none⟩ = some (.int .u32 f.co.toNat) ∧ W'.cell? ⟨g1, 8, none⟩ = some (.slice D m e) ∧ W'.cell? ⟨g1, 9, none⟩ = some (.bool f.rk) ∧ W'.cell? ⟨g1, 10, none⟩ = some (.bool f.al) ∧ W'.cell? ⟨g1, 11, none⟩ = some (.int .i64 f.dp) ∧ W'.cell? ⟨g1, 12, none⟩ = some (.int .u8 f.wt.toNat)) 3 ls { tmps := #[v0, .pointer (some ⟨g1, 0, none⟩), v2, .pointer (some ⟨g2, 0, none⟩), .pointer (some ⟨g5, 0, none⟩), v5, v6, v7, v8, v9, v10, v11, v12, .tuple #[.agg (fra d A7 n7 c7 A8 n8 c8), .agg #[.bool xb, .int .i64 xs, .int .u32 xc]], .agg #[.int .i64 0, .int .u8 f.kd.toNat, .int .u8 f.fl.toNat, .int .i64 f.st], .agg (fra f A n c D m e), .slice A2 pn c2, .tuple #[.agg (fra d A7 n7 c7 A8 n8 c8), .agg #[.bool xb, .int .i64 xs, .int .u32 xc]], .agg (fra d A7 n7 c7 A8 n8 c8), .agg #[.bool xb, .int .i64 xs, .int .u32 xc], v20, v21, v22, v23, v24, v25, v26, v27], defers := [] } w := by
  subst hl
  refine wpAnyH_ready (rs := [8]) (by as_aux_lemma => kernel_rfl) (by simp) ?_
  refine AllReadyH.cons (GD.getOf (i := 8) rfl) (fun K' hK => ?_) ?_
  ·
    go_simp
    have K2 := (K.boxg 34 #[.bool false, .int .i64 0, .int .u32 0] w.heap.size rfl)
    have B2 := B.alloc B.size (.cells #[.bool false, .int .i64 0, .int .u32 0] 34)
    have le6 := B.size
    refine hK.out _ _ ⟨cells4_row (K2.g _ (List.Mem.tail _ (List.Mem.tail _ (h2)))), c13_row (K2.g _ (List.Mem.tail _ (List.Mem.tail _ (h1))))⟩ (fun hH => ?_)
    clear hK K'
    try simp only [Act.put, List.setIfInBounds_toArray, List.set_cons_zero, List.set_cons_succ]
    exact ft_mcab HPY HPA h1 h2 hfa hfp hR hc2 le5 le6 _ (by kernel_rfl) K2 B2
  exact AllReadyH.nil
set_option maxRecDepth 100000 in
set_option maxHeartbeats 4000000 in
theorem ft_ab {g5 : Nat} {g6 : Nat}  (le5 : w0.heap.size ≤ g5) (le6 : w0.heap.size ≤ g6) {w : World} (ls : Array Bool) (hl : ls = #[true, true, false, false, false, false, false, true, true, false, false]) (K : EnvF w (fs) ((g6, #[.bool false, .int .i64 0, .int .u32 0], 34) :: (g5, zF0, 30) :: gs)) (B : Below w0.heap.size w0 w) :
    wpAnyH Tryz.prog .any ftops.toArray (Exit.then KK fun _ _ _ => False) (fun W' => (W'.cell? ⟨g2, 0, none⟩ = some (.int .i64 0) ∧ W'.cell? ⟨g2, 1, none⟩ = some (.int .u8 f.kd.toNat) ∧ W'.cell? ⟨g2, 2, none⟩ = some (.int .u8 f.fl.toNat) ∧ W'.cell? ⟨g2, 3, none⟩ = some (.int .i64 f.st)) ∧ W'.cell? ⟨g1, 0, none⟩ = some (.int .u8 f.kd.toNat) ∧ W'.cell? ⟨g1, 1, none⟩ = some (.int .u8 f.fl.toNat) ∧ W'.cell? ⟨g1, 2, none⟩ = some (.int .i64 f.st) ∧ W'.cell? ⟨g1, 3, none⟩ = some (.slice A n c) ∧ W'.cell? ⟨g1, 4, none⟩ = some (.int .i64 f.pd) ∧ W'.cell? ⟨g1, 5, none⟩ = some (.int .i64 f.la) ∧ W'.cell? ⟨g1, 6, none⟩ = some (.int .i64 f.ic) ∧ W'.cell? ⟨g1, 7, none⟩ = some (.int .u32 f.co.toNat) ∧ W'.cell? ⟨g1, 8, none⟩ = some (.slice D m e) ∧ W'.cell? ⟨g1, 9, none⟩ = some (.bool f.rk) ∧ W'.cell? ⟨g1, 10, none⟩ = some (.bool f.al) ∧ W'.cell? ⟨g1, 11, none⟩ = some (.int .i64 f.dp) ∧ W'.cell? ⟨g1, 12, none⟩ = some (.int .u8 f.wt.toNat)) 7 ls { tmps := #[v0, .pointer (some ⟨g1, 0, none⟩), v2, .pointer (some ⟨g2, 0, none⟩), .pointer (some ⟨g5, 0, none⟩), .pointer (some ⟨g6, 0, none⟩), v6, v7, v8, v9, v10, v11, v12, v13, .agg #[.int .i64 0, .int .u8 f.kd.toNat, .int .u8 f.fl.toNat, .int .i64 f.st], .agg (fra f A n c D m e), v16, v17, v18, v19, v20, v21, v22, v23, v24, v25, v26, v27], defers := [] } w := by
  subst hl
  refine wpAnyH_ready (rs := [2]) (by as_aux_lemma => kernel_rfl) (by simp) ?_
  refine AllReadyH.cons (GD.getOf (i := 2) rfl) (fun K' hK => ?_) ?_
  ·
    go_simp
    go_at_call 30
    refine (HPY.out w (K.bs (hfa)) (K.ps (hfp))).mono ?_
    rintro e w2 ⟨A2, c2, rfl, hh, hb⟩
    have K2 := K.handS hb hh
    have B2 := below_step B hb
    have hc2 := Lib.hid hh.2.2
    refine hK.out _ _ ⟨cells4_row (K2.g _ (List.Mem.tail _ (List.Mem.tail _ (h2)))), c13_row (K2.g _ (List.Mem.tail _ (List.Mem.tail _ (h1))))⟩ (fun hH => ?_)
    clear hK K'
    try simp only [Act.put, List.setIfInBounds_toArray, List.set_cons_zero, List.set_cons_succ]
    exact ft_mab HPY HPA h1 h2 hfa hfp hR hc2 le5 le6 _ (by kernel_rfl) K2 B2
  exact AllReadyH.nil
set_option maxRecDepth 100000 in
set_option maxHeartbeats 4000000 in
theorem ft_mb {A2 : Option Addr} {c2 : Nat} {g6 : Nat}  (hc2 : Hid (pn ≤ c2 ∧ (A2 = none → c2 = 0))) (le6 : w0.heap.size ≤ g6) {w : World} (ls : Array Bool) (hl : ls = #[true, true, true, false, false, false, false, false, true, false, false]) (K : EnvF w (bF A2 pn (payV f) :: fs) ((g6, #[.bool false, .int .i64 0, .int .u32 0], 34) :: gs)) (B : Below w0.heap.size w0 w) :
    wpAnyH Tryz.prog .any ftops.toArray (Exit.then KK fun _ _ _ => False) (fun W' => (W'.cell? ⟨g2, 0, none⟩ = some (.int .i64 0) ∧ W'.cell? ⟨g2, 1, none⟩ = some (.int .u8 f.kd.toNat) ∧ W'.cell? ⟨g2, 2, none⟩ = some (.int .u8 f.fl.toNat) ∧ W'.cell? ⟨g2, 3, none⟩ = some (.int .i64 f.st)) ∧ W'.cell? ⟨g1, 0, none⟩ = some (.int .u8 f.kd.toNat) ∧ W'.cell? ⟨g1, 1, none⟩ = some (.int .u8 f.fl.toNat) ∧ W'.cell? ⟨g1, 2, none⟩ = some (.int .i64 f.st) ∧ W'.cell? ⟨g1, 3, none⟩ = some (.slice A n c) ∧ W'.cell? ⟨g1, 4, none⟩ = some (.int .i64 f.pd) ∧ W'.cell? ⟨g1, 5, none⟩ = some (.int .i64 f.la) ∧ W'.cell? ⟨g1, 6, none⟩ = some (.int .i64 f.ic) ∧ W'.cell? ⟨g1, 7, none⟩ = some (.int .u32 f.co.toNat) ∧ W'.cell? ⟨g1, 8, none⟩ = some (.slice D m e) ∧ W'.cell? ⟨g1, 9, none⟩ = some (.bool f.rk) ∧ W'.cell? ⟨g1, 10, none⟩ = some (.bool f.al) ∧ W'.cell? ⟨g1, 11, none⟩ = some (.int .i64 f.dp) ∧ W'.cell? ⟨g1, 12, none⟩ = some (.int .u8 f.wt.toNat)) 7 ls { tmps := #[v0, .pointer (some ⟨g1, 0, none⟩), v2, .pointer (some ⟨g2, 0, none⟩), v4, .pointer (some ⟨g6, 0, none⟩), v6, v7, v8, v9, v10, v11, v12, v13, .agg #[.int .i64 0, .int .u8 f.kd.toNat, .int .u8 f.fl.toNat, .int .i64 f.st], .agg (fra f A n c D m e), .slice A2 pn c2, v17, v18, v19, v20, v21, v22, v23, v24, v25, v26, v27], defers := [] } w := by
  subst hl
  refine wpAnyH_ready (rs := [3, 7]) (by as_aux_lemma => kernel_rfl) (by simp) ?_
  refine AllReadyH.cons (GD.getOf (i := 3) rfl) (fun K' hK => ?_) ?_
  ·
    go_simp
    go_at_call 7
    refine (HPA.out A2 c2 w (K.bs (List.Mem.head _)) hc2.out.2 hc2.out.1).mono ?_
    rintro e w2 ⟨A7, n7, c7, A8, n8, c8, rfl, hh, hp, hb⟩
    have K2 := (K.handS hb hh).handP2 K hb hp.handF
    have B2 := below_step B hb
    refine hK.out _ _ ⟨cells4_row (K2.g _ (List.Mem.tail _ (h2))), c13_row (K2.g _ (List.Mem.tail _ (h1)))⟩ (fun hH => ?_)
    clear hK K'
    try simp only [Act.put, List.setIfInBounds_toArray, List.set_cons_zero, List.set_cons_succ]
    refine GD.takeD (i := 4) (v := ?_) rfl (by as_aux_lemma => kernel_rfl) (by as_aux_lemma => kernel_rfl) (by as_aux_lemma => kernel_rfl) (fun _ _ _ h => h) (Or.inl ⟨by rfl, ?_⟩) hH ?_
    rotate_left
    · intro w hSw; (try dsimp only at hSw); go_simp <;> with_reducible rfl
    try simp only [Act.put, List.setIfInBounds_toArray, List.set_cons_zero, List.set_cons_succ]
    refine GD.takeD (i := 5) (v := ?_) rfl (by as_aux_lemma => kernel_rfl) (by as_aux_lemma => kernel_rfl) (by as_aux_lemma => kernel_rfl) (fun _ _ _ h => h) (Or.inl ⟨by rfl, ?_⟩) hH ?_
    rotate_left
    · intro w hSw; (try dsimp only at hSw); go_simp <;> with_reducible rfl
    try simp only [Act.put, List.setIfInBounds_toArray, List.set_cons_zero, List.set_cons_succ]
    refine GD.takeD (i := 6) (v := ?_) rfl (by as_aux_lemma => kernel_rfl) (by as_aux_lemma => kernel_rfl) (by as_aux_lemma => kernel_rfl) (fun _ _ _ h => h) (Or.inl ⟨by rfl, ?_⟩) hH ?_
    rotate_left
    · intro w hSw; (try dsimp only at hSw); go_simp <;> with_reducible rfl
    try simp only [Act.put, List.setIfInBounds_toArray, List.set_cons_zero, List.set_cons_succ]
    exact ft_mcb HPY HPA h1 h2 hfa hfp hR hc2 le6 _ (by kernel_rfl) K2 B2
  refine AllReadyH.cons (GD.getOf (i := 7) rfl) (fun K' hK => ?_) ?_
  ·
    go_simp
    have K2 := (GD.swapE (K.boxg 30 zF0 w.heap.size rfl))
    have B2 := B.alloc B.size (.cells zF0 30)
    have le5 := B.size
    refine hK.out _ _ ⟨cells4_row (K2.g _ (List.Mem.tail _ (List.Mem.tail _ (h2)))), c13_row (K2.g _ (List.Mem.tail _ (List.Mem.tail _ (h1))))⟩ (fun hH => ?_)
    clear hK K'
    try simp only [Act.put, List.setIfInBounds_toArray, List.set_cons_zero, List.set_cons_succ]
    exact ft_mab HPY HPA h1 h2 hfa hfp hR hc2 le5 le6 _ (by kernel_rfl) K2 B2
  exact AllReadyH.nil
set_option maxRecDepth 100000 in
set_option maxHeartbeats 4000000 in
theorem ft_ma {A2 : Option Addr} {c2 : Nat} {g5 : Nat}  (hc2 : Hid (pn ≤ c2 ∧ (A2 = none → c2 = 0))) (le5 : w0.heap.size ≤ g5) {w : World} (ls : Array Bool) (hl : ls = #[true, true, true, false, false, false, false, true, false, false, false]) (K : EnvF w (bF A2 pn (payV f) :: fs) ((g5, zF0, 30) :: gs)) (B : Below w0.heap.size w0 w) :
    wpAnyH Tryz.prog .any ftops.toArray (Exit.then KK fun _ _ _ => False) (fun W' => (W'.cell? ⟨g2, 0, none⟩ = some (.int .i64 0) ∧ W'.cell? ⟨g2, 1, none⟩ = some (.int .u8 f.kd.toNat) ∧ W'.cell? ⟨g2, 2, none⟩ = some (.int .u8 f.fl.toNat) ∧ W'.cell? ⟨g2, 3, none⟩ = some (.int .i64 f.st)) ∧ W'.cell? ⟨g1, 0, none⟩ = some (.int .u8 f.kd.toNat) ∧ W'.cell? ⟨g1, 1, none⟩ = some (.int .u8 f.fl.toNat) ∧ W'.cell? ⟨g1, 2, none⟩ = some (.int .i64 f.st) ∧ W'.cell? ⟨g1, 3, none⟩ = some (.slice A n c) ∧ W'.cell? ⟨g1, 4, none⟩ = some (.int .i64 f.pd) ∧ W'.cell? ⟨g1, 5, none⟩ = some (.int .i64 f.la) ∧ W'.cell? ⟨g1, 6, none⟩ = some (.int .i64 f.ic) ∧ W'.cell? ⟨g1, 7, none⟩ = some (.int .u32 f.co.toNat) ∧ W'.cell? ⟨g1, 8, none⟩ = some (.slice D m e) ∧ W'.cell? ⟨g1, 9, none⟩ = some (.bool f.rk) ∧ W'.cell? ⟨g1, 10, none⟩ = some (.bool f.al) ∧ W'.cell? ⟨g1, 11, none⟩ = some (.int .i64 f.dp) ∧ W'.cell? ⟨g1, 12, none⟩ = some (.int .u8 f.wt.toNat)) 7 ls { tmps := #[v0, .pointer (some ⟨g1, 0, none⟩), v2, .pointer (some ⟨g2, 0, none⟩), .pointer (some ⟨g5, 0, none⟩), v5, v6, v7, v8, v9, v10, v11, v12, v13, .agg #[.int .i64 0, .int .u8 f.kd.toNat, .int .u8 f.fl.toNat, .int .i64 f.st], .agg (fra f A n c D m e), .slice A2 pn c2, v17, v18, v19, v20, v21, v22, v23, v24, v25, v26, v27], defers := [] } w := by
  subst hl
  refine wpAnyH_ready (rs := [3, 8]) (by as_aux_lemma => kernel_rfl) (by simp) ?_
  refine AllReadyH.cons (GD.getOf (i := 3) rfl) (fun K' hK => ?_) ?_
  ·
    go_simp
    go_at_call 7
    refine (HPA.out A2 c2 w (K.bs (List.Mem.head _)) hc2.out.2 hc2.out.1).mono ?_
    rintro e w2 ⟨A7, n7, c7, A8, n8, c8, rfl, hh, hp, hb⟩
    have K2 := (K.handS hb hh).handP2 K hb hp.handF
    have B2 := below_step B hb
    refine hK.out _ _ ⟨cells4_row (K2.g _ (List.Mem.tail _ (h2))), c13_row (K2.g _ (List.Mem.tail _ (h1)))⟩ (fun hH => ?_)
    clear hK K'
    try simp only [Act.put, List.setIfInBounds_toArray, List.set_cons_zero, List.set_cons_succ]
    refine GD.takeD (i := 4) (v := ?_) rfl (by as_aux_lemma => kernel_rfl) (by as_aux_lemma => kernel_rfl) (by as_aux_lemma => kernel_rfl) (fun _ _ _ h => h) (Or.inl ⟨by rfl, ?_⟩) hH ?_
    rotate_left
    · intro w hSw; (try dsimp only at hSw); go_simp <;> with_reducible rfl
    try simp only [Act.put, List.setIfInBounds_toArray, List.set_cons_zero, List.set_cons_succ]
    refine GD.takeD (i := 5) (v := ?_) rfl (by as_aux_lemma => kernel_rfl) (by as_aux_lemma => kernel_rfl) (by as_aux_lemma => kernel_rfl) (fun _ _ _ h => h) (Or.inl ⟨by rfl, ?_⟩) hH ?_
    rotate_left
    · intro w hSw; (try dsimp only at hSw); go_simp <;> with_reducible rfl
    try simp only [Act.put, List.setIfInBounds_toArray, List.set_cons_zero, List.set_cons_succ]
    refine GD.takeD (i := 6) (v := ?_) rfl (by as_aux_lemma => kernel_rfl) (by as_aux_lemma => kernel_rfl) (by as_aux_lemma => kernel_rfl) (fun _ _ _ h => h) (Or.inl ⟨by rfl, ?_⟩) hH ?_
    rotate_left
    · intro w hSw; (try dsimp only at hSw); go_simp <;> with_reducible rfl
    try simp only [Act.put, List.setIfInBounds_toArray, List.set_cons_zero, List.set_cons_succ]
    exact ft_mca HPY HPA h1 h2 hfa hfp hR hc2 le5 _ (by kernel_rfl) K2 B2
  refine AllReadyH.cons (GD.getOf (i := 8) rfl) (fun K' hK => ?_) ?_
  ·
    go_simp
    have K2 := (K.boxg 34 #[.bool false, .int .i64 0, .int .u32 0] w.heap.size rfl)
    have B2 := B.alloc B.size (.cells #[.bool false, .int .i64 0, .int .u32 0] 34)
    have le6 := B.size
    refine hK.out _ _ ⟨cells4_row (K2.g _ (List.Mem.tail _ (List.Mem.tail _ (h2)))), c13_row (K2.g _ (List.Mem.tail _ (List.Mem.tail _ (h1))))⟩ (fun hH => ?_)
    clear hK K'
    try simp only [Act.put, List.setIfInBounds_toArray, List.set_cons_zero, List.set_cons_succ]
    exact ft_mab HPY HPA h1 h2 hfa hfp hR hc2 le5 le6 _ (by kernel_rfl) K2 B2
  exact AllReadyH.nil
set_option maxRecDepth 100000 in
set_option maxHeartbeats 4000000 in
theorem ft_mc {A2 : Option Addr} {c2 : Nat} {A7 : Option Addr} {n7 c7 : Nat} {A8 : Option Addr} {n8 c8 : Nat}  (hc2 : Hid (pn ≤ c2 ∧ (A2 = none → c2 = 0))) {w : World} (ls : Array Bool) (hl : ls = #[true, true, true, true, true, true, true, false, false, false, false]) (K : EnvF w (pF A8 n8 d.ps :: bF A7 n7 d.da :: bF A2 pn (payV f) :: fs) (gs)) (B : Below w0.heap.size w0 w) :
    wpAnyH Tryz.prog .any ftops.toArray (Exit.then KK fun _ _ _ => False) (fun W' => (W'.cell? ⟨g2, 0, none⟩ = some (.int .i64 0) ∧ W'.cell? ⟨g2, 1, none⟩ = some (.int .u8 f.kd.toNat) ∧ W'.cell? ⟨g2, 2, none⟩ = some (.int .u8 f.fl.toNat) ∧ W'.cell? ⟨g2, 3, none⟩ = some (.int .i64 f.st)) ∧ W'.cell? ⟨g1, 0, none⟩ = some (.int .u8 f.kd.toNat) ∧ W'.cell? ⟨g1, 1, none⟩ = some (.int .u8 f.fl.toNat) ∧ W'.cell? ⟨g1, 2, none⟩ = some (.int .i64 f.st) ∧ W'.cell? ⟨g1, 3, none⟩ = some (.slice A n c) ∧ W'.cell? ⟨g1, 4, none⟩ = some (.int .i64 f.pd) ∧ W'.cell? ⟨g1, 5, none⟩ = some (.int .i64 f.la) ∧ W'.cell? ⟨g1, 6, none⟩ = some (.int .i64 f.ic) ∧ W'.cell? ⟨g1, 7, none⟩ = some (.int .u32 f.co.toNat) ∧ W'.cell? ⟨g1, 8, none⟩ = some (.slice D m e) ∧ W'.cell? ⟨g1, 9, none⟩ = some (.bool f.rk) ∧ W'.cell? ⟨g1, 10, none⟩ = some (.bool f.al) ∧ W'.cell? ⟨g1, 11, none⟩ = some (.int .i64 f.dp) ∧ W'.cell? ⟨g1, 12, none⟩ = some (.int .u8 f.wt.toNat)) 4 ls { tmps := #[v0, .pointer (some ⟨g1, 0, none⟩), v2, .pointer (some ⟨g2, 0, none⟩), v4, v5, v6, v7, v8, v9, v10, v11, v12, .tuple #[.agg (fra d A7 n7 c7 A8 n8 c8), .agg #[.bool xb, .int .i64 xs, .int .u32 xc]], .agg #[.int .i64 0, .int .u8 f.kd.toNat, .int .u8 f.fl.toNat, .int .i64 f.st], .agg (fra f A n c D m e), .slice A2 pn c2, .tuple #[.agg (fra d A7 n7 c7 A8 n8 c8), .agg #[.bool xb, .int .i64 xs, .int .u32 xc]], .agg (fra d A7 n7 c7 A8 n8 c8), .agg #[.bool xb, .int .i64 xs, .int .u32 xc], v20, v21, v22, v23, v24, v25, v26, v27], defers := [] } w := by
  subst hl
  refine wpAnyH_ready (rs := [7, 8]) (by as_aux_lemma => kernel_rfl) (by simp) ?_
  refine AllReadyH.cons (GD.getOf (i := 7) rfl) (fun K' hK => ?_) ?_
  ·
    go_simp
    have K2 := (K.boxg 30 zF0 w.heap.size rfl)
    have B2 := B.alloc B.size (.cells zF0 30)
    have le5 := B.size
    refine hK.out _ _ ⟨cells4_row (K2.g _ (List.Mem.tail _ (h2))), c13_row (K2.g _ (List.Mem.tail _ (h1)))⟩ (fun hH => ?_)
    clear hK K'
    try simp only [Act.put, List.setIfInBounds_toArray, List.set_cons_zero, List.set_cons_succ]
    exact ft_mca HPY HPA h1 h2 hfa hfp hR hc2 le5 _ (by kernel_rfl) K2 B2
  refine AllReadyH.cons (GD.getOf (i := 8) rfl) (fun K' hK => ?_) ?_
  ·
    go_simp
    have K2 := (K.boxg 34 #[.bool false, .int .i64 0, .int .u32 0] w.heap.size rfl)
    have B2 := B.alloc B.size (.cells #[.bool false, .int .i64 0, .int .u32 0] 34)
    have le6 := B.size
    refine hK.out _ _ ⟨cells4_row (K2.g _ (List.Mem.tail _ (h2))), c13_row (K2.g _ (List.Mem.tail _ (h1)))⟩ (fun hH => ?_)
    clear hK K'
    try simp only [Act.put, List.setIfInBounds_toArray, List.set_cons_zero, List.set_cons_succ]
    exact ft_mcb HPY HPA h1 h2 hfa hfp hR hc2 le6 _ (by kernel_rfl) K2 B2
  exact AllReadyH.nil
set_option maxRecDepth 100000 in
set_option maxHeartbeats 4000000 in
theorem ft_b {g6 : Nat}  (le6 : w0.heap.size ≤ g6) {w : World} (ls : Array Bool) (hl : ls = #[true, true, false, false, false, false, false, false, true, false, false]) (K : EnvF w (fs) ((g6, #[.bool false, .int .i64 0, .int .u32 0], 34) :: gs)) (B : Below w0.heap.size w0 w) :
    wpAnyH Tryz.prog .any ftops.toArray (Exit.then KK fun _ _ _ => False) (fun W' => (W'.cell? ⟨g2, 0, none⟩ = some (.int .i64 0) ∧ W'.cell? ⟨g2, 1, none⟩ = some (.int .u8 f.kd.toNat) ∧ W'.cell? ⟨g2, 2, none⟩ = some (.int .u8 f.fl.toNat) ∧ W'.cell? ⟨g2, 3, none⟩ = some (.int .i64 f.st)) ∧ W'.cell? ⟨g1, 0, none⟩ = some (.int .u8 f.kd.toNat) ∧ W'.cell? ⟨g1, 1, none⟩ = some (.int .u8 f.fl.toNat) ∧ W'.cell? ⟨g1, 2, none⟩ = some (.int .i64 f.st) ∧ W'.cell? ⟨g1, 3, none⟩ = some (.slice A n c) ∧ W'.cell? ⟨g1, 4, none⟩ = some (.int .i64 f.pd) ∧ W'.cell? ⟨g1, 5, none⟩ = some (.int .i64 f.la) ∧ W'.cell? ⟨g1, 6, none⟩ = some (.int .i64 f.ic) ∧ W'.cell? ⟨g1, 7, none⟩ = some (.int .u32 f.co.toNat) ∧ W'.cell? ⟨g1, 8, none⟩ = some (.slice D m e) ∧ W'.cell? ⟨g1, 9, none⟩ = some (.bool f.rk) ∧ W'.cell? ⟨g1, 10, none⟩ = some (.bool f.al) ∧ W'.cell? ⟨g1, 11, none⟩ = some (.int .i64 f.dp) ∧ W'.cell? ⟨g1, 12, none⟩ = some (.int .u8 f.wt.toNat)) 8 ls { tmps := #[v0, .pointer (some ⟨g1, 0, none⟩), v2, .pointer (some ⟨g2, 0, none⟩), v4, .pointer (some ⟨g6, 0, none⟩), v6, v7, v8, v9, v10, v11, v12, v13, .agg #[.int .i64 0, .int .u8 f.kd.toNat, .int .u8 f.fl.toNat, .int .i64 f.st], .agg (fra f A n c D m e), v16, v17, v18, v19, v20, v21, v22, v23, v24, v25, v26, v27], defers := [] } w := by
  subst hl
  refine wpAnyH_ready (rs := [2, 7]) (by as_aux_lemma => kernel_rfl) (by simp) ?_
  refine AllReadyH.cons (GD.getOf (i := 2) rfl) (fun K' hK => ?_) ?_
  ·
    go_simp
    go_at_call 30
    refine (HPY.out w (K.bs (hfa)) (K.ps (hfp))).mono ?_
    rintro e w2 ⟨A2, c2, rfl, hh, hb⟩
    have K2 := K.handS hb hh
    have B2 := below_step B hb
    have hc2 := Lib.hid hh.2.2
    refine hK.out _ _ ⟨cells4_row (K2.g _ (List.Mem.tail _ (h2))), c13_row (K2.g _ (List.Mem.tail _ (h1)))⟩ (fun hH => ?_)
    clear hK K'
    try simp only [Act.put, List.setIfInBounds_toArray, List.set_cons_zero, List.set_cons_succ]
    exact ft_mb HPY HPA h1 h2 hfa hfp hR hc2 le6 _ (by kernel_rfl) K2 B2
  refine AllReadyH.cons (GD.getOf (i := 7) rfl) (fun K' hK => ?_) ?_
  ·
    go_simp
    have K2 := (GD.swapE (K.boxg 30 zF0 w.heap.size rfl))
    have B2 := B.alloc B.size (.cells zF0 30)
    have le5 := B.size
    refine hK.out _ _ ⟨cells4_row (K2.g _ (List.Mem.tail _ (List.Mem.tail _ (h2)))), c13_row (K2.g _ (List.Mem.tail _ (List.Mem.tail _ (h1))))⟩ (fun hH => ?_)
    clear hK K'
    try simp only [Act.put, List.setIfInBounds_toArray, List.set_cons_zero, List.set_cons_succ]
    exact ft_ab HPY HPA h1 h2 hfa hfp hR le5 le6 _ (by kernel_rfl) K2 B2
  exact AllReadyH.nil
set_option maxRecDepth 100000 in
set_option maxHeartbeats 4000000 in
theorem ft_a {g5 : Nat}  (le5 : w0.heap.size ≤ g5) {w : World} (ls : Array Bool) (hl : ls = #[true, true, false, false, false, false, false, true, false, false, false]) (K : EnvF w (fs) ((g5, zF0, 30) :: gs)) (B : Below w0.heap.size w0 w) :
    wpAnyH Tryz.prog .any ftops.toArray (Exit.then KK fun _ _ _ => False) (fun W' => (W'.cell? ⟨g2, 0, none⟩ = some (.int .i64 0) ∧ W'.cell? ⟨g2, 1, none⟩ = some (.int .u8 f.kd.toNat) ∧ W'.cell? ⟨g2, 2, none⟩ = some (.int .u8 f.fl.toNat) ∧ W'.cell? ⟨g2, 3, none⟩ = some (.int .i64 f.st)) ∧ W'.cell? ⟨g1, 0, none⟩ = some (.int .u8 f.kd.toNat) ∧ W'.cell? ⟨g1, 1, none⟩ = some (.int .u8 f.fl.toNat) ∧ W'.cell? ⟨g1, 2, none⟩ = some (.int .i64 f.st) ∧ W'.cell? ⟨g1, 3, none⟩ = some (.slice A n c) ∧ W'.cell? ⟨g1, 4, none⟩ = some (.int .i64 f.pd) ∧ W'.cell? ⟨g1, 5, none⟩ = some (.int .i64 f.la) ∧ W'.cell? ⟨g1, 6, none⟩ = some (.int .i64 f.ic) ∧ W'.cell? ⟨g1, 7, none⟩ = some (.int .u32 f.co.toNat) ∧ W'.cell? ⟨g1, 8, none⟩ = some (.slice D m e) ∧ W'.cell? ⟨g1, 9, none⟩ = some (.bool f.rk) ∧ W'.cell? ⟨g1, 10, none⟩ = some (.bool f.al) ∧ W'.cell? ⟨g1, 11, none⟩ = some (.int .i64 f.dp) ∧ W'.cell? ⟨g1, 12, none⟩ = some (.int .u8 f.wt.toNat)) 8 ls { tmps := #[v0, .pointer (some ⟨g1, 0, none⟩), v2, .pointer (some ⟨g2, 0, none⟩), .pointer (some ⟨g5, 0, none⟩), v5, v6, v7, v8, v9, v10, v11, v12, v13, .agg #[.int .i64 0, .int .u8 f.kd.toNat, .int .u8 f.fl.toNat, .int .i64 f.st], .agg (fra f A n c D m e), v16, v17, v18, v19, v20, v21, v22, v23, v24, v25, v26, v27], defers := [] } w := by
  subst hl
  refine wpAnyH_ready (rs := [2, 8]) (by as_aux_lemma => kernel_rfl) (by simp) ?_
  refine AllReadyH.cons (GD.getOf (i := 2) rfl) (fun K' hK => ?_) ?_
  ·
    go_simp
    go_at_call 30
    refine (HPY.out w (K.bs (hfa)) (K.ps (hfp))).mono ?_
    rintro e w2 ⟨A2, c2, rfl, hh, hb⟩
    have K2 := K.handS hb hh
    have B2 := below_step B hb
    have hc2 := Lib.hid hh.2.2
    refine hK.out _ _ ⟨cells4_row (K2.g _ (List.Mem.tail _ (h2))), c13_row (K2.g _ (List.Mem.tail _ (h1)))⟩ (fun hH => ?_)
    clear hK K'
    try simp only [Act.put, List.setIfInBounds_toArray, List.set_cons_zero, List.set_cons_succ]
    exact ft_ma HPY HPA h1 h2 hfa hfp hR hc2 le5 _ (by kernel_rfl) K2 B2
  refine AllReadyH.cons (GD.getOf (i := 8) rfl) (fun K' hK => ?_) ?_
  ·
    go_simp
    have K2 := (K.boxg 34 #[.bool false, .int .i64 0, .int .u32 0] w.heap.size rfl)
    have B2 := B.alloc B.size (.cells #[.bool false, .int .i64 0, .int .u32 0] 34)
    have le6 := B.size
    refine hK.out _ _ ⟨cells4_row (K2.g _ (List.Mem.tail _ (List.Mem.tail _ (h2)))), c13_row (K2.g _ (List.Mem.tail _ (List.Mem.tail _ (h1))))⟩ (fun hH => ?_)
    clear hK K'
    try simp only [Act.put, List.setIfInBounds_toArray, List.set_cons_zero, List.set_cons_succ]
    exact ft_ab HPY HPA h1 h2 hfa hfp hR le5 le6 _ (by kernel_rfl) K2 B2
  exact AllReadyH.nil
set_option maxRecDepth 100000 in
set_option maxHeartbeats 4000000 in
theorem ft_m {A2 : Option Addr} {c2 : Nat}  (hc2 : Hid (pn ≤ c2 ∧ (A2 = none → c2 = 0))) {w : World} (ls : Array Bool) (hl : ls = #[true, true, true, false, false, false, false, false, false, false, false]) (K : EnvF w (bF A2 pn (payV f) :: fs) (gs)) (B : Below w0.heap.size w0 w) :
    wpAnyH Tryz.prog .any ftops.toArray (Exit.then KK fun _ _ _ => False) (fun W' => (W'.cell? ⟨g2, 0, none⟩ = some (.int .i64 0) ∧ W'.cell? ⟨g2, 1, none⟩ = some (.int .u8 f.kd.toNat) ∧ W'.cell? ⟨g2, 2, none⟩ = some (.int .u8 f.fl.toNat) ∧ W'.cell? ⟨g2, 3, none⟩ = some (.int .i64 f.st)) ∧ W'.cell? ⟨g1, 0, none⟩ = some (.int .u8 f.kd.toNat) ∧ W'.cell? ⟨g1, 1, none⟩ = some (.int .u8 f.fl.toNat) ∧ W'.cell? ⟨g1, 2, none⟩ = some (.int .i64 f.st) ∧ W'.cell? ⟨g1, 3, none⟩ = some (.slice A n c) ∧ W'.cell? ⟨g1, 4, none⟩ = some (.int .i64 f.pd) ∧ W'.cell? ⟨g1, 5, none⟩ = some (.int .i64 f.la) ∧ W'.cell? ⟨g1, 6, none⟩ = some (.int .i64 f.ic) ∧ W'.cell? ⟨g1, 7, none⟩ = some (.int .u32 f.co.toNat) ∧ W'.cell? ⟨g1, 8, none⟩ = some (.slice D m e) ∧ W'.cell? ⟨g1, 9, none⟩ = some (.bool f.rk) ∧ W'.cell? ⟨g1, 10, none⟩ = some (.bool f.al) ∧ W'.cell? ⟨g1, 11, none⟩ = some (.int .i64 f.dp) ∧ W'.cell? ⟨g1, 12, none⟩ = some (.int .u8 f.wt.toNat)) 8 ls { tmps := #[v0, .pointer (some ⟨g1, 0, none⟩), v2, .pointer (some ⟨g2, 0, none⟩), v4, v5, v6, v7, v8, v9, v10, v11, v12, v13, .agg #[.int .i64 0, .int .u8 f.kd.toNat, .int .u8 f.fl.toNat, .int .i64 f.st], .agg (fra f A n c D m e), .slice A2 pn c2, v17, v18, v19, v20, v21, v22, v23, v24, v25, v26, v27], defers := [] } w := by
  subst hl
  refine wpAnyH_ready (rs := [3, 7, 8]) (by as_aux_lemma => kernel_rfl) (by simp) ?_
  refine AllReadyH.cons (GD.getOf (i := 3) rfl) (fun K' hK => ?_) ?_
  ·
    go_simp
    go_at_call 7
    refine (HPA.out A2 c2 w (K.bs (List.Mem.head _)) hc2.out.2 hc2.out.1).mono ?_
    rintro e w2 ⟨A7, n7, c7, A8, n8, c8, rfl, hh, hp, hb⟩
    have K2 := (K.handS hb hh).handP2 K hb hp.handF
    have B2 := below_step B hb
    refine hK.out _ _ ⟨cells4_row (K2.g _ (h2)), c13_row (K2.g _ (h1))⟩ (fun hH => ?_)
    clear hK K'
    try simp only [Act.put, List.setIfInBounds_toArray, List.set_cons_zero, List.set_cons_succ]
    refine GD.takeD (i := 4) (v := ?_) rfl (by as_aux_lemma => kernel_rfl) (by as_aux_lemma => kernel_rfl) (by as_aux_lemma => kernel_rfl) (fun _ _ _ h => h) (Or.inl ⟨by rfl, ?_⟩) hH ?_
    rotate_left
    · intro w hSw; (try dsimp only at hSw); go_simp <;> with_reducible rfl
    try simp only [Act.put, List.setIfInBounds_toArray, List.set_cons_zero, List.set_cons_succ]
    refine GD.takeD (i := 5) (v := ?_) rfl (by as_aux_lemma => kernel_rfl) (by as_aux_lemma => kernel_rfl) (by as_aux_lemma => kernel_rfl) (fun _ _ _ h => h) (Or.inl ⟨by rfl, ?_⟩) hH ?_
    rotate_left
    · intro w hSw; (try dsimp only at hSw); go_simp <;> with_reducible rfl
    try simp only [Act.put, List.setIfInBounds_toArray, List.set_cons_zero, List.set_cons_succ]
    refine GD.takeD (i := 6) (v := ?_) rfl (by as_aux_lemma => kernel_rfl) (by as_aux_lemma => kernel_rfl) (by as_aux_lemma => kernel_rfl) (fun _ _ _ h => h) (Or.inl ⟨by rfl, ?_⟩) hH ?_
    rotate_left
    · intro w hSw; (try dsimp only at hSw); go_simp <;> with_reducible rfl
    try simp only [Act.put, List.setIfInBounds_toArray, List.set_cons_zero, List.set_cons_succ]
    exact ft_mc HPY HPA h1 h2 hfa hfp hR hc2 _ (by kernel_rfl) K2 B2
  refine AllReadyH.cons (GD.getOf (i := 7) rfl) (fun K' hK => ?_) ?_
  ·
    go_simp
    have K2 := (K.boxg 30 zF0 w.heap.size rfl)
    have B2 := B.alloc B.size (.cells zF0 30)
    have le5 := B.size
    refine hK.out _ _ ⟨cells4_row (K2.g _ (List.Mem.tail _ (h2))), c13_row (K2.g _ (List.Mem.tail _ (h1)))⟩ (fun hH => ?_)
    clear hK K'
    try simp only [Act.put, List.setIfInBounds_toArray, List.set_cons_zero, List.set_cons_succ]
    exact ft_ma HPY HPA h1 h2 hfa hfp hR hc2 le5 _ (by kernel_rfl) K2 B2
  refine AllReadyH.cons (GD.getOf (i := 8) rfl) (fun K' hK => ?_) ?_
  ·
    go_simp
    have K2 := (K.boxg 34 #[.bool false, .int .i64 0, .int .u32 0] w.heap.size rfl)
    have B2 := B.alloc B.size (.cells #[.bool false, .int .i64 0, .int .u32 0] 34)
    have le6 := B.size
    refine hK.out _ _ ⟨cells4_row (K2.g _ (List.Mem.tail _ (h2))), c13_row (K2.g _ (List.Mem.tail _ (h1)))⟩ (fun hH => ?_)
    clear hK K'
    try simp only [Act.put, List.setIfInBounds_toArray, List.set_cons_zero, List.set_cons_succ]
    exact ft_mb HPY HPA h1 h2 hfa hfp hR hc2 le6 _ (by kernel_rfl) K2 B2
  exact AllReadyH.nil
set_option maxRecDepth 100000 in
set_option maxHeartbeats 4000000 in
theorem ft_0  {w : World} (ls : Array Bool) (hl : ls = #[true, true, false, false, false, false, false, false, false, false, false]) (K : EnvF w (fs) (gs)) (B : Below w0.heap.size w0 w) :
    wpAnyH Tryz.prog .any ftops.toArray (Exit.then KK fun _ _ _ => False) (fun W' => (W'.cell? ⟨g2, 0, none⟩ = some (.int .i64 0) ∧ W'.cell? ⟨g2, 1, none⟩ = some (.int .u8 f.kd.toNat) ∧ W'.cell? ⟨g2, 2, none⟩ = some (.int .u8 f.fl.toNat) ∧ W'.cell? ⟨g2, 3, none⟩ = some (.int .i64 f.st)) ∧ W'.cell? ⟨g1, 0, none⟩ = some (.int .u8 f.kd.toNat) ∧ W'.cell? ⟨g1, 1, none⟩ = some (.int .u8 f.fl.toNat) ∧ W'.cell? ⟨g1, 2, none⟩ = some (.int .i64 f.st) ∧ W'.cell? ⟨g1, 3, none⟩ = some (.slice A n c) ∧ W'.cell? ⟨g1, 4, none⟩ = some (.int .i64 f.pd) ∧ W'.cell? ⟨g1, 5, none⟩ = some (.int .i64 f.la) ∧ W'.cell? ⟨g1, 6, none⟩ = some (.int .i64 f.ic) ∧ W'.cell? ⟨g1, 7, none⟩ = some (.int .u32 f.co.toNat) ∧ W'.cell? ⟨g1, 8, none⟩ = some (.slice D m e) ∧ W'.cell? ⟨g1, 9, none⟩ = some (.bool f.rk) ∧ W'.cell? ⟨g1, 10, none⟩ = some (.bool f.al) ∧ W'.cell? ⟨g1, 11, none⟩ = some (.int .i64 f.dp) ∧ W'.cell? ⟨g1, 12, none⟩ = some (.int .u8 f.wt.toNat)) 9 ls { tmps := #[v0, .pointer (some ⟨g1, 0, none⟩), v2, .pointer (some ⟨g2, 0, none⟩), v4, v5, v6, v7, v8, v9, v10, v11, v12, v13, .agg #[.int .i64 0, .int .u8 f.kd.toNat, .int .u8 f.fl.toNat, .int .i64 f.st], .agg (fra f A n c D m e), v16, v17, v18, v19, v20, v21, v22, v23, v24, v25, v26, v27], defers := [] } w := by
  subst hl
  refine wpAnyH_ready (rs := [2, 7, 8]) (by as_aux_lemma => kernel_rfl) (by simp) ?_
  refine AllReadyH.cons (GD.getOf (i := 2) rfl) (fun K' hK => ?_) ?_
  ·
    go_simp
    go_at_call 30
    refine (HPY.out w (K.bs (hfa)) (K.ps (hfp))).mono ?_
    rintro e w2 ⟨A2, c2, rfl, hh, hb⟩
    have K2 := K.handS hb hh
    have B2 := below_step B hb
    have hc2 := Lib.hid hh.2.2
    refine hK.out _ _ ⟨cells4_row (K2.g _ (h2)), c13_row (K2.g _ (h1))⟩ (fun hH => ?_)
    clear hK K'
    try simp only [Act.put, List.setIfInBounds_toArray, List.set_cons_zero, List.set_cons_succ]
    exact ft_m HPY HPA h1 h2 hfa hfp hR hc2 _ (by kernel_rfl) K2 B2
  refine AllReadyH.cons (GD.getOf (i := 7) rfl) (fun K' hK => ?_) ?_
  ·
    go_simp
    have K2 := (K.boxg 30 zF0 w.heap.size rfl)
    have B2 := B.alloc B.size (.cells zF0 30)
    have le5 := B.size
    refine hK.out _ _ ⟨cells4_row (K2.g _ (List.Mem.tail _ (h2))), c13_row (K2.g _ (List.Mem.tail _ (h1)))⟩ (fun hH => ?_)
    clear hK K'
    try simp only [Act.put, List.setIfInBounds_toArray, List.set_cons_zero, List.set_cons_succ]
    exact ft_a HPY HPA h1 h2 hfa hfp hR le5 _ (by kernel_rfl) K2 B2
  refine AllReadyH.cons (GD.getOf (i := 8) rfl) (fun K' hK => ?_) ?_
  ·
    go_simp
    have K2 := (K.boxg 34 #[.bool false, .int .i64 0, .int .u32 0] w.heap.size rfl)
    have B2 := B.alloc B.size (.cells #[.bool false, .int .i64 0, .int .u32 0] 34)
    have le6 := B.size
    refine hK.out _ _ ⟨cells4_row (K2.g _ (List.Mem.tail _ (h2))), c13_row (K2.g _ (List.Mem.tail _ (h1)))⟩ (fun hH => ?_)
    clear hK K'
    try simp only [Act.put, List.setIfInBounds_toArray, List.set_cons_zero, List.set_cons_succ]
    exact ft_b HPY HPA h1 h2 hfa hfp hR le6 _ (by kernel_rfl) K2 B2
  exact AllReadyH.nil
end
set_option maxRecDepth 100000 in
set_option maxHeartbeats 4000000 in
theorem ft_region {w : World} {fs : List Fact} {gs : List Bx} {f d : Fr} {A D : Option Addr} {n c m e pn : Nat} {xs xc : Int} {g1 g2 : Nat} {xb : Bool} {v0 v2 v4 v5 v6 v7 v8 v9 v10 v11 v12 v13 v14 v15 v16 v17 v18 v19 v20 v21 v22 v23 v24 v25 v26 v27 : Value} {KK : Act → World → Prop} {Q : Exit → Act → World → Prop} (HPY : Hid (PayTo f A D n c m e pn)) (HPA : Hid (DocTo f pn d xb xs xc)) (h1 : (g1, (fra f A n c D m e), 30) ∈ gs) (h2 : (g2, #[.int .i64 0, .int .u8 f.kd.toNat, .int .u8 f.fl.toNat, .int .i64 f.st], 23) ∈ gs) (hfa : bF A n f.da ∈ fs) (hfp : pF D m f.ps ∈ fs) (hR : ∀ (g5 g6 : Nat) (A2 : Option Addr) (c2 : Nat) (A7 : Option Addr) (n7 c7 : Nat) (A8 : Option Addr) (n8 c8 : Nat) (w' : World), EnvF w' (pF A8 n8 d.ps :: bF A7 n7 d.da :: bF A2 pn (payV f) :: fs) ((g6, #[.bool xb, .int .i64 xs, .int .u32 xc], 34) :: (g5, (fra d A7 n7 c7 A8 n8 c8), 30) :: gs) → w.drew.heap.size ≤ g5 → w.drew.heap.size ≤ g6 → Below w.drew.heap.size w.drew w' → KK { tmps := #[v0, .pointer (some ⟨g1, 0, none⟩), v2, .pointer (some ⟨g2, 0, none⟩), .pointer (some ⟨g5, 0, none⟩), .pointer (some ⟨g6, 0, none⟩), v6, v7, v8, v9, v10, v11, v12, .tuple #[.agg (fra d A7 n7 c7 A8 n8 c8), .agg #[.bool xb, .int .i64 xs, .int .u32 xc]], .agg #[.int .i64 0, .int .u8 f.kd.toNat, .int .u8 f.fl.toNat, .int .i64 f.st], .agg (fra f A n c D m e), .slice A2 pn c2, .tuple #[.agg (fra d A7 n7 c7 A8 n8 c8), .agg #[.bool xb, .int .i64 xs, .int .u32 xc]], .agg (fra d A7 n7 c7 A8 n8 c8), .agg #[.bool xb, .int .i64 xs, .int .u32 xc], v20, v21, v22, v23, v24, v25, v26, v27], defers := [] } w') (K : EnvF w fs gs) :
    (Code.region 2 ftops.toArray true).wp Tryz.prog (Exit.then KK Q) { tmps := #[v0, .pointer (some ⟨g1, 0, none⟩), v2, .pointer (some ⟨g2, 0, none⟩), v4, v5, v6, v7, v8, v9, v10, v11, v12, v13, v14, v15, v16, v17, v18, v19, v20, v21, v22, v23, v24, v25, v26, v27], defers := [] } w := by
  refine Code.wp_mono (Q := Exit.then KK fun _ _ _ => False) (fun e a w h => by cases e <;> first | exact h | exact h.elim) ?_
  refine wp_region_held_drew (S := (fun W' => (W'.cell? ⟨g2, 0, none⟩ = some (.int .i64 0) ∧ W'.cell? ⟨g2, 1, none⟩ = some (.int .u8 f.kd.toNat) ∧ W'.cell? ⟨g2, 2, none⟩ = some (.int .u8 f.fl.toNat) ∧ W'.cell? ⟨g2, 3, none⟩ = some (.int .i64 f.st)) ∧ W'.cell? ⟨g1, 0, none⟩ = some (.int .u8 f.kd.toNat) ∧ W'.cell? ⟨g1, 1, none⟩ = some (.int .u8 f.fl.toNat) ∧ W'.cell? ⟨g1, 2, none⟩ = some (.int .i64 f.st) ∧ W'.cell? ⟨g1, 3, none⟩ = some (.slice A n c) ∧ W'.cell? ⟨g1, 4, none⟩ = some (.int .i64 f.pd) ∧ W'.cell? ⟨g1, 5, none⟩ = some (.int .i64 f.la) ∧ W'.cell? ⟨g1, 6, none⟩ = some (.int .i64 f.ic) ∧ W'.cell? ⟨g1, 7, none⟩ = some (.int .u32 f.co.toNat) ∧ W'.cell? ⟨g1, 8, none⟩ = some (.slice D m e) ∧ W'.cell? ⟨g1, 9, none⟩ = some (.bool f.rk) ∧ W'.cell? ⟨g1, 10, none⟩ = some (.bool f.al) ∧ W'.cell? ⟨g1, 11, none⟩ = some (.int .i64 f.dp) ∧ W'.cell? ⟨g1, 12, none⟩ = some (.int .u8 f.wt.toNat))) (by kernel_rfl) ⟨cells4_row (K.drew.g _ h2), c13_row (K.drew.g _ h1)⟩ (fun hH => ?_)
  refine GD.takeD (i := 0) (v := ?_) rfl (by as_aux_lemma => kernel_rfl) (by as_aux_lemma => kernel_rfl) (by as_aux_lemma => kernel_rfl) (fun _ _ _ h => h) (Or.inl ⟨by rfl, ?_⟩) hH ?_
  rotate_left
  · intro w hSw; (try dsimp only at hSw); go_simp <;> with_reducible rfl
  try simp only [Act.put, List.setIfInBounds_toArray, List.set_cons_zero, List.set_cons_succ]
  refine GD.takeD (i := 1) (v := ?_) rfl (by as_aux_lemma => kernel_rfl) (by as_aux_lemma => kernel_rfl) (by as_aux_lemma => kernel_rfl) (fun _ _ _ h => h) (Or.inl ⟨by rfl, ?_⟩) hH ?_
  rotate_left
  · intro w hSw; (try dsimp only at hSw); go_simp <;> with_reducible rfl
  try simp only [Act.put, List.setIfInBounds_toArray, List.set_cons_zero, List.set_cons_succ]
  exact ft_0 HPY HPA h1 h2 hfa hfp hR _ (by kernel_rfl) K.drew (Below.refl _ _)
end Go.Proofs.YtbflhphjnmhjhaaGreat
