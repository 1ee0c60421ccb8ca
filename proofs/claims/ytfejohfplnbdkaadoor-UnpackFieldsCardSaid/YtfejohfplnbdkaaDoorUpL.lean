/- Package unpack: the iterator of the fields. -/
import Derived.Test.YtfejohfplnbdkaaDoorUpK
import Derived.Test.YtfejohfplnbdkaaDoorGJoint
namespace Go.Proofs.YtfejohfplnbdkaaDoor
open Go.RowKit Go.Shelf Px Tx Tb Up
set_option linter.unusedVariables false
set_option linter.unusedSimpArgs false
attribute [local go_sem] Oper.semAt_some
theorem u_fields (g : Nat) (w : World) : Calls Tryd.prog 27 #[.pointer (some ⟨g, 0, none⟩)] w fun e w' =>
      e = .returned (.func (.func 40) #[] #[.pointer (some ⟨w.heap.size, 0, none⟩)]) ∧ w.alloc (.cells #[.pointer (some ⟨g, 0, none⟩)] 54) = w' := by
  go_enter Tryd.func27, Tryd.ntmps27
  go_wp2
  go_ret
  exact ⟨rfl, rfl⟩
namespace Up
/-- A field and its error, as they are yielded. -/
def fE (x : Fd × Int) : Array Value := #[.agg #[.string x.1.1, .string x.1.2], .int .i64 x.2]
/-- The place behind so many fields. -/
def aft (s : Sta) : Nat → Sta
  | 0 => s
  | k + 1 => qS (aft s k)
theorem owR_le (xs : List Fd) (ls : List UInt8) (v : Nat) : (owR xs ls v).length ≤ ls.length := by
  have h1 := t_le ls
  have h2 := t_le (tRs ls)
  unfold owR
  split
  · split <;> omega
  · split <;> omega
theorem qS_less {s : Sta} (h : s.ls ≠ []) : (qS s).ls.length < s.ls.length := by
  have h1 := nR_less (k := kb (hd s.ls)) (by have := kb_bd (hd s.ls); omega) h
  have h2 := owR_le s.xs (qR s) (qV s)
  unfold qS
  unfold qR at *
  split
  · exact h1
  · split
    · exact h1
    · split
      · exact h1
      · split <;> (simp only; omega)
/-- What the caller of the fields lets the iterator know, and takes back from it. -/
def Acc (g K B1 : Nat) (most : Int) (s : Sta) (W : World) (Kn : Sta → World → Prop) : Prop :=
  ∃ fs gs i A n c LA ln lc, Opn W fs gs i g K most A n c LA ln lc s ∧ kF K ∈ fs ∧ rwF ∈ fs ∧ stF ∈ fs ∧ (∃ j : Nat, gs[j]? = some (B1, #[.pointer (some ⟨g, 0, none⟩)], 54) ∧ j ≠ i) ∧ ∀ s' W', W.grownBy W' (some g) → Cls W' fs gs i g K most s' → Kn s' W'
theorem Cls.on {w w' : World} {fs : List Fact} {gs : List Bx} {i g K : Nat} {most : Int} {s : Sta} (h : Cls w fs gs i g K most s) (hb : Below w.heap.size w w') : Cls w' fs gs i g K most s := by
  obtain ⟨A, n, c, LA, ln, lc, h⟩ := h
  exact ⟨A, n, c, LA, ln, lc, h.on hb⟩
/-- One step is right: it goes on from a place where all was right. -/
def okS (s0 : Sta) (k : Nat) : Prop := ∀ j, j < k → (aft s0 j).ls ≠ [] ∧ qE (aft s0 j) = 0
end Up
set_option maxRecDepth 100000 in
set_option maxHeartbeats 4000000 in
theorem fields1_in (k : Nat) (hk : 1 ≤ k) (l g K B1 : Nat) (most : Int) (s0 : Sta) (I : List (Fd × Int) → Sta → World → Prop) (J : List (Fd × Int) → Sta → World → Prop) (X : List (Fd × Int) → World → Prop) (W : World)
    (hJI : ∀ pre s A, J pre s A → I pre s A) (hJB : ∀ pre s s' A B, J pre s A → Mv A B → I pre s' B → J pre s' B)
    (hI : ∀ pre W, I pre (aft s0 pre.length) W → okS s0 pre.length → Acc g K B1 most (aft s0 pre.length) W (fun s' W' => I pre s' W'))
    (hB : ∀ k, okS s0 k → (aft s0 k).ls.length ≤ 10000 ∧ full (aft s0 k).xs ≤ 20000)
    (hY : ∀ pre s x s' W1, J pre s' W1 → (s = aft s0 pre.length ∧ okS s0 pre.length ∧ s.ls ≠ [] ∧ x = (qF s, qE s) ∧ s' = qS s) → YieldAt Fence.wide (k - 1) Tryd.prog l (fE x) W1 fun e W' => (e = .returned (.bool true) ∧ J (pre ++ [x]) s' W') ∨ (e = .returned (.bool false) ∧ X (pre ++ [x]) W'))
    (h0 : J [] s0 W) :
    CallsIn Fence.wide k Tryd.prog 40 #[.func (.yield l) #[] #[], .pointer (some ⟨B1, 0, none⟩)] W fun e W' => (∃ v, e = .returned v) ∧ ((∃ xs s, (s = aft s0 xs.length ∧ ((okS s0 xs.length ∧ s.ls = []) ∨ ∃ q, xs.length = q + 1 ∧ okS s0 q ∧ (aft s0 q).ls ≠ [] ∧ qE (aft s0 q) ≠ 0)) ∧ J xs s W') ∨ (∃ xs, True ∧ X xs W')) := by
  have HY := Lib.hid hY
  have HJI := Lib.hid hJI
  have HJB := Lib.hid hJB
  have HI := Lib.hid hI
  have HBD := Lib.hid hB
  clear hY hJI hJB hI hB
  refine callsIn_of_wp Tryd.func40 rfl trivial ?_ rfl
  simp only [Tryd.ntmps40, List.size_toArray, List.length_cons, List.length_nil, Nat.reduceAdd, Nat.reduceSub, Array.replicate_succ, Array.replicate_zero, List.push_toArray, List.append_toArray, List.nil_append, List.cons_append]
  gi_wp2
  gi_loopw [3, 4] (fun _ _ wr => ∃ pre : List (Fd × Int), okS s0 pre.length ∧ J pre (aft s0 pre.length) wr) (fun _ _ wr => lenAt wr g)
  case atStart => exact ⟨[], fun j hj => absurd hj (by simp), h0⟩
  case round =>
    obtain ⟨pre, hok, hJ⟩ := hrel
    obtain ⟨s, hs⟩ : ∃ s, aft s0 pre.length = s := ⟨_, rfl⟩
    obtain ⟨hb1, hb2⟩ := HBD.out _ hok
    obtain ⟨fs, gs, i, A, n, c, LA, ln, lc, hO, hKF, hRF, hSF, ⟨j, hj, hji⟩, hback⟩ := HI.out pre wr (HJI.out _ _ _ hJ) hok
    rw [hs] at hJ hO hb1 hb2
    have cB := cells1_row (hO.e.row j hj)
    have cg : wr.cell? ⟨g, 4, none⟩ = some (.slice LA ln lc) := by rw [cell_of_row wr g 4 _ _ (0, 0) hO.row]; rfl
    have hlen := hO.len
    have HJ := Lib.hid hJ
    have HS := Lib.hid hs
    have HOK := Lib.hid hok
    have HBK := Lib.hid hback
    have HO := Lib.hid hO
    have HM := Lib.hid hO.lenAt
    clear hJ hs hok hback hO h0
    by_cases hl : s.ls = []
    · have hd1 : decide (0 < ln) = false := decide_eq_false (by rw [hl] at hlen; simp at hlen; omega)
      gi_wp2
      refine bodyPost_end (results_none rfl _ _ _) rfl ⟨⟨_, rfl⟩, .inl ⟨pre, s, ⟨HS.out.symm, .inl ⟨HOK.out, hl⟩⟩, HJ.out⟩⟩
    · have hd1 : decide (0 < ln) = true := decide_eq_true (by have := List.length_pos_iff.2 hl; omega)
      have HF := Lib.hid (u_field wr HO.out hKF hRF hSF hl (by omega) hb2)
      unfold fdv at HF
      have HLS := Lib.hid hl
      have hless := Lib.hid (qS_less hl)
      have hnxt : ∀ w4, J (pre ++ [(qF s, qE s)]) (qS s) w4 → qE s = 0 → okS s0 (pre ++ [(qF s, qE s)]).length ∧ J (pre ++ [(qF s, qE s)]) (aft s0 (pre ++ [(qF s, qE s)]).length) w4 ∧ lenAt w4 g < lenAt wr g := fun w4 hJ4 hE => by
        have e1 : (pre ++ [(qF s, qE s)]).length = pre.length + 1 := by simp
        have e2 : aft s0 (pre ++ [(qF s, qE s)]).length = qS s := by rw [e1]; show qS (aft s0 pre.length) = _; rw [HS.out]
        have hk4 : okS s0 (pre ++ [(qF s, qE s)]).length := fun j hj => by
          rw [e1] at hj
          rcases Nat.lt_or_ge j pre.length with h | h
          · exact HOK.out j h
          · obtain rfl : j = pre.length := by omega
            rw [HS.out]
            exact ⟨HLS.out, hE⟩
        refine ⟨hk4, by rw [e2]; exact hJ4, ?_⟩
        obtain ⟨fs', gs', i', A', n', c', LA', ln', lc', hO', _⟩ := HI.out (pre ++ [(qF s, qE s)]) w4 (by rw [e2]; exact HJI.out _ _ _ hJ4) hk4
        have h1 := hO'.lenAt
        have h2 := hO'.len
        rw [e2] at h2
        have h3 := hless.out
        have h4 := HM.out
        omega
      have HNX := Lib.hid hnxt
      clear hl hlen hnxt
      by_cases hE : qE s = 0
      · have hq : (qE s != 0) = false := by rw [hE]; rfl
        have HE0 := Lib.hid hE
        clear hE
        gi_wp2_with (first
          | (refine ⟨trivial, ?_⟩; gi_at_call 41; (with_reducible refine (callsIn_wide.2 HF.out).mono ?_); rintro e w1 ⟨rfl, hg, hk⟩; have hg2 := gb_alloc hg (.cells #[.string (qF s).1, .string (qF s).2] 38); have hJ2 := HJB.out _ _ _ _ _ HJ.out (Mv.gb hg2 HO.out.row) (HBK.out _ _ hg2 (hk.on ((Below.refl _ w1).alloc (Nat.le_refl _) _))); obtain ⟨fn, tmps, assign, body, hy, hR⟩ := HY.out pre s (qF s, qE s) (qS s) _ hJ2 ⟨HS.out.symm, HOK.out, HLS.out, rfl, rfl⟩; have HRR := Lib.hid hR; unfold fE at hy; clear hR hg hk hg2 hJ2)
          | (refine ⟨trivial, ?_⟩; go_at_K))
        refine HRR.out.mono ?_
        rintro e w4 (⟨rfl, hJ4⟩ | ⟨rfl, hX4⟩)
        · obtain ⟨n1, n2, n3⟩ := HNX.out _ hJ4 HE0.out
          have HN1 := Lib.hid n1
          have HN2 := Lib.hid n2
          have HN3 := Lib.hid n3
          clear n1 n2 n3 hJ4
          gi_wp2
          go_roundw
          case rel => exact ⟨_, HN1.out, HN2.out⟩
          case measure => exact HN3.out
        · gi_wp2
          exact bodyPost_ret (results_none rfl _ _ _) rfl ⟨⟨_, rfl⟩, .inr ⟨_, trivial, hX4⟩⟩
      · have hq : (qE s != 0) = true := by rw [bne_iff_ne]; exact hE
        gi_wp2_with (first
          | (refine ⟨trivial, ?_⟩; gi_at_call 41; (with_reducible refine (callsIn_wide.2 HF.out).mono ?_); rintro e w1 ⟨rfl, hg, hk⟩; have hg2 := gb_alloc hg (.cells #[.string (qF s).1, .string (qF s).2] 38); have hJ2 := HJB.out _ _ _ _ _ HJ.out (Mv.gb hg2 HO.out.row) (HBK.out _ _ hg2 (hk.on ((Below.refl _ w1).alloc (Nat.le_refl _) _))); obtain ⟨fn, tmps, assign, body, hy, hR⟩ := HY.out pre s (qF s, qE s) (qS s) _ hJ2 ⟨HS.out.symm, HOK.out, HLS.out, rfl, rfl⟩; have HRR := Lib.hid hR; unfold fE at hy; clear hR hg hk hg2 hJ2)
          | (refine ⟨trivial, ?_⟩; go_at_K))
        refine HRR.out.mono ?_
        rintro e w4 (⟨rfl, hJ4⟩ | ⟨rfl, hX4⟩)
        · have HJ4 := Lib.hid hJ4
          clear hJ4
          gi_wp2
          refine bodyPost_ret (results_none rfl _ _ _) rfl ⟨⟨_, rfl⟩, .inl ⟨_, _, ⟨?_, .inr ⟨pre.length, by simp, HOK.out, by rw [HS.out]; exact HLS.out, by rw [HS.out]; exact hE⟩⟩, HJ4.out⟩⟩
          rw [List.length_append, List.length_singleton]
          show qS s = qS (aft s0 pre.length)
          rw [HS.out]
        · gi_wp2
          exact bodyPost_ret (results_none rfl _ _ _) rfl ⟨⟨_, rfl⟩, .inr ⟨_, trivial, hX4⟩⟩
end Go.Proofs.YtfejohfplnbdkaaDoor
