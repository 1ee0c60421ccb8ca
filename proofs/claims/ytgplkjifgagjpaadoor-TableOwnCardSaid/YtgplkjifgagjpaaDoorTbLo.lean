/- TableOwn: the law. -/
import Derived.Test.YtgplkjifgagjpaaDoorTbW
namespace Go.Proofs.YtgplkjifgagjpaaDoor
open Go.RowKit Tb
set_option linter.unusedVariables false
set_option linter.unusedSimpArgs false
theorem infoc_s : (Tryd.prog.info? 9).map (·.size) = some 1 := by kernel_rfl
/-- A block that a call made, as a box. -/
theorem EnvF.handBox {w w' : World} {fs : List Fact} {gs : List Bx} (h : EnvF w fs gs) (hb : Below w.heap.size w w') {g : Nat} {cur : Array Value} {t : TypeId} (hg : w'.heap[g]? = some (.cells cur t)) (hB : w.heap.size ≤ g) : EnvF w' fs ((g, cur, t) :: gs) := by
  have h' := h.on hb
  refine ⟨fun x hx => ⟨(h'.f x hx).1, fun k hk => ⟨((h'.f x hx).2 k hk).1, fun y hy => ?_⟩⟩, fun y hy => ?_, ?_⟩
  · rcases List.mem_cons.1 hy with rfl | hy
    · have := ((h.f x hx).2 k hk).1
      simp only
      omega
    · exact ((h.f x hx).2 k hk).2 y hy
  · rcases List.mem_cons.1 hy with rfl | hy
    · exact hg
    · exact h'.g y hy
  · rw [List.map_cons, List.nodup_cons]
    refine ⟨fun hm => ?_, h.d⟩
    obtain ⟨y, hy, e⟩ := List.mem_map.1 hm
    have := h.lt hy
    simp only at e
    omega
theorem OwnF.block1 {w : World} {B n c : Nat} {t : TypeId} {A : Option Addr} {xs : List Fd} (h : OwnF w B t (.slice A n c) xs) (hn : n ≠ 0) : ∃ g cur, A = some ⟨g, 0, none⟩ ∧ w.heap[g]? = some (.cells cur t) ∧ B ≤ g ∧ n * 2 ≤ cur.size := by
  obtain ⟨A', c', e, _⟩ := h.form
  cases e
  rcases h.2 with ⟨e, h0⟩ | ⟨g, cap, cur, e, hBg, hg, hle, hmax, hs, htake⟩
  · exact absurd h0 hn
  · cases e
    exact ⟨g, cur, rfl, hg, hBg, by rw [hs]; omega⟩
set_option maxRecDepth 100000 in
set_option maxHeartbeats 4000000 in
theorem lo_G1 (M : Int) (A : Option Addr) (n c : Nat) (xs : List Fd) (f : Fd) (m : Int) (w : World) (hR : Stv w) (hA : Fs w w.heap.size A n xs) (hN : A = none → c = 0) (HG : Hid (∀ w0 : World, Fs w0 w0.heap.size A n xs → Calls Tryd.prog 8 #[.slice A n c] w0 fun e w' => e = .returned (.bool true) ∧ Below w0.heap.size w0 w')) :
    Calls Tryd.prog 7 #[.agg #[.int .i64 M, .slice A n c], .agg #[.string f.1, .string f.2], .int .i64 m] w fun e w' => e = .returned (.bool true) ∧ Below w.heap.size w w' := by
  have K0 : Hid (EnvF ((w.alloc (.cells #[.int .i64 M, .slice A n c] 24)).alloc (.cells #[.string f.1, .string f.2] 26)) [fF A n xs, stF] [(w.heap.size + 1, #[.string f.1, .string f.2], 26), (w.heap.size, #[.int .i64 M, .slice A n c], 24)]) := Lib.hid ((((envS w hR).addF hA).boxg 24 #[.int .i64 M, .slice A n c] (w.heap.size) (by simp)).boxg 26 #[.string f.1, .string f.2] (w.heap.size + 1) (by simp))
  have B0 : Hid (Below w.heap.size w ((w.alloc (.cells #[.int .i64 M, .slice A n c] 24)).alloc (.cells #[.string f.1, .string f.2] 26))) := Lib.hid (((Below.refl _ w).alloc (by first | exact Nat.le_refl _ | (simp only [World.size_alloc]; omega)) (.cells #[.int .i64 M, .slice A n c] 24)).alloc (by first | exact Nat.le_refl _ | (simp only [World.size_alloc]; omega)) (.cells #[.string f.1, .string f.2] 26))
  go_enter Tryd.func7, Tryd.ntmps7
  go_wp2_with (first
    | go_skip
    | (refine at_load 22 (.tmp 14) (by rfl) ?_; refine wpList_get (by rfl) 22 (.tmp 14) (by rfl) (w.heap.size) 1 (by rfl) 24 #[.int .i64 M, .slice A n c] (.slice A n c) _ (K0.out.row 1 rfl) (by rfl) Tryd.underlying22 (by rfl) ?_)
    | (go_at_call 8; (have hc := (HG.out ((w.alloc (.cells #[.int .i64 M, .slice A n c] 24)).alloc (.cells #[.string f.1, .string f.2] 26)) (K0.out.fs (A := A) (n := n) (xs := xs) (by simp))); (with_reducible refine hc.mono ?_); clear hc); rintro e w1 ⟨rfl, hb⟩; have K1 : Hid (EnvF w1 [fF A n xs, stF] [(w.heap.size + 1, #[.string f.1, .string f.2], 26), (w.heap.size, #[.int .i64 M, .slice A n c], 24)]) := Lib.hid (K0.out.on hb); have B1 : Hid (Below w.heap.size w w1) := Lib.hid (below_step B0.out hb); clear hb K0 B0)
    | (go_at_call 9; (have hc := (wakes9 w1 (Tb.EnvF.stv K1.out (by simp))); (with_reducible refine hc.mono ?_); clear hc); rintro e w2 ⟨rfl, hb⟩; have K2 : Hid (EnvF w2 [fF A n xs, stF] [(w.heap.size + 1, #[.string f.1, .string f.2], 26), (w.heap.size, #[.int .i64 M, .slice A n c], 24)]) := Lib.hid (K1.out.on hb); have B2 : Hid (Below w.heap.size w w2) := Lib.hid (below_step B1.out hb); clear hb K1 B1))
  go_ret
  exact ⟨rfl, B2.out⟩
set_option maxRecDepth 100000 in
set_option maxHeartbeats 4000000 in
theorem lo_G2 (M : Int) (A : Option Addr) (n c : Nat) (xs : List Fd) (f : Fd) (m : Int) (w : World) (hR : Stv w) (hA : Fs w w.heap.size A n xs) (hN : A = none → c = 0) (HG : Hid (∀ w0 : World, Fs w0 w0.heap.size A n xs → Calls Tryd.prog 8 #[.slice A n c] w0 fun e w' => e = .returned (.bool false) ∧ Below w0.heap.size w0 w')) (HGF : Hid (∀ (A0 : Option Addr) (w0 : World), Fs w0 w0.heap.size A0 1 [f] → Calls Tryd.prog 8 #[.slice A0 1 1] w0 fun e w' => e = .returned (.bool true) ∧ Below w0.heap.size w0 w')) :
    Calls Tryd.prog 7 #[.agg #[.int .i64 M, .slice A n c], .agg #[.string f.1, .string f.2], .int .i64 m] w fun e w' => e = .returned (.bool true) ∧ Below w.heap.size w w' := by
  have K0 : Hid (EnvF ((w.alloc (.cells #[.int .i64 M, .slice A n c] 24)).alloc (.cells #[.string f.1, .string f.2] 26)) [fF A n xs, stF] [(w.heap.size + 1, #[.string f.1, .string f.2], 26), (w.heap.size, #[.int .i64 M, .slice A n c], 24)]) := Lib.hid ((((envS w hR).addF hA).boxg 24 #[.int .i64 M, .slice A n c] (w.heap.size) (by simp)).boxg 26 #[.string f.1, .string f.2] (w.heap.size + 1) (by simp))
  have B0 : Hid (Below w.heap.size w ((w.alloc (.cells #[.int .i64 M, .slice A n c] 24)).alloc (.cells #[.string f.1, .string f.2] 26))) := Lib.hid (((Below.refl _ w).alloc (by first | exact Nat.le_refl _ | (simp only [World.size_alloc]; omega)) (.cells #[.int .i64 M, .slice A n c] 24)).alloc (by first | exact Nat.le_refl _ | (simp only [World.size_alloc]; omega)) (.cells #[.string f.1, .string f.2] 26))
  go_enter Tryd.func7, Tryd.ntmps7
  go_wp2_with (first
    | go_skip
    | (refine at_load 22 (.tmp 14) (by rfl) ?_; refine wpList_get (by rfl) 22 (.tmp 14) (by rfl) (w.heap.size) 1 (by rfl) 24 #[.int .i64 M, .slice A n c] (.slice A n c) _ (K0.out.row 1 rfl) (by rfl) Tryd.underlying22 (by rfl) ?_)
    | (go_at_call 8; (have hc := (HG.out ((w.alloc (.cells #[.int .i64 M, .slice A n c] 24)).alloc (.cells #[.string f.1, .string f.2] 26)) (K0.out.fs (A := A) (n := n) (xs := xs) (by simp))); (with_reducible refine hc.mono ?_); clear hc); rintro e w1 ⟨rfl, hb⟩; have K1 : Hid (EnvF w1 [fF A n xs, stF] [(w.heap.size + 1, #[.string f.1, .string f.2], 26), (w.heap.size, #[.int .i64 M, .slice A n c], 24)]) := Lib.hid (K0.out.on hb); have B1 : Hid (Below w.heap.size w w1) := Lib.hid (below_step B0.out hb); clear hb K0 B0)
    | (refine at_load 26 (.tmp 4) (by rfl) ?_; refine wpListG_row (by kernel_rfl) 26 (.tmp 4) (by rfl) (w.heap.size + 1) (by rfl) 26 #[.string f.1, .string f.2] _ (K1.out.row 0 rfl) Tryd.underlying26 (by rfl) infoc_D ?_)
    | (go_at_call 8; have K2 : Hid (EnvF (w1.alloc (.cells #[.string f.1, .string f.2] 26)) [fF (some ⟨w1.heap.size, 0, none⟩) 1 [f], fF A n xs, stF] [(w.heap.size + 1, #[.string f.1, .string f.2], 26), (w.heap.size, #[.int .i64 M, .slice A n c], 24)]) := Lib.hid (K1.out.litf 26 [f] #[.string f.1, .string f.2] (by simp [fdc]) 1 rfl (w1.heap.size) (by simp [World.size_alloc])); have B2 : Hid (Below w.heap.size w (w1.alloc (.cells #[.string f.1, .string f.2] 26))) := Lib.hid (B1.out.alloc B1.out.size (.cells #[.string f.1, .string f.2] 26)); clear K1 B1; (have hc := (HGF.out (some ⟨w1.heap.size, 0, none⟩) (w1.alloc (.cells #[.string f.1, .string f.2] 26)) (K2.out.fs (A := (some ⟨w1.heap.size, 0, none⟩)) (n := 1) (xs := [f]) (by simp))); (with_reducible refine hc.mono ?_); clear hc); rintro e w3 ⟨rfl, hb⟩; have K3 : Hid (EnvF w3 [fF (some ⟨w1.heap.size, 0, none⟩) 1 [f], fF A n xs, stF] [(w.heap.size + 1, #[.string f.1, .string f.2], 26), (w.heap.size, #[.int .i64 M, .slice A n c], 24)]) := Lib.hid (K2.out.on hb); have B3 : Hid (Below w.heap.size w w3) := Lib.hid (below_step B2.out hb); clear hb K2 B2)
    | (go_at_call 9; (have hc := (wakes9 w3 (Tb.EnvF.stv K3.out (by simp))); (with_reducible refine hc.mono ?_); clear hc); rintro e w4 ⟨rfl, hb⟩; have K4 : Hid (EnvF w4 [fF (some ⟨w1.heap.size, 0, none⟩) 1 [f], fF A n xs, stF] [(w.heap.size + 1, #[.string f.1, .string f.2], 26), (w.heap.size, #[.int .i64 M, .slice A n c], 24)]) := Lib.hid (K3.out.on hb); have B4 : Hid (Below w.heap.size w w4) := Lib.hid (below_step B3.out hb); clear hb K3 B3))
  go_ret
  exact ⟨rfl, B4.out⟩
set_option maxRecDepth 100000 in
set_option maxHeartbeats 4000000 in
theorem lo_00 (M : Int) (A : Option Addr) (n c : Nat) (xs : List Fd) (f : Fd) (m : Int) (w : World) (hR : Stv w) (hA : Fs w w.heap.size A n xs) (hN : A = none → c = 0) (hnm : n ≤ 140) (HG : Hid (∀ w0 : World, Fs w0 w0.heap.size A n xs → Calls Tryd.prog 8 #[.slice A n c] w0 fun e w' => e = .returned (.bool false) ∧ Below w0.heap.size w0 w')) (HGF : Hid (∀ (A0 : Option Addr) (w0 : World), Fs w0 w0.heap.size A0 1 [f] → Calls Tryd.prog 8 #[.slice A0 1 1] w0 fun e w' => e = .returned (.bool false) ∧ Below w0.heap.size w0 w')) (aM aE bM bE : Int) (HAD : Hid (∀ w0 : World, Fs w0 w0.heap.size A n xs → Calls Tryd.prog 21 #[.agg #[.int .i64 M, .slice A n c], .agg #[.string f.1, .string f.2]] w0 fun e w' => ∃ A0 c0, e = .returned (.tuple #[.agg #[.int .i64 aM, .slice A0 0 c0], .int .i64 aE]) ∧ Below w0.heap.size w0 w')) (HRS : Hid (∀ w0 : World, Fs w0 w0.heap.size A n xs → Calls Tryd.prog 23 #[.agg #[.int .i64 M, .slice A n c], .int .i64 m] w0 fun e w' => ∃ A0 c0, e = .returned (.tuple #[.agg #[.int .i64 bM, .slice A0 0 c0], .int .i64 bE]) ∧ Below w0.heap.size w0 w')) :
    Calls Tryd.prog 7 #[.agg #[.int .i64 M, .slice A n c], .agg #[.string f.1, .string f.2], .int .i64 m] w fun e w' => e = .returned (.bool true) ∧ Below w.heap.size w w' := by
  have hn := hA.1
  obtain ⟨i0, hi, hz0, hz1, hz2⟩ := info_parts info_fld
  have hinf := Lib.hid (And.intro hi (And.intro hz0 (And.intro hz1 hz2)))
  clear hi hz0 hz1 hz2
  have K0 : Hid (EnvF ((w.alloc (.cells #[.int .i64 M, .slice A n c] 24)).alloc (.cells #[.string f.1, .string f.2] 26)) [fF A n xs, stF] [(w.heap.size + 1, #[.string f.1, .string f.2], 26), (w.heap.size, #[.int .i64 M, .slice A n c], 24)]) := Lib.hid ((((envS w hR).addF hA).boxg 24 #[.int .i64 M, .slice A n c] (w.heap.size) (by simp)).boxg 26 #[.string f.1, .string f.2] (w.heap.size + 1) (by simp))
  have B0 : Hid (Below w.heap.size w ((w.alloc (.cells #[.int .i64 M, .slice A n c] 24)).alloc (.cells #[.string f.1, .string f.2] 26))) := Lib.hid (((Below.refl _ w).alloc (by first | exact Nat.le_refl _ | (simp only [World.size_alloc]; omega)) (.cells #[.int .i64 M, .slice A n c] 24)).alloc (by first | exact Nat.le_refl _ | (simp only [World.size_alloc]; omega)) (.cells #[.string f.1, .string f.2] 26))
  go_enter Tryd.func7, Tryd.ntmps7
  go_wp2_with (first
    | go_skip
    | (refine at_load 22 (.tmp 14) (by rfl) ?_; refine wpList_get (by rfl) 22 (.tmp 14) (by rfl) (w.heap.size) 1 (by rfl) 24 #[.int .i64 M, .slice A n c] (.slice A n c) _ (K0.out.row 1 rfl) (by rfl) Tryd.underlying22 (by rfl) ?_)
    | (go_at_call 8; (have hc := (HG.out ((w.alloc (.cells #[.int .i64 M, .slice A n c] 24)).alloc (.cells #[.string f.1, .string f.2] 26)) (K0.out.fs (A := A) (n := n) (xs := xs) (by simp))); (with_reducible refine hc.mono ?_); clear hc); rintro e w1 ⟨rfl, hb⟩; have K1 : Hid (EnvF w1 [fF A n xs, stF] [(w.heap.size + 1, #[.string f.1, .string f.2], 26), (w.heap.size, #[.int .i64 M, .slice A n c], 24)]) := Lib.hid (K0.out.on hb); have B1 : Hid (Below w.heap.size w w1) := Lib.hid (below_step B0.out hb); clear hb K0 B0)
    | (refine at_load 26 (.tmp 4) (by rfl) ?_; refine wpListG_row (by kernel_rfl) 26 (.tmp 4) (by rfl) (w.heap.size + 1) (by rfl) 26 #[.string f.1, .string f.2] _ (K1.out.row 0 rfl) Tryd.underlying26 (by rfl) infoc_D ?_)
    | (go_at_call 8; have K2 : Hid (EnvF (w1.alloc (.cells #[.string f.1, .string f.2] 26)) [fF (some ⟨w1.heap.size, 0, none⟩) 1 [f], fF A n xs, stF] [(w.heap.size + 1, #[.string f.1, .string f.2], 26), (w.heap.size, #[.int .i64 M, .slice A n c], 24)]) := Lib.hid (K1.out.litf 26 [f] #[.string f.1, .string f.2] (by simp [fdc]) 1 rfl (w1.heap.size) (by simp [World.size_alloc])); have B2 : Hid (Below w.heap.size w (w1.alloc (.cells #[.string f.1, .string f.2] 26))) := Lib.hid (B1.out.alloc B1.out.size (.cells #[.string f.1, .string f.2] 26)); clear K1 B1; (have hc := (HGF.out (some ⟨w1.heap.size, 0, none⟩) (w1.alloc (.cells #[.string f.1, .string f.2] 26)) (K2.out.fs (A := (some ⟨w1.heap.size, 0, none⟩)) (n := 1) (xs := [f]) (by simp))); (with_reducible refine hc.mono ?_); clear hc); rintro e w3 ⟨rfl, hb⟩; have K3 : Hid (EnvF w3 [fF (some ⟨w1.heap.size, 0, none⟩) 1 [f], fF A n xs, stF] [(w.heap.size + 1, #[.string f.1, .string f.2], 26), (w.heap.size, #[.int .i64 M, .slice A n c], 24)]) := Lib.hid (K2.out.on hb); have B3 : Hid (Below w.heap.size w w3) := Lib.hid (below_step B2.out hb); clear hb K2 B2; have hl1 := (cells2_row ((K3.out.al (.cells #[] 26)).row 1 rfl)).2)
    | (at_builtin; refine wpList_append_flds _ rfl (.tmp 23) (.tmp 25) 22 rfl (w3.heap.size) 26 i0 Tryd.underlying22 hinf.out.1 hinf.out.2.1 hinf.out.2.2.1 hinf.out.2.2.2 _ [] rfl (OwnF.lit w3 26 _ (Nat.le_refl _) _ rfl) _ A n c xs rfl ((K3.out.fs (A := A) (n := n) (xs := xs) (by simp)).alloc (Nat.le_refl _) (.cells #[] 26)) hN (by simp; omega) (by simp) ?_; intro v4 wq hown4 hb4 hg4 _; rw [List.nil_append] at hown4; obtain ⟨A4, c4, rfl, _⟩ := hown4.form2 (n := n) hn; have hb5 := ((Below.refl (w3.heap.size) w3).alloc (Nat.le_refl _) (.cells #[] 26)).trans hb4; have K4 : Hid (EnvF wq [oF w.heap.size 26 (.slice A4 n c4) xs, fF A4 n xs, fF (some ⟨w1.heap.size, 0, none⟩) 1 [f], fF A n xs, stF] [(w.heap.size + 1, #[.string f.1, .string f.2], 26), (w.heap.size, #[.int .i64 M, .slice A n c], 24)]) := Lib.hid (K3.out.handO hb5 hown4 B3.out.size); have B4 : Hid (Below w.heap.size w wq) := Lib.hid (below_step B3.out hb5); clear hown4 hb4 hg4 hb5 hl1 K3 B3)
    | (refine at_load 24 (.tmp 3) (by rfl) ?_; refine wpList_load_row (by rfl) 24 (.tmp 3) (by rfl) (w.heap.size) (by rfl) 24 #[.int .i64 M, .slice A n c] (0, 0) _ (K4.out.row 1 rfl) Tryd.underlying24 (by rfl) infoc_T ?_)
    | (refine at_load 26 (.tmp 4) (by rfl) ?_; refine wpList_load_row (by rfl) 26 (.tmp 4) (by rfl) (w.heap.size + 1) (by rfl) 26 #[.string f.1, .string f.2] (0, 0) _ (K4.out.row 0 rfl) Tryd.underlying26 (by rfl) infoc_D ?_)
    | (go_at_call 21; (have hc := (HAD.out wq (K4.out.fs (A := A) (n := n) (xs := xs) (by simp))); (with_reducible refine hc.mono ?_); clear hc); rintro e w5 ⟨ga, ca, rfl, hb⟩; have K5 : Hid (EnvF w5 [oF w.heap.size 26 (.slice A4 n c4) xs, fF A4 n xs, fF (some ⟨w1.heap.size, 0, none⟩) 1 [f], fF A n xs, stF] [(w.heap.size + 1, #[.string f.1, .string f.2], 26), (w.heap.size, #[.int .i64 M, .slice A n c], 24)]) := Lib.hid (K4.out.on hb); have B5 : Hid (Below w.heap.size w w5) := Lib.hid (below_step B4.out hb); clear hb K4 B4; have lea : w.heap.size ≤ w5.heap.size := (by have := B5.out.size; (try simp only [World.size_alloc] at this); omega); have K6 : Hid (EnvF (w5.alloc (.cells #[.int .i64 0, .slice none 0 0] 24)) [oF w.heap.size 26 (.slice A4 n c4) xs, fF A4 n xs, fF (some ⟨w1.heap.size, 0, none⟩) 1 [f], fF A n xs, stF] [(w5.heap.size, #[.int .i64 0, .slice none 0 0], 24), (w.heap.size + 1, #[.string f.1, .string f.2], 26), (w.heap.size, #[.int .i64 M, .slice A n c], 24)]) := Lib.hid (K5.out.boxg 24 #[.int .i64 0, .slice none 0 0] (w5.heap.size) (by simp)); have B6 : Hid (Below w.heap.size w (w5.alloc (.cells #[.int .i64 0, .slice none 0 0] 24))) := Lib.hid (B5.out.alloc B5.out.size (.cells #[.int .i64 0, .slice none 0 0] 24)); clear K5 B5)
    | (refine at_store 24 (.tmp 8) (.tmp 31) (by rfl) ?_; refine wpList_put (by rfl) 24 (.tmp 8) (.tmp 31) (by rfl) (w5.heap.size) 0 (.agg #[.int .i64 aM, .slice ga 0 ca]) (by rfl) (by rfl) 24 #[.int .i64 0, .slice none 0 0] #[.int .i64 aM, .slice ga 0 ca] (K6.out.row 0 rfl) (by simp [Value.cells]) (by kernel_rfl) infoc_T (by kernel_rfl) ?_; intro w7 hrow hoth hz hbl; have K7 : Hid (EnvF w7 [oF w.heap.size 26 (.slice A4 n c4) xs, fF A4 n xs, fF (some ⟨w1.heap.size, 0, none⟩) 1 [f], fF A n xs, stF] [(w5.heap.size, #[.int .i64 aM, .slice ga 0 ca], 24), (w.heap.size + 1, #[.string f.1, .string f.2], 26), (w.heap.size, #[.int .i64 M, .slice A n c], 24)]) := Lib.hid (K6.out.turn 0 rfl hrow hoth hz); have B7 : Hid (Below w.heap.size w w7) := Lib.hid (hbl _ _ lea B6.out); clear hrow hoth hz hbl K6 B6)
    | (refine at_load 24 (.tmp 3) (by rfl) ?_; refine wpList_load_row (by rfl) 24 (.tmp 3) (by rfl) (w.heap.size) (by rfl) 24 #[.int .i64 M, .slice A n c] (0, 0) _ (K7.out.row 2 rfl) Tryd.underlying24 (by rfl) infoc_T ?_)
    | (go_at_call 23; (have hc := (HRS.out w7 (K7.out.fs (A := A) (n := n) (xs := xs) (by simp))); (with_reducible refine hc.mono ?_); clear hc); rintro e w8 ⟨gb, cb, rfl, hb⟩; have K8 : Hid (EnvF w8 [oF w.heap.size 26 (.slice A4 n c4) xs, fF A4 n xs, fF (some ⟨w1.heap.size, 0, none⟩) 1 [f], fF A n xs, stF] [(w5.heap.size, #[.int .i64 aM, .slice ga 0 ca], 24), (w.heap.size + 1, #[.string f.1, .string f.2], 26), (w.heap.size, #[.int .i64 M, .slice A n c], 24)]) := Lib.hid (K7.out.on hb); have B8 : Hid (Below w.heap.size w w8) := Lib.hid (below_step B7.out hb); clear hb K7 B7; have leb : w.heap.size ≤ w8.heap.size := (by have := B8.out.size; (try simp only [World.size_alloc] at this); omega); have K9 : Hid (EnvF (w8.alloc (.cells #[.int .i64 0, .slice none 0 0] 24)) [oF w.heap.size 26 (.slice A4 n c4) xs, fF A4 n xs, fF (some ⟨w1.heap.size, 0, none⟩) 1 [f], fF A n xs, stF] [(w8.heap.size, #[.int .i64 0, .slice none 0 0], 24), (w5.heap.size, #[.int .i64 aM, .slice ga 0 ca], 24), (w.heap.size + 1, #[.string f.1, .string f.2], 26), (w.heap.size, #[.int .i64 M, .slice A n c], 24)]) := Lib.hid (K8.out.boxg 24 #[.int .i64 0, .slice none 0 0] (w8.heap.size) (by simp)); have B9 : Hid (Below w.heap.size w (w8.alloc (.cells #[.int .i64 0, .slice none 0 0] 24))) := Lib.hid (B8.out.alloc B8.out.size (.cells #[.int .i64 0, .slice none 0 0] 24)); clear K8 B8)
    | (refine at_store 24 (.tmp 10) (.tmp 37) (by rfl) ?_; refine wpList_put (by rfl) 24 (.tmp 10) (.tmp 37) (by rfl) (w8.heap.size) 0 (.agg #[.int .i64 bM, .slice gb 0 cb]) (by rfl) (by rfl) 24 #[.int .i64 0, .slice none 0 0] #[.int .i64 bM, .slice gb 0 cb] (K9.out.row 0 rfl) (by simp [Value.cells]) (by kernel_rfl) infoc_T (by kernel_rfl) ?_; intro w10 hrow hoth hz hbl; have K10 : Hid (EnvF w10 [oF w.heap.size 26 (.slice A4 n c4) xs, fF A4 n xs, fF (some ⟨w1.heap.size, 0, none⟩) 1 [f], fF A n xs, stF] [(w8.heap.size, #[.int .i64 bM, .slice gb 0 cb], 24), (w5.heap.size, #[.int .i64 aM, .slice ga 0 ca], 24), (w.heap.size + 1, #[.string f.1, .string f.2], 26), (w.heap.size, #[.int .i64 M, .slice A n c], 24)]) := Lib.hid (K9.out.turn 0 rfl hrow hoth hz); have B10 : Hid (Below w.heap.size w w10) := Lib.hid (hbl _ _ leb B9.out); clear hrow hoth hz hbl K9 B9))
  go_loopw [12] (fun u wr => u = .int .i64 0 ∧ (EnvF wr [oF w.heap.size 26 (.slice A4 n c4) xs, fF A4 n xs, fF (some ⟨w1.heap.size, 0, none⟩) 1 [f], fF A n xs, stF] [(w8.heap.size, #[.int .i64 bM, .slice gb 0 cb], 24), (w5.heap.size, #[.int .i64 aM, .slice ga 0 ca], 24), (w.heap.size + 1, #[.string f.1, .string f.2], 26), (w.heap.size, #[.int .i64 M, .slice A n c], 24)]) ∧ Below w.heap.size w wr) (fun u _ => 0 - (intOf u).toNat)
  case atStart => exact ⟨rfl, K10.out, B10.out⟩
  case round =>
    obtain ⟨rfl, hk, hbel⟩ := hrel
    have K70 := Lib.hid hk
    have B70 := Lib.hid hbel
    have r1 := (cells2_row (hk.row 1 rfl)).2
    clear hk hbel K10 B10
    · skip
      go_wp2
      have K80 := K70
      have B80 := B70
      clear K70 B70 r1
      obtain ⟨ws, hws⟩ : ∃ ws : World, ws = wr := ⟨_, rfl⟩
      subst hws
      go_loopw [13] (fun u wr => u = .int .i64 0 ∧ (EnvF wr [oF w.heap.size 26 (.slice A4 n c4) xs, fF A4 n xs, fF (some ⟨w1.heap.size, 0, none⟩) 1 [f], fF A n xs, stF] [(w8.heap.size, #[.int .i64 bM, .slice gb 0 cb], 24), (w5.heap.size, #[.int .i64 aM, .slice ga 0 ca], 24), (w.heap.size + 1, #[.string f.1, .string f.2], 26), (w.heap.size, #[.int .i64 M, .slice A n c], 24)]) ∧ Below w.heap.size w wr) (fun u _ => 0 - (intOf u).toNat)
      case atStart => exact ⟨rfl, K80.out, B80.out⟩
      case round =>
        obtain ⟨rfl, hk, hbel⟩ := hrel
        have K70 := Lib.hid hk
        have B70 := Lib.hid hbel
        have r1 := (cells2_row (hk.row 0 rfl)).2
        clear hk hbel K80 B80
        · skip
          skip
          have K90 := K70
          have B90 := B70
          clear K70 B70
          go_wp2_with (first
            | go_skip
            | (refine at_load 22 (.tmp 63) (by rfl) ?_; refine wpList_get (by rfl) 22 (.tmp 63) (by rfl) (w.heap.size) 1 (by rfl) 24 #[.int .i64 M, .slice A n c] (.slice A n c) _ (K90.out.row 3 rfl) (by rfl) Tryd.underlying22 (by rfl) ?_)
            | (go_at_call 30; (have hc := ((decide_eq_true (rfl : xs = xs)) ▸ r_fields A A4 n n c c4 xs xs wr (K90.out.fs (A := A) (n := n) (xs := xs) (by simp)) (K90.out.fs (A := A4) (n := n) (xs := xs) (by simp)) (by omega)); (with_reducible refine hc.mono ?_); clear hc); rintro e w91 ⟨rfl, hb⟩; have K91 : Hid (EnvF w91 [oF w.heap.size 26 (.slice A4 n c4) xs, fF A4 n xs, fF (some ⟨w1.heap.size, 0, none⟩) 1 [f], fF A n xs, stF] [(w8.heap.size, #[.int .i64 bM, .slice gb 0 cb], 24), (w5.heap.size, #[.int .i64 aM, .slice ga 0 ca], 24), (w.heap.size + 1, #[.string f.1, .string f.2], 26), (w.heap.size, #[.int .i64 M, .slice A n c], 24)]) := Lib.hid (K90.out.on hb); have B91 : Hid (Below w.heap.size w w91) := Lib.hid (below_step B90.out hb); clear hb K90 B90)
            | (go_at_call 9; (have hc := (wakes9 w91 (Tb.EnvF.stv K91.out (by simp))); (with_reducible refine hc.mono ?_); clear hc); rintro e w92 ⟨rfl, hb⟩; have K92 : Hid (EnvF w92 [oF w.heap.size 26 (.slice A4 n c4) xs, fF A4 n xs, fF (some ⟨w1.heap.size, 0, none⟩) 1 [f], fF A n xs, stF] [(w8.heap.size, #[.int .i64 bM, .slice gb 0 cb], 24), (w5.heap.size, #[.int .i64 aM, .slice ga 0 ca], 24), (w.heap.size + 1, #[.string f.1, .string f.2], 26), (w.heap.size, #[.int .i64 M, .slice A n c], 24)]) := Lib.hid (K91.out.on hb); have B92 : Hid (Below w.heap.size w w92) := Lib.hid (below_step B91.out hb); clear hb K91 B91))
          go_ret
          exact ⟨rfl, B92.out⟩
set_option maxRecDepth 100000 in
set_option maxHeartbeats 4000000 in
theorem lo_01 (M : Int) (A : Option Addr) (n c : Nat) (xs : List Fd) (f : Fd) (m : Int) (w : World) (hR : Stv w) (hA : Fs w w.heap.size A n xs) (hN : A = none → c = 0) (hnm : n ≤ 140) (HG : Hid (∀ w0 : World, Fs w0 w0.heap.size A n xs → Calls Tryd.prog 8 #[.slice A n c] w0 fun e w' => e = .returned (.bool false) ∧ Below w0.heap.size w0 w')) (HGF : Hid (∀ (A0 : Option Addr) (w0 : World), Fs w0 w0.heap.size A0 1 [f] → Calls Tryd.prog 8 #[.slice A0 1 1] w0 fun e w' => e = .returned (.bool false) ∧ Below w0.heap.size w0 w')) (aM aE bM bE : Int) (q : Nat) (hq : q ≤ 1000) (HAD : Hid (∀ w0 : World, Fs w0 w0.heap.size A n xs → Calls Tryd.prog 21 #[.agg #[.int .i64 M, .slice A n c], .agg #[.string f.1, .string f.2]] w0 fun e w' => ∃ A0 c0, e = .returned (.tuple #[.agg #[.int .i64 aM, .slice A0 0 c0], .int .i64 aE]) ∧ Below w0.heap.size w0 w')) (HRS : Hid (∀ w0 : World, Fs w0 w0.heap.size A n xs → Calls Tryd.prog 23 #[.agg #[.int .i64 M, .slice A n c], .int .i64 m] w0 fun e w' => ∃ g cur c0, e = .returned (.tuple #[.agg #[.int .i64 bM, .slice (some ⟨g, 0, none⟩) q c0], .int .i64 bE]) ∧ (w'.heap[g]? = some (.cells cur 26) ∧ w0.heap.size ≤ g ∧ q * 2 ≤ cur.size) ∧ Below w0.heap.size w0 w')) :
    Calls Tryd.prog 7 #[.agg #[.int .i64 M, .slice A n c], .agg #[.string f.1, .string f.2], .int .i64 m] w fun e w' => e = .returned (.bool true) ∧ Below w.heap.size w w' := by
  have hn := hA.1
  obtain ⟨i0, hi, hz0, hz1, hz2⟩ := info_parts info_fld
  have hinf := Lib.hid (And.intro hi (And.intro hz0 (And.intro hz1 hz2)))
  clear hi hz0 hz1 hz2
  have K0 : Hid (EnvF ((w.alloc (.cells #[.int .i64 M, .slice A n c] 24)).alloc (.cells #[.string f.1, .string f.2] 26)) [fF A n xs, stF] [(w.heap.size + 1, #[.string f.1, .string f.2], 26), (w.heap.size, #[.int .i64 M, .slice A n c], 24)]) := Lib.hid ((((envS w hR).addF hA).boxg 24 #[.int .i64 M, .slice A n c] (w.heap.size) (by simp)).boxg 26 #[.string f.1, .string f.2] (w.heap.size + 1) (by simp))
  have B0 : Hid (Below w.heap.size w ((w.alloc (.cells #[.int .i64 M, .slice A n c] 24)).alloc (.cells #[.string f.1, .string f.2] 26))) := Lib.hid (((Below.refl _ w).alloc (by first | exact Nat.le_refl _ | (simp only [World.size_alloc]; omega)) (.cells #[.int .i64 M, .slice A n c] 24)).alloc (by first | exact Nat.le_refl _ | (simp only [World.size_alloc]; omega)) (.cells #[.string f.1, .string f.2] 26))
  go_enter Tryd.func7, Tryd.ntmps7
  go_wp2_with (first
    | go_skip
    | (refine at_load 22 (.tmp 14) (by rfl) ?_; refine wpList_get (by rfl) 22 (.tmp 14) (by rfl) (w.heap.size) 1 (by rfl) 24 #[.int .i64 M, .slice A n c] (.slice A n c) _ (K0.out.row 1 rfl) (by rfl) Tryd.underlying22 (by rfl) ?_)
    | (go_at_call 8; (have hc := (HG.out ((w.alloc (.cells #[.int .i64 M, .slice A n c] 24)).alloc (.cells #[.string f.1, .string f.2] 26)) (K0.out.fs (A := A) (n := n) (xs := xs) (by simp))); (with_reducible refine hc.mono ?_); clear hc); rintro e w1 ⟨rfl, hb⟩; have K1 : Hid (EnvF w1 [fF A n xs, stF] [(w.heap.size + 1, #[.string f.1, .string f.2], 26), (w.heap.size, #[.int .i64 M, .slice A n c], 24)]) := Lib.hid (K0.out.on hb); have B1 : Hid (Below w.heap.size w w1) := Lib.hid (below_step B0.out hb); clear hb K0 B0)
    | (refine at_load 26 (.tmp 4) (by rfl) ?_; refine wpListG_row (by kernel_rfl) 26 (.tmp 4) (by rfl) (w.heap.size + 1) (by rfl) 26 #[.string f.1, .string f.2] _ (K1.out.row 0 rfl) Tryd.underlying26 (by rfl) infoc_D ?_)
    | (go_at_call 8; have K2 : Hid (EnvF (w1.alloc (.cells #[.string f.1, .string f.2] 26)) [fF (some ⟨w1.heap.size, 0, none⟩) 1 [f], fF A n xs, stF] [(w.heap.size + 1, #[.string f.1, .string f.2], 26), (w.heap.size, #[.int .i64 M, .slice A n c], 24)]) := Lib.hid (K1.out.litf 26 [f] #[.string f.1, .string f.2] (by simp [fdc]) 1 rfl (w1.heap.size) (by simp [World.size_alloc])); have B2 : Hid (Below w.heap.size w (w1.alloc (.cells #[.string f.1, .string f.2] 26))) := Lib.hid (B1.out.alloc B1.out.size (.cells #[.string f.1, .string f.2] 26)); clear K1 B1; (have hc := (HGF.out (some ⟨w1.heap.size, 0, none⟩) (w1.alloc (.cells #[.string f.1, .string f.2] 26)) (K2.out.fs (A := (some ⟨w1.heap.size, 0, none⟩)) (n := 1) (xs := [f]) (by simp))); (with_reducible refine hc.mono ?_); clear hc); rintro e w3 ⟨rfl, hb⟩; have K3 : Hid (EnvF w3 [fF (some ⟨w1.heap.size, 0, none⟩) 1 [f], fF A n xs, stF] [(w.heap.size + 1, #[.string f.1, .string f.2], 26), (w.heap.size, #[.int .i64 M, .slice A n c], 24)]) := Lib.hid (K2.out.on hb); have B3 : Hid (Below w.heap.size w w3) := Lib.hid (below_step B2.out hb); clear hb K2 B2; have hl1 := (cells2_row ((K3.out.al (.cells #[] 26)).row 1 rfl)).2)
    | (at_builtin; refine wpList_append_flds _ rfl (.tmp 23) (.tmp 25) 22 rfl (w3.heap.size) 26 i0 Tryd.underlying22 hinf.out.1 hinf.out.2.1 hinf.out.2.2.1 hinf.out.2.2.2 _ [] rfl (OwnF.lit w3 26 _ (Nat.le_refl _) _ rfl) _ A n c xs rfl ((K3.out.fs (A := A) (n := n) (xs := xs) (by simp)).alloc (Nat.le_refl _) (.cells #[] 26)) hN (by simp; omega) (by simp) ?_; intro v4 wq hown4 hb4 hg4 _; rw [List.nil_append] at hown4; obtain ⟨A4, c4, rfl, _⟩ := hown4.form2 (n := n) hn; have hb5 := ((Below.refl (w3.heap.size) w3).alloc (Nat.le_refl _) (.cells #[] 26)).trans hb4; have K4 : Hid (EnvF wq [oF w.heap.size 26 (.slice A4 n c4) xs, fF A4 n xs, fF (some ⟨w1.heap.size, 0, none⟩) 1 [f], fF A n xs, stF] [(w.heap.size + 1, #[.string f.1, .string f.2], 26), (w.heap.size, #[.int .i64 M, .slice A n c], 24)]) := Lib.hid (K3.out.handO hb5 hown4 B3.out.size); have B4 : Hid (Below w.heap.size w wq) := Lib.hid (below_step B3.out hb5); clear hown4 hb4 hg4 hb5 hl1 K3 B3)
    | (refine at_load 24 (.tmp 3) (by rfl) ?_; refine wpList_load_row (by rfl) 24 (.tmp 3) (by rfl) (w.heap.size) (by rfl) 24 #[.int .i64 M, .slice A n c] (0, 0) _ (K4.out.row 1 rfl) Tryd.underlying24 (by rfl) infoc_T ?_)
    | (refine at_load 26 (.tmp 4) (by rfl) ?_; refine wpList_load_row (by rfl) 26 (.tmp 4) (by rfl) (w.heap.size + 1) (by rfl) 26 #[.string f.1, .string f.2] (0, 0) _ (K4.out.row 0 rfl) Tryd.underlying26 (by rfl) infoc_D ?_)
    | (go_at_call 21; (have hc := (HAD.out wq (K4.out.fs (A := A) (n := n) (xs := xs) (by simp))); (with_reducible refine hc.mono ?_); clear hc); rintro e w5 ⟨ga, ca, rfl, hb⟩; have K5 : Hid (EnvF w5 [oF w.heap.size 26 (.slice A4 n c4) xs, fF A4 n xs, fF (some ⟨w1.heap.size, 0, none⟩) 1 [f], fF A n xs, stF] [(w.heap.size + 1, #[.string f.1, .string f.2], 26), (w.heap.size, #[.int .i64 M, .slice A n c], 24)]) := Lib.hid (K4.out.on hb); have B5 : Hid (Below w.heap.size w w5) := Lib.hid (below_step B4.out hb); clear hb K4 B4; have lea : w.heap.size ≤ w5.heap.size := (by have := B5.out.size; (try simp only [World.size_alloc] at this); omega); have K6 : Hid (EnvF (w5.alloc (.cells #[.int .i64 0, .slice none 0 0] 24)) [oF w.heap.size 26 (.slice A4 n c4) xs, fF A4 n xs, fF (some ⟨w1.heap.size, 0, none⟩) 1 [f], fF A n xs, stF] [(w5.heap.size, #[.int .i64 0, .slice none 0 0], 24), (w.heap.size + 1, #[.string f.1, .string f.2], 26), (w.heap.size, #[.int .i64 M, .slice A n c], 24)]) := Lib.hid (K5.out.boxg 24 #[.int .i64 0, .slice none 0 0] (w5.heap.size) (by simp)); have B6 : Hid (Below w.heap.size w (w5.alloc (.cells #[.int .i64 0, .slice none 0 0] 24))) := Lib.hid (B5.out.alloc B5.out.size (.cells #[.int .i64 0, .slice none 0 0] 24)); clear K5 B5)
    | (refine at_store 24 (.tmp 8) (.tmp 31) (by rfl) ?_; refine wpList_put (by rfl) 24 (.tmp 8) (.tmp 31) (by rfl) (w5.heap.size) 0 (.agg #[.int .i64 aM, .slice ga 0 ca]) (by rfl) (by rfl) 24 #[.int .i64 0, .slice none 0 0] #[.int .i64 aM, .slice ga 0 ca] (K6.out.row 0 rfl) (by simp [Value.cells]) (by kernel_rfl) infoc_T (by kernel_rfl) ?_; intro w7 hrow hoth hz hbl; have K7 : Hid (EnvF w7 [oF w.heap.size 26 (.slice A4 n c4) xs, fF A4 n xs, fF (some ⟨w1.heap.size, 0, none⟩) 1 [f], fF A n xs, stF] [(w5.heap.size, #[.int .i64 aM, .slice ga 0 ca], 24), (w.heap.size + 1, #[.string f.1, .string f.2], 26), (w.heap.size, #[.int .i64 M, .slice A n c], 24)]) := Lib.hid (K6.out.turn 0 rfl hrow hoth hz); have B7 : Hid (Below w.heap.size w w7) := Lib.hid (hbl _ _ lea B6.out); clear hrow hoth hz hbl K6 B6)
    | (refine at_load 24 (.tmp 3) (by rfl) ?_; refine wpList_load_row (by rfl) 24 (.tmp 3) (by rfl) (w.heap.size) (by rfl) 24 #[.int .i64 M, .slice A n c] (0, 0) _ (K7.out.row 2 rfl) Tryd.underlying24 (by rfl) infoc_T ?_)
    | (go_at_call 23; (have hc := (HRS.out w7 (K7.out.fs (A := A) (n := n) (xs := xs) (by simp))); (with_reducible refine hc.mono ?_); clear hc); rintro e w8 ⟨gb, cub, cb, rfl, ⟨hg, hgB, hSb⟩, hb⟩; have legb := Nat.le_trans B7.out.size hgB; have K8 : Hid (EnvF w8 [oF w.heap.size 26 (.slice A4 n c4) xs, fF A4 n xs, fF (some ⟨w1.heap.size, 0, none⟩) 1 [f], fF A n xs, stF] [(gb, cub, 26), (w5.heap.size, #[.int .i64 aM, .slice ga 0 ca], 24), (w.heap.size + 1, #[.string f.1, .string f.2], 26), (w.heap.size, #[.int .i64 M, .slice A n c], 24)]) := Lib.hid (K7.out.handBox hb hg hgB); have B8 : Hid (Below w.heap.size w w8) := Lib.hid (below_step B7.out hb); clear hb hg hgB K7 B7; have leb : w.heap.size ≤ w8.heap.size := (by have := B8.out.size; (try simp only [World.size_alloc] at this); omega); have K9 : Hid (EnvF (w8.alloc (.cells #[.int .i64 0, .slice none 0 0] 24)) [oF w.heap.size 26 (.slice A4 n c4) xs, fF A4 n xs, fF (some ⟨w1.heap.size, 0, none⟩) 1 [f], fF A n xs, stF] [(w8.heap.size, #[.int .i64 0, .slice none 0 0], 24), (gb, cub, 26), (w5.heap.size, #[.int .i64 aM, .slice ga 0 ca], 24), (w.heap.size + 1, #[.string f.1, .string f.2], 26), (w.heap.size, #[.int .i64 M, .slice A n c], 24)]) := Lib.hid (K8.out.boxg 24 #[.int .i64 0, .slice none 0 0] (w8.heap.size) (by simp)); have B9 : Hid (Below w.heap.size w (w8.alloc (.cells #[.int .i64 0, .slice none 0 0] 24))) := Lib.hid (B8.out.alloc B8.out.size (.cells #[.int .i64 0, .slice none 0 0] 24)); clear K8 B8)
    | (refine at_store 24 (.tmp 10) (.tmp 37) (by rfl) ?_; refine wpList_put (by rfl) 24 (.tmp 10) (.tmp 37) (by rfl) (w8.heap.size) 0 (.agg #[.int .i64 bM, .slice (some ⟨gb, 0, none⟩) q cb]) (by rfl) (by rfl) 24 #[.int .i64 0, .slice none 0 0] #[.int .i64 bM, .slice (some ⟨gb, 0, none⟩) q cb] (K9.out.row 0 rfl) (by simp [Value.cells]) (by kernel_rfl) infoc_T (by kernel_rfl) ?_; intro w10 hrow hoth hz hbl; have K10 : Hid (EnvF w10 [oF w.heap.size 26 (.slice A4 n c4) xs, fF A4 n xs, fF (some ⟨w1.heap.size, 0, none⟩) 1 [f], fF A n xs, stF] [(w8.heap.size, #[.int .i64 bM, .slice (some ⟨gb, 0, none⟩) q cb], 24), (gb, cub, 26), (w5.heap.size, #[.int .i64 aM, .slice ga 0 ca], 24), (w.heap.size + 1, #[.string f.1, .string f.2], 26), (w.heap.size, #[.int .i64 M, .slice A n c], 24)]) := Lib.hid (K9.out.turn 0 rfl hrow hoth hz); have B10 : Hid (Below w.heap.size w w10) := Lib.hid (hbl _ _ leb B9.out); clear hrow hoth hz hbl K9 B9))
  go_loopw [12] (fun u wr => u = .int .i64 0 ∧ (EnvF wr [oF w.heap.size 26 (.slice A4 n c4) xs, fF A4 n xs, fF (some ⟨w1.heap.size, 0, none⟩) 1 [f], fF A n xs, stF] [(w8.heap.size, #[.int .i64 bM, .slice (some ⟨gb, 0, none⟩) q cb], 24), (gb, cub, 26), (w5.heap.size, #[.int .i64 aM, .slice ga 0 ca], 24), (w.heap.size + 1, #[.string f.1, .string f.2], 26), (w.heap.size, #[.int .i64 M, .slice A n c], 24)]) ∧ Below w.heap.size w wr) (fun u _ => 0 - (intOf u).toNat)
  case atStart => exact ⟨rfl, K10.out, B10.out⟩
  case round =>
    obtain ⟨rfl, hk, hbel⟩ := hrel
    have K70 := Lib.hid hk
    have B70 := Lib.hid hbel
    have r1 := (cells2_row (hk.row 2 rfl)).2
    clear hk hbel K10 B10
    · skip
      go_wp2
      have K80 := K70
      have B80 := B70
      clear K70 B70 r1
      obtain ⟨ws, hws⟩ : ∃ ws : World, ws = wr := ⟨_, rfl⟩
      subst hws
      go_loopw [13] (fun u wr => ∃ j : Nat, j ≤ q ∧ u = .int .i64 (j : Int) ∧ (∃ cur : Array Value, cur.size = cub.size ∧ EnvF wr [oF w.heap.size 26 (.slice A4 n c4) xs, fF A4 n xs, fF (some ⟨w1.heap.size, 0, none⟩) 1 [f], fF A n xs, stF] [(w8.heap.size, #[.int .i64 bM, .slice (some ⟨gb, 0, none⟩) q cb], 24), (gb, cur, 26), (w5.heap.size, #[.int .i64 aM, .slice ga 0 ca], 24), (w.heap.size + 1, #[.string f.1, .string f.2], 26), (w.heap.size, #[.int .i64 M, .slice A n c], 24)]) ∧ Below w.heap.size w wr) (fun u _ => q - (intOf u).toNat)
      case atStart => exact ⟨0, Nat.zero_le _, rfl, ⟨_, rfl, K80.out⟩, B80.out⟩
      case round =>
        obtain ⟨j, hj, rfl, ⟨cur, hcz, hk⟩, hbel⟩ := hrel
        have K70 := Lib.hid hk
        have B70 := Lib.hid hbel
        have r1 := (cells2_row (hk.row 0 rfl)).2
        clear hk hbel K80 B80
        by_cases hlt : j < q
        · have hsz : j * 2 + 1 ≤ cur.size := by omega
          go_wp2_with (first
            | go_skip
            | (refine at_store 9 (.tmp 62) (.const (.string ⟨#[63]⟩)) (by rfl) ?_; refine wpList_put (by rfl) 9 (.tmp 62) (.const (.string ⟨#[63]⟩)) (by rfl) gb (j * 2) (.string ⟨#[63]⟩) (by rfl) (by rfl) 26 cur (cur.setIfInBounds (j * 2) (.string ⟨#[63]⟩)) (K70.out.row 1 rfl) (by simpa [Value.cells] using hsz) rfl infoc_s (by kernel_rfl) ?_; intro w71 hrow hoth hz hbl; have K71 := Lib.hid (K70.out.turn 1 rfl hrow hoth hz); have B71 := Lib.hid (hbl _ _ legb B70.out); clear hrow hoth hz hbl K70 B70 r1))
          go_roundw
          case rel => exact ⟨j + 1, by omega, by go_num, ⟨_, by rw [Array.size_setIfInBounds]; exact hcz, K71.out⟩, B71.out⟩
          case measure => simp [intOf]; omega
        · obtain rfl : q = j := by omega
          skip
          have K90 := K70
          have B90 := B70
          clear K70 B70
          go_wp2_with (first
            | go_skip
            | (refine at_load 22 (.tmp 63) (by rfl) ?_; refine wpList_get (by rfl) 22 (.tmp 63) (by rfl) (w.heap.size) 1 (by rfl) 24 #[.int .i64 M, .slice A n c] (.slice A n c) _ (K90.out.row 4 rfl) (by rfl) Tryd.underlying22 (by rfl) ?_)
            | (go_at_call 30; (have hc := ((decide_eq_true (rfl : xs = xs)) ▸ r_fields A A4 n n c c4 xs xs wr (K90.out.fs (A := A) (n := n) (xs := xs) (by simp)) (K90.out.fs (A := A4) (n := n) (xs := xs) (by simp)) (by omega)); (with_reducible refine hc.mono ?_); clear hc); rintro e w91 ⟨rfl, hb⟩; have K91 : Hid (EnvF w91 [oF w.heap.size 26 (.slice A4 n c4) xs, fF A4 n xs, fF (some ⟨w1.heap.size, 0, none⟩) 1 [f], fF A n xs, stF] [(w8.heap.size, #[.int .i64 bM, .slice (some ⟨gb, 0, none⟩) q cb], 24), (gb, cur, 26), (w5.heap.size, #[.int .i64 aM, .slice ga 0 ca], 24), (w.heap.size + 1, #[.string f.1, .string f.2], 26), (w.heap.size, #[.int .i64 M, .slice A n c], 24)]) := Lib.hid (K90.out.on hb); have B91 : Hid (Below w.heap.size w w91) := Lib.hid (below_step B90.out hb); clear hb K90 B90)
            | (go_at_call 9; (have hc := (wakes9 w91 (Tb.EnvF.stv K91.out (by simp))); (with_reducible refine hc.mono ?_); clear hc); rintro e w92 ⟨rfl, hb⟩; have K92 : Hid (EnvF w92 [oF w.heap.size 26 (.slice A4 n c4) xs, fF A4 n xs, fF (some ⟨w1.heap.size, 0, none⟩) 1 [f], fF A n xs, stF] [(w8.heap.size, #[.int .i64 bM, .slice (some ⟨gb, 0, none⟩) q cb], 24), (gb, cur, 26), (w5.heap.size, #[.int .i64 aM, .slice ga 0 ca], 24), (w.heap.size + 1, #[.string f.1, .string f.2], 26), (w.heap.size, #[.int .i64 M, .slice A n c], 24)]) := Lib.hid (K91.out.on hb); have B92 : Hid (Below w.heap.size w w92) := Lib.hid (below_step B91.out hb); clear hb K91 B91))
          go_ret
          exact ⟨rfl, B92.out⟩
set_option maxRecDepth 100000 in
set_option maxHeartbeats 4000000 in
theorem lo_10 (M : Int) (A : Option Addr) (n c : Nat) (xs : List Fd) (f : Fd) (m : Int) (w : World) (hR : Stv w) (hA : Fs w w.heap.size A n xs) (hN : A = none → c = 0) (hnm : n ≤ 140) (HG : Hid (∀ w0 : World, Fs w0 w0.heap.size A n xs → Calls Tryd.prog 8 #[.slice A n c] w0 fun e w' => e = .returned (.bool false) ∧ Below w0.heap.size w0 w')) (HGF : Hid (∀ (A0 : Option Addr) (w0 : World), Fs w0 w0.heap.size A0 1 [f] → Calls Tryd.prog 8 #[.slice A0 1 1] w0 fun e w' => e = .returned (.bool false) ∧ Below w0.heap.size w0 w')) (aM aE bM bE : Int) (p : Nat) (hp : p ≤ 1000) (HAD : Hid (∀ w0 : World, Fs w0 w0.heap.size A n xs → Calls Tryd.prog 21 #[.agg #[.int .i64 M, .slice A n c], .agg #[.string f.1, .string f.2]] w0 fun e w' => ∃ g cur c0, e = .returned (.tuple #[.agg #[.int .i64 aM, .slice (some ⟨g, 0, none⟩) p c0], .int .i64 aE]) ∧ (w'.heap[g]? = some (.cells cur 26) ∧ w0.heap.size ≤ g ∧ p * 2 ≤ cur.size) ∧ Below w0.heap.size w0 w')) (HRS : Hid (∀ w0 : World, Fs w0 w0.heap.size A n xs → Calls Tryd.prog 23 #[.agg #[.int .i64 M, .slice A n c], .int .i64 m] w0 fun e w' => ∃ A0 c0, e = .returned (.tuple #[.agg #[.int .i64 bM, .slice A0 0 c0], .int .i64 bE]) ∧ Below w0.heap.size w0 w')) :
    Calls Tryd.prog 7 #[.agg #[.int .i64 M, .slice A n c], .agg #[.string f.1, .string f.2], .int .i64 m] w fun e w' => e = .returned (.bool true) ∧ Below w.heap.size w w' := by
  have hn := hA.1
  obtain ⟨i0, hi, hz0, hz1, hz2⟩ := info_parts info_fld
  have hinf := Lib.hid (And.intro hi (And.intro hz0 (And.intro hz1 hz2)))
  clear hi hz0 hz1 hz2
  have K0 : Hid (EnvF ((w.alloc (.cells #[.int .i64 M, .slice A n c] 24)).alloc (.cells #[.string f.1, .string f.2] 26)) [fF A n xs, stF] [(w.heap.size + 1, #[.string f.1, .string f.2], 26), (w.heap.size, #[.int .i64 M, .slice A n c], 24)]) := Lib.hid ((((envS w hR).addF hA).boxg 24 #[.int .i64 M, .slice A n c] (w.heap.size) (by simp)).boxg 26 #[.string f.1, .string f.2] (w.heap.size + 1) (by simp))
  have B0 : Hid (Below w.heap.size w ((w.alloc (.cells #[.int .i64 M, .slice A n c] 24)).alloc (.cells #[.string f.1, .string f.2] 26))) := Lib.hid (((Below.refl _ w).alloc (by first | exact Nat.le_refl _ | (simp only [World.size_alloc]; omega)) (.cells #[.int .i64 M, .slice A n c] 24)).alloc (by first | exact Nat.le_refl _ | (simp only [World.size_alloc]; omega)) (.cells #[.string f.1, .string f.2] 26))
  go_enter Tryd.func7, Tryd.ntmps7
  go_wp2_with (first
    | go_skip
    | (refine at_load 22 (.tmp 14) (by rfl) ?_; refine wpList_get (by rfl) 22 (.tmp 14) (by rfl) (w.heap.size) 1 (by rfl) 24 #[.int .i64 M, .slice A n c] (.slice A n c) _ (K0.out.row 1 rfl) (by rfl) Tryd.underlying22 (by rfl) ?_)
    | (go_at_call 8; (have hc := (HG.out ((w.alloc (.cells #[.int .i64 M, .slice A n c] 24)).alloc (.cells #[.string f.1, .string f.2] 26)) (K0.out.fs (A := A) (n := n) (xs := xs) (by simp))); (with_reducible refine hc.mono ?_); clear hc); rintro e w1 ⟨rfl, hb⟩; have K1 : Hid (EnvF w1 [fF A n xs, stF] [(w.heap.size + 1, #[.string f.1, .string f.2], 26), (w.heap.size, #[.int .i64 M, .slice A n c], 24)]) := Lib.hid (K0.out.on hb); have B1 : Hid (Below w.heap.size w w1) := Lib.hid (below_step B0.out hb); clear hb K0 B0)
    | (refine at_load 26 (.tmp 4) (by rfl) ?_; refine wpListG_row (by kernel_rfl) 26 (.tmp 4) (by rfl) (w.heap.size + 1) (by rfl) 26 #[.string f.1, .string f.2] _ (K1.out.row 0 rfl) Tryd.underlying26 (by rfl) infoc_D ?_)
    | (go_at_call 8; have K2 : Hid (EnvF (w1.alloc (.cells #[.string f.1, .string f.2] 26)) [fF (some ⟨w1.heap.size, 0, none⟩) 1 [f], fF A n xs, stF] [(w.heap.size + 1, #[.string f.1, .string f.2], 26), (w.heap.size, #[.int .i64 M, .slice A n c], 24)]) := Lib.hid (K1.out.litf 26 [f] #[.string f.1, .string f.2] (by simp [fdc]) 1 rfl (w1.heap.size) (by simp [World.size_alloc])); have B2 : Hid (Below w.heap.size w (w1.alloc (.cells #[.string f.1, .string f.2] 26))) := Lib.hid (B1.out.alloc B1.out.size (.cells #[.string f.1, .string f.2] 26)); clear K1 B1; (have hc := (HGF.out (some ⟨w1.heap.size, 0, none⟩) (w1.alloc (.cells #[.string f.1, .string f.2] 26)) (K2.out.fs (A := (some ⟨w1.heap.size, 0, none⟩)) (n := 1) (xs := [f]) (by simp))); (with_reducible refine hc.mono ?_); clear hc); rintro e w3 ⟨rfl, hb⟩; have K3 : Hid (EnvF w3 [fF (some ⟨w1.heap.size, 0, none⟩) 1 [f], fF A n xs, stF] [(w.heap.size + 1, #[.string f.1, .string f.2], 26), (w.heap.size, #[.int .i64 M, .slice A n c], 24)]) := Lib.hid (K2.out.on hb); have B3 : Hid (Below w.heap.size w w3) := Lib.hid (below_step B2.out hb); clear hb K2 B2; have hl1 := (cells2_row ((K3.out.al (.cells #[] 26)).row 1 rfl)).2)
    | (at_builtin; refine wpList_append_flds _ rfl (.tmp 23) (.tmp 25) 22 rfl (w3.heap.size) 26 i0 Tryd.underlying22 hinf.out.1 hinf.out.2.1 hinf.out.2.2.1 hinf.out.2.2.2 _ [] rfl (OwnF.lit w3 26 _ (Nat.le_refl _) _ rfl) _ A n c xs rfl ((K3.out.fs (A := A) (n := n) (xs := xs) (by simp)).alloc (Nat.le_refl _) (.cells #[] 26)) hN (by simp; omega) (by simp) ?_; intro v4 wq hown4 hb4 hg4 _; rw [List.nil_append] at hown4; obtain ⟨A4, c4, rfl, _⟩ := hown4.form2 (n := n) hn; have hb5 := ((Below.refl (w3.heap.size) w3).alloc (Nat.le_refl _) (.cells #[] 26)).trans hb4; have K4 : Hid (EnvF wq [oF w.heap.size 26 (.slice A4 n c4) xs, fF A4 n xs, fF (some ⟨w1.heap.size, 0, none⟩) 1 [f], fF A n xs, stF] [(w.heap.size + 1, #[.string f.1, .string f.2], 26), (w.heap.size, #[.int .i64 M, .slice A n c], 24)]) := Lib.hid (K3.out.handO hb5 hown4 B3.out.size); have B4 : Hid (Below w.heap.size w wq) := Lib.hid (below_step B3.out hb5); clear hown4 hb4 hg4 hb5 hl1 K3 B3)
    | (refine at_load 24 (.tmp 3) (by rfl) ?_; refine wpList_load_row (by rfl) 24 (.tmp 3) (by rfl) (w.heap.size) (by rfl) 24 #[.int .i64 M, .slice A n c] (0, 0) _ (K4.out.row 1 rfl) Tryd.underlying24 (by rfl) infoc_T ?_)
    | (refine at_load 26 (.tmp 4) (by rfl) ?_; refine wpList_load_row (by rfl) 26 (.tmp 4) (by rfl) (w.heap.size + 1) (by rfl) 26 #[.string f.1, .string f.2] (0, 0) _ (K4.out.row 0 rfl) Tryd.underlying26 (by rfl) infoc_D ?_)
    | (go_at_call 21; (have hc := (HAD.out wq (K4.out.fs (A := A) (n := n) (xs := xs) (by simp))); (with_reducible refine hc.mono ?_); clear hc); rintro e w5 ⟨ga, cua, ca, rfl, ⟨hg, hgB, hSa⟩, hb⟩; have lega := Nat.le_trans B4.out.size hgB; have K5 : Hid (EnvF w5 [oF w.heap.size 26 (.slice A4 n c4) xs, fF A4 n xs, fF (some ⟨w1.heap.size, 0, none⟩) 1 [f], fF A n xs, stF] [(ga, cua, 26), (w.heap.size + 1, #[.string f.1, .string f.2], 26), (w.heap.size, #[.int .i64 M, .slice A n c], 24)]) := Lib.hid (K4.out.handBox hb hg hgB); have B5 : Hid (Below w.heap.size w w5) := Lib.hid (below_step B4.out hb); clear hb hg hgB K4 B4; have lea : w.heap.size ≤ w5.heap.size := (by have := B5.out.size; (try simp only [World.size_alloc] at this); omega); have K6 : Hid (EnvF (w5.alloc (.cells #[.int .i64 0, .slice none 0 0] 24)) [oF w.heap.size 26 (.slice A4 n c4) xs, fF A4 n xs, fF (some ⟨w1.heap.size, 0, none⟩) 1 [f], fF A n xs, stF] [(w5.heap.size, #[.int .i64 0, .slice none 0 0], 24), (ga, cua, 26), (w.heap.size + 1, #[.string f.1, .string f.2], 26), (w.heap.size, #[.int .i64 M, .slice A n c], 24)]) := Lib.hid (K5.out.boxg 24 #[.int .i64 0, .slice none 0 0] (w5.heap.size) (by simp)); have B6 : Hid (Below w.heap.size w (w5.alloc (.cells #[.int .i64 0, .slice none 0 0] 24))) := Lib.hid (B5.out.alloc B5.out.size (.cells #[.int .i64 0, .slice none 0 0] 24)); clear K5 B5)
    | (refine at_store 24 (.tmp 8) (.tmp 31) (by rfl) ?_; refine wpList_put (by rfl) 24 (.tmp 8) (.tmp 31) (by rfl) (w5.heap.size) 0 (.agg #[.int .i64 aM, .slice (some ⟨ga, 0, none⟩) p ca]) (by rfl) (by rfl) 24 #[.int .i64 0, .slice none 0 0] #[.int .i64 aM, .slice (some ⟨ga, 0, none⟩) p ca] (K6.out.row 0 rfl) (by simp [Value.cells]) (by kernel_rfl) infoc_T (by kernel_rfl) ?_; intro w7 hrow hoth hz hbl; have K7 : Hid (EnvF w7 [oF w.heap.size 26 (.slice A4 n c4) xs, fF A4 n xs, fF (some ⟨w1.heap.size, 0, none⟩) 1 [f], fF A n xs, stF] [(w5.heap.size, #[.int .i64 aM, .slice (some ⟨ga, 0, none⟩) p ca], 24), (ga, cua, 26), (w.heap.size + 1, #[.string f.1, .string f.2], 26), (w.heap.size, #[.int .i64 M, .slice A n c], 24)]) := Lib.hid (K6.out.turn 0 rfl hrow hoth hz); have B7 : Hid (Below w.heap.size w w7) := Lib.hid (hbl _ _ lea B6.out); clear hrow hoth hz hbl K6 B6)
    | (refine at_load 24 (.tmp 3) (by rfl) ?_; refine wpList_load_row (by rfl) 24 (.tmp 3) (by rfl) (w.heap.size) (by rfl) 24 #[.int .i64 M, .slice A n c] (0, 0) _ (K7.out.row 3 rfl) Tryd.underlying24 (by rfl) infoc_T ?_)
    | (go_at_call 23; (have hc := (HRS.out w7 (K7.out.fs (A := A) (n := n) (xs := xs) (by simp))); (with_reducible refine hc.mono ?_); clear hc); rintro e w8 ⟨gb, cb, rfl, hb⟩; have K8 : Hid (EnvF w8 [oF w.heap.size 26 (.slice A4 n c4) xs, fF A4 n xs, fF (some ⟨w1.heap.size, 0, none⟩) 1 [f], fF A n xs, stF] [(w5.heap.size, #[.int .i64 aM, .slice (some ⟨ga, 0, none⟩) p ca], 24), (ga, cua, 26), (w.heap.size + 1, #[.string f.1, .string f.2], 26), (w.heap.size, #[.int .i64 M, .slice A n c], 24)]) := Lib.hid (K7.out.on hb); have B8 : Hid (Below w.heap.size w w8) := Lib.hid (below_step B7.out hb); clear hb K7 B7; have leb : w.heap.size ≤ w8.heap.size := (by have := B8.out.size; (try simp only [World.size_alloc] at this); omega); have K9 : Hid (EnvF (w8.alloc (.cells #[.int .i64 0, .slice none 0 0] 24)) [oF w.heap.size 26 (.slice A4 n c4) xs, fF A4 n xs, fF (some ⟨w1.heap.size, 0, none⟩) 1 [f], fF A n xs, stF] [(w8.heap.size, #[.int .i64 0, .slice none 0 0], 24), (w5.heap.size, #[.int .i64 aM, .slice (some ⟨ga, 0, none⟩) p ca], 24), (ga, cua, 26), (w.heap.size + 1, #[.string f.1, .string f.2], 26), (w.heap.size, #[.int .i64 M, .slice A n c], 24)]) := Lib.hid (K8.out.boxg 24 #[.int .i64 0, .slice none 0 0] (w8.heap.size) (by simp)); have B9 : Hid (Below w.heap.size w (w8.alloc (.cells #[.int .i64 0, .slice none 0 0] 24))) := Lib.hid (B8.out.alloc B8.out.size (.cells #[.int .i64 0, .slice none 0 0] 24)); clear K8 B8)
    | (refine at_store 24 (.tmp 10) (.tmp 37) (by rfl) ?_; refine wpList_put (by rfl) 24 (.tmp 10) (.tmp 37) (by rfl) (w8.heap.size) 0 (.agg #[.int .i64 bM, .slice gb 0 cb]) (by rfl) (by rfl) 24 #[.int .i64 0, .slice none 0 0] #[.int .i64 bM, .slice gb 0 cb] (K9.out.row 0 rfl) (by simp [Value.cells]) (by kernel_rfl) infoc_T (by kernel_rfl) ?_; intro w10 hrow hoth hz hbl; have K10 : Hid (EnvF w10 [oF w.heap.size 26 (.slice A4 n c4) xs, fF A4 n xs, fF (some ⟨w1.heap.size, 0, none⟩) 1 [f], fF A n xs, stF] [(w8.heap.size, #[.int .i64 bM, .slice gb 0 cb], 24), (w5.heap.size, #[.int .i64 aM, .slice (some ⟨ga, 0, none⟩) p ca], 24), (ga, cua, 26), (w.heap.size + 1, #[.string f.1, .string f.2], 26), (w.heap.size, #[.int .i64 M, .slice A n c], 24)]) := Lib.hid (K9.out.turn 0 rfl hrow hoth hz); have B10 : Hid (Below w.heap.size w w10) := Lib.hid (hbl _ _ leb B9.out); clear hrow hoth hz hbl K9 B9))
  go_loopw [12] (fun u wr => ∃ j : Nat, j ≤ p ∧ u = .int .i64 (j : Int) ∧ (∃ cur : Array Value, cur.size = cua.size ∧ EnvF wr [oF w.heap.size 26 (.slice A4 n c4) xs, fF A4 n xs, fF (some ⟨w1.heap.size, 0, none⟩) 1 [f], fF A n xs, stF] [(w8.heap.size, #[.int .i64 bM, .slice gb 0 cb], 24), (w5.heap.size, #[.int .i64 aM, .slice (some ⟨ga, 0, none⟩) p ca], 24), (ga, cur, 26), (w.heap.size + 1, #[.string f.1, .string f.2], 26), (w.heap.size, #[.int .i64 M, .slice A n c], 24)]) ∧ Below w.heap.size w wr) (fun u _ => p - (intOf u).toNat)
  case atStart => exact ⟨0, Nat.zero_le _, rfl, ⟨_, rfl, K10.out⟩, B10.out⟩
  case round =>
    obtain ⟨j, hj, rfl, ⟨cur, hcz, hk⟩, hbel⟩ := hrel
    have K70 := Lib.hid hk
    have B70 := Lib.hid hbel
    have r1 := (cells2_row (hk.row 1 rfl)).2
    clear hk hbel K10 B10
    by_cases hlt : j < p
    · have hsz : j * 2 + 1 ≤ cur.size := by omega
      go_wp2_with (first
        | go_skip
        | (refine at_store 9 (.tmp 50) (.const (.string ⟨#[63]⟩)) (by rfl) ?_; refine wpList_put (by rfl) 9 (.tmp 50) (.const (.string ⟨#[63]⟩)) (by rfl) ga (j * 2) (.string ⟨#[63]⟩) (by rfl) (by rfl) 26 cur (cur.setIfInBounds (j * 2) (.string ⟨#[63]⟩)) (K70.out.row 2 rfl) (by simpa [Value.cells] using hsz) rfl infoc_s (by kernel_rfl) ?_; intro w71 hrow hoth hz hbl; have K71 := Lib.hid (K70.out.turn 2 rfl hrow hoth hz); have B71 := Lib.hid (hbl _ _ lega B70.out); clear hrow hoth hz hbl K70 B70 r1))
      go_roundw
      case rel => exact ⟨j + 1, by omega, by go_num, ⟨_, by rw [Array.size_setIfInBounds]; exact hcz, K71.out⟩, B71.out⟩
      case measure => simp [intOf]; omega
    · obtain rfl : p = j := by omega
      go_wp2
      have K80 := K70
      have B80 := B70
      clear K70 B70 r1
      obtain ⟨cura, hcura⟩ : ∃ cura, cura = cur := ⟨cur, rfl⟩
      subst hcura
      obtain ⟨ws, hws⟩ : ∃ ws : World, ws = wr := ⟨_, rfl⟩
      subst hws
      go_loopw [13] (fun u wr => u = .int .i64 0 ∧ (EnvF wr [oF w.heap.size 26 (.slice A4 n c4) xs, fF A4 n xs, fF (some ⟨w1.heap.size, 0, none⟩) 1 [f], fF A n xs, stF] [(w8.heap.size, #[.int .i64 bM, .slice gb 0 cb], 24), (w5.heap.size, #[.int .i64 aM, .slice (some ⟨ga, 0, none⟩) p ca], 24), (ga, cura, 26), (w.heap.size + 1, #[.string f.1, .string f.2], 26), (w.heap.size, #[.int .i64 M, .slice A n c], 24)]) ∧ Below w.heap.size w wr) (fun u _ => 0 - (intOf u).toNat)
      case atStart => exact ⟨rfl, K80.out, B80.out⟩
      case round =>
        obtain ⟨rfl, hk, hbel⟩ := hrel
        have K70 := Lib.hid hk
        have B70 := Lib.hid hbel
        have r1 := (cells2_row (hk.row 0 rfl)).2
        clear hk hbel K80 B80
        · skip
          skip
          have K90 := K70
          have B90 := B70
          clear K70 B70
          go_wp2_with (first
            | go_skip
            | (refine at_load 22 (.tmp 63) (by rfl) ?_; refine wpList_get (by rfl) 22 (.tmp 63) (by rfl) (w.heap.size) 1 (by rfl) 24 #[.int .i64 M, .slice A n c] (.slice A n c) _ (K90.out.row 4 rfl) (by rfl) Tryd.underlying22 (by rfl) ?_)
            | (go_at_call 30; (have hc := ((decide_eq_true (rfl : xs = xs)) ▸ r_fields A A4 n n c c4 xs xs wr (K90.out.fs (A := A) (n := n) (xs := xs) (by simp)) (K90.out.fs (A := A4) (n := n) (xs := xs) (by simp)) (by omega)); (with_reducible refine hc.mono ?_); clear hc); rintro e w91 ⟨rfl, hb⟩; have K91 : Hid (EnvF w91 [oF w.heap.size 26 (.slice A4 n c4) xs, fF A4 n xs, fF (some ⟨w1.heap.size, 0, none⟩) 1 [f], fF A n xs, stF] [(w8.heap.size, #[.int .i64 bM, .slice gb 0 cb], 24), (w5.heap.size, #[.int .i64 aM, .slice (some ⟨ga, 0, none⟩) p ca], 24), (ga, cura, 26), (w.heap.size + 1, #[.string f.1, .string f.2], 26), (w.heap.size, #[.int .i64 M, .slice A n c], 24)]) := Lib.hid (K90.out.on hb); have B91 : Hid (Below w.heap.size w w91) := Lib.hid (below_step B90.out hb); clear hb K90 B90)
            | (go_at_call 9; (have hc := (wakes9 w91 (Tb.EnvF.stv K91.out (by simp))); (with_reducible refine hc.mono ?_); clear hc); rintro e w92 ⟨rfl, hb⟩; have K92 : Hid (EnvF w92 [oF w.heap.size 26 (.slice A4 n c4) xs, fF A4 n xs, fF (some ⟨w1.heap.size, 0, none⟩) 1 [f], fF A n xs, stF] [(w8.heap.size, #[.int .i64 bM, .slice gb 0 cb], 24), (w5.heap.size, #[.int .i64 aM, .slice (some ⟨ga, 0, none⟩) p ca], 24), (ga, cura, 26), (w.heap.size + 1, #[.string f.1, .string f.2], 26), (w.heap.size, #[.int .i64 M, .slice A n c], 24)]) := Lib.hid (K91.out.on hb); have B92 : Hid (Below w.heap.size w w92) := Lib.hid (below_step B91.out hb); clear hb K91 B91))
          go_ret
          exact ⟨rfl, B92.out⟩
set_option maxRecDepth 100000 in
set_option maxHeartbeats 4000000 in
theorem lo_11 (M : Int) (A : Option Addr) (n c : Nat) (xs : List Fd) (f : Fd) (m : Int) (w : World) (hR : Stv w) (hA : Fs w w.heap.size A n xs) (hN : A = none → c = 0) (hnm : n ≤ 140) (HG : Hid (∀ w0 : World, Fs w0 w0.heap.size A n xs → Calls Tryd.prog 8 #[.slice A n c] w0 fun e w' => e = .returned (.bool false) ∧ Below w0.heap.size w0 w')) (HGF : Hid (∀ (A0 : Option Addr) (w0 : World), Fs w0 w0.heap.size A0 1 [f] → Calls Tryd.prog 8 #[.slice A0 1 1] w0 fun e w' => e = .returned (.bool false) ∧ Below w0.heap.size w0 w')) (aM aE bM bE : Int) (p : Nat) (hp : p ≤ 1000) (q : Nat) (hq : q ≤ 1000) (HAD : Hid (∀ w0 : World, Fs w0 w0.heap.size A n xs → Calls Tryd.prog 21 #[.agg #[.int .i64 M, .slice A n c], .agg #[.string f.1, .string f.2]] w0 fun e w' => ∃ g cur c0, e = .returned (.tuple #[.agg #[.int .i64 aM, .slice (some ⟨g, 0, none⟩) p c0], .int .i64 aE]) ∧ (w'.heap[g]? = some (.cells cur 26) ∧ w0.heap.size ≤ g ∧ p * 2 ≤ cur.size) ∧ Below w0.heap.size w0 w')) (HRS : Hid (∀ w0 : World, Fs w0 w0.heap.size A n xs → Calls Tryd.prog 23 #[.agg #[.int .i64 M, .slice A n c], .int .i64 m] w0 fun e w' => ∃ g cur c0, e = .returned (.tuple #[.agg #[.int .i64 bM, .slice (some ⟨g, 0, none⟩) q c0], .int .i64 bE]) ∧ (w'.heap[g]? = some (.cells cur 26) ∧ w0.heap.size ≤ g ∧ q * 2 ≤ cur.size) ∧ Below w0.heap.size w0 w')) :
    Calls Tryd.prog 7 #[.agg #[.int .i64 M, .slice A n c], .agg #[.string f.1, .string f.2], .int .i64 m] w fun e w' => e = .returned (.bool true) ∧ Below w.heap.size w w' := by
  have hn := hA.1
  obtain ⟨i0, hi, hz0, hz1, hz2⟩ := info_parts info_fld
  have hinf := Lib.hid (And.intro hi (And.intro hz0 (And.intro hz1 hz2)))
  clear hi hz0 hz1 hz2
  have K0 : Hid (EnvF ((w.alloc (.cells #[.int .i64 M, .slice A n c] 24)).alloc (.cells #[.string f.1, .string f.2] 26)) [fF A n xs, stF] [(w.heap.size + 1, #[.string f.1, .string f.2], 26), (w.heap.size, #[.int .i64 M, .slice A n c], 24)]) := Lib.hid ((((envS w hR).addF hA).boxg 24 #[.int .i64 M, .slice A n c] (w.heap.size) (by simp)).boxg 26 #[.string f.1, .string f.2] (w.heap.size + 1) (by simp))
  have B0 : Hid (Below w.heap.size w ((w.alloc (.cells #[.int .i64 M, .slice A n c] 24)).alloc (.cells #[.string f.1, .string f.2] 26))) := Lib.hid (((Below.refl _ w).alloc (by first | exact Nat.le_refl _ | (simp only [World.size_alloc]; omega)) (.cells #[.int .i64 M, .slice A n c] 24)).alloc (by first | exact Nat.le_refl _ | (simp only [World.size_alloc]; omega)) (.cells #[.string f.1, .string f.2] 26))
  go_enter Tryd.func7, Tryd.ntmps7
  go_wp2_with (first
    | go_skip
    | (refine at_load 22 (.tmp 14) (by rfl) ?_; refine wpList_get (by rfl) 22 (.tmp 14) (by rfl) (w.heap.size) 1 (by rfl) 24 #[.int .i64 M, .slice A n c] (.slice A n c) _ (K0.out.row 1 rfl) (by rfl) Tryd.underlying22 (by rfl) ?_)
    | (go_at_call 8; (have hc := (HG.out ((w.alloc (.cells #[.int .i64 M, .slice A n c] 24)).alloc (.cells #[.string f.1, .string f.2] 26)) (K0.out.fs (A := A) (n := n) (xs := xs) (by simp))); (with_reducible refine hc.mono ?_); clear hc); rintro e w1 ⟨rfl, hb⟩; have K1 : Hid (EnvF w1 [fF A n xs, stF] [(w.heap.size + 1, #[.string f.1, .string f.2], 26), (w.heap.size, #[.int .i64 M, .slice A n c], 24)]) := Lib.hid (K0.out.on hb); have B1 : Hid (Below w.heap.size w w1) := Lib.hid (below_step B0.out hb); clear hb K0 B0)
    | (refine at_load 26 (.tmp 4) (by rfl) ?_; refine wpListG_row (by kernel_rfl) 26 (.tmp 4) (by rfl) (w.heap.size + 1) (by rfl) 26 #[.string f.1, .string f.2] _ (K1.out.row 0 rfl) Tryd.underlying26 (by rfl) infoc_D ?_)
    | (go_at_call 8; have K2 : Hid (EnvF (w1.alloc (.cells #[.string f.1, .string f.2] 26)) [fF (some ⟨w1.heap.size, 0, none⟩) 1 [f], fF A n xs, stF] [(w.heap.size + 1, #[.string f.1, .string f.2], 26), (w.heap.size, #[.int .i64 M, .slice A n c], 24)]) := Lib.hid (K1.out.litf 26 [f] #[.string f.1, .string f.2] (by simp [fdc]) 1 rfl (w1.heap.size) (by simp [World.size_alloc])); have B2 : Hid (Below w.heap.size w (w1.alloc (.cells #[.string f.1, .string f.2] 26))) := Lib.hid (B1.out.alloc B1.out.size (.cells #[.string f.1, .string f.2] 26)); clear K1 B1; (have hc := (HGF.out (some ⟨w1.heap.size, 0, none⟩) (w1.alloc (.cells #[.string f.1, .string f.2] 26)) (K2.out.fs (A := (some ⟨w1.heap.size, 0, none⟩)) (n := 1) (xs := [f]) (by simp))); (with_reducible refine hc.mono ?_); clear hc); rintro e w3 ⟨rfl, hb⟩; have K3 : Hid (EnvF w3 [fF (some ⟨w1.heap.size, 0, none⟩) 1 [f], fF A n xs, stF] [(w.heap.size + 1, #[.string f.1, .string f.2], 26), (w.heap.size, #[.int .i64 M, .slice A n c], 24)]) := Lib.hid (K2.out.on hb); have B3 : Hid (Below w.heap.size w w3) := Lib.hid (below_step B2.out hb); clear hb K2 B2; have hl1 := (cells2_row ((K3.out.al (.cells #[] 26)).row 1 rfl)).2)
    | (at_builtin; refine wpList_append_flds _ rfl (.tmp 23) (.tmp 25) 22 rfl (w3.heap.size) 26 i0 Tryd.underlying22 hinf.out.1 hinf.out.2.1 hinf.out.2.2.1 hinf.out.2.2.2 _ [] rfl (OwnF.lit w3 26 _ (Nat.le_refl _) _ rfl) _ A n c xs rfl ((K3.out.fs (A := A) (n := n) (xs := xs) (by simp)).alloc (Nat.le_refl _) (.cells #[] 26)) hN (by simp; omega) (by simp) ?_; intro v4 wq hown4 hb4 hg4 _; rw [List.nil_append] at hown4; obtain ⟨A4, c4, rfl, _⟩ := hown4.form2 (n := n) hn; have hb5 := ((Below.refl (w3.heap.size) w3).alloc (Nat.le_refl _) (.cells #[] 26)).trans hb4; have K4 : Hid (EnvF wq [oF w.heap.size 26 (.slice A4 n c4) xs, fF A4 n xs, fF (some ⟨w1.heap.size, 0, none⟩) 1 [f], fF A n xs, stF] [(w.heap.size + 1, #[.string f.1, .string f.2], 26), (w.heap.size, #[.int .i64 M, .slice A n c], 24)]) := Lib.hid (K3.out.handO hb5 hown4 B3.out.size); have B4 : Hid (Below w.heap.size w wq) := Lib.hid (below_step B3.out hb5); clear hown4 hb4 hg4 hb5 hl1 K3 B3)
    | (refine at_load 24 (.tmp 3) (by rfl) ?_; refine wpList_load_row (by rfl) 24 (.tmp 3) (by rfl) (w.heap.size) (by rfl) 24 #[.int .i64 M, .slice A n c] (0, 0) _ (K4.out.row 1 rfl) Tryd.underlying24 (by rfl) infoc_T ?_)
    | (refine at_load 26 (.tmp 4) (by rfl) ?_; refine wpList_load_row (by rfl) 26 (.tmp 4) (by rfl) (w.heap.size + 1) (by rfl) 26 #[.string f.1, .string f.2] (0, 0) _ (K4.out.row 0 rfl) Tryd.underlying26 (by rfl) infoc_D ?_)
    | (go_at_call 21; (have hc := (HAD.out wq (K4.out.fs (A := A) (n := n) (xs := xs) (by simp))); (with_reducible refine hc.mono ?_); clear hc); rintro e w5 ⟨ga, cua, ca, rfl, ⟨hg, hgB, hSa⟩, hb⟩; have lega := Nat.le_trans B4.out.size hgB; have K5 : Hid (EnvF w5 [oF w.heap.size 26 (.slice A4 n c4) xs, fF A4 n xs, fF (some ⟨w1.heap.size, 0, none⟩) 1 [f], fF A n xs, stF] [(ga, cua, 26), (w.heap.size + 1, #[.string f.1, .string f.2], 26), (w.heap.size, #[.int .i64 M, .slice A n c], 24)]) := Lib.hid (K4.out.handBox hb hg hgB); have B5 : Hid (Below w.heap.size w w5) := Lib.hid (below_step B4.out hb); clear hb hg hgB K4 B4; have lea : w.heap.size ≤ w5.heap.size := (by have := B5.out.size; (try simp only [World.size_alloc] at this); omega); have K6 : Hid (EnvF (w5.alloc (.cells #[.int .i64 0, .slice none 0 0] 24)) [oF w.heap.size 26 (.slice A4 n c4) xs, fF A4 n xs, fF (some ⟨w1.heap.size, 0, none⟩) 1 [f], fF A n xs, stF] [(w5.heap.size, #[.int .i64 0, .slice none 0 0], 24), (ga, cua, 26), (w.heap.size + 1, #[.string f.1, .string f.2], 26), (w.heap.size, #[.int .i64 M, .slice A n c], 24)]) := Lib.hid (K5.out.boxg 24 #[.int .i64 0, .slice none 0 0] (w5.heap.size) (by simp)); have B6 : Hid (Below w.heap.size w (w5.alloc (.cells #[.int .i64 0, .slice none 0 0] 24))) := Lib.hid (B5.out.alloc B5.out.size (.cells #[.int .i64 0, .slice none 0 0] 24)); clear K5 B5)
    | (refine at_store 24 (.tmp 8) (.tmp 31) (by rfl) ?_; refine wpList_put (by rfl) 24 (.tmp 8) (.tmp 31) (by rfl) (w5.heap.size) 0 (.agg #[.int .i64 aM, .slice (some ⟨ga, 0, none⟩) p ca]) (by rfl) (by rfl) 24 #[.int .i64 0, .slice none 0 0] #[.int .i64 aM, .slice (some ⟨ga, 0, none⟩) p ca] (K6.out.row 0 rfl) (by simp [Value.cells]) (by kernel_rfl) infoc_T (by kernel_rfl) ?_; intro w7 hrow hoth hz hbl; have K7 : Hid (EnvF w7 [oF w.heap.size 26 (.slice A4 n c4) xs, fF A4 n xs, fF (some ⟨w1.heap.size, 0, none⟩) 1 [f], fF A n xs, stF] [(w5.heap.size, #[.int .i64 aM, .slice (some ⟨ga, 0, none⟩) p ca], 24), (ga, cua, 26), (w.heap.size + 1, #[.string f.1, .string f.2], 26), (w.heap.size, #[.int .i64 M, .slice A n c], 24)]) := Lib.hid (K6.out.turn 0 rfl hrow hoth hz); have B7 : Hid (Below w.heap.size w w7) := Lib.hid (hbl _ _ lea B6.out); clear hrow hoth hz hbl K6 B6)
    | (refine at_load 24 (.tmp 3) (by rfl) ?_; refine wpList_load_row (by rfl) 24 (.tmp 3) (by rfl) (w.heap.size) (by rfl) 24 #[.int .i64 M, .slice A n c] (0, 0) _ (K7.out.row 3 rfl) Tryd.underlying24 (by rfl) infoc_T ?_)
    | (go_at_call 23; (have hc := (HRS.out w7 (K7.out.fs (A := A) (n := n) (xs := xs) (by simp))); (with_reducible refine hc.mono ?_); clear hc); rintro e w8 ⟨gb, cub, cb, rfl, ⟨hg, hgB, hSb⟩, hb⟩; have legb := Nat.le_trans B7.out.size hgB; have K8 : Hid (EnvF w8 [oF w.heap.size 26 (.slice A4 n c4) xs, fF A4 n xs, fF (some ⟨w1.heap.size, 0, none⟩) 1 [f], fF A n xs, stF] [(gb, cub, 26), (w5.heap.size, #[.int .i64 aM, .slice (some ⟨ga, 0, none⟩) p ca], 24), (ga, cua, 26), (w.heap.size + 1, #[.string f.1, .string f.2], 26), (w.heap.size, #[.int .i64 M, .slice A n c], 24)]) := Lib.hid (K7.out.handBox hb hg hgB); have B8 : Hid (Below w.heap.size w w8) := Lib.hid (below_step B7.out hb); clear hb hg hgB K7 B7; have leb : w.heap.size ≤ w8.heap.size := (by have := B8.out.size; (try simp only [World.size_alloc] at this); omega); have K9 : Hid (EnvF (w8.alloc (.cells #[.int .i64 0, .slice none 0 0] 24)) [oF w.heap.size 26 (.slice A4 n c4) xs, fF A4 n xs, fF (some ⟨w1.heap.size, 0, none⟩) 1 [f], fF A n xs, stF] [(w8.heap.size, #[.int .i64 0, .slice none 0 0], 24), (gb, cub, 26), (w5.heap.size, #[.int .i64 aM, .slice (some ⟨ga, 0, none⟩) p ca], 24), (ga, cua, 26), (w.heap.size + 1, #[.string f.1, .string f.2], 26), (w.heap.size, #[.int .i64 M, .slice A n c], 24)]) := Lib.hid (K8.out.boxg 24 #[.int .i64 0, .slice none 0 0] (w8.heap.size) (by simp)); have B9 : Hid (Below w.heap.size w (w8.alloc (.cells #[.int .i64 0, .slice none 0 0] 24))) := Lib.hid (B8.out.alloc B8.out.size (.cells #[.int .i64 0, .slice none 0 0] 24)); clear K8 B8)
    | (refine at_store 24 (.tmp 10) (.tmp 37) (by rfl) ?_; refine wpList_put (by rfl) 24 (.tmp 10) (.tmp 37) (by rfl) (w8.heap.size) 0 (.agg #[.int .i64 bM, .slice (some ⟨gb, 0, none⟩) q cb]) (by rfl) (by rfl) 24 #[.int .i64 0, .slice none 0 0] #[.int .i64 bM, .slice (some ⟨gb, 0, none⟩) q cb] (K9.out.row 0 rfl) (by simp [Value.cells]) (by kernel_rfl) infoc_T (by kernel_rfl) ?_; intro w10 hrow hoth hz hbl; have K10 : Hid (EnvF w10 [oF w.heap.size 26 (.slice A4 n c4) xs, fF A4 n xs, fF (some ⟨w1.heap.size, 0, none⟩) 1 [f], fF A n xs, stF] [(w8.heap.size, #[.int .i64 bM, .slice (some ⟨gb, 0, none⟩) q cb], 24), (gb, cub, 26), (w5.heap.size, #[.int .i64 aM, .slice (some ⟨ga, 0, none⟩) p ca], 24), (ga, cua, 26), (w.heap.size + 1, #[.string f.1, .string f.2], 26), (w.heap.size, #[.int .i64 M, .slice A n c], 24)]) := Lib.hid (K9.out.turn 0 rfl hrow hoth hz); have B10 : Hid (Below w.heap.size w w10) := Lib.hid (hbl _ _ leb B9.out); clear hrow hoth hz hbl K9 B9))
  go_loopw [12] (fun u wr => ∃ j : Nat, j ≤ p ∧ u = .int .i64 (j : Int) ∧ (∃ cur : Array Value, cur.size = cua.size ∧ EnvF wr [oF w.heap.size 26 (.slice A4 n c4) xs, fF A4 n xs, fF (some ⟨w1.heap.size, 0, none⟩) 1 [f], fF A n xs, stF] [(w8.heap.size, #[.int .i64 bM, .slice (some ⟨gb, 0, none⟩) q cb], 24), (gb, cub, 26), (w5.heap.size, #[.int .i64 aM, .slice (some ⟨ga, 0, none⟩) p ca], 24), (ga, cur, 26), (w.heap.size + 1, #[.string f.1, .string f.2], 26), (w.heap.size, #[.int .i64 M, .slice A n c], 24)]) ∧ Below w.heap.size w wr) (fun u _ => p - (intOf u).toNat)
  case atStart => exact ⟨0, Nat.zero_le _, rfl, ⟨_, rfl, K10.out⟩, B10.out⟩
  case round =>
    obtain ⟨j, hj, rfl, ⟨cur, hcz, hk⟩, hbel⟩ := hrel
    have K70 := Lib.hid hk
    have B70 := Lib.hid hbel
    have r1 := (cells2_row (hk.row 2 rfl)).2
    clear hk hbel K10 B10
    by_cases hlt : j < p
    · have hsz : j * 2 + 1 ≤ cur.size := by omega
      go_wp2_with (first
        | go_skip
        | (refine at_store 9 (.tmp 50) (.const (.string ⟨#[63]⟩)) (by rfl) ?_; refine wpList_put (by rfl) 9 (.tmp 50) (.const (.string ⟨#[63]⟩)) (by rfl) ga (j * 2) (.string ⟨#[63]⟩) (by rfl) (by rfl) 26 cur (cur.setIfInBounds (j * 2) (.string ⟨#[63]⟩)) (K70.out.row 3 rfl) (by simpa [Value.cells] using hsz) rfl infoc_s (by kernel_rfl) ?_; intro w71 hrow hoth hz hbl; have K71 := Lib.hid (K70.out.turn 3 rfl hrow hoth hz); have B71 := Lib.hid (hbl _ _ lega B70.out); clear hrow hoth hz hbl K70 B70 r1))
      go_roundw
      case rel => exact ⟨j + 1, by omega, by go_num, ⟨_, by rw [Array.size_setIfInBounds]; exact hcz, K71.out⟩, B71.out⟩
      case measure => simp [intOf]; omega
    · obtain rfl : p = j := by omega
      go_wp2
      have K80 := K70
      have B80 := B70
      clear K70 B70 r1
      obtain ⟨cura, hcura⟩ : ∃ cura, cura = cur := ⟨cur, rfl⟩
      subst hcura
      obtain ⟨ws, hws⟩ : ∃ ws : World, ws = wr := ⟨_, rfl⟩
      subst hws
      go_loopw [13] (fun u wr => ∃ j : Nat, j ≤ q ∧ u = .int .i64 (j : Int) ∧ (∃ cur : Array Value, cur.size = cub.size ∧ EnvF wr [oF w.heap.size 26 (.slice A4 n c4) xs, fF A4 n xs, fF (some ⟨w1.heap.size, 0, none⟩) 1 [f], fF A n xs, stF] [(w8.heap.size, #[.int .i64 bM, .slice (some ⟨gb, 0, none⟩) q cb], 24), (gb, cur, 26), (w5.heap.size, #[.int .i64 aM, .slice (some ⟨ga, 0, none⟩) p ca], 24), (ga, cura, 26), (w.heap.size + 1, #[.string f.1, .string f.2], 26), (w.heap.size, #[.int .i64 M, .slice A n c], 24)]) ∧ Below w.heap.size w wr) (fun u _ => q - (intOf u).toNat)
      case atStart => exact ⟨0, Nat.zero_le _, rfl, ⟨_, rfl, K80.out⟩, B80.out⟩
      case round =>
        obtain ⟨j, hj, rfl, ⟨cur, hcz, hk⟩, hbel⟩ := hrel
        have K70 := Lib.hid hk
        have B70 := Lib.hid hbel
        have r1 := (cells2_row (hk.row 0 rfl)).2
        clear hk hbel K80 B80
        by_cases hlt : j < q
        · have hsz : j * 2 + 1 ≤ cur.size := by omega
          go_wp2_with (first
            | go_skip
            | (refine at_store 9 (.tmp 62) (.const (.string ⟨#[63]⟩)) (by rfl) ?_; refine wpList_put (by rfl) 9 (.tmp 62) (.const (.string ⟨#[63]⟩)) (by rfl) gb (j * 2) (.string ⟨#[63]⟩) (by rfl) (by rfl) 26 cur (cur.setIfInBounds (j * 2) (.string ⟨#[63]⟩)) (K70.out.row 1 rfl) (by simpa [Value.cells] using hsz) rfl infoc_s (by kernel_rfl) ?_; intro w71 hrow hoth hz hbl; have K71 := Lib.hid (K70.out.turn 1 rfl hrow hoth hz); have B71 := Lib.hid (hbl _ _ legb B70.out); clear hrow hoth hz hbl K70 B70 r1))
          go_roundw
          case rel => exact ⟨j + 1, by omega, by go_num, ⟨_, by rw [Array.size_setIfInBounds]; exact hcz, K71.out⟩, B71.out⟩
          case measure => simp [intOf]; omega
        · obtain rfl : q = j := by omega
          skip
          have K90 := K70
          have B90 := B70
          clear K70 B70
          go_wp2_with (first
            | go_skip
            | (refine at_load 22 (.tmp 63) (by rfl) ?_; refine wpList_get (by rfl) 22 (.tmp 63) (by rfl) (w.heap.size) 1 (by rfl) 24 #[.int .i64 M, .slice A n c] (.slice A n c) _ (K90.out.row 5 rfl) (by rfl) Tryd.underlying22 (by rfl) ?_)
            | (go_at_call 30; (have hc := ((decide_eq_true (rfl : xs = xs)) ▸ r_fields A A4 n n c c4 xs xs wr (K90.out.fs (A := A) (n := n) (xs := xs) (by simp)) (K90.out.fs (A := A4) (n := n) (xs := xs) (by simp)) (by omega)); (with_reducible refine hc.mono ?_); clear hc); rintro e w91 ⟨rfl, hb⟩; have K91 : Hid (EnvF w91 [oF w.heap.size 26 (.slice A4 n c4) xs, fF A4 n xs, fF (some ⟨w1.heap.size, 0, none⟩) 1 [f], fF A n xs, stF] [(w8.heap.size, #[.int .i64 bM, .slice (some ⟨gb, 0, none⟩) q cb], 24), (gb, cur, 26), (w5.heap.size, #[.int .i64 aM, .slice (some ⟨ga, 0, none⟩) p ca], 24), (ga, cura, 26), (w.heap.size + 1, #[.string f.1, .string f.2], 26), (w.heap.size, #[.int .i64 M, .slice A n c], 24)]) := Lib.hid (K90.out.on hb); have B91 : Hid (Below w.heap.size w w91) := Lib.hid (below_step B90.out hb); clear hb K90 B90)
            | (go_at_call 9; (have hc := (wakes9 w91 (Tb.EnvF.stv K91.out (by simp))); (with_reducible refine hc.mono ?_); clear hc); rintro e w92 ⟨rfl, hb⟩; have K92 : Hid (EnvF w92 [oF w.heap.size 26 (.slice A4 n c4) xs, fF A4 n xs, fF (some ⟨w1.heap.size, 0, none⟩) 1 [f], fF A n xs, stF] [(w8.heap.size, #[.int .i64 bM, .slice (some ⟨gb, 0, none⟩) q cb], 24), (gb, cur, 26), (w5.heap.size, #[.int .i64 aM, .slice (some ⟨ga, 0, none⟩) p ca], 24), (ga, cura, 26), (w.heap.size + 1, #[.string f.1, .string f.2], 26), (w.heap.size, #[.int .i64 M, .slice A n c], 24)]) := Lib.hid (K91.out.on hb); have B92 : Hid (Below w.heap.size w w92) := Lib.hid (below_step B91.out hb); clear hb K91 B91))
          go_ret
          exact ⟨rfl, B92.out⟩
theorem lo_all (M : Int) (A : Option Addr) (n c : Nat) (f : Fd) (m : Int) (w : World) (hR : Stv w) (hI : IsFlds w A n c) (h1 : f.1.size ≤ 140737488355328) (h2 : f.2.size ≤ 140737488355328) :
    Calls Tryd.prog 7 #[.agg #[.int .i64 M, .slice A n c], .agg #[.string f.1, .string f.2], .int .i64 m] w fun e w' => e = .returned (.bool true) ∧ Below w.heap.size w w' := by
  obtain ⟨xs, hA, hS, hnc, hcm, hN⟩ := rowFlds hI
  have HG := Lib.hid fun (w0 : World) (h : Fs w0 w0.heap.size A n xs) => r_great A n c xs w0 h hnc hcm hS
  have HGF := Lib.hid fun (A0 : Option Addr) (w0 : World) (h : Fs w0 w0.heap.size A0 1 [f]) => r_great A0 1 1 [f] w0 h (Nat.le_refl _) (by unfold maxLen; omega) (fun x hx => by rw [List.mem_singleton.1 hx]; exact ⟨h1, h2⟩)
  cases hg : greatB xs with
  | true => rw [hg] at HG; exact lo_G1 M A n c xs f m w hR hA hN HG
  | false =>
    rw [hg] at HG
    cases hgf : greatB [f] with
    | true => rw [hgf] at HGF; exact lo_G2 M A n c xs f m w hR hA hN HG HGF
    | false =>
      rw [hgf] at HGF
      obtain ⟨hl, hF⟩ := great_no hg
      have hl2 := hA.1
      obtain ⟨_, h3⟩ := great_no hgf
      simp only [full] at h3
      have hadd : ∀ w0 : World, Fs w0 w0.heap.size A n xs → Calls Tryd.prog 21 #[.agg #[.int .i64 M, .slice A n c], .agg #[.string f.1, .string f.2]] w0 fun e w' => ∃ v, e = .returned (.tuple #[.agg #[.int .i64 (addM M xs), v], .int .i64 (addE M xs)]) ∧ OwnF w' w0.heap.size 26 v (addL M xs f) ∧ Below w0.heap.size w0 w' := fun w0 h => t_add M A n c xs f w0 h hN (by omega) (by omega)
      have hres : ∀ w0 : World, Fs w0 w0.heap.size A n xs → Calls Tryd.prog 23 #[.agg #[.int .i64 M, .slice A n c], .int .i64 m] w0 fun e w' => ∃ v, e = .returned (.tuple #[.agg #[.int .i64 (resM M xs m), v], .int .i64 (resE M xs m)]) ∧ OwnF w' w0.heap.size 26 v (resL M xs m) ∧ Below w0.heap.size w0 w' := fun w0 h => t_resize M A n c xs m w0 h hN (by omega)
      have hap : (addL M xs f).length ≤ 1000 := by
        unfold addL
        split
        · rw [keep_len]; have := fit_le M (f :: xs); rw [List.length_cons] at this; omega
        · simp
      have hrp : (resL M xs m).length ≤ 1000 := by
        unfold resL
        split
        · rw [keep_len]; have := fit_le m xs; omega
        · simp
      generalize addM M xs = aM at hadd
      generalize addE M xs = aE at hadd
      generalize resM M xs m = bM at hres
      generalize resE M xs m = bE at hres
      generalize addL M xs f = la at hadd hap
      generalize resL M xs m = lb at hres hrp
      have A1 : la.length ≠ 0 → ∀ w0 : World, Fs w0 w0.heap.size A n xs → Calls Tryd.prog 21 #[.agg #[.int .i64 M, .slice A n c], .agg #[.string f.1, .string f.2]] w0 fun e w' => ∃ g cur c0, e = .returned (.tuple #[.agg #[.int .i64 aM, .slice (some ⟨g, 0, none⟩) la.length c0], .int .i64 aE]) ∧ (w'.heap[g]? = some (.cells cur 26) ∧ w0.heap.size ≤ g ∧ la.length * 2 ≤ cur.size) ∧ Below w0.heap.size w0 w' := fun hne w0 h => by
        refine (hadd w0 h).mono ?_
        rintro e w' ⟨v, rfl, ho, hb⟩
        obtain ⟨A0, c0, rfl, _⟩ := ho.form2 (n := la.length) rfl
        obtain ⟨g, cur, rfl, k1, k2, k3⟩ := ho.block1 hne
        exact ⟨g, cur, c0, rfl, ⟨k1, k2, k3⟩, hb⟩
      have A0 : la.length = 0 → ∀ w0 : World, Fs w0 w0.heap.size A n xs → Calls Tryd.prog 21 #[.agg #[.int .i64 M, .slice A n c], .agg #[.string f.1, .string f.2]] w0 fun e w' => ∃ A0 c0, e = .returned (.tuple #[.agg #[.int .i64 aM, .slice A0 0 c0], .int .i64 aE]) ∧ Below w0.heap.size w0 w' := fun h0 w0 h => by
        refine (hadd w0 h).mono ?_
        rintro e w' ⟨v, rfl, ho, hb⟩
        obtain ⟨A0, c0, rfl, _⟩ := ho.form2 (n := 0) h0
        exact ⟨A0, c0, rfl, hb⟩
      have B1 : lb.length ≠ 0 → ∀ w0 : World, Fs w0 w0.heap.size A n xs → Calls Tryd.prog 23 #[.agg #[.int .i64 M, .slice A n c], .int .i64 m] w0 fun e w' => ∃ g cur c0, e = .returned (.tuple #[.agg #[.int .i64 bM, .slice (some ⟨g, 0, none⟩) lb.length c0], .int .i64 bE]) ∧ (w'.heap[g]? = some (.cells cur 26) ∧ w0.heap.size ≤ g ∧ lb.length * 2 ≤ cur.size) ∧ Below w0.heap.size w0 w' := fun hne w0 h => by
        refine (hres w0 h).mono ?_
        rintro e w' ⟨v, rfl, ho, hb⟩
        obtain ⟨A0, c0, rfl, _⟩ := ho.form2 (n := lb.length) rfl
        obtain ⟨g, cur, rfl, k1, k2, k3⟩ := ho.block1 hne
        exact ⟨g, cur, c0, rfl, ⟨k1, k2, k3⟩, hb⟩
      have B0 : lb.length = 0 → ∀ w0 : World, Fs w0 w0.heap.size A n xs → Calls Tryd.prog 23 #[.agg #[.int .i64 M, .slice A n c], .int .i64 m] w0 fun e w' => ∃ A0 c0, e = .returned (.tuple #[.agg #[.int .i64 bM, .slice A0 0 c0], .int .i64 bE]) ∧ Below w0.heap.size w0 w' := fun h0 w0 h => by
        refine (hres w0 h).mono ?_
        rintro e w' ⟨v, rfl, ho, hb⟩
        obtain ⟨A0, c0, rfl, _⟩ := ho.form2 (n := 0) h0
        exact ⟨A0, c0, rfl, hb⟩
      by_cases ha : la.length = 0 <;> by_cases hb : lb.length = 0
      · exact lo_00 M A n c xs f m w hR hA hN (by omega) HG HGF _ _ _ _ (Lib.hid (A0 ha)) (Lib.hid (B0 hb))
      · exact lo_01 M A n c xs f m w hR hA hN (by omega) HG HGF _ _ _ _ _ hrp (Lib.hid (A0 ha)) (Lib.hid (B1 hb))
      · exact lo_10 M A n c xs f m w hR hA hN (by omega) HG HGF _ _ _ _ _ hap (Lib.hid (A1 ha)) (Lib.hid (B0 hb))
      · exact lo_11 M A n c xs f m w hR hA hN (by omega) HG HGF _ _ _ _ _ hap _ hrp (Lib.hid (A1 ha)) (Lib.hid (B1 hb))
end Go.Proofs.YtgplkjifgagjpaaDoor
