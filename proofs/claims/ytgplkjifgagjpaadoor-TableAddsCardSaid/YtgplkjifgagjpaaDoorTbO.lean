/- The document's Find. -/
import Derived.Test.YtgplkjifgagjpaaDoorTbN
namespace Go.Proofs.YtgplkjifgagjpaaDoor
open Go.RowKit Tb
set_option linter.unusedVariables false
set_option linter.unusedSimpArgs false
theorem Tb.ixOf_append (p : Fd → Bool) (a b : List Fd) : ixOf p (a ++ b) = if ixOf p a = 0 then (if ixOf p b = 0 then 0 else a.length + ixOf p b) else ixOf p a := by
  unfold ixOf
  rw [List.findIdx?_append]
  cases h : a.findIdx? p with
  | some i => simp
  | none =>
    cases h' : b.findIdx? p with
    | some k => simp; omega
    | none => simp
theorem Tb.ixOf_hit {p : Fd → Bool} {l : List Fd} {j : Nat} {x : Fd} (h0 : ixOf p (l.take j) = 0) (hx : l[j]? = some x) (hp : p x = true) : ixOf p l = j + 1 := by
  have hl := (List.getElem?_eq_some_iff.1 hx).1
  have h1 : ixOf p (l.take (j + 1)) = j + 1 := by
    rw [← take_snoc hx, ixOf_snoc, if_pos h0, if_pos hp, List.length_take, Nat.min_eq_left (by omega)]
  have h2 := ixOf_append p (l.take (j + 1)) (l.drop (j + 1))
  rw [List.take_append_drop, h1] at h2
  simpa using h2
theorem Tb.ixOf_miss {p : Fd → Bool} {l : List Fd} {j : Nat} {x : Fd} (hx : l[j]? = some x) (hp : p x = false) : ixOf p (l.take (j + 1)) = ixOf p (l.take j) := by
  rw [← take_snoc hx, ixOf_snoc, hp]
  by_cases h : ixOf p (l.take j) = 0
  · rw [if_pos h, h]; rfl
  · rw [if_neg h]
theorem Tb.ixOf_first {p : Fd → Bool} {l : List Fd} {j : Nat} {x : Fd} (h0 : ixOf p (l.take j) = 0) (hx : l[j]? = some x) (hp : p x = true) : ixOf p (l.take (j + 1)) = j + 1 := by
  have hl := (List.getElem?_eq_some_iff.1 hx).1
  rw [← take_snoc hx, ixOf_snoc, if_pos h0, if_pos hp, List.length_take, Nat.min_eq_left (by omega)]
theorem Tb.ixOf_keep {p : Fd → Bool} {l : List Fd} {j : Nat} {x : Fd} (h0 : ixOf p (l.take j) ≠ 0) (hx : l[j]? = some x) : ixOf p (l.take (j + 1)) = ixOf p (l.take j) := by
  rw [← take_snoc hx, ixOf_snoc, if_neg h0]
theorem Tb.find_hit {xs : List Fd} {f : Fd} {j : Nat} (h0 : ixOf (isF f) ((stat ++ xs).take j) = 0) (hx : (stat ++ xs)[j]? = some f) : findI xs f = j + 1 ∧ findB xs f = true := by
  have h := ixOf_hit h0 hx (decide_eq_true rfl)
  unfold findI findB
  rw [h, if_neg (by omega)]
  exact ⟨rfl, by simp⟩
theorem Tb.find_none {xs : List Fd} {f : Fd} (h0 : ixOf (isF f) (stat ++ xs) = 0) : findI xs f = ixOf (isN f) (stat ++ xs) ∧ findB xs f = false := by
  unfold findI findB
  rw [if_pos h0, h0]
  exact ⟨rfl, by simp⟩
theorem Tb.atO_L (xs : List Fd) (j : Nat) : atO xs ((j : Int) + 1) = (stat ++ xs)[j]? := by
  unfold atO
  rw [if_pos (by omega), show ((j : Int) + 1 - 1).toNat = j by omega]
theorem Tb.ret2 {a : Int} {b : Bool} {a' : Int} {b' : Bool} (h : a = a') (k : b = b') : Ending.returned (.tuple #[.int .i64 a, .bool b]) = .returned (.tuple #[.int .i64 a', .bool b']) := by rw [h, k]
set_option maxRecDepth 100000 in
set_option maxHeartbeats 4000000 in
theorem r_find (M : Int) (A : Option Addr) (n c : Nat) (xs : List Fd) (f : Fd) (w : World) (hA : Fs w w.heap.size A n xs) (hnm : n ≤ 1000000) :
    Calls Tryd.prog 28 #[.agg #[.int .i64 M, .slice A n c], .agg #[.string f.1, .string f.2]] w fun e w' => e = .returned (.tuple #[.int .i64 (findI xs f : Int), .bool (findB xs f)]) ∧ Below w.heap.size w w' := by
  have hn := hA.1
  have hL : (stat ++ xs).length = 20 + n := by rw [List.length_append, stat_len, hn]
  have K0 : Hid (EnvF ((w.alloc (.cells #[.int .i64 M, .slice A n c] 24)).alloc (.cells #[.string f.1, .string f.2] 26)) [fF A n xs] [(w.heap.size + 1, #[.string f.1, .string f.2], 26), (w.heap.size, #[.int .i64 M, .slice A n c], 24)]) := Lib.hid ((((EnvF.nil w).addF hA).boxg 24 #[.int .i64 M, .slice A n c] (w.heap.size) (by simp)).boxg 26 #[.string f.1, .string f.2] (w.heap.size + 1) (by simp))
  have B0 : Hid (Below w.heap.size w ((w.alloc (.cells #[.int .i64 M, .slice A n c] 24)).alloc (.cells #[.string f.1, .string f.2] 26))) := Lib.hid (((Below.refl _ w).alloc (Nat.le_refl _) (.cells #[.int .i64 M, .slice A n c] 24)).alloc (by simp) (.cells #[.string f.1, .string f.2] 26))
  clear hA
  go_enter Tryd.func28, Tryd.ntmps28
  go_wp2
  go_loopw [6, 7] (fun t u wr => ∃ j : Nat, j ≤ 20 + n ∧ t = .int .i64 (ixOf (isN f) ((stat ++ xs).take j) : Int) ∧ u = .int .i64 ((j : Int) + 1) ∧ ixOf (isF f) ((stat ++ xs).take j) = 0 ∧ EnvF wr [fF A n xs] [(w.heap.size + 1, #[.string f.1, .string f.2], 26), (w.heap.size, #[.int .i64 M, .slice A n c], 24)] ∧ Below w.heap.size w wr) (fun _ u _ => 21 + n - (intOf u).toNat)
  case atStart => exact ⟨0, Nat.zero_le _, rfl, rfl, rfl, K0.out, B0.out⟩
  case round =>
    obtain ⟨j, hj, rfl, rfl, hz, hk, hbel⟩ := hrel
    have K1 := Lib.hid hk
    have B1 := Lib.hid hbel
    have HZ := Lib.hid hz
    have r1 := (cells2_row (hk.row 1 rfl)).2
    have hle := ixOf_le (isN f) ((stat ++ xs).take j)
    rw [List.length_take] at hle
    clear hk hbel hz K0 B0
    by_cases hlt : j < 20 + n
    · obtain ⟨x, hx⟩ : ∃ x, (stat ++ xs)[j]? = some x := ⟨_, List.getElem?_eq_getElem (by omega)⟩
      have hs : ∀ w0, Fs w0 w0.heap.size A n xs → Calls Tryd.prog 26 #[.agg #[.int .i64 M, .slice A n c], .int .i64 ((j : Int) + 1)] w0 fun e w' => e = .returned (.tuple #[.agg #[.string x.1, .string x.2], .int .i64 0]) ∧ Below w0.heap.size w0 w' := fun w0 h0 => by
        have h := r_at M A n c xs ((j : Int) + 1) w0 h0 hnm (by simp [Lit.wf, IntKind.min, IntKind.max, IntKind.signed, IntKind.bits]; omega)
        unfold atV atE at h
        rw [atO_L, hx] at h
        exact h
      rcases fd_ways x f with rfl | ⟨hxy, n1⟩ | ⟨hxy, n1, n2⟩
      · have HF := Lib.hid (find_hit HZ.out hx)
        clear hx hle
        go_wp2_with (first
          | go_skip
          | (refine at_load 24 (.tmp 2) (by rfl) ?_; refine wpList_load_row (by rfl) 24 (.tmp 2) (by rfl) (w.heap.size) (by rfl) 24 #[.int .i64 M, .slice A n c] (0, 0) _ (K1.out.row 1 rfl) Tryd.underlying24 (by rfl) infoc_T ?_)
          | (go_at_call 26; (have hc := (hs wr (K1.out.fs (A := A) (n := n) (xs := xs) (by simp))); (with_reducible refine hc.mono ?_); clear hc); rintro e w2 ⟨rfl, hb⟩; have K2 : Hid (EnvF w2 [fF A n xs] [(w.heap.size + 1, #[.string x.1, .string x.2], 26), (w.heap.size, #[.int .i64 M, .slice A n c], 24)]) := Lib.hid (K1.out.on hb); have B2 : Hid (Below w.heap.size w w2) := Lib.hid (below_step B1.out hb); clear hb K1 B1; have ley : w.heap.size ≤ w2.heap.size := (by have := B2.out.size; (try simp only [World.size_alloc] at this); omega); have K3 : Hid (EnvF (w2.alloc (.cells #[.string ⟨#[]⟩, .string ⟨#[]⟩] 26)) [fF A n xs] [(w2.heap.size, #[.string ⟨#[]⟩, .string ⟨#[]⟩], 26), (w.heap.size + 1, #[.string x.1, .string x.2], 26), (w.heap.size, #[.int .i64 M, .slice A n c], 24)]) := Lib.hid (K2.out.boxg 26 #[.string ⟨#[]⟩, .string ⟨#[]⟩] (w2.heap.size) (by simp)); have B3 : Hid (Below w.heap.size w (w2.alloc (.cells #[.string ⟨#[]⟩, .string ⟨#[]⟩] 26))) := Lib.hid (B2.out.alloc B2.out.size (.cells #[.string ⟨#[]⟩, .string ⟨#[]⟩] 26)); clear K2 B2)
          | (refine at_store 26 (.tmp 8) (.tmp 22) (by rfl) ?_; refine wpList_put (by rfl) 26 (.tmp 8) (.tmp 22) (by rfl) (w2.heap.size) 0 (.agg #[.string x.1, .string x.2]) (by rfl) (by rfl) 26 #[.string ⟨#[]⟩, .string ⟨#[]⟩] #[.string x.1, .string x.2] (K3.out.row 0 rfl) (by simp [Value.cells]) (by kernel_rfl) infoc_D (by kernel_rfl) ?_; intro w4 hrow hoth hz hbl; have K4 : Hid (EnvF w4 [fF A n xs] [(w2.heap.size, #[.string x.1, .string x.2], 26), (w.heap.size + 1, #[.string x.1, .string x.2], 26), (w.heap.size, #[.int .i64 M, .slice A n c], 24)]) := Lib.hid (K3.out.turn 0 rfl hrow hoth hz); have B4 : Hid (Below w.heap.size w w4) := Lib.hid (hbl _ _ ley B3.out); clear hrow hoth hz hbl K3 B3)
          | (refine at_load 26 (.tmp 8) (by rfl) ?_; refine wpList_load_row (by rfl) 26 (.tmp 8) (by rfl) (w2.heap.size) (by rfl) 26 #[.string x.1, .string x.2] (0, 0) _ (K4.out.row 0 rfl) Tryd.underlying26 (by rfl) infoc_D ?_)
          | (refine at_load 26 (.tmp 3) (by rfl) ?_; refine wpList_load_row (by rfl) 26 (.tmp 3) (by rfl) (w.heap.size + 1) (by rfl) 26 #[.string x.1, .string x.2] (0, 0) _ (K4.out.row 1 rfl) Tryd.underlying26 (by rfl) infoc_D ?_))
        go_ret2
        exact ⟨ret2 (by rw [HF.out.1]; go_num) HF.out.2.symm, B4.out⟩
      · have HZ2 := Lib.hid ((ixOf_miss hx (decide_eq_false hxy)).trans HZ.out)
        have HN := Lib.hid (ixOf_miss (p := isN f) hx (decide_eq_false fun h => n1 (by rw [h])))
        clear hx hle hxy
        go_wp2_with (first
          | go_skip
          | (refine at_load 24 (.tmp 2) (by rfl) ?_; refine wpList_load_row (by rfl) 24 (.tmp 2) (by rfl) (w.heap.size) (by rfl) 24 #[.int .i64 M, .slice A n c] (0, 0) _ (K1.out.row 1 rfl) Tryd.underlying24 (by rfl) infoc_T ?_)
          | (go_at_call 26; (have hc := (hs wr (K1.out.fs (A := A) (n := n) (xs := xs) (by simp))); (with_reducible refine hc.mono ?_); clear hc); rintro e w2 ⟨rfl, hb⟩; have K2 : Hid (EnvF w2 [fF A n xs] [(w.heap.size + 1, #[.string f.1, .string f.2], 26), (w.heap.size, #[.int .i64 M, .slice A n c], 24)]) := Lib.hid (K1.out.on hb); have B2 : Hid (Below w.heap.size w w2) := Lib.hid (below_step B1.out hb); clear hb K1 B1; have ley : w.heap.size ≤ w2.heap.size := (by have := B2.out.size; (try simp only [World.size_alloc] at this); omega); have K3 : Hid (EnvF (w2.alloc (.cells #[.string ⟨#[]⟩, .string ⟨#[]⟩] 26)) [fF A n xs] [(w2.heap.size, #[.string ⟨#[]⟩, .string ⟨#[]⟩], 26), (w.heap.size + 1, #[.string f.1, .string f.2], 26), (w.heap.size, #[.int .i64 M, .slice A n c], 24)]) := Lib.hid (K2.out.boxg 26 #[.string ⟨#[]⟩, .string ⟨#[]⟩] (w2.heap.size) (by simp)); have B3 : Hid (Below w.heap.size w (w2.alloc (.cells #[.string ⟨#[]⟩, .string ⟨#[]⟩] 26))) := Lib.hid (B2.out.alloc B2.out.size (.cells #[.string ⟨#[]⟩, .string ⟨#[]⟩] 26)); clear K2 B2)
          | (refine at_store 26 (.tmp 8) (.tmp 22) (by rfl) ?_; refine wpList_put (by rfl) 26 (.tmp 8) (.tmp 22) (by rfl) (w2.heap.size) 0 (.agg #[.string x.1, .string x.2]) (by rfl) (by rfl) 26 #[.string ⟨#[]⟩, .string ⟨#[]⟩] #[.string x.1, .string x.2] (K3.out.row 0 rfl) (by simp [Value.cells]) (by kernel_rfl) infoc_D (by kernel_rfl) ?_; intro w4 hrow hoth hz hbl; have K4 : Hid (EnvF w4 [fF A n xs] [(w2.heap.size, #[.string x.1, .string x.2], 26), (w.heap.size + 1, #[.string f.1, .string f.2], 26), (w.heap.size, #[.int .i64 M, .slice A n c], 24)]) := Lib.hid (K3.out.turn 0 rfl hrow hoth hz); have B4 : Hid (Below w.heap.size w w4) := Lib.hid (hbl _ _ ley B3.out); clear hrow hoth hz hbl K3 B3)
          | (refine at_load 26 (.tmp 8) (by rfl) ?_; refine wpList_load_row (by rfl) 26 (.tmp 8) (by rfl) (w2.heap.size) (by rfl) 26 #[.string x.1, .string x.2] (0, 0) _ (K4.out.row 0 rfl) Tryd.underlying26 (by rfl) infoc_D ?_)
          | (refine at_load 26 (.tmp 3) (by rfl) ?_; refine wpList_load_row (by rfl) 26 (.tmp 3) (by rfl) (w.heap.size + 1) (by rfl) 26 #[.string f.1, .string f.2] (0, 0) _ (K4.out.row 1 rfl) Tryd.underlying26 (by rfl) infoc_D ?_)
          | (refine at_load 9 (.tmp 28) (by rfl) ?_; refine wpList_get (by rfl) 9 (.tmp 28) (by rfl) (w2.heap.size) 0 (by rfl) 26 #[.string x.1, .string x.2] (.string x.1) _ (K4.out.row 0 rfl) (by rfl) Tryd.underlying9 (by rfl) ?_)
          | (refine at_load 9 (.tmp 30) (by rfl) ?_; refine wpList_get (by rfl) 9 (.tmp 30) (by rfl) (w.heap.size + 1) 0 (by rfl) 26 #[.string f.1, .string f.2] (.string f.1) _ (K4.out.row 1 rfl) (by rfl) Tryd.underlying9 (by rfl) ?_))
        go_roundw
        case rel => exact ⟨j + 1, by omega, by rw [HN.out], by go_num, HZ2.out, K4.out.sub (by simp) (by simp), B4.out⟩
        case measure => simp [intOf]; omega
      · obtain ⟨xa, xb⟩ := x
        simp only at n1 n2 hs
        subst n1
        have HZ2 := Lib.hid ((ixOf_miss hx (decide_eq_false hxy)).trans HZ.out)
        by_cases hm : ixOf (isN f) ((stat ++ xs).take j) = 0
        · have HN := Lib.hid (ixOf_first (p := isN f) hm hx (decide_eq_true rfl))
          rw [hm]
          clear hx hle hxy
          go_wp2_with (first
            | go_skip
            | (refine at_load 24 (.tmp 2) (by rfl) ?_; refine wpList_load_row (by rfl) 24 (.tmp 2) (by rfl) (w.heap.size) (by rfl) 24 #[.int .i64 M, .slice A n c] (0, 0) _ (K1.out.row 1 rfl) Tryd.underlying24 (by rfl) infoc_T ?_)
            | (go_at_call 26; (have hc := (hs wr (K1.out.fs (A := A) (n := n) (xs := xs) (by simp))); (with_reducible refine hc.mono ?_); clear hc); rintro e w2 ⟨rfl, hb⟩; have K2 : Hid (EnvF w2 [fF A n xs] [(w.heap.size + 1, #[.string f.1, .string f.2], 26), (w.heap.size, #[.int .i64 M, .slice A n c], 24)]) := Lib.hid (K1.out.on hb); have B2 : Hid (Below w.heap.size w w2) := Lib.hid (below_step B1.out hb); clear hb K1 B1; have ley : w.heap.size ≤ w2.heap.size := (by have := B2.out.size; (try simp only [World.size_alloc] at this); omega); have K3 : Hid (EnvF (w2.alloc (.cells #[.string ⟨#[]⟩, .string ⟨#[]⟩] 26)) [fF A n xs] [(w2.heap.size, #[.string ⟨#[]⟩, .string ⟨#[]⟩], 26), (w.heap.size + 1, #[.string f.1, .string f.2], 26), (w.heap.size, #[.int .i64 M, .slice A n c], 24)]) := Lib.hid (K2.out.boxg 26 #[.string ⟨#[]⟩, .string ⟨#[]⟩] (w2.heap.size) (by simp)); have B3 : Hid (Below w.heap.size w (w2.alloc (.cells #[.string ⟨#[]⟩, .string ⟨#[]⟩] 26))) := Lib.hid (B2.out.alloc B2.out.size (.cells #[.string ⟨#[]⟩, .string ⟨#[]⟩] 26)); clear K2 B2)
            | (refine at_store 26 (.tmp 8) (.tmp 22) (by rfl) ?_; refine wpList_put (by rfl) 26 (.tmp 8) (.tmp 22) (by rfl) (w2.heap.size) 0 (.agg #[.string f.1, .string xb]) (by rfl) (by rfl) 26 #[.string ⟨#[]⟩, .string ⟨#[]⟩] #[.string f.1, .string xb] (K3.out.row 0 rfl) (by simp [Value.cells]) (by kernel_rfl) infoc_D (by kernel_rfl) ?_; intro w4 hrow hoth hz hbl; have K4 : Hid (EnvF w4 [fF A n xs] [(w2.heap.size, #[.string f.1, .string xb], 26), (w.heap.size + 1, #[.string f.1, .string f.2], 26), (w.heap.size, #[.int .i64 M, .slice A n c], 24)]) := Lib.hid (K3.out.turn 0 rfl hrow hoth hz); have B4 : Hid (Below w.heap.size w w4) := Lib.hid (hbl _ _ ley B3.out); clear hrow hoth hz hbl K3 B3)
            | (refine at_load 26 (.tmp 8) (by rfl) ?_; refine wpList_load_row (by rfl) 26 (.tmp 8) (by rfl) (w2.heap.size) (by rfl) 26 #[.string f.1, .string xb] (0, 0) _ (K4.out.row 0 rfl) Tryd.underlying26 (by rfl) infoc_D ?_)
            | (refine at_load 26 (.tmp 3) (by rfl) ?_; refine wpList_load_row (by rfl) 26 (.tmp 3) (by rfl) (w.heap.size + 1) (by rfl) 26 #[.string f.1, .string f.2] (0, 0) _ (K4.out.row 1 rfl) Tryd.underlying26 (by rfl) infoc_D ?_)
            | (refine at_load 9 (.tmp 28) (by rfl) ?_; refine wpList_get (by rfl) 9 (.tmp 28) (by rfl) (w2.heap.size) 0 (by rfl) 26 #[.string f.1, .string xb] (.string f.1) _ (K4.out.row 0 rfl) (by rfl) Tryd.underlying9 (by rfl) ?_)
            | (refine at_load 9 (.tmp 30) (by rfl) ?_; refine wpList_get (by rfl) 9 (.tmp 30) (by rfl) (w.heap.size + 1) 0 (by rfl) 26 #[.string f.1, .string f.2] (.string f.1) _ (K4.out.row 1 rfl) (by rfl) Tryd.underlying9 (by rfl) ?_))
          go_roundw
          case rel => exact ⟨j + 1, by omega, by rw [HN.out]; go_num, by go_num, HZ2.out, K4.out.sub (by simp) (by simp), B4.out⟩
          case measure => simp [intOf]; omega
        · have HN := Lib.hid (ixOf_keep (p := isN f) hm hx)
          have hm2 : ((ixOf (isN f) ((stat ++ xs).take j) : Int) == 0) = false := by simp; omega
          clear hx hxy
          go_wp2_with (first
            | go_skip
            | (refine at_load 24 (.tmp 2) (by rfl) ?_; refine wpList_load_row (by rfl) 24 (.tmp 2) (by rfl) (w.heap.size) (by rfl) 24 #[.int .i64 M, .slice A n c] (0, 0) _ (K1.out.row 1 rfl) Tryd.underlying24 (by rfl) infoc_T ?_)
            | (go_at_call 26; (have hc := (hs wr (K1.out.fs (A := A) (n := n) (xs := xs) (by simp))); (with_reducible refine hc.mono ?_); clear hc); rintro e w2 ⟨rfl, hb⟩; have K2 : Hid (EnvF w2 [fF A n xs] [(w.heap.size + 1, #[.string f.1, .string f.2], 26), (w.heap.size, #[.int .i64 M, .slice A n c], 24)]) := Lib.hid (K1.out.on hb); have B2 : Hid (Below w.heap.size w w2) := Lib.hid (below_step B1.out hb); clear hb K1 B1; have ley : w.heap.size ≤ w2.heap.size := (by have := B2.out.size; (try simp only [World.size_alloc] at this); omega); have K3 : Hid (EnvF (w2.alloc (.cells #[.string ⟨#[]⟩, .string ⟨#[]⟩] 26)) [fF A n xs] [(w2.heap.size, #[.string ⟨#[]⟩, .string ⟨#[]⟩], 26), (w.heap.size + 1, #[.string f.1, .string f.2], 26), (w.heap.size, #[.int .i64 M, .slice A n c], 24)]) := Lib.hid (K2.out.boxg 26 #[.string ⟨#[]⟩, .string ⟨#[]⟩] (w2.heap.size) (by simp)); have B3 : Hid (Below w.heap.size w (w2.alloc (.cells #[.string ⟨#[]⟩, .string ⟨#[]⟩] 26))) := Lib.hid (B2.out.alloc B2.out.size (.cells #[.string ⟨#[]⟩, .string ⟨#[]⟩] 26)); clear K2 B2)
            | (refine at_store 26 (.tmp 8) (.tmp 22) (by rfl) ?_; refine wpList_put (by rfl) 26 (.tmp 8) (.tmp 22) (by rfl) (w2.heap.size) 0 (.agg #[.string f.1, .string xb]) (by rfl) (by rfl) 26 #[.string ⟨#[]⟩, .string ⟨#[]⟩] #[.string f.1, .string xb] (K3.out.row 0 rfl) (by simp [Value.cells]) (by kernel_rfl) infoc_D (by kernel_rfl) ?_; intro w4 hrow hoth hz hbl; have K4 : Hid (EnvF w4 [fF A n xs] [(w2.heap.size, #[.string f.1, .string xb], 26), (w.heap.size + 1, #[.string f.1, .string f.2], 26), (w.heap.size, #[.int .i64 M, .slice A n c], 24)]) := Lib.hid (K3.out.turn 0 rfl hrow hoth hz); have B4 : Hid (Below w.heap.size w w4) := Lib.hid (hbl _ _ ley B3.out); clear hrow hoth hz hbl K3 B3)
            | (refine at_load 26 (.tmp 8) (by rfl) ?_; refine wpList_load_row (by rfl) 26 (.tmp 8) (by rfl) (w2.heap.size) (by rfl) 26 #[.string f.1, .string xb] (0, 0) _ (K4.out.row 0 rfl) Tryd.underlying26 (by rfl) infoc_D ?_)
            | (refine at_load 26 (.tmp 3) (by rfl) ?_; refine wpList_load_row (by rfl) 26 (.tmp 3) (by rfl) (w.heap.size + 1) (by rfl) 26 #[.string f.1, .string f.2] (0, 0) _ (K4.out.row 1 rfl) Tryd.underlying26 (by rfl) infoc_D ?_)
            | (refine at_load 9 (.tmp 28) (by rfl) ?_; refine wpList_get (by rfl) 9 (.tmp 28) (by rfl) (w2.heap.size) 0 (by rfl) 26 #[.string f.1, .string xb] (.string f.1) _ (K4.out.row 0 rfl) (by rfl) Tryd.underlying9 (by rfl) ?_)
            | (refine at_load 9 (.tmp 30) (by rfl) ?_; refine wpList_get (by rfl) 9 (.tmp 30) (by rfl) (w.heap.size + 1) 0 (by rfl) 26 #[.string f.1, .string f.2] (.string f.1) _ (K4.out.row 1 rfl) (by rfl) Tryd.underlying9 (by rfl) ?_))
          go_roundw
          case rel => exact ⟨j + 1, by omega, by rw [HN.out], by go_num, HZ2.out, K4.out.sub (by simp) (by simp), B4.out⟩
          case measure => simp [intOf]; omega
    · obtain rfl : j = 20 + n := by omega
      have hz := HZ.out
      rw [List.take_of_length_le (by omega)] at hz
      have HF := Lib.hid (find_none hz)
      have HE := Lib.hid (congrArg (ixOf (isN f)) (List.take_of_length_le (show (stat ++ xs).length ≤ 20 + n by omega)))
      clear hz
      go_wp2
      go_ret2
      exact ⟨ret2 (by rw [HF.out.1, ← HE.out]) HF.out.2.symm, B1.out⟩
end Go.Proofs.YtgplkjifgagjpaaDoor
