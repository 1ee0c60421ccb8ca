/- Strings as bytes: []byte of a string, and a string's bytes appended; the document's Put of a number, told as a row of its own. -/
import Derived.Laws.IdiomStrings
import Derived.Lib.AppendStr
import Derived.Test.YtdcbafddnegpaaaDoorTxX
import Derived.Test.YtdcbafddnegpaaaDoorMGa
namespace Go.Proofs.YtdcbafddnegpaaaDoor
open Go.RowKit Px
set_option linter.unusedVariables false
set_option linter.unusedSimpArgs false
namespace Tx
/-- []byte of a string. -/
theorem conv_str (w : World) (xs : List UInt8) : ∃ c' w', (convert 9 22 (.string ⟨xs.toArray⟩)).run Tryd.prog w = .ok (.slice (some ⟨w.heap.size, 0, none⟩) xs.length c') w' ∧ HandS w' w.heap.size (some ⟨w.heap.size, 0, none⟩) xs.length c' xs ∧ Below w.heap.size w w' := by
  refine ⟨_, _, run_bytes_of_string (P := Tryd.prog) w 9 22 5 ⟨xs.toArray⟩ Tryd.underlying9 Tryd.underlying22 Tryd.underlying5, ?_, ?_⟩
  · refine ⟨⟨rfl, fun hn => ⟨_, _, rfl, ?_, fun j hj => ?_⟩⟩, fun _ b o e => by cases e; exact Nat.le_refl _, grownCap_ge _ _ _ _, fun e => by cases e⟩
    · simp
    · have hj2 : j < xs.length := hj
      rw [Nat.zero_add]
      have hrow : (w.drew.alloc (.cells (bytesRow ⟨xs.toArray⟩ (grownCap w (ByteArray.size ⟨xs.toArray⟩) 0 5)) 5 ((bytesRow ⟨xs.toArray⟩ (grownCap w (ByteArray.size ⟨xs.toArray⟩) 0 5)).size, (bytesRow ⟨xs.toArray⟩ (grownCap w (ByteArray.size ⟨xs.toArray⟩) 0 5)).size + 1))).heap[w.heap.size]? = some _ := World.alloc_heap_new w.drew _
      rw [World.cell?, hrow]
      simp [bytesRow, hj2, Array.getElem?_append]
  · exact (Below.refl _ w).drew.alloc (by simp) _
theorem str_cells (xs : List UInt8) : Lib.strCells ⟨xs.toArray⟩ = xs.map bv := by simp [Lib.strCells, bv]
end Tx
theorem wpList_append_str {P : Program} {w : World} {ops : Array Oper} {rest : List Oper} {o : Oper} {a : Act} {Q : Exit → Act → World → Prop} (hgd : o.guard = none) (sl x : Operand) (t u : TypeId)
    (ho : o.op = .call { callee := .builtin .append, args := #[sl, x], argTypes := #[t, u] })
    (base : Nat) (e : TypeId) (i : TypeInfo) (ht : P.underlying t = some (.slice e)) (hu : P.underlying u = some .string) (hi : P.info? e = some i) (hz : i.zero = some (.int .u8 0)) (hsize : i.size = 1) (hby : i.bytes = 1)
    (v : Value) (ys : List UInt8) (hs : a.eval sl = v) (hown : OwnB w base e v ys) (xs : List UInt8) (hx : a.eval x = .string ⟨xs.toArray⟩)
    (hlen : ys.length + xs.length ≤ 1000000) (hbase : base ≤ w.heap.size)
    (h : ∀ v' w', OwnB w' base e v' (ys ++ xs) → Below base w w' → wpList P ops Q rest (a.put o.dst v') w') : wpList P ops Q (o :: rest) a w := by
  have hs2 : (ByteArray.mk xs.toArray).size = xs.length := rfl
  refine Lib.wpList_append_own_string w hgd sl x t u ho base e i ht hu hi hz hsize hby v ys.length (ys.map bv) hs hown ⟨xs.toArray⟩ hx (by rw [hs2]; unfold maxLen; omega) (by rw [hs2]; omega) hbase ?_
  intro v' w' h1 h2 _
  refine h v' w' ?_ ((Below.refl base w).grown h2 hbase (fun k hk => (World.ownsRow.lt hown k hk).1))
  unfold OwnB
  rw [Tx.str_cells, hs2] at h1
  rw [List.map_append, List.length_append]
  exact h1
set_option maxRecDepth 100000 in
theorem o_put_one (n k : Nat) (u : UInt8) (w : World) (h1 : 1 ≤ k) (h8 : k ≤ 8) (hn : n < mx k) :
    Calls Tryd.prog 26 #[.int .i64 (n : Int), .int .i64 (k : Int), .int .u8 (u.toNat : Int)] w fun e w' => ∃ A c, e = .returned (.tuple #[.slice A 1 c, .int .i64 0]) ∧ OwnB w' w.heap.size 5 (.slice A 1 c) [UInt8.ofNat (u.toNat / 2 ^ k * 2 ^ k + n)] ∧ Below w.heap.size w w' := by
  have hn2 := mx_le h8
  have hd : decide (MayN (n : Int) (k : Int)) = true := decide_eq_true ⟨⟨by omega, by omega⟩, by omega, by omega⟩
  have HF : Hid (∀ w, Calls Tryd.prog 31 #[.int .i64 (k : Int)] w fun e w' => e = .returned (.int .i64 (mx k : Int)) ∧ w = w') := Lib.hid (fun w => x_most k w h1 h8)
  have hM1 := mx_pos h1
  have hM8 := mx_le h8
  have hMs := mx_succ k
  have hul := u.toNat_lt
  have hhi := hi_of u.toNat k hul
  have hfit := byte_lo u.toNat k n h8 hul (by omega)
  rw [← hMs] at hhi hfit ⊢
  clear hMs
  generalize mx k = M at *
  have HBY := Lib.hid (hi_byte u.toNat M n hul (by omega) (by omega) hhi hfit)
  have hlt : decide ((n : Int) < (M : Int)) = true := decide_eq_true (by omega)
  go_enter Tryd.func26, Tryd.ntmps26
  go_wp2_with (first | (go_at_call 42; (with_reducible refine (x_may _ _ _).mono ?_); rintro e w' ⟨rfl, rfl⟩; rw [hd]) | (go_at_call 31; (with_reducible refine (HF.out _).mono ?_); rintro e w' ⟨rfl, rfl⟩))
  go_ret2
  exact ⟨_, _, rfl, ownB_one w 5 w.heap.size _ _ (by rw [HBY.out.2]) (Nat.le_refl _), (Below.refl _ w).alloc (Nat.le_refl _) _⟩
set_option maxRecDepth 100000 in
set_option maxHeartbeats 1000000 in
theorem o_put_more (n k : Nat) (u : UInt8) (w : World) (h1 : 1 ≤ k) (h8 : k ≤ 8) (hn : n < 2147483648) (hge : mx k ≤ n) :
    Calls Tryd.prog 26 #[.int .i64 (n : Int), .int .i64 (k : Int), .int .u8 (u.toNat : Int)] w fun e w' => ∃ A c, e = .returned (.tuple #[.slice A (tailB (n - mx k)).length.succ c, .int .i64 0]) ∧ OwnB w' w.heap.size 5 (.slice A (tailB (n - mx k)).length.succ c) (UInt8.ofNat (u.toNat / 2 ^ k * 2 ^ k + mx k) :: tailB (n - mx k)) ∧ Below w.heap.size w w' := by
  obtain ⟨i0, hi, hz0, hz1, hz2⟩ := info_parts info_u8
  have hinf := Lib.hid (And.intro hi (And.intro hz0 (And.intro hz1 hz2)))
  clear hi hz0 hz1 hz2
  have hd : decide (MayN (n : Int) (k : Int)) = true := decide_eq_true ⟨⟨by omega, by omega⟩, by omega, by omega⟩
  have HF : Hid (∀ w, Calls Tryd.prog 31 #[.int .i64 (k : Int)] w fun e w' => e = .returned (.int .i64 (mx k : Int)) ∧ w = w') := Lib.hid (fun w => x_most k w h1 h8)
  have hM1 := mx_pos h1
  have hM8 := mx_le h8
  have hMs := mx_succ k
  have hul := u.toNat_lt
  have hhi := hi_of u.toNat k hul
  have hfit := byte_lo u.toNat k (mx k) h8 hul (by omega)
  rw [← hMs] at hhi hfit ⊢
  clear hMs
  generalize mx k = M at *
  have HBY := Lib.hid (hi_byte u.toNat M M hul (by omega) (Nat.le_refl _) hhi hfit)
  have hlt : decide ((n : Int) < (M : Int)) = false := decide_eq_false (by omega)
  have hlt2 : decide (n < M) = false := decide_eq_false (by omega)
  have hT := tailB_le (m := n - M) (by omega)
  have HT := Lib.hid hT
  generalize UInt8.ofNat (u.toNat / (M + 1) * (M + 1) + M) = B0 at *
  clear hhi hfit hT
  go_enter Tryd.func26, Tryd.ntmps26
  go_wp2_with (first | (go_at_call 42; (with_reducible refine (x_may _ _ _).mono ?_); rintro e w' ⟨rfl, rfl⟩; rw [hd]) | (go_at_call 31; (with_reducible refine (HF.out _).mono ?_); rintro e w' ⟨rfl, rfl⟩))
  go_loopw [0, 10] (fun a v wr => ∃ (m : Nat) (ys : List UInt8), a = .int .i64 (m : Int) ∧ m < 2147483648 ∧ ys ++ tailB m = tailB (n - M) ∧ OwnB wr w.heap.size 5 v (B0 :: ys) ∧ Below w.heap.size w wr) (fun a _ _ => (intOf a).toNat)
  case atStart =>
    refine ⟨n - M, [], ?_, by omega, rfl, ownB_one _ _ _ _ _ (by rw [HBY.out.2]) (Nat.le_refl _), (Below.refl _ w).alloc (Nat.le_refl _) _⟩
    rw [show ((n - M : Nat) : Int) = (n : Int) - (M : Int) from by omega]
  case round =>
    obtain ⟨m, ys, rfl, hm, hys, hown, hbel⟩ := hrel
    obtain ⟨A, c, rfl, _⟩ := hown.form
    have hyl : ys.length ≤ 5 := by have := congrArg List.length hys; rw [List.length_append] at this; have := HT.out; omega
    have HO := Lib.hid hown
    have HB := Lib.hid hbel
    have HYS := Lib.hid hys
    clear hown hbel hys
    by_cases h128 : 128 ≤ m
    · have ht := tailB_ge h128
      have HTT := Lib.hid ht
      have HX := Lib.hid (byte128 m)
      have hsz := HB.out.size
      clear ht
      go_wp2_with (at_builtin; refine wpList_append_bytes _ rfl (.tmp 43) (.tmp 48) 22 rfl w.heap.size 5 i0 Tryd.underlying22 hinf.out.1 hinf.out.2.1 hinf.out.2.2.1 hinf.out.2.2.2 _ (B0 :: ys) rfl (HO.out.alloc _) _ (some ⟨wr.heap.size, 0, none⟩) 1 1 [UInt8.ofNat (m % 128 + 128)] rfl (bs_lit wr 5 [UInt8.ofNat (m % 128 + 128)] _ wr.heap.size rfl (by simp only [List.map_cons, List.map_nil, bv]; rw [HX.out])) (fun e => by cases e) (by simp; omega) (by simp; omega) ?_; intro v2 w2 ho2 hb2; have HO2 := Lib.hid ho2; have HB2 := Lib.hid ((HB.out.alloc hsz _).trans hb2); clear ho2 hb2)
      go_roundw
      case rel =>
        refine ⟨m / 128, ys ++ [UInt8.ofNat (m % 128 + 128)], by rw [show ((m / 128 : Nat) : Int) = (m : Int) / 128 from by omega], by omega, ?_, HO2.out, HB2.out⟩
        rw [List.append_assoc, List.singleton_append, ← HTT.out]
        exact HYS.out
      case measure => simp only [intOf]; omega
    · have ht := tailB_lt (show m < 128 by omega)
      have HTT := Lib.hid ht
      have HX := Lib.hid (byteLt (show m < 128 by omega))
      have hsz := HB.out.size
      clear ht
      go_wp2_with (at_builtin; refine wpList_append_bytes _ rfl (.tmp 52) (.tmp 55) 22 rfl w.heap.size 5 i0 Tryd.underlying22 hinf.out.1 hinf.out.2.1 hinf.out.2.2.1 hinf.out.2.2.2 _ (B0 :: ys) rfl (HO.out.alloc _) _ (some ⟨wr.heap.size, 0, none⟩) 1 1 [UInt8.ofNat m] rfl (bs_lit wr 5 [UInt8.ofNat m] _ wr.heap.size rfl (by simp only [List.map_cons, List.map_nil, bv]; rw [HX.out])) (fun e => by cases e) (by simp; omega) (by simp; omega) ?_; intro v2 w2 ho2 hb2; obtain ⟨A2, c2, rfl, _⟩ := ho2.handS (n := (ys ++ tailB m).length + 1) (by rw [HTT.out]; simp); have HH := Lib.hid ho2; have HB2 := Lib.hid ((HB.out.alloc hsz _).trans hb2); clear ho2 hb2)
      have hys := HYS.out
      rw [HTT.out] at hys
      have hlen : (tailB (n - M)).length = ys.length + 1 := by rw [← hys]; simp
      have hh := HH.out
      rw [List.cons_append, hys] at hh
      have hb2 := HB2.out
      go_ret2
      refine ⟨A2, c2, by rw [hlen]; simp [HTT.out], ?_, hb2⟩
      rw [show (tailB (n - M)).length.succ = (ys ++ tailB m).length + 1 from by rw [HYS.out]]
      exact hh
theorem o_put_yes (n k : Nat) (u : UInt8) (w : World) (h1 : 1 ≤ k) (h8 : k ≤ 8) (hn : n < 2147483648) :
    Calls Tryd.prog 26 #[.int .i64 (n : Int), .int .i64 (k : Int), .int .u8 (u.toNat : Int)] w fun e w' => ∃ A c, e = .returned (.tuple #[.slice A (numB n k).length c, .int .i64 0]) ∧ OwnB w' w.heap.size 5 (.slice A (numB n k).length c) (putN n k u.toNat) ∧ Below w.heap.size w w' := by
  by_cases h : n < mx k
  · rw [show numB n k = [UInt8.ofNat n] from if_pos h, show putN n k u.toNat = [UInt8.ofNat (u.toNat / 2 ^ k * 2 ^ k + n)] from if_pos h]
    exact o_put_one n k u w h1 h8 h
  · rw [show numB n k = UInt8.ofNat (mx k) :: tailB (n - mx k) from if_neg h, show putN n k u.toNat = UInt8.ofNat (u.toNat / 2 ^ k * 2 ^ k + mx k) :: tailB (n - mx k) from if_neg h]
    exact o_put_more n k u w h1 h8 hn (by omega)
end Go.Proofs.YtdcbafddnegpaaaDoor
