/- Package huff: fills, and the iterator's word. -/
import Derived.Test.YtfjmgfahlicleaaDoorHfK
namespace Go.Proofs.YtfjmgfahlicleaaDoor
open Go.RowKit Hf Go.Shelf Oct
set_option linter.unusedVariables false
set_option linter.unusedSimpArgs false
attribute [local go_sem] Oper.semAt_some
set_option maxHeartbeats 1000000 in
theorem h_fills (A : Option Addr) (n c a : Nat) (xs : List UInt8) (w : World) (hA : Bs w w.heap.size A n xs) (hn : n ≤ 10000) (ha : a ≤ 8 * n) :
    Calls Tryd.prog 30 #[.slice A n c, .int .i64 (a : Int)] w fun e w' => e = .returned (.bool (fillB xs a)) ∧ Below w.heap.size w w' := by
  have hlen := hA.1
  obtain ⟨L, hL⟩ : ∃ L : Nat, a + L = 8 * n := ⟨8 * n - a, by omega⟩
  have hLi : (n : Int) * 8 - (a : Int) = (L : Int) := by omega
  have hLn : 8 * xs.length - a = L := by omega
  have hf : fillB xs a = decide (L ≤ 7 ∧ codeOf xs a L = 2 ^ L - 1) := by unfold fillB; rw [hLn]
  rw [hf]
  by_cases h30 : L ≤ 30
  · have HY : Hid (Calls Tryd.prog 38 #[.slice A n c, .int .i64 (a : Int), .int .i64 (L : Int)] w fun e w' => e = .returned (.tuple #[.int .i64 (codeOf xs a L : Int), .bool true]) ∧ Below w.heap.size w w') := Lib.hid (by
      have h := bits_yes A n c xs (a : Int) (L : Int) w hA (by omega) (by omega) (by omega) (by omega) (by omega)
      simpa using h)
    have hcl := codeOf_lt xs a L
    generalize codeOf xs a L = C at *
    by_cases h7 : L ≤ 7
    · have h1 : (2 : Nat) ^ L ≤ 2 ^ 7 := Nat.pow_le_pow_right (by decide) h7
      have HE := Lib.hid (show ((C : Int) == wrap64 (wrap64 (2 ^ L) - 1)) = decide (L ≤ 7 ∧ C = 2 ^ L - 1) by
        rw [ones_val L (by omega)]
        by_cases he : C = 2 ^ L - 1
        · rw [← he]; simp [h7]
        · rw [decide_eq_false (by rintro ⟨_, h⟩; exact he h)]
          simp only [beq_eq_false_iff_ne, ne_eq]
          omega)
      clear hf hlen hL hLn hcl h1
      go_enter Tryd.func30, Tryd.ntmps30
      go_wp2_with (go_at_call 38; (with_reducible refine HY.out.mono ?_); rintro e w1 ⟨rfl, hb1⟩; have HB1 := Lib.hid hb1; clear hb1)
      go_ret
      exact ⟨by rw [← HE.out]; rfl, HB1.out⟩
    · rw [decide_eq_false (by rintro ⟨h, _⟩; exact h7 h)]
      clear hf hlen hL hLn hcl
      go_enter Tryd.func30, Tryd.ntmps30
      go_wp2_with (go_at_call 38; (with_reducible refine HY.out.mono ?_); rintro e w1 ⟨rfl, hb1⟩; have HB1 := Lib.hid hb1; clear hb1)
      go_ret
      exact ⟨rfl, HB1.out⟩
  · have HY : Hid (Calls Tryd.prog 38 #[.slice A n c, .int .i64 (a : Int), .int .i64 (L : Int)] w fun e w' => e = .returned (.tuple #[.int .i64 0, .bool false]) ∧ Below w.heap.size w w') := Lib.hid
      (bits_none A n c (a : Int) (L : Int) w (by omega) (by omega))
    rw [decide_eq_false (by rintro ⟨h, _⟩; omega)]
    clear hf hlen hL hLn
    go_enter Tryd.func30, Tryd.ntmps30
    go_wp2_with (go_at_call 38; (with_reducible refine HY.out.mono ?_); rintro e w1 ⟨rfl, hb1⟩; have HB1 := Lib.hid hb1; clear hb1)
    go_ret
    exact ⟨rfl, HB1.out⟩
theorem h_taken (A : Option Addr) (n c : Nat) (w : World) : Calls Tryd.prog 29 #[.slice A n c] w fun e w' =>
      e = .returned (.func (.func 36) #[] #[.pointer (some ⟨w.heap.size, 0, none⟩)]) ∧ w.alloc (.cells #[.slice A n c] 22) = w' := by
  go_enter Tryd.func29, Tryd.ntmps29
  go_wp2
  go_ret
  exact ⟨rfl, rfl⟩
theorem taken_stops (k : Nat) (hk : 1 ≤ k) (B1 n c : Nat) (A : Option Addr) (xs : List UInt8) (p : Nat → Prop) (w : World) (hR : Rws w)
    (hp0 : p 0) (hp1 : p B1) (hB1 : B1 < w.heap.size) (hpA : 0 < n → ∀ b o, A = some ⟨b, o, none⟩ → p b) (hn : n ≤ 10000)
    (hc : w.cell? ⟨B1, 0, none⟩ = some (.slice A n c)) (hA : Bs w w.heap.size A n xs) :
    SeqStopsK Fence.wide k Tryd.prog 36 #[.pointer (some ⟨B1, 0, none⟩)] (fun x : UInt8 × Fin 12 => #[.int .u8 (x.1.toNat : Int), .int .i64 (x.2.val : Int)]) (KeepW p) (fun ys => ∃ b a, Hf.Ends xs b a ∧ ys = els b a n) (fun pre => LeftAt xs n pre) (8 * n + 1) w := fun l J Jx W hW hJ _ hY h0 =>
  taken1_in k hk l B1 n c A xs p J Jx W hJ (hR.on hW) hp0 hp1 hpA hn (fun pre x W1 hj hl => hY pre x W1 hj hl) ((hW.cell (p := ⟨B1, 0, none⟩) hB1).trans hc) ((hA.below hW).more hW.size) h0
end Go.Proofs.YtfjmgfahlicleaaDoor
