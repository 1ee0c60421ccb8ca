import Derived.Test.YtgkbjopgmbdnoaaMi
import Derived.Test.YtgkbjopgmbdnoaaMh
/- FrameSettings. -/
namespace Go.Proofs.Ytgkbjopgmbdnoaa
open Go.RowKit Oct Fi Fm
set_option linter.unusedVariables false
set_option linter.unusedSimpArgs false
theorem set_parse (l : List Pr) (hl : l.length ≤ 300) : parseR 4 0 0 (ppV l) = if pairsX l = fine then ({ frZ 4 0 0 with ps := l }, fine) else (frZ 0 0 0, pairsX l) := by
  have hlen := ppV_len l
  have hi : innerR 4 0 0 (ppV l) = ({ frZ 4 0 0 with ps := l }, true) := by
    unfold innerR
    rw [if_neg (by decide), if_neg (by decide), if_neg (by decide), if_pos (by decide), (tp_put l hlen).2]
  have hv : valuesX { frZ 4 0 0 with ps := l } = pairsX l := vals_plain _ (show (4 : UInt8).toNat ≠ 8 by decide) (show (4 : UInt8).toNat ≠ 16 by decide) rfl
  have hlo : longB (4 : UInt8).toNat 0 (ppV l).length = false := by
    unfold longB
    rw [hlen, show (4 : UInt8).toNat = 4 from rfl]
    have : hasB ((0 : UInt8).toNat : Int) 1 = false := by decide +kernel
    rw [this]
    simp
  obtain ⟨h1, h2⟩ := tkR_go hlo hi hv
  rw [parseR_eq, if_neg (by decide), if_neg (by omega), if_neg (by decide), h1]
  rcases pairsX_ways l with h | h
  · rw [h] at h1 h2 ⊢
    rw [if_neg (by decide), if_pos rfl]
    exact Prod.ext (h2 rfl) h1
  · rw [if_pos h, if_neg (fun e => by rw [e] at h; cases h)]
theorem c2_row' {w : World} {g : Nat} {a b : Value} {t : TypeId} (h : w.heap[g]? = some (.cells #[a, b] t)) : w.cell? ⟨g, 0, none⟩ = some a ∧ w.cell? ⟨g, 1, none⟩ = some b := by
  refine ⟨?_, ?_⟩ <;> rw [cell_of_row w g _ _ t (0, 0) h] <;> rfl
set_option maxRecDepth 100000 in
set_option maxHeartbeats 8000000 in
theorem set4_G (A : Option Addr) (n c : Nat) (l : List Pr) (w : World) (hA : Ps w w.heap.size A n l) (hg : (300 : Int) < (n : Int)) :
    Calls Try.prog 6 #[.slice A n c] w fun e' w' => e' = .returned (.bool true) ∧ Below w.heap.size w w' := by
  clear hA
  go_enter Try.func6, Try.ntmps6
  go_wp2_with (go_at_call 11; refine (wakes4 _).mono ?_; rintro e w1 ⟨rfl, hb⟩)
  go_ret
  exact ⟨rfl, hb⟩
theorem set_cases (x : Pr) : ((((x.1.toNat : Nat) : Int) == 2) = true ∧ (1 : Int) < (x.2.toNat : Int) ∧ setX x = whole 1) ∨ ((((x.1.toNat : Nat) : Int) == 2) = true ∧ ¬ (1 : Int) < (x.2.toNat : Int) ∧ (((x.1.toNat : Nat) : Int) == 5) = false ∧ (((x.1.toNat : Nat) : Int) == 4) = false ∧ setX x = fine) ∨ ((((x.1.toNat : Nat) : Int) == 2) = false ∧ (((x.1.toNat : Nat) : Int) == 9) = true ∧ (1 : Int) < (x.2.toNat : Int) ∧ setX x = whole 1) ∨ ((((x.1.toNat : Nat) : Int) == 2) = false ∧ (((x.1.toNat : Nat) : Int) == 9) = true ∧ ¬ (1 : Int) < (x.2.toNat : Int) ∧ (((x.1.toNat : Nat) : Int) == 5) = false ∧ (((x.1.toNat : Nat) : Int) == 4) = false ∧ setX x = fine) ∨ ((((x.1.toNat : Nat) : Int) == 2) = false ∧ (((x.1.toNat : Nat) : Int) == 9) = false ∧ (((x.1.toNat : Nat) : Int) == 5) = true ∧ (x.2.toNat : Int) < 16384 ∧ setX x = whole 1) ∨ ((((x.1.toNat : Nat) : Int) == 2) = false ∧ (((x.1.toNat : Nat) : Int) == 9) = false ∧ (((x.1.toNat : Nat) : Int) == 5) = true ∧ ¬ (x.2.toNat : Int) < 16384 ∧ (16777215 : Int) < (x.2.toNat : Int) ∧ setX x = whole 1) ∨ ((((x.1.toNat : Nat) : Int) == 2) = false ∧ (((x.1.toNat : Nat) : Int) == 9) = false ∧ (((x.1.toNat : Nat) : Int) == 5) = true ∧ ¬ (x.2.toNat : Int) < 16384 ∧ ¬ (16777215 : Int) < (x.2.toNat : Int) ∧ (((x.1.toNat : Nat) : Int) == 4) = false ∧ setX x = fine) ∨ ((((x.1.toNat : Nat) : Int) == 2) = false ∧ (((x.1.toNat : Nat) : Int) == 9) = false ∧ (((x.1.toNat : Nat) : Int) == 5) = false ∧ (((x.1.toNat : Nat) : Int) == 4) = true ∧ (2147483647 : Int) < (x.2.toNat : Int) ∧ setX x = whole 3) ∨ ((((x.1.toNat : Nat) : Int) == 2) = false ∧ (((x.1.toNat : Nat) : Int) == 9) = false ∧ (((x.1.toNat : Nat) : Int) == 5) = false ∧ (((x.1.toNat : Nat) : Int) == 4) = true ∧ ¬ (2147483647 : Int) < (x.2.toNat : Int) ∧ setX x = fine) ∨ ((((x.1.toNat : Nat) : Int) == 2) = false ∧ (((x.1.toNat : Nat) : Int) == 9) = false ∧ (((x.1.toNat : Nat) : Int) == 5) = false ∧ (((x.1.toNat : Nat) : Int) == 4) = false ∧ setX x = fine) := by
  have e : ∀ (m : Nat), (((x.1.toNat : Nat) : Int) == (m : Int)) = decide (x.1.toNat = m) := fun m => by rw [Bool.eq_iff_iff]; simp; omega
  have e2 := e 2
  have e9 := e 9
  have e5 := e 5
  have e4 := e 4
  simp only [Int.cast_ofNat_Int] at e2 e9 e5 e4
  rw [e2, e9, e5, e4]
  unfold setX
  generalize x.1.toNat = i
  generalize x.2.toNat = v
  by_cases h2 : i = 2
  · by_cases hv : 1 < v
    · exact .inl (by subst h2; simp [hv]; omega)
    · exact .inr (.inl (by subst h2; simp [hv]; omega))
  by_cases h9 : i = 9
  · by_cases hv : 1 < v
    · exact .inr (.inr (.inl (by subst h9; simp [hv]; omega)))
    · exact .inr (.inr (.inr (.inl (by subst h9; simp [hv]; omega))))
  by_cases h5 : i = 5
  · by_cases hv : v < 16384
    · exact .inr (.inr (.inr (.inr (.inl (by subst h5; simp [hv]; omega)))))
    · by_cases hv2 : 16777215 < v
      · exact .inr (.inr (.inr (.inr (.inr (.inl (by subst h5; simp [hv, hv2]; omega))))))
      · exact .inr (.inr (.inr (.inr (.inr (.inr (.inl (by subst h5; simp [hv, hv2]; omega)))))))
  by_cases h4 : i = 4
  · by_cases hv : 2147483647 < v
    · exact .inr (.inr (.inr (.inr (.inr (.inr (.inr (.inl (by subst h4; simp [hv]; omega))))))))
    · exact .inr (.inr (.inr (.inr (.inr (.inr (.inr (.inr (.inl (by subst h4; simp [hv]; omega)))))))))
  · exact .inr (.inr (.inr (.inr (.inr (.inr (.inr (.inr (.inr (by simp [h2, h9, h5, h4]))))))))) 
set_option maxRecDepth 100000 in
set_option maxHeartbeats 8000000 in
theorem set4_at (A : Option Addr) (n c : Nat) (l : List Pr) (w : World) (hA : Ps w w.heap.size A n l) (hg : ¬ (300 : Int) < (n : Int)) (k0 : Int) (x0 : Bool) (x1 : Int) (x2 : Nat) (l8 : List Pr) (NB : Nat) (hNB : (ppV l).length = NB) (hP : pairsX l = (x0, x1, x2)) (h8 : pairsX l = fine → l8 = l) (h9 : pairsX l ≠ fine → l8 = []) (HPA : Hid (∀ A' c' w0, Bs w0 w0.heap.size A' NB (ppV l) → (A' = none → c' = 0) → NB ≤ c' → Calls Try.prog 15 #[.agg #[.int .i64 0, .int .u8 4, .int .u8 0, .int .i64 0], .slice A' NB c'] w0 fun e w' => ∃ A7 n7 c7 A8 n8 c8, e = .returned (.tuple #[.agg #[.int .u8 k0, .int .u8 0, .int .i64 0, .slice A7 n7 c7, .int .i64 0, .int .i64 0, .int .i64 0, .int .u32 0, .slice A8 n8 c8, .bool false, .bool false, .int .i64 0, .int .u8 0], .agg #[.bool x0, .int .i64 x1, .int .u32 (x2 : Int)]]) ∧ HandS w' w0.heap.size A7 n7 c7 [] ∧ HandP w' w0.heap.size A8 n8 c8 l8 ∧ Below w0.heap.size w0 w')) :
    Calls Try.prog 6 #[.slice A n c] w fun e' w' => e' = .returned (.bool true) ∧ Below w.heap.size w w' := by
  have HX : Hid (l.length = n) := Lib.hid hA.1
  have HNB := Lib.hid hNB
  have K0 : Hid (EnvB w [] [(A, n, l)] []) := Lib.hid ((EnvB.nil w).addP0 hA)
  have B0 := Lib.hid (Below.refl w.heap.size w)
  clear hA hNB
  go_enter Try.func6, Try.ntmps6
  go_wp2_with (first
    | ((with_reducible refine at_wp ?_); refine at_sto (by rfl) ?_; first
        | (refine at_store 28 (.tmp 3) (.tmp 16) (by rfl) ?_; refine wpList_put (by rfl) 28 (.tmp 3) (.tmp 16) (by rfl) (w2.heap.size) 0 (.agg #[.int .u8 k0, .int .u8 0, .int .i64 0, .slice A7 n7 c7, .int .i64 0, .int .i64 0, .int .i64 0, .int .u32 0, .slice A8 n8 c8, .bool false, .bool false, .int .i64 0, .int .u8 0]) (by rfl) (by rfl) 28 #[.int .u8 0, .int .u8 0, .int .i64 0, .slice none 0 0, .int .i64 0, .int .i64 0, .int .i64 0, .int .u32 0, .slice none 0 0, .bool false, .bool false, .int .i64 0, .int .u8 0] #[.int .u8 k0, .int .u8 0, .int .i64 0, .slice A7 n7 c7, .int .i64 0, .int .i64 0, .int .i64 0, .int .u32 0, .slice A8 n8 c8, .bool false, .bool false, .int .i64 0, .int .u8 0] (K3.out.row 1 rfl) (by simp [Value.cells]) (by kernel_rfl) info_F (by kernel_rfl) ?_; intro w4 hrow hoth hz hbl; have K4 : Hid (EnvB w4 [(A7, n7, []), (A1, NB, ppV l)] [(A8, n8, l8), (A, n, l)] [(w2.heap.size + 1, #[.bool false, .int .i64 0, .int .u32 0], 39), (w2.heap.size, #[.int .u8 k0, .int .u8 0, .int .i64 0, .slice A7 n7 c7, .int .i64 0, .int .i64 0, .int .i64 0, .int .u32 0, .slice A8 n8 c8, .bool false, .bool false, .int .i64 0, .int .u8 0], 28)]) := Lib.hid (K3.out.turn 1 rfl hrow hoth hz); have B4 := Lib.hid (hbl _ _ leo B3.out); clear hrow hoth hz hbl K3 B3)
        | (refine at_store 39 (.tmp 4) (.tmp 17) (by rfl) ?_; refine wpList_put (by rfl) 39 (.tmp 4) (.tmp 17) (by rfl) (w2.heap.size + 1) 0 (.agg #[.bool x0, .int .i64 x1, .int .u32 (x2 : Int)]) (by rfl) (by rfl) 39 #[.bool false, .int .i64 0, .int .u32 0] #[.bool x0, .int .i64 x1, .int .u32 (x2 : Int)] (K4.out.row 0 rfl) (by simp [Value.cells]) (by kernel_rfl) info_X (by kernel_rfl) ?_; intro w5 hrow hoth hz hbl; have K5 : Hid (EnvB w5 [(A7, n7, []), (A1, NB, ppV l)] [(A8, n8, l8), (A, n, l)] [(w2.heap.size + 1, #[.bool x0, .int .i64 x1, .int .u32 (x2 : Int)], 39), (w2.heap.size, #[.int .u8 k0, .int .u8 0, .int .i64 0, .slice A7 n7 c7, .int .i64 0, .int .i64 0, .int .i64 0, .int .u32 0, .slice A8 n8 c8, .bool false, .bool false, .int .i64 0, .int .u8 0], 28)]) := Lib.hid (K4.out.turn 0 rfl hrow hoth hz); have B5 := Lib.hid (hbl _ _ (Nat.le_succ_of_le leo) B4.out); clear hrow hoth hz hbl K4 B4))
    | (go_at_call 19; (have hc := (rpp_any A n c l _ (K0.out.p (A, n, l) (by simp)).1 (by omega)); (with_reducible refine hc.mono ?_); clear hc); rintro e w1 ⟨v1, rfl, ho, hb⟩; obtain ⟨A1, c1, rfl, hh⟩ := ho.handS HNB.out; have K1 : Hid (EnvB w1 [(A1, NB, ppV l)] [(A, n, l)] []) := Lib.hid (K0.out.handS hb hh); have B1 := Lib.hid (below_step B0.out hb); have HC1 := Lib.hid hh.2.2; clear ho hh; clear hb K0 B0)
    | (go_at_call 15; (have hc := (HPA.out A1 c1 _ (K1.out.s (A1, NB, ppV l) (by simp)).1 HC1.out.2 HC1.out.1); (with_reducible refine hc.mono ?_); clear hc); rintro e w2 ⟨A7, n7, c7, A8, n8, c8, rfl, hh, hp, hb⟩; have K2 : Hid (EnvB w2 [(A7, n7, []), (A1, NB, ppV l)] [(A8, n8, l8), (A, n, l)] []) := Lib.hid (handB K1.out hb hh hp); have B2 := Lib.hid (below_step B1.out hb); have HL8 : Hid (l8.length = n8) := Lib.hid hp.1.1; clear hh hp; clear hb K1 B1; have leo := B2.out.size; have K3 : Hid (EnvB ((w2.alloc (.cells #[.int .u8 0, .int .u8 0, .int .i64 0, .slice none 0 0, .int .i64 0, .int .i64 0, .int .i64 0, .int .u32 0, .slice none 0 0, .bool false, .bool false, .int .i64 0, .int .u8 0] 28)).alloc (.cells #[.bool false, .int .i64 0, .int .u32 0] 39)) [(A7, n7, []), (A1, NB, ppV l)] [(A8, n8, l8), (A, n, l)] [(w2.heap.size + 1, #[.bool false, .int .i64 0, .int .u32 0], 39), (w2.heap.size, #[.int .u8 0, .int .u8 0, .int .i64 0, .slice none 0 0, .int .i64 0, .int .i64 0, .int .i64 0, .int .u32 0, .slice none 0 0, .bool false, .bool false, .int .i64 0, .int .u8 0], 28)]) := Lib.hid ((K2.out.box 28 #[.int .u8 0, .int .u8 0, .int .i64 0, .slice none 0 0, .int .i64 0, .int .i64 0, .int .i64 0, .int .u32 0, .slice none 0 0, .bool false, .bool false, .int .i64 0, .int .u8 0]).boxg 39 #[.bool false, .int .i64 0, .int .u32 0] (w2.heap.size + 1) (by simp)); have B3 := Lib.hid ((B2.out.alloc B2.out.size (.cells #[.int .u8 0, .int .u8 0, .int .i64 0, .slice none 0 0, .int .i64 0, .int .i64 0, .int .i64 0, .int .u32 0, .slice none 0 0, .bool false, .bool false, .int .i64 0, .int .u8 0] 28)).alloc (Nat.le_trans B2.out.size (by simp)) (.cells #[.bool false, .int .i64 0, .int .u32 0] 39)); clear K2 B2))
  go_loopw [5] (fun t wr => ∃ j : Nat, j ≤ n ∧ t = .int .i64 j ∧ (∀ y ∈ l.take j, setX y = fine) ∧ Hid (EnvB wr [(A7, n7, []), (A1, NB, ppV l)] [(A8, n8, l8), (A, n, l)] [(w2.heap.size + 1, #[.bool x0, .int .i64 x1, .int .u32 (x2 : Int)], 39), (w2.heap.size, #[.int .u8 k0, .int .u8 0, .int .i64 0, .slice A7 n7 c7, .int .i64 0, .int .i64 0, .int .i64 0, .int .u32 0, .slice A8 n8 c8, .bool false, .bool false, .int .i64 0, .int .u8 0], 28)]) ∧ Hid (Below w.heap.size w wr)) (fun t _ => n - (intOf t).toNat)
  case atStart => exact ⟨0, Nat.zero_le _, rfl, (fun y hy => by simp at hy), K5, B5⟩
  case round =>
    obtain ⟨j, hj, rfl, hall, KR, BR⟩ := hrel
    have HALL := Lib.hid hall
    clear hall K5 B5
    by_cases hlt : j < n
    · have hPA := (KR.out.p (A, n, l) (by simp)).1
      obtain ⟨b, o, rfl, hb, hc⟩ := ps_cell hPA (by simp only; omega)
      obtain ⟨x, hx, hc1, hc2⟩ := hc j hlt
      rw [← Nat.add_assoc] at hc2
      have HXJ := Lib.hid hx
      have hx1 := x.1.toNat_lt
      have hx2 := x.2.toNat_lt
      clear hc hPA
      have KP : Hid (EnvB (wr.alloc (.cells #[.int .u16 (x.1.toNat : Int), .int .u32 (x.2.toNat : Int)] 50)) _ _ ((wr.heap.size, #[.int .u16 (x.1.toNat : Int), .int .u32 (x.2.toNat : Int)], 50) :: [(w2.heap.size + 1, #[.bool x0, .int .i64 x1, .int .u32 (x2 : Int)], 39), (w2.heap.size, #[.int .u8 k0, .int .u8 0, .int .i64 0, .slice A7 n7 c7, .int .i64 0, .int .i64 0, .int .i64 0, .int .u32 0, .slice A8 n8 c8, .bool false, .bool false, .int .i64 0, .int .u8 0], 28)])) := Lib.hid (KR.out.box 50 #[.int .u16 (x.1.toNat : Int), .int .u32 (x.2.toNat : Int)])
      have BP := Lib.hid (BR.out.alloc BR.out.size (.cells #[.int .u16 (x.1.toNat : Int), .int .u32 (x.2.toNat : Int)] 50))
      obtain ⟨q0, q1⟩ := c2_row' (KP.out.row 0 rfl)
      have hHIT : setX x ≠ fine → pairsX l = setX x := fun h => pairsX_hit hx HALL.out h
      have hTAKE : setX x = fine → ∀ y ∈ l.take (j + 1), setX y = fine := fun h y hy => by
        rw [List.take_add_one, hx] at hy
        rcases List.mem_append.1 hy with hy | hy
        · exact HALL.out y hy
        · simp at hy; rw [hy]; exact h
      have HTAKE := Lib.hid hTAKE
      clear hx hTAKE
      rcases set_cases x with ⟨y0, y1, hs⟩ | ⟨y0, y1, y2, y3, hs⟩ | ⟨y0, y1, y2, hs⟩ | ⟨y0, y1, y2, y3, y4, hs⟩ | ⟨y0, y1, y2, y3, hs⟩ | ⟨y0, y1, y2, y3, y4, hs⟩ | ⟨y0, y1, y2, y3, y4, y5, hs⟩ | ⟨y0, y1, y2, y3, y4, hs⟩ | ⟨y0, y1, y2, y3, y4, hs⟩ | ⟨y0, y1, y2, y3, hs⟩
      · have hq := hHIT (by rw [hs]; decide)
        rw [hs] at hq
        have h9' := h9 (by rw [hq]; decide)
        subst h9'
        rw [hq] at hP
        cases hP
        obtain rfl : n8 = 0 := HL8.out.symm
        clear hHIT hq h8 h9 hs
        go_wp2_with (first
          | ((first | (with_reducible refine wpList_skip (o := { dst := some 32, op := _, type := _, pos := _, after := _, guard := _ }) (by kernel_rfl) ?_) | (with_reducible refine wpList_skip (o := { dst := some 33, op := _, type := _, pos := _, after := _, guard := _ }) (by kernel_rfl) ?_) | (with_reducible refine wpList_skip (o := { dst := some 34, op := _, type := _, pos := _, after := _, guard := _ }) (by kernel_rfl) ?_) | (with_reducible refine wpList_skip (o := { dst := some 42, op := _, type := _, pos := _, after := _, guard := _ }) (by kernel_rfl) ?_) | (with_reducible refine wpList_skip (o := { dst := some 43, op := _, type := _, pos := _, after := _, guard := _ }) (by kernel_rfl) ?_) | (with_reducible refine wpList_skip (o := { dst := some 44, op := _, type := _, pos := _, after := _, guard := _ }) (by kernel_rfl) ?_) | (with_reducible refine wpList_skip (o := { dst := some 45, op := _, type := _, pos := _, after := _, guard := _ }) (by kernel_rfl) ?_) | (with_reducible refine wpList_skip (o := { dst := some 46, op := _, type := _, pos := _, after := _, guard := _ }) (by kernel_rfl) ?_) | (with_reducible refine wpList_skip (o := { dst := some 47, op := _, type := _, pos := _, after := _, guard := _ }) (by kernel_rfl) ?_) | (with_reducible refine wpList_skip (o := { dst := some 48, op := _, type := _, pos := _, after := _, guard := _ }) (by kernel_rfl) ?_) | (with_reducible refine wpList_skip (o := { dst := some 49, op := _, type := _, pos := _, after := _, guard := _ }) (by kernel_rfl) ?_) | (with_reducible refine wpList_skip (o := { dst := some 50, op := _, type := _, pos := _, after := _, guard := _ }) (by kernel_rfl) ?_) | (with_reducible refine wpList_skip (o := { dst := some 51, op := _, type := _, pos := _, after := _, guard := _ }) (by kernel_rfl) ?_) | (with_reducible refine wpList_skip (o := { dst := some 52, op := _, type := _, pos := _, after := _, guard := _ }) (by kernel_rfl) ?_) | (with_reducible refine wpList_skip (o := { dst := some 53, op := _, type := _, pos := _, after := _, guard := _ }) (by kernel_rfl) ?_) | (with_reducible refine wpList_skip (o := { dst := some 54, op := _, type := _, pos := _, after := _, guard := _ }) (by kernel_rfl) ?_)); try simp only [Act.put, List.setIfInBounds_toArray, List.set_cons_zero, List.set_cons_succ])
          | ((with_reducible refine at_wp ?_); refine at_ld (by rfl) ?_; first
        | (refine at_load 39 (.tmp 4) (by rfl) ?_; refine wpList_load_row (by rfl) 39 (.tmp 4) (by rfl) (w2.heap.size + 1) (by rfl) 39 #[.bool true, .int .i64 0, .int .u32 1] (0, 0) _ (KP.out.row 1 rfl) Try.underlying39 (by rfl) info_X ?_)
        | (refine at_load 24 (.tmp 60) (by rfl) ?_; refine wpList_get_g (by kernel_rfl) 24 (.tmp 60) (by rfl) (w2.heap.size) 8 (by rfl) 28 #[.int .u8 k0, .int .u8 0, .int .i64 0, .slice A7 n7 c7, .int .i64 0, .int .i64 0, .int .i64 0, .int .u32 0, .slice A8 0 c8, .bool false, .bool false, .int .i64 0, .int .u8 0] (.slice A8 0 c8) _ (KP.out.row 2 rfl) (by rfl) Try.underlying24 (by rfl) ?_))
          | (go_at_call 11; refine (wakes4 _).mono ?_; rintro e w9 ⟨rfl, hb9⟩))
        go_ret
        exact ⟨rfl, below_step BP.out hb9⟩
      · have HT1 := Lib.hid (HTAKE.out hs)
        clear hHIT h8 h9 hs hP
        go_wp2_with (first
          | ((first | (with_reducible refine wpList_skip (o := { dst := some 32, op := _, type := _, pos := _, after := _, guard := _ }) (by kernel_rfl) ?_) | (with_reducible refine wpList_skip (o := { dst := some 33, op := _, type := _, pos := _, after := _, guard := _ }) (by kernel_rfl) ?_) | (with_reducible refine wpList_skip (o := { dst := some 34, op := _, type := _, pos := _, after := _, guard := _ }) (by kernel_rfl) ?_) | (with_reducible refine wpList_skip (o := { dst := some 46, op := _, type := _, pos := _, after := _, guard := _ }) (by kernel_rfl) ?_) | (with_reducible refine wpList_skip (o := { dst := some 47, op := _, type := _, pos := _, after := _, guard := _ }) (by kernel_rfl) ?_) | (with_reducible refine wpList_skip (o := { dst := some 48, op := _, type := _, pos := _, after := _, guard := _ }) (by kernel_rfl) ?_) | (with_reducible refine wpList_skip (o := { dst := some 49, op := _, type := _, pos := _, after := _, guard := _ }) (by kernel_rfl) ?_) | (with_reducible refine wpList_skip (o := { dst := some 50, op := _, type := _, pos := _, after := _, guard := _ }) (by kernel_rfl) ?_) | (with_reducible refine wpList_skip (o := { dst := some 51, op := _, type := _, pos := _, after := _, guard := _ }) (by kernel_rfl) ?_) | (with_reducible refine wpList_skip (o := { dst := some 52, op := _, type := _, pos := _, after := _, guard := _ }) (by kernel_rfl) ?_) | (with_reducible refine wpList_skip (o := { dst := some 53, op := _, type := _, pos := _, after := _, guard := _ }) (by kernel_rfl) ?_) | (with_reducible refine wpList_skip (o := { dst := some 72, op := _, type := _, pos := _, after := _, guard := _ }) (by kernel_rfl) ?_) | (with_reducible refine wpList_skip (o := { dst := some 73, op := _, type := _, pos := _, after := _, guard := _ }) (by kernel_rfl) ?_) | (with_reducible refine wpList_skip (o := { dst := some 74, op := _, type := _, pos := _, after := _, guard := _ }) (by kernel_rfl) ?_)); try simp only [Act.put, List.setIfInBounds_toArray, List.set_cons_zero, List.set_cons_succ]))
        go_roundw
        case rel => exact ⟨j + 1, by omega, by go_num, HT1.out, Lib.hid (KP.out.sub (by simp) (by simp) (List.Sublist.cons _ (List.Sublist.refl _))), BP⟩
        case measure => simp [intOf]; omega
      · have hq := hHIT (by rw [hs]; decide)
        rw [hs] at hq
        have h9' := h9 (by rw [hq]; decide)
        subst h9'
        rw [hq] at hP
        cases hP
        obtain rfl : n8 = 0 := HL8.out.symm
        clear hHIT hq h8 h9 hs
        go_wp2_with (first
          | ((first | (with_reducible refine wpList_skip (o := { dst := some 42, op := _, type := _, pos := _, after := _, guard := _ }) (by kernel_rfl) ?_) | (with_reducible refine wpList_skip (o := { dst := some 43, op := _, type := _, pos := _, after := _, guard := _ }) (by kernel_rfl) ?_) | (with_reducible refine wpList_skip (o := { dst := some 44, op := _, type := _, pos := _, after := _, guard := _ }) (by kernel_rfl) ?_) | (with_reducible refine wpList_skip (o := { dst := some 45, op := _, type := _, pos := _, after := _, guard := _ }) (by kernel_rfl) ?_) | (with_reducible refine wpList_skip (o := { dst := some 46, op := _, type := _, pos := _, after := _, guard := _ }) (by kernel_rfl) ?_) | (with_reducible refine wpList_skip (o := { dst := some 47, op := _, type := _, pos := _, after := _, guard := _ }) (by kernel_rfl) ?_) | (with_reducible refine wpList_skip (o := { dst := some 48, op := _, type := _, pos := _, after := _, guard := _ }) (by kernel_rfl) ?_) | (with_reducible refine wpList_skip (o := { dst := some 49, op := _, type := _, pos := _, after := _, guard := _ }) (by kernel_rfl) ?_) | (with_reducible refine wpList_skip (o := { dst := some 50, op := _, type := _, pos := _, after := _, guard := _ }) (by kernel_rfl) ?_) | (with_reducible refine wpList_skip (o := { dst := some 51, op := _, type := _, pos := _, after := _, guard := _ }) (by kernel_rfl) ?_) | (with_reducible refine wpList_skip (o := { dst := some 52, op := _, type := _, pos := _, after := _, guard := _ }) (by kernel_rfl) ?_) | (with_reducible refine wpList_skip (o := { dst := some 53, op := _, type := _, pos := _, after := _, guard := _ }) (by kernel_rfl) ?_) | (with_reducible refine wpList_skip (o := { dst := some 54, op := _, type := _, pos := _, after := _, guard := _ }) (by kernel_rfl) ?_)); try simp only [Act.put, List.setIfInBounds_toArray, List.set_cons_zero, List.set_cons_succ])
          | ((with_reducible refine at_wp ?_); refine at_ld (by rfl) ?_; first
        | (refine at_load 39 (.tmp 4) (by rfl) ?_; refine wpList_load_row (by rfl) 39 (.tmp 4) (by rfl) (w2.heap.size + 1) (by rfl) 39 #[.bool true, .int .i64 0, .int .u32 1] (0, 0) _ (KP.out.row 1 rfl) Try.underlying39 (by rfl) info_X ?_)
        | (refine at_load 24 (.tmp 60) (by rfl) ?_; refine wpList_get_g (by kernel_rfl) 24 (.tmp 60) (by rfl) (w2.heap.size) 8 (by rfl) 28 #[.int .u8 k0, .int .u8 0, .int .i64 0, .slice A7 n7 c7, .int .i64 0, .int .i64 0, .int .i64 0, .int .u32 0, .slice A8 0 c8, .bool false, .bool false, .int .i64 0, .int .u8 0] (.slice A8 0 c8) _ (KP.out.row 2 rfl) (by rfl) Try.underlying24 (by rfl) ?_))
          | (go_at_call 11; refine (wakes4 _).mono ?_; rintro e w9 ⟨rfl, hb9⟩))
        go_ret
        exact ⟨rfl, below_step BP.out hb9⟩
      · have HT1 := Lib.hid (HTAKE.out hs)
        clear hHIT h8 h9 hs hP
        go_wp2_with (first
          | ((first | (with_reducible refine wpList_skip (o := { dst := some 46, op := _, type := _, pos := _, after := _, guard := _ }) (by kernel_rfl) ?_) | (with_reducible refine wpList_skip (o := { dst := some 47, op := _, type := _, pos := _, after := _, guard := _ }) (by kernel_rfl) ?_) | (with_reducible refine wpList_skip (o := { dst := some 48, op := _, type := _, pos := _, after := _, guard := _ }) (by kernel_rfl) ?_) | (with_reducible refine wpList_skip (o := { dst := some 49, op := _, type := _, pos := _, after := _, guard := _ }) (by kernel_rfl) ?_) | (with_reducible refine wpList_skip (o := { dst := some 50, op := _, type := _, pos := _, after := _, guard := _ }) (by kernel_rfl) ?_) | (with_reducible refine wpList_skip (o := { dst := some 51, op := _, type := _, pos := _, after := _, guard := _ }) (by kernel_rfl) ?_) | (with_reducible refine wpList_skip (o := { dst := some 52, op := _, type := _, pos := _, after := _, guard := _ }) (by kernel_rfl) ?_) | (with_reducible refine wpList_skip (o := { dst := some 53, op := _, type := _, pos := _, after := _, guard := _ }) (by kernel_rfl) ?_) | (with_reducible refine wpList_skip (o := { dst := some 72, op := _, type := _, pos := _, after := _, guard := _ }) (by kernel_rfl) ?_) | (with_reducible refine wpList_skip (o := { dst := some 73, op := _, type := _, pos := _, after := _, guard := _ }) (by kernel_rfl) ?_) | (with_reducible refine wpList_skip (o := { dst := some 74, op := _, type := _, pos := _, after := _, guard := _ }) (by kernel_rfl) ?_)); try simp only [Act.put, List.setIfInBounds_toArray, List.set_cons_zero, List.set_cons_succ]))
        go_roundw
        case rel => exact ⟨j + 1, by omega, by go_num, HT1.out, Lib.hid (KP.out.sub (by simp) (by simp) (List.Sublist.cons _ (List.Sublist.refl _))), BP⟩
        case measure => simp [intOf]; omega
      · have hq := hHIT (by rw [hs]; decide)
        rw [hs] at hq
        have h9' := h9 (by rw [hq]; decide)
        subst h9'
        rw [hq] at hP
        cases hP
        obtain rfl : n8 = 0 := HL8.out.symm
        clear hHIT hq h8 h9 hs
        go_wp2_with (first
          | ((first | (with_reducible refine wpList_skip (o := { dst := some 37, op := _, type := _, pos := _, after := _, guard := _ }) (by kernel_rfl) ?_) | (with_reducible refine wpList_skip (o := { dst := some 38, op := _, type := _, pos := _, after := _, guard := _ }) (by kernel_rfl) ?_) | (with_reducible refine wpList_skip (o := { dst := some 39, op := _, type := _, pos := _, after := _, guard := _ }) (by kernel_rfl) ?_) | (with_reducible refine wpList_skip (o := { dst := some 50, op := _, type := _, pos := _, after := _, guard := _ }) (by kernel_rfl) ?_) | (with_reducible refine wpList_skip (o := { dst := some 51, op := _, type := _, pos := _, after := _, guard := _ }) (by kernel_rfl) ?_) | (with_reducible refine wpList_skip (o := { dst := some 52, op := _, type := _, pos := _, after := _, guard := _ }) (by kernel_rfl) ?_)); try simp only [Act.put, List.setIfInBounds_toArray, List.set_cons_zero, List.set_cons_succ])
          | ((with_reducible refine at_wp ?_); refine at_ld (by rfl) ?_; first
        | (refine at_load 39 (.tmp 4) (by rfl) ?_; refine wpList_load_row (by rfl) 39 (.tmp 4) (by rfl) (w2.heap.size + 1) (by rfl) 39 #[.bool true, .int .i64 0, .int .u32 1] (0, 0) _ (KP.out.row 1 rfl) Try.underlying39 (by rfl) info_X ?_)
        | (refine at_load 24 (.tmp 60) (by rfl) ?_; refine wpList_get_g (by kernel_rfl) 24 (.tmp 60) (by rfl) (w2.heap.size) 8 (by rfl) 28 #[.int .u8 k0, .int .u8 0, .int .i64 0, .slice A7 n7 c7, .int .i64 0, .int .i64 0, .int .i64 0, .int .u32 0, .slice A8 0 c8, .bool false, .bool false, .int .i64 0, .int .u8 0] (.slice A8 0 c8) _ (KP.out.row 2 rfl) (by rfl) Try.underlying24 (by rfl) ?_))
          | (go_at_call 11; refine (wakes4 _).mono ?_; rintro e w9 ⟨rfl, hb9⟩))
        go_ret
        exact ⟨rfl, below_step BP.out hb9⟩
      · have hq := hHIT (by rw [hs]; decide)
        rw [hs] at hq
        have h9' := h9 (by rw [hq]; decide)
        subst h9'
        rw [hq] at hP
        cases hP
        obtain rfl : n8 = 0 := HL8.out.symm
        clear hHIT hq h8 h9 hs
        go_wp2_with (first
          | ((first | (with_reducible refine wpList_skip (o := { dst := some 37, op := _, type := _, pos := _, after := _, guard := _ }) (by kernel_rfl) ?_) | (with_reducible refine wpList_skip (o := { dst := some 38, op := _, type := _, pos := _, after := _, guard := _ }) (by kernel_rfl) ?_) | (with_reducible refine wpList_skip (o := { dst := some 39, op := _, type := _, pos := _, after := _, guard := _ }) (by kernel_rfl) ?_)); try simp only [Act.put, List.setIfInBounds_toArray, List.set_cons_zero, List.set_cons_succ])
          | ((with_reducible refine at_wp ?_); refine at_ld (by rfl) ?_; first
        | (refine at_load 39 (.tmp 4) (by rfl) ?_; refine wpList_load_row (by rfl) 39 (.tmp 4) (by rfl) (w2.heap.size + 1) (by rfl) 39 #[.bool true, .int .i64 0, .int .u32 1] (0, 0) _ (KP.out.row 1 rfl) Try.underlying39 (by rfl) info_X ?_)
        | (refine at_load 24 (.tmp 60) (by rfl) ?_; refine wpList_get_g (by kernel_rfl) 24 (.tmp 60) (by rfl) (w2.heap.size) 8 (by rfl) 28 #[.int .u8 k0, .int .u8 0, .int .i64 0, .slice A7 n7 c7, .int .i64 0, .int .i64 0, .int .i64 0, .int .u32 0, .slice A8 0 c8, .bool false, .bool false, .int .i64 0, .int .u8 0] (.slice A8 0 c8) _ (KP.out.row 2 rfl) (by rfl) Try.underlying24 (by rfl) ?_))
          | (go_at_call 11; refine (wakes4 _).mono ?_; rintro e w9 ⟨rfl, hb9⟩))
        go_ret
        exact ⟨rfl, below_step BP.out hb9⟩
      · have HT1 := Lib.hid (HTAKE.out hs)
        clear hHIT h8 h9 hs hP
        go_wp2_with (first
          | ((first | (with_reducible refine wpList_skip (o := { dst := some 37, op := _, type := _, pos := _, after := _, guard := _ }) (by kernel_rfl) ?_) | (with_reducible refine wpList_skip (o := { dst := some 38, op := _, type := _, pos := _, after := _, guard := _ }) (by kernel_rfl) ?_) | (with_reducible refine wpList_skip (o := { dst := some 39, op := _, type := _, pos := _, after := _, guard := _ }) (by kernel_rfl) ?_) | (with_reducible refine wpList_skip (o := { dst := some 72, op := _, type := _, pos := _, after := _, guard := _ }) (by kernel_rfl) ?_) | (with_reducible refine wpList_skip (o := { dst := some 73, op := _, type := _, pos := _, after := _, guard := _ }) (by kernel_rfl) ?_) | (with_reducible refine wpList_skip (o := { dst := some 74, op := _, type := _, pos := _, after := _, guard := _ }) (by kernel_rfl) ?_)); try simp only [Act.put, List.setIfInBounds_toArray, List.set_cons_zero, List.set_cons_succ]))
        go_roundw
        case rel => exact ⟨j + 1, by omega, by go_num, HT1.out, Lib.hid (KP.out.sub (by simp) (by simp) (List.Sublist.cons _ (List.Sublist.refl _))), BP⟩
        case measure => simp [intOf]; omega
      · have hq := hHIT (by rw [hs]; decide)
        rw [hs] at hq
        have h9' := h9 (by rw [hq]; decide)
        subst h9'
        rw [hq] at hP
        cases hP
        obtain rfl : n8 = 0 := HL8.out.symm
        clear hHIT hq h8 h9 hs
        go_wp2_with (first
          | ((first | (with_reducible refine wpList_skip (o := { dst := some 37, op := _, type := _, pos := _, after := _, guard := _ }) (by kernel_rfl) ?_) | (with_reducible refine wpList_skip (o := { dst := some 38, op := _, type := _, pos := _, after := _, guard := _ }) (by kernel_rfl) ?_) | (with_reducible refine wpList_skip (o := { dst := some 39, op := _, type := _, pos := _, after := _, guard := _ }) (by kernel_rfl) ?_) | (with_reducible refine wpList_skip (o := { dst := some 46, op := _, type := _, pos := _, after := _, guard := _ }) (by kernel_rfl) ?_) | (with_reducible refine wpList_skip (o := { dst := some 47, op := _, type := _, pos := _, after := _, guard := _ }) (by kernel_rfl) ?_) | (with_reducible refine wpList_skip (o := { dst := some 48, op := _, type := _, pos := _, after := _, guard := _ }) (by kernel_rfl) ?_) | (with_reducible refine wpList_skip (o := { dst := some 49, op := _, type := _, pos := _, after := _, guard := _ }) (by kernel_rfl) ?_) | (with_reducible refine wpList_skip (o := { dst := some 50, op := _, type := _, pos := _, after := _, guard := _ }) (by kernel_rfl) ?_) | (with_reducible refine wpList_skip (o := { dst := some 51, op := _, type := _, pos := _, after := _, guard := _ }) (by kernel_rfl) ?_) | (with_reducible refine wpList_skip (o := { dst := some 52, op := _, type := _, pos := _, after := _, guard := _ }) (by kernel_rfl) ?_) | (with_reducible refine wpList_skip (o := { dst := some 53, op := _, type := _, pos := _, after := _, guard := _ }) (by kernel_rfl) ?_)); try simp only [Act.put, List.setIfInBounds_toArray, List.set_cons_zero, List.set_cons_succ])
          | ((with_reducible refine at_wp ?_); refine at_ld (by rfl) ?_; first
        | (refine at_load 39 (.tmp 4) (by rfl) ?_; refine wpList_load_row (by rfl) 39 (.tmp 4) (by rfl) (w2.heap.size + 1) (by rfl) 39 #[.bool true, .int .i64 0, .int .u32 3] (0, 0) _ (KP.out.row 1 rfl) Try.underlying39 (by rfl) info_X ?_)
        | (refine at_load 24 (.tmp 80) (by rfl) ?_; refine wpList_get_g (by kernel_rfl) 24 (.tmp 80) (by rfl) (w2.heap.size) 8 (by rfl) 28 #[.int .u8 k0, .int .u8 0, .int .i64 0, .slice A7 n7 c7, .int .i64 0, .int .i64 0, .int .i64 0, .int .u32 0, .slice A8 0 c8, .bool false, .bool false, .int .i64 0, .int .u8 0] (.slice A8 0 c8) _ (KP.out.row 2 rfl) (by rfl) Try.underlying24 (by rfl) ?_))
          | (go_at_call 11; refine (wakes4 _).mono ?_; rintro e w9 ⟨rfl, hb9⟩))
        go_ret
        exact ⟨rfl, below_step BP.out hb9⟩
      · have HT1 := Lib.hid (HTAKE.out hs)
        clear hHIT h8 h9 hs hP
        go_wp2_with (first
          | ((first | (with_reducible refine wpList_skip (o := { dst := some 37, op := _, type := _, pos := _, after := _, guard := _ }) (by kernel_rfl) ?_) | (with_reducible refine wpList_skip (o := { dst := some 38, op := _, type := _, pos := _, after := _, guard := _ }) (by kernel_rfl) ?_) | (with_reducible refine wpList_skip (o := { dst := some 39, op := _, type := _, pos := _, after := _, guard := _ }) (by kernel_rfl) ?_) | (with_reducible refine wpList_skip (o := { dst := some 46, op := _, type := _, pos := _, after := _, guard := _ }) (by kernel_rfl) ?_) | (with_reducible refine wpList_skip (o := { dst := some 47, op := _, type := _, pos := _, after := _, guard := _ }) (by kernel_rfl) ?_) | (with_reducible refine wpList_skip (o := { dst := some 48, op := _, type := _, pos := _, after := _, guard := _ }) (by kernel_rfl) ?_) | (with_reducible refine wpList_skip (o := { dst := some 49, op := _, type := _, pos := _, after := _, guard := _ }) (by kernel_rfl) ?_) | (with_reducible refine wpList_skip (o := { dst := some 50, op := _, type := _, pos := _, after := _, guard := _ }) (by kernel_rfl) ?_) | (with_reducible refine wpList_skip (o := { dst := some 51, op := _, type := _, pos := _, after := _, guard := _ }) (by kernel_rfl) ?_) | (with_reducible refine wpList_skip (o := { dst := some 52, op := _, type := _, pos := _, after := _, guard := _ }) (by kernel_rfl) ?_) | (with_reducible refine wpList_skip (o := { dst := some 53, op := _, type := _, pos := _, after := _, guard := _ }) (by kernel_rfl) ?_)); try simp only [Act.put, List.setIfInBounds_toArray, List.set_cons_zero, List.set_cons_succ]))
        go_roundw
        case rel => exact ⟨j + 1, by omega, by go_num, HT1.out, Lib.hid (KP.out.sub (by simp) (by simp) (List.Sublist.cons _ (List.Sublist.refl _))), BP⟩
        case measure => simp [intOf]; omega
      · have HT1 := Lib.hid (HTAKE.out hs)
        clear hHIT h8 h9 hs hP
        go_wp2_with (first
          | ((first | (with_reducible refine wpList_skip (o := { dst := some 37, op := _, type := _, pos := _, after := _, guard := _ }) (by kernel_rfl) ?_) | (with_reducible refine wpList_skip (o := { dst := some 38, op := _, type := _, pos := _, after := _, guard := _ }) (by kernel_rfl) ?_) | (with_reducible refine wpList_skip (o := { dst := some 39, op := _, type := _, pos := _, after := _, guard := _ }) (by kernel_rfl) ?_) | (with_reducible refine wpList_skip (o := { dst := some 46, op := _, type := _, pos := _, after := _, guard := _ }) (by kernel_rfl) ?_) | (with_reducible refine wpList_skip (o := { dst := some 47, op := _, type := _, pos := _, after := _, guard := _ }) (by kernel_rfl) ?_) | (with_reducible refine wpList_skip (o := { dst := some 48, op := _, type := _, pos := _, after := _, guard := _ }) (by kernel_rfl) ?_) | (with_reducible refine wpList_skip (o := { dst := some 49, op := _, type := _, pos := _, after := _, guard := _ }) (by kernel_rfl) ?_) | (with_reducible refine wpList_skip (o := { dst := some 50, op := _, type := _, pos := _, after := _, guard := _ }) (by kernel_rfl) ?_) | (with_reducible refine wpList_skip (o := { dst := some 51, op := _, type := _, pos := _, after := _, guard := _ }) (by kernel_rfl) ?_) | (with_reducible refine wpList_skip (o := { dst := some 52, op := _, type := _, pos := _, after := _, guard := _ }) (by kernel_rfl) ?_) | (with_reducible refine wpList_skip (o := { dst := some 53, op := _, type := _, pos := _, after := _, guard := _ }) (by kernel_rfl) ?_) | (with_reducible refine wpList_skip (o := { dst := some 72, op := _, type := _, pos := _, after := _, guard := _ }) (by kernel_rfl) ?_) | (with_reducible refine wpList_skip (o := { dst := some 73, op := _, type := _, pos := _, after := _, guard := _ }) (by kernel_rfl) ?_) | (with_reducible refine wpList_skip (o := { dst := some 74, op := _, type := _, pos := _, after := _, guard := _ }) (by kernel_rfl) ?_)); try simp only [Act.put, List.setIfInBounds_toArray, List.set_cons_zero, List.set_cons_succ]))
        go_roundw
        case rel => exact ⟨j + 1, by omega, by go_num, HT1.out, Lib.hid (KP.out.sub (by simp) (by simp) (List.Sublist.cons _ (List.Sublist.refl _))), BP⟩
        case measure => simp [intOf]; omega
    · obtain rfl : j = n := by omega
      rw [List.take_of_length_le (by rw [HX.out]; exact Nat.le_refl _)] at HALL
      have hf := pairsX_none HALL.out
      rw [hf] at hP
      cases hP
      obtain rfl := h8 hf
      clear hf h8 h9
      go_wp2_with (first
        | ((with_reducible refine at_wp ?_); refine at_ld (by rfl) ?_; first
        | (refine at_load 39 (.tmp 4) (by rfl) ?_; refine wpList_load_row (by rfl) 39 (.tmp 4) (by rfl) (w2.heap.size + 1) (by rfl) 39 #[.bool false, .int .i64 0, .int .u32 0] (0, 0) _ (KR.out.row 0 rfl) Try.underlying39 (by rfl) info_X ?_)
        | (refine at_load 24 (.tmp 92) (by rfl) ?_; refine wpList_get_g (by kernel_rfl) 24 (.tmp 92) (by rfl) (w2.heap.size) 8 (by rfl) 28 #[.int .u8 k0, .int .u8 0, .int .i64 0, .slice A7 n7 c7, .int .i64 0, .int .i64 0, .int .i64 0, .int .u32 0, .slice A8 n8 c8, .bool false, .bool false, .int .i64 0, .int .u8 0] (.slice A8 n8 c8) _ (KR.out.row 1 rfl) (by rfl) Try.underlying24 (by rfl) ?_))
        | (go_at_call 20; (first | (have hc := (rpairs_any A8 A n8 n c8 c _ _ _ (KR.out.p _ (List.Mem.head _)).1 (KR.out.p _ (List.Mem.tail _ (List.Mem.head _))).1 (by have q1 := HL8.out; have q2 := HX.out; omega)); (refine hc.mono ?_); clear hc) | (have hc := (rpairs_any A8 A n8 j c8 c _ _ _ (KR.out.p _ (List.Mem.head _)).1 (KR.out.p _ (List.Mem.tail _ (List.Mem.head _))).1 (by have q1 := HL8.out; have q2 := HX.out; omega)); (refine hc.mono ?_); clear hc)); rintro e w8 ⟨rfl, hb8⟩; rw [beq_self_eq_true]; have B8 := Lib.hid (below_step BR.out hb8); clear hb8)
        | (go_at_call 11; refine (wakes4 _).mono ?_; rintro e w9 ⟨rfl, hb9⟩))
      go_ret
      exact ⟨rfl, below_step B8.out hb9⟩
theorem set4_any (A : Option Addr) (n c : Nat) (l : List Pr) (w : World) (hA : Ps w w.heap.size A n l) : Calls Try.prog 6 #[.slice A n c] w fun e' w' => e' = .returned (.bool true) ∧ Below w.heap.size w w' := by
  by_cases hg : 300 < n
  · exact set4_G A n c l w hA (by omega)
  · have hl : l.length = n := hA.1
    have hlen := ppV_len l
    have hp := fun (A' : Option Addr) (c' : Nat) (w0 : World) (h1 : Bs w0 w0.heap.size A' (ppV l).length (ppV l)) (h2 : A' = none → c' = 0) (h3 : (ppV l).length ≤ c') => p_parse 0 0 4 0 A' _ c' (ppV l) w0 h1 h2 (by omega) h3
    rw [set_parse l (by omega)] at hp
    by_cases hf : pairsX l = fine
    · rw [if_pos hf] at hp
      exact set4_at A n c l w hA (by omega) 4 false 0 0 l _ rfl hf (fun _ => rfl) (fun h => absurd hf h) (Lib.hid hp)
    · rw [if_neg hf] at hp
      exact set4_at A n c l w hA (by omega) 0 _ _ _ [] _ rfl rfl (fun h => absurd h hf) (fun _ => rfl) (Lib.hid hp)
end Go.Proofs.Ytgkbjopgmbdnoaa
