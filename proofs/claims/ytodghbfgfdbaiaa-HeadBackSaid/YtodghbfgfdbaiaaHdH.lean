/- The document's own Whole of layer 2. -/
import Derived.Test.YtodghbfgfdbaiaaHdG
namespace Go.Proofs.Ytodghbfgfdbaiaa
open Go.RowKit Oct

theorem four_box1 {w w5 : World} {u0 u1 u2 u3 : Value} {t : TypeId} (hb : Below (w.alloc (.cells #[u0, u1, u2, u3] t)).heap.size (w.alloc (.cells #[u0, u1, u2, u3] t)) w5) :
    Four w5 w.heap.size u0 u1 u2 u3 ∧ ∀ j, w5.frozen? ⟨w.heap.size, j, none⟩ = false := by
  refine ⟨(Four.new w t u0 u1 u2 u3).below hb (by simp), fun j => ?_⟩
  rw [(bcell hb).2 _ j (by simp)]
  simp [go_sem]
theorem tE_yes {n : Nat} (h : 9 ≤ n) : tE n = 0 := if_pos h
theorem tE_no {n : Nat} (h : ¬ 9 ≤ n) : tE n = 10 := if_neg h
set_option maxRecDepth 100000 in
theorem rwhole_no (A : Option Addr) (B n c : Nat) (xs : List UInt8) (w : World) (hA : Bs w B A n xs) (hn : n ≤ 1000000) (hnc : n ≤ c) (hB : B ≤ w.heap.size) (h : ¬ WholeIn xs n) :
    Calls Try.prog 14 #[.slice A n c] w fun e w' => e = .returned (.tuple #[.agg #[.int .i64 (tL xs n), .int .u8 (tK xs n), .int .u8 (tF xs n), .int .i64 (tS xs n)], .slice none 0 0, .slice none 0 0, .int .i64 10]) ∧ Below w.heap.size w w' := by
  have HA := Lib.hid hA
  have hl : (xs.drop 9).length = n - 9 := by rw [List.length_drop, hA.1]
  have HT := Lib.hid (fun W (hW : Bs W B A n xs) (hBW : B ≤ W.heap.size) => rhtake_tot A B n c xs W hW hn hnc hBW)
  clear hA
  by_cases h9 : 9 ≤ n
  · have ht := tE_yes h9
    have hs : n < 9 + hL xs := by
      rcases Nat.lt_or_ge n (9 + hL xs) with h1 | h1
      · exact h1
      · exact absurd ⟨h9, h1⟩ h
    have hLx : tL xs n = hL xs := if_pos h9
    have HLX := Lib.hid hLx
    have hd : decide (n - 9 < tL xs n) = true := by rw [hLx]; simp; omega
    clear h hLx
    go_enter Try.func14, Try.ntmps14
    go_wp2_with (go_at_call 11; refine (HT.out _ (HA.out.alloc hB _) (by simp; omega)).mono ?_; rintro e w1 ⟨v1, rfl, ho1, hb1⟩; rw [ht]; obtain ⟨A1, k1, rfl, hk1, hn1, hr1⟩ := ho1.form2 hl; clear ho1 hn1 hr1; obtain ⟨⟨c0, c1, c2, c3⟩, hfr⟩ := four_box1 hb1; have hz1 := hb1.size; rw [World.size_alloc] at hz1; have hlt1 : w.heap.size < w1.heap.size := hz1; have hne1 : w.heap.size ≠ w1.heap.size := Nat.ne_of_lt hz1)
    have hF := (four_box1 hb1).1
    have hFs := hF.set (.int .i64 (tL xs n)) (.int .u8 (tK xs n)) (.int .u8 (tF xs n)) (.int .i64 (tS xs n))
    have hbs := set4_below (((Below.refl _ w).alloc (Nat.le_refl _) _).trans (hb1.mono (by simp))) (Nat.le_refl _) (.int .i64 (tL xs n)) (.int .u8 (tK xs n)) (.int .u8 (tF xs n)) (.int .i64 (tS xs n))
    obtain ⟨f0, f1, f2, f3⟩ := hFs.below ((Below.refl _ (set4 w1 w.heap.size (.int .i64 (tL xs n)) (.int .u8 (tK xs n)) (.int .u8 (tF xs n)) (.int .i64 (tS xs n)))).alloc (Nat.le_refl _) (.cells #[.int .i64 (tL xs n), .int .u8 (tK xs n), .int .u8 (tF xs n), .int .i64 (tS xs n)] 23)) (by rw [set4_size]; exact hz1)
    unfold set4 at f0 f1 f2 f3
    refine bodyPost_ret (v := .tuple #[.agg #[.int .i64 (tL xs n), .int .u8 (tK xs n), .int .u8 (tF xs n), .int .i64 (tS xs n)], .slice none 0 0, .slice none 0 0, .int .i64 10]) (by simp [results, Try.results14, go_sem, f0, f1, f2, f3]) rfl ⟨rfl, hbs.alloc (by rw [set4_size]; omega) _⟩
  · have ht := tE_no h9
    clear h
    go_enter Try.func14, Try.ntmps14
    go_wp2_with (go_at_call 11; refine (HT.out _ (HA.out.alloc hB _) (by simp; omega)).mono ?_; rintro e w1 ⟨v1, rfl, ho1, hb1⟩; rw [ht]; obtain ⟨A1, k1, rfl, hk1, hn1, hr1⟩ := ho1.form2 hl; clear ho1 hn1 hr1; obtain ⟨⟨c0, c1, c2, c3⟩, hfr⟩ := four_box1 hb1; have hz1 := hb1.size; rw [World.size_alloc] at hz1; have hlt1 : w.heap.size < w1.heap.size := hz1; have hne1 : w.heap.size ≠ w1.heap.size := Nat.ne_of_lt hz1)
    have hF := (four_box1 hb1).1
    have hFs := hF.set (.int .i64 (tL xs n)) (.int .u8 (tK xs n)) (.int .u8 (tF xs n)) (.int .i64 (tS xs n))
    have hbs := set4_below (((Below.refl _ w).alloc (Nat.le_refl _) _).trans (hb1.mono (by simp))) (Nat.le_refl _) (.int .i64 (tL xs n)) (.int .u8 (tK xs n)) (.int .u8 (tF xs n)) (.int .i64 (tS xs n))
    obtain ⟨f0, f1, f2, f3⟩ := hFs.below ((Below.refl _ (set4 w1 w.heap.size (.int .i64 (tL xs n)) (.int .u8 (tK xs n)) (.int .u8 (tF xs n)) (.int .i64 (tS xs n)))).alloc (Nat.le_refl _) (.cells #[.int .i64 (tL xs n), .int .u8 (tK xs n), .int .u8 (tF xs n), .int .i64 (tS xs n)] 23)) (by rw [set4_size]; exact hz1)
    unfold set4 at f0 f1 f2 f3
    refine bodyPost_ret (v := .tuple #[.agg #[.int .i64 (tL xs n), .int .u8 (tK xs n), .int .u8 (tF xs n), .int .i64 (tS xs n)], .slice none 0 0, .slice none 0 0, .int .i64 10]) (by simp [results, Try.results14, go_sem, f0, f1, f2, f3]) rfl ⟨rfl, hbs.alloc (by rw [set4_size]; omega) _⟩
theorem ownB_addr0 {W : World} {B : Nat} {t : TypeId} {a : Addr} {n c : Nat} {xs : List UInt8} (h : OwnB W B t (.slice (some a) n c) xs) : ∃ g, a = ⟨g, 0, none⟩ ∧ B ≤ g ∧ g < W.heap.size := by
  rcases h.2 with ⟨h2, _⟩ | ⟨g, cap, cur, e, hB, hh, rest⟩
  · cases h2
  · cases e
    exact ⟨g, rfl, hB, (Array.getElem?_eq_some_iff.1 hh).1⟩
section
variable {w : World} {g q : Nat} {u0 u1 u2 u3 v0 v1 v2 v3 : Value}
theorem fo (h : Four w g u0 u1 u2 u3) : w.cell? ⟨g, 0, none⟩ = some u0 ∧ w.cell? ⟨g, 1, none⟩ = some u1 ∧ w.cell? ⟨g, 2, none⟩ = some u2 ∧ w.cell? ⟨g, 3, none⟩ = some u3 := h
theorem fod (h : Four w g u0 u1 u2 u3) : w.drew.cell? ⟨g, 0, none⟩ = some u0 ∧ w.drew.cell? ⟨g, 1, none⟩ = some u1 ∧ w.drew.cell? ⟨g, 2, none⟩ = some u2 ∧ w.drew.cell? ⟨g, 3, none⟩ = some u3 := h
theorem Four.al (h : Four w g u0 u1 u2 u3) (hg : g < w.heap.size) (o : Obj) : Four (w.alloc o) g u0 u1 u2 u3 := h.below ((Below.refl _ w).alloc (Nat.le_refl _) o) hg
theorem Four.st (h : Four w q u0 u1 u2 u3) (hne : q ≠ g) : Four (set4 w g v0 v1 v2 v3) q u0 u1 u2 u3 := ⟨cell_set4 hne h.1, cell_set4 hne h.2.1, cell_set4 hne h.2.2.1, cell_set4 hne h.2.2.2⟩
theorem fost (h : Four w q u0 u1 u2 u3) (hne : q ≠ g) :
    ((((w.setCell ⟨g, 0, none⟩ v0).setCell ⟨g, 1, none⟩ v1).setCell ⟨g, 2, none⟩ v2).setCell ⟨g, 3, none⟩ v3).cell? ⟨q, 0, none⟩ = some u0 ∧
    ((((w.setCell ⟨g, 0, none⟩ v0).setCell ⟨g, 1, none⟩ v1).setCell ⟨g, 2, none⟩ v2).setCell ⟨g, 3, none⟩ v3).cell? ⟨q, 1, none⟩ = some u1 ∧
    ((((w.setCell ⟨g, 0, none⟩ v0).setCell ⟨g, 1, none⟩ v1).setCell ⟨g, 2, none⟩ v2).setCell ⟨g, 3, none⟩ v3).cell? ⟨q, 2, none⟩ = some u2 ∧
    ((((w.setCell ⟨g, 0, none⟩ v0).setCell ⟨g, 1, none⟩ v1).setCell ⟨g, 2, none⟩ v2).setCell ⟨g, 3, none⟩ v3).cell? ⟨q, 3, none⟩ = some u3 := h.st hne
end
theorem frozen_al {w : World} {g j : Nat} (h : w.frozen? ⟨g, j, none⟩ = false) (hg : g < w.heap.size) (o : Obj) : (w.alloc o).frozen? ⟨g, j, none⟩ = false := by
  rw [World.frozen?_alloc_old _ _ _ (by simp; omega)]; exact h
theorem two_below {w0 w5 w6 : World} {o o' : Obj} (h1 : Below w0.heap.size ((w0.alloc o).alloc o').drew w5) (h2 : Below w0.heap.size w5 w6) : Below w0.heap.size w0 w6 :=
  (((Below.refl _ w0).alloc (Nat.le_refl _) o).alloc (by simp) o').drew.trans (h1.trans h2)
theorem two_lit {w0 w5 : World} {o : Obj} {t : TypeId} (hg : ((w0.alloc o).alloc (.cells #[] t)).drew.grownBy w5 (some w0.heap.size)) : OwnB w5 w0.heap.size t (.slice (some ⟨w0.heap.size + 1, 0, none⟩) 0 0) [] := by
  have h := (OwnB.lit2 (w0.alloc o) t w0.heap.size (w0.heap.size + 1) (by simp) (by omega)).drew
  exact h.beside hg (fun k hk => by
    have : k = w0.heap.size + 1 := by simpa [Value.ownBlock] using hk.symm
    intro e; cases e; omega)
theorem own_ne {w5 : World} {B : Nat} {t : TypeId} {v : Value} {xs : List UInt8} (h : OwnB w5 B t v xs) : ∀ k, v.ownBlock = some k → some w5.heap.size ≠ some k := fun k hk e => by
  have := h.block hk
  cases e
  omega
theorem own_ne2 {w0 : World} {o o' : Obj} {v : Value} (h : v.ownBlock = (Value.slice (some ⟨w0.heap.size, 0, none⟩) 0 0).ownBlock ∨ v.ownBlock = some ((w0.alloc o).alloc o').drew.heap.size) : ∀ k, v.ownBlock = some k → some (w0.heap.size + 1) ≠ some k := fun k hk e => by
  cases e
  rcases h with h | h
  · rw [hk] at h; simp [Value.ownBlock] at h
  · rw [hk] at h; simp at h
theorem two_lit2 {w0 w5 : World} {o : Obj} {t : TypeId} (hg : ((w0.alloc (.cells #[] t)).alloc o).drew.grownBy w5 (some (w0.heap.size + 1))) : OwnB w5 w0.heap.size t (.slice (some ⟨w0.heap.size, 0, none⟩) 0 0) [] := by
  have h := ((OwnB.lit2 w0 t w0.heap.size w0.heap.size rfl (Nat.le_refl _)).alloc o).drew
  exact h.beside hg (fun k hk => by
    have : k = w0.heap.size := by simpa [Value.ownBlock] using hk.symm
    intro e; cases e; omega)
theorem own_ne3 {w0 : World} {o o' : Obj} {v : Value} (h : v.ownBlock = (Value.slice (some ⟨w0.heap.size + 1, 0, none⟩) 0 0).ownBlock ∨ v.ownBlock = some ((w0.alloc o).alloc o').drew.heap.size) : ∀ k, v.ownBlock = some k → some w0.heap.size ≠ some k := fun k hk e => by
  cases e
  rcases h with h | h
  · rw [hk] at h; simp [Value.ownBlock] at h
  · rw [hk] at h; simp at h; omega
theorem box_two {w1 w6 : World} {g : Nat} {u0 u1 u2 u3 : Value} (hg : g < w1.heap.size) (hF : Four w1 g u0 u1 u2 u3) (hfr : ∀ j, w1.frozen? ⟨g, j, none⟩ = false)
    (h1 : Below w1.heap.size w1 w6) : Four w6 g u0 u1 u2 u3 ∧ ∀ j, w6.frozen? ⟨g, j, none⟩ = false :=
  ⟨hF.below h1 hg, fun j => ((bcell h1).2 _ j hg).trans (hfr j)⟩
set_option maxRecDepth 100000 in
set_option maxHeartbeats 2000000 in
theorem rwhole_yes0 (A : Option Addr) (B n c L K F S : Nat) (xs : List UInt8) (w : World) (hL0 : hL xs = L) (hK0 : hK xs = K) (hF0 : hF xs = F) (hS0 : hS xs = S) (hA : Bs w B A n xs) (h9 : 9 ≤ n) (hn : n ≤ 1000000) (hnc : n ≤ c) (hB : B ≤ w.heap.size) (hs : 9 + L ≤ n) :
    Calls Try.prog 14 #[.slice A n c] w fun e w' => ∃ v u, e = .returned (.tuple #[.agg #[.int .i64 L, .int .u8 K, .int .u8 F, .int .i64 S], v, u, .int .i64 0]) ∧ OwnB w' w.heap.size 5 v ((xs.drop 9).take L) ∧ OwnB w' w.heap.size 5 u (xs.drop (9 + L)) ∧ Below w.heap.size w w' := by
  have HA := Lib.hid hA
  have hl : (xs.drop 9).length = n - 9 := by rw [List.length_drop, hA.1]
  have hxd : (xs.drop 9).drop L = xs.drop (9 + L) := by rw [List.drop_drop]
  have HT : Hid (∀ (W : World), Bs W B A n xs → B ≤ W.heap.size → Calls Try.prog 11 #[.slice A n c] W fun e w' => ∃ v, e = .returned (.tuple #[.agg #[.int .i64 L, .int .u8 K, .int .u8 F, .int .i64 S], v, .int .i64 0]) ∧ v ≠ .slice none 0 0 ∧ OwnB w' W.heap.size 5 v (xs.drop 9) ∧ Below W.heap.size W w') :=
    Lib.hid (fun W hW hBW => by
      obtain ⟨b, o, rfl, _, _⟩ := hW.2 (by omega)
      exact rhtake_yes0 b o B n c L K F S xs W hL0 hK0 hF0 hS0 hW h9 hn hnc hBW)
  generalize hys : xs.drop 9 = ys at *
  rw [← hxd]
  have HL := Lib.hid hl
  clear hA hL0 hK0 hF0 hS0 hys hl hxd
  have hd : decide (n - 9 < L) = false := by simp; omega
  obtain ⟨i0, hi, hz0, hz1, hz2⟩ := info_parts info_u8
  have hinf := Lib.hid (And.intro hi (And.intro hz0 (And.intro hz1 hz2)))
  clear hi hz0 hz1 hz2
  go_enter Try.func14, Try.ntmps14
  go_wp2_with (go_at_call 11; refine (HT.out _ (HA.out.alloc hB _) (by simp; omega)).mono ?_; rintro e w1 ⟨v1, rfl, hv1, ho1, hb1⟩; obtain ⟨A1, k1, rfl, hk1, hn1, hr1⟩ := ho1.form2 HL.out; have HV1 := Lib.hid hv1; clear hv1; have HO1 := Lib.hid ho1; have HR1 := Lib.hid hr1; have HN1 := Lib.hid hn1; clear ho1 hr1 hn1)
  have hz1 := hb1.size
  rw [World.size_alloc] at hz1
  obtain ⟨hF1, hfr1⟩ := four_box1 hb1
  have HF1 := Lib.hid hF1
  have HFR1 := Lib.hid hfr1
  have HQ0 := Lib.hid (Four.new w1 23 (.int .i64 L) (.int .u8 K) (.int .u8 F) (.int .i64 S))
  have HB1 := Lib.hid (((Below.refl _ w).alloc (Nat.le_refl _) _).trans (hb1.mono (by simp)))
  clear hF1 hfr1 hb1
  have HF0 := Lib.hid (HF1.out.al hz1 (.cells #[.int .i64 L, .int .u8 K, .int .u8 F, .int .i64 S] 23))
  have HFR0 : Hid (∀ j, _) := Lib.hid (fun j => frozen_al (HFR1.out j) hz1 (.cells #[.int .i64 L, .int .u8 K, .int .u8 F, .int .i64 S] 23))
  have HR0 := Lib.hid ((HR1.out.alloc (Nat.le_refl _) (.cells #[.int .i64 L, .int .u8 K, .int .u8 F, .int .i64 S] 23)))
  have hsz0 : (w1.alloc (.cells #[.int .i64 L, .int .u8 K, .int .u8 F, .int .i64 S] 23)).heap.size = w1.heap.size + 1 := by simp
  have HB0 := Lib.hid (HB1.out.alloc (by omega) (.cells #[.int .i64 L, .int .u8 K, .int .u8 F, .int .i64 S] 23))
  generalize hW0 : w1.alloc (.cells #[.int .i64 L, .int .u8 K, .int .u8 F, .int .i64 S] 23) = W0 at *
  have HSZ0 := Lib.hid hsz0
  have hqW : w1.heap.size < W0.heap.size := by omega
  have hgW : w.heap.size < W0.heap.size := by omega
  have hqW1 : w1.heap.size ≤ W0.heap.size := by omega
  have hqW2 : ∀ {o : Obj}, w1.heap.size ≤ (W0.alloc o).heap.size := by intro o; simp; omega
  have hqW2' : ∀ o : Obj, w1.heap.size < (W0.alloc o).heap.size := by intro o; simp; omega
  have hqg : w1.heap.size ≠ w.heap.size := by omega
  clear hsz0 hW0 HF1 HFR1 HR1 HB1
  rcases A1 with _ | a1
  · have hc : k1 = 0 := HN1.out rfl
    subst hc
    exact absurd (by have : n - 9 = 0 := by omega
                     rw [this]) HV1.out
  · have hln : L ≤ n - 9 := by omega
    have hlk : L ≤ k1 := by omega
    have HP := Lib.hid (HR0.out.take hln)
    obtain ⟨b1, rfl, _, _⟩ := ownB_addr0 HO1.out
    have hcut := HR0.out.cut hln hk1
    rw [Nat.zero_add] at hcut
    obtain ⟨A2, hA2⟩ : ∃ A2, (if k1 = L then some (⟨b1, 0, none⟩ : Addr) else some ⟨b1, L, none⟩) = A2 := ⟨_, rfl⟩
    rw [hA2] at hcut
    have HU := Lib.hid hcut
    have hN2 : A2 = none → k1 - L = 0 := fun h => if_some_ne (hA2.trans h)
    have HN2 := Lib.hid hN2
    clear hcut hN2
    have s1 : (0 : Int) ≤ (L : Int) := by omega
    have s2 : (L : Int) ≤ (k1 : Int) := by omega
    have s3 : (L : Int) ≤ ((n - 9 : Nat) : Int) := by omega
    have s4 : ((n - 9 : Nat) : Int) ≤ (k1 : Int) := by omega
    go_region_held3 (fun W' => W'.cell? ⟨w1.heap.size, 0, none⟩ = some (.int .i64 L) ∧ W'.cell? ⟨w1.heap.size, 1, none⟩ = some (.int .u8 K) ∧ W'.cell? ⟨w1.heap.size, 2, none⟩ = some (.int .u8 F) ∧ W'.cell? ⟨w1.heap.size, 3, none⟩ = some (.int .i64 S))
      (first
        | with_reducible exact fo HQ0.out
        | with_reducible exact fod HQ0.out
        | with_reducible exact fo (HQ0.out.al hqW _)
        | with_reducible exact fod (HQ0.out.al hqW _)
        | with_reducible exact fo HQ5.out
        | with_reducible exact fo (HQ5.out.al hq5 _)
        | with_reducible exact fo ((HQ0.out.al hqW _).al (hqW2' _) _)
        | with_reducible exact fod ((HQ0.out.al hqW _).al (hqW2' _) _)
        | with_reducible exact fo HQ6.out
        | with_reducible exact fost HQ6.out hqg)
      ((first
        | (refine step_append_full _ (by rfl) (.tmp 26) (.tmp 30) 24 (by rfl) W0.heap.size 5 i0 Try.underlying24 hinf.out.1 hinf.out.2.1 hinf.out.2.2.1 hinf.out.2.2.2 _ [] (by rfl) ?c1 w1.heap.size (some ⟨b1, 0, none⟩) L k1 (ys.take L) (by rfl) ?c2 (fun h => by cases h) ?c3 ?c4 ?_; (case c1 => exact (OwnB.lit2 W0 _ _ _ rfl (Nat.le_refl _)).drew); (case c2 => exact (HP.out.alloc hqW1 _).drew); (case c3 => simp; omega); (case c4 => simp); intro v5 w5 hown5 hb5 hg5 hl5 _; have HB5 := Lib.hid (((Below.refl _ W0).alloc (Nat.le_refl _) _).drew.trans hb5); have HG5 := Lib.hid hg5; have HL5 := Lib.hid hl5; have HO5 := Lib.hid hown5; clear hown5 hg5 hl5; have HQ5 := Lib.hid (HQ0.out.below HB5.out hqW); have HU5 := Lib.hid (HU.out.below (HB5.out.mono hqW1)); have hz5 := HB5.out.size; have hz51 : w1.heap.size ≤ w5.heap.size := Nat.le_trans hqW1 hz5; have hq5 : w1.heap.size < w5.heap.size := Nat.lt_of_lt_of_le hqW hz5)
        | (refine step_append_full _ (by rfl) (.tmp 26) (.tmp 30) 24 (by rfl) W0.heap.size 5 i0 Try.underlying24 hinf.out.1 hinf.out.2.1 hinf.out.2.2.1 hinf.out.2.2.2 _ [] (by rfl) ?c1 w1.heap.size (some ⟨b1, 0, none⟩) L k1 (ys.take L) (by rfl) ?c2 (fun h => by cases h) ?c3 ?c4 ?_; (case c1 => exact ((OwnB.lit2 W0 _ _ _ rfl (Nat.le_refl _)).alloc _).drew); (case c2 => exact ((HP.out.alloc hqW1 _).alloc hqW2 _).drew); (case c3 => simp; omega); (case c4 => simp; omega); intro v5 w5 hown5 hb5 hg5 hl5 _; have HB5 := Lib.hid ((((Below.refl _ W0).alloc (Nat.le_refl _) _).alloc (by simp) _).drew.trans hb5); have HG5 := Lib.hid hg5; have HL5 := Lib.hid hl5; have HO5 := Lib.hid hown5; clear hown5 hg5 hl5; have HQ5 := Lib.hid (HQ0.out.below HB5.out hqW); have HU5 := Lib.hid (HU.out.below (HB5.out.mono hqW1)); have hz5 := HB5.out.size; have hz51 : w1.heap.size ≤ w5.heap.size := Nat.le_trans hqW1 hz5; have hq5 : w1.heap.size < w5.heap.size := Nat.lt_of_lt_of_le hqW hz5)
        | (refine step_append_full _ (by rfl) (.tmp 26) (.tmp 30) 24 (by rfl) W0.heap.size 5 i0 Try.underlying24 hinf.out.1 hinf.out.2.1 hinf.out.2.2.1 hinf.out.2.2.2 _ [] (by rfl) ?c1 w1.heap.size (some ⟨b1, 0, none⟩) L k1 (ys.take L) (by rfl) ?c2 (fun h => by cases h) ?c3 ?c4 ?_; (case c1 => exact (OwnB.lit2 (W0.alloc _) _ _ _ (by simp) (by omega)).drew); (case c2 => exact ((HP.out.alloc hqW1 _).alloc hqW2 _).drew); (case c3 => simp; omega); (case c4 => simp; omega); intro v5 w5 hown5 hb5 hg5 hl5 _; have HB5 := Lib.hid ((((Below.refl _ W0).alloc (Nat.le_refl _) _).alloc (by simp) _).drew.trans hb5); have HG5 := Lib.hid hg5; have HL5 := Lib.hid hl5; have HO5 := Lib.hid hown5; clear hown5 hg5 hl5; have HQ5 := Lib.hid (HQ0.out.below HB5.out hqW); have HU5 := Lib.hid (HU.out.below (HB5.out.mono hqW1)); have hz5 := HB5.out.size; have hz51 : w1.heap.size ≤ w5.heap.size := Nat.le_trans hqW1 hz5; have hq5 : w1.heap.size < w5.heap.size := Nat.lt_of_lt_of_le hqW hz5)
        | (refine step_append_full _ (by rfl) (.tmp 32) (.tmp 36) 24 (by rfl) W0.heap.size 5 i0 Try.underlying24 hinf.out.1 hinf.out.2.1 hinf.out.2.2.1 hinf.out.2.2.2 _ [] (by rfl) ?d1 w1.heap.size A2 (n - 9 - L) (k1 - L) (ys.drop L) (by rfl) ?d2 HN2.out ?d3 ?d4 ?_; (case d1 => exact OwnB.lit2 w5 _ _ _ rfl hz5); (case d2 => exact HU5.out.alloc hz51 _); (case d3 => simp; omega); (case d4 => simp; omega); intro v6 w6 hown6 hb6 hg6 _ _; have HV5 := Lib.hid ((HO5.out.alloc _).beside hg6 (own_ne HO5.out)); have HB56 := Lib.hid (((Below.refl _ w5).alloc hz5 _).trans hb6); have HO6 := Lib.hid hown6; clear hown6; have HQ6 := Lib.hid (HQ5.out.below HB56.out hqW); have hx6 := box_two hgW HF0.out HFR0.out (HB5.out.trans HB56.out); have HX6 := Lib.hid hx6.1; have HB6 := Lib.hid (HB5.out.trans HB56.out); obtain ⟨⟨p0, p1, p2, p3⟩, hfr6⟩ := hx6)
        | (refine step_append_full _ (by rfl) (.tmp 32) (.tmp 36) 24 (by rfl) W0.heap.size 5 i0 Try.underlying24 hinf.out.1 hinf.out.2.1 hinf.out.2.2.1 hinf.out.2.2.2 _ [] (by rfl) ?d1 w1.heap.size A2 (n - 9 - L) (k1 - L) (ys.drop L) (by rfl) ?d2 HN2.out ?d3 ?d4 ?_; (case d1 => exact two_lit HG5.out); (case d2 => exact HU5.out); (case d3 => simp; omega); (case d4 => omega); intro v6 w6 hown6 hb6 hg6 _ _; have HV5 := Lib.hid (HO5.out.beside hg6 (own_ne2 HL5.out)); have HB56 := Lib.hid hb6; have HO6 := Lib.hid hown6; clear hown6; have HQ6 := Lib.hid (HQ5.out.below HB56.out hqW); have hx6 := box_two hgW HF0.out HFR0.out (HB5.out.trans HB56.out); have HX6 := Lib.hid hx6.1; have HB6 := Lib.hid (HB5.out.trans HB56.out); obtain ⟨⟨p0, p1, p2, p3⟩, hfr6⟩ := hx6)
        | (refine step_append_full _ (by rfl) (.tmp 32) (.tmp 36) 24 (by rfl) W0.heap.size 5 i0 Try.underlying24 hinf.out.1 hinf.out.2.1 hinf.out.2.2.1 hinf.out.2.2.2 _ [] (by rfl) ?d1 w1.heap.size A2 (n - 9 - L) (k1 - L) (ys.drop L) (by rfl) ?d2 HN2.out ?d3 ?d4 ?_; (case d1 => exact two_lit2 HG5.out); (case d2 => exact HU5.out); (case d3 => simp; omega); (case d4 => omega); intro v6 w6 hown6 hb6 hg6 _ _; have HV5 := Lib.hid (HO5.out.beside hg6 (own_ne3 HL5.out)); have HB56 := Lib.hid hb6; have HO6 := Lib.hid hown6; clear hown6; have HQ6 := Lib.hid (HQ5.out.below HB56.out hqW); have hx6 := box_two hgW HF0.out HFR0.out (HB5.out.trans HB56.out); have HX6 := Lib.hid hx6.1; have HB6 := Lib.hid (HB5.out.trans HB56.out); obtain ⟨⟨p0, p1, p2, p3⟩, hfr6⟩ := hx6)))
    all_goals
      go_wp2
      have hbel6 := HB0.out.trans (HB6.out.mono (Nat.le_of_lt hgW))
      have hbel := set4_below hbel6 (Nat.le_refl _) (.int .i64 L) (.int .u8 K) (.int .u8 F) (.int .i64 S)
      have hset : ∀ k, W0.heap.size ≤ k → (set4 w6 w.heap.size (.int .i64 L) (.int .u8 K) (.int .u8 F) (.int .i64 S)).heap[k]? = w6.heap[k]? := fun k hk => set4_heap _ _ _ _ _ _ _ (by omega)
      have hv5 := (HV5.out.above hset).less (B' := w.heap.size) (Nat.le_of_lt hgW)
      have hv6 := (HO6.out.above hset).less (B' := w.heap.size) (Nat.le_of_lt hgW)
      rw [List.nil_append] at hv5 hv6
      obtain ⟨f0, f1, f2, f3⟩ := HX6.out.set (.int .i64 L) (.int .u8 K) (.int .u8 F) (.int .i64 S)
      unfold set4 at f0 f1 f2 f3
      refine bodyPost_ret (v := .tuple #[.agg #[.int .i64 L, .int .u8 K, .int .u8 F, .int .i64 S], v5, v6, .int .i64 0]) (by simp [results, Try.results14, go_sem, f0, f1, f2, f3]) rfl ⟨v5, v6, rfl, hv5, hv6, hbel⟩
theorem rwhole_tot (A : Option Addr) (B n c : Nat) (xs : List UInt8) (w : World) (hA : Bs w B A n xs) (hn : n ≤ 1000000) (hnc : n ≤ c) (hB : B ≤ w.heap.size) :
    Calls Try.prog 14 #[.slice A n c] w fun e w' => ∃ v u, e = .returned (.tuple #[.agg #[.int .i64 (tL xs n), .int .u8 (tK xs n), .int .u8 (tF xs n), .int .i64 (tS xs n)], v, u, .int .i64 (wE xs n)]) ∧ OwnB w' w.heap.size 5 v (wP xs n) ∧ OwnB w' w.heap.size 5 u (wR xs n) ∧ Below w.heap.size w w' := by
  by_cases hw : WholeIn xs n
  · refine (rwhole_yes0 A B n c _ _ _ _ xs w rfl rfl rfl rfl hA hw.1 hn hnc hB hw.2).mono ?_
    rintro e w' ⟨v, u, rfl, ho, hu, hb⟩
    exact ⟨v, u, by unfold tL tK tF tS wE; simp only [if_pos hw.1, if_pos hw], by unfold wP; rw [if_pos hw]; exact ho, by unfold wR; rw [if_pos hw]; exact hu, hb⟩
  · refine (rwhole_no A B n c xs w hA hn hnc hB hw).mono ?_
    rintro e w' ⟨rfl, hb⟩
    exact ⟨.slice none 0 0, .slice none 0 0, by unfold wE; simp only [if_neg hw], by unfold wP; rw [if_neg hw]; exact OwnB.nil_ _ _ _, by unfold wR; rw [if_neg hw]; exact OwnB.nil_ _ _ _, hb⟩
end Go.Proofs.Ytodghbfgfdbaiaa
