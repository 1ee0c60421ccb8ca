/- Plain: a frame that was parsed without a fault may be: its bytes, laid anew, are as many and stand for it. -/
import Derived.Test.YtbflhphjnmhjhaaGreatMg
import Derived.Test.YtbflhphjnmhjhaaGreatFiT
namespace Go.Proofs.YtbflhphjnmhjhaaGreat
open Go.RowKit Oct Fi Fm
set_option linter.unusedVariables false
set_option linter.unusedSimpArgs false
theorem stand_head {f : Fr} (h : standB f = true) : (layR f).2 = 0 ∧ parseR f.kd f.fl f.st (layR f).1 = (f, fine) ∧ HeadIn ((layR f).1.length : Int) f.st ∧ (layR f).1.length ≤ 16384 := by
  unfold standB at h
  obtain ⟨h1, h2⟩ := of_decide_eq_true h
  refine ⟨h1, h2, ?_⟩
  have hq := h2
  rw [parseR_eq] at hq
  by_cases h3 : headB 0 f.st = false
  · rw [if_pos h3] at hq
    cases hq
  · rw [if_neg h3] at hq
    by_cases h4 : 16384 < (layR f).1.length
    · rw [if_pos h4] at hq
      cases hq
    · have h5 : headB 0 f.st = true := by simpa using h3
      have h5 := of_decide_eq_true h5
      exact ⟨⟨by omega, by omega, h5.2.2.1, h5.2.2.2⟩, by omega⟩
theorem parseR_congr {K F : UInt8} {S : Int} {xs ys : List UInt8} (hl : ys.length = xs.length) (hi : innerR K F S ys = innerR K F S xs) : parseR K F S ys = parseR K F S xs := by
  unfold parseR
  rw [hl, hi]
theorem fine_inv {K F : UInt8} {S : Int} {xs : List UInt8} {d : Fr} (h : parseR K F S xs = (d, fine)) : longB K.toNat F xs.length = false ∧ innerR K F S xs = (d, true) := by
  have h1 := h
  rw [parseR_eq] at h1
  split at h1
  · cases h1
  · split at h1
    · cases h1
    · split at h1
      · cases h1
      · split at h1
        · rename_i hx
          have h2 := congrArg Prod.snd h1
          simp only at h2
          rw [h2] at hx
          cases hx
        · unfold tkR at h1
          split at h1
          · split at h1
            · have := congrArg (fun r => r.2.2.2) h1
              simp [fine] at this
            · cases h1
          · rename_i hl
            refine ⟨by simpa using hl, ?_⟩
            split at h1
            · rename_i hx
              have h2 := congrArg Prod.snd h1
              simp only at h2
              rw [h2] at hx
              cases hx
            · have e1 := congrArg Prod.fst h1
              have e2 := congrArg Prod.snd h1
              simp only at e1 e2
              unfold parseX at e2
              split at e2
              · rename_i hb
                exact Prod.ext e1 hb
              · cases e2
theorem nuV1 {x : Int} (h0 : 0 ≤ x) (h1 : x < 4294967296) (zs : List UInt8) : nuV [x] zs = putB x.toNat 4 ++ zs ∧ nuE [x] = 0 := by
  have hp : PutIn x 4 := ⟨by omega, by omega, h0, by have e : (256 : Int) ^ (4 : Int).toNat = 4294967296 := by decide
                                                     rw [e]; exact h1⟩
  unfold nuV nuE nuOk
  simp [hp]
theorem nuV2 {x y : Int} (h0 : 0 ≤ x) (h1 : x < 4294967296) (g0 : 0 ≤ y) (g1 : y < 4294967296) (zs : List UInt8) : nuV [x, y] zs = putB x.toNat 4 ++ (putB y.toNat 4 ++ zs) ∧ nuE [x, y] = 0 := by
  have e : (256 : Int) ^ (4 : Int).toNat = 4294967296 := by decide
  have hp : PutIn x 4 := ⟨by omega, by omega, h0, by rw [e]; exact h1⟩
  have hq : PutIn y 4 := ⟨by omega, by omega, g0, by rw [e]; exact g1⟩
  unfold nuV nuE nuOk
  simp [hp, hq]
theorem num_at0 (n : Nat) (zs : List UInt8) (h : n < 4294967296) : numN (putB n 4 ++ zs) (putB n 4 ++ zs).length 0 = n := by
  unfold numN
  rw [if_pos (by rw [List.length_append, putB_length]; omega), List.drop_zero, List.take_append_of_le_length (by rw [putB_length]; exact Nat.le_refl _), List.take_of_length_le (by rw [putB_length]; exact Nat.le_refl _), takeB_putB]
  exact Nat.mod_eq_of_lt h
theorem own_at0 (n : Nat) (zs : List UInt8) (h : n < 2147483648) : ownN (putB n 4 ++ zs) (putB n 4 ++ zs).length 0 = n := by
  unfold ownN
  rw [if_pos (by rw [List.length_append, putB_length]; omega), List.drop_zero, List.take_append_of_le_length (by rw [putB_length]; exact Nat.le_refl _), List.take_of_length_le (by rw [putB_length]; exact Nat.le_refl _), takeB_putB]
  rw [Nat.mod_eq_of_lt (by omega : n < 256 ^ 4)]
  exact Nat.mod_eq_of_lt h
theorem num_at4 (k n : Nat) (zs : List UInt8) (h : n < 4294967296) : numN (putB k 4 ++ (putB n 4 ++ zs)) (putB k 4 ++ (putB n 4 ++ zs)).length 4 = n := by
  unfold numN
  rw [if_pos (by simp only [List.length_append, putB_length]; omega), List.drop_append, List.drop_eq_nil_of_le (by rw [putB_length]; exact Nat.le_refl _)]
  rw [putB_length, Nat.sub_self, List.drop_zero, List.nil_append, List.take_append_of_le_length (by rw [putB_length]; exact Nat.le_refl _), List.take_of_length_le (by rw [putB_length]; exact Nat.le_refl _), takeB_putB]
  exact Nat.mod_eq_of_lt h
theorem ownN_lt (xs : List UInt8) (n i : Nat) : ownN xs n i < 2147483648 := by
  unfold ownN
  split
  · exact Nat.mod_lt _ (by omega)
  · omega
theorem drop_put (n k : Nat) (zs : List UInt8) : (putB n k ++ zs).drop k = zs := by
  rw [List.drop_append, List.drop_eq_nil_of_le (by rw [putB_length]; exact Nat.le_refl _), putB_length, Nat.sub_self, List.drop_zero, List.nil_append]
theorem trD_in (xs : List UInt8) (n : Nat) : RankIn (trD xs n) := by
  unfold trD RankIn
  split
  · omega
  · omega
theorem u32_nat (n : Nat) (h : n < 4294967296) : (UInt32.ofNat n).toNat = n := by
  simp
  omega
/-- What is padded anew is told as it was. -/
theorem pad_again (f : Fr) (F : UInt8) (xs zs : List UInt8) (hf : f.fl = F) (hd : dX F xs = fine) (hp : f.pd = dP F xs) (hz : zs.length = (dD F xs).length) :
    (padF f zs).2 = 0 ∧ (padF f zs).1.length = xs.length ∧ dX F (padF f zs).1 = fine ∧ dP F (padF f zs).1 = dP F xs ∧ dD F (padF f zs).1 = zs := by
  unfold dX dP dD padF at *
  rw [hf, hp]
  by_cases hb : hasB (F.toNat : Int) 8 = true
  · simp only [hb, if_true] at hd hz ⊢
    have hu : UnIn xs xs.length := by
      by_cases h : UnIn xs xs.length
      · exact h
      · rw [if_neg h] at hd
        split at hd <;> cases hd
    have hpm := (xs[0]?.getD 0).toNat_lt
    have hn : unN xs xs.length = 1 + (pm xs : Int) := by unfold unN; rw [if_pos hu]
    have hw : wrap64 (unN xs xs.length - 1) = (pm xs : Int) := by
      rw [hn, show 1 + (pm xs : Int) - 1 = (pm xs : Int) by omega]
      have : pm xs < 256 := hpm
      unfold wrap64
      omega
    have hpi : PadIn (pm xs : Int) := ⟨by omega, by have : pm xs < 256 := hpm; omega⟩
    have hlv : (unV xs xs.length).length = xs.length - pm xs - 1 := by
      unfold unV
      rw [if_pos hu]
      simp
      omega
    rw [hw]
    have hl := padV_len zs hpi
    obtain ⟨e1, e2, e3⟩ := un_pad zs hpi rfl
    have hu1 := hu.1
    have hu2 := hu.2
    refine ⟨by unfold padE; rw [if_pos hpi], by omega, ?_, by rw [e2, hn]; omega, e3⟩
    have hin : UnIn (padV zs (pm xs : Int)) (padV zs (pm xs : Int)).length := by
      by_cases h : UnIn (padV zs (pm xs : Int)) (padV zs (pm xs : Int)).length
      · exact h
      · unfold unE at e1
        rw [if_neg h] at e1
        split at e1 <;> cases e1
    rw [if_pos hin]
  · simp only [hb, if_false] at hz ⊢
    exact ⟨rfl, hz, rfl, rfl, rfl⟩
theorem dX_fine {F : UInt8} {xs : List UInt8} {K : UInt8} {S : Int} (h : (data1 K F S xs).2 = true) : dX F xs = fine ∧ (data1 K F S xs).1 = { frZ K F S with da := dD F xs, pd := dP F xs } := by
  rcases dX_ways F xs with ⟨h1, h2⟩ | ⟨h1, h2⟩ | ⟨h1, h2, h3⟩
  · exact ⟨h1, by rw [h2]⟩
  · exfalso
    unfold data1 at h
    unfold padN at h2
    by_cases hb : hasB (F.toNat : Int) 8 = true
    · rw [if_pos hb] at h h2
      rw [if_neg (by unfold UnIn; omega)] at h
      cases h
    · rw [if_neg hb] at h2
      omega
  · rw [h3] at h; cases h
theorem data1_of {F : UInt8} {xs : List UInt8} (K : UInt8) (S : Int) (h : dX F xs = fine) : data1 K F S xs = ({ frZ K F S with da := dD F xs, pd := dP F xs }, true) := by
  rcases dX_ways F xs with ⟨h1, h2⟩ | ⟨h1, h2⟩ | ⟨h1, h2, h3⟩
  · exact h2 K S
  · rw [h1] at h; cases h
  · rw [h1] at h; cases h
/-- Data again. -/
theorem again_data {K F : UInt8} {S : Int} {xs : List UInt8} {d : Fr} (hk : K.toNat = 0 ∨ K.toNat = 1) (hi : dataR K F S xs = (d, true)) :
    (layR d).2 = 0 ∧ (layR d).1.length = xs.length ∧ dataR K F S (layR d).1 = (d, true) ∧ d.kd = K ∧ d.fl = F ∧ d.st = S := by
  have h1 : (data1 K F S xs).2 = true := by
    unfold dataR at hi
    by_cases h : (data1 K F S xs).2 = true
    · exact h
    · rw [if_neg h] at hi; cases hi
  obtain ⟨hx, he⟩ := dX_fine h1
  have hd1 := data1_of K S hx
  by_cases hr : K.toNat = 1 ∧ hasB (F.toNat : Int) 32 = true
  · have hrk : rank1 (data1 K F S xs).1 = (d, true) := by
      unfold dataR at hi
      rw [if_pos h1, if_pos hr] at hi
      exact hi
    rw [he] at hrk
    unfold rank1 at hrk
    simp only at hrk
    by_cases h5 : 5 ≤ (dD F xs).length
    · rw [if_pos h5] at hrk
      have hd := (congrArg Prod.fst hrk).symm
      simp only at hd
      have hri := trD_in (dD F xs) (dD F xs).length
      have hlr : (trR (dD F xs) (dD F xs).length).length + 5 = (dD F xs).length := by unfold trR; rw [if_pos h5, List.length_drop]; omega
      have hpl := prV_len (trA (dD F xs) (dD F xs).length) ((dD F xs)[4]?.getD 0) hri
      obtain ⟨z1, z2, z3, z4, z5⟩ := pad_again d F xs (prV d.al d.dp d.wt ++ d.da) (by rw [hd]; rfl) hx (by rw [hd]) (by rw [hd, List.length_append]; simp only; omega)
      have hlay : layR d = padF d (prV d.al d.dp d.wt ++ d.da) := by
        unfold layR rkF
        have ek : d.kd.toNat = 1 := by rw [hd]; exact hr.1
        have ef : hasB (d.fl.toNat : Int) 32 = true := by rw [hd]; exact hr.2
        have ep : prE d.dp = 0 := by unfold prE; rw [if_pos (by rw [hd]; exact hri)]
        simp only [ek, ef, ep, if_true, Nat.reduceEqDiff, if_false]
      rw [hlay]
      refine ⟨z1, z2, ?_, by rw [hd]; rfl, by rw [hd]; rfl, by rw [hd]; rfl⟩
      have hd2 := data1_of K S z3
      unfold dataR
      rw [hd2]
      simp only [if_true]
      rw [if_pos hr]
      unfold rank1
      simp only
      rw [z5, z4]
      have hlen : (prV d.al d.dp d.wt ++ d.da).length = d.da.length + 5 := by rw [List.length_append, hd]; simp only; omega
      rw [if_pos (by omega)]
      obtain ⟨_, t2, t3, t4, t5⟩ := tr_put d.al d.wt d.da (by rw [hd]; exact hri : RankIn d.dp) hlen
      have t4' : (prV d.al d.dp d.wt ++ d.da)[4]?.getD 0 = d.wt := by
        unfold trW at t4
        rw [if_pos (by omega)] at t4
        exact UInt8.toNat_inj.mp (by omega)
      rw [t2, t3, t5, t4']
      rw [hd]
    · rw [if_neg h5] at hrk
      cases hrk
  · have hd : d = { frZ K F S with da := dD F xs, pd := dP F xs } := by
      unfold dataR at hi
      rw [if_pos h1, if_neg hr, he] at hi
      exact (congrArg Prod.fst hi).symm
    obtain ⟨z1, z2, z3, z4, z5⟩ := pad_again d F xs d.da (by rw [hd]; rfl) hx (by rw [hd]) (by rw [hd])
    have hlay : layR d = padF d d.da := by
      unfold layR
      rcases hk with hk | hk
      · have ek : d.kd.toNat = 0 := by rw [hd]; exact hk
        simp only [ek, if_true]
      · have ek : d.kd.toNat = 1 := by rw [hd]; exact hk
        have ef : hasB (d.fl.toNat : Int) 32 = false := by
          have : ¬ hasB (F.toNat : Int) 32 = true := fun h => hr ⟨hk, h⟩
          rw [hd]
          show hasB (F.toNat : Int) 32 = false
          simpa using this
        simp only [ek, ef, if_true, Nat.reduceEqDiff, if_false, Bool.false_eq_true]
    rw [hlay]
    refine ⟨z1, z2, ?_, by rw [hd]; rfl, by rw [hd]; rfl, by rw [hd]; rfl⟩
    have hd2 := data1_of K S z3
    unfold dataR
    rw [hd2]
    simp only [if_true]
    rw [if_neg hr, z5, z4, hd]
theorem again {K F : UInt8} {S : Int} {xs : List UInt8} {d : Fr} (h : parseR K F S xs = (d, fine)) :
    (layR d).2 = 0 ∧ (layR d).1.length = xs.length ∧ parseR K F S (layR d).1 = (d, fine) ∧ d.kd = K ∧ d.fl = F ∧ d.st = S := by
  obtain ⟨hl, hi⟩ := fine_inv h
  have go : (layR d).2 = 0 ∧ (layR d).1.length = xs.length ∧ innerR K F S (layR d).1 = (d, true) ∧ d.kd = K ∧ d.fl = F ∧ d.st = S → (layR d).2 = 0 ∧ (layR d).1.length = xs.length ∧ parseR K F S (layR d).1 = (d, fine) ∧ d.kd = K ∧ d.fl = F ∧ d.st = S := fun ⟨a1, a2, a3, a4⟩ => ⟨a1, a2, by rw [parseR_congr a2 (a3.trans hi.symm)]; exact h, a4⟩
  apply go
  by_cases h01 : K.toNat = 0 ∨ K.toNat = 1
  · have e : ∀ zs, innerR K F S zs = dataR K F S zs := fun zs => by unfold innerR; rw [if_pos h01]
    rw [e] at hi
    have := again_data h01 hi
    rw [e]
    exact this
  have hk0 : K.toNat ≠ 0 := fun h => h01 (.inl h)
  have hk1 : K.toNat ≠ 1 := fun h => h01 (.inr h)
  by_cases h2 : K.toNat = 2
  · have e : ∀ zs, innerR K F S zs = ({ frZ K F S with rk := true, al := trA zs zs.length, dp := trD zs zs.length, wt := if 5 ≤ zs.length then zs[4]?.getD 0 else 0 }, true) := fun zs => by unfold innerR; simp [h2]
    rw [e] at hi
    have hd := (congrArg Prod.fst hi).symm
    simp only at hd
    have h5 : xs.length = 5 := by
      unfold longB at hl
      simpa [h2] using hl
    have hri := trD_in xs xs.length
    have hlay : layR d = (prV d.al d.dp d.wt, prE d.dp) := by
      unfold layR
      have ek : d.kd.toNat = 2 := by rw [hd]; exact h2
      simp only [ek, if_true, Nat.reduceEqDiff, if_false]
    have hrd : RankIn d.dp := by rw [hd]; exact hri
    have hpl := prV_len d.al d.wt hrd
    obtain ⟨_, t2, t3, t4, t5⟩ := tr_put d.al d.wt [] hrd (n := 5) rfl
    rw [List.append_nil] at t2 t3 t4 t5
    rw [hlay, e]
    simp only
    refine ⟨by unfold prE; rw [if_pos hrd], by omega, ?_, by rw [hd]; rfl, by rw [hd]; rfl, by rw [hd]; rfl⟩
    have t4' : (prV d.al d.dp d.wt)[4]?.getD 0 = d.wt := by
      unfold trW at t4
      rw [if_pos (by omega)] at t4
      exact UInt8.toNat_inj.mp (by omega)
    rw [hpl, t2, t3, if_pos (by omega), t4', hd]
  by_cases h3 : K.toNat = 3
  · have e : ∀ zs, innerR K F S zs = ({ frZ K F S with co := UInt32.ofNat (numN zs zs.length 0) }, true) := fun zs => by unfold innerR; simp [h3]
    rw [e] at hi
    have hd := (congrArg Prod.fst hi).symm
    simp only at hd
    have h5 : xs.length = 4 := by
      unfold longB at hl
      simpa [h3] using hl
    have hco := d.co.toNat_lt
    obtain ⟨n1, n2⟩ := nuV1 (x := (d.co.toNat : Int)) (by omega) (by omega) []
    have hlay : layR d = (nuV [(d.co.toNat : Int)] [], nuE [(d.co.toNat : Int)]) := by
      unfold layR
      have ek : d.kd.toNat = 3 := by rw [hd]; exact h3
      simp only [ek, if_true, Nat.reduceEqDiff, if_false]
    rw [hlay, n1, n2, e]
    refine ⟨rfl, by simp only [List.length_append, putB_length, List.length_nil]; omega, ?_, by rw [hd]; rfl, by rw [hd]; rfl, by rw [hd]; rfl⟩
    rw [num_at0 _ _ (by rw [Int.toNat_natCast]; omega), Int.toNat_natCast]
    have : UInt32.ofNat d.co.toNat = d.co := by simp
    rw [this, hd]
  by_cases h4 : K.toNat = 4
  · have e : ∀ zs, innerR K F S zs = ({ frZ K F S with ps := tpV zs zs.length }, true) := fun zs => by unfold innerR; simp [h4]
    rw [e] at hi
    have hd := (congrArg Prod.fst hi).symm
    simp only at hd
    have h6 : xs.length % 6 = 0 := by
      unfold longB at hl
      simp [h4] at hl
      omega
    have hpl : d.ps.length = xs.length / 6 := by rw [hd]; simp only; unfold tpV; rw [if_pos h6]; simp
    have hlay : layR d = (ppV d.ps, 0) := by
      unfold layR
      have ek : d.kd.toNat = 4 := by rw [hd]; exact h4
      simp only [ek, if_true, Nat.reduceEqDiff, if_false]
    rw [hlay, e]
    simp only
    have hpp := ppV_len d.ps
    refine ⟨trivial, by omega, ?_, by rw [hd]; rfl, by rw [hd]; rfl, by rw [hd]; rfl⟩
    rw [(tp_put d.ps hpp).2, hd]
  by_cases h7 : K.toNat = 7
  · have e : ∀ zs, innerR K F S zs = ({ frZ K F S with la := (ownN zs zs.length 0 : Nat), co := UInt32.ofNat (numN zs zs.length 4), da := zs.drop 8 }, true) := fun zs => by unfold innerR; simp [h7]
    rw [e] at hi
    have hd := (congrArg Prod.fst hi).symm
    simp only at hd
    have h5 : 8 ≤ xs.length := by
      unfold longB at hl
      simpa [h7] using hl
    have hco := d.co.toNat_lt
    have hol := ownN_lt xs xs.length 0
    have hla : d.la = ((ownN xs xs.length 0 : Nat) : Int) := by rw [hd]
    obtain ⟨n1, n2⟩ := nuV2 (x := d.la) (y := (d.co.toNat : Int)) (by omega) (by omega) (by omega) (by omega) d.da
    have hlay : layR d = (nuV [d.la, (d.co.toNat : Int)] d.da, nuE [d.la, (d.co.toNat : Int)]) := by
      unfold layR
      have ek : d.kd.toNat = 7 := by rw [hd]; exact h7
      simp only [ek, if_true, Nat.reduceEqDiff, if_false]
    have hdl : d.da.length = xs.length - 8 := by rw [hd]; simp
    rw [hlay, n1, n2, e]
    refine ⟨rfl, by simp only [List.length_append, putB_length]; omega, ?_, by rw [hd]; rfl, by rw [hd]; rfl, by rw [hd]; rfl⟩
    rw [own_at0 _ _ (by rw [hla, Int.toNat_natCast]; exact hol), num_at4 _ _ _ (by rw [Int.toNat_natCast]; omega)]
    have e8 : (putB d.la.toNat 4 ++ (putB (d.co.toNat : Int).toNat 4 ++ d.da)).drop 8 = d.da := by
      rw [show 8 = 4 + 4 from rfl, ← List.drop_drop, drop_put, drop_put]
    have ec : UInt32.ofNat (d.co.toNat : Int).toNat = d.co := by rw [Int.toNat_natCast]; simp
    have el : ((d.la.toNat : Nat) : Int) = d.la := by omega
    rw [e8, ec, el, hd]
  by_cases h8 : K.toNat = 8
  · have e : ∀ zs, innerR K F S zs = ({ frZ K F S with ic := (ownN zs zs.length 0 : Nat) }, true) := fun zs => by unfold innerR; simp [h8]
    rw [e] at hi
    have hd := (congrArg Prod.fst hi).symm
    simp only at hd
    have h5 : xs.length = 4 := by
      unfold longB at hl
      simpa [h8] using hl
    have hol := ownN_lt xs xs.length 0
    have hla : d.ic = ((ownN xs xs.length 0 : Nat) : Int) := by rw [hd]
    obtain ⟨n1, n2⟩ := nuV1 (x := d.ic) (by omega) (by omega) []
    have hlay : layR d = (nuV [d.ic] [], nuE [d.ic]) := by
      unfold layR
      have ek : d.kd.toNat = 8 := by rw [hd]; exact h8
      simp only [ek, if_true, Nat.reduceEqDiff, if_false]
    rw [hlay, n1, n2, e]
    refine ⟨rfl, by simp only [List.length_append, putB_length, List.length_nil]; omega, ?_, by rw [hd]; rfl, by rw [hd]; rfl, by rw [hd]; rfl⟩
    rw [own_at0 _ _ (by rw [hla, Int.toNat_natCast]; exact hol)]
    have el : ((d.ic.toNat : Nat) : Int) = d.ic := by omega
    rw [el, hd]
  by_cases h16 : K.toNat = 16
  · have e : ∀ zs, innerR K F S zs = ({ frZ K F S with la := (ownN zs zs.length 0 : Nat), da := zs.drop 4 }, true) := fun zs => by unfold innerR; simp [h16]
    rw [e] at hi
    have hd := (congrArg Prod.fst hi).symm
    simp only at hd
    have h5 : 4 ≤ xs.length := by
      unfold longB at hl
      simpa [h16] using hl
    have hol := ownN_lt xs xs.length 0
    have hla : d.la = ((ownN xs xs.length 0 : Nat) : Int) := by rw [hd]
    obtain ⟨n1, n2⟩ := nuV1 (x := d.la) (by omega) (by omega) d.da
    have hlay : layR d = (nuV [d.la] d.da, nuE [d.la]) := by
      unfold layR
      have ek : d.kd.toNat = 16 := by rw [hd]; exact h16
      simp only [ek, if_true, Nat.reduceEqDiff, if_false]
    have hdl : d.da.length = xs.length - 4 := by rw [hd]; simp
    rw [hlay, n1, n2, e]
    refine ⟨rfl, by simp only [List.length_append, putB_length]; omega, ?_, by rw [hd]; rfl, by rw [hd]; rfl, by rw [hd]; rfl⟩
    rw [own_at0 _ _ (by rw [hla, Int.toNat_natCast]; exact hol), drop_put]
    have el : ((d.la.toNat : Nat) : Int) = d.la := by omega
    rw [el, hd]
  · have e : ∀ zs, innerR K F S zs = ({ frZ K F S with da := zs }, true) := fun zs => by unfold innerR; simp [hk0, hk1, h2, h3, h4, h7, h8, h16]
    rw [e] at hi
    have hd := (congrArg Prod.fst hi).symm
    simp only at hd
    have hlay : layR d = (d.da, 0) := by
      unfold layR
      have ek : d.kd = K := by rw [hd]; rfl
      simp only [ek, hk0, hk1, h2, h3, h4, h7, h8, h16, if_false]
    rw [hlay, e, hd]
    exact ⟨rfl, rfl, rfl, rfl, rfl, rfl⟩
end Go.Proofs.YtbflhphjnmhjhaaGreat
