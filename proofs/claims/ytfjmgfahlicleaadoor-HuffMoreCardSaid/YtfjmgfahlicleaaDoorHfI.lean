/- Package huff: the iterator of a text's bytes in bits. -/
import Derived.Test.YtfjmgfahlicleaaDoorHfG
import Derived.Test.YtfjmgfahlicleaaDoorGSeqS
import Derived.Test.YtfjmgfahlicleaaDoorGFact
import Derived.Test.YtfjmgfahlicleaaDoorGGath
import Derived.Test.YtfjmgfahlicleaaDoorGNum
import Derived.Stop.RegionWithIn
namespace Go.Proofs.YtfjmgfahlicleaaDoor
open Go.RowKit Hf Go.Shelf Oct
set_option linter.unusedVariables false
set_option linter.unusedSimpArgs false
attribute [local go_sem] Oper.semAt_some
namespace Hf
theorem rws_keep {p : Nat → Prop} {W W' : World} (h : Rws W) (hk : KeepC p W W') (hp : p 0) : Rws W' := fun j v hj => hk.cell (a := ⟨0, j, none⟩) hp (h j v hj)
theorem bl_take_len (xs : List UInt8) (k : Nat) : (bl (xs.take k)).length ≤ (bl xs).length := by
  have h : bl xs = bl (xs.take k) ++ bl (xs.drop k) := by rw [← bl_append, List.take_append_drop]
  rw [h, List.length_append]
  omega
theorem byte_of (C u : Nat) : ((UInt8.ofNat (C / 2 ^ u)).toNat : Int) = (C : Int) / 2 ^ u % 256 := by
  have h : (UInt8.ofNat (C / 2 ^ u)).toNat = C / 2 ^ u % 256 := by simp
  rw [h, Int.natCast_emod, Int.natCast_ediv, Int.natCast_pow]
  rfl
theorem wrap64_small {x : Int} (h : -9223372036854775808 ≤ x) (h2 : x ≤ 9223372036854775807) : wrap64 x = x := IntWalk.wrap64_in _ ⟨by omega, by omega⟩
/-- What a round keeps: the cells of the blocks of p, and all blocks' places. -/
def KeepZ (p : Nat → Prop) (A B : World) : Prop := KeepC p A B ∧ A.heap.size ≤ B.heap.size
theorem KeepZ.refl (p : Nat → Prop) (A : World) : KeepZ p A A := ⟨KeepC.refl _ _, Nat.le_refl _⟩
theorem KeepZ.trans {p : Nat → Prop} {A B C : World} (h : KeepZ p A B) (k : KeepZ p B C) : KeepZ p A C := ⟨h.1.trans k.1, Nat.le_trans h.2 k.2⟩
theorem KeepZ.below {p : Nat → Prop} {A B : World} (h : Below A.heap.size A B) : KeepZ p A B := ⟨KeepC.below h, h.size⟩
theorem or_code (a m cd : Nat) (ha : a < 128) (hm : m ≤ 11) (hc : cd < 2 ^ m) : Go.bits .or .i64 (wrap64 ((a : Int) * 2 ^ m)) (cd : Int) = ((a * 2 ^ m + cd : Nat) : Int) := by
  have hp : 2 ^ m ≤ 2 ^ 11 := Nat.pow_le_pow_right (by decide) hm
  have h1 : a * 2 ^ m ≤ 128 * 2 ^ 11 := Nat.mul_le_mul (by omega) hp
  have e1 : (a : Int) * 2 ^ m = ((a * 2 ^ m : Nat) : Int) := by rw [Int.natCast_mul, Int.natCast_pow]; rfl
  have e2 : (a : Int) * ((2 ^ m : Nat) : Int) = ((a * 2 ^ m : Nat) : Int) := by rw [Int.natCast_mul]
  rw [e1, wrap64_small (by omega) (by omega), ← e2, i64_or_join a cd m hc (by omega), e2, Int.natCast_add]
theorem pow_int (v : Nat) : (2 : Int) ^ v = ((2 ^ v : Nat) : Int) := by rw [Int.natCast_pow]; rfl
theorem ones_val (v : Nat) (hv : v ≤ 8) : wrap64 (wrap64 (2 ^ v) - 1) = ((2 ^ v - 1 : Nat) : Int) := by
  have h1 : (2 : Nat) ^ v ≤ 2 ^ 8 := Nat.pow_le_pow_right (by decide) hv
  have h0 := Nat.two_pow_pos v
  rw [pow_int]
  generalize 2 ^ v = z at *
  have hz : wrap64 (z : Int) = (z : Int) := wrap64_small (by omega) (by omega)
  rw [hz, wrap64_small (by omega) (by omega)]
  omega
theorem mask_code (C v : Nat) (hv : v < 8) : Go.bits .and .i64 (C : Int) (wrap64 (wrap64 (2 ^ v) - 1)) = ((C % 2 ^ v : Nat) : Int) := by
  have h1 : (2 : Nat) ^ v ≤ 2 ^ 8 := Nat.pow_le_pow_right (by decide) (by omega)
  have h0 := Nat.two_pow_pos v
  rw [ones_val v (by omega), i64_and_mask _ _ v (by omega) (by rw [BitVec.ofInt_natCast, BitVec.toNat_ofNat]; exact Nat.mod_eq_of_lt (by omega)), Int.natCast_emod]
theorem fill_code (a f : Nat) (ha : a < 128) (hf : f ≤ 8) : IntKind.u8.wrap (Go.bits .or .i64 (IntKind.i64.wrap ((a : Int) * 2 ^ f)) (IntKind.i64.wrap (IntKind.i64.wrap (2 ^ f) - 1))) = ((UInt8.ofNat (a * 2 ^ f + (2 ^ f - 1))).toNat : Int) := by
  have h0 := Nat.two_pow_pos f
  have h1 := ones_val f hf
  have h2 := or_code a f (2 ^ f - 1) ha (by omega) (by omega)
  have h3 : (UInt8.ofNat (a * 2 ^ f + (2 ^ f - 1))).toNat = (a * 2 ^ f + (2 ^ f - 1)) % 256 := by simp
  have ew : ∀ x, IntKind.i64.wrap x = wrap64 x := fun x => by rw [IntKind.wrap_i64, wrap64]
  rw [ew, ew, ew, h1, h2, h3, Int.natCast_emod]
  simp [IntKind.wrap, IntKind.bits, IntKind.signed]
end Hf
set_option maxRecDepth 100000 in
set_option maxHeartbeats 4000000 in
theorem packed1_in (k : Nat) (hk : 1 ≤ k) (l B1 n c : Nat) (A : Option Addr) (xs : List UInt8) (p : Nat → Prop) (J : List UInt8 → World → Prop) (W : World) (hJ : AbidesFrom W.heap.size J) (hR : Rws W)
    (hp0 : p 0) (hp1 : p B1) (hpA : 0 < n → ∀ b o, A = some ⟨b, o, none⟩ → p b) (hn : n ≤ 10000)
    (hY : ∀ pre (x : UInt8) W1, J pre W1 → pre.length < ((bl xs).length + 7) / 8 → YieldAt Fence.wide (k - 1) Tryd.prog l #[.int .u8 (x.toNat : Int)] W1 fun e W' => e = .returned (.bool true) ∧ J (pre ++ [x]) W' ∧ KeepZ p W1 W')
    (hc : W.cell? ⟨B1, 0, none⟩ = some (.slice A n c)) (hA : Bs W W.heap.size A n xs) (h0 : J [] W) :
    CallsIn Fence.wide k Tryd.prog 39 #[.func (.yield l) #[] #[], .pointer (some ⟨B1, 0, none⟩)] W fun e W' => (∃ v, e = .returned v) ∧ ∃ ys, IsPut (bl xs) ys ∧ J ys W' := by
  have HY := Lib.hid hY
  have HJ := Lib.hid hJ
  have HP0 := Lib.hid hp0
  have HPA := Lib.hid hpA
  have HA := Lib.hid hA
  have HR := Lib.hid hR
  clear hY hJ hp0 hp1 hpA hA hR
  refine callsIn_of_wp Tryd.func39 rfl trivial ?_ rfl
  simp only [Tryd.ntmps39, List.size_toArray, List.length_cons, List.length_nil, Nat.reduceAdd, Nat.reduceSub, Array.replicate_succ, Array.replicate_zero, List.push_toArray, List.append_toArray, List.nil_append, List.cons_append]
  gi_wp2
  gi_loopw [3, 4, 12] (fun t u v wr => ∃ (j : Nat) (pre : List UInt8) (bits used : Nat), j ≤ n ∧ v = .int .i64 (j : Int) ∧ t = .int .i64 (bits : Int) ∧ u = .int .i64 (used : Int) ∧ used < 8 ∧ bits < 2 ^ used ∧ IsPart (bl (xs.take j)) pre bits used ∧ KeepZ p W wr ∧ J pre wr) (fun _ _ v _ => n - (intOf v).toNat)
  case atStart => exact ⟨0, [], 0, 0, Nat.zero_le _, rfl, rfl, rfl, by omega, by omega, IsPart.nil, KeepZ.refl _ _, h0⟩
  case round =>
    obtain ⟨j, pre, bits, used, hj, rfl, rfl, rfl, hu, hb, hpart, hkp, hJj⟩ := hrel
    obtain ⟨wo, rfl⟩ : ∃ wo : World, wo = wr := ⟨_, rfl⟩
    have HK := Lib.hid hkp
    have HJj := Lib.hid hJj
    have HPT := Lib.hid hpart
    clear hkp hJj hpart hc h0
    by_cases hlt : j < n
    · obtain ⟨b, o, rfl, hb2, hcc⟩ := bs_cell HA.out (by omega)
      obtain ⟨x, hx, hcx⟩ := hcc j hlt
      have hcj := HK.out.1.cell (a := ⟨b, o + j, none⟩) (HPA.out (by omega) b o rfl) hcx
      have HT := Lib.hid (take_next hx)
      have hm := mny_bd x
      have hcd := cod_lt x
      have HRW := Lib.hid (rws_keep HR.out HK.out.1 HP0.out)
      clear hcc hx hcx
      gi_wp2_with (refine ⟨trivial, ?_⟩; gi_at_call 9; (with_reducible refine (callsIn_wide.2 (h_code x wo HRW.out)).mono ?_); rintro e w1 ⟨rfl, hb1⟩; have HB1 := Lib.hid hb1; clear hb1)
      have hb7 : bits < 128 := by
        have : 2 ^ used ≤ 2 ^ 7 := Nat.pow_le_pow_right (by decide) (by omega)
        omega
      rw [or_code bits (mny x) (cod x) hb7 hm.2 hcd]
      have hpt := HPT.out.code x
      rw [← bl_snoc, ← HT.out] at hpt
      have hCb : bits * 2 ^ mny x + cod x < 2 ^ (used + mny x) := by
        have h1 : (bits + 1) * 2 ^ mny x ≤ 2 ^ used * 2 ^ mny x := Nat.mul_le_mul_right _ hb
        rw [← Nat.pow_add, Nat.add_mul] at h1
        omega
      have hCs : bits * 2 ^ mny x + cod x < 262144 := by
        have h1 : 2 ^ (used + mny x) ≤ 2 ^ 18 := Nat.pow_le_pow_right (by decide) (by omega)
        have h2 : (2 : Nat) ^ 18 = 262144 := by decide
        omega
      have hU : ((used : Int) + (mny x : Int)) = ((used + mny x : Nat) : Int) := by omega
      have hU18 : used + mny x ≤ 18 := by omega
      rw [hU]
      have HCB := Lib.hid hCb
      have HPT2 := Lib.hid hpt
      have hK1 : KeepZ p W w1 := HK.out.trans (KeepZ.below (HB1.out))
      have hJ1 : J pre w1 := AbidesFrom.below (HJ.out) HJj.out HB1.out
      clear hpt hU hb7 hCb hb hcd hcj hm
      generalize bits * 2 ^ mny x + cod x = C at *
      generalize used + mny x = U at *
      gi_loopw [4] (fun u wr => ∃ (q : List UInt8) (v : Nat), u = .int .i64 (v : Int) ∧ v ≤ 18 ∧ v ≤ U ∧ IsPart (bl (xs.take (j + 1))) q C v ∧ KeepZ p W wr ∧ J q wr) (fun u _ => (intOf u).toNat)
      case atStart => exact ⟨pre, U, rfl, hU18, Nat.le_refl _, HPT2.out, hK1, hJ1⟩
      case round =>
        obtain ⟨q, v, rfl, hv, hvU, hpart2, hkp2, hJq⟩ := hrel
        obtain ⟨wi, rfl⟩ : ∃ wi : World, wi = wr := ⟨_, rfl⟩
        have HK2 := Lib.hid hkp2
        have HJq := Lib.hid hJq
        have HP2 := Lib.hid hpart2
        clear hkp2 hJq hpart2 hK1 hJ1
        by_cases h8 : 8 ≤ v
        · obtain ⟨u, rfl⟩ : ∃ u, v = u + 8 := ⟨v - 8, by omega⟩
          have e1 : ((UInt8.ofNat (C / 2 ^ u)).toNat : Int) = (C : Int) / 2 ^ u % 256 := byte_of C u
          have hlq : q.length < ((bl xs).length + 7) / 8 := by
            have h1 := HP2.out.len
            have h2 := bl_take_len xs (j + 1)
            omega
          obtain ⟨fn, tmps, assign, body, hy, hR⟩ := HY.out q (UInt8.ofNat (C / 2 ^ u)) wi HJq.out hlq
          rw [e1] at hy
          have HRR := Lib.hid hR
          clear hR e1 hlq
          gi_wp2
          refine HRR.out.mono ?_
          rintro e w4 ⟨rfl, hJ4, hk4⟩
          have HJ4 := Lib.hid hJ4
          have HK4 := Lib.hid hk4
          clear hJ4 hk4
          gi_wp2
          go_roundw
          case rel => exact ⟨q ++ [UInt8.ofNat (C / 2 ^ u)], u, by go_num, by omega, by omega, HP2.out.emit (by omega), HK2.out.trans HK4.out, HJ4.out⟩
          case measure => simp [intOf]; omega
        · have hv8 : v < 8 := by omega
          gi_wp2
          rw [mask_code C v hv8]
          go_roundw
          case rel => exact ⟨j + 1, q, C % 2 ^ v, v, by omega, by go_num, rfl, rfl, hv8, Nat.mod_lt _ (Nat.two_pow_pos v), HP2.out.mask, HK2.out, HJq.out⟩
          case measure => simp [intOf]; omega
    · obtain rfl : j = n := by omega
      have hxs : xs.take j = xs := List.take_of_length_le (by rw [HA.out.1]; exact Nat.le_refl _)
      have hpt := HPT.out
      rw [hxs] at hpt
      have HPT2 := Lib.hid hpt
      clear hpt hxs
      by_cases hz : used = 0
      · subst hz
        gi_wp2
        go_end0
        exact ⟨⟨_, rfl⟩, _, HPT2.out.whole_put, HJj.out⟩
      · have hu0 : 0 < used := by omega
        obtain ⟨f, hf⟩ : ∃ f, used + f = 8 := ⟨8 - used, by omega⟩
        have hF : (8 : Int) - (used : Int) = (f : Int) := by omega
        gi_wp2
        have hb7 : bits < 128 := by
          have : 2 ^ used ≤ 2 ^ 7 := Nat.pow_le_pow_right (by decide) (by omega)
          omega
        have hJd : J pre wo.drew := AbidesFrom.below HJ.out HJj.out (Below.refl _ _).drew
        have hKd : KeepZ p W wo.drew := HK.out.trans (KeepZ.below (Below.refl _ _).drew)
        have hlq : pre.length < ((bl xs).length + 7) / 8 := by have h1 := HPT2.out.len; omega
        obtain ⟨fn, tmps, assign, body, hy, hR⟩ := HY.out pre (UInt8.ofNat (bits * 2 ^ f + (2 ^ f - 1))) wo.drew hJd hlq
        rw [← fill_code bits f hb7 (by omega)] at hy
        have HRR := Lib.hid hR
        have HKD := Lib.hid hKd
        clear hR hJd hKd hlq
        have hfe : 8 - used = f := by omega
        have hfin := HPT2.out.fill hu0 hu
        rw [hfe] at hfin
        have HFIN := Lib.hid hfin
        clear hfin hfe hb hb7 hF
        gi_region_with ((with_reducible refine HRR.out.mono ?_); rintro e w5 ⟨rfl, hJ5, hk5⟩; have HJ5 := Lib.hid hJ5; clear hJ5 hk5)
        all_goals
          gi_wp2
          go_end0
          exact ⟨⟨_, rfl⟩, _, HFIN.out, HJ5.out⟩
end Go.Proofs.YtfjmgfahlicleaaDoor
