/- The walk of OctetOwn: whatever is handed in, true; nothing that was there has turned. -/
import Derived.Test.YtfglpnfegfcmeaaOctApp
import Derived.Test.YtfglpnfegfcmeaaOctArgs
namespace Go.Proofs.Ytfglpnfegfcmeaa
open Go.RowKit Oct

theorem u8_xor_255 (x : UInt8) : bits .xor .u8 (x.toNat : Int) 255 = ((x ^^^ 255 : UInt8).toNat : Int) := by
  have h := u8_xor_nat x.toNat 255 x.toNat_lt (by decide)
  have e : ((255 : Nat) : Int) = 255 := rfl
  rw [e] at h
  rw [h, UInt8.toNat_xor]
  rfl
theorem own_great (A : Option Addr) (n c : Nat) (used cd k : Int) (w : World) (h : 100 < n) (hm : n ≤ maxLen) :
    Calls Try.prog 7 #[.slice A n c, .int .i64 used, .int .i64 cd, .int .i64 k] w fun e w' => e = .returned (.bool true) ∧ Below w.heap.size w w' := by
  unfold maxLen at hm
  go_enter Try.func7, Try.ntmps7
  go_wp2_with (go_at_call 8; refine (wakes_any _).mono ?_; rintro e w' ⟨rfl, hb⟩)
  go_ret
  exact ⟨rfl, hb⟩
theorem own_small (A : Option Addr) (n c : Nat) (xs : List UInt8) (used cd k : Int) (w : World) (hA : Bs w w.heap.size A n xs) (hAc : A = none → c = 0) (h : n ≤ 100) :
    Calls Try.prog 7 #[.slice A n c, .int .i64 used, .int .i64 cd, .int .i64 k] w fun e w' => e = .returned (.bool true) ∧ Below w.heap.size w w' := by
  have HA := Lib.hid hA
  have HAc := Lib.hid hAc
  clear hA hAc
  obtain ⟨i0, hi, hz0, hz1, hz2⟩ := info_parts info_u8
  have hinf := Lib.hid (And.intro hi (And.intro hz0 (And.intro hz1 hz2)))
  clear hi hz0 hz1 hz2
  go_enter Try.func7, Try.ntmps7
  go_wp2_with (at_builtin; refine wpList_append_bytes _ rfl (.tmp 18) (.tmp 19) 22 rfl w.heap.size 5 i0 Try.underlying22 hinf.out.1 hinf.out.2.1 hinf.out.2.2.1 hinf.out.2.2.2 _ [] rfl (OwnB.lit w _ _ (Nat.le_refl _)) w.heap.size A n c xs rfl (HA.out.alloc (Nat.le_refl _) _) HAc.out (by simp; omega) (by simp) ?_; intro v1 w1 hown1 hb1; clear hinf)
  have hbw1 : Below w.heap.size w w1 := ((Below.refl _ w).alloc (Nat.le_refl _) _).trans hb1
  have hz1 := hbw1.size
  clear hb1
  rw [List.nil_append] at hown1
  obtain ⟨A1, c1, rfl, hle1, _, _, hbs1⟩ := hown1.form
  have HA1 := Lib.hid hbs1
  clear hown1 hbs1
  refine (lay_any A n c xs used cd k w1 ((HA.out.below hbw1).more hz1) (by omega)).mono ?_
  rintro e w2 ⟨v2, ys, u, q, rfl, hlen, hown2, hb2⟩
  obtain ⟨A2, c2, rfl, hle2, _, _, _⟩ := hown2.form
  go_wp2
  go_loopw [13] (fun t wr => ∃ (j : Nat) (zs : List UInt8), j ≤ ys.length ∧ t = .int .i64 j ∧ zs.length = ys.length ∧ OwnB wr w1.heap.size 5 (.slice A2 ys.length c2) zs ∧ Below w1.heap.size w1 wr) (fun t _ => ys.length - (intOf t).toNat)
  case atStart => exact ⟨0, ys, Nat.zero_le _, rfl, rfl, hown2, hb2⟩
  case round =>
    clear hown2 hb2
    obtain ⟨j, zs, hj, rfl, hzl, hown, hb⟩ := hrel
    have HL := Lib.hid hzl
    clear hzl
    by_cases hlt : j < ys.length
    · obtain ⟨g, rfl, hBg, hgl, hnc, hcell, hfr, hset⟩ := hown.at_ (j := j) (by rw [HL.out]; exact hlt)
      have HS := Lib.hid hset
      have HO := Lib.hid hown
      clear hset hown
      have hjz : j < zs.length := by rw [HL.out]; exact hlt
      have hx := u8_xor_255 (zs[j]'hjz)
      have hlen' : (zs.set j ((zs[j]'hjz) ^^^ 255)).length = ys.length := by rw [List.length_set]; exact HL.out
      have HL' := Lib.hid hlen'
      have HS' := Lib.hid (HS.out ((zs[j]'hjz) ^^^ 255))
      have hb' := hb.setCell (p := ⟨g, j, none⟩) hBg (.int .u8 (((zs[j]'hjz) ^^^ 255 : UInt8).toNat : Int))
      have HB' := Lib.hid hb'
      clear hlen' hb' HS HO
      go_wp2
      go_roundw
      case rel => exact ⟨j + 1, _, by omega, by go_num, HL'.out, HS'.out, HB'.out⟩
      case measure => simp [intOf]; omega
    · obtain rfl : j = ys.length := by omega
      have hz2 := hb.size
      go_wp2_with fail
      refine (refsame_any _ _ n xs.length _ _ _ _ xs xs _ (((HA.out.below hbw1).more hz1).below hb) (HA1.out.below hb)).mono ?_
      rintro e w' ⟨rfl, rfl⟩
      rw [show (xs == xs) = true from by simp]
      go_wp2_with (go_at_call 8; refine (wakes_any _).mono ?_; rintro e w' ⟨rfl, hb5⟩)
      go_ret
      exact ⟨rfl, (hbw1.trans (hb.mono hz1)).trans (hb5.mono (by omega))⟩
end Go.Proofs.Ytfglpnfegfcmeaa
