/- The walk of OctetTells: the program's answers are the document's; nothing that was there has turned. -/
import Derived.Test.YtfglpnfegfcmeaaOctTells
namespace Go.Proofs.Ytfglpnfegfcmeaa
open Go.RowKit Oct

theorem Bs.on {w w' : World} {A : Option Addr} {n : Nat} {xs : List UInt8} (h : Bs w w.heap.size A n xs) (hb : Below w.heap.size w w') : Bs w' w'.heap.size A n xs := (h.below hb).more hb.size
set_option maxRecDepth 100000 in
set_option maxHeartbeats 4000000 in
theorem tells_yes (A A' : Option Addr) (n c n' c' : Nat) (xs zs : List UInt8) (N S i k u cd : Int) (w : World) (hA : Bs w w.heap.size A n xs) (hA' : Bs w w.heap.size A' n' zs) (hn : n ≤ 300) (hn' : n' ≤ 300) (hnc : n ≤ c)
    (hi : i ≤ 9223372036854775807) :
    Calls Try.prog 3 #[.slice A n c, .slice A' n' c', .int .i64 N, .int .i64 S, .int .i64 i, .int .i64 k, .int .i64 u, .int .i64 cd] w fun e w' => e = .returned (.bool true) ∧ Below w.heap.size w w' := by
  have HA := Lib.hid hA
  have HA' := Lib.hid hA'
  have d1 : decide (300 < (n : Int)) = false := by simp; omega
  have d2 : decide (300 < (n' : Int)) = false := by simp; omega
  go_enter Try.func3, Try.ntmps3
  go_wp2_with (first
    | (go_at_call 9; refine (put_tot N S w).mono ?_; rintro e w1 ⟨v1, rfl, ⟨A1, n1, c1, rfl, hb1⟩, hd1⟩; have HX := Lib.hid hb1; clear hb1)
    | (go_at_call 10; refine (rput_tot N S _).mono ?_; rintro e w2 ⟨v2, rfl, ⟨A2, n2, c2, rfl, hb2⟩, hd2⟩; have HY := Lib.hid hb2; clear hb2; have hd12 := hd1.trans (hd2.mono hd1.size); have HA2 := Lib.hid (HA.out.on hd12); have HX2 := Lib.hid (HX.out.on hd2))
    | (go_at_call 11; refine (take_tot A _ n c xs i S _ HA2.out (by omega) hnc).mono ?_; rintro e w' ⟨rfl, rfl⟩)
    | (go_at_call 12; refine (rtake_tot A _ n c xs i S _ HA2.out (by omega)).mono ?_; rintro e w' ⟨rfl, rfl⟩)
    | (go_at_call 13; refine (stream_tot A _ n c xs i _ HA2.out (by omega) hnc).mono ?_; rintro e w' ⟨rfl, rfl⟩)
    | (go_at_call 14; refine (rstream_tot A _ n c xs i _ HA2.out (by omega)).mono ?_; rintro e w' ⟨rfl, rfl⟩)
    | (go_at_call 15; refine (refsame_any A1 A2 n1 n2 c1 c2 _ _ _ _ _ HX2.out HY.out).mono ?_; rintro e w' ⟨rfl, rfl⟩; rw [beq_self_eq_true])
    | (go_at_call 16; refine (bit_tot A _ n c xs i _ HA2.out (by omega)).mono ?_; rintro e w' ⟨rfl, rfl⟩)
    | (go_at_call 17; refine (rbit_tot A _ n c xs i _ HA2.out (by omega) hi).mono ?_; rintro e w' ⟨rfl, rfl⟩)
    | (go_at_call 18; refine (bits_tot A n c xs i k _ HA2.out (by omega)).mono ?_; rintro e w3 ⟨rfl, hd3⟩; have hd13 := hd12.trans (hd3.mono hd12.size); have HA3 := Lib.hid (HA.out.on hd13))
    | (go_at_call 19; refine (rbits_tot A _ n c xs i k _ HA3.out (by omega)).mono ?_; rintro e w' ⟨rfl, rfl⟩)
    | (go_at_call 20; refine (lay_tot A n c xs u cd k _ HA3.out (by omega)).mono ?_; rintro e w4 ⟨v4, y4, rfl, hl4, ⟨A4, n4, c4, rfl, hb4⟩, hd4⟩; have HL4 := Lib.hid hl4; have HB4 := Lib.hid hb4; clear hl4 hb4; have hd14 := hd13.trans (hd4.mono hd13.size); have HA4 := Lib.hid (HA.out.on hd14))
    | (go_at_call 21; refine (rlay_tot A n c xs u cd k _ HA4.out (by omega)).mono ?_; rintro e w5 ⟨v5, y5, rfl, hl5, ⟨A5, n5, c5, rfl, hb5⟩, hd5⟩; obtain rfl := HL4.out.one hl5; have HB5 := Lib.hid hb5; clear hl5 hb5; have hd15 := hd14.trans (hd5.mono hd14.size); have HA5 := Lib.hid (HA.out.on hd15); have HC5 := Lib.hid (HA'.out.on hd15); have HX5 := Lib.hid (HB4.out.on hd5)))
  refine (refsame_any A4 A5 n4 n5 c4 c5 _ _ _ _ _ HX5.out HB5.out).mono ?_
  rintro e w' ⟨rfl, rfl⟩
  rw [beq_self_eq_true]
  have HD := Lib.hid hd15
  have hsz := hd15.size
  clear hd1 hd2 hd12 hd3 hd13 hd4 hd14 hd5 hd15
  go_wp2_with (first
    | (go_at_call 22; refine (same_any A A' n n' c c' _ _ _ _ _ HA5.out HC5.out).mono ?_; rintro e w' ⟨rfl, rfl⟩)
    | (go_at_call 15; refine (refsame_any A A' n n' c c' _ _ _ _ _ HA5.out HC5.out).mono ?_; rintro e w' ⟨rfl, rfl⟩)
    | (go_at_call 8; refine (wakes_any _).mono ?_; rintro e w6 ⟨rfl, hb6⟩))
  go_ret
  exact ⟨rfl, HD.out.trans (hb6.mono hsz)⟩
end Go.Proofs.Ytfglpnfegfcmeaa
