/- The walk of TextBack. -/
import Derived.Test.YtdcbafddnegpaaaDoorTxW
import Derived.Deep.RegionHeld3
namespace Go.Proofs.YtdcbafddnegpaaaDoor
open Go.RowKit Hf Oct Tx
set_option linter.unusedVariables false
set_option linter.unusedSimpArgs false
theorem infot_Y : (Tryd.prog.info? 31).map (·.size) = some 3 := by kernel_rfl
namespace Tx
/-- What is put in one of the ways: it is taken whatever stands behind it, and too short without its last byte. -/
structure Told (s l : List UInt8) : Prop where
  ok : ∀ ys, tE (l ++ ys) = 0 ∧ tS (l ++ ys) = s ∧ tR (l ++ ys) = ys
  cut : tE (l.take (l.length - 1)) = 10
  pos : 0 < l.length
  le : l.length ≤ 7000
theorem told_pl {s : List UInt8} (hs : s.length ≤ 3000) : Told s (plB s) :=
  ⟨take_pl (by omega), take_cut rfl (by omega) (by omega), pl_pos s, by have := pl_len s; have := Px.numB_len (n := s.length) (k := 7) (by omega); omega⟩
theorem told_bi {s : List UInt8} (hs : s.length ≤ 3000) : Told s (biB s) := by
  have := hO_le s
  exact ⟨take_bi (by omega), take_cut rfl (by omega) (by omega), bi_pos s, by have := bi_len s; have := Px.numB_len (n := (hO s).length) (k := 7) (by omega); omega⟩
theorem told_be {s : List UInt8} (hs : s.length ≤ 3000) : Told s (beB s) := by
  unfold beB
  split
  · exact told_bi hs
  · exact told_pl hs
end Tx
theorem tb_take {s l : List UInt8} (h : Tx.Told s l) (bs : List UInt8) (A : Option Addr) (m n c : Nat) (w : World) (hR : Rws w) (hA : Bs w w.heap.size A m (l ++ bs)) (hnc : m ≤ c) (hm : m ≤ 10000) (hn : bs.length = n) :
    Calls Tryd.prog 8 #[.slice A m c] w fun e w' => ∃ A' c', e = .returned (.tuple #[.string ⟨s.toArray⟩, .slice A' n c', .int .i64 0]) ∧ HandS w' w.heap.size A' n c' bs ∧ Below w.heap.size w w' := by
  have h1 := x_Take A m c _ w hR hA hnc (by omega) (.inl hm)
  obtain ⟨e1, e2, e3⟩ := h.ok bs
  rw [e1, e2, e3, hn] at h1
  exact h1
theorem tb_cut {s l : List UInt8} (h : Tx.Told s l) (A : Option Addr) (k c : Nat) (w : World) (hR : Rws w) (hA : Bs w w.heap.size A (k + 1) l) (hnc : k ≤ c) :
    Calls Tryd.prog 8 #[.slice A k c] w fun e w' => ∃ x A' m c', e = .returned (.tuple #[.string x, .slice A' m c', .int .i64 10]) ∧ Below w.heap.size w w' := by
  have hl := hA.1
  have hle := h.le
  have h1 := x_Take A k c _ w hR (hA.take (k := k) (by omega)) hnc (by omega) (.inl (by omega))
  have hc := h.cut
  rw [hl, show k + 1 - 1 = k from rfl] at hc
  rw [hc] at h1
  refine h1.mono ?_
  rintro e w' ⟨A', c', rfl, _, hb⟩
  exact ⟨_, A', _, c', rfl, hb⟩
set_option maxHeartbeats 1000000 in
theorem tb_great (s : List UInt8) (A : Option Addr) (n c : Nat) (w : World) (hR : Rws w) (h : 3000 < s.length ∨ 300 < n) (hs : s.length ≤ maxLen) (hn : n ≤ maxLen) :
    Calls Tryd.prog 4 #[.string ⟨s.toArray⟩, .slice A n c] w fun e w' => e = .returned (.bool true) ∧ Below w.heap.size w w' := by
  have HW := Lib.hid (wakes8 w hR)
  clear hR
  unfold maxLen at hs hn
  by_cases h1 : 3000 < s.length
  · clear h
    go_enter Tryd.func4, Tryd.ntmps4
    go_wp2_with (go_at_call 7; (with_reducible refine HW.out.mono ?_); rintro e w1 ⟨rfl, hb1⟩; have HB1 := Lib.hid hb1; clear hb1)
    go_ret
    exact ⟨rfl, HB1.out⟩
  · have h2 : s.length ≤ 3000 := by omega
    have h3 : 300 < n := by omega
    clear h
    go_enter Tryd.func4, Tryd.ntmps4
    go_wp2_with (go_at_call 7; (with_reducible refine HW.out.mono ?_); rintro e w1 ⟨rfl, hb1⟩; have HB1 := Lib.hid hb1; clear hb1)
    go_ret
    exact ⟨rfl, HB1.out⟩
set_option maxRecDepth 100000 in
set_option maxHeartbeats 4000000 in
theorem tb_main (s : List UInt8) (A : Option Addr) (n c : Nat) (bs : List UInt8) (w : World) (hR : Rws w) (hA : Bs w w.heap.size A n bs) (hN : A = none → c = 0) (hnc : n ≤ c) (hs : s.length ≤ 3000) (hn : n ≤ 300) :
    Calls Tryd.prog 4 #[.string ⟨s.toArray⟩, .slice A n c] w fun e w' => e = .returned (.bool true) ∧ Below w.heap.size w w' := by
  have K0 : Hid (EnvF w [bF A n bs, rF] []) := Lib.hid ((Tx.envR w hR).add0 (x := bF A n bs) hA (bs_on hA))
  have B0 : Hid (Below w.heap.size w w) := Lib.hid (Below.refl _ w)
  obtain ⟨i0, hi, hz0, hz1, hz2⟩ := info_parts info_tu8
  have hinf := Lib.hid (And.intro hi (And.intro hz0 (And.intro hz1 hz2)))
  have HBL := Lib.hid hA.1
  have HN := Lib.hid hN
  have HT1 := Lib.hid (Tx.told_pl hs)
  have HT2 := Lib.hid (Tx.told_bi hs)
  have HT3 := Lib.hid (Tx.told_be hs)
  have hle := be_le s
  obtain ⟨k1, hk1⟩ : ∃ k, (plB s).length = k + 1 := ⟨(plB s).length - 1, by have := HT1.out.pos; omega⟩
  obtain ⟨k2, hk2⟩ : ∃ k, (biB s).length = k + 1 := ⟨(biB s).length - 1, by have := HT2.out.pos; omega⟩
  obtain ⟨k3, hk3⟩ : ∃ k, (beB s).length = k + 1 := ⟨(beB s).length - 1, by have := HT3.out.pos; omega⟩
  have hk1b : k1 ≤ 7000 := by have := HT1.out.le; omega
  have hk2b : k2 ≤ 7000 := by have := HT2.out.le; omega
  have hk3b : k3 ≤ 7000 := by have := HT3.out.le; omega
  rw [hk1, hk2, hk3] at hle
  have hle1 : k3 ≤ k1 := by omega
  have hle2 : k3 ≤ k2 := by omega
  have HP1 : Hid (∀ w, Calls Tryd.prog 11 #[.string ⟨s.toArray⟩] w fun e w' => ∃ A c, e = .returned (.slice A (k1 + 1) c) ∧ HandS w' w.heap.size A (k1 + 1) c (plB s) ∧ Below w.heap.size w w') := Lib.hid (fun w => by have h := x_Plain s w (by omega); rwa [hk1] at h)
  have HP2 : Hid (∀ w, Rws w → Calls Tryd.prog 13 #[.string ⟨s.toArray⟩] w fun e w' => ∃ A c, e = .returned (.slice A (k2 + 1) c) ∧ HandS w' w.heap.size A (k2 + 1) c (biB s) ∧ Below w.heap.size w w') := Lib.hid (fun w h0 => by have h := x_Bits s w h0 (by omega); rwa [hk2] at h)
  have HP3 : Hid (∀ w, Rws w → Calls Tryd.prog 15 #[.string ⟨s.toArray⟩] w fun e w' => ∃ A c, e = .returned (.slice A (k3 + 1) c) ∧ HandS w' w.heap.size A (k3 + 1) c (beB s) ∧ Below w.heap.size w w') := Lib.hid (fun w h0 => by have h := x_Best s w h0 (by omega); rwa [hk3] at h)
  have HSZ : Hid (∀ w, Rws w → Calls Tryd.prog 17 #[.string ⟨s.toArray⟩] w fun e w' => e = .returned (.int .i64 ((k3 + 1 : Nat) : Int)) ∧ Below w.heap.size w w') := Lib.hid (fun w h0 => by have h := x_Size s w h0 (by omega); rwa [hk3] at h)
  have HK1 := Lib.hid hk1
  have HK2 := Lib.hid hk2
  have HK3 := Lib.hid hk3
  clear hR hA hN hi hz0 hz1 hz2 hle hk1 hk2 hk3
  go_enter Tryd.func4, Tryd.ntmps4
  go_wp2_with (first
    | go_skip
    | (go_at_call 11; (have hc := (HP1.out w); (with_reducible refine hc.mono ?_); clear hc); rintro e w1 ⟨A1, c1, rfl, hh, hb⟩; have hc1 : k1 + 1 ≤ c1 := hh.2.2.1; have hd1 : k1 ≤ c1 := (by omega); have he1 : (k1 : Int) ≤ (c1 : Int) := (by omega); have HN1 := Lib.hid hh.2.2.2; have K1 : Hid (EnvF w1 [bF A1 (k1 + 1) (plB s), bF A n bs, rF] []) := Lib.hid (K0.out.handS hb hh); have B1 : Hid (Below w.heap.size w w1) := Lib.hid (below_step B0.out hb); clear hb hh K0 B0)
    | (go_at_call 13; (have hc := (HP2.out w1 (Tx.EnvF.rws K1.out (by simp))); (with_reducible refine hc.mono ?_); clear hc); rintro e w2 ⟨A2, c2, rfl, hh, hb⟩; have hc2 : k2 + 1 ≤ c2 := hh.2.2.1; have hd2 : k2 ≤ c2 := (by omega); have he2 : (k2 : Int) ≤ (c2 : Int) := (by omega); have HN2 := Lib.hid hh.2.2.2; have K2 : Hid (EnvF w2 [bF A2 (k2 + 1) (biB s), bF A1 (k1 + 1) (plB s), bF A n bs, rF] []) := Lib.hid (K1.out.handS hb hh); have B2 : Hid (Below w.heap.size w w2) := Lib.hid (below_step B1.out hb); clear hb hh K1 B1)
    | (go_at_call 15; (have hc := (HP3.out w2 (Tx.EnvF.rws K2.out (by simp))); (with_reducible refine hc.mono ?_); clear hc); rintro e w3 ⟨A3, c3, rfl, hh, hb⟩; have hc3 : k3 + 1 ≤ c3 := hh.2.2.1; have hd3 : k3 ≤ c3 := (by omega); have he3 : (k3 : Int) ≤ (c3 : Int) := (by omega); have HN3 := Lib.hid hh.2.2.2; have K3 : Hid (EnvF w3 [bF A3 (k3 + 1) (beB s), bF A2 (k2 + 1) (biB s), bF A1 (k1 + 1) (plB s), bF A n bs, rF] []) := Lib.hid (K2.out.handS hb hh); have B3 : Hid (Below w.heap.size w w3) := Lib.hid (below_step B2.out hb); clear hb hh K2 B2; have lea : w.heap.size ≤ w3.heap.size := (by have := B3.out.size; (try simp only [World.size_alloc] at this); omega); have K4 : Hid (EnvF (w3.alloc (.cells #[.slice none 0 0, .slice none 0 0, .slice none 0 0] 31)) [bF A3 (k3 + 1) (beB s), bF A2 (k2 + 1) (biB s), bF A1 (k1 + 1) (plB s), bF A n bs, rF] [(w3.heap.size, #[.slice none 0 0, .slice none 0 0, .slice none 0 0], 31)]) := Lib.hid (K3.out.boxg 31 #[.slice none 0 0, .slice none 0 0, .slice none 0 0] (w3.heap.size) (by simp)); have B4 : Hid (Below w.heap.size w (w3.alloc (.cells #[.slice none 0 0, .slice none 0 0, .slice none 0 0] 31))) := Lib.hid (B3.out.alloc B3.out.size (.cells #[.slice none 0 0, .slice none 0 0, .slice none 0 0] 31)); clear K3 B3)
    | (refine at_store 31 (.tmp 5) (.tmp 28) (by rfl) ?_; refine wpList_put (by rfl) 31 (.tmp 5) (.tmp 28) (by rfl) (w3.heap.size) 0 (.agg #[.slice A1 (k1 + 1) c1, .slice A2 (k2 + 1) c2, .slice A3 (k3 + 1) c3]) (by rfl) (by rfl) 31 #[.slice none 0 0, .slice none 0 0, .slice none 0 0] #[.slice A1 (k1 + 1) c1, .slice A2 (k2 + 1) c2, .slice A3 (k3 + 1) c3] (K4.out.row 0 rfl) (by simp [Value.cells]) (by kernel_rfl) infot_Y (by kernel_rfl) ?_; intro w5 hrow hoth hz hbl; have K5 : Hid (EnvF w5 [bF A3 (k3 + 1) (beB s), bF A2 (k2 + 1) (biB s), bF A1 (k1 + 1) (plB s), bF A n bs, rF] [(w3.heap.size, #[.slice A1 (k1 + 1) c1, .slice A2 (k2 + 1) c2, .slice A3 (k3 + 1) c3], 31)]) := Lib.hid (K4.out.turn 0 rfl hrow hoth hz); have B5 : Hid (Below w.heap.size w w5) := Lib.hid (hbl _ _ lea B4.out); clear hrow hoth hz hbl K4 B4))
  clear HP1 HP2 HP3
  go_loopw [6] (fun t wr => ∃ i : Nat, i ≤ 3 ∧ t = .int .i64 (i : Int) ∧ EnvF wr [bF A3 (k3 + 1) (beB s), bF A2 (k2 + 1) (biB s), bF A1 (k1 + 1) (plB s), bF A n bs, rF] [(w3.heap.size, #[.slice A1 (k1 + 1) c1, .slice A2 (k2 + 1) c2, .slice A3 (k3 + 1) c3], 31)] ∧ Below w.heap.size w wr) (fun t _ => 3 - (intOf t).toNat)
  case atStart => exact ⟨0, Nat.zero_le _, rfl, K5.out, B5.out⟩
  case round =>
    obtain ⟨i, hi, rfl, hK, hB⟩ := hrel
    have K10 : Hid (EnvF wr [bF A3 (k3 + 1) (beB s), bF A2 (k2 + 1) (biB s), bF A1 (k1 + 1) (plB s), bF A n bs, rF] [(w3.heap.size, #[.slice A1 (k1 + 1) c1, .slice A2 (k2 + 1) c2, .slice A3 (k3 + 1) c3], 31)]) := Lib.hid hK
    have B10 : Hid (Below w.heap.size w wr) := Lib.hid hB
    obtain ⟨f0, f1, f2⟩ := cells3_row (K10.out.row 0 rfl)
    have hw1c : IntKind.i64.wrap (k1 : Int) = (k1 : Int) := IntWalk.i64_in _ (by omega)
    have hw2c : IntKind.i64.wrap (k2 : Int) = (k2 : Int) := IntWalk.i64_in _ (by omega)
    have hw3c : IntKind.i64.wrap (k3 : Int) = (k3 : Int) := IntWalk.i64_in _ (by omega)
    clear hK hB K5 B5
    have h4 : i = 0 ∨ i = 1 ∨ i = 2 ∨ i = 3 := by omega
    obtain rfl | rfl | rfl | rfl := h4
    · go_wp2_with (first
        | go_skip
        | (refine at_load 22 (.tmp 34) (by rfl) ?_; refine wpList_get (by rfl) 22 (.tmp 34) (by rfl) (w3.heap.size) 0 (by rfl) 31 #[.slice A1 (k1 + 1) c1, .slice A2 (k2 + 1) c2, .slice A3 (k3 + 1) c3] (.slice A1 (k1 + 1) c1) _ (K10.out.row 0 rfl) (by rfl) Tryd.underlying22 (by rfl) ?_)
        | (refine at_load 22 (.tmp 41) (by rfl) ?_; refine wpList_get (by rfl) 22 (.tmp 41) (by rfl) (w3.heap.size) 0 (by rfl) 31 #[.slice A1 (k1 + 1) c1, .slice A2 (k2 + 1) c2, .slice A3 (k3 + 1) c3] (.slice A1 (k1 + 1) c1) _ ((K10.out.al (.cells #[] 5)).row 0 rfl) (by rfl) Tryd.underlying22 (by rfl) ?_)
        | (at_builtin; refine wpList_append_bytes _ rfl (.tmp 39) (.tmp 42) 22 rfl wr.heap.size 5 i0 Tryd.underlying22 hinf.out.1 hinf.out.2.1 hinf.out.2.2.1 hinf.out.2.2.2 _ [] rfl (OwnB.lit _ _ _ (Nat.le_refl _)) _ A1 (k1 + 1) c1 (plB s) rfl ((K10.out.al (.cells #[] 5)).bs (A := A1) (n := k1 + 1) (xs := (plB s)) (by simp)) HN1.out (by simp; omega) (by simp) ?_; intro v11 w11 ho hb; have HO11 : Hid (OwnB w11 wr.heap.size 5 v11 ([] ++ (plB s))) := Lib.hid ho; have hbb : Below wr.heap.size wr w11 := ((Below.refl _ wr).alloc (Nat.le_refl _) _).trans hb; have HBB := Lib.hid hbb; have K11 : Hid (EnvF w11 [bF A3 (k3 + 1) (beB s), bF A2 (k2 + 1) (biB s), bF A1 (k1 + 1) (plB s), bF A n bs, rF] [(w3.heap.size, #[.slice A1 (k1 + 1) c1, .slice A2 (k2 + 1) c2, .slice A3 (k3 + 1) c3], 31)]) := Lib.hid (K10.out.on hbb); have hsz11 : wr.heap.size ≤ w11.heap.size := hbb.size; clear ho hb hbb)
        | (at_builtin; refine wpList_append_bytes _ rfl (.tmp 43) (.tmp 44) 22 rfl wr.heap.size 5 i0 Tryd.underlying22 hinf.out.1 hinf.out.2.1 hinf.out.2.2.1 hinf.out.2.2.2 _ ([] ++ (plB s)) rfl HO11.out _ A n c bs rfl (K11.out.bs (A := A) (n := n) (xs := bs) (by simp)) HN.out (by have h1 := HT1.out.le; rw [List.nil_append]; omega) hsz11 ?_; intro v12 w12 ho hb; have hbb : Below wr.heap.size wr w12 := HBB.out.trans hb; have K12 : Hid (EnvF w12 [bF A3 (k3 + 1) (beB s), bF A2 (k2 + 1) (biB s), bF A1 (k1 + 1) (plB s), bF A n bs, rF] [(w3.heap.size, #[.slice A1 (k1 + 1) c1, .slice A2 (k2 + 1) c2, .slice A3 (k3 + 1) c3], 31)]) := Lib.hid (K10.out.on hbb); have B12 : Hid (Below w.heap.size w w12) := Lib.hid (below_step B10.out hbb); obtain ⟨A5, c5, rfl, hh5⟩ := ho.handS (n := k1 + 1 + n) (by rw [List.nil_append, List.length_append, HK1.out, HBL.out]); have HH5 : Hid (HandS w12 wr.heap.size A5 (k1 + 1 + n) c5 ((plB s) ++ bs)) := Lib.hid hh5; clear ho hb hbb hh5 K10 B10 K11 HBB)
        | (go_at_call 8; (have hc := (tb_take HT1.out bs A5 (k1 + 1 + n) n c5 w12 (Tx.EnvF.rws K12.out (by simp)) HH5.out.1 HH5.out.2.2.1 (by omega) HBL.out); (with_reducible refine hc.mono ?_); clear hc); rintro e w13 ⟨A6, c6, rfl, hh, hb⟩; have K13 : Hid (EnvF w13 [bF A6 n bs, bF A3 (k3 + 1) (beB s), bF A2 (k2 + 1) (biB s), bF A1 (k1 + 1) (plB s), bF A n bs, rF] [(w3.heap.size, #[.slice A1 (k1 + 1) c1, .slice A2 (k2 + 1) c2, .slice A3 (k3 + 1) c3], 31)]) := Lib.hid (K12.out.handS hb hh); have B13 : Hid (Below w.heap.size w w13) := Lib.hid (below_step B12.out hb); clear hb hh K12 B12))
      have S0 := Lib.hid (cells3_row (K13.out.row 0 rfl)).1
      have S0d : Hid (w13.drew.cell? ⟨w3.heap.size, 0, none⟩ = some (.slice A1 (k1 + 1) c1)) := S0
      have S1 := S0
      go_region_held3 (fun W' => W'.cell? ⟨w3.heap.size, 0, none⟩ = some (.slice A1 (k1 + 1) c1)) (first | with_reducible exact S0.out | with_reducible exact S0d.out | with_reducible exact S1.out)
        (first
          | (go_at_call 8; (have hc := (tb_cut HT1.out A1 k1 c1 w13.drew (Tx.EnvF.rws K13.out.drew (by simp)) (K13.out.drew.bs (A := A1) (n := k1 + 1) (xs := (plB s)) (by simp)) (by omega)); (with_reducible refine hc.mono ?_); clear hc); rintro e w14 ⟨x7, A7, m7, c7, rfl, hb⟩; have K14 : Hid (EnvF w14 [bF A6 n bs, bF A3 (k3 + 1) (beB s), bF A2 (k2 + 1) (biB s), bF A1 (k1 + 1) (plB s), bF A n bs, rF] [(w3.heap.size, #[.slice A1 (k1 + 1) c1, .slice A2 (k2 + 1) c2, .slice A3 (k3 + 1) c3], 31)]) := Lib.hid (K13.out.drew.on hb); have B14 : Hid (Below w.heap.size w w14) := Lib.hid (below_step B13.out.drew hb); have S1 := Lib.hid (cells3_row (K14.out.row 0 rfl)).1; clear hb K13 B13))
      go_wp2_with (first
        | (go_at_call 10; (have hc := (l_same A6 A n n c6 c _ _ bs bs w14 (K14.out.bs (A := A6) (n := n) (xs := bs) (by simp)) (K14.out.bs (A := A) (n := n) (xs := bs) (by simp))); (with_reducible refine hc.mono ?_); clear hc); rintro e w' ⟨rfl, rfl⟩; rw [beq_self_eq_true]))
      go_roundw
      case rel => exact ⟨1, by omega, rfl, K14.out.sub (fun x hx => List.mem_cons_of_mem _ hx) (List.Sublist.refl _), B14.out⟩
      case measure => simp [intOf]
    · go_wp2_with (first
        | go_skip
        | (refine at_load 22 (.tmp 34) (by rfl) ?_; refine wpList_get (by rfl) 22 (.tmp 34) (by rfl) (w3.heap.size) 1 (by rfl) 31 #[.slice A1 (k1 + 1) c1, .slice A2 (k2 + 1) c2, .slice A3 (k3 + 1) c3] (.slice A2 (k2 + 1) c2) _ (K10.out.row 0 rfl) (by rfl) Tryd.underlying22 (by rfl) ?_)
        | (refine at_load 22 (.tmp 41) (by rfl) ?_; refine wpList_get (by rfl) 22 (.tmp 41) (by rfl) (w3.heap.size) 1 (by rfl) 31 #[.slice A1 (k1 + 1) c1, .slice A2 (k2 + 1) c2, .slice A3 (k3 + 1) c3] (.slice A2 (k2 + 1) c2) _ ((K10.out.al (.cells #[] 5)).row 0 rfl) (by rfl) Tryd.underlying22 (by rfl) ?_)
        | (at_builtin; refine wpList_append_bytes _ rfl (.tmp 39) (.tmp 42) 22 rfl wr.heap.size 5 i0 Tryd.underlying22 hinf.out.1 hinf.out.2.1 hinf.out.2.2.1 hinf.out.2.2.2 _ [] rfl (OwnB.lit _ _ _ (Nat.le_refl _)) _ A2 (k2 + 1) c2 (biB s) rfl ((K10.out.al (.cells #[] 5)).bs (A := A2) (n := k2 + 1) (xs := (biB s)) (by simp)) HN2.out (by simp; omega) (by simp) ?_; intro v11 w11 ho hb; have HO11 : Hid (OwnB w11 wr.heap.size 5 v11 ([] ++ (biB s))) := Lib.hid ho; have hbb : Below wr.heap.size wr w11 := ((Below.refl _ wr).alloc (Nat.le_refl _) _).trans hb; have HBB := Lib.hid hbb; have K11 : Hid (EnvF w11 [bF A3 (k3 + 1) (beB s), bF A2 (k2 + 1) (biB s), bF A1 (k1 + 1) (plB s), bF A n bs, rF] [(w3.heap.size, #[.slice A1 (k1 + 1) c1, .slice A2 (k2 + 1) c2, .slice A3 (k3 + 1) c3], 31)]) := Lib.hid (K10.out.on hbb); have hsz11 : wr.heap.size ≤ w11.heap.size := hbb.size; clear ho hb hbb)
        | (at_builtin; refine wpList_append_bytes _ rfl (.tmp 43) (.tmp 44) 22 rfl wr.heap.size 5 i0 Tryd.underlying22 hinf.out.1 hinf.out.2.1 hinf.out.2.2.1 hinf.out.2.2.2 _ ([] ++ (biB s)) rfl HO11.out _ A n c bs rfl (K11.out.bs (A := A) (n := n) (xs := bs) (by simp)) HN.out (by have h1 := HT2.out.le; rw [List.nil_append]; omega) hsz11 ?_; intro v12 w12 ho hb; have hbb : Below wr.heap.size wr w12 := HBB.out.trans hb; have K12 : Hid (EnvF w12 [bF A3 (k3 + 1) (beB s), bF A2 (k2 + 1) (biB s), bF A1 (k1 + 1) (plB s), bF A n bs, rF] [(w3.heap.size, #[.slice A1 (k1 + 1) c1, .slice A2 (k2 + 1) c2, .slice A3 (k3 + 1) c3], 31)]) := Lib.hid (K10.out.on hbb); have B12 : Hid (Below w.heap.size w w12) := Lib.hid (below_step B10.out hbb); obtain ⟨A5, c5, rfl, hh5⟩ := ho.handS (n := k2 + 1 + n) (by rw [List.nil_append, List.length_append, HK2.out, HBL.out]); have HH5 : Hid (HandS w12 wr.heap.size A5 (k2 + 1 + n) c5 ((biB s) ++ bs)) := Lib.hid hh5; clear ho hb hbb hh5 K10 B10 K11 HBB)
        | (go_at_call 8; (have hc := (tb_take HT2.out bs A5 (k2 + 1 + n) n c5 w12 (Tx.EnvF.rws K12.out (by simp)) HH5.out.1 HH5.out.2.2.1 (by omega) HBL.out); (with_reducible refine hc.mono ?_); clear hc); rintro e w13 ⟨A6, c6, rfl, hh, hb⟩; have K13 : Hid (EnvF w13 [bF A6 n bs, bF A3 (k3 + 1) (beB s), bF A2 (k2 + 1) (biB s), bF A1 (k1 + 1) (plB s), bF A n bs, rF] [(w3.heap.size, #[.slice A1 (k1 + 1) c1, .slice A2 (k2 + 1) c2, .slice A3 (k3 + 1) c3], 31)]) := Lib.hid (K12.out.handS hb hh); have B13 : Hid (Below w.heap.size w w13) := Lib.hid (below_step B12.out hb); clear hb hh K12 B12))
      have S0 := Lib.hid (cells3_row (K13.out.row 0 rfl)).2.1
      have S0d : Hid (w13.drew.cell? ⟨w3.heap.size, 1, none⟩ = some (.slice A2 (k2 + 1) c2)) := S0
      have S1 := S0
      go_region_held3 (fun W' => W'.cell? ⟨w3.heap.size, 1, none⟩ = some (.slice A2 (k2 + 1) c2)) (first | with_reducible exact S0.out | with_reducible exact S0d.out | with_reducible exact S1.out)
        (first
          | (go_at_call 8; (have hc := (tb_cut HT2.out A2 k2 c2 w13.drew (Tx.EnvF.rws K13.out.drew (by simp)) (K13.out.drew.bs (A := A2) (n := k2 + 1) (xs := (biB s)) (by simp)) (by omega)); (with_reducible refine hc.mono ?_); clear hc); rintro e w14 ⟨x7, A7, m7, c7, rfl, hb⟩; have K14 : Hid (EnvF w14 [bF A6 n bs, bF A3 (k3 + 1) (beB s), bF A2 (k2 + 1) (biB s), bF A1 (k1 + 1) (plB s), bF A n bs, rF] [(w3.heap.size, #[.slice A1 (k1 + 1) c1, .slice A2 (k2 + 1) c2, .slice A3 (k3 + 1) c3], 31)]) := Lib.hid (K13.out.drew.on hb); have B14 : Hid (Below w.heap.size w w14) := Lib.hid (below_step B13.out.drew hb); have S1 := Lib.hid (cells3_row (K14.out.row 0 rfl)).2.1; clear hb K13 B13))
      go_wp2_with (first
        | (go_at_call 10; (have hc := (l_same A6 A n n c6 c _ _ bs bs w14 (K14.out.bs (A := A6) (n := n) (xs := bs) (by simp)) (K14.out.bs (A := A) (n := n) (xs := bs) (by simp))); (with_reducible refine hc.mono ?_); clear hc); rintro e w' ⟨rfl, rfl⟩; rw [beq_self_eq_true]))
      go_roundw
      case rel => exact ⟨2, by omega, rfl, K14.out.sub (fun x hx => List.mem_cons_of_mem _ hx) (List.Sublist.refl _), B14.out⟩
      case measure => simp [intOf]
    · go_wp2_with (first
        | go_skip
        | (refine at_load 22 (.tmp 34) (by rfl) ?_; refine wpList_get (by rfl) 22 (.tmp 34) (by rfl) (w3.heap.size) 2 (by rfl) 31 #[.slice A1 (k1 + 1) c1, .slice A2 (k2 + 1) c2, .slice A3 (k3 + 1) c3] (.slice A3 (k3 + 1) c3) _ (K10.out.row 0 rfl) (by rfl) Tryd.underlying22 (by rfl) ?_)
        | (refine at_load 22 (.tmp 41) (by rfl) ?_; refine wpList_get (by rfl) 22 (.tmp 41) (by rfl) (w3.heap.size) 2 (by rfl) 31 #[.slice A1 (k1 + 1) c1, .slice A2 (k2 + 1) c2, .slice A3 (k3 + 1) c3] (.slice A3 (k3 + 1) c3) _ ((K10.out.al (.cells #[] 5)).row 0 rfl) (by rfl) Tryd.underlying22 (by rfl) ?_)
        | (at_builtin; refine wpList_append_bytes _ rfl (.tmp 39) (.tmp 42) 22 rfl wr.heap.size 5 i0 Tryd.underlying22 hinf.out.1 hinf.out.2.1 hinf.out.2.2.1 hinf.out.2.2.2 _ [] rfl (OwnB.lit _ _ _ (Nat.le_refl _)) _ A3 (k3 + 1) c3 (beB s) rfl ((K10.out.al (.cells #[] 5)).bs (A := A3) (n := k3 + 1) (xs := (beB s)) (by simp)) HN3.out (by simp; omega) (by simp) ?_; intro v11 w11 ho hb; have HO11 : Hid (OwnB w11 wr.heap.size 5 v11 ([] ++ (beB s))) := Lib.hid ho; have hbb : Below wr.heap.size wr w11 := ((Below.refl _ wr).alloc (Nat.le_refl _) _).trans hb; have HBB := Lib.hid hbb; have K11 : Hid (EnvF w11 [bF A3 (k3 + 1) (beB s), bF A2 (k2 + 1) (biB s), bF A1 (k1 + 1) (plB s), bF A n bs, rF] [(w3.heap.size, #[.slice A1 (k1 + 1) c1, .slice A2 (k2 + 1) c2, .slice A3 (k3 + 1) c3], 31)]) := Lib.hid (K10.out.on hbb); have hsz11 : wr.heap.size ≤ w11.heap.size := hbb.size; clear ho hb hbb)
        | (at_builtin; refine wpList_append_bytes _ rfl (.tmp 43) (.tmp 44) 22 rfl wr.heap.size 5 i0 Tryd.underlying22 hinf.out.1 hinf.out.2.1 hinf.out.2.2.1 hinf.out.2.2.2 _ ([] ++ (beB s)) rfl HO11.out _ A n c bs rfl (K11.out.bs (A := A) (n := n) (xs := bs) (by simp)) HN.out (by have h1 := HT3.out.le; rw [List.nil_append]; omega) hsz11 ?_; intro v12 w12 ho hb; have hbb : Below wr.heap.size wr w12 := HBB.out.trans hb; have K12 : Hid (EnvF w12 [bF A3 (k3 + 1) (beB s), bF A2 (k2 + 1) (biB s), bF A1 (k1 + 1) (plB s), bF A n bs, rF] [(w3.heap.size, #[.slice A1 (k1 + 1) c1, .slice A2 (k2 + 1) c2, .slice A3 (k3 + 1) c3], 31)]) := Lib.hid (K10.out.on hbb); have B12 : Hid (Below w.heap.size w w12) := Lib.hid (below_step B10.out hbb); obtain ⟨A5, c5, rfl, hh5⟩ := ho.handS (n := k3 + 1 + n) (by rw [List.nil_append, List.length_append, HK3.out, HBL.out]); have HH5 : Hid (HandS w12 wr.heap.size A5 (k3 + 1 + n) c5 ((beB s) ++ bs)) := Lib.hid hh5; clear ho hb hbb hh5 K10 B10 K11 HBB)
        | (go_at_call 8; (have hc := (tb_take HT3.out bs A5 (k3 + 1 + n) n c5 w12 (Tx.EnvF.rws K12.out (by simp)) HH5.out.1 HH5.out.2.2.1 (by omega) HBL.out); (with_reducible refine hc.mono ?_); clear hc); rintro e w13 ⟨A6, c6, rfl, hh, hb⟩; have K13 : Hid (EnvF w13 [bF A6 n bs, bF A3 (k3 + 1) (beB s), bF A2 (k2 + 1) (biB s), bF A1 (k1 + 1) (plB s), bF A n bs, rF] [(w3.heap.size, #[.slice A1 (k1 + 1) c1, .slice A2 (k2 + 1) c2, .slice A3 (k3 + 1) c3], 31)]) := Lib.hid (K12.out.handS hb hh); have B13 : Hid (Below w.heap.size w w13) := Lib.hid (below_step B12.out hb); clear hb hh K12 B12))
      have S0 := Lib.hid (cells3_row (K13.out.row 0 rfl)).2.2
      have S0d : Hid (w13.drew.cell? ⟨w3.heap.size, 2, none⟩ = some (.slice A3 (k3 + 1) c3)) := S0
      have S1 := S0
      go_region_held3 (fun W' => W'.cell? ⟨w3.heap.size, 2, none⟩ = some (.slice A3 (k3 + 1) c3)) (first | with_reducible exact S0.out | with_reducible exact S0d.out | with_reducible exact S1.out)
        (first
          | (go_at_call 8; (have hc := (tb_cut HT3.out A3 k3 c3 w13.drew (Tx.EnvF.rws K13.out.drew (by simp)) (K13.out.drew.bs (A := A3) (n := k3 + 1) (xs := (beB s)) (by simp)) (by omega)); (with_reducible refine hc.mono ?_); clear hc); rintro e w14 ⟨x7, A7, m7, c7, rfl, hb⟩; have K14 : Hid (EnvF w14 [bF A6 n bs, bF A3 (k3 + 1) (beB s), bF A2 (k2 + 1) (biB s), bF A1 (k1 + 1) (plB s), bF A n bs, rF] [(w3.heap.size, #[.slice A1 (k1 + 1) c1, .slice A2 (k2 + 1) c2, .slice A3 (k3 + 1) c3], 31)]) := Lib.hid (K13.out.drew.on hb); have B14 : Hid (Below w.heap.size w w14) := Lib.hid (below_step B13.out.drew hb); have S1 := Lib.hid (cells3_row (K14.out.row 0 rfl)).2.2; clear hb K13 B13))
      go_wp2_with (first
        | (go_at_call 10; (have hc := (l_same A6 A n n c6 c _ _ bs bs w14 (K14.out.bs (A := A6) (n := n) (xs := bs) (by simp)) (K14.out.bs (A := A) (n := n) (xs := bs) (by simp))); (with_reducible refine hc.mono ?_); clear hc); rintro e w' ⟨rfl, rfl⟩; rw [beq_self_eq_true]))
      go_roundw
      case rel => exact ⟨3, by omega, rfl, K14.out.sub (fun x hx => List.mem_cons_of_mem _ hx) (List.Sublist.refl _), B14.out⟩
      case measure => simp [intOf]
    · have S0 := Lib.hid (cells3_row (K10.out.row 0 rfl))
      have S0d : Hid (wr.drew.cell? ⟨w3.heap.size, 0, none⟩ = some (.slice A1 (k1 + 1) c1) ∧ wr.drew.cell? ⟨w3.heap.size, 1, none⟩ = some (.slice A2 (k2 + 1) c2) ∧ wr.drew.cell? ⟨w3.heap.size, 2, none⟩ = some (.slice A3 (k3 + 1) c3)) := S0
      have S1 := S0
      have S2 := S0
      have hq1 : decide (((k3 : Int) + 1) ≤ (k1 : Int) + 1) = true := decide_eq_true (by omega)
      have hq2 : decide (((k3 : Int) + 1) ≤ (k2 : Int) + 1) = true := decide_eq_true (by omega)
      go_wp2
      go_region_held3 (fun W' => W'.cell? ⟨w3.heap.size, 0, none⟩ = some (.slice A1 (k1 + 1) c1) ∧ W'.cell? ⟨w3.heap.size, 1, none⟩ = some (.slice A2 (k2 + 1) c2) ∧ W'.cell? ⟨w3.heap.size, 2, none⟩ = some (.slice A3 (k3 + 1) c3)) (first | with_reducible exact S0.out | with_reducible exact S0d.out | with_reducible exact S1.out | with_reducible exact S2.out)
        (first
          | (go_at_call 17; (have hc := (HSZ.out wr.drew (Tx.EnvF.rws K10.out.drew (by simp))); (with_reducible refine hc.mono ?_); clear hc); rintro e w11 ⟨rfl, hb⟩; have K11 : Hid (EnvF w11 [bF A3 (k3 + 1) (beB s), bF A2 (k2 + 1) (biB s), bF A1 (k1 + 1) (plB s), bF A n bs, rF] [(w3.heap.size, #[.slice A1 (k1 + 1) c1, .slice A2 (k2 + 1) c2, .slice A3 (k3 + 1) c3], 31)]) := Lib.hid (K10.out.drew.on hb); have B11 : Hid (Below w.heap.size w w11) := Lib.hid (below_step B10.out.drew hb); have S1 := Lib.hid (cells3_row (K11.out.row 0 rfl)); clear hb K10 B10)
          | (go_at_call 7; (have hc := (wakes8 w11 (Tx.EnvF.rws K11.out (by simp))); (with_reducible refine hc.mono ?_); clear hc); rintro e w12 ⟨rfl, hb⟩; have K12 : Hid (EnvF w12 [bF A3 (k3 + 1) (beB s), bF A2 (k2 + 1) (biB s), bF A1 (k1 + 1) (plB s), bF A n bs, rF] [(w3.heap.size, #[.slice A1 (k1 + 1) c1, .slice A2 (k2 + 1) c2, .slice A3 (k3 + 1) c3], 31)]) := Lib.hid (K11.out.on hb); have B12 : Hid (Below w.heap.size w w12) := Lib.hid (below_step B11.out hb); have S2 := Lib.hid (cells3_row (K12.out.row 0 rfl)); clear hb K11 B11))
      all_goals
        go_wp2
        go_ret
        exact ⟨rfl, B12.out⟩
end Go.Proofs.YtdcbafddnegpaaaDoor
