/- The walk of HuffTells. -/
import Derived.Test.YtfjmgfahlicleaaDoorHfW
namespace Go.Proofs.YtfjmgfahlicleaaDoor
open Go.RowKit Hf Oct
set_option linter.unusedVariables false
set_option linter.unusedSimpArgs false
set_option maxHeartbeats 1000000 in
theorem lt_great (c : UInt8) (code many : Int) (A A' : Option Addr) (n n' cc cc' : Nat) (w : World) (hR : Rws w) (h : 200 < n ∨ 200 < n') (hm : n ≤ maxLen) (hm' : n' ≤ maxLen) :
    Calls Tryd.prog 3 #[.int .u8 (c.toNat : Int), .int .i64 code, .int .i64 many, .slice A n cc, .slice A' n' cc'] w fun e w' => e = .returned (.bool true) ∧ Below w.heap.size w w' := by
  unfold maxLen at hm hm'
  have HW := Lib.hid (wakes7 w hR)
  clear hR
  rcases Nat.lt_or_ge 200 n with h1 | h1
  · clear h
    go_enter Tryd.func3, Tryd.ntmps3
    go_wp2_with (go_at_call 8; (with_reducible refine HW.out.mono ?_); rintro e w1 ⟨rfl, hb1⟩; have HB1 := Lib.hid hb1; clear hb1)
    go_ret
    exact ⟨rfl, HB1.out⟩
  · have h2 : 200 < n' := by omega
    clear h
    go_enter Tryd.func3, Tryd.ntmps3
    go_wp2_with (go_at_call 8; (with_reducible refine HW.out.mono ?_); rintro e w1 ⟨rfl, hb1⟩; have HB1 := Lib.hid hb1; clear hb1)
    go_ret
    exact ⟨rfl, HB1.out⟩
set_option maxRecDepth 100000 in
set_option maxHeartbeats 4000000 in
theorem lt_main (c : UInt8) (code many : Int) (A A' : Option Addr) (n n' cc cc' : Nat) (xs ys : List UInt8) (w : World) (hR : Rws w) (hA : Bs w w.heap.size A n xs) (hA' : Bs w w.heap.size A' n' ys) (hn : n ≤ 200) (hn' : n' ≤ 200) (wc : (Lit.int .i64 code).wf = true) (wm : (Lit.int .i64 many).wf = true) :
    Calls Tryd.prog 3 #[.int .u8 (c.toNat : Int), .int .i64 code, .int .i64 many, .slice A n cc, .slice A' n' cc'] w fun e w' => e = .returned (.bool true) ∧ Below w.heap.size w w' := by
  have K0 : Hid (EnvF w [bF A n xs, bF A' n' ys, rF] []) := Lib.hid (((Hf.envR w hR).add0 (x := bF A' n' ys) hA' (bs_on hA')).add0 (x := bF A n xs) hA (bs_on hA))
  have B0 : Hid (Below w.heap.size w w) := Lib.hid (Below.refl _ w)
  have HW := Lib.hid (And.intro wc wm)
  clear hR hA hA' wc wm
  go_enter Tryd.func3, Tryd.ntmps3
  go_wp2_with (first
    | go_skip
    | (go_at_call 9; (have hc := (h_code c w (Hf.EnvF.rws K0.out (by simp))); (with_reducible refine hc.mono ?_); clear hc); rintro e w1 ⟨rfl, hb⟩; have K1 : Hid (EnvF w1 [bF A n xs, bF A' n' ys, rF] []) := Lib.hid (K0.out.on hb); have B1 : Hid (Below w.heap.size w w1) := Lib.hid (below_step B0.out hb); clear hb K0 B0)
    | (go_at_call 10; (have hc := (r_code c _ w1 rfl); (with_reducible refine hc.mono ?_); clear hc); rintro e w' ⟨rfl, rfl⟩)
    | (go_at_call 11; (have hc := (h_of code many w1 (Hf.EnvF.rws K1.out (by simp)) HW.out.1 HW.out.2); (with_reducible refine hc.mono ?_); clear hc); rintro e w2 ⟨rfl, hb⟩; have K2 : Hid (EnvF w2 [bF A n xs, bF A' n' ys, rF] []) := Lib.hid (K1.out.on hb); have B2 : Hid (Below w.heap.size w w2) := Lib.hid (below_step B1.out hb); clear hb K1 B1)
    | (go_at_call 12; (have hc := (r_of code many w2); (with_reducible refine hc.mono ?_); clear hc); rintro e w' ⟨rfl, rfl⟩)
    | (go_at_call 13; (have hc := (h_take A' n' cc' ys w2 (Hf.EnvF.rws K2.out (by simp)) (K2.out.bs (A := A') (n := n') (xs := ys) (by simp)) (by omega)); (with_reducible refine hc.mono ?_); clear hc); rintro e w3 ⟨A1, m1, c1, rfl, hh, hb⟩; have K3 : Hid (EnvF w3 [bF A1 m1 (takeL ys), bF A n xs, bF A' n' ys, rF] []) := Lib.hid (K2.out.handS hb hh); have B3 : Hid (Below w.heap.size w w3) := Lib.hid (below_step B2.out hb); clear hb hh K2 B2)
    | (go_at_call 14; (have hc := (r_take A' n' cc' ys w3 (K3.out.bs (A := A') (n := n') (xs := ys) (by simp)) (by omega)); (with_reducible refine hc.mono ?_); clear hc); rintro e w4 ⟨A2, m2, c2, rfl, hh, hb⟩; have K4 : Hid (EnvF w4 [bF A2 m2 (takeL ys), bF A1 m1 (takeL ys), bF A n xs, bF A' n' ys, rF] []) := Lib.hid (K3.out.handS hb hh); have B4 : Hid (Below w.heap.size w w4) := Lib.hid (below_step B3.out hb); clear hb hh K3 B3)
    | (go_at_call 15; (have hc := (h_bits A n cc xs w4 (Hf.EnvF.rws K4.out (by simp)) (K4.out.bs (A := A) (n := n) (xs := xs) (by simp)) (by omega)); (with_reducible refine hc.mono ?_); clear hc); rintro e w5 ⟨rfl, hb⟩; have K5 : Hid (EnvF w5 [bF A2 m2 (takeL ys), bF A1 m1 (takeL ys), bF A n xs, bF A' n' ys, rF] []) := Lib.hid (K4.out.on hb); have B5 : Hid (Below w.heap.size w w5) := Lib.hid (below_step B4.out hb); clear hb K4 B4)
    | (go_at_call 16; (have hc := (r_bits A _ n cc xs w5 (K5.out.bs (A := A) (n := n) (xs := xs) (by simp)) (by omega)); (with_reducible refine hc.mono ?_); clear hc); rintro e w' ⟨rfl, rfl⟩)
    | (go_at_call 18; (have hc := (h_put A n cc xs w5 (Hf.EnvF.rws K5.out (by simp)) (K5.out.bs (A := A) (n := n) (xs := xs) (by simp)) (by omega)); (with_reducible refine hc.mono ?_); clear hc); rintro e w6 ⟨A3, m3, c3, zs, rfl, hp, hh, hb⟩; have K6 : Hid (EnvF w6 [bF A3 m3 zs, bF A2 m2 (takeL ys), bF A1 m1 (takeL ys), bF A n xs, bF A' n' ys, rF] []) := Lib.hid (K5.out.handS hb hh); have B6 : Hid (Below w.heap.size w w6) := Lib.hid (below_step B5.out hb); have HP3 := Lib.hid hp; clear hp; clear hb hh K5 B5)
    | (go_at_call 19; (have hc := (r_put A n cc xs w6 (K6.out.bs (A := A) (n := n) (xs := xs) (by simp)) (by omega)); (with_reducible refine hc.mono ?_); clear hc); rintro e w7 ⟨A4, m4, c4, vs, rfl, hp, hh, hb⟩; obtain rfl := HP3.out.one hp; clear hp; have K7 : Hid (EnvF w7 [bF A4 m4 zs, bF A3 m3 zs, bF A2 m2 (takeL ys), bF A1 m1 (takeL ys), bF A n xs, bF A' n' ys, rF] []) := Lib.hid (K6.out.handS hb hh); have B7 : Hid (Below w.heap.size w w7) := Lib.hid (below_step B6.out hb); clear hb hh K6 B6)
    | (go_at_call 17; (have hc := (refsame_any A3 A4 m3 m4 c3 c4 _ _ zs zs w7 (K7.out.bs (A := A3) (n := m3) (xs := zs) (by simp)) (K7.out.bs (A := A4) (n := m4) (xs := zs) (by simp))); (with_reducible refine hc.mono ?_); clear hc); rintro e w' ⟨rfl, rfl⟩; rw [beq_self_eq_true])
    | (go_at_call 17; (have hc := (refsame_any A1 A2 m1 m2 c1 c2 _ _ _ _ w7 (K7.out.bs (A := A1) (n := m1) (xs := (takeL ys)) (by simp)) (K7.out.bs (A := A2) (n := m2) (xs := (takeL ys)) (by simp))); (with_reducible refine hc.mono ?_); clear hc); rintro e w' ⟨rfl, rfl⟩; rw [beq_self_eq_true])
    | (go_at_call 20; (have hc := (h_shorter A n cc xs w7 (Hf.EnvF.rws K7.out (by simp)) (K7.out.bs (A := A) (n := n) (xs := xs) (by simp)) (by omega)); (with_reducible refine hc.mono ?_); clear hc); rintro e w8 ⟨rfl, hb⟩; have K8 : Hid (EnvF w8 [bF A4 m4 zs, bF A3 m3 zs, bF A2 m2 (takeL ys), bF A1 m1 (takeL ys), bF A n xs, bF A' n' ys, rF] []) := Lib.hid (K7.out.on hb); have B8 : Hid (Below w.heap.size w w8) := Lib.hid (below_step B7.out hb); clear hb K7 B7)
    | (go_at_call 21; (have hc := (r_shorter A _ n cc xs w8 (K8.out.bs (A := A) (n := n) (xs := xs) (by simp)) (by omega)); (with_reducible refine hc.mono ?_); clear hc); rintro e w' ⟨rfl, rfl⟩)
    | (go_at_call 8; (have hc := (wakes7 w8 (Hf.EnvF.rws K8.out (by simp))); (with_reducible refine hc.mono ?_); clear hc); rintro e w9 ⟨rfl, hb⟩; have K9 : Hid (EnvF w9 [bF A4 m4 zs, bF A3 m3 zs, bF A2 m2 (takeL ys), bF A1 m1 (takeL ys), bF A n xs, bF A' n' ys, rF] []) := Lib.hid (K8.out.on hb); have B9 : Hid (Below w.heap.size w w9) := Lib.hid (below_step B8.out hb); clear hb K8 B8))
  go_ret
  exact ⟨rfl, B9.out⟩
end Go.Proofs.YtfjmgfahlicleaaDoor
