/- Package text: Plain, Bits, Best, Size. -/
import Derived.Test.YtdcbafddnegpaaaDoorTxC
namespace Go.Proofs.YtdcbafddnegpaaaDoor
open Go.RowKit Hf Oct Tx Go.Shelf
set_option linter.unusedVariables false
set_option linter.unusedSimpArgs false
theorem x_tellP (s : List UInt8) (w : World) (hn : s.length ≤ 10000) :
    Calls Tryd.prog 25 #[.agg #[.int .u8 0, .func (.func 38) #[] #[], .func (.func 39) #[] #[]], .string ⟨s.toArray⟩] w fun e w' => ∃ A c, e = .returned (.slice A (plB s).length c) ∧ HandS w' w.heap.size A (plB s).length c (plB s) ∧ Below w.heap.size w w' :=
  x_tell 38 39 0 s s w (enters_of Tryd.func38 (by kernel_rfl) rfl) (fun w' _ => x_lay1 s w') (by omega)
theorem x_tellB (s : List UInt8) (w : World) (hR : Rws w) (hn : s.length ≤ 10000) :
    Calls Tryd.prog 25 #[.agg #[.int .u8 128, .func (.func 43) #[] #[], .func (.func 45) #[] #[]], .string ⟨s.toArray⟩] w fun e w' => ∃ A c, e = .returned (.slice A (biB s).length c) ∧ HandS w' w.heap.size A (biB s).length c (biB s) ∧ Below w.heap.size w w' :=
  x_tell 43 45 128 s (hO s) w (enters_of Tryd.func43 (by kernel_rfl) rfl) (fun w' hb => x_lay2 s w' (hR.on hb) hn) (by have := hO_le s; omega)
theorem x_plainU (w : World) : Calls Tryd.prog 24 #[] w fun e w' => e = .returned (.agg #[.int .u8 0, .func (.func 38) #[] #[], .func (.func 39) #[] #[]]) ∧ Below w.heap.size w w' := x_plain w
theorem x_bitsU (w : World) : Calls Tryd.prog 27 #[] w fun e w' => e = .returned (.agg #[.int .u8 128, .func (.func 43) #[] #[], .func (.func 45) #[] #[]]) ∧ Below w.heap.size w w' := x_inBits w
theorem x_Plain (s : List UInt8) (w : World) (hn : s.length ≤ 10000) :
    Calls Tryd.prog 11 #[.string ⟨s.toArray⟩] w fun e w' => ∃ A c, e = .returned (.slice A (plB s).length c) ∧ HandS w' w.heap.size A (plB s).length c (plB s) ∧ Below w.heap.size w w' := by
  have HN := Lib.hid hn
  clear hn
  go_enter Tryd.func11, Tryd.ntmps11
  go_wp2_with (first
    | (go_at_call 24; (have hc := (x_plainU w); (with_reducible refine hc.mono ?_); clear hc); rintro e w1 ⟨rfl, hb⟩; have B1 := Lib.hid hb; clear hb)
    | (go_at_call 25; (have hc := (x_tellP s w1 HN.out); (with_reducible refine hc.mono ?_); clear hc); rintro e w2 ⟨A2, c2, rfl, hh, hb⟩; have B2 := Lib.hid (below_step B1.out hb); have H2 : Hid (HandS w2 w.heap.size A2 (plB s).length c2 (plB s)) := Lib.hid ⟨hh.1, FreshS.less hh.2.1 B1.out.size, hh.2.2⟩; clear hb hh))
  go_ret
  exact ⟨A2, c2, rfl, H2.out, B2.out⟩
theorem x_Bits (s : List UInt8) (w : World) (hR : Rws w) (hn : s.length ≤ 10000) :
    Calls Tryd.prog 13 #[.string ⟨s.toArray⟩] w fun e w' => ∃ A c, e = .returned (.slice A (biB s).length c) ∧ HandS w' w.heap.size A (biB s).length c (biB s) ∧ Below w.heap.size w w' := by
  have HN := Lib.hid hn
  have HR := Lib.hid hR
  clear hn hR
  go_enter Tryd.func13, Tryd.ntmps13
  go_wp2_with (first
    | (go_at_call 27; (have hc := (x_bitsU w); (with_reducible refine hc.mono ?_); clear hc); rintro e w1 ⟨rfl, hb⟩; have B1 := Lib.hid hb; clear hb)
    | (go_at_call 25; (have hc := (x_tellB s w1 (HR.out.on B1.out) HN.out); (with_reducible refine hc.mono ?_); clear hc); rintro e w2 ⟨A2, c2, rfl, hh, hb⟩; have B2 := Lib.hid (below_step B1.out hb); have H2 : Hid (HandS w2 w.heap.size A2 (biB s).length c2 (biB s)) := Lib.hid ⟨hh.1, FreshS.less hh.2.1 B1.out.size, hh.2.2⟩; clear hb hh))
  go_ret
  exact ⟨A2, c2, rfl, H2.out, B2.out⟩
theorem x_Best (s : List UInt8) (w : World) (hR : Rws w) (hn : s.length ≤ 10000) :
    Calls Tryd.prog 15 #[.string ⟨s.toArray⟩] w fun e w' => ∃ A c, e = .returned (.slice A (beB s).length c) ∧ HandS w' w.heap.size A (beB s).length c (beB s) ∧ Below w.heap.size w w' := by
  obtain ⟨c0, w0, hr, hh, hb⟩ := Tx.conv_str w s
  have hS := h_shorter (some ⟨w.heap.size, 0, none⟩) s.length c0 s w0 (hR.on hb) hh.1 hn
  have HN := Lib.hid hn
  have HR := Lib.hid hR
  have HB0 := Lib.hid hb
  clear hn hR hh hb
  by_cases h : ((bl s).length + 7) / 8 < s.length
  · rw [decide_eq_true h] at hS
    have HS := Lib.hid hS
    rw [show beB s = biB s from if_pos h]
    clear hS h
    go_enter Tryd.func15, Tryd.ntmps15
    go_wp2_with (first
      | (go_at_call 29; (with_reducible refine HS.out.mono ?_); rintro e w1 ⟨rfl, hb⟩; have B1 := Lib.hid (below_step HB0.out hb); clear hb)
      | (go_at_call 13; (have hc := (x_Bits s w1 (HR.out.on B1.out) HN.out); (with_reducible refine hc.mono ?_); clear hc); rintro e w2 ⟨A2, c2, rfl, hh, hb⟩; have B2 := Lib.hid (below_step B1.out hb); have H2 : Hid (HandS w2 w.heap.size A2 (biB s).length c2 (biB s)) := Lib.hid ⟨hh.1, FreshS.less hh.2.1 B1.out.size, hh.2.2⟩; clear hb hh))
    go_ret
    exact ⟨A2, c2, rfl, H2.out, B2.out⟩
  · rw [decide_eq_false h] at hS
    have HS := Lib.hid hS
    rw [show beB s = plB s from if_neg h]
    clear hS h
    go_enter Tryd.func15, Tryd.ntmps15
    go_wp2_with (first
      | (go_at_call 29; (with_reducible refine HS.out.mono ?_); rintro e w1 ⟨rfl, hb⟩; have B1 := Lib.hid (below_step HB0.out hb); clear hb)
      | (go_at_call 11; (have hc := (x_Plain s w1 HN.out); (with_reducible refine hc.mono ?_); clear hc); rintro e w2 ⟨A2, c2, rfl, hh, hb⟩; have B2 := Lib.hid (below_step B1.out hb); have H2 : Hid (HandS w2 w.heap.size A2 (plB s).length c2 (plB s)) := Lib.hid ⟨hh.1, FreshS.less hh.2.1 B1.out.size, hh.2.2⟩; clear hb hh))
    go_ret
    exact ⟨A2, c2, rfl, H2.out, B2.out⟩
theorem x_Size (s : List UInt8) (w : World) (hR : Rws w) (hn : s.length ≤ 10000) :
    Calls Tryd.prog 17 #[.string ⟨s.toArray⟩] w fun e w' => e = .returned (.int .i64 ((beB s).length : Int)) ∧ Below w.heap.size w w' := by
  have HB := Lib.hid (x_Best s w hR hn)
  clear hR
  go_enter Tryd.func17, Tryd.ntmps17
  go_wp2_with (go_at_call 15; (with_reducible refine HB.out.mono ?_); rintro e w1 ⟨A1, c1, rfl, hh, hb⟩; have B1 := Lib.hid hb; clear hb hh)
  go_ret
  exact ⟨rfl, B1.out⟩
end Go.Proofs.YtdcbafddnegpaaaDoor
