/- TableFinds: the law. -/
import Derived.Test.YtgplkjifgagjpaaDoorTbLfa
import Derived.Test.YtgplkjifgagjpaaDoorTbLfb
import Derived.Test.YtgplkjifgagjpaaDoorTbLfc
namespace Go.Proofs.YtgplkjifgagjpaaDoor
open Go.RowKit Tb
set_option linter.unusedVariables false
set_option linter.unusedSimpArgs false
theorem lf_all (M : Int) (A : Option Addr) (n c : Nat) (f : Fd) (w : World) (hR : Stv w) (hI : IsFlds w A n c) (h1 : f.1.size ≤ 140737488355328) (h2 : f.2.size ≤ 140737488355328) :
    Calls Tryd.prog 6 #[.agg #[.int .i64 M, .slice A n c], .agg #[.string f.1, .string f.2]] w fun e w' => e = .returned (.bool true) ∧ Below w.heap.size w w' := by
  obtain ⟨xs, hA, hS, hnc, hcm, hN⟩ := rowFlds hI
  have HG := Lib.hid fun (w0 : World) (h : Fs w0 w0.heap.size A n xs) => r_great A n c xs w0 h hnc hcm hS
  have HGF := Lib.hid fun (A0 : Option Addr) (w0 : World) (h : Fs w0 w0.heap.size A0 1 [f]) => r_great A0 1 1 [f] w0 h (Nat.le_refl _) (by unfold maxLen; omega) (fun x hx => by rw [List.mem_singleton.1 hx]; exact ⟨h1, h2⟩)
  cases hg : greatB xs with
  | true => rw [hg] at HG; exact lf_G1 M A n c xs f w hR hA HG
  | false =>
    rw [hg] at HG
    cases hgf : greatB [f] with
    | true => rw [hgf] at HGF; exact lf_G2 M A n c xs f w hR hA HG HGF
    | false =>
      rw [hgf] at HGF
      obtain ⟨hl, hF⟩ := great_no hg
      have hl2 := hA.1
      have hsf : sz f ≤ 1000000 := by
        obtain ⟨_, h3⟩ := great_no hgf
        simp only [full] at h3
        omega
      have HFD := Lib.hid fun (w0 : World) (g : Stv w0) (h : Fs w0 w0.heap.size A n xs) => t_find M A n c xs f w0 g h (by omega) (by omega) hsf
      cases hb : findB xs f with
      | true =>
        rw [hb] at HFD
        exact lf_a M A n c xs f w hR hA (by omega) hF HG HGF _ (find_yes hb) HFD
      | false =>
        rw [hb] at HFD
        obtain ⟨k1, k2⟩ := find_no hb
        rcases k2 with ⟨e, k3⟩ | k3
        · rw [e] at HFD
          exact lf_b M A n c xs f w hR hA (by omega) hF HG HGF k3 HFD
        · exact lf_c M A n c xs f w hR hA (by omega) hF HG HGF _ k1 k3 HFD
end Go.Proofs.YtgplkjifgagjpaaDoor
