/- Bytes as strings: the conversion of a slice of bytes. -/
import Derived.Laws.BytesArg
import Derived.Test.YtbflhphjnmhjhaaGreatRows
import Derived.Test.YtbflhphjnmhjhaaGreatGMem
namespace Go.Proofs.YtbflhphjnmhjhaaGreat
open Go.RowKit

theorem strOf_bytes (xs : List UInt8) : strOfNums (xs.map fun x => (x.toNat : Int)) = ⟨xs.toArray⟩ := by
  apply ByteArray.ext
  apply Array.toList_inj.1
  rw [strOfNums_data, List.map_map]
  have : ((fun n : Int => UInt8.ofNat n.toNat) ∘ fun x : UInt8 => (x.toNat : Int)) = id := by funext x; simp
  rw [this, List.map_id]
theorem conv_bytes {w : World} {B n c : Nat} {A : Option Addr} {xs : List UInt8} (h : Bs w B A n xs) :
    (convert 24 9 (.slice A n c)).run Tryz.prog w = .ok (.string ⟨xs.toArray⟩) w := by
  rcases Nat.eq_zero_or_pos n with h0 | h0
  · subst h0
    have : xs = [] := List.eq_nil_of_length_eq_zero h.1
    subst this
    cases A with
    | none => exact run_convert_bytes_nil (P := Tryz.prog) w 24 5 Tryz.underlying24 Tryz.underlying5 0 c 9 Tryz.underlying9
    | some a =>
      have hl : (loadCells a 0).run Tryz.prog w = .ok (([] : List Int).map (Value.int .u8)).toArray w := run_loadCells_list (P := Tryz.prog) w a [] (fun j v hj => by simp at hj)
      rw [run_convert_bytes_string w 24 9 5 (some a) 0 c Tryz.underlying24 Tryz.underlying5 Tryz.underlying9, run_bytesToString w a 0 c [] hl]
      rfl
  · obtain ⟨b, o, rfl, _, hc⟩ := h.2 h0
    have hx := run_convert_bytes_arg (P := Tryz.prog) w 24 5 Tryz.underlying24 Tryz.underlying5 b o n c (xs.map fun x => (x.toNat : Int)) (by simp [h.1]) (fun j hj => by
      have hjx : j < xs.length := by rw [h.1]; exact hj
      rw [hc j hj]
      simp [hjx]) 9 Tryz.underlying9
    rw [strOf_bytes] at hx
    exact hx
theorem info_u8 : (Tryz.prog.info? 5).map (fun i => (i.zero, i.size, i.bytes)) = some (some (.int .u8 0), 1, 1) := by kernel_rfl
end Go.Proofs.YtbflhphjnmhjhaaGreat
