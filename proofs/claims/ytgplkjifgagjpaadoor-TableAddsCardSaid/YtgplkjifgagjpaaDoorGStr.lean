/- Bytes as strings: the conversion of a slice of bytes. -/
import Derived.Laws.BytesArg
import Derived.Test.YtgplkjifgagjpaaDoorRows
import Derived.Test.YtgplkjifgagjpaaDoorGMem
namespace Go.Proofs.YtgplkjifgagjpaaDoor
open Go.RowKit

theorem strOf_bytes (xs : List UInt8) : strOfNums (xs.map fun x => (x.toNat : Int)) = ⟨xs.toArray⟩ := by
  apply ByteArray.ext
  apply Array.toList_inj.1
  rw [strOfNums_data, List.map_map]
  have : ((fun n : Int => UInt8.ofNat n.toNat) ∘ fun x : UInt8 => (x.toNat : Int)) = id := by funext x; simp
  rw [this, List.map_id]
theorem info_u8 : (Tryd.prog.info? 5).map (fun i => (i.zero, i.size, i.bytes)) = some (some (.int .u8 0), 1, 1) := by kernel_rfl
end Go.Proofs.YtgplkjifgagjpaaDoor
