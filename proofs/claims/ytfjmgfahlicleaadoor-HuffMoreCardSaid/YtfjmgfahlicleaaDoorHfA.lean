/- strings.IndexByte of a string, whatever it is handed. -/
import Derived.Test.YtfjmgfahlicleaaDoorGMem
import Derived.Test.YtfjmgfahlicleaaDoorRows
import Derived.Lib.Bytealg
namespace Go.Proofs.YtfjmgfahlicleaaDoor
open Go.RowKit

theorem h_ix (s : ByteArray) (c : Int) (w : World) :
    Calls Tryd.prog 24 #[.string s, .int .u8 c] w fun e w' => e = .returned (.int .i64 (Lib.indexByte s.data.toList c.toNat.toUInt8)) ∧ w = w' := by
  have hd : ∀ W, (callFunc 40 #[.string s, .int .u8 c]).run Tryd.prog W = .ok (.value (.int .i64 (Lib.indexByte s.data.toList c.toNat.toUInt8))) W := fun W => by
    rw [run_callFunc_extern Tryd.func40 (by kernel_rfl) (by kernel_rfl) (by kernel_rfl) (e := Extern.BytealgIndexByte.indexByte) (by kernel_rfl), Lib.run_indexByteString]; rfl
  go_enter Tryd.func24, Tryd.ntmps24
  go_wp2
  go_ret
  exact ⟨rfl, rfl⟩
end Go.Proofs.YtfjmgfahlicleaaDoor
