import Derived.Test.YtahiajeggbpogaaGreatDoorPkL
import Derived.Test.YtahiajeggbpogaaGreatDoorUpZ
namespace Go.Proofs.YtahiajeggbpogaaGreatDoor
open Go.RowKit Go.Shelf Px Tx Tb Up Pk
set_option linter.unusedVariables false
theorem Pk.start11{w:World}{A:Option Addr}{n:Nat}{xs:List Fd}(h:Up.Vars w)(hA:Fs w w.heap.size A n xs):EnvF w [fF A n xs,stF,rwF,mvF] []:=by
 obtain⟨h1,h2,h3⟩:=h
 have lt : ∀{k:Nat} {v:Value},w.cell? ⟨k,0,none⟩=some v→k<w.heap.size:=fun h=>by
  obtain⟨o,ho,_⟩:=cells_of_cell h
  exact(Array.getElem?_eq_some_iff.1 ho).1
 have k3:EnvF w [mvF] []:=(EnvF.nil w).add0 (x:=mvF) h3 (fun k hk=>by
  obtain⟨⟨a,_⟩,⟨b,_⟩,⟨c,_⟩,⟨d,_⟩,e,_⟩:=h3
  rcases hk with rfl | rfl | rfl | rfl | rfl
  ·exact lt a
  ·exact lt b
  ·exact lt c
  ·exact lt d
  ·exact lt e)
 have k2:EnvF w [rwF,mvF] []:=k3.add0 (x:=rwF) h2 (fun k hk=>by
  cases hk
  exact lt (h2 0 _ rfl))
 have k1:EnvF w [stF,rwF,mvF] []:=k2.add0 (x:=stF) h1 (fun k hk=>by cases hk;exact h1.lt)
 exact k1.addF hA
end Go.Proofs.YtahiajeggbpogaaGreatDoor
