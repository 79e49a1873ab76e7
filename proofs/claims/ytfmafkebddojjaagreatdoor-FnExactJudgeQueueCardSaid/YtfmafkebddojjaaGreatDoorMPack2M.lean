/-
  Texts that stood by themselves, laid into one.
-/
import Derived.Test.YtfmafkebddojjaaGreatDoorMcTM
import Derived.Test.YtfmafkebddojjaaGreatDoorR8mM
import Derived.Test.YtfmafkebddojjaaGreatDoorSubM
import Derived.Deep.MidRow
import Derived.Deep.RegionHeld3
import Derived.Test.YtfmafkebddojjaaGreatDoorSGTextM
import Derived.Test.YtfmafkebddojjaaGreatDoorIGTextM
import Derived.Test.YtfmafkebddojjaaGreatDoorSR8M
import Derived.Test.YtfmafkebddojjaaGreatDoorSAddM
import Derived.Test.YtfmafkebddojjaaGreatDoorIReachM
/-
  What ProcRead comes to: plain mathematics. No condition.
-/
namespace Go.Proofs.YtfmafkebddojjaaGreatDoor
open Go.RowKit
def rdTs (zs : List Int) : Nat -> Int -> Option (List ByteArray × Int)
 | 0, a => some ([], a)
 | n + 1, a => (rt zs a).bind fun p => (rdTs zs n p.2).map fun q => (p.1 :: q.1, q.2)
def rdTL (zs : List Int) (a : Int) : Option (List ByteArray × Int) := (rd1 zs a).bind fun p => rdTs zs p.1.toNat p.2
def rdTB (zs : List Int) (most : Nat) (a : Int) : Option (List ByteArray × Int) := (rd1 zs a).bind fun p => if p.1 > most then none else rdTs zs p.1.toNat p.2
def pdR (ns : List Nd) (is : List In) (ds : List Df) (zs : List Int) : Option (Int × (List Nd × Mc) × List ByteArray × List ByteArray) :=
 (rd1 zs 0).bind fun p => (rt zs p.2).bind fun t => (rdTL zs t.2).bind fun b => (rdTL zs b.2).bind fun o => if o.2 = zs.length then (mrR ns is ds (sb t.1)).bind fun r => if Zdq ns is ds p.1 r.1 r.2 b.1 o.1 then some (p.1, r, b.1, o.1) else none else none
theorem ZaJ {P : Program} {ops : Array Oper} {S : World -> Prop} {op : Oper} {a : Act} (hw : Region.wanted op (yielded ops a.tmps) = true) (ty : TypeId) (x : Operand) (ho : op.op = .load ty x)
  (b : Nat) (hx : a.eval x = .pointer (some ⟨b, 0, none⟩)) (cs : Array Value) (t : TypeId) (d : TypeDesc) (hS : ∀ w, S w -> w.heap[b]? = some (.cells cs t (0, 0)))
  (hu : P.underlying ty = some d) (hd : d.isRow = true) (hi : (P.info? ty).map (·.size) = some cs.size) : YieldsIf P ops S op (.agg cs) a := by
 have h := yieldsIf_load_mid (P := P) (ops := ops) (S := S) (op := op) (a := a) hw ty x ho b 0 hx cs.toList d (fun w hw' => by
  have hr := World.rangeAt_of_block (hS w hw') 0 cs.size
  simpa using hr) hu hd (by simpa using hi)
 simpa using h
theorem Zax (w : World) : Below w.heap.size w w.drew := (Below.refl _ _).drew
theorem Zam (w : World) (o : Obj) : Below w.heap.size w (w.alloc o) := (Below.refl _ _).alloc (Nat.le_refl _) _
theorem Zbc {w : World} {b : Nat} {o : Obj} (h : w.heap[b]? = some o) : b < w.heap.size := (bl h)
theorem Zab {w w' : World} {b : Nat} {o : Obj} (h : w.heap[b]? = some o) (hb : Below w.heap.size w w') : w'.heap[b]? = some o := (hb.block _ (Zbc h)).trans h
def m0 : Mc := ⟨0, 0, 0, 0, 0, 0, 0⟩
def MAns (B : Nat) (ns : List Nd) (is : List In) (ds : List Df) (zs : List Int) (e : Ending) (w' : World) : Prop :=
 (∃ xs m ao n c, mrR ns is ds zs = some (xs, m) /\ e = .returned (.tuple #[.agg (mcs (.slice ao n c) m), .nilIface]) /\ w'.ownsRow B 210 5 (.slice ao n c) xs.length (ncs xs)) \/ (mrR ns is ds zs = none /\ ∃ ao n c m p, e = .returned (.tuple #[.agg (mcs (.slice ao n c) m), badV p]))
end Go.Proofs.YtfmafkebddojjaaGreatDoor
