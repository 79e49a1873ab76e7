/-
  Texts that stood by themselves, laid into one.
-/
import Derived.Test.YtkchakcebdenjaaGreatLMakeM
import Derived.Test.YtkchakcebdenjaaGreatDefOfM
import Derived.Test.YtkchakcebdenjaaGreatIntsM
import Derived.Test.YtkchakcebdenjaaGreatSClsM
import Derived.Test.YtkchakcebdenjaaGreatFoM
import Derived.Test.YtkchakcebdenjaaGreatStore2M
import Derived.Deep.MidRow
import Derived.Deep.RegionHeld3
/-
  The law FnExactListOf, walked: at every argument the law returns true.
-/
namespace Go.Proofs.YtkchakcebdenjaaGreat
open Go.RowKit
def OwnI (w : World) (lo hi : Nat) (v : Value) (zs : List Int) : Prop := w.ownsRow lo 3 1 v zs.length (iv zs) ∧ (∀ k, v.ownBlock = some k → k < hi)
end Go.Proofs.YtkchakcebdenjaaGreat
/-
  Contract of the laws' own helper toIntS.
-/
namespace Go.Proofs.YtkchakcebdenjaaGreat
open Go.RowKit
def icopied (zs : List Int) (j : Nat) : List Int := zs.take j ++ List.replicate (zs.length - j) 0
end Go.Proofs.YtkchakcebdenjaaGreat
/-
  Contracts of the laws' helpers markInstrS, markDefS, markCode: what is marked is turned, and nothing else. No condition.
-/
namespace Go.Proofs.YtkchakcebdenjaaGreat
open Go.RowKit
end Go.Proofs.YtkchakcebdenjaaGreat
/-
  Helpers for regions that draw their order and load whole structs. Nothing of the program; no condition.
-/
namespace Go.Proofs.YtkchakcebdenjaaGreat
open Go.RowKit
theorem yields_row {P : Program} {ops : Array Oper} {S : World → Prop} {op : Oper} {a : Act} (hw : Region.wanted op (yielded ops a.tmps) = true) (ty : TypeId) (x : Operand) (ho : op.op = .load ty x)
    (b : Nat) (hx : a.eval x = .pointer (some ⟨b, 0, none⟩)) (cs : Array Value) (t : TypeId) (d : TypeDesc) (hS : ∀ w, S w → w.heap[b]? = some (.cells cs t (0, 0)))
    (hu : P.underlying ty = some d) (hd : d.isRow = true) (hi : (P.info? ty).map (·.size) = some cs.size) : YieldsIf P ops S op (.agg cs) a := by
  have h := yieldsIf_load_mid (P := P) (ops := ops) (S := S) (op := op) (a := a) hw ty x ho b 0 hx cs.toList d (fun w hw' => by
    have hr := World.rangeAt_of_block (hS w hw') 0 cs.size
    simpa using hr) hu hd (by simpa using hi)
  simpa using h
theorem own_other {w w' : World} {B k n g : Nat} {e : TypeId} {v : Value} {l : List Value} (h : w.ownsRow B e k v n l) (hg : v.ownBlock ≠ some g) (hb : ∀ j, j ≠ g → w'.heap[j]? = w.heap[j]?) : w'.ownsRow B e k v n l := by
  refine ⟨h.1, ?_⟩
  rcases h.2 with ⟨rfl, h0⟩ | ⟨gg, cap, cur, rfl, hB, hgg, hr⟩
  · exact Or.inl ⟨rfl, h0⟩
  · exact Or.inr ⟨gg, cap, cur, rfl, hB, (hb gg (fun e => hg (by rw [e]; rfl))).trans hgg, hr⟩
theorem drew_bel (w : World) : Below w.heap.size w w.drew := (Below.refl _ _).drew
theorem blk_lt {w : World} {b : Nat} {o : Obj} (h : w.heap[b]? = some o) : b < w.heap.size := (Array.getElem?_eq_some_iff.1 h).1
theorem blk_bel {w w' : World} {b : Nat} {o : Obj} (h : w.heap[b]? = some o) (hb : Below w.heap.size w w') : w'.heap[b]? = some o := (hb.block _ (blk_lt h)).trans h
end Go.Proofs.YtkchakcebdenjaaGreat
