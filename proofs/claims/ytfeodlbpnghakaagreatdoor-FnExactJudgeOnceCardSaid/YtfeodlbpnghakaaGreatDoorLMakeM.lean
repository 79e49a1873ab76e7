/-
  The law FnExactMake, walked: at every argument the law returns true.
-/
import Derived.Test.YtfeodlbpnghakaaGreatDoorIWire2M
import Derived.Test.YtfeodlbpnghakaaGreatDoorMark2M
import Derived.Deep.CutRange
import Derived.Deep.DeepCutAuto
import Derived.Deep.RegionHeld
namespace Go.Proofs.YtfeodlbpnghakaaGreatDoor
open Go.RowKit
def Var (w:World)(b lo hi:Nat)(v:Value)(xs:List Nd):Prop :=
 w.heap[b]? = some (.cells #[v] 40 (0,0))/\w.ownsRow lo 194 5 v xs.length (ncs xs)/\(∀ k,v.ownBlock=some k -> k < hi)/\hi <= w.heap.size
theorem Var.below {w c:World}{b lo hi:Nat}{v:Value}{d:List Nd}(h:Var w b lo hi v d)(a:Below w.heap.size w c):Var c b lo hi v d :=
 ⟨(a.block b (Array.getElem?_eq_some_iff.1 h.1).1).trans h.1,Zac h.2.1 a,h.2.2.1,Nat.le_trans h.2.2.2 a.size⟩
theorem Var.cell {w:World}{b lo hi:Nat}{v:Value}{a:List Nd}(h:Var w b lo hi v a):w.cell? ⟨b,0,none⟩=some v:=by rw [cell_of_row w b 0 _ _ _ h.1];rfl
theorem Var.row {w:World}{b lo hi:Nat}{v:Value}{a:List Nd}(h:Var w b lo hi v a)(d:a.length <= 4194304)(c:∀ x ∈ a,x.s.size <= maxLen):NRow w v a:=NRow.of_own h.2.1 (by omega) c
theorem Var.lt {w:World}{b lo hi:Nat}{v:Value}{a:List Nd}(h:Var w b lo hi v a):b < w.heap.size:=(Array.getElem?_eq_some_iff.1 h.1).1
theorem Var.kept {w l:World}{b lo hi c a o:Nat}{v j:Value}{n g:List Nd}(h:Var w b lo hi v n)(d:Var w o c a j g)(i:w.grownBy l j.ownBlock)(r:hi <= c \/ a <= lo):Var l b lo hi v n:=by
 have f:j.ownBlock ≠ some b:=ZaG d.2.1 h.1 (by decide)
 refine ⟨(i.block b h.lt (fun e=>f e.symm)).trans h.1,h.2.1.kept i ?_,h.2.2.1,Nat.le_trans h.2.2.2 i.size⟩
 cases m:v.ownBlock with
 | none=>exact Or.inl rfl
 | some k =>
  refine Or.inr fun e=>?_
  have q:=h.2.2.1 k m
  have k2:=(h.2.1.lt k m).1
  have p:=d.2.2.1 k e.symm
  have s:=(d.2.1.lt k e.symm).1
  omega
theorem Var.marked {w a:World}{b lo hi:Nat}{v:Value}{d ys:List Nd}(h:Var w b lo hi v d)(c:w.grownBy a v.ownBlock)(f:a.ownsRow lo 194 5 v ys.length (ncs ys)):Var a b lo hi v ys :=
 ⟨(c.block b h.lt (fun e=>ZaG h.2.1 h.1 (by decide) e.symm)).trans h.1,f,h.2.2.1,Nat.le_trans h.2.2.2 c.size⟩
theorem Var.block {w f:World}{b lo hi:Nat}{v:Value}{i:List Nd}(h:Var w b lo hi v i)(g:w.grownBy f v.ownBlock){j:Nat}{c:Array Value}{t:TypeId}(d:w.heap[j]? = some (.cells c t (0,0)))(a:t ≠ 194):f.heap[j]? = some (.cells c t (0,0)) :=
 (g.block j (bl d) (fun e=>ZaG h.2.1 d a e.symm)).trans d
end Go.Proofs.YtfeodlbpnghakaaGreatDoor
