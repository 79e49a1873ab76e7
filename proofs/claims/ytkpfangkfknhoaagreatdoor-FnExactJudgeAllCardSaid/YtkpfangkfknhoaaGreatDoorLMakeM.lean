/-
  The law FnExactMake, walked: at every argument the law returns true.
-/
import Derived.Test.YtkpfangkfknhoaaGreatDoorIWire2M
import Derived.Test.YtkpfangkfknhoaaGreatDoorMark2M
import Derived.Deep.CutRange
import Derived.Deep.DeepCutAuto
import Derived.Deep.RegionHeld
namespace Go.Proofs.YtkpfangkfknhoaaGreatDoor
open Go.RowKit
def Var (w:World)(b lo hi:Nat)(v:Value)(xs:List Nd):Prop :=
 w.heap[b]? = some (.cells #[v] 40 (0,0))/\w.ownsRow lo 194 5 v xs.length (ncs xs)/\(∀ k,v.ownBlock=some k -> k < hi)/\hi <= w.heap.size
theorem Var.put {w f d:World}{b lo n c:Nat}{e:Option Addr}{L:List Nd}(g:Below w.heap.size w f)(h:Below f.heap.size f d)(m:d.heap[b]? = some (.cells #[.slice none 0 0] 40 (0,0)))(j:d.ownsRow lo 194 5 (.slice e n c) L.length (ncs L))(o:f.heap.size <= b) :
  Var (d.setCell ⟨b,0,none⟩ (.slice e n c)) b lo (d.setCell ⟨b,0,none⟩ (.slice e n c)).heap.size (.slice e n c) L/\Below w.heap.size w (d.setCell ⟨b,0,none⟩ (.slice e n c))/\Below f.heap.size f (d.setCell ⟨b,0,none⟩ (.slice e n c)):=by
 have i:=h.setCell (p:=⟨b,0,none⟩) o (.slice e n c);have l:=ownsRow_setCell_other j (a:=⟨b,0,none⟩) (ZaI j m (by decide)) (.slice e n c);exact ⟨⟨cu d b 0 _ _ _ m,l,fun k q=>(l.lt k q).2,ce _⟩,g.trans (i.mono g.size),i⟩
theorem Var.below {w c:World}{b lo hi:Nat}{v:Value}{d:List Nd}(h:Var w b lo hi v d)(a:Below w.heap.size w c):Var c b lo hi v d :=
 ⟨(a.block b (Array.getElem?_eq_some_iff.1 h.1).1).trans h.1,Zad h.2.1 a,h.2.2.1,Nat.le_trans h.2.2.2 a.size⟩
theorem Var.cell {w:World}{b lo hi:Nat}{v:Value}{a:List Nd}(h:Var w b lo hi v a):w.cell? ⟨b,0,none⟩=some v:=by rw [cd w b 0 _ _ _ h.1];rfl
theorem Var.row {w:World}{b lo hi:Nat}{v:Value}{a:List Nd}(h:Var w b lo hi v a)(d:a.length <= 4194304)(c:∀ x ∈ a,x.s.size <= maxLen):NRow w v a:=NRow.of_own h.2.1 (by omega) c
theorem Var.lt {w:World}{b lo hi:Nat}{v:Value}{a:List Nd}(h:Var w b lo hi v a):b < w.heap.size:=(Array.getElem?_eq_some_iff.1 h.1).1
theorem Var.kept {w l:World}{b lo hi c a o:Nat}{v j:Value}{n g:List Nd}(h:Var w b lo hi v n)(i:Var w o c a j g)(d:w.grownBy l j.ownBlock)(s:hi <= c \/ a <= lo):Var l b lo hi v n:=by
 have f:j.ownBlock ≠ some b:=ZaI i.2.1 h.1 (by decide);refine ⟨(d.block b h.lt (fun e=>f e.symm)).trans h.1,h.2.1.kept d ?_,h.2.2.1,Nat.le_trans h.2.2.2 d.size⟩;cases m:v.ownBlock with
 | none=>exact Or.inl rfl
 | some k =>
  refine Or.inr fun e=>?_
  have r:=h.2.2.1 k m;have k2:=(h.2.1.lt k m).1;have q:=i.2.2.1 k e.symm;have p:=(i.2.1.lt k e.symm).1;omega
theorem Var.marked {w a:World}{b lo hi:Nat}{v:Value}{f ys:List Nd}(h:Var w b lo hi v f)(c:w.grownBy a v.ownBlock)(d:a.ownsRow lo 194 5 v ys.length (ncs ys)):Var a b lo hi v ys :=
 ⟨(c.block b h.lt (fun e=>ZaI h.2.1 h.1 (by decide) e.symm)).trans h.1,d,h.2.2.1,Nat.le_trans h.2.2.2 c.size⟩
theorem Var.block {w f:World}{b lo hi:Nat}{v:Value}{g:List Nd}(h:Var w b lo hi v g)(i:w.grownBy f v.ownBlock){j:Nat}{c:Array Value}{t:TypeId}(a:w.heap[j]? = some (.cells c t (0,0)))(d:t ≠ 194):f.heap[j]? = some (.cells c t (0,0)) :=
 (i.block j (bl a) (fun e=>ZaI h.2.1 a d e.symm)).trans a
end Go.Proofs.YtkpfangkfknhoaaGreatDoor
