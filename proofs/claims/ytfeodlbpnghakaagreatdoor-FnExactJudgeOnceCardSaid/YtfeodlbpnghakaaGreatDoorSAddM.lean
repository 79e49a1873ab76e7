/-
  Texts that stood by themselves, laid into one.
-/
import Derived.Test.YtfeodlbpnghakaaGreatDoorVMoveM
import Derived.Test.YtfeodlbpnghakaaGreatDoorShapeM
import Derived.Deep.RegionHeld3
import Derived.RangeFuncNested
import Derived.RangeFuncBound
import Derived.RangeFuncCalls
import Derived.RangeFuncLeaves
import Derived.RangeFuncBox
import Derived.Shelf.Abstract
import Derived.Shelf.RegionOpen
import Derived.WalkKit
import Derived.OwnWalkIn
import Derived.TacticsInMore
import Derived.LoopNIn
import Derived.LoopIn
import Derived.Test.YtfeodlbpnghakaaGreatDoorRcWhyM
import Derived.Deep.AppendLies
import Derived.Test.YtfeodlbpnghakaaGreatDoorMark2M
import Derived.Test.YtfeodlbpnghakaaGreatDoorIWire2M
import Derived.Deep.RegionLaw
/-
  Contracts of impl.readerOf, (impl.reader).value and impl.ValueRead: a value is read from its bytes, or nothing. The variable errors.errorType reads as it is laid.
-/
set_option maxRecDepth 100000
set_option maxHeartbeats 3200000
namespace Go.Proofs.YtfeodlbpnghakaaGreatDoor
open Go.RowKit
theorem Lies.le {zs L:List Int}{a b:Int}(h:Lies zs a L b)(c:L ≠ []):b <= zs.length:=by
 obtain ⟨e,f,r,d⟩:=h
 have:=congrArg List.length d
 have g:=List.length_pos_iff.2 c
 rw [List.length_drop,List.length_append] at this
 omega
theorem ZlQ {x:Int}(h:0 <= x):encI x ≠ []:=by
 rw [Zcn x h]
 intro e
 rcases Int.lt_or_le x 128 with a | a
 ·rw [Zbe 8 x a] at e;cases e
 ·rw [Zcx 8 x (by omega)] at e;cases e
theorem ZiA {zs:List Int}{g:List Nd}{a b:Int}(j:∀ z ∈ zs,0 <= z/\z <= 255)(h:rdP zs a=some (g,b)):b <= zs.length/\Zas g=true:=by
 unfold rdP at h
 rw [Option.bind_eq_some_iff] at h
 obtain ⟨⟨n,p⟩,l,d⟩:=h
 split at d
 ·cases d
 rw [Option.bind_eq_some_iff] at d
 obtain ⟨⟨ys,c⟩,m,i⟩:=d
 split at i
 ·rename_i o
  cases i
  obtain ⟨f,q⟩:=Za0 j l
  obtain ⟨k,r⟩:=Zcv j n.toNat p _ g (by have:=f.1;have:=f.2.1;omega) m
  exact ⟨(f.append k).le (by intro e;exact ZlQ q (List.append_eq_nil_iff.1 e).1),o⟩
 ·cases i
theorem Zlv {zs:List Int}(h:rdP zs 0=none):vrR zs=none:=by unfold vrR;rw [h];rfl
theorem ZlE {zs:List Int}{a:List Nd}{b:Int}(h:rdP zs 0=some (a,b)):vrR zs=if b=zs.length/\a ≠ []/\allR a [(a.length:Int) - 1]=true then some a else none:=by unfold vrR;rw [h];rfl
def VAns (B:Nat)(zs:List Int)(e:Ending)(w':World):Prop :=
 (∃ xs vs,vrR zs=some xs/\e=.returned (.tuple #[.agg #[vs],.nilIface])/\w'.ownsRow B 194 5 vs xs.length (ncs xs)) \/ (vrR zs=none/\∃ ao n c p,e=.returned (.tuple #[.agg #[.slice ao n c],badV p]))
theorem ZhY (v:Value)(zs:List Int)(S w:World)(P:Nat)(R:Row S v zs)(hb:Below S.heap.size S w)(hP:S.heap.size <= P)(h1:One w P 0) :
  Calls Tryz.prog 202 #[.agg #[v,.pointer (some ⟨P,0,none⟩)]] w fun e J=>w.grownBy J (some P)/\VAns w.heap.size zs e J:=by
 obtain ⟨A,m,rfl,_,al,hz,_⟩:=id R
 have af:=hb.size
 have Z:=h1.lt
 obtain ⟨B,V,F⟩:=Zav w (Obj.cells #[Value.slice A zs.length m,Value.pointer (some ⟨P,0,none⟩)] 235) (Obj.cells #[.slice none 0 0] 40)
 go_enter Tryz.func202,Tryz.ntmps202
 go_wp2_with fail
 obtain ⟨O,W⟩:∃ O,(w.alloc (Obj.cells #[Value.slice A zs.length m,Value.pointer (some ⟨P,0,none⟩)] 235)).alloc (Obj.cells #[.slice none 0 0] 40)=O:=⟨_,rfl⟩
 rw [W] at B V F ⊢
 have ad:=(bl F)
 refine (Zew _ zs S O P 0 R (hb.trans (B.mono af)) hP (h1.below B Z)).mono ?_
 rintro e d ⟨u,M⟩
 have V:=(u.block _ (by omega) (by simp;omega)).trans V
 have F:=(u.block _ (by omega) (by simp;omega)).trans F
 have s:w.grownBy d (some P):=Zaj (ZcH B _) u
 have ae:=u.size
 rcases M with ⟨c,b,vs,K,rfl,I,a4⟩ | ⟨K,⟨p,rfl⟩,q,I⟩
 ·obtain ⟨aj,hp⟩:=ZiA hz K
  have ag:=ZaH hp
  obtain ⟨g,i,rfl⟩:=Zag I
  have HV:Hid (vrR zs=if b=zs.length/\c ≠ []/\allR c [(c.length:Int) - 1]=true then some c else none):=ZlE K
  clear W u
  have ai:(O.heap.size:Nat) <= d.heap.size:=ae
  have y:Below d.heap.size d (d.alloc (Obj.cells #[.slice g c.length i] 40)):=(Below.refl _ _).alloc (Nat.le_refl _) _
  have y0:=(y.block _ (by omega)).trans V
  have C:=(y.block _ (by omega)).trans F
  have T:(d.alloc (Obj.cells #[.slice g c.length i] 40)).cell? ⟨w.heap.size+1,0,none⟩=some (.slice none 0 0):=cell_of_row (d.alloc (Obj.cells #[.slice g c.length i] 40)) _ 0 _ _ _ C
  have Q:(d.alloc (Obj.cells #[.slice g c.length i] 40)).frozen? ⟨w.heap.size+1,0,none⟩=false:=frozen_of_row (d.alloc (Obj.cells #[.slice g c.length i] 40)) _ 0 _ _ C
  have l:((d.alloc (Obj.cells #[.slice g c.length i] 40)).setCell ⟨w.heap.size+1,0,none⟩ (.slice none 0 0)).heap[w.heap.size+1]? = some (.cells #[.slice none 0 0] 40 (0,0)):=heap_setCell_same (d.alloc (Obj.cells #[.slice g c.length i] 40)) (w.heap.size+1) 0 _ _ (.slice none 0 0) C
  have f:Below (w.heap.size+1) (d.alloc (Obj.cells #[.slice g c.length i] 40)) ((d.alloc (Obj.cells #[.slice g c.length i] 40)).setCell ⟨w.heap.size+1,0,none⟩ (.slice none 0 0)):=(Below.refl _ _).setCell (p:=⟨w.heap.size+1,0,none⟩) (Nat.le_refl _) _
  have y4:(d.alloc (Obj.cells #[.slice g c.length i] 40)).heap[d.heap.size]? = some (.cells #[.slice g c.length i] 40 (0,0)):=heap_alloc_new _ _
  by_cases t:c=[]
  ·have N:Hid (vrR zs=none):=by unfold Hid;rw [HV.out,if_neg];intro h;exact h.2.1 t
   have h0:(c.length:Int) - 1 < 0:=by rw [t];simp
   clear t
   go_wp2
   exact bodyPost_ret (Zab rfl _ _ (w.heap.size+1) 40 _ (0,0) _ rfl l Tryz.underlying40 rfl Znn) rfl ⟨Zal (Zal s y s.size) f (by omega),Or.inr ⟨N.out,_,_,_,_,rfl⟩⟩
  ·have ah:=List.length_pos_iff.2 t
   have h0:¬ ((c.length:Int) - 1 < 0):=by omega
   have Y:Below (d.alloc (Obj.cells #[.slice g c.length i] 40)).heap.size (d.alloc (Obj.cells #[.slice g c.length i] 40)) ((d.alloc (Obj.cells #[.slice g c.length i] 40)).alloc (Obj.cells #[.int .i64 ((c.length:Int) - 1)] 3)):=(Below.refl _ _).alloc (Nat.le_refl _) _
   have L:(d.alloc (Obj.cells #[.slice g c.length i] 40)).heap.size=d.heap.size+1:=by simp
   have R3:NRow d (.slice g c.length i) c:=NRow.of_own I (by omega) (ZbH (ZbO hp))
   have RI:IRow ((d.alloc (Obj.cells #[.slice g c.length i] 40)).alloc (Obj.cells #[.int .i64 ((c.length:Int) - 1)] 3)) (.slice (some ⟨d.heap.size+1,0,none⟩) 1 1) [(c.length:Int) - 1]:=by
    rw [<- L]
    exact ZgK (heap_alloc_new _ _)
   have HK:=Zd7 _ _ c [(c.length:Int) - 1] ((d.alloc (Obj.cells #[.slice g c.length i] 40)).alloc (Obj.cells #[.int .i64 ((c.length:Int) - 1)] 3)) ((R3.below y).below Y) RI hp (Zf1 t)
   obtain ⟨kb,E⟩:∃ kb,Hid (allR c [(c.length:Int) - 1]=kb):=⟨_,rfl⟩
   rw [E.out] at HK
   clear RI L
   go_wp2_with fail
   refine HK.mono ?_
   rintro e k ⟨rfl,U⟩
   have B4:Below (d.alloc (Obj.cells #[.slice g c.length i] 40)).heap.size (d.alloc (Obj.cells #[.slice g c.length i] 40)) k:=Y.trans (U.mono Y.size)
   have n:Below d.heap.size d k:=y.trans (B4.mono y.size)
   have X:=(n.block _ (by omega)).trans V
   have G:=(n.block _ (by omega)).trans F
   have z4:=(bb y4 B4)
   have zP:=a4.below n a4.lt
   have zo:=Zac I n
   have H:w.grownBy k (some P):=Zal s n s.size
   have ak:=n.size
   clear HK U Y B4 n y y0 C y4 T Q l f
   cases kb with
   | false =>
    have N:Hid (vrR zs=none):=by unfold Hid;rw [HV.out,if_neg];intro h;rw [E.out] at h;exact absurd h.2.2 (by simp)
    have T:k.cell? ⟨w.heap.size+1,0,none⟩=some (.slice none 0 0):=cell_of_row k _ 0 _ _ _ G
    have Q:k.frozen? ⟨w.heap.size+1,0,none⟩=false:=frozen_of_row k _ 0 _ _ G
    have l:(k.setCell ⟨w.heap.size+1,0,none⟩ (.slice none 0 0)).heap[w.heap.size+1]? = some (.cells #[.slice none 0 0] 40 (0,0)):=heap_setCell_same k (w.heap.size+1) 0 _ _ (.slice none 0 0) G
    have f:Below (w.heap.size+1) k (k.setCell ⟨w.heap.size+1,0,none⟩ (.slice none 0 0)):=(Below.refl _ _).setCell (p:=⟨w.heap.size+1,0,none⟩) (Nat.le_refl _) _
    go_wp2
    exact bodyPost_ret (Zab rfl _ _ (w.heap.size+1) 40 _ (0,0) _ rfl l Tryz.underlying40 rfl Znn) rfl ⟨Zal H f (by omega),Or.inr ⟨N.out,_,_,_,_,rfl⟩⟩
   | true =>
    have HE:=Zdd (.slice A zs.length m) zs P b k.drew ⟨A,m,rfl⟩ zP
    have q0:k.cell? ⟨w.heap.size,0,none⟩=some (.slice A zs.length m):=cell_of_row k _ 0 _ _ _ X
    have q1:k.cell? ⟨w.heap.size,1,none⟩=some (.pointer (some ⟨P,0,none⟩)):=cell_of_row k _ 1 _ _ _ X
    have q4:k.cell? ⟨d.heap.size,0,none⟩=some (.slice g c.length i):=cell_of_row k _ 0 _ _ _ z4
    have T:k.cell? ⟨w.heap.size+1,0,none⟩=some (.slice none 0 0):=cell_of_row k _ 0 _ _ _ G
    have Q:k.frozen? ⟨w.heap.size+1,0,none⟩=false:=frozen_of_row k _ 0 _ _ G
    have SS:∀ j:World,Below k.heap.size k j -> (j.heap[w.heap.size+1]? = some (.cells #[.slice none 0 0] 40 (0,0)))/\(j.cell? ⟨d.heap.size,0,none⟩=some (.slice g c.length i)/\j.cell? ⟨w.heap.size,0,none⟩=some (.slice A zs.length m)/\j.cell? ⟨w.heap.size,1,none⟩=some (.pointer (some ⟨P,0,none⟩))):=by
     intro j o
     have l0:=(bl X)
     have l1:=(bl G)
     have l4:=(bl z4)
     have p0:=(o.block _ l0).trans X
     have p1:=(o.block _ l1).trans G
     have p4:=(o.block _ l4).trans z4
     exact ⟨p1,cell_of_row j _ 0 _ _ _ p4,cell_of_row j _ 0 _ _ _ p0,cell_of_row j _ 1 _ _ _ p0⟩
    have S6:∀ j:World,(j.cell? ⟨d.heap.size,0,none⟩=some (.slice g c.length i)/\j.cell? ⟨w.heap.size,0,none⟩=some (.slice A zs.length m)/\j.cell? ⟨w.heap.size,1,none⟩=some (.pointer (some ⟨P,0,none⟩))) -> ((j.setCell ⟨w.heap.size+1,0,none⟩ (.slice g c.length i)).cell? ⟨d.heap.size,0,none⟩=some (.slice g c.length i)/\(j.setCell ⟨w.heap.size+1,0,none⟩ (.slice g c.length i)).cell? ⟨w.heap.size,0,none⟩=some (.slice A zs.length m)/\(j.setCell ⟨w.heap.size+1,0,none⟩ (.slice g c.length i)).cell? ⟨w.heap.size,1,none⟩=some (.pointer (some ⟨P,0,none⟩))):=by
     rintro j ⟨K,a2,I⟩
     exact ⟨(World.cell?_of_block (heap_setCell_other j ⟨w.heap.size+1,0,none⟩ _ _ (by show d.heap.size ≠ w.heap.size+1;omega))).trans K,(World.cell?_of_block (heap_setCell_other j ⟨w.heap.size+1,0,none⟩ _ _ (by show w.heap.size ≠ w.heap.size+1;omega))).trans a2,(World.cell?_of_block (heap_setCell_other j ⟨w.heap.size+1,0,none⟩ _ _ (by show w.heap.size ≠ w.heap.size+1;omega))).trans I⟩
    have z:Below k.heap.size k k.drew:=(Below.refl _ _).drew
    go_wp2_with fail
    go_region_held (fun J=>J.cell? ⟨d.heap.size,0,none⟩=some (.slice g c.length i)/\J.cell? ⟨w.heap.size,0,none⟩=some (.slice A zs.length m)/\J.cell? ⟨w.heap.size,1,none⟩=some (.pointer (some ⟨P,0,none⟩))) (first | exact s5 | exact s6 | go_keep) (first
     | (go_at_call 163;refine HE.mono ?_;rintro e j ⟨r,rfl,hE,o⟩;have x:=SS j (z.trans (o.mono z.size));have s5:=x.2;have r5:j.cell? ⟨w.heap.size+1,0,none⟩=some (.slice none 0 0):=cell_of_row j _ 0 _ _ _ x.1;have aa:j.frozen? ⟨w.heap.size+1,0,none⟩=false:=frozen_of_row j _ 0 _ _ x.1;have s6:=S6 j s5))
    all_goals
     have D:=z.trans (o.mono z.size)
     have l:(j.setCell ⟨w.heap.size+1,0,none⟩ (.slice g c.length i)).heap[w.heap.size+1]? = some (.cells #[.slice g c.length i] 40 (0,0)):=heap_setCell_same j (w.heap.size+1) 0 _ _ (.slice g c.length i) x.1
     have f:Below (w.heap.size+1) j (j.setCell ⟨w.heap.size+1,0,none⟩ (.slice g c.length i)):=(Below.refl _ _).setCell (p:=⟨w.heap.size+1,0,none⟩) (Nat.le_refl _) _
     have ab:w.grownBy (j.setCell ⟨w.heap.size+1,0,none⟩ (.slice g c.length i)) (some P):=Zal (Zal H D H.size) f (by omega)
     have ac:=Zah (ownsRow_setCell_below (Zac zo D) (a:=⟨w.heap.size+1,0,none⟩) ad (.slice g c.length i)) (show w.heap.size <= O.heap.size by omega)
     have HF:Hid ((vrR zs=some c/\r=.nilIface) \/ (vrR zs=none/\∃ p,r=badV p)):=by
      unfold Hid
      rw [HV.out]
      rcases hE with ⟨e1,e2⟩ | ⟨e1,e2⟩
      ·rw [if_neg (fun h=>by have:=h.1;omega)];exact Or.inr ⟨rfl,e2⟩
      ·rw [if_pos ⟨by omega,t,E.out⟩];exact Or.inl ⟨rfl,e2⟩
     clear HE SS S6 s5 x s6 hE r5 aa q0 q1 q4 T Q
     go_wp2
     refine bodyPost_ret (Zab rfl _ _ (w.heap.size+1) 40 _ (0,0) _ rfl l Tryz.underlying40 rfl Znn) rfl ⟨ab,?_⟩
     rcases HF.out with ⟨f1,f2⟩ | ⟨f1,p,f2⟩
     ·exact Or.inl ⟨c,_,f1,by rw [<- f2];rfl,ac⟩
     ·exact Or.inr ⟨f1,_,_,_,p,by rw [<- f2];rfl⟩
 ·have N:Hid (vrR zs=none):=Zlv K
  have y:Below d.heap.size d (d.alloc (Obj.cells #[.slice none 0 0] 40)):=(Below.refl _ _).alloc (Nat.le_refl _) _
  have C:=(y.block _ (by omega)).trans F
  have T:(d.alloc (Obj.cells #[.slice none 0 0] 40)).cell? ⟨w.heap.size+1,0,none⟩=some (.slice none 0 0):=cell_of_row (d.alloc (Obj.cells #[.slice none 0 0] 40)) _ 0 _ _ _ C
  have Q:(d.alloc (Obj.cells #[.slice none 0 0] 40)).frozen? ⟨w.heap.size+1,0,none⟩=false:=frozen_of_row (d.alloc (Obj.cells #[.slice none 0 0] 40)) _ 0 _ _ C
  have l:((d.alloc (Obj.cells #[.slice none 0 0] 40)).setCell ⟨w.heap.size+1,0,none⟩ (.slice none 0 0)).heap[w.heap.size+1]? = some (.cells #[.slice none 0 0] 40 (0,0)):=heap_setCell_same (d.alloc (Obj.cells #[.slice none 0 0] 40)) (w.heap.size+1) 0 _ _ (.slice none 0 0) C
  have f:Below (w.heap.size+1) (d.alloc (Obj.cells #[.slice none 0 0] 40)) ((d.alloc (Obj.cells #[.slice none 0 0] 40)).setCell ⟨w.heap.size+1,0,none⟩ (.slice none 0 0)):=(Below.refl _ _).setCell (p:=⟨w.heap.size+1,0,none⟩) (Nat.le_refl _) _
  unfold badV
  go_wp2
  exact bodyPost_ret (Zab rfl _ _ (w.heap.size+1) 40 _ (0,0) _ rfl l Tryz.underlying40 rfl Znn) rfl ⟨Zal (Zal s y s.size) f (by omega),Or.inr ⟨N.out,_,_,_,p,rfl⟩⟩
theorem ZaW {P:Program}{f:Func}{p u e:Tmp}{b:TypeId}(h:f.results=#[.cell p b,.tmp u,.tmp e])(a:Array Value)(w:World)(g:Nat)(t:TypeId)(cs:Array Value)(fr:Nat × Nat)(d:TypeDesc)(j:a.getD p undef=.pointer (some ⟨g,0,none⟩))(i:w.heap[g]? = some (.cells cs t fr))(k:P.underlying b=some d)(l:(match d with | .struct _ | .array _ _=>true | _=>false)=true)(hi:(P.info? b).map (·.size)=some cs.size) :
  (results f a).run P w=.ok (.tuple #[.agg cs,a.getD u undef,a.getD e undef]) w:=by
 have c:a[p]?.getD undef=.pointer (some ⟨g,0,none⟩):=by simpa using j
 simp [results,h,c,asAddr,run_loadVar_row w g t b cs fr d i k l hi]
def vrL (zs:List Int):List Nd:=(vrR zs).getD []
def vrI (zs:List Int):Int:=match vrR zs with | some xs=>(xs.length:Int) - 1 | none=>0
def vrB (zs:List Int):Bool:=(vrR zs).isSome
theorem Zlk {zs:List Int}{a:List Nd}(h:vrR zs=some a):vrL zs=a/\vrI zs=(a.length:Int) - 1/\vrB zs=true:=by unfold vrL vrI vrB;rw [h];exact ⟨rfl,rfl,rfl⟩
theorem Zk7 {zs:List Int}(h:vrR zs=none):vrL zs=[]/\vrI zs=0/\vrB zs=false:=by unfold vrL vrI vrB;rw [h];exact ⟨rfl,rfl,rfl⟩
theorem ZlV {zs:List Int}{c:List Nd}(d:∀ z ∈ zs,0 <= z/\z <= 255)(h:vrR zs=some c):Zas c=true/\c ≠ []:=by
 unfold vrR at h
 rw [Option.bind_eq_some_iff] at h
 obtain ⟨⟨ys,b⟩,e,a⟩:=h
 split at a
 ·rename_i f
  cases a
  exact ⟨(ZiA d e).2,f.2.1⟩
 ·cases a
def VrAns (B:Nat)(zs:List Int)(e:Ending)(w':World):Prop:=∃ v',e=.returned (.tuple #[.agg #[v'],.int .i64 (vrI zs),.bool (vrB zs)])/\w'.ownsRow B 194 5 v' (vrL zs).length (ncs (vrL zs))
theorem VrAns.intro {B:Nat}{zs:List Int}{e:Ending}{b:World}(a:Value)(h:e=.returned (.tuple #[.agg #[a],.int .i64 (vrI zs),.bool (vrB zs)]))(k:b.ownsRow B 194 5 a (vrL zs).length (ncs (vrL zs))):VrAns B zs e b:=⟨a,h,k⟩
theorem Ziw (s:ByteArray)(w:World)(W:s.size <= 140737488351232)(hg:ErrT w) :
  Calls Tryz.prog 188 #[.string s] w fun e T=>VrAns w.heap.size (sb s) e T/\Below w.heap.size w T:=by
 have F:Below w.heap.size w (w.alloc (Obj.cells #[.slice none 0 0] 40)):=(Below.refl _ _).alloc (Nat.le_refl _) _
 go_enter Tryz.func188,Tryz.ntmps188
 go_wp2_with fail
 refine (Za4 s _ W).mono ?_
 rintro e I ⟨v,S,P,rfl,R,m,q,hP,r⟩
 have ac:w.heap.size+1 <= S.heap.size:=by have:=m.size;simp at this;omega
 have M:Below (w.alloc (Obj.cells #[.slice none 0 0] 40)).heap.size (w.alloc (Obj.cells #[.slice none 0 0] 40)) I:=m.trans (q.mono m.size)
 have V:=(M.block w.heap.size (by simp)).trans (heap_alloc_new w _)
 have B:=F.trans (M.mono F.size)
 have aa:=q.size
 obtain ⟨ao,ab,rfl,_⟩:=id R
 go_wp2_with fail
 refine (ZhY _ (sb s) S I P R q hP r).mono ?_
 rintro e b ⟨o,E⟩
 have L:=(o.block w.heap.size (by omega) (by simp;omega)).trans V
 have f:Below w.heap.size w b:=B.grown o B.size (fun k hk=>by simp at hk;omega)
 have X:=o.size
 clear o M B V m q r
 rcases E with ⟨l,vs,C,rfl,K⟩ | ⟨C,j,n,c,p,rfl⟩
 ·obtain ⟨D,H,G⟩:=Zlk C
  have Q:=ZaH (ZlV (ZhG s) C).1
  have x:Hid (vrL (sb s)=l/\vrI (sb s)=(l.length:Int) - 1/\vrB (sb s)=true):=⟨D,H,G⟩
  clear D H G C
  obtain ⟨j,t,rfl⟩:=Zag K
  have A:Below b.heap.size b (b.alloc (Obj.cells #[.slice j l.length t] 40)):=(Below.refl _ _).alloc (Nat.le_refl _) _
  have J:(b.alloc (Obj.cells #[.slice j l.length t] 40)).heap[b.heap.size]? = some (.cells #[.slice j l.length t] 40 (0,0)):=heap_alloc_new _ _
  go_wp2_with fail
  refine (ZfZ _).mono ?_
  rintro e d ⟨rfl,h⟩
  have g:Below b.heap.size b d:=A.trans (h.mono A.size)
  have J:=(bb J h)
  have y:=(bb L g)
  have U:=Zac K g
  have z:=f.trans (g.mono f.size)
  have q0:d.cell? ⟨b.heap.size,0,none⟩=some (.slice j l.length t):=cell_of_row d _ 0 _ _ _ J
  have Z:d.cell? ⟨w.heap.size,0,none⟩=some (.slice none 0 0):=cell_of_row d _ 0 _ _ _ y
  have rf:d.frozen? ⟨w.heap.size,0,none⟩=false:=frozen_of_row d _ 0 _ _ y
  have Y:b.heap.size ≠ w.heap.size:=by omega
  have i:=heap_setCell_same d w.heap.size 0 _ _ (.slice j l.length t) y
  have u:=z.setCell (p:=⟨w.heap.size,0,none⟩) (Nat.le_refl _) (.slice j l.length t)
  have N:=Zah (ownsRow_setCell_below U (a:=⟨w.heap.size,0,none⟩) (by show w.heap.size < I.heap.size;omega) (.slice j l.length t)) (show w.heap.size <= I.heap.size by omega)
  clear h A g J L f K U
  go_wp2_with fail
  go_region
  all_goals
   go_wp2
   refine bodyPost_ret (ZaW rfl _ _ w.heap.size 40 _ (0,0) _ rfl i Tryz.underlying40 rfl Znn) rfl ⟨VrAns.intro (.slice j l.length t) ?_ ?_,u.drew⟩
   ·rw [x.out.2.1,x.out.2.2];rfl
   ·rw [x.out.1];exact N
 ·obtain ⟨D,H,G⟩:=Zk7 C
  have x:Hid (vrL (sb s)=[]/\vrI (sb s)=0/\vrB (sb s)=false):=⟨D,H,G⟩
  clear D H G C
  have A:Below b.heap.size b (b.alloc (Obj.cells #[.slice j n c] 40)):=(Below.refl _ _).alloc (Nat.le_refl _) _
  have O:=f.trans (A.mono f.size)
  go_wp2_with fail
  refine (Zfi p _ (hg.below O (Nat.le_refl _))).mono ?_
  rintro e d ⟨rfl,h⟩
  have g:Below b.heap.size b d:=A.trans (h.mono A.size)
  have y:=(bb L g)
  have z:=f.trans (g.mono f.size)
  have Z:d.cell? ⟨w.heap.size,0,none⟩=some (.slice none 0 0):=cell_of_row d _ 0 _ _ _ y
  have rf:d.frozen? ⟨w.heap.size,0,none⟩=false:=frozen_of_row d _ 0 _ _ y
  have i:=heap_setCell_same d w.heap.size 0 _ _ (.slice none 0 0) y
  have u:=z.setCell (p:=⟨w.heap.size,0,none⟩) (Nat.le_refl _) (.slice none 0 0)
  go_wp2
  refine bodyPost_ret (ZaW rfl _ _ w.heap.size 40 _ (0,0) _ rfl i Tryz.underlying40 rfl Znn) rfl ⟨VrAns.intro (.slice none 0 0) ?_ ?_,u⟩
  ·rw [x.out.2.1,x.out.2.2];rfl
  ·rw [x.out.1];exact World.ownsRow_nil _ _ _ _
end Go.Proofs.YtfeodlbpnghakaaGreatDoor
namespace Go.Proofs.YtfeodlbpnghakaaGreatDoor
open Go.RowKit Go.Shelf
attribute [local go_sem] Oper.semAt_some
abbrev Itm (xs:List Nd):Type:={ p:Nat × Nd // xs[p.1]? = some p.2 }
def ienc {xs:List Nd}(p:Itm xs):Array Value:=#[.int .i64 (p.1.1:Int),.agg #[.int .i64 p.1.2.k,.int .i64 p.1.2.n,.string p.1.2.s,.int .i64 p.1.2.a,.int .i64 p.1.2.b]]
def KpZ (Z:Nat -> Prop)(W W':World):Prop:=∀ b,Z b -> W'.heap[b]? = W.heap[b]?
theorem KpZ.trans {Z:Nat -> Prop}{A B C:World}(h:KpZ Z A B)(k:KpZ Z B C):KpZ Z A C:=fun b a=>(k b a).trans (h b a)
theorem KpZ.cell {Z:Nat -> Prop}{W a:World}(h:KpZ Z W a){p:Addr}(b:Z p.block):a.cell? p=W.cell? p:=World.cell?_of_block (w:=W) (h p.block b)
theorem KpZ.lt {Z:Nat -> Prop}{W a:World}(h:KpZ Z W a){b:Nat}(c:Z b)(d:b < W.heap.size):b < a.heap.size:=by
 have:=h b c
 rw [Array.getElem?_eq_getElem d] at this
 exact (bl this)
theorem KpZ.alloc {Z:Nat -> Prop}{W:World}(a:∀ b,Z b -> b < W.heap.size)(o:Obj):KpZ Z W (W.alloc o):=fun b c=>Below.heap_alloc W o b (a b c)
attribute [local go_sem] Oper.semAt_some
attribute [local go_sem] Oper.semAt_some
end Go.Proofs.YtfeodlbpnghakaaGreatDoor
namespace Go.Proofs.YtfeodlbpnghakaaGreatDoor
open Go.RowKit
theorem Zej (k:Int):(hasA k=true <-> k=5 \/ k=6 \/ k=7)/\(hasB k=true <-> k=5):=by
 unfold hasA hasB
 simp only [decide_eq_true_eq]
 exact ⟨trivial,trivial⟩
theorem Zgv (P:Option Addr)(t:Nat)(vl:Value)(d:List Nd)(rs:List Int)(w:World)(R:NRow w (.slice P d.length t) d)(L:IRow w vl rs)(hp:Zas d=true)(hr:allI d rs=true) :
  Calls Tryz.prog 199 #[.agg #[.slice P d.length t],vl] w fun e w'=>∃ v',e=.returned v'/\w'.ownsRow w.heap.size 4 1 v' d.length (vb (Zau d rs))/\Below w.heap.size w w':=by
 have ak:=ZaH hp
 have N:Below w.heap.size w (w.alloc (Obj.cells #[.slice P d.length t] 40)):=(Below.refl _ _).alloc (Nat.le_refl _) _
 have V:=heap_alloc_new w (Obj.cells #[.slice P d.length t] 40)
 have R0:=R.below N
 have L0:=L.below N
 clear R L
 have ab:(w.alloc (Obj.cells #[.slice P d.length t] 40)).heap.size=w.heap.size+1:=by simp
 obtain ⟨i0,hi,ac,aj,ai⟩:=info_parts Zm8
 have s:i0.bytes * d.length <= 281474976710656:=by rw [ai];omega
 have I:d.length <= maxLen:=by unfold maxLen;omega
 go_enter Tryz.func199,Tryz.ntmps199
 go_wp2_with (at_make;refine wpList_make_full _ rfl _ _ 278 rfl (w.heap.size+1) 4 i0 (.bool false) 1 Tryz.underlying278 hi ac aj _ _ _ _ d.length rfl rfl rfl rfl s I (by simp) ?_)
 intro w1 c D
 generalize w.alloc (Obj.cells #[.slice P d.length t] 40)=X at *
 have T:Below (w.heap.size+1) X w1:=(Below.refl _ _).grown D (by omega) (by intro k S;cases S)
 clear D s I
 obtain ⟨al,cl,rfl,au,_,B⟩:=L0
 go_wp2_with fail
 go_loopw [6] (fun i wr=>∃ (k:Nat) (f:List Bool),k <= rs.length/\i=.int .i64 k/\f.length=d.length/\Hid ((rs.drop k).foldl setB f=Zc6 d.length rs)/\wr.ownsRow (w.heap.size+1) 4 1 (.slice (some ⟨w.heap.size+1,0,none⟩) d.length d.length) d.length (vb f)/\Below (w.heap.size+1) X wr) (fun i _=>rs.length - (intOf i).toNat)
 case atStart=>exact ⟨0,List.replicate d.length false,by omega,rfl,by simp,rfl,by rw [Zjs];exact c,T⟩
 case round =>
  clear c T
  obtain ⟨k,f,S,rfl,m,HF,c,A⟩:=hrel
  by_cases E:k < rs.length
  ·obtain ⟨g,o,rfl,hg,B⟩:=B (by intro e;subst e;simp at E)
   have ez:=(A.cell (p:=⟨g,o+k,none⟩) (by simp;omega)).trans (B k E)
   obtain ⟨h1,h2⟩:=Zgl hr k E
   have W:Hid ((rs.drop (k+1)).foldl setB (setB f (rs.getD k 0))=Zc6 d.length rs):=(ZfJ rs f k E).symm.trans HF.out
   generalize rs.getD k 0=z at ez h1 h2 W
   obtain ⟨nz,rfl⟩:=Int.eq_ofNat_of_zero_le h1
   have ec:=c.cellAt nz (by omega)
   rw [ZcC _ _ (by omega)] at ec
   have ef:=c.frozenAt nz
   have hs:=(c.stored nz (.bool true)).1
   rw [Zea] at hs
   clear B hr HF
   go_wp2
   go_roundw
   case rel=>exact ⟨k+1,setB f nz,by omega,by go_num,by rw [Zbk,m],W,hs,A.setCell (p:=⟨w.heap.size+1,nz,none⟩) (Nat.le_refl _) _⟩
   case measure=>simp [intOf];omega
  ·have ag:k=rs.length:=by omega
   subst ag
   have K:Hid (down d d.length f=Zau d rs):=by
    have:=HF.out
    rw [List.drop_length,List.foldl_nil] at this
    rw [this]
    rfl
   clear HF S E B hr
   have ep:=(A.cell (p:=⟨w.heap.size,0,none⟩) (by simp)).trans ((cell_of_row X _ 0 _ _ _ V).trans rfl)
   have Z:w.heap.size+1 < wr.heap.size:=(c.lt _ rfl).2
   go_wp2_with fail
   go_loopw [7] (fun i wq=>∃ (k:Nat) (cs:List Bool),k <= d.length/\i=.int .i64 ((k:Int) - 1)/\cs.length=d.length/\Hid (down d k cs=Zau d rs)/\wq.ownsRow (w.heap.size+1) 4 1 (.slice (some ⟨w.heap.size+1,0,none⟩) d.length d.length) d.length (vb cs)/\Below (w.heap.size+1) X wq) (fun i _=>(intOf i+1).toNat)
   case atStart=>exact ⟨d.length,f,Nat.le_refl _,rfl,m,K,c,A⟩
   case round =>
    clear c A K m ep Z
    clear f
    obtain ⟨k,f,S,rfl,m,K,c,A⟩:=hrel
    have ep:=(A.cell (p:=⟨w.heap.size,0,none⟩) (by simp)).trans ((cell_of_row X _ 0 _ _ _ V).trans rfl)
    have Z:w.heap.size+1 < wr.heap.size:=(c.lt _ rfl).2
    rcases Nat.eq_zero_or_pos k with rfl | an
    ·have HQ:Hid (f=Zau d rs):=K
     clear K
     go_wp2
     go_ret
     rw [HQ.out] at c
     exact ⟨_,rfl,Zah c (by omega),N.trans (A.mono (by omega))⟩
    ·obtain ⟨j,rfl⟩:∃ j,k=j+1:=⟨k - 1,by omega⟩
     rw [show ((j+1:Nat):Int) - 1=(j:Int) by omega]
     obtain ⟨aq,ap,e',_,_,hz,n⟩:=R0
     simp only [Value.slice.injEq,true_and] at e'
     obtain ⟨rfl,rfl⟩:=e'
     obtain ⟨g,o,rfl,hg,n⟩:=n (by intro e;subst e;simp at S)
     obtain ⟨x,hx⟩:∃ x,d[j]? = some x:=⟨d[j],by simp⟩
     obtain ⟨c0,c1,c2,c3,c4⟩:=(n j x hx).below A (by rw [ab] at hg;exact hg)
     have J:=Za6 hp hx
     have l:=Zej x.k
     have y:Hid (down d j (Zat x (f.getD j false) f)=Zau d rs):=(ZeM d f j x hx).symm.trans K.out
     have Y:hasA x.k=true -> 0 <= x.a/\x.a < (j:Int):=fun h=>Zch J h
     have C:hasB x.k=true -> 0 <= x.b/\x.b < (j:Int):=fun h=>Zcc J h
     clear n hx K J
     have am:w.heap.size+1 ≠ wr.heap.size:=by omega
     have e0:=c.cellAt j (by omega)
     rw [ZcC _ _ (by omega)] at e0
     cases hb:f.getD j false with
     | false =>
      rw [hb] at e0 y
      have H:Hid (Zat x false f=f):=by unfold Hid Zat;simp
      clear Y C hb
      go_wp2
      refine ⟨⟨j,f,by omega,by go_num,m,by rw [H.out] at y;exact y,c.alloc _,A.alloc (by omega) _⟩,by simp [intOf]⟩
     | true =>
      rw [hb] at e0 y
      clear hb
      cases q:hasA x.k with
      | false =>
       have r:hasB x.k=false:=by
        unfold hasA at q;unfold hasB
        simp only [decide_eq_false_iff_not] at q ⊢
        omega
       rw [q,r] at l
       have U:(x.k == 5)=false:=by simp;intro e;have:=l.2.2 e;cases this
       have k6:(x.k == 6)=false:=by simp;intro e;have:=l.1.2 (Or.inr (Or.inl e));cases this
       have k7:(x.k == 7)=false:=by simp;intro e;have:=l.1.2 (Or.inr (Or.inr e));cases this
       have H:Hid (Zat x true f=f):=by unfold Hid Zat;rw [q,r];simp
       clear Y C l
       go_wp2
       refine ⟨⟨j,f,by omega,by go_num,m,by rw [H.out] at y;exact y,c.alloc _,A.alloc (by omega) _⟩,by simp [intOf]⟩
      | true =>
       obtain ⟨ah,ad⟩:=Y q
       obtain ⟨F,M⟩:=Int.eq_ofNat_of_zero_le ah
       rw [M] at c3 ad
       have e1:=c.cellAt F (by omega)
       rw [ZcC _ _ (by omega)] at e1
       have f1:=c.frozenAt F
       have v:=(c.stored F (.bool true)).1
       rw [Zea] at v
       have ar:F ≠ j:=by omega
       have O:=A.setCell (p:=⟨w.heap.size+1,F,none⟩) (Nat.le_refl _) (.bool true)
       cases r:hasB x.k with
       | false =>
        rw [q,r] at l
        have U:(x.k == 5)=false:=by simp;intro e;have:=l.2.2 e;cases this
        have H:Hid (Zat x true f=f.set F true):=by unfold Hid Zat setB;rw [q,r,M];simp
        clear Y C
        rcases l.1.1 rfl with h5 | h6 | h7
        ·rw [h5] at U;cases U
        ·rw [h6] at c0
         clear l U
         go_wp2
         refine ⟨⟨j,f.set F true,by omega,by go_num,by simpa using m,by rw [H.out] at y;exact y,v.alloc _,O.alloc (by simp;omega) _⟩,by simp [intOf]⟩
        ·rw [h7] at c0
         clear l U
         go_wp2
         refine ⟨⟨j,f.set F true,by omega,by go_num,by simpa using m,by rw [H.out] at y;exact y,v.alloc _,O.alloc (by simp;omega) _⟩,by simp [intOf]⟩
       | true =>
        have h5:=l.2.1 r
        rw [h5] at c0
        obtain ⟨af,aa⟩:=C r
        obtain ⟨u,G⟩:=Int.eq_ofNat_of_zero_le af
        rw [G] at c4 aa
        have H:Hid (Zat x true f=(f.set F true).set u true):=by unfold Hid Zat setB;rw [q,r,M,G];simp
        have e2:=v.cellAt u (by omega)
        rw [ZcC _ _ (by simp;omega)] at e2
        have f2:=v.frozenAt u
        have Q:=(v.stored u (.bool true)).1
        rw [Zea] at Q
        have ae:=O.setCell (p:=⟨w.heap.size+1,u,none⟩) (Nat.le_refl _) (.bool true)
        clear Y C l
        go_wp2
        refine ⟨⟨j,(f.set F true).set u true,by omega,by go_num,by simpa using m,by rw [H.out] at y;exact y,Q.alloc _,ae.alloc (by simp;omega) _⟩,by simp [intOf]⟩
theorem ZcM (v C:Value)(b:List Nd)(rs:List Int)(w:World)(R:NRow w v b)(L:IRow w C rs) :
  Calls Tryz.prog 172 #[.agg #[v],C] w fun e I=>e=.returned (.bool (allI b rs && Zas b))/\Below w.heap.size w I:=by
 have H:=R
 have D:=L
 obtain ⟨s,f,rfl,_⟩:=H
 obtain ⟨K,J,rfl,E,F,a⟩:=D
 have n:Below w.heap.size w (w.alloc (Obj.cells #[.slice s b.length f] 40)):=(Below.refl _ _).alloc (Nat.le_refl _) _
 have c:=heap_alloc_new w (Obj.cells #[.slice s b.length f] 40)
 go_enter Tryz.func172,Tryz.ntmps172
 go_wp2_with fail
 go_loopw [5] (fun i wr=>∃ k:Nat,k <= rs.length/\i=.int .i64 k/\Hid (allI b rs=(rs.drop k).all (hasI b))/\Below w.heap.size w wr/\wr.heap[w.heap.size]? = some (.cells #[.slice s b.length f] 40 (0,0))) (fun i _=>rs.length - (intOf i).toNat)
 case atStart=>exact ⟨0,by omega,rfl,by simp [Hid,allI],n,c⟩
 case round =>
  clear n c
  obtain ⟨k,M,rfl,t,l,c⟩:=hrel
  have x:wr.cell? ⟨w.heap.size,0,none⟩=some (.slice s b.length f):=by rw [cell_of_row wr _ 0 _ _ _ c];rfl
  have u:=(bl c)
  by_cases m:k < rs.length
  ·obtain ⟨g,o,rfl,G,a⟩:=a (by intro e;subst e;simp at m)
   have c0:=(l.cell (p:=⟨g,o+k,none⟩) G).trans (a k m)
   have j:Hid (allI b rs=(hasI b (rs.getD k 0) && (rs.drop (k+1)).all (hasI b))):=by unfold Hid;rw [t.out,Zg4 _ _ _ m]
   clear a t
   generalize rs.getD k 0=z at c0 j
   go_wp2_with fail
   go_region_with (go_at_call 112;refine (Zcw _ b _ _ (R.below ?_)).mono ?_;exact l.drew;rintro e B ⟨rfl,h⟩)
   all_goals
    have d:Below wr.heap.size wr B:=(Below.refl _ _).drew.trans h
    have r:=l.trans (d.mono l.size)
    have q:=(d.block _ u).trans c
    clear c0 h x c d
    cases A:hasI b z with
    | false =>
     rw [A,Bool.false_and] at j
     go_wp2
     go_ret
     rw [j.out]
     exact ⟨rfl,r⟩
    | true =>
     rw [A,Bool.true_and] at j
     go_wp2
     go_roundw
     case rel=>exact ⟨k+1,by omega,by go_num,j,r,q⟩
     case measure=>simp [intOf];omega
  ·have y:k=rs.length:=by omega
   subst y
   have j:Hid (allI b rs=true):=by unfold Hid;rw [t.out];simp
   go_wp2_with fail
   refine (Zce _ b _ (R.below l)).mono ?_
   rintro e B ⟨rfl,h⟩
   go_wp2
   go_ret
   rw [j.out,Bool.true_and]
   exact ⟨rfl,l.trans (h.mono l.size)⟩
end Go.Proofs.YtfeodlbpnghakaaGreatDoor
