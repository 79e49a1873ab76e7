/-
  Texts that stood by themselves, laid into one.
-/
import Derived.Test.YtkpfangkfknhoaaGreatDoorVMoveM
import Derived.Test.YtkpfangkfknhoaaGreatDoorShapeM
import Derived.Deep.RegionHeld3
import Derived.RangeFuncNested
import Derived.RangeFuncBound
import Derived.RangeFuncCalls
import Derived.RangeFuncLeaves
import Derived.RangeFuncBox
import Derived.Shelf.Abstract
import Derived.Shelf.RegionOpen
import Derived.WalkKit
import Derived.OwnWalkIn
import Derived.TacticsInMore
import Derived.LoopNIn
import Derived.LoopIn
import Derived.Test.YtkpfangkfknhoaaGreatDoorRcWhyM
import Derived.Deep.AppendLies
import Derived.Test.YtkpfangkfknhoaaGreatDoorMark2M
import Derived.Test.YtkpfangkfknhoaaGreatDoorIWire2M
import Derived.Deep.RegionLaw
/-
  Contracts of impl.readerOf, (impl.reader).value and impl.ValueRead: a value is read from its bytes, or nothing. The variable errors.errorType reads as it is laid.
-/
set_option maxRecDepth 100000
set_option maxHeartbeats 3200000
namespace Go.Proofs.YtkpfangkfknhoaaGreatDoor
open Go.Proofs.Tryz
open Go.RowKit
theorem Lies.le {zs L:List Int}{a b:Int}(h:Lies zs a L b)(c:L ≠ []):b <= zs.length:=by
 obtain ⟨f,e,r,d⟩:=h;have:=congrArg List.length d;have g:=List.length_pos_iff.2 c;rw [List.length_drop,List.length_append] at this;omega
theorem Zmh {x:Int}(h:0 <= x):encI x ≠ []:=by
 rw [Zcu x h];intro e;rcases Int.lt_or_le x 128 with a | a
 ·rw [Za9 8 x a] at e;cases e
 ·rw [ZcC 8 x (by omega)] at e;cases e
theorem ZjZ {zs:List Int}{f:List Nd}{a b:Int}(j:∀ z ∈ zs,0 <= z/\z <= 255)(h:rdP zs a=some (f,b)):b <= zs.length/\Zau f=true:=by
 unfold rdP at h;rw [Option.bind_eq_some_iff] at h;obtain ⟨⟨n,m⟩,k,d⟩:=h;split at d
 ·cases d
 rw [Option.bind_eq_some_iff] at d;obtain ⟨⟨ys,c⟩,q,g⟩:=d;split at g
 ·rename_i l
  cases g;obtain ⟨i,p⟩:=Za1 j k;obtain ⟨o,r⟩:=Zcv j n.toNat m _ f (by have:=i.1;have:=i.2.1;omega) q;exact ⟨(i.append o).le (by intro e;exact Zmh p (List.append_eq_nil_iff.1 e).1),l⟩
 ·cases g
theorem Zmq {zs:List Int}(h:rdP zs 0=none):vrR zs=none:=by unfold vrR;rw [h];rfl
theorem Zmo {zs:List Int}{a:List Nd}{b:Int}(h:rdP zs 0=some (a,b)):vrR zs=if b=zs.length/\a ≠ []/\allR a [(a.length:Int) - 1]=true then some a else none:=by unfold vrR;rw [h];rfl
def VAns (B:Nat)(zs:List Int)(e:Ending)(w':World):Prop :=
 (∃ xs vs,vrR zs=some xs/\e=.returned (.tuple #[.agg #[vs],.nilIface])/\w'.ownsRow B 194 5 vs xs.length (ncs xs)) \/ (vrR zs=none/\∃ ao n c p,e=.returned (.tuple #[.agg #[.slice ao n c],badV p]))
theorem Zh0 (v:Value)(zs:List Int)(O w:World)(P:Nat)(R:Row O v zs)(hb:Below O.heap.size O w)(hP:O.heap.size <= P)(h1:One w P 0) :
  Calls prog 206 #[.agg #[v,.pointer (some ⟨P,0,none⟩)]] w fun e K=>w.grownBy K (some P)/\VAns w.heap.size zs e K:=by
 obtain ⟨A,m,rfl,_,ak,hz,_⟩:=id R;have Z:=hb.size;have ab:=h1.lt;obtain ⟨z,U,F⟩:=Zax w (Obj.cells #[Value.slice A zs.length m,Value.pointer (some ⟨P,0,none⟩)] 231) (Obj.cells #[.slice none 0 0] 40)
 go_enter func206,ntmps206
 go_wp2_with fail;obtain ⟨S,T⟩:∃ S,(w.alloc (Obj.cells #[Value.slice A zs.length m,Value.pointer (some ⟨P,0,none⟩)] 231)).alloc (Obj.cells #[.slice none 0 0] 40)=S:=⟨_,rfl⟩;rw [T] at z U F ⊢;have af:=(bl F);refine (Zec _ zs O S P 0 R (hb.trans (z.mono Z)) hP (h1.below z ab)).mono ?_;rintro e d ⟨u,N⟩;have U:=(u.block _ (by omega) (by simp;omega)).trans U;have F:=(u.block _ (by omega) (by simp;omega)).trans F;have s:w.grownBy d (some P):=Zaj (ZcN z _) u;have aa:=u.size;rcases N with ⟨c,b,vs,I,rfl,J,a4⟩ | ⟨I,⟨p,rfl⟩,q,J⟩
 ·obtain ⟨al,hp⟩:=ZjZ hz I
  have ag:=ZaK hp;obtain ⟨g,i,rfl⟩:=Zag J;have HV:Hid (vrR zs=if b=zs.length/\c ≠ []/\allR c [(c.length:Int) - 1]=true then some c else none):=Zmo I;clear T u;have ai:(S.heap.size:Nat) <= d.heap.size:=aa;have y:Below d.heap.size d (d.alloc (Obj.cells #[.slice g c.length i] 40)):=(cj _ _).alloc (ce _) _;have y0:=(y.block _ (by omega)).trans U;have D:=(y.block _ (by omega)).trans F;have V:(d.alloc (Obj.cells #[.slice g c.length i] 40)).cell? ⟨w.heap.size+1,0,none⟩=some (.slice none 0 0):=cd (d.alloc (Obj.cells #[.slice g c.length i] 40)) _ 0 _ _ _ D;have Q:(d.alloc (Obj.cells #[.slice g c.length i] 40)).frozen? ⟨w.heap.size+1,0,none⟩=false:=cw (d.alloc (Obj.cells #[.slice g c.length i] 40)) _ 0 _ _ D
  have l:((d.alloc (Obj.cells #[.slice g c.length i] 40)).setCell ⟨w.heap.size+1,0,none⟩ (.slice none 0 0)).heap[w.heap.size+1]? = some (.cells #[.slice none 0 0] 40 (0,0)):=cu (d.alloc (Obj.cells #[.slice g c.length i] 40)) (w.heap.size+1) 0 _ _ (.slice none 0 0) D;have f:Below (w.heap.size+1) (d.alloc (Obj.cells #[.slice g c.length i] 40)) ((d.alloc (Obj.cells #[.slice g c.length i] 40)).setCell ⟨w.heap.size+1,0,none⟩ (.slice none 0 0)):=(cj _ _).setCell (p:=⟨w.heap.size+1,0,none⟩) (ce _) _;have y4:(d.alloc (Obj.cells #[.slice g c.length i] 40)).heap[d.heap.size]? = some (.cells #[.slice g c.length i] 40 (0,0)):=co _ _
  by_cases t:c=[]
  ·have W:Hid (vrR zs=none):=by unfold Hid;rw [HV.out,if_neg];intro h;exact h.2.1 t
   have h0:(c.length:Int) - 1 < 0:=by rw [t];simp
   clear t;go_wp2;exact cx (Zac rfl _ _ (w.heap.size+1) 40 _ (0,0) _ rfl l underlying40 rfl ZnX) rfl ⟨Zal (Zal s y s.size) f (by omega),Or.inr ⟨W.out,_,_,_,_,rfl⟩⟩
  ·have ah:=List.length_pos_iff.2 t
   have h0:¬ ((c.length:Int) - 1 < 0):=by omega
   have Y:Below (d.alloc (Obj.cells #[.slice g c.length i] 40)).heap.size (d.alloc (Obj.cells #[.slice g c.length i] 40)) ((d.alloc (Obj.cells #[.slice g c.length i] 40)).alloc (Obj.cells #[.int .i64 ((c.length:Int) - 1)] 3)):=(cj _ _).alloc (ce _) _;have L:(d.alloc (Obj.cells #[.slice g c.length i] 40)).heap.size=d.heap.size+1:=by simp
   have R3:NRow d (.slice g c.length i) c:=NRow.of_own J (by omega) (ZbK (ZbO hp))
   have RI:IRow ((d.alloc (Obj.cells #[.slice g c.length i] 40)).alloc (Obj.cells #[.int .i64 ((c.length:Int) - 1)] 3)) (.slice (some ⟨d.heap.size+1,0,none⟩) 1 1) [(c.length:Int) - 1]:=by
    rw [<- L];exact Zhs (co _ _)
   have HK:=Zeg _ _ c [(c.length:Int) - 1] ((d.alloc (Obj.cells #[.slice g c.length i] 40)).alloc (Obj.cells #[.int .i64 ((c.length:Int) - 1)] 3)) ((R3.below y).below Y) RI hp (ZgH t);obtain ⟨kb,G⟩:∃ kb,Hid (allR c [(c.length:Int) - 1]=kb):=⟨_,rfl⟩;rw [G.out] at HK;clear RI L;go_wp2_with fail;refine HK.mono ?_;rintro e k ⟨rfl,M⟩;have B4:Below (d.alloc (Obj.cells #[.slice g c.length i] 40)).heap.size (d.alloc (Obj.cells #[.slice g c.length i] 40)) k:=Y.trans (M.mono Y.size);have n:Below d.heap.size d k:=y.trans (B4.mono y.size);have X:=(n.block _ (by omega)).trans U;have E:=(n.block _ (by omega)).trans F;have z4:=(bb y4 B4);have zP:=a4.below n a4.lt;have zo:=Zad J n;have H:w.grownBy k (some P):=Zal s n s.size;have aj:=n.size;clear HK M Y B4 n y y0 D y4 V Q l f;cases kb with
   | false =>
    have W:Hid (vrR zs=none):=by unfold Hid;rw [HV.out,if_neg];intro h;rw [G.out] at h;exact absurd h.2.2 (by simp)
    have V:k.cell? ⟨w.heap.size+1,0,none⟩=some (.slice none 0 0):=cd k _ 0 _ _ _ E;have Q:k.frozen? ⟨w.heap.size+1,0,none⟩=false:=cw k _ 0 _ _ E;have l:(k.setCell ⟨w.heap.size+1,0,none⟩ (.slice none 0 0)).heap[w.heap.size+1]? = some (.cells #[.slice none 0 0] 40 (0,0)):=cu k (w.heap.size+1) 0 _ _ (.slice none 0 0) E;have f:Below (w.heap.size+1) k (k.setCell ⟨w.heap.size+1,0,none⟩ (.slice none 0 0)):=(cj _ _).setCell (p:=⟨w.heap.size+1,0,none⟩) (ce _) _;go_wp2;exact cx (Zac rfl _ _ (w.heap.size+1) 40 _ (0,0) _ rfl l underlying40 rfl ZnX) rfl ⟨Zal H f (by omega),Or.inr ⟨W.out,_,_,_,_,rfl⟩⟩
   | true =>
    have HE:=Zdl (.slice A zs.length m) zs P b k.drew ⟨A,m,rfl⟩ zP;have q0:k.cell? ⟨w.heap.size,0,none⟩=some (.slice A zs.length m):=cd k _ 0 _ _ _ X;have q1:k.cell? ⟨w.heap.size,1,none⟩=some (.pointer (some ⟨P,0,none⟩)):=cd k _ 1 _ _ _ X;have q4:k.cell? ⟨d.heap.size,0,none⟩=some (.slice g c.length i):=cd k _ 0 _ _ _ z4;have V:k.cell? ⟨w.heap.size+1,0,none⟩=some (.slice none 0 0):=cd k _ 0 _ _ _ E;have Q:k.frozen? ⟨w.heap.size+1,0,none⟩=false:=cw k _ 0 _ _ E
    have SS:∀ j:World,Below k.heap.size k j -> (j.heap[w.heap.size+1]? = some (.cells #[.slice none 0 0] 40 (0,0)))/\(j.cell? ⟨d.heap.size,0,none⟩=some (.slice g c.length i)/\j.cell? ⟨w.heap.size,0,none⟩=some (.slice A zs.length m)/\j.cell? ⟨w.heap.size,1,none⟩=some (.pointer (some ⟨P,0,none⟩))):=by
     intro j o;have l0:=(bl X);have l1:=(bl E);have l4:=(bl z4);have p0:=(o.block _ l0).trans X;have p1:=(o.block _ l1).trans E;have p4:=(o.block _ l4).trans z4;exact ⟨p1,cd j _ 0 _ _ _ p4,cd j _ 0 _ _ _ p0,cd j _ 1 _ _ _ p0⟩
    have S6:∀ j:World,(j.cell? ⟨d.heap.size,0,none⟩=some (.slice g c.length i)/\j.cell? ⟨w.heap.size,0,none⟩=some (.slice A zs.length m)/\j.cell? ⟨w.heap.size,1,none⟩=some (.pointer (some ⟨P,0,none⟩))) -> ((j.setCell ⟨w.heap.size+1,0,none⟩ (.slice g c.length i)).cell? ⟨d.heap.size,0,none⟩=some (.slice g c.length i)/\(j.setCell ⟨w.heap.size+1,0,none⟩ (.slice g c.length i)).cell? ⟨w.heap.size,0,none⟩=some (.slice A zs.length m)/\(j.setCell ⟨w.heap.size+1,0,none⟩ (.slice g c.length i)).cell? ⟨w.heap.size,1,none⟩=some (.pointer (some ⟨P,0,none⟩))):=by
     rintro j ⟨I,a2,J⟩;exact ⟨(World.cell?_of_block (cr j ⟨w.heap.size+1,0,none⟩ _ _ (by show d.heap.size ≠ w.heap.size+1;omega))).trans I,(World.cell?_of_block (cr j ⟨w.heap.size+1,0,none⟩ _ _ (by show w.heap.size ≠ w.heap.size+1;omega))).trans a2,(World.cell?_of_block (cr j ⟨w.heap.size+1,0,none⟩ _ _ (by show w.heap.size ≠ w.heap.size+1;omega))).trans J⟩
    have B:Below k.heap.size k k.drew:=(cj _ _).drew;go_wp2_with fail
    go_region_held (fun K=>K.cell? ⟨d.heap.size,0,none⟩=some (.slice g c.length i)/\K.cell? ⟨w.heap.size,0,none⟩=some (.slice A zs.length m)/\K.cell? ⟨w.heap.size,1,none⟩=some (.pointer (some ⟨P,0,none⟩))) (first | exact s5 | exact s6 | go_keep) (first
     | (go_at_call 166;refine HE.mono ?_;rintro e j ⟨r,rfl,hE,o⟩;have x:=SS j (B.trans (o.mono B.size));have s5:=x.2;have r5:j.cell? ⟨w.heap.size+1,0,none⟩=some (.slice none 0 0):=cd j _ 0 _ _ _ x.1;have ad:j.frozen? ⟨w.heap.size+1,0,none⟩=false:=cw j _ 0 _ _ x.1;have s6:=S6 j s5))
    all_goals
     have C:=B.trans (o.mono B.size);have l:(j.setCell ⟨w.heap.size+1,0,none⟩ (.slice g c.length i)).heap[w.heap.size+1]? = some (.cells #[.slice g c.length i] 40 (0,0)):=cu j (w.heap.size+1) 0 _ _ (.slice g c.length i) x.1;have f:Below (w.heap.size+1) j (j.setCell ⟨w.heap.size+1,0,none⟩ (.slice g c.length i)):=(cj _ _).setCell (p:=⟨w.heap.size+1,0,none⟩) (ce _) _;have ae:w.grownBy (j.setCell ⟨w.heap.size+1,0,none⟩ (.slice g c.length i)) (some P):=Zal (Zal H C H.size) f (by omega);have ac:=Zah (cI (Zad zo C) (a:=⟨w.heap.size+1,0,none⟩) af (.slice g c.length i)) (show w.heap.size <= S.heap.size by omega)
     have HF:Hid ((vrR zs=some c/\r=.nilIface) \/ (vrR zs=none/\∃ p,r=badV p)):=by
      unfold Hid;rw [HV.out];rcases hE with ⟨e1,e2⟩ | ⟨e1,e2⟩
      ·rw [if_neg (fun h=>by have:=h.1;omega)];exact Or.inr ⟨rfl,e2⟩
      ·rw [if_pos ⟨by omega,t,G.out⟩];exact Or.inl ⟨rfl,e2⟩
     clear HE SS S6 s5 x s6 hE r5 ad q0 q1 q4 V Q;go_wp2;refine cx (Zac rfl _ _ (w.heap.size+1) 40 _ (0,0) _ rfl l underlying40 rfl ZnX) rfl ⟨ae,?_⟩;rcases HF.out with ⟨f1,f2⟩ | ⟨f1,p,f2⟩
     ·exact Or.inl ⟨c,_,f1,by rw [<- f2];rfl,ac⟩
     ·exact Or.inr ⟨f1,_,_,_,p,by rw [<- f2];rfl⟩
 ·have W:Hid (vrR zs=none):=Zmq I
  have y:Below d.heap.size d (d.alloc (Obj.cells #[.slice none 0 0] 40)):=(cj _ _).alloc (ce _) _;have D:=(y.block _ (by omega)).trans F;have V:(d.alloc (Obj.cells #[.slice none 0 0] 40)).cell? ⟨w.heap.size+1,0,none⟩=some (.slice none 0 0):=cd (d.alloc (Obj.cells #[.slice none 0 0] 40)) _ 0 _ _ _ D;have Q:(d.alloc (Obj.cells #[.slice none 0 0] 40)).frozen? ⟨w.heap.size+1,0,none⟩=false:=cw (d.alloc (Obj.cells #[.slice none 0 0] 40)) _ 0 _ _ D;have l:((d.alloc (Obj.cells #[.slice none 0 0] 40)).setCell ⟨w.heap.size+1,0,none⟩ (.slice none 0 0)).heap[w.heap.size+1]? = some (.cells #[.slice none 0 0] 40 (0,0)):=cu (d.alloc (Obj.cells #[.slice none 0 0] 40)) (w.heap.size+1) 0 _ _ (.slice none 0 0) D
  have f:Below (w.heap.size+1) (d.alloc (Obj.cells #[.slice none 0 0] 40)) ((d.alloc (Obj.cells #[.slice none 0 0] 40)).setCell ⟨w.heap.size+1,0,none⟩ (.slice none 0 0)):=(cj _ _).setCell (p:=⟨w.heap.size+1,0,none⟩) (ce _) _;unfold badV;go_wp2;exact cx (Zac rfl _ _ (w.heap.size+1) 40 _ (0,0) _ rfl l underlying40 rfl ZnX) rfl ⟨Zal (Zal s y s.size) f (by omega),Or.inr ⟨W.out,_,_,_,p,rfl⟩⟩
theorem ZaW {P:Program}{e:Func}{p u f:Tmp}{b:TypeId}(h:e.results=#[.cell p b,.tmp u,.tmp f])(a:Array Value)(w:World)(g:Nat)(t:TypeId)(cs:Array Value)(fr:Nat × Nat)(d:TypeDesc)(k:a.getD p undef=.pointer (some ⟨g,0,none⟩))(j:w.heap[g]? = some (.cells cs t fr))(i:P.underlying b=some d)(l:(match d with | .struct _ | .array _ _=>true | _=>false)=true)(hi:(P.info? b).map (·.size)=some cs.size) :
  (results e a).run P w=.ok (.tuple #[.agg cs,a.getD u undef,a.getD f undef]) w:=by
 have c:a[p]?.getD undef=.pointer (some ⟨g,0,none⟩):=by simpa using k
 simp [results,h,c,asAddr,run_loadVar_row w g t b cs fr d j i l hi]
def vrL (zs:List Int):List Nd:=(vrR zs).getD []
def vrI (zs:List Int):Int:=match vrR zs with | some xs=>(xs.length:Int) - 1 | none=>0
def vrB (zs:List Int):Bool:=(vrR zs).isSome
theorem ZlH {zs:List Int}{a:List Nd}(h:vrR zs=some a):vrL zs=a/\vrI zs=(a.length:Int) - 1/\vrB zs=true:=by unfold vrL vrI vrB;rw [h];exact ⟨rfl,rfl,rfl⟩
theorem Zlp {zs:List Int}(h:vrR zs=none):vrL zs=[]/\vrI zs=0/\vrB zs=false:=by unfold vrL vrI vrB;rw [h];exact ⟨rfl,rfl,rfl⟩
theorem ZlY {zs:List Int}{c:List Nd}(e:∀ z ∈ zs,0 <= z/\z <= 255)(h:vrR zs=some c):Zau c=true/\c ≠ []:=by
 unfold vrR at h;rw [Option.bind_eq_some_iff] at h;obtain ⟨⟨ys,b⟩,d,a⟩:=h;split at a
 ·rename_i f
  cases a;exact ⟨(ZjZ e d).2,f.2.1⟩
 ·cases a
def VrAns (B:Nat)(zs:List Int)(e:Ending)(w':World):Prop:=∃ v',e=.returned (.tuple #[.agg #[v'],.int .i64 (vrI zs),.bool (vrB zs)])/\w'.ownsRow B 194 5 v' (vrL zs).length (ncs (vrL zs))
theorem VrAns.intro {B:Nat}{zs:List Int}{e:Ending}{b:World}(a:Value)(h:e=.returned (.tuple #[.agg #[a],.int .i64 (vrI zs),.bool (vrB zs)]))(k:b.ownsRow B 194 5 a (vrL zs).length (ncs (vrL zs))):VrAns B zs e b:=⟨a,h,k⟩
theorem Ziw (s:ByteArray)(w:World)(hs:s.size <= 140737488351232)(hg:ErrT w) :
  Calls prog 191 #[.string s] w fun e U=>VrAns w.heap.size (sb s) e U/\Below w.heap.size w U:=by
 have H:Below w.heap.size w (w.alloc (Obj.cells #[.slice none 0 0] 40)):=(cj _ _).alloc (ce _) _
 go_enter func191,ntmps191
 go_wp2_with fail;refine (Za8 s _ hs).mono ?_;rintro e J ⟨v,S,P,rfl,R,o,m,Z,r⟩;have ac:w.heap.size+1 <= S.heap.size:=by have:=o.size;simp at this;omega
 have N:Below (w.alloc (Obj.cells #[.slice none 0 0] 40)).heap.size (w.alloc (Obj.cells #[.slice none 0 0] 40)) J:=o.trans (m.mono o.size);have V:=(N.block w.heap.size (by simp)).trans (co w _);have u:=H.trans (N.mono H.size);have aa:=m.size;obtain ⟨ao,ab,rfl,_⟩:=id R;go_wp2_with fail;refine (Zh0 _ (sb s) S J P R m Z r).mono ?_;rintro e f ⟨q,G⟩;have L:=(q.block w.heap.size (by omega) (by simp;omega)).trans V;have b:Below w.heap.size w f:=u.grown q u.size (fun k Y=>by simp at Y;omega);have W:=q.size;clear q N u V o m r;rcases G with ⟨l,vs,C,rfl,M⟩ | ⟨C,j,n,c,p,rfl⟩
 ·obtain ⟨D,E,F⟩:=ZlH C
  have Q:=ZaK (ZlY (Zh3 s) C).1;have x:Hid (vrL (sb s)=l/\vrI (sb s)=(l.length:Int) - 1/\vrB (sb s)=true):=⟨D,E,F⟩;clear D E F C;obtain ⟨j,t,rfl⟩:=Zag M;have z:Below f.heap.size f (f.alloc (Obj.cells #[.slice j l.length t] 40)):=(cj _ _).alloc (ce _) _;have I:(f.alloc (Obj.cells #[.slice j l.length t] 40)).heap[f.heap.size]? = some (.cells #[.slice j l.length t] 40 (0,0)):=co _ _;go_wp2_with fail;refine (Zfs _).mono ?_;rintro e g ⟨rfl,h⟩;have d:Below f.heap.size f g:=z.trans (h.mono z.size);have I:=(bb I h);have B:=(bb L d);have T:=Zad M d;have y:=b.trans (d.mono b.size);have q0:g.cell? ⟨f.heap.size,0,none⟩=some (.slice j l.length t):=cd g _ 0 _ _ _ I;have r0:g.cell? ⟨w.heap.size,0,none⟩=some (.slice none 0 0):=cd g _ 0 _ _ _ B;have rf:g.frozen? ⟨w.heap.size,0,none⟩=false:=cw g _ 0 _ _ B
  have X:f.heap.size ≠ w.heap.size:=by omega
  have i:=cu g w.heap.size 0 _ _ (.slice j l.length t) B;have A:=y.setCell (p:=⟨w.heap.size,0,none⟩) (ce _) (.slice j l.length t);have O:=Zah (cI T (a:=⟨w.heap.size,0,none⟩) (by show w.heap.size < J.heap.size;omega) (.slice j l.length t)) (show w.heap.size <= J.heap.size by omega);clear h z d I L b M T;go_wp2_with fail
  go_region
  all_goals
   go_wp2;refine cx (ZaW rfl _ _ w.heap.size 40 _ (0,0) _ rfl i underlying40 rfl ZnX) rfl ⟨VrAns.intro (.slice j l.length t) ?_ ?_,A.drew⟩
   ·rw [x.out.2.1,x.out.2.2];rfl
   ·rw [x.out.1];exact O
 ·obtain ⟨D,E,F⟩:=Zlp C
  have x:Hid (vrL (sb s)=[]/\vrI (sb s)=0/\vrB (sb s)=false):=⟨D,E,F⟩;clear D E F C;have z:Below f.heap.size f (f.alloc (Obj.cells #[.slice j n c] 40)):=(cj _ _).alloc (ce _) _;have K:=b.trans (z.mono b.size);go_wp2_with fail;refine (Zgi p _ (hg.below K (ce _))).mono ?_;rintro e g ⟨rfl,h⟩;have d:Below f.heap.size f g:=z.trans (h.mono z.size);have B:=(bb L d);have y:=b.trans (d.mono b.size);have r0:g.cell? ⟨w.heap.size,0,none⟩=some (.slice none 0 0):=cd g _ 0 _ _ _ B;have rf:g.frozen? ⟨w.heap.size,0,none⟩=false:=cw g _ 0 _ _ B;have i:=cu g w.heap.size 0 _ _ (.slice none 0 0) B;have A:=y.setCell (p:=⟨w.heap.size,0,none⟩) (ce _) (.slice none 0 0);go_wp2;refine cx (ZaW rfl _ _ w.heap.size 40 _ (0,0) _ rfl i underlying40 rfl ZnX) rfl ⟨VrAns.intro (.slice none 0 0) ?_ ?_,A⟩
  ·rw [x.out.2.1,x.out.2.2];rfl
  ·rw [x.out.1];exact World.ownsRow_nil _ _ _ _
end Go.Proofs.YtkpfangkfknhoaaGreatDoor
namespace Go.Proofs.YtkpfangkfknhoaaGreatDoor
open Go.Proofs.Tryz
open Go.RowKit Go.Shelf
attribute [local go_sem] Oper.semAt_some
abbrev Itm (xs:List Nd):Type:={ p:Nat × Nd // xs[p.1]? = some p.2 }
def ienc {xs:List Nd}(p:Itm xs):Array Value:=#[.int .i64 (p.1.1:Int),.agg #[.int .i64 p.1.2.k,.int .i64 p.1.2.n,.string p.1.2.s,.int .i64 p.1.2.a,.int .i64 p.1.2.b]]
def KpZ (Z:Nat -> Prop)(W W':World):Prop:=∀ b,Z b -> W'.heap[b]? = W.heap[b]?
theorem KpZ.trans {Z:Nat -> Prop}{A B C:World}(h:KpZ Z A B)(k:KpZ Z B C):KpZ Z A C:=fun b a=>(k b a).trans (h b a)
theorem KpZ.cell {Z:Nat -> Prop}{W a:World}(h:KpZ Z W a){p:Addr}(b:Z p.block):a.cell? p=W.cell? p:=World.cell?_of_block (w:=W) (h p.block b)
theorem KpZ.lt {Z:Nat -> Prop}{W a:World}(h:KpZ Z W a){b:Nat}(d:Z b)(c:b < W.heap.size):b < a.heap.size:=by
 have:=h b d;rw [Array.getElem?_eq_getElem c] at this;exact (bl this)
theorem KpZ.alloc {Z:Nat -> Prop}{W:World}(a:∀ b,Z b -> b < W.heap.size)(o:Obj):KpZ Z W (W.alloc o):=fun b c=>Below.heap_alloc W o b (a b c)
attribute [local go_sem] Oper.semAt_some
attribute [local go_sem] Oper.semAt_some
end Go.Proofs.YtkpfangkfknhoaaGreatDoor
namespace Go.Proofs.YtkpfangkfknhoaaGreatDoor
open Go.Proofs.Tryz
open Go.RowKit
theorem Zel (k:Int):(hasA k=true <-> k=5 \/ k=6 \/ k=7)/\(hasB k=true <-> k=5):=by
 unfold hasA hasB;simp only [decide_eq_true_eq];exact ⟨trivial,trivial⟩
theorem ZgS (P:Option Addr)(u:Nat)(vl:Value)(d:List Nd)(rs:List Int)(w:World)(R:NRow w (.slice P d.length u) d)(L:IRow w vl rs)(hp:Zau d=true)(hr:allI d rs=true) :
  Calls prog 211 #[.agg #[.slice P d.length u],vl] w fun e w'=>∃ v',e=.returned v'/\w'.ownsRow w.heap.size 4 1 v' d.length (vb (Zaw d rs))/\Below w.heap.size w w':=by
 have ak:=ZaK hp;have O:Below w.heap.size w (w.alloc (Obj.cells #[.slice P d.length u] 40)):=(cj _ _).alloc (ce _) _;have S:=co w (Obj.cells #[.slice P d.length u] 40);have R0:=R.below O;have L0:=L.below O;clear R L;have ab:(w.alloc (Obj.cells #[.slice P d.length u] 40)).heap.size=w.heap.size+1:=by simp
 obtain ⟨i0,hi,ae,aj,ad⟩:=info_parts ZnP;have s:i0.bytes * d.length <= 281474976710656:=by rw [ad];omega
 have I:d.length <= maxLen:=by unfold maxLen;omega
 go_enter func211,ntmps211
 go_wp2_with (at_make;refine wpList_make_full _ rfl _ _ 284 rfl (w.heap.size+1) 4 i0 (.bool false) 1 underlying284 hi ae aj _ _ _ _ d.length rfl rfl rfl rfl s I (by simp) ?_)
 intro w1 c C;generalize w.alloc (Obj.cells #[.slice P d.length u] 40)=U at *;have V:Below (w.heap.size+1) U w1:=(cj _ _).grown C (by omega) (by intro k Y;cases Y);clear C s I;obtain ⟨al,cl,rfl,aq,_,B⟩:=L0;go_wp2_with fail
 go_loopw [6] (fun i wr=>∃ (k:Nat) (f:List Bool),k <= rs.length/\i=.int .i64 k/\f.length=d.length/\Hid ((rs.drop k).foldl setB f=Zdf d.length rs)/\wr.ownsRow (w.heap.size+1) 4 1 (.slice (some ⟨w.heap.size+1,0,none⟩) d.length d.length) d.length (vb f)/\Below (w.heap.size+1) U wr) (fun i _=>rs.length - (intOf i).toNat)
 case atStart=>exact ⟨0,List.replicate d.length false,by omega,rfl,by simp,rfl,by rw [Zj8];exact c,V⟩
 case round =>
  clear c V;obtain ⟨k,f,Y,rfl,n,HF,c,y⟩:=hrel
  by_cases D:k < rs.length
  ·obtain ⟨g,o,rfl,hg,B⟩:=B (by intro e;subst e;simp at D)
   have ez:=(y.cell (p:=⟨g,o+k,none⟩) (by simp;omega)).trans (B k D);obtain ⟨h1,h2⟩:=Zgs hr k D;have T:Hid ((rs.drop (k+1)).foldl setB (setB f (rs.getD k 0))=Zdf d.length rs):=(Zgl rs f k D).symm.trans HF.out;generalize rs.getD k 0=z at ez h1 h2 T;obtain ⟨nz,rfl⟩:=cG h1;have ec:=c.cellAt nz (by omega);rw [ZcG _ _ (by omega)] at ec;have ef:=c.frozenAt nz;have hs:=(c.stored nz (.bool true)).1;rw [ZeA] at hs;clear B hr HF;go_wp2
   go_roundw
   case rel=>exact ⟨k+1,setB f nz,by omega,by go_num,by rw [Zbk,n],T,hs,y.setCell (p:=⟨w.heap.size+1,nz,none⟩) (ce _) _⟩
   case measure=>simp [intOf];omega
  ·have ah:k=rs.length:=by omega
   subst ah
   have J:Hid (down d d.length f=Zaw d rs):=by
    have:=HF.out;rw [List.drop_length,List.foldl_nil] at this;rw [this];rfl
   clear HF Y D B hr;have ep:=(y.cell (p:=⟨w.heap.size,0,none⟩) (by simp)).trans ((cd U _ 0 _ _ _ S).trans rfl);have W:w.heap.size+1 < wr.heap.size:=(c.lt _ rfl).2;go_wp2_with fail
   go_loopw [7] (fun i wq=>∃ (k:Nat) (cs:List Bool),k <= d.length/\i=.int .i64 ((k:Int) - 1)/\cs.length=d.length/\Hid (down d k cs=Zaw d rs)/\wq.ownsRow (w.heap.size+1) 4 1 (.slice (some ⟨w.heap.size+1,0,none⟩) d.length d.length) d.length (vb cs)/\Below (w.heap.size+1) U wq) (fun i _=>(intOf i+1).toNat)
   case atStart=>exact ⟨d.length,f,ce _,rfl,n,J,c,y⟩
   case round =>
    clear c y J n ep W;clear f;obtain ⟨k,f,Y,rfl,n,J,c,y⟩:=hrel;have ep:=(y.cell (p:=⟨w.heap.size,0,none⟩) (by simp)).trans ((cd U _ 0 _ _ _ S).trans rfl);have W:w.heap.size+1 < wr.heap.size:=(c.lt _ rfl).2;rcases Nat.eq_zero_or_pos k with rfl | am
    ·have HQ:Hid (f=Zaw d rs):=J
     clear J;go_wp2;go_ret;rw [HQ.out] at c;exact ⟨_,rfl,Zah c (by omega),O.trans (y.mono (by omega))⟩
    ·obtain ⟨j,rfl⟩:∃ j,k=j+1:=⟨k - 1,by omega⟩
     rw [show ((j+1:Nat):Int) - 1=(j:Int) by omega];obtain ⟨ar,ap,e',_,_,hz,m⟩:=R0;simp only [Value.slice.injEq,true_and] at e';obtain ⟨rfl,rfl⟩:=e';obtain ⟨g,o,rfl,hg,m⟩:=m (by intro e;subst e;simp at Y);obtain ⟨x,hx⟩:∃ x,d[j]? = some x:=⟨d[j],by simp⟩;obtain ⟨c0,c1,c2,c3,c4⟩:=(m j x hx).below y (by rw [ab] at hg;exact hg);have K:=Zbe hp hx;have l:=Zel x.k;have A:Hid (down d j (Zav x (f.getD j false) f)=Zaw d rs):=(ZeS d f j x hx).symm.trans J.out;have Z:hasA x.k=true -> 0 <= x.a/\x.a < (j:Int):=fun h=>Zcb K h
     have E:hasB x.k=true -> 0 <= x.b/\x.b < (j:Int):=fun h=>Zcf K h
     clear m hx J K;have an:w.heap.size+1 ≠ wr.heap.size:=by omega
     have e0:=c.cellAt j (by omega);rw [ZcG _ _ (by omega)] at e0;cases hb:f.getD j false with
     | false =>
      rw [hb] at e0 A;have H:Hid (Zav x false f=f):=by unfold Hid Zav;simp
      clear Z E hb;go_wp2;refine ⟨⟨j,f,by omega,by go_num,n,by rw [H.out] at A;exact A,c.alloc _,y.alloc (by omega) _⟩,by simp [intOf]⟩
     | true =>
      rw [hb] at e0 A;clear hb;cases r:hasA x.k with
      | false =>
       have q:hasB x.k=false:=by
        unfold hasA at r;unfold hasB;simp only [decide_eq_false_iff_not] at r ⊢;omega
       rw [r,q] at l;have X:(x.k == 5)=false:=by simp;intro e;have:=l.2.2 e;cases this
       have k6:(x.k == 6)=false:=by simp;intro e;have:=l.1.2 (Or.inr (Or.inl e));cases this
       have k7:(x.k == 7)=false:=by simp;intro e;have:=l.1.2 (Or.inr (Or.inr e));cases this
       have H:Hid (Zav x true f=f):=by unfold Hid Zav;rw [r,q];simp
       clear Z E l;go_wp2;refine ⟨⟨j,f,by omega,by go_num,n,by rw [H.out] at A;exact A,c.alloc _,y.alloc (by omega) _⟩,by simp [intOf]⟩
      | true =>
       obtain ⟨aa,ai⟩:=Z r;obtain ⟨F,M⟩:=cG aa;rw [M] at c3 ai;have e1:=c.cellAt F (by omega);rw [ZcG _ _ (by omega)] at e1;have f1:=c.frozenAt F;have t:=(c.stored F (.bool true)).1;rw [ZeA] at t;have au:F ≠ j:=by omega
       have N:=y.setCell (p:=⟨w.heap.size+1,F,none⟩) (ce _) (.bool true);cases q:hasB x.k with
       | false =>
        rw [r,q] at l;have X:(x.k == 5)=false:=by simp;intro e;have:=l.2.2 e;cases this
        have H:Hid (Zav x true f=f.set F true):=by unfold Hid Zav setB;rw [r,q,M];simp
        clear Z E;rcases l.1.1 rfl with h5 | h6 | h7
        ·rw [h5] at X;cases X
        ·rw [h6] at c0
         clear l X;go_wp2;refine ⟨⟨j,f.set F true,by omega,by go_num,by simpa using n,by rw [H.out] at A;exact A,t.alloc _,N.alloc (by simp;omega) _⟩,by simp [intOf]⟩
        ·rw [h7] at c0
         clear l X;go_wp2;refine ⟨⟨j,f.set F true,by omega,by go_num,by simpa using n,by rw [H.out] at A;exact A,t.alloc _,N.alloc (by simp;omega) _⟩,by simp [intOf]⟩
       | true =>
        have h5:=l.2.1 q;rw [h5] at c0;obtain ⟨ag,af⟩:=E q;obtain ⟨v,G⟩:=cG ag;rw [G] at c4 af;have H:Hid (Zav x true f=(f.set F true).set v true):=by unfold Hid Zav setB;rw [r,q,M,G];simp
        have e2:=t.cellAt v (by omega);rw [ZcG _ _ (by simp;omega)] at e2;have f2:=t.frozenAt v;have Q:=(t.stored v (.bool true)).1;rw [ZeA] at Q;have ac:=N.setCell (p:=⟨w.heap.size+1,v,none⟩) (ce _) (.bool true);clear Z E l;go_wp2;refine ⟨⟨j,(f.set F true).set v true,by omega,by go_num,by simpa using n,by rw [H.out] at A;exact A,Q.alloc _,ac.alloc (by simp;omega) _⟩,by simp [intOf]⟩
theorem ZcK (v B:Value)(b:List Nd)(rs:List Int)(w:World)(R:NRow w v b)(L:IRow w B rs) :
  Calls prog 202 #[.agg #[v],B] w fun e F=>e=.returned (.bool (allI b rs && Zau b))/\Below w.heap.size w F:=by
 have E:=R;have H:=L;obtain ⟨s,h,rfl,_⟩:=E;obtain ⟨K,M,rfl,D,G,a⟩:=H;have r:Below w.heap.size w (w.alloc (Obj.cells #[.slice s b.length h] 40)):=(cj _ _).alloc (ce _) _;have c:=co w (Obj.cells #[.slice s b.length h] 40)
 go_enter func202,ntmps202
 go_wp2_with fail
 go_loopw [5] (fun i wr=>∃ k:Nat,k <= rs.length/\i=.int .i64 k/\Hid (allI b rs=(rs.drop k).all (hasI b))/\Below w.heap.size w wr/\wr.heap[w.heap.size]? = some (.cells #[.slice s b.length h] 40 (0,0))) (fun i _=>rs.length - (intOf i).toNat)
 case atStart=>exact ⟨0,by omega,rfl,by simp [Hid,allI],r,c⟩
 case round =>
  clear r c;obtain ⟨k,J,rfl,y,m,c⟩:=hrel;have x:wr.cell? ⟨w.heap.size,0,none⟩=some (.slice s b.length h):=by rw [cd wr _ 0 _ _ _ c];rfl
  have t:=(bl c)
  by_cases j:k < rs.length
  ·obtain ⟨g,o,rfl,I,a⟩:=a (by intro e;subst e;simp at j)
   have c0:=(m.cell (p:=⟨g,o+k,none⟩) I).trans (a k j);have l:Hid (allI b rs=(hasI b (rs.getD k 0) && (rs.drop (k+1)).all (hasI b))):=by unfold Hid;rw [y.out,Zhd _ _ _ j]
   clear a y;generalize rs.getD k 0=z at c0 l;go_wp2_with fail
   go_region_with (go_at_call 143;refine (Zcz _ b _ _ (R.below ?_)).mono ?_;exact m.drew;rintro e A ⟨rfl,f⟩)
   all_goals
    have d:Below wr.heap.size wr A:=(cj _ _).drew.trans f;have q:=m.trans (d.mono m.size);have n:=(d.block _ t).trans c;clear c0 f x c d;cases C:hasI b z with
    | false =>
     rw [C,Bool.false_and] at l;go_wp2;go_ret;rw [l.out];exact ⟨rfl,q⟩
    | true =>
     rw [C,Bool.true_and] at l;go_wp2
     go_roundw
     case rel=>exact ⟨k+1,by omega,by go_num,l,q,n⟩
     case measure=>simp [intOf];omega
  ·have u:k=rs.length:=by omega
   subst u;have l:Hid (allI b rs=true):=by unfold Hid;rw [y.out];simp
   go_wp2_with fail;refine (Zcc _ b _ (R.below m)).mono ?_;rintro e A ⟨rfl,f⟩;go_wp2;go_ret;rw [l.out,Bool.true_and];exact ⟨rfl,m.trans (f.mono m.size)⟩
end Go.Proofs.YtkpfangkfknhoaaGreatDoor
