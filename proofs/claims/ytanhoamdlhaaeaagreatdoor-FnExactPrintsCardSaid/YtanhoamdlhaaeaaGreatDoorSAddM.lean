/-
  Texts that stood by themselves, laid into one.
-/
import Derived.Test.YtanhoamdlhaaeaaGreatDoorRVal2M
import Derived.Deep.RegionHeld3
import Derived.RangeFuncNested
import Derived.RangeFuncBound
import Derived.RangeFuncCalls
import Derived.RangeFuncLeaves
import Derived.RangeFuncBox
import Derived.Shelf.Abstract
import Derived.Shelf.RegionOpen
import Derived.WalkKit
import Derived.OwnWalkIn
import Derived.TacticsInMore
import Derived.LoopNIn
import Derived.LoopIn
import Derived.Test.YtanhoamdlhaaeaaGreatDoorIReachM
import Derived.Test.YtanhoamdlhaaeaaGreatDoorCyMathM
import Derived.Deep.AppendLies
import Derived.Test.YtanhoamdlhaaeaaGreatDoorMachRecM
import Derived.Test.YtanhoamdlhaaeaaGreatDoorSWireM
import Derived.Deep.RegionLaw
/-
  The contract of impl.ValueRead: the value of the bytes, or nothing. The variable errors.errorType reads as it is laid.
-/
set_option maxRecDepth 100000
set_option maxHeartbeats 3200000
namespace Go.Proofs.YtanhoamdlhaaeaaGreatDoor
open Go.Proofs.Tryz
open Go.RowKit
theorem ZaN {P:Program}{e:Func}{p u f:Tmp}{b:TypeId}(h:e.results=#[.cell p b,.tmp u,.tmp f])(a:Array Value)(w:World)(g:Nat)(t:TypeId)(cs:Array Value)(fr:Nat × Nat)(d:TypeDesc)(k:a.getD p undef=.pointer (some ⟨g,0,none⟩))(j:w.heap[g]? = some (.cells cs t fr))(l:P.underlying b=some d)(i:(match d with | .struct _ | .array _ _=>true | _=>false)=true)(hi:(P.info? b).map (·.size)=some cs.size) :
  (results e a).run P w=.ok (.tuple #[.agg cs,a.getD u undef,a.getD f undef]) w:=by
 have c:a[p]?.getD undef=.pointer (some ⟨g,0,none⟩):=by simpa using k
 simp [results,h,c,asAddr,run_loadVar_row w g t b cs fr d j l i hi]
def vrL (zs:List Int):List Nd:=(vrR zs).getD []
def vrI (zs:List Int):Int:=match vrR zs with | some xs=>(xs.length:Int) - 1 | none=>0
def vrB (zs:List Int):Bool:=(vrR zs).isSome
theorem Zkj {a:List Int}{b:List Nd}(h:vrR a=some b):vrL a=b/\vrI a=(b.length:Int) - 1/\vrB a=true:=by unfold vrL vrI vrB;rw [h];exact ⟨rfl,rfl,rfl⟩
theorem Zj6 {a:List Int}(h:vrR a=none):vrL a=[]/\vrI a=0/\vrB a=false:=by unfold vrL vrI vrB;rw [h];exact ⟨rfl,rfl,rfl⟩
theorem ZkH {d:List Int}{c:List Nd}(g:∀ z ∈ d,0 <= z/\z <= 255)(h:vrR d=some c):Zap c=true/\c ≠ []:=by
 unfold vrR at h;rw [Option.bind_eq_some_iff] at h;obtain ⟨⟨i,b⟩,e,a⟩:=h;split at a
 ·rename_i f
  cases a;exact ⟨(Zkf g e).2,f.2.1⟩
 ·cases a
def VrAns (B:Nat)(zs:List Int)(e:Ending)(w':World):Prop:=∃ v',e=.returned (.tuple #[.agg #[v'],.int .i64 (vrI zs),.bool (vrB zs)])/\w'.ownsRow B 176 5 v' (vrL zs).length (ncs (vrL zs))
theorem VrAns.intro {B:Nat}{a:List Int}{e:Ending}{c:World}(b:Value)(h:e=.returned (.tuple #[.agg #[b],.int .i64 (vrI a),.bool (vrB a)]))(k:c.ownsRow B 176 5 b (vrL a).length (ncs (vrL a))):VrAns B a e c:=⟨b,h,k⟩
theorem Zg5 (s:ByteArray)(w:World)(hs:s.size <= 140737488351232)(Z:ErrT w) :
  Calls prog 153 #[.string s] w fun e V=>VrAns w.heap.size (sb s) e V/\Below w.heap.size w V:=by
 have H:Below w.heap.size w (w.alloc (Obj.cells #[.slice none 0 0] 41)):=(cf _ _).alloc (ce _) _
 go_enter func153,ntmps153
 go_wp2_with fail;refine (Zfb s _ hs).mono ?_;rintro e J ⟨v,S,P,rfl,R,q,o,Y,u⟩;have ab:w.heap.size+1 <= S.heap.size:=by have:=q.size;simp at this;omega
 have M:Below (w.alloc (Obj.cells #[.slice none 0 0] 41)).heap.size (w.alloc (Obj.cells #[.slice none 0 0] 41)) J:=q.trans (o.mono q.size);have W:=(M.block w.heap.size (by simp)).trans (cg w _);have x:=H.trans (M.mono H.size);have ac:=o.size;obtain ⟨ao,X,rfl,_⟩:=id R;go_wp2_with fail;refine (Zhp _ (sb s) S J P R o Y u).mono ?_;rintro e f ⟨r,I⟩;have Q:=(r.block w.heap.size (by omega) (by simp;omega)).trans W;have b:Below w.heap.size w f:=x.grown r x.size (fun k hk=>by simp at hk;omega);have ad:=r.size;clear r M x W q o u;rcases I with ⟨m,vs,D,rfl,N⟩ | ⟨D,l,n,c,p,rfl⟩
 ·obtain ⟨E,F,G⟩:=Zkj D
  have U:=Za1 (ZkH (ZjQ s) D).1;have A:Hid (vrL (sb s)=m/\vrI (sb s)=(m.length:Int) - 1/\vrB (sb s)=true):=⟨E,F,G⟩;clear E F G D;obtain ⟨l,t,rfl⟩:=Zad N;have z:Below f.heap.size f (f.alloc (Obj.cells #[.slice l m.length t] 41)):=(cf _ _).alloc (ce _) _;have K:(f.alloc (Obj.cells #[.slice l m.length t] 41)).heap[f.heap.size]? = some (.cells #[.slice l m.length t] 41 (0,0)):=cg _ _;go_wp2_with fail;refine (Zh7 _).mono ?_;rintro e g ⟨rfl,i⟩;have d:Below f.heap.size f g:=z.trans (i.mono z.size);have K:=(bb K i);have C:=(bb Q d);have T:=Zac N d;have y:=b.trans (d.mono b.size);have q0:g.cell? ⟨f.heap.size,0,none⟩=some (.slice l m.length t):=cd g _ 0 _ _ _ K;have r0:g.cell? ⟨w.heap.size,0,none⟩=some (.slice none 0 0):=cd g _ 0 _ _ _ C;have rf:g.frozen? ⟨w.heap.size,0,none⟩=false:=cj g _ 0 _ _ C
  have aa:f.heap.size ≠ w.heap.size:=by omega
  have j:=ci g w.heap.size 0 _ _ (.slice l m.length t) C;have B:=y.setCell (p:=⟨w.heap.size,0,none⟩) (ce _) (.slice l m.length t);have O:=Zae (cx T (a:=⟨w.heap.size,0,none⟩) (by show w.heap.size < J.heap.size;omega) (.slice l m.length t)) (show w.heap.size <= J.heap.size by omega);clear i z d K Q b N T;go_wp2_with fail
  go_region
  all_goals
   go_wp2;refine ck (ZaN rfl _ _ w.heap.size 41 _ (0,0) _ rfl j underlying41 rfl Zmf) rfl ⟨VrAns.intro (.slice l m.length t) ?_ ?_,B.drew⟩
   ·rw [A.out.2.1,A.out.2.2];rfl
   ·rw [A.out.1];exact O
 ·obtain ⟨E,F,G⟩:=Zj6 D
  have A:Hid (vrL (sb s)=[]/\vrI (sb s)=0/\vrB (sb s)=false):=⟨E,F,G⟩;clear E F G D;have z:Below f.heap.size f (f.alloc (Obj.cells #[.slice l n c] 41)):=(cf _ _).alloc (ce _) _;have L:=b.trans (z.mono b.size);go_wp2_with fail;refine (Zh6 p _ (Z.below L (ce _))).mono ?_;rintro e g ⟨rfl,i⟩;have d:Below f.heap.size f g:=z.trans (i.mono z.size);have C:=(bb Q d);have y:=b.trans (d.mono b.size);have r0:g.cell? ⟨w.heap.size,0,none⟩=some (.slice none 0 0):=cd g _ 0 _ _ _ C;have rf:g.frozen? ⟨w.heap.size,0,none⟩=false:=cj g _ 0 _ _ C;have j:=ci g w.heap.size 0 _ _ (.slice none 0 0) C;have B:=y.setCell (p:=⟨w.heap.size,0,none⟩) (ce _) (.slice none 0 0);go_wp2;refine ck (ZaN rfl _ _ w.heap.size 41 _ (0,0) _ rfl j underlying41 rfl Zmf) rfl ⟨VrAns.intro (.slice none 0 0) ?_ ?_,B⟩
  ·rw [A.out.2.1,A.out.2.2];rfl
  ·rw [A.out.1];exact World.ownsRow_nil _ _ _ _
end Go.Proofs.YtanhoamdlhaaeaaGreatDoor
namespace Go.Proofs.YtanhoamdlhaaeaaGreatDoor
open Go.Proofs.Tryz
open Go.RowKit Go.Shelf
attribute [local go_sem] Oper.semAt_some
abbrev Itm (xs:List Nd):Type:={ p:Nat × Nd // xs[p.1]? = some p.2 }
def ienc {xs:List Nd}(p:Itm xs):Array Value:=#[.int .i64 (p.1.1:Int),.agg #[.int .i64 p.1.2.k,.int .i64 p.1.2.n,.string p.1.2.s,.int .i64 p.1.2.a,.int .i64 p.1.2.b]]
def KpZ (Z:Nat -> Prop)(W W':World):Prop:=∀ b,Z b -> W'.heap[b]? = W.heap[b]?
attribute [local go_sem] Oper.semAt_some
attribute [local go_sem] Oper.semAt_some
end Go.Proofs.YtanhoamdlhaaeaaGreatDoor
namespace Go.Proofs.YtanhoamdlhaaeaaGreatDoor
open Go.Proofs.Tryz
open Go.RowKit
theorem Zdy (k:Int):(hasA k=true <-> k=5 \/ k=6 \/ k=7)/\(hasB k=true <-> k=5):=by
 unfold hasA hasB;simp only [decide_eq_true_eq];exact ⟨trivial,trivial⟩
theorem Zf3 (P:Option Addr)(t:Nat)(vl:Value)(d:List Nd)(rs:List Int)(w:World)(R:NRow w (.slice P d.length t) d)(L:IRow w vl rs)(hp:Zap d=true)(hr:allI d rs=true) :
  Calls prog 168 #[.agg #[.slice P d.length t],vl] w fun e w'=>∃ v',e=.returned v'/\w'.ownsRow w.heap.size 4 1 v' d.length (vb (Zat d rs))/\Below w.heap.size w w':=by
 have am:=Za1 hp;have K:Below w.heap.size w (w.alloc (Obj.cells #[.slice P d.length t] 41)):=(cf _ _).alloc (ce _) _;have V:=cg w (Obj.cells #[.slice P d.length t] 41);have R0:=R.below K;have L0:=L.below K;clear R L;have ag:(w.alloc (Obj.cells #[.slice P d.length t] 41)).heap.size=w.heap.size+1:=by simp
 obtain ⟨i0,hi,ah,ai,aj⟩:=info_parts Zl0;have s:i0.bytes * d.length <= 281474976710656:=by rw [aj];omega
 have H:d.length <= maxLen:=by unfold maxLen;omega
 go_enter func168,ntmps168
 go_wp2_with (at_make;refine wpList_make_full _ rfl _ _ 233 rfl (w.heap.size+1) 4 i0 (.bool false) 1 underlying233 hi ah ai _ _ _ _ d.length rfl rfl rfl rfl s H (by simp) ?_)
 intro w1 c C;generalize w.alloc (Obj.cells #[.slice P d.length t] 41)=w0 at *;have T:Below (w.heap.size+1) w0 w1:=(cf _ _).grown C (by omega) (by intro k W;cases W);clear C s H;obtain ⟨al,cl,rfl,ar,_,D⟩:=L0;go_wp2_with fail
 go_loopw [6] (fun i wr=>∃ (k:Nat) (f:List Bool),k <= rs.length/\i=.int .i64 k/\f.length=d.length/\Hid ((rs.drop k).foldl setB f=Zde d.length rs)/\wr.ownsRow (w.heap.size+1) 4 1 (.slice (some ⟨w.heap.size+1,0,none⟩) d.length d.length) d.length (vb f)/\Below (w.heap.size+1) w0 wr) (fun i _=>rs.length - (intOf i).toNat)
 case atStart=>exact ⟨0,List.replicate d.length false,by omega,rfl,by simp,rfl,by rw [Zi3];exact c,T⟩
 case round =>
  clear c T;obtain ⟨k,f,W,rfl,m,HF,c,A⟩:=hrel
  by_cases E:k < rs.length
  ·obtain ⟨g,o,rfl,hg,D⟩:=D (by intro e;subst e;simp at E)
   have ez:=(A.cell (p:=⟨g,o+k,none⟩) (by simp;omega)).trans (D k E);obtain ⟨h1,h2⟩:=Zfz hr k E;have Q:Hid ((rs.drop (k+1)).foldl setB (setB f (rs.getD k 0))=Zde d.length rs):=(Zez rs f k E).symm.trans HF.out;generalize rs.getD k 0=z at ez h1 h2 Q;obtain ⟨Z,rfl⟩:=cu h1;have ec:=c.cellAt Z (by omega);rw [Zcc _ _ (by omega)] at ec;have ef:=c.frozenAt Z;have hs:=(c.stored Z (.bool true)).1;rw [ZdP] at hs;clear D hr HF;go_wp2
   go_roundw
   case rel=>exact ⟨k+1,setB f Z,by omega,by go_num,by rw [Zbs,m],Q,hs,A.setCell (p:=⟨w.heap.size+1,Z,none⟩) (ce _) _⟩
   case measure=>simp [intOf];omega
  ·have af:k=rs.length:=by omega
   subst af
   have J:Hid (down d d.length f=Zat d rs):=by
    have:=HF.out;rw [List.drop_length,List.foldl_nil] at this;rw [this];rfl
   clear HF W E D hr;have ep:=(A.cell (p:=⟨w.heap.size,0,none⟩) (by simp)).trans ((cd w0 _ 0 _ _ _ V).trans rfl);have U:w.heap.size+1 < wr.heap.size:=(c.lt _ rfl).2;go_wp2_with fail
   go_loopw [7] (fun i wq=>∃ (k:Nat) (cs:List Bool),k <= d.length/\i=.int .i64 ((k:Int) - 1)/\cs.length=d.length/\Hid (down d k cs=Zat d rs)/\wq.ownsRow (w.heap.size+1) 4 1 (.slice (some ⟨w.heap.size+1,0,none⟩) d.length d.length) d.length (vb cs)/\Below (w.heap.size+1) w0 wq) (fun i _=>(intOf i+1).toNat)
   case atStart=>exact ⟨d.length,f,ce _,rfl,m,J,c,A⟩
   case round =>
    clear c A J m ep U;clear f;obtain ⟨k,f,W,rfl,m,J,c,A⟩:=hrel;have ep:=(A.cell (p:=⟨w.heap.size,0,none⟩) (by simp)).trans ((cd w0 _ 0 _ _ _ V).trans rfl);have U:w.heap.size+1 < wr.heap.size:=(c.lt _ rfl).2;rcases Nat.eq_zero_or_pos k with rfl | ap
    ·have HQ:Hid (f=Zat d rs):=J
     clear J;go_wp2;go_ret;rw [HQ.out] at c;exact ⟨_,rfl,Zae c (by omega),K.trans (A.mono (by omega))⟩
    ·obtain ⟨j,rfl⟩:∃ j,k=j+1:=⟨k - 1,by omega⟩
     rw [show ((j+1:Nat):Int) - 1=(j:Int) by omega];obtain ⟨aq,ak,e',_,_,hz,n⟩:=R0;simp only [Value.slice.injEq,true_and] at e';obtain ⟨rfl,rfl⟩:=e';obtain ⟨g,o,rfl,hg,n⟩:=n (by intro e;subst e;simp at W);obtain ⟨x,hx⟩:∃ x,d[j]? = some x:=⟨d[j],by simp⟩;obtain ⟨c0,c1,c2,c3,c4⟩:=(n j x hx).below A (by rw [ag] at hg;exact hg);have O:=ZbL hp hx;have l:=Zdy x.k;have y:Hid (down d j (Zan x (f.getD j false) f)=Zat d rs):=(ZdW d f j x hx).symm.trans J.out;have S:hasA x.k=true -> 0 <= x.a/\x.a < (j:Int):=fun h=>ZbX O h
     have B:hasB x.k=true -> 0 <= x.b/\x.b < (j:Int):=fun h=>ZbY O h
     clear n hx J O;have an:w.heap.size+1 ≠ wr.heap.size:=by omega
     have e0:=c.cellAt j (by omega);rw [Zcc _ _ (by omega)] at e0;cases hb:f.getD j false with
     | false =>
      rw [hb] at e0 y;have G:Hid (Zan x false f=f):=by unfold Hid Zan;simp
      clear S B hb;go_wp2;refine ⟨⟨j,f,by omega,by go_num,m,by rw [G.out] at y;exact y,c.alloc _,A.alloc (by omega) _⟩,by simp [intOf]⟩
     | true =>
      rw [hb] at e0 y;clear hb;cases q:hasA x.k with
      | false =>
       have r:hasB x.k=false:=by
        unfold hasA at q;unfold hasB;simp only [decide_eq_false_iff_not] at q ⊢;omega
       rw [q,r] at l;have Y:(x.k == 5)=false:=by simp;intro e;have:=l.2.2 e;cases this
       have k6:(x.k == 6)=false:=by simp;intro e;have:=l.1.2 (Or.inr (Or.inl e));cases this
       have k7:(x.k == 7)=false:=by simp;intro e;have:=l.1.2 (Or.inr (Or.inr e));cases this
       have G:Hid (Zan x true f=f):=by unfold Hid Zan;rw [q,r];simp
       clear S B l;go_wp2;refine ⟨⟨j,f,by omega,by go_num,m,by rw [G.out] at y;exact y,c.alloc _,A.alloc (by omega) _⟩,by simp [intOf]⟩
      | true =>
       obtain ⟨ab,ac⟩:=S q;obtain ⟨F,N⟩:=cu ab;rw [N] at c3 ac;have e1:=c.cellAt F (by omega);rw [Zcc _ _ (by omega)] at e1;have f1:=c.frozenAt F;have u:=(c.stored F (.bool true)).1;rw [ZdP] at u;have au:F ≠ j:=by omega
       have M:=A.setCell (p:=⟨w.heap.size+1,F,none⟩) (ce _) (.bool true);cases r:hasB x.k with
       | false =>
        rw [q,r] at l;have Y:(x.k == 5)=false:=by simp;intro e;have:=l.2.2 e;cases this
        have G:Hid (Zan x true f=f.set F true):=by unfold Hid Zan setB;rw [q,r,N];simp
        clear S B;rcases l.1.1 rfl with h5 | h6 | h7
        ·rw [h5] at Y;cases Y
        ·rw [h6] at c0
         clear l Y;go_wp2;refine ⟨⟨j,f.set F true,by omega,by go_num,by simpa using m,by rw [G.out] at y;exact y,u.alloc _,M.alloc (by simp;omega) _⟩,by simp [intOf]⟩
        ·rw [h7] at c0
         clear l Y;go_wp2;refine ⟨⟨j,f.set F true,by omega,by go_num,by simpa using m,by rw [G.out] at y;exact y,u.alloc _,M.alloc (by simp;omega) _⟩,by simp [intOf]⟩
       | true =>
        have h5:=l.2.1 r;rw [h5] at c0;obtain ⟨ad,ae⟩:=B r;obtain ⟨v,I⟩:=cu ad;rw [I] at c4 ae;have G:Hid (Zan x true f=(f.set F true).set v true):=by unfold Hid Zan setB;rw [q,r,N,I];simp
        have e2:=u.cellAt v (by omega);rw [Zcc _ _ (by simp;omega)] at e2;have f2:=u.frozenAt v;have X:=(u.stored v (.bool true)).1;rw [ZdP] at X;have aa:=M.setCell (p:=⟨w.heap.size+1,v,none⟩) (ce _) (.bool true);clear S B l;go_wp2;refine ⟨⟨j,(f.set F true).set v true,by omega,by go_num,by simpa using m,by rw [G.out] at y;exact y,X.alloc _,aa.alloc (by simp;omega) _⟩,by simp [intOf]⟩
end Go.Proofs.YtanhoamdlhaaeaaGreatDoor
