/-
  Texts that stood by themselves, laid into one.
-/
import Derived.Test.YtanhoamdlhaaeaaGreatDoorWOkRM
import Derived.Test.YtanhoamdlhaaeaaGreatDoorWOkIM
import Derived.Test.YtanhoamdlhaaeaaGreatDoorPrRegM
import Derived.Test.YtanhoamdlhaaeaaGreatDoorSClsM
/-
  Contracts of spec's l13Homes and l13Grams. No condition but that there are 1 to 3 places.
-/
set_option maxRecDepth 100000
set_option maxHeartbeats 6400000
namespace Go.Proofs.YtanhoamdlhaaeaaGreatDoor
open Go.Proofs.Tryz
open Go.RowKit
theorem Zd0 (b a:Int):(decide (0 <= a) && decide (a <= b - 1))=hasP b a:=by
 unfold hasP
 congr 1
 rw [Bool.eq_iff_iff];simp;omega
theorem Zfe (vn vi vf vh vl vg vp va vt:Value)(d:Wd)(B:Nat)(w:World)(R:WR B w vn vi vf vh vl vg vp va vt d)(ab:1 <= d.pl)(ac:d.pl <= 3)(ag:∀ x ∈ d.hs,SmH x) :
  Calls prog 53 #[.agg #[vn,vi,vf,.int .i64 d.pl,vh,vl,vg,vp,.int .i64 d.nx,va,vt]] w fun e w'=>e=.returned (.bool (d.hs.all (hmB d.ns d.is d.ds d.pl) && decide (d.hs.length <= 8)))/\Below w.heap.size w w':=by
 have R0:=R;obtain ⟨⟨A,J,rfl⟩,⟨v,H,rfl⟩,⟨n,F,rfl⟩,⟨O,j,rfl⟩,⟨z,I,rfl⟩,⟨u,G,rfl⟩,⟨C,K,rfl⟩,⟨l,E,rfl⟩,⟨D,L,rfl⟩⟩:=R.form;have Y:=Zaw w (Obj.cells #[.slice A d.ns.length J,.slice v d.is.length H,.slice n d.ds.length F,.int .i64 d.pl,.slice O d.hs.length j,.slice z d.ls.length I,.slice u d.gs.length G,.slice C d.ps.length K,.int .i64 d.nx,.slice l d.ga.length E,.slice D d.tk.length L] 51);have ah:=cg w (Obj.cells #[.slice A d.ns.length J,.slice v d.is.length H,.slice n d.ds.length F,.int .i64 d.pl,.slice O d.hs.length j,.slice z d.ls.length I,.slice u d.gs.length G,.slice C d.ps.length K,.int .i64 d.nx,.slice l d.ga.length E,.slice D d.tk.length L] 51)
 go_enter func53,ntmps53
 go_wp2_with fail;generalize w.alloc (Obj.cells #[.slice A d.ns.length J,.slice v d.is.length H,.slice n d.ds.length F,.int .i64 d.pl,.slice O d.hs.length j,.slice z d.ls.length I,.slice u d.gs.length G,.slice C d.ps.length K,.int .i64 d.nx,.slice l d.ga.length E,.slice D d.tk.length L] 51)=w0 at *;obtain ⟨ao,ak,hh,aj,hm,a⟩:=R0.rh;simp only [Value.slice.injEq] at hh;obtain ⟨rfl,_,rfl⟩:=hh
 go_loopw [3] (fun i wr=>∃ k:Nat,k <= d.hs.length/\i=.int .i64 k/\Hid ((d.hs.take k).all (hmB d.ns d.is d.ds d.pl)=true)/\Below w0.heap.size w0 wr) (fun i _=>d.hs.length - (intOf i).toNat)
 case atStart=>exact ⟨0,by omega,rfl,by simp [Hid],cf _ _⟩
 case round =>
  obtain ⟨k,hk,rfl,U,hb⟩:=hrel;have c:=Y.trans (hb.mono Y.size);have hx:=Zaf ah hb;have kh:wr.cell? ⟨w.heap.size,0+4,none⟩=some (.slice O d.hs.length j):=cd _ _ 4 _ _ _ hx
  by_cases N:k < d.hs.length
  ·obtain ⟨g,o,rfl,_,hg,a⟩:=a (by intro e;rw [e] at N;simp at N)
   obtain ⟨x,Q⟩:∃ x,d.hs[k]? = some x:=⟨d.hs[k],by simp [N]⟩;obtain ⟨cs,af,hr,v1,v2,v3,hc,P1,P2,P3,_,_,_⟩:=a k x Q;obtain ⟨p1,q1,rfl⟩:=P1.small8;obtain ⟨p2,q2,rfl⟩:=P2.small;obtain ⟨p3,q3,rfl⟩:=P3.small;have f:Hid (d.hs[k]? = some x):=Q;have ai:∀ y ∈ x.bx,y.size <= 140737488351232:=fun y hy=>Nat.le_trans ((ag x (List.mem_of_getElem? Q)).2.2.2 y hy) (by decide)
   obtain rfl:cs=(#[.int .i64 x.pl,.int .i64 x.i,.slice p1 x.xs.length q1,.int .i64 x.m.p,.int .i64 x.m.s,.int .i64 x.m.e,.int .i64 x.m.d,.int .i64 x.m.t,.int .i64 x.m.q,.int .i64 x.m.r,.slice p2 x.bx.length q2,.slice p3 x.ox.length q3]:Array Value).toList:=congrArg Array.toList hc;replace hr:=Zab hr c hg;have Z:=cm hg c.size;clear a Q af hc;have P:=Zd0 d.pl x.pl;go_wp2_with fail;clear kh;cases h1:hasP d.pl x.pl with
   | false =>
    rw [h1] at P;have X:hmB d.ns d.is d.ds d.pl x=false:=by unfold hmB;rw [h1];rfl
    refine ZjK w.heap.size g o k A v n z u C l D J H F j I G K E L d x _ _ _ wr _ hx hr Z N ab ac P ?_;intro u11 u12 u13 u14 u15 u16 u17 u18 u19 u20 u21 u22 u23 u24 u25 u26 u27 u28 u29 u30 u31 u32 W M;have T:=c.trans (M.mono c.size);have V:Hid (d.hs.all (hmB d.ns d.is d.ds d.pl)=false):=Zar f.out X;clear U f;go_wp2;go_ret;exact ⟨by rw [V.out];rfl,T⟩
   | true =>
    rw [h1] at P;have S:Hid (hmB d.ns d.is d.ds d.pl x=Zei d.ns d.is d.ds x.i x.xs x.m x.bx x.ox):=by unfold Hid hmB;rw [h1];simp
    have HC:=fun (W:World) (M:Below wr.heap.size wr W)=>Zf9 _ _ _ _ _ _ d.ns d.is d.ds x.i x.xs x.m x.bx x.ox W (R0.rn.below (c.trans (M.mono c.size))) (R0.ri.below (c.trans (M.mono c.size))) (R0.rf.below (c.trans (M.mono c.size))) (P1.below (c.trans (M.mono c.size))) (P2.below (c.trans (M.mono c.size))) (P3.below (c.trans (M.mono c.size))) ai
    obtain ⟨kb,aa⟩:∃ b,Zei d.ns d.is d.ds x.i x.xs x.m x.bx x.ox=b:=⟨_,rfl⟩;rw [aa] at HC S;clear aa;refine ZjL w.heap.size g o k A v n z u C l D J H F j I G K E L d x _ _ _ wr _ hx hr Z N ab ac P kb HC ?_;intro u11 u12 u13 u14 u15 u16 u17 u18 u19 u20 u21 u22 u23 u24 u25 u26 u27 u28 u29 u30 u31 u32 W M;have T:=c.trans (M.mono c.size);have ae:=hb.trans (M.mono hb.size);clear HC;cases kb with
    | false =>
     have X:hmB d.ns d.is d.ds d.pl x=false:=S.out;have V:Hid (d.hs.all (hmB d.ns d.is d.ds d.pl)=false):=Zar f.out X;clear U f;go_wp2;go_ret;exact ⟨by rw [V.out];rfl,T⟩
    | true =>
     have X:hmB d.ns d.is d.ds d.pl x=true:=S.out;have ad:Hid ((d.hs.take (k+1)).all (hmB d.ns d.is d.ds d.pl)=true):=Za5 U.out f.out X;clear U f;go_wp2
     go_roundw
     case rel=>exact ⟨k+1,by omega,by go_num,ad,ae⟩
     case measure=>simp [intOf];omega
  ·have V:Hid (d.hs.all (hmB d.ns d.is d.ds d.pl)=true):=Zbv U.out (by omega)
   clear U a
   by_cases h8:d.hs.length <= 8
   ·go_wp2
    go_ret;exact ⟨by rw [V.out];simp [h8] <;> omega,c⟩
   ·go_wp2
    go_ret;exact ⟨by rw [V.out];simp [h8] <;> omega,c⟩
theorem Zfd (vn vi vf vh vl vg vp va vt:Value)(d:Wd)(B:Nat)(w:World)(R:WR B w vn vi vf vh vl vg vp va vt d)(au:1 <= d.pl)(av:d.pl <= 3) :
  Calls prog 55 #[.agg #[vn,vi,vf,.int .i64 d.pl,vh,vl,vg,vp,.int .i64 d.nx,va,vt]] w fun e w'=>e=.returned (.bool ((d.gs.all (gmB d.pl) && d.ps.all (pdB d.pl)) && (decide (d.gs.length <= 12) && decide (d.ps.length <= 20))))/\Below w.heap.size w w':=by
 have R0:=R;obtain ⟨⟨O,Y,rfl⟩,⟨M,V,rfl⟩,⟨K,T,rfl⟩,⟨L,U,rfl⟩,⟨N,X,rfl⟩,⟨y,z,rfl⟩,⟨P,F,rfl⟩,⟨J,S,rfl⟩,⟨Q,Z,rfl⟩⟩:=R.form;have ab:=Zaw w (Obj.cells #[.slice O d.ns.length Y,.slice M d.is.length V,.slice K d.ds.length T,.int .i64 d.pl,.slice L d.hs.length U,.slice N d.ls.length X,.slice y d.gs.length z,.slice P d.ps.length F,.int .i64 d.nx,.slice J d.ga.length S,.slice Q d.tk.length Z] 51);have ak:=cg w (Obj.cells #[.slice O d.ns.length Y,.slice M d.is.length V,.slice K d.ds.length T,.int .i64 d.pl,.slice L d.hs.length U,.slice N d.ls.length X,.slice y d.gs.length z,.slice P d.ps.length F,.int .i64 d.nx,.slice J d.ga.length S,.slice Q d.tk.length Z] 51)
 go_enter func55,ntmps55
 go_wp2_with fail;generalize w.alloc (Obj.cells #[.slice O d.ns.length Y,.slice M d.is.length V,.slice K d.ds.length T,.int .i64 d.pl,.slice L d.hs.length U,.slice N d.ls.length X,.slice y d.gs.length z,.slice P d.ps.length F,.int .i64 d.nx,.slice J d.ga.length S,.slice Q d.tk.length Z] 51)=w0 at *;obtain ⟨ao,am,hh,aw,hm,c⟩:=R0.rg;simp only [Value.slice.injEq] at hh;obtain ⟨rfl,_,rfl⟩:=hh
 go_loopw [3] (fun i wr=>∃ k:Nat,k <= d.gs.length/\i=.int .i64 k/\Hid ((d.gs.take k).all (gmB d.pl)=true)/\Below w0.heap.size w0 wr) (fun i _=>d.gs.length - (intOf i).toNat)
 case atStart=>exact ⟨0,by omega,rfl,by simp [Hid],cf _ _⟩
 case round =>
  obtain ⟨k,hk,rfl,m,G⟩:=hrel;have D:=ab.trans (G.mono ab.size);have hx:=Zaf ak G;have kh:wr.cell? ⟨w.heap.size,0+6,none⟩=some (.slice y d.gs.length z):=cd _ _ 6 _ _ _ hx
  by_cases r:k < d.gs.length
  ·obtain ⟨g,o,rfl,_,hg,c⟩:=c (by intro e;rw [e] at r;simp at r)
   obtain ⟨x,u⟩:∃ x,d.gs[k]? = some x:=⟨d.gs[k],by simp [r]⟩;obtain ⟨cs,ae,hr,hc,_⟩:=c k x u;have j:Hid (d.gs[k]? = some x):=u;obtain rfl:cs=(#[.int .i64 x.k,.int .i64 x.f,.int .i64 x.t,.int .i64 x.n,.string x.s]:Array Value).toList:=congrArg Array.toList hc;replace hr:=Zab hr D hg;clear c u ae hc;have H:=Zaw wr (Obj.cells #[.int .i64 x.k,.int .i64 x.f,.int .i64 x.t,.int .i64 x.n,.string x.s] 124);have C:(wr.alloc (Obj.cells #[.int .i64 x.k,.int .i64 x.f,.int .i64 x.t,.int .i64 x.n,.string x.s] 124)).heap[wr.heap.size]? = some (Obj.cells #[.int .i64 x.k,.int .i64 x.f,.int .i64 x.t,.int .i64 x.n,.string x.s] 124):=cg _ _;have al:=Zaf hx H;have A:=D.trans (H.mono D.size);have ad:=G.trans (H.mono G.size)
   have hE:Hid (gmB d.pl x=((hasP d.pl x.f && hasP d.pl x.t) && ((decide (0 <= x.n) && decide (x.n <= 100000)) && (decide (x.k=1) || (decide (x.k=2) && x.s.toList.isEmpty))))):=rfl;have f0:=Zd0 d.pl x.f;have t0:=Zd0 d.pl x.t;obtain ⟨I,ag⟩:∃ I,Hid (wr.alloc (Obj.cells #[.int .i64 x.k,.int .i64 x.f,.int .i64 x.t,.int .i64 x.n,.string x.s] 124)=I):=⟨_,rfl⟩
   go_wp2_with (refine wpList_load_mid rfl 124 _ rfl g (o+k * 5) rfl _ _ hr underlying124 rfl (by kernel_rfl) ?_)
   rw [ag.out] at H C al A ad ⊢;clear ag hr H kh;have g1:I.cell? ⟨wr.heap.size,0+1,none⟩=some (.int .i64 x.f):=cd _ _ 1 _ _ _ C;have g2:I.cell? ⟨wr.heap.size,0+2,none⟩=some (.int .i64 x.t):=cd _ _ 2 _ _ _ C;have g3:I.cell? ⟨wr.heap.size,3,none⟩=some (.int .i64 x.n):=cd _ _ 3 _ _ _ C;have ax:I.cell? ⟨wr.heap.size,0+3,none⟩=some (.int .i64 x.n):=g3;have g4:I.cell? ⟨wr.heap.size,0+3+1,none⟩=some (.string x.s):=cd _ _ 4 _ _ _ C;have g0:I.cell? ⟨wr.heap.size,0,none⟩=some (.int .i64 x.k):=cd _ _ 0 _ _ _ C;have gp:I.cell? ⟨w.heap.size,0+3,none⟩=some (.int .i64 d.pl):=cd _ _ 3 _ _ _ al;refine (Zao _ _ _ _).mono ?_;rintro e wE ⟨rfl,rfl⟩;cases ai:(decide (1 <= x.k) && decide (x.k <= 2)) with
   | false =>
    have l:gmB d.pl x=false:=by rw [hE.out];have q:¬ (x.k=1)/\¬ (x.k=2):=(by simp at ai;omega);simp [q.1,q.2]
    have v:Hid (d.gs.all (gmB d.pl)=false):=Zar j.out l;clear m j;go_wp2;go_ret;exact ⟨by rw [v.out];rfl,A⟩
   | true =>
    go_wp2_with fail;refine (Zao _ _ _ _).mono ?_;rintro e wE ⟨rfl,rfl⟩;rw [f0];cases hf:hasP d.pl x.f with
    | false =>
     have l:gmB d.pl x=false:=by rw [hE.out,hf];rfl
     have v:Hid (d.gs.all (gmB d.pl)=false):=Zar j.out l;clear m j;go_wp2;go_ret;exact ⟨by rw [v.out];rfl,A⟩
    | true =>
     go_wp2_with fail;refine (Zao _ _ _ _).mono ?_;rintro e wE ⟨rfl,rfl⟩;rw [t0];cases ht:hasP d.pl x.t with
     | false =>
      have l:gmB d.pl x=false:=by rw [hE.out,hf,ht];rfl
      have v:Hid (d.gs.all (gmB d.pl)=false):=Zar j.out l;clear m j;go_wp2;go_ret;exact ⟨by rw [v.out];rfl,A⟩
     | true =>
      go_wp2_with fail;refine (Zao _ _ _ _).mono ?_;rintro e wE ⟨rfl,rfl⟩;cases hn:(decide (0 <= x.n) && decide (x.n <= 100000)) with
      | false =>
       have l:gmB d.pl x=false:=by rw [hE.out,hf,ht,hn];rfl
       have v:Hid (d.gs.all (gmB d.pl)=false):=Zar j.out l;clear m j;go_wp2;go_ret;exact ⟨by rw [v.out];rfl,A⟩
      | true =>
       by_cases h2:x.k=2
       ·have e2:(x.k == 2)=true:=by simp [h2]
        cases hs:x.s.toList.isEmpty with
        | false =>
         have es:(x.s.toList != ([]:List UInt8))=true:=by cases h:x.s.toList with | nil=>rw [h] at hs;cases hs | cons a b=>rfl
         have l:gmB d.pl x=false:=by rw [hE.out,hf,ht,hn,hs];simp [h2]
         have v:Hid (d.gs.all (gmB d.pl)=false):=Zar j.out l;clear m j;go_wp2;go_ret;exact ⟨by rw [v.out];rfl,A⟩
        | true =>
         have es:(x.s.toList != ([]:List UInt8))=false:=by cases h:x.s.toList with | nil=>rfl | cons a b=>rw [h] at hs;cases hs
         have l:gmB d.pl x=true:=by rw [hE.out,hf,ht,hn,hs];simp [h2]
         have E:Hid ((d.gs.take (k+1)).all (gmB d.pl)=true):=Za5 m.out j.out l;clear m j;go_wp2
         go_roundw
         case rel=>exact ⟨k+1,by omega,by go_num,E,ad⟩
         case measure=>simp [intOf];omega
       ·have e2:(x.k == 2)=false:=by simp [h2]
        have l:gmB d.pl x=true:=by rw [hE.out,hf,ht,hn];simp at ai;have:x.k=1:=(by omega);simp [this]
        have E:Hid ((d.gs.take (k+1)).all (gmB d.pl)=true):=Za5 m.out j.out l;clear m j;go_wp2
        go_roundw
        case rel=>exact ⟨k+1,by omega,by go_num,E,ad⟩
        case measure=>simp [intOf];omega
  ·have v:Hid (d.gs.all (gmB d.pl)=true):=Zbv m.out (by omega)
   clear m c;obtain ⟨ao,am,hh,aq,ay,c⟩:=R0.rp;simp only [Value.slice.injEq] at hh;obtain ⟨rfl,_,rfl⟩:=hh;go_wp2_with fail;clear kh
   go_loopw [5] (fun i wr=>∃ k:Nat,k <= d.ps.length/\i=.int .i64 k/\Hid ((d.ps.take k).all (pdB d.pl)=true)/\Below w0.heap.size w0 wr) (fun i _=>d.ps.length - (intOf i).toNat)
   case atStart=>exact ⟨0,by omega,rfl,by simp [Hid],G⟩
   case round =>
    clear hx G D;obtain ⟨k,hk,rfl,m,G⟩:=hrel;have D:=ab.trans (G.mono ab.size);have hx:=Zaf ak G;have kp:wr.cell? ⟨w.heap.size,0+7,none⟩=some (.slice P d.ps.length F):=cd _ _ 7 _ _ _ hx;have kg:wr.cell? ⟨w.heap.size,0+6,none⟩=some (.slice y d.gs.length z):=cd _ _ 6 _ _ _ hx
    by_cases r:k < d.ps.length
    ·obtain ⟨g,o,rfl,_,hg,c⟩:=c (by intro e;rw [e] at r;simp at r)
     obtain ⟨x,u⟩:∃ x,d.ps[k]? = some x:=⟨d.ps[k],by simp [r]⟩;obtain ⟨cs,ae,hr,hc,_⟩:=c k x u;have j:Hid (d.ps[k]? = some x):=u;obtain rfl:cs=(#[.int .i64 x.p,.int .i64 x.t,.string x.s]:Array Value).toList:=congrArg Array.toList hc;replace hr:=Zab hr D hg;have ar:=cm hg D.size;clear c u ae hc;have ah:=Zd0 d.pl x.p;have ac:Hid (pdB d.pl x=hasP d.pl x.p):=rfl;go_wp2_with fail;clear kp kg;obtain ⟨pb,aj⟩:∃ b,hasP d.pl x.p=b:=⟨_,rfl⟩;rw [aj] at ah ac;clear aj;refine ZjJ w.heap.size g o k O M K L N y J Q Y V T U X z F S Z d x wr _ hx hr ar r au av pb ah ?_;intro u65 u66 u67 u68 u69 u70 u71 u72 u73 u74 W hW;have an:=D.trans (hW.mono D.size);have ap:=G.trans (hW.mono G.size);cases pb with
     | false =>
      have l:pdB d.pl x=false:=ac.out;have HP:Hid (d.ps.all (pdB d.pl)=false):=Zar j.out l;clear m j;go_wp2;go_ret;exact ⟨by rw [v.out,HP.out];rfl,an⟩
     | true =>
      have l:pdB d.pl x=true:=ac.out;have E:Hid ((d.ps.take (k+1)).all (pdB d.pl)=true):=Za5 m.out j.out l;clear m j;go_wp2
      go_roundw
      case rel=>exact ⟨k+1,by omega,by go_num,E,ap⟩
      case measure=>simp [intOf];omega
    ·have HP:Hid (d.ps.all (pdB d.pl)=true):=Zbv m.out (by omega)
     clear m c
     by_cases aa:d.gs.length <= 12
     ·by_cases af:d.ps.length <= 20
      ·go_wp2
       go_ret;exact ⟨by rw [v.out,HP.out];simp [aa,af] <;> omega,D⟩
      ·go_wp2
       go_ret;exact ⟨by rw [v.out,HP.out];simp [aa,af] <;> omega,D⟩
     ·go_wp2
      go_ret;exact ⟨by first | (rw [v.out,HP.out];simp [aa] <;> omega) | rfl | (simp [aa] <;> omega),D⟩
def Zby (e:Int):Int -> List Pc -> Bool
 | _,[]=>true
 | last,p :: ps=>decide (last < p.n) && (decide (p.n < e) && Zby e p.n ps)
def lend (l:Lk):Int:=if l.got+4 <= l.sent then l.got+4 else l.sent
def Zbe (l:Lk):Bool :=
 decide (0 <= l.acked/\l.acked <= l.got/\l.got <= l.sent/\l.sent <= 100000/\(l.q.length:Int)=l.sent - l.acked/\l.q.length <= 30) && Zby (lend l) l.got l.h
theorem ZaJ {l:Lk}(h:¬ (0 <= l.acked/\l.acked <= l.got/\l.got <= l.sent/\l.sent <= 100000/\(l.q.length:Int)=l.sent - l.acked/\l.q.length <= 30)):Zbe l=false:=by
 unfold Zbe;rw [decide_eq_false h];rfl
theorem ZdD {l:Lk}(h:0 <= l.acked/\l.acked <= l.got/\l.got <= l.sent/\l.sent <= 100000/\(l.q.length:Int)=l.sent - l.acked/\l.q.length <= 30):Zbe l=Zby (lend l) l.got l.h:=by
 unfold Zbe;rw [decide_eq_true h];rfl
theorem ZfT (m n:Value)(l:Lk)(w:World)(r:0 <= l.got)(s:l.got <= l.sent)(t:l.sent <= 100000)(d:Option Addr)(j g:Nat)(o:m=.slice d j g)(f:Option Addr)(k i:Nat)(p:n=.slice f k i) :
  Calls prog 156 #[.agg #[.int .i64 l.sent,.int .i64 l.acked,m,.int .i64 l.got,n]] w fun e q=>e=.returned (.int .i64 (lend l))/\Below w.heap.size w q:=by
 subst o p;have a:Below w.heap.size w (w.alloc (Obj.cells #[.int .i64 l.sent,.int .i64 l.acked,.slice d j g,.int .i64 l.got,.slice f k i] 120)):=(cf _ _).alloc (ce _) _
 by_cases b:l.got+4 <= l.sent
 ·have c:Hid (lend l=l.got+4):=by unfold Hid lend;rw [if_pos b]
  go_enter func156,ntmps156
  go_wp2;go_ret;exact ⟨by rw [c.out];rfl,a⟩
 ·have c:Hid (lend l=l.sent):=by unfold Hid lend;rw [if_neg b]
  go_enter func156,ntmps156
  go_wp2;go_ret;exact ⟨by rw [c.out];rfl,a⟩
theorem Zdz {e z:Int}{h:List Pc}{j:Nat}{x:Pc}(b:h[j]? = some x):Zby e z (h.drop j)=(decide (z < x.n) && (decide (x.n < e) && Zby e x.n (h.drop (j+1)))):=by
 obtain ⟨a,rfl⟩:=List.getElem?_eq_some_iff.1 b;rw [List.drop_eq_getElem_cons a];rfl
theorem ZeE {e z:Int}{h:List Pc}:Zby e z (h.drop h.length)=true:=by rw [List.drop_length];rfl
theorem Zd7 (N O:Value)(l:Lk)(w:World)(Q:0 <= l.got)(S:l.got <= l.sent)(T:l.sent <= 100000)(m:Option Addr)(B u:Nat)(P:N=.slice m B u)(R:PcRow w O l.h) :
  Calls prog 135 #[.agg #[.int .i64 l.sent,.int .i64 l.acked,N,.int .i64 l.got,O]] w fun e X=>e=.returned (.bool (Zby (lend l) l.got l.h))/\Below w.heap.size w X:=by
 subst P;obtain ⟨t,v,rfl,M,Z,hz,a⟩:=R;have y:Below w.heap.size w (w.alloc (Obj.cells #[.int .i64 l.sent,.int .i64 l.acked,.slice m B u,.int .i64 l.got,.slice t l.h.length v] 120)):=(cf _ _).alloc (ce _) _;have L:=fun w=>ZfT (.slice m B u) (.slice t l.h.length v) l w Q S T m B u rfl t l.h.length v rfl
 obtain ⟨r,D⟩:∃ r,Zby (lend l) l.got l.h=r:=⟨_,rfl⟩;rw [D];generalize lend l=E at L D;have H:Hid (Zby E l.got l.h=r):=D;clear D
 go_enter func135,ntmps135
 go_wp2_with fail
 go_region_with (go_at_call 156;refine (L _).mono ?_;rintro e k ⟨rfl,c⟩;have f:k.heap[w.heap.size]? = some (.cells #[.int .i64 l.sent,.int .i64 l.acked,.slice m B u,.int .i64 l.got,.slice t l.h.length v] 120 (0,0)):=(c.block _ (by simp)).trans (cg _ _);have I:k.cell? ⟨w.heap.size,0+3,none⟩=some (.int .i64 l.got):=by rw [cd k _ 3 _ _ _ f];rfl)
 all_goals
  have A:Below w.heap.size w k:=y.drew.trans (c.mono (by simp));have J:k.cell? ⟨w.heap.size,0+4,none⟩=some (.slice t l.h.length v):=by rw [cd k _ 4 _ _ _ f];rfl
  clear c;go_wp2
  go_loopw [3,14] (fun q i wr=>∃ (j:Nat) (z:Int),j <= l.h.length/\i=.int .i64 j/\q=.int .i64 z/\Hid (Zby E l.got l.h=Zby E z (l.h.drop j))/\Below w.heap.size w wr) (fun _ i _=>l.h.length - (intOf i).toNat)
  case atStart=>exact ⟨0,l.got,by omega,rfl,rfl,rfl,A⟩
  case round =>
   clear f I J A y;obtain ⟨j,z,Y,rfl,rfl,F,C⟩:=hrel
   by_cases d:j < l.h.length
   ·obtain ⟨g,o,rfl,U,a⟩:=a (by intro e;rw [e] at d;simp at d)
    obtain ⟨x,K⟩:∃ x,l.h[j]? = some x:=⟨l.h[j],by simp [d]⟩;obtain ⟨k0,k1⟩:=(a j x K).below C U;have G:Hid (Zby E l.got l.h=(decide (z < x.n) && (decide (x.n < E) && Zby E x.n (l.h.drop (j+1))))):=by unfold Hid;rw [F.out,Zdz K]
    clear a F K;have b:=C.alloc C.size (Obj.cells #[.int .i64 x.n,.string x.s] 122)
    by_cases V:x.n <= z
    ·go_wp2
     go_ret;exact ⟨retB (by rw [<- H.out,G.out,decide_eq_false (p:=z < x.n) (by omega)];rfl),b⟩
    ·by_cases W:E <= x.n
     ·go_wp2
      go_ret;exact ⟨retB (by rw [<- H.out,G.out,decide_eq_false (p:=x.n < E) (by omega),Bool.false_and,Bool.and_false]),b⟩
     ·go_wp2
      go_roundw
      case rel=>exact ⟨j+1,x.n,by omega,by go_num,rfl,by unfold Hid;rw [G.out,decide_eq_true (p:=z < x.n) (by omega),decide_eq_true (p:=x.n < E) (by omega),Bool.true_and,Bool.true_and],b⟩
      case measure=>simp [intOf];omega
   ·go_wp2
    go_ret;have:j=l.h.length:=by omega
    subst this;exact ⟨retB (by rw [<- H.out,F.out,ZeE]),C⟩
theorem ZbI (p s:Value)(l:Lk)(w:World)(i:StRow w p l.q)(j:PcRow w s l.h) :
  Calls prog 108 #[.agg #[.int .i64 l.sent,.int .i64 l.acked,p,.int .i64 l.got,s]] w fun e A=>e=.returned (.bool (Zbe l))/\Below w.heap.size w A:=by
 obtain ⟨k,m,rfl⟩:=i.small;obtain ⟨t,u,rfl⟩:=j.small;have C:=i.le;have a:Below w.heap.size w (w.alloc (Obj.cells #[.int .i64 l.sent,.int .i64 l.acked,.slice k l.q.length m,.int .i64 l.got,.slice t l.h.length u] 120)):=(cf _ _).alloc (ce _) _
 by_cases x:0 <= l.acked
 rotate_left
 ·have b:Hid (Zbe l=false):=ZaJ (by omega)
  go_enter func108,ntmps108
  go_wp2;go_ret;exact ⟨retB b.out.symm,a⟩
 by_cases y:l.acked <= l.got
 rotate_left
 ·have b:Hid (Zbe l=false):=ZaJ (by omega)
  go_enter func108,ntmps108
  go_wp2;go_ret;exact ⟨retB b.out.symm,a⟩
 by_cases n:l.got <= l.sent
 rotate_left
 ·have b:Hid (Zbe l=false):=ZaJ (by omega)
  go_enter func108,ntmps108
  go_wp2;go_ret;exact ⟨retB b.out.symm,a⟩
 by_cases o:l.sent <= 100000
 rotate_left
 ·have b:Hid (Zbe l=false):=ZaJ (by omega)
  go_enter func108,ntmps108
  go_wp2;go_ret;exact ⟨retB b.out.symm,a⟩
 by_cases c:(l.q.length:Int)=l.sent - l.acked
 rotate_left
 ·have b:Hid (Zbe l=false):=ZaJ (by omega)
  have v:((l.q.length:Int) == l.sent - l.acked)=false:=by simpa using c
  go_enter func108,ntmps108
  go_wp2;go_ret;exact ⟨retB b.out.symm,a⟩
 have v:((l.q.length:Int) == l.sent - l.acked)=true:=by simpa using c
 by_cases z:l.q.length <= 30
 rotate_left
 ·have b:Hid (Zbe l=false):=ZaJ (by omega)
  have g:¬ (l.q.length:Int) <= 30:=by omega
  have B:Hid ((l.q.length:Int)=l.sent - l.acked):=c;clear c
  go_enter func108,ntmps108
  go_wp2;go_ret;exact ⟨retB b.out.symm,a⟩
 have b:Hid (Zbe l=Zby (lend l) l.got l.h):=ZdD ⟨x,y,n,o,c,z⟩;have g:(l.q.length:Int) <= 30:=by omega
 clear c
 go_enter func108,ntmps108
 go_wp2_with fail;refine (Zd7 _ _ l _ (by omega) n o k l.q.length m rfl (j.below a)).mono ?_;rintro e D ⟨rfl,d⟩;have f:=a.trans (d.mono a.size);generalize Zby (lend l) l.got l.h=r at *;clear d a;cases r
 all_goals
  go_wp2;go_ret;exact ⟨retB b.out.symm,f⟩
theorem Zig (l:Lk)(w:World):Calls prog 123 #[.int .i64 (l.got+4),.int .i64 l.sent] w fun e a=>e=.returned (.int .i64 (lend l))/\a=w:=by
 refine (Zjt _ _ _).mono ?_;rintro e a ⟨rfl,rfl⟩;refine ⟨?_,rfl⟩;have:min (l.got+4) l.sent=lend l:=by unfold lend;split <;> omega
 rw [this]
theorem ZcE (x a b:Int)(r:Bool)(h:(decide (a <= x) && decide (x <= b))=r)(w:World):Calls prog 51 #[.int .i64 x,.int .i64 a,.int .i64 b] w fun e c=>e=.returned (.bool r)/\c=w:=by
 rw [<- h];exact Zao x a b w
theorem Zgm {x a b:Int}(h:a <= x/\x <= b):(decide (a <= x) && decide (x <= b))=true:=by simp [h.1,h.2]
theorem Zjp {x a b:Int}(h:¬ (a <= x/\x <= b)):(decide (a <= x) && decide (x <= b))=false:=by
 rw [Bool.eq_false_iff];intro e;simp only [Bool.and_eq_true,decide_eq_true_eq] at e;exact h e
theorem ZbM (v1 v2:Value)(l:Lk)(w:World)(R1:StRow w v1 l.q)(R2:PcRow w v2 l.h) :
  Calls prog 96 #[.agg #[.int .i64 l.sent,.int .i64 l.acked,v1,.int .i64 l.got,v2]] w fun e w'=>e=.returned (.bool (Zbe l))/\Below w.heap.size w w':=by
 obtain ⟨a1,c1,rfl⟩:=R1.small;have hq:=R1.le;obtain ⟨a2,c2,rfl,ah,hm,hz,a⟩:=R2;have d:Below w.heap.size w (w.alloc (Obj.cells #[.int .i64 l.sent,.int .i64 l.acked,.slice a1 l.q.length c1,.int .i64 l.got,.slice a2 l.h.length c2] 120)):=(cf _ _).alloc (ce _) _
 by_cases H:0 <= l.sent/\l.sent <= 100000
 rotate_left
 ·have c:Hid (Zbe l=false):=ZaJ (by omega)
  have y:=ZcE l.sent 0 100000 false (Zjp H)
  go_enter func96,ntmps96
  go_wp2_with fail;refine (y _).mono ?_;rintro e f ⟨rfl,rfl⟩;go_wp2;go_ret;exact ⟨retB c.out.symm,d⟩
 have y:=ZcE l.sent 0 100000 true (Zgm H)
 by_cases I:0 <= l.got/\l.got <= l.sent
 rotate_left
 ·have c:Hid (Zbe l=false):=ZaJ (by omega)
  have A:=ZcE l.got 0 l.sent false (Zjp I)
  go_enter func96,ntmps96
  go_wp2_with fail;refine (y _).mono ?_;rintro e f ⟨rfl,rfl⟩;go_wp2_with fail;refine (A _).mono ?_;rintro e f ⟨rfl,rfl⟩;go_wp2;go_ret;exact ⟨retB c.out.symm,d⟩
 have A:=ZcE l.got 0 l.sent true (Zgm I)
 by_cases D:0 <= l.acked/\l.acked <= l.got
 rotate_left
 ·have c:Hid (Zbe l=false):=ZaJ (by omega)
  have F:=ZcE l.acked 0 l.got false (Zjp D)
  go_enter func96,ntmps96
  go_wp2_with fail;refine (y _).mono ?_;rintro e f ⟨rfl,rfl⟩;go_wp2_with fail;refine (A _).mono ?_;rintro e f ⟨rfl,rfl⟩;go_wp2_with fail;refine (F _).mono ?_;rintro e f ⟨rfl,rfl⟩;go_wp2;go_ret;exact ⟨retB c.out.symm,d⟩
 have F:=ZcE l.acked 0 l.got true (Zgm D)
 by_cases i5:(l.q.length:Int)=l.sent - l.acked
 rotate_left
 ·have c:Hid (Zbe l=false):=ZaJ (by omega)
  have c5:((l.q.length:Int) != l.sent - l.acked)=true:=by simpa using i5
  go_enter func96,ntmps96
  go_wp2_with fail;refine (y _).mono ?_;rintro e f ⟨rfl,rfl⟩;go_wp2_with fail;refine (A _).mono ?_;rintro e f ⟨rfl,rfl⟩;go_wp2_with fail;refine (F _).mono ?_;rintro e f ⟨rfl,rfl⟩;obtain ⟨U,V⟩:=H;obtain ⟨W,X⟩:=I;obtain ⟨Y,Z⟩:=D;go_wp2;go_ret;exact ⟨retB c.out.symm,d⟩
 have c5:((l.q.length:Int) != l.sent - l.acked)=false:=by simpa using i5
 by_cases i6:l.q.length <= 30
 rotate_left
 ·have c:Hid (Zbe l=false):=ZaJ (by omega)
  have ag:30 < (l.q.length:Int):=by omega
  clear i5
  go_enter func96,ntmps96
  go_wp2_with fail;refine (y _).mono ?_;rintro e f ⟨rfl,rfl⟩;go_wp2_with fail;refine (A _).mono ?_;rintro e f ⟨rfl,rfl⟩;go_wp2_with fail;refine (F _).mono ?_;rintro e f ⟨rfl,rfl⟩;obtain ⟨U,V⟩:=H;obtain ⟨W,X⟩:=I;obtain ⟨Y,Z⟩:=D;go_wp2;go_ret;exact ⟨retB c.out.symm,d⟩
 have c:Hid (Zbe l=Zby (lend l) l.got l.h):=ZdD ⟨D.1,D.2,I.2,H.2,i5,i6⟩;have ag:¬ 30 < (l.q.length:Int):=by omega
 clear i5;obtain ⟨U,V⟩:=H;obtain ⟨W,X⟩:=I;obtain ⟨Y,Z⟩:=D;have K:=Zig l;have hE:0 <= lend l/\lend l <= 100000:=by unfold lend;split <;> omega
 obtain ⟨r,hr⟩:∃ r,Zbe l=r:=⟨_,rfl⟩;rw [hr];rw [hr] at c;clear hr;generalize lend l=E at K c hE;obtain ⟨ai,aj⟩:=hE;have W1:IntKind.i64.wrap (l.got+4)=l.got+4:=by rw [IntKind.wrap_i64];omega
 have W2:IntKind.i64.wrap (l.got+1)=l.got+1:=by rw [IntKind.wrap_i64];omega
 have W3:IntKind.i64.wrap (E - 1)=E - 1:=by rw [IntKind.wrap_i64];omega
 go_enter func96,ntmps96
 go_wp2_with fail;refine (y _).mono ?_;rintro e f ⟨rfl,rfl⟩;go_wp2_with fail;refine (A _).mono ?_;rintro e f ⟨rfl,rfl⟩;go_wp2_with fail;refine (F _).mono ?_;rintro e f ⟨rfl,rfl⟩;have k:=cg w (Obj.cells #[.int .i64 l.sent,.int .i64 l.acked,.slice a1 l.q.length c1,.int .i64 l.got,.slice a2 l.h.length c2] 120);generalize R:w.alloc (Obj.cells #[.int .i64 l.sent,.int .i64 l.acked,.slice a1 l.q.length c1,.int .i64 l.got,.slice a2 l.h.length c2] 120)=b at *;have L:b.cell? ⟨w.heap.size,0,none⟩=some (.int .i64 l.sent):=by rw [cd b _ 0 _ _ _ k];rfl
 have aa:b.cell? ⟨w.heap.size,0+1,none⟩=some (.int .i64 l.acked):=by rw [cd b _ 1 _ _ _ k];rfl
 have ab:b.cell? ⟨w.heap.size,0+2,none⟩=some (.slice a1 l.q.length c1):=by rw [cd b _ 2 _ _ _ k];rfl
 have M:b.cell? ⟨w.heap.size,0+3,none⟩=some (.int .i64 l.got):=by rw [cd b _ 3 _ _ _ k];rfl
 have N:b.cell? ⟨w.heap.size,0+4,none⟩=some (.slice a2 l.h.length c2):=by rw [cd b _ 4 _ _ _ k];rfl
 have HW:Hid (b.heap.size=w.heap.size+1):=by unfold Hid;rw [<- R];simp
 clear k R y A F;go_wp2
 go_loopw [3] (fun i wr=>∃ (j:Nat) (z:Int),j <= l.h.length/\i=.int .i64 j/\l.got <= z/\(j=0 -> z=l.got)/\Hid (∀ s,j=s+1 -> ∃ x,l.h[s]? = some x/\x.n=z)/\Hid (Zby E l.got l.h=Zby E z (l.h.drop j))/\Below b.heap.size b wr) (fun i _=>l.h.length - (intOf i).toNat)
 case atStart=>exact ⟨0,l.got,by omega,rfl,by omega,fun _=>rfl,fun s e=>by omega,rfl,cf _ _⟩
 case round =>
  obtain ⟨j,z,hj,rfl,ak,C,HJ,J,t⟩:=hrel;have v:w.heap.size < b.heap.size:=by have:=HW.out;omega
  have u:Below w.heap.size w wr:=d.trans (t.mono d.size);replace L:=(t.cell (p:=⟨w.heap.size,0,none⟩) v).trans L;replace M:=(t.cell (p:=⟨w.heap.size,0+3,none⟩) v).trans M;replace N:=(t.cell (p:=⟨w.heap.size,0+4,none⟩) v).trans N;clear aa ab;have dn:∀ m,Below b.heap.size b (wr.drewN m):=fun m=>t.trans ⟨rfl,rfl,rfl,ce _,fun _ _=>rfl⟩
  have dN:∀ m,Below w.heap.size w (wr.drewN m):=fun m=>u.trans ⟨rfl,rfl,rfl,ce _,fun _ _=>rfl⟩
  clear v
  by_cases B:j < l.h.length
  ·obtain ⟨g,o,rfl,hg,a⟩:=a (by intro e;rw [e] at B;simp at B)
   obtain ⟨x,G⟩:∃ x,l.h[j]? = some x:=⟨l.h[j],by simp [B]⟩;obtain ⟨k0,_⟩:=(a j x G).below u hg;have HC:Hid (Zby E l.got l.h=(decide (z < x.n) && (decide (x.n < E) && Zby E x.n (l.h.drop (j+1))))):=by unfold Hid;rw [J.out,Zdz G]
   have HX:Hid (l.h[j]? = some x):=G
   by_cases O:l.got+1 <= x.n/\x.n <= E - 1
   ·have LI:=ZcE x.n (l.got+1) (E - 1) true (Zgm O)
    by_cases Q:j=0
    ·have ao:=C Q
     subst Q;clear a J G;simp only [Nat.zero_mul,Nat.add_zero] at k0;have g0:(decide ((0:Int) < 0))=false:=by decide
     go_wp2
     go_quiet (first | (go_at_call 123;refine Calls.quiet_of_same (K _)) | (go_at_call 51;refine Calls.quiet_of_same (LI _)))
     go_wp2
     go_roundw
     case rel=>exact ⟨1,x.n,by omega,by go_num,by omega,fun e=>by omega,fun s e=>⟨x,by rw [<- HX.out];congr 1;omega,rfl⟩,by unfold Hid;rw [HC.out,decide_eq_true (p:=z < x.n) (by omega),decide_eq_true (p:=x.n < E) (by omega),Bool.true_and,Bool.true_and],dn _⟩
     case measure=>simp [intOf];omega
    ·obtain ⟨s,P⟩:∃ s,j=s+1:=⟨j - 1,by omega⟩
     obtain ⟨x',S,T⟩:=HJ.out s P;obtain ⟨d0,_⟩:=(a s x' S).below u hg;rw [T] at d0;have ac:(j:Int) - 1=(s:Int):=by omega
     have al:s < l.h.length:=by omega
     have ad:(0:Int) < (j:Int):=by omega
     have am:decide ((0:Int) < (j:Int))=true:=by simpa using ad
     have an:0 < j:=by omega
     have W4:IntKind.i64.wrap ((j:Int) - 1)=(s:Int):=by rw [ac,IntKind.wrap_i64];omega
     clear a J G HJ C S T P
     by_cases ae:x.n <= z
     ·go_wp2
      go_quiet (first | (go_at_call 123;refine Calls.quiet_of_same (K _)) | (go_at_call 51;refine Calls.quiet_of_same (LI _)))
      go_wp2;go_ret;exact ⟨retB (by rw [c.out,HC.out,decide_eq_false (p:=z < x.n) (by omega)];rfl),dN _⟩
     ·go_wp2
      go_quiet (first | (go_at_call 123;refine Calls.quiet_of_same (K _)) | (go_at_call 51;refine Calls.quiet_of_same (LI _)))
      go_wp2
      go_roundw
      case rel=>exact ⟨j+1,x.n,by omega,by go_num,by omega,fun e=>by omega,fun s e=>⟨x,by rw [<- HX.out];congr 1;omega,rfl⟩,by unfold Hid;rw [HC.out,decide_eq_true (p:=z < x.n) (by omega),decide_eq_true (p:=x.n < E) (by omega),Bool.true_and,Bool.true_and],dn _⟩
      case measure=>simp [intOf];omega
   ·have LI:=ZcE x.n (l.got+1) (E - 1) false (Zjp O)
    clear a J G HJ C;go_wp2
    go_quiet (first | (go_at_call 123;refine Calls.quiet_of_same (K _)) | (go_at_call 51;refine Calls.quiet_of_same (LI _)))
    go_wp2;go_ret;refine ⟨retB ?_,dN _⟩;rw [c.out,HC.out]
    by_cases af:z < x.n
    ·rw [decide_eq_false (p:=x.n < E) (by omega),Bool.false_and,Bool.and_false]
    ·rw [decide_eq_false af,Bool.false_and]
  ·go_wp2
   go_ret;have:j=l.h.length:=by omega
   subst this;exact ⟨retB (by rw [c.out,J.out,ZeE]),u⟩
end Go.Proofs.YtanhoamdlhaaeaaGreatDoor
