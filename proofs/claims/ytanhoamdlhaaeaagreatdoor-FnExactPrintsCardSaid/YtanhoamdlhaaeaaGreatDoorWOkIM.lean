/-
  Contracts of impl's homesFit, gramsFit, parkedFits. The variable errors.errorType reads as it is laid.
-/
import Derived.Test.YtanhoamdlhaaeaaGreatDoorWOkMM
import Derived.Test.YtanhoamdlhaaeaaGreatDoorPrOkSM
set_option maxRecDepth 100000
set_option maxHeartbeats 6400000
namespace Go.Proofs.YtanhoamdlhaaeaaGreatDoor
open Go.Proofs.Tryz
open Go.RowKit
def hmB (ns:List Nd)(is:List In)(ds:List Df)(pl:Int)(h:Hm):Bool:=hasP pl h.pl && Zei ns is ds h.i h.xs h.m h.bx h.ox
theorem Zdr (vn vi vf vh vl vg vp va vt:Value)(d:Wd)(B:Nat)(w:World)(R:WR B w vn vi vf vh vl vg vp va vt d) :
  Calls prog 71 #[.agg #[vn,vi,vf,.int .i64 d.pl,vh,vl,vg,vp,.int .i64 d.nx,va,vt]] w fun e w'=>e=.returned (.bool (decide (d.ps.length <= 20) && d.ps.all (pdB d.pl)))/\Below w.heap.size w w':=by
 have R0:=R;obtain ⟨⟨z,I,rfl⟩,⟨v,G,rfl⟩,⟨q,D,rfl⟩,⟨u,F,rfl⟩,⟨y,H,rfl⟩,⟨r,E,rfl⟩,⟨M,J,rfl⟩,⟨n,C,rfl⟩,⟨A,K,rfl⟩⟩:=R.form;have N:=Zaw w (Obj.cells #[.slice z d.ns.length I,.slice v d.is.length G,.slice q d.ds.length D,.int .i64 d.pl,.slice u d.hs.length F,.slice y d.ls.length H,.slice r d.gs.length E,.slice M d.ps.length J,.int .i64 d.nx,.slice n d.ga.length C,.slice A d.tk.length K] 51);have W:=cg w (Obj.cells #[.slice z d.ns.length I,.slice v d.is.length G,.slice q d.ds.length D,.int .i64 d.pl,.slice u d.hs.length F,.slice y d.ls.length H,.slice r d.gs.length E,.slice M d.ps.length J,.int .i64 d.nx,.slice n d.ga.length C,.slice A d.tk.length K] 51)
 go_enter func71,ntmps71
 by_cases l:d.ps.length <= 20
 ·have Z:Hid ((decide (d.ps.length <= 20) && d.ps.all (pdB d.pl))=d.ps.all (pdB d.pl)):=by unfold Hid;simp [l]
  go_wp2_with fail;generalize w.alloc (Obj.cells #[.slice z d.ns.length I,.slice v d.is.length G,.slice q d.ds.length D,.int .i64 d.pl,.slice u d.hs.length F,.slice y d.ls.length H,.slice r d.gs.length E,.slice M d.ps.length J,.int .i64 d.nx,.slice n d.ga.length C,.slice A d.tk.length K] 51)=w0 at *;have au:=ZbT W;have R4:=R0.rp;obtain ⟨ao,ar,hh,aq,hm,c⟩:=R4;simp only [Value.slice.injEq] at hh;obtain ⟨rfl,_,rfl⟩:=hh
  go_loopw [12] (fun i wr=>∃ k:Nat,k <= d.ps.length/\i=.int .i64 k/\Hid ((d.ps.take k).all (pdB d.pl)=true)/\Below w0.heap.size w0 wr) (fun i _=>d.ps.length - (intOf i).toNat)
  case atStart=>exact ⟨0,by omega,rfl,by simp [Hid],cf _ _⟩
  case round =>
   obtain ⟨k,hk,rfl,U,hb⟩:=hrel;have hB:=N.trans (hb.mono N.size);have hx:=Zaf W hb
   by_cases Q:k < d.ps.length
   ·obtain ⟨g,o,rfl,_,hg,c⟩:=c (by intro e;rw [e] at Q;simp at Q)
    obtain ⟨x,S⟩:∃ x,d.ps[k]? = some x:=⟨d.ps[k],by simp [Q]⟩;obtain ⟨cs,ad,hr,hE⟩:=c k x S;have m:Hid (d.ps[k]? = some x):=S;replace hr:=Zab hr hB hg;obtain ⟨hc,_⟩:=hE;obtain rfl:cs=(#[.int .i64 x.p,.int .i64 x.t,.string x.s]:Array Value).toList:=congrArg Array.toList hc;clear hc;clear c S ad;have j:=Zaw wr (Obj.cells #[.int .i64 x.p,.int .i64 x.t,.string x.s] 126);have P:(wr.alloc (Obj.cells #[.int .i64 x.p,.int .i64 x.t,.string x.s] 126)).heap[wr.heap.size]? = some (Obj.cells #[.int .i64 x.p,.int .i64 x.t,.string x.s] 126):=cg _ _;have b:=Zaf hx j;have L:=hB.trans (j.mono hB.size);have f:=hb.trans (j.mono hb.size);obtain ⟨a,V⟩:∃ a,wr.alloc (Obj.cells #[.int .i64 x.p,.int .i64 x.t,.string x.s] 126)=a:=⟨_,rfl⟩;rw [V] at j P b L f;have X:a.cell? ⟨wr.heap.size,0,none⟩=some (.int .i64 x.p):=cd a _ 0 _ _ _ P
    have ae:a.cell? ⟨wr.heap.size,0+0,none⟩=some (.int .i64 x.p):=by rw [Nat.zero_add];exact X
    have af:a.cell? ⟨w.heap.size,0,none⟩=some (.slice z d.ns.length I):=cd a _ 0 _ _ _ b;have ag:a.cell? ⟨w.heap.size,1,none⟩=some (.slice v d.is.length G):=cd a _ 1 _ _ _ b;have ah:a.cell? ⟨w.heap.size,2,none⟩=some (.slice q d.ds.length D):=cd a _ 2 _ _ _ b;have ai:a.cell? ⟨w.heap.size,3,none⟩=some (.int .i64 d.pl):=cd a _ 3 _ _ _ b;have aj:a.cell? ⟨w.heap.size,4,none⟩=some (.slice u d.hs.length F):=cd a _ 4 _ _ _ b;have ak:a.cell? ⟨w.heap.size,5,none⟩=some (.slice y d.ls.length H):=cd a _ 5 _ _ _ b;have al:a.cell? ⟨w.heap.size,6,none⟩=some (.slice r d.gs.length E):=cd a _ 6 _ _ _ b;have am:a.cell? ⟨w.heap.size,7,none⟩=some (.slice (some ⟨g,o,none⟩) d.ps.length J):=cd a _ 7 _ _ _ b;have an:a.cell? ⟨w.heap.size,8,none⟩=some (.int .i64 d.nx):=cd a _ 8 _ _ _ b
    have ap:a.cell? ⟨w.heap.size,9,none⟩=some (.slice n d.ga.length C):=cd a _ 9 _ _ _ b;have Y:a.cell? ⟨w.heap.size,10,none⟩=some (.slice A d.tk.length K):=cd a _ 10 _ _ _ b
    go_wp2_with (refine wpList_load_mid rfl 126 _ rfl g (o+k * 3) rfl _ _ hr underlying126 rfl (by kernel_rfl) ?_)
    clear V hr j X ae af ag ah ai aj ak al am an ap Y;refine (Zbu _ _ _ _ _ _ _ _ _ d x.p _).mono ?_;rintro e w4 ⟨rfl,O⟩;have ab:=L.trans (O.mono L.size);have ac:=f.trans (O.mono f.size);clear O P b L f hx;have T:Hid (pdB d.pl x=hasP d.pl x.p):=rfl;cases hp:hasP d.pl x.p with
    | false =>
     have HF:pdB d.pl x=false:=by rw [T.out,hp]
     have HR:Hid (d.ps.all (pdB d.pl)=false):=Zar m.out HF;clear U m;go_wp2;go_ret;exact ⟨by rw [Z.out,HR.out];rfl,ab⟩
    | true =>
     have HF:pdB d.pl x=true:=by rw [T.out,hp]
     have aa:Hid ((d.ps.take (k+1)).all (pdB d.pl)=true):=Za5 U.out m.out HF;clear U m;go_wp2
     go_roundw
     case rel=>exact ⟨k+1,by omega,by go_num,aa,ac⟩
     case measure=>simp [intOf];omega
   ·have HR:Hid (d.ps.all (pdB d.pl)=true):=Zbv U.out (by omega)
    clear U c;go_wp2;go_ret;exact ⟨by rw [Z.out,HR.out];rfl,hB⟩
 ·have Z:Hid ((decide (d.ps.length <= 20) && d.ps.all (pdB d.pl))=false):=by unfold Hid;simp [l]
  go_wp2;go_ret;exact ⟨by rw [Z.out];rfl,N⟩
theorem ZeD (vn vi vf vh vl vg vp va vt:Value)(d:Wd)(B:Nat)(w:World)(R:WR B w vn vi vf vh vl vg vp va vt d) :
  Calls prog 70 #[.agg #[vn,vi,vf,.int .i64 d.pl,vh,vl,vg,vp,.int .i64 d.nx,va,vt]] w fun e w'=>e=.returned (.bool (decide (d.gs.length <= 12) && d.gs.all (gmB d.pl)))/\Below w.heap.size w w':=by
 have R0:=R;obtain ⟨⟨C,L,rfl⟩,⟨z,J,rfl⟩,⟨v,G,rfl⟩,⟨y,I,rfl⟩,⟨A,K,rfl⟩,⟨aa,H,rfl⟩,⟨D,M,rfl⟩,⟨u,F,rfl⟩,⟨E,N,rfl⟩⟩:=R.form;have ab:=Zaw w (Obj.cells #[.slice C d.ns.length L,.slice z d.is.length J,.slice v d.ds.length G,.int .i64 d.pl,.slice y d.hs.length I,.slice A d.ls.length K,.slice aa d.gs.length H,.slice D d.ps.length M,.int .i64 d.nx,.slice u d.ga.length F,.slice E d.tk.length N] 51);have ar:=cg w (Obj.cells #[.slice C d.ns.length L,.slice z d.is.length J,.slice v d.ds.length G,.int .i64 d.pl,.slice y d.hs.length I,.slice A d.ls.length K,.slice aa d.gs.length H,.slice D d.ps.length M,.int .i64 d.nx,.slice u d.ga.length F,.slice E d.tk.length N] 51)
 go_enter func70,ntmps70
 by_cases T:d.gs.length <= 12
 ·have HM:Hid ((decide (d.gs.length <= 12) && d.gs.all (gmB d.pl))=d.gs.all (gmB d.pl)):=by unfold Hid;simp [T]
  go_wp2_with fail;generalize w.alloc (Obj.cells #[.slice C d.ns.length L,.slice z d.is.length J,.slice v d.ds.length G,.int .i64 d.pl,.slice y d.hs.length I,.slice A d.ls.length K,.slice aa d.gs.length H,.slice D d.ps.length M,.int .i64 d.nx,.slice u d.ga.length F,.slice E d.tk.length N] 51)=w0 at *;have aF:=ZbT ar;have R4:=R0.rg;obtain ⟨ao,aE,hh,aD,hm,p⟩:=R4;simp only [Value.slice.injEq] at hh;obtain ⟨rfl,_,rfl⟩:=hh
  go_loopw [12] (fun i wr=>∃ k:Nat,k <= d.gs.length/\i=.int .i64 k/\Hid ((d.gs.take k).all (gmB d.pl)=true)/\Below w0.heap.size w0 wr) (fun i _=>d.gs.length - (intOf i).toNat)
  case atStart=>exact ⟨0,by omega,rfl,by simp [Hid],cf _ _⟩
  case round =>
   obtain ⟨k,hk,rfl,Y,hb⟩:=hrel;have hB:=ab.trans (hb.mono ab.size);have hx:=Zaf ar hb
   by_cases ac:k < d.gs.length
   ·obtain ⟨g,o,rfl,_,hg,p⟩:=p (by intro e;rw [e] at ac;simp at ac)
    obtain ⟨x,ad⟩:∃ x,d.gs[k]? = some x:=⟨d.gs[k],by simp [ac]⟩;obtain ⟨cs,aw,hr,hE⟩:=p k x ad;have r:Hid (d.gs[k]? = some x):=ad;replace hr:=Zab hr hB hg;obtain ⟨hc,_⟩:=hE;obtain rfl:cs=(#[.int .i64 x.k,.int .i64 x.f,.int .i64 x.t,.int .i64 x.n,.string x.s]:Array Value).toList:=congrArg Array.toList hc;clear hc;clear p ad aw;have O:=Zaw wr (Obj.cells #[.int .i64 x.k,.int .i64 x.f,.int .i64 x.t,.int .i64 x.n,.string x.s] 124);have j:(wr.alloc (Obj.cells #[.int .i64 x.k,.int .i64 x.f,.int .i64 x.t,.int .i64 x.n,.string x.s] 124)).heap[wr.heap.size]? = some (Obj.cells #[.int .i64 x.k,.int .i64 x.f,.int .i64 x.t,.int .i64 x.n,.string x.s] 124):=cg _ _;have a:=Zaf hx O;have m:=hB.trans (O.mono hB.size);have c:=hb.trans (O.mono hb.size)
    obtain ⟨l,ap⟩:∃ l,wr.alloc (Obj.cells #[.int .i64 x.k,.int .i64 x.f,.int .i64 x.t,.int .i64 x.n,.string x.s] 124)=l:=⟨_,rfl⟩;rw [ap] at O j a m c;have au:l.cell? ⟨wr.heap.size,1,none⟩=some (.int .i64 x.f):=cd l _ 1 _ _ _ j;have aC:l.cell? ⟨wr.heap.size,0+1,none⟩=some (.int .i64 x.f):=by rw [Nat.zero_add];exact au
    have ae:l.cell? ⟨w.heap.size,0,none⟩=some (.slice C d.ns.length L):=cd l _ 0 _ _ _ a;have af:l.cell? ⟨w.heap.size,1,none⟩=some (.slice z d.is.length J):=cd l _ 1 _ _ _ a;have ag:l.cell? ⟨w.heap.size,2,none⟩=some (.slice v d.ds.length G):=cd l _ 2 _ _ _ a;have ah:l.cell? ⟨w.heap.size,3,none⟩=some (.int .i64 d.pl):=cd l _ 3 _ _ _ a;have ai:l.cell? ⟨w.heap.size,4,none⟩=some (.slice y d.hs.length I):=cd l _ 4 _ _ _ a;have aj:l.cell? ⟨w.heap.size,5,none⟩=some (.slice A d.ls.length K):=cd l _ 5 _ _ _ a;have ak:l.cell? ⟨w.heap.size,6,none⟩=some (.slice (some ⟨g,o,none⟩) d.gs.length H):=cd l _ 6 _ _ _ a;have al:l.cell? ⟨w.heap.size,7,none⟩=some (.slice D d.ps.length M):=cd l _ 7 _ _ _ a;have am:l.cell? ⟨w.heap.size,8,none⟩=some (.int .i64 d.nx):=cd l _ 8 _ _ _ a
    have an:l.cell? ⟨w.heap.size,9,none⟩=some (.slice u d.ga.length F):=cd l _ 9 _ _ _ a;have U:l.cell? ⟨w.heap.size,10,none⟩=some (.slice E d.tk.length N):=cd l _ 10 _ _ _ a
    go_wp2_with (refine wpList_load_mid rfl 124 _ rfl g (o+k * 5) rfl _ _ hr underlying124 rfl (by kernel_rfl) ?_)
    clear ap hr O au aC ae af ag ah ai aj ak al am an U;refine (Zbu _ _ _ _ _ _ _ _ _ d x.f _).mono ?_;rintro e q ⟨rfl,P⟩;replace j:=Zaf j P;replace a:=Zaf a P;replace m:=m.trans (P.mono m.size);replace c:=c.trans (P.mono c.size);clear P;cases h1:hasP d.pl x.f with
    | false =>
     have W:gmB d.pl x=false:=by unfold gmB;rw [h1];rfl
     have Z:Hid (d.gs.all (gmB d.pl)=false):=Zar r.out W;clear Y r;go_wp2;go_ret;exact ⟨by rw [HM.out,Z.out];rfl,m⟩
    | true =>
     have kc:q.cell? ⟨wr.heap.size,0+2,none⟩=some (.int .i64 x.t):=cd _ _ 2 _ _ _ j;have ae:q.cell? ⟨w.heap.size,0,none⟩=some (.slice C d.ns.length L):=cd q _ 0 _ _ _ a;have af:q.cell? ⟨w.heap.size,1,none⟩=some (.slice z d.is.length J):=cd q _ 1 _ _ _ a;have ag:q.cell? ⟨w.heap.size,2,none⟩=some (.slice v d.ds.length G):=cd q _ 2 _ _ _ a;have ah:q.cell? ⟨w.heap.size,3,none⟩=some (.int .i64 d.pl):=cd q _ 3 _ _ _ a;have ai:q.cell? ⟨w.heap.size,4,none⟩=some (.slice y d.hs.length I):=cd q _ 4 _ _ _ a;have aj:q.cell? ⟨w.heap.size,5,none⟩=some (.slice A d.ls.length K):=cd q _ 5 _ _ _ a;have ak:q.cell? ⟨w.heap.size,6,none⟩=some (.slice (some ⟨g,o,none⟩) d.gs.length H):=cd q _ 6 _ _ _ a;have al:q.cell? ⟨w.heap.size,7,none⟩=some (.slice D d.ps.length M):=cd q _ 7 _ _ _ a
     have am:q.cell? ⟨w.heap.size,8,none⟩=some (.int .i64 d.nx):=cd q _ 8 _ _ _ a;have an:q.cell? ⟨w.heap.size,9,none⟩=some (.slice u d.ga.length F):=cd q _ 9 _ _ _ a;have U:q.cell? ⟨w.heap.size,10,none⟩=some (.slice E d.tk.length N):=cd q _ 10 _ _ _ a;go_wp2_with fail;clear kc ae af ag ah ai aj ak al am an U;refine (Zbu _ _ _ _ _ _ _ _ _ d x.t _).mono ?_;rintro e V ⟨rfl,Q⟩;replace j:=Zaf j Q;replace a:=Zaf a Q;replace m:=m.trans (Q.mono m.size);replace c:=c.trans (Q.mono c.size);clear Q;cases h2:hasP d.pl x.t with
     | false =>
      have W:gmB d.pl x=false:=by unfold gmB;rw [h1,h2];rfl
      have Z:Hid (d.gs.all (gmB d.pl)=false):=Zar r.out W;clear Y r;go_wp2;go_ret;exact ⟨by rw [HM.out,Z.out];rfl,m⟩
     | true =>
      have ax:V.cell? ⟨wr.heap.size,0,none⟩=some (.int .i64 x.k):=cd V _ 0 _ _ _ j;have ay:V.cell? ⟨wr.heap.size,1,none⟩=some (.int .i64 x.f):=cd V _ 1 _ _ _ j;have az:V.cell? ⟨wr.heap.size,2,none⟩=some (.int .i64 x.t):=cd V _ 2 _ _ _ j;have aA:V.cell? ⟨wr.heap.size,3,none⟩=some (.int .i64 x.n):=cd V _ 3 _ _ _ j;have aB:V.cell? ⟨wr.heap.size,4,none⟩=some (.string x.s):=cd V _ 4 _ _ _ j;go_wp2_with fail;clear ax ay az aA aB;refine (ZfP x _).mono ?_;rintro e w6 ⟨rfl,S⟩;replace j:=Zaf j S;replace a:=Zaf a S;replace m:=m.trans (S.mono m.size);replace c:=c.trans (S.mono c.size);clear S;have X:Hid (gmB d.pl x=knB x):=by unfold Hid gmB;rw [h1,h2];simp
      obtain ⟨kb,aq⟩:∃ b,Hid (knB x=b):=⟨_,rfl⟩;rw [aq.out] at X ⊢;clear aq;cases kb with
      | false =>
       have W:gmB d.pl x=false:=X.out;have Z:Hid (d.gs.all (gmB d.pl)=false):=Zar r.out W;clear Y r;go_wp2;go_ret;exact ⟨by rw [HM.out,Z.out];rfl,m⟩
      | true =>
       have W:gmB d.pl x=true:=X.out;have av:Hid ((d.gs.take (k+1)).all (gmB d.pl)=true):=Za5 Y.out r.out W;clear Y r;go_wp2
       go_roundw
       case rel=>exact ⟨k+1,by omega,by go_num,av,c⟩
       case measure=>simp [intOf];omega
   ·have Z:Hid (d.gs.all (gmB d.pl)=true):=Zbv Y.out (by omega)
    clear Y p;go_wp2;go_ret;exact ⟨by rw [HM.out,Z.out];rfl,hB⟩
 ·have HM:Hid ((decide (d.gs.length <= 12) && d.gs.all (gmB d.pl))=false):=by unfold Hid;simp [T]
  go_wp2;go_ret;exact ⟨by rw [HM.out];rfl,ab⟩
theorem ZeH (vn vi vf vh vl vg vp va vt:Value)(d:Wd)(B:Nat)(w:World)(R:WR B w vn vi vf vh vl vg vp va vt d)(ap:∀ x ∈ d.hs,SmH x)(an:ErrT w) :
  Calls prog 68 #[.agg #[vn,vi,vf,.int .i64 d.pl,vh,vl,vg,vp,.int .i64 d.nx,va,vt]] w fun e w'=>e=.returned (.bool (decide (d.hs.length <= 8) && d.hs.all (hmB d.ns d.is d.ds d.pl)))/\Below w.heap.size w w':=by
 have R0:=R;obtain ⟨⟨C,F,rfl⟩,⟨A,E,rfl⟩,⟨z,D,rfl⟩,⟨Y,S,rfl⟩,⟨M,T,rfl⟩,⟨L,Q,rfl⟩,⟨N,U,rfl⟩,⟨K,P,rfl⟩,⟨O,V,rfl⟩⟩:=R.form;have Z:=Zaw w (Obj.cells #[.slice C d.ns.length F,.slice A d.is.length E,.slice z d.ds.length D,.int .i64 d.pl,.slice Y d.hs.length S,.slice M d.ls.length T,.slice L d.gs.length Q,.slice N d.ps.length U,.int .i64 d.nx,.slice K d.ga.length P,.slice O d.tk.length V] 51);have ag:=cg w (Obj.cells #[.slice C d.ns.length F,.slice A d.is.length E,.slice z d.ds.length D,.int .i64 d.pl,.slice Y d.hs.length S,.slice M d.ls.length T,.slice L d.gs.length Q,.slice N d.ps.length U,.int .i64 d.nx,.slice K d.ga.length P,.slice O d.tk.length V] 51)
 go_enter func68,ntmps68
 by_cases J:d.hs.length <= 8
 ·have HM:Hid ((decide (d.hs.length <= 8) && d.hs.all (hmB d.ns d.is d.ds d.pl))=d.hs.all (hmB d.ns d.is d.ds d.pl)):=by unfold Hid;simp [J]
  go_wp2_with fail;generalize w.alloc (Obj.cells #[.slice C d.ns.length F,.slice A d.is.length E,.slice z d.ds.length D,.int .i64 d.pl,.slice Y d.hs.length S,.slice M d.ls.length T,.slice L d.gs.length Q,.slice N d.ps.length U,.int .i64 d.nx,.slice K d.ga.length P,.slice O d.tk.length V] 51)=w0 at *;have aN:=ZbT ag;have R4:=R0.rh;obtain ⟨ao,aM,hh,aL,hm,u⟩:=R4;simp only [Value.slice.injEq] at hh;obtain ⟨rfl,_,rfl⟩:=hh
  go_loopw [12] (fun i wr=>∃ k:Nat,k <= d.hs.length/\i=.int .i64 k/\Hid ((d.hs.take k).all (hmB d.ns d.is d.ds d.pl)=true)/\Below w0.heap.size w0 wr) (fun i _=>d.hs.length - (intOf i).toNat)
  case atStart=>exact ⟨0,by omega,rfl,by simp [Hid],cf _ _⟩
  case round =>
   obtain ⟨k,hk,rfl,HK,hb⟩:=hrel;have hB:=Z.trans (hb.mono Z.size);have hx:=Zaf ag hb
   by_cases aa:k < d.hs.length
   ·obtain ⟨g,o,rfl,_,hg,u⟩:=u (by intro e;rw [e] at aa;simp at aa)
    obtain ⟨x,W⟩:∃ x,d.hs[k]? = some x:=⟨d.hs[k],by simp [aa]⟩;obtain ⟨cs,al,hr,hE⟩:=u k x W;have v:Hid (d.hs[k]? = some x):=W;replace hr:=Zab hr hB hg;obtain ⟨v1,v2,v3,hc,P1,P2,P3,_,_,_⟩:=hE;obtain ⟨p1,q1,rfl⟩:=P1.small8;obtain ⟨p2,q2,rfl⟩:=P2.small;obtain ⟨p3,q3,rfl⟩:=P3.small;obtain rfl:cs=(#[.int .i64 x.pl,.int .i64 x.i,.slice p1 x.xs.length q1,.int .i64 x.m.p,.int .i64 x.m.s,.int .i64 x.m.e,.int .i64 x.m.d,.int .i64 x.m.t,.int .i64 x.m.q,.int .i64 x.m.r,.slice p2 x.bx.length q2,.slice p3 x.ox.length q3]:Array Value).toList:=congrArg Array.toList hc;have aq:∀ y ∈ x.bx,y.size <= 140737488351232:=fun y hy=>Nat.le_trans ((ap x (List.mem_of_getElem? W)).2.2.2 y hy) (by decide)
    clear hc;clear u W al;have G:=Zaw wr (Obj.cells #[.int .i64 x.pl,.int .i64 x.i,.slice p1 x.xs.length q1,.int .i64 x.m.p,.int .i64 x.m.s,.int .i64 x.m.e,.int .i64 x.m.d,.int .i64 x.m.t,.int .i64 x.m.q,.int .i64 x.m.r,.slice p2 x.bx.length q2,.slice p3 x.ox.length q3] 70);have c:(wr.alloc (Obj.cells #[.int .i64 x.pl,.int .i64 x.i,.slice p1 x.xs.length q1,.int .i64 x.m.p,.int .i64 x.m.s,.int .i64 x.m.e,.int .i64 x.m.d,.int .i64 x.m.t,.int .i64 x.m.q,.int .i64 x.m.r,.slice p2 x.bx.length q2,.slice p3 x.ox.length q3] 70)).heap[wr.heap.size]? = some (Obj.cells #[.int .i64 x.pl,.int .i64 x.i,.slice p1 x.xs.length q1,.int .i64 x.m.p,.int .i64 x.m.s,.int .i64 x.m.e,.int .i64 x.m.d,.int .i64 x.m.t,.int .i64 x.m.q,.int .i64 x.m.r,.slice p2 x.bx.length q2,.slice p3 x.ox.length q3] 70):=cg _ _;have a:=Zaf hx G;have f:=hB.trans (G.mono hB.size)
    have n:=hb.trans (G.mono hb.size);obtain ⟨l,ae⟩:∃ l,wr.alloc (Obj.cells #[.int .i64 x.pl,.int .i64 x.i,.slice p1 x.xs.length q1,.int .i64 x.m.p,.int .i64 x.m.s,.int .i64 x.m.e,.int .i64 x.m.d,.int .i64 x.m.t,.int .i64 x.m.q,.int .i64 x.m.r,.slice p2 x.bx.length q2,.slice p3 x.ox.length q3] 70)=l:=⟨_,rfl⟩;rw [ae] at G c a f n;have ai:l.cell? ⟨wr.heap.size,0,none⟩=some (.int .i64 x.pl):=cd l _ 0 _ _ _ c;have aD:l.cell? ⟨wr.heap.size,0+0,none⟩=some (.int .i64 x.pl):=by rw [Nat.zero_add];exact ai
    have ab:l.cell? ⟨w.heap.size,0,none⟩=some (.slice C d.ns.length F):=cd l _ 0 _ _ _ a;have ac:l.cell? ⟨w.heap.size,1,none⟩=some (.slice A d.is.length E):=cd l _ 1 _ _ _ a;have ad:l.cell? ⟨w.heap.size,2,none⟩=some (.slice z d.ds.length D):=cd l _ 2 _ _ _ a;have aE:l.cell? ⟨w.heap.size,3,none⟩=some (.int .i64 d.pl):=cd l _ 3 _ _ _ a;have aF:l.cell? ⟨w.heap.size,4,none⟩=some (.slice (some ⟨g,o,none⟩) d.hs.length S):=cd l _ 4 _ _ _ a;have aG:l.cell? ⟨w.heap.size,5,none⟩=some (.slice M d.ls.length T):=cd l _ 5 _ _ _ a;have aH:l.cell? ⟨w.heap.size,6,none⟩=some (.slice L d.gs.length Q):=cd l _ 6 _ _ _ a;have aI:l.cell? ⟨w.heap.size,7,none⟩=some (.slice N d.ps.length U):=cd l _ 7 _ _ _ a;have aJ:l.cell? ⟨w.heap.size,8,none⟩=some (.int .i64 d.nx):=cd l _ 8 _ _ _ a
    have aK:l.cell? ⟨w.heap.size,9,none⟩=some (.slice K d.ga.length P):=cd l _ 9 _ _ _ a;have aj:l.cell? ⟨w.heap.size,10,none⟩=some (.slice O d.tk.length V):=cd l _ 10 _ _ _ a
    go_wp2_with (refine wpList_load_mid rfl 70 _ rfl g (o+k * 12) rfl _ _ hr underlying70 rfl (by kernel_rfl) ?_)
    clear ae hr G ai aD ab ac ad aE aF aG aH aI aJ aK aj;refine (Zbu _ _ _ _ _ _ _ _ _ d x.pl _).mono ?_;rintro e j ⟨rfl,H⟩;replace c:=Zaf c H;replace a:=Zaf a H;replace f:=f.trans (H.mono f.size);replace n:=n.trans (H.mono n.size);clear H;cases h1:hasP d.pl x.pl with
    | false =>
     have HF:hmB d.ns d.is d.ds d.pl x=false:=by unfold hmB;rw [h1];rfl
     have HR:Hid (d.hs.all (hmB d.ns d.is d.ds d.pl)=false):=Zar v.out HF;clear HK v;go_wp2;go_ret;exact ⟨by rw [HM.out,HR.out];rfl,f⟩
    | true =>
     have am:ErrT j:=an.below f (ce _);have ab:j.cell? ⟨w.heap.size,0,none⟩=some (.slice C d.ns.length F):=cd j _ 0 _ _ _ a;have ac:j.cell? ⟨w.heap.size,1,none⟩=some (.slice A d.is.length E):=cd j _ 1 _ _ _ a;have ad:j.cell? ⟨w.heap.size,2,none⟩=some (.slice z d.ds.length D):=cd j _ 2 _ _ _ a;have ar:j.cell? ⟨wr.heap.size,1,none⟩=some (.int .i64 x.i):=cd j _ 1 _ _ _ c;have au:j.cell? ⟨wr.heap.size,2,none⟩=some (.slice p1 x.xs.length q1):=cd j _ 2 _ _ _ c;have av:j.cell? ⟨wr.heap.size,3,none⟩=some (.int .i64 x.m.p):=cd j _ 3 _ _ _ c;have aw:j.cell? ⟨wr.heap.size,4,none⟩=some (.int .i64 x.m.s):=cd j _ 4 _ _ _ c;have ax:j.cell? ⟨wr.heap.size,5,none⟩=some (.int .i64 x.m.e):=cd j _ 5 _ _ _ c;have ay:j.cell? ⟨wr.heap.size,6,none⟩=some (.int .i64 x.m.d):=cd j _ 6 _ _ _ c
     have az:j.cell? ⟨wr.heap.size,7,none⟩=some (.int .i64 x.m.t):=cd j _ 7 _ _ _ c;have aA:j.cell? ⟨wr.heap.size,8,none⟩=some (.int .i64 x.m.q):=cd j _ 8 _ _ _ c;have aB:j.cell? ⟨wr.heap.size,9,none⟩=some (.int .i64 x.m.r):=cd j _ 9 _ _ _ c;have aC:j.cell? ⟨wr.heap.size,10,none⟩=some (.slice p2 x.bx.length q2):=cd j _ 10 _ _ _ c;have ah:j.cell? ⟨wr.heap.size,11,none⟩=some (.slice p3 x.ox.length q3):=cd j _ 11 _ _ _ c;go_wp2_with fail;clear ab ac ad ar au av aw ax ay az aA aB aC ah;refine (ZfN _ _ _ _ _ _ d.ns d.is d.ds x.i x.xs x.m x.bx x.ox _ (R0.rn.below f) (R0.ri.below f) (R0.rf.below f) (P1.below f) (P2.below f) (P3.below f) aq am).mono ?_;rintro e w5 ⟨rfl,I⟩;replace c:=Zaf c I;replace a:=Zaf a I;replace f:=f.trans (I.mono f.size);replace n:=n.trans (I.mono n.size);clear I
     have X:Hid (hmB d.ns d.is d.ds d.pl x=Zei d.ns d.is d.ds x.i x.xs x.m x.bx x.ox):=by unfold Hid hmB;rw [h1];simp
     obtain ⟨kb,af⟩:∃ b,Hid (Zei d.ns d.is d.ds x.i x.xs x.m x.bx x.ox=b):=⟨_,rfl⟩;rw [af.out] at X ⊢;clear af;cases kb with
     | false =>
      have HF:hmB d.ns d.is d.ds d.pl x=false:=X.out;have HR:Hid (d.hs.all (hmB d.ns d.is d.ds d.pl)=false):=Zar v.out HF;clear HK v;go_wp2;go_ret;exact ⟨by rw [HM.out,HR.out];rfl,f⟩
     | true =>
      have HF:hmB d.ns d.is d.ds d.pl x=true:=X.out;have ak:Hid ((d.hs.take (k+1)).all (hmB d.ns d.is d.ds d.pl)=true):=Za5 HK.out v.out HF;clear HK v;go_wp2
      go_roundw
      case rel=>exact ⟨k+1,by omega,by go_num,ak,n⟩
      case measure=>simp [intOf];omega
   ·have HR:Hid (d.hs.all (hmB d.ns d.is d.ds d.pl)=true):=Zbv HK.out (by omega)
    clear HK u;go_wp2;go_ret;exact ⟨by rw [HM.out,HR.out];rfl,hB⟩
 ·have HM:Hid ((decide (d.hs.length <= 8) && d.hs.all (hmB d.ns d.is d.ds d.pl))=false):=by unfold Hid;simp [J]
  go_wp2;go_ret;exact ⟨by rw [HM.out];rfl,Z⟩
end Go.Proofs.YtanhoamdlhaaeaaGreatDoor
