/-
  Texts that stood by themselves, laid into one.
-/
import Derived.Test.YtkpfangkfknhoaaGreatDoorWOkMM
import Derived.Test.YtkpfangkfknhoaaGreatDoorITdM
import Derived.Test.YtkpfangkfknhoaaGreatDoorWOkRM
/-
  Contracts of impl's homesFit, gramsFit, parkedFits. The variable errors.errorType reads as it is laid.
-/
set_option maxRecDepth 100000
set_option maxHeartbeats 6400000
namespace Go.Proofs.YtkpfangkfknhoaaGreatDoor
open Go.Proofs.Tryz
open Go.RowKit
def hmB (ns:List Nd)(is:List In)(ds:List Df)(pl:Int)(h:Hm):Bool:=hasP pl h.pl && Zbr ns is ds h.i h.xs h.m h.bx h.ox
theorem Zd8 (vn vi vf vh vl vg vp va vt:Value)(d:Wd)(B:Nat)(w:World)(R:WR B w vn vi vf vh vl vg vp va vt d) :
  Calls prog 93 #[.agg #[vn,vi,vf,.int .i64 d.pl,vh,vl,vg,vp,.int .i64 d.nx,va,vt]] w fun e w'=>e=.returned (.bool (decide (d.ps.length <= 20) && d.ps.all (pdB d.pl)))/\Below w.heap.size w w':=by
 have R0:=R;obtain ⟨⟨A,F,rfl⟩,⟨n,G,rfl⟩,⟨K,y,rfl⟩,⟨r,q,rfl⟩,⟨I,D,rfl⟩,⟨H,v,rfl⟩,⟨N,E,rfl⟩,⟨J,z,rfl⟩,⟨u,C,rfl⟩⟩:=R.form;have Q:=Zap w (Obj.cells #[.slice A d.ns.length F,.slice n d.is.length G,.slice K d.ds.length y,.int .i64 d.pl,.slice r d.hs.length q,.slice I d.ls.length D,.slice H d.gs.length v,.slice N d.ps.length E,.int .i64 d.nx,.slice J d.ga.length z,.slice u d.tk.length C] 50);have X:=co w (Obj.cells #[.slice A d.ns.length F,.slice n d.is.length G,.slice K d.ds.length y,.int .i64 d.pl,.slice r d.hs.length q,.slice I d.ls.length D,.slice H d.gs.length v,.slice N d.ps.length E,.int .i64 d.nx,.slice J d.ga.length z,.slice u d.tk.length C] 50)
 go_enter func93,ntmps93
 by_cases j:d.ps.length <= 20
 ·have HM:Hid ((decide (d.ps.length <= 20) && d.ps.all (pdB d.pl))=d.ps.all (pdB d.pl)):=by unfold Hid;simp [j]
  go_wp2_with fail;generalize w.alloc (Obj.cells #[.slice A d.ns.length F,.slice n d.is.length G,.slice K d.ds.length y,.int .i64 d.pl,.slice r d.hs.length q,.slice I d.ls.length D,.slice H d.gs.length v,.slice N d.ps.length E,.int .i64 d.nx,.slice J d.ga.length z,.slice u d.tk.length C] 50)=w0 at *;have ar:=Zao X;have R4:=R0.rp;obtain ⟨ao,au,hh,aq,hm,c⟩:=R4;simp only [Value.slice.injEq] at hh;obtain ⟨rfl,_,rfl⟩:=hh
  go_loopw [12] (fun i wr=>∃ k:Nat,k <= d.ps.length/\i=.int .i64 k/\Hid ((d.ps.take k).all (pdB d.pl)=true)/\Below w0.heap.size w0 wr) (fun i _=>d.ps.length - (intOf i).toNat)
  case atStart=>exact ⟨0,by omega,rfl,by simp [Hid],cj _ _⟩
  case round =>
   obtain ⟨k,hk,rfl,W,hb⟩:=hrel;have Y:=Q.trans (hb.mono Q.size);have hx:=Zaa X hb
   by_cases P:k < d.ps.length
   ·obtain ⟨g,o,rfl,_,hg,c⟩:=c (by intro e;rw [e] at P;simp at P)
    obtain ⟨x,L⟩:∃ x,d.ps[k]? = some x:=⟨d.ps[k],by simp [P]⟩;obtain ⟨cs,ai,Z,hE⟩:=c k x L;have m:Hid (d.ps[k]? = some x):=L;replace Z:=Zaf Z Y hg;obtain ⟨hc,_⟩:=hE;obtain rfl:cs=(#[.int .i64 x.p,.int .i64 x.t,.string x.s]:Array Value).toList:=congrArg Array.toList hc;clear hc;clear c L ai;have h:=Zap wr (Obj.cells #[.int .i64 x.p,.int .i64 x.t,.string x.s] 118);have O:(wr.alloc (Obj.cells #[.int .i64 x.p,.int .i64 x.t,.string x.s] 118)).heap[wr.heap.size]? = some (Obj.cells #[.int .i64 x.p,.int .i64 x.t,.string x.s] 118):=co _ _;have b:=Zaa hx h;have l:=Y.trans (h.mono Y.size);have f:=hb.trans (h.mono hb.size);obtain ⟨a,S⟩:∃ a,wr.alloc (Obj.cells #[.int .i64 x.p,.int .i64 x.t,.string x.s] 118)=a:=⟨_,rfl⟩;rw [S] at h O b l f;have U:a.cell? ⟨wr.heap.size,0,none⟩=some (.int .i64 x.p):=cd a _ 0 _ _ _ O
    have ak:a.cell? ⟨wr.heap.size,0+0,none⟩=some (.int .i64 x.p):=by rw [Nat.zero_add];exact U
    have al:a.cell? ⟨w.heap.size,0,none⟩=some (.slice A d.ns.length F):=cd a _ 0 _ _ _ b;have am:a.cell? ⟨w.heap.size,1,none⟩=some (.slice n d.is.length G):=cd a _ 1 _ _ _ b;have ad:a.cell? ⟨w.heap.size,2,none⟩=some (.slice K d.ds.length y):=cd a _ 2 _ _ _ b;have an:a.cell? ⟨w.heap.size,3,none⟩=some (.int .i64 d.pl):=cd a _ 3 _ _ _ b;have ah:a.cell? ⟨w.heap.size,4,none⟩=some (.slice r d.hs.length q):=cd a _ 4 _ _ _ b;have ag:a.cell? ⟨w.heap.size,5,none⟩=some (.slice I d.ls.length D):=cd a _ 5 _ _ _ b;have aj:a.cell? ⟨w.heap.size,6,none⟩=some (.slice H d.gs.length v):=cd a _ 6 _ _ _ b;have af:a.cell? ⟨w.heap.size,7,none⟩=some (.slice (some ⟨g,o,none⟩) d.ps.length E):=cd a _ 7 _ _ _ b;have ae:a.cell? ⟨w.heap.size,8,none⟩=some (.int .i64 d.nx):=cd a _ 8 _ _ _ b
    have ab:a.cell? ⟨w.heap.size,9,none⟩=some (.slice J d.ga.length z):=cd a _ 9 _ _ _ b;have V:a.cell? ⟨w.heap.size,10,none⟩=some (.slice u d.tk.length C):=cd a _ 10 _ _ _ b
    go_wp2_with (refine wpList_load_mid rfl 118 _ rfl g (o+k * 3) rfl _ _ Z underlying118 rfl (by kernel_rfl) ?_)
    clear S Z h U ak al am ad an ah ag aj af ae ab V;refine (ZbH _ _ _ _ _ _ _ _ _ d x.p _).mono ?_;rintro e w4 ⟨rfl,M⟩;have ap:=l.trans (M.mono l.size);have aa:=f.trans (M.mono f.size);clear M O b l f hx;have T:Hid (pdB d.pl x=hasP d.pl x.p):=rfl;cases hp:hasP d.pl x.p with
    | false =>
     have HF:pdB d.pl x=false:=by rw [T.out,hp]
     have HR:Hid (d.ps.all (pdB d.pl)=false):=Zay m.out HF;clear W m;go_wp2;go_ret;exact ⟨by rw [HM.out,HR.out];rfl,ap⟩
    | true =>
     have HF:pdB d.pl x=true:=by rw [T.out,hp]
     have ac:Hid ((d.ps.take (k+1)).all (pdB d.pl)=true):=Zbb W.out m.out HF;clear W m;go_wp2
     go_roundw
     case rel=>exact ⟨k+1,by omega,by go_num,ac,aa⟩
     case measure=>simp [intOf];omega
   ·have HR:Hid (d.ps.all (pdB d.pl)=true):=ZbI W.out (by omega)
    clear W c;go_wp2;go_ret;exact ⟨by rw [HM.out,HR.out];rfl,Y⟩
 ·have HM:Hid ((decide (d.ps.length <= 20) && d.ps.all (pdB d.pl))=false):=by unfold Hid;simp [j]
  go_wp2;go_ret;exact ⟨by rw [HM.out];rfl,Q⟩
theorem Zgm (vn vi vf vh vl vg vp va vt:Value)(d:Wd)(B:Nat)(w:World)(R:WR B w vn vi vf vh vl vg vp va vt d) :
  Calls prog 92 #[.agg #[vn,vi,vf,.int .i64 d.pl,vh,vl,vg,vp,.int .i64 d.nx,va,vt]] w fun e w'=>e=.returned (.bool (decide (d.gs.length <= 12) && d.gs.all (gmB d.pl)))/\Below w.heap.size w w':=by
 have R0:=R;obtain ⟨⟨K,O,rfl⟩,⟨y,P,rfl⟩,⟨T,H,rfl⟩,⟨C,A,rfl⟩,⟨Q,M,rfl⟩,⟨aj,E,rfl⟩,⟨z,N,rfl⟩,⟨S,I,rfl⟩,⟨D,L,rfl⟩⟩:=R.form;have ak:=Zap w (Obj.cells #[.slice K d.ns.length O,.slice y d.is.length P,.slice T d.ds.length H,.int .i64 d.pl,.slice C d.hs.length A,.slice Q d.ls.length M,.slice aj d.gs.length E,.slice z d.ps.length N,.int .i64 d.nx,.slice S d.ga.length I,.slice D d.tk.length L] 50);have an:=co w (Obj.cells #[.slice K d.ns.length O,.slice y d.is.length P,.slice T d.ds.length H,.int .i64 d.pl,.slice C d.hs.length A,.slice Q d.ls.length M,.slice aj d.gs.length E,.slice z d.ps.length N,.int .i64 d.nx,.slice S d.ga.length I,.slice D d.tk.length L] 50)
 go_enter func92,ntmps92
 by_cases F:d.gs.length <= 12
 ·have HM:Hid ((decide (d.gs.length <= 12) && d.gs.all (gmB d.pl))=d.gs.all (gmB d.pl)):=by unfold Hid;simp [F]
  go_wp2_with fail;generalize w.alloc (Obj.cells #[.slice K d.ns.length O,.slice y d.is.length P,.slice T d.ds.length H,.int .i64 d.pl,.slice C d.hs.length A,.slice Q d.ls.length M,.slice aj d.gs.length E,.slice z d.ps.length N,.int .i64 d.nx,.slice S d.ga.length I,.slice D d.tk.length L] 50)=w0 at *;have aB:=Zao an;have R4:=R0.rg;obtain ⟨ao,aC,hh,aA,hm,m⟩:=R4;simp only [Value.slice.injEq] at hh;obtain ⟨rfl,_,rfl⟩:=hh
  go_loopw [12] (fun i wr=>∃ k:Nat,k <= d.gs.length/\i=.int .i64 k/\Hid ((d.gs.take k).all (gmB d.pl)=true)/\Below w0.heap.size w0 wr) (fun i _=>d.gs.length - (intOf i).toNat)
  case atStart=>exact ⟨0,by omega,rfl,by simp [Hid],cj _ _⟩
  case round =>
   obtain ⟨k,hk,rfl,HK,hb⟩:=hrel;have hB:=ak.trans (hb.mono ak.size);have hx:=Zaa an hb
   by_cases ae:k < d.gs.length
   ·obtain ⟨g,o,rfl,_,hg,m⟩:=m (by intro e;rw [e] at ae;simp at ae)
    obtain ⟨x,V⟩:∃ x,d.gs[k]? = some x:=⟨d.gs[k],by simp [ae]⟩;obtain ⟨cs,ax,hr,hE⟩:=m k x V;have q:Hid (d.gs[k]? = some x):=V;replace hr:=Zaf hr hB hg;obtain ⟨hc,_⟩:=hE;obtain rfl:cs=(#[.int .i64 x.k,.int .i64 x.f,.int .i64 x.t,.int .i64 x.n,.string x.s]:Array Value).toList:=congrArg Array.toList hc;clear hc;clear m V ax;have v:=Zap wr (Obj.cells #[.int .i64 x.k,.int .i64 x.f,.int .i64 x.t,.int .i64 x.n,.string x.s] 116);have h:(wr.alloc (Obj.cells #[.int .i64 x.k,.int .i64 x.f,.int .i64 x.t,.int .i64 x.n,.string x.s] 116)).heap[wr.heap.size]? = some (Obj.cells #[.int .i64 x.k,.int .i64 x.f,.int .i64 x.t,.int .i64 x.n,.string x.s] 116):=co _ _;have a:=Zaa hx v;have j:=hB.trans (v.mono hB.size);have c:=hb.trans (v.mono hb.size)
    obtain ⟨l,al⟩:∃ l,wr.alloc (Obj.cells #[.int .i64 x.k,.int .i64 x.f,.int .i64 x.t,.int .i64 x.n,.string x.s] 116)=l:=⟨_,rfl⟩;rw [al] at v h a j c;have am:l.cell? ⟨wr.heap.size,1,none⟩=some (.int .i64 x.f):=cd l _ 1 _ _ _ h;have az:l.cell? ⟨wr.heap.size,0+1,none⟩=some (.int .i64 x.f):=by rw [Nat.zero_add];exact am
    have ag:l.cell? ⟨w.heap.size,0,none⟩=some (.slice K d.ns.length O):=cd l _ 0 _ _ _ a;have ah:l.cell? ⟨w.heap.size,1,none⟩=some (.slice y d.is.length P):=cd l _ 1 _ _ _ a;have Z:l.cell? ⟨w.heap.size,2,none⟩=some (.slice T d.ds.length H):=cd l _ 2 _ _ _ a;have ai:l.cell? ⟨w.heap.size,3,none⟩=some (.int .i64 d.pl):=cd l _ 3 _ _ _ a;have ad:l.cell? ⟨w.heap.size,4,none⟩=some (.slice C d.hs.length A):=cd l _ 4 _ _ _ a;have ac:l.cell? ⟨w.heap.size,5,none⟩=some (.slice Q d.ls.length M):=cd l _ 5 _ _ _ a;have af:l.cell? ⟨w.heap.size,6,none⟩=some (.slice (some ⟨g,o,none⟩) d.gs.length E):=cd l _ 6 _ _ _ a;have ab:l.cell? ⟨w.heap.size,7,none⟩=some (.slice z d.ps.length N):=cd l _ 7 _ _ _ a;have aa:l.cell? ⟨w.heap.size,8,none⟩=some (.int .i64 d.nx):=cd l _ 8 _ _ _ a
    have W:l.cell? ⟨w.heap.size,9,none⟩=some (.slice S d.ga.length I):=cd l _ 9 _ _ _ a;have J:l.cell? ⟨w.heap.size,10,none⟩=some (.slice D d.tk.length L):=cd l _ 10 _ _ _ a
    go_wp2_with (refine wpList_load_mid rfl 116 _ rfl g (o+k * 5) rfl _ _ hr underlying116 rfl (by kernel_rfl) ?_)
    clear al hr v am az ag ah Z ai ad ac af ab aa W J;refine (ZbH _ _ _ _ _ _ _ _ _ d x.f _).mono ?_;rintro e p ⟨rfl,u⟩;replace h:=Zaa h u;replace a:=Zaa a u;replace j:=j.trans (u.mono j.size);replace c:=c.trans (u.mono c.size);clear u;cases h1:hasP d.pl x.f with
    | false =>
     have HF:gmB d.pl x=false:=by unfold gmB;rw [h1];rfl
     have X:Hid (d.gs.all (gmB d.pl)=false):=Zay q.out HF;clear HK q;go_wp2;go_ret;exact ⟨by rw [HM.out,X.out];rfl,j⟩
    | true =>
     have kc:p.cell? ⟨wr.heap.size,0+2,none⟩=some (.int .i64 x.t):=cd _ _ 2 _ _ _ h;have ag:p.cell? ⟨w.heap.size,0,none⟩=some (.slice K d.ns.length O):=cd p _ 0 _ _ _ a;have ah:p.cell? ⟨w.heap.size,1,none⟩=some (.slice y d.is.length P):=cd p _ 1 _ _ _ a;have Z:p.cell? ⟨w.heap.size,2,none⟩=some (.slice T d.ds.length H):=cd p _ 2 _ _ _ a;have ai:p.cell? ⟨w.heap.size,3,none⟩=some (.int .i64 d.pl):=cd p _ 3 _ _ _ a;have ad:p.cell? ⟨w.heap.size,4,none⟩=some (.slice C d.hs.length A):=cd p _ 4 _ _ _ a;have ac:p.cell? ⟨w.heap.size,5,none⟩=some (.slice Q d.ls.length M):=cd p _ 5 _ _ _ a;have af:p.cell? ⟨w.heap.size,6,none⟩=some (.slice (some ⟨g,o,none⟩) d.gs.length E):=cd p _ 6 _ _ _ a;have ab:p.cell? ⟨w.heap.size,7,none⟩=some (.slice z d.ps.length N):=cd p _ 7 _ _ _ a
     have aa:p.cell? ⟨w.heap.size,8,none⟩=some (.int .i64 d.nx):=cd p _ 8 _ _ _ a;have W:p.cell? ⟨w.heap.size,9,none⟩=some (.slice S d.ga.length I):=cd p _ 9 _ _ _ a;have J:p.cell? ⟨w.heap.size,10,none⟩=some (.slice D d.tk.length L):=cd p _ 10 _ _ _ a;go_wp2_with fail;clear kc ag ah Z ai ad ac af ab aa W J;refine (ZbH _ _ _ _ _ _ _ _ _ d x.t _).mono ?_;rintro e U ⟨rfl,G⟩;replace h:=Zaa h G;replace a:=Zaa a G;replace j:=j.trans (G.mono j.size);replace c:=c.trans (G.mono c.size);clear G;cases h2:hasP d.pl x.t with
     | false =>
      have HF:gmB d.pl x=false:=by unfold gmB;rw [h1,h2];rfl
      have X:Hid (d.gs.all (gmB d.pl)=false):=Zay q.out HF;clear HK q;go_wp2;go_ret;exact ⟨by rw [HM.out,X.out];rfl,j⟩
     | true =>
      have au:U.cell? ⟨wr.heap.size,0,none⟩=some (.int .i64 x.k):=cd U _ 0 _ _ _ h;have av:U.cell? ⟨wr.heap.size,1,none⟩=some (.int .i64 x.f):=cd U _ 1 _ _ _ h;have aq:U.cell? ⟨wr.heap.size,2,none⟩=some (.int .i64 x.t):=cd U _ 2 _ _ _ h;have ay:U.cell? ⟨wr.heap.size,3,none⟩=some (.int .i64 x.n):=cd U _ 3 _ _ _ h;have aw:U.cell? ⟨wr.heap.size,4,none⟩=some (.string x.s):=cd U _ 4 _ _ _ h;go_wp2_with fail;clear au av aq ay aw;refine (Zg1 x _).mono ?_;rintro e w6 ⟨rfl,r⟩;replace h:=Zaa h r;replace a:=Zaa a r;replace j:=j.trans (r.mono j.size);replace c:=c.trans (r.mono c.size);clear r;have Y:Hid (gmB d.pl x=knB x):=by unfold Hid gmB;rw [h1,h2];simp
      obtain ⟨kb,ap⟩:∃ b,Hid (knB x=b):=⟨_,rfl⟩;rw [ap.out] at Y ⊢;clear ap;cases kb with
      | false =>
       have HF:gmB d.pl x=false:=Y.out;have X:Hid (d.gs.all (gmB d.pl)=false):=Zay q.out HF;clear HK q;go_wp2;go_ret;exact ⟨by rw [HM.out,X.out];rfl,j⟩
      | true =>
       have HF:gmB d.pl x=true:=Y.out;have ar:Hid ((d.gs.take (k+1)).all (gmB d.pl)=true):=Zbb HK.out q.out HF;clear HK q;go_wp2
       go_roundw
       case rel=>exact ⟨k+1,by omega,by go_num,ar,c⟩
       case measure=>simp [intOf];omega
   ·have X:Hid (d.gs.all (gmB d.pl)=true):=ZbI HK.out (by omega)
    clear HK m;go_wp2;go_ret;exact ⟨by rw [HM.out,X.out];rfl,hB⟩
 ·have HM:Hid ((decide (d.gs.length <= 12) && d.gs.all (gmB d.pl))=false):=by unfold Hid;simp [F]
  go_wp2;go_ret;exact ⟨by rw [HM.out];rfl,ak⟩
theorem Zfq (vn vi vf vh vl vg vp va vt:Value)(d:Wd)(B:Nat)(w:World)(R:WR B w vn vi vf vh vl vg vp va vt d)(am:∀ x ∈ d.hs,SmH x)(ak:ErrT w) :
  Calls prog 90 #[.agg #[vn,vi,vf,.int .i64 d.pl,vh,vl,vg,vp,.int .i64 d.nx,va,vt]] w fun e w'=>e=.returned (.bool (decide (d.hs.length <= 8) && d.hs.all (hmB d.ns d.is d.ds d.pl)))/\Below w.heap.size w w':=by
 have R0:=R;obtain ⟨⟨F,G,rfl⟩,⟨A,H,rfl⟩,⟨I,E,rfl⟩,⟨Y,L,rfl⟩,⟨U,Q,rfl⟩,⟨T,N,rfl⟩,⟨K,S,rfl⟩,⟨V,O,rfl⟩,⟨M,P,rfl⟩⟩:=R.form;have ac:=Zap w (Obj.cells #[.slice F d.ns.length G,.slice A d.is.length H,.slice I d.ds.length E,.int .i64 d.pl,.slice Y d.hs.length L,.slice U d.ls.length Q,.slice T d.gs.length N,.slice K d.ps.length S,.int .i64 d.nx,.slice V d.ga.length O,.slice M d.tk.length P] 50);have ah:=co w (Obj.cells #[.slice F d.ns.length G,.slice A d.is.length H,.slice I d.ds.length E,.int .i64 d.pl,.slice Y d.hs.length L,.slice U d.ls.length Q,.slice T d.gs.length N,.slice K d.ps.length S,.int .i64 d.nx,.slice V d.ga.length O,.slice M d.tk.length P] 50)
 go_enter func90,ntmps90
 by_cases C:d.hs.length <= 8
 ·have HM:Hid ((decide (d.hs.length <= 8) && d.hs.all (hmB d.ns d.is d.ds d.pl))=d.hs.all (hmB d.ns d.is d.ds d.pl)):=by unfold Hid;simp [C]
  go_wp2_with fail;generalize w.alloc (Obj.cells #[.slice F d.ns.length G,.slice A d.is.length H,.slice I d.ds.length E,.int .i64 d.pl,.slice Y d.hs.length L,.slice U d.ls.length Q,.slice T d.gs.length N,.slice K d.ps.length S,.int .i64 d.nx,.slice V d.ga.length O,.slice M d.tk.length P] 50)=w0 at *;have aL:=Zao ah;have R4:=R0.rh;obtain ⟨ao,aM,hh,aK,hm,n⟩:=R4;simp only [Value.slice.injEq] at hh;obtain ⟨rfl,_,rfl⟩:=hh
  go_loopw [12] (fun i wr=>∃ k:Nat,k <= d.hs.length/\i=.int .i64 k/\Hid ((d.hs.take k).all (hmB d.ns d.is d.ds d.pl)=true)/\Below w0.heap.size w0 wr) (fun i _=>d.hs.length - (intOf i).toNat)
  case atStart=>exact ⟨0,by omega,rfl,by simp [Hid],cj _ _⟩
  case round =>
   obtain ⟨k,hk,rfl,HK,hb⟩:=hrel;have hB:=ac.trans (hb.mono ac.size);have hx:=Zaa ah hb
   by_cases Z:k < d.hs.length
   ·obtain ⟨g,o,rfl,_,hg,n⟩:=n (by intro e;rw [e] at Z;simp at Z)
    obtain ⟨x,J⟩:∃ x,d.hs[k]? = some x:=⟨d.hs[k],by simp [Z]⟩;obtain ⟨cs,aB,hr,hE⟩:=n k x J;have u:Hid (d.hs[k]? = some x):=J;replace hr:=Zaf hr hB hg;obtain ⟨v1,v2,v3,hc,P1,P2,P3,_,_,_⟩:=hE;obtain ⟨p1,q1,rfl⟩:=P1.small8;obtain ⟨p2,q2,rfl⟩:=P2.small;obtain ⟨p3,q3,rfl⟩:=P3.small;obtain rfl:cs=(#[.int .i64 x.pl,.int .i64 x.i,.slice p1 x.xs.length q1,.int .i64 x.m.p,.int .i64 x.m.s,.int .i64 x.m.e,.int .i64 x.m.d,.int .i64 x.m.t,.int .i64 x.m.q,.int .i64 x.m.r,.slice p2 x.bx.length q2,.slice p3 x.ox.length q3]:Array Value).toList:=congrArg Array.toList hc;have aw:∀ y ∈ x.bx,y.size <= 140737488351232:=fun y hy=>Nat.le_trans ((am x (List.mem_of_getElem? J)).2.2.2 y hy) (by decide)
    clear hc;clear n J aB;have z:=Zap wr (Obj.cells #[.int .i64 x.pl,.int .i64 x.i,.slice p1 x.xs.length q1,.int .i64 x.m.p,.int .i64 x.m.s,.int .i64 x.m.e,.int .i64 x.m.d,.int .i64 x.m.t,.int .i64 x.m.q,.int .i64 x.m.r,.slice p2 x.bx.length q2,.slice p3 x.ox.length q3] 103);have c:(wr.alloc (Obj.cells #[.int .i64 x.pl,.int .i64 x.i,.slice p1 x.xs.length q1,.int .i64 x.m.p,.int .i64 x.m.s,.int .i64 x.m.e,.int .i64 x.m.d,.int .i64 x.m.t,.int .i64 x.m.q,.int .i64 x.m.r,.slice p2 x.bx.length q2,.slice p3 x.ox.length q3] 103)).heap[wr.heap.size]? = some (Obj.cells #[.int .i64 x.pl,.int .i64 x.i,.slice p1 x.xs.length q1,.int .i64 x.m.p,.int .i64 x.m.s,.int .i64 x.m.e,.int .i64 x.m.d,.int .i64 x.m.t,.int .i64 x.m.q,.int .i64 x.m.r,.slice p2 x.bx.length q2,.slice p3 x.ox.length q3] 103):=co _ _;have a:=Zaa hx z;have f:=hB.trans (z.mono hB.size)
    have l:=hb.trans (z.mono hb.size);obtain ⟨j,ad⟩:∃ j,wr.alloc (Obj.cells #[.int .i64 x.pl,.int .i64 x.i,.slice p1 x.xs.length q1,.int .i64 x.m.p,.int .i64 x.m.s,.int .i64 x.m.e,.int .i64 x.m.d,.int .i64 x.m.t,.int .i64 x.m.q,.int .i64 x.m.r,.slice p2 x.bx.length q2,.slice p3 x.ox.length q3] 103)=j:=⟨_,rfl⟩;rw [ad] at z c a f l;have ae:j.cell? ⟨wr.heap.size,0,none⟩=some (.int .i64 x.pl):=cd j _ 0 _ _ _ c;have aF:j.cell? ⟨wr.heap.size,0+0,none⟩=some (.int .i64 x.pl):=by rw [Nat.zero_add];exact ae
    have aa:j.cell? ⟨w.heap.size,0,none⟩=some (.slice F d.ns.length G):=cd j _ 0 _ _ _ a;have ab:j.cell? ⟨w.heap.size,1,none⟩=some (.slice A d.is.length H):=cd j _ 1 _ _ _ a;have X:j.cell? ⟨w.heap.size,2,none⟩=some (.slice I d.ds.length E):=cd j _ 2 _ _ _ a;have aH:j.cell? ⟨w.heap.size,3,none⟩=some (.int .i64 d.pl):=cd j _ 3 _ _ _ a;have az:j.cell? ⟨w.heap.size,4,none⟩=some (.slice (some ⟨g,o,none⟩) d.hs.length L):=cd j _ 4 _ _ _ a;have ay:j.cell? ⟨w.heap.size,5,none⟩=some (.slice U d.ls.length Q):=cd j _ 5 _ _ _ a;have aE:j.cell? ⟨w.heap.size,6,none⟩=some (.slice T d.gs.length N):=cd j _ 6 _ _ _ a;have au:j.cell? ⟨w.heap.size,7,none⟩=some (.slice K d.ps.length S):=cd j _ 7 _ _ _ a;have ap:j.cell? ⟨w.heap.size,8,none⟩=some (.int .i64 d.nx):=cd j _ 8 _ _ _ a
    have al:j.cell? ⟨w.heap.size,9,none⟩=some (.slice V d.ga.length O):=cd j _ 9 _ _ _ a;have af:j.cell? ⟨w.heap.size,10,none⟩=some (.slice M d.tk.length P):=cd j _ 10 _ _ _ a
    go_wp2_with (refine wpList_load_mid rfl 103 _ rfl g (o+k * 12) rfl _ _ hr underlying103 rfl (by kernel_rfl) ?_)
    clear ad hr z ae aF aa ab X aH az ay aE au ap al af;refine (ZbH _ _ _ _ _ _ _ _ _ d x.pl _).mono ?_;rintro e h ⟨rfl,v⟩;replace c:=Zaa c v;replace a:=Zaa a v;replace f:=f.trans (v.mono f.size);replace l:=l.trans (v.mono l.size);clear v;cases h1:hasP d.pl x.pl with
    | false =>
     have HF:hmB d.ns d.is d.ds d.pl x=false:=by unfold hmB;rw [h1];rfl
     have HR:Hid (d.hs.all (hmB d.ns d.is d.ds d.pl)=false):=Zay u.out HF;clear HK u;go_wp2;go_ret;exact ⟨by rw [HM.out,HR.out];rfl,f⟩
    | true =>
     have aJ:ErrT h:=ak.below f (ce _);have aa:h.cell? ⟨w.heap.size,0,none⟩=some (.slice F d.ns.length G):=cd h _ 0 _ _ _ a;have ab:h.cell? ⟨w.heap.size,1,none⟩=some (.slice A d.is.length H):=cd h _ 1 _ _ _ a;have X:h.cell? ⟨w.heap.size,2,none⟩=some (.slice I d.ds.length E):=cd h _ 2 _ _ _ a;have aq:h.cell? ⟨wr.heap.size,1,none⟩=some (.int .i64 x.i):=cd h _ 1 _ _ _ c;have aA:h.cell? ⟨wr.heap.size,2,none⟩=some (.slice p1 x.xs.length q1):=cd h _ 2 _ _ _ c;have aj:h.cell? ⟨wr.heap.size,3,none⟩=some (.int .i64 x.m.p):=cd h _ 3 _ _ _ c;have aI:h.cell? ⟨wr.heap.size,4,none⟩=some (.int .i64 x.m.s):=cd h _ 4 _ _ _ c;have aC:h.cell? ⟨wr.heap.size,5,none⟩=some (.int .i64 x.m.e):=cd h _ 5 _ _ _ c;have av:h.cell? ⟨wr.heap.size,6,none⟩=some (.int .i64 x.m.d):=cd h _ 6 _ _ _ c
     have aG:h.cell? ⟨wr.heap.size,7,none⟩=some (.int .i64 x.m.t):=cd h _ 7 _ _ _ c;have aD:h.cell? ⟨wr.heap.size,8,none⟩=some (.int .i64 x.m.q):=cd h _ 8 _ _ _ c;have ax:h.cell? ⟨wr.heap.size,9,none⟩=some (.int .i64 x.m.r):=cd h _ 9 _ _ _ c;have ar:h.cell? ⟨wr.heap.size,10,none⟩=some (.slice p2 x.bx.length q2):=cd h _ 10 _ _ _ c;have ag:h.cell? ⟨wr.heap.size,11,none⟩=some (.slice p3 x.ox.length q3):=cd h _ 11 _ _ _ c;go_wp2_with fail;clear aa ab X aq aA aj aI aC av aG aD ax ar ag;refine (ZdJ _ _ _ _ _ _ d.ns d.is d.ds x.i x.xs x.m x.bx x.ox _ (R0.rn.below f) (R0.ri.below f) (R0.rf.below f) (P1.below f) (P2.below f) (P3.below f) aw aJ).mono ?_;rintro e w5 ⟨rfl,D⟩;replace c:=Zaa c D;replace a:=Zaa a D;replace f:=f.trans (D.mono f.size);replace l:=l.trans (D.mono l.size);clear D
     have W:Hid (hmB d.ns d.is d.ds d.pl x=Zbr d.ns d.is d.ds x.i x.xs x.m x.bx x.ox):=by unfold Hid hmB;rw [h1];simp
     obtain ⟨kb,ai⟩:∃ b,Hid (Zbr d.ns d.is d.ds x.i x.xs x.m x.bx x.ox=b):=⟨_,rfl⟩;rw [ai.out] at W ⊢;clear ai;cases kb with
     | false =>
      have HF:hmB d.ns d.is d.ds d.pl x=false:=W.out;have HR:Hid (d.hs.all (hmB d.ns d.is d.ds d.pl)=false):=Zay u.out HF;clear HK u;go_wp2;go_ret;exact ⟨by rw [HM.out,HR.out];rfl,f⟩
     | true =>
      have HF:hmB d.ns d.is d.ds d.pl x=true:=W.out;have an:Hid ((d.hs.take (k+1)).all (hmB d.ns d.is d.ds d.pl)=true):=Zbb HK.out u.out HF;clear HK u;go_wp2
      go_roundw
      case rel=>exact ⟨k+1,by omega,by go_num,an,l⟩
      case measure=>simp [intOf];omega
   ·have HR:Hid (d.hs.all (hmB d.ns d.is d.ds d.pl)=true):=ZbI HK.out (by omega)
    clear HK n;go_wp2;go_ret;exact ⟨by rw [HM.out,HR.out];rfl,hB⟩
 ·have HM:Hid ((decide (d.hs.length <= 8) && d.hs.all (hmB d.ns d.is d.ds d.pl))=false):=by unfold Hid;simp [C]
  go_wp2;go_ret;exact ⟨by rw [HM.out];rfl,ac⟩
theorem ZeV (b a:Int):(decide (0 <= a) && decide (a <= b - 1))=hasP b a:=by
 unfold hasP
 congr 1
 rw [Bool.eq_iff_iff];simp;omega
theorem ZfV (vn vi vf vh vl vg vp va vt:Value)(d:Wd)(B:Nat)(w:World)(R:WR B w vn vi vf vh vl vg vp va vt d)(X:1 <= d.pl)(V:d.pl <= 3)(ac:∀ x ∈ d.hs,SmH x) :
  Calls prog 77 #[.agg #[vn,vi,vf,.int .i64 d.pl,vh,vl,vg,vp,.int .i64 d.nx,va,vt]] w fun e w'=>e=.returned (.bool (d.hs.all (hmB d.ns d.is d.ds d.pl) && decide (d.hs.length <= 8)))/\Below w.heap.size w w':=by
 have R0:=R;obtain ⟨⟨D,H,rfl⟩,⟨j,I,rfl⟩,⟨M,z,rfl⟩,⟨O,h,rfl⟩,⟨K,F,rfl⟩,⟨J,v,rfl⟩,⟨l,G,rfl⟩,⟨L,A,rfl⟩,⟨u,E,rfl⟩⟩:=R.form;have aa:=Zap w (Obj.cells #[.slice D d.ns.length H,.slice j d.is.length I,.slice M d.ds.length z,.int .i64 d.pl,.slice O d.hs.length h,.slice K d.ls.length F,.slice J d.gs.length v,.slice l d.ps.length G,.int .i64 d.nx,.slice L d.ga.length A,.slice u d.tk.length E] 50);have ag:=co w (Obj.cells #[.slice D d.ns.length H,.slice j d.is.length I,.slice M d.ds.length z,.int .i64 d.pl,.slice O d.hs.length h,.slice K d.ls.length F,.slice J d.gs.length v,.slice l d.ps.length G,.int .i64 d.nx,.slice L d.ga.length A,.slice u d.tk.length E] 50)
 go_enter func77,ntmps77
 go_wp2_with fail;generalize w.alloc (Obj.cells #[.slice D d.ns.length H,.slice j d.is.length I,.slice M d.ds.length z,.int .i64 d.pl,.slice O d.hs.length h,.slice K d.ls.length F,.slice J d.gs.length v,.slice l d.ps.length G,.int .i64 d.nx,.slice L d.ga.length A,.slice u d.tk.length E] 50)=w0 at *;obtain ⟨ao,ai,hh,ah,hm,a⟩:=R0.rh;simp only [Value.slice.injEq] at hh;obtain ⟨rfl,_,rfl⟩:=hh
 go_loopw [3] (fun i wr=>∃ k:Nat,k <= d.hs.length/\i=.int .i64 k/\Hid ((d.hs.take k).all (hmB d.ns d.is d.ds d.pl)=true)/\Below w0.heap.size w0 wr) (fun i _=>d.hs.length - (intOf i).toNat)
 case atStart=>exact ⟨0,by omega,rfl,by simp [Hid],cj _ _⟩
 case round =>
  obtain ⟨k,hk,rfl,U,hb⟩:=hrel;have c:=aa.trans (hb.mono aa.size);have hx:=Zaa ag hb;have kh:wr.cell? ⟨w.heap.size,0+4,none⟩=some (.slice O d.hs.length h):=cd _ _ 4 _ _ _ hx
  by_cases C:k < d.hs.length
  ·obtain ⟨g,o,rfl,_,hg,a⟩:=a (by intro e;rw [e] at C;simp at C)
   obtain ⟨x,N⟩:∃ x,d.hs[k]? = some x:=⟨d.hs[k],by simp [C]⟩;obtain ⟨cs,af,hr,v1,v2,v3,hc,P1,P2,P3,_,_,_⟩:=a k x N;obtain ⟨p1,q1,rfl⟩:=P1.small8;obtain ⟨p2,q2,rfl⟩:=P2.small;obtain ⟨p3,q3,rfl⟩:=P3.small;have f:Hid (d.hs[k]? = some x):=N;have ae:∀ y ∈ x.bx,y.size <= 140737488351232:=fun y hy=>Nat.le_trans ((ac x (List.mem_of_getElem? N)).2.2.2 y hy) (by decide)
   obtain rfl:cs=(#[.int .i64 x.pl,.int .i64 x.i,.slice p1 x.xs.length q1,.int .i64 x.m.p,.int .i64 x.m.s,.int .i64 x.m.e,.int .i64 x.m.d,.int .i64 x.m.t,.int .i64 x.m.q,.int .i64 x.m.r,.slice p2 x.bx.length q2,.slice p3 x.ox.length q3]:Array Value).toList:=congrArg Array.toList hc;replace hr:=Zaf hr c hg;have Y:=cy hg c.size;clear a N af hc;have P:=ZeV d.pl x.pl;go_wp2_with fail;clear kh;cases h1:hasP d.pl x.pl with
   | false =>
    rw [h1] at P;have HF:hmB d.ns d.is d.ds d.pl x=false:=by unfold hmB;rw [h1];rfl
    refine Zlb w.heap.size g o k D j M K J l L u H I z h F v G A E d x _ _ _ wr _ hx hr Y C X V P ?_;intro u11 u12 u13 u14 u15 u16 u17 u18 u19 u20 u21 u22 u23 u24 u25 u26 u27 u28 u29 u30 u31 u32 W n;have S:=c.trans (n.mono c.size);have T:Hid (d.hs.all (hmB d.ns d.is d.ds d.pl)=false):=Zay f.out HF;clear U f;go_wp2;go_ret;exact ⟨by rw [T.out];rfl,S⟩
   | true =>
    rw [h1] at P;have Q:Hid (hmB d.ns d.is d.ds d.pl x=Zbr d.ns d.is d.ds x.i x.xs x.m x.bx x.ox):=by unfold Hid hmB;rw [h1];simp
    have HC:=fun (W:World) (n:Below wr.heap.size wr W)=>Zd4 _ _ _ _ _ _ d.ns d.is d.ds x.i x.xs x.m x.bx x.ox W (R0.rn.below (c.trans (n.mono c.size))) (R0.ri.below (c.trans (n.mono c.size))) (R0.rf.below (c.trans (n.mono c.size))) (P1.below (c.trans (n.mono c.size))) (P2.below (c.trans (n.mono c.size))) (P3.below (c.trans (n.mono c.size))) ae
    obtain ⟨kb,Z⟩:∃ b,Zbr d.ns d.is d.ds x.i x.xs x.m x.bx x.ox=b:=⟨_,rfl⟩;rw [Z] at HC Q;clear Z;refine Zlk w.heap.size g o k D j M K J l L u H I z h F v G A E d x _ _ _ wr _ hx hr Y C X V P kb HC ?_;intro u11 u12 u13 u14 u15 u16 u17 u18 u19 u20 u21 u22 u23 u24 u25 u26 u27 u28 u29 u30 u31 u32 W n;have S:=c.trans (n.mono c.size);have ab:=hb.trans (n.mono hb.size);clear HC;cases kb with
    | false =>
     have HF:hmB d.ns d.is d.ds d.pl x=false:=Q.out;have T:Hid (d.hs.all (hmB d.ns d.is d.ds d.pl)=false):=Zay f.out HF;clear U f;go_wp2;go_ret;exact ⟨by rw [T.out];rfl,S⟩
    | true =>
     have HF:hmB d.ns d.is d.ds d.pl x=true:=Q.out;have ad:Hid ((d.hs.take (k+1)).all (hmB d.ns d.is d.ds d.pl)=true):=Zbb U.out f.out HF;clear U f;go_wp2
     go_roundw
     case rel=>exact ⟨k+1,by omega,by go_num,ad,ab⟩
     case measure=>simp [intOf];omega
  ·have T:Hid (d.hs.all (hmB d.ns d.is d.ds d.pl)=true):=ZbI U.out (by omega)
   clear U a
   by_cases h8:d.hs.length <= 8
   ·go_wp2
    go_ret;exact ⟨by rw [T.out];simp [h8] <;> omega,c⟩
   ·go_wp2
    go_ret;exact ⟨by rw [T.out];simp [h8] <;> omega,c⟩
theorem Zgn (vn vi vf vh vl vg vp va vt:Value)(d:Wd)(B:Nat)(w:World)(R:WR B w vn vi vf vh vl vg vp va vt d)(ap:1 <= d.pl)(an:d.pl <= 3) :
  Calls prog 79 #[.agg #[vn,vi,vf,.int .i64 d.pl,vh,vl,vg,vp,.int .i64 d.nx,va,vt]] w fun e w'=>e=.returned (.bool ((d.gs.all (gmB d.pl) && d.ps.all (pdB d.pl)) && (decide (d.gs.length <= 12) && decide (d.ps.length <= 20))))/\Below w.heap.size w w':=by
 have R0:=R;obtain ⟨⟨Q,U,rfl⟩,⟨J,V,rfl⟩,⟨ab,O,rfl⟩,⟨M,L,rfl⟩,⟨Y,T,rfl⟩,⟨C,z,rfl⟩,⟨K,H,rfl⟩,⟨aa,P,rfl⟩,⟨N,S,rfl⟩⟩:=R.form;have Z:=Zap w (Obj.cells #[.slice Q d.ns.length U,.slice J d.is.length V,.slice ab d.ds.length O,.int .i64 d.pl,.slice M d.hs.length L,.slice Y d.ls.length T,.slice C d.gs.length z,.slice K d.ps.length H,.int .i64 d.nx,.slice aa d.ga.length P,.slice N d.tk.length S] 50);have al:=co w (Obj.cells #[.slice Q d.ns.length U,.slice J d.is.length V,.slice ab d.ds.length O,.int .i64 d.pl,.slice M d.hs.length L,.slice Y d.ls.length T,.slice C d.gs.length z,.slice K d.ps.length H,.int .i64 d.nx,.slice aa d.ga.length P,.slice N d.tk.length S] 50)
 go_enter func79,ntmps79
 go_wp2_with fail;generalize w.alloc (Obj.cells #[.slice Q d.ns.length U,.slice J d.is.length V,.slice ab d.ds.length O,.int .i64 d.pl,.slice M d.hs.length L,.slice Y d.ls.length T,.slice C d.gs.length z,.slice K d.ps.length H,.int .i64 d.nx,.slice aa d.ga.length P,.slice N d.tk.length S] 50)=w0 at *;obtain ⟨ao,av,hh,aw,hm,c⟩:=R0.rg;simp only [Value.slice.injEq] at hh;obtain ⟨rfl,_,rfl⟩:=hh
 go_loopw [3] (fun i wr=>∃ k:Nat,k <= d.gs.length/\i=.int .i64 k/\Hid ((d.gs.take k).all (gmB d.pl)=true)/\Below w0.heap.size w0 wr) (fun i _=>d.gs.length - (intOf i).toNat)
 case atStart=>exact ⟨0,by omega,rfl,by simp [Hid],cj _ _⟩
 case round =>
  obtain ⟨k,hk,rfl,m,G⟩:=hrel;have D:=Z.trans (G.mono Z.size);have hx:=Zaa al G;have kh:wr.cell? ⟨w.heap.size,0+6,none⟩=some (.slice C d.gs.length z):=cd _ _ 6 _ _ _ hx
  by_cases l:k < d.gs.length
  ·obtain ⟨g,o,rfl,_,hg,c⟩:=c (by intro e;rw [e] at l;simp at l)
   obtain ⟨x,u⟩:∃ x,d.gs[k]? = some x:=⟨d.gs[k],by simp [l]⟩;obtain ⟨cs,ae,hr,hc,_⟩:=c k x u;have j:Hid (d.gs[k]? = some x):=u;obtain rfl:cs=(#[.int .i64 x.k,.int .i64 x.f,.int .i64 x.t,.int .i64 x.n,.string x.s]:Array Value).toList:=congrArg Array.toList hc;replace hr:=Zaf hr D hg;clear c u ae hc;have F:=Zap wr (Obj.cells #[.int .i64 x.k,.int .i64 x.f,.int .i64 x.t,.int .i64 x.n,.string x.s] 116);have A:(wr.alloc (Obj.cells #[.int .i64 x.k,.int .i64 x.f,.int .i64 x.t,.int .i64 x.n,.string x.s] 116)).heap[wr.heap.size]? = some (Obj.cells #[.int .i64 x.k,.int .i64 x.f,.int .i64 x.t,.int .i64 x.n,.string x.s] 116):=co _ _;have ah:=Zaa hx F;have y:=D.trans (F.mono D.size);have ad:=G.trans (F.mono G.size)
   have hE:Hid (gmB d.pl x=((hasP d.pl x.f && hasP d.pl x.t) && ((decide (0 <= x.n) && decide (x.n <= 100000)) && (decide (x.k=1) || (decide (x.k=2) && x.s.toList.isEmpty))))):=rfl;have f0:=ZeV d.pl x.f;have t0:=ZeV d.pl x.t;obtain ⟨I,ag⟩:∃ I,Hid (wr.alloc (Obj.cells #[.int .i64 x.k,.int .i64 x.f,.int .i64 x.t,.int .i64 x.n,.string x.s] 116)=I):=⟨_,rfl⟩
   go_wp2_with (refine wpList_load_mid rfl 116 _ rfl g (o+k * 5) rfl _ _ hr underlying116 rfl (by kernel_rfl) ?_)
   rw [ag.out] at F A ah y ad ⊢;clear ag hr F kh;have g1:I.cell? ⟨wr.heap.size,0+1,none⟩=some (.int .i64 x.f):=cd _ _ 1 _ _ _ A;have g2:I.cell? ⟨wr.heap.size,0+2,none⟩=some (.int .i64 x.t):=cd _ _ 2 _ _ _ A;have g3:I.cell? ⟨wr.heap.size,3,none⟩=some (.int .i64 x.n):=cd _ _ 3 _ _ _ A;have ay:I.cell? ⟨wr.heap.size,0+3,none⟩=some (.int .i64 x.n):=g3;have g4:I.cell? ⟨wr.heap.size,0+3+1,none⟩=some (.string x.s):=cd _ _ 4 _ _ _ A;have g0:I.cell? ⟨wr.heap.size,0,none⟩=some (.int .i64 x.k):=cd _ _ 0 _ _ _ A;have gp:I.cell? ⟨w.heap.size,0+3,none⟩=some (.int .i64 d.pl):=cd _ _ 3 _ _ _ ah;refine (Zas _ _ _ _).mono ?_;rintro e wE ⟨rfl,rfl⟩;cases af:(decide (1 <= x.k) && decide (x.k <= 2)) with
   | false =>
    have r:gmB d.pl x=false:=by rw [hE.out];have q:¬ (x.k=1)/\¬ (x.k=2):=(by simp at af;omega);simp [q.1,q.2]
    have v:Hid (d.gs.all (gmB d.pl)=false):=Zay j.out r;clear m j;go_wp2;go_ret;exact ⟨by rw [v.out];rfl,y⟩
   | true =>
    go_wp2_with fail;refine (Zas _ _ _ _).mono ?_;rintro e wE ⟨rfl,rfl⟩;rw [f0];cases hf:hasP d.pl x.f with
    | false =>
     have r:gmB d.pl x=false:=by rw [hE.out,hf];rfl
     have v:Hid (d.gs.all (gmB d.pl)=false):=Zay j.out r;clear m j;go_wp2;go_ret;exact ⟨by rw [v.out];rfl,y⟩
    | true =>
     go_wp2_with fail;refine (Zas _ _ _ _).mono ?_;rintro e wE ⟨rfl,rfl⟩;rw [t0];cases ht:hasP d.pl x.t with
     | false =>
      have r:gmB d.pl x=false:=by rw [hE.out,hf,ht];rfl
      have v:Hid (d.gs.all (gmB d.pl)=false):=Zay j.out r;clear m j;go_wp2;go_ret;exact ⟨by rw [v.out];rfl,y⟩
     | true =>
      go_wp2_with fail;refine (Zas _ _ _ _).mono ?_;rintro e wE ⟨rfl,rfl⟩;cases hn:(decide (0 <= x.n) && decide (x.n <= 100000)) with
      | false =>
       have r:gmB d.pl x=false:=by rw [hE.out,hf,ht,hn];rfl
       have v:Hid (d.gs.all (gmB d.pl)=false):=Zay j.out r;clear m j;go_wp2;go_ret;exact ⟨by rw [v.out];rfl,y⟩
      | true =>
       by_cases h2:x.k=2
       ·have e2:(x.k == 2)=true:=by simp [h2]
        cases hs:x.s.toList.isEmpty with
        | false =>
         have es:(x.s.toList != ([]:List UInt8))=true:=by cases h:x.s.toList with | nil=>rw [h] at hs;cases hs | cons a b=>rfl
         have r:gmB d.pl x=false:=by rw [hE.out,hf,ht,hn,hs];simp [h2]
         have v:Hid (d.gs.all (gmB d.pl)=false):=Zay j.out r;clear m j;go_wp2;go_ret;exact ⟨by rw [v.out];rfl,y⟩
        | true =>
         have es:(x.s.toList != ([]:List UInt8))=false:=by cases h:x.s.toList with | nil=>rfl | cons a b=>rw [h] at hs;cases hs
         have r:gmB d.pl x=true:=by rw [hE.out,hf,ht,hn,hs];simp [h2]
         have E:Hid ((d.gs.take (k+1)).all (gmB d.pl)=true):=Zbb m.out j.out r;clear m j;go_wp2
         go_roundw
         case rel=>exact ⟨k+1,by omega,by go_num,E,ad⟩
         case measure=>simp [intOf];omega
       ·have e2:(x.k == 2)=false:=by simp [h2]
        have r:gmB d.pl x=true:=by rw [hE.out,hf,ht,hn];simp at af;have:x.k=1:=(by omega);simp [this]
        have E:Hid ((d.gs.take (k+1)).all (gmB d.pl)=true):=Zbb m.out j.out r;clear m j;go_wp2
        go_roundw
        case rel=>exact ⟨k+1,by omega,by go_num,E,ad⟩
        case measure=>simp [intOf];omega
  ·have v:Hid (d.gs.all (gmB d.pl)=true):=ZbI m.out (by omega)
   clear m c;obtain ⟨ao,av,hh,ar,ax,c⟩:=R0.rp;simp only [Value.slice.injEq] at hh;obtain ⟨rfl,_,rfl⟩:=hh;go_wp2_with fail;clear kh
   go_loopw [5] (fun i wr=>∃ k:Nat,k <= d.ps.length/\i=.int .i64 k/\Hid ((d.ps.take k).all (pdB d.pl)=true)/\Below w0.heap.size w0 wr) (fun i _=>d.ps.length - (intOf i).toNat)
   case atStart=>exact ⟨0,by omega,rfl,by simp [Hid],G⟩
   case round =>
    clear hx G D;obtain ⟨k,hk,rfl,m,G⟩:=hrel;have D:=Z.trans (G.mono Z.size);have hx:=Zaa al G;have kp:wr.cell? ⟨w.heap.size,0+7,none⟩=some (.slice K d.ps.length H):=cd _ _ 7 _ _ _ hx;have kg:wr.cell? ⟨w.heap.size,0+6,none⟩=some (.slice C d.gs.length z):=cd _ _ 6 _ _ _ hx
    by_cases l:k < d.ps.length
    ·obtain ⟨g,o,rfl,_,hg,c⟩:=c (by intro e;rw [e] at l;simp at l)
     obtain ⟨x,u⟩:∃ x,d.ps[k]? = some x:=⟨d.ps[k],by simp [l]⟩;obtain ⟨cs,ae,hr,hc,_⟩:=c k x u;have j:Hid (d.ps[k]? = some x):=u;obtain rfl:cs=(#[.int .i64 x.p,.int .i64 x.t,.string x.s]:Array Value).toList:=congrArg Array.toList hc;replace hr:=Zaf hr D hg;have aq:=cy hg D.size;clear c u ae hc;have aj:=ZeV d.pl x.p;have ac:Hid (pdB d.pl x=hasP d.pl x.p):=rfl;go_wp2_with fail;clear kp kg;obtain ⟨pb,ai⟩:∃ b,hasP d.pl x.p=b:=⟨_,rfl⟩;rw [ai] at aj ac;clear ai;refine ZkJ w.heap.size g o k Q J ab M Y C aa N U V O L T z H P S d x wr _ hx hr aq l ap an pb aj ?_;intro u65 u66 u67 u68 u69 u70 u71 u72 u73 u74 W hW;have au:=D.trans (hW.mono D.size);have am:=G.trans (hW.mono G.size);cases pb with
     | false =>
      have r:pdB d.pl x=false:=ac.out;have HP:Hid (d.ps.all (pdB d.pl)=false):=Zay j.out r;clear m j;go_wp2;go_ret;exact ⟨by rw [v.out,HP.out];rfl,au⟩
     | true =>
      have r:pdB d.pl x=true:=ac.out;have E:Hid ((d.ps.take (k+1)).all (pdB d.pl)=true):=Zbb m.out j.out r;clear m j;go_wp2
      go_roundw
      case rel=>exact ⟨k+1,by omega,by go_num,E,am⟩
      case measure=>simp [intOf];omega
    ·have HP:Hid (d.ps.all (pdB d.pl)=true):=ZbI m.out (by omega)
     clear m c
     by_cases X:d.gs.length <= 12
     ·by_cases ak:d.ps.length <= 20
      ·go_wp2
       go_ret;exact ⟨by rw [v.out,HP.out];simp [X,ak] <;> omega,D⟩
      ·go_wp2
       go_ret;exact ⟨by rw [v.out,HP.out];simp [X,ak] <;> omega,D⟩
     ·go_wp2
      go_ret;exact ⟨by first | (rw [v.out,HP.out];simp [X] <;> omega) | rfl | (simp [X] <;> omega),D⟩
end Go.Proofs.YtkpfangkfknhoaaGreatDoor
