/-
  Texts that stood by themselves, laid into one.
-/
import Derived.Test.YtfeodlbpnghakaaGreatDoorWOkMM
import Derived.Test.YtfeodlbpnghakaaGreatDoorITdM
import Derived.Test.YtfeodlbpnghakaaGreatDoorWOkRM
/-
  Contracts of impl's homesFit, gramsFit, parkedFits. The variable errors.errorType reads as it is laid.
-/
set_option maxRecDepth 100000
set_option maxHeartbeats 6400000
namespace Go.Proofs.YtfeodlbpnghakaaGreatDoor
open Go.RowKit
def hmB (ns:List Nd)(is:List In)(ds:List Df)(pl:Int)(h:Hm):Bool:=hasP pl h.pl && Zbr ns is ds h.i h.xs h.m h.bx h.ox
theorem Zj3 (vn vi vf vh vl vg vp va vt:Value)(d:Wd)(B:Nat)(w:World)(R:WR B w vn vi vf vh vl vg vp va vt d) :
  Calls Tryz.prog 96 #[.agg #[vn,vi,vf,.int .i64 d.pl,vh,vl,vg,vp,.int .i64 d.nx,va,vt]] w fun e w'=>e=.returned (.bool (decide (d.ps.length <= 20) && d.ps.all (pdB d.pl)))/\Below w.heap.size w w':=by
 have R0:=R
 obtain ⟨⟨r,y,rfl⟩,⟨F,l,rfl⟩,⟨A,G,rfl⟩,⟨u,K,rfl⟩,⟨E,q,rfl⟩,⟨D,J,rfl⟩,⟨Q,H,rfl⟩,⟨m,I,rfl⟩,⟨z,n,rfl⟩⟩:=R.form
 have O:=Zap w (Obj.cells #[.slice r d.ns.length y,.slice F d.is.length l,.slice A d.ds.length G,.int .i64 d.pl,.slice u d.hs.length K,.slice E d.ls.length q,.slice D d.gs.length J,.slice Q d.ps.length H,.int .i64 d.nx,.slice m d.ga.length I,.slice z d.tk.length n] 50)
 have S:=heap_alloc_new w (Obj.cells #[.slice r d.ns.length y,.slice F d.is.length l,.slice A d.ds.length G,.int .i64 d.pl,.slice u d.hs.length K,.slice E d.ls.length q,.slice D d.gs.length J,.slice Q d.ps.length H,.int .i64 d.nx,.slice m d.ga.length I,.slice z d.tk.length n] 50)
 go_enter Tryz.func96,Tryz.ntmps96
 by_cases j:d.ps.length <= 20
 ·have HM:Hid ((decide (d.ps.length <= 20) && d.ps.all (pdB d.pl))=d.ps.all (pdB d.pl)):=by unfold Hid;simp [j]
  go_wp2_with fail
  generalize w.alloc (Obj.cells #[.slice r d.ns.length y,.slice F d.is.length l,.slice A d.ds.length G,.int .i64 d.pl,.slice u d.hs.length K,.slice E d.ls.length q,.slice D d.gs.length J,.slice Q d.ps.length H,.int .i64 d.nx,.slice m d.ga.length I,.slice z d.tk.length n] 50)=w0 at *
  have au:=Zao S
  have R4:=R0.rp
  obtain ⟨ao,ar,hh,aq,hm,c⟩:=R4
  simp only [Value.slice.injEq] at hh
  obtain ⟨rfl,_,rfl⟩:=hh
  go_loopw [12] (fun i wr=>∃ k:Nat,k <= d.ps.length/\i=.int .i64 k/\Hid ((d.ps.take k).all (pdB d.pl)=true)/\Below w0.heap.size w0 wr) (fun i _=>d.ps.length - (intOf i).toNat)
  case atStart=>exact ⟨0,by omega,rfl,by simp [Hid],Below.refl _ _⟩
  case round =>
   obtain ⟨k,hk,rfl,W,Z⟩:=hrel
   have hB:=O.trans (Z.mono O.size)
   have hx:=Zae S Z
   by_cases P:k < d.ps.length
   ·obtain ⟨g,o,rfl,_,hg,c⟩:=c (by intro e;rw [e] at P;simp at P)
    obtain ⟨x,L⟩:∃ x,d.ps[k]? = some x:=⟨d.ps[k],by simp [P]⟩
    obtain ⟨cs,ah,Y,hE⟩:=c k x L
    have C:Hid (d.ps[k]? = some x):=L
    replace Y:=Zaf Y hB hg
    obtain ⟨hc,_⟩:=hE
    obtain rfl:cs=(#[.int .i64 x.p,.int .i64 x.t,.string x.s]:Array Value).toList:=congrArg Array.toList hc
    clear hc
    clear c L ah
    have h:=Zap wr (Obj.cells #[.int .i64 x.p,.int .i64 x.t,.string x.s] 124)
    have N:(wr.alloc (Obj.cells #[.int .i64 x.p,.int .i64 x.t,.string x.s] 124)).heap[wr.heap.size]? = some (Obj.cells #[.int .i64 x.p,.int .i64 x.t,.string x.s] 124):=heap_alloc_new _ _
    have b:=Zae hx h
    have v:=hB.trans (h.mono hB.size)
    have f:=Z.trans (h.mono Z.size)
    obtain ⟨a,X⟩:∃ a,wr.alloc (Obj.cells #[.int .i64 x.p,.int .i64 x.t,.string x.s] 124)=a:=⟨_,rfl⟩
    rw [X] at h N b v f
    have U:a.cell? ⟨wr.heap.size,0,none⟩=some (.int .i64 x.p):=cell_of_row a _ 0 _ _ _ N
    have ai:a.cell? ⟨wr.heap.size,0+0,none⟩=some (.int .i64 x.p):=by rw [Nat.zero_add];exact U
    have an:a.cell? ⟨w.heap.size,0,none⟩=some (.slice r d.ns.length y):=cell_of_row a _ 0 _ _ _ b
    have af:a.cell? ⟨w.heap.size,1,none⟩=some (.slice F d.is.length l):=cell_of_row a _ 1 _ _ _ b
    have ab:a.cell? ⟨w.heap.size,2,none⟩=some (.slice A d.ds.length G):=cell_of_row a _ 2 _ _ _ b
    have am:a.cell? ⟨w.heap.size,3,none⟩=some (.int .i64 d.pl):=cell_of_row a _ 3 _ _ _ b
    have ak:a.cell? ⟨w.heap.size,4,none⟩=some (.slice u d.hs.length K):=cell_of_row a _ 4 _ _ _ b
    have ad:a.cell? ⟨w.heap.size,5,none⟩=some (.slice E d.ls.length q):=cell_of_row a _ 5 _ _ _ b
    have aa:a.cell? ⟨w.heap.size,6,none⟩=some (.slice D d.gs.length J):=cell_of_row a _ 6 _ _ _ b
    have ae:a.cell? ⟨w.heap.size,7,none⟩=some (.slice (some ⟨g,o,none⟩) d.ps.length H):=cell_of_row a _ 7 _ _ _ b
    have al:a.cell? ⟨w.heap.size,8,none⟩=some (.int .i64 d.nx):=cell_of_row a _ 8 _ _ _ b
    have ac:a.cell? ⟨w.heap.size,9,none⟩=some (.slice m d.ga.length I):=cell_of_row a _ 9 _ _ _ b
    have T:a.cell? ⟨w.heap.size,10,none⟩=some (.slice z d.tk.length n):=cell_of_row a _ 10 _ _ _ b
    go_wp2_with (refine wpList_load_mid rfl 124 _ rfl g (o+k * 3) rfl _ _ Y Tryz.underlying124 rfl (by kernel_rfl) ?_)
    clear X Y h U ai an af ab am ak ad aa ae al ac T
    refine (ZbE _ _ _ _ _ _ _ _ _ d x.p _).mono ?_
    rintro e w4 ⟨rfl,M⟩
    have ag:=v.trans (M.mono v.size)
    have ap:=f.trans (M.mono f.size)
    clear M N b v f hx
    have V:Hid (pdB d.pl x=hasP d.pl x.p):=rfl
    cases hp:hasP d.pl x.p with
    | false =>
     have HF:pdB d.pl x=false:=by rw [V.out,hp]
     have HR:Hid (d.ps.all (pdB d.pl)=false):=Zax C.out HF
     clear W C
     go_wp2
     go_ret
     exact ⟨by rw [HM.out,HR.out];rfl,ag⟩
    | true =>
     have HF:pdB d.pl x=true:=by rw [V.out,hp]
     have aj:Hid ((d.ps.take (k+1)).all (pdB d.pl)=true):=Za8 W.out C.out HF
     clear W C
     go_wp2
     go_roundw
     case rel=>exact ⟨k+1,by omega,by go_num,aj,ap⟩
     case measure=>simp [intOf];omega
   ·have HR:Hid (d.ps.all (pdB d.pl)=true):=ZbF W.out (by omega)
    clear W c
    go_wp2
    go_ret
    exact ⟨by rw [HM.out,HR.out];rfl,hB⟩
 ·have HM:Hid ((decide (d.ps.length <= 20) && d.ps.all (pdB d.pl))=false):=by unfold Hid;simp [j]
  go_wp2
  go_ret
  exact ⟨by rw [HM.out];rfl,O⟩
theorem Zlj (vn vi vf vh vl vg vp va vt:Value)(d:Wd)(B:Nat)(w:World)(R:WR B w vn vi vf vh vl vg vp va vt d) :
  Calls Tryz.prog 95 #[.agg #[vn,vi,vf,.int .i64 d.pl,vh,vl,vg,vp,.int .i64 d.nx,va,vt]] w fun e w'=>e=.returned (.bool (decide (d.gs.length <= 12) && d.gs.all (gmB d.pl)))/\Below w.heap.size w w':=by
 have R0:=R
 obtain ⟨⟨C,F,rfl⟩,⟨M,r,rfl⟩,⟨H,N,rfl⟩,⟨D,T,rfl⟩,⟨L,A,rfl⟩,⟨af,S,rfl⟩,⟨Q,O,rfl⟩,⟨v,P,rfl⟩,⟨G,y,rfl⟩⟩:=R.form
 have ai:=Zap w (Obj.cells #[.slice C d.ns.length F,.slice M d.is.length r,.slice H d.ds.length N,.int .i64 d.pl,.slice D d.hs.length T,.slice L d.ls.length A,.slice af d.gs.length S,.slice Q d.ps.length O,.int .i64 d.nx,.slice v d.ga.length P,.slice G d.tk.length y] 50)
 have al:=heap_alloc_new w (Obj.cells #[.slice C d.ns.length F,.slice M d.is.length r,.slice H d.ds.length N,.int .i64 d.pl,.slice D d.hs.length T,.slice L d.ls.length A,.slice af d.gs.length S,.slice Q d.ps.length O,.int .i64 d.nx,.slice v d.ga.length P,.slice G d.tk.length y] 50)
 go_enter Tryz.func95,Tryz.ntmps95
 by_cases K:d.gs.length <= 12
 ·have HM:Hid ((decide (d.gs.length <= 12) && d.gs.all (gmB d.pl))=d.gs.all (gmB d.pl)):=by unfold Hid;simp [K]
  go_wp2_with fail
  generalize w.alloc (Obj.cells #[.slice C d.ns.length F,.slice M d.is.length r,.slice H d.ds.length N,.int .i64 d.pl,.slice D d.hs.length T,.slice L d.ls.length A,.slice af d.gs.length S,.slice Q d.ps.length O,.int .i64 d.nx,.slice v d.ga.length P,.slice G d.tk.length y] 50)=w0 at *
  have aC:=Zao al
  have R4:=R0.rg
  obtain ⟨ao,aB,hh,aA,hm,m⟩:=R4
  simp only [Value.slice.injEq] at hh
  obtain ⟨rfl,_,rfl⟩:=hh
  go_loopw [12] (fun i wr=>∃ k:Nat,k <= d.gs.length/\i=.int .i64 k/\Hid ((d.gs.take k).all (gmB d.pl)=true)/\Below w0.heap.size w0 wr) (fun i _=>d.gs.length - (intOf i).toNat)
  case atStart=>exact ⟨0,by omega,rfl,by simp [Hid],Below.refl _ _⟩
  case round =>
   obtain ⟨k,hk,rfl,HK,hb⟩:=hrel
   have hB:=ai.trans (hb.mono ai.size)
   have hx:=Zae al hb
   by_cases ak:k < d.gs.length
   ·obtain ⟨g,o,rfl,_,hg,m⟩:=m (by intro e;rw [e] at ak;simp at ak)
    obtain ⟨x,ab⟩:∃ x,d.gs[k]? = some x:=⟨d.gs[k],by simp [ak]⟩
    obtain ⟨cs,av,hr,hE⟩:=m k x ab
    have q:Hid (d.gs[k]? = some x):=ab
    replace hr:=Zaf hr hB hg
    obtain ⟨hc,_⟩:=hE
    obtain rfl:cs=(#[.int .i64 x.k,.int .i64 x.f,.int .i64 x.t,.int .i64 x.n,.string x.s]:Array Value).toList:=congrArg Array.toList hc
    clear hc
    clear m ab av
    have I:=Zap wr (Obj.cells #[.int .i64 x.k,.int .i64 x.f,.int .i64 x.t,.int .i64 x.n,.string x.s] 122)
    have h:(wr.alloc (Obj.cells #[.int .i64 x.k,.int .i64 x.f,.int .i64 x.t,.int .i64 x.n,.string x.s] 122)).heap[wr.heap.size]? = some (Obj.cells #[.int .i64 x.k,.int .i64 x.f,.int .i64 x.t,.int .i64 x.n,.string x.s] 122):=heap_alloc_new _ _
    have a:=Zae hx I
    have j:=hB.trans (I.mono hB.size)
    have c:=hb.trans (I.mono hb.size)
    obtain ⟨l,ap⟩:∃ l,wr.alloc (Obj.cells #[.int .i64 x.k,.int .i64 x.f,.int .i64 x.t,.int .i64 x.n,.string x.s] 122)=l:=⟨_,rfl⟩
    rw [ap] at I h a j c
    have an:l.cell? ⟨wr.heap.size,1,none⟩=some (.int .i64 x.f):=cell_of_row l _ 1 _ _ _ h
    have aw:l.cell? ⟨wr.heap.size,0+1,none⟩=some (.int .i64 x.f):=by rw [Nat.zero_add];exact an
    have aj:l.cell? ⟨w.heap.size,0,none⟩=some (.slice C d.ns.length F):=cell_of_row l _ 0 _ _ _ a
    have ac:l.cell? ⟨w.heap.size,1,none⟩=some (.slice M d.is.length r):=cell_of_row l _ 1 _ _ _ a
    have W:l.cell? ⟨w.heap.size,2,none⟩=some (.slice H d.ds.length N):=cell_of_row l _ 2 _ _ _ a
    have ah:l.cell? ⟨w.heap.size,3,none⟩=some (.int .i64 d.pl):=cell_of_row l _ 3 _ _ _ a
    have ae:l.cell? ⟨w.heap.size,4,none⟩=some (.slice D d.hs.length T):=cell_of_row l _ 4 _ _ _ a
    have Y:l.cell? ⟨w.heap.size,5,none⟩=some (.slice L d.ls.length A):=cell_of_row l _ 5 _ _ _ a
    have V:l.cell? ⟨w.heap.size,6,none⟩=some (.slice (some ⟨g,o,none⟩) d.gs.length S):=cell_of_row l _ 6 _ _ _ a
    have aa:l.cell? ⟨w.heap.size,7,none⟩=some (.slice Q d.ps.length O):=cell_of_row l _ 7 _ _ _ a
    have ag:l.cell? ⟨w.heap.size,8,none⟩=some (.int .i64 d.nx):=cell_of_row l _ 8 _ _ _ a
    have X:l.cell? ⟨w.heap.size,9,none⟩=some (.slice v d.ga.length P):=cell_of_row l _ 9 _ _ _ a
    have u:l.cell? ⟨w.heap.size,10,none⟩=some (.slice G d.tk.length y):=cell_of_row l _ 10 _ _ _ a
    go_wp2_with (refine wpList_load_mid rfl 122 _ rfl g (o+k * 5) rfl _ _ hr Tryz.underlying122 rfl (by kernel_rfl) ?_)
    clear ap hr I an aw aj ac W ah ae Y V aa ag X u
    refine (ZbE _ _ _ _ _ _ _ _ _ d x.f _).mono ?_
    rintro e p ⟨rfl,J⟩
    replace h:=Zae h J
    replace a:=Zae a J
    replace j:=j.trans (J.mono j.size)
    replace c:=c.trans (J.mono c.size)
    clear J
    cases h1:hasP d.pl x.f with
    | false =>
     have HF:gmB d.pl x=false:=by unfold gmB;rw [h1];rfl
     have Z:Hid (d.gs.all (gmB d.pl)=false):=Zax q.out HF
     clear HK q
     go_wp2
     go_ret
     exact ⟨by rw [HM.out,Z.out];rfl,j⟩
    | true =>
     have kc:p.cell? ⟨wr.heap.size,0+2,none⟩=some (.int .i64 x.t):=cell_of_row _ _ 2 _ _ _ h
     have aj:p.cell? ⟨w.heap.size,0,none⟩=some (.slice C d.ns.length F):=cell_of_row p _ 0 _ _ _ a
     have ac:p.cell? ⟨w.heap.size,1,none⟩=some (.slice M d.is.length r):=cell_of_row p _ 1 _ _ _ a
     have W:p.cell? ⟨w.heap.size,2,none⟩=some (.slice H d.ds.length N):=cell_of_row p _ 2 _ _ _ a
     have ah:p.cell? ⟨w.heap.size,3,none⟩=some (.int .i64 d.pl):=cell_of_row p _ 3 _ _ _ a
     have ae:p.cell? ⟨w.heap.size,4,none⟩=some (.slice D d.hs.length T):=cell_of_row p _ 4 _ _ _ a
     have Y:p.cell? ⟨w.heap.size,5,none⟩=some (.slice L d.ls.length A):=cell_of_row p _ 5 _ _ _ a
     have V:p.cell? ⟨w.heap.size,6,none⟩=some (.slice (some ⟨g,o,none⟩) d.gs.length S):=cell_of_row p _ 6 _ _ _ a
     have aa:p.cell? ⟨w.heap.size,7,none⟩=some (.slice Q d.ps.length O):=cell_of_row p _ 7 _ _ _ a
     have ag:p.cell? ⟨w.heap.size,8,none⟩=some (.int .i64 d.nx):=cell_of_row p _ 8 _ _ _ a
     have X:p.cell? ⟨w.heap.size,9,none⟩=some (.slice v d.ga.length P):=cell_of_row p _ 9 _ _ _ a
     have u:p.cell? ⟨w.heap.size,10,none⟩=some (.slice G d.tk.length y):=cell_of_row p _ 10 _ _ _ a
     go_wp2_with fail
     clear kc aj ac W ah ae Y V aa ag X u
     refine (ZbE _ _ _ _ _ _ _ _ _ d x.t _).mono ?_
     rintro e U ⟨rfl,E⟩
     replace h:=Zae h E
     replace a:=Zae a E
     replace j:=j.trans (E.mono j.size)
     replace c:=c.trans (E.mono c.size)
     clear E
     cases h2:hasP d.pl x.t with
     | false =>
      have HF:gmB d.pl x=false:=by unfold gmB;rw [h1,h2];rfl
      have Z:Hid (d.gs.all (gmB d.pl)=false):=Zax q.out HF
      clear HK q
      go_wp2
      go_ret
      exact ⟨by rw [HM.out,Z.out];rfl,j⟩
     | true =>
      have ar:U.cell? ⟨wr.heap.size,0,none⟩=some (.int .i64 x.k):=cell_of_row U _ 0 _ _ _ h
      have az:U.cell? ⟨wr.heap.size,1,none⟩=some (.int .i64 x.f):=cell_of_row U _ 1 _ _ _ h
      have au:U.cell? ⟨wr.heap.size,2,none⟩=some (.int .i64 x.t):=cell_of_row U _ 2 _ _ _ h
      have aq:U.cell? ⟨wr.heap.size,3,none⟩=some (.int .i64 x.n):=cell_of_row U _ 3 _ _ _ h
      have ay:U.cell? ⟨wr.heap.size,4,none⟩=some (.string x.s):=cell_of_row U _ 4 _ _ _ h
      go_wp2_with fail
      clear ar az au aq ay
      refine (Zf9 x _).mono ?_
      rintro e w6 ⟨rfl,z⟩
      replace h:=Zae h z
      replace a:=Zae a z
      replace j:=j.trans (z.mono j.size)
      replace c:=c.trans (z.mono c.size)
      clear z
      have ad:Hid (gmB d.pl x=knB x):=by unfold Hid gmB;rw [h1,h2];simp
      obtain ⟨kb,am⟩:∃ b,Hid (knB x=b):=⟨_,rfl⟩
      rw [am.out] at ad ⊢
      clear am
      cases kb with
      | false =>
       have HF:gmB d.pl x=false:=ad.out
       have Z:Hid (d.gs.all (gmB d.pl)=false):=Zax q.out HF
       clear HK q
       go_wp2
       go_ret
       exact ⟨by rw [HM.out,Z.out];rfl,j⟩
      | true =>
       have HF:gmB d.pl x=true:=ad.out
       have ax:Hid ((d.gs.take (k+1)).all (gmB d.pl)=true):=Za8 HK.out q.out HF
       clear HK q
       go_wp2
       go_roundw
       case rel=>exact ⟨k+1,by omega,by go_num,ax,c⟩
       case measure=>simp [intOf];omega
   ·have Z:Hid (d.gs.all (gmB d.pl)=true):=ZbF HK.out (by omega)
    clear HK m
    go_wp2
    go_ret
    exact ⟨by rw [HM.out,Z.out];rfl,hB⟩
 ·have HM:Hid ((decide (d.gs.length <= 12) && d.gs.all (gmB d.pl))=false):=by unfold Hid;simp [K]
  go_wp2
  go_ret
  exact ⟨by rw [HM.out];rfl,ai⟩
theorem Zle (vn vi vf vh vl vg vp va vt:Value)(d:Wd)(B:Nat)(w:World)(R:WR B w vn vi vf vh vl vg vp va vt d)(an:∀ x ∈ d.hs,SmH x)(aD:ErrT w) :
  Calls Tryz.prog 93 #[.agg #[vn,vi,vf,.int .i64 d.pl,vh,vl,vg,vp,.int .i64 d.nx,va,vt]] w fun e w'=>e=.returned (.bool (decide (d.hs.length <= 8) && d.hs.all (hmB d.ns d.is d.ds d.pl)))/\Below w.heap.size w w':=by
 have R0:=R
 obtain ⟨⟨z,C,rfl⟩,⟨H,v,rfl⟩,⟨D,I,rfl⟩,⟨X,V,rfl⟩,⟨P,L,rfl⟩,⟨O,U,rfl⟩,⟨T,Q,rfl⟩,⟨J,S,rfl⟩,⟨N,K,rfl⟩⟩:=R.form
 have aa:=Zap w (Obj.cells #[.slice z d.ns.length C,.slice H d.is.length v,.slice D d.ds.length I,.int .i64 d.pl,.slice X d.hs.length V,.slice P d.ls.length L,.slice O d.gs.length U,.slice T d.ps.length Q,.int .i64 d.nx,.slice J d.ga.length S,.slice N d.tk.length K] 50)
 have ad:=heap_alloc_new w (Obj.cells #[.slice z d.ns.length C,.slice H d.is.length v,.slice D d.ds.length I,.int .i64 d.pl,.slice X d.hs.length V,.slice P d.ls.length L,.slice O d.gs.length U,.slice T d.ps.length Q,.int .i64 d.nx,.slice J d.ga.length S,.slice N d.tk.length K] 50)
 go_enter Tryz.func93,Tryz.ntmps93
 by_cases G:d.hs.length <= 8
 ·have HM:Hid ((decide (d.hs.length <= 8) && d.hs.all (hmB d.ns d.is d.ds d.pl))=d.hs.all (hmB d.ns d.is d.ds d.pl)):=by unfold Hid;simp [G]
  go_wp2_with fail
  generalize w.alloc (Obj.cells #[.slice z d.ns.length C,.slice H d.is.length v,.slice D d.ds.length I,.int .i64 d.pl,.slice X d.hs.length V,.slice P d.ls.length L,.slice O d.gs.length U,.slice T d.ps.length Q,.int .i64 d.nx,.slice J d.ga.length S,.slice N d.tk.length K] 50)=w0 at *
  have aM:=Zao ad
  have R4:=R0.rh
  obtain ⟨ao,aL,hh,aK,hm,n⟩:=R4
  simp only [Value.slice.injEq] at hh
  obtain ⟨rfl,_,rfl⟩:=hh
  go_loopw [12] (fun i wr=>∃ k:Nat,k <= d.hs.length/\i=.int .i64 k/\Hid ((d.hs.take k).all (hmB d.ns d.is d.ds d.pl)=true)/\Below w0.heap.size w0 wr) (fun i _=>d.hs.length - (intOf i).toNat)
  case atStart=>exact ⟨0,by omega,rfl,by simp [Hid],Below.refl _ _⟩
  case round =>
   obtain ⟨k,hk,rfl,HK,hb⟩:=hrel
   have hB:=aa.trans (hb.mono aa.size)
   have hx:=Zae ad hb
   by_cases ac:k < d.hs.length
   ·obtain ⟨g,o,rfl,_,hg,n⟩:=n (by intro e;rw [e] at ac;simp at ac)
    obtain ⟨x,M⟩:∃ x,d.hs[k]? = some x:=⟨d.hs[k],by simp [ac]⟩
    obtain ⟨cs,ax,hr,hE⟩:=n k x M
    have u:Hid (d.hs[k]? = some x):=M
    replace hr:=Zaf hr hB hg
    obtain ⟨v1,v2,v3,hc,P1,P2,P3,_,_,_⟩:=hE
    obtain ⟨p1,q1,rfl⟩:=P1.small8
    obtain ⟨p2,q2,rfl⟩:=P2.small
    obtain ⟨p3,q3,rfl⟩:=P3.small
    obtain rfl:cs=(#[.int .i64 x.pl,.int .i64 x.i,.slice p1 x.xs.length q1,.int .i64 x.m.p,.int .i64 x.m.s,.int .i64 x.m.e,.int .i64 x.m.d,.int .i64 x.m.t,.int .i64 x.m.q,.int .i64 x.m.r,.slice p2 x.bx.length q2,.slice p3 x.ox.length q3]:Array Value).toList:=congrArg Array.toList hc
    have aC:∀ y ∈ x.bx,y.size <= 140737488351232:=fun y hy=>Nat.le_trans ((an x (List.mem_of_getElem? M)).2.2.2 y hy) (by decide)
    clear hc
    clear n M ax
    have E:=Zap wr (Obj.cells #[.int .i64 x.pl,.int .i64 x.i,.slice p1 x.xs.length q1,.int .i64 x.m.p,.int .i64 x.m.s,.int .i64 x.m.e,.int .i64 x.m.d,.int .i64 x.m.t,.int .i64 x.m.q,.int .i64 x.m.r,.slice p2 x.bx.length q2,.slice p3 x.ox.length q3] 66)
    have c:(wr.alloc (Obj.cells #[.int .i64 x.pl,.int .i64 x.i,.slice p1 x.xs.length q1,.int .i64 x.m.p,.int .i64 x.m.s,.int .i64 x.m.e,.int .i64 x.m.d,.int .i64 x.m.t,.int .i64 x.m.q,.int .i64 x.m.r,.slice p2 x.bx.length q2,.slice p3 x.ox.length q3] 66)).heap[wr.heap.size]? = some (Obj.cells #[.int .i64 x.pl,.int .i64 x.i,.slice p1 x.xs.length q1,.int .i64 x.m.p,.int .i64 x.m.s,.int .i64 x.m.e,.int .i64 x.m.d,.int .i64 x.m.t,.int .i64 x.m.q,.int .i64 x.m.r,.slice p2 x.bx.length q2,.slice p3 x.ox.length q3] 66):=heap_alloc_new _ _
    have a:=Zae hx E
    have f:=hB.trans (E.mono hB.size)
    have l:=hb.trans (E.mono hb.size)
    obtain ⟨j,ah⟩:∃ j,wr.alloc (Obj.cells #[.int .i64 x.pl,.int .i64 x.i,.slice p1 x.xs.length q1,.int .i64 x.m.p,.int .i64 x.m.s,.int .i64 x.m.e,.int .i64 x.m.d,.int .i64 x.m.t,.int .i64 x.m.q,.int .i64 x.m.r,.slice p2 x.bx.length q2,.slice p3 x.ox.length q3] 66)=j:=⟨_,rfl⟩
    rw [ah] at E c a f l
    have ag:j.cell? ⟨wr.heap.size,0,none⟩=some (.int .i64 x.pl):=cell_of_row j _ 0 _ _ _ c
    have ay:j.cell? ⟨wr.heap.size,0+0,none⟩=some (.int .i64 x.pl):=by rw [Nat.zero_add];exact ag
    have ab:j.cell? ⟨w.heap.size,0,none⟩=some (.slice z d.ns.length C):=cell_of_row j _ 0 _ _ _ a
    have Y:j.cell? ⟨w.heap.size,1,none⟩=some (.slice H d.is.length v):=cell_of_row j _ 1 _ _ _ a
    have W:j.cell? ⟨w.heap.size,2,none⟩=some (.slice D d.ds.length I):=cell_of_row j _ 2 _ _ _ a
    have aF:j.cell? ⟨w.heap.size,3,none⟩=some (.int .i64 d.pl):=cell_of_row j _ 3 _ _ _ a
    have aB:j.cell? ⟨w.heap.size,4,none⟩=some (.slice (some ⟨g,o,none⟩) d.hs.length V):=cell_of_row j _ 4 _ _ _ a
    have ap:j.cell? ⟨w.heap.size,5,none⟩=some (.slice P d.ls.length L):=cell_of_row j _ 5 _ _ _ a
    have ak:j.cell? ⟨w.heap.size,6,none⟩=some (.slice O d.gs.length U):=cell_of_row j _ 6 _ _ _ a
    have av:j.cell? ⟨w.heap.size,7,none⟩=some (.slice T d.ps.length Q):=cell_of_row j _ 7 _ _ _ a
    have aE:j.cell? ⟨w.heap.size,8,none⟩=some (.int .i64 d.nx):=cell_of_row j _ 8 _ _ _ a
    have am:j.cell? ⟨w.heap.size,9,none⟩=some (.slice J d.ga.length S):=cell_of_row j _ 9 _ _ _ a
    have af:j.cell? ⟨w.heap.size,10,none⟩=some (.slice N d.tk.length K):=cell_of_row j _ 10 _ _ _ a
    go_wp2_with (refine wpList_load_mid rfl 66 _ rfl g (o+k * 12) rfl _ _ hr Tryz.underlying66 rfl (by kernel_rfl) ?_)
    clear ah hr E ag ay ab Y W aF aB ap ak av aE am af
    refine (ZbE _ _ _ _ _ _ _ _ _ d x.pl _).mono ?_
    rintro e h ⟨rfl,F⟩
    replace c:=Zae c F
    replace a:=Zae a F
    replace f:=f.trans (F.mono f.size)
    replace l:=l.trans (F.mono l.size)
    clear F
    cases h1:hasP d.pl x.pl with
    | false =>
     have HF:hmB d.ns d.is d.ds d.pl x=false:=by unfold hmB;rw [h1];rfl
     have HR:Hid (d.hs.all (hmB d.ns d.is d.ds d.pl)=false):=Zax u.out HF
     clear HK u
     go_wp2
     go_ret
     exact ⟨by rw [HM.out,HR.out];rfl,f⟩
    | true =>
     have aH:ErrT h:=aD.below f (Nat.le_refl _)
     have ab:h.cell? ⟨w.heap.size,0,none⟩=some (.slice z d.ns.length C):=cell_of_row h _ 0 _ _ _ a
     have Y:h.cell? ⟨w.heap.size,1,none⟩=some (.slice H d.is.length v):=cell_of_row h _ 1 _ _ _ a
     have W:h.cell? ⟨w.heap.size,2,none⟩=some (.slice D d.ds.length I):=cell_of_row h _ 2 _ _ _ a
     have al:h.cell? ⟨wr.heap.size,1,none⟩=some (.int .i64 x.i):=cell_of_row h _ 1 _ _ _ c
     have aJ:h.cell? ⟨wr.heap.size,2,none⟩=some (.slice p1 x.xs.length q1):=cell_of_row h _ 2 _ _ _ c
     have ar:h.cell? ⟨wr.heap.size,3,none⟩=some (.int .i64 x.m.p):=cell_of_row h _ 3 _ _ _ c
     have au:h.cell? ⟨wr.heap.size,4,none⟩=some (.int .i64 x.m.s):=cell_of_row h _ 4 _ _ _ c
     have aI:h.cell? ⟨wr.heap.size,5,none⟩=some (.int .i64 x.m.e):=cell_of_row h _ 5 _ _ _ c
     have aw:h.cell? ⟨wr.heap.size,6,none⟩=some (.int .i64 x.m.d):=cell_of_row h _ 6 _ _ _ c
     have aq:h.cell? ⟨wr.heap.size,7,none⟩=some (.int .i64 x.m.t):=cell_of_row h _ 7 _ _ _ c
     have aj:h.cell? ⟨wr.heap.size,8,none⟩=some (.int .i64 x.m.q):=cell_of_row h _ 8 _ _ _ c
     have az:h.cell? ⟨wr.heap.size,9,none⟩=some (.int .i64 x.m.r):=cell_of_row h _ 9 _ _ _ c
     have aG:h.cell? ⟨wr.heap.size,10,none⟩=some (.slice p2 x.bx.length q2):=cell_of_row h _ 10 _ _ _ c
     have ai:h.cell? ⟨wr.heap.size,11,none⟩=some (.slice p3 x.ox.length q3):=cell_of_row h _ 11 _ _ _ c
     go_wp2_with fail
     clear ab Y W al aJ ar au aI aw aq aj az aG ai
     refine (ZdE _ _ _ _ _ _ d.ns d.is d.ds x.i x.xs x.m x.bx x.ox _ (R0.rn.below f) (R0.ri.below f) (R0.rf.below f) (P1.below f) (P2.below f) (P3.below f) aC aH).mono ?_
     rintro e w5 ⟨rfl,A⟩
     replace c:=Zae c A
     replace a:=Zae a A
     replace f:=f.trans (A.mono f.size)
     replace l:=l.trans (A.mono l.size)
     clear A
     have Z:Hid (hmB d.ns d.is d.ds d.pl x=Zbr d.ns d.is d.ds x.i x.xs x.m x.bx x.ox):=by unfold Hid hmB;rw [h1];simp
     obtain ⟨kb,ae⟩:∃ b,Hid (Zbr d.ns d.is d.ds x.i x.xs x.m x.bx x.ox=b):=⟨_,rfl⟩
     rw [ae.out] at Z ⊢
     clear ae
     cases kb with
     | false =>
      have HF:hmB d.ns d.is d.ds d.pl x=false:=Z.out
      have HR:Hid (d.hs.all (hmB d.ns d.is d.ds d.pl)=false):=Zax u.out HF
      clear HK u
      go_wp2
      go_ret
      exact ⟨by rw [HM.out,HR.out];rfl,f⟩
     | true =>
      have HF:hmB d.ns d.is d.ds d.pl x=true:=Z.out
      have aA:Hid ((d.hs.take (k+1)).all (hmB d.ns d.is d.ds d.pl)=true):=Za8 HK.out u.out HF
      clear HK u
      go_wp2
      go_roundw
      case rel=>exact ⟨k+1,by omega,by go_num,aA,l⟩
      case measure=>simp [intOf];omega
   ·have HR:Hid (d.hs.all (hmB d.ns d.is d.ds d.pl)=true):=ZbF HK.out (by omega)
    clear HK n
    go_wp2
    go_ret
    exact ⟨by rw [HM.out,HR.out];rfl,hB⟩
 ·have HM:Hid ((decide (d.hs.length <= 8) && d.hs.all (hmB d.ns d.is d.ds d.pl))=false):=by unfold Hid;simp [G]
  go_wp2
  go_ret
  exact ⟨by rw [HM.out];rfl,aa⟩
theorem Ze3 (b a:Int):(decide (0 <= a) && decide (a <= b - 1))=hasP b a:=by
 unfold hasP
 congr 1
 rw [Bool.eq_iff_iff]
 simp
 omega
theorem Zlb (vn vi vf vh vl vg vp va vt:Value)(d:Wd)(B:Nat)(w:World)(R:WR B w vn vi vf vh vl vg vp va vt d)(Z:1 <= d.pl)(Y:d.pl <= 3)(ad:∀ x ∈ d.hs,SmH x) :
  Calls Tryz.prog 42 #[.agg #[vn,vi,vf,.int .i64 d.pl,vh,vl,vg,vp,.int .i64 d.nx,va,vt]] w fun e w'=>e=.returned (.bool (d.hs.all (hmB d.ns d.is d.ds d.pl) && decide (d.hs.length <= 8)))/\Below w.heap.size w w':=by
 have R0:=R
 obtain ⟨⟨z,A,rfl⟩,⟨G,j,rfl⟩,⟨D,H,rfl⟩,⟨N,h,rfl⟩,⟨F,v,rfl⟩,⟨E,M,rfl⟩,⟨L,I,rfl⟩,⟨l,J,rfl⟩,⟨C,n,rfl⟩⟩:=R.form
 have ab:=Zap w (Obj.cells #[.slice z d.ns.length A,.slice G d.is.length j,.slice D d.ds.length H,.int .i64 d.pl,.slice N d.hs.length h,.slice F d.ls.length v,.slice E d.gs.length M,.slice L d.ps.length I,.int .i64 d.nx,.slice l d.ga.length J,.slice C d.tk.length n] 50)
 have ac:=heap_alloc_new w (Obj.cells #[.slice z d.ns.length A,.slice G d.is.length j,.slice D d.ds.length H,.int .i64 d.pl,.slice N d.hs.length h,.slice F d.ls.length v,.slice E d.gs.length M,.slice L d.ps.length I,.int .i64 d.nx,.slice l d.ga.length J,.slice C d.tk.length n] 50)
 go_enter Tryz.func42,Tryz.ntmps42
 go_wp2_with fail
 generalize w.alloc (Obj.cells #[.slice z d.ns.length A,.slice G d.is.length j,.slice D d.ds.length H,.int .i64 d.pl,.slice N d.hs.length h,.slice F d.ls.length v,.slice E d.gs.length M,.slice L d.ps.length I,.int .i64 d.nx,.slice l d.ga.length J,.slice C d.tk.length n] 50)=w0 at *
 obtain ⟨ao,aj,hh,ai,hm,a⟩:=R0.rh
 simp only [Value.slice.injEq] at hh
 obtain ⟨rfl,_,rfl⟩:=hh
 go_loopw [3] (fun i wr=>∃ k:Nat,k <= d.hs.length/\i=.int .i64 k/\Hid ((d.hs.take k).all (hmB d.ns d.is d.ds d.pl)=true)/\Below w0.heap.size w0 wr) (fun i _=>d.hs.length - (intOf i).toNat)
 case atStart=>exact ⟨0,by omega,rfl,by simp [Hid],Below.refl _ _⟩
 case round =>
  obtain ⟨k,hk,rfl,U,hb⟩:=hrel
  have c:=ab.trans (hb.mono ab.size)
  have hx:=Zae ac hb
  have kh:wr.cell? ⟨w.heap.size,0+4,none⟩=some (.slice N d.hs.length h):=cell_of_row _ _ 4 _ _ _ hx
  by_cases K:k < d.hs.length
  ·obtain ⟨g,o,rfl,_,hg,a⟩:=a (by intro e;rw [e] at K;simp at K)
   obtain ⟨x,P⟩:∃ x,d.hs[k]? = some x:=⟨d.hs[k],by simp [K]⟩
   obtain ⟨cs,ae,hr,v1,v2,v3,hc,P1,P2,P3,_,_,_⟩:=a k x P
   obtain ⟨p1,q1,rfl⟩:=P1.small8
   obtain ⟨p2,q2,rfl⟩:=P2.small
   obtain ⟨p3,q3,rfl⟩:=P3.small
   have f:Hid (d.hs[k]? = some x):=P
   have ag:∀ y ∈ x.bx,y.size <= 140737488351232:=fun y hy=>Nat.le_trans ((ad x (List.mem_of_getElem? P)).2.2.2 y hy) (by decide)
   obtain rfl:cs=(#[.int .i64 x.pl,.int .i64 x.i,.slice p1 x.xs.length q1,.int .i64 x.m.p,.int .i64 x.m.s,.int .i64 x.m.e,.int .i64 x.m.d,.int .i64 x.m.t,.int .i64 x.m.q,.int .i64 x.m.r,.slice p2 x.bx.length q2,.slice p3 x.ox.length q3]:Array Value).toList:=congrArg Array.toList hc
   replace hr:=Zaf hr c hg
   have aa:=Nat.lt_of_lt_of_le hg c.size
   clear a P ae hc
   have O:=Ze3 d.pl x.pl
   go_wp2_with fail
   clear kh
   cases h1:hasP d.pl x.pl with
   | false =>
    rw [h1] at O
    have X:hmB d.ns d.is d.ds d.pl x=false:=by unfold hmB;rw [h1];rfl
    refine Zkx w.heap.size g o k z G D F E L l C A j H h v M I J n d x _ _ _ wr _ hx hr aa K Z Y O ?_
    intro u11 u12 u13 u14 u15 u16 u17 u18 u19 u20 u21 u22 u23 u24 u25 u26 u27 u28 u29 u30 u31 u32 W u
    have Q:=c.trans (u.mono c.size)
    have T:Hid (d.hs.all (hmB d.ns d.is d.ds d.pl)=false):=Zax f.out X
    clear U f
    go_wp2
    go_ret
    exact ⟨by rw [T.out];rfl,Q⟩
   | true =>
    rw [h1] at O
    have S:Hid (hmB d.ns d.is d.ds d.pl x=Zbr d.ns d.is d.ds x.i x.xs x.m x.bx x.ox):=by unfold Hid hmB;rw [h1];simp
    have HC:=fun (W:World) (u:Below wr.heap.size wr W)=>Zdy _ _ _ _ _ _ d.ns d.is d.ds x.i x.xs x.m x.bx x.ox W (R0.rn.below (c.trans (u.mono c.size))) (R0.ri.below (c.trans (u.mono c.size))) (R0.rf.below (c.trans (u.mono c.size))) (P1.below (c.trans (u.mono c.size))) (P2.below (c.trans (u.mono c.size))) (P3.below (c.trans (u.mono c.size))) ag
    obtain ⟨kb,V⟩:∃ b,Zbr d.ns d.is d.ds x.i x.xs x.m x.bx x.ox=b:=⟨_,rfl⟩
    rw [V] at HC S
    clear V
    refine Zkc w.heap.size g o k z G D F E L l C A j H h v M I J n d x _ _ _ wr _ hx hr aa K Z Y O kb HC ?_
    intro u11 u12 u13 u14 u15 u16 u17 u18 u19 u20 u21 u22 u23 u24 u25 u26 u27 u28 u29 u30 u31 u32 W u
    have Q:=c.trans (u.mono c.size)
    have ah:=hb.trans (u.mono hb.size)
    clear HC
    cases kb with
    | false =>
     have X:hmB d.ns d.is d.ds d.pl x=false:=S.out
     have T:Hid (d.hs.all (hmB d.ns d.is d.ds d.pl)=false):=Zax f.out X
     clear U f
     go_wp2
     go_ret
     exact ⟨by rw [T.out];rfl,Q⟩
    | true =>
     have X:hmB d.ns d.is d.ds d.pl x=true:=S.out
     have af:Hid ((d.hs.take (k+1)).all (hmB d.ns d.is d.ds d.pl)=true):=Za8 U.out f.out X
     clear U f
     go_wp2
     go_roundw
     case rel=>exact ⟨k+1,by omega,by go_num,af,ah⟩
     case measure=>simp [intOf];omega
  ·have T:Hid (d.hs.all (hmB d.ns d.is d.ds d.pl)=true):=ZbF U.out (by omega)
   clear U a
   by_cases h8:d.hs.length <= 8
   ·go_wp2
    go_ret
    exact ⟨by rw [T.out];simp [h8] <;> omega,c⟩
   ·go_wp2
    go_ret
    exact ⟨by rw [T.out];simp [h8] <;> omega,c⟩
theorem Zk9 (vn vi vf vh vl vg vp va vt:Value)(d:Wd)(B:Nat)(w:World)(R:WR B w vn vi vf vh vl vg vp va vt d)(ar:1 <= d.pl)(ap:d.pl <= 3) :
  Calls Tryz.prog 44 #[.agg #[vn,vi,vf,.int .i64 d.pl,vh,vl,vg,vp,.int .i64 d.nx,va,vt]] w fun e w'=>e=.returned (.bool ((d.gs.all (gmB d.pl) && d.ps.all (pdB d.pl)) && (decide (d.gs.length <= 12) && decide (d.ps.length <= 20))))/\Below w.heap.size w w':=by
 have R0:=R
 obtain ⟨⟨N,P,rfl⟩,⟨V,J,rfl⟩,⟨S,X,rfl⟩,⟨O,ab,rfl⟩,⟨U,M,rfl⟩,⟨z,C,rfl⟩,⟨aa,H,rfl⟩,⟨K,Z,rfl⟩,⟨Q,L,rfl⟩⟩:=R.form
 have Y:=Zap w (Obj.cells #[.slice N d.ns.length P,.slice V d.is.length J,.slice S d.ds.length X,.int .i64 d.pl,.slice O d.hs.length ab,.slice U d.ls.length M,.slice z d.gs.length C,.slice aa d.ps.length H,.int .i64 d.nx,.slice K d.ga.length Z,.slice Q d.tk.length L] 50)
 have af:=heap_alloc_new w (Obj.cells #[.slice N d.ns.length P,.slice V d.is.length J,.slice S d.ds.length X,.int .i64 d.pl,.slice O d.hs.length ab,.slice U d.ls.length M,.slice z d.gs.length C,.slice aa d.ps.length H,.int .i64 d.nx,.slice K d.ga.length Z,.slice Q d.tk.length L] 50)
 go_enter Tryz.func44,Tryz.ntmps44
 go_wp2_with fail
 generalize w.alloc (Obj.cells #[.slice N d.ns.length P,.slice V d.is.length J,.slice S d.ds.length X,.int .i64 d.pl,.slice O d.hs.length ab,.slice U d.ls.length M,.slice z d.gs.length C,.slice aa d.ps.length H,.int .i64 d.nx,.slice K d.ga.length Z,.slice Q d.tk.length L] 50)=w0 at *
 obtain ⟨ao,am,hh,aw,hm,c⟩:=R0.rg
 simp only [Value.slice.injEq] at hh
 obtain ⟨rfl,_,rfl⟩:=hh
 go_loopw [3] (fun i wr=>∃ k:Nat,k <= d.gs.length/\i=.int .i64 k/\Hid ((d.gs.take k).all (gmB d.pl)=true)/\Below w0.heap.size w0 wr) (fun i _=>d.gs.length - (intOf i).toNat)
 case atStart=>exact ⟨0,by omega,rfl,by simp [Hid],Below.refl _ _⟩
 case round =>
  obtain ⟨k,hk,rfl,m,E⟩:=hrel
  have D:=Y.trans (E.mono Y.size)
  have hx:=Zae af E
  have kh:wr.cell? ⟨w.heap.size,0+6,none⟩=some (.slice z d.gs.length C):=cell_of_row _ _ 6 _ _ _ hx
  by_cases r:k < d.gs.length
  ·obtain ⟨g,o,rfl,_,hg,c⟩:=c (by intro e;rw [e] at r;simp at r)
   obtain ⟨x,u⟩:∃ x,d.gs[k]? = some x:=⟨d.gs[k],by simp [r]⟩
   obtain ⟨cs,ac,hr,hc,_⟩:=c k x u
   have j:Hid (d.gs[k]? = some x):=u
   obtain rfl:cs=(#[.int .i64 x.k,.int .i64 x.f,.int .i64 x.t,.int .i64 x.n,.string x.s]:Array Value).toList:=congrArg Array.toList hc
   replace hr:=Zaf hr D hg
   clear c u ac hc
   have F:=Zap wr (Obj.cells #[.int .i64 x.k,.int .i64 x.f,.int .i64 x.t,.int .i64 x.n,.string x.s] 122)
   have A:(wr.alloc (Obj.cells #[.int .i64 x.k,.int .i64 x.f,.int .i64 x.t,.int .i64 x.n,.string x.s] 122)).heap[wr.heap.size]? = some (Obj.cells #[.int .i64 x.k,.int .i64 x.f,.int .i64 x.t,.int .i64 x.n,.string x.s] 122):=heap_alloc_new _ _
   have ak:=Zae hx F
   have y:=D.trans (F.mono D.size)
   have ae:=E.trans (F.mono E.size)
   have hE:Hid (gmB d.pl x=((hasP d.pl x.f && hasP d.pl x.t) && ((decide (0 <= x.n) && decide (x.n <= 100000)) && (decide (x.k=1) || (decide (x.k=2) && x.s.toList.isEmpty))))):=rfl
   have f0:=Ze3 d.pl x.f
   have t0:=Ze3 d.pl x.t
   obtain ⟨T,al⟩:∃ T,Hid (wr.alloc (Obj.cells #[.int .i64 x.k,.int .i64 x.f,.int .i64 x.t,.int .i64 x.n,.string x.s] 122)=T):=⟨_,rfl⟩
   go_wp2_with (refine wpList_load_mid rfl 122 _ rfl g (o+k * 5) rfl _ _ hr Tryz.underlying122 rfl (by kernel_rfl) ?_)
   rw [al.out] at F A ak y ae ⊢
   clear al hr F kh
   have g1:T.cell? ⟨wr.heap.size,0+1,none⟩=some (.int .i64 x.f):=cell_of_row _ _ 1 _ _ _ A
   have g2:T.cell? ⟨wr.heap.size,0+2,none⟩=some (.int .i64 x.t):=cell_of_row _ _ 2 _ _ _ A
   have g3:T.cell? ⟨wr.heap.size,3,none⟩=some (.int .i64 x.n):=cell_of_row _ _ 3 _ _ _ A
   have ay:T.cell? ⟨wr.heap.size,0+3,none⟩=some (.int .i64 x.n):=g3
   have g4:T.cell? ⟨wr.heap.size,0+3+1,none⟩=some (.string x.s):=cell_of_row _ _ 4 _ _ _ A
   have g0:T.cell? ⟨wr.heap.size,0,none⟩=some (.int .i64 x.k):=cell_of_row _ _ 0 _ _ _ A
   have gp:T.cell? ⟨w.heap.size,0+3,none⟩=some (.int .i64 d.pl):=cell_of_row _ _ 3 _ _ _ ak
   refine (Zar _ _ _ _).mono ?_
   rintro e wE ⟨rfl,rfl⟩
   cases ah:(decide (1 <= x.k) && decide (x.k <= 2)) with
   | false =>
    have l:gmB d.pl x=false:=by rw [hE.out];have q:¬ (x.k=1)/\¬ (x.k=2):=(by simp at ah;omega);simp [q.1,q.2]
    have v:Hid (d.gs.all (gmB d.pl)=false):=Zax j.out l
    clear m j
    go_wp2
    go_ret
    exact ⟨by rw [v.out];rfl,y⟩
   | true =>
    go_wp2_with fail
    refine (Zar _ _ _ _).mono ?_
    rintro e wE ⟨rfl,rfl⟩
    rw [f0]
    cases hf:hasP d.pl x.f with
    | false =>
     have l:gmB d.pl x=false:=by rw [hE.out,hf];rfl
     have v:Hid (d.gs.all (gmB d.pl)=false):=Zax j.out l
     clear m j
     go_wp2
     go_ret
     exact ⟨by rw [v.out];rfl,y⟩
    | true =>
     go_wp2_with fail
     refine (Zar _ _ _ _).mono ?_
     rintro e wE ⟨rfl,rfl⟩
     rw [t0]
     cases ht:hasP d.pl x.t with
     | false =>
      have l:gmB d.pl x=false:=by rw [hE.out,hf,ht];rfl
      have v:Hid (d.gs.all (gmB d.pl)=false):=Zax j.out l
      clear m j
      go_wp2
      go_ret
      exact ⟨by rw [v.out];rfl,y⟩
     | true =>
      go_wp2_with fail
      refine (Zar _ _ _ _).mono ?_
      rintro e wE ⟨rfl,rfl⟩
      cases hn:(decide (0 <= x.n) && decide (x.n <= 100000)) with
      | false =>
       have l:gmB d.pl x=false:=by rw [hE.out,hf,ht,hn];rfl
       have v:Hid (d.gs.all (gmB d.pl)=false):=Zax j.out l
       clear m j
       go_wp2
       go_ret
       exact ⟨by rw [v.out];rfl,y⟩
      | true =>
       by_cases h2:x.k=2
       ·have e2:(x.k == 2)=true:=by simp [h2]
        cases hs:x.s.toList.isEmpty with
        | false =>
         have es:(x.s.toList != ([]:List UInt8))=true:=by cases h:x.s.toList with | nil=>rw [h] at hs;cases hs | cons a b=>rfl
         have l:gmB d.pl x=false:=by rw [hE.out,hf,ht,hn,hs];simp [h2]
         have v:Hid (d.gs.all (gmB d.pl)=false):=Zax j.out l
         clear m j
         go_wp2
         go_ret
         exact ⟨by rw [v.out];rfl,y⟩
        | true =>
         have es:(x.s.toList != ([]:List UInt8))=false:=by cases h:x.s.toList with | nil=>rfl | cons a b=>rw [h] at hs;cases hs
         have l:gmB d.pl x=true:=by rw [hE.out,hf,ht,hn,hs];simp [h2]
         have G:Hid ((d.gs.take (k+1)).all (gmB d.pl)=true):=Za8 m.out j.out l
         clear m j
         go_wp2
         go_roundw
         case rel=>exact ⟨k+1,by omega,by go_num,G,ae⟩
         case measure=>simp [intOf];omega
       ·have e2:(x.k == 2)=false:=by simp [h2]
        have l:gmB d.pl x=true:=by rw [hE.out,hf,ht,hn];simp at ah;have:x.k=1:=(by omega);simp [this]
        have G:Hid ((d.gs.take (k+1)).all (gmB d.pl)=true):=Za8 m.out j.out l
        clear m j
        go_wp2
        go_roundw
        case rel=>exact ⟨k+1,by omega,by go_num,G,ae⟩
        case measure=>simp [intOf];omega
  ·have v:Hid (d.gs.all (gmB d.pl)=true):=ZbF m.out (by omega)
   clear m c
   obtain ⟨ao,am,hh,an,ax,c⟩:=R0.rp
   simp only [Value.slice.injEq] at hh
   obtain ⟨rfl,_,rfl⟩:=hh
   go_wp2_with fail
   clear kh
   go_loopw [5] (fun i wr=>∃ k:Nat,k <= d.ps.length/\i=.int .i64 k/\Hid ((d.ps.take k).all (pdB d.pl)=true)/\Below w0.heap.size w0 wr) (fun i _=>d.ps.length - (intOf i).toNat)
   case atStart=>exact ⟨0,by omega,rfl,by simp [Hid],E⟩
   case round =>
    clear hx E D
    obtain ⟨k,hk,rfl,m,E⟩:=hrel
    have D:=Y.trans (E.mono Y.size)
    have hx:=Zae af E
    have kp:wr.cell? ⟨w.heap.size,0+7,none⟩=some (.slice aa d.ps.length H):=cell_of_row _ _ 7 _ _ _ hx
    have kg:wr.cell? ⟨w.heap.size,0+6,none⟩=some (.slice z d.gs.length C):=cell_of_row _ _ 6 _ _ _ hx
    by_cases r:k < d.ps.length
    ·obtain ⟨g,o,rfl,_,hg,c⟩:=c (by intro e;rw [e] at r;simp at r)
     obtain ⟨x,u⟩:∃ x,d.ps[k]? = some x:=⟨d.ps[k],by simp [r]⟩
     obtain ⟨cs,ac,hr,hc,_⟩:=c k x u
     have j:Hid (d.ps[k]? = some x):=u
     obtain rfl:cs=(#[.int .i64 x.p,.int .i64 x.t,.string x.s]:Array Value).toList:=congrArg Array.toList hc
     replace hr:=Zaf hr D hg
     have au:=Nat.lt_of_lt_of_le hg D.size
     clear c u ac hc
     have ag:=Ze3 d.pl x.p
     have ad:Hid (pdB d.pl x=hasP d.pl x.p):=rfl
     go_wp2_with fail
     clear kp kg
     obtain ⟨pb,aj⟩:∃ b,hasP d.pl x.p=b:=⟨_,rfl⟩
     rw [aj] at ag ad
     clear aj
     refine Zj9 w.heap.size g o k N V S O U z K Q P J X ab M C H Z L d x wr _ hx hr au r ar ap pb ag ?_
     intro u65 u66 u67 u68 u69 u70 u71 u72 u73 u74 W hW
     have aq:=D.trans (hW.mono D.size)
     have av:=E.trans (hW.mono E.size)
     cases pb with
     | false =>
      have l:pdB d.pl x=false:=ad.out
      have HP:Hid (d.ps.all (pdB d.pl)=false):=Zax j.out l
      clear m j
      go_wp2
      go_ret
      exact ⟨by rw [v.out,HP.out];rfl,aq⟩
     | true =>
      have l:pdB d.pl x=true:=ad.out
      have G:Hid ((d.ps.take (k+1)).all (pdB d.pl)=true):=Za8 m.out j.out l
      clear m j
      go_wp2
      go_roundw
      case rel=>exact ⟨k+1,by omega,by go_num,G,av⟩
      case measure=>simp [intOf];omega
    ·have HP:Hid (d.ps.all (pdB d.pl)=true):=ZbF m.out (by omega)
     clear m c
     by_cases I:d.gs.length <= 12
     ·by_cases ai:d.ps.length <= 20
      ·go_wp2
       go_ret
       exact ⟨by rw [v.out,HP.out];simp [I,ai] <;> omega,D⟩
      ·go_wp2
       go_ret
       exact ⟨by rw [v.out,HP.out];simp [I,ai] <;> omega,D⟩
     ·go_wp2
      go_ret
      exact ⟨by first | (rw [v.out,HP.out];simp [I] <;> omega) | rfl | (simp [I] <;> omega),D⟩
end Go.Proofs.YtfeodlbpnghakaaGreatDoor
