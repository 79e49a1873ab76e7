/-
  Texts that stood by themselves, laid into one.
-/
import Derived.Test.YtfeodlbpnghakaaGreatDoorJgNM
import Derived.Test.YtfeodlbpnghakaaGreatDoorSWhM
import Derived.Test.YtfeodlbpnghakaaGreatDoorShelfJM
/-
  Contracts of spec's l15Many and JudgeOnce. Of a world that is right.
-/
set_option maxRecDepth 100000
set_option maxHeartbeats 3200000
namespace Go.Proofs.YtfeodlbpnghakaaGreatDoor
open Go.RowKit
theorem ZkN (ns:List Nd)(is:List In)(ds:List Df)(s:ByteArray):movN ns is ds s=0 \/ 1 <= movN ns is ds s:=by
 unfold movN
 split
 ·exact Or.inl rfl
 ·rename_i k p t h
  split
  ·have b:=@Zgg ns is ds (sb t) (pdT (pdR ns is ds (sb t))).1 _ _ _ _ _ rfl
   cases a:(pdT (pdR ns is ds (sb t))).2.2.2.2.2 with
   | true=>exact Or.inr (b.1 a)
   | false=>exact Or.inl (b.2 a)
  ·exact Or.inl rfl
theorem Zjt {d:Wd}{b:List ByteArray}{j:Nat}{s:ByteArray}{p:Int}(h:b[j]? = some s)(c:p ≠ 0):(mvs d (b.drop j)).count p=(if movN d.ns d.is d.ds s == p then 1 else 0)+(mvs d (b.drop (j+1))).count p:=by
 rw [mvs_step h,List.count_append]
 by_cases a:movN d.ns d.is d.ds s=0
 ·rw [if_pos a,a]
  have:((0:Int) == p)=false:=by simp;omega
  rw [this]
  simp
 ·rw [if_neg a,List.count_singleton]
theorem Zik {a:List Int}{k:Nat}{x p:Int}(h:a[k]? = some x):(a.drop k).count p=(if x == p then 1 else 0)+(a.drop (k+1)).count p:=by
 obtain ⟨b,rfl⟩:=List.getElem?_eq_some_iff.1 h
 rw [List.drop_eq_getElem_cons b,List.count_cons]
 omega
theorem ZkH {a:List Int}{k:Nat}{x:Int}{f:Int -> Bool}(h:a[k]? = some x):(a.drop k).all f=(f x && (a.drop (k+1)).all f):=by
 obtain ⟨b,rfl⟩:=List.getElem?_eq_some_iff.1 h
 rw [List.drop_eq_getElem_cons b,List.all_cons]
theorem ZlR {d:Wd}{b:List ByteArray}{j:Nat}{s:ByteArray}{f:Int -> Bool}(h:b[j]? = some s):(mvs d (b.drop j)).all f=((movN d.ns d.is d.ds s == 0 || f (movN d.ns d.is d.ds s)) && (mvs d (b.drop (j+1))).all f):=by
 rw [mvs_step h,List.all_append]
 by_cases a:movN d.ns d.is d.ds s=0
 ·rw [if_pos a,a]
  rfl
 ·rw [if_neg a]
  have:(movN d.ns d.is d.ds s == 0)=false:=by simpa using a
  rw [this]
  simp
theorem ZgC (vn vi vf vh vl vg vp va vt:Value)(d:Wd)(p:Int)(w:World)(R:WR 0 w vn vi vf vh vl vg vp va vt d)(hS:SmW d)(hw:worldB d=true)(hp:p ≠ 0) :
  Calls Tryz.prog 16 #[.agg #[vn,vi,vf,.int .i64 d.pl,vh,vl,vg,vp,.int .i64 d.nx,va,vt],.int .i64 p] w fun e w'=>e=.returned (.int .i64 ((pidL d).count p:Nat))/\Below w.heap.size w w':=by
 obtain ⟨aD,aM,_⟩:=ZbU hw
 have L0:Hid (LkAll d):=lkAll_of hw
 have aK:d.ls.length <= d.ga.length:=by have:=L0.out.lg;omega
 have av:Hid (p ≠ 0):=hp
 clear hw hp
 have R0:=R
 obtain ⟨⟨an,cn,rfl⟩,⟨ai,ci,rfl⟩,⟨af,cf,rfl⟩,⟨ah,ch,rfl⟩,⟨al,cl,rfl⟩,⟨ag,cg,rfl⟩,⟨ap,cp,rfl⟩,⟨aa,ca,rfl⟩,⟨ab,cb,rfl⟩⟩:=R.form
 clear R
 have A:=Zap w (Obj.cells #[.slice an d.ns.length cn,.slice ai d.is.length ci,.slice af d.ds.length cf,.int .i64 d.pl,.slice ah d.hs.length ch,.slice al d.ls.length cl,.slice ag d.gs.length cg,.slice ap d.ps.length cp,.int .i64 d.nx,.slice aa d.ga.length ca,.slice ab d.tk.length cb] 50)
 have G:=heap_alloc_new w (Obj.cells #[.slice an d.ns.length cn,.slice ai d.is.length ci,.slice af d.ds.length cf,.int .i64 d.pl,.slice ah d.hs.length ch,.slice al d.ls.length cl,.slice ag d.gs.length cg,.slice ap d.ps.length cp,.int .i64 d.nx,.slice aa d.ga.length ca,.slice ab d.tk.length cb] 50)
 obtain ⟨aI,aB,Z,_,_,f⟩:=R0.rh
 simp only [Value.slice.injEq] at Z
 obtain ⟨rfl,_,rfl⟩:=Z
 obtain ⟨aH,az,X,_,_,b⟩:=R0.ra
 simp only [Value.slice.injEq] at X
 obtain ⟨rfl,_,rfl⟩:=X
 obtain ⟨aJ,aC,Y,_,_,a⟩:=R0.rl
 simp only [Value.slice.injEq] at Y
 obtain ⟨rfl,_,rfl⟩:=Y
 have HV:Hid ((pidL d).count p=0+((d.hs.map Hm.i).drop 0).count p+(wayP d (d.ls.length - 0) 0).count p):=by unfold Hid pidL;rw [List.count_append];simp
 go_enter Tryz.func16,Tryz.ntmps16
 go_wp2_with fail
 have aG:=Zao G
 generalize w.alloc (Obj.cells #[.slice an d.ns.length cn,.slice ai d.is.length ci,.slice af d.ds.length cf,.int .i64 d.pl,.slice ah d.hs.length ch,.slice al d.ls.length cl,.slice ag d.gs.length cg,.slice ap d.ps.length cp,.int .i64 d.nx,.slice aa d.ga.length ca,.slice ab d.tk.length cb] 50)=Q at *
 go_loopw [5,6] (fun c i wr=>∃ k n:Nat,k <= d.hs.length/\i=.int .i64 k/\c=.int .i64 n/\Hid ((pidL d).count p=n+((d.hs.map Hm.i).drop k).count p+(wayP d (d.ls.length - 0) 0).count p)/\n <= k/\Below Q.heap.size Q wr) (fun _ i _=>d.hs.length - (intOf i).toNat)
 case atStart=>exact ⟨0,0,by omega,rfl,rfl,HV,by omega,Below.refl _ _⟩
 case round =>
  clear HV
  obtain ⟨k,n,hk,rfl,rfl,u,hn,y⟩:=hrel
  have o:=A.trans (y.mono A.size)
  have V:=Zae G y
  have c4:=cell_of_row _ _ 4 _ _ _ V
  by_cases B:k < d.hs.length
  ·have aq:(k:Int) < (d.hs.length:Int):=by omega
   obtain ⟨gh,oh,rfl,_,ae,f⟩:=f (by intro e;rw [e] at B;simp at B)
   obtain ⟨x,E⟩:∃ x,d.hs[k]? = some x:=⟨d.hs[k],List.getElem?_eq_getElem _⟩
   obtain ⟨cs,P,M,v1,v2,v3,hc,N1,S1,S2,_,_,_⟩:=f k x E
   obtain ⟨n1,m1,rfl⟩:=N1.small8
   obtain ⟨n2,m2,rfl⟩:=S1.small
   obtain ⟨n3,m3,rfl⟩:=S2.small
   obtain rfl:cs=(#[.int .i64 x.pl,.int .i64 x.i,.slice n1 x.xs.length m1,.int .i64 x.m.p,.int .i64 x.m.s,.int .i64 x.m.e,.int .i64 x.m.d,.int .i64 x.m.t,.int .i64 x.m.q,.int .i64 x.m.r,.slice n2 x.bx.length m2,.slice n3 x.ox.length m3]:Array Value).toList:=congrArg Array.toList hc
   replace M:=Zaf M o ae
   clear f hc P N1 S1 S2
   have c1:wr.cell? ⟨gh,oh+k * 12+1,none⟩=some (.int .i64 x.i):=M 1 _ rfl
   have z:Hid ((pidL d).count p=n+((if x.i == p then 1 else 0)+((d.hs.map Hm.i).drop (k+1)).count p)+(wayP d (d.ls.length - 0) 0).count p):=by unfold Hid;rw [u.out,Zik (x:=x.i) (by rw [List.getElem?_map,E];rfl)]
   have ax:=Nat.lt_of_lt_of_le ae o.size
   clear E M u
   cases e:(x.i == p) with
   | true =>
    have v:Hid ((pidL d).count p=(n+1)+((d.hs.map Hm.i).drop (k+1)).count p+(wayP d (d.ls.length - 0) 0).count p):=by unfold Hid;rw [z.out,e,if_pos rfl];omega
    clear z
    go_wp2_with fail
    go_roundw
    case rel=>exact ⟨k+1,n+1,by omega,by go_num,by go_num,v,by omega,y⟩
    case measure=>simp [intOf];omega
   | false =>
    have v:Hid ((pidL d).count p=n+((d.hs.map Hm.i).drop (k+1)).count p+(wayP d (d.ls.length - 0) 0).count p):=by unfold Hid;rw [z.out,e,if_neg (by simp)];omega
    clear z
    go_wp2_with fail
    go_roundw
    case rel=>exact ⟨k+1,n,by omega,by go_num,rfl,v,by omega,y⟩
    case measure=>simp [intOf];omega
  ·have v:Hid ((pidL d).count p=n+(wayP d (d.ls.length - 0) 0).count p):=by unfold Hid;rw [u.out,List.drop_eq_nil_of_le (by rw [List.length_map];omega)];simp
   have ar:n <= 8:=by omega
   clear u f
   go_wp2_with fail
   clear c4
   go_loopw [5,7] (fun c i wx=>∃ k n:Nat,k <= d.ls.length/\i=.int .i64 k/\c=.int .i64 n/\Hid ((pidL d).count p=n+(wayP d (d.ls.length - k) k).count p)/\n <= 8+k * 100000/\Below Q.heap.size Q wx) (fun _ i _=>d.ls.length - (intOf i).toNat)
   case atStart=>exact ⟨0,n,by omega,rfl,rfl,v,by omega,y⟩
   case round =>
    clear v ar hn o V y
    obtain ⟨k,n,hk,rfl,rfl,u,hn,F⟩:=hrel
    have o:=A.trans (F.mono A.size)
    have E:=Zae G F
    have c5:=cell_of_row _ _ 5 _ _ _ E
    by_cases B:k < d.ls.length
    ·have aq:(k:Int) < (d.ls.length:Int):=by omega
     have h2:k < d.ga.length:=by omega
     have aE:(k:Int) < (d.ga.length:Int):=by omega
     obtain ⟨ga,oa,rfl,_,T,b⟩:=b (by intro e;rw [e] at h2;simp at h2)
     obtain ⟨gl,ol,rfl,_,am,a⟩:=a (by intro e;rw [e] at B;simp at B)
     obtain ⟨l,hl⟩:∃ x,d.ls[k]? = some x:=⟨d.ls[k],List.getElem?_eq_getElem _⟩
     obtain ⟨g,D⟩:∃ x,d.ga[k]? = some x:=⟨d.ga[k],List.getElem?_eq_getElem _⟩
     obtain ⟨cs,P,M,vq,aF,hc,L1,L2,_,_⟩:=a k l hl
     obtain ⟨_,_,ad,ua,rfl,A1,_⟩:=b k g D
     obtain ⟨pq,qq,rfl⟩:=L1.small
     obtain ⟨ph,qh,rfl⟩:=L2.small
     obtain ⟨pa,qa,rfl,_,_,_,C⟩:=A1
     obtain rfl:cs=(#[.int .i64 l.sent,.int .i64 l.acked,.slice pq l.q.length qq,.int .i64 l.got,.slice ph l.h.length qh]:Array Value).toList:=congrArg Array.toList hc
     obtain ⟨H,aw⟩:=L0.out.ts hl D
     obtain ⟨L,O⟩:∃ L:Nat,l.got=L:=⟨l.got.toNat,by have:=Zbh H;omega⟩
     have aA:L <= g.length:=by have:=Zbh H;omega
     have aL:g.length <= 100000:=by have:=Zbh H;omega
     have U:∀ x ∈ g,x.size <= 1048576:=(hS.ha.2 g (List.mem_of_getElem? D)).2
     have ac:wayT d k=g.drop L:=by rw [ZeD hl D,O,show ((L:Int)).toNat=L by omega]
     have k3:=Zaf M o am 3 _ rfl
     have ka:=ZaQ ad
     rw [Nat.mul_one] at ka
     have z:Hid ((pidL d).count p=n+((mvs d (g.drop L)).count p+(wayP d (d.ls.length - (k+1)) (k+1)).count p)):=by unfold Hid;rw [u.out,wayP_step B,List.count_append,ac]
     rw [O] at k3
     clear a b hl D hc P ad M L1 L2 u H aw O ac L0
     have ay:=Nat.lt_of_lt_of_le am o.size
     go_wp2_with fail
     clear c5 k3
     go_loopw [5,8] (fun c i wy=>∃ j n:Nat,j <= g.length/\i=.int .i64 j/\c=.int .i64 n/\Hid ((pidL d).count p=n+((mvs d (g.drop j)).count p+(wayP d (d.ls.length - (k+1)) (k+1)).count p))/\n <= 8+k * 100000+j/\Below Q.heap.size Q wy) (fun _ i _=>g.length - (intOf i).toNat)
     case atStart=>exact ⟨L,n,by omega,rfl,rfl,z,by omega,F⟩
     case round =>
      clear z hn F o E
      obtain ⟨j,n,hj,rfl,rfl,u,hn,F⟩:=hrel
      have o:=A.trans (F.mono A.size)
      have E:=Zae G F
      have c9:=cell_of_row _ _ 9 _ _ _ E
      have ao:=(o.cell (p:=⟨ga,oa+k,none⟩) T).trans ka
      have K:=Nat.lt_of_lt_of_le T o.size
      by_cases N:j < g.length
      ·obtain ⟨gs,os,rfl,ak,C⟩:=C (by intro e;rw [e] at N;simp at N)
       obtain ⟨s,I⟩:∃ x,g[j]? = some x:=⟨g[j],List.getElem?_eq_getElem _⟩
       have aj:=(o.cell (p:=⟨gs,os+j,none⟩) ak).trans (C j s I)
       have J:=Nat.lt_of_lt_of_le ak o.size
       have au:=U s (List.mem_of_getElem? I)
       have z:Hid ((pidL d).count p=n+(((if movN d.ns d.is d.ds s == p then 1 else 0)+(mvs d (g.drop (j+1))).count p)+(wayP d (d.ls.length - (k+1)) (k+1)).count p)):=by unfold Hid;rw [u.out,Zjt I av.out]
       have HC:=fun W (hW:Below _ _ W)=>Zc3 _ _ _ _ _ _ _ _ _ d s _ W (R0.below (o.trans (hW.mono o.size))) au
       clear C I u U
       obtain ⟨m,hm⟩:∃ m,movN d.ns d.is d.ds s=m:=⟨_,rfl⟩
       rw [hm] at z HC
       clear hm
       go_wp2_with fail
       clear c9
       refine ZkT w.heap.size ga oa gs os k j g.length qa p an ai af ah (some ⟨gl,ol,none⟩) ag ap ab cn ci cf ch cl cg cp ca cb d s _ _ E K J ao aj h2 N m HC ?_
       intro u50 u51 u52 u53 u54 u55 u56 u57 u58 u59 u60 W hW
       have S:=F.trans (hW.mono F.size)
       clear HC hW E ao aj o K J
       cases e:(m == p) with
       | true =>
        have v:Hid ((pidL d).count p=(n+1)+((mvs d (g.drop (j+1))).count p+(wayP d (d.ls.length - (k+1)) (k+1)).count p)):=by unfold Hid;rw [z.out,e,if_pos rfl];omega
        clear z
        go_wp2_with fail
        go_roundw
        case rel=>exact ⟨j+1,n+1,by omega,by go_num,by go_num,v,by omega,S⟩
        case measure=>simp [intOf];omega
       | false =>
        have v:Hid ((pidL d).count p=n+((mvs d (g.drop (j+1))).count p+(wayP d (d.ls.length - (k+1)) (k+1)).count p)):=by unfold Hid;rw [z.out,e,if_neg (by simp)];omega
        clear z
        go_wp2_with fail
        go_roundw
        case rel=>exact ⟨j+1,n,by omega,by go_num,rfl,v,by omega,S⟩
        case measure=>simp [intOf];omega
      ·have v:Hid ((pidL d).count p=n+(wayP d (d.ls.length - (k+1)) (k+1)).count p):=by unfold Hid;rw [u.out,mvs_end (by omega)];simp
       clear u C
       go_wp2_with fail
       go_roundw
       case rel=>exact ⟨k+1,n,by omega,by go_num,rfl,v,by omega,F⟩
       case measure=>simp [intOf];omega
    ·have v:Hid ((n:Int)=((pidL d).count p:Nat)):=by unfold Hid;rw [u.out,wayP_end (by omega)];simp
     clear u a b
     go_wp2
     go_ret
     exact ⟨Zi1 v.out,o⟩
theorem Zib (vn vi vf vh vl vg vp va vt:Value)(d:Wd)(w:World)(R:WR 0 w vn vi vf vh vl vg vp va vt d)(hS:SmW d) :
  Calls Tryz.prog 5 #[.agg #[vn,vi,vf,.int .i64 d.pl,vh,vl,vg,vp,.int .i64 d.nx,va,vt]] w fun e w'=>e=.returned (.bool (worldB d && oneB d))/\Below w.heap.size w w':=by
 have R0:=R
 obtain ⟨⟨an,cn,rfl⟩,⟨Z,S,rfl⟩,⟨af,cf,rfl⟩,⟨ah,X,rfl⟩,⟨al,cl,rfl⟩,⟨V,cg,rfl⟩,⟨ap,Q,rfl⟩,⟨aa,Y,rfl⟩,⟨T,U,rfl⟩⟩:=R.form
 clear R
 have O:=Zap w (Obj.cells #[.slice an d.ns.length cn,.slice Z d.is.length S,.slice af d.ds.length cf,.int .i64 d.pl,.slice ah d.hs.length X,.slice al d.ls.length cl,.slice V d.gs.length cg,.slice ap d.ps.length Q,.int .i64 d.nx,.slice aa d.ga.length Y,.slice T d.tk.length U] 50)
 have ao:=heap_alloc_new w (Obj.cells #[.slice an d.ns.length cn,.slice Z d.is.length S,.slice af d.ds.length cf,.int .i64 d.pl,.slice ah d.hs.length X,.slice al d.ls.length cl,.slice V d.gs.length cg,.slice ap d.ps.length Q,.int .i64 d.nx,.slice aa d.ga.length Y,.slice T d.tk.length U] 50)
 go_enter Tryz.func5,Tryz.ntmps5
 go_wp2_with (refine wpList_load_row rfl 50 _ rfl w.heap.size rfl 50 #[.slice an d.ns.length cn,.slice Z d.is.length S,.slice af d.ds.length cf,.int .i64 d.pl,.slice ah d.hs.length X,.slice al d.ls.length cl,.slice V d.gs.length cg,.slice ap d.ps.length Q,.int .i64 d.nx,.slice aa d.ga.length Y,.slice T d.tk.length U] (0,0) _ ao Tryz.underlying50 rfl Zni ?_)
 refine (sworldok_any _ _ _ _ _ _ _ _ _ d 0 _ (R0.below O) hS.hh.2).mono ?_
 rintro e w1 ⟨rfl,o⟩
 have aq:=Zae ao o
 have D:=O.trans (o.mono O.size)
 clear o ao O
 cases hw:worldB d with
 | false =>
  go_wp2
  go_ret
  exact ⟨retB (by rw [hw];rfl),D⟩
 | true =>
  have HW:Hid (worldB d=true):=hw
  obtain ⟨a8,bj,ac⟩:=ZbU hw
  have L0:Hid (LkAll d):=lkAll_of hw
  have bh:d.ls.length <= d.ga.length:=by have:=L0.out.lg;omega
  have ad:Hid (∀ (p:Int) W,p ≠ 0 -> Below w.heap.size w W -> Calls Tryz.prog 16 #[.agg #[.slice an d.ns.length cn,.slice Z d.is.length S,.slice af d.ds.length cf,.int .i64 d.pl,.slice ah d.hs.length X,.slice al d.ls.length cl,.slice V d.gs.length cg,.slice ap d.ps.length Q,.int .i64 d.nx,.slice aa d.ga.length Y,.slice T d.tk.length U],.int .i64 p] W fun e w'=>e=.returned (.int .i64 ((pidL d).count p:Nat))/\Below W.heap.size W w'):=fun p W hp z=>ZgC _ _ _ _ _ _ _ _ _ d p W (R0.below z) hS hw hp
  have aT:Hid (∀ x ∈ d.hs,1 <= x.i):=ac
  have HV:Hid (oneB d=(((d.hs.map Hm.i).drop 0).all (okP d) && (wayP d (d.ls.length - 0) 0).all (okP d))):=oneB_parts d
  clear hw ac
  obtain ⟨be,a6,aC,_,_,g⟩:=R0.rh
  simp only [Value.slice.injEq] at aC
  obtain ⟨rfl,_,rfl⟩:=aC
  obtain ⟨bd,a4,aA,_,_,f⟩:=R0.ra
  simp only [Value.slice.injEq] at aA
  obtain ⟨rfl,_,rfl⟩:=aA
  obtain ⟨bg,a7,aB,_,_,b⟩:=R0.rl
  simp only [Value.slice.injEq] at aB
  obtain ⟨rfl,_,rfl⟩:=aB
  go_wp2_with fail
  go_loopw [3] (fun i wr=>∃ k:Nat,k <= d.hs.length/\i=.int .i64 k/\Hid (oneB d=(((d.hs.map Hm.i).drop k).all (okP d) && (wayP d (d.ls.length - 0) 0).all (okP d)))/\Below w1.heap.size w1 wr) (fun i _=>d.hs.length - (intOf i).toNat)
  case atStart=>exact ⟨0,by omega,rfl,HV,Below.refl _ _⟩
  case round =>
   clear HV
   obtain ⟨k,hk,rfl,E,o⟩:=hrel
   have u:=D.trans (o.mono D.size)
   have a:=Zae aq o
   have c4:=cell_of_row _ _ 4 _ _ _ a
   by_cases B:k < d.hs.length
   ·have aP:(k:Int) < (d.hs.length:Int):=by omega
    obtain ⟨gh,oh,rfl,_,aH,g⟩:=g (by intro e;rw [e] at B;simp at B)
    obtain ⟨x,hx⟩:∃ x,d.hs[k]? = some x:=⟨d.hs[k],List.getElem?_eq_getElem _⟩
    obtain ⟨cs,aw,hr,v1,v2,v3,G,N1,S1,S2,_,_,_⟩:=g k x hx
    obtain ⟨n1,m1,rfl⟩:=N1.small8
    obtain ⟨n2,m2,rfl⟩:=S1.small
    obtain ⟨n3,m3,rfl⟩:=S2.small
    obtain rfl:cs=(#[.int .i64 x.pl,.int .i64 x.i,.slice n1 x.xs.length m1,.int .i64 x.m.p,.int .i64 x.m.s,.int .i64 x.m.e,.int .i64 x.m.d,.int .i64 x.m.t,.int .i64 x.m.q,.int .i64 x.m.r,.slice n2 x.bx.length m2,.slice n3 x.ox.length m3]:Array Value).toList:=congrArg Array.toList G
    replace hr:=Zaf hr u aH
    clear g G aw N1 S1 S2
    have c1:wr.cell? ⟨gh,oh+k * 12+1,none⟩=some (.int .i64 x.i):=hr 1 _ rfl
    have A:Hid (oneB d=((okP d x.i && ((d.hs.map Hm.i).drop (k+1)).all (okP d)) && (wayP d (d.ls.length - 0) 0).all (okP d))):=by unfold Hid;rw [E.out,ZkH (x:=x.i) (by rw [List.getElem?_map,hx];rfl)]
    have H:=Nat.lt_of_lt_of_le aH u.size
    have aj:x.i ≠ 0:=by have:=aT.out x (List.mem_of_getElem? hx);omega
    have L:=fun W (z:Below _ _ W)=>ad.out x.i W aj (u.trans (z.mono u.size))
    obtain ⟨c,G⟩:∃ c,(pidL d).count x.i=c:=⟨_,rfl⟩
    rw [G] at L
    have J:Hid (okP d x.i=(!(decide (x.i < d.nx)) || decide (c <= 1))):=by unfold Hid okP;rw [G]
    clear hx hr E G aj
    by_cases hp:x.i < d.nx
    ·cases er:decide ((1:Int) < (c:Int)) with
     | true =>
      have v:Hid (oneB d=false):=by unfold Hid;rw [A.out,J.out];have h9:¬ c <= 1:=(by simp at er;omega);simp [hp,h9]
      go_wp2_with fail
      clear c4
      refine ZgX w.heap.size gh oh k x.i an Z af al V ap aa T cn S cf X cl cg Q Y U d _ _ a H c1 B hp (c:Int) true er L ?_
      intro u17 u18 u19 u20 u21 u22 u23 u24 u25 u26 u27 u28 u29 u30 u31 u32 u33 u34 u35 u36 u37 W z
      have F:=u.trans (z.mono u.size)
      clear L z a c1 A J
      go_wp2
      go_ret
      exact ⟨retB (by rw [HW.out,v.out];rfl),F⟩
     | false =>
      have v:Hid (oneB d=(((d.hs.map Hm.i).drop (k+1)).all (okP d) && (wayP d (d.ls.length - 0) 0).all (okP d))):=by unfold Hid;rw [A.out,J.out];have h9:c <= 1:=(by simp at er;omega);simp [h9]
      go_wp2_with fail
      clear c4
      refine ZgX w.heap.size gh oh k x.i an Z af al V ap aa T cn S cf X cl cg Q Y U d _ _ a H c1 B hp (c:Int) false er L ?_
      intro u17 u18 u19 u20 u21 u22 u23 u24 u25 u26 u27 u28 u29 u30 u31 u32 u33 u34 u35 u36 u37 W z
      have y:=o.trans (z.mono o.size)
      clear L z a c1 A J u
      go_wp2_with fail
      go_roundw
      case rel=>exact ⟨k+1,by omega,by go_num,v,y⟩
      case measure=>simp [intOf];omega
    ·have v:Hid (oneB d=(((d.hs.map Hm.i).drop (k+1)).all (okP d) && (wayP d (d.ls.length - 0) 0).all (okP d))):=by unfold Hid;rw [A.out,J.out];simp [hp]
     go_wp2_with fail
     clear c4
     refine ZkM w.heap.size gh oh k x.i an Z af al V ap aa T cn S cf X cl cg Q Y U d _ _ a H c1 B (by omega) ?_
     intro u17 u18 u19 u20 u21 u22 u23 u24 u25 u26 u27 u28 u29 u30 u31 u32 u33 u34 u35 u36 u37 W z
     have y:=o.trans (z.mono o.size)
     clear L z a c1 A J u
     go_wp2_with fail
     go_roundw
     case rel=>exact ⟨k+1,by omega,by go_num,v,y⟩
     case measure=>simp [intOf];omega
   ·have v:Hid (oneB d=(wayP d (d.ls.length - 0) 0).all (okP d)):=by unfold Hid;rw [E.out,List.drop_eq_nil_of_le (by rw [List.length_map];omega)];simp
    clear E g
    go_wp2_with fail
    clear c4
    go_loopw [4] (fun i wx=>∃ k:Nat,k <= d.ls.length/\i=.int .i64 k/\Hid (oneB d=(wayP d (d.ls.length - k) k).all (okP d))/\Below w1.heap.size w1 wx) (fun i _=>d.ls.length - (intOf i).toNat)
    case atStart=>exact ⟨0,by omega,rfl,v,o⟩
    case round =>
     clear v o u a
     obtain ⟨k,hk,rfl,E,o⟩:=hrel
     have u:=D.trans (o.mono D.size)
     have a:=Zae aq o
     have c5:=cell_of_row _ _ 5 _ _ _ a
     by_cases B:k < d.ls.length
     ·have aP:(k:Int) < (d.ls.length:Int):=by omega
      have h2:k < d.ga.length:=by omega
      have ba:(k:Int) < (d.ga.length:Int):=by omega
      obtain ⟨ga,oa,rfl,_,ax,f⟩:=f (by intro e;rw [e] at h2;simp at h2)
      obtain ⟨gl,ol,rfl,_,aK,b⟩:=b (by intro e;rw [e] at B;simp at B)
      obtain ⟨l,hl⟩:∃ x,d.ls[k]? = some x:=⟨d.ls[k],List.getElem?_eq_getElem _⟩
      obtain ⟨C,K⟩:∃ x,d.ga[k]? = some x:=⟨d.ga[k],List.getElem?_eq_getElem _⟩
      obtain ⟨cs,aw,hr,vq,bc,G,L1,L2,_,_⟩:=b k l hl
      obtain ⟨_,_,aG,ua,rfl,A1,_⟩:=f k C K
      obtain ⟨pq,qq,rfl⟩:=L1.small
      obtain ⟨ph,qh,rfl⟩:=L2.small
      obtain ⟨pa,qa,rfl,_,_,_,I⟩:=A1
      obtain rfl:cs=(#[.int .i64 l.sent,.int .i64 l.acked,.slice pq l.q.length qq,.int .i64 l.got,.slice ph l.h.length qh]:Array Value).toList:=congrArg Array.toList G
      obtain ⟨M,a1⟩:=L0.out.ts hl K
      obtain ⟨g0,au⟩:∃ g0:Nat,l.got=g0:=⟨l.got.toNat,by have:=Zbh M;omega⟩
      have a5:g0 <= C.length:=by have:=Zbh M;omega
      have bi:C.length <= 100000:=by have:=Zbh M;omega
      have az:∀ x ∈ C,x.size <= 1048576:=(hS.ha.2 C (List.mem_of_getElem? K)).2
      have aE:wayT d k=C.drop g0:=by rw [ZeD hl K,au,show ((g0:Int)).toNat=g0 by omega]
      have k3:=Zaf hr u aK 3 _ rfl
      have ka:=ZaQ aG
      rw [Nat.mul_one] at ka
      have A:Hid (oneB d=((mvs d (C.drop g0)).all (okP d) && (wayP d (d.ls.length - (k+1)) (k+1)).all (okP d))):=by unfold Hid;rw [E.out,wayP_step B,List.all_append,aE]
      rw [au] at k3
      clear b f hl K G aw aG hr L1 L2 E M a1 au aE L0
      have a3:=Nat.lt_of_lt_of_le aK u.size
      go_wp2_with fail
      clear c5 k3
      go_loopw [5] (fun i wy=>∃ j:Nat,j <= C.length/\i=.int .i64 j/\Hid (oneB d=((mvs d (C.drop j)).all (okP d) && (wayP d (d.ls.length - (k+1)) (k+1)).all (okP d)))/\Below w1.heap.size w1 wy) (fun i _=>C.length - (intOf i).toNat)
      case atStart=>exact ⟨g0,by omega,rfl,A,o⟩
      case round =>
       clear A o u a
       obtain ⟨j,hj,rfl,E,o⟩:=hrel
       have u:=D.trans (o.mono D.size)
       have a:=Zae aq o
       have c9:=cell_of_row _ _ 9 _ _ _ a
       have aL:=(u.cell (p:=⟨ga,oa+k,none⟩) ax).trans ka
       have am:=Nat.lt_of_lt_of_le ax u.size
       by_cases ar:j < C.length
       ·obtain ⟨gs,os,rfl,aJ,I⟩:=I (by intro e;rw [e] at ar;simp at ar)
        obtain ⟨s,P⟩:∃ x,C[j]? = some x:=⟨C[j],List.getElem?_eq_getElem _⟩
        have aI:=(u.cell (p:=⟨gs,os+j,none⟩) aJ).trans (I j s P)
        have ak:=Nat.lt_of_lt_of_le aJ u.size
        have a0:=az s (List.mem_of_getElem? P)
        have A:Hid (oneB d=(((movN d.ns d.is d.ds s == 0 || okP d (movN d.ns d.is d.ds s)) && (mvs d (C.drop (j+1))).all (okP d)) && (wayP d (d.ls.length - (k+1)) (k+1)).all (okP d))):=by unfold Hid;rw [E.out,ZlR P]
        have L:=fun W (z:Below _ _ W)=>Zc3 _ _ _ _ _ _ _ _ _ d s _ W (R0.below (u.trans (z.mono u.size))) a0
        have ae:=ZkN d.ns d.is d.ds s
        clear I P E az
        obtain ⟨m,hm⟩:∃ m,movN d.ns d.is d.ds s=m:=⟨_,rfl⟩
        rw [hm] at A L ae
        clear hm
        go_wp2_with fail
        clear c9
        refine ZkC w.heap.size ga oa gs os k j C.length qa an Z af ah (some ⟨gl,ol,none⟩) V ap T cn S cf X cl cg Q Y U d s _ _ a am ak aL aI h2 ar m L ?_
        intro u62 u63 u64 u65 u66 u67 u68 u69 u70 u71 W z
        have y:=o.trans (z.mono o.size)
        have F:=u.trans (z.mono u.size)
        have n:=Zae a z
        clear L z a aL aI u am ak o
        rcases ae with rfl | a9
        ·have v:Hid (oneB d=((mvs d (C.drop (j+1))).all (okP d) && (wayP d (d.ls.length - (k+1)) (k+1)).all (okP d))):=by unfold Hid;rw [A.out];simp
         clear A n
         go_wp2_with fail
         go_roundw
         case rel=>exact ⟨j+1,by omega,by go_num,v,y⟩
         case measure=>simp [intOf];omega
        ·have bf:(0:Int) < m:=by omega
         have aV:(m == 0)=false:=by simp;omega
         have a2:=cell_of_row _ _ 0 _ _ _ n
         have aU:=cell_of_row _ _ 1 _ _ _ n
         have aO:=cell_of_row _ _ 2 _ _ _ n
         have aZ:=cell_of_row _ _ 3 _ _ _ n
         have aX:=cell_of_row _ _ 4 _ _ _ n
         have aR:=cell_of_row _ _ 5 _ _ _ n
         have aN:=cell_of_row _ _ 6 _ _ _ n
         have aS:=cell_of_row _ _ 7 _ _ _ n
         have aY:=cell_of_row _ _ 8 _ _ _ n
         have aQ:=cell_of_row _ _ 9 _ _ _ n
         have ay:=cell_of_row _ _ 10 _ _ _ n
         by_cases aM:m < d.nx
         ·have HM:=ad.out m W (by omega) F
          obtain ⟨c,G⟩:∃ c,(pidL d).count m=c:=⟨_,rfl⟩
          rw [G] at HM
          have J:Hid (okP d m=decide (c <= 1)):=by unfold Hid okP;rw [G];simp [aM]
          clear G n
          go_wp2_with fail
          clear a2 aU aO aZ aX aR aN aS aY aQ ay
          refine HM.mono ?_
          rintro e w9 ⟨rfl,av⟩
          have aF:=y.trans (av.mono y.size)
          have aD:=F.trans (av.mono F.size)
          clear HM av y F
          by_cases N:c <= 1
          ·have v:Hid (oneB d=((mvs d (C.drop (j+1))).all (okP d) && (wayP d (d.ls.length - (k+1)) (k+1)).all (okP d))):=by unfold Hid;rw [A.out,J.out];simp [N]
           have aW:¬ (1:Int) < (c:Int):=by omega
           clear A J N
           go_wp2_with fail
           go_roundw
           case rel=>exact ⟨j+1,by omega,by go_num,v,aF⟩
           case measure=>simp [intOf];omega
          ·have v:Hid (oneB d=false):=by unfold Hid;rw [A.out,J.out,aV];simp [N]
           have aW:(1:Int) < (c:Int):=by omega
           clear A J N
           go_wp2
           go_ret
           exact ⟨retB (by rw [HW.out,v.out];rfl),aD⟩
         ·have v:Hid (oneB d=((mvs d (C.drop (j+1))).all (okP d) && (wayP d (d.ls.length - (k+1)) (k+1)).all (okP d))):=by unfold Hid;rw [A.out];unfold okP;simp [aM]
          clear A n
          go_wp2_with fail
          go_roundw
          case rel=>exact ⟨j+1,by omega,by go_num,v,y⟩
          case measure=>simp [intOf];omega
       ·have v:Hid (oneB d=(wayP d (d.ls.length - (k+1)) (k+1)).all (okP d)):=by unfold Hid;rw [E.out,mvs_end (by omega)];rfl
        clear E I
        go_wp2_with fail
        go_roundw
        case rel=>exact ⟨k+1,by omega,by go_num,v,o⟩
        case measure=>simp [intOf];omega
     ·have v:Hid (oneB d=true):=by unfold Hid;rw [E.out,wayP_end (by omega)];rfl
      clear E b f
      go_wp2
      go_ret
      exact ⟨retB (by rw [HW.out,v.out];rfl),u⟩
theorem ZhR {f:FuncId}{b:Func}{c:Code}(d:Tryz.prog.funcs[f]? = some b)(a:(b.name == "runtime.NumGoroutine")=false)(g:b.body=some c)(args:Array Value)(w:World) :
  Sem.run Tryz.prog (callFunc f args) w=.ok (.enter f args) w:=by
 have e:b.name ≠ "runtime.NumGoroutine" := by simpa using a
 simp [callFunc,d,e,g]
theorem ZhZ (K V S Q Y T U N Z:Value)(d:Wd)(w:World)(R:WR 0 w K V S Q Y T U N Z d)(hS:SmW d)(hg:ErrT w)(h O G:Nat)(L:Bool)(j:h < w.heap.size)(I:w.cell? ⟨h,0,none⟩=some (.func (.func G) #[] #[]))(k:∀ args w,Sem.run Tryz.prog (callFunc G args) w=.ok (.enter G args) w)(M:worldB d=true -> (∀ W,Below w.heap.size w W -> Calls Tryz.prog G #[.agg #[K,V,S,.int .i64 d.pl,Q,Y,T,U,.int .i64 d.nx,N,Z]] W fun e X=>e=.returned (.bool L)/\Below W.heap.size W X)) :
  Calls Tryz.prog 24 #[.agg #[K,V,S,.int .i64 d.pl,Q,Y,T,U,.int .i64 d.nx,N,Z],.slice (some ⟨h,0,none⟩) 1 O] w fun e X=>e=.returned (.bool (worldB d && L))/\Below w.heap.size w X:=by
 have R0:=R
 obtain ⟨⟨o,E,rfl⟩,⟨B,z,rfl⟩,⟨C,y,rfl⟩,⟨q,t,rfl⟩,⟨A,n,rfl⟩,⟨s,D,rfl⟩,⟨H,x,rfl⟩,⟨v,u,rfl⟩,⟨F,r,rfl⟩⟩:=R.form
 clear R
 have c:=Zap w (Obj.cells #[.slice o d.ns.length E,.slice B d.is.length z,.slice C d.ds.length y,.int .i64 d.pl,.slice q d.hs.length t,.slice A d.ls.length n,.slice s d.gs.length D,.slice H d.ps.length x,.int .i64 d.nx,.slice v d.ga.length u,.slice F d.tk.length r] 50)
 have l:=heap_alloc_new w (Obj.cells #[.slice o d.ns.length E,.slice B d.is.length z,.slice C d.ds.length y,.int .i64 d.pl,.slice q d.hs.length t,.slice A d.ls.length n,.slice s d.gs.length D,.slice H d.ps.length x,.int .i64 d.nx,.slice v d.ga.length u,.slice F d.tk.length r] 50)
 have i:=(c.cell (p:=⟨h,0,none⟩) j).trans I
 clear I
 go_enter Tryz.func24,Tryz.ntmps24
 go_wp2_with (refine wpList_load_row rfl 50 _ rfl w.heap.size rfl 50 #[.slice o d.ns.length E,.slice B d.is.length z,.slice C d.ds.length y,.int .i64 d.pl,.slice q d.hs.length t,.slice A d.ls.length n,.slice s d.gs.length D,.slice H d.ps.length x,.int .i64 d.nx,.slice v d.ga.length u,.slice F d.tk.length r] (0,0) _ l Tryz.underlying50 rfl Zni ?_)
 refine (iworldok_any _ _ _ _ _ _ _ _ _ d 0 _ (R0.below c) hS.hh.2 (hg.below c (Nat.le_refl _))).mono ?_
 rintro e w1 ⟨rfl,J⟩
 have f:=Zae l J
 have a:=c.trans (J.mono c.size)
 have m:h < (w.alloc (Obj.cells #[.slice o d.ns.length E,.slice B d.is.length z,.slice C d.ds.length y,.int .i64 d.pl,.slice q d.hs.length t,.slice A d.ls.length n,.slice s d.gs.length D,.slice H d.ps.length x,.int .i64 d.nx,.slice v d.ga.length u,.slice F d.tk.length r] 50)).heap.size:=Nat.lt_of_lt_of_le j c.size
 have b:h < w1.heap.size:=Nat.lt_of_lt_of_le m J.size
 replace i:=(J.cell (p:=⟨h,0,none⟩) m).trans i
 clear J l c m j
 cases P:worldB d with
 | false =>
  go_wp2_with fail
  refine Zim w.heap.size h O G o B C q A s H v F E z y t n D x u r d _ _ f b i ?_
  intro u38 u39 u40 u41 u42 u43 u44 u45 u46 u47 W g
  replace f:=Zae f g
  replace i:=(g.cell (p:=⟨h,0,none⟩) b).trans i
  replace b:=Nat.lt_of_lt_of_le b g.size
  replace a:=a.trans (g.mono a.size)
  clear g
  go_wp2
  go_ret
  exact ⟨retB (by rw [P];rfl),a⟩
 | true =>
  go_wp2_with fail
  refine Zhv w.heap.size h O G o B C q A s H v F E z y t n D x u r d _ _ f b i k L (fun W g=>M P W (a.trans (g.mono a.size))) ?_
  intro u38 u39 u40 u41 u42 u43 u44 u45 u46 u47 W g
  replace f:=Zae f g
  replace i:=(g.cell (p:=⟨h,0,none⟩) b).trans i
  replace b:=Nat.lt_of_lt_of_le b g.size
  replace a:=a.trans (g.mono a.size)
  clear g
  go_wp2
  go_ret
  exact ⟨retB (by rw [P];rfl),a⟩
theorem ZhV (y H E D K F G A L:Value)(d:Wd)(w:World)(R:WR 0 w y H E D K F G A L d)(z:SmW d)(C:ErrT w) :
  Calls Tryz.prog 7 #[.agg #[y,H,E,.int .i64 d.pl,D,K,F,G,.int .i64 d.nx,A,L]] w fun e O=>e=.returned (.bool (worldB d && oneB d))/\Below w.heap.size w O:=by
 have B:=R
 obtain ⟨⟨f,t,rfl⟩,⟨q,o,rfl⟩,⟨r,n,rfl⟩,⟨g,j,rfl⟩,⟨p,c,rfl⟩,⟨i,s,rfl⟩,⟨x,m,rfl⟩,⟨l,k,rfl⟩,⟨u,h,rfl⟩⟩:=R.form
 clear R
 have b:=heap_alloc_new w (Obj.cells #[.slice f d.ns.length t,.slice q d.is.length o,.slice r d.ds.length n,.int .i64 d.pl,.slice g d.hs.length j,.slice p d.ls.length c,.slice i d.gs.length s,.slice x d.ps.length m,.int .i64 d.nx,.slice l d.ga.length k,.slice u d.tk.length h] 50)
 obtain ⟨a,M,v⟩:=Zav w (Obj.cells #[.slice f d.ns.length t,.slice q d.is.length o,.slice r d.ds.length n,.int .i64 d.pl,.slice g d.hs.length j,.slice p d.ls.length c,.slice i d.gs.length s,.slice x d.ps.length m,.int .i64 d.nx,.slice l d.ga.length k,.slice u d.tk.length h] 50) (Obj.cells #[.func (.func 25) #[] #[]] 128)
 go_enter Tryz.func7,Tryz.ntmps7
 go_wp2_with (refine wpList_load_row rfl 50 _ rfl w.heap.size rfl 50 #[.slice f d.ns.length t,.slice q d.is.length o,.slice r d.ds.length n,.int .i64 d.pl,.slice g d.hs.length j,.slice p d.ls.length c,.slice i d.gs.length s,.slice x d.ps.length m,.int .i64 d.nx,.slice l d.ga.length k,.slice u d.tk.length h] (0,0) _ b Tryz.underlying50 rfl Zni ?_)
 refine (ZhZ _ _ _ _ _ _ _ _ _ d _ (B.below a) z (C.below a (Nat.le_refl _)) (w.heap.size+1) _ 25 (oneB d) (Zao v) (cell_of_row _ _ 0 _ _ _ v) (ZhR Tryz.func25 (by kernel_rfl) rfl) (fun N W I=>ZfN _ _ _ _ _ _ _ _ _ d W (B.below (a.trans (I.mono a.size))) z (C.below (a.trans (I.mono a.size)) (Nat.le_refl _)) N)).mono ?_
 rintro e P ⟨rfl,J⟩
 replace a:=a.trans (J.mono a.size)
 clear J M v b
 go_wp2
 go_ret
 exact ⟨rfl,a⟩
end Go.Proofs.YtfeodlbpnghakaaGreatDoor
