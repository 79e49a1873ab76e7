/-
  Texts that stood by themselves, laid into one.
-/
import Derived.Test.YtkpfangkfknhoaaGreatDoorJgNM
import Derived.Test.YtkpfangkfknhoaaGreatDoorSWhM
import Derived.Test.YtkpfangkfknhoaaGreatDoorShelfJM
/-
  Contracts of spec's l15Many and JudgeOnce. Of a world that is right.
-/
set_option maxRecDepth 100000
set_option maxHeartbeats 3200000
namespace Go.Proofs.YtkpfangkfknhoaaGreatDoor
open Go.Proofs.Tryz
open Go.RowKit
theorem Zlt (ns:List Nd)(is:List In)(ds:List Df)(s:ByteArray):movN ns is ds s=0 \/ 1 <= movN ns is ds s:=by
 unfold movN;split
 ·exact Or.inl rfl
 ·rename_i k p t h
  split
  ·have b:=@ZgJ ns is ds (sb t) (pdT (pdR ns is ds (sb t))).1 _ _ _ _ _ rfl
   cases a:(pdT (pdR ns is ds (sb t))).2.2.2.2.2 with
   | true=>exact Or.inr (b.1 a)
   | false=>exact Or.inl (b.2 a)
  ·exact Or.inl rfl
theorem ZjJ {d:Wd}{ts:List ByteArray}{j:Nat}{s:ByteArray}{p:Int}(h:ts[j]? = some s)(b:p ≠ 0):(mvs d (ts.drop j)).count p=(if movN d.ns d.is d.ds s == p then 1 else 0)+(mvs d (ts.drop (j+1))).count p:=by
 rw [Ze3 h,List.count_append]
 by_cases a:movN d.ns d.is d.ds s=0
 ·rw [if_pos a,a]
  have:((0:Int) == p)=false:=by simp;omega
  rw [this];simp
 ·rw [if_neg a,List.count_singleton]
theorem ZiD {a:List Int}{k:Nat}{x p:Int}(h:a[k]? = some x):(a.drop k).count p=(if x == p then 1 else 0)+(a.drop (k+1)).count p:=by
 obtain ⟨b,rfl⟩:=List.getElem?_eq_some_iff.1 h;rw [List.drop_eq_getElem_cons b,List.count_cons];omega
theorem Zlw {a:List Int}{k:Nat}{x:Int}{f:Int -> Bool}(h:a[k]? = some x):(a.drop k).all f=(f x && (a.drop (k+1)).all f):=by
 obtain ⟨b,rfl⟩:=List.getElem?_eq_some_iff.1 h;rw [List.drop_eq_getElem_cons b,List.all_cons]
theorem Zl2 {d:Wd}{ts:List ByteArray}{j:Nat}{s:ByteArray}{f:Int -> Bool}(h:ts[j]? = some s):(mvs d (ts.drop j)).all f=((movN d.ns d.is d.ds s == 0 || f (movN d.ns d.is d.ds s)) && (mvs d (ts.drop (j+1))).all f):=by
 rw [Ze3 h,List.all_append]
 by_cases a:movN d.ns d.is d.ds s=0
 ·rw [if_pos a,a]
  rfl
 ·rw [if_neg a]
  have:(movN d.ns d.is d.ds s == 0)=false:=by simpa using a
  rw [this];simp
theorem ZgG (vn vi vf vh vl vg vp va vt:Value)(d:Wd)(p:Int)(w:World)(R:WR 0 w vn vi vf vh vl vg vp va vt d)(hS:SmW d)(hw:Zaq d=true)(hp:p ≠ 0) :
  Calls prog 43 #[.agg #[vn,vi,vf,.int .i64 d.pl,vh,vl,vg,vp,.int .i64 d.nx,va,vt],.int .i64 p] w fun e w'=>e=.returned (.int .i64 ((pidL d).count p:Nat))/\Below w.heap.size w w':=by
 obtain ⟨aL,aJ,_⟩:=ZbS hw;have L0:Hid (LkAll d):=Zcq hw;have aG:d.ls.length <= d.ga.length:=by have:=L0.out.lg;omega
 have ao:Hid (p ≠ 0):=hp;clear hw hp;have R0:=R;obtain ⟨⟨an,cn,rfl⟩,⟨ai,ci,rfl⟩,⟨af,cf,rfl⟩,⟨ah,ch,rfl⟩,⟨al,cl,rfl⟩,⟨ag,cg,rfl⟩,⟨ap,cp,rfl⟩,⟨aa,ca,rfl⟩,⟨ab,cb,rfl⟩⟩:=R.form;clear R;have A:=Zap w (Obj.cells #[.slice an d.ns.length cn,.slice ai d.is.length ci,.slice af d.ds.length cf,.int .i64 d.pl,.slice ah d.hs.length ch,.slice al d.ls.length cl,.slice ag d.gs.length cg,.slice ap d.ps.length cp,.int .i64 d.nx,.slice aa d.ga.length ca,.slice ab d.tk.length cb] 50);have H:=co w (Obj.cells #[.slice an d.ns.length cn,.slice ai d.is.length ci,.slice af d.ds.length cf,.int .i64 d.pl,.slice ah d.hs.length ch,.slice al d.ls.length cl,.slice ag d.gs.length cg,.slice ap d.ps.length cp,.int .i64 d.nx,.slice aa d.ga.length ca,.slice ab d.tk.length cb] 50);obtain ⟨aF,az,am,_,_,a⟩:=R0.rh;simp only [Value.slice.injEq] at am
 obtain ⟨rfl,_,rfl⟩:=am;obtain ⟨aK,ay,U,_,_,b⟩:=R0.ra;simp only [Value.slice.injEq] at U;obtain ⟨rfl,_,rfl⟩:=U;obtain ⟨aE,aB,V,_,_,f⟩:=R0.rl;simp only [Value.slice.injEq] at V;obtain ⟨rfl,_,rfl⟩:=V;have HV:Hid ((pidL d).count p=0+((d.hs.map Hm.i).drop 0).count p+(wayP d (d.ls.length - 0) 0).count p):=by unfold Hid pidL;rw [List.count_append];simp
 go_enter func43,ntmps43
 go_wp2_with fail;have aI:=Zao H;generalize w.alloc (Obj.cells #[.slice an d.ns.length cn,.slice ai d.is.length ci,.slice af d.ds.length cf,.int .i64 d.pl,.slice ah d.hs.length ch,.slice al d.ls.length cl,.slice ag d.gs.length cg,.slice ap d.ps.length cp,.int .i64 d.nx,.slice aa d.ga.length ca,.slice ab d.tk.length cb] 50)=P at *
 go_loopw [5,6] (fun c i wr=>∃ k n:Nat,k <= d.hs.length/\i=.int .i64 k/\c=.int .i64 n/\Hid ((pidL d).count p=n+((d.hs.map Hm.i).drop k).count p+(wayP d (d.ls.length - 0) 0).count p)/\n <= k/\Below P.heap.size P wr) (fun _ i _=>d.hs.length - (intOf i).toNat)
 case atStart=>exact ⟨0,0,by omega,rfl,rfl,HV,by omega,cj _ _⟩
 case round =>
  clear HV;obtain ⟨k,n,hk,rfl,rfl,u,hn,v⟩:=hrel;have g:=A.trans (v.mono A.size);have ad:=Zaa H v;have c4:=cd _ _ 4 _ _ _ ad
  by_cases y:k < d.hs.length
  ·have au:(k:Int) < (d.hs.length:Int):=by omega
   obtain ⟨gh,oh,rfl,_,ak,a⟩:=a (by intro e;rw [e] at y;simp at y);obtain ⟨x,D⟩:∃ x,d.hs[k]? = some x:=⟨d.hs[k],List.getElem?_eq_getElem _⟩;obtain ⟨cs,N,M,v1,v2,v3,hc,N1,S1,S2,_,_,_⟩:=a k x D;obtain ⟨n1,m1,rfl⟩:=N1.small8;obtain ⟨n2,m2,rfl⟩:=S1.small;obtain ⟨n3,m3,rfl⟩:=S2.small;obtain rfl:cs=(#[.int .i64 x.pl,.int .i64 x.i,.slice n1 x.xs.length m1,.int .i64 x.m.p,.int .i64 x.m.s,.int .i64 x.m.e,.int .i64 x.m.d,.int .i64 x.m.t,.int .i64 x.m.q,.int .i64 x.m.r,.slice n2 x.bx.length m2,.slice n3 x.ox.length m3]:Array Value).toList:=congrArg Array.toList hc;replace M:=Zaf M g ak;clear a hc N N1 S1 S2;have c1:wr.cell? ⟨gh,oh+k * 12+1,none⟩=some (.int .i64 x.i):=M 1 _ rfl
   have z:Hid ((pidL d).count p=n+((if x.i == p then 1 else 0)+((d.hs.map Hm.i).drop (k+1)).count p)+(wayP d (d.ls.length - 0) 0).count p):=by unfold Hid;rw [u.out,ZiD (x:=x.i) (by rw [List.getElem?_map,D];rfl)]
   have ax:=cy ak g.size;clear D M u;cases e:(x.i == p) with
   | true =>
    have o:Hid ((pidL d).count p=(n+1)+((d.hs.map Hm.i).drop (k+1)).count p+(wayP d (d.ls.length - 0) 0).count p):=by unfold Hid;rw [z.out,e,if_pos rfl];omega
    clear z;go_wp2_with fail
    go_roundw
    case rel=>exact ⟨k+1,n+1,by omega,by go_num,by go_num,o,by omega,v⟩
    case measure=>simp [intOf];omega
   | false =>
    have o:Hid ((pidL d).count p=n+((d.hs.map Hm.i).drop (k+1)).count p+(wayP d (d.ls.length - 0) 0).count p):=by unfold Hid;rw [z.out,e,if_neg (by simp)];omega
    clear z;go_wp2_with fail
    go_roundw
    case rel=>exact ⟨k+1,n,by omega,by go_num,rfl,o,by omega,v⟩
    case measure=>simp [intOf];omega
  ·have o:Hid ((pidL d).count p=n+(wayP d (d.ls.length - 0) 0).count p):=by unfold Hid;rw [u.out,List.drop_eq_nil_of_le (by rw [List.length_map];omega)];simp
   have aq:n <= 8:=by omega
   clear u a;go_wp2_with fail;clear c4
   go_loopw [5,7] (fun c i wx=>∃ k n:Nat,k <= d.ls.length/\i=.int .i64 k/\c=.int .i64 n/\Hid ((pidL d).count p=n+(wayP d (d.ls.length - k) k).count p)/\n <= 8+k * 100000/\Below P.heap.size P wx) (fun _ i _=>d.ls.length - (intOf i).toNat)
   case atStart=>exact ⟨0,n,by omega,rfl,rfl,o,by omega,v⟩
   case round =>
    clear o aq hn g ad v;obtain ⟨k,n,hk,rfl,rfl,u,hn,E⟩:=hrel;have g:=A.trans (E.mono A.size);have D:=Zaa H E;have c5:=cd _ _ 5 _ _ _ D
    by_cases y:k < d.ls.length
    ·have au:(k:Int) < (d.ls.length:Int):=by omega
     have h2:k < d.ga.length:=by omega
     have aH:(k:Int) < (d.ga.length:Int):=by omega
     obtain ⟨ga,oa,rfl,_,Y,b⟩:=b (by intro e;rw [e] at h2;simp at h2);obtain ⟨gl,ol,rfl,_,ac,f⟩:=f (by intro e;rw [e] at y;simp at y);obtain ⟨l,hl⟩:∃ x,d.ls[k]? = some x:=⟨d.ls[k],List.getElem?_eq_getElem _⟩;obtain ⟨ts,C⟩:∃ x,d.ga[k]? = some x:=⟨d.ga[k],List.getElem?_eq_getElem _⟩;obtain ⟨cs,N,M,vq,aC,hc,L1,L2,_,_⟩:=f k l hl;obtain ⟨_,_,Q,ua,rfl,A1,_⟩:=b k ts C;obtain ⟨pq,qq,rfl⟩:=L1.small;obtain ⟨ph,qh,rfl⟩:=L2.small;obtain ⟨pa,qa,rfl,_,_,_,B⟩:=A1;obtain rfl:cs=(#[.int .i64 l.sent,.int .i64 l.acked,.slice pq l.q.length qq,.int .i64 l.got,.slice ph l.h.length qh]:Array Value).toList:=congrArg Array.toList hc;obtain ⟨F,ar⟩:=L0.out.ts hl C;obtain ⟨K,L⟩:∃ K:Nat,l.got=K:=⟨l.got.toNat,by have:=Za7 F;omega⟩;have aw:K <= ts.length:=by have:=Za7 F;omega
     have aD:ts.length <= 100000:=by have:=Za7 F;omega
     have Z:∀ x ∈ ts,x.size <= 1048576:=(hS.ha.2 ts (List.mem_of_getElem? C)).2;have ae:wayT d k=ts.drop K:=by rw [Zfi hl C,L,show ((K:Int)).toNat=K by omega]
     have k3:=Zaf M g ac 3 _ rfl;have ka:=ZaT Q;rw [Nat.mul_one] at ka;have z:Hid ((pidL d).count p=n+((mvs d (ts.drop K)).count p+(wayP d (d.ls.length - (k+1)) (k+1)).count p)):=by unfold Hid;rw [u.out,ZdP y,List.count_append,ae]
     rw [L] at k3;clear f b hl C hc N Q M L1 L2 u F ar L ae L0;have aA:=cy ac g.size;go_wp2_with fail;clear c5 k3
     go_loopw [5,8] (fun c i wy=>∃ j n:Nat,j <= ts.length/\i=.int .i64 j/\c=.int .i64 n/\Hid ((pidL d).count p=n+((mvs d (ts.drop j)).count p+(wayP d (d.ls.length - (k+1)) (k+1)).count p))/\n <= 8+k * 100000+j/\Below P.heap.size P wy) (fun _ i _=>ts.length - (intOf i).toNat)
     case atStart=>exact ⟨K,n,by omega,rfl,rfl,z,by omega,E⟩
     case round =>
      clear z hn E g D;obtain ⟨j,n,hj,rfl,rfl,u,hn,E⟩:=hrel;have g:=A.trans (E.mono A.size);have D:=Zaa H E;have c9:=cd _ _ 9 _ _ _ D;have S:=(g.cell (p:=⟨ga,oa+k,none⟩) Y).trans ka;have J:=cy Y g.size
      by_cases O:j < ts.length
      ·obtain ⟨gs,os,rfl,T,B⟩:=B (by intro e;rw [e] at O;simp at O)
       obtain ⟨s,G⟩:∃ x,ts[j]? = some x:=⟨ts[j],List.getElem?_eq_getElem _⟩;have aj:=(g.cell (p:=⟨gs,os+j,none⟩) T).trans (B j s G);have I:=cy T g.size;have av:=Z s (List.mem_of_getElem? G);have z:Hid ((pidL d).count p=n+(((if movN d.ns d.is d.ds s == p then 1 else 0)+(mvs d (ts.drop (j+1))).count p)+(wayP d (d.ls.length - (k+1)) (k+1)).count p)):=by unfold Hid;rw [u.out,ZjJ G ao.out]
       have HC:=fun W (hW:Below _ _ W)=>Zdi _ _ _ _ _ _ _ _ _ d s _ W (R0.below (g.trans (hW.mono g.size))) av
       clear B G u Z;obtain ⟨m,hm⟩:∃ m,movN d.ns d.is d.ds s=m:=⟨_,rfl⟩;rw [hm] at z HC;clear hm;go_wp2_with fail;clear c9;refine ZkY w.heap.size ga oa gs os k j ts.length qa p an ai af ah (some ⟨gl,ol,none⟩) ag ap ab cn ci cf ch cl cg cp ca cb d s _ _ D J I S aj h2 O m HC ?_;intro u50 u51 u52 u53 u54 u55 u56 u57 u58 u59 u60 W hW;have X:=E.trans (hW.mono E.size);clear HC hW D S aj g J I;cases e:(m == p) with
       | true =>
        have o:Hid ((pidL d).count p=(n+1)+((mvs d (ts.drop (j+1))).count p+(wayP d (d.ls.length - (k+1)) (k+1)).count p)):=by unfold Hid;rw [z.out,e,if_pos rfl];omega
        clear z;go_wp2_with fail
        go_roundw
        case rel=>exact ⟨j+1,n+1,by omega,by go_num,by go_num,o,by omega,X⟩
        case measure=>simp [intOf];omega
       | false =>
        have o:Hid ((pidL d).count p=n+((mvs d (ts.drop (j+1))).count p+(wayP d (d.ls.length - (k+1)) (k+1)).count p)):=by unfold Hid;rw [z.out,e,if_neg (by simp)];omega
        clear z;go_wp2_with fail
        go_roundw
        case rel=>exact ⟨j+1,n,by omega,by go_num,rfl,o,by omega,X⟩
        case measure=>simp [intOf];omega
      ·have o:Hid ((pidL d).count p=n+(wayP d (d.ls.length - (k+1)) (k+1)).count p):=by unfold Hid;rw [u.out,ZgK (by omega)];simp
       clear u B;go_wp2_with fail
       go_roundw
       case rel=>exact ⟨k+1,n,by omega,by go_num,rfl,o,by omega,E⟩
       case measure=>simp [intOf];omega
    ·have o:Hid ((n:Int)=((pidL d).count p:Nat)):=by unfold Hid;rw [u.out,Zfo (by omega)];simp
     clear u f b;go_wp2;go_ret;exact ⟨Zjr o.out,g⟩
theorem Zig (vn vi vf vh vl vg vp va vt:Value)(d:Wd)(w:World)(R:WR 0 w vn vi vf vh vl vg vp va vt d)(hS:SmW d) :
  Calls prog 16 #[.agg #[vn,vi,vf,.int .i64 d.pl,vh,vl,vg,vp,.int .i64 d.nx,va,vt]] w fun e w'=>e=.returned (.bool (Zaq d && oneB d))/\Below w.heap.size w w':=by
 have R0:=R;obtain ⟨⟨an,cn,rfl⟩,⟨X,ci,rfl⟩,⟨af,Z,rfl⟩,⟨ah,V,rfl⟩,⟨al,T,rfl⟩,⟨ag,cg,rfl⟩,⟨U,Y,rfl⟩,⟨aa,ca,rfl⟩,⟨Q,cb,rfl⟩⟩:=R.form;clear R;have O:=Zap w (Obj.cells #[.slice an d.ns.length cn,.slice X d.is.length ci,.slice af d.ds.length Z,.int .i64 d.pl,.slice ah d.hs.length V,.slice al d.ls.length T,.slice ag d.gs.length cg,.slice U d.ps.length Y,.int .i64 d.nx,.slice aa d.ga.length ca,.slice Q d.tk.length cb] 50);have ar:=co w (Obj.cells #[.slice an d.ns.length cn,.slice X d.is.length ci,.slice af d.ds.length Z,.int .i64 d.pl,.slice ah d.hs.length V,.slice al d.ls.length T,.slice ag d.gs.length cg,.slice U d.ps.length Y,.int .i64 d.nx,.slice aa d.ga.length ca,.slice Q d.tk.length cb] 50)
 go_enter func16,ntmps16
 go_wp2_with (refine cE rfl 50 _ rfl w.heap.size rfl 50 #[.slice an d.ns.length cn,.slice X d.is.length ci,.slice af d.ds.length Z,.int .i64 d.pl,.slice ah d.hs.length V,.slice al d.ls.length T,.slice ag d.gs.length cg,.slice U d.ps.length Y,.int .i64 d.nx,.slice aa d.ga.length ca,.slice Q d.tk.length cb] (0,0) _ ar underlying50 rfl ZnQ ?_)
 refine (ZfE _ _ _ _ _ _ _ _ _ d 0 _ (R0.below O) hS.hh.2).mono ?_;rintro e w1 ⟨rfl,u⟩;have aq:=Zaa ar u;have C:=O.trans (u.mono O.size);clear u ar O;cases hw:Zaq d with
 | false =>
  go_wp2;go_ret;exact ⟨retB (by rw [hw];rfl),C⟩
 | true =>
  have HW:Hid (Zaq d=true):=hw;obtain ⟨bg,be,P⟩:=ZbS hw;have L0:Hid (LkAll d):=Zcq hw;have ba:d.ls.length <= d.ga.length:=by have:=L0.out.lg;omega
  have aj:Hid (∀ (p:Int) W,p ≠ 0 -> Below w.heap.size w W -> Calls prog 43 #[.agg #[.slice an d.ns.length cn,.slice X d.is.length ci,.slice af d.ds.length Z,.int .i64 d.pl,.slice ah d.hs.length V,.slice al d.ls.length T,.slice ag d.gs.length cg,.slice U d.ps.length Y,.int .i64 d.nx,.slice aa d.ga.length ca,.slice Q d.tk.length cb],.int .i64 p] W fun e w'=>e=.returned (.int .i64 ((pidL d).count p:Nat))/\Below W.heap.size W w'):=fun p W hp y=>ZgG _ _ _ _ _ _ _ _ _ d p W (R0.below y) hS hw hp
  have aV:Hid (∀ x ∈ d.hs,1 <= x.i):=P;have HV:Hid (oneB d=(((d.hs.map Hm.i).drop 0).all (okP d) && (wayP d (d.ls.length - 0) 0).all (okP d))):=ZiK d;clear hw P;obtain ⟨a9,a3,aK,_,_,b⟩:=R0.rh;simp only [Value.slice.injEq] at aK;obtain ⟨rfl,_,rfl⟩:=aK;obtain ⟨bf,a2,ay,_,_,f⟩:=R0.ra;simp only [Value.slice.injEq] at ay;obtain ⟨rfl,_,rfl⟩:=ay;obtain ⟨a8,a5,aA,_,_,g⟩:=R0.rl;simp only [Value.slice.injEq] at aA;obtain ⟨rfl,_,rfl⟩:=aA;go_wp2_with fail
  go_loopw [3] (fun i wr=>∃ k:Nat,k <= d.hs.length/\i=.int .i64 k/\Hid (oneB d=(((d.hs.map Hm.i).drop k).all (okP d) && (wayP d (d.ls.length - 0) 0).all (okP d)))/\Below w1.heap.size w1 wr) (fun i _=>d.hs.length - (intOf i).toNat)
  case atStart=>exact ⟨0,by omega,rfl,HV,cj _ _⟩
  case round =>
   clear HV;obtain ⟨k,hk,rfl,D,u⟩:=hrel;have o:=C.trans (u.mono C.size);have a:=Zaa aq u;have c4:=cd _ _ 4 _ _ _ a
   by_cases A:k < d.hs.length
   ·have aU:(k:Int) < (d.hs.length:Int):=by omega
    obtain ⟨gh,oh,rfl,_,aJ,b⟩:=b (by intro e;rw [e] at A;simp at A);obtain ⟨x,hx⟩:∃ x,d.hs[k]? = some x:=⟨d.hs[k],List.getElem?_eq_getElem _⟩;obtain ⟨cs,ao,hr,v1,v2,v3,E,N1,S1,S2,_,_,_⟩:=b k x hx;obtain ⟨n1,m1,rfl⟩:=N1.small8;obtain ⟨n2,m2,rfl⟩:=S1.small;obtain ⟨n3,m3,rfl⟩:=S2.small;obtain rfl:cs=(#[.int .i64 x.pl,.int .i64 x.i,.slice n1 x.xs.length m1,.int .i64 x.m.p,.int .i64 x.m.s,.int .i64 x.m.e,.int .i64 x.m.d,.int .i64 x.m.t,.int .i64 x.m.q,.int .i64 x.m.r,.slice n2 x.bx.length m2,.slice n3 x.ox.length m3]:Array Value).toList:=congrArg Array.toList E;replace hr:=Zaf hr o aJ;clear b E ao N1 S1 S2;have c1:wr.cell? ⟨gh,oh+k * 12+1,none⟩=some (.int .i64 x.i):=hr 1 _ rfl
    have B:Hid (oneB d=((okP d x.i && ((d.hs.map Hm.i).drop (k+1)).all (okP d)) && (wayP d (d.ls.length - 0) 0).all (okP d))):=by unfold Hid;rw [D.out,Zlw (x:=x.i) (by rw [List.getElem?_map,hx];rfl)]
    have G:=cy aJ o.size;have ac:x.i ≠ 0:=by have:=aV.out x (List.mem_of_getElem? hx);omega
    have K:=fun W (y:Below _ _ W)=>aj.out x.i W ac (o.trans (y.mono o.size))
    obtain ⟨c,E⟩:∃ c,(pidL d).count x.i=c:=⟨_,rfl⟩;rw [E] at K;have H:Hid (okP d x.i=(!(decide (x.i < d.nx)) || decide (c <= 1))):=by unfold Hid okP;rw [E]
    clear hx hr D E ac
    by_cases hp:x.i < d.nx
    ·cases er:decide ((1:Int) < (c:Int)) with
     | true =>
      have v:Hid (oneB d=false):=by unfold Hid;rw [B.out,H.out];have h9:¬ c <= 1:=(by simp at er;omega);simp [hp,h9]
      go_wp2_with fail;clear c4;refine ZhJ w.heap.size gh oh k x.i an X af al ag U aa Q cn ci Z V T cg Y ca cb d _ _ a G c1 A hp (c:Int) true er K ?_;intro u17 u18 u19 u20 u21 u22 u23 u24 u25 u26 u27 u28 u29 u30 u31 u32 u33 u34 u35 u36 u37 W y;have F:=o.trans (y.mono o.size);clear K y a c1 B H;go_wp2;go_ret;exact ⟨retB (by rw [HW.out,v.out];rfl),F⟩
     | false =>
      have v:Hid (oneB d=(((d.hs.map Hm.i).drop (k+1)).all (okP d) && (wayP d (d.ls.length - 0) 0).all (okP d))):=by unfold Hid;rw [B.out,H.out];have h9:c <= 1:=(by simp at er;omega);simp [h9]
      go_wp2_with fail;clear c4;refine ZhJ w.heap.size gh oh k x.i an X af al ag U aa Q cn ci Z V T cg Y ca cb d _ _ a G c1 A hp (c:Int) false er K ?_;intro u17 u18 u19 u20 u21 u22 u23 u24 u25 u26 u27 u28 u29 u30 u31 u32 u33 u34 u35 u36 u37 W y;have z:=u.trans (y.mono u.size);clear K y a c1 B H o;go_wp2_with fail
      go_roundw
      case rel=>exact ⟨k+1,by omega,by go_num,v,z⟩
      case measure=>simp [intOf];omega
    ·have v:Hid (oneB d=(((d.hs.map Hm.i).drop (k+1)).all (okP d) && (wayP d (d.ls.length - 0) 0).all (okP d))):=by unfold Hid;rw [B.out,H.out];simp [hp]
     go_wp2_with fail;clear c4;refine ZlA w.heap.size gh oh k x.i an X af al ag U aa Q cn ci Z V T cg Y ca cb d _ _ a G c1 A (by omega) ?_;intro u17 u18 u19 u20 u21 u22 u23 u24 u25 u26 u27 u28 u29 u30 u31 u32 u33 u34 u35 u36 u37 W y;have z:=u.trans (y.mono u.size);clear K y a c1 B H o;go_wp2_with fail
     go_roundw
     case rel=>exact ⟨k+1,by omega,by go_num,v,z⟩
     case measure=>simp [intOf];omega
   ·have v:Hid (oneB d=(wayP d (d.ls.length - 0) 0).all (okP d)):=by unfold Hid;rw [D.out,List.drop_eq_nil_of_le (by rw [List.length_map];omega)];simp
    clear D b;go_wp2_with fail;clear c4
    go_loopw [4] (fun i wx=>∃ k:Nat,k <= d.ls.length/\i=.int .i64 k/\Hid (oneB d=(wayP d (d.ls.length - k) k).all (okP d))/\Below w1.heap.size w1 wx) (fun i _=>d.ls.length - (intOf i).toNat)
    case atStart=>exact ⟨0,by omega,rfl,v,u⟩
    case round =>
     clear v u o a;obtain ⟨k,hk,rfl,D,u⟩:=hrel;have o:=C.trans (u.mono C.size);have a:=Zaa aq u;have c5:=cd _ _ 5 _ _ _ a
     by_cases A:k < d.ls.length
     ·have aU:(k:Int) < (d.ls.length:Int):=by omega
      have h2:k < d.ga.length:=by omega
      have bc:(k:Int) < (d.ga.length:Int):=by omega
      obtain ⟨ga,oa,rfl,_,aC,f⟩:=f (by intro e;rw [e] at h2;simp at h2);obtain ⟨gl,ol,rfl,_,aE,g⟩:=g (by intro e;rw [e] at A;simp at A);obtain ⟨l,hl⟩:∃ x,d.ls[k]? = some x:=⟨d.ls[k],List.getElem?_eq_getElem _⟩;obtain ⟨ts,J⟩:∃ x,d.ga[k]? = some x:=⟨d.ga[k],List.getElem?_eq_getElem _⟩;obtain ⟨cs,ao,hr,vq,a6,E,L1,L2,_,_⟩:=g k l hl;obtain ⟨_,_,av,ua,rfl,A1,_⟩:=f k ts J;obtain ⟨pq,qq,rfl⟩:=L1.small;obtain ⟨ph,qh,rfl⟩:=L2.small;obtain ⟨pa,qa,rfl,_,_,_,I⟩:=A1;obtain rfl:cs=(#[.int .i64 l.sent,.int .i64 l.acked,.slice pq l.q.length qq,.int .i64 l.got,.slice ph l.h.length qh]:Array Value).toList:=congrArg Array.toList E;obtain ⟨L,aQ⟩:=L0.out.ts hl J;obtain ⟨g0,ak⟩:∃ g0:Nat,l.got=g0:=⟨l.got.toNat,by have:=Za7 L;omega⟩;have a1:g0 <= ts.length:=by have:=Za7 L;omega
      have a7:ts.length <= 100000:=by have:=Za7 L;omega
      have aD:∀ x ∈ ts,x.size <= 1048576:=(hS.ha.2 ts (List.mem_of_getElem? J)).2;have aH:wayT d k=ts.drop g0:=by rw [Zfi hl J,ak,show ((g0:Int)).toNat=g0 by omega]
      have k3:=Zaf hr o aE 3 _ rfl;have ka:=ZaT av;rw [Nat.mul_one] at ka;have B:Hid (oneB d=((mvs d (ts.drop g0)).all (okP d) && (wayP d (d.ls.length - (k+1)) (k+1)).all (okP d))):=by unfold Hid;rw [D.out,ZdP A,List.all_append,aH]
      rw [ak] at k3;clear g f hl J E ao av hr L1 L2 D L aQ ak aH L0;have a4:=cy aE o.size;go_wp2_with fail;clear c5 k3
      go_loopw [5] (fun i wy=>∃ j:Nat,j <= ts.length/\i=.int .i64 j/\Hid (oneB d=((mvs d (ts.drop j)).all (okP d) && (wayP d (d.ls.length - (k+1)) (k+1)).all (okP d)))/\Below w1.heap.size w1 wy) (fun i _=>ts.length - (intOf i).toNat)
      case atStart=>exact ⟨g0,by omega,rfl,B,u⟩
      case round =>
       clear B u o a;obtain ⟨j,hj,rfl,D,u⟩:=hrel;have o:=C.trans (u.mono C.size);have a:=Zaa aq u;have c9:=cd _ _ 9 _ _ _ a;have aw:=(o.cell (p:=⟨ga,oa+k,none⟩) aC).trans ka;have ae:=cy aC o.size
       by_cases au:j < ts.length
       ·obtain ⟨gs,os,rfl,ax,I⟩:=I (by intro e;rw [e] at au;simp at au)
        obtain ⟨s,N⟩:∃ x,ts[j]? = some x:=⟨ts[j],List.getElem?_eq_getElem _⟩;have aI:=(o.cell (p:=⟨gs,os+j,none⟩) ax).trans (I j s N);have S:=cy ax o.size;have aY:=aD s (List.mem_of_getElem? N);have B:Hid (oneB d=(((movN d.ns d.is d.ds s == 0 || okP d (movN d.ns d.is d.ds s)) && (mvs d (ts.drop (j+1))).all (okP d)) && (wayP d (d.ls.length - (k+1)) (k+1)).all (okP d))):=by unfold Hid;rw [D.out,Zl2 N]
        have K:=fun W (y:Below _ _ W)=>Zdi _ _ _ _ _ _ _ _ _ d s _ W (R0.below (o.trans (y.mono o.size))) aY
        have ad:=Zlt d.ns d.is d.ds s;clear I N D aD;obtain ⟨m,hm⟩:∃ m,movN d.ns d.is d.ds s=m:=⟨_,rfl⟩;rw [hm] at B K ad;clear hm;go_wp2_with fail;clear c9;refine ZlD w.heap.size ga oa gs os k j ts.length qa an X af ah (some ⟨gl,ol,none⟩) ag U Q cn ci Z V T cg Y ca cb d s _ _ a ae S aw aI h2 au m K ?_;intro u62 u63 u64 u65 u66 u67 u68 u69 u70 u71 W y;have z:=u.trans (y.mono u.size);have F:=o.trans (y.mono o.size);have n:=Zaa a y;clear K y a aw aI o ae S u;rcases ad with rfl | bd
        ·have v:Hid (oneB d=((mvs d (ts.drop (j+1))).all (okP d) && (wayP d (d.ls.length - (k+1)) (k+1)).all (okP d))):=by unfold Hid;rw [B.out];simp
         clear B n;go_wp2_with fail
         go_roundw
         case rel=>exact ⟨j+1,by omega,by go_num,v,z⟩
         case measure=>simp [intOf];omega
        ·have bh:(0:Int) < m:=by omega
         have aN:(m == 0)=false:=by simp;omega
         have aX:=cd _ _ 0 _ _ _ n;have aZ:=cd _ _ 1 _ _ _ n;have aO:=cd _ _ 2 _ _ _ n;have a0:=cd _ _ 3 _ _ _ n;have aT:=cd _ _ 4 _ _ _ n;have aS:=cd _ _ 5 _ _ _ n;have aW:=cd _ _ 6 _ _ _ n;have aR:=cd _ _ 7 _ _ _ n;have aP:=cd _ _ 8 _ _ _ n;have aL:=cd _ _ 9 _ _ _ n;have aG:=cd _ _ 10 _ _ _ n
         by_cases aB:m < d.nx
         ·have HM:=aj.out m W (by omega) F
          obtain ⟨c,E⟩:∃ c,(pidL d).count m=c:=⟨_,rfl⟩;rw [E] at HM;have H:Hid (okP d m=decide (c <= 1)):=by unfold Hid okP;rw [E];simp [aB]
          clear E n;go_wp2_with fail;clear aX aZ aO a0 aT aS aW aR aP aL aG;refine HM.mono ?_;rintro e w9 ⟨rfl,am⟩;have aF:=z.trans (am.mono z.size);have az:=F.trans (am.mono F.size);clear HM am z F
          by_cases M:c <= 1
          ·have v:Hid (oneB d=((mvs d (ts.drop (j+1))).all (okP d) && (wayP d (d.ls.length - (k+1)) (k+1)).all (okP d))):=by unfold Hid;rw [B.out,H.out];simp [M]
           have aM:¬ (1:Int) < (c:Int):=by omega
           clear B H M;go_wp2_with fail
           go_roundw
           case rel=>exact ⟨j+1,by omega,by go_num,v,aF⟩
           case measure=>simp [intOf];omega
          ·have v:Hid (oneB d=false):=by unfold Hid;rw [B.out,H.out,aN];simp [M]
           have aM:(1:Int) < (c:Int):=by omega
           clear B H M;go_wp2;go_ret;exact ⟨retB (by rw [HW.out,v.out];rfl),az⟩
         ·have v:Hid (oneB d=((mvs d (ts.drop (j+1))).all (okP d) && (wayP d (d.ls.length - (k+1)) (k+1)).all (okP d))):=by unfold Hid;rw [B.out];unfold okP;simp [aB]
          clear B n;go_wp2_with fail
          go_roundw
          case rel=>exact ⟨j+1,by omega,by go_num,v,z⟩
          case measure=>simp [intOf];omega
       ·have v:Hid (oneB d=(wayP d (d.ls.length - (k+1)) (k+1)).all (okP d)):=by unfold Hid;rw [D.out,ZgK (by omega)];rfl
        clear D I;go_wp2_with fail
        go_roundw
        case rel=>exact ⟨k+1,by omega,by go_num,v,u⟩
        case measure=>simp [intOf];omega
     ·have v:Hid (oneB d=true):=by unfold Hid;rw [D.out,Zfo (by omega)];rfl
      clear D g f;go_wp2;go_ret;exact ⟨retB (by rw [HW.out,v.out];rfl),o⟩
theorem Zc8 {f:FuncId}{b:Func}{c:Code}(g:prog.funcs[f]? = some b)(a:(b.name == "runtime.NumGoroutine")=false)(d:b.body=some c)(args:Array Value)(w:World) :
  Sem.run prog (callFunc f args) w=.ok (.enter f args) w:=by
 have e:b.name ≠ "runtime.NumGoroutine" := by simpa using a
 simp [callFunc,g,e,d]
theorem Zij (X V vf vh Z vg vp T U:Value)(d:Wd)(w:World)(R:WR 0 w X V vf vh Z vg vp T U d)(hS:SmW d)(hg:ErrT w)(g G Q K H:Nat)(r1 r2 r3:Bool)(E:g < w.heap.size)(ac:w.cell? ⟨g,0,none⟩=some (.func (.func Q) #[] #[]))(I:∀ args w,Sem.run prog (callFunc Q args) w=.ok (.enter Q args) w)(ad:Zaq d=true -> (∀ W,Below w.heap.size w W -> Calls prog Q #[.agg #[X,V,vf,.int .i64 d.pl,vh,Z,vg,vp,.int .i64 d.nx,T,U]] W fun e O=>e=.returned (.bool r1)/\Below W.heap.size W O))(S:w.cell? ⟨g,1,none⟩=some (.func (.func K) #[] #[]))(M:∀ args w,Sem.run prog (callFunc K args) w=.ok (.enter K args) w)(ae:Zaq d=true -> (∀ W,Below w.heap.size w W -> Calls prog K #[.agg #[X,V,vf,.int .i64 d.pl,vh,Z,vg,vp,.int .i64 d.nx,T,U]] W fun e O=>e=.returned (.bool r2)/\Below W.heap.size W O))(Y:w.cell? ⟨g,2,none⟩=some (.func (.func H) #[] #[]))(N:∀ args w,Sem.run prog (callFunc H args) w=.ok (.enter H args) w)(aj:Zaq d=true -> (∀ W,Below w.heap.size w W -> Calls prog H #[.agg #[X,V,vf,.int .i64 d.pl,vh,Z,vg,vp,.int .i64 d.nx,T,U]] W fun e O=>e=.returned (.bool r3)/\Below W.heap.size W O)) :
  Calls prog 24 #[.agg #[X,V,vf,.int .i64 d.pl,vh,Z,vg,vp,.int .i64 d.nx,T,U],.slice (some ⟨g,0,none⟩) 3 G] w fun e O=>e=.returned (.bool (((Zaq d && r1) && r2) && r3))/\Below w.heap.size w O:=by
 have R0:=R;obtain ⟨⟨u,n,rfl⟩,⟨m,v,rfl⟩,⟨k,s,rfl⟩,⟨z,D,rfl⟩,⟨l,t,rfl⟩,⟨B,q,rfl⟩,⟨y,o,rfl⟩,⟨A,x,rfl⟩,⟨r,C,rfl⟩⟩:=R.form;clear R;have j:=Zap w (Obj.cells #[.slice u d.ns.length n,.slice m d.is.length v,.slice k d.ds.length s,.int .i64 d.pl,.slice z d.hs.length D,.slice l d.ls.length t,.slice B d.gs.length q,.slice y d.ps.length o,.int .i64 d.nx,.slice A d.ga.length x,.slice r d.tk.length C] 50);have L:=co w (Obj.cells #[.slice u d.ns.length n,.slice m d.is.length v,.slice k d.ds.length s,.int .i64 d.pl,.slice z d.hs.length D,.slice l d.ls.length t,.slice B d.gs.length q,.slice y d.ps.length o,.int .i64 d.nx,.slice A d.ga.length x,.slice r d.tk.length C] 50);have i:=(j.cell (p:=⟨g,0,none⟩) E).trans ac;clear ac;have k2:=(j.cell (p:=⟨g,1,none⟩) E).trans S;clear S;have h:=(j.cell (p:=⟨g,2,none⟩) E).trans Y;clear Y
 go_enter func24,ntmps24
 go_wp2_with (refine cE rfl 50 _ rfl w.heap.size rfl 50 #[.slice u d.ns.length n,.slice m d.is.length v,.slice k d.ds.length s,.int .i64 d.pl,.slice z d.hs.length D,.slice l d.ls.length t,.slice B d.gs.length q,.slice y d.ps.length o,.int .i64 d.nx,.slice A d.ga.length x,.slice r d.tk.length C] (0,0) _ L underlying50 rfl ZnQ ?_)
 refine (Zf0 _ _ _ _ _ _ _ _ _ d 0 _ (R0.below j) hS.hh.2 (hg.below j (ce _))).mono ?_;rintro e w1 ⟨rfl,P⟩;have f:=Zaa L P;have c:=j.trans (P.mono j.size);have F:g < (w.alloc (Obj.cells #[.slice u d.ns.length n,.slice m d.is.length v,.slice k d.ds.length s,.int .i64 d.pl,.slice z d.hs.length D,.slice l d.ls.length t,.slice B d.gs.length q,.slice y d.ps.length o,.int .i64 d.nx,.slice A d.ga.length x,.slice r d.tk.length C] 50)).heap.size:=cy E j.size;have a:g < w1.heap.size:=cy F P.size;replace i:=(P.cell (p:=⟨g,0,none⟩) F).trans i;replace k2:=(P.cell (p:=⟨g,1,none⟩) F).trans k2;replace h:=(P.cell (p:=⟨g,2,none⟩) F).trans h;clear P L j F E;cases J:Zaq d with
 | false =>
  go_wp2_with fail;refine ZhV w.heap.size g G Q u m k z l B y A r n v s D t q o x C d _ _ f a i ?_;intro u18 u19 u20 u21 u22 u23 u24 u25 u26 u27 W b;replace f:=Zaa f b;replace i:=(b.cell (p:=⟨g,0,none⟩) a).trans i;replace k2:=(b.cell (p:=⟨g,1,none⟩) a).trans k2;replace h:=(b.cell (p:=⟨g,2,none⟩) a).trans h;replace a:=cy a b.size;replace c:=c.trans (b.mono c.size);clear b;go_wp2_with fail;refine Zef w.heap.size g G K u m k z l B y A r n v s D t q o x C d _ _ f a k2 ?_;intro u28 u29 u30 u31 u32 u33 u34 u35 u36 u37 W b;replace f:=Zaa f b;replace i:=(b.cell (p:=⟨g,0,none⟩) a).trans i;replace k2:=(b.cell (p:=⟨g,1,none⟩) a).trans k2;replace h:=(b.cell (p:=⟨g,2,none⟩) a).trans h;replace a:=cy a b.size;replace c:=c.trans (b.mono c.size);clear b;go_wp2_with fail;refine Zc6 w.heap.size g G H u m k z l B y A r n v s D t q o x C d _ _ f a h ?_
  intro u38 u39 u40 u41 u42 u43 u44 u45 u46 u47 W b;replace f:=Zaa f b;replace i:=(b.cell (p:=⟨g,0,none⟩) a).trans i;replace k2:=(b.cell (p:=⟨g,1,none⟩) a).trans k2;replace h:=(b.cell (p:=⟨g,2,none⟩) a).trans h;replace a:=cy a b.size;replace c:=c.trans (b.mono c.size);clear b;go_wp2;go_ret;exact ⟨retB (by rw [J];rfl),c⟩
 | true =>
  go_wp2_with fail;refine Zix w.heap.size g G Q u m k z l B y A r n v s D t q o x C d _ _ f a i I r1 (fun W b=>ad J W (c.trans (b.mono c.size))) ?_;intro u18 u19 u20 u21 u22 u23 u24 u25 u26 u27 W b;replace f:=Zaa f b;replace i:=(b.cell (p:=⟨g,0,none⟩) a).trans i;replace k2:=(b.cell (p:=⟨g,1,none⟩) a).trans k2;replace h:=(b.cell (p:=⟨g,2,none⟩) a).trans h;replace a:=cy a b.size;replace c:=c.trans (b.mono c.size);clear b;cases r1 with
  | false =>
   go_wp2_with fail;refine Zef w.heap.size g G K u m k z l B y A r n v s D t q o x C d _ _ f a k2 ?_;intro u28 u29 u30 u31 u32 u33 u34 u35 u36 u37 W b;replace f:=Zaa f b;replace i:=(b.cell (p:=⟨g,0,none⟩) a).trans i;replace k2:=(b.cell (p:=⟨g,1,none⟩) a).trans k2;replace h:=(b.cell (p:=⟨g,2,none⟩) a).trans h;replace a:=cy a b.size;replace c:=c.trans (b.mono c.size);clear b;go_wp2_with fail;refine Zc6 w.heap.size g G H u m k z l B y A r n v s D t q o x C d _ _ f a h ?_;intro u38 u39 u40 u41 u42 u43 u44 u45 u46 u47 W b;replace f:=Zaa f b;replace i:=(b.cell (p:=⟨g,0,none⟩) a).trans i;replace k2:=(b.cell (p:=⟨g,1,none⟩) a).trans k2;replace h:=(b.cell (p:=⟨g,2,none⟩) a).trans h;replace a:=cy a b.size;replace c:=c.trans (b.mono c.size);clear b;go_wp2;go_ret;exact ⟨retB (by rw [J];rfl),c⟩
  | true =>
   go_wp2_with fail;refine Ziv w.heap.size g G K u m k z l B y A r n v s D t q o x C d _ _ f a k2 M r2 (fun W b=>ae J W (c.trans (b.mono c.size))) ?_;intro u28 u29 u30 u31 u32 u33 u34 u35 u36 u37 W b;replace f:=Zaa f b;replace i:=(b.cell (p:=⟨g,0,none⟩) a).trans i;replace k2:=(b.cell (p:=⟨g,1,none⟩) a).trans k2;replace h:=(b.cell (p:=⟨g,2,none⟩) a).trans h;replace a:=cy a b.size;replace c:=c.trans (b.mono c.size);clear b;cases r2 with
   | false =>
    go_wp2_with fail;refine Zc6 w.heap.size g G H u m k z l B y A r n v s D t q o x C d _ _ f a h ?_;intro u38 u39 u40 u41 u42 u43 u44 u45 u46 u47 W b;replace f:=Zaa f b;replace i:=(b.cell (p:=⟨g,0,none⟩) a).trans i;replace k2:=(b.cell (p:=⟨g,1,none⟩) a).trans k2;replace h:=(b.cell (p:=⟨g,2,none⟩) a).trans h;replace a:=cy a b.size;replace c:=c.trans (b.mono c.size);clear b;go_wp2;go_ret;exact ⟨retB (by rw [J];rfl),c⟩
   | true =>
    go_wp2_with fail;refine Zie w.heap.size g G H u m k z l B y A r n v s D t q o x C d _ _ f a h N r3 (fun W b=>aj J W (c.trans (b.mono c.size))) ?_;intro u38 u39 u40 u41 u42 u43 u44 u45 u46 u47 W b;replace f:=Zaa f b;replace i:=(b.cell (p:=⟨g,0,none⟩) a).trans i;replace k2:=(b.cell (p:=⟨g,1,none⟩) a).trans k2;replace h:=(b.cell (p:=⟨g,2,none⟩) a).trans h;replace a:=cy a b.size;replace c:=c.trans (b.mono c.size);clear b;go_wp2;go_ret;exact ⟨retB (by rw [J];rfl),c⟩
theorem Zky (F E K I G L H B D:Value)(d:Wd)(w:World)(R:WR 0 w F E K I G L H B D d)(C:SmW d)(M:ErrT w) :
  Calls prog 7 #[.agg #[F,E,K,.int .i64 d.pl,I,G,L,H,.int .i64 d.nx,B,D]] w fun e N=>e=.returned (.bool (((Zaq d && ordB d) && oneB d) && queB d))/\Below w.heap.size w N:=by
 have h:=R;obtain ⟨⟨q,l,rfl⟩,⟨k,s,rfl⟩,⟨i,p,rfl⟩,⟨v,A,rfl⟩,⟨j,r,rfl⟩,⟨y,n,rfl⟩,⟨u,m,rfl⟩,⟨x,t,rfl⟩,⟨o,z,rfl⟩⟩:=R.form;clear R;have g:=co w (Obj.cells #[.slice q d.ns.length l,.slice k d.is.length s,.slice i d.ds.length p,.int .i64 d.pl,.slice v d.hs.length A,.slice j d.ls.length r,.slice y d.gs.length n,.slice u d.ps.length m,.int .i64 d.nx,.slice x d.ga.length t,.slice o d.tk.length z] 50);obtain ⟨a,O,c⟩:=Zax w (Obj.cells #[.slice q d.ns.length l,.slice k d.is.length s,.slice i d.ds.length p,.int .i64 d.pl,.slice v d.hs.length A,.slice j d.ls.length r,.slice y d.gs.length n,.slice u d.ps.length m,.int .i64 d.nx,.slice x d.ga.length t,.slice o d.tk.length z] 50) (Obj.cells #[.func (.func 25) #[] #[],.func (.func 26) #[] #[],.func (.func 27) #[] #[]] 122)
 go_enter func7,ntmps7
 go_wp2_with (refine cE rfl 50 _ rfl w.heap.size rfl 50 #[.slice q d.ns.length l,.slice k d.is.length s,.slice i d.ds.length p,.int .i64 d.pl,.slice v d.hs.length A,.slice j d.ls.length r,.slice y d.gs.length n,.slice u d.ps.length m,.int .i64 d.nx,.slice x d.ga.length t,.slice o d.tk.length z] (0,0) _ g underlying50 rfl ZnQ ?_)
 refine (Zij _ _ _ _ _ _ _ _ _ d _ (h.below a) C (M.below a (ce _)) (w.heap.size+1) _ 25 26 27 (ordB d) (oneB d) (queB d) (Zao c) (cd _ _ 0 _ _ _ c) (Zc8 func25 (by kernel_rfl) rfl) (fun f W b=>itookord_any _ _ _ _ _ _ _ _ _ d 0 W (h.below (a.trans (b.mono a.size))) (Zcq f)) (cd _ _ 1 _ _ _ c) (Zc8 func26 (by kernel_rfl) rfl) (fun f W b=>Zgo _ _ _ _ _ _ _ _ _ d W (h.below (a.trans (b.mono a.size))) C (M.below (a.trans (b.mono a.size)) (ce _)) f) (cd _ _ 2 _ _ _ c) (Zc8 func27 (by kernel_rfl) rfl) (fun f W b=>iwayshold_any _ _ _ _ _ _ _ _ _ d 0 W (h.below (a.trans (b.mono a.size))) (Zcq f))).mono ?_;rintro e P ⟨rfl,J⟩;replace a:=a.trans (J.mono a.size);clear J O c g;go_wp2;go_ret;exact ⟨rfl,a⟩
theorem ZjX (vn vi vf vh vl vg vp X Z:Value)(d:Wd)(w:World)(R:WR 0 w vn vi vf vh vl vg vp X Z d)(Q:SmW d) :
  Calls prog 5 #[.agg #[vn,vi,vf,.int .i64 d.pl,vh,vl,vg,vp,.int .i64 d.nx,X,Z]] w fun e w'=>e=.returned (.bool (((Zaq d && ordB d) && oneB d) && queB d))/\Below w.heap.size w w':=by
 have S:=R;obtain ⟨⟨E,z,rfl⟩,⟨x,G,rfl⟩,⟨t,D,rfl⟩,⟨J,v,rfl⟩,⟨u,F,rfl⟩,⟨L,B,rfl⟩,⟨I,A,rfl⟩,⟨K,H,rfl⟩,⟨C,M,rfl⟩⟩:=R.form;clear R;have c:=Zap w (Obj.cells #[.slice E d.ns.length z,.slice x d.is.length G,.slice t d.ds.length D,.int .i64 d.pl,.slice J d.hs.length v,.slice u d.ls.length F,.slice L d.gs.length B,.slice I d.ps.length A,.int .i64 d.nx,.slice K d.ga.length H,.slice C d.tk.length M] 50);have a:=co w (Obj.cells #[.slice E d.ns.length z,.slice x d.is.length G,.slice t d.ds.length D,.int .i64 d.pl,.slice J d.hs.length v,.slice u d.ls.length F,.slice L d.gs.length B,.slice I d.ps.length A,.int .i64 d.nx,.slice K d.ga.length H,.slice C d.tk.length M] 50);have V:=fun W (y:Below w.heap.size w W)=>sjorder_any _ _ _ _ _ _ _ _ _ d 0 W (S.below y) Q.hh.2
 have O:=fun W (y:Below w.heap.size w W)=>Zig _ _ _ _ _ _ _ _ _ d W (S.below y) Q
 have N:=fun W (y:Below w.heap.size w W)=>sjqueue_any _ _ _ _ _ _ _ _ _ d 0 W (S.below y) Q.hh.2
 obtain ⟨Y,U⟩:∃ b,(Zaq d && ordB d)=b:=⟨_,rfl⟩;obtain ⟨b2,P⟩:∃ b,(Zaq d && oneB d)=b:=⟨_,rfl⟩;obtain ⟨b3,T⟩:∃ b,(Zaq d && queB d)=b:=⟨_,rfl⟩
 have HR:Hid ((((Zaq d && ordB d) && oneB d) && queB d)=((Y && b2) && b3)):=by
  unfold Hid;rw [<- U,<- P,<- T];cases Zaq d <;> cases ordB d <;> cases oneB d <;> cases queB d <;> rfl
 rw [HR.out];rw [U] at V;rw [P] at O;rw [T] at N;clear HR U P T
 go_enter func5,ntmps5
 go_wp2_with (refine cE rfl 50 _ rfl w.heap.size rfl 50 #[.slice E d.ns.length z,.slice x d.is.length G,.slice t d.ds.length D,.int .i64 d.pl,.slice J d.hs.length v,.slice u d.ls.length F,.slice L d.gs.length B,.slice I d.ps.length A,.int .i64 d.nx,.slice K d.ga.length H,.slice C d.tk.length M] (0,0) _ a underlying50 rfl ZnQ ?_)
 refine (V _ c).mono ?_;rintro e f ⟨rfl,i⟩;replace a:=Zaa a i;replace c:=c.trans (i.mono c.size);clear i V;cases Y with
 | false =>
  clear O N a;go_wp2;go_ret;exact ⟨rfl,c⟩
 | true =>
  have m:f.cell? ⟨w.heap.size,0,none⟩=some (.slice E d.ns.length z):=cd f _ 0 _ _ _ a;have q:f.cell? ⟨w.heap.size,1,none⟩=some (.slice x d.is.length G):=cd f _ 1 _ _ _ a;have n:f.cell? ⟨w.heap.size,2,none⟩=some (.slice t d.ds.length D):=cd f _ 2 _ _ _ a;have r:f.cell? ⟨w.heap.size,3,none⟩=some (.int .i64 d.pl):=cd f _ 3 _ _ _ a;have l:f.cell? ⟨w.heap.size,4,none⟩=some (.slice J d.hs.length v):=cd f _ 4 _ _ _ a;have k:f.cell? ⟨w.heap.size,5,none⟩=some (.slice u d.ls.length F):=cd f _ 5 _ _ _ a;have j:f.cell? ⟨w.heap.size,6,none⟩=some (.slice L d.gs.length B):=cd f _ 6 _ _ _ a;have s:f.cell? ⟨w.heap.size,7,none⟩=some (.slice I d.ps.length A):=cd f _ 7 _ _ _ a;have o:f.cell? ⟨w.heap.size,8,none⟩=some (.int .i64 d.nx):=cd f _ 8 _ _ _ a
  have p:f.cell? ⟨w.heap.size,9,none⟩=some (.slice K d.ga.length H):=cd f _ 9 _ _ _ a;have h:f.cell? ⟨w.heap.size,10,none⟩=some (.slice C d.tk.length M):=cd f _ 10 _ _ _ a;go_wp2_with fail;clear m q n r l k j s o p h;refine (O _ c).mono ?_;rintro e g ⟨rfl,i⟩;replace a:=Zaa a i;replace c:=c.trans (i.mono c.size);clear i O;cases b2 with
  | false =>
   clear N a;go_wp2;go_ret;exact ⟨rfl,c⟩
  | true =>
   have m:g.cell? ⟨w.heap.size,0,none⟩=some (.slice E d.ns.length z):=cd g _ 0 _ _ _ a;have q:g.cell? ⟨w.heap.size,1,none⟩=some (.slice x d.is.length G):=cd g _ 1 _ _ _ a;have n:g.cell? ⟨w.heap.size,2,none⟩=some (.slice t d.ds.length D):=cd g _ 2 _ _ _ a;have r:g.cell? ⟨w.heap.size,3,none⟩=some (.int .i64 d.pl):=cd g _ 3 _ _ _ a;have l:g.cell? ⟨w.heap.size,4,none⟩=some (.slice J d.hs.length v):=cd g _ 4 _ _ _ a;have k:g.cell? ⟨w.heap.size,5,none⟩=some (.slice u d.ls.length F):=cd g _ 5 _ _ _ a;have j:g.cell? ⟨w.heap.size,6,none⟩=some (.slice L d.gs.length B):=cd g _ 6 _ _ _ a;have s:g.cell? ⟨w.heap.size,7,none⟩=some (.slice I d.ps.length A):=cd g _ 7 _ _ _ a;have o:g.cell? ⟨w.heap.size,8,none⟩=some (.int .i64 d.nx):=cd g _ 8 _ _ _ a
   have p:g.cell? ⟨w.heap.size,9,none⟩=some (.slice K d.ga.length H):=cd g _ 9 _ _ _ a;have h:g.cell? ⟨w.heap.size,10,none⟩=some (.slice C d.tk.length M):=cd g _ 10 _ _ _ a;go_wp2_with fail;clear m q n r l k j s o p h;refine (N _ c).mono ?_;rintro e w3 ⟨rfl,i⟩;replace c:=c.trans (i.mono c.size);clear i N a;go_wp2;go_ret;exact ⟨rfl,c⟩
end Go.Proofs.YtkpfangkfknhoaaGreatDoor
