/-
  Texts that stood by themselves, laid into one.
-/
import Derived.Test.YtanhoamdlhaaeaaGreatDoorShapeM
import Derived.Test.YtanhoamdlhaaeaaGreatDoorMkListM
import Derived.Test.YtanhoamdlhaaeaaGreatDoorSubM
import Derived.Test.YtanhoamdlhaaeaaGreatDoorWHomeM
import Derived.Test.YtanhoamdlhaaeaaGreatDoorNodeFitsM
/-
  'append' onto an empty slice that was just made: nothing that was is turned. Nothing of the program; no condition.
-/
set_option maxRecDepth 100000
set_option maxHeartbeats 3200000
namespace Go.Proofs.YtanhoamdlhaaeaaGreatDoor
open Go.Proofs.Tryz
open Go.RowKit
theorem ZfC (v:Value)(a:List ByteArray)(w:World)(R:StRow w v a)(t:a.length <= 2097152) :
  Calls prog 29 #[v] w fun e f=>∃ d,e=.returned d/\f.ownsRow w.heap.size 9 1 d a.length (stv a)/\Below w.heap.size w f:=by
 obtain ⟨n,g,rfl⟩:=R.small;obtain ⟨s,hi,i,j,l⟩:=info_parts ZlR;have b:Below w.heap.size w (w.alloc (Obj.cells #[] 9)):=(cf _ _).alloc (ce _) _;have m:=R.below b;have c:=Zbo w 9 1 w.heap.size (ce _)
 go_enter func29,ntmps29
 go_wp2_with (at_builtin;refine ZaL _ rfl _ _ 37 rfl w.heap.size 9 s _ 1 16 underlying37 hi i j l rfl (by decide) _ 0 _ rfl c n a.length g (stv a) rfl (by rw [ZdL];omega) m.nilcap m.cells (ZiL a) (by unfold maxLen;omega) (by omega) (by simp) ?_)
 intro d f r p;have o:Below w.heap.size w f:=b.grown p (by simp) (fun k q=>by simp [Value.ownBlock] at q;omega);go_wp2;go_ret;exact ⟨d,rfl,by simpa using r,o⟩
def prR (d:Wd)(p:Int):List ByteArray:=if ZaU d.hs p 0 < 0 \/ Zax d=false then [] else match d.hs[(ZaU d.hs p 0).toNat]? with
 | some h=>h.ox
 | none=>[]
theorem Zk8 {B:Nat}{w:World}{r n k m q l s j t:Value}{d:Wd}(R:WR B w r n k m q l s j t d)(c:SmW d)(p:Int):(prR d p).length <= 1048576/\∀ x ∈ prR d p,x.size <= maxLen:=by
 unfold prR;split
 ·exact ⟨by simp,by simp⟩
 ·split
  ·rename_i h a
   obtain ⟨u,f,_,_,_,b⟩:=R.rh;obtain ⟨g,o,_,_,_,b⟩:=b (by intro e;rw [e] at a;simp at a);obtain ⟨cs,_,_,v,y,z,_,_,_,i,_⟩:=b _ h a;exact ⟨(c.hh.2 h (List.mem_of_getElem? a)).2.2.1,i.sz⟩
  ·exact ⟨by simp,by simp⟩
theorem Zgl (a:List Hm)(p:Int):∀ i,ZaU a p i < i+a.length:=by
 induction a with
 | nil=>intro i;simp [ZaU];omega
 | cons h a ih =>
  intro i;rw [ZaU];split
  ·simp;omega
  ·have:=ih (i+1);simp at this ⊢;omega
theorem ZfM (vn vi vf vh vl vg vp va vt:Value)(d:Wd)(p:Int)(B:Nat)(w:World)(R:WR B w vn vi vf vh vl vg vp va vt d)(Sm:SmW d)(z:ErrT w) :
  Calls prog 7 #[.agg #[vn,vi,vf,.int .i64 d.pl,vh,vl,vg,vp,.int .i64 d.nx,va,vt],.int .i64 p] w fun e w'=>∃ Z,e=.returned Z/\w'.ownsRow w.heap.size 9 1 Z (prR d p).length (stv (prR d p))/\Below w.heap.size w w':=by
 obtain ⟨⟨K,T,rfl⟩,⟨I,Q,rfl⟩,⟨F,O,rfl⟩,⟨H,v,rfl⟩,⟨J,S,rfl⟩,⟨G,P,rfl⟩,⟨L,U,rfl⟩,⟨D,M,rfl⟩,⟨E,N,rfl⟩⟩:=R.form;have j:Below w.heap.size w (w.alloc (Obj.cells #[.slice K d.ns.length T,.slice I d.is.length Q,.slice F d.ds.length O,.int .i64 d.pl,.slice H d.hs.length v,.slice J d.ls.length S,.slice G d.gs.length P,.slice L d.ps.length U,.int .i64 d.nx,.slice D d.ga.length M,.slice E d.tk.length N] 51)):=(cf _ _).alloc (ce _) _
 have f:(w.alloc (Obj.cells #[.slice K d.ns.length T,.slice I d.is.length Q,.slice F d.ds.length O,.int .i64 d.pl,.slice H d.hs.length v,.slice J d.ls.length S,.slice G d.gs.length P,.slice L d.ps.length U,.int .i64 d.nx,.slice D d.ga.length M,.slice E d.tk.length N] 51)).heap[w.heap.size]? = some (Obj.cells #[.slice K d.ns.length T,.slice I d.is.length Q,.slice F d.ds.length O,.int .i64 d.pl,.slice H d.hs.length v,.slice J d.ls.length S,.slice G d.gs.length P,.slice L d.ps.length U,.int .i64 d.nx,.slice D d.ga.length M,.slice E d.tk.length N] 51):=cg _ _;replace R:=R.below j;replace z:=z.below j (ce _);have hl:=Zgl d.hs p 0
 go_enter func7,ntmps7
 go_wp2_with (refine co rfl 51 _ rfl w.heap.size rfl 51 #[.slice K d.ns.length T,.slice I d.is.length Q,.slice F d.ds.length O,.int .i64 d.pl,.slice H d.hs.length v,.slice J d.ls.length S,.slice G d.gs.length P,.slice L d.ps.length U,.int .i64 d.nx,.slice D d.ga.length M,.slice E d.tk.length N] (0,0) _ f underlying51 rfl Zl7 ?_)
 refine (ZfK _ _ _ _ _ _ _ _ _ d p B _ R).mono ?_;rintro e c ⟨rfl,l⟩;replace R:=R.below l;replace z:=z.below l (ce _);replace f:=Zaf f l;replace j:=j.trans (l.mono j.size);clear l;obtain ⟨q,W⟩:∃ q,Hid (ZaU d.hs p 0=q):=⟨_,rfl⟩;rw [W.out] at hl ⊢
 by_cases hn:q < 0
 ·have C:Hid (prR d p=[]):=by unfold Hid prR;rw [if_pos (Or.inl (by rw [W.out];exact hn))]
  go_wp2_with fail;go_ret;refine ⟨_,rfl,?_,j.alloc j.size _⟩;rw [C.out];exact Zbo c 9 1 w.heap.size j.size
 have e0:c.cell? ⟨w.heap.size,0,none⟩=some (.slice K d.ns.length T):=cd c _ 0 _ _ _ f;have e1:c.cell? ⟨w.heap.size,1,none⟩=some (.slice I d.is.length Q):=cd c _ 1 _ _ _ f;have e2:c.cell? ⟨w.heap.size,2,none⟩=some (.slice F d.ds.length O):=cd c _ 2 _ _ _ f;have e3:c.cell? ⟨w.heap.size,3,none⟩=some (.int .i64 d.pl):=cd c _ 3 _ _ _ f;have e4:c.cell? ⟨w.heap.size,4,none⟩=some (.slice H d.hs.length v):=cd c _ 4 _ _ _ f;have e5:c.cell? ⟨w.heap.size,5,none⟩=some (.slice J d.ls.length S):=cd c _ 5 _ _ _ f;have e6:c.cell? ⟨w.heap.size,6,none⟩=some (.slice G d.gs.length P):=cd c _ 6 _ _ _ f;have e7:c.cell? ⟨w.heap.size,7,none⟩=some (.slice L d.ps.length U):=cd c _ 7 _ _ _ f;have e8:c.cell? ⟨w.heap.size,8,none⟩=some (.int .i64 d.nx):=cd c _ 8 _ _ _ f
 have e9:c.cell? ⟨w.heap.size,9,none⟩=some (.slice D d.ga.length M):=cd c _ 9 _ _ _ f;have X:c.cell? ⟨w.heap.size,10,none⟩=some (.slice E d.tk.length N):=cd c _ 10 _ _ _ f;go_wp2_with fail;refine (ZeP _ _ _ _ _ _ _ _ _ d B _ R Sm.hh.2 z).mono ?_;clear e0 e1 e2 e3 e4 e5 e6 e7 e8 e9 X;rintro e A ⟨rfl,l⟩;replace R:=R.below l;replace f:=Zaf f l;replace j:=j.trans (l.mono j.size);clear l z;obtain ⟨b,n⟩:∃ b,Hid (Zax d=b):=⟨_,rfl⟩;rw [n.out];cases b with
 | false =>
  have C:Hid (prR d p=[]):=by unfold Hid prR;rw [if_pos (Or.inr n.out)]
  go_wp2_with fail;go_ret;refine ⟨_,rfl,?_,j.alloc j.size _⟩;rw [C.out];exact Zbo A 9 1 w.heap.size j.size
 | true =>
  obtain ⟨k,rfl⟩:∃ k:Nat,q=(k:Int):=⟨q.toNat,by omega⟩;have y:k < d.hs.length:=by omega
  obtain ⟨x,u⟩:∃ x,d.hs[k]? = some x:=⟨d.hs[k],List.getElem?_eq_getElem y⟩
  have C:Hid (prR d p=x.ox):=by
   unfold Hid prR;rw [if_neg (by rw [W.out,n.out];simp),W.out,Int.toNat_natCast,u]
  obtain ⟨ad,ac,V,_,_,a⟩:=R.rh;simp only [Value.slice.injEq] at V;obtain ⟨rfl,_,rfl⟩:=V;obtain ⟨g,o,rfl,_,ae,a⟩:=a (by intro e;rw [e] at y;simp at y);obtain ⟨cs,Y,hr,v1,v2,v3,hc,_,_,r3,_⟩:=a k x u;obtain rfl:cs=(#[.int .i64 x.pl,.int .i64 x.i,v1,.int .i64 x.m.p,.int .i64 x.m.s,.int .i64 x.m.e,.int .i64 x.m.d,.int .i64 x.m.t,.int .i64 x.m.q,.int .i64 x.m.r,v2,v3]:Array Value).toList:=congrArg Array.toList hc;have d1:A.cell? ⟨g,o+k * 12+1+10,none⟩=some v3:=hr 11 _ rfl;have k4:A.cell? ⟨w.heap.size,0+4,none⟩=some (.slice (some ⟨g,o,none⟩) d.hs.length v):=cd A _ 4 _ _ _ f;have aj:A.cell? ⟨w.heap.size,4,none⟩=some (.slice (some ⟨g,o,none⟩) d.hs.length v):=cd A _ 4 _ _ _ f;have hm:x.ox.length <= 1048576:=(Sm.hh.2 x (List.mem_of_getElem? u)).2.2.1;clear a hc Y hr u n W;go_wp2_with fail
  refine (ZfC v3 x.ox _ r3 (by omega)).mono ?_;rintro e w3 ⟨Z,rfl,ho,l⟩;go_wp2;go_ret;refine ⟨_,rfl,?_,j.trans (l.mono j.size)⟩;rw [C.out];exact Zae ho j.size
theorem Zf8 (vn vi vf vh vl vg vp va vt:Value)(d:Wd)(p:Int)(B:Nat)(w:World)(R:WR B w vn vi vf vh vl vg vp va vt d)(Sm:SmW d) :
  Calls prog 5 #[.agg #[vn,vi,vf,.int .i64 d.pl,vh,vl,vg,vp,.int .i64 d.nx,va,vt],.int .i64 p] w fun e w'=>∃ v',e=.returned v'/\w'.ownsRow w.heap.size 9 1 v' (prR d p).length (stv (prR d p))/\Below w.heap.size w w':=by
 obtain ⟨⟨K,U,rfl⟩,⟨I,S,rfl⟩,⟨F,P,rfl⟩,⟨H,z,rfl⟩,⟨J,T,rfl⟩,⟨G,Q,rfl⟩,⟨L,V,rfl⟩,⟨D,M,rfl⟩,⟨E,O,rfl⟩⟩:=R.form;have j:Below w.heap.size w (w.alloc (Obj.cells #[.slice K d.ns.length U,.slice I d.is.length S,.slice F d.ds.length P,.int .i64 d.pl,.slice H d.hs.length z,.slice J d.ls.length T,.slice G d.gs.length Q,.slice L d.ps.length V,.int .i64 d.nx,.slice D d.ga.length M,.slice E d.tk.length O] 51)):=(cf _ _).alloc (ce _) _
 have f:(w.alloc (Obj.cells #[.slice K d.ns.length U,.slice I d.is.length S,.slice F d.ds.length P,.int .i64 d.pl,.slice H d.hs.length z,.slice J d.ls.length T,.slice G d.gs.length Q,.slice L d.ps.length V,.int .i64 d.nx,.slice D d.ga.length M,.slice E d.tk.length O] 51)).heap[w.heap.size]? = some (Obj.cells #[.slice K d.ns.length U,.slice I d.is.length S,.slice F d.ds.length P,.int .i64 d.pl,.slice H d.hs.length z,.slice J d.ls.length T,.slice G d.gs.length Q,.slice L d.ps.length V,.int .i64 d.nx,.slice D d.ga.length M,.slice E d.tk.length O] 51):=cg _ _;replace R:=R.below j;have hl:=Zgl d.hs p 0
 go_enter func5,ntmps5
 go_wp2_with (refine co rfl 51 _ rfl w.heap.size rfl 51 #[.slice K d.ns.length U,.slice I d.is.length S,.slice F d.ds.length P,.int .i64 d.pl,.slice H d.hs.length z,.slice J d.ls.length T,.slice G d.gs.length Q,.slice L d.ps.length V,.int .i64 d.nx,.slice D d.ga.length M,.slice E d.tk.length O] (0,0) _ f underlying51 rfl Zl7 ?_)
 refine (Zf2 _ _ _ _ _ _ _ _ _ d p B _ R).mono ?_;rintro e c ⟨rfl,u⟩;replace R:=R.below u;replace f:=Zaf f u;replace j:=j.trans (u.mono j.size);clear u;obtain ⟨q,X⟩:∃ q,Hid (ZaU d.hs p 0=q):=⟨_,rfl⟩;rw [X.out] at hl ⊢
 by_cases hn:q < 0
 ·have C:Hid (prR d p=[]):=by unfold Hid prR;rw [if_pos (Or.inl (by rw [X.out];exact hn))]
  go_wp2_with fail;go_ret;refine ⟨_,rfl,?_,j.alloc j.size _⟩;rw [C.out];exact Zbo c 9 1 w.heap.size j.size
 have e0:c.cell? ⟨w.heap.size,0,none⟩=some (.slice K d.ns.length U):=cd c _ 0 _ _ _ f;have e1:c.cell? ⟨w.heap.size,1,none⟩=some (.slice I d.is.length S):=cd c _ 1 _ _ _ f;have e2:c.cell? ⟨w.heap.size,2,none⟩=some (.slice F d.ds.length P):=cd c _ 2 _ _ _ f;have e3:c.cell? ⟨w.heap.size,3,none⟩=some (.int .i64 d.pl):=cd c _ 3 _ _ _ f;have e4:c.cell? ⟨w.heap.size,4,none⟩=some (.slice H d.hs.length z):=cd c _ 4 _ _ _ f;have e5:c.cell? ⟨w.heap.size,5,none⟩=some (.slice J d.ls.length T):=cd c _ 5 _ _ _ f;have e6:c.cell? ⟨w.heap.size,6,none⟩=some (.slice G d.gs.length Q):=cd c _ 6 _ _ _ f;have e7:c.cell? ⟨w.heap.size,7,none⟩=some (.slice L d.ps.length V):=cd c _ 7 _ _ _ f;have e8:c.cell? ⟨w.heap.size,8,none⟩=some (.int .i64 d.nx):=cd c _ 8 _ _ _ f
 have e9:c.cell? ⟨w.heap.size,9,none⟩=some (.slice D d.ga.length M):=cd c _ 9 _ _ _ f;have ad:c.cell? ⟨w.heap.size,10,none⟩=some (.slice E d.tk.length O):=cd c _ 10 _ _ _ f;go_wp2_with fail;refine (Zfl _ _ _ _ _ _ _ _ _ d B _ R Sm.hh.2).mono ?_;clear e0 e1 e2 e3 e4 e5 e6 e7 e8 e9 ad;rintro e l ⟨rfl,u⟩;replace R:=R.below u;replace f:=Zaf f u;replace j:=j.trans (u.mono j.size);clear u;obtain ⟨b,v⟩:∃ b,Hid (Zax d=b):=⟨_,rfl⟩;rw [v.out];cases b with
 | false =>
  have C:Hid (prR d p=[]):=by unfold Hid prR;rw [if_pos (Or.inr v.out)]
  go_wp2_with fail;go_ret;refine ⟨_,rfl,?_,j.alloc j.size _⟩;rw [C.out];exact Zbo l 9 1 w.heap.size j.size
 | true =>
  obtain ⟨k,rfl⟩:∃ k:Nat,q=(k:Int):=⟨q.toNat,by omega⟩;have A:k < d.hs.length:=by omega
  obtain ⟨x,y⟩:∃ x,d.hs[k]? = some x:=⟨d.hs[k],List.getElem?_eq_getElem A⟩
  have C:Hid (prR d p=x.ox):=by
   unfold Hid prR;rw [if_neg (by rw [X.out,v.out];simp),X.out,Int.toNat_natCast,y]
  obtain ⟨au,ar,W,_,_,a⟩:=R.rh;simp only [Value.slice.injEq] at W;obtain ⟨rfl,_,rfl⟩:=W;obtain ⟨g,o,rfl,_,aj,a⟩:=a (by intro e;rw [e] at A;simp at A);obtain ⟨cs,ae,hr,v1,v2,v3,hc,_,_,r3,_⟩:=a k x y;obtain rfl:cs=(#[.int .i64 x.pl,.int .i64 x.i,v1,.int .i64 x.m.p,.int .i64 x.m.s,.int .i64 x.m.e,.int .i64 x.m.d,.int .i64 x.m.t,.int .i64 x.m.q,.int .i64 x.m.r,v2,v3]:Array Value).toList:=congrArg Array.toList hc;have d1:l.cell? ⟨g,o+k * 12+1+10,none⟩=some v3:=hr 11 _ rfl;have k4:l.cell? ⟨w.heap.size,0+4,none⟩=some (.slice (some ⟨g,o,none⟩) d.hs.length z):=cd l _ 4 _ _ _ f;have aq:l.cell? ⟨w.heap.size,4,none⟩=some (.slice (some ⟨g,o,none⟩) d.hs.length z):=cd l _ 4 _ _ _ f;have hm:x.ox.length <= 1048576:=(Sm.hh.2 x (List.mem_of_getElem? y)).2.2.1;clear a hc ae hr y v X;obtain ⟨ac,N,rfl⟩:=r3.small
  obtain ⟨i0,hi,ak,am,ao⟩:=info_parts ZlR;have n:Below l.heap.size l (l.alloc (Obj.cells #[] 9)):=(cf _ _).alloc (ce _) _;have S1:=r3.below n;have Z:=Zbo l 9 1 l.heap.size (ce _);have aw:=j.size;have Y:=ZbT f;have av:=(n.cell (p:=⟨g,o+k * 12+1+10,none⟩) aj).trans d1;have k5:=(n.cell (p:=⟨w.heap.size,0+4,none⟩) Y).trans k4;have ax:=(n.cell (p:=⟨w.heap.size,4,none⟩) Y).trans aq
  go_wp2_with (at_builtin;refine ZaL _ rfl _ _ 37 rfl l.heap.size 9 i0 _ 1 16 underlying37 hi ak am ao rfl (by decide) _ 0 _ rfl Z ac x.ox.length N (stv x.ox) rfl (by rw [ZdL];omega) S1.nilcap S1.cells (ZiL x.ox) (by unfold maxLen;omega) (by omega) (by simp) ?_)
  intro v' w' ho hg;have u:Below l.heap.size l w':=n.grown hg (by simp) (fun k hk=>by simp [Value.ownBlock] at hk;omega);go_wp2;go_ret;refine ⟨_,rfl,?_,j.trans (u.mono j.size)⟩;rw [C.out];exact Zae (by simpa using ho) j.size
def KSz (w w':World):Prop:=∀ (j:Nat) (cs:Array Value) (t:TypeId),w.heap[j]? = some (.cells cs t (0,0)) -> ∃ cs':Array Value,w'.heap[j]? = some (.cells cs' t (0,0))/\cs'.size=cs.size
structure TT (T:TypeId -> Prop)(lo hi:Nat)(w w':World):Prop where
 os:w'.os=w.os
 tape:w'.tape=w.tape
 output:w'.output=w.output
 size:w.heap.size <= w'.heap.size
 block:∀ k,k < w.heap.size -> (k < lo \/ hi <= k \/ ∃ (cs:Array Value) (t:TypeId),w.heap[k]? = some (.cells cs t (0,0))/\¬ T t) -> w'.heap[k]? = w.heap[k]?
 kept:KSz w w'
theorem TT.refl (T:TypeId -> Prop)(lo hi:Nat)(w:World):TT T lo hi w w:=⟨rfl,rfl,rfl,ce _,fun _ _ _=>rfl,fun _ cs _ h=>⟨cs,h,rfl⟩⟩
theorem TT.trans {T:TypeId -> Prop}{lo hi:Nat}{a b c:World}(h:TT T lo hi a b)(k:TT T lo hi b c):TT T lo hi a c:=by
 refine ⟨k.os.trans h.os,k.tape.trans h.tape,k.output.trans h.output,Nat.le_trans h.size k.size,fun i f d=>?_,fun j cs t o=>?_⟩
 ·have e:=h.block i f d
  refine (k.block i (cm f h.size) ?_).trans e;rcases d with d | d | ⟨cs,t,m,n⟩
  ·exact Or.inl d
  ·exact Or.inr (Or.inl d)
  ·exact Or.inr (Or.inr ⟨cs,t,e.trans m,n⟩)
 ·obtain ⟨g,f,p⟩:=h.kept j cs t o
  obtain ⟨l,d,q⟩:=k.kept j g t f;exact ⟨l,d,q.trans p⟩
theorem TT.mono {T U:TypeId -> Prop}{lo hi:Nat}{a b:World}(h:TT T lo hi a b)(j:∀ t,T t -> U t):TT U lo hi a b :=
 ⟨h.os,h.tape,h.output,h.size,fun i d c=>h.block i d (by
  rcases c with c | c | ⟨cs,t,e,f⟩
  ·exact Or.inl c
  ·exact Or.inr (Or.inl c)
  ·exact Or.inr (Or.inr ⟨cs,t,e,fun g=>f (j t g)⟩)),h.kept⟩
theorem TT.of_below (T:TypeId -> Prop)(lo hi:Nat){a b:World}(h:Below a.heap.size a b):TT T lo hi a b :=
 ⟨h.os,h.tape,h.output,h.size,fun i d _=>h.block i d,fun j cs _ c=>⟨cs,(h.block j (bl c)).trans c,rfl⟩⟩
theorem Zis {w:World}{B k n g a:Nat}{e:TypeId}{l:List Value}(h:w.ownsRow B e k (.slice (some ⟨g,0,none⟩) n a) n l):∃ b,w.heap[g]? = some (.cells b e (0,0))/\b.size=a * k/\n <= a/\a <= maxLen:=by
 rcases h.2 with ⟨c,_⟩ | ⟨p,m,b,c,q,o,i,d,f,j⟩
 ·simp at c
 ·simp only [Value.slice.injEq,Option.some.injEq,Addr.mk.injEq,and_true,true_and] at c
  obtain ⟨rfl,rfl⟩:=c;exact ⟨b,o,f,i,d⟩
theorem TT.of_grown {a b:World}{lo hi B k n:Nat}{t:TypeId}{v:Value}{l G:List Value}(o:a.ownsRow lo t k v n l)(H:b.ownsRow B t k v n G)(c:a.grownBy b v.ownBlock)(E:∀ g,v.ownBlock=some g -> g < hi):TT (fun x=>x=t) lo hi a b:=by
 rcases o.2 with ⟨rfl,I⟩ | ⟨g,y,z,rfl,K,w,F,D,q,r⟩
 ·refine ⟨c.os,c.tape,c.output,c.size,fun i m _=>c.block i m (fun e=>by cases e),fun j cs _ d=>⟨cs,(c.block j (bl d) (fun e=>by cases e)).trans d,rfl⟩⟩
 ·refine ⟨c.os,c.tape,c.output,c.size,fun i m p=>c.block i m (fun e=>?_),fun j cs u d=>?_⟩
  ·obtain rfl:i=g:=Option.some.inj e
   have J:=E i rfl;rcases p with p | p | ⟨cs,u,s,C⟩
   ·omega
   ·omega
   ·rw [w] at s
    cases s;exact C rfl
  ·by_cases e:j=g
   ·subst e
    rw [w] at d;cases d;obtain ⟨f,m,p,_⟩:=Zis H;exact ⟨f,m,p.trans q.symm⟩
   ·exact ⟨cs,(c.block j (bl d) (fun A=>e (Option.some.inj A))).trans d,rfl⟩
theorem TT.own {T:TypeId -> Prop}{lo hi:Nat}{a b:World}{B k n:Nat}{t:TypeId}{v:Value}{l:List Value}(h:TT T lo hi a b)(o:a.ownsRow B t k v n l)(m:¬ T t):b.ownsRow B t k v n l:=by
 refine ⟨o.1,?_⟩;rcases o.2 with f | ⟨g,d,c,rfl,i,e,j⟩
 ·exact Or.inl f
 ·exact Or.inr ⟨g,d,c,rfl,i,(h.block g (bl e) (Or.inr (Or.inr ⟨c,t,e,m⟩))).trans e,j⟩
def Tg (lo hi:Nat)(w:World)(t:TypeId)(k:Nat)(v:Value)(n:Nat):Prop:=(∃ cs,w.ownsRow lo t k v n cs)/\∀ g,v.ownBlock=some g -> g < hi
theorem Tg.kept {lo hi k n:Nat}{w l:World}{t:TypeId}{v:Value}(h:Tg lo hi w t k v n)(u:KSz w l):Tg lo hi l t k v n:=by
 obtain ⟨⟨cs,o⟩,s⟩:=h;refine ⟨?_,s⟩;rcases o.2 with ⟨rfl,m⟩ | ⟨g,b,e,rfl,q,r,d,f,c,i⟩
 ·exact ⟨cs,o.1,Or.inl ⟨rfl,m⟩⟩
 ·obtain ⟨a,p,j⟩:=u g e t r
  have x:n * k <= b * k:=Nat.mul_le_mul_right k d;refine ⟨a.toList.take (n * k),?_,Or.inr ⟨g,b,a,rfl,q,p,d,f,j.trans c,rfl⟩⟩;rw [List.length_take,Array.length_toList,j,c];omega
def HI (lo hi:Nat)(w:World)(v:Value)(n:Nat):Prop:=∃ cs,w.ownsRow lo 70 12 v n cs/\(∀ g,v.ownBlock=some g -> g < hi)/\∀ i,i < n -> ∃ (v0:Value) (m0:Nat) (v1:Value) (m1:Nat) (v2:Value) (m2:Nat),cs[i * 12+2]? = some v0/\Tg lo hi w 176 5 v0 m0/\m0 <= 1048576/\cs[i * 12+10]? = some v1/\Tg lo hi w 9 1 v1 m1/\m1 <= 1048576/\cs[i * 12+11]? = some v2/\Tg lo hi w 9 1 v2 m2/\m2 <= 1048576
theorem HI.tt {T:TypeId -> Prop}{lo hi n:Nat}{w c:World}{v:Value}(h:HI lo hi w v n)(b:TT T lo hi w c)(j:¬ T 70):HI lo hi c v n:=by
 obtain ⟨cs,o,g,a⟩:=h;refine ⟨cs,b.own o j,g,fun i hi=>?_⟩;obtain ⟨x,p,y,q,z,r,d,s,k,e,t,l,f,u,m⟩:=a i hi;exact ⟨x,p,y,q,z,r,d,s.kept b.kept,k,e,t.kept b.kept,l,f,u.kept b.kept,m⟩
def LI (lo hi:Nat)(w:World)(v:Value)(n:Nat):Prop:=∃ cs,w.ownsRow lo 120 5 v n cs/\(∀ g,v.ownBlock=some g -> g < hi)/\∀ i,i < n -> ∃ (v0:Value) (m0:Nat) (v1:Value) (m1:Nat),cs[i * 5+2]? = some v0/\Tg lo hi w 9 1 v0 m0/\m0 <= 1048576/\cs[i * 5+4]? = some v1/\Tg lo hi w 122 2 v1 m1/\m1 <= 1048576
theorem LI.tt {T:TypeId -> Prop}{lo hi n:Nat}{w c:World}{v:Value}(h:LI lo hi w v n)(b:TT T lo hi w c)(g:¬ T 120):LI lo hi c v n:=by
 obtain ⟨cs,o,f,a⟩:=h;refine ⟨cs,b.own o g,f,fun i hi=>?_⟩;obtain ⟨r,l,s,m,d,p,j,e,q,k⟩:=a i hi;exact ⟨r,l,s,m,d,p.kept b.kept,j,e,q.kept b.kept,k⟩
def SI (lo hi:Nat)(w:World)(v:Value)(n:Nat):Prop:=∃ cs,w.ownsRow lo 37 1 v n cs/\(∀ g,v.ownBlock=some g -> g < hi)/\∀ i,i < n -> ∃ (v0:Value) (m0:Nat),cs[i]? = some v0/\Tg lo hi w 9 1 v0 m0/\m0 <= 1048576
theorem SI.tt {T:TypeId -> Prop}{lo hi n:Nat}{w c:World}{v:Value}(h:SI lo hi w v n)(b:TT T lo hi w c)(f:¬ T 37):SI lo hi c v n:=by
 obtain ⟨cs,o,e,a⟩:=h;refine ⟨cs,b.own o f,e,fun i hi=>?_⟩;obtain ⟨l,j,d,k,g⟩:=a i hi;exact ⟨l,j,d,k.kept b.kept,g⟩
theorem TT.hib {T:TypeId -> Prop}{lo hi j:Nat}{a b:World}{o:Obj}(h:TT T lo hi a b)(c:a.heap[j]? = some o)(d:hi <= j):b.heap[j]? = some o:=(h.block j (bl c) (Or.inr (Or.inl d))).trans c
theorem TT.any {T:TypeId -> Prop}{lo hi:Nat}{a b:World}(h:TT T lo hi a b):TT (fun _=>True) lo hi a b:=h.mono fun _ _=>trivial
theorem TT.bel {T:TypeId -> Prop}{lo hi B:Nat}{a b e:World}(h:TT T lo hi a b)(c:Below B e a)(f:B <= a.heap.size)(g:B <= lo):Below B e b :=
 ⟨h.os.trans c.os,h.tape.trans c.tape,h.output.trans c.output,Nat.le_trans c.size h.size,fun k d=>(h.block k (cm d f) (Or.inl (cm d g))).trans (c.block k d)⟩
theorem Tg.form {lo hi k n:Nat}{w:World}{t:TypeId}{v:Value}(h:Tg lo hi w t k v n):∃ b a,v=.slice b n a:=by
 obtain ⟨⟨_,o⟩,_⟩:=h;exact Zad o
theorem Tg.below {lo hi k n:Nat}{w a:World}{t:TypeId}{v:Value}(h:Tg lo hi w t k v n)(b:Below w.heap.size w a):Tg lo hi a t k v n:=h.kept (TT.of_below (fun _=>True) lo hi b).kept
theorem HI.form {lo hi n:Nat}{w:World}{v:Value}(h:HI lo hi w v n):∃ b a,v=.slice b n a:=by
 obtain ⟨_,o,_⟩:=h;exact Zad o
theorem LI.form {lo hi n:Nat}{w:World}{v:Value}(h:LI lo hi w v n):∃ b a,v=.slice b n a:=by
 obtain ⟨_,o,_⟩:=h;exact Zad o
theorem SI.form {lo hi n:Nat}{w:World}{v:Value}(h:SI lo hi w v n):∃ b a,v=.slice b n a:=by
 obtain ⟨_,o,_⟩:=h;exact Zad o
structure WI (lo hi:Nat)(w:World)(v1 v2 v3 vh vl vg vp va vt:Value)(n1 n2 n3 nh nl ng np na nt:Nat):Prop where
 c1:Tg lo hi w 176 5 v1 n1
 c2:Tg lo hi w 163 4 v2 n2
 c3:Tg lo hi w 157 3 v3 n3
 h:HI lo hi w vh nh
 l:LI lo hi w vl nl
 g:Tg lo hi w 124 5 vg ng
 p:Tg lo hi w 126 3 vp np
 a:SI lo hi w va na
 t:SI lo hi w vt nt
 l1:n1 <= 1048576
 l2:n2 <= 1048576
 l3:n3 <= 1048576
 lh:nh <= 1048576
 ll:nl <= 1048576
 lg:ng <= 1048576
 lp:np <= 1048576
 la:na <= 1048576
 lt:nt <= 1048576
end Go.Proofs.YtanhoamdlhaaeaaGreatDoor
