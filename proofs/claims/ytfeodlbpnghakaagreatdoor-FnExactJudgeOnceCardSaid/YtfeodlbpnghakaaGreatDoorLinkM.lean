/-
  Texts that stood by themselves, laid into one.
-/
import Derived.Test.YtfeodlbpnghakaaGreatDoorXRM
import Derived.Test.YtfeodlbpnghakaaGreatDoorPcMarkM
import Derived.Test.YtfeodlbpnghakaaGreatDoorInM
import Derived.Test.YtfeodlbpnghakaaGreatDoorMark2M
/-
  Homes, grams and parked ones: what they are as cells, and the contracts of the laws' helpers on one of them. No condition.
-/
set_option maxRecDepth 100000
set_option maxHeartbeats 6400000
namespace Go.Proofs.YtfeodlbpnghakaaGreatDoor
open Go.RowKit
structure Hm where
 pl:Int
 i:Int
 xs:List Nd
 m:Mc
 bx:List ByteArray
 ox:List ByteArray
structure Gm where
 k:Int
 f:Int
 t:Int
 n:Int
 s:ByteArray
structure Pd where
 p:Int
 t:Int
 s:ByteArray
theorem StRow.kp {w j:World}{v:Value}{f:List ByteArray}{B:Nat}(R:StRow w v f)(k:Fr B v)(h:Kp B w j):StRow j v f:=by
 obtain ⟨p,c,rfl,n,m,l,a⟩:=R
 refine ⟨p,c,rfl,n,m,l,fun b=>?_⟩
 obtain ⟨g,o,rfl,d,a⟩:=a b
 have e:=Zdp h k rfl d
 exact ⟨g,o,rfl,Nat.lt_of_lt_of_le d h.1,fun i x hi=>(World.cell?_of_block e).trans (a i x hi)⟩
theorem PcRow.kp {w j:World}{v:Value}{f:List Pc}{B:Nat}(R:PcRow w v f)(k:Fr B v)(h:Kp B w j):PcRow j v f:=by
 obtain ⟨p,c,rfl,n,m,l,a⟩:=R
 refine ⟨p,c,rfl,n,m,l,fun b=>?_⟩
 obtain ⟨g,o,rfl,d,a⟩:=a b
 have e:=Zdp h k rfl d
 refine ⟨g,o,rfl,Nat.lt_of_lt_of_le d h.1,fun i x hi=>?_⟩
 obtain ⟨c0,c1⟩:=a i x hi
 exact ⟨(World.cell?_of_block e).trans c0,(World.cell?_of_block e).trans c1⟩
def EH (B:Nat)(w:World)(cs:List Value)(h:Hm):Prop:=∃ v vb vo,cs.toArray=#[.int .i64 h.pl,.int .i64 h.i,v,.int .i64 h.m.p,.int .i64 h.m.s,.int .i64 h.m.e,.int .i64 h.m.d,.int .i64 h.m.t,.int .i64 h.m.q,.int .i64 h.m.r,vb,vo]/\NRow w v h.xs/\StRow w vb h.bx/\StRow w vo h.ox/\Fr B v/\Fr B vb/\Fr B vo
def EG (_:Nat)(_:World)(cs:List Value)(g:Gm):Prop:=cs.toArray=#[.int .i64 g.k,.int .i64 g.f,.int .i64 g.t,.int .i64 g.n,.string g.s]/\g.s.size <= maxLen
def EP (_:Nat)(_:World)(cs:List Value)(p:Pd):Prop:=cs.toArray=#[.int .i64 p.p,.int .i64 p.t,.string p.s]/\p.s.size <= maxLen
theorem stbH:Stb EH:=⟨fun _ _ _ _ _ ⟨v,vb,vo,h,r1,r2,r3,f1,f2,f3⟩ hk=>⟨v,vb,vo,h,r1.kp f1 hk,r2.kp f2 hk,r3.kp f3 hk,f1,f2,f3⟩,fun _ _ _ _ _ ⟨v,vb,vo,h,r1,r2,r3,f1,f2,f3⟩ hc=>⟨v,vb,vo,h,r1,r2,r3,f1.mono hc,f2.mono hc,f3.mono hc⟩⟩
theorem stbG:Stb EG:=⟨fun _ _ _ _ _ h _=>h,fun _ _ _ _ _ h _=>h⟩
theorem stbP:Stb EP:=⟨fun _ _ _ _ _ h _=>h,fun _ _ _ _ _ h _=>h⟩
def SmH (h:Hm):Prop:=h.xs.length <= 1048576/\h.bx.length <= 1048576/\h.ox.length <= 1048576/\∀ x ∈ h.bx,x.size <= 1048576
def SmG (_:Gm):Prop:=True
def SmP (_:Pd):Prop:=True
theorem Zm4:(Tryz.prog.info? 66).map (·.size)=some 12:=by kernel_rfl
theorem Znb:(Tryz.prog.info? 122).map (·.size)=some 5:=by kernel_rfl
theorem Zm7:(Tryz.prog.info? 124).map (·.size)=some 3:=by kernel_rfl
theorem ZmO:(Tryz.prog.info? 93).map (·.size)=some 11:=by kernel_rfl
theorem ZmV:(Tryz.prog.info? 102).map (·.size)=some 2:=by kernel_rfl
theorem StRow.szs {w:World}{v:Value}{a:List ByteArray}(R:StRow w v a):∀ x ∈ a,x.size <= maxLen:=by
 obtain ⟨_,_,_,_,_,h,_⟩:=R
 exact h
theorem NRow.szn {w:World}{v:Value}{a:List Nd}(R:NRow w v a):∀ x ∈ a,x.s.size <= maxLen:=by
 obtain ⟨_,_,_,_,_,h,_⟩:=R
 exact h
theorem ZhL (h:Hm)(v vb vo:Value)(w:World)(R:NRow w v h.xs)(X:StRow w vb h.bx)(Ro:StRow w vo h.ox)(C:SmH h) :
  Calls Tryz.prog 50 #[.agg #[.int .i64 h.pl,.int .i64 h.i,v,.int .i64 h.m.p,.int .i64 h.m.s,.int .i64 h.m.e,.int .i64 h.m.d,.int .i64 h.m.t,.int .i64 h.m.q,.int .i64 h.m.r,vb,vo]] w fun e S=>∃ N W V,e=.returned (.agg #[.int .i64 h.pl,.int .i64 h.i,N,.int .i64 h.m.p,.int .i64 h.m.s,.int .i64 h.m.e,.int .i64 h.m.d,.int .i64 h.m.t,.int .i64 h.m.q,.int .i64 h.m.r,W,V])/\NRow S N h.xs/\StRow S W h.bx/\StRow S V h.ox/\Fr w.heap.size N/\Fr w.heap.size W/\Fr w.heap.size V/\Below w.heap.size w S:=by
 have Y:=R.szn
 have aa:=X.szs
 have ae:=Ro.szs
 obtain ⟨f,b,rfl⟩:∃ f b,v=.slice f h.xs.length b:=by obtain ⟨f,b,rfl,_⟩:=R;exact ⟨f,b,rfl⟩
 obtain ⟨n,k,rfl⟩:=X.small
 obtain ⟨l,u,rfl⟩:=Ro.small
 have g:Below w.heap.size w (((w.alloc (Obj.cells #[.int .i64 h.pl,.int .i64 h.i,.slice f h.xs.length b,.int .i64 h.m.p,.int .i64 h.m.s,.int .i64 h.m.e,.int .i64 h.m.d,.int .i64 h.m.t,.int .i64 h.m.q,.int .i64 h.m.r,.slice n h.bx.length k,.slice l h.ox.length u] 95)).alloc (Obj.cells #[.int .i64 0,.int .i64 0,.slice none 0 0,.int .i64 0,.int .i64 0,.int .i64 0,.int .i64 0,.int .i64 0,.int .i64 0,.int .i64 0,.slice none 0 0,.slice none 0 0] 66)).alloc (Obj.cells #[.int .i64 0,.int .i64 0,.slice none 0 0,.int .i64 0,.int .i64 0,.int .i64 0,.int .i64 0,.int .i64 0,.int .i64 0,.int .i64 0,.slice none 0 0,.slice none 0 0] 66)):=(((Below.refl _ _).alloc (Nat.le_refl _) _).alloc (by simp) _).alloc (by simp;omega) _
 have A:(((w.alloc (Obj.cells #[.int .i64 h.pl,.int .i64 h.i,.slice f h.xs.length b,.int .i64 h.m.p,.int .i64 h.m.s,.int .i64 h.m.e,.int .i64 h.m.d,.int .i64 h.m.t,.int .i64 h.m.q,.int .i64 h.m.r,.slice n h.bx.length k,.slice l h.ox.length u] 95)).alloc (Obj.cells #[.int .i64 0,.int .i64 0,.slice none 0 0,.int .i64 0,.int .i64 0,.int .i64 0,.int .i64 0,.int .i64 0,.int .i64 0,.int .i64 0,.slice none 0 0,.slice none 0 0] 66)).alloc (Obj.cells #[.int .i64 0,.int .i64 0,.slice none 0 0,.int .i64 0,.int .i64 0,.int .i64 0,.int .i64 0,.int .i64 0,.int .i64 0,.int .i64 0,.slice none 0 0,.slice none 0 0] 66)).heap[w.heap.size]? = some (Obj.cells #[.int .i64 h.pl,.int .i64 h.i,.slice f h.xs.length b,.int .i64 h.m.p,.int .i64 h.m.s,.int .i64 h.m.e,.int .i64 h.m.d,.int .i64 h.m.t,.int .i64 h.m.q,.int .i64 h.m.r,.slice n h.bx.length k,.slice l h.ox.length u] 95):=(heap_alloc_old _ _ (by simp;omega)).trans ((heap_alloc_old _ _ (by simp)).trans (heap_alloc_new _ _))
 have B:(((w.alloc (Obj.cells #[.int .i64 h.pl,.int .i64 h.i,.slice f h.xs.length b,.int .i64 h.m.p,.int .i64 h.m.s,.int .i64 h.m.e,.int .i64 h.m.d,.int .i64 h.m.t,.int .i64 h.m.q,.int .i64 h.m.r,.slice n h.bx.length k,.slice l h.ox.length u] 95)).alloc (Obj.cells #[.int .i64 0,.int .i64 0,.slice none 0 0,.int .i64 0,.int .i64 0,.int .i64 0,.int .i64 0,.int .i64 0,.int .i64 0,.int .i64 0,.slice none 0 0,.slice none 0 0] 66)).alloc (Obj.cells #[.int .i64 0,.int .i64 0,.slice none 0 0,.int .i64 0,.int .i64 0,.int .i64 0,.int .i64 0,.int .i64 0,.int .i64 0,.int .i64 0,.slice none 0 0,.slice none 0 0] 66)).heap[w.heap.size+1]? = some (Obj.cells #[.int .i64 0,.int .i64 0,.slice none 0 0,.int .i64 0,.int .i64 0,.int .i64 0,.int .i64 0,.int .i64 0,.int .i64 0,.int .i64 0,.slice none 0 0,.slice none 0 0] 66):=(heap_alloc_old _ _ (by simp)).trans (heap_alloc2_new _ _ _)
 have z:(((w.alloc (Obj.cells #[.int .i64 h.pl,.int .i64 h.i,.slice f h.xs.length b,.int .i64 h.m.p,.int .i64 h.m.s,.int .i64 h.m.e,.int .i64 h.m.d,.int .i64 h.m.t,.int .i64 h.m.q,.int .i64 h.m.r,.slice n h.bx.length k,.slice l h.ox.length u] 95)).alloc (Obj.cells #[.int .i64 0,.int .i64 0,.slice none 0 0,.int .i64 0,.int .i64 0,.int .i64 0,.int .i64 0,.int .i64 0,.int .i64 0,.int .i64 0,.slice none 0 0,.slice none 0 0] 66)).alloc (Obj.cells #[.int .i64 0,.int .i64 0,.slice none 0 0,.int .i64 0,.int .i64 0,.int .i64 0,.int .i64 0,.int .i64 0,.int .i64 0,.int .i64 0,.slice none 0 0,.slice none 0 0] 66)).heap[w.heap.size+2]? = some (Obj.cells #[.int .i64 0,.int .i64 0,.slice none 0 0,.int .i64 0,.int .i64 0,.int .i64 0,.int .i64 0,.int .i64 0,.int .i64 0,.int .i64 0,.slice none 0 0,.slice none 0 0] 66):=by
  have h:=heap_alloc_new ((w.alloc (Obj.cells #[.int .i64 h.pl,.int .i64 h.i,.slice f h.xs.length b,.int .i64 h.m.p,.int .i64 h.m.s,.int .i64 h.m.e,.int .i64 h.m.d,.int .i64 h.m.t,.int .i64 h.m.q,.int .i64 h.m.r,.slice n h.bx.length k,.slice l h.ox.length u] 95)).alloc (Obj.cells #[.int .i64 0,.int .i64 0,.slice none 0 0,.int .i64 0,.int .i64 0,.int .i64 0,.int .i64 0,.int .i64 0,.int .i64 0,.int .i64 0,.slice none 0 0,.slice none 0 0] 66)) (Obj.cells #[.int .i64 0,.int .i64 0,.slice none 0 0,.int .i64 0,.int .i64 0,.int .i64 0,.int .i64 0,.int .i64 0,.int .i64 0,.int .i64 0,.slice none 0 0,.slice none 0 0] 66)
  simpa using h
 have c:w.heap.size+3 <= (((w.alloc (Obj.cells #[.int .i64 h.pl,.int .i64 h.i,.slice f h.xs.length b,.int .i64 h.m.p,.int .i64 h.m.s,.int .i64 h.m.e,.int .i64 h.m.d,.int .i64 h.m.t,.int .i64 h.m.q,.int .i64 h.m.r,.slice n h.bx.length k,.slice l h.ox.length u] 95)).alloc (Obj.cells #[.int .i64 0,.int .i64 0,.slice none 0 0,.int .i64 0,.int .i64 0,.int .i64 0,.int .i64 0,.int .i64 0,.int .i64 0,.int .i64 0,.slice none 0 0,.slice none 0 0] 66)).alloc (Obj.cells #[.int .i64 0,.int .i64 0,.slice none 0 0,.int .i64 0,.int .i64 0,.int .i64 0,.int .i64 0,.int .i64 0,.int .i64 0,.int .i64 0,.slice none 0 0,.slice none 0 0] 66)).heap.size:=by simp
 go_enter Tryz.func50,Tryz.ntmps50
 go_wp2_with (refine Zaa rfl 3 _ _ rfl (w.heap.size+2) 0 (.int .i64 h.pl) #[.int .i64 h.pl] rfl rfl rfl rfl 66 #[.int .i64 0,.int .i64 0,.slice none 0 0,.int .i64 0,.int .i64 0,.int .i64 0,.int .i64 0,.int .i64 0,.int .i64 0,.int .i64 0,.slice none 0 0,.slice none 0 0] #[.int .i64 h.pl,.int .i64 0,.slice none 0 0,.int .i64 0,.int .i64 0,.int .i64 0,.int .i64 0,.int .i64 0,.int .i64 0,.int .i64 0,.slice none 0 0,.slice none 0 0] z (by simp) (by kernel_rfl) rfl ?_)
 intro u1 H j y a
 replace A:=(a w.heap.size (by omega)).trans A
 replace B:=(a (w.heap.size+1) (by omega)).trans B
 replace g:=g.trans (j.mono (by omega))
 replace z:=H
 replace c:w.heap.size+3 <= u1.heap.size:=by omega
 clear H j y a
 go_wp2_with (refine Zam rfl 93 _ rfl w.heap.size 1 rfl _ 95 #[.int .i64 h.i,.slice f h.xs.length b,.int .i64 h.m.p,.int .i64 h.m.s,.int .i64 h.m.e,.int .i64 h.m.d,.int .i64 h.m.t,.int .i64 h.m.q,.int .i64 h.m.r,.slice n h.bx.length k,.slice l h.ox.length u] _ A rfl Tryz.underlying93 rfl ZmO ?_)
 refine (Ziq h.i _ _ _ h.xs h.m h.bx h.ox _ (R.below g) (X.below g) (Ro.below g) (by have:=C.1;omega) (by have:=C.2.1;omega) (by have:=C.2.2.1;omega)).mono ?_
 rintro e w2 ⟨N,W,V,rfl,J,Q,K,ag,D⟩
 replace A:=(bb A D)
 replace B:=(bb B D)
 replace z:=(bb z D)
 replace g:=g.trans (D.mono g.size)
 have F:=D.size
 obtain ⟨M,U,rfl⟩:=Zag J
 obtain ⟨P,O,rfl⟩:=Zag Q
 obtain ⟨T,L,rfl⟩:=Zag K
 have F1:=(Fr.of_own J).mono c
 have F2:=(Fr.of_own Q).mono c
 have F3:=(Fr.of_own K).mono c
 have E:=NRow.of_own J (by have:=C.1;omega) Y
 have I:=StRow.of_own Q (by have:=C.2.1;omega) aa
 have G:=StRow.of_own K (by have:=C.2.2.1;omega) ae
 clear J Q K ag
 replace c:w.heap.size+3 <= w2.heap.size:=Nat.le_trans c F
 clear D F
 go_wp2_with (refine ZaL rfl 64 _ _ rfl (w.heap.size+2) 1 #[.int .i64 h.i,.slice M h.xs.length U,.int .i64 h.m.p,.int .i64 h.m.s,.int .i64 h.m.e,.int .i64 h.m.d,.int .i64 h.m.t,.int .i64 h.m.q,.int .i64 h.m.r,.slice P h.bx.length O,.slice T h.ox.length L] rfl rfl 66 #[.int .i64 h.pl,.int .i64 0,.slice none 0 0,.int .i64 0,.int .i64 0,.int .i64 0,.int .i64 0,.int .i64 0,.int .i64 0,.int .i64 0,.slice none 0 0,.slice none 0 0] #[.int .i64 h.pl,.int .i64 h.i,.slice M h.xs.length U,.int .i64 h.m.p,.int .i64 h.m.s,.int .i64 h.m.e,.int .i64 h.m.d,.int .i64 h.m.t,.int .i64 h.m.q,.int .i64 h.m.r,.slice P h.bx.length O,.slice T h.ox.length L] z (by simp) ZmS (by simp [Value.oneCell']) rfl ?_)
 intro u2 H j y a
 have o:Kp (w.heap.size+3) _ u2:=Kp.of_oth (by omega) a (by omega)
 replace E:=E.kp F1 o
 replace I:=I.kp F2 o
 replace G:=G.kp F3 o
 replace A:=(a w.heap.size (by omega)).trans A
 replace B:=(a (w.heap.size+1) (by omega)).trans B
 replace g:=g.trans (j.mono (by omega))
 replace z:=H
 replace c:w.heap.size+3 <= u2.heap.size:=by omega
 clear H j y a o
 go_wp2_with (first
  | (refine wpList_load_row rfl 66 _ rfl (w.heap.size+2) rfl 66 #[.int .i64 h.pl,.int .i64 h.i,.slice M h.xs.length U,.int .i64 h.m.p,.int .i64 h.m.s,.int .i64 h.m.e,.int .i64 h.m.d,.int .i64 h.m.t,.int .i64 h.m.q,.int .i64 h.m.r,.slice P h.bx.length O,.slice T h.ox.length L] (0,0) _ z Tryz.underlying66 rfl Zm4 ?_)
  | (refine Zad rfl 66 _ _ rfl (w.heap.size+1) #[.int .i64 h.pl,.int .i64 h.i,.slice M h.xs.length U,.int .i64 h.m.p,.int .i64 h.m.s,.int .i64 h.m.e,.int .i64 h.m.d,.int .i64 h.m.t,.int .i64 h.m.q,.int .i64 h.m.r,.slice P h.bx.length O,.slice T h.ox.length L] rfl rfl 66 #[.int .i64 0,.int .i64 0,.slice none 0 0,.int .i64 0,.int .i64 0,.int .i64 0,.int .i64 0,.int .i64 0,.int .i64 0,.int .i64 0,.slice none 0 0,.slice none 0 0] B Zm4 rfl (by simp [Value.oneCell']) ?_))
 intro w9 ad Z ah x
 have o:Kp (w.heap.size+3) _ w9:=Kp.of_oth (by omega) x (by omega)
 replace E:=E.kp F1 o
 replace I:=I.kp F2 o
 replace G:=G.kp F3 o
 have af:Below w.heap.size w w9:=g.trans (Z.mono (by omega))
 go_wp2
 exact bodyPost_ret (results_cell_row rfl _ _ (w.heap.size+1) 66 _ (0,0) _ rfl ad Tryz.underlying66 rfl Zm4) rfl ⟨_,_,_,rfl,E,I,G,F1.mono (by omega),F2.mono (by omega),F3.mono (by omega),af⟩
theorem ZhX (g:Gm)(w:World) :
  Calls Tryz.prog 52 #[.agg #[.int .i64 g.k,.int .i64 g.f,.int .i64 g.t,.int .i64 g.n,.string g.s]] w fun e C=>e=.returned (.agg #[.int .i64 g.k,.int .i64 g.f,.int .i64 g.t,.int .i64 g.n,.string g.s])/\Below w.heap.size w C:=by
 have j:Below w.heap.size w (((w.alloc (Obj.cells #[.int .i64 g.k,.int .i64 g.f,.int .i64 g.t,.int .i64 g.n,.string g.s] 104)).alloc (Obj.cells #[.int .i64 0,.int .i64 0,.int .i64 0,.int .i64 0,.string ByteArray.empty] 122)).alloc (Obj.cells #[.int .i64 0,.int .i64 0,.int .i64 0,.int .i64 0,.string ByteArray.empty] 122)):=(((Below.refl _ _).alloc (Nat.le_refl _) _).alloc (by simp) _).alloc (by simp;omega) _
 have d:(((w.alloc (Obj.cells #[.int .i64 g.k,.int .i64 g.f,.int .i64 g.t,.int .i64 g.n,.string g.s] 104)).alloc (Obj.cells #[.int .i64 0,.int .i64 0,.int .i64 0,.int .i64 0,.string ByteArray.empty] 122)).alloc (Obj.cells #[.int .i64 0,.int .i64 0,.int .i64 0,.int .i64 0,.string ByteArray.empty] 122)).heap[w.heap.size]? = some (Obj.cells #[.int .i64 g.k,.int .i64 g.f,.int .i64 g.t,.int .i64 g.n,.string g.s] 104):=(heap_alloc_old _ _ (by simp;omega)).trans ((heap_alloc_old _ _ (by simp)).trans (heap_alloc_new _ _))
 have m:(((w.alloc (Obj.cells #[.int .i64 g.k,.int .i64 g.f,.int .i64 g.t,.int .i64 g.n,.string g.s] 104)).alloc (Obj.cells #[.int .i64 0,.int .i64 0,.int .i64 0,.int .i64 0,.string ByteArray.empty] 122)).alloc (Obj.cells #[.int .i64 0,.int .i64 0,.int .i64 0,.int .i64 0,.string ByteArray.empty] 122)).heap[w.heap.size+1]? = some (Obj.cells #[.int .i64 0,.int .i64 0,.int .i64 0,.int .i64 0,.string ByteArray.empty] 122):=(heap_alloc_old _ _ (by simp)).trans (heap_alloc2_new _ _ _)
 have l:(((w.alloc (Obj.cells #[.int .i64 g.k,.int .i64 g.f,.int .i64 g.t,.int .i64 g.n,.string g.s] 104)).alloc (Obj.cells #[.int .i64 0,.int .i64 0,.int .i64 0,.int .i64 0,.string ByteArray.empty] 122)).alloc (Obj.cells #[.int .i64 0,.int .i64 0,.int .i64 0,.int .i64 0,.string ByteArray.empty] 122)).heap[w.heap.size+2]? = some (Obj.cells #[.int .i64 0,.int .i64 0,.int .i64 0,.int .i64 0,.string ByteArray.empty] 122):=by
  have h:=heap_alloc_new ((w.alloc (Obj.cells #[.int .i64 g.k,.int .i64 g.f,.int .i64 g.t,.int .i64 g.n,.string g.s] 104)).alloc (Obj.cells #[.int .i64 0,.int .i64 0,.int .i64 0,.int .i64 0,.string ByteArray.empty] 122)) (Obj.cells #[.int .i64 0,.int .i64 0,.int .i64 0,.int .i64 0,.string ByteArray.empty] 122)
  simpa using h
 have i:w.heap.size+3 <= (((w.alloc (Obj.cells #[.int .i64 g.k,.int .i64 g.f,.int .i64 g.t,.int .i64 g.n,.string g.s] 104)).alloc (Obj.cells #[.int .i64 0,.int .i64 0,.int .i64 0,.int .i64 0,.string ByteArray.empty] 122)).alloc (Obj.cells #[.int .i64 0,.int .i64 0,.int .i64 0,.int .i64 0,.string ByteArray.empty] 122)).heap.size:=by simp
 go_enter Tryz.func52,Tryz.ntmps52
 go_wp2_with (refine Zaa rfl 3 _ _ rfl (w.heap.size+2) 0 (.int .i64 g.k) #[.int .i64 g.k] rfl rfl rfl rfl 122 #[.int .i64 0,.int .i64 0,.int .i64 0,.int .i64 0,.string ByteArray.empty] #[.int .i64 g.k,.int .i64 0,.int .i64 0,.int .i64 0,.string ByteArray.empty] l (by simp) (by kernel_rfl) rfl ?_)
 intro u1 o b c a
 replace d:=(a w.heap.size (by omega)).trans d
 replace m:=(a (w.heap.size+1) (by omega)).trans m
 replace j:=j.trans (b.mono (by omega))
 replace l:=o
 replace i:w.heap.size+3 <= u1.heap.size:=by omega
 clear o b c a
 have x:u1.cell? ⟨w.heap.size,0+1,none⟩=some (.int .i64 g.f):=cell_of_row u1 _ 1 _ _ _ d
 go_wp2_with (refine Zaa rfl 3 _ _ rfl (w.heap.size+2) 1 (.int .i64 g.f) #[.int .i64 g.f] rfl rfl rfl rfl 122 #[.int .i64 g.k,.int .i64 0,.int .i64 0,.int .i64 0,.string ByteArray.empty] #[.int .i64 g.k,.int .i64 g.f,.int .i64 0,.int .i64 0,.string ByteArray.empty] l (by simp) (by kernel_rfl) rfl ?_)
 intro u2 o b c a
 replace d:=(a w.heap.size (by omega)).trans d
 replace m:=(a (w.heap.size+1) (by omega)).trans m
 replace j:=j.trans (b.mono (by omega))
 replace l:=o
 replace i:w.heap.size+3 <= u2.heap.size:=by omega
 clear o b c a x
 have x:u2.cell? ⟨w.heap.size,0+2,none⟩=some (.int .i64 g.t):=cell_of_row u2 _ 2 _ _ _ d
 go_wp2_with (refine Zaa rfl 3 _ _ rfl (w.heap.size+2) 2 (.int .i64 g.t) #[.int .i64 g.t] rfl rfl rfl rfl 122 #[.int .i64 g.k,.int .i64 g.f,.int .i64 0,.int .i64 0,.string ByteArray.empty] #[.int .i64 g.k,.int .i64 g.f,.int .i64 g.t,.int .i64 0,.string ByteArray.empty] l (by simp) (by kernel_rfl) rfl ?_)
 intro u3 o b c a
 replace d:=(a w.heap.size (by omega)).trans d
 replace m:=(a (w.heap.size+1) (by omega)).trans m
 replace j:=j.trans (b.mono (by omega))
 replace l:=o
 replace i:w.heap.size+3 <= u3.heap.size:=by omega
 clear o b c a x
 go_wp2_with (refine Zam rfl 102 _ rfl w.heap.size 3 rfl _ 104 #[.int .i64 g.n,.string g.s] _ d rfl Tryz.underlying102 rfl ZmV ?_)
 refine (Zhg ⟨g.n,g.s⟩ _).mono ?_
 rintro e B ⟨rfl,p⟩
 replace d:=(bb d p)
 replace m:=(bb m p)
 replace l:=(bb l p)
 replace j:=j.trans (p.mono j.size)
 have q:=p.size
 replace i:w.heap.size+3 <= B.heap.size:=Nat.le_trans i q
 clear p q
 go_wp2_with (refine ZaL rfl 120 _ _ rfl (w.heap.size+2) 3 #[.int .i64 g.n,.string g.s] rfl rfl 122 #[.int .i64 g.k,.int .i64 g.f,.int .i64 g.t,.int .i64 0,.string ByteArray.empty] #[.int .i64 g.k,.int .i64 g.f,.int .i64 g.t,.int .i64 g.n,.string g.s] l (by simp) Znf (by simp [Value.oneCell']) rfl ?_)
 intro u4 o b c a
 replace d:=(a w.heap.size (by omega)).trans d
 replace m:=(a (w.heap.size+1) (by omega)).trans m
 replace j:=j.trans (b.mono (by omega))
 replace l:=o
 replace i:w.heap.size+3 <= u4.heap.size:=by omega
 clear o b c a
 go_wp2_with (first
  | (refine wpList_load_row rfl 122 _ rfl (w.heap.size+2) rfl 122 #[.int .i64 g.k,.int .i64 g.f,.int .i64 g.t,.int .i64 g.n,.string g.s] (0,0) _ l Tryz.underlying122 rfl Znb ?_)
  | (refine Zad rfl 122 _ _ rfl (w.heap.size+1) #[.int .i64 g.k,.int .i64 g.f,.int .i64 g.t,.int .i64 g.n,.string g.s] rfl rfl 122 #[.int .i64 0,.int .i64 0,.int .i64 0,.int .i64 0,.string ByteArray.empty] m Znb rfl (by simp [Value.oneCell']) ?_))
 intro z v r A u
 have y:Below w.heap.size w z:=j.trans (r.mono (by omega))
 go_wp2
 exact bodyPost_ret (results_cell_row rfl _ _ (w.heap.size+1) 122 _ (0,0) _ rfl v Tryz.underlying122 rfl Znb) rfl ⟨rfl,y⟩
theorem Zfn (p:Pd)(w:World) :
  Calls Tryz.prog 53 #[.agg #[.int .i64 p.p,.int .i64 p.t,.string p.s]] w fun e v=>e=.returned (.agg #[.int .i64 p.p,.int .i64 p.t,.string p.s])/\Below w.heap.size w v:=by
 have k:Below w.heap.size w (((w.alloc (Obj.cells #[.int .i64 p.p,.int .i64 p.t,.string p.s] 107)).alloc (Obj.cells #[.int .i64 0,.int .i64 0,.string ByteArray.empty] 124)).alloc (Obj.cells #[.int .i64 0,.int .i64 0,.string ByteArray.empty] 124)):=(((Below.refl _ _).alloc (Nat.le_refl _) _).alloc (by simp) _).alloc (by simp;omega) _
 have d:(((w.alloc (Obj.cells #[.int .i64 p.p,.int .i64 p.t,.string p.s] 107)).alloc (Obj.cells #[.int .i64 0,.int .i64 0,.string ByteArray.empty] 124)).alloc (Obj.cells #[.int .i64 0,.int .i64 0,.string ByteArray.empty] 124)).heap[w.heap.size]? = some (Obj.cells #[.int .i64 p.p,.int .i64 p.t,.string p.s] 107):=(heap_alloc_old _ _ (by simp;omega)).trans ((heap_alloc_old _ _ (by simp)).trans (heap_alloc_new _ _))
 have i:(((w.alloc (Obj.cells #[.int .i64 p.p,.int .i64 p.t,.string p.s] 107)).alloc (Obj.cells #[.int .i64 0,.int .i64 0,.string ByteArray.empty] 124)).alloc (Obj.cells #[.int .i64 0,.int .i64 0,.string ByteArray.empty] 124)).heap[w.heap.size+1]? = some (Obj.cells #[.int .i64 0,.int .i64 0,.string ByteArray.empty] 124):=(heap_alloc_old _ _ (by simp)).trans (heap_alloc2_new _ _ _)
 have g:(((w.alloc (Obj.cells #[.int .i64 p.p,.int .i64 p.t,.string p.s] 107)).alloc (Obj.cells #[.int .i64 0,.int .i64 0,.string ByteArray.empty] 124)).alloc (Obj.cells #[.int .i64 0,.int .i64 0,.string ByteArray.empty] 124)).heap[w.heap.size+2]? = some (Obj.cells #[.int .i64 0,.int .i64 0,.string ByteArray.empty] 124):=by
  have h:=heap_alloc_new ((w.alloc (Obj.cells #[.int .i64 p.p,.int .i64 p.t,.string p.s] 107)).alloc (Obj.cells #[.int .i64 0,.int .i64 0,.string ByteArray.empty] 124)) (Obj.cells #[.int .i64 0,.int .i64 0,.string ByteArray.empty] 124)
  simpa using h
 have j:w.heap.size+3 <= (((w.alloc (Obj.cells #[.int .i64 p.p,.int .i64 p.t,.string p.s] 107)).alloc (Obj.cells #[.int .i64 0,.int .i64 0,.string ByteArray.empty] 124)).alloc (Obj.cells #[.int .i64 0,.int .i64 0,.string ByteArray.empty] 124)).heap.size:=by simp
 go_enter Tryz.func53,Tryz.ntmps53
 go_wp2_with (refine Zaa rfl 3 _ _ rfl (w.heap.size+2) 0 (.int .i64 p.p) #[.int .i64 p.p] rfl rfl rfl rfl 124 #[.int .i64 0,.int .i64 0,.string ByteArray.empty] #[.int .i64 p.p,.int .i64 0,.string ByteArray.empty] g (by simp) (by kernel_rfl) rfl ?_)
 intro u1 f b c a
 replace d:=(a w.heap.size (by omega)).trans d
 replace i:=(a (w.heap.size+1) (by omega)).trans i
 replace k:=k.trans (b.mono (by omega))
 replace g:=f
 replace j:w.heap.size+3 <= u1.heap.size:=by omega
 clear f b c a
 have o:u1.cell? ⟨w.heap.size,0+1,none⟩=some (.int .i64 p.t):=cell_of_row u1 _ 1 _ _ _ d
 go_wp2_with (refine Zaa rfl 3 _ _ rfl (w.heap.size+2) 1 (.int .i64 p.t) #[.int .i64 p.t] rfl rfl rfl rfl 124 #[.int .i64 p.p,.int .i64 0,.string ByteArray.empty] #[.int .i64 p.p,.int .i64 p.t,.string ByteArray.empty] g (by simp) (by kernel_rfl) rfl ?_)
 intro u2 f b c a
 replace d:=(a w.heap.size (by omega)).trans d
 replace i:=(a (w.heap.size+1) (by omega)).trans i
 replace k:=k.trans (b.mono (by omega))
 replace g:=f
 replace j:w.heap.size+3 <= u2.heap.size:=by omega
 clear f b c a o
 have o:u2.cell? ⟨w.heap.size,0+2,none⟩=some (.string p.s):=cell_of_row u2 _ 2 _ _ _ d
 go_wp2_with (refine Zaa rfl 9 _ _ rfl (w.heap.size+2) 2 (.string p.s) #[.string p.s] rfl rfl rfl rfl 124 #[.int .i64 p.p,.int .i64 p.t,.string ByteArray.empty] #[.int .i64 p.p,.int .i64 p.t,.string p.s] g (by simp) (by kernel_rfl) rfl ?_)
 intro u3 f b c a
 replace d:=(a w.heap.size (by omega)).trans d
 replace i:=(a (w.heap.size+1) (by omega)).trans i
 replace k:=k.trans (b.mono (by omega))
 replace g:=f
 replace j:w.heap.size+3 <= u3.heap.size:=by omega
 clear f b c a o
 go_wp2_with (first
  | (refine wpList_load_row rfl 124 _ rfl (w.heap.size+2) rfl 124 #[.int .i64 p.p,.int .i64 p.t,.string p.s] (0,0) _ g Tryz.underlying124 rfl Zm7 ?_)
  | (refine Zad rfl 124 _ _ rfl (w.heap.size+1) #[.int .i64 p.p,.int .i64 p.t,.string p.s] rfl rfl 124 #[.int .i64 0,.int .i64 0,.string ByteArray.empty] i Zm7 rfl (by simp [Value.oneCell']) ?_))
 intro r m n u q
 have l:Below w.heap.size w r:=k.trans (n.mono (by omega))
 go_wp2
 exact bodyPost_ret (results_cell_row rfl _ _ (w.heap.size+1) 124 _ (0,0) _ rfl m Tryz.underlying124 rfl Zm7) rfl ⟨rfl,l⟩
theorem Zh1 (h:Hm)(v vb z:Value)(l:Int)(w:World)(R:NRow w v h.xs)(y:StRow w vb h.bx)(C:StRow w z h.ox)(u:0 <= l)(x:l <= 1048576) :
  Calls Tryz.prog 35 #[.agg #[.int .i64 h.pl,.int .i64 h.i,v,.int .i64 h.m.p,.int .i64 h.m.s,.int .i64 h.m.e,.int .i64 h.m.d,.int .i64 h.m.t,.int .i64 h.m.q,.int .i64 h.m.r,vb,z],.int .i64 l] w fun e D=>∃ r:Int,e=.returned (.int .i64 r) /\ -1 <= r/\r <= 1048576/\(0 <= r -> SmH h)/\Below w.heap.size w D:=by
 obtain ⟨c,a,rfl⟩:∃ c a,v=.slice c h.xs.length a:=by obtain ⟨c,a,rfl,_⟩:=R;exact ⟨c,a,rfl⟩
 obtain ⟨n,j,rfl⟩:=y.small
 obtain ⟨k,o,rfl⟩:=C.small
 have b:Below w.heap.size w (w.alloc (Obj.cells #[.int .i64 h.pl,.int .i64 h.i,.slice c h.xs.length a,.int .i64 h.m.p,.int .i64 h.m.s,.int .i64 h.m.e,.int .i64 h.m.d,.int .i64 h.m.t,.int .i64 h.m.q,.int .i64 h.m.r,.slice n h.bx.length j,.slice k h.ox.length o] 95)):=(Below.refl _ _).alloc (Nat.le_refl _) _
 have A:(w.alloc (Obj.cells #[.int .i64 h.pl,.int .i64 h.i,.slice c h.xs.length a,.int .i64 h.m.p,.int .i64 h.m.s,.int .i64 h.m.e,.int .i64 h.m.d,.int .i64 h.m.t,.int .i64 h.m.q,.int .i64 h.m.r,.slice n h.bx.length j,.slice k h.ox.length o] 95)).heap[w.heap.size]? = some (Obj.cells #[.int .i64 h.pl,.int .i64 h.i,.slice c h.xs.length a,.int .i64 h.m.p,.int .i64 h.m.s,.int .i64 h.m.e,.int .i64 h.m.d,.int .i64 h.m.t,.int .i64 h.m.q,.int .i64 h.m.r,.slice n h.bx.length j,.slice k h.ox.length o] 95):=heap_alloc_new _ _
 go_enter Tryz.func35,Tryz.ntmps35
 go_wp2_with (refine Zam rfl 93 _ rfl w.heap.size 1 rfl _ 95 #[.int .i64 h.i,.slice c h.xs.length a,.int .i64 h.m.p,.int .i64 h.m.s,.int .i64 h.m.e,.int .i64 h.m.d,.int .i64 h.m.t,.int .i64 h.m.q,.int .i64 h.m.r,.slice n h.bx.length j,.slice k h.ox.length o] _ A rfl Tryz.underlying93 rfl ZmO ?_)
 refine (Zhu l u x h.i _ _ _ h.xs h.m h.bx h.ox _ (R.below b) (y.below b) (C.below b)).mono ?_
 rintro e G ⟨r,rfl,F,H,f,B⟩
 have g:=b.trans (B.mono b.size)
 clear b A B
 by_cases E:r < 0
 ·have I:Hid (r = -1):=by unfold Hid;omega
  go_wp2
  go_ret
  exact ⟨-1,rfl,by omega,by omega,fun h=>by omega,g⟩
 ·have f:=f (by omega)
  go_wp2
  go_ret
  exact ⟨r,rfl,by omega,by omega,fun _=>⟨f.1.1,f.2.1.1,f.2.2.1,f.2.1.2⟩,g⟩
theorem Zhp (g:Gm)(l:Int)(w:World)(m:g.s.size <= maxLen)(c:0 <= l)(d:l <= 1048576) :
  Calls Tryz.prog 37 #[.agg #[.int .i64 g.k,.int .i64 g.f,.int .i64 g.t,.int .i64 g.n,.string g.s],.int .i64 l] w fun e u=>∃ r:Int,e=.returned (.int .i64 r) /\ -1 <= r/\r <= 1048576/\(0 <= r -> SmG g)/\Below w.heap.size w u:=by
 have a:Below w.heap.size w (w.alloc (Obj.cells #[.int .i64 g.k,.int .i64 g.f,.int .i64 g.t,.int .i64 g.n,.string g.s] 104)):=(Below.refl _ _).alloc (Nat.le_refl _) _
 have o:(w.alloc (Obj.cells #[.int .i64 g.k,.int .i64 g.f,.int .i64 g.t,.int .i64 g.n,.string g.s] 104)).heap[w.heap.size]? = some (Obj.cells #[.int .i64 g.k,.int .i64 g.f,.int .i64 g.t,.int .i64 g.n,.string g.s] 104):=heap_alloc_new _ _
 have q:g.s.size <= 9223372036854775807:=by unfold maxLen at m;omega
 go_enter Tryz.func37,Tryz.ntmps37
 go_wp2_with (refine Zam rfl 102 _ rfl w.heap.size 3 rfl _ 104 #[.int .i64 g.n,.string g.s] _ o rfl Tryz.underlying102 rfl ZmV ?_)
 refine (Zg5 ⟨g.n,g.s⟩ l _ m c d).mono ?_
 rintro e v ⟨rfl,j⟩
 have b:=a.trans (j.mono a.size)
 clear a o j
 by_cases p:l < g.s.size
 ·have i:Hid (less l g.s.size = -1):=by unfold Hid less;rw [if_pos p]
  rw [show less l (Pc.mk g.n g.s).s.size = -1 from i.out]
  go_wp2
  go_ret
  exact ⟨-1,rfl,by omega,by omega,fun h=>by omega,b⟩
 ·have i:Hid (less l g.s.size=l - g.s.size):=by unfold Hid less;rw [if_neg p]
  rw [show less l (Pc.mk g.n g.s).s.size=l - g.s.size from i.out]
  go_wp2
  go_ret
  exact ⟨_,rfl,by omega,by omega,fun _=>trivial,b⟩
theorem Zfp (p:Pd)(l:Int)(w:World)(b:p.s.size <= maxLen)(f:0 <= l)(d:l <= 1048576) :
  Calls Tryz.prog 38 #[.agg #[.int .i64 p.p,.int .i64 p.t,.string p.s],.int .i64 l] w fun e g=>∃ r:Int,e=.returned (.int .i64 r) /\ -1 <= r/\r <= 1048576/\(0 <= r -> SmP p)/\Below w.heap.size w g:=by
 have c:p.s.size <= 9223372036854775807:=by unfold maxLen at b;omega
 have a:Below w.heap.size w (w.alloc (Obj.cells #[.int .i64 p.p,.int .i64 p.t,.string p.s] 107)):=(Below.refl _ _).alloc (Nat.le_refl _) _
 go_enter Tryz.func38,Tryz.ntmps38
 by_cases i:l < p.s.size
 ·go_wp2
  go_ret
  exact ⟨-1,rfl,by omega,by omega,fun h=>by omega,a⟩
 ·go_wp2
  go_ret
  exact ⟨_,rfl,by omega,by omega,fun _=>trivial,a⟩
theorem Zig (h:Hm)(v vb o u K I:Value)(w:World)(R:NRow w v h.xs)(g:StRow w vb h.bx)(J:StRow w o h.ox)(S:NRow w u h.xs)(z:StRow w K h.bx)(n:StRow w I h.ox) :
  Calls Tryz.prog 64 #[.agg #[.int .i64 h.pl,.int .i64 h.i,v,.int .i64 h.m.p,.int .i64 h.m.s,.int .i64 h.m.e,.int .i64 h.m.d,.int .i64 h.m.t,.int .i64 h.m.q,.int .i64 h.m.r,vb,o],.agg #[.int .i64 h.pl,.int .i64 h.i,u,.int .i64 h.m.p,.int .i64 h.m.s,.int .i64 h.m.e,.int .i64 h.m.d,.int .i64 h.m.t,.int .i64 h.m.q,.int .i64 h.m.r,K,I]] w fun e L=>e=.returned (.bool true)/\Below w.heap.size w L:=by
 obtain ⟨c,a,rfl⟩:∃ c a,v=.slice c h.xs.length a:=by obtain ⟨c,a,rfl,_⟩:=R;exact ⟨c,a,rfl⟩
 obtain ⟨D,k,rfl⟩:=g.small
 obtain ⟨A,G,rfl⟩:=J.small
 obtain ⟨l,H,rfl⟩:∃ c a,u=.slice c h.xs.length a:=by obtain ⟨c,a,rfl,_⟩:=S;exact ⟨c,a,rfl⟩
 obtain ⟨B,x,rfl⟩:=z.small
 obtain ⟨E,j,rfl⟩:=n.small
 obtain ⟨b,y,C⟩:=Zav w (Obj.cells #[.int .i64 h.pl,.int .i64 h.i,.slice c h.xs.length a,.int .i64 h.m.p,.int .i64 h.m.s,.int .i64 h.m.e,.int .i64 h.m.d,.int .i64 h.m.t,.int .i64 h.m.q,.int .i64 h.m.r,.slice D h.bx.length k,.slice A h.ox.length G] 66) (Obj.cells #[.int .i64 h.pl,.int .i64 h.i,.slice l h.xs.length H,.int .i64 h.m.p,.int .i64 h.m.s,.int .i64 h.m.e,.int .i64 h.m.d,.int .i64 h.m.t,.int .i64 h.m.q,.int .i64 h.m.r,.slice B h.bx.length x,.slice E h.ox.length j] 66)
 go_enter Tryz.func64,Tryz.ntmps64
 go_wp2_with (first
  | (refine Zam rfl 64 _ rfl w.heap.size 1 rfl _ 66 #[.int .i64 h.i,.slice c h.xs.length a,.int .i64 h.m.p,.int .i64 h.m.s,.int .i64 h.m.e,.int .i64 h.m.d,.int .i64 h.m.t,.int .i64 h.m.q,.int .i64 h.m.r,.slice D h.bx.length k,.slice A h.ox.length G] _ y rfl Tryz.underlying64 rfl ZmS ?_)
  | (refine Zam rfl 64 _ rfl (w.heap.size+1) 1 rfl _ 66 #[.int .i64 h.i,.slice l h.xs.length H,.int .i64 h.m.p,.int .i64 h.m.s,.int .i64 h.m.e,.int .i64 h.m.d,.int .i64 h.m.t,.int .i64 h.m.q,.int .i64 h.m.r,.slice B h.bx.length x,.slice E h.ox.length j] _ C rfl Tryz.underlying64 rfl ZmS ?_))
 refine (Zh2 h.i _ _ _ _ _ _ h.xs h.m h.bx h.ox _ (R.below b) (g.below b) (J.below b) (S.below b) (z.below b) (n.below b)).mono ?_
 rintro e M ⟨rfl,F⟩
 have f:=b.trans (F.mono b.size)
 clear b y C F
 go_wp2
 go_ret
 exact ⟨rfl,f⟩
theorem ZhP (g:Gm)(w:World) :
  Calls Tryz.prog 66 #[.agg #[.int .i64 g.k,.int .i64 g.f,.int .i64 g.t,.int .i64 g.n,.string g.s],.agg #[.int .i64 g.k,.int .i64 g.f,.int .i64 g.t,.int .i64 g.n,.string g.s]] w fun e i=>e=.returned (.bool true)/\Below w.heap.size w i:=by
 obtain ⟨a,d,h⟩:=Zav w (Obj.cells #[.int .i64 g.k,.int .i64 g.f,.int .i64 g.t,.int .i64 g.n,.string g.s] 122) (Obj.cells #[.int .i64 g.k,.int .i64 g.f,.int .i64 g.t,.int .i64 g.n,.string g.s] 122)
 go_enter Tryz.func66,Tryz.ntmps66
 go_wp2_with (first
  | (refine Zam rfl 120 _ rfl w.heap.size 3 rfl _ 122 #[.int .i64 g.n,.string g.s] _ d rfl Tryz.underlying120 rfl Znf ?_)
  | (refine Zam rfl 120 _ rfl (w.heap.size+1) 3 rfl _ 122 #[.int .i64 g.n,.string g.s] _ h rfl Tryz.underlying120 rfl Znf ?_))
 refine (Zhf ⟨g.n,g.s⟩ _).mono ?_
 rintro e j ⟨rfl,c⟩
 have b:=a.trans (c.mono a.size)
 clear a d h c
 go_wp2
 go_ret
 exact ⟨rfl,b⟩
theorem Zfs (p:Pd)(w:World) :
  Calls Tryz.prog 67 #[.agg #[.int .i64 p.p,.int .i64 p.t,.string p.s],.agg #[.int .i64 p.p,.int .i64 p.t,.string p.s]] w fun e b=>e=.returned (.bool true)/\Below w.heap.size w b:=by
 obtain ⟨a,c,d⟩:=Zav w (Obj.cells #[.int .i64 p.p,.int .i64 p.t,.string p.s] 124) (Obj.cells #[.int .i64 p.p,.int .i64 p.t,.string p.s] 124)
 clear c d
 go_enter Tryz.func67,Tryz.ntmps67
 go_wp2
 go_ret
 exact ⟨rfl,a⟩
def SOwn (w:World)(base:Nat)(v:Value)(xs:List ByteArray):Prop :=
 ∃ ao cap,v=.slice ao xs.length cap/\(xs.length <= cap/\(ao=none -> cap=0)) /\
  (xs=[] \/ ∃ g CAP N pre post,ao=some ⟨g,pre.length,none⟩/\pre.length+xs.length+post.length=N/\w.ownsRow base 9 1 (.slice (some ⟨g,0,none⟩) N CAP) N (stv (pre ++ (xs ++ post))))
theorem SOwn.of_own {w:World}{base:Nat}{v:Value}{a:List ByteArray}(h:w.ownsRow base 9 1 v a.length (stv a)):SOwn w base v a:=by
 have e:=h
 rcases h.2 with ⟨rfl,f⟩ | ⟨g,b,cur,rfl,k,l,d,i,j,c⟩
 ·have:a=[]:=List.eq_nil_of_length_eq_zero f
  subst this
  exact ⟨none,0,rfl,by simp,Or.inl rfl⟩
 ·exact ⟨_,b,rfl,⟨d,fun h=>by cases h⟩,Or.inr ⟨g,b,a.length,[],[],rfl,by simp,by simpa using e⟩⟩
theorem SOwn.row {w:World}{base:Nat}{v:Value}{b:List ByteArray}(h:SOwn w base v b)(m:b.length <= 9223372036854775807)(l:∀ x ∈ b,x.size <= maxLen):StRow w v b:=by
 obtain ⟨o,e,rfl,n,h⟩:=h
 refine ⟨o,e,rfl,n,m,l,fun c=>?_⟩
 rcases h with h | ⟨g,k,N,a,j,rfl,p,f⟩
 ·exact absurd h c
 ·refine ⟨g,a.length,rfl,(f.lt g rfl).2,fun i x hi=>?_⟩
  have d:i < b.length:=(List.getElem?_eq_some_iff.1 hi).1
  have:=f.cellAt (a.length+i) (by omega)
  rw [this]
  apply Zgh
  rw [List.getElem?_append_right (by omega),show a.length+i - a.length=i by omega,List.getElem?_append_left d]
  exact hi
theorem SOwn.below {w f:World}{base:Nat}{v:Value}{e:List ByteArray}(h:SOwn w base v e)(j:Below w.heap.size w f):SOwn f base v e:=by
 obtain ⟨l,d,rfl,k,h⟩:=h
 refine ⟨l,d,rfl,k,?_⟩
 rcases h with h | ⟨g,b,N,c,a,rfl,m,i⟩
 ·exact Or.inl h
 ·exact Or.inr ⟨g,b,N,c,a,rfl,m,Zac i j⟩
theorem SOwn.alloc {w:World}{base:Nat}{v:Value}{a:List ByteArray}(h:SOwn w base v a)(o:Obj):SOwn (w.alloc o) base v a:=h.below ((Below.refl _ _).alloc (Nat.le_refl _) _)
theorem SOwn.blk {w:World}{base:Nat}{v:Value}{d:List ByteArray}(h:SOwn w base v d)(a:d ≠ []):∃ g cs,v.ownBlock=some g/\base <= g/\w.heap[g]? = some (.cells cs 9 (0,0)):=by
 obtain ⟨p,m,rfl,n,h⟩:=h
 rcases h with h | ⟨g,f,N,l,b,rfl,q,i⟩
 ·exact absurd h a
 ·rcases i.2 with ⟨e,_⟩ | ⟨o,c,cur,e,j,k,_⟩
  ·cases e
  ·cases e
   exact ⟨_,cur,rfl,j,k⟩
theorem SOwn.kept {w j:World}{base:Nat}{v:Value}{d:List ByteArray}{o:Option Nat}(h:SOwn w base v d)(m:w.grownBy j o)(a:d=[] \/ ∀ g,v.ownBlock=some g -> o ≠ some g):SOwn j base v d:=by
 obtain ⟨n,i,rfl,l,h⟩:=h
 refine ⟨n,i,rfl,l,?_⟩
 rcases h with h | ⟨g,c,N,f,b,rfl,p,k⟩
 ·exact Or.inl h
 ·rcases a with a | a
  ·exact Or.inl a
  ·refine Or.inr ⟨g,c,N,f,b,rfl,p,k.kept m (Or.inr fun e=>a g rfl ?_)⟩
   simpa [Value.ownBlock] using e.symm
structure Lk where
 sent:Int
 acked:Int
 q:List ByteArray
 got:Int
 h:List Pc
theorem Zng:(Tryz.prog.info? 70).map (·.size)=some 5:=by kernel_rfl
theorem ZhB (i:Int)(j:0 <= i)(n:i <= 1048576)(v x:Value)(l:Lk)(w:World)(u:StRow w v l.q)(z:PcRow w x l.h) :
  Calls Tryz.prog 36 #[.agg #[.int .i64 l.sent,.int .i64 l.acked,v,.int .i64 l.got,x],.int .i64 i] w fun e C=>∃ r:Int,e=.returned (.int .i64 r) /\ -1 <= r/\r <= 1048576/\(0 <= r -> l.q.length <= 1048576/\l.h.length <= 1048576)/\Below w.heap.size w C:=by
 obtain ⟨y,c1,rfl⟩:=u.small
 obtain ⟨t,c2,rfl⟩:=z.small
 go_enter Tryz.func36,Tryz.ntmps36
 go_wp2_with fail
 have b:Below w.heap.size w (w.alloc (Obj.cells #[.int .i64 l.sent,.int .i64 l.acked,.slice y l.q.length c1,.int .i64 l.got,.slice t l.h.length c2] 99)):=(Below.refl _ _).alloc (Nat.le_refl _) _
 refine (Zcy _ l.q i _ (u.below b) j n).mono ?_
 rintro e o ⟨k,rfl,E,H,p,c⟩
 have d:o.heap[w.heap.size]? = some (.cells #[.int .i64 l.sent,.int .i64 l.acked,.slice y l.q.length c1,.int .i64 l.got,.slice t l.h.length c2] 99 (0,0)):=(c.block _ (by simp)).trans (heap_alloc_new _ _)
 have a:=b.trans (c.mono b.size)
 have m:o.cell? ⟨w.heap.size,0+4,none⟩=some (.slice t l.h.length c2):=by rw [cell_of_row o _ 4 _ _ _ d];rfl
 clear b c
 by_cases D:k < 0
 ·have B:Hid (k = -1):=by unfold Hid;omega
  go_wp2
  go_ret
  exact ⟨-1,rfl,by omega,by omega,fun h=>by omega,a⟩
 ·have p:=p (by omega)
  go_wp2_with fail
  refine (ZiK _ l.h k _ (z.below a) (by omega) (by omega)).mono ?_
  rintro e F ⟨s,rfl,I,G,k2,f⟩
  have g:=a.trans (f.mono a.size)
  clear m d a f
  by_cases A:s < 0
  ·have B:Hid (s = -1):=by unfold Hid;omega
   go_wp2
   go_ret
   exact ⟨-1,rfl,by omega,by omega,fun h=>by omega,g⟩
  ·have k2:=k2 (by omega)
   go_wp2
   go_ret
   exact ⟨s,rfl,by omega,by omega,fun _=>⟨p.1,k2.1⟩,g⟩
theorem Zix (u C u1 u2:Value)(l:Lk)(w:World)(A:StRow w u l.q)(v:PcRow w C l.h)(t:StRow w u1 l.q)(z:PcRow w u2 l.h) :
  Calls Tryz.prog 65 #[.agg #[.int .i64 l.sent,.int .i64 l.acked,u,.int .i64 l.got,C],.agg #[.int .i64 l.sent,.int .i64 l.acked,u1,.int .i64 l.got,u2]] w fun e D=>e=.returned (.bool true)/\Below w.heap.size w D:=by
 obtain ⟨x,c1,rfl⟩:=A.small
 obtain ⟨r,c2,rfl⟩:=v.small
 obtain ⟨y,B,rfl⟩:=t.small
 obtain ⟨p,k,rfl⟩:=z.small
 go_enter Tryz.func65,Tryz.ntmps65
 go_wp2_with fail
 have b:Below w.heap.size w ((w.alloc (Obj.cells #[.int .i64 l.sent,.int .i64 l.acked,.slice x l.q.length c1,.int .i64 l.got,.slice r l.h.length c2] 70)).alloc (Obj.cells #[.int .i64 l.sent,.int .i64 l.acked,.slice y l.q.length B,.int .i64 l.got,.slice p l.h.length k] 70)):=((Below.refl _ _).alloc (Nat.le_refl _) _).alloc (by simp) _
 refine (Zcz _ _ l.q _ (A.below b) (t.below b)).mono ?_
 rintro e c ⟨rfl,d⟩
 have g:c.heap[w.heap.size]? = some (.cells #[.int .i64 l.sent,.int .i64 l.acked,.slice x l.q.length c1,.int .i64 l.got,.slice r l.h.length c2] 70 (0,0)):=(d.block _ (by simp;omega)).trans ((heap_alloc_old _ _ (by simp)).trans (heap_alloc_new _ _))
 have f:c.heap[w.heap.size+1]? = some (.cells #[.int .i64 l.sent,.int .i64 l.acked,.slice y l.q.length B,.int .i64 l.got,.slice p l.h.length k] 70 (0,0)):=(d.block _ (by simp)).trans (heap_alloc2_new _ _ _)
 have a:=b.trans (d.mono b.size)
 have n:c.cell? ⟨w.heap.size,0+3,none⟩=some (.int .i64 l.got):=by rw [cell_of_row c _ 3 _ _ _ g];rfl
 have j:c.cell? ⟨w.heap.size+1,0+3,none⟩=some (.int .i64 l.got):=by rw [cell_of_row c _ 3 _ _ _ f];rfl
 have m:c.cell? ⟨w.heap.size,0+4,none⟩=some (.slice r l.h.length c2):=by rw [cell_of_row c _ 4 _ _ _ g];rfl
 have o:c.cell? ⟨w.heap.size+1,0+4,none⟩=some (.slice p l.h.length k):=by rw [cell_of_row c _ 4 _ _ _ f];rfl
 clear b d
 go_wp2_with fail
 refine (ZjJ _ _ l.h _ (v.below a) (z.below a)).mono ?_
 rintro e E ⟨rfl,i⟩
 have s:=a.trans (i.mono a.size)
 clear n j g f a i m o
 go_wp2
 go_ret
 exact ⟨rfl,s⟩
theorem Ziv (U Z:Value)(l:Lk)(w:World)(Y:StRow w U l.q)(V:PcRow w Z l.h)(h1:l.q.length <= 2097152)(h2:l.h.length <= 2097152) :
  Calls Tryz.prog 51 #[.agg #[.int .i64 l.sent,.int .i64 l.acked,U,.int .i64 l.got,Z]] w fun e O=>∃ u1 u2,e=.returned (.agg #[.int .i64 l.sent,.int .i64 l.acked,u1,.int .i64 l.got,u2])/\O.ownsRow w.heap.size 9 1 u1 l.q.length (stv l.q)/\O.ownsRow w.heap.size 120 2 u2 l.h.length (pccs l.h)/\Below w.heap.size w O:=by
 obtain ⟨X,c1,rfl⟩:=Y.small
 obtain ⟨P,c2,rfl⟩:=V.small
 go_enter Tryz.func51,Tryz.ntmps51
 go_wp2_with fail
 have j:Below w.heap.size w (((w.alloc (Obj.cells #[.int .i64 l.sent,.int .i64 l.acked,.slice X l.q.length c1,.int .i64 l.got,.slice P l.h.length c2] 99)).alloc (Obj.cells #[.int .i64 0,.int .i64 0,.slice none 0 0,.int .i64 0,.slice none 0 0] 70)).alloc (Obj.cells #[.int .i64 l.sent,.int .i64 l.acked,.slice none 0 0,.int .i64 0,.slice none 0 0] 70)) :=
  (((Below.refl _ _).alloc (Nat.le_refl _) _).alloc (by simp) _).alloc (by simp;omega) _
 refine (Zco _ l.q _ (Y.below j) h1).mono ?_
 rintro e b ⟨u1,rfl,y,i⟩
 obtain ⟨r,s,rfl⟩:=Zag y
 have u:b.heap[w.heap.size]? = some (.cells #[.int .i64 l.sent,.int .i64 l.acked,.slice X l.q.length c1,.int .i64 l.got,.slice P l.h.length c2] 99 (0,0)):=(i.block _ (by simp;omega)).trans ((heap_alloc_old _ _ (by simp;omega)).trans ((heap_alloc_old _ _ (by simp)).trans (heap_alloc_new _ _)))
 have B:b.heap[w.heap.size+1]? = some (.cells #[.int .i64 0,.int .i64 0,.slice none 0 0,.int .i64 0,.slice none 0 0] 70 (0,0)):=(i.block _ (by simp)).trans ((heap_alloc_old _ _ (by simp)).trans (heap_alloc2_new _ _ _))
 have c:b.heap[w.heap.size+1+1]? = some (.cells #[.int .i64 l.sent,.int .i64 l.acked,.slice none 0 0,.int .i64 0,.slice none 0 0] 70 (0,0)):=(i.block _ (by simp)).trans (ZbA _ _ _ _)
 have C:=j.trans (i.mono j.size)
 have t:b.ownsRow (w.heap.size+3) 9 1 (.slice r l.q.length s) l.q.length (stv l.q):=by simpa using y
 have L:b.cell? ⟨w.heap.size+1+1,0+2,none⟩=some (.slice none 0 0):=by rw [cell_of_row b _ 2 _ _ _ c];rfl
 have F:b.cell? ⟨w.heap.size+1+1,0+3,none⟩=some (.int .i64 0):=by rw [cell_of_row b _ 3 _ _ _ c];rfl
 have T:b.frozen? ⟨w.heap.size+1+1,0+2,none⟩=false:=frozen_of_row b _ 2 _ _ c
 have K:b.frozen? ⟨w.heap.size+1+1,0+3,none⟩=false:=frozen_of_row b _ 3 _ _ c
 have M:b.cell? ⟨w.heap.size,0+3,none⟩=some (.int .i64 l.got):=by rw [cell_of_row b _ 3 _ _ _ u];rfl
 have H:b.cell? ⟨w.heap.size,0+4,none⟩=some (.slice P l.h.length c2):=by rw [cell_of_row b _ 4 _ _ _ u];rfl
 clear j i y
 go_wp2_with fail
 have d:Below w.heap.size w ((b.setCell ⟨w.heap.size+1+1,2,none⟩ (.slice r l.q.length s)).setCell ⟨w.heap.size+1+1,3,none⟩ (.int .i64 l.got)):=(C.setCell (p:=⟨w.heap.size+1+1,2,none⟩) (by simp;omega) _).setCell (p:=⟨w.heap.size+1+1,3,none⟩) (by simp;omega) _
 refine (ZiS _ l.h _ (V.below d) h2).mono ?_
 rintro e f ⟨u2,rfl,x,g⟩
 obtain ⟨o,m,rfl⟩:=Zag x
 have A:=Zac (ownsRow_setCell_below (ownsRow_setCell_below t (a:=⟨w.heap.size+1+1,2,none⟩) (by simp) (.slice r l.q.length s)) (a:=⟨w.heap.size+1+1,3,none⟩) (by simp) (.int .i64 l.got)) g
 have J:f.heap[w.heap.size+1]? = some (.cells #[.int .i64 0,.int .i64 0,.slice none 0 0,.int .i64 0,.slice none 0 0] 70 (0,0)):=(g.block _ (by simp;have:=(bl c);omega)).trans ((heap_setCell_other _ ⟨w.heap.size+1+1,3,none⟩ (w.heap.size+1) _ (by simp)).trans ((heap_setCell_other b ⟨w.heap.size+1+1,2,none⟩ (w.heap.size+1) _ (by simp)).trans B))
 have z:f.heap[w.heap.size+1+1]? = some (.cells #[.int .i64 l.sent,.int .i64 l.acked,.slice r l.q.length s,.int .i64 l.got,.slice none 0 0] 70 (0,0)):=(g.block _ (by simp;have:=(bl c);omega)).trans (heap_setCell_same _ (w.heap.size+1+1) 3 _ _ (.int .i64 l.got) (heap_setCell_same b (w.heap.size+1+1) 2 _ _ (.slice r l.q.length s) c))
 have R:=d.trans (g.mono d.size)
 have aa:=(bl c)
 have D:f.ownsRow (w.heap.size+3) 120 2 (.slice o l.h.length m) l.h.length (pccs l.h):=Zah x (by simp;omega)
 have ab:f.cell? ⟨w.heap.size+1+1,0+4,none⟩=some (.slice none 0 0):=by rw [cell_of_row f _ 4 _ _ _ z];rfl
 have ac:f.frozen? ⟨w.heap.size+1+1,0+4,none⟩=false:=frozen_of_row f _ 4 _ _ z
 clear C d g t x u B c L T M H F K
 have S:(f.setCell ⟨w.heap.size+1+1,4,none⟩ (.slice o l.h.length m)).heap[w.heap.size+1+1]? = some (.cells #[.int .i64 l.sent,.int .i64 l.acked,.slice r l.q.length s,.int .i64 l.got,.slice o l.h.length m] 70 (0,0)):=heap_setCell_same f (w.heap.size+1+1) 4 _ _ (.slice o l.h.length m) z
 have I:=(heap_setCell_other f ⟨w.heap.size+1+1,4,none⟩ (w.heap.size+1) (.slice o l.h.length m) (by simp)).trans J
 go_wp2_with (first
  | refine wpList_load_row rfl 70 _ rfl (w.heap.size+1+1) rfl 70 #[.int .i64 l.sent,.int .i64 l.acked,.slice r l.q.length s,.int .i64 l.got,.slice o l.h.length m] (0,0) _ S Tryz.underlying70 rfl Zng ?_
  | refine Zad rfl 70 _ _ rfl (w.heap.size+1) #[.int .i64 l.sent,.int .i64 l.acked,.slice r l.q.length s,.int .i64 l.got,.slice o l.h.length m] rfl rfl 70 _ I Zng rfl (by simp [Value.oneCell']) ?_)
 intro w3 Q N _ E
 have G:=(R.setCell (p:=⟨w.heap.size+1+1,4,none⟩) (by simp;omega) (.slice o l.h.length m)).trans (N.mono (by omega))
 have W:∀ {e:TypeId} {k:Nat} {v:Value} {n:Nat} {xs:List Value},f.ownsRow (w.heap.size+3) e k v n xs -> w3.ownsRow (w.heap.size+3) e k v n xs:=fun h =>
  Zak (ownsRow_setCell_below h (a:=⟨w.heap.size+1+1,4,none⟩) (by simp) _) (by omega) E
 go_wp2
 exact bodyPost_ret (results_cell_row rfl _ _ (w.heap.size+1) 70 _ (0,0) _ rfl Q Tryz.underlying70 rfl Zng) rfl ⟨_,_,rfl,Zah (W A) (by omega),Zah (W D) (by omega),G⟩
def VarL (w:World)(b lo hi:Nat)(v1 v2:Value)(l:Lk):Prop :=
 w.heap[b]? = some (.cells #[.int .i64 l.sent,.int .i64 l.acked,v1,.int .i64 l.got,v2] 70 (0,0))/\SOwn w lo v1 l.q/\w.ownsRow lo 120 2 v2 l.h.length (pccs l.h)/\(l.q ≠ [] -> ∀ k,v1.ownBlock=some k -> k < hi)/\(∀ k,v2.ownBlock=some k -> k < hi)/\hi <= w.heap.size
theorem VarL.below {w c:World}{b lo hi:Nat}{d e:Value}{l:Lk}(h:VarL w b lo hi d e l)(a:Below w.heap.size w c):VarL c b lo hi d e l :=
 ⟨(a.block b (Array.getElem?_eq_some_iff.1 h.1).1).trans h.1,h.2.1.below a,Zac h.2.2.1 a,h.2.2.2.1,h.2.2.2.2.1,Nat.le_trans h.2.2.2.2.2 a.size⟩
theorem VarL.lt {w:World}{b lo hi:Nat}{a c:Value}{l:Lk}(h:VarL w b lo hi a c l):b < w.heap.size:=(Array.getElem?_eq_some_iff.1 h.1).1
def lmk (l:Lk):Lk:=⟨l.sent,l.acked,sm 1 l.q.length,l.got,ZlK (1+l.q.length) l.h l.h.length⟩
def Turned (w w':World)(lo hi:Nat):Prop :=
 w'.os=w.os/\w'.tape=w.tape/\w'.output=w.output/\w.heap.size <= w'.heap.size/\∀ k,k < w.heap.size -> (k < lo \/ hi <= k \/ ∃ cs t,w.heap[k]? = some (.cells cs t (0,0))/\t ≠ 9/\t ≠ 120) -> w'.heap[k]? = w.heap[k]?
theorem Turned.block {w b:World}{lo hi k:Nat}{cs:Array Value}{t:TypeId}(h:Turned w b lo hi)(a:w.heap[k]? = some (.cells cs t (0,0)))(c:t ≠ 9)(d:t ≠ 120):b.heap[k]? = some (.cells cs t (0,0)) :=
 (h.2.2.2.2 k (bl a) (Or.inr (Or.inr ⟨cs,t,a,c,d⟩))).trans a
end Go.Proofs.YtfeodlbpnghakaaGreatDoor
