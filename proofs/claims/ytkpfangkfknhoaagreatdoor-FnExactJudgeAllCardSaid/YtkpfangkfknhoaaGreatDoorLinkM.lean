/-
  Texts that stood by themselves, laid into one.
-/
import Derived.Test.YtkpfangkfknhoaaGreatDoorXRM
import Derived.Test.YtkpfangkfknhoaaGreatDoorPcMarkM
import Derived.Test.YtkpfangkfknhoaaGreatDoorInM
import Derived.Test.YtkpfangkfknhoaaGreatDoorMark2M
/-
  Homes, grams and parked ones: what they are as cells, and the contracts of the laws' helpers on one of them. No condition.
-/
set_option maxRecDepth 100000
set_option maxHeartbeats 6400000
namespace Go.Proofs.YtkpfangkfknhoaaGreatDoor
open Go.Proofs.Tryz
open Go.RowKit
structure Hm where
 pl:Int
 i:Int
 xs:List Nd
 m:Mc
 bx:List ByteArray
 ox:List ByteArray
structure Gm where
 k:Int
 f:Int
 t:Int
 n:Int
 s:ByteArray
structure Pd where
 p:Int
 t:Int
 s:ByteArray
theorem StRow.kp {w d:World}{v:Value}{h:List ByteArray}{B:Nat}(R:StRow w v h)(n:Fr B v)(f:Kp B w d):StRow d v h:=by
 obtain ⟨p,c,rfl,m,k,l,a⟩:=R;refine ⟨p,c,rfl,m,k,l,fun b=>?_⟩;obtain ⟨g,o,rfl,j,a⟩:=a b;have e:=ZdG f n rfl j;exact ⟨g,o,rfl,cy j f.1,fun i x hi=>(World.cell?_of_block e).trans (a i x hi)⟩
theorem PcRow.kp {w d:World}{v:Value}{h:List Pc}{B:Nat}(R:PcRow w v h)(n:Fr B v)(f:Kp B w d):PcRow d v h:=by
 obtain ⟨p,c,rfl,m,k,l,a⟩:=R;refine ⟨p,c,rfl,m,k,l,fun b=>?_⟩;obtain ⟨g,o,rfl,j,a⟩:=a b;have e:=ZdG f n rfl j;refine ⟨g,o,rfl,cy j f.1,fun i x hi=>?_⟩;obtain ⟨c0,c1⟩:=a i x hi;exact ⟨(World.cell?_of_block e).trans c0,(World.cell?_of_block e).trans c1⟩
def EH (B:Nat)(w:World)(cs:List Value)(h:Hm):Prop:=∃ v vb vo,cs.toArray=#[.int .i64 h.pl,.int .i64 h.i,v,.int .i64 h.m.p,.int .i64 h.m.s,.int .i64 h.m.e,.int .i64 h.m.d,.int .i64 h.m.t,.int .i64 h.m.q,.int .i64 h.m.r,vb,vo]/\NRow w v h.xs/\StRow w vb h.bx/\StRow w vo h.ox/\Fr B v/\Fr B vb/\Fr B vo
def EG (_:Nat)(_:World)(cs:List Value)(g:Gm):Prop:=cs.toArray=#[.int .i64 g.k,.int .i64 g.f,.int .i64 g.t,.int .i64 g.n,.string g.s]/\g.s.size <= maxLen
def EP (_:Nat)(_:World)(cs:List Value)(p:Pd):Prop:=cs.toArray=#[.int .i64 p.p,.int .i64 p.t,.string p.s]/\p.s.size <= maxLen
theorem stbH:Stb EH:=⟨fun _ _ _ _ _ ⟨v,vb,vo,h,r1,r2,r3,f1,f2,f3⟩ hk=>⟨v,vb,vo,h,r1.kp f1 hk,r2.kp f2 hk,r3.kp f3 hk,f1,f2,f3⟩,fun _ _ _ _ _ ⟨v,vb,vo,h,r1,r2,r3,f1,f2,f3⟩ hc=>⟨v,vb,vo,h,r1,r2,r3,f1.mono hc,f2.mono hc,f3.mono hc⟩⟩
theorem stbG:Stb EG:=⟨fun _ _ _ _ _ h _=>h,fun _ _ _ _ _ h _=>h⟩
theorem stbP:Stb EP:=⟨fun _ _ _ _ _ h _=>h,fun _ _ _ _ _ h _=>h⟩
def SmH (h:Hm):Prop:=h.xs.length <= 1048576/\h.bx.length <= 1048576/\h.ox.length <= 1048576/\∀ x ∈ h.bx,x.size <= 1048576
def SmG (_:Gm):Prop:=True
def SmP (_:Pd):Prop:=True
theorem ZnN:(prog.info? 103).map (·.size)=some 12:=by kernel_rfl
theorem ZnI:(prog.info? 116).map (·.size)=some 5:=by kernel_rfl
theorem ZnU:(prog.info? 118).map (·.size)=some 3:=by kernel_rfl
theorem Zns:(prog.info? 82).map (·.size)=some 11:=by kernel_rfl
theorem Znx:(prog.info? 91).map (·.size)=some 2:=by kernel_rfl
theorem StRow.szs {w:World}{v:Value}{a:List ByteArray}(R:StRow w v a):∀ x ∈ a,x.size <= maxLen:=by
 obtain ⟨_,_,_,_,_,h,_⟩:=R;exact h
theorem NRow.szn {w:World}{v:Value}{a:List Nd}(R:NRow w v a):∀ x ∈ a,x.s.size <= maxLen:=by
 obtain ⟨_,_,_,_,_,h,_⟩:=R;exact h
theorem Zir (h:Hm)(v vb vo:Value)(w:World)(R:NRow w v h.xs)(Rb:StRow w vb h.bx)(X:StRow w vo h.ox)(C:SmH h) :
  Calls prog 48 #[.agg #[.int .i64 h.pl,.int .i64 h.i,v,.int .i64 h.m.p,.int .i64 h.m.s,.int .i64 h.m.e,.int .i64 h.m.d,.int .i64 h.m.t,.int .i64 h.m.q,.int .i64 h.m.r,vb,vo]] w fun e S=>∃ L N V,e=.returned (.agg #[.int .i64 h.pl,.int .i64 h.i,L,.int .i64 h.m.p,.int .i64 h.m.s,.int .i64 h.m.e,.int .i64 h.m.d,.int .i64 h.m.t,.int .i64 h.m.q,.int .i64 h.m.r,N,V])/\NRow S L h.xs/\StRow S N h.bx/\StRow S V h.ox/\Fr w.heap.size L/\Fr w.heap.size N/\Fr w.heap.size V/\Below w.heap.size w S:=by
 have ah:=R.szn;have ae:=Rb.szs;have aa:=X.szs;obtain ⟨f,b,rfl⟩:∃ f b,v=.slice f h.xs.length b:=by obtain ⟨f,b,rfl,_⟩:=R;exact ⟨f,b,rfl⟩
 obtain ⟨n,u,rfl⟩:=Rb.small;obtain ⟨o,l,rfl⟩:=X.small;have j:Below w.heap.size w (((w.alloc (Obj.cells #[.int .i64 h.pl,.int .i64 h.i,.slice f h.xs.length b,.int .i64 h.m.p,.int .i64 h.m.s,.int .i64 h.m.e,.int .i64 h.m.d,.int .i64 h.m.t,.int .i64 h.m.q,.int .i64 h.m.r,.slice n h.bx.length u,.slice o h.ox.length l] 84)).alloc (Obj.cells #[.int .i64 0,.int .i64 0,.slice none 0 0,.int .i64 0,.int .i64 0,.int .i64 0,.int .i64 0,.int .i64 0,.int .i64 0,.int .i64 0,.slice none 0 0,.slice none 0 0] 103)).alloc (Obj.cells #[.int .i64 0,.int .i64 0,.slice none 0 0,.int .i64 0,.int .i64 0,.int .i64 0,.int .i64 0,.int .i64 0,.int .i64 0,.int .i64 0,.slice none 0 0,.slice none 0 0] 103)):=(((cj _ _).alloc (ce _) _).alloc (by simp) _).alloc (by simp;omega) _
 have B:(((w.alloc (Obj.cells #[.int .i64 h.pl,.int .i64 h.i,.slice f h.xs.length b,.int .i64 h.m.p,.int .i64 h.m.s,.int .i64 h.m.e,.int .i64 h.m.d,.int .i64 h.m.t,.int .i64 h.m.q,.int .i64 h.m.r,.slice n h.bx.length u,.slice o h.ox.length l] 84)).alloc (Obj.cells #[.int .i64 0,.int .i64 0,.slice none 0 0,.int .i64 0,.int .i64 0,.int .i64 0,.int .i64 0,.int .i64 0,.int .i64 0,.int .i64 0,.slice none 0 0,.slice none 0 0] 103)).alloc (Obj.cells #[.int .i64 0,.int .i64 0,.slice none 0 0,.int .i64 0,.int .i64 0,.int .i64 0,.int .i64 0,.int .i64 0,.int .i64 0,.int .i64 0,.slice none 0 0,.slice none 0 0] 103)).heap[w.heap.size]? = some (Obj.cells #[.int .i64 h.pl,.int .i64 h.i,.slice f h.xs.length b,.int .i64 h.m.p,.int .i64 h.m.s,.int .i64 h.m.e,.int .i64 h.m.d,.int .i64 h.m.t,.int .i64 h.m.q,.int .i64 h.m.r,.slice n h.bx.length u,.slice o h.ox.length l] 84):=(cz _ _ (by simp;omega)).trans ((cz _ _ (by simp)).trans (co _ _))
 have x:(((w.alloc (Obj.cells #[.int .i64 h.pl,.int .i64 h.i,.slice f h.xs.length b,.int .i64 h.m.p,.int .i64 h.m.s,.int .i64 h.m.e,.int .i64 h.m.d,.int .i64 h.m.t,.int .i64 h.m.q,.int .i64 h.m.r,.slice n h.bx.length u,.slice o h.ox.length l] 84)).alloc (Obj.cells #[.int .i64 0,.int .i64 0,.slice none 0 0,.int .i64 0,.int .i64 0,.int .i64 0,.int .i64 0,.int .i64 0,.int .i64 0,.int .i64 0,.slice none 0 0,.slice none 0 0] 103)).alloc (Obj.cells #[.int .i64 0,.int .i64 0,.slice none 0 0,.int .i64 0,.int .i64 0,.int .i64 0,.int .i64 0,.int .i64 0,.int .i64 0,.int .i64 0,.slice none 0 0,.slice none 0 0] 103)).heap[w.heap.size+1]? = some (Obj.cells #[.int .i64 0,.int .i64 0,.slice none 0 0,.int .i64 0,.int .i64 0,.int .i64 0,.int .i64 0,.int .i64 0,.int .i64 0,.int .i64 0,.slice none 0 0,.slice none 0 0] 103):=(cz _ _ (by simp)).trans (cH _ _ _)
 have z:(((w.alloc (Obj.cells #[.int .i64 h.pl,.int .i64 h.i,.slice f h.xs.length b,.int .i64 h.m.p,.int .i64 h.m.s,.int .i64 h.m.e,.int .i64 h.m.d,.int .i64 h.m.t,.int .i64 h.m.q,.int .i64 h.m.r,.slice n h.bx.length u,.slice o h.ox.length l] 84)).alloc (Obj.cells #[.int .i64 0,.int .i64 0,.slice none 0 0,.int .i64 0,.int .i64 0,.int .i64 0,.int .i64 0,.int .i64 0,.int .i64 0,.int .i64 0,.slice none 0 0,.slice none 0 0] 103)).alloc (Obj.cells #[.int .i64 0,.int .i64 0,.slice none 0 0,.int .i64 0,.int .i64 0,.int .i64 0,.int .i64 0,.int .i64 0,.int .i64 0,.int .i64 0,.slice none 0 0,.slice none 0 0] 103)).heap[w.heap.size+2]? = some (Obj.cells #[.int .i64 0,.int .i64 0,.slice none 0 0,.int .i64 0,.int .i64 0,.int .i64 0,.int .i64 0,.int .i64 0,.int .i64 0,.int .i64 0,.slice none 0 0,.slice none 0 0] 103):=by
  have h:=co ((w.alloc (Obj.cells #[.int .i64 h.pl,.int .i64 h.i,.slice f h.xs.length b,.int .i64 h.m.p,.int .i64 h.m.s,.int .i64 h.m.e,.int .i64 h.m.d,.int .i64 h.m.t,.int .i64 h.m.q,.int .i64 h.m.r,.slice n h.bx.length u,.slice o h.ox.length l] 84)).alloc (Obj.cells #[.int .i64 0,.int .i64 0,.slice none 0 0,.int .i64 0,.int .i64 0,.int .i64 0,.int .i64 0,.int .i64 0,.int .i64 0,.int .i64 0,.slice none 0 0,.slice none 0 0] 103)) (Obj.cells #[.int .i64 0,.int .i64 0,.slice none 0 0,.int .i64 0,.int .i64 0,.int .i64 0,.int .i64 0,.int .i64 0,.int .i64 0,.int .i64 0,.slice none 0 0,.slice none 0 0] 103)
  simpa using h
 have c:w.heap.size+3 <= (((w.alloc (Obj.cells #[.int .i64 h.pl,.int .i64 h.i,.slice f h.xs.length b,.int .i64 h.m.p,.int .i64 h.m.s,.int .i64 h.m.e,.int .i64 h.m.d,.int .i64 h.m.t,.int .i64 h.m.q,.int .i64 h.m.r,.slice n h.bx.length u,.slice o h.ox.length l] 84)).alloc (Obj.cells #[.int .i64 0,.int .i64 0,.slice none 0 0,.int .i64 0,.int .i64 0,.int .i64 0,.int .i64 0,.int .i64 0,.int .i64 0,.int .i64 0,.slice none 0 0,.slice none 0 0] 103)).alloc (Obj.cells #[.int .i64 0,.int .i64 0,.slice none 0 0,.int .i64 0,.int .i64 0,.int .i64 0,.int .i64 0,.int .i64 0,.int .i64 0,.int .i64 0,.slice none 0 0,.slice none 0 0] 103)).heap.size:=by simp
 go_enter func48,ntmps48
 go_wp2_with (refine Zab rfl 3 _ _ rfl (w.heap.size+2) 0 (.int .i64 h.pl) #[.int .i64 h.pl] rfl rfl rfl rfl 103 #[.int .i64 0,.int .i64 0,.slice none 0 0,.int .i64 0,.int .i64 0,.int .i64 0,.int .i64 0,.int .i64 0,.int .i64 0,.int .i64 0,.slice none 0 0,.slice none 0 0] #[.int .i64 h.pl,.int .i64 0,.slice none 0 0,.int .i64 0,.int .i64 0,.int .i64 0,.int .i64 0,.int .i64 0,.int .i64 0,.int .i64 0,.slice none 0 0,.slice none 0 0] z (by simp) (by kernel_rfl) rfl ?_)
 intro u1 H g y a;replace B:=(a w.heap.size (by omega)).trans B;replace x:=(a (w.heap.size+1) (by omega)).trans x;replace j:=j.trans (g.mono (by omega));replace z:=H;replace c:w.heap.size+3 <= u1.heap.size:=by omega
 clear H g y a
 go_wp2_with (refine Zam rfl 82 _ rfl w.heap.size 1 rfl _ 84 #[.int .i64 h.i,.slice f h.xs.length b,.int .i64 h.m.p,.int .i64 h.m.s,.int .i64 h.m.e,.int .i64 h.m.d,.int .i64 h.m.t,.int .i64 h.m.q,.int .i64 h.m.r,.slice n h.bx.length u,.slice o h.ox.length l] _ B rfl underlying82 rfl Zns ?_)
 refine (Zif h.i _ _ _ h.xs h.m h.bx h.ox _ (R.below j) (Rb.below j) (X.below j) (by have:=C.1;omega) (by have:=C.2.1;omega) (by have:=C.2.2.1;omega)).mono ?_;rintro e w2 ⟨L,N,V,rfl,M,T,Q,ad,D⟩;replace B:=(bb B D);replace x:=(bb x D);replace z:=(bb z D);replace j:=j.trans (D.mono j.size);have E:=D.size;obtain ⟨P,U,rfl⟩:=Zag M;obtain ⟨W,J,rfl⟩:=Zag T;obtain ⟨O,K,rfl⟩:=Zag Q;have F1:=(Fr.of_own M).mono c;have Z:=(Fr.of_own T).mono c;have Y:=(Fr.of_own Q).mono c;have G:=NRow.of_own M (by have:=C.1;omega) ah;have F:=StRow.of_own T (by have:=C.2.1;omega) ae;have I:=StRow.of_own Q (by have:=C.2.2.1;omega) aa;clear M T Q ad;replace c:w.heap.size+3 <= w2.heap.size:=Nat.le_trans c E;clear D E
 go_wp2_with (refine ZaM rfl 101 _ _ rfl (w.heap.size+2) 1 #[.int .i64 h.i,.slice P h.xs.length U,.int .i64 h.m.p,.int .i64 h.m.s,.int .i64 h.m.e,.int .i64 h.m.d,.int .i64 h.m.t,.int .i64 h.m.q,.int .i64 h.m.r,.slice W h.bx.length J,.slice O h.ox.length K] rfl rfl 103 #[.int .i64 h.pl,.int .i64 0,.slice none 0 0,.int .i64 0,.int .i64 0,.int .i64 0,.int .i64 0,.int .i64 0,.int .i64 0,.int .i64 0,.slice none 0 0,.slice none 0 0] #[.int .i64 h.pl,.int .i64 h.i,.slice P h.xs.length U,.int .i64 h.m.p,.int .i64 h.m.s,.int .i64 h.m.e,.int .i64 h.m.d,.int .i64 h.m.t,.int .i64 h.m.q,.int .i64 h.m.r,.slice W h.bx.length J,.slice O h.ox.length K] z (by simp) Zny (by simp [Value.oneCell']) rfl ?_)
 intro u2 H g y a;have k:Kp (w.heap.size+3) _ u2:=Kp.of_oth (by omega) a (by omega);replace G:=G.kp F1 k;replace F:=F.kp Z k;replace I:=I.kp Y k;replace B:=(a w.heap.size (by omega)).trans B;replace x:=(a (w.heap.size+1) (by omega)).trans x;replace j:=j.trans (g.mono (by omega));replace z:=H;replace c:w.heap.size+3 <= u2.heap.size:=by omega
 clear H g y a k
 go_wp2_with (first
  | (refine cE rfl 103 _ rfl (w.heap.size+2) rfl 103 #[.int .i64 h.pl,.int .i64 h.i,.slice P h.xs.length U,.int .i64 h.m.p,.int .i64 h.m.s,.int .i64 h.m.e,.int .i64 h.m.d,.int .i64 h.m.t,.int .i64 h.m.q,.int .i64 h.m.r,.slice W h.bx.length J,.slice O h.ox.length K] (0,0) _ z underlying103 rfl ZnN ?_)
  | (refine Zae rfl 103 _ _ rfl (w.heap.size+1) #[.int .i64 h.pl,.int .i64 h.i,.slice P h.xs.length U,.int .i64 h.m.p,.int .i64 h.m.s,.int .i64 h.m.e,.int .i64 h.m.d,.int .i64 h.m.t,.int .i64 h.m.q,.int .i64 h.m.r,.slice W h.bx.length J,.slice O h.ox.length K] rfl rfl 103 #[.int .i64 0,.int .i64 0,.slice none 0 0,.int .i64 0,.int .i64 0,.int .i64 0,.int .i64 0,.int .i64 0,.int .i64 0,.int .i64 0,.slice none 0 0,.slice none 0 0] x ZnN rfl (by simp [Value.oneCell']) ?_))
 intro w9 ai af aj A;have k:Kp (w.heap.size+3) _ w9:=Kp.of_oth (by omega) A (by omega);replace G:=G.kp F1 k;replace F:=F.kp Z k;replace I:=I.kp Y k;have ag:Below w.heap.size w w9:=j.trans (af.mono (by omega));go_wp2;exact cx (results_cell_row rfl _ _ (w.heap.size+1) 103 _ (0,0) _ rfl ai underlying103 rfl ZnN) rfl ⟨_,_,_,rfl,G,F,I,F1.mono (by omega),Z.mono (by omega),Y.mono (by omega),ag⟩
theorem ZiS (g:Gm)(w:World) :
  Calls prog 50 #[.agg #[.int .i64 g.k,.int .i64 g.f,.int .i64 g.t,.int .i64 g.n,.string g.s]] w fun e B=>e=.returned (.agg #[.int .i64 g.k,.int .i64 g.f,.int .i64 g.t,.int .i64 g.n,.string g.s])/\Below w.heap.size w B:=by
 have j:Below w.heap.size w (((w.alloc (Obj.cells #[.int .i64 g.k,.int .i64 g.f,.int .i64 g.t,.int .i64 g.n,.string g.s] 93)).alloc (Obj.cells #[.int .i64 0,.int .i64 0,.int .i64 0,.int .i64 0,.string ByteArray.empty] 116)).alloc (Obj.cells #[.int .i64 0,.int .i64 0,.int .i64 0,.int .i64 0,.string ByteArray.empty] 116)):=(((cj _ _).alloc (ce _) _).alloc (by simp) _).alloc (by simp;omega) _
 have d:(((w.alloc (Obj.cells #[.int .i64 g.k,.int .i64 g.f,.int .i64 g.t,.int .i64 g.n,.string g.s] 93)).alloc (Obj.cells #[.int .i64 0,.int .i64 0,.int .i64 0,.int .i64 0,.string ByteArray.empty] 116)).alloc (Obj.cells #[.int .i64 0,.int .i64 0,.int .i64 0,.int .i64 0,.string ByteArray.empty] 116)).heap[w.heap.size]? = some (Obj.cells #[.int .i64 g.k,.int .i64 g.f,.int .i64 g.t,.int .i64 g.n,.string g.s] 93):=(cz _ _ (by simp;omega)).trans ((cz _ _ (by simp)).trans (co _ _))
 have l:(((w.alloc (Obj.cells #[.int .i64 g.k,.int .i64 g.f,.int .i64 g.t,.int .i64 g.n,.string g.s] 93)).alloc (Obj.cells #[.int .i64 0,.int .i64 0,.int .i64 0,.int .i64 0,.string ByteArray.empty] 116)).alloc (Obj.cells #[.int .i64 0,.int .i64 0,.int .i64 0,.int .i64 0,.string ByteArray.empty] 116)).heap[w.heap.size+1]? = some (Obj.cells #[.int .i64 0,.int .i64 0,.int .i64 0,.int .i64 0,.string ByteArray.empty] 116):=(cz _ _ (by simp)).trans (cH _ _ _)
 have m:(((w.alloc (Obj.cells #[.int .i64 g.k,.int .i64 g.f,.int .i64 g.t,.int .i64 g.n,.string g.s] 93)).alloc (Obj.cells #[.int .i64 0,.int .i64 0,.int .i64 0,.int .i64 0,.string ByteArray.empty] 116)).alloc (Obj.cells #[.int .i64 0,.int .i64 0,.int .i64 0,.int .i64 0,.string ByteArray.empty] 116)).heap[w.heap.size+2]? = some (Obj.cells #[.int .i64 0,.int .i64 0,.int .i64 0,.int .i64 0,.string ByteArray.empty] 116):=by
  have h:=co ((w.alloc (Obj.cells #[.int .i64 g.k,.int .i64 g.f,.int .i64 g.t,.int .i64 g.n,.string g.s] 93)).alloc (Obj.cells #[.int .i64 0,.int .i64 0,.int .i64 0,.int .i64 0,.string ByteArray.empty] 116)) (Obj.cells #[.int .i64 0,.int .i64 0,.int .i64 0,.int .i64 0,.string ByteArray.empty] 116)
  simpa using h
 have i:w.heap.size+3 <= (((w.alloc (Obj.cells #[.int .i64 g.k,.int .i64 g.f,.int .i64 g.t,.int .i64 g.n,.string g.s] 93)).alloc (Obj.cells #[.int .i64 0,.int .i64 0,.int .i64 0,.int .i64 0,.string ByteArray.empty] 116)).alloc (Obj.cells #[.int .i64 0,.int .i64 0,.int .i64 0,.int .i64 0,.string ByteArray.empty] 116)).heap.size:=by simp
 go_enter func50,ntmps50
 go_wp2_with (refine Zab rfl 3 _ _ rfl (w.heap.size+2) 0 (.int .i64 g.k) #[.int .i64 g.k] rfl rfl rfl rfl 116 #[.int .i64 0,.int .i64 0,.int .i64 0,.int .i64 0,.string ByteArray.empty] #[.int .i64 g.k,.int .i64 0,.int .i64 0,.int .i64 0,.string ByteArray.empty] m (by simp) (by kernel_rfl) rfl ?_)
 intro u1 o b c a;replace d:=(a w.heap.size (by omega)).trans d;replace l:=(a (w.heap.size+1) (by omega)).trans l;replace j:=j.trans (b.mono (by omega));replace m:=o;replace i:w.heap.size+3 <= u1.heap.size:=by omega
 clear o b c a;have r:u1.cell? ⟨w.heap.size,0+1,none⟩=some (.int .i64 g.f):=cd u1 _ 1 _ _ _ d
 go_wp2_with (refine Zab rfl 3 _ _ rfl (w.heap.size+2) 1 (.int .i64 g.f) #[.int .i64 g.f] rfl rfl rfl rfl 116 #[.int .i64 g.k,.int .i64 0,.int .i64 0,.int .i64 0,.string ByteArray.empty] #[.int .i64 g.k,.int .i64 g.f,.int .i64 0,.int .i64 0,.string ByteArray.empty] m (by simp) (by kernel_rfl) rfl ?_)
 intro u2 o b c a;replace d:=(a w.heap.size (by omega)).trans d;replace l:=(a (w.heap.size+1) (by omega)).trans l;replace j:=j.trans (b.mono (by omega));replace m:=o;replace i:w.heap.size+3 <= u2.heap.size:=by omega
 clear o b c a r;have r:u2.cell? ⟨w.heap.size,0+2,none⟩=some (.int .i64 g.t):=cd u2 _ 2 _ _ _ d
 go_wp2_with (refine Zab rfl 3 _ _ rfl (w.heap.size+2) 2 (.int .i64 g.t) #[.int .i64 g.t] rfl rfl rfl rfl 116 #[.int .i64 g.k,.int .i64 g.f,.int .i64 0,.int .i64 0,.string ByteArray.empty] #[.int .i64 g.k,.int .i64 g.f,.int .i64 g.t,.int .i64 0,.string ByteArray.empty] m (by simp) (by kernel_rfl) rfl ?_)
 intro u3 o b c a;replace d:=(a w.heap.size (by omega)).trans d;replace l:=(a (w.heap.size+1) (by omega)).trans l;replace j:=j.trans (b.mono (by omega));replace m:=o;replace i:w.heap.size+3 <= u3.heap.size:=by omega
 clear o b c a r
 go_wp2_with (refine Zam rfl 91 _ rfl w.heap.size 3 rfl _ 93 #[.int .i64 g.n,.string g.s] _ d rfl underlying91 rfl Znx ?_)
 refine (Zhv ⟨g.n,g.s⟩ _).mono ?_;rintro e C ⟨rfl,p⟩;replace d:=(bb d p);replace l:=(bb l p);replace m:=(bb m p);replace j:=j.trans (p.mono j.size);have q:=p.size;replace i:w.heap.size+3 <= C.heap.size:=Nat.le_trans i q;clear p q
 go_wp2_with (refine ZaM rfl 109 _ _ rfl (w.heap.size+2) 3 #[.int .i64 g.n,.string g.s] rfl rfl 116 #[.int .i64 g.k,.int .i64 g.f,.int .i64 g.t,.int .i64 0,.string ByteArray.empty] #[.int .i64 g.k,.int .i64 g.f,.int .i64 g.t,.int .i64 g.n,.string g.s] m (by simp) ZnK (by simp [Value.oneCell']) rfl ?_)
 intro u4 o b c a;replace d:=(a w.heap.size (by omega)).trans d;replace l:=(a (w.heap.size+1) (by omega)).trans l;replace j:=j.trans (b.mono (by omega));replace m:=o;replace i:w.heap.size+3 <= u4.heap.size:=by omega
 clear o b c a
 go_wp2_with (first
  | (refine cE rfl 116 _ rfl (w.heap.size+2) rfl 116 #[.int .i64 g.k,.int .i64 g.f,.int .i64 g.t,.int .i64 g.n,.string g.s] (0,0) _ m underlying116 rfl ZnI ?_)
  | (refine Zae rfl 116 _ _ rfl (w.heap.size+1) #[.int .i64 g.k,.int .i64 g.f,.int .i64 g.t,.int .i64 g.n,.string g.s] rfl rfl 116 #[.int .i64 0,.int .i64 0,.int .i64 0,.int .i64 0,.string ByteArray.empty] l ZnI rfl (by simp [Value.oneCell']) ?_))
 intro A y u z x;have v:Below w.heap.size w A:=j.trans (u.mono (by omega));go_wp2;exact cx (results_cell_row rfl _ _ (w.heap.size+1) 116 _ (0,0) _ rfl y underlying116 rfl ZnI) rfl ⟨rfl,v⟩
theorem ZfS (p:Pd)(w:World) :
  Calls prog 51 #[.agg #[.int .i64 p.p,.int .i64 p.t,.string p.s]] w fun e r=>e=.returned (.agg #[.int .i64 p.p,.int .i64 p.t,.string p.s])/\Below w.heap.size w r:=by
 have j:Below w.heap.size w (((w.alloc (Obj.cells #[.int .i64 p.p,.int .i64 p.t,.string p.s] 96)).alloc (Obj.cells #[.int .i64 0,.int .i64 0,.string ByteArray.empty] 118)).alloc (Obj.cells #[.int .i64 0,.int .i64 0,.string ByteArray.empty] 118)):=(((cj _ _).alloc (ce _) _).alloc (by simp) _).alloc (by simp;omega) _;have d:(((w.alloc (Obj.cells #[.int .i64 p.p,.int .i64 p.t,.string p.s] 96)).alloc (Obj.cells #[.int .i64 0,.int .i64 0,.string ByteArray.empty] 118)).alloc (Obj.cells #[.int .i64 0,.int .i64 0,.string ByteArray.empty] 118)).heap[w.heap.size]? = some (Obj.cells #[.int .i64 p.p,.int .i64 p.t,.string p.s] 96):=(cz _ _ (by simp;omega)).trans ((cz _ _ (by simp)).trans (co _ _))
 have g:(((w.alloc (Obj.cells #[.int .i64 p.p,.int .i64 p.t,.string p.s] 96)).alloc (Obj.cells #[.int .i64 0,.int .i64 0,.string ByteArray.empty] 118)).alloc (Obj.cells #[.int .i64 0,.int .i64 0,.string ByteArray.empty] 118)).heap[w.heap.size+1]? = some (Obj.cells #[.int .i64 0,.int .i64 0,.string ByteArray.empty] 118):=(cz _ _ (by simp)).trans (cH _ _ _)
 have i:(((w.alloc (Obj.cells #[.int .i64 p.p,.int .i64 p.t,.string p.s] 96)).alloc (Obj.cells #[.int .i64 0,.int .i64 0,.string ByteArray.empty] 118)).alloc (Obj.cells #[.int .i64 0,.int .i64 0,.string ByteArray.empty] 118)).heap[w.heap.size+2]? = some (Obj.cells #[.int .i64 0,.int .i64 0,.string ByteArray.empty] 118):=by
  have h:=co ((w.alloc (Obj.cells #[.int .i64 p.p,.int .i64 p.t,.string p.s] 96)).alloc (Obj.cells #[.int .i64 0,.int .i64 0,.string ByteArray.empty] 118)) (Obj.cells #[.int .i64 0,.int .i64 0,.string ByteArray.empty] 118)
  simpa using h
 have k:w.heap.size+3 <= (((w.alloc (Obj.cells #[.int .i64 p.p,.int .i64 p.t,.string p.s] 96)).alloc (Obj.cells #[.int .i64 0,.int .i64 0,.string ByteArray.empty] 118)).alloc (Obj.cells #[.int .i64 0,.int .i64 0,.string ByteArray.empty] 118)).heap.size:=by simp
 go_enter func51,ntmps51
 go_wp2_with (refine Zab rfl 3 _ _ rfl (w.heap.size+2) 0 (.int .i64 p.p) #[.int .i64 p.p] rfl rfl rfl rfl 118 #[.int .i64 0,.int .i64 0,.string ByteArray.empty] #[.int .i64 p.p,.int .i64 0,.string ByteArray.empty] i (by simp) (by kernel_rfl) rfl ?_)
 intro u1 f b c a;replace d:=(a w.heap.size (by omega)).trans d;replace g:=(a (w.heap.size+1) (by omega)).trans g;replace j:=j.trans (b.mono (by omega));replace i:=f;replace k:w.heap.size+3 <= u1.heap.size:=by omega
 clear f b c a;have m:u1.cell? ⟨w.heap.size,0+1,none⟩=some (.int .i64 p.t):=cd u1 _ 1 _ _ _ d
 go_wp2_with (refine Zab rfl 3 _ _ rfl (w.heap.size+2) 1 (.int .i64 p.t) #[.int .i64 p.t] rfl rfl rfl rfl 118 #[.int .i64 p.p,.int .i64 0,.string ByteArray.empty] #[.int .i64 p.p,.int .i64 p.t,.string ByteArray.empty] i (by simp) (by kernel_rfl) rfl ?_)
 intro u2 f b c a;replace d:=(a w.heap.size (by omega)).trans d;replace g:=(a (w.heap.size+1) (by omega)).trans g;replace j:=j.trans (b.mono (by omega));replace i:=f;replace k:w.heap.size+3 <= u2.heap.size:=by omega
 clear f b c a m;have m:u2.cell? ⟨w.heap.size,0+2,none⟩=some (.string p.s):=cd u2 _ 2 _ _ _ d
 go_wp2_with (refine Zab rfl 9 _ _ rfl (w.heap.size+2) 2 (.string p.s) #[.string p.s] rfl rfl rfl rfl 118 #[.int .i64 p.p,.int .i64 p.t,.string ByteArray.empty] #[.int .i64 p.p,.int .i64 p.t,.string p.s] i (by simp) (by kernel_rfl) rfl ?_)
 intro u3 f b c a;replace d:=(a w.heap.size (by omega)).trans d;replace g:=(a (w.heap.size+1) (by omega)).trans g;replace j:=j.trans (b.mono (by omega));replace i:=f;replace k:w.heap.size+3 <= u3.heap.size:=by omega
 clear f b c a m
 go_wp2_with (first
  | (refine cE rfl 118 _ rfl (w.heap.size+2) rfl 118 #[.int .i64 p.p,.int .i64 p.t,.string p.s] (0,0) _ i underlying118 rfl ZnU ?_)
  | (refine Zae rfl 118 _ _ rfl (w.heap.size+1) #[.int .i64 p.p,.int .i64 p.t,.string p.s] rfl rfl 118 #[.int .i64 0,.int .i64 0,.string ByteArray.empty] g ZnU rfl (by simp [Value.oneCell']) ?_))
 intro v o n u l;have q:Below w.heap.size w v:=j.trans (n.mono (by omega));go_wp2;exact cx (results_cell_row rfl _ _ (w.heap.size+1) 118 _ (0,0) _ rfl o underlying118 rfl ZnU) rfl ⟨rfl,q⟩
theorem ZiG (h:Hm)(v vb z:Value)(l:Int)(w:World)(R:NRow w v h.xs)(C:StRow w vb h.bx)(y:StRow w z h.ox)(u:0 <= l)(x:l <= 1048576) :
  Calls prog 37 #[.agg #[.int .i64 h.pl,.int .i64 h.i,v,.int .i64 h.m.p,.int .i64 h.m.s,.int .i64 h.m.e,.int .i64 h.m.d,.int .i64 h.m.t,.int .i64 h.m.q,.int .i64 h.m.r,vb,z],.int .i64 l] w fun e D=>∃ r:Int,e=.returned (.int .i64 r) /\ -1 <= r/\r <= 1048576/\(0 <= r -> SmH h)/\Below w.heap.size w D:=by
 obtain ⟨c,a,rfl⟩:∃ c a,v=.slice c h.xs.length a:=by obtain ⟨c,a,rfl,_⟩:=R;exact ⟨c,a,rfl⟩
 obtain ⟨k,o,rfl⟩:=C.small;obtain ⟨n,j,rfl⟩:=y.small;have b:Below w.heap.size w (w.alloc (Obj.cells #[.int .i64 h.pl,.int .i64 h.i,.slice c h.xs.length a,.int .i64 h.m.p,.int .i64 h.m.s,.int .i64 h.m.e,.int .i64 h.m.d,.int .i64 h.m.t,.int .i64 h.m.q,.int .i64 h.m.r,.slice k h.bx.length o,.slice n h.ox.length j] 84)):=(cj _ _).alloc (ce _) _;have A:(w.alloc (Obj.cells #[.int .i64 h.pl,.int .i64 h.i,.slice c h.xs.length a,.int .i64 h.m.p,.int .i64 h.m.s,.int .i64 h.m.e,.int .i64 h.m.d,.int .i64 h.m.t,.int .i64 h.m.q,.int .i64 h.m.r,.slice k h.bx.length o,.slice n h.ox.length j] 84)).heap[w.heap.size]? = some (Obj.cells #[.int .i64 h.pl,.int .i64 h.i,.slice c h.xs.length a,.int .i64 h.m.p,.int .i64 h.m.s,.int .i64 h.m.e,.int .i64 h.m.d,.int .i64 h.m.t,.int .i64 h.m.q,.int .i64 h.m.r,.slice k h.bx.length o,.slice n h.ox.length j] 84):=co _ _
 go_enter func37,ntmps37
 go_wp2_with (refine Zam rfl 82 _ rfl w.heap.size 1 rfl _ 84 #[.int .i64 h.i,.slice c h.xs.length a,.int .i64 h.m.p,.int .i64 h.m.s,.int .i64 h.m.e,.int .i64 h.m.d,.int .i64 h.m.t,.int .i64 h.m.q,.int .i64 h.m.r,.slice k h.bx.length o,.slice n h.ox.length j] _ A rfl underlying82 rfl Zns ?_)
 refine (ZiA l u x h.i _ _ _ h.xs h.m h.bx h.ox _ (R.below b) (C.below b) (y.below b)).mono ?_;rintro e I ⟨r,rfl,F,H,f,B⟩;have g:=b.trans (B.mono b.size);clear b A B
 by_cases E:r < 0
 ·have G:Hid (r = -1):=by unfold Hid;omega
  go_wp2;go_ret;exact ⟨-1,rfl,by omega,by omega,fun h=>by omega,g⟩
 ·have f:=f (by omega)
  go_wp2;go_ret;exact ⟨r,rfl,by omega,by omega,fun _=>⟨f.1.1,f.2.1.1,f.2.2.1,f.2.1.2⟩,g⟩
theorem Zia (g:Gm)(l:Int)(w:World)(p:g.s.size <= maxLen)(d:0 <= l)(i:l <= 1048576) :
  Calls prog 39 #[.agg #[.int .i64 g.k,.int .i64 g.f,.int .i64 g.t,.int .i64 g.n,.string g.s],.int .i64 l] w fun e q=>∃ r:Int,e=.returned (.int .i64 r) /\ -1 <= r/\r <= 1048576/\(0 <= r -> SmG g)/\Below w.heap.size w q:=by
 have a:Below w.heap.size w (w.alloc (Obj.cells #[.int .i64 g.k,.int .i64 g.f,.int .i64 g.t,.int .i64 g.n,.string g.s] 93)):=(cj _ _).alloc (ce _) _;have j:(w.alloc (Obj.cells #[.int .i64 g.k,.int .i64 g.f,.int .i64 g.t,.int .i64 g.n,.string g.s] 93)).heap[w.heap.size]? = some (Obj.cells #[.int .i64 g.k,.int .i64 g.f,.int .i64 g.t,.int .i64 g.n,.string g.s] 93):=co _ _;have u:g.s.size <= 9223372036854775807:=by unfold maxLen at p;omega
 go_enter func39,ntmps39
 go_wp2_with (refine Zam rfl 91 _ rfl w.heap.size 3 rfl _ 93 #[.int .i64 g.n,.string g.s] _ j rfl underlying91 rfl Znx ?_)
 refine (Zhy ⟨g.n,g.s⟩ l _ p d i).mono ?_;rintro e v ⟨rfl,m⟩;have b:=a.trans (m.mono a.size);clear a j m
 by_cases o:l < g.s.size
 ·have c:Hid (less l g.s.size = -1):=by unfold Hid less;rw [if_pos o]
  rw [show less l (Pc.mk g.n g.s).s.size = -1 from c.out];go_wp2;go_ret;exact ⟨-1,rfl,by omega,by omega,fun h=>by omega,b⟩
 ·have c:Hid (less l g.s.size=l - g.s.size):=by unfold Hid less;rw [if_neg o]
  rw [show less l (Pc.mk g.n g.s).s.size=l - g.s.size from c.out];go_wp2;go_ret;exact ⟨_,rfl,by omega,by omega,fun _=>trivial,b⟩
theorem ZfW (p:Pd)(l:Int)(w:World)(d:p.s.size <= maxLen)(f:0 <= l)(g:l <= 1048576) :
  Calls prog 40 #[.agg #[.int .i64 p.p,.int .i64 p.t,.string p.s],.int .i64 l] w fun e b=>∃ r:Int,e=.returned (.int .i64 r) /\ -1 <= r/\r <= 1048576/\(0 <= r -> SmP p)/\Below w.heap.size w b:=by
 have c:p.s.size <= 9223372036854775807:=by unfold maxLen at d;omega
 have a:Below w.heap.size w (w.alloc (Obj.cells #[.int .i64 p.p,.int .i64 p.t,.string p.s] 96)):=(cj _ _).alloc (ce _) _
 go_enter func40,ntmps40
 by_cases i:l < p.s.size
 ·go_wp2
  go_ret;exact ⟨-1,rfl,by omega,by omega,fun h=>by omega,a⟩
 ·go_wp2
  go_ret;exact ⟨_,rfl,by omega,by omega,fun _=>trivial,a⟩
theorem Zh6 (h:Hm)(v vb z u n x:Value)(w:World)(R:NRow w v h.xs)(J:StRow w vb h.bx)(j:StRow w z h.ox)(S:NRow w u h.xs)(I:StRow w n h.bx)(C:StRow w x h.ox) :
  Calls prog 64 #[.agg #[.int .i64 h.pl,.int .i64 h.i,v,.int .i64 h.m.p,.int .i64 h.m.s,.int .i64 h.m.e,.int .i64 h.m.d,.int .i64 h.m.t,.int .i64 h.m.q,.int .i64 h.m.r,vb,z],.agg #[.int .i64 h.pl,.int .i64 h.i,u,.int .i64 h.m.p,.int .i64 h.m.s,.int .i64 h.m.e,.int .i64 h.m.d,.int .i64 h.m.t,.int .i64 h.m.q,.int .i64 h.m.r,n,x]] w fun e L=>e=.returned (.bool true)/\Below w.heap.size w L:=by
 obtain ⟨c,a,rfl⟩:∃ c a,v=.slice c h.xs.length a:=by obtain ⟨c,a,rfl,_⟩:=R;exact ⟨c,a,rfl⟩
 obtain ⟨A,H,rfl⟩:=J.small;obtain ⟨D,l,rfl⟩:=j.small;obtain ⟨B,G,rfl⟩:∃ c a,u=.slice c h.xs.length a:=by obtain ⟨c,a,rfl,_⟩:=S;exact ⟨c,a,rfl⟩
 obtain ⟨K,k,rfl⟩:=I.small;obtain ⟨y,o,rfl⟩:=C.small;obtain ⟨b,E,g⟩:=Zax w (Obj.cells #[.int .i64 h.pl,.int .i64 h.i,.slice c h.xs.length a,.int .i64 h.m.p,.int .i64 h.m.s,.int .i64 h.m.e,.int .i64 h.m.d,.int .i64 h.m.t,.int .i64 h.m.q,.int .i64 h.m.r,.slice A h.bx.length H,.slice D h.ox.length l] 103) (Obj.cells #[.int .i64 h.pl,.int .i64 h.i,.slice B h.xs.length G,.int .i64 h.m.p,.int .i64 h.m.s,.int .i64 h.m.e,.int .i64 h.m.d,.int .i64 h.m.t,.int .i64 h.m.q,.int .i64 h.m.r,.slice K h.bx.length k,.slice y h.ox.length o] 103)
 go_enter func64,ntmps64
 go_wp2_with (first
  | (refine Zam rfl 101 _ rfl w.heap.size 1 rfl _ 103 #[.int .i64 h.i,.slice c h.xs.length a,.int .i64 h.m.p,.int .i64 h.m.s,.int .i64 h.m.e,.int .i64 h.m.d,.int .i64 h.m.t,.int .i64 h.m.q,.int .i64 h.m.r,.slice A h.bx.length H,.slice D h.ox.length l] _ E rfl underlying101 rfl Zny ?_)
  | (refine Zam rfl 101 _ rfl (w.heap.size+1) 1 rfl _ 103 #[.int .i64 h.i,.slice B h.xs.length G,.int .i64 h.m.p,.int .i64 h.m.s,.int .i64 h.m.e,.int .i64 h.m.d,.int .i64 h.m.t,.int .i64 h.m.q,.int .i64 h.m.r,.slice K h.bx.length k,.slice y h.ox.length o] _ g rfl underlying101 rfl Zny ?_))
 refine (Zi2 h.i _ _ _ _ _ _ h.xs h.m h.bx h.ox _ (R.below b) (J.below b) (j.below b) (S.below b) (I.below b) (C.below b)).mono ?_;rintro e M ⟨rfl,F⟩;have f:=b.trans (F.mono b.size);clear b E g F;go_wp2;go_ret;exact ⟨rfl,f⟩
theorem ZiT (g:Gm)(w:World) :
  Calls prog 66 #[.agg #[.int .i64 g.k,.int .i64 g.f,.int .i64 g.t,.int .i64 g.n,.string g.s],.agg #[.int .i64 g.k,.int .i64 g.f,.int .i64 g.t,.int .i64 g.n,.string g.s]] w fun e i=>e=.returned (.bool true)/\Below w.heap.size w i:=by
 obtain ⟨a,c,d⟩:=Zax w (Obj.cells #[.int .i64 g.k,.int .i64 g.f,.int .i64 g.t,.int .i64 g.n,.string g.s] 116) (Obj.cells #[.int .i64 g.k,.int .i64 g.f,.int .i64 g.t,.int .i64 g.n,.string g.s] 116)
 go_enter func66,ntmps66
 go_wp2_with (first
  | (refine Zam rfl 109 _ rfl w.heap.size 3 rfl _ 116 #[.int .i64 g.n,.string g.s] _ c rfl underlying109 rfl ZnK ?_)
  | (refine Zam rfl 109 _ rfl (w.heap.size+1) 3 rfl _ 116 #[.int .i64 g.n,.string g.s] _ d rfl underlying109 rfl ZnK ?_))
 refine (Zhe ⟨g.n,g.s⟩ _).mono ?_;rintro e j ⟨rfl,h⟩;have b:=a.trans (h.mono a.size);clear a c d h;go_wp2;go_ret;exact ⟨rfl,b⟩
theorem Zf6 (p:Pd)(w:World) :
  Calls prog 67 #[.agg #[.int .i64 p.p,.int .i64 p.t,.string p.s],.agg #[.int .i64 p.p,.int .i64 p.t,.string p.s]] w fun e b=>e=.returned (.bool true)/\Below w.heap.size w b:=by
 obtain ⟨a,c,d⟩:=Zax w (Obj.cells #[.int .i64 p.p,.int .i64 p.t,.string p.s] 118) (Obj.cells #[.int .i64 p.p,.int .i64 p.t,.string p.s] 118);clear c d
 go_enter func67,ntmps67
 go_wp2;go_ret;exact ⟨rfl,a⟩
def SOwn (w:World)(base:Nat)(v:Value)(xs:List ByteArray):Prop :=
 ∃ ao cap,v=.slice ao xs.length cap/\(xs.length <= cap/\(ao=none -> cap=0)) /\
  (xs=[] \/ ∃ g CAP N pre post,ao=some ⟨g,pre.length,none⟩/\pre.length+xs.length+post.length=N/\w.ownsRow base 9 1 (.slice (some ⟨g,0,none⟩) N CAP) N (stv (pre ++ (xs ++ post))))
theorem SOwn.form {w:World}{base:Nat}{v:Value}{c:List ByteArray}(h:SOwn w base v c):∃ b a,v=.slice b c.length a:=by
 obtain ⟨b,a,rfl,_⟩:=h;exact ⟨b,a,rfl⟩
theorem SOwn.of_own {w:World}{base:Nat}{v:Value}{a:List ByteArray}(h:w.ownsRow base 9 1 v a.length (stv a)):SOwn w base v a:=by
 have i:=h;rcases h.2 with ⟨rfl,f⟩ | ⟨g,b,cur,rfl,k,l,d,j,e,c⟩
 ·have:a=[]:=List.eq_nil_of_length_eq_zero f
  subst this;exact ⟨none,0,rfl,by simp,Or.inl rfl⟩
 ·exact ⟨_,b,rfl,⟨d,fun h=>by cases h⟩,Or.inr ⟨g,b,a.length,[],[],rfl,by simp,by simpa using i⟩⟩
theorem SOwn.row {w:World}{base:Nat}{v:Value}{b:List ByteArray}(h:SOwn w base v b)(k:b.length <= 9223372036854775807)(m:∀ x ∈ b,x.size <= maxLen):StRow w v b:=by
 obtain ⟨o,e,rfl,n,h⟩:=h;refine ⟨o,e,rfl,n,k,m,fun c=>?_⟩;rcases h with h | ⟨g,l,N,a,j,rfl,p,f⟩
 ·exact absurd h c
 ·refine ⟨g,a.length,rfl,(f.lt g rfl).2,fun i x hi=>?_⟩
  have d:i < b.length:=(List.getElem?_eq_some_iff.1 hi).1;have:=f.cellAt (a.length+i) (by omega);rw [this];apply ZgD;rw [List.getElem?_append_right (by omega),show a.length+i - a.length=i by omega,List.getElem?_append_left d];exact hi
theorem SOwn.below {w e:World}{base:Nat}{v:Value}{f:List ByteArray}(h:SOwn w base v f)(i:Below w.heap.size w e):SOwn e base v f:=by
 obtain ⟨m,d,rfl,l,h⟩:=h;refine ⟨m,d,rfl,l,?_⟩;rcases h with h | ⟨g,b,N,c,a,rfl,k,j⟩
 ·exact Or.inl h
 ·exact Or.inr ⟨g,b,N,c,a,rfl,k,Zad j i⟩
theorem SOwn.alloc {w:World}{base:Nat}{v:Value}{a:List ByteArray}(h:SOwn w base v a)(o:Obj):SOwn (w.alloc o) base v a:=h.below ((cj _ _).alloc (ce _) _)
theorem SOwn.blk {w:World}{base:Nat}{v:Value}{b:List ByteArray}(h:SOwn w base v b)(a:b ≠ []):∃ g cs,v.ownBlock=some g/\base <= g/\w.heap[g]? = some (.cells cs 9 (0,0)):=by
 obtain ⟨q,l,rfl,p,h⟩:=h;rcases h with h | ⟨g,f,N,i,c,rfl,o,k⟩
 ·exact absurd h a
 ·rcases k.2 with ⟨e,_⟩ | ⟨n,d,cur,e,j,m,_⟩
  ·cases e
  ·cases e
   exact ⟨_,cur,rfl,j,m⟩
theorem SOwn.kept {w j:World}{base:Nat}{v:Value}{f:List ByteArray}{o:Option Nat}(h:SOwn w base v f)(n:w.grownBy j o)(a:f=[] \/ ∀ g,v.ownBlock=some g -> o ≠ some g):SOwn j base v f:=by
 obtain ⟨p,i,rfl,m,h⟩:=h;refine ⟨p,i,rfl,m,?_⟩;rcases h with h | ⟨g,c,N,d,b,rfl,l,k⟩
 ·exact Or.inl h
 ·rcases a with a | a
  ·exact Or.inl a
  ·refine Or.inr ⟨g,c,N,d,b,rfl,l,k.kept n (Or.inr fun e=>a g rfl ?_)⟩
   simpa [Value.ownBlock] using e.symm
structure Lk where
 sent:Int
 acked:Int
 q:List ByteArray
 got:Int
 h:List Pc
theorem ZnO:(prog.info? 107).map (·.size)=some 5:=by kernel_rfl
theorem ZiX (i:Int)(o:0 <= i)(p:i <= 1048576)(y x:Value)(l:Lk)(w:World)(v:StRow w y l.q)(z:PcRow w x l.h) :
  Calls prog 38 #[.agg #[.int .i64 l.sent,.int .i64 l.acked,y,.int .i64 l.got,x],.int .i64 i] w fun e B=>∃ r:Int,e=.returned (.int .i64 r) /\ -1 <= r/\r <= 1048576/\(0 <= r -> l.q.length <= 1048576/\l.h.length <= 1048576)/\Below w.heap.size w B:=by
 obtain ⟨u,c1,rfl⟩:=v.small;obtain ⟨s,c2,rfl⟩:=z.small
 go_enter func38,ntmps38
 go_wp2_with fail;have b:Below w.heap.size w (w.alloc (Obj.cells #[.int .i64 l.sent,.int .i64 l.acked,.slice u l.q.length c1,.int .i64 l.got,.slice s l.h.length c2] 88)):=(cj _ _).alloc (ce _) _;refine (Zcr _ l.q i _ (v.below b) o p).mono ?_;rintro e t ⟨m,rfl,F,H,j,c⟩;have f:t.heap[w.heap.size]? = some (.cells #[.int .i64 l.sent,.int .i64 l.acked,.slice u l.q.length c1,.int .i64 l.got,.slice s l.h.length c2] 88 (0,0)):=(c.block _ (by simp)).trans (co _ _);have a:=b.trans (c.mono b.size);have n:t.cell? ⟨w.heap.size,0+4,none⟩=some (.slice s l.h.length c2):=by rw [cd t _ 4 _ _ _ f];rfl
 clear b c
 by_cases E:m < 0
 ·have A:Hid (m = -1):=by unfold Hid;omega
  go_wp2;go_ret;exact ⟨-1,rfl,by omega,by omega,fun h=>by omega,a⟩
 ·have j:=j (by omega)
  go_wp2_with fail;refine (ZjI _ l.h m _ (z.below a) (by omega) (by omega)).mono ?_;rintro e I ⟨k,rfl,G,D,k2,d⟩;have g:=a.trans (d.mono a.size);clear n f a d
  by_cases C:k < 0
  ·have A:Hid (k = -1):=by unfold Hid;omega
   go_wp2;go_ret;exact ⟨-1,rfl,by omega,by omega,fun h=>by omega,g⟩
  ·have k2:=k2 (by omega)
   go_wp2;go_ret;exact ⟨k,rfl,by omega,by omega,fun _=>⟨j.1,k2.1⟩,g⟩
theorem Zh7 (v x u1 u2:Value)(l:Lk)(w:World)(y:StRow w v l.q)(C:PcRow w x l.h)(A:StRow w u1 l.q)(z:PcRow w u2 l.h) :
  Calls prog 65 #[.agg #[.int .i64 l.sent,.int .i64 l.acked,v,.int .i64 l.got,x],.agg #[.int .i64 l.sent,.int .i64 l.acked,u1,.int .i64 l.got,u2]] w fun e D=>e=.returned (.bool true)/\Below w.heap.size w D:=by
 obtain ⟨u,c1,rfl⟩:=y.small;obtain ⟨r,c2,rfl⟩:=C.small;obtain ⟨t,B,rfl⟩:=A.small;obtain ⟨n,s,rfl⟩:=z.small
 go_enter func65,ntmps65
 go_wp2_with fail;have b:Below w.heap.size w ((w.alloc (Obj.cells #[.int .i64 l.sent,.int .i64 l.acked,.slice u l.q.length c1,.int .i64 l.got,.slice r l.h.length c2] 107)).alloc (Obj.cells #[.int .i64 l.sent,.int .i64 l.acked,.slice t l.q.length B,.int .i64 l.got,.slice n l.h.length s] 107)):=((cj _ _).alloc (ce _) _).alloc (by simp) _;refine (Zcs _ _ l.q _ (y.below b) (A.below b)).mono ?_;rintro e c ⟨rfl,d⟩;have f:c.heap[w.heap.size]? = some (.cells #[.int .i64 l.sent,.int .i64 l.acked,.slice u l.q.length c1,.int .i64 l.got,.slice r l.h.length c2] 107 (0,0)):=(d.block _ (by simp;omega)).trans ((cz _ _ (by simp)).trans (co _ _));have g:c.heap[w.heap.size+1]? = some (.cells #[.int .i64 l.sent,.int .i64 l.acked,.slice t l.q.length B,.int .i64 l.got,.slice n l.h.length s] 107 (0,0)):=(d.block _ (by simp)).trans (cH _ _ _);have a:=b.trans (d.mono b.size)
 have o:c.cell? ⟨w.heap.size,0+3,none⟩=some (.int .i64 l.got):=by rw [cd c _ 3 _ _ _ f];rfl
 have m:c.cell? ⟨w.heap.size+1,0+3,none⟩=some (.int .i64 l.got):=by rw [cd c _ 3 _ _ _ g];rfl
 have j:c.cell? ⟨w.heap.size,0+4,none⟩=some (.slice r l.h.length c2):=by rw [cd c _ 4 _ _ _ f];rfl
 have k:c.cell? ⟨w.heap.size+1,0+4,none⟩=some (.slice n l.h.length s):=by rw [cd c _ 4 _ _ _ g];rfl
 clear b d;go_wp2_with fail;refine (Zkg _ _ l.h _ (C.below a) (z.below a)).mono ?_;rintro e E ⟨rfl,i⟩;have p:=a.trans (i.mono a.size);clear o m f g a i j k;go_wp2;go_ret;exact ⟨rfl,p⟩
theorem Zh2 (V W:Value)(l:Lk)(w:World)(Y:StRow w V l.q)(R2:PcRow w W l.h)(h1:l.q.length <= 2097152)(h2:l.h.length <= 2097152) :
  Calls prog 49 #[.agg #[.int .i64 l.sent,.int .i64 l.acked,V,.int .i64 l.got,W]] w fun e R=>∃ u1 u2,e=.returned (.agg #[.int .i64 l.sent,.int .i64 l.acked,u1,.int .i64 l.got,u2])/\R.ownsRow w.heap.size 9 1 u1 l.q.length (stv l.q)/\R.ownsRow w.heap.size 109 2 u2 l.h.length (pccs l.h)/\Below w.heap.size w R:=by
 obtain ⟨U,c1,rfl⟩:=Y.small;obtain ⟨Q,c2,rfl⟩:=R2.small
 go_enter func49,ntmps49
 go_wp2_with fail
 have j:Below w.heap.size w (((w.alloc (Obj.cells #[.int .i64 l.sent,.int .i64 l.acked,.slice U l.q.length c1,.int .i64 l.got,.slice Q l.h.length c2] 88)).alloc (Obj.cells #[.int .i64 0,.int .i64 0,.slice none 0 0,.int .i64 0,.slice none 0 0] 107)).alloc (Obj.cells #[.int .i64 l.sent,.int .i64 l.acked,.slice none 0 0,.int .i64 0,.slice none 0 0] 107)) :=
  (((cj _ _).alloc (ce _) _).alloc (by simp) _).alloc (by simp;omega) _
 refine (ZcA _ l.q _ (Y.below j) h1).mono ?_;rintro e c ⟨u1,rfl,z,g⟩;obtain ⟨m,s,rfl⟩:=Zag z;have x:c.heap[w.heap.size]? = some (.cells #[.int .i64 l.sent,.int .i64 l.acked,.slice U l.q.length c1,.int .i64 l.got,.slice Q l.h.length c2] 88 (0,0)):=(g.block _ (by simp;omega)).trans ((cz _ _ (by simp;omega)).trans ((cz _ _ (by simp)).trans (co _ _)));have B:c.heap[w.heap.size+1]? = some (.cells #[.int .i64 0,.int .i64 0,.slice none 0 0,.int .i64 0,.slice none 0 0] 107 (0,0)):=(g.block _ (by simp)).trans ((cz _ _ (by simp)).trans (cH _ _ _));have b:c.heap[w.heap.size+1+1]? = some (.cells #[.int .i64 l.sent,.int .i64 l.acked,.slice none 0 0,.int .i64 0,.slice none 0 0] 107 (0,0)):=(g.block _ (by simp)).trans (ZbE _ _ _ _);have D:=j.trans (g.mono j.size)
 have o:c.ownsRow (w.heap.size+3) 9 1 (.slice m l.q.length s) l.q.length (stv l.q):=by simpa using z
 have I:c.cell? ⟨w.heap.size+1+1,0+2,none⟩=some (.slice none 0 0):=by rw [cd c _ 2 _ _ _ b];rfl
 have K:c.cell? ⟨w.heap.size+1+1,0+3,none⟩=some (.int .i64 0):=by rw [cd c _ 3 _ _ _ b];rfl
 have N:c.frozen? ⟨w.heap.size+1+1,0+2,none⟩=false:=cw c _ 2 _ _ b;have S:c.frozen? ⟨w.heap.size+1+1,0+3,none⟩=false:=cw c _ 3 _ _ b;have G:c.cell? ⟨w.heap.size,0+3,none⟩=some (.int .i64 l.got):=by rw [cd c _ 3 _ _ _ x];rfl
 have J:c.cell? ⟨w.heap.size,0+4,none⟩=some (.slice Q l.h.length c2):=by rw [cd c _ 4 _ _ _ x];rfl
 clear j g z;go_wp2_with fail;have d:Below w.heap.size w ((c.setCell ⟨w.heap.size+1+1,2,none⟩ (.slice m l.q.length s)).setCell ⟨w.heap.size+1+1,3,none⟩ (.int .i64 l.got)):=(D.setCell (p:=⟨w.heap.size+1+1,2,none⟩) (by simp;omega) _).setCell (p:=⟨w.heap.size+1+1,3,none⟩) (by simp;omega) _;refine (Zkt _ l.h _ (R2.below d) h2).mono ?_;rintro e i ⟨u2,rfl,u,f⟩;obtain ⟨r,t,rfl⟩:=Zag u;have A:=Zad (cI (cI o (a:=⟨w.heap.size+1+1,2,none⟩) (by simp) (.slice m l.q.length s)) (a:=⟨w.heap.size+1+1,3,none⟩) (by simp) (.int .i64 l.got)) f
 have O:i.heap[w.heap.size+1]? = some (.cells #[.int .i64 0,.int .i64 0,.slice none 0 0,.int .i64 0,.slice none 0 0] 107 (0,0)):=(f.block _ (by simp;have:=(bl b);omega)).trans ((cr _ ⟨w.heap.size+1+1,3,none⟩ (w.heap.size+1) _ (by simp)).trans ((cr c ⟨w.heap.size+1+1,2,none⟩ (w.heap.size+1) _ (by simp)).trans B));have y:i.heap[w.heap.size+1+1]? = some (.cells #[.int .i64 l.sent,.int .i64 l.acked,.slice m l.q.length s,.int .i64 l.got,.slice none 0 0] 107 (0,0)):=(f.block _ (by simp;have:=(bl b);omega)).trans (cu _ (w.heap.size+1+1) 3 _ _ (.int .i64 l.got) (cu c (w.heap.size+1+1) 2 _ _ (.slice m l.q.length s) b));have P:=d.trans (f.mono d.size);have ab:=(bl b);have C:i.ownsRow (w.heap.size+3) 109 2 (.slice r l.h.length t) l.h.length (pccs l.h):=Zah u (by simp;omega)
 have aa:i.cell? ⟨w.heap.size+1+1,0+4,none⟩=some (.slice none 0 0):=by rw [cd i _ 4 _ _ _ y];rfl
 have ac:i.frozen? ⟨w.heap.size+1+1,0+4,none⟩=false:=cw i _ 4 _ _ y;clear D d f o u x B b I N G J K S;have L:(i.setCell ⟨w.heap.size+1+1,4,none⟩ (.slice r l.h.length t)).heap[w.heap.size+1+1]? = some (.cells #[.int .i64 l.sent,.int .i64 l.acked,.slice m l.q.length s,.int .i64 l.got,.slice r l.h.length t] 107 (0,0)):=cu i (w.heap.size+1+1) 4 _ _ (.slice r l.h.length t) y;have H:=(cr i ⟨w.heap.size+1+1,4,none⟩ (w.heap.size+1) (.slice r l.h.length t) (by simp)).trans O
 go_wp2_with (first
  | refine cE rfl 107 _ rfl (w.heap.size+1+1) rfl 107 #[.int .i64 l.sent,.int .i64 l.acked,.slice m l.q.length s,.int .i64 l.got,.slice r l.h.length t] (0,0) _ L underlying107 rfl ZnO ?_
  | refine Zae rfl 107 _ _ rfl (w.heap.size+1) #[.int .i64 l.sent,.int .i64 l.acked,.slice m l.q.length s,.int .i64 l.got,.slice r l.h.length t] rfl rfl 107 _ H ZnO rfl (by simp [Value.oneCell']) ?_)
 intro w3 T M _ E;have F:=(P.setCell (p:=⟨w.heap.size+1+1,4,none⟩) (by simp;omega) (.slice r l.h.length t)).trans (M.mono (by omega))
 have Z:∀ {e:TypeId} {k:Nat} {v:Value} {n:Nat} {X:List Value},i.ownsRow (w.heap.size+3) e k v n X -> w3.ownsRow (w.heap.size+3) e k v n X:=fun h =>
  Zak (cI h (a:=⟨w.heap.size+1+1,4,none⟩) (by simp) _) (by omega) E
 go_wp2;exact cx (results_cell_row rfl _ _ (w.heap.size+1) 107 _ (0,0) _ rfl T underlying107 rfl ZnO) rfl ⟨_,_,rfl,Zah (Z A) (by omega),Zah (Z C) (by omega),F⟩
def VarL (w:World)(b lo hi:Nat)(v1 v2:Value)(l:Lk):Prop :=
 w.heap[b]? = some (.cells #[.int .i64 l.sent,.int .i64 l.acked,v1,.int .i64 l.got,v2] 107 (0,0))/\SOwn w lo v1 l.q/\w.ownsRow lo 109 2 v2 l.h.length (pccs l.h)/\(l.q ≠ [] -> ∀ k,v1.ownBlock=some k -> k < hi)/\(∀ k,v2.ownBlock=some k -> k < hi)/\hi <= w.heap.size
theorem VarL.below {w c:World}{b lo hi:Nat}{d e:Value}{l:Lk}(h:VarL w b lo hi d e l)(a:Below w.heap.size w c):VarL c b lo hi d e l :=
 ⟨(a.block b (Array.getElem?_eq_some_iff.1 h.1).1).trans h.1,h.2.1.below a,Zad h.2.2.1 a,h.2.2.2.1,h.2.2.2.2.1,Nat.le_trans h.2.2.2.2.2 a.size⟩
theorem VarL.lt {w:World}{b lo hi:Nat}{a c:Value}{l:Lk}(h:VarL w b lo hi a c l):b < w.heap.size:=(Array.getElem?_eq_some_iff.1 h.1).1
def lmk (l:Lk):Lk:=⟨l.sent,l.acked,sm 1 l.q.length,l.got,Zmf (1+l.q.length) l.h l.h.length⟩
def Turned (w w':World)(lo hi:Nat):Prop :=
 w'.os=w.os/\w'.tape=w.tape/\w'.output=w.output/\w.heap.size <= w'.heap.size/\∀ k,k < w.heap.size -> (k < lo \/ hi <= k \/ ∃ cs t,w.heap[k]? = some (.cells cs t (0,0))/\t ≠ 9/\t ≠ 109) -> w'.heap[k]? = w.heap[k]?
theorem Turned.block {w b:World}{lo hi k:Nat}{cs:Array Value}{t:TypeId}(h:Turned w b lo hi)(a:w.heap[k]? = some (.cells cs t (0,0)))(d:t ≠ 9)(c:t ≠ 109):b.heap[k]? = some (.cells cs t (0,0)) :=
 (h.2.2.2.2 k (bl a) (Or.inr (Or.inr ⟨cs,t,a,d,c⟩))).trans a
end Go.Proofs.YtkpfangkfknhoaaGreatDoor
