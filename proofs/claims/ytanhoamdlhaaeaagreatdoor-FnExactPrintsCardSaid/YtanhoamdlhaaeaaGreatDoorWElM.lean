/-
  Homes, grams and parked ones: what they are as cells, and the contracts of the laws' helpers on one of them. No condition.
-/
import Derived.Test.YtanhoamdlhaaeaaGreatDoorNodeFitsM
import Derived.Test.YtanhoamdlhaaeaaGreatDoorPcM
import Derived.Test.YtanhoamdlhaaeaaGreatDoorPcMarkM
set_option maxRecDepth 100000
set_option maxHeartbeats 6400000
namespace Go.Proofs.YtanhoamdlhaaeaaGreatDoor
open Go.Proofs.Tryz
open Go.RowKit
structure Hm where
 pl:Int
 i:Int
 xs:List Nd
 m:Mc
 bx:List ByteArray
 ox:List ByteArray
structure Gm where
 k:Int
 f:Int
 t:Int
 n:Int
 s:ByteArray
structure Pd where
 p:Int
 t:Int
 s:ByteArray
theorem StRow.kp {w j:World}{v:Value}{k:List ByteArray}{B:Nat}(R:StRow w v k)(n:Fr B v)(f:Kp B w j):StRow j v k:=by
 obtain ⟨l,b,rfl,m,p,q,a⟩:=R;refine ⟨l,b,rfl,m,p,q,fun c=>?_⟩;obtain ⟨g,o,rfl,d,a⟩:=a c;have e:=Zc3 f n rfl d;exact ⟨g,o,rfl,cm d f.1,fun i x hi=>(World.cell?_of_block e).trans (a i x hi)⟩
theorem PcRow.kp {w j:World}{v:Value}{k:List Pc}{B:Nat}(R:PcRow w v k)(p:Fr B v)(f:Kp B w j):PcRow j v k:=by
 obtain ⟨l,b,rfl,n,q,r,a⟩:=R;refine ⟨l,b,rfl,n,q,r,fun c=>?_⟩;obtain ⟨g,o,rfl,d,a⟩:=a c;have e:=Zc3 f p rfl d;refine ⟨g,o,rfl,cm d f.1,fun i x hi=>?_⟩;obtain ⟨c0,m⟩:=a i x hi;exact ⟨(World.cell?_of_block e).trans c0,(World.cell?_of_block e).trans m⟩
def EH (B:Nat)(w:World)(cs:List Value)(h:Hm):Prop:=∃ v vb vo,cs.toArray=#[.int .i64 h.pl,.int .i64 h.i,v,.int .i64 h.m.p,.int .i64 h.m.s,.int .i64 h.m.e,.int .i64 h.m.d,.int .i64 h.m.t,.int .i64 h.m.q,.int .i64 h.m.r,vb,vo]/\NRow w v h.xs/\StRow w vb h.bx/\StRow w vo h.ox/\Fr B v/\Fr B vb/\Fr B vo
def EG (_:Nat)(_:World)(cs:List Value)(g:Gm):Prop:=cs.toArray=#[.int .i64 g.k,.int .i64 g.f,.int .i64 g.t,.int .i64 g.n,.string g.s]/\g.s.size <= maxLen
def EP (_:Nat)(_:World)(cs:List Value)(p:Pd):Prop:=cs.toArray=#[.int .i64 p.p,.int .i64 p.t,.string p.s]/\p.s.size <= maxLen
theorem stbH:Stb EH:=⟨fun _ _ _ _ _ ⟨v,vb,vo,h,r1,r2,r3,f1,f2,f3⟩ hk=>⟨v,vb,vo,h,r1.kp f1 hk,r2.kp f2 hk,r3.kp f3 hk,f1,f2,f3⟩,fun _ _ _ _ _ ⟨v,vb,vo,h,r1,r2,r3,f1,f2,f3⟩ hc=>⟨v,vb,vo,h,r1,r2,r3,f1.mono hc,f2.mono hc,f3.mono hc⟩⟩
theorem stbG:Stb EG:=⟨fun _ _ _ _ _ h _=>h,fun _ _ _ _ _ h _=>h⟩
theorem stbP:Stb EP:=⟨fun _ _ _ _ _ h _=>h,fun _ _ _ _ _ h _=>h⟩
theorem Zai {w f:World}{B k n:Nat}{e:TypeId}{v:Value}{l:List Value}(h:w.ownsRow B e k v n l)(j:Kp B w f):f.ownsRow B e k v n l:=by
 refine ⟨h.1,?_⟩;rcases h.2 with i | ⟨g,a,b,rfl,c,d,m⟩
 ·exact Or.inl i
 ·exact Or.inr ⟨g,a,b,rfl,c,(j.2 g c (bl d)).trans d,m⟩
def EHo (B:Nat)(w:World)(cs:List Value)(h:Hm):Prop:=∃ v vb vo,cs.toArray=#[.int .i64 h.pl,.int .i64 h.i,v,.int .i64 h.m.p,.int .i64 h.m.s,.int .i64 h.m.e,.int .i64 h.m.d,.int .i64 h.m.t,.int .i64 h.m.q,.int .i64 h.m.r,vb,vo]/\NRow w v h.xs/\StRow w vb h.bx/\StRow w vo h.ox/\w.ownsRow B 176 5 v h.xs.length (ncs h.xs)/\w.ownsRow B 9 1 vb h.bx.length (stv h.bx)/\w.ownsRow B 9 1 vo h.ox.length (stv h.ox)
theorem EHo.eh {B:Nat}{w:World}{cs:List Value}{h:Hm}(e:EHo B w cs h):EH B w cs h:=by
 obtain ⟨v,vb,i,h,d,f,g,a,b,c⟩:=e;exact ⟨v,vb,i,h,d,f,g,Fr.of_own a,Fr.of_own b,Fr.of_own c⟩
theorem ZbC:Stb EHo:=⟨fun _ _ _ _ _ ⟨v,vb,vo,h,r1,r2,r3,o1,o2,o3⟩ hk=>⟨v,vb,vo,h,r1.kp (Fr.of_own o1) hk,r2.kp (Fr.of_own o2) hk,r3.kp (Fr.of_own o3) hk,Zai o1 hk,Zai o2 hk,Zai o3 hk⟩,fun _ _ _ _ _ ⟨v,vb,vo,h,r1,r2,r3,o1,o2,o3⟩ hc=>⟨v,vb,vo,h,r1,r2,r3,Zae o1 hc,Zae o2 hc,Zae o3 hc⟩⟩
def SmH (h:Hm):Prop:=h.xs.length <= 1048576/\h.bx.length <= 1048576/\h.ox.length <= 1048576/\∀ x ∈ h.bx,x.size <= 1048576
def SmG (_:Gm):Prop:=True
def SmP (_:Pd):Prop:=True
theorem Zl6:(prog.info? 70).map (·.size)=some 12:=by kernel_rfl
theorem Zl2:(prog.info? 124).map (·.size)=some 5:=by kernel_rfl
theorem ZlZ:(prog.info? 126).map (·.size)=some 3:=by kernel_rfl
theorem ZlG:(prog.info? 97).map (·.size)=some 11:=by kernel_rfl
theorem ZlL:(prog.info? 106).map (·.size)=some 2:=by kernel_rfl
theorem StRow.szs {w:World}{v:Value}{a:List ByteArray}(R:StRow w v a):∀ x ∈ a,x.size <= maxLen:=by
 obtain ⟨_,_,_,_,_,h,_⟩:=R;exact h
theorem NRow.szn {w:World}{v:Value}{a:List Nd}(R:NRow w v a):∀ x ∈ a,x.s.size <= maxLen:=by
 obtain ⟨_,_,_,_,_,h,_⟩:=R;exact h
theorem ZhH (h:Hm)(v vb vo:Value)(w:World)(R:NRow w v h.xs)(Rb:StRow w vb h.bx)(Ro:StRow w vo h.ox)(H:SmH h) :
  Calls prog 59 #[.agg #[.int .i64 h.pl,.int .i64 h.i,v,.int .i64 h.m.p,.int .i64 h.m.s,.int .i64 h.m.e,.int .i64 h.m.d,.int .i64 h.m.t,.int .i64 h.m.q,.int .i64 h.m.r,vb,vo]] w fun e F=>∃ N O P,e=.returned (.agg #[.int .i64 h.pl,.int .i64 h.i,N,.int .i64 h.m.p,.int .i64 h.m.s,.int .i64 h.m.e,.int .i64 h.m.d,.int .i64 h.m.t,.int .i64 h.m.q,.int .i64 h.m.r,O,P])/\NRow F N h.xs/\StRow F O h.bx/\StRow F P h.ox/\Fr w.heap.size N/\Fr w.heap.size O/\Fr w.heap.size P/\(F.ownsRow w.heap.size 176 5 N h.xs.length (ncs h.xs)/\F.ownsRow w.heap.size 9 1 O h.bx.length (stv h.bx)/\F.ownsRow w.heap.size 9 1 P h.ox.length (stv h.ox))/\Below w.heap.size w F:=by
 have ag:=R.szn;have ah:=Rb.szs;have ai:=Ro.szs;obtain ⟨g,b,rfl⟩:∃ g b,v=.slice g h.xs.length b:=by obtain ⟨g,b,rfl,_⟩:=R;exact ⟨g,b,rfl⟩
 obtain ⟨u,y,rfl⟩:=Rb.small;obtain ⟨x,z,rfl⟩:=Ro.small;have j:Below w.heap.size w (((w.alloc (Obj.cells #[.int .i64 h.pl,.int .i64 h.i,.slice g h.xs.length b,.int .i64 h.m.p,.int .i64 h.m.s,.int .i64 h.m.e,.int .i64 h.m.d,.int .i64 h.m.t,.int .i64 h.m.q,.int .i64 h.m.r,.slice u h.bx.length y,.slice x h.ox.length z] 99)).alloc (Obj.cells #[.int .i64 0,.int .i64 0,.slice none 0 0,.int .i64 0,.int .i64 0,.int .i64 0,.int .i64 0,.int .i64 0,.int .i64 0,.int .i64 0,.slice none 0 0,.slice none 0 0] 70)).alloc (Obj.cells #[.int .i64 0,.int .i64 0,.slice none 0 0,.int .i64 0,.int .i64 0,.int .i64 0,.int .i64 0,.int .i64 0,.int .i64 0,.int .i64 0,.slice none 0 0,.slice none 0 0] 70)):=(((cf _ _).alloc (ce _) _).alloc (by simp) _).alloc (by simp;omega) _
 have D:(((w.alloc (Obj.cells #[.int .i64 h.pl,.int .i64 h.i,.slice g h.xs.length b,.int .i64 h.m.p,.int .i64 h.m.s,.int .i64 h.m.e,.int .i64 h.m.d,.int .i64 h.m.t,.int .i64 h.m.q,.int .i64 h.m.r,.slice u h.bx.length y,.slice x h.ox.length z] 99)).alloc (Obj.cells #[.int .i64 0,.int .i64 0,.slice none 0 0,.int .i64 0,.int .i64 0,.int .i64 0,.int .i64 0,.int .i64 0,.int .i64 0,.int .i64 0,.slice none 0 0,.slice none 0 0] 70)).alloc (Obj.cells #[.int .i64 0,.int .i64 0,.slice none 0 0,.int .i64 0,.int .i64 0,.int .i64 0,.int .i64 0,.int .i64 0,.int .i64 0,.int .i64 0,.slice none 0 0,.slice none 0 0] 70)).heap[w.heap.size]? = some (Obj.cells #[.int .i64 h.pl,.int .i64 h.i,.slice g h.xs.length b,.int .i64 h.m.p,.int .i64 h.m.s,.int .i64 h.m.e,.int .i64 h.m.d,.int .i64 h.m.t,.int .i64 h.m.q,.int .i64 h.m.r,.slice u h.bx.length y,.slice x h.ox.length z] 99):=(cn _ _ (by simp;omega)).trans ((cn _ _ (by simp)).trans (cg _ _))
 have E:(((w.alloc (Obj.cells #[.int .i64 h.pl,.int .i64 h.i,.slice g h.xs.length b,.int .i64 h.m.p,.int .i64 h.m.s,.int .i64 h.m.e,.int .i64 h.m.d,.int .i64 h.m.t,.int .i64 h.m.q,.int .i64 h.m.r,.slice u h.bx.length y,.slice x h.ox.length z] 99)).alloc (Obj.cells #[.int .i64 0,.int .i64 0,.slice none 0 0,.int .i64 0,.int .i64 0,.int .i64 0,.int .i64 0,.int .i64 0,.int .i64 0,.int .i64 0,.slice none 0 0,.slice none 0 0] 70)).alloc (Obj.cells #[.int .i64 0,.int .i64 0,.slice none 0 0,.int .i64 0,.int .i64 0,.int .i64 0,.int .i64 0,.int .i64 0,.int .i64 0,.int .i64 0,.slice none 0 0,.slice none 0 0] 70)).heap[w.heap.size+1]? = some (Obj.cells #[.int .i64 0,.int .i64 0,.slice none 0 0,.int .i64 0,.int .i64 0,.int .i64 0,.int .i64 0,.int .i64 0,.int .i64 0,.int .i64 0,.slice none 0 0,.slice none 0 0] 70):=(cn _ _ (by simp)).trans (cw _ _ _)
 have C:(((w.alloc (Obj.cells #[.int .i64 h.pl,.int .i64 h.i,.slice g h.xs.length b,.int .i64 h.m.p,.int .i64 h.m.s,.int .i64 h.m.e,.int .i64 h.m.d,.int .i64 h.m.t,.int .i64 h.m.q,.int .i64 h.m.r,.slice u h.bx.length y,.slice x h.ox.length z] 99)).alloc (Obj.cells #[.int .i64 0,.int .i64 0,.slice none 0 0,.int .i64 0,.int .i64 0,.int .i64 0,.int .i64 0,.int .i64 0,.int .i64 0,.int .i64 0,.slice none 0 0,.slice none 0 0] 70)).alloc (Obj.cells #[.int .i64 0,.int .i64 0,.slice none 0 0,.int .i64 0,.int .i64 0,.int .i64 0,.int .i64 0,.int .i64 0,.int .i64 0,.int .i64 0,.slice none 0 0,.slice none 0 0] 70)).heap[w.heap.size+2]? = some (Obj.cells #[.int .i64 0,.int .i64 0,.slice none 0 0,.int .i64 0,.int .i64 0,.int .i64 0,.int .i64 0,.int .i64 0,.int .i64 0,.int .i64 0,.slice none 0 0,.slice none 0 0] 70):=by
  have h:=cg ((w.alloc (Obj.cells #[.int .i64 h.pl,.int .i64 h.i,.slice g h.xs.length b,.int .i64 h.m.p,.int .i64 h.m.s,.int .i64 h.m.e,.int .i64 h.m.d,.int .i64 h.m.t,.int .i64 h.m.q,.int .i64 h.m.r,.slice u h.bx.length y,.slice x h.ox.length z] 99)).alloc (Obj.cells #[.int .i64 0,.int .i64 0,.slice none 0 0,.int .i64 0,.int .i64 0,.int .i64 0,.int .i64 0,.int .i64 0,.int .i64 0,.int .i64 0,.slice none 0 0,.slice none 0 0] 70)) (Obj.cells #[.int .i64 0,.int .i64 0,.slice none 0 0,.int .i64 0,.int .i64 0,.int .i64 0,.int .i64 0,.int .i64 0,.int .i64 0,.int .i64 0,.slice none 0 0,.slice none 0 0] 70)
  simpa using h
 have c:w.heap.size+3 <= (((w.alloc (Obj.cells #[.int .i64 h.pl,.int .i64 h.i,.slice g h.xs.length b,.int .i64 h.m.p,.int .i64 h.m.s,.int .i64 h.m.e,.int .i64 h.m.d,.int .i64 h.m.t,.int .i64 h.m.q,.int .i64 h.m.r,.slice u h.bx.length y,.slice x h.ox.length z] 99)).alloc (Obj.cells #[.int .i64 0,.int .i64 0,.slice none 0 0,.int .i64 0,.int .i64 0,.int .i64 0,.int .i64 0,.int .i64 0,.int .i64 0,.int .i64 0,.slice none 0 0,.slice none 0 0] 70)).alloc (Obj.cells #[.int .i64 0,.int .i64 0,.slice none 0 0,.int .i64 0,.int .i64 0,.int .i64 0,.int .i64 0,.int .i64 0,.int .i64 0,.int .i64 0,.slice none 0 0,.slice none 0 0] 70)).heap.size:=by simp
 go_enter func59,ntmps59
 go_wp2_with (refine Zaa rfl 3 _ _ rfl (w.heap.size+2) 0 (.int .i64 h.pl) #[.int .i64 h.pl] rfl rfl rfl rfl 70 #[.int .i64 0,.int .i64 0,.slice none 0 0,.int .i64 0,.int .i64 0,.int .i64 0,.int .i64 0,.int .i64 0,.int .i64 0,.int .i64 0,.slice none 0 0,.slice none 0 0] #[.int .i64 h.pl,.int .i64 0,.slice none 0 0,.int .i64 0,.int .i64 0,.int .i64 0,.int .i64 0,.int .i64 0,.int .i64 0,.int .i64 0,.slice none 0 0,.slice none 0 0] C (by simp) (by kernel_rfl) rfl ?_)
 intro u1 L k B a;replace D:=(a w.heap.size (by omega)).trans D;replace E:=(a (w.heap.size+1) (by omega)).trans E;replace j:=j.trans (k.mono (by omega));replace C:=L;replace c:w.heap.size+3 <= u1.heap.size:=by omega
 clear L k B a
 go_wp2_with (refine Zag rfl 97 _ rfl w.heap.size 1 rfl _ 99 #[.int .i64 h.i,.slice g h.xs.length b,.int .i64 h.m.p,.int .i64 h.m.s,.int .i64 h.m.e,.int .i64 h.m.d,.int .i64 h.m.t,.int .i64 h.m.q,.int .i64 h.m.r,.slice u h.bx.length y,.slice x h.ox.length z] _ D rfl underlying97 rfl ZlG ?_)
 refine (ZhL h.i _ _ _ h.xs h.m h.bx h.ox _ (R.below j) (Rb.below j) (Ro.below j) (by have:=H.1;omega) (by have:=H.2.1;omega) (by have:=H.2.2.1;omega)).mono ?_;rintro e w2 ⟨N,O,P,rfl,l,n,o,ad,G⟩;replace D:=(bb D G);replace E:=(bb E G);replace C:=(bb C G);replace j:=j.trans (G.mono j.size);have M:=G.size;obtain ⟨Q,U,rfl⟩:=Zad l;obtain ⟨S,V,rfl⟩:=Zad n;obtain ⟨T,W,rfl⟩:=Zad o;have X:=(Fr.of_own l).mono c;have Y:=(Fr.of_own n).mono c;have Z:=(Fr.of_own o).mono c;have I:=NRow.of_own l (by have:=H.1;omega) ag;have J:=StRow.of_own n (by have:=H.2.1;omega) ah;have K:=StRow.of_own o (by have:=H.2.2.1;omega) ai;replace l:=Zae l c;replace n:=Zae n c;replace o:=Zae o c;clear ad;replace c:w.heap.size+3 <= w2.heap.size:=Nat.le_trans c M;clear G M
 go_wp2_with (refine ZaF rfl 68 _ _ rfl (w.heap.size+2) 1 #[.int .i64 h.i,.slice Q h.xs.length U,.int .i64 h.m.p,.int .i64 h.m.s,.int .i64 h.m.e,.int .i64 h.m.d,.int .i64 h.m.t,.int .i64 h.m.q,.int .i64 h.m.r,.slice S h.bx.length V,.slice T h.ox.length W] rfl rfl 70 #[.int .i64 h.pl,.int .i64 0,.slice none 0 0,.int .i64 0,.int .i64 0,.int .i64 0,.int .i64 0,.int .i64 0,.int .i64 0,.int .i64 0,.slice none 0 0,.slice none 0 0] #[.int .i64 h.pl,.int .i64 h.i,.slice Q h.xs.length U,.int .i64 h.m.p,.int .i64 h.m.s,.int .i64 h.m.e,.int .i64 h.m.d,.int .i64 h.m.t,.int .i64 h.m.q,.int .i64 h.m.r,.slice S h.bx.length V,.slice T h.ox.length W] C (by simp) ZlM (by simp [Value.oneCell']) rfl ?_)
 intro u2 L k B a;have f:Kp (w.heap.size+3) _ u2:=Kp.of_oth (by omega) a (by omega);replace I:=I.kp X f;replace J:=J.kp Y f;replace K:=K.kp Z f;replace l:=Zai l f;replace n:=Zai n f;replace o:=Zai o f;replace D:=(a w.heap.size (by omega)).trans D;replace E:=(a (w.heap.size+1) (by omega)).trans E;replace j:=j.trans (k.mono (by omega));replace C:=L;replace c:w.heap.size+3 <= u2.heap.size:=by omega
 clear L k B a f
 go_wp2_with (first
  | (refine co rfl 70 _ rfl (w.heap.size+2) rfl 70 #[.int .i64 h.pl,.int .i64 h.i,.slice Q h.xs.length U,.int .i64 h.m.p,.int .i64 h.m.s,.int .i64 h.m.e,.int .i64 h.m.d,.int .i64 h.m.t,.int .i64 h.m.q,.int .i64 h.m.r,.slice S h.bx.length V,.slice T h.ox.length W] (0,0) _ C underlying70 rfl Zl6 ?_)
  | (refine Zas rfl 70 _ _ rfl (w.heap.size+1) #[.int .i64 h.pl,.int .i64 h.i,.slice Q h.xs.length U,.int .i64 h.m.p,.int .i64 h.m.s,.int .i64 h.m.e,.int .i64 h.m.d,.int .i64 h.m.t,.int .i64 h.m.q,.int .i64 h.m.r,.slice S h.bx.length V,.slice T h.ox.length W] rfl rfl 70 #[.int .i64 0,.int .i64 0,.slice none 0 0,.int .i64 0,.int .i64 0,.int .i64 0,.int .i64 0,.int .i64 0,.int .i64 0,.int .i64 0,.slice none 0 0,.slice none 0 0] E Zl6 rfl (by simp [Value.oneCell']) ?_))
 intro w9 af ae aj A;have f:Kp (w.heap.size+3) _ w9:=Kp.of_oth (by omega) A (by omega);replace I:=I.kp X f;replace J:=J.kp Y f;replace K:=K.kp Z f;replace l:=Zai l f;replace n:=Zai n f;replace o:=Zai o f;have aa:Below w.heap.size w w9:=j.trans (ae.mono (by omega));go_wp2;exact ck (results_cell_row rfl _ _ (w.heap.size+1) 70 _ (0,0) _ rfl af underlying70 rfl Zl6) rfl ⟨_,_,_,rfl,I,J,K,X.mono (by omega),Y.mono (by omega),Z.mono (by omega),⟨Zae l (by omega),Zae n (by omega),Zae o (by omega)⟩,aa⟩
theorem ZhG (g:Gm)(w:World) :
  Calls prog 61 #[.agg #[.int .i64 g.k,.int .i64 g.f,.int .i64 g.t,.int .i64 g.n,.string g.s]] w fun e A=>e=.returned (.agg #[.int .i64 g.k,.int .i64 g.f,.int .i64 g.t,.int .i64 g.n,.string g.s])/\Below w.heap.size w A:=by
 have j:Below w.heap.size w (((w.alloc (Obj.cells #[.int .i64 g.k,.int .i64 g.f,.int .i64 g.t,.int .i64 g.n,.string g.s] 108)).alloc (Obj.cells #[.int .i64 0,.int .i64 0,.int .i64 0,.int .i64 0,.string ByteArray.empty] 124)).alloc (Obj.cells #[.int .i64 0,.int .i64 0,.int .i64 0,.int .i64 0,.string ByteArray.empty] 124)):=(((cf _ _).alloc (ce _) _).alloc (by simp) _).alloc (by simp;omega) _
 have i:(((w.alloc (Obj.cells #[.int .i64 g.k,.int .i64 g.f,.int .i64 g.t,.int .i64 g.n,.string g.s] 108)).alloc (Obj.cells #[.int .i64 0,.int .i64 0,.int .i64 0,.int .i64 0,.string ByteArray.empty] 124)).alloc (Obj.cells #[.int .i64 0,.int .i64 0,.int .i64 0,.int .i64 0,.string ByteArray.empty] 124)).heap[w.heap.size]? = some (Obj.cells #[.int .i64 g.k,.int .i64 g.f,.int .i64 g.t,.int .i64 g.n,.string g.s] 108):=(cn _ _ (by simp;omega)).trans ((cn _ _ (by simp)).trans (cg _ _))
 have o:(((w.alloc (Obj.cells #[.int .i64 g.k,.int .i64 g.f,.int .i64 g.t,.int .i64 g.n,.string g.s] 108)).alloc (Obj.cells #[.int .i64 0,.int .i64 0,.int .i64 0,.int .i64 0,.string ByteArray.empty] 124)).alloc (Obj.cells #[.int .i64 0,.int .i64 0,.int .i64 0,.int .i64 0,.string ByteArray.empty] 124)).heap[w.heap.size+1]? = some (Obj.cells #[.int .i64 0,.int .i64 0,.int .i64 0,.int .i64 0,.string ByteArray.empty] 124):=(cn _ _ (by simp)).trans (cw _ _ _)
 have m:(((w.alloc (Obj.cells #[.int .i64 g.k,.int .i64 g.f,.int .i64 g.t,.int .i64 g.n,.string g.s] 108)).alloc (Obj.cells #[.int .i64 0,.int .i64 0,.int .i64 0,.int .i64 0,.string ByteArray.empty] 124)).alloc (Obj.cells #[.int .i64 0,.int .i64 0,.int .i64 0,.int .i64 0,.string ByteArray.empty] 124)).heap[w.heap.size+2]? = some (Obj.cells #[.int .i64 0,.int .i64 0,.int .i64 0,.int .i64 0,.string ByteArray.empty] 124):=by
  have h:=cg ((w.alloc (Obj.cells #[.int .i64 g.k,.int .i64 g.f,.int .i64 g.t,.int .i64 g.n,.string g.s] 108)).alloc (Obj.cells #[.int .i64 0,.int .i64 0,.int .i64 0,.int .i64 0,.string ByteArray.empty] 124)) (Obj.cells #[.int .i64 0,.int .i64 0,.int .i64 0,.int .i64 0,.string ByteArray.empty] 124)
  simpa using h
 have d:w.heap.size+3 <= (((w.alloc (Obj.cells #[.int .i64 g.k,.int .i64 g.f,.int .i64 g.t,.int .i64 g.n,.string g.s] 108)).alloc (Obj.cells #[.int .i64 0,.int .i64 0,.int .i64 0,.int .i64 0,.string ByteArray.empty] 124)).alloc (Obj.cells #[.int .i64 0,.int .i64 0,.int .i64 0,.int .i64 0,.string ByteArray.empty] 124)).heap.size:=by simp
 go_enter func61,ntmps61
 go_wp2_with (refine Zaa rfl 3 _ _ rfl (w.heap.size+2) 0 (.int .i64 g.k) #[.int .i64 g.k] rfl rfl rfl rfl 124 #[.int .i64 0,.int .i64 0,.int .i64 0,.int .i64 0,.string ByteArray.empty] #[.int .i64 g.k,.int .i64 0,.int .i64 0,.int .i64 0,.string ByteArray.empty] m (by simp) (by kernel_rfl) rfl ?_)
 intro u1 l b c a;replace i:=(a w.heap.size (by omega)).trans i;replace o:=(a (w.heap.size+1) (by omega)).trans o;replace j:=j.trans (b.mono (by omega));replace m:=l;replace d:w.heap.size+3 <= u1.heap.size:=by omega
 clear l b c a;have y:u1.cell? ⟨w.heap.size,0+1,none⟩=some (.int .i64 g.f):=cd u1 _ 1 _ _ _ i
 go_wp2_with (refine Zaa rfl 3 _ _ rfl (w.heap.size+2) 1 (.int .i64 g.f) #[.int .i64 g.f] rfl rfl rfl rfl 124 #[.int .i64 g.k,.int .i64 0,.int .i64 0,.int .i64 0,.string ByteArray.empty] #[.int .i64 g.k,.int .i64 g.f,.int .i64 0,.int .i64 0,.string ByteArray.empty] m (by simp) (by kernel_rfl) rfl ?_)
 intro u2 l b c a;replace i:=(a w.heap.size (by omega)).trans i;replace o:=(a (w.heap.size+1) (by omega)).trans o;replace j:=j.trans (b.mono (by omega));replace m:=l;replace d:w.heap.size+3 <= u2.heap.size:=by omega
 clear l b c a y;have y:u2.cell? ⟨w.heap.size,0+2,none⟩=some (.int .i64 g.t):=cd u2 _ 2 _ _ _ i
 go_wp2_with (refine Zaa rfl 3 _ _ rfl (w.heap.size+2) 2 (.int .i64 g.t) #[.int .i64 g.t] rfl rfl rfl rfl 124 #[.int .i64 g.k,.int .i64 g.f,.int .i64 0,.int .i64 0,.string ByteArray.empty] #[.int .i64 g.k,.int .i64 g.f,.int .i64 g.t,.int .i64 0,.string ByteArray.empty] m (by simp) (by kernel_rfl) rfl ?_)
 intro u3 l b c a;replace i:=(a w.heap.size (by omega)).trans i;replace o:=(a (w.heap.size+1) (by omega)).trans o;replace j:=j.trans (b.mono (by omega));replace m:=l;replace d:w.heap.size+3 <= u3.heap.size:=by omega
 clear l b c a y
 go_wp2_with (refine Zag rfl 106 _ rfl w.heap.size 3 rfl _ 108 #[.int .i64 g.n,.string g.s] _ i rfl underlying106 rfl ZlL ?_)
 refine (ZgD ⟨g.n,g.s⟩ _).mono ?_;rintro e B ⟨rfl,p⟩;replace i:=(bb i p);replace o:=(bb o p);replace m:=(bb m p);replace j:=j.trans (p.mono j.size);have q:=p.size;replace d:w.heap.size+3 <= B.heap.size:=Nat.le_trans d q;clear p q
 go_wp2_with (refine ZaF rfl 122 _ _ rfl (w.heap.size+2) 3 #[.int .i64 g.n,.string g.s] rfl rfl 124 #[.int .i64 g.k,.int .i64 g.f,.int .i64 g.t,.int .i64 0,.string ByteArray.empty] #[.int .i64 g.k,.int .i64 g.f,.int .i64 g.t,.int .i64 g.n,.string g.s] m (by simp) Zl1 (by simp [Value.oneCell']) rfl ?_)
 intro u4 l b c a;replace i:=(a w.heap.size (by omega)).trans i;replace o:=(a (w.heap.size+1) (by omega)).trans o;replace j:=j.trans (b.mono (by omega));replace m:=l;replace d:w.heap.size+3 <= u4.heap.size:=by omega
 clear l b c a
 go_wp2_with (first
  | (refine co rfl 124 _ rfl (w.heap.size+2) rfl 124 #[.int .i64 g.k,.int .i64 g.f,.int .i64 g.t,.int .i64 g.n,.string g.s] (0,0) _ m underlying124 rfl Zl2 ?_)
  | (refine Zas rfl 124 _ _ rfl (w.heap.size+1) #[.int .i64 g.k,.int .i64 g.f,.int .i64 g.t,.int .i64 g.n,.string g.s] rfl rfl 124 #[.int .i64 0,.int .i64 0,.int .i64 0,.int .i64 0,.string ByteArray.empty] o Zl2 rfl (by simp [Value.oneCell']) ?_))
 intro C v u z x;have r:Below w.heap.size w C:=j.trans (u.mono (by omega));go_wp2;exact ck (results_cell_row rfl _ _ (w.heap.size+1) 124 _ (0,0) _ rfl v underlying124 rfl Zl2) rfl ⟨rfl,r⟩
theorem Zfr (p:Pd)(w:World) :
  Calls prog 62 #[.agg #[.int .i64 p.p,.int .i64 p.t,.string p.s]] w fun e u=>e=.returned (.agg #[.int .i64 p.p,.int .i64 p.t,.string p.s])/\Below w.heap.size w u:=by
 have g:Below w.heap.size w (((w.alloc (Obj.cells #[.int .i64 p.p,.int .i64 p.t,.string p.s] 111)).alloc (Obj.cells #[.int .i64 0,.int .i64 0,.string ByteArray.empty] 126)).alloc (Obj.cells #[.int .i64 0,.int .i64 0,.string ByteArray.empty] 126)):=(((cf _ _).alloc (ce _) _).alloc (by simp) _).alloc (by simp;omega) _;have f:(((w.alloc (Obj.cells #[.int .i64 p.p,.int .i64 p.t,.string p.s] 111)).alloc (Obj.cells #[.int .i64 0,.int .i64 0,.string ByteArray.empty] 126)).alloc (Obj.cells #[.int .i64 0,.int .i64 0,.string ByteArray.empty] 126)).heap[w.heap.size]? = some (Obj.cells #[.int .i64 p.p,.int .i64 p.t,.string p.s] 111):=(cn _ _ (by simp;omega)).trans ((cn _ _ (by simp)).trans (cg _ _))
 have k:(((w.alloc (Obj.cells #[.int .i64 p.p,.int .i64 p.t,.string p.s] 111)).alloc (Obj.cells #[.int .i64 0,.int .i64 0,.string ByteArray.empty] 126)).alloc (Obj.cells #[.int .i64 0,.int .i64 0,.string ByteArray.empty] 126)).heap[w.heap.size+1]? = some (Obj.cells #[.int .i64 0,.int .i64 0,.string ByteArray.empty] 126):=(cn _ _ (by simp)).trans (cw _ _ _)
 have j:(((w.alloc (Obj.cells #[.int .i64 p.p,.int .i64 p.t,.string p.s] 111)).alloc (Obj.cells #[.int .i64 0,.int .i64 0,.string ByteArray.empty] 126)).alloc (Obj.cells #[.int .i64 0,.int .i64 0,.string ByteArray.empty] 126)).heap[w.heap.size+2]? = some (Obj.cells #[.int .i64 0,.int .i64 0,.string ByteArray.empty] 126):=by
  have h:=cg ((w.alloc (Obj.cells #[.int .i64 p.p,.int .i64 p.t,.string p.s] 111)).alloc (Obj.cells #[.int .i64 0,.int .i64 0,.string ByteArray.empty] 126)) (Obj.cells #[.int .i64 0,.int .i64 0,.string ByteArray.empty] 126)
  simpa using h
 have i:w.heap.size+3 <= (((w.alloc (Obj.cells #[.int .i64 p.p,.int .i64 p.t,.string p.s] 111)).alloc (Obj.cells #[.int .i64 0,.int .i64 0,.string ByteArray.empty] 126)).alloc (Obj.cells #[.int .i64 0,.int .i64 0,.string ByteArray.empty] 126)).heap.size:=by simp
 go_enter func62,ntmps62
 go_wp2_with (refine Zaa rfl 3 _ _ rfl (w.heap.size+2) 0 (.int .i64 p.p) #[.int .i64 p.p] rfl rfl rfl rfl 126 #[.int .i64 0,.int .i64 0,.string ByteArray.empty] #[.int .i64 p.p,.int .i64 0,.string ByteArray.empty] j (by simp) (by kernel_rfl) rfl ?_)
 intro u1 d b c a;replace f:=(a w.heap.size (by omega)).trans f;replace k:=(a (w.heap.size+1) (by omega)).trans k;replace g:=g.trans (b.mono (by omega));replace j:=d;replace i:w.heap.size+3 <= u1.heap.size:=by omega
 clear d b c a;have q:u1.cell? ⟨w.heap.size,0+1,none⟩=some (.int .i64 p.t):=cd u1 _ 1 _ _ _ f
 go_wp2_with (refine Zaa rfl 3 _ _ rfl (w.heap.size+2) 1 (.int .i64 p.t) #[.int .i64 p.t] rfl rfl rfl rfl 126 #[.int .i64 p.p,.int .i64 0,.string ByteArray.empty] #[.int .i64 p.p,.int .i64 p.t,.string ByteArray.empty] j (by simp) (by kernel_rfl) rfl ?_)
 intro u2 d b c a;replace f:=(a w.heap.size (by omega)).trans f;replace k:=(a (w.heap.size+1) (by omega)).trans k;replace g:=g.trans (b.mono (by omega));replace j:=d;replace i:w.heap.size+3 <= u2.heap.size:=by omega
 clear d b c a q;have q:u2.cell? ⟨w.heap.size,0+2,none⟩=some (.string p.s):=cd u2 _ 2 _ _ _ f
 go_wp2_with (refine Zaa rfl 9 _ _ rfl (w.heap.size+2) 2 (.string p.s) #[.string p.s] rfl rfl rfl rfl 126 #[.int .i64 p.p,.int .i64 p.t,.string ByteArray.empty] #[.int .i64 p.p,.int .i64 p.t,.string p.s] j (by simp) (by kernel_rfl) rfl ?_)
 intro u3 d b c a;replace f:=(a w.heap.size (by omega)).trans f;replace k:=(a (w.heap.size+1) (by omega)).trans k;replace g:=g.trans (b.mono (by omega));replace j:=d;replace i:w.heap.size+3 <= u3.heap.size:=by omega
 clear d b c a q
 go_wp2_with (first
  | (refine co rfl 126 _ rfl (w.heap.size+2) rfl 126 #[.int .i64 p.p,.int .i64 p.t,.string p.s] (0,0) _ j underlying126 rfl ZlZ ?_)
  | (refine Zas rfl 126 _ _ rfl (w.heap.size+1) #[.int .i64 p.p,.int .i64 p.t,.string p.s] rfl rfl 126 #[.int .i64 0,.int .i64 0,.string ByteArray.empty] k ZlZ rfl (by simp [Value.oneCell']) ?_))
 intro v n m r o;have l:Below w.heap.size w v:=g.trans (m.mono (by omega));go_wp2;exact ck (results_cell_row rfl _ _ (w.heap.size+1) 126 _ (0,0) _ rfl n underlying126 rfl ZlZ) rfl ⟨rfl,l⟩
theorem ZhA (h:Hm)(v vb C:Value)(l:Int)(w:World)(R:NRow w v h.xs)(y:StRow w vb h.bx)(z:StRow w C h.ox)(u:0 <= l)(x:l <= 1048576) :
  Calls prog 46 #[.agg #[.int .i64 h.pl,.int .i64 h.i,v,.int .i64 h.m.p,.int .i64 h.m.s,.int .i64 h.m.e,.int .i64 h.m.d,.int .i64 h.m.t,.int .i64 h.m.q,.int .i64 h.m.r,vb,C],.int .i64 l] w fun e D=>∃ r:Int,e=.returned (.int .i64 r) /\ -1 <= r/\r <= 1048576/\(0 <= r -> SmH h)/\Below w.heap.size w D:=by
 obtain ⟨c,a,rfl⟩:∃ c a,v=.slice c h.xs.length a:=by obtain ⟨c,a,rfl,_⟩:=R;exact ⟨c,a,rfl⟩
 obtain ⟨j,n,rfl⟩:=y.small;obtain ⟨k,o,rfl⟩:=z.small;have b:Below w.heap.size w (w.alloc (Obj.cells #[.int .i64 h.pl,.int .i64 h.i,.slice c h.xs.length a,.int .i64 h.m.p,.int .i64 h.m.s,.int .i64 h.m.e,.int .i64 h.m.d,.int .i64 h.m.t,.int .i64 h.m.q,.int .i64 h.m.r,.slice j h.bx.length n,.slice k h.ox.length o] 99)):=(cf _ _).alloc (ce _) _;have B:(w.alloc (Obj.cells #[.int .i64 h.pl,.int .i64 h.i,.slice c h.xs.length a,.int .i64 h.m.p,.int .i64 h.m.s,.int .i64 h.m.e,.int .i64 h.m.d,.int .i64 h.m.t,.int .i64 h.m.q,.int .i64 h.m.r,.slice j h.bx.length n,.slice k h.ox.length o] 99)).heap[w.heap.size]? = some (Obj.cells #[.int .i64 h.pl,.int .i64 h.i,.slice c h.xs.length a,.int .i64 h.m.p,.int .i64 h.m.s,.int .i64 h.m.e,.int .i64 h.m.d,.int .i64 h.m.t,.int .i64 h.m.q,.int .i64 h.m.r,.slice j h.bx.length n,.slice k h.ox.length o] 99):=cg _ _
 go_enter func46,ntmps46
 go_wp2_with (refine Zag rfl 97 _ rfl w.heap.size 1 rfl _ 99 #[.int .i64 h.i,.slice c h.xs.length a,.int .i64 h.m.p,.int .i64 h.m.s,.int .i64 h.m.e,.int .i64 h.m.d,.int .i64 h.m.t,.int .i64 h.m.q,.int .i64 h.m.r,.slice j h.bx.length n,.slice k h.ox.length o] _ B rfl underlying97 rfl ZlG ?_)
 refine (ZhF l u x h.i _ _ _ h.xs h.m h.bx h.ox _ (R.below b) (y.below b) (z.below b)).mono ?_;rintro e I ⟨r,rfl,F,G,f,A⟩;have g:=b.trans (A.mono b.size);clear b B A
 by_cases H:r < 0
 ·have E:Hid (r = -1):=by unfold Hid;omega
  go_wp2;go_ret;exact ⟨-1,rfl,by omega,by omega,fun h=>by omega,g⟩
 ·have f:=f (by omega)
  go_wp2;go_ret;exact ⟨r,rfl,by omega,by omega,fun _=>⟨f.1.1,f.2.1.1,f.2.2.1,f.2.1.2⟩,g⟩
theorem Zhz (g:Gm)(l:Int)(w:World)(o:g.s.size <= maxLen)(d:0 <= l)(i:l <= 1048576) :
  Calls prog 48 #[.agg #[.int .i64 g.k,.int .i64 g.f,.int .i64 g.t,.int .i64 g.n,.string g.s],.int .i64 l] w fun e u=>∃ r:Int,e=.returned (.int .i64 r) /\ -1 <= r/\r <= 1048576/\(0 <= r -> SmG g)/\Below w.heap.size w u:=by
 have a:Below w.heap.size w (w.alloc (Obj.cells #[.int .i64 g.k,.int .i64 g.f,.int .i64 g.t,.int .i64 g.n,.string g.s] 108)):=(cf _ _).alloc (ce _) _;have p:(w.alloc (Obj.cells #[.int .i64 g.k,.int .i64 g.f,.int .i64 g.t,.int .i64 g.n,.string g.s] 108)).heap[w.heap.size]? = some (Obj.cells #[.int .i64 g.k,.int .i64 g.f,.int .i64 g.t,.int .i64 g.n,.string g.s] 108):=cg _ _;have q:g.s.size <= 9223372036854775807:=by unfold maxLen at o;omega
 go_enter func48,ntmps48
 go_wp2_with (refine Zag rfl 106 _ rfl w.heap.size 3 rfl _ 108 #[.int .i64 g.n,.string g.s] _ p rfl underlying106 rfl ZlL ?_)
 refine (ZgC ⟨g.n,g.s⟩ l _ o d i).mono ?_;rintro e v ⟨rfl,j⟩;have b:=a.trans (j.mono a.size);clear a p j
 by_cases m:l < g.s.size
 ·have c:Hid (less l g.s.size = -1):=by unfold Hid less;rw [if_pos m]
  rw [show less l (Pc.mk g.n g.s).s.size = -1 from c.out];go_wp2;go_ret;exact ⟨-1,rfl,by omega,by omega,fun h=>by omega,b⟩
 ·have c:Hid (less l g.s.size=l - g.s.size):=by unfold Hid less;rw [if_neg m]
  rw [show less l (Pc.mk g.n g.s).s.size=l - g.s.size from c.out];go_wp2;go_ret;exact ⟨_,rfl,by omega,by omega,fun _=>trivial,b⟩
theorem Zfm (p:Pd)(l:Int)(w:World)(d:p.s.size <= maxLen)(b:0 <= l)(c:l <= 1048576) :
  Calls prog 49 #[.agg #[.int .i64 p.p,.int .i64 p.t,.string p.s],.int .i64 l] w fun e g=>∃ r:Int,e=.returned (.int .i64 r) /\ -1 <= r/\r <= 1048576/\(0 <= r -> SmP p)/\Below w.heap.size w g:=by
 have f:p.s.size <= 9223372036854775807:=by unfold maxLen at d;omega
 have a:Below w.heap.size w (w.alloc (Obj.cells #[.int .i64 p.p,.int .i64 p.t,.string p.s] 111)):=(cf _ _).alloc (ce _) _
 go_enter func49,ntmps49
 by_cases i:l < p.s.size
 ·go_wp2
  go_ret;exact ⟨-1,rfl,by omega,by omega,fun h=>by omega,a⟩
 ·go_wp2
  go_ret;exact ⟨_,rfl,by omega,by omega,fun _=>trivial,a⟩
theorem ZgN (h:Hm)(v vb K u I J:Value)(w:World)(R:NRow w v h.xs)(g:StRow w vb h.bx)(j:StRow w K h.ox)(S:NRow w u h.xs)(k:StRow w I h.bx)(l:StRow w J h.ox) :
  Calls prog 76 #[.agg #[.int .i64 h.pl,.int .i64 h.i,v,.int .i64 h.m.p,.int .i64 h.m.s,.int .i64 h.m.e,.int .i64 h.m.d,.int .i64 h.m.t,.int .i64 h.m.q,.int .i64 h.m.r,vb,K],.agg #[.int .i64 h.pl,.int .i64 h.i,u,.int .i64 h.m.p,.int .i64 h.m.s,.int .i64 h.m.e,.int .i64 h.m.d,.int .i64 h.m.t,.int .i64 h.m.q,.int .i64 h.m.r,I,J]] w fun e L=>e=.returned (.bool true)/\Below w.heap.size w L:=by
 obtain ⟨c,a,rfl⟩:∃ c a,v=.slice c h.xs.length a:=by obtain ⟨c,a,rfl,_⟩:=R;exact ⟨c,a,rfl⟩
 obtain ⟨n,x,rfl⟩:=g.small;obtain ⟨o,y,rfl⟩:=j.small;obtain ⟨C,F,rfl⟩:∃ c a,u=.slice c h.xs.length a:=by obtain ⟨c,a,rfl,_⟩:=S;exact ⟨c,a,rfl⟩
 obtain ⟨D,G,rfl⟩:=k.small;obtain ⟨E,H,rfl⟩:=l.small;obtain ⟨b,A,B⟩:=ZaC w (Obj.cells #[.int .i64 h.pl,.int .i64 h.i,.slice c h.xs.length a,.int .i64 h.m.p,.int .i64 h.m.s,.int .i64 h.m.e,.int .i64 h.m.d,.int .i64 h.m.t,.int .i64 h.m.q,.int .i64 h.m.r,.slice n h.bx.length x,.slice o h.ox.length y] 70) (Obj.cells #[.int .i64 h.pl,.int .i64 h.i,.slice C h.xs.length F,.int .i64 h.m.p,.int .i64 h.m.s,.int .i64 h.m.e,.int .i64 h.m.d,.int .i64 h.m.t,.int .i64 h.m.q,.int .i64 h.m.r,.slice D h.bx.length G,.slice E h.ox.length H] 70)
 go_enter func76,ntmps76
 go_wp2_with (first
  | (refine Zag rfl 68 _ rfl w.heap.size 1 rfl _ 70 #[.int .i64 h.i,.slice c h.xs.length a,.int .i64 h.m.p,.int .i64 h.m.s,.int .i64 h.m.e,.int .i64 h.m.d,.int .i64 h.m.t,.int .i64 h.m.q,.int .i64 h.m.r,.slice n h.bx.length x,.slice o h.ox.length y] _ A rfl underlying68 rfl ZlM ?_)
  | (refine Zag rfl 68 _ rfl (w.heap.size+1) 1 rfl _ 70 #[.int .i64 h.i,.slice C h.xs.length F,.int .i64 h.m.p,.int .i64 h.m.s,.int .i64 h.m.e,.int .i64 h.m.d,.int .i64 h.m.t,.int .i64 h.m.q,.int .i64 h.m.r,.slice D h.bx.length G,.slice E h.ox.length H] _ B rfl underlying68 rfl ZlM ?_))
 refine (ZgR h.i _ _ _ _ _ _ h.xs h.m h.bx h.ox _ (R.below b) (g.below b) (j.below b) (S.below b) (k.below b) (l.below b)).mono ?_;rintro e M ⟨rfl,z⟩;have f:=b.trans (z.mono b.size);clear b A B z;go_wp2;go_ret;exact ⟨rfl,f⟩
theorem ZgM (g:Gm)(w:World) :
  Calls prog 78 #[.agg #[.int .i64 g.k,.int .i64 g.f,.int .i64 g.t,.int .i64 g.n,.string g.s],.agg #[.int .i64 g.k,.int .i64 g.f,.int .i64 g.t,.int .i64 g.n,.string g.s]] w fun e j=>e=.returned (.bool true)/\Below w.heap.size w j:=by
 obtain ⟨a,d,i⟩:=ZaC w (Obj.cells #[.int .i64 g.k,.int .i64 g.f,.int .i64 g.t,.int .i64 g.n,.string g.s] 124) (Obj.cells #[.int .i64 g.k,.int .i64 g.f,.int .i64 g.t,.int .i64 g.n,.string g.s] 124)
 go_enter func78,ntmps78
 go_wp2_with (first
  | (refine Zag rfl 122 _ rfl w.heap.size 3 rfl _ 124 #[.int .i64 g.n,.string g.s] _ d rfl underlying122 rfl Zl1 ?_)
  | (refine Zag rfl 122 _ rfl (w.heap.size+1) 3 rfl _ 124 #[.int .i64 g.n,.string g.s] _ i rfl underlying122 rfl Zl1 ?_))
 refine (Zgi ⟨g.n,g.s⟩ _).mono ?_;rintro e l ⟨rfl,c⟩;have b:=a.trans (c.mono a.size);clear a d i c;go_wp2;go_ret;exact ⟨rfl,b⟩
theorem Zeu (p:Pd)(w:World) :
  Calls prog 79 #[.agg #[.int .i64 p.p,.int .i64 p.t,.string p.s],.agg #[.int .i64 p.p,.int .i64 p.t,.string p.s]] w fun e d=>e=.returned (.bool true)/\Below w.heap.size w d:=by
 obtain ⟨a,b,c⟩:=ZaC w (Obj.cells #[.int .i64 p.p,.int .i64 p.t,.string p.s] 126) (Obj.cells #[.int .i64 p.p,.int .i64 p.t,.string p.s] 126);clear b c
 go_enter func79,ntmps79
 go_wp2;go_ret;exact ⟨rfl,a⟩
end Go.Proofs.YtanhoamdlhaaeaaGreatDoor
