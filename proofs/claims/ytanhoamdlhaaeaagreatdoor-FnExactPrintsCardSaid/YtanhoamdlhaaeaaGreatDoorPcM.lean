/-
  Texts that stood by themselves, laid into one.
-/
import Derived.Test.YtanhoamdlhaaeaaGreatDoorMachRecM
import Derived.Test.YtanhoamdlhaaeaaGreatDoorSubM
import Derived.Test.YtanhoamdlhaaeaaGreatDoorNodeFitsM
/-
  A process's records: how great, made of the law's, and alike. No condition.
-/
set_option maxRecDepth 100000
set_option maxHeartbeats 6400000
namespace Go.Proofs.YtanhoamdlhaaeaaGreatDoor
open Go.Proofs.Tryz
open Go.RowKit
theorem ZlM:(prog.info? 68).map (·.size)=some 11:=by kernel_rfl
theorem ZlI:(prog.info? 95).map (·.size)=some 8:=by kernel_rfl
theorem ZhF (C:Int)(H:0 <= C)(I:C <= 1048576)(i:Int)(v vb O:Value)(o:List Nd)(m:Mc)(j g:List ByteArray)(w:World)(R:NRow w v o)(K:StRow w vb j)(L:StRow w O g) :
  Calls prog 88 #[.agg #[.int .i64 i,v,.int .i64 m.p,.int .i64 m.s,.int .i64 m.e,.int .i64 m.d,.int .i64 m.t,.int .i64 m.q,.int .i64 m.r,vb,O],.int .i64 C] w fun e X=>∃ r:Int,e=.returned (.int .i64 r) /\ -1 <= r/\r <= 1048576/\(0 <= r -> (o.length <= 1048576/\∀ x ∈ o,x.s.size <= 1048576)/\(j.length <= 1048576/\∀ x ∈ j,x.size <= 1048576)/\(g.length <= 1048576/\∀ x ∈ g,x.size <= 1048576))/\Below w.heap.size w X:=by
 have Q:=R;obtain ⟨F,k,rfl,_⟩:=Q;obtain ⟨E,G,rfl⟩:=K.small;obtain ⟨A,B,rfl⟩:=L.small;have c:Below w.heap.size w (w.alloc (Obj.cells #[.int .i64 i,.slice F o.length k,.int .i64 m.p,.int .i64 m.s,.int .i64 m.e,.int .i64 m.d,.int .i64 m.t,.int .i64 m.q,.int .i64 m.r,.slice E j.length G,.slice A g.length B] 97)):=(cf _ _).alloc (ce _) _
 go_enter func88,ntmps88
 go_wp2_with (refine Zag rfl 95 _ rfl w.heap.size 1 rfl _ 97 #[.slice F o.length k,.int .i64 m.p,.int .i64 m.s,.int .i64 m.e,.int .i64 m.d,.int .i64 m.t,.int .i64 m.q,.int .i64 m.r] _ (cg _ _) rfl underlying95 rfl ZlI ?_)
 refine (ZhC C H I _ o m _ (R.below c)).mono ?_;rintro e D ⟨r,rfl,h0,h1,U,l⟩;have f:=(l.block w.heap.size (by simp)).trans (cg w (Obj.cells #[.int .i64 i,.slice F o.length k,.int .i64 m.p,.int .i64 m.s,.int .i64 m.e,.int .i64 m.d,.int .i64 m.t,.int .i64 m.q,.int .i64 m.r,.slice E j.length G,.slice A g.length B] 97));have a:=c.trans (l.mono c.size);clear c l
 by_cases hr:r < 0
 ·go_wp2
  go_ret;exact ⟨-1,rfl,by omega,by omega,fun h=>by omega,a⟩
 have k2:D.cell? ⟨w.heap.size,0+9,none⟩=some (.slice E j.length G):=cd D _ 9 _ _ _ f;have J:D.cell? ⟨w.heap.size,0+10,none⟩=some (.slice A g.length B):=cd D _ 10 _ _ _ f;go_wp2_with fail;refine (Zb7 _ j r _ (K.below a) (by omega) (by omega)).mono ?_;rintro e P ⟨M,rfl,g0,g1,T,n⟩;have z:=(bb f n);have b:=a.trans (n.mono a.size);clear a n f k2 J
 by_cases V:M < 0
 ·go_wp2
  go_ret;exact ⟨-1,rfl,by omega,by omega,fun h=>by omega,b⟩
 have J:P.cell? ⟨w.heap.size,0+10,none⟩=some (.slice A g.length B):=cd P _ 10 _ _ _ z;go_wp2_with fail;refine (Zb7 _ g M _ (L.below b) (by omega) (by omega)).mono ?_;rintro e w3 ⟨N,rfl,Y,Z,S,y⟩;have u:=b.trans (y.mono b.size);clear b y z J
 by_cases W:N < 0
 ·go_wp2
  go_ret;exact ⟨-1,rfl,by omega,by omega,fun h=>by omega,u⟩
 ·go_wp2
  go_ret;exact ⟨N,rfl,by omega,by omega,fun h=>⟨U (by omega),T (by omega),S h⟩,u⟩
theorem ZgR (i:Int)(va T oa vb bb ob:Value)(v:List Nd)(m:Mc)(j u:List ByteArray)(w:World)(L:NRow w va v)(H:StRow w T j)(J:StRow w oa u)(M:NRow w vb v)(I:StRow w bb j)(K:StRow w ob u) :
  Calls prog 113 #[.agg #[.int .i64 i,va,.int .i64 m.p,.int .i64 m.s,.int .i64 m.e,.int .i64 m.d,.int .i64 m.t,.int .i64 m.q,.int .i64 m.r,T,oa],.agg #[.int .i64 i,vb,.int .i64 m.p,.int .i64 m.s,.int .i64 m.e,.int .i64 m.d,.int .i64 m.t,.int .i64 m.q,.int .i64 m.r,bb,ob]] w fun e w'=>e=.returned (.bool true)/\Below w.heap.size w w':=by
 have C:=L;have D:=M;obtain ⟨R,Y,rfl,_⟩:=C;obtain ⟨S,Z,rfl,_⟩:=D;obtain ⟨N,U,rfl⟩:=H.small;obtain ⟨O,V,rfl⟩:=J.small;obtain ⟨P,W,rfl⟩:=I.small;obtain ⟨Q,X,rfl⟩:=K.small;obtain ⟨a,k,n⟩:=ZaC w (Obj.cells #[.int .i64 i,.slice R v.length Y,.int .i64 m.p,.int .i64 m.s,.int .i64 m.e,.int .i64 m.d,.int .i64 m.t,.int .i64 m.q,.int .i64 m.r,.slice N j.length U,.slice O u.length V] 68) (Obj.cells #[.int .i64 i,.slice S v.length Z,.int .i64 m.p,.int .i64 m.s,.int .i64 m.e,.int .i64 m.d,.int .i64 m.t,.int .i64 m.q,.int .i64 m.r,.slice P j.length W,.slice Q u.length X] 68);have e1:(i != i)=false:=by simp
 go_enter func113,ntmps113
 go_wp2_with (first
  | (refine Zag rfl 66 _ rfl w.heap.size 1 rfl _ 68 #[.slice R v.length Y,.int .i64 m.p,.int .i64 m.s,.int .i64 m.e,.int .i64 m.d,.int .i64 m.t,.int .i64 m.q,.int .i64 m.r] _ k rfl underlying66 rfl ZlN ?_)
  | (refine Zag rfl 66 _ rfl (w.heap.size+1) 1 rfl _ 68 #[.slice S v.length Z,.int .i64 m.p,.int .i64 m.s,.int .i64 m.e,.int .i64 m.d,.int .i64 m.t,.int .i64 m.q,.int .i64 m.r] _ n rfl underlying66 rfl ZlN ?_))
 refine (ZgP _ _ v m _ (L.below a) (M.below a)).mono ?_;rintro e A ⟨rfl,f⟩;have b:=a.trans (f.mono a.size);have l:=(bb k f);have o:=(bb n f);clear a k n f;have G:A.cell? ⟨w.heap.size,0+9,none⟩=some (.slice N j.length U):=cd A _ 9 _ _ _ l;have F:A.cell? ⟨w.heap.size+1,0+9,none⟩=some (.slice P j.length W):=cd A _ 9 _ _ _ o;go_wp2_with fail;refine (Za7 _ _ j _ (H.below b) (I.below b)).mono ?_;rintro e B ⟨rfl,g⟩;have c:=b.trans (g.mono b.size);have y:=(bb l g);have z:=(bb o g);clear b l o g G F;have G:B.cell? ⟨w.heap.size,0+10,none⟩=some (.slice O u.length V):=cd B _ 10 _ _ _ y;have F:B.cell? ⟨w.heap.size+1,0+10,none⟩=some (.slice Q u.length X):=cd B _ 10 _ _ _ z;go_wp2_with fail;refine (Za7 _ _ u _ (J.below c) (K.below c)).mono ?_;rintro e w3 ⟨rfl,x⟩;have E:=c.trans (x.mono c.size);clear c y z x G F;go_wp2;go_ret;exact ⟨rfl,E⟩
theorem ZhL (i:Int)(v vb vo:Value)(u:List Nd)(m:Mc)(x A:List ByteArray)(w:World)(R:NRow w v u)(Rb:StRow w vb x)(Ro:StRow w vo A)(hm:u.length <= 2097152)(ai:x.length <= 2097152)(aj:A.length <= 2097152) :
  Calls prog 100 #[.agg #[.int .i64 i,v,.int .i64 m.p,.int .i64 m.s,.int .i64 m.e,.int .i64 m.d,.int .i64 m.t,.int .i64 m.q,.int .i64 m.r,vb,vo]] w fun e w'=>∃ v1 v2 v3,e=.returned (.agg #[.int .i64 i,v1,.int .i64 m.p,.int .i64 m.s,.int .i64 m.e,.int .i64 m.d,.int .i64 m.t,.int .i64 m.q,.int .i64 m.r,v2,v3])/\w'.ownsRow w.heap.size 176 5 v1 u.length (ncs u)/\w'.ownsRow w.heap.size 9 1 v2 x.length (stv x)/\w'.ownsRow w.heap.size 9 1 v3 A.length (stv A)/\(∀ g,v3.ownBlock=some g -> v2.ownBlock ≠ some g)/\Below w.heap.size w w':=by
 obtain ⟨L,j,rfl⟩:∃ L j,v=.slice L u.length j:=by obtain ⟨L,j,rfl,_⟩:=R;exact ⟨L,j,rfl⟩
 obtain ⟨Q,T,rfl⟩:=Rb.small;obtain ⟨S,U,rfl⟩:=Ro.small;have o:Below w.heap.size w (((w.alloc (Obj.cells #[.int .i64 i,.slice L u.length j,.int .i64 m.p,.int .i64 m.s,.int .i64 m.e,.int .i64 m.d,.int .i64 m.t,.int .i64 m.q,.int .i64 m.r,.slice Q x.length T,.slice S A.length U] 97)).alloc (Obj.cells #[.int .i64 0,.slice none 0 0,.int .i64 0,.int .i64 0,.int .i64 0,.int .i64 0,.int .i64 0,.int .i64 0,.int .i64 0,.slice none 0 0,.slice none 0 0] 68)).alloc (Obj.cells #[.int .i64 0,.slice none 0 0,.int .i64 0,.int .i64 0,.int .i64 0,.int .i64 0,.int .i64 0,.int .i64 0,.int .i64 0,.slice none 0 0,.slice none 0 0] 68)):=(((cf _ _).alloc (ce _) _).alloc (by simp) _).alloc (by simp;omega) _
 have E:(((w.alloc (Obj.cells #[.int .i64 i,.slice L u.length j,.int .i64 m.p,.int .i64 m.s,.int .i64 m.e,.int .i64 m.d,.int .i64 m.t,.int .i64 m.q,.int .i64 m.r,.slice Q x.length T,.slice S A.length U] 97)).alloc (Obj.cells #[.int .i64 0,.slice none 0 0,.int .i64 0,.int .i64 0,.int .i64 0,.int .i64 0,.int .i64 0,.int .i64 0,.int .i64 0,.slice none 0 0,.slice none 0 0] 68)).alloc (Obj.cells #[.int .i64 0,.slice none 0 0,.int .i64 0,.int .i64 0,.int .i64 0,.int .i64 0,.int .i64 0,.int .i64 0,.int .i64 0,.slice none 0 0,.slice none 0 0] 68)).heap[w.heap.size]? = some (Obj.cells #[.int .i64 i,.slice L u.length j,.int .i64 m.p,.int .i64 m.s,.int .i64 m.e,.int .i64 m.d,.int .i64 m.t,.int .i64 m.q,.int .i64 m.r,.slice Q x.length T,.slice S A.length U] 97):=(cn _ _ (by simp;omega)).trans ((cn _ _ (by simp)).trans (cg _ _))
 have J:(((w.alloc (Obj.cells #[.int .i64 i,.slice L u.length j,.int .i64 m.p,.int .i64 m.s,.int .i64 m.e,.int .i64 m.d,.int .i64 m.t,.int .i64 m.q,.int .i64 m.r,.slice Q x.length T,.slice S A.length U] 97)).alloc (Obj.cells #[.int .i64 0,.slice none 0 0,.int .i64 0,.int .i64 0,.int .i64 0,.int .i64 0,.int .i64 0,.int .i64 0,.int .i64 0,.slice none 0 0,.slice none 0 0] 68)).alloc (Obj.cells #[.int .i64 0,.slice none 0 0,.int .i64 0,.int .i64 0,.int .i64 0,.int .i64 0,.int .i64 0,.int .i64 0,.int .i64 0,.slice none 0 0,.slice none 0 0] 68)).heap[w.heap.size+1]? = some (Obj.cells #[.int .i64 0,.slice none 0 0,.int .i64 0,.int .i64 0,.int .i64 0,.int .i64 0,.int .i64 0,.int .i64 0,.int .i64 0,.slice none 0 0,.slice none 0 0] 68):=(cn _ _ (by simp)).trans (cw _ _ _)
 have I:(((w.alloc (Obj.cells #[.int .i64 i,.slice L u.length j,.int .i64 m.p,.int .i64 m.s,.int .i64 m.e,.int .i64 m.d,.int .i64 m.t,.int .i64 m.q,.int .i64 m.r,.slice Q x.length T,.slice S A.length U] 97)).alloc (Obj.cells #[.int .i64 0,.slice none 0 0,.int .i64 0,.int .i64 0,.int .i64 0,.int .i64 0,.int .i64 0,.int .i64 0,.int .i64 0,.slice none 0 0,.slice none 0 0] 68)).alloc (Obj.cells #[.int .i64 0,.slice none 0 0,.int .i64 0,.int .i64 0,.int .i64 0,.int .i64 0,.int .i64 0,.int .i64 0,.int .i64 0,.slice none 0 0,.slice none 0 0] 68)).heap[w.heap.size+2]? = some (Obj.cells #[.int .i64 0,.slice none 0 0,.int .i64 0,.int .i64 0,.int .i64 0,.int .i64 0,.int .i64 0,.int .i64 0,.int .i64 0,.slice none 0 0,.slice none 0 0] 68):=by
  have h:=cg ((w.alloc (Obj.cells #[.int .i64 i,.slice L u.length j,.int .i64 m.p,.int .i64 m.s,.int .i64 m.e,.int .i64 m.d,.int .i64 m.t,.int .i64 m.q,.int .i64 m.r,.slice Q x.length T,.slice S A.length U] 97)).alloc (Obj.cells #[.int .i64 0,.slice none 0 0,.int .i64 0,.int .i64 0,.int .i64 0,.int .i64 0,.int .i64 0,.int .i64 0,.int .i64 0,.slice none 0 0,.slice none 0 0] 68)) (Obj.cells #[.int .i64 0,.slice none 0 0,.int .i64 0,.int .i64 0,.int .i64 0,.int .i64 0,.int .i64 0,.int .i64 0,.int .i64 0,.slice none 0 0,.slice none 0 0] 68)
  simpa using h
 go_enter func100,ntmps100
 go_wp2_with (refine Zaa rfl 3 _ _ rfl (w.heap.size+2) 0 (.int .i64 i) #[.int .i64 i] rfl rfl rfl rfl 68 #[.int .i64 0,.slice none 0 0,.int .i64 0,.int .i64 0,.int .i64 0,.int .i64 0,.int .i64 0,.int .i64 0,.int .i64 0,.slice none 0 0,.slice none 0 0] #[.int .i64 i,.slice none 0 0,.int .i64 0,.int .i64 0,.int .i64 0,.int .i64 0,.int .i64 0,.int .i64 0,.int .i64 0,.slice none 0 0,.slice none 0 0] I (by simp) (by kernel_rfl) rfl ?_)
 intro u0 V M D G;replace D:Hid (u0.heap.size=w.heap.size+3):=D.trans (by simp);replace E:=(G w.heap.size (by omega)).trans E;replace J:=(G (w.heap.size+1) (by omega)).trans J;replace o:=o.trans (M.mono (by omega));replace I:=V;clear V M G
 go_wp2_with (refine Zag rfl 95 _ rfl w.heap.size 1 rfl _ 97 #[.slice L u.length j,.int .i64 m.p,.int .i64 m.s,.int .i64 m.e,.int .i64 m.d,.int .i64 m.t,.int .i64 m.q,.int .i64 m.r] _ E rfl underlying95 rfl ZlI ?_)
 refine (ZhJ _ u m _ (R.below o) hm).mono ?_;rintro e w1 ⟨v1,rfl,a,k⟩;obtain ⟨B,c,rfl⟩:=Zad a;rw [D.out] at a;have an:w.heap.size+3 <= w1.heap.size:=D.out ▸ k.size;replace E:=(bb E k);replace J:=(bb J k);replace I:=(bb I k);replace o:=o.trans (k.mono o.size);clear k
 go_wp2_with (refine ZaF rfl 66 _ _ rfl (w.heap.size+2) 1 #[.slice B u.length c,.int .i64 m.p,.int .i64 m.s,.int .i64 m.e,.int .i64 m.d,.int .i64 m.t,.int .i64 m.q,.int .i64 m.r] rfl rfl 68 #[.int .i64 i,.slice none 0 0,.int .i64 0,.int .i64 0,.int .i64 0,.int .i64 0,.int .i64 0,.int .i64 0,.int .i64 0,.slice none 0 0,.slice none 0 0] #[.int .i64 i,.slice B u.length c,.int .i64 m.p,.int .i64 m.s,.int .i64 m.e,.int .i64 m.d,.int .i64 m.t,.int .i64 m.q,.int .i64 m.r,.slice none 0 0,.slice none 0 0] I (by simp) ZlN (by simp [Value.oneCell']) rfl ?_)
 intro u1 W N Z z;have al:w.heap.size+3 <= u1.heap.size:=by omega
 clear Z D;replace E:=(z w.heap.size (by omega)).trans E;replace J:=(z (w.heap.size+1) (by omega)).trans J;replace a:=Zaz a (by omega) z;replace o:=o.trans (N.mono (by omega));replace I:=W;clear W N z;have k9:u1.cell? ⟨w.heap.size,0+9,none⟩=some (.slice Q x.length T):=cd u1 _ 9 _ _ _ E;go_wp2_with fail;refine (Zb8 _ x _ (Rb.below o) ai).mono ?_;rintro e w2 ⟨v2,rfl,l,k⟩;obtain ⟨C,f,rfl⟩:=Zad l;replace l:=Zae (B':=w.heap.size+3) l (by omega);have ap:=k.size;replace E:=(bb E k);replace J:=(bb J k);replace I:=(bb I k);replace a:=Zac a k;replace o:=o.trans (k.mono o.size);clear k k9
 go_wp2_with (refine Zaa rfl 37 _ _ rfl (w.heap.size+2) 9 (.slice C x.length f) #[.slice C x.length f] rfl rfl rfl rfl 68 #[.int .i64 i,.slice B u.length c,.int .i64 m.p,.int .i64 m.s,.int .i64 m.e,.int .i64 m.d,.int .i64 m.t,.int .i64 m.q,.int .i64 m.r,.slice none 0 0,.slice none 0 0] #[.int .i64 i,.slice B u.length c,.int .i64 m.p,.int .i64 m.s,.int .i64 m.e,.int .i64 m.d,.int .i64 m.t,.int .i64 m.q,.int .i64 m.r,.slice C x.length f,.slice none 0 0] I (by simp) (by kernel_rfl) rfl ?_)
 intro u2 X O aa n;have am:w2.heap.size <= u2.heap.size:=by omega
 clear aa;replace E:=(n w.heap.size (by omega)).trans E;replace J:=(n (w.heap.size+1) (by omega)).trans J;replace a:=Zaz a (by omega) n;replace l:=Zaz l (by omega) n;replace o:=o.trans (O.mono (by omega));replace I:=X;clear X O n;have ak:u2.cell? ⟨w.heap.size,0+10,none⟩=some (.slice S A.length U):=cd u2 _ 10 _ _ _ E;go_wp2_with fail;refine (Zb8 _ A _ (Ro.below o) aj).mono ?_;rintro e w3 ⟨v3,rfl,F,k⟩;obtain ⟨K,y,rfl⟩:=Zad F
 have af:∀ g,(Value.slice K A.length y).ownBlock=some g -> (Value.slice C x.length f).ownBlock ≠ some g:=fun g hg e=>by
  have h1:=(l.lt g e).2;have h2:=(F.lt g hg).1;omega
 replace F:=Zae (B':=w.heap.size+3) F (by omega);have aq:=k.size;replace E:=(bb E k);replace J:=(bb J k);replace I:=(bb I k);replace a:=Zac a k;replace l:=Zac l k;replace o:=o.trans (k.mono o.size);clear k ak
 go_wp2_with (refine Zaa rfl 37 _ _ rfl (w.heap.size+2) 10 (.slice K A.length y) #[.slice K A.length y] rfl rfl rfl rfl 68 #[.int .i64 i,.slice B u.length c,.int .i64 m.p,.int .i64 m.s,.int .i64 m.e,.int .i64 m.d,.int .i64 m.t,.int .i64 m.q,.int .i64 m.r,.slice C x.length f,.slice none 0 0] #[.int .i64 i,.slice B u.length c,.int .i64 m.p,.int .i64 m.s,.int .i64 m.e,.int .i64 m.d,.int .i64 m.t,.int .i64 m.q,.int .i64 m.r,.slice C x.length f,.slice K A.length y] I (by simp) (by kernel_rfl) rfl ?_)
 intro u3 Y P ad b;clear ad;replace E:=(b w.heap.size (by omega)).trans E;replace J:=(b (w.heap.size+1) (by omega)).trans J;replace a:=Zaz a (by omega) b;replace l:=Zaz l (by omega) b;replace F:=Zaz F (by omega) b;replace o:=o.trans (P.mono (by omega));replace I:=Y;clear Y P b
 go_wp2_with (first
  | (refine co rfl 68 _ rfl (w.heap.size+2) rfl 68 #[.int .i64 i,.slice B u.length c,.int .i64 m.p,.int .i64 m.s,.int .i64 m.e,.int .i64 m.d,.int .i64 m.t,.int .i64 m.q,.int .i64 m.r,.slice C x.length f,.slice K A.length y] (0,0) _ I underlying68 rfl ZlM ?_)
  | (refine Zas rfl 68 _ _ rfl (w.heap.size+1) #[.int .i64 i,.slice B u.length c,.int .i64 m.p,.int .i64 m.s,.int .i64 m.e,.int .i64 m.d,.int .i64 m.t,.int .i64 m.q,.int .i64 m.r,.slice C x.length f,.slice K A.length y] rfl rfl 68 #[.int .i64 0,.slice none 0 0,.int .i64 0,.int .i64 0,.int .i64 0,.int .i64 0,.int .i64 0,.int .i64 0,.int .i64 0,.slice none 0 0,.slice none 0 0] J ZlM rfl (by simp [Value.oneCell']) ?_))
 intro w9 ah ag ar H;have p1:=Zae (B':=w.heap.size) (Zaz a (by omega) H) (by omega);have p2:=Zae (B':=w.heap.size) (Zaz l (by omega) H) (by omega);have p3:=Zae (B':=w.heap.size) (Zaz F (by omega) H) (by omega);have ae:Below w.heap.size w w9:=o.trans (ag.mono (by omega));go_wp2;exact ck (results_cell_row rfl _ _ (w.heap.size+1) 68 _ (0,0) _ rfl ah underlying68 rfl ZlM) rfl ⟨_,_,_,rfl,p1,p2,p3,af,ae⟩
structure Pc where
 n:Int
 s:ByteArray
def Pc.cs (x:Pc):List Value:=[.int .i64 x.n,.string x.s]
def pccs (xs:List Pc):List Value:=xs.flatMap Pc.cs
theorem Zda (x:Pc)(a:List Pc):pccs (x :: a)=x.cs ++ pccs a:=rfl
theorem Zdb (a:List Pc):(pccs a).length=a.length * 2:=by
 induction a with
 | nil=>rfl
 | cons x a ih=>rw [Zda,List.length_append,ih,List.length_cons];simp [Pc.cs];omega
theorem Zgu (a:List Pc)(i:Nat)(x:Pc)(h:a[i]? = some x)(j:Nat)(b:j < 2):(pccs a)[i * 2+j]? = x.cs[j]?:=by
 induction a generalizing i with
 | nil=>simp at h
 | cons y ys ih =>
  rw [Zda];cases i with
  | zero =>
   simp at h;subst h;rw [Nat.zero_mul,Nat.zero_add,List.getElem?_append_left (by simpa [Pc.cs] using b)]
  | succ i =>
   rw [List.getElem?_append_right (by simp [Pc.cs];omega)];rw [show (i+1) * 2+j - y.cs.length=i * 2+j by simp [Pc.cs];omega];exact ih i (by simpa using h)
theorem Zgv (a:List Pc)(i:Nat)(x b:Pc)(h:a[i]? = some x)(j:Nat)(c:j < 2)(u:Value)(e:x.cs.set j u=b.cs):(pccs a).set (i * 2+j) u=pccs (a.set i b):=by
 induction a generalizing i with
 | nil=>simp at h
 | cons y ys ih =>
  rw [Zda];cases i with
  | zero =>
   simp at h;subst h;rw [Nat.zero_mul,Nat.zero_add,List.set_append_left _ _ (by simpa [Pc.cs] using c),e];rfl
  | succ i =>
   rw [List.set_append_right _ _ (by simp [Pc.cs];omega)];rw [show (i+1) * 2+j - y.cs.length=i * 2+j by simp [Pc.cs];omega,ih i (by simpa using h)];rfl
theorem Zit (a:List Pc)(i:Nat)(x b:Pc)(h:a[i]? = some x)(u:Value)(e:x.cs.set 0 u=b.cs):(pccs a).set (i * 2) u=pccs (a.set i b) :=
 Zgv a i x b h 0 (by omega) u e
theorem Pc.one (x:Pc):∀ u ∈ x.cs,u.oneCell'=true:=by
 intro u a;simp only [Pc.cs,List.mem_cons,List.not_mem_nil,or_false] at a;rcases a with rfl | rfl <;> rfl
def PcAt (w:World)(g o:Nat)(x:Pc):Prop :=
 w.cell? ⟨g,o,none⟩=some (.int .i64 x.n)/\w.cell? ⟨g,o+1,none⟩=some (.string x.s)
theorem PcAt.below {w c:World}{g o B:Nat}{x:Pc}(h:PcAt w g o x)(a:Below B w c)(b:g < B):PcAt c g o x :=
 ⟨(a.cell (p:=⟨g,o,none⟩) b).trans h.1,(a.cell (p:=⟨g,o+1,none⟩) b).trans h.2⟩
def PcRow (w:World)(v:Value)(xs:List Pc):Prop :=
 ∃ ao cap,v=.slice ao xs.length cap/\(xs.length <= cap/\(ao=none -> cap=0))/\xs.length <= 9223372036854775807/\(∀ x ∈ xs,x.s.size <= maxLen) /\
  (xs ≠ [] -> ∃ g o,ao=some ⟨g,o,none⟩/\g < w.heap.size/\∀ i x,xs[i]? = some x -> PcAt w g (o+i * 2) x)
theorem PcRow.small {w:World}{v:Value}{c:List Pc}(R:PcRow w v c):∃ b a,v=.slice b c.length a:=by
 obtain ⟨b,a,rfl,_⟩:=R;exact ⟨b,a,rfl⟩
theorem PcRow.below {w f:World}{v:Value}{j:List Pc}(h:PcRow w v j)(d:Below w.heap.size w f):PcRow f v j:=by
 obtain ⟨k,b,rfl,l,m,n,a⟩:=h;refine ⟨k,b,rfl,l,m,n,fun c=>?_⟩;obtain ⟨g,o,rfl,e,a⟩:=a c;exact ⟨g,o,rfl,cm e d.size,fun i x hi=>(a i x hi).below d e⟩
theorem PcRow.of_own {w:World}{b:Nat}{v:Value}{a:List Pc}(h:w.ownsRow b 122 2 v a.length (pccs a))(q:a.length <= 9223372036854775807)(r:∀ x ∈ a,x.s.size <= maxLen):PcRow w v a:=by
 rcases h.2 with ⟨rfl,l⟩ | ⟨g,c,k,rfl,t,o,d,m,n,f⟩
 ·have:a=[]:=List.eq_nil_of_length_eq_zero l
  subst this;exact ⟨none,0,rfl,by simp,by simp,by simp,fun h=>absurd rfl h⟩
 ·refine ⟨_,c,rfl,⟨d,fun h=>by cases h⟩,q,r,fun _=>⟨g,0,rfl,(bl o),fun i x hi=>?_⟩⟩
  have u:i < a.length:=(List.getElem?_eq_some_iff.1 hi).1
  have e:∀ j,j < 2 -> w.cell? ⟨g,0+i * 2+j,none⟩=x.cs[j]?:=fun j p=>by
   have:=h.cellAt (i * 2+j) (by omega);rw [Nat.zero_add,this,Zgu a i x hi j p]
  exact ⟨e 0 (by omega),e 1 (by omega)⟩
theorem Zl8:(prog.info? 122).map (fun i=>(i.zero,i.size,i.bytes))=some (some (.agg #[.int .i64 0,.string ByteArray.empty]),2,24):=by kernel_rfl
theorem Zl1:(prog.info? 122).map (·.size)=some 2:=by kernel_rfl
theorem Zdm {ops:Array Oper}{f:List Oper}{op:Oper}{a:Act}{w:World}{Q:Exit -> Act -> World -> Prop}(m:op.guard=none)(x y:Operand)(t:op.op=.store 122 x y)(e g i k:Nat)(b:List Pc)(c:Pc)(v:a.eval x=.pointer (some ⟨g,i * 2,none⟩))(z:a.eval y=.agg #[.int .i64 c.n,.string c.s])(hi:i < b.length)(d:w.ownsRow e 122 2 (.slice (some ⟨g,0,none⟩) b.length k) b.length (pccs b))(h:∀ q:World,q.ownsRow e 122 2 (.slice (some ⟨g,0,none⟩) b.length k) b.length (pccs (b.set i c)) -> w.grownBy q (some g) -> wpList prog ops Q f (a.put op.dst undef) q):wpList prog ops Q (op :: f) a w:=by
 have u:w.there g (i * 2) 2:=fun j A=>by
  have:=d.cellAt (i * 2+j) (by omega);refine ⟨?_,d.frozenAt _⟩;rw [this,List.getElem?_eq_getElem (by rw [Zdb];omega)];rfl
 refine wpList_store_mid m 122 x y t g (i * 2) _ v z u Zl1 (all_oneCell_toArray c.one) ?_;have r:b[i]? = some b[i]:=List.getElem?_eq_getElem hi;have l:∀ y:Pc,(b.set i y)[i]? = some y:=fun y=>by simp [hi]
 have o:=d.stored (i * 2) (.int .i64 c.n);rw [Zit b i b[i] ⟨c.n,b[i].s⟩ r _ rfl] at o;have p:=o.1.stored (i * 2+1) (.string c.s);rw [Zgv (b.set i ⟨c.n,b[i].s⟩) i ⟨c.n,b[i].s⟩ ⟨c.n,c.s⟩ (l _) 1 (by omega) (.string c.s) rfl,List.set_set] at p;exact h _ p.1 (o.2.trans p.2)
theorem ZgD (x:Pc)(w:World) :
  Calls prog 102 #[.agg #[.int .i64 x.n,.string x.s]] w fun e a=>e=.returned (.agg #[.int .i64 x.n,.string x.s])/\Below w.heap.size w a:=by
 go_enter func102,ntmps102
 go_wp2
 exact ck (results_cell_row rfl _ _ (w.heap.size+1) 122 _ (0,0) _ rfl ((cn _ _ (by simp)).trans (cw _ _ _)) underlying122 rfl Zl1) rfl
  ⟨rfl,(((cf _ _).alloc (ce _) _).alloc (by simp) _).alloc (by simp;omega) _⟩
theorem ZgC (x:Pc)(l:Int)(w:World)(c:x.s.size <= maxLen)(f:0 <= l)(b:l <= 1048576) :
  Calls prog 90 #[.agg #[.int .i64 x.n,.string x.s],.int .i64 l] w fun e d=>e=.returned (.int .i64 (less l x.s.size))/\Below w.heap.size w d:=by
 unfold maxLen at c
 go_enter func90,ntmps90
 by_cases h:l < x.s.size
 ·have a:Hid (less l x.s.size = -1):=by unfold Hid less;rw [if_pos h]
  go_wp2;go_ret;exact ⟨by rw [a.out];rfl,(cf _ _).alloc (ce _) _⟩
 ·have a:Hid (less l x.s.size=l - x.s.size):=by unfold Hid less;rw [if_neg h]
  go_wp2;go_ret;exact ⟨by rw [a.out];rfl,(cf _ _).alloc (ce _) _⟩
theorem Zgi (x:Pc)(w:World) :
  Calls prog 115 #[.agg #[.int .i64 x.n,.string x.s],.agg #[.int .i64 x.n,.string x.s]] w fun e a=>e=.returned (.bool true)/\Below w.heap.size w a:=by
 go_enter func115,ntmps115
 go_wp2;go_ret;exact ⟨rfl,((cf _ _).alloc (ce _) _).alloc (by simp) _⟩
def Zfx:Pc:=⟨0,ByteArray.empty⟩
def ZaI (xs:List Pc)(j:Nat):List Pc:=xs.take j ++ List.replicate (xs.length - j) Zfx
theorem Zc9 (a:List Pc)(j:Nat)(h:j <= a.length):(ZaI a j).length=a.length:=by simp [ZaI];omega
theorem Zef (a:List Pc):ZaI a a.length=a:=by simp [ZaI]
theorem Zhk (n:Nat):pccs (List.replicate n Zfx)=(madeCells #[Value.int .i64 0,.string ByteArray.empty] (n * 2)).toList:=by
 apply List.ext_getElem?;intro j
 by_cases b:j < n * 2
 ·have c:j / 2 < n:=by omega
  rw [show j=j / 2 * 2+j % 2 by omega,Zgu _ (j / 2) Zfx (by simp [c]) (j % 2) (by omega)];rw [show j / 2 * 2+j % 2=j by omega];have a:j % 2=0 \/ j % 2=1:=by omega
  rcases a with a | a <;> simp [madeCells,b,a,Zfx,Pc.cs]
 ·rw [List.getElem?_eq_none (by rw [Zdb,List.length_replicate];omega),List.getElem?_eq_none (by simp [madeCells];omega)]
theorem Zeg (a:List Pc):pccs (ZaI a 0)=(madeCells #[Value.int .i64 0,.string ByteArray.empty] (a.length * 2)).toList:=by
 rw [<- Zhk];simp [ZaI]
theorem Ze7 (a:List Pc)(j:Nat)(h:j < a.length):(ZaI a j).set j a[j]=ZaI a (j+1):=by
 unfold ZaI;rw [show a.length - j=a.length - (j+1)+1 by omega,List.replicate_succ,List.take_succ_eq_append_getElem h];rw [List.set_append_right _ _ (by simp;omega)];have e:j - (List.take j a).length=0:=by simp;omega
 rw [e,List.set_cons_zero,List.append_assoc];rfl
theorem ZiZ (v:Value)(b:List Pc)(w:World)(R:PcRow w v b)(O:b.length <= 2097152) :
  Calls prog 101 #[v] w fun e E=>∃ D,e=.returned D/\E.ownsRow w.heap.size 122 2 D b.length (pccs b)/\Below w.heap.size w E:=by
 obtain ⟨N,H,rfl,B,_,P,d⟩:=R;obtain ⟨C,hi,y,z,A⟩:=info_parts Zl8;have f:C.bytes * b.length <= 281474976710656:=by rw [A];omega
 have p:b.length <= maxLen:=by unfold maxLen;omega
 go_enter func101,ntmps101
 go_wp2_with (at_make;refine wpList_make_full _ rfl _ _ 118 rfl w.heap.size 122 C _ 2 underlying118 hi y z _ _ _ _ b.length rfl rfl rfl rfl f p (ce _) ?_)
 intro K c l;have a:Below w.heap.size w K:=(cf _ _).grown l (ce _) (by intro k x;cases x);clear l;go_wp2
 go_loopw [4] (fun i wr=>∃ j:Nat,j <= b.length/\i=.int .i64 j/\wr.ownsRow w.heap.size 122 2 (.slice (some ⟨w.heap.size,0,none⟩) b.length b.length) b.length (pccs (ZaI b j))/\Below w.heap.size w wr) (fun i _=>b.length - (intOf i).toNat)
 case atStart=>exact ⟨0,by omega,rfl,by rw [Zeg];exact c,a⟩
 case round =>
  clear c a f p;obtain ⟨j,J,rfl,c,a⟩:=hrel
  by_cases r:j < b.length
  ·obtain ⟨g,o,rfl,I,d⟩:=d (by intro e;subst e;simp at r)
   obtain ⟨c0,G⟩:=(d j b[j] (by simp [r])).below a I;have F:=Zc9 b j J;clear d;go_wp2_with fail;refine (ZgD b[j] _).mono ?_;rintro e L ⟨rfl,q⟩
   have m:L.ownsRow w.heap.size 122 2 (.slice (some ⟨w.heap.size,0,none⟩) (ZaI b j).length b.length) (ZaI b j).length (pccs (ZaI b j)):=by
    rw [F];exact Zac c q
   have s:=a.trans (q.mono a.size);clear c0 G c q a
   go_wp2_with (refine Zdm rfl _ _ rfl w.heap.size w.heap.size j b.length (ZaI b j) b[j] rfl rfl (by omega) m ?_)
   intro M n t;rw [Ze7 b j r] at n;have u:Below w.heap.size w M:=s.grown t s.size (fun k x=>by simp at x;omega);clear m t;go_wp2
   go_roundw
   case rel=>exact ⟨j+1,by omega,by go_num,n,u⟩
   case measure=>simp [intOf];omega
  ·go_wp2
   go_ret;have:j=b.length:=by omega
   subst this;rw [Zef] at c;exact ⟨_,rfl,c,a⟩
theorem ZiS (v:Value)(b:List Pc)(l:Int)(w:World)(R:PcRow w v b)(I:0 <= l)(J:l <= 1048576) :
  Calls prog 89 #[v,.int .i64 l] w fun e L=>∃ r:Int,e=.returned (.int .i64 r) /\ -1 <= r/\r <= 1048576/\(0 <= r -> b.length <= 1048576/\∀ x ∈ b,x.s.size <= 1048576)/\Below w.heap.size w L:=by
 obtain ⟨M,G,rfl,A,O,K,a⟩:=R
 by_cases D:(b.length:Int) <= l
 ·go_enter func89,ntmps89
  go_wp2
  go_loopw [1,5] (fun l i wr=>∃ (k:Nat) (r:Int),k <= b.length/\i=.int .i64 k/\l=.int .i64 r/\0 <= r/\r <= 1048576/\Hid (∀ j x,b[j]? = some x -> j < k -> x.s.size <= 1048576)/\Below w.heap.size w wr) (fun _ i _=>b.length - (intOf i).toNat)
  case atStart=>exact ⟨0,_,by omega,rfl,rfl,by omega,by omega,fun j x _ h=>by omega,cf _ _⟩
  case round =>
   obtain ⟨k,r,N,rfl,rfl,p,q,z,n⟩:=hrel
   by_cases m:k < b.length
   ·obtain ⟨g,o,rfl,H,a⟩:=a (by intro e;subst e;simp at m)
    obtain ⟨x,c⟩:∃ x,b[k]? = some x:=⟨b[k],by simp [m]⟩;obtain ⟨c0,F⟩:=(a k x c).below n H;have t:=K x (List.mem_of_getElem? c);have E:Hid (b[k]? = some x):=c;clear a c;go_wp2_with fail;refine (ZgC x _ _ t p q).mono ?_;rintro e P ⟨rfl,f⟩;have d:=n.trans (f.mono n.size);clear c0 F f
    by_cases C:r < x.s.size
    ·rw [less,if_pos C]
     go_wp2;go_ret;exact ⟨-1,rfl,by omega,by omega,fun h=>by omega,d⟩
    ·rw [less,if_neg C]
     go_wp2
     go_roundw
     case rel =>
      refine ⟨k+1,_,by omega,by go_num,rfl,by omega,by omega,fun j y u B=>?_,d⟩
      by_cases e:j=k
      ·subst e
       rw [E.out] at u;cases u;omega
      ·exact z.out j y u (by omega)
     case measure=>simp [intOf];omega
   ·go_wp2
    go_ret;refine ⟨r,rfl,by omega,by omega,fun _=>⟨by omega,fun x c=>?_⟩,n⟩;obtain ⟨j,B,e⟩:=List.getElem_of_mem c;exact z.out j x (by rw [<- e];simp [B]) (by omega)
 ·go_enter func89,ntmps89
  go_wp2;go_ret;exact ⟨-1,rfl,by omega,by omega,fun h=>by omega,cf _ _⟩
theorem ZhZ (o vb:Value)(c:List Pc)(w:World)(p:PcRow w o c)(q:PcRow w vb c) :
  Calls prog 114 #[o,vb] w fun e y=>e=.returned (.bool true)/\Below w.heap.size w y:=by
 obtain ⟨A,C,rfl,u,H,J,a⟩:=p;obtain ⟨B,D,rfl,v,_,_,b⟩:=q;have I:((c.length:Int) != (c.length:Int))=false:=by simp
 go_enter func114,ntmps114
 go_wp2
 go_loopw [5] (fun i wr=>∃ k:Nat,k <= c.length/\i=.int .i64 k/\Below w.heap.size w wr) (fun i _=>c.length - (intOf i).toNat)
 case atStart=>exact ⟨0,by omega,rfl,cf _ _⟩
 case round =>
  obtain ⟨k,G,rfl,f⟩:=hrel
  by_cases d:k < c.length
  ·obtain ⟨E,K,rfl,l,a⟩:=a (by intro e;subst e;simp at d)
   obtain ⟨F,L,rfl,m,b⟩:=b (by intro e;subst e;simp at d);obtain ⟨x,n⟩:∃ x,c[k]? = some x:=⟨c[k],by simp [d]⟩;obtain ⟨c0,r⟩:=(a k x n).below f l;obtain ⟨s,t⟩:=(b k x n).below f m;clear a b n;go_wp2_with fail
   go_region_with (go_at_call 115;refine (Zgi x _).mono ?_;rintro e z ⟨rfl,g⟩)
   all_goals
    have j:Below w.heap.size w z:=f.drew.trans (g.mono f.size);clear c0 r s t g;go_wp2
    go_roundw
    case rel=>exact ⟨k+1,by omega,by go_num,j⟩
    case measure=>simp [intOf];omega
  ·go_wp2
   go_ret;exact ⟨rfl,f⟩
end Go.Proofs.YtanhoamdlhaaeaaGreatDoor
