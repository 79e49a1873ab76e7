/-
  Texts that stood by themselves, laid into one.
-/
import Derived.Test.YtkpfangkfknhoaaGreatDoorMark2M
import Derived.Test.YtkpfangkfknhoaaGreatDoorLMakeM
import Derived.Test.YtkpfangkfknhoaaGreatDoorPcMarkM
import Derived.Test.YtkpfangkfknhoaaGreatDoorMRgM
import Derived.Test.YtkpfangkfknhoaaGreatDoorSPd2M
import Derived.Test.YtkpfangkfknhoaaGreatDoorSMRdM
import Derived.Test.YtkpfangkfknhoaaGreatDoorXRM
import Derived.Test.YtkpfangkfknhoaaGreatDoorInM
import Derived.Test.YtkpfangkfknhoaaGreatDoorS12tM
import Derived.Test.YtkpfangkfknhoaaGreatDoorIMlRgM
/-
  A machine's variable (VarM), and the contracts of the laws' helpers markMachine and heldMachine. No condition.
-/
set_option maxRecDepth 100000
set_option maxHeartbeats 12800000
namespace Go.Proofs.YtkpfangkfknhoaaGreatDoor
open Go.Proofs.Tryz
open Go.RowKit
def VarM (w:World)(b lo hi:Nat)(v:Value)(xs:List Nd)(m:Mc):Prop :=
 w.heap[b]? = some (.cells #[v,.int .i64 m.p,.int .i64 m.s,.int .i64 m.e,.int .i64 m.d,.int .i64 m.t,.int .i64 m.q,.int .i64 m.r] 99 (0,0))/\w.ownsRow lo 194 5 v xs.length (ncs xs)/\(∀ k,v.ownBlock=some k -> k < hi)/\hi <= w.heap.size
theorem VarM.below {w c:World}{b lo hi:Nat}{v:Value}{d:List Nd}{m:Mc}(h:VarM w b lo hi v d m)(a:Below w.heap.size w c):VarM c b lo hi v d m :=
 ⟨(a.block b (Array.getElem?_eq_some_iff.1 h.1).1).trans h.1,Zad h.2.1 a,h.2.2.1,Nat.le_trans h.2.2.2 a.size⟩
theorem VarM.row {w:World}{b lo hi:Nat}{v:Value}{a:List Nd}{m:Mc}(h:VarM w b lo hi v a m)(d:a.length <= 4194304)(c:∀ x ∈ a,x.s.size <= maxLen):NRow w v a:=NRow.of_own h.2.1 (by omega) c
theorem VarM.lt {w:World}{b lo hi:Nat}{v:Value}{a:List Nd}{m:Mc}(h:VarM w b lo hi v a m):b < w.heap.size:=(Array.getElem?_eq_some_iff.1 h.1).1
theorem VarM.kept {w l:World}{b lo hi c a q:Nat}{v j:Value}{o g:List Nd}{m p:Mc}(h:VarM w b lo hi v o m)(i:VarM w q c a j g p)(d:w.grownBy l j.ownBlock)(u:hi <= c \/ a <= lo):VarM l b lo hi v o m:=by
 have f:j.ownBlock ≠ some b:=ZaI i.2.1 h.1 (by decide);refine ⟨(d.block b h.lt (fun e=>f e.symm)).trans h.1,h.2.1.kept d ?_,h.2.2.1,Nat.le_trans h.2.2.2 d.size⟩;cases n:v.ownBlock with
 | none=>exact Or.inl rfl
 | some k =>
  refine Or.inr fun e=>?_
  have t:=h.2.2.1 k n;have k2:=(h.2.1.lt k n).1;have s:=i.2.2.1 k e.symm;have r:=(i.2.1.lt k e.symm).1;omega
theorem VarM.marked {w a:World}{b lo hi:Nat}{v:Value}{f ys:List Nd}{m:Mc}(h:VarM w b lo hi v f m)(c:w.grownBy a v.ownBlock)(d:a.ownsRow lo 194 5 v ys.length (ncs ys)):VarM a b lo hi v ys m :=
 ⟨(c.block b h.lt (fun e=>ZaI h.2.1 h.1 (by decide) e.symm)).trans h.1,d,h.2.2.1,Nat.le_trans h.2.2.2 c.size⟩
theorem VarM.block {w f:World}{b lo hi:Nat}{v:Value}{g:List Nd}{m:Mc}(h:VarM w b lo hi v g m)(i:w.grownBy f v.ownBlock){j:Nat}{c:Array Value}{t:TypeId}(a:w.heap[j]? = some (.cells c t (0,0)))(d:t ≠ 194):f.heap[j]? = some (.cells c t (0,0)) :=
 (i.block j (bl a) (fun e=>ZaI h.2.1 a d e.symm)).trans a
structure VarPr (w:World)(b lo hi:Nat)(v vb vo:Value)(i:Int)(xs:List Nd)(m:Mc)(bx ox:List ByteArray):Prop where
 blk:w.heap[b]? = some (.cells #[.int .i64 i,v,.int .i64 m.p,.int .i64 m.s,.int .i64 m.e,.int .i64 m.d,.int .i64 m.t,.int .i64 m.q,.int .i64 m.r,vb,vo] 101 (0,0))
 o1:w.ownsRow lo 194 5 v xs.length (ncs xs)
 o2:w.ownsRow lo 9 1 vb bx.length (stv bx)
 o3:w.ownsRow lo 9 1 vo ox.length (stv ox)
 t1:∀ k,v.ownBlock=some k -> k < hi
 t2:∀ k,vb.ownBlock=some k -> k < hi
 t3:∀ k,vo.ownBlock=some k -> k < hi
 ap:∀ g,vo.ownBlock=some g -> vb.ownBlock ≠ some g
 top:hi <= w.heap.size
theorem VarPr.of {w:World}{b lo:Nat}{v vb c:Value}{i:Int}{j:List Nd}{m:Mc}{h f:List ByteArray}(x:w.heap[b]? = some (.cells #[.int .i64 i,v,.int .i64 m.p,.int .i64 m.s,.int .i64 m.e,.int .i64 m.d,.int .i64 m.t,.int .i64 m.q,.int .i64 m.r,vb,c] 101 (0,0)))(n:w.ownsRow lo 194 5 v j.length (ncs j))(l:w.ownsRow lo 9 1 vb h.length (stv h))(o:w.ownsRow lo 9 1 c f.length (stv f))(u:∀ g,c.ownBlock=some g -> vb.ownBlock ≠ some g):VarPr w b lo w.heap.size v vb c i j m h f :=
 ⟨x,n,l,o,fun k a=>(n.lt k a).2,fun k a=>(l.lt k a).2,fun k a=>(o.lt k a).2,u,ce _⟩
section
variable {w w':World} {b lo hi:Nat} {v vb vo:Value} {i:Int} {xs:List Nd} {m:Mc} {bx ox:List ByteArray}
theorem VarPr.below (h:VarPr w b lo hi v vb vo i xs m bx ox)(a:Below w.heap.size w w'):VarPr w' b lo hi v vb vo i xs m bx ox :=
 ⟨Zaa h.blk a,Zad h.o1 a,Zad h.o2 a,Zad h.o3 a,h.t1,h.t2,h.t3,h.ap,Nat.le_trans h.top a.size⟩
theorem VarPr.lt (h:VarPr w b lo hi v vb vo i xs m bx ox):b < w.heap.size:=Zao h.blk
theorem VarPr.row (h:VarPr w b lo hi v vb vo i xs m bx ox)(c:xs.length <= 4194304)(a:∀ x ∈ xs,x.s.size <= maxLen):NRow w v xs:=NRow.of_own h.o1 (by omega) a
theorem VarPr.frame {f g l:World}{B:Nat}(n:Below B f w)(h:VarPr w b lo hi v vb vo i xs m bx ox)(e:w.grownBy g v.ownBlock)(j:g.grownBy l vb.ownBlock)(o:l.grownBy w' vo.ownBlock)(a:B <= lo)(d:B <= w.heap.size):Below B f w' :=
 ((n.grown e d (fun k c=>Nat.le_trans a (h.o1.lt k c).1)).grown j (Nat.le_trans d e.size) (fun k c=>Nat.le_trans a (h.o2.lt k c).1)).grown o (Nat.le_trans d (Nat.le_trans e.size j.size)) (fun k c=>Nat.le_trans a (h.o3.lt k c).1)
end
def PdS (B:Nat)(T:Int × List Nd × Mc × List ByteArray × List ByteArray × Bool)(e:Ending)(w':World):Prop :=
 ∃ (I:Int) (X:List Nd) (M:Mc) (BX OX:List ByteArray) (ok:Bool) (y1 y2 y3:Value),T=(I,X,M,BX,OX,ok)/\e=.returned (.tuple #[.agg #[.int .i64 I,y1,.int .i64 M.p,.int .i64 M.s,.int .i64 M.e,.int .i64 M.d,.int .i64 M.t,.int .i64 M.q,.int .i64 M.r,y2,y3],.bool ok])/\w'.ownsRow B 194 5 y1 X.length (ncs X)/\w'.ownsRow B 9 1 y2 BX.length (stv BX)/\w'.ownsRow B 9 1 y3 OX.length (stv OX)
theorem Zju {zs:List Int}{a c:Int}{k b:Bool}{ts:List ByteArray}(h:tsL zs (num8 zs a k).1.toNat [] (num8 zs a k).2.1 (num8 zs a k).2.2=(ts,c,b)):(b=true -> k=true/\rdTL zs a=some (ts,c))/\(b=false -> k=true -> rdTL zs a=none):=by
 cases k with
 | false =>
  rw [Zby] at h;simp only [ZcU,Prod.mk.injEq] at h;obtain ⟨_,_,rfl⟩:=h;exact ⟨fun h=>(by cases h),fun _ h=>(by cases h)⟩
 | true =>
  unfold rdTL;cases e:rd1 zs a with
  | none =>
   rw [ZaF e] at h;simp only [ZcU,Prod.mk.injEq] at h;obtain ⟨_,_,rfl⟩:=h;exact ⟨fun h=>(by cases h),fun _ _=>rfl⟩
  | some p =>
   rw [(ZaL zs a).2 p e] at h;simp only at h;obtain ⟨f,g⟩:=ZlU zs p.1.toNat [] p.2;simp only [Option.bind_some];cases d:rdTs zs p.1.toNat p.2 with
   | none =>
    have:=g d;rw [h] at this;simp only at this;subst this;exact ⟨fun h=>(by cases h),fun _ _=>rfl⟩
   | some q =>
    rw [f q d] at h;simp only [List.nil_append,Prod.mk.injEq] at h;obtain ⟨rfl,rfl,rfl⟩:=h;exact ⟨fun _=>⟨trivial,rfl⟩,fun h=>(by cases h)⟩
theorem Zmb {ns:List Nd}{is:List In}{ds:List Df}{zs:List Int}{i u j k y:Int}{o k2 d c:Bool}{v:ByteArray}{ts os:List ByteArray}(f:num8 zs 0 true=(i,u,o))(b:txt8 zs u o=(v,j,k2))(m:tsL zs (num8 zs j k2).1.toNat [] (num8 zs j k2).2.1 (num8 zs j k2).2.2=(ts,k,d))(C:tsL zs (num8 zs k d).1.toNat [] (num8 zs k d).2.1 (num8 zs k d).2.2=(os,y,c)) :
  (pdR ns is ds zs=if c && decide (y=zs.length) then (mrR ns is ds (sb v)).bind fun r=>if Zbr ns is ds i r.1 r.2 ts os then some (i,r,ts,os) else none else none)/\(c=true -> (∀ x ∈ ts,x.size <= zs.length)/\∀ x ∈ os,x.size <= zs.length):=by
 obtain ⟨l,A⟩:=Zju m;obtain ⟨g,B⟩:=Zju C
 have e:∀ {a:Int} {q:List ByteArray × Int},rdTL zs a=some q -> ∀ x ∈ q.1,x.size <= zs.length:=fun h=>by
  unfold rdTL at h;rw [Option.bind_eq_some_iff] at h;obtain ⟨p,b,m⟩:=h;exact (ZeN (Zbc b).2.2.2 m).2
 unfold pdR;cases s:rd1 zs 0 with
 | none =>
  rw [ZaF s] at f;simp only [Prod.mk.injEq] at f;obtain ⟨_,_,rfl⟩:=f;have:k2=false:=by unfold txt8 at b;simp at b;exact b.2.2
  subst this;have:d=false:=by cases d with | false=>rfl | true=>exact absurd (l rfl).1 (by simp)
  subst this;have:c=false:=by cases c with | false=>rfl | true=>exact absurd (g rfl).1 (by simp)
  subst this;exact ⟨rfl,fun h=>(by cases h)⟩
 | some p =>
  rw [(ZaL zs 0).2 p s] at f;simp only [Prod.mk.injEq] at f;obtain ⟨rfl,rfl,rfl⟩:=f;simp only [Option.bind_some];rw [Zg5] at b;cases n:rt zs p.2 with
  | none =>
   rw [n] at b;simp only [Prod.mk.injEq] at b;obtain ⟨_,_,rfl⟩:=b;have:d=false:=by cases d with | false=>rfl | true=>exact absurd (l rfl).1 (by simp)
   subst this;have:c=false:=by cases c with | false=>rfl | true=>exact absurd (g rfl).1 (by simp)
   subst this;exact ⟨rfl,fun h=>(by cases h)⟩
  | some t =>
   rw [n] at b;simp only [Prod.mk.injEq] at b;obtain ⟨rfl,rfl,rfl⟩:=b;simp only [Option.bind_some];cases d with
   | false =>
    rw [A rfl rfl];have:c=false:=by cases c with | false=>rfl | true=>exact absurd (g rfl).1 (by simp)
    subst this;exact ⟨rfl,fun h=>(by cases h)⟩
   | true =>
    have w:=(l rfl).2;rw [w];simp only [Option.bind_some];cases c with
    | false =>
     rw [B rfl rfl];exact ⟨rfl,fun h=>(by cases h)⟩
    | true =>
     have z:=(g rfl).2;rw [z];simp only [Option.bind_some,Bool.true_and,decide_eq_true_eq];exact ⟨trivial,fun _=>⟨e w,e z⟩⟩
theorem Ze1 {w c:World}{b:Nat}{v:Value}{a:Int}{k:Bool}(h:C8 w b v a k)(d:Below w.heap.size w c):C8 c b v a k:=Zaa h d
theorem Zjc {w c:World}{b g:Nat}{v:Value}{a:Int}{k:Bool}(h:C8 w b v a k)(e:∀ j,j ≠ g -> c.heap[j]? = w.heap[j]?)(d:b ≠ g):C8 c b v a k:=(e b d).trans h
theorem Ze2 (v1 v2 v3:Value)(ns:List Nd)(is:List In)(ds:List Df)(s:ByteArray)(w:World)(R1:NRow w v1 ns)(R2:InRow w v2 is)(R3:DfRow w v3 ds)(hs:s.size <= 1048576) :
  Calls prog 81 #[.agg #[v1,v2,v3],.string s] w fun e w'=>PaAns w.heap.size (pdT (pdR ns is ds (sb s))) e w'/\Below w.heap.size w w':=by
 obtain ⟨a1,c1,rfl⟩:=R1.small;obtain ⟨a2,c2,rfl⟩:=R2.small;obtain ⟨a3,c3,rfl⟩:=R3.small;have aM:=ZaJ s;have af:=Zh3 s;obtain ⟨Z,z0,z1⟩:=Zax w (Obj.cells #[.slice a1 ns.length c1,.slice a2 is.length c2,.slice a3 ds.length c3] 44) (Obj.cells #[.int .i64 0,.slice none 0 0,.int .i64 0,.int .i64 0,.int .i64 0,.int .i64 0,.int .i64 0,.int .i64 0,.int .i64 0,.slice none 0 0,.slice none 0 0] 101)
 go_enter func81,ntmps81
 go_wp2_with (first
  | (refine Zbg _ rfl _ 9 186 5 rfl underlying9 underlying186 underlying5 s rfl ?_;intro O F g0 g1 g2 g3))
 obtain ⟨W2,ai⟩:∃ W2,(w.alloc (Obj.cells #[.slice a1 ns.length c1,.slice a2 is.length c2,.slice a3 ds.length c3] 44)).alloc (Obj.cells #[.int .i64 0,.slice none 0 0,.int .i64 0,.int .i64 0,.int .i64 0,.int .i64 0,.int .i64 0,.int .i64 0,.int .i64 0,.slice none 0 0,.slice none 0 0] 101)=W2:=⟨_,rfl⟩;have U:W2.heap.size=w.heap.size+1+1:=by rw [<- ai];simp
 rw [ai] at Z z0 z1 g1 g2 g3;have RR:=Zbn (w:=W2) (by omega) g0 g1 g3;rw [U] at RR g3;have v:=(g2.block _ (by omega) (by simp)).trans z0;have j:=(g2.block _ (by omega) (by simp)).trans z1;have c:Below w.heap.size w F:=Z.grown g2 Z.size (fun k G=>by cases G);clear U g1 g2 ai Z z0 z1 g3 g0;have f:=Zap F (Obj.cells #[.slice (some ⟨w.heap.size+1+1,0,none⟩) s.size O,.int .i64 0,.bool true] 188);have y:C8 (F.alloc (Obj.cells #[.slice (some ⟨w.heap.size+1+1,0,none⟩) s.size O,.int .i64 0,.bool true] 188)) F.heap.size (.slice (some ⟨w.heap.size+1+1,0,none⟩) s.size O) 0 true:=co _ _;have l:Below F.heap.size F (F.alloc (Obj.cells #[.slice (some ⟨w.heap.size+1+1,0,none⟩) s.size O,.int .i64 0,.bool true] 188)):=f;have l2:w.heap.size+1 < F.heap.size:=Zao j;replace v:=Zaa v f;replace j:=Zaa j f;replace c:=c.trans (f.mono c.size);clear f
 obtain ⟨u0,ap⟩:∃ u,F.alloc (Obj.cells #[.slice (some ⟨w.heap.size+1+1,0,none⟩) s.size O,.int .i64 0,.bool true] 188)=u:=⟨_,rfl⟩;rw [ap] at y l v j c ⊢;clear ap;obtain ⟨V,hV⟩:∃ V,V=(Value.slice (some ⟨w.heap.size+1+1,0,none⟩) s.size O):=⟨_,rfl⟩;rw [<- hV] at y RR;have K:=Zb9 F.heap.size V (sb s) 0 true u0 (RR.below l) y (by omega) (by omega);have ad:=ZeE (zs:=sb s) (a:=0) (ok:=true) (by omega) (by omega);obtain ⟨nn,N1⟩:∃ n,num8 (sb s) 0 true=n:=⟨_,rfl⟩;obtain ⟨i,p1,k1⟩:=nn;rw [N1] at K ad;simp only at K ad;obtain ⟨_,_,aw,av⟩:=ad;replace N1:Hid (num8 (sb s) 0 true=(i,p1,k1)):=N1;refine K.mono ?_;rintro e u1 ⟨rfl,y,g⟩;replace v:=(g.block _ (Zao v) (by simp;omega)).trans v;replace j:=(g.block _ (Zao j) (by simp;omega)).trans j;replace c:=c.grown g c.size (fun k G=>by cases G;omega)
 replace l:=l.grown g l.size (fun k G=>by cases G;omega);clear K g
 go_wp2_with (refine Zae rfl 101 _ _ rfl u1.heap.size #[.int .i64 i,.slice none 0 0,.int .i64 0,.int .i64 0,.int .i64 0,.int .i64 0,.int .i64 0,.int .i64 0,.int .i64 0,.slice none 0 0,.slice none 0 0] rfl rfl 101 #[.int .i64 0,.slice none 0 0,.int .i64 0,.int .i64 0,.int .i64 0,.int .i64 0,.int .i64 0,.int .i64 0,.int .i64 0,.slice none 0 0,.slice none 0 0] (co _ _) Zny rfl (by simp [Value.oneCell']) ?_)
 intro u2 b ar U aH;have f:Below u1.heap.size u1 u2:=((cj _ _).alloc (ce _) _).trans ar;have lC:F.heap.size < u1.heap.size:=(bl y);replace v:=Zaa v f;replace j:=Zaa j f;replace c:=c.trans (f.mono c.size);replace l:=l.trans (f.mono l.size);replace y:=Ze1 y f;clear f ar U aH;generalize u1.heap.size=D at *;have HT:=ZcX F.heap.size V (sb s) p1 k1 u2 (RR.below l) y (by omega) (by omega)
 have aq:∀ A S k2,txt8 (sb s) p1 k1=(A,S,k2) -> 0 <= S/\S <= (sb s).length/\A.size <= (sb s).length:=fun A S k2 h=>by
  cases k1 with
  | false =>
   simp only [txt8,Bool.false_and,Bool.false_eq_true,if_false,Prod.mk.injEq] at h;obtain ⟨rfl,rfl,_⟩:=h;exact ⟨aw,av,by simp [ByteArray.size]⟩
  | true =>
   have:=Zeq (zs:=sb s) af aw av;rw [h] at this;exact ⟨this.1,this.2.1,this.2.2.2⟩
 obtain ⟨tt,N2⟩:∃ n,txt8 (sb s) p1 k1=n:=⟨_,rfl⟩;obtain ⟨A,S,k2⟩:=tt;obtain ⟨aK,aE,aN⟩:=aq A S k2 N2;rw [N2] at HT;simp only at HT;replace N2:Hid (txt8 (sb s) p1 k1=(A,S,k2)):=N2;clear aq;go_wp2_with fail;refine HT.mono ?_;rintro e u3 ⟨rfl,y,g⟩;replace v:=(g.block _ (Zao v) (by simp;omega)).trans v;replace j:=(g.block _ (Zao j) (by simp;omega)).trans j;replace c:=c.grown g c.size (fun k G=>by cases G;omega);replace l:=l.grown g l.size (fun k G=>by cases G;omega);replace b:=(g.block _ (Zao b) (by simp;omega)).trans b;clear HT g;go_wp2_with fail;refine (ZeG F.heap.size V (sb s) S k2 F u3 RR l (ce _) y aK aE af (by omega)).mono ?_;rintro e u4 ⟨vb,ts,p3,k3,N3,rfl,⟨aG,aJ,aR⟩,y,z,g⟩;obtain ⟨P,Q,rfl⟩:=Zag z;have T:∀ g,(Value.slice P ts.length Q).ownBlock=some g -> g < u4.heap.size:=fun g hg=>(z.lt g hg).2
 replace N3:Hid (tsL (sb s) (num8 (sb s) S k2).1.toNat [] (num8 (sb s) S k2).2.1 (num8 (sb s) S k2).2.2=(ts,p3,k3)):=N3;replace z:=Zah (B':=D+1) z (by have:=Zao b;omega);replace v:=(g.block _ (Zao v) (by simp;omega)).trans v;replace j:=(g.block _ (Zao j) (by simp;omega)).trans j;replace c:=c.grown g c.size (fun k G=>by cases G;omega);replace l:=l.grown g l.size (fun k G=>by cases G;omega);replace b:=(g.block _ (Zao b) (by simp;omega)).trans b;clear g
 go_wp2_with (refine Zab rfl 80 _ _ rfl D 9 (.slice P ts.length Q) #[.slice P ts.length Q] rfl rfl rfl rfl 101 #[.int .i64 i,.slice none 0 0,.int .i64 0,.int .i64 0,.int .i64 0,.int .i64 0,.int .i64 0,.int .i64 0,.int .i64 0,.slice none 0 0,.slice none 0 0] #[.int .i64 i,.slice none 0 0,.int .i64 0,.int .i64 0,.int .i64 0,.int .i64 0,.int .i64 0,.int .i64 0,.int .i64 0,.slice P ts.length Q,.slice none 0 0] b (by simp) (by kernel_rfl) rfl ?_)
 intro u5 al ae an R;replace v:=(R _ (by omega)).trans v;replace j:=(R _ (by omega)).trans j;replace y:=Zjc y R (by omega);replace z:=ZaH z (ZaI z b (by decide)) R;replace c:=c.trans (ae.mono (by omega));replace l:=l.trans (ae.mono (by omega));replace b:=al;rw [<- an] at T;clear al ae an R;go_wp2_with fail;refine (ZeG F.heap.size V (sb s) p3 k3 F u5 RR l (ce _) y aG aJ af (by omega)).mono ?_;rintro e u6 ⟨vo,os,p4,k4,N4,rfl,⟨aO,aT,aS⟩,y,B,g⟩;obtain ⟨Y,W,rfl⟩:=Zag B
 have AP:∀ g,(Value.slice Y os.length W).ownBlock=some g -> (Value.slice P ts.length Q).ownBlock ≠ some g:=fun g h3 h2=>by
  have k1:=(B.lt g h3).1;have k2:=T g h2;omega
 clear T;replace N4:Hid (tsL (sb s) (num8 (sb s) p3 k3).1.toNat [] (num8 (sb s) p3 k3).2.1 (num8 (sb s) p3 k3).2.2=(os,p4,k4)):=N4;replace B:=Zah (B':=D+1) B (by have:=Zao b;omega);replace v:=(g.block _ (Zao v) (by simp;omega)).trans v;replace j:=(g.block _ (Zao j) (by simp;omega)).trans j;replace c:=c.grown g c.size (fun k G=>by cases G;omega);replace l:=l.grown g l.size (fun k G=>by cases G;omega);replace b:=(g.block _ (Zao b) (by simp;omega)).trans b;replace z:=Zch z (by omega) g;clear g
 go_wp2_with (refine Zab rfl 80 _ _ rfl D 10 (.slice Y os.length W) #[.slice Y os.length W] rfl rfl rfl rfl 101 #[.int .i64 i,.slice none 0 0,.int .i64 0,.int .i64 0,.int .i64 0,.int .i64 0,.int .i64 0,.int .i64 0,.int .i64 0,.slice P ts.length Q,.slice none 0 0] #[.int .i64 i,.slice none 0 0,.int .i64 0,.int .i64 0,.int .i64 0,.int .i64 0,.int .i64 0,.int .i64 0,.int .i64 0,.slice P ts.length Q,.slice Y os.length W] b (by simp) (by kernel_rfl) rfl ?_)
 intro u7 ak ah az N;replace v:=(N _ (by omega)).trans v;replace j:=(N _ (by omega)).trans j;replace y:=Zjc y N (by omega);replace z:=ZaH z (ZaI z b (by decide)) N;replace B:=ZaH B (ZaI B b (by decide)) N;replace c:=c.trans (ah.mono (by omega));replace l:=l.trans (ah.mono (by omega));replace b:=ak;clear ak ah az N;obtain ⟨D1,D2⟩:=Zmb (ns:=ns) (is:=is) (ds:=ds) N1.out N2.out N3.out N4.out;replace D1:Hid (pdR ns is ds (sb s)=if k4 && decide (p4=(sb s).length) then (mrR ns is ds (sb A)).bind fun r=>if Zbr ns is ds i r.1 r.2 ts os then some (i,r,ts,os) else none else none):=D1;clear N1 N2 N3 N4;have HM:=Ziq _ _ _ ns is ds A u7 (R1.below c) (R2.below c) (R3.below c) (by omega);unfold MrAns at HM
 have HX:(mrL (mrR ns is ds (sb A))).length <= 3000/\∀ x ∈ mrL (mrR ns is ds (sb A)),x.s.size <= maxLen:=by
  cases hm:mrR ns is ds (sb A) with
  | none=>exact ⟨by simp [mrL],by simp [mrL]⟩
  | some r =>
   obtain ⟨xs,m⟩:=r;have b:=ZjR hm;exact ⟨ZaK b,ZbK (ZbO b)⟩
 have D3:(mrR ns is ds (sb A)).isSome=true -> mrR ns is ds (sb A)=some (mrL (mrR ns is ds (sb A)),mrM (mrR ns is ds (sb A))):=fun h=>by
  cases hm:mrR ns is ds (sb A) with
  | none=>rw [hm] at h;cases h
  | some r=>rfl
 have D4:(mrR ns is ds (sb A)).isSome=false -> mrR ns is ds (sb A)=none:=fun h=>by
  cases hm:mrR ns is ds (sb A) with
  | none=>rfl
  | some r=>rw [hm] at h;cases h
 generalize mrL (mrR ns is ds (sb A))=X at *;generalize mrM (mrR ns is ds (sb A))=M at *;generalize (mrR ns is ds (sb A)).isSome=mk at *
 go_wp2_with (refine cE rfl 44 _ rfl w.heap.size rfl 44 #[.slice a1 ns.length c1,.slice a2 is.length c2,.slice a3 ds.length c3] (0,0) _ v underlying44 rfl Znw ?_)
 refine HM.mono ?_;rintro e u8 ⟨⟨vm,rfl,J⟩,f⟩;obtain ⟨am,cm,rfl⟩:=Zag J;replace J:=Zah (B':=D+1) J (by have:=Zao b;omega);replace v:=Zaa v f;replace j:=Zaa j f;replace c:=c.trans (f.mono c.size);replace l:=l.trans (f.mono l.size);replace y:=Ze1 y f;replace b:=Zaa b f;replace z:=Zad z f;replace B:=Zad B f;clear f HM
 go_wp2_with (refine Zae rfl 99 _ _ rfl u8.heap.size #[.slice am X.length cm,.int .i64 M.p,.int .i64 M.s,.int .i64 M.e,.int .i64 M.d,.int .i64 M.t,.int .i64 M.q,.int .i64 M.r] rfl rfl 99 #[.slice none 0 0,.int .i64 0,.int .i64 0,.int .i64 0,.int .i64 0,.int .i64 0,.int .i64 0,.int .i64 0] (co _ _) Znz rfl (by simp [Value.oneCell']) ?_)
 intro u9 ao au aF aC;have f:Below u8.heap.size u8 u9:=((cj _ _).alloc (ce _) _).trans au;have aP:D < u8.heap.size:=Zao b;replace v:=Zaa v f;replace j:=Zaa j f;replace c:=c.trans (f.mono c.size);replace l:=l.trans (f.mono l.size);replace y:=Ze1 y f;replace b:=Zaa b f;replace J:=Zad J f;replace z:=Zad z f;replace B:=Zad B f;clear f au aF aC;generalize u8.heap.size=bq at *
 go_wp2_with (first
  | (refine cE rfl 99 _ rfl bq rfl 99 #[.slice am X.length cm,.int .i64 M.p,.int .i64 M.s,.int .i64 M.e,.int .i64 M.d,.int .i64 M.t,.int .i64 M.q,.int .i64 M.r] (0,0) _ ao underlying99 rfl Znz ?_)
  | (refine ZaM rfl 99 _ _ rfl D 1 #[.slice am X.length cm,.int .i64 M.p,.int .i64 M.s,.int .i64 M.e,.int .i64 M.d,.int .i64 M.t,.int .i64 M.q,.int .i64 M.r] rfl rfl 101 #[.int .i64 i,.slice none 0 0,.int .i64 0,.int .i64 0,.int .i64 0,.int .i64 0,.int .i64 0,.int .i64 0,.int .i64 0,.slice P ts.length Q,.slice Y os.length W] #[.int .i64 i,.slice am X.length cm,.int .i64 M.p,.int .i64 M.s,.int .i64 M.e,.int .i64 M.d,.int .i64 M.t,.int .i64 M.q,.int .i64 M.r,.slice P ts.length Q,.slice Y os.length W] b (by simp) Znz (by simp [Value.oneCell']) rfl ?_))
 intro o aj ag aA I;replace v:=(I _ (by omega)).trans v;replace j:=(I _ (by omega)).trans j;replace y:=Zjc y I (by omega);replace J:=ZaH J (ZaI J b (by decide)) I;replace z:=ZaH z (ZaI z b (by decide)) I;replace B:=ZaH B (ZaI B b (by decide)) I;replace c:=c.trans (ag.mono (by omega));replace l:=l.trans (ag.mono (by omega));replace b:=aj;clear aj ag aA I ao;have lx:=Zao j;have aD:o.cell? ⟨F.heap.size,0+1,none⟩=some (.int .i64 p4):=cd _ _ 1 _ _ _ y;have ax:o.cell? ⟨F.heap.size,0+2,none⟩=some (.bool k4):=cd _ _ 2 _ _ _ y;cases k4 with
 | false =>
  have K:Hid (pdR ns is ds (sb s)=none):=D1.out;clear D1 D2 D3 D4
  go_wp2_with (refine Zae rfl 101 _ _ rfl (w.heap.size+1) #[.int .i64 0,.slice none 0 0,.int .i64 0,.int .i64 0,.int .i64 0,.int .i64 0,.int .i64 0,.int .i64 0,.int .i64 0,.slice none 0 0,.slice none 0 0] rfl rfl 101 #[.int .i64 0,.slice none 0 0,.int .i64 0,.int .i64 0,.int .i64 0,.int .i64 0,.int .i64 0,.int .i64 0,.int .i64 0,.slice none 0 0,.slice none 0 0] j Zny rfl (by simp [Value.oneCell']) ?_)
  intro wB E C aa H;go_wp2;refine cx (Zac rfl _ _ (w.heap.size+1) 101 _ (0,0) _ rfl E underlying101 rfl Zny) rfl ⟨PaAns.zero2 K.out,c.trans (C.mono (by omega))⟩
 | true =>
  obtain ⟨zt,zo⟩:=D2 rfl
  by_cases L:p4=(s.size:Int)
  rotate_left
  ·have K:Hid (pdR ns is ds (sb s)=none):=by
    unfold Hid;rw [D1.out];have:decide (p4=((sb s).length:Int))=false:=by simp;omega
    rw [this];rfl
   have aL:(p4 != (s.size:Int))=true:=by simp [L]
   clear D1 D2 D3 D4
   go_wp2_with (refine Zae rfl 101 _ _ rfl (w.heap.size+1) #[.int .i64 0,.slice none 0 0,.int .i64 0,.int .i64 0,.int .i64 0,.int .i64 0,.int .i64 0,.int .i64 0,.int .i64 0,.slice none 0 0,.slice none 0 0] rfl rfl 101 #[.int .i64 0,.slice none 0 0,.int .i64 0,.int .i64 0,.int .i64 0,.int .i64 0,.int .i64 0,.int .i64 0,.int .i64 0,.slice none 0 0,.slice none 0 0] j Zny rfl (by simp [Value.oneCell']) ?_)
   intro wB E C aa H;go_wp2;refine cx (Zac rfl _ _ (w.heap.size+1) 101 _ (0,0) _ rfl E underlying101 rfl Zny) rfl ⟨PaAns.zero2 K.out,c.trans (C.mono (by omega))⟩
  have D5:Hid (pdR ns is ds (sb s)=(mrR ns is ds (sb A)).bind fun r=>if Zbr ns is ds i r.1 r.2 ts os then some (i,r,ts,os) else none):=by
   unfold Hid;rw [D1.out];have:decide (p4=((sb s).length:Int))=true:=by simp;omega
   rw [this];rfl
  have aQ:(p4 != (s.size:Int))=false:=by simp [L]
  cases mk with
  | false =>
   have K:Hid (pdR ns is ds (sb s)=none):=by unfold Hid;rw [D5.out,D4 rfl];rfl
   clear D1 D2 D3 D4 D5 L
   go_wp2_with (refine Zae rfl 101 _ _ rfl (w.heap.size+1) #[.int .i64 0,.slice none 0 0,.int .i64 0,.int .i64 0,.int .i64 0,.int .i64 0,.int .i64 0,.int .i64 0,.int .i64 0,.slice none 0 0,.slice none 0 0] rfl rfl 101 #[.int .i64 0,.slice none 0 0,.int .i64 0,.int .i64 0,.int .i64 0,.int .i64 0,.int .i64 0,.int .i64 0,.int .i64 0,.slice none 0 0,.slice none 0 0] j Zny rfl (by simp [Value.oneCell']) ?_)
   intro wB E C aa H;go_wp2;refine cx (Zac rfl _ _ (w.heap.size+1) 101 _ (0,0) _ rfl E underlying101 rfl Zny) rfl ⟨PaAns.zero2 K.out,c.trans (C.mono (by omega))⟩
  | true =>
   have HD:Hid (pdR ns is ds (sb s)=if Zbr ns is ds i X M ts os then some (i,(X,M),ts,os) else none):=by unfold Hid;rw [D5.out,D3 rfl];rfl
   clear D1 D2 D3 D4 D5 L;have c0:o.cell? ⟨w.heap.size,0,none⟩=some (.slice a1 ns.length c1):=cd o _ 0 _ _ _ v;have aI:o.cell? ⟨w.heap.size,0+1,none⟩=some (.slice a2 is.length c2):=cd o _ 1 _ _ _ v;have aB:o.cell? ⟨w.heap.size,0+2,none⟩=some (.slice a3 ds.length c3):=cd o _ 2 _ _ _ v;have e0:o.cell? ⟨D,0,none⟩=some (.int .i64 i):=cd o _ 0 _ _ _ b;have e1:o.cell? ⟨D,0+1,none⟩=some (.slice am X.length cm):=cd o _ 1 _ _ _ b;have e2:o.cell? ⟨D,0+2,none⟩=some (.int .i64 M.p):=cd o _ 2 _ _ _ b;have e3:o.cell? ⟨D,0+3,none⟩=some (.int .i64 M.s):=cd o _ 3 _ _ _ b;have e4:o.cell? ⟨D,0+4,none⟩=some (.int .i64 M.e):=cd o _ 4 _ _ _ b;have e5:o.cell? ⟨D,0+5,none⟩=some (.int .i64 M.d):=cd o _ 5 _ _ _ b;have e6:o.cell? ⟨D,0+6,none⟩=some (.int .i64 M.t):=cd o _ 6 _ _ _ b
   have e7:o.cell? ⟨D,0+7,none⟩=some (.int .i64 M.q):=cd o _ 7 _ _ _ b;have e8:o.cell? ⟨D,0+8,none⟩=some (.int .i64 M.r):=cd o _ 8 _ _ _ b;have e9:o.cell? ⟨D,0+9,none⟩=some (.slice P ts.length Q):=cd o _ 9 _ _ _ b;have ay:o.cell? ⟨D,0+10,none⟩=some (.slice Y os.length W):=cd o _ 10 _ _ _ b;have OK:=Zd4 _ _ _ _ _ _ ns is ds i X M ts os o (R1.below c) (R2.below c) (R3.below c) (NRow.of_own J (by omega) HX.2) (StRow.of_own z (by omega) (fun x hx=>by have:=zt x hx;unfold maxLen;omega)) (StRow.of_own B (by omega) (fun x hx=>by have:=zo x hx;unfold maxLen;omega)) (fun x hx=>by have:=zt x hx;omega);go_wp2_with fail;refine OK.mono ?_;rintro e uC ⟨rfl,f⟩;replace j:=Zaa j f;replace b:=Zaa b f;replace J:=Zad J f;replace z:=Zad z f;replace B:=Zad B f;replace c:=c.trans (f.mono c.size);replace lx:=Zao j
   clear f OK c0 aI aB e0 e1 e2 e3 e4 e5 e6 e7 e8 e9 ay aD ax;cases hP:Zbr ns is ds i X M ts os with
   | false =>
    have K:Hid (pdR ns is ds (sb s)=none):=by unfold Hid;rw [HD.out,hP];rfl
    go_wp2_with (refine Zae rfl 101 _ _ rfl (w.heap.size+1) #[.int .i64 0,.slice none 0 0,.int .i64 0,.int .i64 0,.int .i64 0,.int .i64 0,.int .i64 0,.int .i64 0,.int .i64 0,.slice none 0 0,.slice none 0 0] rfl rfl 101 #[.int .i64 0,.slice none 0 0,.int .i64 0,.int .i64 0,.int .i64 0,.int .i64 0,.int .i64 0,.int .i64 0,.int .i64 0,.slice none 0 0,.slice none 0 0] j Zny rfl (by simp [Value.oneCell']) ?_)
    intro wB E C aa H;go_wp2;refine cx (Zac rfl _ _ (w.heap.size+1) 101 _ (0,0) _ rfl E underlying101 rfl Zny) rfl ⟨PaAns.zero2 K.out,c.trans (C.mono (by omega))⟩
   | true =>
    have K:Hid (pdR ns is ds (sb s)=some (i,(X,M),ts,os)):=by unfold Hid;rw [HD.out,hP];rfl
    go_wp2_with (first
     | (refine cE rfl 101 _ rfl D rfl 101 #[.int .i64 i,.slice am X.length cm,.int .i64 M.p,.int .i64 M.s,.int .i64 M.e,.int .i64 M.d,.int .i64 M.t,.int .i64 M.q,.int .i64 M.r,.slice P ts.length Q,.slice Y os.length W] (0,0) _ b underlying101 rfl Zny ?_)
     | (refine Zae rfl 101 _ _ rfl (w.heap.size+1) #[.int .i64 i,.slice am X.length cm,.int .i64 M.p,.int .i64 M.s,.int .i64 M.e,.int .i64 M.d,.int .i64 M.t,.int .i64 M.q,.int .i64 M.r,.slice P ts.length Q,.slice Y os.length W] rfl rfl 101 #[.int .i64 0,.slice none 0 0,.int .i64 0,.int .i64 0,.int .i64 0,.int .i64 0,.int .i64 0,.int .i64 0,.int .i64 0,.slice none 0 0,.slice none 0 0] j Zny rfl (by simp [Value.oneCell']) ?_))
    intro wB E C aa H;replace J:=Zah (B':=w.heap.size) (Zak J (by omega) H) (by omega);replace z:=Zah (B':=w.heap.size) (Zak z (by omega) H) (by omega);replace B:=Zah (B':=w.heap.size) (Zak B (by omega) H) (by omega);go_wp2;refine cx (Zac rfl _ _ (w.heap.size+1) 101 _ (0,0) _ rfl E underlying101 rfl Zny) rfl ⟨⟨i,X,M,ts,os,true,_,_,_,by rw [K.out];rfl,rfl,J,z,B,AP⟩,c.trans (C.mono (by omega))⟩
theorem Ze0 (v1 v2 v3:Value)(ns:List Nd)(is:List In)(ds:List Df)(s:ByteArray)(w:World)(S:NRow w v1 ns)(Y:InRow w v2 is)(T:DfRow w v3 ds)(hs:s.size <= 1048576)(hg:ErrT w) :
  Calls prog 128 #[.agg #[v1,v2,v3],.string s] w fun e w'=>PaAns w.heap.size (pdT (pdR ns is ds (sb s))) e w'/\Below w.heap.size w w':=by
 obtain ⟨a1,c1,rfl⟩:=S.small;obtain ⟨a2,c2,rfl⟩:=Y.small;obtain ⟨a3,c3,rfl⟩:=T.small;have ab:=ZaJ s;obtain ⟨b,y,k⟩:=Zax w (Obj.cells #[.slice a1 ns.length c1,.slice a2 is.length c2,.slice a3 ds.length c3] 44) (Obj.cells #[.int .i64 0,.slice none 0 0,.int .i64 0,.int .i64 0,.int .i64 0,.int .i64 0,.int .i64 0,.int .i64 0,.int .i64 0,.slice none 0 0,.slice none 0 0] 101)
 go_enter func128,ntmps128
 go_wp2_with fail;refine Zmc w.heap.size _ _ _ s (paT ns is ds (Zcp (sb s))) _ _ y (by omega) (fun vr W0 P W RR n G U z=>Zjb vr (sb s) W0 W P _ _ _ ns is ds RR G U z (S.below (b.trans (n.mono b.size))) (Y.below (b.trans (n.mono b.size))) (T.below (b.trans (n.mono b.size))) (hg.below (b.trans (n.mono b.size)) (ce _)) (by omega)) ?_;intro _ _ _ _ _ _ _ f I X M l m ok O N H F L Q a D g c eT o v u AP;obtain ⟨K,J,Z,zo,⟨lX,zX⟩,lB,lO⟩:=Znd eT;replace y:=Zaa y g;replace k:=Zaa k g;have aa:w.heap.size+2 <= f:=by simpa using D
 replace o:=Zah (B':=w.heap.size+2) o (by simp);replace v:=Zah (B':=w.heap.size+2) v (by simp);replace u:=Zah (B':=w.heap.size+2) u (by simp);replace b:=b.trans (g.mono b.size);clear g D eT;have ly:=Zao k;cases ok with
 | false =>
  have A:Hid (pdR ns is ds (sb s)=none):=K rfl;clear K J
  go_wp2_with (refine Zae rfl 101 _ _ rfl (w.heap.size+1) #[.int .i64 0,.slice none 0 0,.int .i64 0,.int .i64 0,.int .i64 0,.int .i64 0,.int .i64 0,.int .i64 0,.int .i64 0,.slice none 0 0,.slice none 0 0] rfl rfl 101 #[.int .i64 0,.slice none 0 0,.int .i64 0,.int .i64 0,.int .i64 0,.int .i64 0,.int .i64 0,.int .i64 0,.int .i64 0,.slice none 0 0,.slice none 0 0] k Zny rfl (by simp [Value.oneCell']) ?_)
  intro wB j h B i;go_wp2;refine cx (Zac rfl _ _ (w.heap.size+1) 101 _ (0,0) _ rfl j underlying101 rfl Zny) rfl ⟨PaAns.zero2 A.out,b.trans (h.mono (by omega))⟩
 | true =>
  have HD:Hid (pdR ns is ds (sb s)=if Zbr ns is ds I X M l m then some (I,(X,M),l,m) else none):=J rfl;have c0:a.cell? ⟨w.heap.size,0,none⟩=some (.slice a1 ns.length c1):=cd a _ 0 _ _ _ y;have R:a.cell? ⟨w.heap.size,0+1,none⟩=some (.slice a2 is.length c2):=cd a _ 1 _ _ _ y;have E:a.cell? ⟨w.heap.size,0+2,none⟩=some (.slice a3 ds.length c3):=cd a _ 2 _ _ _ y;have k0:a.cell? ⟨f,0,none⟩=some (.int .i64 I):=cd a _ 0 _ _ _ c;have k1:a.cell? ⟨f,0+1,none⟩=some (.slice O X.length F):=cd a _ 1 _ _ _ c;have k2:a.cell? ⟨f,0+2,none⟩=some (.int .i64 M.p):=cd a _ 2 _ _ _ c;have k3:a.cell? ⟨f,0+3,none⟩=some (.int .i64 M.s):=cd a _ 3 _ _ _ c;have k4:a.cell? ⟨f,0+4,none⟩=some (.int .i64 M.e):=cd a _ 4 _ _ _ c;have k5:a.cell? ⟨f,0+5,none⟩=some (.int .i64 M.d):=cd a _ 5 _ _ _ c
  have k6:a.cell? ⟨f,0+6,none⟩=some (.int .i64 M.t):=cd a _ 6 _ _ _ c;have k7:a.cell? ⟨f,0+7,none⟩=some (.int .i64 M.q):=cd a _ 7 _ _ _ c;have k8:a.cell? ⟨f,0+8,none⟩=some (.int .i64 M.r):=cd a _ 8 _ _ _ c;have k9:a.cell? ⟨f,0+9,none⟩=some (.slice N l.length L):=cd a _ 9 _ _ _ c;have V:a.cell? ⟨f,0+10,none⟩=some (.slice H m.length Q):=cd a _ 10 _ _ _ c;have OK:=ZdJ _ _ _ _ _ _ ns is ds I X M l m a (S.below b) (Y.below b) (T.below b) (NRow.of_own o (by omega) zX) (StRow.of_own v (by omega) (fun x C=>by have:=Z x C;unfold maxLen;omega)) (StRow.of_own u (by omega) (fun x C=>by have:=zo x C;unfold maxLen;omega)) (fun x C=>by have:=Z x C;omega) (hg.below b (ce _));clear K J;go_wp2_with fail;refine OK.mono ?_;rintro e w3 ⟨rfl,g⟩;replace k:=Zaa k g;replace c:=Zaa c g;replace o:=Zad o g;replace v:=Zad v g
  replace u:=Zad u g;replace b:=b.trans (g.mono b.size);clear g OK y c0 R E k0 k1 k2 k3 k4 k5 k6 k7 k8 k9 V;replace ly:=Zao k;cases hP:Zbr ns is ds I X M l m with
  | false =>
   have A:Hid (pdR ns is ds (sb s)=none):=by unfold Hid;rw [HD.out,hP];rfl
   go_wp2_with (refine Zae rfl 101 _ _ rfl (w.heap.size+1) #[.int .i64 0,.slice none 0 0,.int .i64 0,.int .i64 0,.int .i64 0,.int .i64 0,.int .i64 0,.int .i64 0,.int .i64 0,.slice none 0 0,.slice none 0 0] rfl rfl 101 #[.int .i64 0,.slice none 0 0,.int .i64 0,.int .i64 0,.int .i64 0,.int .i64 0,.int .i64 0,.int .i64 0,.int .i64 0,.slice none 0 0,.slice none 0 0] k Zny rfl (by simp [Value.oneCell']) ?_)
   intro wB j h B i;go_wp2;refine cx (Zac rfl _ _ (w.heap.size+1) 101 _ (0,0) _ rfl j underlying101 rfl Zny) rfl ⟨PaAns.zero2 A.out,b.trans (h.mono (by omega))⟩
  | true =>
   have A:Hid (pdR ns is ds (sb s)=some (I,(X,M),l,m)):=by unfold Hid;rw [HD.out,hP];rfl
   go_wp2_with (first
    | (refine cE rfl 101 _ rfl f rfl 101 #[.int .i64 I,.slice O X.length F,.int .i64 M.p,.int .i64 M.s,.int .i64 M.e,.int .i64 M.d,.int .i64 M.t,.int .i64 M.q,.int .i64 M.r,.slice N l.length L,.slice H m.length Q] (0,0) _ c underlying101 rfl Zny ?_)
    | (refine Zae rfl 101 _ _ rfl (w.heap.size+1) #[.int .i64 I,.slice O X.length F,.int .i64 M.p,.int .i64 M.s,.int .i64 M.e,.int .i64 M.d,.int .i64 M.t,.int .i64 M.q,.int .i64 M.r,.slice N l.length L,.slice H m.length Q] rfl rfl 101 #[.int .i64 0,.slice none 0 0,.int .i64 0,.int .i64 0,.int .i64 0,.int .i64 0,.int .i64 0,.int .i64 0,.int .i64 0,.slice none 0 0,.slice none 0 0] k Zny rfl (by simp [Value.oneCell']) ?_))
   intro wB j h B i;replace o:=Zah (B':=w.heap.size) (Zak o (by omega) i) (by omega);replace v:=Zah (B':=w.heap.size) (Zak v (by omega) i) (by omega);replace u:=Zah (B':=w.heap.size) (Zak u (by omega) i) (by omega);go_wp2;refine cx (Zac rfl _ _ (w.heap.size+1) 101 _ (0,0) _ rfl j underlying101 rfl Zny) rfl ⟨⟨I,X,M,l,m,true,_,_,_,by rw [A.out];rfl,rfl,o,v,u,AP⟩,b.trans (h.mono (by omega))⟩
theorem Zjr {a b:Int}(h:a=b):Ending.returned (.int .i64 a)=.returned (.int .i64 b):=by rw [h]
theorem ZlS (r:Option (Int × Int × ByteArray)):∃ k p t ok,mrA r=.tuple #[.int .i64 k,.int .i64 p,.string t,.bool ok]/\(ok=false -> r=none/\k=0)/\(ok=true -> r=some (k,p,t)):=by
 cases r with
 | none=>exact ⟨_,_,_,false,rfl,(fun _=>⟨rfl,rfl⟩),(fun h=>by cases h)⟩
 | some q=>exact ⟨_,_,_,true,rfl,(fun h=>by cases h),fun _=>rfl⟩
def MbAns (d:Wd)(s:ByteArray)(e:Ending):Prop:=∃ (ok:Bool) (I:Int),e=.returned (.tuple #[.int .i64 I,.bool ok])/\(ok=true -> movN d.ns d.is d.ds s=I/\1 <= I)/\(ok=false -> movN d.ns d.is d.ds s=0)
theorem MbAns.no {d:Wd}{s:ByteArray}{e:Ending}(a:e=.returned (.tuple #[.int .i64 0,.bool false]))(h:movN d.ns d.is d.ds s=0):MbAns d s e:=⟨false,0,a,(fun h=>by cases h),fun _=>h⟩
theorem MbAns.yes {d:Wd}{s:ByteArray}{e:Ending}{I:Int}(b:e=.returned (.tuple #[.int .i64 I,.bool true]))(h:movN d.ns d.is d.ds s=I)(a:1 <= I):MbAns d s e:=⟨true,I,b,(fun _=>⟨h,a⟩),(fun h=>by cases h)⟩
theorem Zdi (vn vi vf vh vl vg vp Y Z:Value)(d:Wd)(s:ByteArray)(B:Nat)(w:World)(R:WR B w vn vi vf vh vl vg vp Y Z d)(hs:s.size <= 1048576) :
  Calls prog 44 #[.agg #[vn,vi,vf,.int .i64 d.pl,vh,vl,vg,vp,.int .i64 d.nx,Y,Z],.string s] w fun e w'=>e=.returned (.int .i64 (movN d.ns d.is d.ds s))/\Below w.heap.size w w':=by
 have C:=R;obtain ⟨⟨u,m,rfl⟩,⟨l,v,rfl⟩,⟨j,o,rfl⟩,⟨P,V,rfl⟩,⟨A,J,rfl⟩,⟨S,E,rfl⟩,⟨O,D,rfl⟩,⟨Q,L,rfl⟩,⟨F,T,rfl⟩⟩:=R.form;clear R;have a:=Zap w (Obj.cells #[.slice u d.ns.length m,.slice l d.is.length v,.slice j d.ds.length o,.int .i64 d.pl,.slice P d.hs.length V,.slice A d.ls.length J,.slice S d.gs.length E,.slice O d.ps.length D,.int .i64 d.nx,.slice Q d.ga.length L,.slice F d.tk.length T] 50);have b:=co w (Obj.cells #[.slice u d.ns.length m,.slice l d.is.length v,.slice j d.ds.length o,.int .i64 d.pl,.slice P d.hs.length V,.slice A d.ls.length J,.slice S d.gs.length E,.slice O d.ps.length D,.int .i64 d.nx,.slice Q d.ga.length L,.slice F d.tk.length T] 50);have ad:=ZaJ s
 go_enter func44,ntmps44
 go_wp2_with fail;generalize w.alloc (Obj.cells #[.slice u d.ns.length m,.slice l d.is.length v,.slice j d.ds.length o,.int .i64 d.pl,.slice P d.hs.length V,.slice A d.ls.length J,.slice S d.gs.length E,.slice O d.ps.length D,.int .i64 d.nx,.slice Q d.ga.length L,.slice F d.tk.length T] 50)=w0 at *;refine (Zis s _ hs).mono ?_;rintro e w1 ⟨rfl,f⟩;obtain ⟨k,p,t,ok,W,K,y⟩:=ZlS (mrd (sb s));rw [W];replace b:=Zaa b f;replace a:=a.trans (f.mono a.size);clear f W;cases ok with
 | false =>
  have h:Hid (movN d.ns d.is d.ds s=0):=Zgb (K rfl).1;clear K y b;go_wp2;go_ret;exact ⟨Zjr h.out.symm,a⟩
 | true =>
  have g:=y rfl;have HM:Hid (mrd (sb s)=some (k,p,t)):=g;clear K y
  by_cases z:k=2
  ·subst z
   have U:t.size <= 1048576:=by have:=Zhr g;omega
   have x:Hid (movN d.ns d.is d.ds s=(pdT (pdR d.ns d.is d.ds (sb t))).1):=ZfB g;clear g
   go_wp2_with (refine Zam rfl 44 _ rfl w.heap.size 0 rfl _ 50 #[.slice u d.ns.length m,.slice l d.is.length v,.slice j d.ds.length o] _ b rfl underlying44 rfl Znu ?_)
   refine (Ze2 _ _ _ d.ns d.is d.ds t _ (C.rn.below a) (C.ri.below a) (C.rf.below a) U).mono ?_;rintro e n ⟨⟨I,X,M,BX,OX,ok,y1,y2,y3,N,rfl,O1,O2,O3,_⟩,f⟩;obtain ⟨p1,q1,rfl⟩:=Zag O1;obtain ⟨p2,q2,rfl⟩:=Zag O2;obtain ⟨p3,q3,rfl⟩:=Zag O3;have c:=ZgJ N;rw [N] at x;replace a:=a.trans (f.mono a.size);clear f N O1 O2 O3 b
   go_wp2_with (refine Zai rfl 101 _ _ rfl n.heap.size #[.int .i64 I,.slice p1 X.length q1,.int .i64 M.p,.int .i64 M.s,.int .i64 M.e,.int .i64 M.d,.int .i64 M.t,.int .i64 M.q,.int .i64 M.r,.slice p2 BX.length q2,.slice p3 OX.length q3] rfl rfl 101 _ (co _ _) Zny rfl (by simp [Value.oneCell']) ?_)
   intro G hv i H;have f:Below n.heap.size n G:=((cj _ _).alloc (ce _) _).trans i;replace a:=a.trans (f.mono a.size);have c0:G.cell? ⟨n.heap.size,0,none⟩=some (.int .i64 I):=cd G _ 0 _ _ _ hv;clear f i H hv;cases ok with
   | false =>
    have h:Hid (movN d.ns d.is d.ds s=0):=by unfold Hid;rw [x.out];exact c.2 rfl
    clear x c;go_wp2;go_ret;exact ⟨Zjr h.out.symm,a⟩
   | true =>
    clear c;go_wp2;go_ret;exact ⟨Zjr x.out.symm,a⟩
  ·have h:Hid (movN d.ns d.is d.ds s=0):=Zeu g z
   have ac:(k != 2)=true:=by simpa using z
   clear g b HM;go_wp2;go_ret;exact ⟨Zjr h.out.symm,a⟩
theorem Zfz (vn vi vf vh vl vg vp Z vt:Value)(d:Wd)(s:ByteArray)(B:Nat)(w:World)(R:WR B w vn vi vf vh vl vg vp Z vt d)(hs:s.size <= 1048576)(hE:ErrT w) :
  Calls prog 97 #[.agg #[vn,vi,vf,.int .i64 d.pl,vh,vl,vg,vp,.int .i64 d.nx,Z,vt],.string s] w fun e w'=>MbAns d s e/\Below w.heap.size w w':=by
 have D:=R;obtain ⟨⟨x,n,rfl⟩,⟨m,v,rfl⟩,⟨l,u,rfl⟩,⟨Q,W,rfl⟩,⟨C,K,rfl⟩,⟨T,F,rfl⟩,⟨P,E,rfl⟩,⟨S,N,rfl⟩,⟨G,U,rfl⟩⟩:=R.form;clear R;have a:=Zap w (Obj.cells #[.slice x d.ns.length n,.slice m d.is.length v,.slice l d.ds.length u,.int .i64 d.pl,.slice Q d.hs.length W,.slice C d.ls.length K,.slice T d.gs.length F,.slice P d.ps.length E,.int .i64 d.nx,.slice S d.ga.length N,.slice G d.tk.length U] 50);have c:=co w (Obj.cells #[.slice x d.ns.length n,.slice m d.is.length v,.slice l d.ds.length u,.int .i64 d.pl,.slice Q d.hs.length W,.slice C d.ls.length K,.slice T d.gs.length F,.slice P d.ps.length E,.int .i64 d.nx,.slice S d.ga.length N,.slice G d.tk.length U] 50);have ad:=ZaJ s
 go_enter func97,ntmps97
 go_wp2_with fail;generalize w.alloc (Obj.cells #[.slice x d.ns.length n,.slice m d.is.length v,.slice l d.ds.length u,.int .i64 d.pl,.slice Q d.hs.length W,.slice C d.ls.length K,.slice T d.gs.length F,.slice P d.ps.length E,.int .i64 d.nx,.slice S d.ga.length N,.slice G d.tk.length U] 50)=w0 at *;refine (ZiF s _ hs).mono ?_;rintro e w1 ⟨rfl,f⟩;obtain ⟨k,q,t,ok,Y,L,z⟩:=ZlS (mrd (sb s));rw [Y];replace c:=Zaa c f;replace a:=a.trans (f.mono a.size);clear f Y;cases ok with
 | false =>
  obtain ⟨j,rfl⟩:=L rfl;have h:Hid (movN d.ns d.is d.ds s=0):=Zgb j;clear L z c j;go_wp2;exact cx (results_tmp2 rfl _ _ _) rfl ⟨MbAns.no rfl h.out,a⟩
 | true =>
  have g:=z rfl;clear L z
  by_cases A:k=2
  ·subst A
   have V:t.size <= 1048576:=by have:=Zhr g;omega
   have y:Hid (movN d.ns d.is d.ds s=(pdT (pdR d.ns d.is d.ds (sb t))).1):=ZfB g;clear g
   go_wp2_with (refine Zam rfl 44 _ rfl w.heap.size 0 rfl _ 50 #[.slice x d.ns.length n,.slice m d.is.length v,.slice l d.ds.length u] _ c rfl underlying44 rfl Znu ?_)
   refine (Ze0 _ _ _ d.ns d.is d.ds t _ (D.rn.below a) (D.ri.below a) (D.rf.below a) V (hE.below a (ce _))).mono ?_;rintro e o ⟨⟨I,X,M,BX,OX,ok,y1,y2,y3,O,rfl,O1,O2,O3,_⟩,f⟩;obtain ⟨p1,q1,rfl⟩:=Zag O1;obtain ⟨p2,q2,rfl⟩:=Zag O2;obtain ⟨p3,q3,rfl⟩:=Zag O3;have b:=ZgJ O;rw [O] at y;replace a:=a.trans (f.mono a.size);clear f O O1 O2 O3 c
   go_wp2_with (refine Zai rfl 101 _ _ rfl o.heap.size #[.int .i64 I,.slice p1 X.length q1,.int .i64 M.p,.int .i64 M.s,.int .i64 M.e,.int .i64 M.d,.int .i64 M.t,.int .i64 M.q,.int .i64 M.r,.slice p2 BX.length q2,.slice p3 OX.length q3] rfl rfl 101 _ (co _ _) Zny rfl (by simp [Value.oneCell']) ?_)
   intro H hv i J;have f:Below o.heap.size o H:=((cj _ _).alloc (ce _) _).trans i;replace a:=a.trans (f.mono a.size);have c0:H.cell? ⟨o.heap.size,0,none⟩=some (.int .i64 I):=cd H _ 0 _ _ _ hv;clear f i J hv;cases ok with
   | false =>
    have h:Hid (movN d.ns d.is d.ds s=0):=by unfold Hid;rw [y.out];exact b.2 rfl
    obtain rfl:I=0:=b.2 rfl;clear y b;go_wp2;exact cx (results_tmp2 rfl _ _ _) rfl ⟨MbAns.no rfl h.out,a⟩
   | true =>
    have h1:=b.1 rfl;clear b;go_wp2;exact cx (results_tmp2 rfl _ _ _) rfl ⟨MbAns.yes rfl y.out h1,a⟩
  ·have h:Hid (movN d.ns d.is d.ds s=0):=Zeu g A
   have ac:(k != 2)=true:=by simpa using A
   clear g c;go_wp2;exact cx (results_tmp2 rfl _ _ _) rfl ⟨MbAns.no rfl h.out,a⟩
end Go.Proofs.YtkpfangkfknhoaaGreatDoor
