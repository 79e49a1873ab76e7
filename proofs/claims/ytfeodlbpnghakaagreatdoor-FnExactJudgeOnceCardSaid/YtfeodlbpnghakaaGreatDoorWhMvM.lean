/-
  Texts that stood by themselves, laid into one.
-/
import Derived.Test.YtfeodlbpnghakaaGreatDoorMark2M
import Derived.Test.YtfeodlbpnghakaaGreatDoorLMakeM
import Derived.Test.YtfeodlbpnghakaaGreatDoorPcMarkM
import Derived.Test.YtfeodlbpnghakaaGreatDoorMRgM
import Derived.Test.YtfeodlbpnghakaaGreatDoorSPd2M
import Derived.Test.YtfeodlbpnghakaaGreatDoorSMRdM
import Derived.Test.YtfeodlbpnghakaaGreatDoorXRM
import Derived.Test.YtfeodlbpnghakaaGreatDoorInM
import Derived.Test.YtfeodlbpnghakaaGreatDoorS12tM
import Derived.Test.YtfeodlbpnghakaaGreatDoorIMlRgM
/-
  A machine's variable (VarM), and the contracts of the laws' helpers markMachine and heldMachine. No condition.
-/
set_option maxRecDepth 100000
set_option maxHeartbeats 12800000
namespace Go.Proofs.YtfeodlbpnghakaaGreatDoor
open Go.RowKit
def VarM (w:World)(b lo hi:Nat)(v:Value)(xs:List Nd)(m:Mc):Prop :=
 w.heap[b]? = some (.cells #[v,.int .i64 m.p,.int .i64 m.s,.int .i64 m.e,.int .i64 m.d,.int .i64 m.t,.int .i64 m.q,.int .i64 m.r] 61 (0,0))/\w.ownsRow lo 194 5 v xs.length (ncs xs)/\(∀ k,v.ownBlock=some k -> k < hi)/\hi <= w.heap.size
theorem VarM.below {w c:World}{b lo hi:Nat}{v:Value}{d:List Nd}{m:Mc}(h:VarM w b lo hi v d m)(a:Below w.heap.size w c):VarM c b lo hi v d m :=
 ⟨(a.block b (Array.getElem?_eq_some_iff.1 h.1).1).trans h.1,Zac h.2.1 a,h.2.2.1,Nat.le_trans h.2.2.2 a.size⟩
theorem VarM.row {w:World}{b lo hi:Nat}{v:Value}{a:List Nd}{m:Mc}(h:VarM w b lo hi v a m)(d:a.length <= 4194304)(c:∀ x ∈ a,x.s.size <= maxLen):NRow w v a:=NRow.of_own h.2.1 (by omega) c
theorem VarM.lt {w:World}{b lo hi:Nat}{v:Value}{a:List Nd}{m:Mc}(h:VarM w b lo hi v a m):b < w.heap.size:=(Array.getElem?_eq_some_iff.1 h.1).1
theorem VarM.kept {w l:World}{b lo hi c a q:Nat}{v j:Value}{o g:List Nd}{m p:Mc}(h:VarM w b lo hi v o m)(d:VarM w q c a j g p)(i:w.grownBy l j.ownBlock)(t:hi <= c \/ a <= lo):VarM l b lo hi v o m:=by
 have f:j.ownBlock ≠ some b:=ZaG d.2.1 h.1 (by decide)
 refine ⟨(i.block b h.lt (fun e=>f e.symm)).trans h.1,h.2.1.kept i ?_,h.2.2.1,Nat.le_trans h.2.2.2 i.size⟩
 cases n:v.ownBlock with
 | none=>exact Or.inl rfl
 | some k =>
  refine Or.inr fun e=>?_
  have s:=h.2.2.1 k n
  have k2:=(h.2.1.lt k n).1
  have r:=d.2.2.1 k e.symm
  have u:=(d.2.1.lt k e.symm).1
  omega
theorem VarM.marked {w a:World}{b lo hi:Nat}{v:Value}{d ys:List Nd}{m:Mc}(h:VarM w b lo hi v d m)(c:w.grownBy a v.ownBlock)(f:a.ownsRow lo 194 5 v ys.length (ncs ys)):VarM a b lo hi v ys m :=
 ⟨(c.block b h.lt (fun e=>ZaG h.2.1 h.1 (by decide) e.symm)).trans h.1,f,h.2.2.1,Nat.le_trans h.2.2.2 c.size⟩
theorem VarM.block {w f:World}{b lo hi:Nat}{v:Value}{i:List Nd}{m:Mc}(h:VarM w b lo hi v i m)(g:w.grownBy f v.ownBlock){j:Nat}{c:Array Value}{t:TypeId}(d:w.heap[j]? = some (.cells c t (0,0)))(a:t ≠ 194):f.heap[j]? = some (.cells c t (0,0)) :=
 (g.block j (bl d) (fun e=>ZaG h.2.1 d a e.symm)).trans d
structure VarPr (w:World)(b lo hi:Nat)(v vb vo:Value)(i:Int)(xs:List Nd)(m:Mc)(bx ox:List ByteArray):Prop where
 blk:w.heap[b]? = some (.cells #[.int .i64 i,v,.int .i64 m.p,.int .i64 m.s,.int .i64 m.e,.int .i64 m.d,.int .i64 m.t,.int .i64 m.q,.int .i64 m.r,vb,vo] 64 (0,0))
 o1:w.ownsRow lo 194 5 v xs.length (ncs xs)
 o2:w.ownsRow lo 9 1 vb bx.length (stv bx)
 o3:w.ownsRow lo 9 1 vo ox.length (stv ox)
 t1:∀ k,v.ownBlock=some k -> k < hi
 t2:∀ k,vb.ownBlock=some k -> k < hi
 t3:∀ k,vo.ownBlock=some k -> k < hi
 ap:∀ g,vo.ownBlock=some g -> vb.ownBlock ≠ some g
 top:hi <= w.heap.size
theorem VarPr.of {w:World}{b lo:Nat}{v vb c:Value}{i:Int}{f:List Nd}{m:Mc}{j h:List ByteArray}(u:w.heap[b]? = some (.cells #[.int .i64 i,v,.int .i64 m.p,.int .i64 m.s,.int .i64 m.e,.int .i64 m.d,.int .i64 m.t,.int .i64 m.q,.int .i64 m.r,vb,c] 64 (0,0)))(l:w.ownsRow lo 194 5 v f.length (ncs f))(n:w.ownsRow lo 9 1 vb j.length (stv j))(o:w.ownsRow lo 9 1 c h.length (stv h))(x:∀ g,c.ownBlock=some g -> vb.ownBlock ≠ some g):VarPr w b lo w.heap.size v vb c i f m j h :=
 ⟨u,l,n,o,fun k a=>(l.lt k a).2,fun k a=>(n.lt k a).2,fun k a=>(o.lt k a).2,x,Nat.le_refl _⟩
section
variable {w w':World} {b lo hi:Nat} {v vb vo:Value} {i:Int} {xs:List Nd} {m:Mc} {bx ox:List ByteArray}
theorem VarPr.below (h:VarPr w b lo hi v vb vo i xs m bx ox)(a:Below w.heap.size w w'):VarPr w' b lo hi v vb vo i xs m bx ox :=
 ⟨Zae h.blk a,Zac h.o1 a,Zac h.o2 a,Zac h.o3 a,h.t1,h.t2,h.t3,h.ap,Nat.le_trans h.top a.size⟩
theorem VarPr.lt (h:VarPr w b lo hi v vb vo i xs m bx ox):b < w.heap.size:=Zao h.blk
theorem VarPr.row (h:VarPr w b lo hi v vb vo i xs m bx ox)(c:xs.length <= 4194304)(a:∀ x ∈ xs,x.s.size <= maxLen):NRow w v xs:=NRow.of_own h.o1 (by omega) a
theorem VarPr.frame {g j f:World}{B:Nat}(n:Below B g w)(h:VarPr w b lo hi v vb vo i xs m bx ox)(d:w.grownBy j v.ownBlock)(l:j.grownBy f vb.ownBlock)(o:f.grownBy w' vo.ownBlock)(a:B <= lo)(e:B <= w.heap.size):Below B g w' :=
 ((n.grown d e (fun k c=>Nat.le_trans a (h.o1.lt k c).1)).grown l (Nat.le_trans e d.size) (fun k c=>Nat.le_trans a (h.o2.lt k c).1)).grown o (Nat.le_trans e (Nat.le_trans d.size l.size)) (fun k c=>Nat.le_trans a (h.o3.lt k c).1)
end
def PdS (B:Nat)(T:Int × List Nd × Mc × List ByteArray × List ByteArray × Bool)(e:Ending)(w':World):Prop :=
 ∃ (I:Int) (X:List Nd) (M:Mc) (BX OX:List ByteArray) (ok:Bool) (y1 y2 y3:Value),T=(I,X,M,BX,OX,ok)/\e=.returned (.tuple #[.agg #[.int .i64 I,y1,.int .i64 M.p,.int .i64 M.s,.int .i64 M.e,.int .i64 M.d,.int .i64 M.t,.int .i64 M.q,.int .i64 M.r,y2,y3],.bool ok])/\w'.ownsRow B 194 5 y1 X.length (ncs X)/\w'.ownsRow B 9 1 y2 BX.length (stv BX)/\w'.ownsRow B 9 1 y3 OX.length (stv OX)
theorem ZiY {zs:List Int}{a c:Int}{k b:Bool}{f:List ByteArray}(h:tsL zs (num8 zs a k).1.toNat [] (num8 zs a k).2.1 (num8 zs a k).2.2=(f,c,b)):(b=true -> k=true/\rdTL zs a=some (f,c))/\(b=false -> k=true -> rdTL zs a=none):=by
 cases k with
 | false =>
  rw [Zbx] at h
  simp only [ZcN,Prod.mk.injEq] at h
  obtain ⟨_,_,rfl⟩:=h
  exact ⟨fun h=>(by cases h),fun _ h=>(by cases h)⟩
 | true =>
  unfold rdTL
  cases d:rd1 zs a with
  | none =>
   rw [ZaF d] at h
   simp only [ZcN,Prod.mk.injEq] at h
   obtain ⟨_,_,rfl⟩:=h
   exact ⟨fun h=>(by cases h),fun _ _=>rfl⟩
  | some p =>
   rw [(ZaK zs a).2 p d] at h
   simp only at h
   obtain ⟨g,i⟩:=Zlg zs p.1.toNat [] p.2
   simp only [Option.bind_some]
   cases e:rdTs zs p.1.toNat p.2 with
   | none =>
    have:=i e
    rw [h] at this
    simp only at this
    subst this
    exact ⟨fun h=>(by cases h),fun _ _=>rfl⟩
   | some q =>
    rw [g q e] at h
    simp only [List.nil_append,Prod.mk.injEq] at h
    obtain ⟨rfl,rfl,rfl⟩:=h
    exact ⟨fun _=>⟨trivial,rfl⟩,fun h=>(by cases h)⟩
theorem ZlT {ns:List Nd}{is:List In}{ds:List Df}{zs:List Int}{i z l k A:Int}{v k2 d c:Bool}{o:ByteArray}{g os:List ByteArray}(f:num8 zs 0 true=(i,z,v))(b:txt8 zs z v=(o,l,k2))(m:tsL zs (num8 zs l k2).1.toNat [] (num8 zs l k2).2.1 (num8 zs l k2).2.2=(g,k,d))(D:tsL zs (num8 zs k d).1.toNat [] (num8 zs k d).2.1 (num8 zs k d).2.2=(os,A,c)) :
  (pdR ns is ds zs=if c && decide (A=zs.length) then (mrR ns is ds (sb o)).bind fun r=>if Zbr ns is ds i r.1 r.2 g os then some (i,r,g,os) else none else none)/\(c=true -> (∀ x ∈ g,x.size <= zs.length)/\∀ x ∈ os,x.size <= zs.length):=by
 obtain ⟨n,C⟩:=ZiY m
 obtain ⟨j,B⟩:=ZiY D
 have e:∀ {a:Int} {q:List ByteArray × Int},rdTL zs a=some q -> ∀ x ∈ q.1,x.size <= zs.length:=fun h=>by
  unfold rdTL at h
  rw [Option.bind_eq_some_iff] at h
  obtain ⟨p,b,m⟩:=h
  exact (ZeV (Za9 b).2.2.2 m).2
 unfold pdR
 cases u:rd1 zs 0 with
 | none =>
  rw [ZaF u] at f
  simp only [Prod.mk.injEq] at f
  obtain ⟨_,_,rfl⟩:=f
  have:k2=false:=by unfold txt8 at b;simp at b;exact b.2.2
  subst this
  have:d=false:=by cases d with | false=>rfl | true=>exact absurd (n rfl).1 (by simp)
  subst this
  have:c=false:=by cases c with | false=>rfl | true=>exact absurd (j rfl).1 (by simp)
  subst this
  exact ⟨rfl,fun h=>(by cases h)⟩
 | some p =>
  rw [(ZaK zs 0).2 p u] at f
  simp only [Prod.mk.injEq] at f
  obtain ⟨rfl,rfl,rfl⟩:=f
  simp only [Option.bind_some]
  rw [Zgk] at b
  cases w:rt zs p.2 with
  | none =>
   rw [w] at b
   simp only [Prod.mk.injEq] at b
   obtain ⟨_,_,rfl⟩:=b
   have:d=false:=by cases d with | false=>rfl | true=>exact absurd (n rfl).1 (by simp)
   subst this
   have:c=false:=by cases c with | false=>rfl | true=>exact absurd (j rfl).1 (by simp)
   subst this
   exact ⟨rfl,fun h=>(by cases h)⟩
  | some t =>
   rw [w] at b
   simp only [Prod.mk.injEq] at b
   obtain ⟨rfl,rfl,rfl⟩:=b
   simp only [Option.bind_some]
   cases d with
   | false =>
    rw [C rfl rfl]
    have:c=false:=by cases c with | false=>rfl | true=>exact absurd (j rfl).1 (by simp)
    subst this
    exact ⟨rfl,fun h=>(by cases h)⟩
   | true =>
    have y:=(n rfl).2
    rw [y]
    simp only [Option.bind_some]
    cases c with
    | false =>
     rw [B rfl rfl]
     exact ⟨rfl,fun h=>(by cases h)⟩
    | true =>
     have s:=(j rfl).2
     rw [s]
     simp only [Option.bind_some,Bool.true_and,decide_eq_true_eq]
     exact ⟨trivial,fun _=>⟨e y,e s⟩⟩
theorem Ze5 {w c:World}{b:Nat}{v:Value}{a:Int}{k:Bool}(h:C8 w b v a k)(d:Below w.heap.size w c):C8 c b v a k:=Zae h d
theorem ZiC {w c:World}{b g:Nat}{v:Value}{a:Int}{k:Bool}(h:C8 w b v a k)(e:∀ j,j ≠ g -> c.heap[j]? = w.heap[j]?)(d:b ≠ g):C8 c b v a k:=(e b d).trans h
theorem ZeC (v1 v2 v3:Value)(ns:List Nd)(is:List In)(ds:List Df)(s:ByteArray)(w:World)(R1:NRow w v1 ns)(R2:InRow w v2 is)(R3:DfRow w v3 ds)(hs:s.size <= 1048576) :
  Calls Tryz.prog 46 #[.agg #[v1,v2,v3],.string s] w fun e w'=>PaAns w.heap.size (pdT (pdR ns is ds (sb s))) e w'/\Below w.heap.size w w':=by
 obtain ⟨a1,c1,rfl⟩:=R1.small
 obtain ⟨a2,c2,rfl⟩:=R2.small
 obtain ⟨a3,c3,rfl⟩:=R3.small
 have aM:=ZaJ s
 have ag:=ZhG s
 obtain ⟨ad,z0,z1⟩:=Zav w (Obj.cells #[.slice a1 ns.length c1,.slice a2 is.length c2,.slice a3 ds.length c3] 44) (Obj.cells #[.int .i64 0,.slice none 0 0,.int .i64 0,.int .i64 0,.int .i64 0,.int .i64 0,.int .i64 0,.int .i64 0,.int .i64 0,.slice none 0 0,.slice none 0 0] 64)
 go_enter Tryz.func46,Tryz.ntmps46
 go_wp2_with (first
  | (refine Zbd _ rfl _ 9 161 5 rfl Tryz.underlying9 Tryz.underlying161 Tryz.underlying5 s rfl ?_;intro P G g0 g1 g2 g3))
 obtain ⟨W2,aj⟩:∃ W2,(w.alloc (Obj.cells #[.slice a1 ns.length c1,.slice a2 is.length c2,.slice a3 ds.length c3] 44)).alloc (Obj.cells #[.int .i64 0,.slice none 0 0,.int .i64 0,.int .i64 0,.int .i64 0,.int .i64 0,.int .i64 0,.int .i64 0,.int .i64 0,.slice none 0 0,.slice none 0 0] 64)=W2:=⟨_,rfl⟩
 have W:W2.heap.size=w.heap.size+1+1:=by rw [<- aj];simp
 rw [aj] at ad z0 z1 g1 g2 g3
 have RR:=Zbm (w:=W2) (by omega) g0 g1 g3
 rw [W] at RR g3
 have v:=(g2.block _ (by omega) (by simp)).trans z0
 have j:=(g2.block _ (by omega) (by simp)).trans z1
 have c:Below w.heap.size w G:=ad.grown g2 ad.size (fun k H=>by cases H)
 clear W g1 g2 aj ad z0 z1 g3 g0
 have f:=Zap G (Obj.cells #[.slice (some ⟨w.heap.size+1+1,0,none⟩) s.size P,.int .i64 0,.bool true] 163)
 have z:C8 (G.alloc (Obj.cells #[.slice (some ⟨w.heap.size+1+1,0,none⟩) s.size P,.int .i64 0,.bool true] 163)) G.heap.size (.slice (some ⟨w.heap.size+1+1,0,none⟩) s.size P) 0 true:=heap_alloc_new _ _
 have l:Below G.heap.size G (G.alloc (Obj.cells #[.slice (some ⟨w.heap.size+1+1,0,none⟩) s.size P,.int .i64 0,.bool true] 163)):=f
 have l2:w.heap.size+1 < G.heap.size:=Zao j
 replace v:=Zae v f
 replace j:=Zae j f
 replace c:=c.trans (f.mono c.size)
 clear f
 obtain ⟨u0,ar⟩:∃ u,G.alloc (Obj.cells #[.slice (some ⟨w.heap.size+1+1,0,none⟩) s.size P,.int .i64 0,.bool true] 163)=u:=⟨_,rfl⟩
 rw [ar] at z l v j c ⊢
 clear ar
 obtain ⟨V,hV⟩:∃ V,V=(Value.slice (some ⟨w.heap.size+1+1,0,none⟩) s.size P):=⟨_,rfl⟩
 rw [<- hV] at z RR
 have L:=Zb3 G.heap.size V (sb s) 0 true u0 (RR.below l) z (by omega) (by omega)
 have ae:=Zek (zs:=sb s) (a:=0) (ok:=true) (by omega) (by omega)
 obtain ⟨nn,N1⟩:∃ n,num8 (sb s) 0 true=n:=⟨_,rfl⟩
 obtain ⟨i,p1,k1⟩:=nn
 rw [N1] at L ae
 simp only at L ae
 obtain ⟨_,_,ak,an⟩:=ae
 replace N1:Hid (num8 (sb s) 0 true=(i,p1,k1)):=N1
 refine L.mono ?_
 rintro e u1 ⟨rfl,z,g⟩
 replace v:=(g.block _ (Zao v) (by simp;omega)).trans v
 replace j:=(g.block _ (Zao j) (by simp;omega)).trans j
 replace c:=c.grown g c.size (fun k H=>by cases H;omega)
 replace l:=l.grown g l.size (fun k H=>by cases H;omega)
 clear L g
 go_wp2_with (refine Zad rfl 64 _ _ rfl u1.heap.size #[.int .i64 i,.slice none 0 0,.int .i64 0,.int .i64 0,.int .i64 0,.int .i64 0,.int .i64 0,.int .i64 0,.int .i64 0,.slice none 0 0,.slice none 0 0] rfl rfl 64 #[.int .i64 0,.slice none 0 0,.int .i64 0,.int .i64 0,.int .i64 0,.int .i64 0,.int .i64 0,.int .i64 0,.int .i64 0,.slice none 0 0,.slice none 0 0] (heap_alloc_new _ _) ZmS rfl (by simp [Value.oneCell']) ?_)
 intro u2 b al W aH
 have f:Below u1.heap.size u1 u2:=((Below.refl _ _).alloc (Nat.le_refl _) _).trans al
 have lC:G.heap.size < u1.heap.size:=(bl z)
 replace v:=Zae v f
 replace j:=Zae j f
 replace c:=c.trans (f.mono c.size)
 replace l:=l.trans (f.mono l.size)
 replace z:=Ze5 z f
 clear f al W aH
 generalize u1.heap.size=D at *
 have HT:=ZcU G.heap.size V (sb s) p1 k1 u2 (RR.below l) z (by omega) (by omega)
 have aw:∀ B U k2,txt8 (sb s) p1 k1=(B,U,k2) -> 0 <= U/\U <= (sb s).length/\B.size <= (sb s).length:=fun B U k2 h=>by
  cases k1 with
  | false =>
   simp only [txt8,Bool.false_and,Bool.false_eq_true,if_false,Prod.mk.injEq] at h
   obtain ⟨rfl,rfl,_⟩:=h
   exact ⟨ak,an,by simp [ByteArray.size]⟩
  | true =>
   have:=Zeu (zs:=sb s) ag ak an
   rw [h] at this
   exact ⟨this.1,this.2.1,this.2.2.2⟩
 obtain ⟨tt,N2⟩:∃ n,txt8 (sb s) p1 k1=n:=⟨_,rfl⟩
 obtain ⟨B,U,k2⟩:=tt
 obtain ⟨aE,aD,aN⟩:=aw B U k2 N2
 rw [N2] at HT
 simp only at HT
 replace N2:Hid (txt8 (sb s) p1 k1=(B,U,k2)):=N2
 clear aw
 go_wp2_with fail
 refine HT.mono ?_
 rintro e u3 ⟨rfl,z,g⟩
 replace v:=(g.block _ (Zao v) (by simp;omega)).trans v
 replace j:=(g.block _ (Zao j) (by simp;omega)).trans j
 replace c:=c.grown g c.size (fun k H=>by cases H;omega)
 replace l:=l.grown g l.size (fun k H=>by cases H;omega)
 replace b:=(g.block _ (Zao b) (by simp;omega)).trans b
 clear HT g
 go_wp2_with fail
 refine (Zeh G.heap.size V (sb s) U k2 G u3 RR l (Nat.le_refl _) z aE aD ag (by omega)).mono ?_
 rintro e u4 ⟨vb,A,p3,k3,N3,rfl,⟨ay,az,aP⟩,z,y,g⟩
 obtain ⟨Q,R,rfl⟩:=Zag y
 have T:∀ g,(Value.slice Q A.length R).ownBlock=some g -> g < u4.heap.size:=fun g hg=>(y.lt g hg).2
 replace N3:Hid (tsL (sb s) (num8 (sb s) U k2).1.toNat [] (num8 (sb s) U k2).2.1 (num8 (sb s) U k2).2.2=(A,p3,k3)):=N3
 replace y:=Zah (B':=D+1) y (by have:=Zao b;omega)
 replace v:=(g.block _ (Zao v) (by simp;omega)).trans v
 replace j:=(g.block _ (Zao j) (by simp;omega)).trans j
 replace c:=c.grown g c.size (fun k H=>by cases H;omega)
 replace l:=l.grown g l.size (fun k H=>by cases H;omega)
 replace b:=(g.block _ (Zao b) (by simp;omega)).trans b
 clear g
 go_wp2_with (refine Zaa rfl 62 _ _ rfl D 9 (.slice Q A.length R) #[.slice Q A.length R] rfl rfl rfl rfl 64 #[.int .i64 i,.slice none 0 0,.int .i64 0,.int .i64 0,.int .i64 0,.int .i64 0,.int .i64 0,.int .i64 0,.int .i64 0,.slice none 0 0,.slice none 0 0] #[.int .i64 i,.slice none 0 0,.int .i64 0,.int .i64 0,.int .i64 0,.int .i64 0,.int .i64 0,.int .i64 0,.int .i64 0,.slice Q A.length R,.slice none 0 0] b (by simp) (by kernel_rfl) rfl ?_)
 intro u5 au ah ap S
 replace v:=(S _ (by omega)).trans v
 replace j:=(S _ (by omega)).trans j
 replace z:=ZiC z S (by omega)
 replace y:=ZaE y (ZaG y b (by decide)) S
 replace c:=c.trans (ah.mono (by omega))
 replace l:=l.trans (ah.mono (by omega))
 replace b:=au
 rw [<- ap] at T
 clear au ah ap S
 go_wp2_with fail
 refine (Zeh G.heap.size V (sb s) p3 k3 G u5 RR l (Nat.le_refl _) z ay az ag (by omega)).mono ?_
 rintro e u6 ⟨vo,os,p4,k4,N4,rfl,⟨aU,aT,aO⟩,z,C,g⟩
 obtain ⟨Y,Z,rfl⟩:=Zag C
 have AP:∀ g,(Value.slice Y os.length Z).ownBlock=some g -> (Value.slice Q A.length R).ownBlock ≠ some g:=fun g h3 h2=>by
  have k1:=(C.lt g h3).1
  have k2:=T g h2
  omega
 clear T
 replace N4:Hid (tsL (sb s) (num8 (sb s) p3 k3).1.toNat [] (num8 (sb s) p3 k3).2.1 (num8 (sb s) p3 k3).2.2=(os,p4,k4)):=N4
 replace C:=Zah (B':=D+1) C (by have:=Zao b;omega)
 replace v:=(g.block _ (Zao v) (by simp;omega)).trans v
 replace j:=(g.block _ (Zao j) (by simp;omega)).trans j
 replace c:=c.grown g c.size (fun k H=>by cases H;omega)
 replace l:=l.grown g l.size (fun k H=>by cases H;omega)
 replace b:=(g.block _ (Zao b) (by simp;omega)).trans b
 replace y:=Zcb y (by omega) g
 clear g
 go_wp2_with (refine Zaa rfl 62 _ _ rfl D 10 (.slice Y os.length Z) #[.slice Y os.length Z] rfl rfl rfl rfl 64 #[.int .i64 i,.slice none 0 0,.int .i64 0,.int .i64 0,.int .i64 0,.int .i64 0,.int .i64 0,.int .i64 0,.int .i64 0,.slice Q A.length R,.slice none 0 0] #[.int .i64 i,.slice none 0 0,.int .i64 0,.int .i64 0,.int .i64 0,.int .i64 0,.int .i64 0,.int .i64 0,.int .i64 0,.slice Q A.length R,.slice Y os.length Z] b (by simp) (by kernel_rfl) rfl ?_)
 intro u7 ao af aK O
 replace v:=(O _ (by omega)).trans v
 replace j:=(O _ (by omega)).trans j
 replace z:=ZiC z O (by omega)
 replace y:=ZaE y (ZaG y b (by decide)) O
 replace C:=ZaE C (ZaG C b (by decide)) O
 replace c:=c.trans (af.mono (by omega))
 replace l:=l.trans (af.mono (by omega))
 replace b:=ao
 clear ao af aK O
 obtain ⟨D1,D2⟩:=ZlT (ns:=ns) (is:=is) (ds:=ds) N1.out N2.out N3.out N4.out
 replace D1:Hid (pdR ns is ds (sb s)=if k4 && decide (p4=(sb s).length) then (mrR ns is ds (sb B)).bind fun r=>if Zbr ns is ds i r.1 r.2 A os then some (i,r,A,os) else none else none):=D1
 clear N1 N2 N3 N4
 have HM:=Zir _ _ _ ns is ds B u7 (R1.below c) (R2.below c) (R3.below c) (by omega)
 unfold MrAns at HM
 have HX:(mrL (mrR ns is ds (sb B))).length <= 3000/\∀ x ∈ mrL (mrR ns is ds (sb B)),x.s.size <= maxLen:=by
  cases hm:mrR ns is ds (sb B) with
  | none=>exact ⟨by simp [mrL],by simp [mrL]⟩
  | some r =>
   obtain ⟨xs,m⟩:=r
   have b:=Zi2 hm
   exact ⟨ZaH b,ZbH (ZbO b)⟩
 have D3:(mrR ns is ds (sb B)).isSome=true -> mrR ns is ds (sb B)=some (mrL (mrR ns is ds (sb B)),mrM (mrR ns is ds (sb B))):=fun h=>by
  cases hm:mrR ns is ds (sb B) with
  | none=>rw [hm] at h;cases h
  | some r=>rfl
 have D4:(mrR ns is ds (sb B)).isSome=false -> mrR ns is ds (sb B)=none:=fun h=>by
  cases hm:mrR ns is ds (sb B) with
  | none=>rfl
  | some r=>rw [hm] at h;cases h
 generalize mrL (mrR ns is ds (sb B))=X at *
 generalize mrM (mrR ns is ds (sb B))=M at *
 generalize (mrR ns is ds (sb B)).isSome=mk at *
 go_wp2_with (refine wpList_load_row rfl 44 _ rfl w.heap.size rfl 44 #[.slice a1 ns.length c1,.slice a2 is.length c2,.slice a3 ds.length c3] (0,0) _ v Tryz.underlying44 rfl ZmT ?_)
 refine HM.mono ?_
 rintro e u8 ⟨⟨vm,rfl,K⟩,f⟩
 obtain ⟨am,cm,rfl⟩:=Zag K
 replace K:=Zah (B':=D+1) K (by have:=Zao b;omega)
 replace v:=Zae v f
 replace j:=Zae j f
 replace c:=c.trans (f.mono c.size)
 replace l:=l.trans (f.mono l.size)
 replace z:=Ze5 z f
 replace b:=Zae b f
 replace y:=Zac y f
 replace C:=Zac C f
 clear f HM
 go_wp2_with (refine Zad rfl 61 _ _ rfl u8.heap.size #[.slice am X.length cm,.int .i64 M.p,.int .i64 M.s,.int .i64 M.e,.int .i64 M.d,.int .i64 M.t,.int .i64 M.q,.int .i64 M.r] rfl rfl 61 #[.slice none 0 0,.int .i64 0,.int .i64 0,.int .i64 0,.int .i64 0,.int .i64 0,.int .i64 0,.int .i64 0] (heap_alloc_new _ _) ZmU rfl (by simp [Value.oneCell']) ?_)
 intro u9 ax av aC aB
 have f:Below u8.heap.size u8 u9:=((Below.refl _ _).alloc (Nat.le_refl _) _).trans av
 have aS:D < u8.heap.size:=Zao b
 replace v:=Zae v f
 replace j:=Zae j f
 replace c:=c.trans (f.mono c.size)
 replace l:=l.trans (f.mono l.size)
 replace z:=Ze5 z f
 replace b:=Zae b f
 replace K:=Zac K f
 replace y:=Zac y f
 replace C:=Zac C f
 clear f av aC aB
 generalize u8.heap.size=bq at *
 go_wp2_with (first
  | (refine wpList_load_row rfl 61 _ rfl bq rfl 61 #[.slice am X.length cm,.int .i64 M.p,.int .i64 M.s,.int .i64 M.e,.int .i64 M.d,.int .i64 M.t,.int .i64 M.q,.int .i64 M.r] (0,0) _ ax Tryz.underlying61 rfl ZmU ?_)
  | (refine ZaL rfl 61 _ _ rfl D 1 #[.slice am X.length cm,.int .i64 M.p,.int .i64 M.s,.int .i64 M.e,.int .i64 M.d,.int .i64 M.t,.int .i64 M.q,.int .i64 M.r] rfl rfl 64 #[.int .i64 i,.slice none 0 0,.int .i64 0,.int .i64 0,.int .i64 0,.int .i64 0,.int .i64 0,.int .i64 0,.int .i64 0,.slice Q A.length R,.slice Y os.length Z] #[.int .i64 i,.slice am X.length cm,.int .i64 M.p,.int .i64 M.s,.int .i64 M.e,.int .i64 M.d,.int .i64 M.t,.int .i64 M.q,.int .i64 M.r,.slice Q A.length R,.slice Y os.length Z] b (by simp) ZmU (by simp [Value.oneCell']) rfl ?_))
 intro o aq ai aA J
 replace v:=(J _ (by omega)).trans v
 replace j:=(J _ (by omega)).trans j
 replace z:=ZiC z J (by omega)
 replace K:=ZaE K (ZaG K b (by decide)) J
 replace y:=ZaE y (ZaG y b (by decide)) J
 replace C:=ZaE C (ZaG C b (by decide)) J
 replace c:=c.trans (ai.mono (by omega))
 replace l:=l.trans (ai.mono (by omega))
 replace b:=aq
 clear aq ai aA J ax
 have lx:=Zao j
 have aL:o.cell? ⟨G.heap.size,0+1,none⟩=some (.int .i64 p4):=cell_of_row _ _ 1 _ _ _ z
 have aG:o.cell? ⟨G.heap.size,0+2,none⟩=some (.bool k4):=cell_of_row _ _ 2 _ _ _ z
 cases k4 with
 | false =>
  have L:Hid (pdR ns is ds (sb s)=none):=D1.out
  clear D1 D2 D3 D4
  go_wp2_with (refine Zad rfl 64 _ _ rfl (w.heap.size+1) #[.int .i64 0,.slice none 0 0,.int .i64 0,.int .i64 0,.int .i64 0,.int .i64 0,.int .i64 0,.int .i64 0,.int .i64 0,.slice none 0 0,.slice none 0 0] rfl rfl 64 #[.int .i64 0,.slice none 0 0,.int .i64 0,.int .i64 0,.int .i64 0,.int .i64 0,.int .i64 0,.int .i64 0,.int .i64 0,.slice none 0 0,.slice none 0 0] j ZmS rfl (by simp [Value.oneCell']) ?_)
  intro wB E F aa I
  go_wp2
  refine bodyPost_ret (Zab rfl _ _ (w.heap.size+1) 64 _ (0,0) _ rfl E Tryz.underlying64 rfl ZmS) rfl ⟨PaAns.zero2 L.out,c.trans (F.mono (by omega))⟩
 | true =>
  obtain ⟨zt,zo⟩:=D2 rfl
  by_cases N:p4=(s.size:Int)
  rotate_left
  ·have L:Hid (pdR ns is ds (sb s)=none):=by
    unfold Hid
    rw [D1.out]
    have:decide (p4=((sb s).length:Int))=false:=by simp;omega
    rw [this]
    rfl
   have aR:(p4 != (s.size:Int))=true:=by simp [N]
   clear D1 D2 D3 D4
   go_wp2_with (refine Zad rfl 64 _ _ rfl (w.heap.size+1) #[.int .i64 0,.slice none 0 0,.int .i64 0,.int .i64 0,.int .i64 0,.int .i64 0,.int .i64 0,.int .i64 0,.int .i64 0,.slice none 0 0,.slice none 0 0] rfl rfl 64 #[.int .i64 0,.slice none 0 0,.int .i64 0,.int .i64 0,.int .i64 0,.int .i64 0,.int .i64 0,.int .i64 0,.int .i64 0,.slice none 0 0,.slice none 0 0] j ZmS rfl (by simp [Value.oneCell']) ?_)
   intro wB E F aa I
   go_wp2
   refine bodyPost_ret (Zab rfl _ _ (w.heap.size+1) 64 _ (0,0) _ rfl E Tryz.underlying64 rfl ZmS) rfl ⟨PaAns.zero2 L.out,c.trans (F.mono (by omega))⟩
  have D5:Hid (pdR ns is ds (sb s)=(mrR ns is ds (sb B)).bind fun r=>if Zbr ns is ds i r.1 r.2 A os then some (i,r,A,os) else none):=by
   unfold Hid
   rw [D1.out]
   have:decide (p4=((sb s).length:Int))=true:=by simp;omega
   rw [this]
   rfl
  have aQ:(p4 != (s.size:Int))=false:=by simp [N]
  cases mk with
  | false =>
   have L:Hid (pdR ns is ds (sb s)=none):=by unfold Hid;rw [D5.out,D4 rfl];rfl
   clear D1 D2 D3 D4 D5 N
   go_wp2_with (refine Zad rfl 64 _ _ rfl (w.heap.size+1) #[.int .i64 0,.slice none 0 0,.int .i64 0,.int .i64 0,.int .i64 0,.int .i64 0,.int .i64 0,.int .i64 0,.int .i64 0,.slice none 0 0,.slice none 0 0] rfl rfl 64 #[.int .i64 0,.slice none 0 0,.int .i64 0,.int .i64 0,.int .i64 0,.int .i64 0,.int .i64 0,.int .i64 0,.int .i64 0,.slice none 0 0,.slice none 0 0] j ZmS rfl (by simp [Value.oneCell']) ?_)
   intro wB E F aa I
   go_wp2
   refine bodyPost_ret (Zab rfl _ _ (w.heap.size+1) 64 _ (0,0) _ rfl E Tryz.underlying64 rfl ZmS) rfl ⟨PaAns.zero2 L.out,c.trans (F.mono (by omega))⟩
  | true =>
   have HD:Hid (pdR ns is ds (sb s)=if Zbr ns is ds i X M A os then some (i,(X,M),A,os) else none):=by unfold Hid;rw [D5.out,D3 rfl];rfl
   clear D1 D2 D3 D4 D5 N
   have c0:o.cell? ⟨w.heap.size,0,none⟩=some (.slice a1 ns.length c1):=cell_of_row o _ 0 _ _ _ v
   have aJ:o.cell? ⟨w.heap.size,0+1,none⟩=some (.slice a2 is.length c2):=cell_of_row o _ 1 _ _ _ v
   have aF:o.cell? ⟨w.heap.size,0+2,none⟩=some (.slice a3 ds.length c3):=cell_of_row o _ 2 _ _ _ v
   have e0:o.cell? ⟨D,0,none⟩=some (.int .i64 i):=cell_of_row o _ 0 _ _ _ b
   have e1:o.cell? ⟨D,0+1,none⟩=some (.slice am X.length cm):=cell_of_row o _ 1 _ _ _ b
   have e2:o.cell? ⟨D,0+2,none⟩=some (.int .i64 M.p):=cell_of_row o _ 2 _ _ _ b
   have e3:o.cell? ⟨D,0+3,none⟩=some (.int .i64 M.s):=cell_of_row o _ 3 _ _ _ b
   have e4:o.cell? ⟨D,0+4,none⟩=some (.int .i64 M.e):=cell_of_row o _ 4 _ _ _ b
   have e5:o.cell? ⟨D,0+5,none⟩=some (.int .i64 M.d):=cell_of_row o _ 5 _ _ _ b
   have e6:o.cell? ⟨D,0+6,none⟩=some (.int .i64 M.t):=cell_of_row o _ 6 _ _ _ b
   have e7:o.cell? ⟨D,0+7,none⟩=some (.int .i64 M.q):=cell_of_row o _ 7 _ _ _ b
   have e8:o.cell? ⟨D,0+8,none⟩=some (.int .i64 M.r):=cell_of_row o _ 8 _ _ _ b
   have e9:o.cell? ⟨D,0+9,none⟩=some (.slice Q A.length R):=cell_of_row o _ 9 _ _ _ b
   have aI:o.cell? ⟨D,0+10,none⟩=some (.slice Y os.length Z):=cell_of_row o _ 10 _ _ _ b
   have OK:=Zdy _ _ _ _ _ _ ns is ds i X M A os o (R1.below c) (R2.below c) (R3.below c) (NRow.of_own K (by omega) HX.2) (StRow.of_own y (by omega) (fun x hx=>by have:=zt x hx;unfold maxLen;omega)) (StRow.of_own C (by omega) (fun x hx=>by have:=zo x hx;unfold maxLen;omega)) (fun x hx=>by have:=zt x hx;omega)
   go_wp2_with fail
   refine OK.mono ?_
   rintro e uC ⟨rfl,f⟩
   replace j:=Zae j f
   replace b:=Zae b f
   replace K:=Zac K f
   replace y:=Zac y f
   replace C:=Zac C f
   replace c:=c.trans (f.mono c.size)
   replace lx:=Zao j
   clear f OK c0 aJ aF e0 e1 e2 e3 e4 e5 e6 e7 e8 e9 aI aL aG
   cases hP:Zbr ns is ds i X M A os with
   | false =>
    have L:Hid (pdR ns is ds (sb s)=none):=by unfold Hid;rw [HD.out,hP];rfl
    go_wp2_with (refine Zad rfl 64 _ _ rfl (w.heap.size+1) #[.int .i64 0,.slice none 0 0,.int .i64 0,.int .i64 0,.int .i64 0,.int .i64 0,.int .i64 0,.int .i64 0,.int .i64 0,.slice none 0 0,.slice none 0 0] rfl rfl 64 #[.int .i64 0,.slice none 0 0,.int .i64 0,.int .i64 0,.int .i64 0,.int .i64 0,.int .i64 0,.int .i64 0,.int .i64 0,.slice none 0 0,.slice none 0 0] j ZmS rfl (by simp [Value.oneCell']) ?_)
    intro wB E F aa I
    go_wp2
    refine bodyPost_ret (Zab rfl _ _ (w.heap.size+1) 64 _ (0,0) _ rfl E Tryz.underlying64 rfl ZmS) rfl ⟨PaAns.zero2 L.out,c.trans (F.mono (by omega))⟩
   | true =>
    have L:Hid (pdR ns is ds (sb s)=some (i,(X,M),A,os)):=by unfold Hid;rw [HD.out,hP];rfl
    go_wp2_with (first
     | (refine wpList_load_row rfl 64 _ rfl D rfl 64 #[.int .i64 i,.slice am X.length cm,.int .i64 M.p,.int .i64 M.s,.int .i64 M.e,.int .i64 M.d,.int .i64 M.t,.int .i64 M.q,.int .i64 M.r,.slice Q A.length R,.slice Y os.length Z] (0,0) _ b Tryz.underlying64 rfl ZmS ?_)
     | (refine Zad rfl 64 _ _ rfl (w.heap.size+1) #[.int .i64 i,.slice am X.length cm,.int .i64 M.p,.int .i64 M.s,.int .i64 M.e,.int .i64 M.d,.int .i64 M.t,.int .i64 M.q,.int .i64 M.r,.slice Q A.length R,.slice Y os.length Z] rfl rfl 64 #[.int .i64 0,.slice none 0 0,.int .i64 0,.int .i64 0,.int .i64 0,.int .i64 0,.int .i64 0,.int .i64 0,.int .i64 0,.slice none 0 0,.slice none 0 0] j ZmS rfl (by simp [Value.oneCell']) ?_))
    intro wB E F aa I
    replace K:=Zah (B':=w.heap.size) (Zak K (by omega) I) (by omega)
    replace y:=Zah (B':=w.heap.size) (Zak y (by omega) I) (by omega)
    replace C:=Zah (B':=w.heap.size) (Zak C (by omega) I) (by omega)
    go_wp2
    refine bodyPost_ret (Zab rfl _ _ (w.heap.size+1) 64 _ (0,0) _ rfl E Tryz.underlying64 rfl ZmS) rfl ⟨⟨i,X,M,A,os,true,_,_,_,by rw [L.out];rfl,rfl,K,y,C,AP⟩,c.trans (F.mono (by omega))⟩
theorem ZeB (v1 v2 v3:Value)(ns:List Nd)(is:List In)(ds:List Df)(s:ByteArray)(w:World)(T:NRow w v1 ns)(H:InRow w v2 is)(L:DfRow w v3 ds)(hs:s.size <= 1048576)(hg:ErrT w) :
  Calls Tryz.prog 131 #[.agg #[v1,v2,v3],.string s] w fun e w'=>PaAns w.heap.size (pdT (pdR ns is ds (sb s))) e w'/\Below w.heap.size w w':=by
 obtain ⟨a1,c1,rfl⟩:=T.small
 obtain ⟨a2,c2,rfl⟩:=H.small
 obtain ⟨a3,c3,rfl⟩:=L.small
 have ab:=ZaJ s
 obtain ⟨b,y,m⟩:=Zav w (Obj.cells #[.slice a1 ns.length c1,.slice a2 is.length c2,.slice a3 ds.length c3] 44) (Obj.cells #[.int .i64 0,.slice none 0 0,.int .i64 0,.int .i64 0,.int .i64 0,.int .i64 0,.int .i64 0,.int .i64 0,.int .i64 0,.slice none 0 0,.slice none 0 0] 64)
 go_enter Tryz.func131,Tryz.ntmps131
 go_wp2_with fail
 refine Zly w.heap.size _ _ _ s (paT ns is ds (Zck (sb s))) _ _ y (by omega) (fun vr W0 P W RR k N F z=>Zjx vr (sb s) W0 W P _ _ _ ns is ds RR N F z (T.below (b.trans (k.mono b.size))) (H.below (b.trans (k.mono b.size))) (L.below (b.trans (k.mono b.size))) (hg.below (b.trans (k.mono b.size)) (Nat.le_refl _)) (by omega)) ?_
 intro _ _ _ _ _ _ _ f I X M l n ok J Q S E R O a C g c eT o v u AP
 obtain ⟨V,K,zb,zo,⟨lX,zX⟩,lB,lO⟩:=Zmq eT
 replace y:=Zae y g
 replace m:=Zae m g
 have aa:w.heap.size+2 <= f:=by simpa using C
 replace o:=Zah (B':=w.heap.size+2) o (by simp)
 replace v:=Zah (B':=w.heap.size+2) v (by simp)
 replace u:=Zah (B':=w.heap.size+2) u (by simp)
 replace b:=b.trans (g.mono b.size)
 clear g C eT
 have ly:=Zao m
 cases ok with
 | false =>
  have D:Hid (pdR ns is ds (sb s)=none):=V rfl
  clear V K
  go_wp2_with (refine Zad rfl 64 _ _ rfl (w.heap.size+1) #[.int .i64 0,.slice none 0 0,.int .i64 0,.int .i64 0,.int .i64 0,.int .i64 0,.int .i64 0,.int .i64 0,.int .i64 0,.slice none 0 0,.slice none 0 0] rfl rfl 64 #[.int .i64 0,.slice none 0 0,.int .i64 0,.int .i64 0,.int .i64 0,.int .i64 0,.int .i64 0,.int .i64 0,.int .i64 0,.slice none 0 0,.slice none 0 0] m ZmS rfl (by simp [Value.oneCell']) ?_)
  intro wB j i A h
  go_wp2
  refine bodyPost_ret (Zab rfl _ _ (w.heap.size+1) 64 _ (0,0) _ rfl j Tryz.underlying64 rfl ZmS) rfl ⟨PaAns.zero2 D.out,b.trans (i.mono (by omega))⟩
 | true =>
  have HD:Hid (pdR ns is ds (sb s)=if Zbr ns is ds I X M l n then some (I,(X,M),l,n) else none):=K rfl
  have c0:a.cell? ⟨w.heap.size,0,none⟩=some (.slice a1 ns.length c1):=cell_of_row a _ 0 _ _ _ y
  have U:a.cell? ⟨w.heap.size,0+1,none⟩=some (.slice a2 is.length c2):=cell_of_row a _ 1 _ _ _ y
  have G:a.cell? ⟨w.heap.size,0+2,none⟩=some (.slice a3 ds.length c3):=cell_of_row a _ 2 _ _ _ y
  have k0:a.cell? ⟨f,0,none⟩=some (.int .i64 I):=cell_of_row a _ 0 _ _ _ c
  have k1:a.cell? ⟨f,0+1,none⟩=some (.slice J X.length E):=cell_of_row a _ 1 _ _ _ c
  have k2:a.cell? ⟨f,0+2,none⟩=some (.int .i64 M.p):=cell_of_row a _ 2 _ _ _ c
  have k3:a.cell? ⟨f,0+3,none⟩=some (.int .i64 M.s):=cell_of_row a _ 3 _ _ _ c
  have k4:a.cell? ⟨f,0+4,none⟩=some (.int .i64 M.e):=cell_of_row a _ 4 _ _ _ c
  have k5:a.cell? ⟨f,0+5,none⟩=some (.int .i64 M.d):=cell_of_row a _ 5 _ _ _ c
  have k6:a.cell? ⟨f,0+6,none⟩=some (.int .i64 M.t):=cell_of_row a _ 6 _ _ _ c
  have k7:a.cell? ⟨f,0+7,none⟩=some (.int .i64 M.q):=cell_of_row a _ 7 _ _ _ c
  have k8:a.cell? ⟨f,0+8,none⟩=some (.int .i64 M.r):=cell_of_row a _ 8 _ _ _ c
  have k9:a.cell? ⟨f,0+9,none⟩=some (.slice Q l.length R):=cell_of_row a _ 9 _ _ _ c
  have Y:a.cell? ⟨f,0+10,none⟩=some (.slice S n.length O):=cell_of_row a _ 10 _ _ _ c
  have Z:=ZdE _ _ _ _ _ _ ns is ds I X M l n a (T.below b) (H.below b) (L.below b) (NRow.of_own o (by omega) zX) (StRow.of_own v (by omega) (fun x B=>by have:=zb x B;unfold maxLen;omega)) (StRow.of_own u (by omega) (fun x B=>by have:=zo x B;unfold maxLen;omega)) (fun x B=>by have:=zb x B;omega) (hg.below b (Nat.le_refl _))
  clear V K
  go_wp2_with fail
  refine Z.mono ?_
  rintro e w3 ⟨rfl,g⟩
  replace m:=Zae m g
  replace c:=Zae c g
  replace o:=Zac o g
  replace v:=Zac v g
  replace u:=Zac u g
  replace b:=b.trans (g.mono b.size)
  clear g Z y c0 U G k0 k1 k2 k3 k4 k5 k6 k7 k8 k9 Y
  replace ly:=Zao m
  cases hP:Zbr ns is ds I X M l n with
  | false =>
   have D:Hid (pdR ns is ds (sb s)=none):=by unfold Hid;rw [HD.out,hP];rfl
   go_wp2_with (refine Zad rfl 64 _ _ rfl (w.heap.size+1) #[.int .i64 0,.slice none 0 0,.int .i64 0,.int .i64 0,.int .i64 0,.int .i64 0,.int .i64 0,.int .i64 0,.int .i64 0,.slice none 0 0,.slice none 0 0] rfl rfl 64 #[.int .i64 0,.slice none 0 0,.int .i64 0,.int .i64 0,.int .i64 0,.int .i64 0,.int .i64 0,.int .i64 0,.int .i64 0,.slice none 0 0,.slice none 0 0] m ZmS rfl (by simp [Value.oneCell']) ?_)
   intro wB j i A h
   go_wp2
   refine bodyPost_ret (Zab rfl _ _ (w.heap.size+1) 64 _ (0,0) _ rfl j Tryz.underlying64 rfl ZmS) rfl ⟨PaAns.zero2 D.out,b.trans (i.mono (by omega))⟩
  | true =>
   have D:Hid (pdR ns is ds (sb s)=some (I,(X,M),l,n)):=by unfold Hid;rw [HD.out,hP];rfl
   go_wp2_with (first
    | (refine wpList_load_row rfl 64 _ rfl f rfl 64 #[.int .i64 I,.slice J X.length E,.int .i64 M.p,.int .i64 M.s,.int .i64 M.e,.int .i64 M.d,.int .i64 M.t,.int .i64 M.q,.int .i64 M.r,.slice Q l.length R,.slice S n.length O] (0,0) _ c Tryz.underlying64 rfl ZmS ?_)
    | (refine Zad rfl 64 _ _ rfl (w.heap.size+1) #[.int .i64 I,.slice J X.length E,.int .i64 M.p,.int .i64 M.s,.int .i64 M.e,.int .i64 M.d,.int .i64 M.t,.int .i64 M.q,.int .i64 M.r,.slice Q l.length R,.slice S n.length O] rfl rfl 64 #[.int .i64 0,.slice none 0 0,.int .i64 0,.int .i64 0,.int .i64 0,.int .i64 0,.int .i64 0,.int .i64 0,.int .i64 0,.slice none 0 0,.slice none 0 0] m ZmS rfl (by simp [Value.oneCell']) ?_))
   intro wB j i A h
   replace o:=Zah (B':=w.heap.size) (Zak o (by omega) h) (by omega)
   replace v:=Zah (B':=w.heap.size) (Zak v (by omega) h) (by omega)
   replace u:=Zah (B':=w.heap.size) (Zak u (by omega) h) (by omega)
   go_wp2
   refine bodyPost_ret (Zab rfl _ _ (w.heap.size+1) 64 _ (0,0) _ rfl j Tryz.underlying64 rfl ZmS) rfl ⟨⟨I,X,M,l,n,true,_,_,_,by rw [D.out];rfl,rfl,o,v,u,AP⟩,b.trans (i.mono (by omega))⟩
theorem Zi1 {a b:Int}(h:a=b):Ending.returned (.int .i64 a)=.returned (.int .i64 b):=by rw [h]
theorem Zll (r:Option (Int × Int × ByteArray)):∃ k p t ok,mrA r=.tuple #[.int .i64 k,.int .i64 p,.string t,.bool ok]/\(ok=false -> r=none/\k=0)/\(ok=true -> r=some (k,p,t)):=by
 cases r with
 | none=>exact ⟨_,_,_,false,rfl,(fun _=>⟨rfl,rfl⟩),(fun h=>by cases h)⟩
 | some q=>exact ⟨_,_,_,true,rfl,(fun h=>by cases h),fun _=>rfl⟩
def MbAns (d:Wd)(s:ByteArray)(e:Ending):Prop:=∃ (ok:Bool) (I:Int),e=.returned (.tuple #[.int .i64 I,.bool ok])/\(ok=true -> movN d.ns d.is d.ds s=I/\1 <= I)/\(ok=false -> movN d.ns d.is d.ds s=0)
theorem MbAns.no {d:Wd}{s:ByteArray}{e:Ending}(a:e=.returned (.tuple #[.int .i64 0,.bool false]))(h:movN d.ns d.is d.ds s=0):MbAns d s e:=⟨false,0,a,(fun h=>by cases h),fun _=>h⟩
theorem MbAns.yes {d:Wd}{s:ByteArray}{e:Ending}{I:Int}(b:e=.returned (.tuple #[.int .i64 I,.bool true]))(h:movN d.ns d.is d.ds s=I)(a:1 <= I):MbAns d s e:=⟨true,I,b,(fun _=>⟨h,a⟩),(fun h=>by cases h)⟩
theorem Zc3 (Z vi vf vh vl vg vp va vt:Value)(d:Wd)(s:ByteArray)(B:Nat)(w:World)(R:WR B w Z vi vf vh vl vg vp va vt d)(hs:s.size <= 1048576) :
  Calls Tryz.prog 17 #[.agg #[Z,vi,vf,.int .i64 d.pl,vh,vl,vg,vp,.int .i64 d.nx,va,vt],.string s] w fun e w'=>e=.returned (.int .i64 (movN d.ns d.is d.ds s))/\Below w.heap.size w w':=by
 have L:=R
 obtain ⟨⟨j,x,rfl⟩,⟨o,n,rfl⟩,⟨v,m,rfl⟩,⟨A,F,rfl⟩,⟨K,z,rfl⟩,⟨E,O,rfl⟩,⟨V,J,rfl⟩,⟨H,G,rfl⟩,⟨P,C,rfl⟩⟩:=R.form
 clear R
 have a:=Zap w (Obj.cells #[.slice j d.ns.length x,.slice o d.is.length n,.slice v d.ds.length m,.int .i64 d.pl,.slice A d.hs.length F,.slice K d.ls.length z,.slice E d.gs.length O,.slice V d.ps.length J,.int .i64 d.nx,.slice H d.ga.length G,.slice P d.tk.length C] 50)
 have b:=heap_alloc_new w (Obj.cells #[.slice j d.ns.length x,.slice o d.is.length n,.slice v d.ds.length m,.int .i64 d.pl,.slice A d.hs.length F,.slice K d.ls.length z,.slice E d.gs.length O,.slice V d.ps.length J,.int .i64 d.nx,.slice H d.ga.length G,.slice P d.tk.length C] 50)
 have ac:=ZaJ s
 go_enter Tryz.func17,Tryz.ntmps17
 go_wp2_with fail
 generalize w.alloc (Obj.cells #[.slice j d.ns.length x,.slice o d.is.length n,.slice v d.ds.length m,.int .i64 d.pl,.slice A d.hs.length F,.slice K d.ls.length z,.slice E d.gs.length O,.slice V d.ps.length J,.int .i64 d.nx,.slice H d.ga.length G,.slice P d.tk.length C] 50)=w0 at *
 refine (ZhW s _ hs).mono ?_
 rintro e w1 ⟨rfl,f⟩
 obtain ⟨k,p,t,ok,hr,S,N⟩:=Zll (mrd (sb s))
 rw [hr]
 replace b:=Zae b f
 replace a:=a.trans (f.mono a.size)
 clear f hr
 cases ok with
 | false =>
  have i:Hid (movN d.ns d.is d.ds s=0):=ZfL (S rfl).1
  clear S N b
  go_wp2
  go_ret
  exact ⟨Zi1 i.out.symm,a⟩
 | true =>
  have g:=N rfl
  have HM:Hid (mrd (sb s)=some (k,p,t)):=g
  clear S N
  by_cases Q:k=2
  ·subst Q
   have T:t.size <= 1048576:=by have:=Zg8 g;omega
   have u:Hid (movN d.ns d.is d.ds s=(pdT (pdR d.ns d.is d.ds (sb t))).1):=Zfd g
   clear g
   go_wp2_with (refine Zam rfl 44 _ rfl w.heap.size 0 rfl _ 50 #[.slice j d.ns.length x,.slice o d.is.length n,.slice v d.ds.length m] _ b rfl Tryz.underlying44 rfl ZmP ?_)
   refine (ZeC _ _ _ d.ns d.is d.ds t _ (L.rn.below a) (L.ri.below a) (L.rf.below a) T).mono ?_
   rintro e l ⟨⟨I,X,M,BX,OX,ok,y1,y2,y3,D,rfl,W,O2,Y,_⟩,f⟩
   obtain ⟨p1,q1,rfl⟩:=Zag W
   obtain ⟨p2,q2,rfl⟩:=Zag O2
   obtain ⟨p3,q3,rfl⟩:=Zag Y
   have c:=Zgg D
   rw [D] at u
   replace a:=a.trans (f.mono a.size)
   clear f D W O2 Y b
   go_wp2_with (refine Zai rfl 64 _ _ rfl l.heap.size #[.int .i64 I,.slice p1 X.length q1,.int .i64 M.p,.int .i64 M.s,.int .i64 M.e,.int .i64 M.d,.int .i64 M.t,.int .i64 M.q,.int .i64 M.r,.slice p2 BX.length q2,.slice p3 OX.length q3] rfl rfl 64 _ (heap_alloc_new _ _) ZmS rfl (by simp [Value.oneCell']) ?_)
   intro U hv h y
   have f:Below l.heap.size l U:=((Below.refl _ _).alloc (Nat.le_refl _) _).trans h
   replace a:=a.trans (f.mono a.size)
   have c0:U.cell? ⟨l.heap.size,0,none⟩=some (.int .i64 I):=cell_of_row U _ 0 _ _ _ hv
   clear f h y hv
   cases ok with
   | false =>
    have i:Hid (movN d.ns d.is d.ds s=0):=by unfold Hid;rw [u.out];exact c.2 rfl
    clear u c
    go_wp2
    go_ret
    exact ⟨Zi1 i.out.symm,a⟩
   | true =>
    clear c
    go_wp2
    go_ret
    exact ⟨Zi1 u.out.symm,a⟩
  ·have i:Hid (movN d.ns d.is d.ds s=0):=Zd8 g Q
   have ad:(k != 2)=true:=by simpa using Q
   clear g b HM
   go_wp2
   go_ret
   exact ⟨Zi1 i.out.symm,a⟩
theorem Zfg (vn vi vf vh vl vg vp va vt:Value)(d:Wd)(s:ByteArray)(B:Nat)(w:World)(R:WR B w vn vi vf vh vl vg vp va vt d)(hs:s.size <= 1048576)(hE:ErrT w) :
  Calls Tryz.prog 100 #[.agg #[vn,vi,vf,.int .i64 d.pl,vh,vl,vg,vp,.int .i64 d.nx,va,vt],.string s] w fun e w'=>MbAns d s e/\Below w.heap.size w w':=by
 have N:=R
 obtain ⟨⟨l,y,rfl⟩,⟨u,o,rfl⟩,⟨x,n,rfl⟩,⟨C,G,rfl⟩,⟨L,A,rfl⟩,⟨F,P,rfl⟩,⟨W,K,rfl⟩,⟨J,H,rfl⟩,⟨Q,D,rfl⟩⟩:=R.form
 clear R
 have a:=Zap w (Obj.cells #[.slice l d.ns.length y,.slice u d.is.length o,.slice x d.ds.length n,.int .i64 d.pl,.slice C d.hs.length G,.slice L d.ls.length A,.slice F d.gs.length P,.slice W d.ps.length K,.int .i64 d.nx,.slice J d.ga.length H,.slice Q d.tk.length D] 50)
 have c:=heap_alloc_new w (Obj.cells #[.slice l d.ns.length y,.slice u d.is.length o,.slice x d.ds.length n,.int .i64 d.pl,.slice C d.hs.length G,.slice L d.ls.length A,.slice F d.gs.length P,.slice W d.ps.length K,.int .i64 d.nx,.slice J d.ga.length H,.slice Q d.tk.length D] 50)
 have ac:=ZaJ s
 go_enter Tryz.func100,Tryz.ntmps100
 go_wp2_with fail
 generalize w.alloc (Obj.cells #[.slice l d.ns.length y,.slice u d.is.length o,.slice x d.ds.length n,.int .i64 d.pl,.slice C d.hs.length G,.slice L d.ls.length A,.slice F d.gs.length P,.slice W d.ps.length K,.int .i64 d.nx,.slice J d.ga.length H,.slice Q d.tk.length D] 50)=w0 at *
 refine (ZhU s _ hs).mono ?_
 rintro e w1 ⟨rfl,f⟩
 obtain ⟨k,q,t,ok,hr,T,O⟩:=Zll (mrd (sb s))
 rw [hr]
 replace c:=Zae c f
 replace a:=a.trans (f.mono a.size)
 clear f hr
 cases ok with
 | false =>
  obtain ⟨g,rfl⟩:=T rfl
  have i:Hid (movN d.ns d.is d.ds s=0):=ZfL g
  clear T O c g
  go_wp2
  exact bodyPost_ret (results_tmp2 rfl _ _ _) rfl ⟨MbAns.no rfl i.out,a⟩
 | true =>
  have j:=O rfl
  clear T O
  by_cases S:k=2
  ·subst S
   have U:t.size <= 1048576:=by have:=Zg8 j;omega
   have v:Hid (movN d.ns d.is d.ds s=(pdT (pdR d.ns d.is d.ds (sb t))).1):=Zfd j
   clear j
   go_wp2_with (refine Zam rfl 44 _ rfl w.heap.size 0 rfl _ 50 #[.slice l d.ns.length y,.slice u d.is.length o,.slice x d.ds.length n] _ c rfl Tryz.underlying44 rfl ZmP ?_)
   refine (ZeB _ _ _ d.ns d.is d.ds t _ (N.rn.below a) (N.ri.below a) (N.rf.below a) U (hE.below a (Nat.le_refl _))).mono ?_
   rintro e m ⟨⟨I,X,M,BX,OX,ok,y1,y2,y3,E,rfl,Y,O2,Z,_⟩,f⟩
   obtain ⟨p1,q1,rfl⟩:=Zag Y
   obtain ⟨p2,q2,rfl⟩:=Zag O2
   obtain ⟨p3,q3,rfl⟩:=Zag Z
   have b:=Zgg E
   rw [E] at v
   replace a:=a.trans (f.mono a.size)
   clear f E Y O2 Z c
   go_wp2_with (refine Zai rfl 64 _ _ rfl m.heap.size #[.int .i64 I,.slice p1 X.length q1,.int .i64 M.p,.int .i64 M.s,.int .i64 M.e,.int .i64 M.d,.int .i64 M.t,.int .i64 M.q,.int .i64 M.r,.slice p2 BX.length q2,.slice p3 OX.length q3] rfl rfl 64 _ (heap_alloc_new _ _) ZmS rfl (by simp [Value.oneCell']) ?_)
   intro V hv h z
   have f:Below m.heap.size m V:=((Below.refl _ _).alloc (Nat.le_refl _) _).trans h
   replace a:=a.trans (f.mono a.size)
   have c0:V.cell? ⟨m.heap.size,0,none⟩=some (.int .i64 I):=cell_of_row V _ 0 _ _ _ hv
   clear f h z hv
   cases ok with
   | false =>
    have i:Hid (movN d.ns d.is d.ds s=0):=by unfold Hid;rw [v.out];exact b.2 rfl
    obtain rfl:I=0:=b.2 rfl
    clear v b
    go_wp2
    exact bodyPost_ret (results_tmp2 rfl _ _ _) rfl ⟨MbAns.no rfl i.out,a⟩
   | true =>
    have h1:=b.1 rfl
    clear b
    go_wp2
    exact bodyPost_ret (results_tmp2 rfl _ _ _) rfl ⟨MbAns.yes rfl v.out h1,a⟩
  ·have i:Hid (movN d.ns d.is d.ds s=0):=Zd8 j S
   have ad:(k != 2)=true:=by simpa using S
   clear j c
   go_wp2
   exact bodyPost_ret (results_tmp2 rfl _ _ _) rfl ⟨MbAns.no rfl i.out,a⟩
end Go.Proofs.YtfeodlbpnghakaaGreatDoor
