/-
  Texts that stood by themselves, laid into one.
-/
import Derived.Test.YtfeodlbpnghakaaGreatDoorMcTM
import Derived.Test.YtfeodlbpnghakaaGreatDoorRcWhyM
import Derived.Test.YtfeodlbpnghakaaGreatDoorMach2M
import Derived.Test.YtfeodlbpnghakaaGreatDoorMark2M
import Derived.Test.YtfeodlbpnghakaaGreatDoorShapeM
import Derived.Test.YtfeodlbpnghakaaGreatDoorNumberM
import Derived.Test.YtfeodlbpnghakaaGreatDoorSPTextM
import Derived.Test.YtfeodlbpnghakaaGreatDoorSGTextM
import Derived.LaidEql
import Derived.Stop.Asserts
import Derived.RowKitTokens
import Derived.Test.YtfeodlbpnghakaaGreatDoorIWire2M
/-
  When what is read of bytes is a value: plain mathematics. Both ways of asking whether nothing else is there come to the same. No condition.
-/
set_option maxRecDepth 100000
set_option maxHeartbeats 4000000
namespace Go.Proofs.YtfeodlbpnghakaaGreatDoor
open Go.RowKit
theorem Zkt (a:List Nd)(b:List Bool)(k:Nat)(h:(its a b k).length=a.length):∀ i,i < a.length -> b.getD (k+i) false=true:=by
 induction a generalizing k with
 | nil=>intro i hi;simp at hi
 | cons x a ih =>
  have c:=Zjz a b (k+1)
  simp only [its] at h
  split at h
  ·rename_i d
   simp only [List.length_cons,Nat.add_right_cancel_iff] at h
   intro i hi
   cases i with
   | zero=>exact d
   | succ i=>rw [show k+(i+1)=k+1+i by omega];exact ih (k+1) h i (by simpa using hi)
  ·simp at h;omega
def allR (xs:List Nd)(rs:List Int):Bool:=!(Zau xs rs).contains false
theorem Zg0 (a:List Nd)(rs:List Int):allR a rs=true <-> ∀ i,i < a.length -> (Zau a rs).getD i false=true:=by
 unfold allR
 rw [Bool.not_eq_true',<- Bool.not_eq_true,List.contains_iff_mem]
 constructor
 ·intro h i hi
  rw [List.getD_eq_getElem?_getD,List.getElem?_eq_getElem (by rw [Zbc];exact hi)]
  cases c:(Zau a rs)[i]'(by rw [Zbc];exact hi) with
  | true=>rfl
  | false=>exact absurd (by rw [<- c];exact List.getElem_mem _) h
 ·intro h b
  obtain ⟨i,hi,d⟩:=List.getElem_of_mem b
  have:=h i (by rw [<- Zbc a rs];exact hi)
  rw [List.getD_eq_getElem?_getD,List.getElem?_eq_getElem hi,d] at this
  cases this
theorem ZdU (a:List Nd)(rs:List Int)(b:Zas a=true)(d:allI a rs=true):ZbD (mvN 0 a rs)=ZbD a <-> allR a rs=true:=by
 rw [Zg0]
 have f:=ZaH b
 constructor
 ·intro h
  have g:=Zga 0 a rs
  have e:((mvN 0 a rs).length:Int)=(a.length:Int):=Zft (by omega) (by omega) (by omega) (by omega) h
  have c:(its a (Zau a rs) 0).length=a.length:=by
   have:(mvN 0 a rs).length=(its a (Zau a rs) 0).length:=(Zdm _ _ _).1
   omega
  intro i hi
  have:=Zkt a (Zau a rs) 0 c i hi
  rwa [Nat.zero_add] at this
 ·intro h
  rw [(ZfB a rs b d h).1]
def vrR (zs:List Int):Option (List Nd) :=
 (rdP zs 0).bind fun q=>if q.2=zs.length/\q.1 ≠ []/\allR q.1 [(q.1.length:Int) - 1]=true then some q.1 else none
theorem Zf1 {a:List Nd}(h:a ≠ []):allI a [(a.length:Int) - 1]=true:=by
 have:=List.length_pos_iff.2 h
 simp [allI,hasI]
 omega
theorem ZkQ (zs:List Int)(g:∀ z ∈ zs,0 <= z/\z <= 255)(c:List Nd):vrR zs=some c <-> (sOk zs 0 true=true/\(sP zs 0 true).1=c)/\c ≠ []/\ZbD (mvN 0 c [(c.length:Int) - 1])=zs:=by
 rw [Zlr]
 unfold vrR
 rw [Option.bind_eq_some_iff]
 constructor
 ·rintro ⟨⟨ys,b⟩,d,a⟩
  split at a
  ·rename_i i
   cases a
   obtain ⟨c1,c2,c3⟩:=i
   simp only at c1 c2 c3
   subst c1
   obtain ⟨f,e⟩:=Zg2 g d
   exact ⟨d,c2,((ZdU ys _ f (Zf1 c2)).2 c3).trans e⟩
  ·cases a
 ·rintro ⟨d,a,h⟩
  obtain ⟨f,e⟩:=Zg2 g d
  refine ⟨_,d,?_⟩
  rw [if_pos ⟨rfl,a,(ZdU c _ f (Zf1 a)).1 (h.trans e.symm)⟩]
def vb (zs:List Bool):List Value:=zs.map .bool
theorem ZcC (zs:List Bool)(i:Nat)(h:i < zs.length):(vb zs)[i]? = some (.bool (zs.getD i false)):=by simp [vb,List.getD,h]
theorem Zea (zs:List Bool)(i:Nat)(z:Bool):(vb zs).set i (.bool z)=vb (zs.set i z):=by simp [vb,List.map_set]
def BRow (w:World)(v:Value)(zs:List Bool):Prop :=
 ∃ ao cap,v=.slice ao zs.length cap/\(zs.length <= cap/\(ao=none -> cap=0))/\zs.length <= 9223372036854775807/\(zs ≠ [] -> ∃ g o,ao=some ⟨g,o,none⟩/\g < w.heap.size/\∀ i,i < zs.length -> w.cell? ⟨g,o+i,none⟩=some (.bool (zs.getD i false)))
theorem BRow.below {w f:World}{v:Value}{zs:List Bool}(h:BRow w v zs)(d:Below w.heap.size w f):BRow f v zs:=by
 obtain ⟨l,c,rfl,k,j,a⟩:=h
 refine ⟨l,c,rfl,k,j,fun b=>?_⟩
 obtain ⟨g,o,rfl,e,a⟩:=a b
 exact ⟨g,o,rfl,Nat.lt_of_lt_of_le e d.size,fun i hi=>(d.cell (p:=⟨g,o+i,none⟩) e).trans (a i hi)⟩
theorem BRow.of_own {w:World}{base:Nat}{v:Value}{zs:List Bool}(h:w.ownsRow base 4 1 v zs.length (vb zs))(e:zs.length <= 9223372036854775807):BRow w v zs:=by
 rcases h.2 with ⟨rfl,d⟩ | ⟨g,b,cur,rfl,l,f,c,j,k,a⟩
 ·have:zs=[]:=List.eq_nil_of_length_eq_zero d
  subst this
  exact ⟨none,0,rfl,by simp,by simp,fun h=>absurd rfl h⟩
 ·refine ⟨_,b,rfl,⟨c,fun h=>by cases h⟩,e,fun _=>⟨g,0,rfl,(bl f),fun i hi=>?_⟩⟩
  have:=h.cellAt i (by omega)
  rw [Nat.zero_add,this,ZcC zs i hi]
def mk3 (k:Int):Bool:=k % 3 == 0
def Zmy (k:Int)(zs:List Bool)(i:Nat):List Bool:=(List.range i).map (fun (j:Nat)=>mk3 (k+(j:Int))) ++ zs.drop i
theorem Zm8:(Tryz.prog.info? 4).map (fun i=>(i.zero,i.size,i.bytes))=some (some (.bool false),1,1):=by kernel_rfl
theorem Zjs (n:Nat):vb (List.replicate n false)=(madeCells #[Value.bool false] n).toList:=by rw [toList_madeCells_one];simp [vb]
theorem Zgl {a:List Nd}{rs:List Int}(h:allI a rs=true)(k:Nat)(b:k < rs.length):0 <= rs.getD k 0/\rs.getD k 0 < a.length:=by
 unfold allI at h
 rw [List.all_eq_true] at h
 have:=h (rs.getD k 0) (by rw [List.getD_eq_getElem?_getD,List.getElem?_eq_getElem b];exact List.getElem_mem _)
 simpa [hasI] using this
theorem Zh8 (U:Option Addr)(u:Nat)(vl:Value)(d:List Nd)(rs:List Int)(w:World)(R:NRow w (.slice U d.length u) d)(L:IRow w vl rs)(hp:Zas d=true)(hr:allI d rs=true) :
  Calls Tryz.prog 215 #[.agg #[.slice U d.length u],vl] w fun e w'=>∃ v',e=.returned v'/\w'.ownsRow w.heap.size 4 1 v' d.length (vb (Zau d rs))/\Below w.heap.size w w':=by
 have ar:=ZaH hp
 have T:Below w.heap.size w (w.alloc (Obj.cells #[.slice U d.length u] 40)):=(Below.refl _ _).alloc (Nat.le_refl _) _
 have Y:=heap_alloc_new w (Obj.cells #[.slice U d.length u] 40)
 have R0:=R.below T
 have L0:=L.below T
 clear R L
 have ad:(w.alloc (Obj.cells #[.slice U d.length u] 40)).heap.size=w.heap.size+1:=by simp
 obtain ⟨i0,hi,af,an,am⟩:=info_parts Zm8
 have q:i0.bytes * d.length <= 281474976710656:=by rw [am];omega
 have M:d.length <= maxLen:=by unfold maxLen;omega
 go_enter Tryz.func215,Tryz.ntmps215
 go_wp2_with (at_make;refine wpList_make_full _ rfl _ _ 278 rfl (w.heap.size+1) 4 i0 (.bool false) 1 Tryz.underlying278 hi af an _ _ _ _ d.length rfl rfl rfl rfl q M (by simp) ?_)
 intro w1 c B
 generalize w.alloc (Obj.cells #[.slice U d.length u] 40)=w0 at *
 have X:Below (w.heap.size+1) w0 w1:=(Below.refl _ _).grown B (by omega) (by intro k W;cases W)
 clear B q M
 obtain ⟨al,cl,rfl,aA,_,y⟩:=L0
 go_wp2_with fail
 go_loopw [18] (fun i wr=>∃ (k:Nat) (f:List Bool),k <= rs.length/\i=.int .i64 k/\f.length=d.length/\Hid ((rs.drop k).foldl setB f=Zc6 d.length rs)/\wr.ownsRow (w.heap.size+1) 4 1 (.slice (some ⟨w.heap.size+1,0,none⟩) d.length d.length) d.length (vb f)/\Below (w.heap.size+1) w0 wr) (fun i _=>rs.length - (intOf i).toNat)
 case atStart=>exact ⟨0,List.replicate d.length false,by omega,rfl,by simp,rfl,by rw [Zjs];exact c,X⟩
 case round =>
  clear c X
  obtain ⟨k,f,W,rfl,m,HF,c,C⟩:=hrel
  by_cases F:k < rs.length
  ·obtain ⟨g,o,rfl,hg,y⟩:=y (by intro e;subst e;simp at F)
   have ez:=(C.cell (p:=⟨g,o+k,none⟩) (by simp;omega)).trans (y k F)
   obtain ⟨h1,h2⟩:=Zgl hr k F
   have Z:Hid ((rs.drop (k+1)).foldl setB (setB f (rs.getD k 0))=Zc6 d.length rs):=(ZfJ rs f k F).symm.trans HF.out
   generalize rs.getD k 0=z at ez h1 h2 Z
   obtain ⟨nz,rfl⟩:=Int.eq_ofNat_of_zero_le h1
   have ec:=c.cellAt nz (by omega)
   rw [ZcC _ _ (by omega)] at ec
   have ef:=c.frozenAt nz
   have hs:=(c.stored nz (.bool true)).1
   rw [Zea] at hs
   clear y hr HF
   go_wp2
   go_roundw
   case rel=>exact ⟨k+1,setB f nz,by omega,by go_num,by rw [Zbk,m],Z,hs,C.setCell (p:=⟨w.heap.size+1,nz,none⟩) (Nat.le_refl _) _⟩
   case measure=>simp [intOf];omega
  ·have aj:k=rs.length:=by omega
   subst aj
   have O:Hid (down d d.length f=Zau d rs):=by
    have:=HF.out
    rw [List.drop_length,List.foldl_nil] at this
    rw [this]
    rfl
   clear HF W F y hr
   have ep:=(C.cell (p:=⟨w.heap.size,0,none⟩) (by simp)).trans ((cell_of_row w0 _ 0 _ _ _ Y).trans rfl)
   have ab:w.heap.size+1 < wr.heap.size:=(c.lt _ rfl).2
   go_wp2_with fail
   go_loopw [8] (fun i wq=>∃ (k:Nat) (cs:List Bool),k <= d.length/\i=.int .i64 ((k:Int) - 1)/\cs.length=d.length/\Hid (down d k cs=Zau d rs)/\wq.ownsRow (w.heap.size+1) 4 1 (.slice (some ⟨w.heap.size+1,0,none⟩) d.length d.length) d.length (vb cs)/\Below (w.heap.size+1) w0 wq) (fun i _=>(intOf i+1).toNat)
   case atStart=>exact ⟨d.length,f,Nat.le_refl _,rfl,m,O,c,C⟩
   case round =>
    clear c C O m ep ab
    clear f
    obtain ⟨k,f,W,rfl,m,O,c,C⟩:=hrel
    have ep:=(C.cell (p:=⟨w.heap.size,0,none⟩) (by simp)).trans ((cell_of_row w0 _ 0 _ _ _ Y).trans rfl)
    have ab:w.heap.size+1 < wr.heap.size:=(c.lt _ rfl).2
    rcases Nat.eq_zero_or_pos k with rfl | av
    ·have HQ:Hid (f=Zau d rs):=O
     clear O
     go_wp2
     go_ret
     rw [HQ.out] at c
     exact ⟨_,rfl,Zah c (by omega),T.trans (C.mono (by omega))⟩
    ·obtain ⟨j,rfl⟩:∃ j,k=j+1:=⟨k - 1,by omega⟩
     rw [show ((j+1:Nat):Int) - 1=(j:Int) by omega]
     obtain ⟨ax,aw,e',_,_,hz,n⟩:=R0
     simp only [Value.slice.injEq,true_and] at e'
     obtain ⟨rfl,rfl⟩:=e'
     obtain ⟨g,o,rfl,hg,n⟩:=n (by intro e;subst e;simp at W)
     obtain ⟨x,hx⟩:∃ x,d[j]? = some x:=⟨d[j],by simp⟩
     obtain ⟨c0,c1,c2,c3,c4⟩:=(n j x hx).below C (by rw [ad] at hg;exact hg)
     have H:=Za6 hp hx
     have ap:=Zie H
     have G:Hid (down d j (Zat x (f.getD j false) f)=Zau d rs):=(ZeM d f j x hx).symm.trans O.out
     have hA:hasA x.k=true -> 0 <= x.a/\x.a < (j:Int):=fun h=>Zch H h
     have A:hasB x.k=true -> 0 <= x.b/\x.b < (j:Int):=fun h=>Zcc H h
     clear n hx O H
     go_wp2_with fail
     refine (Zdq x.k _).mono ?_
     rintro e w4 ⟨rfl,S⟩
     rw [Zfx,if_pos ap]
     have r:=(S.block wr.heap.size (by simp)).trans (heap_alloc_new _ _)
     have d3:=cell_of_row w4 _ 3 _ _ _ r
     have d4:=cell_of_row w4 _ 4 _ _ _ r
     simp only [List.getElem?_toArray,List.getElem?_cons_succ,List.getElem?_cons_zero] at d3 d4
     have D:Below wr.heap.size wr w4:=((Below.refl wr.heap.size wr).alloc (Nat.le_refl _) _).trans (S.mono (by simp))
     have l:=Zac c D
     have N:=C.trans (D.mono (by omega))
     have az:wr.heap.size < w4.heap.size:=(bl r)
     have aq:w.heap.size+1 < w4.heap.size:=by omega
     have au:w.heap.size+1 ≠ wr.heap.size:=by omega
     have e0:=l.cellAt j (by omega)
     rw [ZcC _ _ (by omega)] at e0
     clear c0 c1 c2 c3 c4 r S D c C ep
     have I:∀ z,(Zat x z f).length=d.length:=fun z=>(Zby x z f).trans m
     cases hb:f.getD j false with
     | false =>
      rw [hb] at e0 G
      have ae:=I false
      have Q:Hid (Zat x false f=f):=by unfold Hid Zat;simp
      clear hA A I hb
      go_wp2
      refine ⟨⟨j,f,by omega,by go_num,m,by rw [Q.out] at G;exact G,l.alloc _,N.alloc (by omega) _⟩,by simp [intOf]⟩
     | true =>
      rw [hb] at e0 G
      have ae:=I true
      clear I hb
      cases s:hasA x.k with
      | false =>
       have t:hasB x.k=false:=by
        unfold hasA at s;unfold hasB
        simp only [decide_eq_false_iff_not] at s ⊢
        omega
       have Q:Hid (Zat x true f=f):=by unfold Hid Zat;rw [s,t];simp
       rw [t]
       clear hA A
       go_wp2
       refine ⟨⟨j,f,by omega,by go_num,m,by rw [Q.out] at G;exact G,l.alloc _,N.alloc (by omega) _⟩,by simp [intOf]⟩
      | true =>
       obtain ⟨ak,ag⟩:=hA s
       obtain ⟨J,P⟩:=Int.eq_ofNat_of_zero_le ak
       rw [P] at d3 ag
       have e1:=l.cellAt J (by omega)
       rw [ZcC _ _ (by omega)] at e1
       have f1:=l.frozenAt J
       have E:=(l.stored J (.bool true)).1
       rw [Zea] at E
       have ay:J ≠ j:=by omega
       have aa:=N.setCell (p:=⟨w.heap.size+1,J,none⟩) (Nat.le_refl _) (.bool true)
       cases t:hasB x.k with
       | false =>
        have Q:Hid (Zat x true f=f.set J true):=by unfold Hid Zat setB;rw [s,t,P];simp
        clear hA A
        go_wp2
        refine ⟨⟨j,f.set J true,by omega,by go_num,by simpa using m,by rw [Q.out] at G;exact G,E.alloc _,aa.alloc (by simp;omega) _⟩,by simp [intOf]⟩
       | true =>
        obtain ⟨ai,ac⟩:=A t
        obtain ⟨v,K⟩:=Int.eq_ofNat_of_zero_le ai
        rw [K] at d4 ac
        have Q:Hid (Zat x true f=(f.set J true).set v true):=by unfold Hid Zat setB;rw [s,t,P,K];simp
        have e2:=E.cellAt v (by omega)
        rw [ZcC _ _ (by simp;omega)] at e2
        have f2:=E.frozenAt v
        have V:=(E.stored v (.bool true)).1
        rw [Zea] at V
        have ah:=aa.setCell (p:=⟨w.heap.size+1,v,none⟩) (Nat.le_refl _) (.bool true)
        clear hA A
        go_wp2
        refine ⟨⟨j,(f.set J true).set v true,by omega,by go_num,by simpa using m,by rw [Q.out] at G;exact G,V.alloc _,ah.alloc (by simp;omega) _⟩,by simp [intOf]⟩
def ZmG (xs:List Nd)(rs:List Int):List Bool:=if Zas xs && allI xs rs then Zau xs rs else []
theorem Zh6 (v:Value)(c:List Bool)(w:World)(R:BRow w v c)(y:c.length <= 4194304) :
  Calls Tryz.prog 235 #[v,.bool false] w fun e u=>∃ r:Int,e=.returned (.int .i64 r)/\(0 <= r <-> false ∈ c)/\u=w:=by
 obtain ⟨B,s,rfl,_,_,a⟩:=R
 go_enter Tryz.func235,Tryz.ntmps235
 go_wp2_with fail
 go_loopw [8] (fun i wr=>∃ k:Nat,k <= c.length/\i=.int .i64 k/\Hid (∀ j,j < k -> c[j]? = some true)/\wr=w) (fun i _=>c.length - (intOf i).toNat)
 case atStart=>exact ⟨0,by omega,rfl,fun j f=>by omega,rfl⟩
 case round =>
  obtain ⟨k,A,rfl,q,rfl⟩:=hrel
  by_cases d:k < c.length
  ·obtain ⟨g,o,rfl,z,a⟩:=a (by intro e;subst e;simp at d)
   have t:=a k d
   clear a
   obtain ⟨b,m⟩:∃ b,c[k]? = some b:=⟨c[k],by simp [d]⟩
   rw [show c.getD k false=b by simp [List.getD,m]] at t
   cases b with
   | false =>
    have n:false ∈ c:=List.mem_of_getElem? m
    go_wp2
    go_ret
    exact ⟨k,rfl,⟨fun _=>n,fun _=>by omega⟩,rfl⟩
   | true =>
    have l:Hid (∀ j,j < k+1 -> c[j]? = some true):=fun j f=>by
     rcases Nat.lt_or_ge j k with h | h
     ·exact q.out j h
     ·obtain rfl:j=k:=by omega
      exact m
    go_wp2
    go_roundw
    case rel=>exact ⟨k+1,by omega,by go_num,l,by trivial⟩
    case measure=>simp [intOf];omega
  ·have p:k=c.length:=by omega
   subst p
   have n:false ∉ c:=fun h=>by
    obtain ⟨j,f,x⟩:=List.getElem_of_mem h
    have:=q.out j f
    rw [List.getElem?_eq_getElem f,x] at this
    cases this
   go_wp2
   go_ret
   exact ⟨-1,rfl,⟨fun h=>by omega,fun h=>absurd h n⟩,rfl⟩
theorem ZeA (v:Value)(a:List Bool)(w:World)(R:BRow w v a)(c:a.length <= 4194304) :
  Calls Tryz.prog 214 #[v,.bool false] w fun e f=>e=.returned (.bool (a.contains false))/\f=w:=by
 go_enter Tryz.func214,Tryz.ntmps214
 go_wp2_with fail
 refine (Zh6 v a w R c).mono ?_
 rintro e g ⟨r,rfl,b,rfl⟩
 have d:Hid (a.contains false=decide (0 <= r)):=by
  unfold Hid
  rw [Bool.eq_iff_iff,List.contains_iff_mem,decide_eq_true_eq]
  exact b.symm
 clear b
 go_wp2
 go_ret
 exact ⟨by rw [d.out];rfl,rfl⟩
theorem Zd7 (v i:Value)(a:List Nd)(rs:List Int)(w:World)(R:NRow w v a)(L:IRow w i rs)(j:Zas a=true)(q:allI a rs=true) :
  Calls Tryz.prog 208 #[.agg #[v],i] w fun e t=>e=.returned (.bool (allR a rs))/\Below w.heap.size w t:=by
 obtain ⟨n,f,rfl,_⟩:=id R
 have k:=ZaH j
 have b:Below w.heap.size w (w.alloc (Obj.cells #[.slice n a.length f] 40)):=(Below.refl _ _).alloc (Nat.le_refl _) _
 go_enter Tryz.func208,Tryz.ntmps208
 go_wp2_with fail
 refine (Zh8 n f i a rs _ (R.below b) (L.below b) j q).mono ?_
 rintro e y ⟨s,rfl,o,h⟩
 have g:=b.trans (h.mono b.size)
 have d:=Zbc a rs
 have u:Hid ((Zau a rs).length=a.length):=d
 rw [<- d] at o
 have r:=BRow.of_own o (by omega)
 clear d
 have l:=ZeA s (Zau a rs) _ r (by rw [u.out];omega)
 obtain ⟨m,c⟩:∃ m,Hid ((Zau a rs).contains false=m):=⟨_,rfl⟩
 rw [c.out] at l
 have p:Hid (allR a rs = !m):=by unfold Hid allR;rw [c.out]
 clear c
 go_wp2_with fail
 refine l.mono ?_
 rintro e x ⟨rfl,rfl⟩
 go_wp2
 go_ret
 exact ⟨by rw [p.out];rfl,g⟩
end Go.Proofs.YtfeodlbpnghakaaGreatDoor
namespace Go.Proofs.YtfeodlbpnghakaaGreatDoor
open Go.RowKit Go.Extern.Stop Go.Stop Go.Extern
theorem Zl9 (t:Value)(w:World) :
  Calls Tryz.prog 209 #[.nilIface,t] w fun e a=>e=.returned (.bool false)/\a=w:=by
 go_enter Tryz.func209,Tryz.ntmps209
 go_wp2
 go_ret
 exact ⟨rfl,rfl⟩
theorem Tryz.asValueOfP (t:Addr)(w:World):(ReflectliteValue.unpack (.iface 289 (.pointer (some t)))).run Tryz.prog w
  = .ok (.agg #[.pointer (some ⟨1,289,none⟩),.pointer (some ⟨w.heap.size,0,none⟩),.int .u64 150]) (w.alloc (.cells #[.pointer (some t)] 289)):=by kernel_rfl
theorem Tryz.asTypeP (a:Addr)(w:World):(ReflectliteValue.methodAny (ReflectliteValue.valueError "reflectlite.Value.Type" 0) (fun t _ _ _=>ReflectliteType.toType t) #[.agg #[.pointer (some ⟨1,289,none⟩),.pointer (some a),.int .u64 150]]).run Tryz.prog w
  = .ok (.iface 317 (.agg #[.pointer (some ⟨1,289,none⟩)])) w:=by kernel_rfl
theorem Tryz.asMethodKind (h:Value)(w:World):(Go.method 460 317 (.agg #[h]) "Kind").run Tryz.prog w=.ok (257,h) w:=by kernel_rfl
theorem Tryz.asKindP (w:World):((ReflectliteType.abiMethod fun t=>(fun a:Nat=>Value.int IntKind.u8 (a:Int)) <$> Rtype.kind t) #[.pointer (some ⟨1,289,none⟩)]).run Tryz.prog w=.ok (.int .u8 22) w:=by kernel_rfl
theorem Tryz.asKindT (w:World):((ReflectliteType.abiMethod fun t=>(fun a:Nat=>Value.int IntKind.u8 (a:Int)) <$> Rtype.kind t) #[.pointer (some ⟨1,270,none⟩)]).run Tryz.prog w=.ok (.int .u8 25) w:=by kernel_rfl
theorem rlm (z:Sem Value)(f:TypeId -> Addr -> Nat -> Nat -> Sem Value)(v:Value) :
  ReflectliteValue.method z f #[v]=(do match <- ReflectliteValue.parts v with | none=>z | some (t,a,fl)=>f t a fl (fl % 32)):=rfl
theorem Tryz.asPartsP (a:Addr)(w:World):(ReflectliteValue.parts (.agg #[.pointer (some ⟨1,289,none⟩),.pointer (some a),.int .u64 150])).run Tryz.prog w=.ok (some (289,a,150)) w:=by kernel_rfl
theorem Tryz.asIsNilP (a p:Addr)(W:World)(b:W.cell? a=some (.pointer (some p))) :
  (ReflectliteValue.method (ReflectliteValue.valueError "reflectlite.Value.IsNil" 0) ReflectliteValue.isNil #[.agg #[.pointer (some ⟨1,289,none⟩),.pointer (some a),.int .u64 150]]).run Tryz.prog W=.ok (.bool false) W:=by
 rw [rlm]
 simp only [Sem.run_bind,Tryz.asPartsP,Result.andThen]
 simp [ReflectliteValue.isNil,loadVar,isAgg,underlying,Tryz.underlying289,b,Result.andThen]
theorem Tryz.asMethodElem (h:Value)(w:World):(Go.method 460 317 (.agg #[h]) "Elem").run Tryz.prog w=.ok (269,.agg #[h]) w:=by kernel_rfl
theorem Tryz.asMethodImplements (h:Value)(w:World):(Go.method 460 317 (.agg #[h]) "Implements").run Tryz.prog w=.ok (270,.agg #[h]) w:=by kernel_rfl
theorem Tryz.asMethodAssignableTo (h:Value)(w:World):(Go.method 460 317 (.agg #[h]) "AssignableTo").run Tryz.prog w=.ok (267,.agg #[h]) w:=by kernel_rfl
theorem Tryz.asElemP (w:World):(ReflectliteType.method ReflectliteType.elem #[.agg #[.pointer (some ⟨1,289,none⟩)]]).run Tryz.prog w=.ok (.iface 317 (.agg #[.pointer (some ⟨1,270,none⟩)])) w:=by kernel_rfl
theorem Tryz.asImplementsT (w:World):(ReflectliteType.relation "Implements" ReflectliteType.implements_ #[.agg #[.pointer (some ⟨1,270,none⟩)],.iface 317 (.agg #[.pointer (some ⟨1,240,none⟩)])]).run Tryz.prog w=.ok (.bool true) w:=by kernel_rfl
theorem Tryz.asTypeOfT (v:Value)(w:World):(ReflectliteType.typeOf #[.iface 270 v]).run Tryz.prog w=.ok (.iface 317 (.agg #[.pointer (some ⟨1,270,none⟩)])) w:=by kernel_rfl
theorem Tryz.asAssignableT (w:World):(ReflectliteType.relation "AssignableTo" ReflectliteType.assignableTo #[.agg #[.pointer (some ⟨1,270,none⟩)],.iface 317 (.agg #[.pointer (some ⟨1,270,none⟩)])]).run Tryz.prog w=.ok (.bool true) w:=by kernel_rfl
theorem Tryz.asValueOfT (p:Int)(w:World):(ReflectliteValue.unpack (.iface 270 (.agg #[.int .i64 p]))).run Tryz.prog w
  = .ok (.agg #[.pointer (some ⟨1,270,none⟩),.pointer (some ⟨w.heap.size,0,none⟩),.int .u64 153]) (w.alloc (.cells #[.int .i64 p] 270)):=by kernel_rfl
theorem Tryz.asElemOfP (w:World):(Rtype.elem? 289).run Tryz.prog w=.ok (some 270) w:=by kernel_rfl
theorem Tryz.asMkT (p:Addr)(w:World):(ReflectliteValue.mk 270 p ReflectliteValue.flagAddr).run Tryz.prog w=.ok (.agg #[.pointer (some ⟨1,270,none⟩),.pointer (some p),.int .u64 409]) w:=by kernel_rfl
theorem Tryz.asElemV (a p:Addr)(W:World)(b:W.cell? a=some (.pointer (some p))) :
  (ReflectliteValue.method (ReflectliteValue.valueError "reflectlite.Value.Elem" 0) ReflectliteValue.elem #[.agg #[.pointer (some ⟨1,289,none⟩),.pointer (some a),.int .u64 150]]).run Tryz.prog W
   = .ok (.agg #[.pointer (some ⟨1,270,none⟩),.pointer (some p),.int .u64 409]) W:=by
 rw [rlm]
 simp only [Sem.run_bind,Tryz.asPartsP,Result.andThen]
 simp [ReflectliteValue.elem,loadVar,isAgg,underlying,Tryz.underlying289,b,Result.andThen,Tryz.asElemOfP,Tryz.asMkT]
theorem Tryz.asPartsA (a:Addr)(w:World):(ReflectliteValue.parts (.agg #[.pointer (some ⟨1,270,none⟩),.pointer (some a),.int .u64 409])).run Tryz.prog w=.ok (some (270,a,409)) w:=by kernel_rfl
theorem Tryz.asPartsT (a:Addr)(w:World):(ReflectliteValue.parts (.agg #[.pointer (some ⟨1,270,none⟩),.pointer (some a),.int .u64 153])).run Tryz.prog w=.ok (some (270,a,153)) w:=by kernel_rfl
theorem Tryz.asDirect (w:World):(Rtype.directlyAssignable 270 270).run Tryz.prog w=.ok true w:=by kernel_rfl
def ErrT (w:World):Prop:=w.cell? ⟨0,0,none⟩=some (.iface 317 (.agg #[.pointer (some ⟨1,240,none⟩)]))
theorem ErrT.below {w a:World}{B:Nat}(h:ErrT w)(d:Below B w a)(b:w.heap.size <= B):ErrT a:=by
 have c:=World.block_lt_of_cell? _ _ h
 unfold ErrT
 rw [d.cell (p:=⟨0,0,none⟩) (Nat.lt_of_lt_of_le c b)]
 exact h
theorem Tryz.asSet (a b:Nat)(p q:Int)(W:World)(f:W.heap[b]? = some (.cells #[.int .i64 p] 270 (0,0)))(c:W.heap[a]? = some (.cells #[.int .i64 q] 270 (0,0))) :
  (ReflectliteValue.set #[.agg #[.pointer (some ⟨1,270,none⟩),.pointer (some ⟨a,0,none⟩),.int .u64 409],.agg #[.pointer (some ⟨1,270,none⟩),.pointer (some ⟨b,0,none⟩),.int .u64 153]]).run Tryz.prog W
   = .ok (.tuple #[]) (W.setCell ⟨a,0,none⟩ (.int .i64 p)):=by
 have c0:W.cell? ⟨b,0,none⟩=some (.int .i64 p):=cell_of_row _ _ 0 _ _ _ f
 have c1:W.cell? ⟨a,0,none⟩=some (.int .i64 q):=cell_of_row _ _ 0 _ _ _ c
 have g:W.frozen? ⟨a,0,none⟩=false:=frozen_of_row _ _ 0 _ _ c
 show (ReflectliteValue.parts _ >>= _).run Tryz.prog W=_
 simp only [Sem.run_bind,Array.getLit,List.getElem_toArray,List.getElem_cons_zero,List.getElem_cons_succ,Tryz.asPartsA,Tryz.asPartsT,Result.andThen]
 simp [ReflectliteValue.flagAddr,loadVar,isAgg,underlying,Tryz.underlying270,Result.andThen,Tryz.asDirect,storeVar,Value.cells,storeCells,Addr.add]
 have e:(loadCells ⟨b,0,none⟩ 1).run Tryz.prog W=.ok #[.int .i64 p] W:=run_loadCells_list (P:=Tryz.prog) W ⟨b,0,none⟩ [.int .i64 p] (fun j v d=>by
  cases j with
  | zero=>cases d;exact c0
  | succ j=>simp at d)
 rw [e]
 simp [storeCells,Addr.add]
 rw [run_store Tryz.prog W ⟨a,0,none⟩ _ _ (by rfl)]
 simp [c1,g]
theorem Zmj (p q:Int)(t:Nat)(w:World)(e:ErrT w)(d:w.heap[t]? = some (.cells #[.int .i64 q] 270 (0,0))) :
  Calls Tryz.prog 209 #[.iface 270 (.agg #[.int .i64 p]),.iface 289 (.pointer (some ⟨t,0,none⟩))] w fun s v=>s=.returned (.bool true)/\w.grownBy v (some t):=by
 have L:=@run_callFunc_extern Tryz.prog 216 _ (fun args=>ReflectliteValue.unpack (args.getD 0 (.tuple #[]))) Tryz.func216 (by kernel_rfl) (by kernel_rfl) (by kernel_rfl) (by kernel_rfl)
 have M:=@run_callFunc_extern Tryz.prog 217 _ (ReflectliteValue.methodAny (ReflectliteValue.valueError "reflectlite.Value.Type" 0) (fun t _ _ _=>ReflectliteType.toType t)) Tryz.func217 (by kernel_rfl) (by kernel_rfl) (by kernel_rfl) (by kernel_rfl)
 have B:=@run_callFunc_extern Tryz.prog 218 _ (ReflectliteValue.method (ReflectliteValue.valueError "reflectlite.Value.IsNil" 0) ReflectliteValue.isNil) Tryz.func218 (by kernel_rfl) (by kernel_rfl) (by kernel_rfl) (by kernel_rfl)
 have u:=@run_callFunc_extern Tryz.prog 257 _ (ReflectliteType.abiMethod fun t=>do pure (.int .u8 (<- Rtype.kind t))) Tryz.func257 (by kernel_rfl) (by kernel_rfl) (by kernel_rfl) (by kernel_rfl)
 have y:=@run_callFunc_extern Tryz.prog 269 _ (ReflectliteType.method ReflectliteType.elem) Tryz.func269 (by kernel_rfl) (by kernel_rfl) (by kernel_rfl) (by kernel_rfl)
 have l:=@run_callFunc_extern Tryz.prog 270 _ (ReflectliteType.relation "Implements" ReflectliteType.implements_) Tryz.func270 (by kernel_rfl) (by kernel_rfl) (by kernel_rfl) (by kernel_rfl)
 have A:=@run_callFunc_extern Tryz.prog 236 _ ReflectliteType.typeOf Tryz.func236 (by kernel_rfl) (by kernel_rfl) (by kernel_rfl) (by kernel_rfl)
 have o:=@run_callFunc_extern Tryz.prog 267 _ (ReflectliteType.relation "AssignableTo" ReflectliteType.assignableTo) Tryz.func267 (by kernel_rfl) (by kernel_rfl) (by kernel_rfl) (by kernel_rfl)
 have r:=@run_callFunc_extern Tryz.prog 237 _ (ReflectliteValue.method (ReflectliteValue.valueError "reflectlite.Value.Elem" 0) ReflectliteValue.elem) Tryz.func237 (by kernel_rfl) (by kernel_rfl) (by kernel_rfl) (by kernel_rfl)
 have n:=@run_callFunc_extern Tryz.prog 238 _ ReflectliteValue.set Tryz.func238 (by kernel_rfl) (by kernel_rfl) (by kernel_rfl) (by kernel_rfl)
 have E:=Tryz.asTypeOfT
 have D:=Tryz.asMethodAssignableTo
 have h:=Tryz.asAssignableT
 have x:=Tryz.asValueOfT
 have J:=Tryz.asValueOfP
 have I:=Tryz.asTypeP
 have F:=Tryz.asMethodKind
 have H:=Tryz.asMethodElem
 have C:=Tryz.asMethodImplements
 have g:=Tryz.asKindP
 have j:=Tryz.asKindT
 have z:=Tryz.asElemP
 have k:=Tryz.asImplementsT
 obtain ⟨c,f⟩:∃ c:Addr,c=⟨t,0,none⟩:=⟨_,rfl⟩
 have n8:=Tryz.asIsNilP ⟨w.heap.size,0,none⟩ ⟨t,0,none⟩ ((w.alloc (.cells #[.pointer (some ⟨t,0,none⟩)] 289)).alloc (.cells #[.pointer (some ⟨1,289,none⟩),.pointer (some ⟨w.heap.size,0,none⟩),.int .u64 150] 304)) (by simp)
 have b:0 < w.heap.size:=World.block_lt_of_cell? _ _ e
 have m:((w.alloc (.cells #[.pointer (some ⟨t,0,none⟩)] 289)).alloc (.cells #[.pointer (some ⟨1,289,none⟩),.pointer (some ⟨w.heap.size,0,none⟩),.int .u64 150] 304)).cell? ⟨0,0,none⟩=some (.iface 317 (.agg #[.pointer (some ⟨1,240,none⟩)])):=by
  rw [World.cell?_alloc_lt _ _ ⟨0,0,none⟩ (by simp <;> omega),World.cell?_alloc_lt _ _ ⟨0,0,none⟩ b];exact e
 have a:t < w.heap.size:=(bl d)
 have G:=Tryz.asElemV ⟨w.heap.size,0,none⟩ ⟨t,0,none⟩ (((w.alloc (.cells #[.pointer (some ⟨t,0,none⟩)] 289)).alloc (.cells #[.pointer (some ⟨1,289,none⟩),.pointer (some ⟨w.heap.size,0,none⟩),.int .u64 150] 304)).alloc (.cells #[.pointer (some ⟨1,289,none⟩),.pointer (some ⟨w.heap.size,0,none⟩),.int .u64 150] 304)) (by rw [World.cell?_alloc_lt _ _ ⟨w.heap.size,0,none⟩ (by simp <;> omega)];simp)
 have K:=Tryz.asSet t (w.heap.size+1+1+1) p q ((((w.alloc (.cells #[.pointer (some ⟨t,0,none⟩)] 289)).alloc (.cells #[.pointer (some ⟨1,289,none⟩),.pointer (some ⟨w.heap.size,0,none⟩),.int .u64 150] 304)).alloc (.cells #[.pointer (some ⟨1,289,none⟩),.pointer (some ⟨w.heap.size,0,none⟩),.int .u64 150] 304)).alloc (.cells #[.int .i64 p] 270))
  (by have:=heap_alloc_new (((w.alloc (.cells #[.pointer (some ⟨t,0,none⟩)] 289)).alloc (.cells #[.pointer (some ⟨1,289,none⟩),.pointer (some ⟨w.heap.size,0,none⟩),.int .u64 150] 304)).alloc (.cells #[.pointer (some ⟨1,289,none⟩),.pointer (some ⟨w.heap.size,0,none⟩),.int .u64 150] 304)) (.cells #[.int .i64 p] 270);simpa using this)
  (by rw [heap_alloc_old _ _ (by simp <;> omega),heap_alloc_old _ _ (by simp <;> omega),heap_alloc_old _ _ (by simp <;> omega),heap_alloc_old _ _ a];exact d)
 have i:w.grownBy (((((w.alloc (.cells #[.pointer (some ⟨t,0,none⟩)] 289)).alloc (.cells #[.pointer (some ⟨1,289,none⟩),.pointer (some ⟨w.heap.size,0,none⟩),.int .u64 150] 304)).alloc (.cells #[.pointer (some ⟨1,289,none⟩),.pointer (some ⟨w.heap.size,0,none⟩),.int .u64 150] 304)).alloc (.cells #[.int .i64 p] 270)).setCell ⟨t,0,none⟩ (.int .i64 p)) (some t) :=
  Zaj (Zaj (Zaj (Zaj (World.grownBy_alloc w _ _) (World.grownBy_alloc _ _ _)) (World.grownBy_alloc _ _ _)) (World.grownBy_alloc _ _ _)) (Zan _ t 0 _)
 clear f c b a d e
 go_enter Tryz.func209,Tryz.ntmps209
 go_wp2
 refine wp_loop_rounds 1 ?_
 rw [rounds_succ]
 go_wp2
 go_ret
 exact ⟨rfl,i⟩
theorem ZfZ (w:World):Calls Tryz.prog 203 #[.nilIface] w fun e a=>e=.returned (.bool false)/\Below w.heap.size w a:=by
 go_enter Tryz.func203,Tryz.ntmps203
 go_wp2_with fail
 refine (Zl9 _ _).mono ?_
 rintro e b ⟨rfl,rfl⟩
 go_wp2
 go_ret
 exact ⟨rfl,(Below.refl _ _).alloc (Nat.le_refl _) _⟩
theorem Zfi (p:Int)(w:World)(c:ErrT w):Calls Tryz.prog 203 #[.iface 270 (.agg #[.int .i64 p])] w fun e f=>e=.returned (.bool true)/\Below w.heap.size w f:=by
 go_enter Tryz.func203,Tryz.ntmps203
 go_wp2_with fail
 have b:Below w.heap.size w (w.alloc (Obj.cells #[.int .i64 0] 270)):=(Below.refl _ _).alloc (Nat.le_refl _) _
 refine (Zmj p 0 w.heap.size _ (c.below b (Nat.le_refl _)) (heap_alloc_new _ _)).mono ?_
 rintro e g ⟨rfl,a⟩
 go_wp2
 go_ret
 exact ⟨rfl,b.grown a b.size (fun k d=>by simp at d;omega)⟩
end Go.Proofs.YtfeodlbpnghakaaGreatDoor
namespace Go.Proofs.YtfeodlbpnghakaaGreatDoor
open Go.RowKit
theorem Zg6 (a:Nat)(b:List Nd)(rs:List Int)(c:Zas b=true)(g:a+(mvN a b rs).length <= 3000):∀ x ∈ mvN a b rs,NdOk x:=by
 have I:=ZjW a b (Zau b rs) (fun i x h=>Za6 c h) (Zb8 b rs (fun i x h=>Za6 c h))
 intro x e
 obtain ⟨j,d⟩:=List.getElem?_of_mem e
 have f:j < (mvN a b rs).length:=(List.getElem?_eq_some_iff.1 d).1
 exact Zju (I.ok j x d) (by omega)
theorem ZbM {a:List Nd}(h:Zas a=true):a.length <= 3000:=by simp only [Zas,Bool.and_eq_true,decide_eq_true_eq] at h;exact h.1
theorem ZbH {a:List Nd}(h:∀ x ∈ a,NdOk x):∀ x ∈ a,x.s.size <= maxLen:=fun x b=>by have:=(h x b).2.2.1;unfold maxLen;omega
theorem ZgK {w:World}{z:Int}{g:Nat}(h:w.heap[g]? = some (.cells #[.int .i64 z] 3 (0,0))):IRow w (.slice (some ⟨g,0,none⟩) 1 1) [z]:=by
 refine ⟨_,1,rfl,⟨by simp,fun h=>by cases h⟩,by simp,fun _=>⟨g,0,rfl,(bl h),fun i hi=>?_⟩⟩
 have:i=0:=by simpa using hi
 subst this
 rw [cell_of_row w _ 0 _ _ _ h]
 rfl
end Go.Proofs.YtfeodlbpnghakaaGreatDoor
