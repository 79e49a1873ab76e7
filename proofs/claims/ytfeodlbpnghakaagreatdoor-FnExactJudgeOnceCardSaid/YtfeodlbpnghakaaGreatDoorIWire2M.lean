/-
  Texts that stood by themselves, laid into one.
-/
import Derived.Test.YtfeodlbpnghakaaGreatDoorNumberM
import Derived.Test.YtfeodlbpnghakaaGreatDoorShapeM
import Derived.Test.YtfeodlbpnghakaaGreatDoorSPTextM
import Derived.Test.YtfeodlbpnghakaaGreatDoorMach2M
import Derived.Test.YtfeodlbpnghakaaGreatDoorMcTM
import Derived.Deep.RegionHeld
import Derived.OneCell
import Derived.Test.YtfeodlbpnghakaaGreatDoorMark2M
import Derived.Deep.AppendLies
import Derived.Deep.RegionLawGrows
/-
  Contract of impl.PutNum: for every int a new slice of its own that holds the number's bytes.
-/
set_option maxRecDepth 100000
set_option maxHeartbeats 6400000
namespace Go.Proofs.YtfeodlbpnghakaaGreatDoor
open Go.RowKit
def Stays (w w':World):Prop:=∀ (j:Nat) (c:Array Value) (t:TypeId),t ≠ 5 -> w.heap[j]? = some (.cells c t (0,0)) -> w'.heap[j]? = some (.cells c t (0,0))
theorem Stays.refl (w:World):Stays w w:=fun _ _ _ _ h=>h
theorem Stays.trans {d b e:World}(h:Stays d b)(k:Stays b e):Stays d e:=fun j c t a f=>k j c t a (h j c t a f)
theorem Stays.below {w a:World}(c:Below w.heap.size w a):Stays w a:=fun j _ _ _ b=>(c.block j (bl b)).trans b
theorem Stays.grown {w c:World}{B n:Nat}{b:Value}{h:List Value}(f:w.ownsRow B 5 1 b n h)(g:w.grownBy c b.ownBlock):Stays w c:=fun j _ _ d a=>(g.block j (bl a) (fun e=>ZaG f a d e.symm)).trans a
def OwnB (w:World)(B:Nat)(v:Value)(bs:List Int):Prop:=w.ownsRow B 5 1 v bs.length (bv bs)
theorem ZjX (zs:List Int)(k:Nat)(h:k < zs.length):(zs.take (k+1)).flatMap encI=(zs.take k).flatMap encI ++ encI (zs.getD k 0):=by
 rw [List.take_add_one,List.getElem?_eq_getElem h,Option.toList_some,List.flatMap_append]
 congr 1
 simp [List.getD_eq_getElem?_getD,List.getElem?_eq_getElem h]
theorem Zhj (zs:List Int):(zs.flatMap encI).length <= 9 * zs.length:=by
 induction zs with
 | nil=>simp
 | cons z zs ih =>
  have:=Zaq z
  rw [List.flatMap_cons,List.length_append,List.length_cons]
  omega
theorem ZcA {P:Program}(w:World){ops:Array Oper}{o:Oper}{a:Act}{K:Act -> World -> Prop}{Q:Exit -> Act -> World -> Prop}{E:Prop}(O:o.guard=none)(s x:Operand)(t:TypeId)(n:o.op=Op.call { callee:=Callee.builtin Builtin.append,args:=#[s,x],argTypes:=#[t,t] })(base:Nat)(e:TypeId)(i:TypeInfo)(z:Value)(size d:Nat)(r:P.underlying t=some (.slice e))(y:P.info? e=some i)(L:i.zero=some z)(U:i.size=size)(M:i.bytes=d)(R:z.cells.size=size)(V:0 < size)(v:Value)(k:Nat)(C:List Value)(F:a.eval s=v)(f:w.ownsRow base e size v k C)(B:Option Addr)(m c:Nat)(b:List Value)(G:a.eval x=.slice B m c)(H:b.length=m * size)(g:B=none -> m=0/\c=0)(J:∀ l,B=some l -> ∀ j u,b[j]? = some u -> w.cell? (l.add j)=some u)(D:∀ u ∈ b,u.oneCell'=true)(T:k+m <= maxLen)(S:(k+m) * d <= 140737488355328)(W:base <= w.heap.size)(I:∀ A q,q.ownsRow base e size A (k+m) (C ++ b) -> w.grownBy q v.ownBlock -> K (a.put o.dst A) q) :
    if Region.wanted o (yielded ops a.tmps)=true then Oper.wp P o a w K Q else E:=by
  have N:Region.wanted o (yielded ops a.tmps)=true:=by simp [Region.wanted,O]
  rw [if_pos N]
  cases B with
  | some l=>exact wp_append_own w s x t n base e i z size d r y L U M R V v k C F f l m c b G H (J l rfl) D T S W (fun A q r y _=>I A q r y)
  | none =>
    obtain ⟨rfl,rfl⟩:=g rfl
    have h:b=[]:=List.eq_nil_of_length_eq_zero (by simpa using H)
    subst h
    have p:=run_append_owned_none (P:=P) w base t o.type e i size r y _ k C f
    unfold Oper.wp execOp
    simp only [n,resolve,invoke,builtin,Sem.run_bind,Sem.run_pure,Result.andThen_ok,List.map_toArray,List.map_cons,List.map_nil,F,G,p]
    exact I v w (by simpa using f) (World.grownBy.refl _ _)
def OutB (W0 w:World)(vo:Value)(bs:List Int)(b:Nat)(x:Nd):Prop :=
  w.ownsRow W0.heap.size 5 1 vo bs.length (bv bs)/\Below W0.heap.size W0 w/\w.heap[b]? = some (.cells #[.int .i64 x.k,.int .i64 x.n,.string x.s,.int .i64 x.a,.int .i64 x.b] 194 (0,0))
theorem OutB.below {e w f:World}{d:Value}{c:List Int}{b:Nat}{x:Nd}(h:OutB e w d c b x)(a:Below w.heap.size w f):OutB e f d c b x :=
  ⟨Zac h.1 a,h.2.1.trans (a.mono h.2.1.size),(a.block _ (Array.getElem?_eq_some_iff.1 h.2.2).1).trans h.2.2⟩
theorem OutB.app {c w d:World}{f i:Value}{a zs:List Int}{b:Nat}{x:Nd}(h:OutB c w f a b x)(j:d.ownsRow c.heap.size 5 1 i (a.length+zs.length) (bv a ++ bv zs))(g:w.grownBy d f.ownBlock):OutB c d i (a ++ zs) b x :=
  ⟨by rw [List.length_append,Zcd];exact j,h.2.1.grown g h.2.1.size (fun k l=>(h.1.lt k l).1),(g.block b (Array.getElem?_eq_some_iff.1 h.2.2).1 (fun e=>ZaG h.1 h.2.2 (by decide) e.symm)).trans h.2.2⟩
theorem Zbj {ops:Array Oper}{d:List Oper}{o:Oper}{a:Act}{w:World}{Q:Exit -> Act -> World -> Prop}(v:o.guard=none)(s y:Operand)(j:o.op=Op.call { callee:=Callee.builtin Builtin.append,args:=#[s,y],argTypes:=#[161,161] }){l:World}{g:Value}{f:List Int}{b:Nat}{x:Nd}(r:a.eval s=g)(O:OutB l w g f b x){n:Option Addr}{c base:Nat}{zs:List Int}(z:a.eval y=.slice n zs.length c)(p:w.ownsRow base 5 1 (.slice n zs.length c) zs.length (bv zs))(B:f.length+zs.length <= 1000000)(A:∀ h e,OutB l e h (f ++ zs) b x -> w.grownBy e g.ownBlock -> wpList Tryz.prog ops Q d (a.put o.dst h) e):wpList Tryz.prog ops Q (o :: d) a w:=by
  obtain ⟨t,hi,m,i,k⟩:=info_parts Zm9
  refine ZaA w v s y 161 j l.heap.size 5 t (.int .u8 0) 1 1 Tryz.underlying161 hi m i k rfl (by decide) g f.length (bv f) r O.1 n zs.length c (bv zs) z (by rw [ZaU];simp) (ZdC p) (ZdL p (ZaU _)) (ints_oneCell .u8 _) (by unfold maxLen;omega) (by omega) O.2.1.size ?_
  intro h e u q
  exact A h e (O.app u q) q
theorem Zcu {ops:Array Oper}{o:Oper}{a:Act}{w:World}{K:Act -> World -> Prop}{Q:Exit -> Act -> World -> Prop}{E:Prop}(u:o.guard=none)(s y:Operand)(i:o.op=Op.call { callee:=Callee.builtin Builtin.append,args:=#[s,y],argTypes:=#[161,161] }){k:World}{f:Value}{e:List Int}{b:Nat}{x:Nd}(q:a.eval s=f)(O:OutB k w f e b x){m:Option Addr}{c base:Nat}{zs:List Int}(v:a.eval y=.slice m zs.length c)(n:w.ownsRow base 5 1 (.slice m zs.length c) zs.length (bv zs))(A:e.length+zs.length <= 1000000)(z:∀ g d,OutB k d g (e ++ zs) b x -> w.grownBy d f.ownBlock -> K (a.put o.dst g) d):if Region.wanted o (yielded ops a.tmps)=true then Oper.wp Tryz.prog o a w K Q else E:=by
  obtain ⟨r,hi,l,h,j⟩:=info_parts Zm9
  refine ZcA w u s y 161 i k.heap.size 5 r (.int .u8 0) 1 1 Tryz.underlying161 hi l h j rfl (by decide) f e.length (bv e) q O.1 m zs.length c (bv zs) v (by rw [ZaU];simp) (ZdC n) (ZdL n (ZaU _)) (ints_oneCell .u8 _) (by unfold maxLen;omega) (by omega) O.2.1.size ?_
  intro g d t p
  exact z g d (O.app t p) p
theorem OutB.c0 {e w:World}{d:Value}{c:List Int}{b:Nat}{x:Nd}(h:OutB e w d c b x):w.cell? ⟨b,0,none⟩=some (.int .i64 x.k)/\w.cell? ⟨b,1,none⟩=some (.int .i64 x.n)/\w.cell? ⟨b,2,none⟩=some (.string x.s)/\w.cell? ⟨b,3,none⟩=some (.int .i64 x.a)/\w.cell? ⟨b,4,none⟩=some (.int .i64 x.b) :=
  ⟨cell_of_row w _ 0 _ _ _ h.2.2,cell_of_row w _ 1 _ _ _ h.2.2,cell_of_row w _ 2 _ _ _ h.2.2,cell_of_row w _ 3 _ _ _ h.2.2,cell_of_row w _ 4 _ _ _ h.2.2⟩
theorem ZjV {w f:World}{d:Value}{zs:List Int}{base:Nat}{b:Value}(a:∀ k,d.ownBlock=some k -> k < base)(c:w.ownsRow base 5 1 b zs.length (bv zs))(h:w.grownBy f d.ownBlock):f.ownsRow base 5 1 b zs.length (bv zs):=by
  refine c.kept h ?_
  cases g:b.ownBlock with
  | none=>exact Or.inl rfl
  | some k =>
    refine Or.inr fun e=>?_
    have i:=a k e.symm
    have k2:=(c.lt k g).1
    omega
theorem ZgI {a b:World}(h:Below a.drew.heap.size a.drew b):Below a.heap.size a b:=(Below.refl _ _).drew.trans h
theorem ZdF (v:Value)(d:List Nd)(w:World)(R:NRow w v d)(hx:∀ x ∈ d,NdOk x)(hl:d.length <= 3000) :
    Calls Tryz.prog 148 #[.agg #[v]] w fun e w'=>∃ v',e=.returned v'/\w'.ownsRow w.heap.size 5 1 v' (ZbD d).length (bv (ZbD d))/\Below w.heap.size w w':=by
  have R':=R
  obtain ⟨ao,H,rfl,_,_,hz,z⟩:=R'
  obtain ⟨K,Z⟩:∃ K,w.alloc (Obj.cells #[.slice ao d.length H] 40)=K:=⟨_,rfl⟩
  have U:Below w.heap.size w K:=by rw [<- Z];exact (Below.refl _ _).alloc (Nat.le_refl _) _
  have af:K.heap[w.heap.size]? = some (.cells #[.slice ao d.length H] 40 (0,0)):=by rw [<- Z];exact heap_alloc_new _ _
  have aC:K.heap.size=w.heap.size+1:=by rw [<- Z];simp
  have aH:K.cell? ⟨w.heap.size,0,none⟩=some (.slice ao d.length H):=cell_of_row K _ 0 _ _ _ af
  have aw:(encI d.length).length <= 9:=Zaq _
  go_enter Tryz.func148,Tryz.ntmps148
  go_wp2_with fail
  refine (ZaV (d.length:Int) _ (by omega)).mono ?_
  rintro e w1 ⟨v1,rfl,ah,ag⟩
  go_wp2_with fail
  go_loopw [3,4] (fun vo i wr=>∃ k:Nat,k <= d.length/\i=.int .i64 k/\wr.ownsRow K.heap.size 5 1 vo (encI d.length ++ (d.take k).flatMap Za1).length (bv (encI d.length ++ (d.take k).flatMap Za1))/\Below K.heap.size K wr) (fun _ i _=>d.length - (intOf i).toNat)
  case atStart=>exact ⟨0,by omega,rfl,by simpa using ah,ag⟩
  case round =>
    obtain ⟨k,X,rfl,S,G⟩:=hrel
    have am:wr.heap[w.heap.size]? = some (.cells #[.slice ao d.length H] 40 (0,0)):=(G.block _ (by omega)).trans af
    have cp:wr.cell? ⟨w.heap.size,0,none⟩=some (.slice ao d.length H):=cell_of_row wr _ 0 _ _ _ am
    by_cases aj:k < d.length
    · obtain ⟨x,ab⟩:∃ x,d[k]? = some x:=⟨d[k],by simp [aj]⟩
      have aq:=hx x (List.mem_of_getElem? ab)
      have T:Hid ((d.take (k+1)).flatMap Za1=(d.take k).flatMap Za1 ++ Za1 x):=Zif d k x ab
      have au:(encI d.length ++ (d.take k).flatMap Za1).length <= 100000:=by
        have:=Zfu (d.take k) (fun y hy=>hx y (List.mem_of_mem_take hy))
        rw [List.length_append]
        rw [List.length_take] at this
        omega
      obtain ⟨g,oo,rfl,hg,z⟩:=z (by intro e;subst e;simp at aj)
      have ak:=U.trans (G.mono U.size)
      obtain ⟨x0,x1,x2,x3,x4⟩:=(z k x ab).below ak hg
      have az:g < wr.heap.size:=Nat.lt_of_lt_of_le hg ak.size
      clear z
      obtain ⟨⟨aD,aE⟩,⟨aG,aF⟩,hs,ha,hb⟩:=aq
      obtain ⟨wn,ae⟩:∃ wn,wr.alloc (Obj.cells #[.int .i64 x.k,.int .i64 x.n,.string x.s,.int .i64 x.a,.int .i64 x.b] 194)=wn:=⟨_,rfl⟩
      have av:wn.heap[wr.heap.size]? = some (.cells #[.int .i64 x.k,.int .i64 x.n,.string x.s,.int .i64 x.a,.int .i64 x.b] 194 (0,0)):=by rw [<- ae];exact heap_alloc_new _ _
      have ai:Below wr.heap.size wr wn:=by rw [<- ae];exact (Below.refl _ _).alloc (Nat.le_refl _) _
      have O:OutB K wn u3 (encI d.length ++ (d.take k).flatMap Za1) wr.heap.size x:=⟨Zac S ai,G.trans (ai.mono G.size),av⟩
      obtain ⟨bs,u⟩:∃ bs,Hid (encI d.length ++ (d.take k).flatMap Za1=bs):=⟨_,rfl⟩
      rw [u.out] at O au
      clear S
      have q:=O.c0
      obtain ⟨r,m,j,l,o⟩:=q
      go_wp2_with fail
      refine (ZaV x.k _ (by omega)).mono ?_
      rintro e wa ⟨va,rfl,oa,ba⟩
      obtain ⟨aa,ca,rfl⟩:=Zag oa
      clear r m j l o
      replace O:=O.below ba
      have ay:=Zaq x.k
      go_wp2_with (at_builtin;refine Zbj rfl _ _ rfl rfl O rfl oa (by omega) ?_)
      intro vb wb c ar
      clear oa ba ar O
      have P:Hid (bs ++ Za1 x=(bs ++ encI x.k) ++ ZbR x):=by unfold Hid Za1;rw [List.append_assoc]
      have ax:(bs ++ encI x.k).length <= 100100:=by rw [List.length_append];omega
      generalize bs ++ encI x.k=cs at *
      obtain ⟨L,D,W,N,xb⟩:=x
      dsimp only at *
      have an:L=1 \/ L=2 \/ L=3 \/ L=4 \/ L=5 \/ L=6 \/ L=7 \/ L=8 \/ L=9:=by omega
      rcases an with rfl | rfl | rfl | rfl | rfl | rfl | rfl | rfl | rfl
      · obtain ⟨r,m,j,l,o⟩:=c.c0
        have A:Hid (cs=encI d.length ++ (d.take (k+1)).flatMap Za1):=by unfold Hid;rw [T.out,<- List.append_assoc,u.out,P.out];simp [ZbR]
        go_wp2
        go_roundw
        case rel=>exact ⟨k+1,by omega,by go_num,by rw [<- A.out];exact c.1,c.2.1⟩
        case measure=>simp [intOf];omega
      · obtain ⟨r,m,j,l,o⟩:=c.c0
        go_wp2_with fail
        refine (ZaV D _ (by omega)).mono ?_
        rintro e wc ⟨vc,rfl,t,B⟩
        obtain ⟨ac,cc,rfl⟩:=Zag t
        clear r m j l o
        replace c:=c.below B
        have E:=Zaq D
        go_wp2_with (at_builtin;refine Zbj rfl _ _ rfl rfl c rfl t (by omega) ?_)
        intro M Q h f
        clear t B f c
        have A:Hid (cs ++ encI D=encI d.length ++ (d.take (k+1)).flatMap Za1):=by unfold Hid;rw [T.out,<- List.append_assoc,u.out,P.out];simp [ZbR]
        go_wp2
        go_roundw
        case rel=>exact ⟨k+1,by omega,by go_num,by rw [<- A.out];exact h.1,h.2.1⟩
        case measure=>simp [intOf];omega
      · obtain ⟨r,m,j,l,o⟩:=c.c0
        go_wp2_with fail
        refine (ZaV (D+1000000000) _ (by omega)).mono ?_
        rintro e wc ⟨vc,rfl,t,B⟩
        obtain ⟨ac,cc,rfl⟩:=Zag t
        clear r m j l o
        replace c:=c.below B
        have E:=Zaq (D+1000000000)
        go_wp2_with (at_builtin;refine Zbj rfl _ _ rfl rfl c rfl t (by omega) ?_)
        intro M Q h f
        clear t B f c
        have A:Hid (cs ++ encI (D+1000000000)=encI d.length ++ (d.take (k+1)).flatMap Za1):=by unfold Hid;rw [T.out,<- List.append_assoc,u.out,P.out];simp [ZbR]
        go_wp2
        go_roundw
        case rel=>exact ⟨k+1,by omega,by go_num,by rw [<- A.out];exact h.1,h.2.1⟩
        case measure=>simp [intOf];omega
      · obtain ⟨r,m,j,l,o⟩:=c.c0
        go_wp2_with fail
        refine (Zh5 W _ (by omega)).mono ?_
        rintro e wc ⟨vc,rfl,t,B⟩
        obtain ⟨ac,cc,rfl⟩:=Zag t
        clear r m j l o
        replace c:=c.below B
        have E:(pt W).length <= 21:=by rw [ZcY];have:=Zaq W.size;omega
        go_wp2_with (at_builtin;refine Zbj rfl _ _ rfl rfl c rfl t (by omega) ?_)
        intro M Q h f
        clear t B f c
        have A:Hid (cs ++ pt W=encI d.length ++ (d.take (k+1)).flatMap Za1):=by unfold Hid;rw [T.out,<- List.append_assoc,u.out,P.out];simp [ZbR]
        go_wp2
        go_roundw
        case rel=>exact ⟨k+1,by omega,by go_num,by rw [<- A.out];exact h.1,h.2.1⟩
        case measure=>simp [intOf];omega
      · obtain ⟨r,m,j,l,o⟩:=c.c0
        have E:=Zaq N
        have ap:=Zaq xb
        have S1:=fun w=>ZaV N w (by omega)
        have S2:=fun w=>ZaV xb w (by omega)
        have ad:∀ k,vb.ownBlock=some k -> k < wb.heap.size:=fun k X=>(c.1.lt k X).2
        go_wp2_with fail
        go_region_law (first
          | (refine Zcu rfl (.tmp 59) (.tmp 62) rfl rfl F rfl C (by rw [List.length_append];omega) ?_
             intro M Q h f)
          | (refine Zcu rfl (.tmp 70) (.tmp 73) rfl rfl F rfl C (by rw [List.length_append];omega) ?_
             intro M Q h f)
          | (refine Zcu rfl _ _ rfl rfl c rfl V (by omega) ?_
             intro vf wf F Y
             have p:=F.c0
             obtain ⟨r,m,j,l,o⟩:=p
             try replace C:=ZjV (fun k X=>Nat.lt_of_lt_of_le (ad k X) (by first | exact J.size | exact Nat.le_refl _)) C Y)
          | (go_simp;go_at_call 147;with_reducible refine (S1 _).mono ?_
             rintro e we ⟨ve,rfl,V,J⟩
             try replace J:=ZgI J
             obtain ⟨aA,cA,rfl⟩:=Zag V
             replace c:=c.below J
             have p:=c.c0
             obtain ⟨r,m,j,l,o⟩:=p
             try replace C:=Zac C J)
          | (go_simp;go_at_call 147;with_reducible refine (S2 _).mono ?_
             rintro e wg ⟨vg,rfl,C,I⟩
             try replace I:=ZgI I
             obtain ⟨aB,cB,rfl⟩:=Zag C
             try replace c:=c.below I
             try replace F:=F.below I
             first | (have p:=F.c0;obtain ⟨r,m,j,l,o⟩:=p) | (have p:=c.c0;obtain ⟨r,m,j,l,o⟩:=p)
             try replace V:=Zac V I))
        all_goals
          have A:Hid (cs ++ encI N ++ encI xb=encI d.length ++ (d.take (k+1)).flatMap Za1):=by unfold Hid;rw [T.out,<- List.append_assoc,u.out,P.out,List.append_assoc];simp [ZbR]
          go_wp2
          go_roundw
          case rel=>exact ⟨k+1,by omega,by go_num,by rw [<- A.out];exact h.1,h.2.1⟩
          case measure=>simp [intOf];omega
      · obtain ⟨r,m,j,l,o⟩:=c.c0
        have E:=Zaq D
        have ap:=Zaq N
        have S1:=fun w=>ZaV D w (by omega)
        have S2:=fun w=>ZaV N w (by omega)
        have ad:∀ k,vb.ownBlock=some k -> k < wb.heap.size:=fun k X=>(c.1.lt k X).2
        go_wp2_with fail
        go_region_law (first
          | (refine Zcu rfl (.tmp 59) (.tmp 62) rfl rfl F rfl C (by rw [List.length_append];omega) ?_
             intro M Q h f)
          | (refine Zcu rfl (.tmp 70) (.tmp 73) rfl rfl F rfl C (by rw [List.length_append];omega) ?_
             intro M Q h f)
          | (refine Zcu rfl _ _ rfl rfl c rfl V (by omega) ?_
             intro vf wf F Y
             have p:=F.c0
             obtain ⟨r,m,j,l,o⟩:=p
             try replace C:=ZjV (fun k X=>Nat.lt_of_lt_of_le (ad k X) (by first | exact J.size | exact Nat.le_refl _)) C Y)
          | (go_simp;go_at_call 147;with_reducible refine (S1 _).mono ?_
             rintro e we ⟨ve,rfl,V,J⟩
             try replace J:=ZgI J
             obtain ⟨aA,cA,rfl⟩:=Zag V
             replace c:=c.below J
             have p:=c.c0
             obtain ⟨r,m,j,l,o⟩:=p
             try replace C:=Zac C J)
          | (go_simp;go_at_call 147;with_reducible refine (S2 _).mono ?_
             rintro e wg ⟨vg,rfl,C,I⟩
             try replace I:=ZgI I
             obtain ⟨aB,cB,rfl⟩:=Zag C
             try replace c:=c.below I
             try replace F:=F.below I
             first | (have p:=F.c0;obtain ⟨r,m,j,l,o⟩:=p) | (have p:=c.c0;obtain ⟨r,m,j,l,o⟩:=p)
             try replace V:=Zac V I))
        all_goals
          have A:Hid (cs ++ encI D ++ encI N=encI d.length ++ (d.take (k+1)).flatMap Za1):=by unfold Hid;rw [T.out,<- List.append_assoc,u.out,P.out,List.append_assoc];simp [ZbR]
          go_wp2
          go_roundw
          case rel=>exact ⟨k+1,by omega,by go_num,by rw [<- A.out];exact h.1,h.2.1⟩
          case measure=>simp [intOf];omega
      · obtain ⟨r,m,j,l,o⟩:=c.c0
        go_wp2_with fail
        refine (ZaV N _ (by omega)).mono ?_
        rintro e wc ⟨vc,rfl,t,B⟩
        obtain ⟨ac,cc,rfl⟩:=Zag t
        clear r m j l o
        replace c:=c.below B
        have E:=Zaq N
        go_wp2_with (at_builtin;refine Zbj rfl _ _ rfl rfl c rfl t (by omega) ?_)
        intro M Q h f
        clear t B f c
        have A:Hid (cs ++ encI N=encI d.length ++ (d.take (k+1)).flatMap Za1):=by unfold Hid;rw [T.out,<- List.append_assoc,u.out,P.out];simp [ZbR]
        go_wp2
        go_roundw
        case rel=>exact ⟨k+1,by omega,by go_num,by rw [<- A.out];exact h.1,h.2.1⟩
        case measure=>simp [intOf];omega
      · obtain ⟨r,m,j,l,o⟩:=c.c0
        go_wp2_with fail
        refine (ZaV D _ (by omega)).mono ?_
        rintro e wc ⟨vc,rfl,t,B⟩
        obtain ⟨ac,cc,rfl⟩:=Zag t
        clear r m j l o
        replace c:=c.below B
        have E:=Zaq D
        go_wp2_with (at_builtin;refine Zbj rfl _ _ rfl rfl c rfl t (by omega) ?_)
        intro M Q h f
        clear t B f c
        have A:Hid (cs ++ encI D=encI d.length ++ (d.take (k+1)).flatMap Za1):=by unfold Hid;rw [T.out,<- List.append_assoc,u.out,P.out];simp [ZbR]
        go_wp2
        go_roundw
        case rel=>exact ⟨k+1,by omega,by go_num,by rw [<- A.out];exact h.1,h.2.1⟩
        case measure=>simp [intOf];omega
      · obtain ⟨r,m,j,l,o⟩:=c.c0
        go_wp2_with fail
        refine (ZaV D _ (by omega)).mono ?_
        rintro e wc ⟨vc,rfl,t,B⟩
        obtain ⟨ac,cc,rfl⟩:=Zag t
        clear r m j l o
        replace c:=c.below B
        have E:=Zaq D
        go_wp2_with (at_builtin;refine Zbj rfl _ _ rfl rfl c rfl t (by omega) ?_)
        intro M Q h f
        clear t B f c
        have A:Hid (cs ++ encI D=encI d.length ++ (d.take (k+1)).flatMap Za1):=by unfold Hid;rw [T.out,<- List.append_assoc,u.out,P.out];simp [ZbR]
        go_wp2
        go_roundw
        case rel=>exact ⟨k+1,by omega,by go_num,by rw [<- A.out];exact h.1,h.2.1⟩
        case measure=>simp [intOf];omega
    · have al:k=d.length:=by omega
      subst al
      rw [List.take_length] at S
      go_wp2
      go_ret
      exact ⟨u3,rfl,Zah S (by omega),U.trans (G.mono U.size)⟩
theorem ZdO {ops:Array Oper}{b:List Oper}{o:Oper}{a:Act}{w:World}{Q:Exit -> Act -> World -> Prop}(v:o.guard=none)(s y:Operand)(h:o.op=Op.call { callee:=Callee.builtin Builtin.append,args:=#[s,y],argTypes:=#[161,161] }){B:Nat}{j:Value}{e:List Int}(r:a.eval s=j)(O:w.ownsRow B 5 1 j e.length (bv e))(n:B <= w.heap.size){m:Option Addr}{c base:Nat}{zs:List Int}(x:a.eval y=.slice m zs.length c)(p:w.ownsRow base 5 1 (.slice m zs.length c) zs.length (bv zs))(C:e.length+zs.length <= 1000000)(A:∀ f d,OwnB d B f (e ++ zs) -> Below B w d -> Stays w d -> wpList Tryz.prog ops Q b (a.put o.dst f) d):wpList Tryz.prog ops Q (o :: b) a w:=by
 obtain ⟨t,hi,l,g,i⟩:=info_parts Zm9
 refine ZaA w v s y 161 h B 5 t (.int .u8 0) 1 1 Tryz.underlying161 hi l g i rfl (by decide) j e.length (bv e) r O m zs.length c (bv zs) x (by rw [ZaU];simp) (ZdC p) (ZdL p (ZaU _)) (ints_oneCell .u8 _) (by unfold maxLen;omega) (by omega) n ?_
 intro f d u q
 exact A f d (by unfold OwnB;rw [List.length_append,Zcd];exact u) ((Below.refl _ _).grown q n (fun k z=>(O.lt k z).1)) (Stays.grown O q)
def Puts (f:Nat)(x:Nd):Prop:=∀ (vb:Value) (bs:List Int) (B:Nat) (w:World),w.ownsRow B 5 1 vb bs.length (bv bs) -> B <= w.heap.size -> bs.length <= 400000 -> Calls Tryz.prog f #[vb,.agg #[.int .i64 x.k,.int .i64 x.n,.string x.s,.int .i64 x.a,.int .i64 x.b]] w fun e w'=>∃ v',e=.returned v'/\w'.ownsRow B 5 1 v' (bs ++ ZbR x).length (bv (bs ++ ZbR x))/\Below B w w'/\Stays w w'
def fnV (n:Nat):Value:=.func (.func n) #[] #[]
def Zca:Array Value:=#[.nilFunc,.nilFunc,.func (.func 221) #[] #[],.func (.func 222) #[] #[],.func (.func 223) #[] #[],.func (.func 224) #[] #[],.func (.func 225) #[] #[],.func (.func 226) #[] #[],.func (.func 227) #[] #[],.func (.func 228) #[] #[],.func (.func 229) #[] #[],.func (.func 230) #[] #[],.func (.func 231) #[] #[],.func (.func 232) #[] #[],.func (.func 233) #[] #[],.func (.func 234) #[] #[],.func (.func 223) #[] #[],.func (.func 224) #[] #[],.func (.func 223) #[] #[],.func (.func 224) #[] #[]]
theorem Zer:Zca.all (·.oneCell')=true:=by simp [Zca,Value.oneCell']
theorem Znl:(Tryz.prog.info? 295).map (·.size)=some 20:=by kernel_rfl
theorem Zip (w:World):Calls Tryz.prog 212 #[] w fun e g=>e=.returned (.agg Zca)/\Below w.heap.size w g:=by
 go_enter Tryz.func212,Tryz.ntmps212
 go_wp2_with (refine Zai rfl 295 _ _ rfl w.heap.size Zca rfl rfl 295 _ (heap_alloc_new _ _) Znl rfl Zer ?_)
 intro d a b f
 have c:Below w.heap.size w d:=((Below.refl _ _).alloc (Nat.le_refl _) _).trans b
 go_wp2
 exact bodyPost_ret (results_cell_row rfl _ _ w.heap.size 295 _ (0,0) _ rfl a Tryz.underlying295 rfl Znl) rfl ⟨rfl,c⟩
theorem Za7 {f:FuncId}{b:Func}{c:Code}(d:Tryz.prog.funcs[f]? = some b)(a:(b.name == "runtime.NumGoroutine")=false)(g:b.body=some c)(args:Array Value)(w:World) :
  Sem.run Tryz.prog (callFunc f args) w=.ok (.enter f args) w:=by
 have e:b.name ≠ "runtime.NumGoroutine" := by simpa using a
 simp [callFunc,d,e,g]
end Go.Proofs.YtfeodlbpnghakaaGreatDoor
