/-
  Texts that stood by themselves, laid into one.
-/
import Derived.Test.YtkpfangkfknhoaaGreatDoorNumberM
import Derived.Test.YtkpfangkfknhoaaGreatDoorShapeM
import Derived.Test.YtkpfangkfknhoaaGreatDoorSPTextM
import Derived.Test.YtkpfangkfknhoaaGreatDoorMach2M
import Derived.Test.YtkpfangkfknhoaaGreatDoorMcTM
import Derived.Deep.RegionHeld
import Derived.OneCell
import Derived.Test.YtkpfangkfknhoaaGreatDoorMark2M
import Derived.Deep.AppendLies
import Derived.Deep.RegionLawGrows
/-
  Contract of impl.PutNum: for every int a new slice of its own that holds the number's bytes.
-/
set_option maxRecDepth 100000
set_option maxHeartbeats 6400000
namespace Go.Proofs.YtkpfangkfknhoaaGreatDoor
open Go.Proofs.Tryz
open Go.RowKit
def Stays (w w':World):Prop:=∀ (j:Nat) (c:Array Value) (t:TypeId),t ≠ 5 -> w.heap[j]? = some (.cells c t (0,0)) -> w'.heap[j]? = some (.cells c t (0,0))
theorem Stays.refl (w:World):Stays w w:=fun _ _ _ _ h=>h
theorem Stays.trans {d e a:World}(h:Stays d e)(k:Stays e a):Stays d a:=fun j c t b f=>k j c t b (h j c t b f)
theorem Stays.below {w a:World}(c:Below w.heap.size w a):Stays w a:=fun j _ _ _ b=>(c.block j (bl b)).trans b
theorem Stays.grown {w b:World}{B n:Nat}{c:Value}{g:List Value}(f:w.ownsRow B 5 1 c n g)(h:w.grownBy b c.ownBlock):Stays w b:=fun j _ _ d a=>(h.block j (bl a) (fun e=>ZaI f a d e.symm)).trans a
def OwnB (w:World)(B:Nat)(v:Value)(bs:List Int):Prop:=w.ownsRow B 5 1 v bs.length (bv bs)
theorem Zkw (zs:List Int)(k:Nat)(h:k < zs.length):(zs.take (k+1)).flatMap encI=(zs.take k).flatMap encI ++ encI (zs.getD k 0):=by
 rw [List.take_add_one,List.getElem?_eq_getElem h,Option.toList_some,List.flatMap_append]
 congr 1
 simp [List.getD_eq_getElem?_getD,List.getElem?_eq_getElem h]
theorem ZhM (zs:List Int):(zs.flatMap encI).length <= 9 * zs.length:=by
 induction zs with
 | nil=>simp
 | cons z zs ih =>
  have:=Zat z;rw [List.flatMap_cons,List.length_append,List.length_cons];omega
theorem ZcE {P:Program}(w:World){ops:Array Oper}{o:Oper}{a:Act}{K:Act -> World -> Prop}{Q:Exit -> Act -> World -> Prop}{E:Prop}(V:o.guard=none)(s x:Operand)(t:TypeId)(l:o.op=Op.call { callee:=Callee.builtin Builtin.append,args:=#[s,x],argTypes:=#[t,t] })(base:Nat)(e:TypeId)(i:TypeInfo)(z:Value)(size d:Nat)(B:P.underlying t=some (.slice e))(r:P.info? e=some i)(O:i.zero=some z)(S:i.size=size)(J:i.bytes=d)(W:z.cells.size=size)(N:0 < size)(v:Value)(k:Nat)(y:List Value)(F:a.eval s=v)(f:w.ownsRow base e size v k y)(C:Option Addr)(m c:Nat)(b:List Value)(I:a.eval x=.slice C m c)(G:b.length=m * size)(h:C=none -> m=0/\c=0)(U:∀ n,C=some n -> ∀ j u,b[j]? = some u -> w.cell? (n.add j)=some u)(D:∀ u ∈ b,u.oneCell'=true)(L:k+m <= maxLen)(R:(k+m) * d <= 140737488355328)(T:base <= w.heap.size)(H:∀ A q,q.ownsRow base e size A (k+m) (y ++ b) -> w.grownBy q v.ownBlock -> K (a.put o.dst A) q) :
    if Region.wanted o (yielded ops a.tmps)=true then Oper.wp P o a w K Q else E:=by
  have M:Region.wanted o (yielded ops a.tmps)=true:=by simp [Region.wanted,V]
  rw [if_pos M];cases C with
  | some n=>exact wp_append_own w s x t l base e i z size d B r O S J W N v k y F f n m c b I G (U n rfl) D L R T (fun A q B r _=>H A q B r)
  | none =>
    obtain ⟨rfl,rfl⟩:=h rfl;have g:b=[]:=List.eq_nil_of_length_eq_zero (by simpa using G);subst g;have p:=run_append_owned_none (P:=P) w base t o.type e i size B r _ k y f;unfold Oper.wp execOp;simp only [l,resolve,invoke,builtin,Sem.run_bind,Sem.run_pure,Result.andThen_ok,List.map_toArray,List.map_cons,List.map_nil,F,I,p];exact H v w (by simpa using f) (World.grownBy.refl _ _)
def OutB (W0 w:World)(vo:Value)(bs:List Int)(b:Nat)(x:Nd):Prop :=
  w.ownsRow W0.heap.size 5 1 vo bs.length (bv bs)/\Below W0.heap.size W0 w/\w.heap[b]? = some (.cells #[.int .i64 x.k,.int .i64 x.n,.string x.s,.int .i64 x.a,.int .i64 x.b] 194 (0,0))
theorem OutB.below {d w c:World}{e:Value}{f:List Int}{b:Nat}{x:Nd}(h:OutB d w e f b x)(a:Below w.heap.size w c):OutB d c e f b x :=
  ⟨Zad h.1 a,h.2.1.trans (a.mono h.2.1.size),(a.block _ (Array.getElem?_eq_some_iff.1 h.2.2).1).trans h.2.2⟩
theorem OutB.drew {d w:World}{c:Value}{a:List Int}{b:Nat}{x:Nd}(h:OutB d w c a b x):OutB d w.drew c a b x:=h.below (cj _ _).drew
theorem OutB.app {d w c:World}{i g:Value}{a zs:List Int}{b:Nat}{x:Nd}(h:OutB d w i a b x)(l:c.ownsRow d.heap.size 5 1 g (a.length+zs.length) (bv a ++ bv zs))(f:w.grownBy c i.ownBlock):OutB d c g (a ++ zs) b x :=
  ⟨by rw [List.length_append,Zcn];exact l,h.2.1.grown f h.2.1.size (fun k j=>(h.1.lt k j).1),(f.block b (Array.getElem?_eq_some_iff.1 h.2.2).1 (fun e=>ZaI h.1 h.2.2 (by decide) e.symm)).trans h.2.2⟩
theorem Zbl {ops:Array Oper}{d:List Oper}{o:Oper}{a:Act}{w:World}{Q:Exit -> Act -> World -> Prop}(A:o.guard=none)(s y:Operand)(i:o.op=Op.call { callee:=Callee.builtin Builtin.append,args:=#[s,y],argTypes:=#[186,186] }){j:World}{g:Value}{e:List Int}{b:Nat}{x:Nd}(u:a.eval s=g)(O:OutB j w g e b x){n:Option Addr}{c base:Nat}{zs:List Int}(r:a.eval y=.slice n zs.length c)(p:w.ownsRow base 5 1 (.slice n zs.length c) zs.length (bv zs))(B:e.length+zs.length <= 1000000)(z:∀ h f,OutB j f h (e ++ zs) b x -> w.grownBy f g.ownBlock -> wpList prog ops Q d (a.put o.dst h) f):wpList prog ops Q (o :: d) a w:=by
  obtain ⟨t,hi,l,m,k⟩:=info_parts ZnS;refine ZaB w A s y 186 i j.heap.size 5 t (.int .u8 0) 1 1 underlying186 hi l m k rfl (by decide) g e.length (bv e) u O.1 n zs.length c (bv zs) r (by rw [ZaV];simp) (ZdU p) (ZdQ p (ZaV _)) (ints_oneCell .u8 _) (by unfold maxLen;omega) (by omega) O.2.1.size ?_;intro h f v q;exact z h f (O.app v q) q
theorem ZcB {ops:Array Oper}{o:Oper}{a:Act}{w:World}{K:Act -> World -> Prop}{Q:Exit -> Act -> World -> Prop}{E:Prop}(z:o.guard=none)(s y:Operand)(h:o.op=Op.call { callee:=Callee.builtin Builtin.append,args:=#[s,y],argTypes:=#[186,186] }){i:World}{f:Value}{d:List Int}{b:Nat}{x:Nd}(t:a.eval s=f)(O:OutB i w f d b x){m:Option Addr}{c base:Nat}{zs:List Int}(q:a.eval y=.slice m zs.length c)(n:w.ownsRow base 5 1 (.slice m zs.length c) zs.length (bv zs))(A:d.length+zs.length <= 1000000)(v:∀ g e,OutB i e g (d ++ zs) b x -> w.grownBy e f.ownBlock -> K (a.put o.dst g) e):if Region.wanted o (yielded ops a.tmps)=true then Oper.wp prog o a w K Q else E:=by
  obtain ⟨r,hi,k,l,j⟩:=info_parts ZnS;refine ZcE w z s y 186 h i.heap.size 5 r (.int .u8 0) 1 1 underlying186 hi k l j rfl (by decide) f d.length (bv d) t O.1 m zs.length c (bv zs) q (by rw [ZaV];simp) (ZdU n) (ZdQ n (ZaV _)) (ints_oneCell .u8 _) (by unfold maxLen;omega) (by omega) O.2.1.size ?_;intro g e u p;exact v g e (O.app u p) p
theorem OutB.c0 {e w:World}{d:Value}{c:List Int}{b:Nat}{x:Nd}(h:OutB e w d c b x):w.cell? ⟨b,0,none⟩=some (.int .i64 x.k)/\w.cell? ⟨b,1,none⟩=some (.int .i64 x.n)/\w.cell? ⟨b,2,none⟩=some (.string x.s)/\w.cell? ⟨b,3,none⟩=some (.int .i64 x.a)/\w.cell? ⟨b,4,none⟩=some (.int .i64 x.b) :=
  ⟨cd w _ 0 _ _ _ h.2.2,cd w _ 1 _ _ _ h.2.2,cd w _ 2 _ _ _ h.2.2,cd w _ 3 _ _ _ h.2.2,cd w _ 4 _ _ _ h.2.2⟩
theorem Zj2 {w c:World}{f:Value}{zs:List Int}{base:Nat}{b:Value}(a:∀ k,f.ownBlock=some k -> k < base)(d:w.ownsRow base 5 1 b zs.length (bv zs))(h:w.grownBy c f.ownBlock):c.ownsRow base 5 1 b zs.length (bv zs):=by
  refine d.kept h ?_;cases g:b.ownBlock with
  | none=>exact Or.inl rfl
  | some k =>
    refine Or.inr fun e=>?_
    have i:=a k e.symm;have k2:=(d.lt k g).1;omega
theorem Zhw {a b:World}(h:Below a.drew.heap.size a.drew b):Below a.heap.size a b:=(cj _ _).drew.trans h
theorem ZdV (v:Value)(d:List Nd)(w:World)(R:NRow w v d)(hx:∀ x ∈ d,NdOk x)(hl:d.length <= 3000) :
    Calls prog 177 #[.agg #[v]] w fun e w'=>∃ v',e=.returned v'/\w'.ownsRow w.heap.size 5 1 v' (ZbG d).length (bv (ZbG d))/\Below w.heap.size w w':=by
  have R':=R;obtain ⟨ao,K,rfl,_,_,hz,z⟩:=R';obtain ⟨H,ad⟩:∃ H,w.alloc (Obj.cells #[.slice ao d.length K] 40)=H:=⟨_,rfl⟩;have W:Below w.heap.size w H:=by rw [<- ad];exact (cj _ _).alloc (ce _) _
  have ak:H.heap[w.heap.size]? = some (.cells #[.slice ao d.length K] 40 (0,0)):=by rw [<- ad];exact co _ _
  have aE:H.heap.size=w.heap.size+1:=by rw [<- ad];simp
  have aC:H.cell? ⟨w.heap.size,0,none⟩=some (.slice ao d.length K):=cd H _ 0 _ _ _ ak;have aw:(encI d.length).length <= 9:=Zat _
  go_enter func177,ntmps177
  go_wp2_with fail;refine (ZaX (d.length:Int) _ (by omega)).mono ?_;rintro e w1 ⟨v1,rfl,ah,ag⟩;go_wp2_with fail
  go_loopw [3,4] (fun vo i wr=>∃ k:Nat,k <= d.length/\i=.int .i64 k/\wr.ownsRow H.heap.size 5 1 vo (encI d.length ++ (d.take k).flatMap Za3).length (bv (encI d.length ++ (d.take k).flatMap Za3))/\Below H.heap.size H wr) (fun _ i _=>d.length - (intOf i).toNat)
  case atStart=>exact ⟨0,by omega,rfl,by simpa using ah,ag⟩
  case round =>
    obtain ⟨k,X,rfl,U,I⟩:=hrel;have an:wr.heap[w.heap.size]? = some (.cells #[.slice ao d.length K] 40 (0,0)):=(I.block _ (by omega)).trans ak;have cp:wr.cell? ⟨w.heap.size,0,none⟩=some (.slice ao d.length K):=cd wr _ 0 _ _ _ an
    by_cases af:k < d.length
    · obtain ⟨x,Y⟩:∃ x,d[k]? = some x:=⟨d[k],by simp [af]⟩
      have aq:=hx x (List.mem_of_getElem? Y);have T:Hid ((d.take (k+1)).flatMap Za3=(d.take k).flatMap Za3 ++ Za3 x):=Zin d k x Y
      have av:(encI d.length ++ (d.take k).flatMap Za3).length <= 100000:=by
        have:=Zgp (d.take k) (fun y hy=>hx y (List.mem_of_mem_take hy));rw [List.length_append];rw [List.length_take] at this;omega
      obtain ⟨g,oo,rfl,hg,z⟩:=z (by intro e;subst e;simp at af);have ai:=W.trans (I.mono W.size);obtain ⟨x0,x1,x2,x3,x4⟩:=(z k x Y).below ai hg;have aD:g < wr.heap.size:=cy hg ai.size;clear z;obtain ⟨⟨ay,aF⟩,⟨aG,aH⟩,hs,ha,hb⟩:=aq;obtain ⟨wn,aj⟩:∃ wn,wr.alloc (Obj.cells #[.int .i64 x.k,.int .i64 x.n,.string x.s,.int .i64 x.a,.int .i64 x.b] 194)=wn:=⟨_,rfl⟩;have am:wn.heap[wr.heap.size]? = some (.cells #[.int .i64 x.k,.int .i64 x.n,.string x.s,.int .i64 x.a,.int .i64 x.b] 194 (0,0)):=by rw [<- aj];exact co _ _
      have ae:Below wr.heap.size wr wn:=by rw [<- aj];exact (cj _ _).alloc (ce _) _
      have O:OutB H wn u3 (encI d.length ++ (d.take k).flatMap Za3) wr.heap.size x:=⟨Zad U ae,I.trans (ae.mono I.size),am⟩;obtain ⟨bs,u⟩:∃ bs,Hid (encI d.length ++ (d.take k).flatMap Za3=bs):=⟨_,rfl⟩;rw [u.out] at O av;clear U;have q:=O.c0;obtain ⟨m,r,o,j,l⟩:=q;go_wp2_with fail;refine (ZaX x.k _ (by omega)).mono ?_;rintro e wa ⟨va,rfl,oa,ba⟩;obtain ⟨aa,ca,rfl⟩:=Zag oa;clear m r o j l;replace O:=O.below ba;have az:=Zat x.k
      go_wp2_with (at_builtin;refine Zbl rfl _ _ rfl rfl O rfl oa (by omega) ?_)
      intro vb wb c ap;clear oa ba ap O;have N:Hid (bs ++ Za3 x=(bs ++ encI x.k) ++ ZbZ x):=by unfold Hid Za3;rw [List.append_assoc]
      have ax:(bs ++ encI x.k).length <= 100100:=by rw [List.length_append];omega
      generalize bs ++ encI x.k=cs at *;obtain ⟨Q,C,M,V,xb⟩:=x
      dsimp only at *
      have au:Q=1 \/ Q=2 \/ Q=3 \/ Q=4 \/ Q=5 \/ Q=6 \/ Q=7 \/ Q=8 \/ Q=9:=by omega
      rcases au with rfl | rfl | rfl | rfl | rfl | rfl | rfl | rfl | rfl
      · obtain ⟨m,r,o,j,l⟩:=c.c0
        have B:Hid (cs=encI d.length ++ (d.take (k+1)).flatMap Za3):=by unfold Hid;rw [T.out,<- List.append_assoc,u.out,N.out];simp [ZbZ]
        go_wp2
        go_roundw
        case rel=>exact ⟨k+1,by omega,by go_num,by rw [<- B.out];exact c.1,c.2.1⟩
        case measure=>simp [intOf];omega
      · obtain ⟨m,r,o,j,l⟩:=c.c0
        go_wp2_with fail;refine (ZaX C _ (by omega)).mono ?_;rintro e wc ⟨vc,rfl,t,A⟩;obtain ⟨ac,cc,rfl⟩:=Zag t;clear m r o j l;replace c:=c.below A;have E:=Zat C
        go_wp2_with (at_builtin;refine Zbl rfl _ _ rfl rfl c rfl t (by omega) ?_)
        intro S L h f;clear t A f c;have B:Hid (cs ++ encI C=encI d.length ++ (d.take (k+1)).flatMap Za3):=by unfold Hid;rw [T.out,<- List.append_assoc,u.out,N.out];simp [ZbZ]
        go_wp2
        go_roundw
        case rel=>exact ⟨k+1,by omega,by go_num,by rw [<- B.out];exact h.1,h.2.1⟩
        case measure=>simp [intOf];omega
      · obtain ⟨m,r,o,j,l⟩:=c.c0
        go_wp2_with fail;refine (ZaX (C+1000000000) _ (by omega)).mono ?_;rintro e wc ⟨vc,rfl,t,A⟩;obtain ⟨ac,cc,rfl⟩:=Zag t;clear m r o j l;replace c:=c.below A;have E:=Zat (C+1000000000)
        go_wp2_with (at_builtin;refine Zbl rfl _ _ rfl rfl c rfl t (by omega) ?_)
        intro S L h f;clear t A f c;have B:Hid (cs ++ encI (C+1000000000)=encI d.length ++ (d.take (k+1)).flatMap Za3):=by unfold Hid;rw [T.out,<- List.append_assoc,u.out,N.out];simp [ZbZ]
        go_wp2
        go_roundw
        case rel=>exact ⟨k+1,by omega,by go_num,by rw [<- B.out];exact h.1,h.2.1⟩
        case measure=>simp [intOf];omega
      · obtain ⟨m,r,o,j,l⟩:=c.c0
        go_wp2_with fail;refine (Ziu M _ (by omega)).mono ?_;rintro e wc ⟨vc,rfl,t,A⟩;obtain ⟨ac,cc,rfl⟩:=Zag t;clear m r o j l;replace c:=c.below A;have E:(pt M).length <= 21:=by rw [Zc4];have:=Zat M.size;omega
        go_wp2_with (at_builtin;refine Zbl rfl _ _ rfl rfl c rfl t (by omega) ?_)
        intro S L h f;clear t A f c;have B:Hid (cs ++ pt M=encI d.length ++ (d.take (k+1)).flatMap Za3):=by unfold Hid;rw [T.out,<- List.append_assoc,u.out,N.out];simp [ZbZ]
        go_wp2
        go_roundw
        case rel=>exact ⟨k+1,by omega,by go_num,by rw [<- B.out];exact h.1,h.2.1⟩
        case measure=>simp [intOf];omega
      · obtain ⟨m,r,o,j,l⟩:=c.c0
        have E:=Zat V;have al:=Zat xb;have S1:=fun w=>ZaX V w (by omega)
        have S2:=fun w=>ZaX xb w (by omega)
        have ab:∀ k,vb.ownBlock=some k -> k < wb.heap.size:=fun k X=>(c.1.lt k X).2
        go_wp2_with fail
        go_region_law (first
          | (refine ZcB rfl (.tmp 59) (.tmp 62) rfl rfl F rfl D (by rw [List.length_append];omega) ?_
             intro S L h f)
          | (refine ZcB rfl (.tmp 70) (.tmp 73) rfl rfl F rfl D (by rw [List.length_append];omega) ?_
             intro S L h f)
          | (refine ZcB rfl _ _ rfl rfl c rfl P (by omega) ?_
             intro vf wf F Z;have p:=F.c0;obtain ⟨m,r,o,j,l⟩:=p
             try replace D:=Zj2 (fun k X=>cy (ab k X) (by first | exact J.size | exact ce _)) D Z)
          | (go_simp;go_at_call 176;with_reducible refine (S1 _).mono ?_
             rintro e we ⟨ve,rfl,P,J⟩
             try replace J:=Zhw J
             obtain ⟨aA,cA,rfl⟩:=Zag P;replace c:=c.below J;have p:=c.c0;obtain ⟨m,r,o,j,l⟩:=p
             try replace D:=Zad D J)
          | (go_simp;go_at_call 176;with_reducible refine (S2 _).mono ?_
             rintro e wg ⟨vg,rfl,D,G⟩
             try replace G:=Zhw G
             obtain ⟨aB,cB,rfl⟩:=Zag D
             try replace c:=c.below G
             try replace F:=F.below G
             first | (have p:=F.c0;obtain ⟨m,r,o,j,l⟩:=p) | (have p:=c.c0;obtain ⟨m,r,o,j,l⟩:=p)
             try replace P:=Zad P G))
        all_goals
          have B:Hid (cs ++ encI V ++ encI xb=encI d.length ++ (d.take (k+1)).flatMap Za3):=by unfold Hid;rw [T.out,<- List.append_assoc,u.out,N.out,List.append_assoc];simp [ZbZ]
          go_wp2
          go_roundw
          case rel=>exact ⟨k+1,by omega,by go_num,by rw [<- B.out];exact h.1,h.2.1⟩
          case measure=>simp [intOf];omega
      · obtain ⟨m,r,o,j,l⟩:=c.c0
        have E:=Zat C;have al:=Zat V;have S1:=fun w=>ZaX C w (by omega)
        have S2:=fun w=>ZaX V w (by omega)
        have ab:∀ k,vb.ownBlock=some k -> k < wb.heap.size:=fun k X=>(c.1.lt k X).2
        go_wp2_with fail
        go_region_law (first
          | (refine ZcB rfl (.tmp 59) (.tmp 62) rfl rfl F rfl D (by rw [List.length_append];omega) ?_
             intro S L h f)
          | (refine ZcB rfl (.tmp 70) (.tmp 73) rfl rfl F rfl D (by rw [List.length_append];omega) ?_
             intro S L h f)
          | (refine ZcB rfl _ _ rfl rfl c rfl P (by omega) ?_
             intro vf wf F Z;have p:=F.c0;obtain ⟨m,r,o,j,l⟩:=p
             try replace D:=Zj2 (fun k X=>cy (ab k X) (by first | exact J.size | exact ce _)) D Z)
          | (go_simp;go_at_call 176;with_reducible refine (S1 _).mono ?_
             rintro e we ⟨ve,rfl,P,J⟩
             try replace J:=Zhw J
             obtain ⟨aA,cA,rfl⟩:=Zag P;replace c:=c.below J;have p:=c.c0;obtain ⟨m,r,o,j,l⟩:=p
             try replace D:=Zad D J)
          | (go_simp;go_at_call 176;with_reducible refine (S2 _).mono ?_
             rintro e wg ⟨vg,rfl,D,G⟩
             try replace G:=Zhw G
             obtain ⟨aB,cB,rfl⟩:=Zag D
             try replace c:=c.below G
             try replace F:=F.below G
             first | (have p:=F.c0;obtain ⟨m,r,o,j,l⟩:=p) | (have p:=c.c0;obtain ⟨m,r,o,j,l⟩:=p)
             try replace P:=Zad P G))
        all_goals
          have B:Hid (cs ++ encI C ++ encI V=encI d.length ++ (d.take (k+1)).flatMap Za3):=by unfold Hid;rw [T.out,<- List.append_assoc,u.out,N.out,List.append_assoc];simp [ZbZ]
          go_wp2
          go_roundw
          case rel=>exact ⟨k+1,by omega,by go_num,by rw [<- B.out];exact h.1,h.2.1⟩
          case measure=>simp [intOf];omega
      · obtain ⟨m,r,o,j,l⟩:=c.c0
        go_wp2_with fail;refine (ZaX V _ (by omega)).mono ?_;rintro e wc ⟨vc,rfl,t,A⟩;obtain ⟨ac,cc,rfl⟩:=Zag t;clear m r o j l;replace c:=c.below A;have E:=Zat V
        go_wp2_with (at_builtin;refine Zbl rfl _ _ rfl rfl c rfl t (by omega) ?_)
        intro S L h f;clear t A f c;have B:Hid (cs ++ encI V=encI d.length ++ (d.take (k+1)).flatMap Za3):=by unfold Hid;rw [T.out,<- List.append_assoc,u.out,N.out];simp [ZbZ]
        go_wp2
        go_roundw
        case rel=>exact ⟨k+1,by omega,by go_num,by rw [<- B.out];exact h.1,h.2.1⟩
        case measure=>simp [intOf];omega
      · obtain ⟨m,r,o,j,l⟩:=c.c0
        go_wp2_with fail;refine (ZaX C _ (by omega)).mono ?_;rintro e wc ⟨vc,rfl,t,A⟩;obtain ⟨ac,cc,rfl⟩:=Zag t;clear m r o j l;replace c:=c.below A;have E:=Zat C
        go_wp2_with (at_builtin;refine Zbl rfl _ _ rfl rfl c rfl t (by omega) ?_)
        intro S L h f;clear t A f c;have B:Hid (cs ++ encI C=encI d.length ++ (d.take (k+1)).flatMap Za3):=by unfold Hid;rw [T.out,<- List.append_assoc,u.out,N.out];simp [ZbZ]
        go_wp2
        go_roundw
        case rel=>exact ⟨k+1,by omega,by go_num,by rw [<- B.out];exact h.1,h.2.1⟩
        case measure=>simp [intOf];omega
      · obtain ⟨m,r,o,j,l⟩:=c.c0
        go_wp2_with fail;refine (ZaX C _ (by omega)).mono ?_;rintro e wc ⟨vc,rfl,t,A⟩;obtain ⟨ac,cc,rfl⟩:=Zag t;clear m r o j l;replace c:=c.below A;have E:=Zat C
        go_wp2_with (at_builtin;refine Zbl rfl _ _ rfl rfl c rfl t (by omega) ?_)
        intro S L h f;clear t A f c;have B:Hid (cs ++ encI C=encI d.length ++ (d.take (k+1)).flatMap Za3):=by unfold Hid;rw [T.out,<- List.append_assoc,u.out,N.out];simp [ZbZ]
        go_wp2
        go_roundw
        case rel=>exact ⟨k+1,by omega,by go_num,by rw [<- B.out];exact h.1,h.2.1⟩
        case measure=>simp [intOf];omega
    · have ar:k=d.length:=by omega
      subst ar;rw [List.take_length] at U;go_wp2;go_ret;exact ⟨u3,rfl,Zah U (by omega),W.trans (I.mono W.size)⟩
theorem ZdF {ops:Array Oper}{b:List Oper}{o:Oper}{a:Act}{w:World}{Q:Exit -> Act -> World -> Prop}(A:o.guard=none)(s y:Operand)(g:o.op=Op.call { callee:=Callee.builtin Builtin.append,args:=#[s,y],argTypes:=#[186,186] }){B:Nat}{h:Value}{d:List Int}(v:a.eval s=h)(O:w.ownsRow B 5 1 h d.length (bv d))(p:B <= w.heap.size){m:Option Addr}{c base:Nat}{zs:List Int}(r:a.eval y=.slice m zs.length c)(n:w.ownsRow base 5 1 (.slice m zs.length c) zs.length (bv zs))(C:d.length+zs.length <= 1000000)(z:∀ f e,OwnB e B f (d ++ zs) -> Below B w e -> Stays w e -> wpList prog ops Q b (a.put o.dst f) e):wpList prog ops Q (o :: b) a w:=by
 obtain ⟨u,hi,j,l,i⟩:=info_parts ZnS;refine ZaB w A s y 186 g B 5 u (.int .u8 0) 1 1 underlying186 hi j l i rfl (by decide) h d.length (bv d) v O m zs.length c (bv zs) r (by rw [ZaV];simp) (ZdU n) (ZdQ n (ZaV _)) (ints_oneCell .u8 _) (by unfold maxLen;omega) (by omega) p ?_;intro f e x q;exact z f e (by unfold OwnB;rw [List.length_append,Zcn];exact x) ((cj _ _).grown q p (fun k t=>(O.lt k t).1)) (Stays.grown O q)
def Puts (f:Nat)(x:Nd):Prop:=∀ (vb:Value) (bs:List Int) (B:Nat) (w:World),w.ownsRow B 5 1 vb bs.length (bv bs) -> B <= w.heap.size -> bs.length <= 400000 -> Calls prog f #[vb,.agg #[.int .i64 x.k,.int .i64 x.n,.string x.s,.int .i64 x.a,.int .i64 x.b]] w fun e w'=>∃ v',e=.returned v'/\w'.ownsRow B 5 1 v' (bs ++ ZbZ x).length (bv (bs ++ ZbZ x))/\Below B w w'/\Stays w w'
def fnV (n:Nat):Value:=.func (.func n) #[] #[]
def Zcg:Array Value:=#[.nilFunc,.nilFunc,.func (.func 228) #[] #[],.func (.func 229) #[] #[],.func (.func 230) #[] #[],.func (.func 231) #[] #[],.func (.func 232) #[] #[],.func (.func 233) #[] #[],.func (.func 234) #[] #[],.func (.func 235) #[] #[],.func (.func 236) #[] #[],.func (.func 237) #[] #[],.func (.func 238) #[] #[],.func (.func 239) #[] #[],.func (.func 240) #[] #[],.func (.func 241) #[] #[],.func (.func 230) #[] #[],.func (.func 231) #[] #[],.func (.func 230) #[] #[],.func (.func 231) #[] #[]]
theorem Zei:Zcg.all (·.oneCell')=true:=by simp [Zcg,Value.oneCell']
theorem ZnZ:(prog.info? 295).map (·.size)=some 20:=by kernel_rfl
theorem Zim (w:World):Calls prog 219 #[] w fun e d=>e=.returned (.agg Zcg)/\Below w.heap.size w d:=by
 go_enter func219,ntmps219
 go_wp2_with (refine Zai rfl 295 _ _ rfl w.heap.size Zcg rfl rfl 295 _ (co _ _) ZnZ rfl Zei ?_)
 intro g a b f;have c:Below w.heap.size w g:=((cj _ _).alloc (ce _) _).trans b;go_wp2;exact cx (results_cell_row rfl _ _ w.heap.size 295 _ (0,0) _ rfl a underlying295 rfl ZnZ) rfl ⟨rfl,c⟩
theorem Zbd {f:FuncId}{b:Func}{c:Code}(g:prog.funcs[f]? = some b)(a:(b.name == "runtime.NumGoroutine")=false)(d:b.body=some c)(args:Array Value)(w:World) :
  Sem.run prog (callFunc f args) w=.ok (.enter f args) w:=by
 have e:b.name ≠ "runtime.NumGoroutine" := by simpa using a
 simp [callFunc,g,e,d]
end Go.Proofs.YtkpfangkfknhoaaGreatDoor
