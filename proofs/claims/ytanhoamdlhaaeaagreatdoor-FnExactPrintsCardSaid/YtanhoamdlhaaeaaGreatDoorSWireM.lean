/-
  Texts that stood by themselves, laid into one.
-/
import Derived.Test.YtanhoamdlhaaeaaGreatDoorR8cM
import Derived.Test.YtanhoamdlhaaeaaGreatDoorIPutM
import Derived.Test.YtanhoamdlhaaeaaGreatDoorMkListM
import Derived.Test.YtanhoamdlhaaeaaGreatDoorNodeFitsM
import Derived.Deep.RegionHeld
import Derived.OneCell
import Derived.Test.YtanhoamdlhaaeaaGreatDoorShapeM
import Derived.Deep.AppendLies
import Derived.Deep.RegionLawGrows
/-
  Contract of impl.PutText: for every text of at most 2^21 bytes a new slice of its own that holds the bytes of its length, and then its own.
-/
set_option maxRecDepth 100000
set_option maxHeartbeats 6400000
namespace Go.Proofs.YtanhoamdlhaaeaaGreatDoor
open Go.Proofs.Tryz
open Go.RowKit
def Zlg (w w':World):Prop:=∀ (j:Nat) (c:Array Value) (t:TypeId),t ≠ 5 -> w.heap[j]? = some (.cells c t (0,0)) -> w'.heap[j]? = some (.cells c t (0,0))
def OwnB (w:World)(B:Nat)(v:Value)(bs:List Int):Prop:=w.ownsRow B 5 1 v bs.length (bv bs)
theorem Zcb {P:Program}(w:World){ops:Array Oper}{o:Oper}{a:Act}{K:Act -> World -> Prop}{Q:Exit -> Act -> World -> Prop}{E:Prop}(Y:o.guard=none)(s x:Operand)(t:TypeId)(r:o.op=Op.call { callee:=Callee.builtin Builtin.append,args:=#[s,x],argTypes:=#[t,t] })(f:Nat)(e:TypeId)(i:TypeInfo)(z:Value)(b g:Nat)(C:P.underlying t=some (.slice e))(D:P.info? e=some i)(S:i.zero=some z)(T:i.size=b)(U:i.bytes=g)(V:z.cells.size=b)(W:0 < b)(v:Value)(k:Nat)(G:List Value)(L:a.eval s=v)(l:w.ownsRow f e b v k G)(B:Option Addr)(m c:Nat)(d:List Value)(M:a.eval x=.slice B m c)(J:d.length=m * b)(p:B=none -> m=0/\c=0)(X:∀ q,B=some q -> ∀ j u,d[j]? = some u -> w.cell? (q.add j)=some u)(H:∀ u ∈ d,u.oneCell'=true)(N:k+m <= maxLen)(O:(k+m) * g <= 140737488355328)(R:f <= w.heap.size)(I:∀ F A,A.ownsRow f e b F (k+m) (G ++ d) -> w.grownBy A v.ownBlock -> K (a.put o.dst F) A) :
    if Region.wanted o (yielded ops a.tmps)=true then Oper.wp P o a w K Q else E:=by
  have Z:Region.wanted o (yielded ops a.tmps)=true:=by simp [Region.wanted,Y]
  rw [if_pos Z];cases B with
  | some q=>exact wp_append_own w s x t r f e i z b g C D S T U V W v k G L l q m c d M J (X q rfl) H N O R (fun F A C D _=>I F A C D)
  | none =>
    obtain ⟨rfl,rfl⟩:=p rfl;have n:d=[]:=List.eq_nil_of_length_eq_zero (by simpa using J);subst n;have y:=run_append_owned_none (P:=P) w f t o.type e i b C D _ k G l;unfold Oper.wp execOp;simp only [r,resolve,invoke,builtin,Sem.run_bind,Sem.run_pure,Result.andThen_ok,List.map_toArray,List.map_cons,List.map_nil,L,M,y];exact I v w (by simpa using l) (World.grownBy.refl _ _)
def OutB (W0 w:World)(vo:Value)(bs:List Int)(b:Nat)(x:Nd):Prop :=
  w.ownsRow W0.heap.size 5 1 vo bs.length (bv bs)/\Below W0.heap.size W0 w/\w.heap[b]? = some (.cells #[.int .i64 x.k,.int .i64 x.n,.string x.s,.int .i64 x.a,.int .i64 x.b] 176 (0,0))
theorem OutB.below {c w f:World}{e:Value}{d:List Int}{b:Nat}{x:Nd}(h:OutB c w e d b x)(a:Below w.heap.size w f):OutB c f e d b x :=
  ⟨Zac h.1 a,h.2.1.trans (a.mono h.2.1.size),(a.block _ (Array.getElem?_eq_some_iff.1 h.2.2).1).trans h.2.2⟩
theorem OutB.app {c w d:World}{j i:Value}{a f:List Int}{b:Nat}{x:Nd}(h:OutB c w j a b x)(m:d.ownsRow c.heap.size 5 1 i (a.length+f.length) (bv a ++ bv f))(g:w.grownBy d j.ownBlock):OutB c d i (a ++ f) b x :=
  ⟨by rw [List.length_append,Zci];exact m,h.2.1.grown g h.2.1.size (fun k l=>(h.1.lt k l).1),(g.block b (Array.getElem?_eq_some_iff.1 h.2.2).1 (fun e=>Zgs h.1 h.2.2 (by decide) e.symm)).trans h.2.2⟩
theorem Za8 {ops:Array Oper}{d:List Oper}{o:Oper}{a:Act}{w:World}{Q:Exit -> Act -> World -> Prop}(A:o.guard=none)(s y:Operand)(n:o.op=Op.call { callee:=Callee.builtin Builtin.append,args:=#[s,y],argTypes:=#[144,144] }){l:World}{k:Value}{g:List Int}{b:Nat}{x:Nd}(B:a.eval s=k)(O:OutB l w k g b x){m:Option Addr}{c f:Nat}{e:List Int}(C:a.eval y=.slice m e.length c)(t:w.ownsRow f 5 1 (.slice m e.length c) e.length (bv e))(E:g.length+e.length <= 1000000)(z:∀ j i,OutB l i j (g ++ e) b x -> w.grownBy i k.ownBlock -> wpList prog ops Q d (a.put o.dst j) i):wpList prog ops Q (o :: d) a w:=by
  obtain ⟨D,hi,p,q,r⟩:=info_parts Zl3;refine ZaL w A s y 144 n l.heap.size 5 D (.int .u8 0) 1 1 underlying144 hi p q r rfl (by decide) k g.length (bv g) B O.1 m e.length c (bv e) C (by rw [ZaV];simp) (Ze5 t) (Ze4 t (ZaV _)) (ints_oneCell .u8 _) (by unfold maxLen;omega) (by omega) O.2.1.size ?_;intro j i v u;exact z j i (O.app v u) u
theorem Zb6 {ops:Array Oper}{o:Oper}{a:Act}{w:World}{K:Act -> World -> Prop}{Q:Exit -> Act -> World -> Prop}{E:Prop}(z:o.guard=none)(s y:Operand)(m:o.op=Op.call { callee:=Callee.builtin Builtin.append,args:=#[s,y],argTypes:=#[144,144] }){k:World}{j:Value}{f:List Int}{b:Nat}{x:Nd}(A:a.eval s=j)(O:OutB k w j f b x){l:Option Addr}{c e:Nat}{d:List Int}(B:a.eval y=.slice l d.length c)(r:w.ownsRow e 5 1 (.slice l d.length c) d.length (bv d))(D:f.length+d.length <= 1000000)(v:∀ i g,OutB k g i (f ++ d) b x -> w.grownBy g j.ownBlock -> K (a.put o.dst i) g):if Region.wanted o (yielded ops a.tmps)=true then Oper.wp prog o a w K Q else E:=by
  obtain ⟨C,hi,n,p,q⟩:=info_parts Zl3;refine Zcb w z s y 144 m k.heap.size 5 C (.int .u8 0) 1 1 underlying144 hi n p q rfl (by decide) j f.length (bv f) A O.1 l d.length c (bv d) B (by rw [ZaV];simp) (Ze5 r) (Ze4 r (ZaV _)) (ints_oneCell .u8 _) (by unfold maxLen;omega) (by omega) O.2.1.size ?_;intro i g u t;exact v i g (O.app u t) t
theorem OutB.c0 {c w:World}{e:Value}{d:List Int}{b:Nat}{x:Nd}(h:OutB c w e d b x):w.cell? ⟨b,0,none⟩=some (.int .i64 x.k)/\w.cell? ⟨b,1,none⟩=some (.int .i64 x.n)/\w.cell? ⟨b,2,none⟩=some (.string x.s)/\w.cell? ⟨b,3,none⟩=some (.int .i64 x.a)/\w.cell? ⟨b,4,none⟩=some (.int .i64 x.b) :=
  ⟨cd w _ 0 _ _ _ h.2.2,cd w _ 1 _ _ _ h.2.2,cd w _ 2 _ _ _ h.2.2,cd w _ 3 _ _ _ h.2.2,cd w _ 4 _ _ _ h.2.2⟩
theorem ZhO {w i:World}{g:Value}{b:List Int}{a:Nat}{d:Value}(c:∀ k,g.ownBlock=some k -> k < a)(f:w.ownsRow a 5 1 d b.length (bv b))(j:w.grownBy i g.ownBlock):i.ownsRow a 5 1 d b.length (bv b):=by
  refine f.kept j ?_;cases l:d.ownBlock with
  | none=>exact Or.inl rfl
  | some k =>
    refine Or.inr fun e=>?_
    have m:=c k e.symm;have k2:=(f.lt k l).1;omega
theorem ZgB {a b:World}(h:Below a.drew.heap.size a.drew b):Below a.heap.size a b:=(cf _ _).drew.trans h
theorem Zf7 (v:Value)(d:List Nd)(w:World)(R:NRow w v d)(hx:∀ x ∈ d,NdOk x)(hl:d.length <= 3000) :
    Calls prog 160 #[.agg #[v]] w fun e w'=>∃ v',e=.returned v'/\w'.ownsRow w.heap.size 5 1 v' (Zcu d).length (bv (Zcu d))/\Below w.heap.size w w':=by
  have R':=R;obtain ⟨ao,K,rfl,_,_,hz,A⟩:=R';obtain ⟨H,X⟩:∃ H,w.alloc (Obj.cells #[.slice ao d.length K] 41)=H:=⟨_,rfl⟩;have N:Below w.heap.size w H:=by rw [<- X];exact (cf _ _).alloc (ce _) _
  have ah:H.heap[w.heap.size]? = some (.cells #[.slice ao d.length K] 41 (0,0)):=by rw [<- X];exact cg _ _
  have aG:H.heap.size=w.heap.size+1:=by rw [<- X];simp
  have ax:H.cell? ⟨w.heap.size,0,none⟩=some (.slice ao d.length K):=cd H _ 0 _ _ _ ah;have aw:(encI d.length).length <= 9:=Zaq _
  go_enter func160,ntmps160
  go_wp2_with fail;refine (ZaR (d.length:Int) _ (by omega)).mono ?_;rintro e w1 ⟨v1,rfl,aj,ad⟩;go_wp2_with fail
  go_loopw [3,4] (fun vo i wr=>∃ k:Nat,k <= d.length/\i=.int .i64 k/\wr.ownsRow H.heap.size 5 1 vo (encI d.length ++ (d.take k).flatMap ZaT).length (bv (encI d.length ++ (d.take k).flatMap ZaT))/\Below H.heap.size H wr) (fun _ i _=>d.length - (intOf i).toNat)
  case atStart=>exact ⟨0,by omega,rfl,by simpa using aj,ad⟩
  case round =>
    obtain ⟨k,W,rfl,own,bel⟩:=hrel;have ar:wr.heap[w.heap.size]? = some (.cells #[.slice ao d.length K] 41 (0,0)):=(bel.block _ (by omega)).trans ah;have cp:wr.cell? ⟨w.heap.size,0,none⟩=some (.slice ao d.length K):=cd wr _ 0 _ _ _ ar
    by_cases ag:k < d.length
    · obtain ⟨x,ab⟩:∃ x,d[k]? = some x:=⟨d[k],by simp [ag]⟩
      have aq:=hx x (List.mem_of_getElem? ab);have L:Hid ((d.take (k+1)).flatMap ZaT=(d.take k).flatMap ZaT ++ ZaT x):=ZhM d k x ab
      have ap:(encI d.length ++ (d.take k).flatMap ZaT).length <= 100000:=by
        have:=Zi8 (d.take k) (fun y hy=>hx y (List.mem_of_mem_take hy));rw [List.length_append];rw [List.length_take] at this;omega
      obtain ⟨g,oo,rfl,hg,A⟩:=A (by intro e;subst e;simp at ag);have ae:=N.trans (bel.mono N.size);obtain ⟨x0,x1,x2,x3,x4⟩:=(A k x ab).below ae hg;have ay:g < wr.heap.size:=cm hg ae.size;clear A;obtain ⟨⟨az,aC⟩,⟨aE,aF⟩,hs,ha,hb⟩:=aq;obtain ⟨wn,ai⟩:∃ wn,wr.alloc (Obj.cells #[.int .i64 x.k,.int .i64 x.n,.string x.s,.int .i64 x.a,.int .i64 x.b] 176)=wn:=⟨_,rfl⟩;have au:wn.heap[wr.heap.size]? = some (.cells #[.int .i64 x.k,.int .i64 x.n,.string x.s,.int .i64 x.a,.int .i64 x.b] 176 (0,0)):=by rw [<- ai];exact cg _ _
      have af:Below wr.heap.size wr wn:=by rw [<- ai];exact (cf _ _).alloc (ce _) _
      have O:OutB H wn u3 (encI d.length ++ (d.take k).flatMap ZaT) wr.heap.size x:=⟨Zac own af,bel.trans (af.mono bel.size),au⟩;obtain ⟨bs,z⟩:∃ bs,Hid (encI d.length ++ (d.take k).flatMap ZaT=bs):=⟨_,rfl⟩;rw [z.out] at O ap;clear own;have q:=O.c0;obtain ⟨l,m,o,r,t⟩:=q;go_wp2_with fail;refine (ZaR x.k _ (by omega)).mono ?_;rintro e wa ⟨va,rfl,oa,ba⟩;obtain ⟨aa,ca,rfl⟩:=Zad oa;clear l m o r t;replace O:=O.below ba;have aD:=Zaq x.k
      go_wp2_with (at_builtin;refine Za8 rfl _ _ rfl rfl O rfl oa (by omega) ?_)
      intro vb wb c ak;clear oa ba ak O;have M:Hid (bs ++ ZaT x=(bs ++ encI x.k) ++ ZbN x):=by unfold Hid ZaT;rw [List.append_assoc]
      have av:(bs ++ encI x.k).length <= 100100:=by rw [List.length_append];omega
      generalize bs ++ encI x.k=cs at *;obtain ⟨U,F,V,T,xb⟩:=x
      dsimp only at *
      have am:U=1 \/ U=2 \/ U=3 \/ U=4 \/ U=5 \/ U=6 \/ U=7 \/ U=8 \/ U=9:=by omega
      rcases am with rfl | rfl | rfl | rfl | rfl | rfl | rfl | rfl | rfl
      · obtain ⟨l,m,o,r,t⟩:=c.c0
        have B:Hid (cs=encI d.length ++ (d.take (k+1)).flatMap ZaT):=by unfold Hid;rw [L.out,<- List.append_assoc,z.out,M.out];simp [ZbN]
        go_wp2
        go_roundw
        case rel=>exact ⟨k+1,by omega,by go_num,by rw [<- B.out];exact c.1,c.2.1⟩
        case measure=>simp [intOf];omega
      · obtain ⟨l,m,o,r,t⟩:=c.c0
        go_wp2_with fail;refine (ZaR F _ (by omega)).mono ?_;rintro e wc ⟨vc,rfl,u,C⟩;obtain ⟨ac,cc,rfl⟩:=Zad u;clear l m o r t;replace c:=c.below C;have D:=Zaq F
        go_wp2_with (at_builtin;refine Za8 rfl _ _ rfl rfl c rfl u (by omega) ?_)
        intro Q S j f;clear u C f c;have B:Hid (cs ++ encI F=encI d.length ++ (d.take (k+1)).flatMap ZaT):=by unfold Hid;rw [L.out,<- List.append_assoc,z.out,M.out];simp [ZbN]
        go_wp2
        go_roundw
        case rel=>exact ⟨k+1,by omega,by go_num,by rw [<- B.out];exact j.1,j.2.1⟩
        case measure=>simp [intOf];omega
      · obtain ⟨l,m,o,r,t⟩:=c.c0
        go_wp2_with fail;refine (ZaR (F+1000000000) _ (by omega)).mono ?_;rintro e wc ⟨vc,rfl,u,C⟩;obtain ⟨ac,cc,rfl⟩:=Zad u;clear l m o r t;replace c:=c.below C;have D:=Zaq (F+1000000000)
        go_wp2_with (at_builtin;refine Za8 rfl _ _ rfl rfl c rfl u (by omega) ?_)
        intro Q S j f;clear u C f c;have B:Hid (cs ++ encI (F+1000000000)=encI d.length ++ (d.take (k+1)).flatMap ZaT):=by unfold Hid;rw [L.out,<- List.append_assoc,z.out,M.out];simp [ZbN]
        go_wp2
        go_roundw
        case rel=>exact ⟨k+1,by omega,by go_num,by rw [<- B.out];exact j.1,j.2.1⟩
        case measure=>simp [intOf];omega
      · obtain ⟨l,m,o,r,t⟩:=c.c0
        go_wp2_with fail;refine (Zhv V _ (by omega)).mono ?_;rintro e wc ⟨vc,rfl,u,C⟩;obtain ⟨ac,cc,rfl⟩:=Zad u;clear l m o r t;replace c:=c.below C;have D:(pt V).length <= 21:=by rw [Zdc];have:=Zaq V.size;omega
        go_wp2_with (at_builtin;refine Za8 rfl _ _ rfl rfl c rfl u (by omega) ?_)
        intro Q S j f;clear u C f c;have B:Hid (cs ++ pt V=encI d.length ++ (d.take (k+1)).flatMap ZaT):=by unfold Hid;rw [L.out,<- List.append_assoc,z.out,M.out];simp [ZbN]
        go_wp2
        go_roundw
        case rel=>exact ⟨k+1,by omega,by go_num,by rw [<- B.out];exact j.1,j.2.1⟩
        case measure=>simp [intOf];omega
      · obtain ⟨l,m,o,r,t⟩:=c.c0
        have D:=Zaq T;have an:=Zaq xb;have S1:=fun w=>ZaR T w (by omega)
        have S2:=fun w=>ZaR xb w (by omega)
        have Z:∀ k,vb.ownBlock=some k -> k < wb.heap.size:=fun k W=>(c.1.lt k W).2
        go_wp2_with fail
        go_region_law (first
          | (refine Zb6 rfl (.tmp 59) (.tmp 62) rfl rfl G rfl E (by rw [List.length_append];omega) ?_
             intro Q S j f)
          | (refine Zb6 rfl (.tmp 70) (.tmp 73) rfl rfl G rfl E (by rw [List.length_append];omega) ?_
             intro Q S j f)
          | (refine Zb6 rfl _ _ rfl rfl c rfl P (by omega) ?_
             intro vf wf G Y;have p:=G.c0;obtain ⟨l,m,o,r,t⟩:=p
             try replace E:=ZhO (fun k W=>cm (Z k W) (by first | exact I.size | exact ce _)) E Y)
          | (go_simp;go_at_call 169;with_reducible refine (S1 _).mono ?_
             rintro e we ⟨ve,rfl,P,I⟩
             try replace I:=ZgB I
             obtain ⟨aA,cA,rfl⟩:=Zad P;replace c:=c.below I;have p:=c.c0;obtain ⟨l,m,o,r,t⟩:=p
             try replace E:=Zac E I)
          | (go_simp;go_at_call 169;with_reducible refine (S2 _).mono ?_
             rintro e wg ⟨vg,rfl,E,J⟩
             try replace J:=ZgB J
             obtain ⟨aB,cB,rfl⟩:=Zad E
             try replace c:=c.below J
             try replace G:=G.below J
             first | (have p:=G.c0;obtain ⟨l,m,o,r,t⟩:=p) | (have p:=c.c0;obtain ⟨l,m,o,r,t⟩:=p)
             try replace P:=Zac P J))
        all_goals
          have B:Hid (cs ++ encI T ++ encI xb=encI d.length ++ (d.take (k+1)).flatMap ZaT):=by unfold Hid;rw [L.out,<- List.append_assoc,z.out,M.out,List.append_assoc];simp [ZbN]
          go_wp2
          go_roundw
          case rel=>exact ⟨k+1,by omega,by go_num,by rw [<- B.out];exact j.1,j.2.1⟩
          case measure=>simp [intOf];omega
      · obtain ⟨l,m,o,r,t⟩:=c.c0
        have D:=Zaq F;have an:=Zaq T;have S1:=fun w=>ZaR F w (by omega)
        have S2:=fun w=>ZaR T w (by omega)
        have Z:∀ k,vb.ownBlock=some k -> k < wb.heap.size:=fun k W=>(c.1.lt k W).2
        go_wp2_with fail
        go_region_law (first
          | (refine Zb6 rfl (.tmp 59) (.tmp 62) rfl rfl G rfl E (by rw [List.length_append];omega) ?_
             intro Q S j f)
          | (refine Zb6 rfl (.tmp 70) (.tmp 73) rfl rfl G rfl E (by rw [List.length_append];omega) ?_
             intro Q S j f)
          | (refine Zb6 rfl _ _ rfl rfl c rfl P (by omega) ?_
             intro vf wf G Y;have p:=G.c0;obtain ⟨l,m,o,r,t⟩:=p
             try replace E:=ZhO (fun k W=>cm (Z k W) (by first | exact I.size | exact ce _)) E Y)
          | (go_simp;go_at_call 169;with_reducible refine (S1 _).mono ?_
             rintro e we ⟨ve,rfl,P,I⟩
             try replace I:=ZgB I
             obtain ⟨aA,cA,rfl⟩:=Zad P;replace c:=c.below I;have p:=c.c0;obtain ⟨l,m,o,r,t⟩:=p
             try replace E:=Zac E I)
          | (go_simp;go_at_call 169;with_reducible refine (S2 _).mono ?_
             rintro e wg ⟨vg,rfl,E,J⟩
             try replace J:=ZgB J
             obtain ⟨aB,cB,rfl⟩:=Zad E
             try replace c:=c.below J
             try replace G:=G.below J
             first | (have p:=G.c0;obtain ⟨l,m,o,r,t⟩:=p) | (have p:=c.c0;obtain ⟨l,m,o,r,t⟩:=p)
             try replace P:=Zac P J))
        all_goals
          have B:Hid (cs ++ encI F ++ encI T=encI d.length ++ (d.take (k+1)).flatMap ZaT):=by unfold Hid;rw [L.out,<- List.append_assoc,z.out,M.out,List.append_assoc];simp [ZbN]
          go_wp2
          go_roundw
          case rel=>exact ⟨k+1,by omega,by go_num,by rw [<- B.out];exact j.1,j.2.1⟩
          case measure=>simp [intOf];omega
      · obtain ⟨l,m,o,r,t⟩:=c.c0
        go_wp2_with fail;refine (ZaR T _ (by omega)).mono ?_;rintro e wc ⟨vc,rfl,u,C⟩;obtain ⟨ac,cc,rfl⟩:=Zad u;clear l m o r t;replace c:=c.below C;have D:=Zaq T
        go_wp2_with (at_builtin;refine Za8 rfl _ _ rfl rfl c rfl u (by omega) ?_)
        intro Q S j f;clear u C f c;have B:Hid (cs ++ encI T=encI d.length ++ (d.take (k+1)).flatMap ZaT):=by unfold Hid;rw [L.out,<- List.append_assoc,z.out,M.out];simp [ZbN]
        go_wp2
        go_roundw
        case rel=>exact ⟨k+1,by omega,by go_num,by rw [<- B.out];exact j.1,j.2.1⟩
        case measure=>simp [intOf];omega
      · obtain ⟨l,m,o,r,t⟩:=c.c0
        go_wp2_with fail;refine (ZaR F _ (by omega)).mono ?_;rintro e wc ⟨vc,rfl,u,C⟩;obtain ⟨ac,cc,rfl⟩:=Zad u;clear l m o r t;replace c:=c.below C;have D:=Zaq F
        go_wp2_with (at_builtin;refine Za8 rfl _ _ rfl rfl c rfl u (by omega) ?_)
        intro Q S j f;clear u C f c;have B:Hid (cs ++ encI F=encI d.length ++ (d.take (k+1)).flatMap ZaT):=by unfold Hid;rw [L.out,<- List.append_assoc,z.out,M.out];simp [ZbN]
        go_wp2
        go_roundw
        case rel=>exact ⟨k+1,by omega,by go_num,by rw [<- B.out];exact j.1,j.2.1⟩
        case measure=>simp [intOf];omega
      · obtain ⟨l,m,o,r,t⟩:=c.c0
        go_wp2_with fail;refine (ZaR F _ (by omega)).mono ?_;rintro e wc ⟨vc,rfl,u,C⟩;obtain ⟨ac,cc,rfl⟩:=Zad u;clear l m o r t;replace c:=c.below C;have D:=Zaq F
        go_wp2_with (at_builtin;refine Za8 rfl _ _ rfl rfl c rfl u (by omega) ?_)
        intro Q S j f;clear u C f c;have B:Hid (cs ++ encI F=encI d.length ++ (d.take (k+1)).flatMap ZaT):=by unfold Hid;rw [L.out,<- List.append_assoc,z.out,M.out];simp [ZbN]
        go_wp2
        go_roundw
        case rel=>exact ⟨k+1,by omega,by go_num,by rw [<- B.out];exact j.1,j.2.1⟩
        case measure=>simp [intOf];omega
    · have al:k=d.length:=by omega
      subst al;rw [List.take_length] at own;go_wp2;go_ret;exact ⟨u3,rfl,Zae own (by omega),N.trans (bel.mono N.size)⟩
end Go.Proofs.YtanhoamdlhaaeaaGreatDoor
