/-
  Texts that stood by themselves, laid into one.
-/
import Derived.Test.YtanhoamdlhaaeaaGreatDoorRNumsM
import Derived.Test.YtanhoamdlhaaeaaGreatDoorRNodeM
import Derived.Test.YtanhoamdlhaaeaaGreatDoorNodeFitsM
import Derived.Test.YtanhoamdlhaaeaaGreatDoorMkListM
import Derived.Test.YtanhoamdlhaaeaaGreatDoorR8cM
import Derived.Test.YtanhoamdlhaaeaaGreatDoorSR8M
/-
  The contract of (impl.reader).nodes: a pool that is right is read, or there is a mistake. Bounds of the form alone.
-/
set_option maxRecDepth 100000
set_option maxHeartbeats 6400000
namespace Go.Proofs.YtanhoamdlhaaeaaGreatDoor
open Go.Proofs.Tryz
open Go.RowKit
theorem Zh4 (b:List Int)(a:Int):(gT b a).1.size <= b.length:=by
 unfold gT;split
 ·show (strOfNums _).size <= _
  rw [ZiK,List.length_take,List.length_drop];omega
 ·show (0:Nat) <= _
  omega
theorem ZjF {c:List Int}{k a b:Int}{x:Nd}(h:rdB c k a=some (x,b)):x.s.size <= c.length:=by
 unfold rdB at h
 repeat' split at h
 all_goals first
  | (cases h;done)
  | (cases h;first | exact Zh4 c a | exact Nat.zero_le _)
  | (rw [Option.map_eq_some_iff] at h;obtain ⟨_,_,h⟩:=h;cases h;exact Nat.zero_le _)
  | (rw [Option.bind_eq_some_iff] at h;obtain ⟨_,_,h⟩:=h;rw [Option.map_eq_some_iff] at h;obtain ⟨_,_,h⟩:=h;cases h;exact Nat.zero_le _)
theorem Zix {c:List Int}{a b:Int}{x:Nd}(h:rdNd c a=some (x,b)):x.s.size <= c.length:=by
 unfold rdNd at h;rw [Option.bind_eq_some_iff] at h;obtain ⟨_,_,h⟩:=h;exact ZjF h
theorem ZbA (b:List Int):∀ (n:Nat) (a:Int),Zbd b (n+1) a=(Zbd b n a).bind fun q=>(rdNd b q.2).map fun p=>(q.1 ++ [p.1],p.2)
 | 0,a=>by
  simp only [Zbd,Option.bind_some];cases rdNd b a <;> rfl
 | n+1,a=>by
  rw [Zbd];cases h:rdNd b a with
  | none=>simp [Zbd,h]
  | some p =>
   simp only [Option.bind_some];rw [ZbA b n p.2,Zbd,h];simp only [Option.bind_some];cases Zbd b n p.2 with
   | none=>rfl
   | some q=>simp only [Option.bind_some,Option.map_some];cases rdNd b q.2 <;> rfl
theorem ZdI {b:List Int}{a:Int}:∀ {n m:Nat},n <= m -> Zbd b n a=none -> Zbd b m a=none
 | n,0,h,e=>by
  obtain rfl:n=0:=by omega
  exact e
 | n,m+1,h,e=>by
  rcases Nat.lt_or_ge n (m+1) with c | c
  ·rw [ZbA,ZdI (by omega) e];rfl
  ·obtain rfl:n=m+1:=by omega
   exact e
theorem Ze9 {d:List Int}{a:Int}{n:Nat}{q:List Nd × Int}(h:Zbd d n a=some q):∀ {m:Nat} {t:List Nd × Int},n <= m -> Zbd d m a=some t -> ∃ b,t.1=q.1 ++ b
 | 0,t,hm,e=>by
  obtain rfl:n=0:=by omega
  rw [h] at e;cases e;exact ⟨[],by simp⟩
 | m+1,t,hm,e=>by
  rcases Nat.lt_or_ge n (m+1) with g | g
  ·rw [ZbA,Option.bind_eq_some_iff] at e
   obtain ⟨u,f,c⟩:=e;rw [Option.map_eq_some_iff] at c;obtain ⟨p,_,rfl⟩:=c;obtain ⟨b,i⟩:=Ze9 h (by omega) f;exact ⟨b ++ [p.1],by show u.1 ++ [p.1]=_;rw [i,List.append_assoc]⟩
  ·obtain rfl:n=m+1:=by omega
   rw [h] at e;cases e;exact ⟨[],by simp⟩
theorem ZkB {b:List Int}{a c d:Int}{k:Nat}{q:List Nd × Int}(e:rd1 b a=some (c,d))(i:k <= c.toNat)(f:Zbd b k d=some q)(g:ZaA q.1 0=false):rdP b a=none:=by
 unfold rdP;rw [e];simp only [Option.bind_some];split
 ·rfl
 ·cases h:Zbd b c.toNat d with
  | none=>rfl
  | some t =>
   obtain ⟨l,j⟩:=Ze9 f i h;simp only [Option.bind_some];rw [if_neg];unfold Zap;rw [j,ZbK,g,Bool.false_and,Bool.and_false];simp
theorem ZjH {b:List Int}{a c d:Int}{k:Nat}(e:rd1 b a=some (c,d))(g:k <= c.toNat)(f:Zbd b k d=none):rdP b a=none:=by
 unfold rdP;rw [e];simp only [Option.bind_some];rw [ZdI g f];split <;> rfl
theorem ZjG {b:List Int}{a c d:Int}{q:List Nd × Int}(e:rd1 b a=some (c,d))(j:c <= 3000)(f:Zbd b c.toNat d=some q)(g:ZaA q.1 0=true)(i:q.1.length <= 3000):rdP b a=some q:=by
 unfold rdP;rw [e];simp only [Option.bind_some];rw [if_neg (by omega),f];simp only [Option.bind_some];rw [if_pos];unfold Zap;rw [g,decide_eq_true i];rfl
theorem Zce {w:World}{a k:Nat}{e:TypeId}{v:Value}{n:Nat}{b:List Value}(h:w.ownsRow a e k v n b){P:Nat}(c:P < a):v.ownBlock=none \/ v.ownBlock ≠ some P:=by
 right;intro e;have:=(h.lt P e).1;omega
theorem K2.row {P M:Nat}{W w b:World}{row:Option Nat}(h:K2 P M W w)(a:w.grownBy b row)(f:∀ j,row=some j -> W.heap.size <= j):K2 P M W b :=
 ⟨a.os.trans h.os,a.tape.trans h.tape,a.output.trans h.output,Nat.le_trans h.size a.size,fun i hi c d=>(a.block i (cm hi h.size) (fun e=>by have:=f i e.symm;omega)).trans (h.block i hi c d)⟩
def ZkJ (B:Nat)(zs:List Int)(a:Int)(P:Nat)(e:Ending)(w':World):Prop :=
 (∃ xs b vs,rdP zs a=some (xs,b)/\e=.returned (.tuple #[.agg #[vs],.nilIface])/\w'.ownsRow B 176 5 vs xs.length (ncs xs)/\One w' P b) \/ (rdP zs a=none/\(∃ p,e=.returned (.tuple #[.agg #[.slice none 0 0],badV p]))/\∃ q,One w' P q)
theorem Zgd (w:World)(a b c:Obj):Below w.heap.size w (((w.alloc a).alloc b).alloc c)/\(((w.alloc a).alloc b).alloc c).heap[w.heap.size]? = some a/\(((w.alloc a).alloc b).alloc c).heap[w.heap.size+1]? = some b /\
  (((w.alloc a).alloc b).alloc c).heap[w.heap.size+1+1]? = some c/\(((w.alloc a).alloc b).alloc c).heap.size=w.heap.size+1+1+1:=by
 have d:(w.alloc a).heap.size=w.heap.size+1:=by simp
 have e:((w.alloc a).alloc b).heap.size=w.heap.size+1+1:=by simp
 refine ⟨(((cf _ _).alloc (ce _) _).alloc (by omega) _).alloc (by omega) _,?_,?_,?_,by simp⟩
 ·rw [cn _ _ (by omega),cn _ _ (by omega)];exact cg _ _
 ·rw [cn _ _ (by omega),<- d];exact cg _ _
 ·rw [<- e];exact cg _ _
theorem Zho (v:Value)(H:List Int)(W0 w:World)(P:Nat)(a:Int)(R:Row W0 v H)(hb:Below W0.heap.size W0 w)(hP:W0.heap.size <= P)(h1:One w P a) :
  Calls prog 171 #[.agg #[v,.pointer (some ⟨P,0,none⟩)]] w fun e w'=>w.grownBy w' (some P)/\ZkJ w.heap.size H a P e w':=by
 obtain ⟨i0,hi,a6,a7,a8⟩:=info_parts Zma;obtain ⟨ao,ai,rfl,_,bf,_⟩:=id R;have aM:=hb.size;have aG:=h1.lt;obtain ⟨U,x0,O,x2,ag⟩:=Zgd w (Obj.cells #[Value.slice ao H.length ai,Value.pointer (some ⟨P,0,none⟩)] 225) (Obj.cells #[.slice none 0 0] 41) (Obj.cells #[.int .i64 0] 3)
 have hc:((w.alloc (Obj.cells #[Value.slice ao H.length ai,Value.pointer (some ⟨P,0,none⟩)] 225)).alloc (Obj.cells #[.slice none 0 0] 41)).cell? ⟨P,0,none⟩=some (.int .i64 a):=by
  rw [World.cell?_alloc_lt _ _ ⟨P,0,none⟩ (by simp;omega),World.cell?_alloc_lt _ _ ⟨P,0,none⟩ aG];exact h1.cell
 go_enter func171,ntmps171
 go_wp2_with fail;obtain ⟨W3,aH⟩:∃ W3,((w.alloc (Obj.cells #[Value.slice ao H.length ai,Value.pointer (some ⟨P,0,none⟩)] 225)).alloc (Obj.cells #[.slice none 0 0] 41)).alloc (Obj.cells #[.int .i64 0] 3)=W3:=⟨_,rfl⟩;rw [aH] at U x0 O x2 ag ⊢;have E:Below W3.heap.size W3 (W3.alloc (Obj.cells (tgt (w.heap.size+1+1) [0]) 223)):=(cf _ _).alloc (ce _) _;have aw:=hb.trans (U.mono aM);have HC:=Zdd _ H W0 (W3.alloc (Obj.cells (tgt (w.heap.size+1+1) [0]) 223)) P (w.heap.size+1+1) W3.heap.size a #[.int .i64 0] 3 [0] R (aw.trans (E.mono aw.size)) hP (by omega) ((h1.below U aG).below E (by omega)) ((E.block _ (by omega)).trans x2) (by intro o ho;simp at ho;simp;omega) (cg _ _) (by omega) (by omega) (by omega) (by simp);rw [ag] at HC;have aW:w.heap.size+1+1+1 <= (W3.alloc (Obj.cells (tgt (w.heap.size+1+1) [0]) 223)).heap.size:=by have:=E.size;omega
 have hG:K2 P (w.heap.size+1+1) w (W3.alloc (Obj.cells (tgt (w.heap.size+1+1) [0]) 223)):=(K2.ofB U).trans (K2.ofB E);have x0:=(E.block _ (by omega)).trans x0;have O:=(E.block _ (by omega)).trans O;clear ag hc x2 E;refine HC.mono ?_;rintro e G ⟨Q,h⟩;have x0:=(Q.block _ (by omega) (by omega) (by omega)).trans x0;have O:=(Q.block _ (by omega) (by omega) (by omega)).trans O;have Q:=hG.trans Q;have W:w.grownBy G (some P):=Q.grown (by omega);clear hG aW HC U aw aH;have r0:G.cell? ⟨w.heap.size+1,0,none⟩=some (.slice none 0 0):=cd G _ 0 _ _ _ O;have rf:G.frozen? ⟨w.heap.size+1,0,none⟩=false:=cj G _ 0 _ _ O;have f:(G.setCell ⟨w.heap.size+1,0,none⟩ (.slice none 0 0)).heap[w.heap.size+1]? = some (.cells #[.slice none 0 0] 41 (0,0)):=ci G (w.heap.size+1) 0 _ _ (.slice none 0 0) O
 have d:Below (w.heap.size+1) G (G.setCell ⟨w.heap.size+1,0,none⟩ (.slice none 0 0)):=(cf _ _).setCell (p:=⟨w.heap.size+1,0,none⟩) (ce _) _;rcases h with ⟨q,e1,rfl,T,e4⟩ | ⟨e1,⟨p,rfl⟩,⟨q,T⟩,-⟩
 ·rw [show [0].length=1 from rfl,Zb1,Option.map_eq_some_iff] at e1
  obtain ⟨⟨c,a1⟩,e1,rfl⟩:=e1;obtain ⟨c0,c1,aR,aS⟩:=Zco e1;have T:One G P a1:=T;have e4:G.heap[w.heap.size+1+1]? = some (.cells #[.int .i64 c] 3 (0,0)):=e4;have cc:G.cell? ⟨w.heap.size+1+1,0,none⟩=some (.int .i64 c):=cd G _ 0 _ _ _ e4;have c0:0 <= c:=c0;have c1:c <= 9223372036854775807:=c1;clear aR aS;have H1:Hid (rd1 H a=some (c,a1)):=e1;clear e1
  by_cases bd:3000 < c
  ·have HN:Hid (rdP H a=none):=by unfold Hid rdP;rw [H1.out];simp only [Option.bind_some];rw [if_pos (by omega)]
   go_wp2;exact ck (Zah rfl _ _ (w.heap.size+1) 41 _ (0,0) _ rfl f underlying41 rfl Zmf) rfl ⟨Zal W d (by omega),Or.inr ⟨HN.out,⟨_,rfl⟩,_,T.below d (by omega)⟩⟩
  obtain ⟨n,rfl⟩:=cu c0;clear f d;go_wp2_with fail;refine (Zg6 _).mono ?_;rintro e w2 ⟨rfl,ak⟩
  go_wp2_with (refine Zak rfl 248 _ _ rfl w2.heap.size Zb3 rfl rfl 248 _ (cg _ _) Zmb rfl ZdQ ?_)
  intro F am aL ag;have z:Below G.heap.size G F:=ak.trans ((((cf _ _).alloc (ce _) _).trans aL).mono ak.size);have l0:=(bl x0);have l1:=(bl O);have lc:=(bl e4);have x0:=(z.block _ l0).trans x0;have O:=(z.block _ l1).trans O;have e4:=(z.block _ lc).trans e4;have T:=T.below z T.lt;have aj:w.grownBy F (some P):=Zal W z W.size;have a0:G.heap.size <= w2.heap.size:=ak.size;have aB:=(bl am);clear ak aL ag z r0 rf cc Q W l0 l1;obtain ⟨Wb,aJ⟩:∃ Wb,Hid (w2.heap.size=Wb):=⟨_,rfl⟩;rw [aJ.out] at am a0 aB ⊢;clear aJ;have l0:=(bl x0);have l1:=(bl O);have cc:F.cell? ⟨w.heap.size+1+1,0,none⟩=some (.int .i64 n):=cd F _ 0 _ _ _ e4;have lP:=T.lt;have D:Below F.heap.size F (F.alloc (Obj.cells #[.slice none 0 0] 41)):=(cf _ _).alloc (ce _) _;have y0:=(D.block _ l0).trans x0;have y1:=(D.block _ l1).trans O;have yw:=(D.block _ aB).trans am
  have yP:=T.below D lP;have aD:w.grownBy (F.alloc (Obj.cells #[.slice none 0 0] 41)) (some P):=Zal aj D aj.size;have s8:(F.alloc (Obj.cells #[.slice none 0 0] 41)).heap.size=F.heap.size+1:=by simp
  have yp:(F.alloc (Obj.cells #[.slice none 0 0] 41)).heap[F.heap.size]? = some (.cells #[.slice none 0 0] 41 (0,0)):=cg _ _;have a4:=aj.size;have c8:(F.alloc (Obj.cells #[.slice none 0 0] 41)).cell? ⟨w.heap.size+1+1,0,none⟩=some (.int .i64 n):=cd _ _ 0 _ _ _ ((bb e4 D));go_wp2_with fail;obtain ⟨W8,aI⟩:∃ W8,F.alloc (Obj.cells #[.slice none 0 0] 41)=W8:=⟨_,rfl⟩;rw [aI] at D y0 y1 yw yP aD s8 yp ⊢;have a9:F.heap.size+1 <= W8.heap.size:=by omega
  have aP:W8.heap.size <= F.heap.size+1:=by omega
  clear s8 D x0 O am T aj cc c8;obtain ⟨l,aF⟩:∃ l,Hid (F.heap.size=l):=⟨_,rfl⟩;rw [aF.out] at yp a9 aP l0 l1 aB lP a4 ⊢;clear aF aI
  go_loopw [31] (fun i wr=>∃ (k:Nat) (S:List Nd) (b:Int) (vs:Value),k <= n/\i=.int .i64 k/\Hid (Zbd H k a1=some (S,b))/\Hid (ZaA S 0=true)/\Hid (S.length=k)/\One wr P b/\wr.heap[l]? = some (.cells #[vs] 41 (0,0))/\wr.ownsRow (l+1) 176 5 vs k (ncs S)/\K2 P l W8 wr) (fun i _=>n - (intOf i).toNat)
  case atStart=>exact ⟨0,[],a1,_,by omega,rfl,rfl,rfl,rfl,yP,yp,World.ownsRow_nil _ _ _ _,K2.refl _ _ _⟩
  case round =>
   obtain ⟨k,S,b,vs,hk,rfl,HR,HB,HL,Z,aA,M,Q⟩:=hrel;have ax:K2 P l w wr:=(K2.ofP aD).trans Q;have z0:=(Q.block _ (by omega) (by omega) (by omega)).trans y0;have z1:=(Q.block _ (by omega) (by omega) (by omega)).trans y1;have zw:=(Q.block _ (by omega) (by omega) (by omega)).trans yw;have bj:=Q.size;have b0:wr.cell? ⟨w.heap.size,0,none⟩=some (.slice ao H.length ai):=cd wr _ 0 _ _ _ z0;have b1:wr.cell? ⟨w.heap.size,1,none⟩=some (.pointer (some ⟨P,0,none⟩)):=cd wr _ 1 _ _ _ z0;have bc:=Z.cell;have aY:Below W0.heap.size W0 wr:=hb.trans (ax.below aM hP (by omega));obtain ⟨av,cv,rfl⟩:=Zad M
   by_cases be:k < n
   ·go_wp2_with (refine co rfl 248 _ rfl Wb rfl 248 Zb3 (0,0) _ zw underlying248 rfl Zmb ?_)
    refine (Ziy _ H W0 wr P b R aY hP Z).mono ?_;rintro e C ⟨I,aK⟩;have lb:=(bl aA);have ap:=(I.block l lb (by simp;omega)).trans aA;have ah:=(I.block _ (bl z1) (by simp;omega)).trans z1;have ac:=M.kept I (Zce M (by omega));have aT:=Q.trans (K2.ofP I);have an:=ax.trans (K2.ofP I);have bg:=I.size;clear b0 b1 bc;rcases aK with ⟨x,b',a2,rfl,a3⟩ | ⟨a2,⟨x,p,rfl⟩,q,a3⟩
    ·go_wp2_with (refine Zak rfl 176 _ _ rfl C.heap.size (ndA x) rfl rfl 176 _ (cg _ _) Zme rfl (ZbW _) ?_)
     intro y B al _;have m:Below C.heap.size C y:=((cf _ _).alloc (ce _) _).trans al;have a5:x.s.size <= maxLen:=by have:=Zix a2;unfold maxLen;omega
     have k0:y.cell? ⟨C.heap.size,0,none⟩=some (.int .i64 x.k):=cd y _ 0 _ _ _ B;have k1:y.cell? ⟨C.heap.size,1,none⟩=some (.int .i64 x.n):=cd y _ 1 _ _ _ B;have k2:y.cell? ⟨C.heap.size,2,none⟩=some (.string x.s):=cd y _ 2 _ _ _ B;have k3:y.cell? ⟨C.heap.size,3,none⟩=some (.int .i64 x.a):=cd y _ 3 _ _ _ B;have k4:y.cell? ⟨C.heap.size,4,none⟩=some (.int .i64 x.b):=cd y _ 4 _ _ _ B;go_wp2_with fail;refine (ZcF x k _ a5).mono ?_;rintro e g ⟨rfl,au⟩;have l5:=(bl B);have r:Below C.heap.size C g:=m.trans (au.mono m.size);have Y:=(au.block _ l5).trans B;have aq:=(bb ap r);have K:=(r.block _ (Array.getElem?_eq_some_iff.1 ah).1).trans ah;have u:=a3.below r a3.lt;have ad:=Zac ac r;have aE:=aT.trans (K2.ofB r);have X:=an.trans (K2.ofB r);have bh:=aE.size
     have aC:Hid (Zbd H (k+1) a1=some (S ++ [x],b')):=by unfold Hid;rw [ZbA,HR.out];simp only [Option.bind_some];rw [a2];rfl
     have ar:Hid (ZaA (S ++ [x]) 0=Zav x k):=by unfold Hid;rw [ZbK,HB.out,Bool.true_and,ZaA,ZaA,Bool.and_true,HL.out,Nat.zero_add]
     clear k0 k1 k2 k3 k4 al au B m r ac ap ah I a3;obtain ⟨nb,aN⟩:∃ nb,Zav x k=nb:=⟨_,rfl⟩;rw [aN] at ar ⊢;clear aN;cases nb with
     | false =>
      have HN:Hid (rdP H a=none):=ZkB (k:=k+1) H1.out (by omega) aC.out ar.out;have r0:g.cell? ⟨w.heap.size+1,0,none⟩=some (.slice none 0 0):=cd g _ 0 _ _ _ K;have rf:g.frozen? ⟨w.heap.size+1,0,none⟩=false:=cj g _ 0 _ _ K;have f:(g.setCell ⟨w.heap.size+1,0,none⟩ (.slice none 0 0)).heap[w.heap.size+1]? = some (.cells #[.slice none 0 0] 41 (0,0)):=ci g (w.heap.size+1) 0 _ _ (.slice none 0 0) K;have d:Below (w.heap.size+1) g (g.setCell ⟨w.heap.size+1,0,none⟩ (.slice none 0 0)):=(cf _ _).setCell (p:=⟨w.heap.size+1,0,none⟩) (ce _) _;go_wp2;exact ck (Zah rfl _ _ (w.heap.size+1) 41 _ (0,0) _ rfl f underlying41 rfl Zmf) rfl ⟨Zal (X.grown (by omega)) d (by omega),Or.inr ⟨HN.out,⟨_,rfl⟩,_,u.below d (by omega)⟩⟩
     | true =>
      have k0:g.cell? ⟨C.heap.size,0,none⟩=some (.int .i64 x.k):=cd g _ 0 _ _ _ Y;have k1:g.cell? ⟨C.heap.size,1,none⟩=some (.int .i64 x.n):=cd g _ 1 _ _ _ Y;have k2:g.cell? ⟨C.heap.size,2,none⟩=some (.string x.s):=cd g _ 2 _ _ _ Y;have k3:g.cell? ⟨C.heap.size,3,none⟩=some (.int .i64 x.a):=cd g _ 3 _ _ _ Y;have k4:g.cell? ⟨C.heap.size,4,none⟩=some (.int .i64 x.b):=cd g _ 4 _ _ _ Y;have kp:g.cell? ⟨l,0,none⟩=some (.slice av k cv):=cd g _ 0 _ _ _ aq;have V:Below g.heap.size g (g.alloc (Obj.cells (ndA x) 176)):=(cf _ _).alloc (ce _) _;have af:=(bb aq V);have bi:=V.size
      go_wp2_with (at_builtin;refine wpList_append_lies _ rfl _ _ 39 rfl (l+1) 176 i0 _ 5 48 underlying39 hi a6 a7 a8 rfl (by decide) _ _ _ rfl (ad.alloc _) ⟨g.heap.size,0,none⟩ 1 1 (ncs [x]) rfl rfl (World.news_of_block (cs:=ndA x) (t:=176) (fr:=(0,0)) (cg g _)) (Za0 _) (by omega) (by unfold maxLen;omega) (by omega) (by simp;omega) _ rfl ?_)
      intro g2 L w8 ae A aX ba;have ay:∀ j,(Value.slice av k cv).ownBlock=some j -> l+1 <= j:=fun j hj=>(ad.lt j hj).1
      have N:=(A.block l (bl af) (fun e=>by have:=ay l e.symm;omega)).trans af;have aa:=u.below V u.lt;have ab:One w8 P b':=(A.block P aa.lt (fun e=>by have:=ay P e.symm;omega)).trans aa;have aU:=(aE.trans (K2.ofB V)).row A (fun j hj=>by have:=ay j hj;omega);have bm:w8.cell? ⟨l,0,none⟩=some (.slice av k cv):=cd w8 _ 0 _ _ _ N;have bk:w8.frozen? ⟨l,0,none⟩=false:=cj w8 _ 0 _ _ N;have aO:=ci w8 l 0 _ _ (.slice (some ⟨g2,0,none⟩) (k+1) L) N;have aV:=aU.trans (K2.ofM (Zam w8 l 0 (.slice (some ⟨g2,0,none⟩) (k+1) L)));have az:One (w8.setCell ⟨l,0,none⟩ (.slice (some ⟨g2,0,none⟩) (k+1) L)) P b':=(ch w8 ⟨l,0,none⟩ P _ (by show P ≠ l;omega)).trans ab;have J:=cx ae (a:=⟨l,0,none⟩) (by show l < l+1;omega) (.slice (some ⟨g2,0,none⟩) (k+1) L)
      have aQ:Hid ((S ++ [x]).length=k+1):=by unfold Hid;rw [List.length_append,HL.out];rfl
      clear k0 k1 k2 k3 k4 kp A aX ae N ab af V;go_wp2
      go_roundw
      case rel=>exact ⟨k+1,S ++ [x],b',_,by omega,by go_num,aC,ar,aQ,az,aO,by rw [Zay];exact J,aV⟩
      case measure=>simp [intOf];omega
    ·have HN:Hid (rdP H a=none):=ZjH (k:=k+1) H1.out (by omega) (by rw [ZbA,HR.out];simp only [Option.bind_some];rw [a2];rfl)
     unfold badV
     go_wp2_with (refine Zak rfl 176 _ _ rfl C.heap.size (ndA x) rfl rfl 176 _ (cg _ _) Zme rfl (ZbW _) ?_)
     intro y B al _;have m:Below C.heap.size C y:=((cf _ _).alloc (ce _) _).trans al;have K:=(m.block _ (Array.getElem?_eq_some_iff.1 ah).1).trans ah;have u:=a3.below m a3.lt;have X:=an.trans (K2.ofB m);have r0:y.cell? ⟨w.heap.size+1,0,none⟩=some (.slice none 0 0):=cd y _ 0 _ _ _ K;have rf:y.frozen? ⟨w.heap.size+1,0,none⟩=false:=cj y _ 0 _ _ K;have f:(y.setCell ⟨w.heap.size+1,0,none⟩ (.slice none 0 0)).heap[w.heap.size+1]? = some (.cells #[.slice none 0 0] 41 (0,0)):=ci y (w.heap.size+1) 0 _ _ (.slice none 0 0) K;have d:Below (w.heap.size+1) y (y.setCell ⟨w.heap.size+1,0,none⟩ (.slice none 0 0)):=(cf _ _).setCell (p:=⟨w.heap.size+1,0,none⟩) (ce _) _;go_wp2
     exact ck (Zah rfl _ _ (w.heap.size+1) 41 _ (0,0) _ rfl f underlying41 rfl Zmf) rfl ⟨Zal (X.grown (by omega)) d (by omega),Or.inr ⟨HN.out,⟨p,rfl⟩,_,u.below d (by omega)⟩⟩
   ·have aZ:k=n:=by omega
    subst aZ;have HG:Hid (rdP H a=some (S,b)):=ZjG H1.out (by omega) HR.out HB.out (by show S.length <= 3000;rw [HL.out];omega);have kp:wr.cell? ⟨l,0,none⟩=some (.slice av k cv):=cd wr _ 0 _ _ _ aA;have r0:wr.cell? ⟨w.heap.size+1,0,none⟩=some (.slice none 0 0):=cd wr _ 0 _ _ _ z1;have rf:wr.frozen? ⟨w.heap.size+1,0,none⟩=false:=cj wr _ 0 _ _ z1;have f:(wr.setCell ⟨w.heap.size+1,0,none⟩ (.slice av k cv)).heap[w.heap.size+1]? = some (.cells #[.slice av k cv] 41 (0,0)):=ci wr (w.heap.size+1) 0 _ _ (.slice av k cv) z1;have d:Below (w.heap.size+1) wr (wr.setCell ⟨w.heap.size+1,0,none⟩ (.slice av k cv)):=(cf _ _).setCell (p:=⟨w.heap.size+1,0,none⟩) (ce _) _;have J:=Zae (cx M (a:=⟨w.heap.size+1,0,none⟩) (by show w.heap.size+1 < l+1;omega) (.slice av k cv)) (show w.heap.size <= l+1 by omega);go_wp2
    exact ck (Zah rfl _ _ (w.heap.size+1) 41 _ (0,0) _ rfl f underlying41 rfl Zmf) rfl ⟨Zal (ax.grown (by omega)) d (by omega),Or.inl ⟨S,b,_,HG.out,rfl,by rw [HL.out];exact J,Z.below d (by omega)⟩⟩
 ·rw [show [0].length=1 from rfl,Zb1,Option.map_eq_none_iff] at e1
  have HN:Hid (rdP H a=none):=by unfold Hid rdP;rw [e1];rfl
  unfold badV;go_wp2;exact ck (Zah rfl _ _ (w.heap.size+1) 41 _ (0,0) _ rfl f underlying41 rfl Zmf) rfl ⟨Zal W d (by omega),Or.inr ⟨HN.out,⟨p,rfl⟩,_,T.below d (by omega)⟩⟩
theorem Zhs (v:Value)(b:List Int)(a:Int)(w:World)(R:Row w v b)(j : -9223372036854775808 <= a)(g:a <= 9223372036854775807) :
  Calls prog 158 #[v,.int .i64 a] w fun e u=>e=.returned (tV (gT b a))/\u=w:=by
 have o:=R;obtain ⟨x,p,rfl,f,A,t,c⟩:=o;clear t
 go_enter func158,ntmps158
 go_wp2_with fail;refine (ZgA _ b a w R j g).mono ?_;rintro e B ⟨rfl,rfl⟩;generalize hg:gN b a=r;obtain ⟨n,next,m⟩:=r;have l:Hid (gN b a=(n,next,m)):=hg;clear hg j g R;cases m with
 | false =>
  have d:Hid (gT b a=(⟨#[]⟩,0,false)):=Zjk b a n next false l.out (Or.inl rfl);go_wp2_with fail
  go_ret3
  exact ⟨by rw [d.out];rfl,rfl⟩
 | true =>
  obtain ⟨q,y,s,z⟩:=Zjj b a n next l.out;obtain ⟨n,rfl⟩:=cu q;obtain ⟨next,rfl⟩:=cu s
  by_cases k:(b.length:Int) - next < n
  ·have d:Hid (gT b a=(⟨#[]⟩,0,false)):=Zjk b a _ _ true l.out (Or.inr k)
   go_wp2_with fail
   go_ret3
   exact ⟨by rw [d.out];rfl,rfl⟩
  ·have d:Hid (gT b a=(strOfNums ((b.drop next).take n),(next:Int)+n,true)):=Zkc b a n next l.out (by omega)
   have i:next+n <= b.length:=by omega
   go_wp2_with (refine Zbt _ rfl _ 144 9 5 rfl underlying144 underlying9 underlying5 _ _ _ ((b.drop next).take n) rfl (by rw [Zdt b next n i];omega) (by rw [Nat.add_sub_cancel_left];simpa using Zep c next n i f) ?_)
   all_goals go_ret3
   all_goals exact ⟨by rw [d.out];rfl,rfl⟩
end Go.Proofs.YtanhoamdlhaaeaaGreatDoor
