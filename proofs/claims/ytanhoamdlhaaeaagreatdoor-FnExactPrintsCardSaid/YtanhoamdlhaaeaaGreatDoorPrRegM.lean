/-
  Texts that stood by themselves, laid into one.
-/
import Derived.Test.YtanhoamdlhaaeaaGreatDoorSubM
import Derived.Test.YtanhoamdlhaaeaaGreatDoorShapeM
import Derived.Test.YtanhoamdlhaaeaaGreatDoorPcMarkM
import Derived.Deep.MidRow
import Derived.Deep.RegionHeld3
/-
  A part of a row of texts that the call owns, and how it is marked. No condition.
-/
set_option maxHeartbeats 1600000
namespace Go.Proofs.YtanhoamdlhaaeaaGreatDoor
open Go.Proofs.Tryz
open Go.RowKit
def SOwn (w:World)(base:Nat)(v:Value)(xs:List ByteArray):Prop :=
 ∃ ao cap,v=.slice ao xs.length cap/\(xs.length <= cap/\(ao=none -> cap=0)) /\
  (xs=[] \/ ∃ g CAP N pre post,ao=some ⟨g,pre.length,none⟩/\pre.length+xs.length+post.length=N/\w.ownsRow base 9 1 (.slice (some ⟨g,0,none⟩) N CAP) N (stv (pre ++ (xs ++ post))))
theorem SOwn.of_own {w:World}{a:Nat}{v:Value}{c:List ByteArray}(h:w.ownsRow a 9 1 v c.length (stv c)):SOwn w a v c:=by
 have i:=h;rcases h.2 with ⟨rfl,j⟩ | ⟨g,b,f,rfl,m,n,d,k,l,e⟩
 ·have:c=[]:=List.eq_nil_of_length_eq_zero j
  subst this;exact ⟨none,0,rfl,by simp,Or.inl rfl⟩
 ·exact ⟨_,b,rfl,⟨d,fun h=>by cases h⟩,Or.inr ⟨g,b,c.length,[],[],rfl,by simp,by simpa using i⟩⟩
theorem SOwn.row {w:World}{b:Nat}{v:Value}{c:List ByteArray}(h:SOwn w b v c)(o:c.length <= 9223372036854775807)(p:∀ x ∈ c,x.size <= maxLen):StRow w v c:=by
 obtain ⟨m,d,rfl,n,h⟩:=h;refine ⟨m,d,rfl,n,o,p,fun f=>?_⟩;rcases h with h | ⟨g,l,N,a,k,rfl,q,j⟩
 ·exact absurd h f
 ·refine ⟨g,a.length,rfl,(j.lt g rfl).2,fun i x hi=>?_⟩
  have e:i < c.length:=(List.getElem?_eq_some_iff.1 hi).1;have:=j.cellAt (a.length+i) (by omega);rw [this];apply Zen;rw [List.getElem?_append_right (by omega),show a.length+i - a.length=i by omega,List.getElem?_append_left e];exact hi
theorem SOwn.below {w f:World}{a:Nat}{v:Value}{i:List ByteArray}(h:SOwn w a v i)(l:Below w.heap.size w f):SOwn f a v i:=by
 obtain ⟨j,d,rfl,m,h⟩:=h;refine ⟨j,d,rfl,m,?_⟩;rcases h with h | ⟨g,c,N,e,b,rfl,k,n⟩
 ·exact Or.inl h
 ·exact Or.inr ⟨g,c,N,e,b,rfl,k,Zac n l⟩
theorem ZeV (v:Value)(k:Int)(a:Nat)(c:List ByteArray)(w:World)(h:SOwn w a v c)(t:c.length <= 4194304)(l:0 <= k)(s:k <= 2305843009213693952) :
  Calls prog 11 #[v,.int .i64 k] w fun e j=>e=.returned (.int .i64 (k+c.length))/\SOwn j a v (sm k c.length)/\(c=[]/\j=w \/ c ≠ []/\w.grownBy j v.ownBlock):=by
 have p:=h;obtain ⟨x,i,rfl,q,h⟩:=h
 by_cases n:c=[]
 ·subst n
  go_enter func11,ntmps11
  go_wp2;refine wp_loop_rounds 1 ?_;rw [rounds_succ];go_wp2;go_ret;exact ⟨by simp,p,Or.inl ⟨trivial,rfl⟩⟩
 ·rcases h with h | ⟨g,f,N,d,b,rfl,o,u⟩
  ·exact absurd h n
  refine (ZeW g d.length i f N a k d c b w rfl o u t l s).mono ?_;rintro e j ⟨rfl,m,r⟩;exact ⟨rfl,⟨_,i,by rw [Za4],by rw [Za4];exact q,Or.inr ⟨g,f,N,d,b,rfl,by rw [Za4];exact o,m⟩⟩,Or.inr ⟨n,r⟩⟩
structure Lk where
 sent:Int
 acked:Int
 q:List ByteArray
 got:Int
 h:List Pc
theorem ZlV:(prog.info? 120).map (·.size)=some 5:=by kernel_rfl
theorem ZhB (i:Int)(o:0 <= i)(p:i <= 1048576)(B A:Value)(l:Lk)(w:World)(x:StRow w B l.q)(v:PcRow w A l.h) :
  Calls prog 47 #[.agg #[.int .i64 l.sent,.int .i64 l.acked,B,.int .i64 l.got,A],.int .i64 i] w fun e E=>∃ r:Int,e=.returned (.int .i64 r) /\ -1 <= r/\r <= 1048576/\(0 <= r -> l.q.length <= 1048576/\l.h.length <= 1048576)/\Below w.heap.size w E:=by
 obtain ⟨y,z,rfl⟩:=x.small;obtain ⟨j,k,rfl⟩:=v.small
 go_enter func47,ntmps47
 go_wp2_with fail;have b:Below w.heap.size w (w.alloc (Obj.cells #[.int .i64 l.sent,.int .i64 l.acked,.slice y l.q.length z,.int .i64 l.got,.slice j l.h.length k] 103)):=(cf _ _).alloc (ce _) _;refine (Zb7 _ l.q i _ (x.below b) o p).mono ?_;rintro e u ⟨s,rfl,F,G,m,c⟩;have g:u.heap[w.heap.size]? = some (.cells #[.int .i64 l.sent,.int .i64 l.acked,.slice y l.q.length z,.int .i64 l.got,.slice j l.h.length k] 103 (0,0)):=(c.block _ (by simp)).trans (cg _ _);have a:=b.trans (c.mono b.size);have n:u.cell? ⟨w.heap.size,0+4,none⟩=some (.slice j l.h.length k):=by rw [cd u _ 4 _ _ _ g];rfl
 clear b c
 by_cases H:s < 0
 ·have C:Hid (s = -1):=by unfold Hid;omega
  go_wp2;go_ret;exact ⟨-1,rfl,by omega,by omega,fun h=>by omega,a⟩
 ·have m:=m (by omega)
  go_wp2_with fail;refine (ZiS _ l.h s _ (v.below a) (by omega) (by omega)).mono ?_;rintro e K ⟨t,rfl,I,J,k2,f⟩;have d:=a.trans (f.mono a.size);clear n g a f
  by_cases D:t < 0
  ·have C:Hid (t = -1):=by unfold Hid;omega
   go_wp2;go_ret;exact ⟨-1,rfl,by omega,by omega,fun h=>by omega,d⟩
  ·have k2:=k2 (by omega)
   go_wp2;go_ret;exact ⟨t,rfl,by omega,by omega,fun _=>⟨m.1,k2.1⟩,d⟩
theorem ZgO (D E u1 u2:Value)(l:Lk)(w:World)(u:StRow w D l.q)(v:PcRow w E l.h)(x:StRow w u1 l.q)(y:PcRow w u2 l.h) :
  Calls prog 77 #[.agg #[.int .i64 l.sent,.int .i64 l.acked,D,.int .i64 l.got,E],.agg #[.int .i64 l.sent,.int .i64 l.acked,u1,.int .i64 l.got,u2]] w fun e F=>e=.returned (.bool true)/\Below w.heap.size w F:=by
 obtain ⟨z,B,rfl⟩:=u.small;obtain ⟨j,m,rfl⟩:=v.small;obtain ⟨A,C,rfl⟩:=x.small;obtain ⟨k,n,rfl⟩:=y.small
 go_enter func77,ntmps77
 go_wp2_with fail;have a:Below w.heap.size w ((w.alloc (Obj.cells #[.int .i64 l.sent,.int .i64 l.acked,.slice z l.q.length B,.int .i64 l.got,.slice j l.h.length m] 120)).alloc (Obj.cells #[.int .i64 l.sent,.int .i64 l.acked,.slice A l.q.length C,.int .i64 l.got,.slice k l.h.length n] 120)):=((cf _ _).alloc (ce _) _).alloc (by simp) _;refine (Za7 _ _ l.q _ (u.below a) (x.below a)).mono ?_;rintro e c ⟨rfl,d⟩;have f:c.heap[w.heap.size]? = some (.cells #[.int .i64 l.sent,.int .i64 l.acked,.slice z l.q.length B,.int .i64 l.got,.slice j l.h.length m] 120 (0,0)):=(d.block _ (by simp;omega)).trans ((cn _ _ (by simp)).trans (cg _ _));have g:c.heap[w.heap.size+1]? = some (.cells #[.int .i64 l.sent,.int .i64 l.acked,.slice A l.q.length C,.int .i64 l.got,.slice k l.h.length n] 120 (0,0)):=(d.block _ (by simp)).trans (cw _ _ _);have b:=a.trans (d.mono a.size)
 have p:c.cell? ⟨w.heap.size,0+3,none⟩=some (.int .i64 l.got):=by rw [cd c _ 3 _ _ _ f];rfl
 have s:c.cell? ⟨w.heap.size+1,0+3,none⟩=some (.int .i64 l.got):=by rw [cd c _ 3 _ _ _ g];rfl
 have r:c.cell? ⟨w.heap.size,0+4,none⟩=some (.slice j l.h.length m):=by rw [cd c _ 4 _ _ _ f];rfl
 have t:c.cell? ⟨w.heap.size+1,0+4,none⟩=some (.slice k l.h.length n):=by rw [cd c _ 4 _ _ _ g];rfl
 clear a d;go_wp2_with fail;refine (ZhZ _ _ l.h _ (v.below b) (y.below b)).mono ?_;rintro e G ⟨rfl,i⟩;have o:=b.trans (i.mono b.size);clear p s f g b i r t;go_wp2;go_ret;exact ⟨rfl,o⟩
theorem ZhI (v1 v2:Value)(l:Lk)(w:World)(V:StRow w v1 l.q)(W:PcRow w v2 l.h)(h1:l.q.length <= 2097152)(h2:l.h.length <= 2097152) :
  Calls prog 60 #[.agg #[.int .i64 l.sent,.int .i64 l.acked,v1,.int .i64 l.got,v2]] w fun e U=>∃ u1 u2,e=.returned (.agg #[.int .i64 l.sent,.int .i64 l.acked,u1,.int .i64 l.got,u2])/\U.ownsRow w.heap.size 9 1 u1 l.q.length (stv l.q)/\U.ownsRow w.heap.size 122 2 u2 l.h.length (pccs l.h)/\Below w.heap.size w U:=by
 obtain ⟨X,Y,rfl⟩:=V.small;obtain ⟨F,G,rfl⟩:=W.small
 go_enter func60,ntmps60
 go_wp2_with fail
 have j:Below w.heap.size w (((w.alloc (Obj.cells #[.int .i64 l.sent,.int .i64 l.acked,.slice X l.q.length Y,.int .i64 l.got,.slice F l.h.length G] 103)).alloc (Obj.cells #[.int .i64 0,.int .i64 0,.slice none 0 0,.int .i64 0,.slice none 0 0] 120)).alloc (Obj.cells #[.int .i64 l.sent,.int .i64 l.acked,.slice none 0 0,.int .i64 0,.slice none 0 0] 120)) :=
  (((cf _ _).alloc (ce _) _).alloc (by simp) _).alloc (by simp;omega) _
 refine (Zb8 _ l.q _ (V.below j) h1).mono ?_;rintro e c ⟨u1,rfl,u,f⟩;obtain ⟨m,r,rfl⟩:=Zad u;have A:c.heap[w.heap.size]? = some (.cells #[.int .i64 l.sent,.int .i64 l.acked,.slice X l.q.length Y,.int .i64 l.got,.slice F l.h.length G] 103 (0,0)):=(f.block _ (by simp;omega)).trans ((cn _ _ (by simp;omega)).trans ((cn _ _ (by simp)).trans (cg _ _)));have E:c.heap[w.heap.size+1]? = some (.cells #[.int .i64 0,.int .i64 0,.slice none 0 0,.int .i64 0,.slice none 0 0] 120 (0,0)):=(f.block _ (by simp)).trans ((cn _ _ (by simp)).trans (cw _ _ _));have b:c.heap[w.heap.size+1+1]? = some (.cells #[.int .i64 l.sent,.int .i64 l.acked,.slice none 0 0,.int .i64 0,.slice none 0 0] 120 (0,0)):=(f.block _ (by simp)).trans (Zbm _ _ _ _);have B:=j.trans (f.mono j.size)
 have t:c.ownsRow (w.heap.size+3) 9 1 (.slice m l.q.length r) l.q.length (stv l.q):=by simpa using u
 have H:c.cell? ⟨w.heap.size+1+1,0+2,none⟩=some (.slice none 0 0):=by rw [cd c _ 2 _ _ _ b];rfl
 have I:c.cell? ⟨w.heap.size+1+1,0+3,none⟩=some (.int .i64 0):=by rw [cd c _ 3 _ _ _ b];rfl
 have L:c.frozen? ⟨w.heap.size+1+1,0+2,none⟩=false:=cj c _ 2 _ _ b;have M:c.frozen? ⟨w.heap.size+1+1,0+3,none⟩=false:=cj c _ 3 _ _ b;have J:c.cell? ⟨w.heap.size,0+3,none⟩=some (.int .i64 l.got):=by rw [cd c _ 3 _ _ _ A];rfl
 have K:c.cell? ⟨w.heap.size,0+4,none⟩=some (.slice F l.h.length G):=by rw [cd c _ 4 _ _ _ A];rfl
 clear j f u;go_wp2_with fail;have d:Below w.heap.size w ((c.setCell ⟨w.heap.size+1+1,2,none⟩ (.slice m l.q.length r)).setCell ⟨w.heap.size+1+1,3,none⟩ (.int .i64 l.got)):=(B.setCell (p:=⟨w.heap.size+1+1,2,none⟩) (by simp;omega) _).setCell (p:=⟨w.heap.size+1+1,3,none⟩) (by simp;omega) _;refine (ZiZ _ l.h _ (W.below d) h2).mono ?_;rintro e i ⟨u2,rfl,y,g⟩;obtain ⟨o,s,rfl⟩:=Zad y;have x:=Zac (cx (cx t (a:=⟨w.heap.size+1+1,2,none⟩) (by simp) (.slice m l.q.length r)) (a:=⟨w.heap.size+1+1,3,none⟩) (by simp) (.int .i64 l.got)) g
 have R:i.heap[w.heap.size+1]? = some (.cells #[.int .i64 0,.int .i64 0,.slice none 0 0,.int .i64 0,.slice none 0 0] 120 (0,0)):=(g.block _ (by simp;have:=(bl b);omega)).trans ((ch _ ⟨w.heap.size+1+1,3,none⟩ (w.heap.size+1) _ (by simp)).trans ((ch c ⟨w.heap.size+1+1,2,none⟩ (w.heap.size+1) _ (by simp)).trans E));have z:i.heap[w.heap.size+1+1]? = some (.cells #[.int .i64 l.sent,.int .i64 l.acked,.slice m l.q.length r,.int .i64 l.got,.slice none 0 0] 120 (0,0)):=(g.block _ (by simp;have:=(bl b);omega)).trans (ci _ (w.heap.size+1+1) 3 _ _ (.int .i64 l.got) (ci c (w.heap.size+1+1) 2 _ _ (.slice m l.q.length r) b));have N:=d.trans (g.mono d.size);have ac:=(bl b);have C:i.ownsRow (w.heap.size+3) 122 2 (.slice o l.h.length s) l.h.length (pccs l.h):=Zae y (by simp;omega)
 have aa:i.cell? ⟨w.heap.size+1+1,0+4,none⟩=some (.slice none 0 0):=by rw [cd i _ 4 _ _ _ z];rfl
 have ab:i.frozen? ⟨w.heap.size+1+1,0+4,none⟩=false:=cj i _ 4 _ _ z;clear B d g t y A E b H L J K I M;have Q:(i.setCell ⟨w.heap.size+1+1,4,none⟩ (.slice o l.h.length s)).heap[w.heap.size+1+1]? = some (.cells #[.int .i64 l.sent,.int .i64 l.acked,.slice m l.q.length r,.int .i64 l.got,.slice o l.h.length s] 120 (0,0)):=ci i (w.heap.size+1+1) 4 _ _ (.slice o l.h.length s) z;have S:=(ch i ⟨w.heap.size+1+1,4,none⟩ (w.heap.size+1) (.slice o l.h.length s) (by simp)).trans R
 go_wp2_with (first
  | refine co rfl 120 _ rfl (w.heap.size+1+1) rfl 120 #[.int .i64 l.sent,.int .i64 l.acked,.slice m l.q.length r,.int .i64 l.got,.slice o l.h.length s] (0,0) _ Q underlying120 rfl ZlV ?_
  | refine Zas rfl 120 _ _ rfl (w.heap.size+1) #[.int .i64 l.sent,.int .i64 l.acked,.slice m l.q.length r,.int .i64 l.got,.slice o l.h.length s] rfl rfl 120 _ S ZlV rfl (by simp [Value.oneCell']) ?_)
 intro w3 T P _ D;have O:=(N.setCell (p:=⟨w.heap.size+1+1,4,none⟩) (by simp;omega) (.slice o l.h.length s)).trans (P.mono (by omega))
 have Z:∀ {e:TypeId} {k:Nat} {v:Value} {n:Nat} {xs:List Value},i.ownsRow (w.heap.size+3) e k v n xs -> w3.ownsRow (w.heap.size+3) e k v n xs:=fun h =>
  Zaz (cx h (a:=⟨w.heap.size+1+1,4,none⟩) (by simp) _) (by omega) D
 go_wp2;exact ck (results_cell_row rfl _ _ (w.heap.size+1) 120 _ (0,0) _ rfl T underlying120 rfl ZlV) rfl ⟨_,_,rfl,Zae (Z x) (by omega),Zae (Z C) (by omega),O⟩
def VarL (w:World)(b lo hi:Nat)(v1 v2:Value)(l:Lk):Prop :=
 w.heap[b]? = some (.cells #[.int .i64 l.sent,.int .i64 l.acked,v1,.int .i64 l.got,v2] 120 (0,0))/\SOwn w lo v1 l.q/\w.ownsRow lo 122 2 v2 l.h.length (pccs l.h)/\(l.q ≠ [] -> ∀ k,v1.ownBlock=some k -> k < hi)/\(∀ k,v2.ownBlock=some k -> k < hi)/\hi <= w.heap.size
def lmk (l:Lk):Lk:=⟨l.sent,l.acked,sm 1 l.q.length,l.got,Zky (1+l.q.length) l.h l.h.length⟩
def Zlu (w w':World)(lo hi:Nat):Prop :=
 w'.os=w.os/\w'.tape=w.tape/\w'.output=w.output/\w.heap.size <= w'.heap.size/\∀ k,k < w.heap.size -> (k < lo \/ hi <= k \/ ∃ cs t,w.heap[k]? = some (.cells cs t (0,0))/\t ≠ 9/\t ≠ 122) -> w'.heap[k]? = w.heap[k]?
theorem ZbF {P:Program}{ops:Array Oper}{S:World -> Prop}{op:Oper}{a:Act}(l:Region.wanted op (yielded ops a.tmps)=true)(c:TypeId)(x:Operand)(i:op.op=.load c x)(b:Nat)(m:a.eval x=.pointer (some ⟨b,0,none⟩))(cs:Array Value)(t:TypeId)(d:TypeDesc)(f:∀ w,S w -> w.heap[b]? = some (.cells cs t (0,0)))(k:P.underlying c=some d)(g:d.isRow=true)(hi:(P.info? c).map (·.size)=some cs.size):YieldsIf P ops S op (.agg cs) a:=by
 have h:=yieldsIf_load_mid (P:=P) (ops:=ops) (S:=S) (op:=op) (a:=a) l c x i b 0 m cs.toList d (fun w e=>by
  have j:=World.rangeAt_of_block (f w e) 0 cs.size
  simpa using j) k g (by simpa using hi)
 simpa using h
theorem ZaE (w:World):Below w.heap.size w w.drew:=(cf _ _).drew
theorem Zaw (w:World)(o:Obj):Below w.heap.size w (w.alloc o):=(cf _ _).alloc (ce _) _
theorem ZbT {w:World}{b:Nat}{o:Obj}(h:w.heap[b]? = some o):b < w.heap.size:=(bl h)
theorem Zaf {w a:World}{b:Nat}{o:Obj}(h:w.heap[b]? = some o)(c:Below w.heap.size w a):a.heap[b]? = some o:=(c.block _ (ZbT h)).trans h
end Go.Proofs.YtanhoamdlhaaeaaGreatDoor
