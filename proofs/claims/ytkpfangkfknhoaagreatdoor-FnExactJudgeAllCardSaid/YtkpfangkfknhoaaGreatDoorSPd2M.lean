/-
  Texts that stood by themselves, laid into one.
-/
import Derived.Test.YtkpfangkfknhoaaGreatDoorIMlRgM
import Derived.Defers
import Derived.Recover
import Derived.Test.YtkpfangkfknhoaaGreatDoorS12tM
import Derived.Test.YtkpfangkfknhoaaGreatDoorSR8M
import Derived.Test.YtkpfangkfknhoaaGreatDoorSGTextM
import Derived.Test.YtkpfangkfknhoaaGreatDoorMRgM
import Derived.Test.YtkpfangkfknhoaaGreatDoorS8RdM
/-
  The contract of impl.MailRead, and of the function that it defers. No condition but bounds.
-/
set_option maxRecDepth 100000
set_option maxHeartbeats 12800000
namespace Go.Proofs.YtkpfangkfknhoaaGreatDoor
open Go.Proofs.Tryz
open Go.RowKit
structure MX (w:World)(b:Nat)(k p:Int)(t:ByteArray)(ok:Bool):Prop where
 c0:w.heap[b]? = some (.cells #[.int .i64 k] 3 (0,0))
 c1:w.heap[b+1]? = some (.cells #[.int .i64 p] 3 (0,0))
 c2:w.heap[b+1+1]? = some (.cells #[.string t] 9 (0,0))
 c3:w.heap[b+1+1+1]? = some (.cells #[.bool ok] 4 (0,0))
theorem MX.lt {w:World}{b:Nat}{k p:Int}{t:ByteArray}{ok:Bool}(h:MX w b k p t ok):b+1+1+1 < w.heap.size:=Zao h.c3
theorem MX.on {w c:World}{b:Nat}{k p:Int}{t:ByteArray}{ok:Bool}(h:MX w b k p t ok)(a:∀ j,b <= j -> j <= b+1+1+1 -> c.heap[j]? = w.heap[j]?):MX c b k p t ok :=
 ⟨(a _ (by omega) (by omega)).trans h.c0,(a _ (by omega) (by omega)).trans h.c1,(a _ (by omega) (by omega)).trans h.c2,(a _ (by omega) (by omega)).trans h.c3⟩
theorem MX.below {w a:World}{b:Nat}{k p:Int}{t:ByteArray}{ok:Bool}(h:MX w b k p t ok)(c:Below w.heap.size w a):MX a b k p t ok:=h.on fun j _ d=>c.block j (by have:=h.lt;omega)
theorem MX.set0 {w:World}{b:Nat}{k p:Int}{t:ByteArray}{ok:Bool}(h:MX w b k p t ok)(a:Int):MX (w.setCell ⟨b,0,none⟩ (.int .i64 a)) b a p t ok :=
 ⟨cu w b 0 _ _ _ h.c0,(cr w ⟨b,0,none⟩ _ _ (by show b+1 ≠ b;omega)).trans h.c1,(cr w ⟨b,0,none⟩ _ _ (by show b+1+1 ≠ b;omega)).trans h.c2,(cr w ⟨b,0,none⟩ _ _ (by show b+1+1+1 ≠ b;omega)).trans h.c3⟩
theorem MX.set1 {w:World}{b:Nat}{k p:Int}{t:ByteArray}{ok:Bool}(h:MX w b k p t ok)(a:Int):MX (w.setCell ⟨b+1,0,none⟩ (.int .i64 a)) b k a t ok :=
 ⟨(cr w ⟨b+1,0,none⟩ _ _ (by show b ≠ b+1;omega)).trans h.c0,cu w (b+1) 0 _ _ _ h.c1,(cr w ⟨b+1,0,none⟩ _ _ (by show b+1+1 ≠ b+1;omega)).trans h.c2,(cr w ⟨b+1,0,none⟩ _ _ (by show b+1+1+1 ≠ b+1;omega)).trans h.c3⟩
theorem MX.set2 {w:World}{b:Nat}{k p:Int}{t:ByteArray}{ok:Bool}(h:MX w b k p t ok)(a:ByteArray):MX (w.setCell ⟨b+1+1,0,none⟩ (.string a)) b k p a ok :=
 ⟨(cr w ⟨b+1+1,0,none⟩ _ _ (by show b ≠ b+1+1;omega)).trans h.c0,(cr w ⟨b+1+1,0,none⟩ _ _ (by show b+1 ≠ b+1+1;omega)).trans h.c1,cu w (b+1+1) 0 _ _ _ h.c2,(cr w ⟨b+1+1,0,none⟩ _ _ (by show b+1+1+1 ≠ b+1+1;omega)).trans h.c3⟩
theorem MX.set3 {w:World}{b:Nat}{k p:Int}{t:ByteArray}{ok:Bool}(h:MX w b k p t ok)(a:Bool):MX (w.setCell ⟨b+1+1+1,0,none⟩ (.bool a)) b k p t a :=
 ⟨(cr w ⟨b+1+1+1,0,none⟩ _ _ (by show b ≠ b+1+1+1;omega)).trans h.c0,(cr w ⟨b+1+1+1,0,none⟩ _ _ (by show b+1 ≠ b+1+1+1;omega)).trans h.c1,(cr w ⟨b+1+1+1,0,none⟩ _ _ (by show b+1+1 ≠ b+1+1+1;omega)).trans h.c2,cu w (b+1+1+1) 0 _ _ _ h.c3⟩
theorem MX.cells {w:World}{b:Nat}{k p:Int}{t:ByteArray}{ok:Bool}(h:MX w b k p t ok) :
  w.cell? ⟨b,0,none⟩=some (.int .i64 k)/\w.cell? ⟨b+1,0,none⟩=some (.int .i64 p)/\w.cell? ⟨b+1+1,0,none⟩=some (.string t)/\w.cell? ⟨b+1+1+1,0,none⟩=some (.bool ok) /\
   w.frozen? ⟨b,0,none⟩=false/\w.frozen? ⟨b+1,0,none⟩=false/\w.frozen? ⟨b+1+1,0,none⟩=false/\w.frozen? ⟨b+1+1+1,0,none⟩=false :=
 ⟨cd w _ 0 _ _ _ h.c0,cd w _ 0 _ _ _ h.c1,cd w _ 0 _ _ _ h.c2,cd w _ 0 _ _ _ h.c3,cw w _ 0 _ _ h.c0,cw w _ 0 _ _ h.c1,cw w _ 0 _ _ h.c2,cw w _ 0 _ _ h.c3⟩
theorem Zb0 (b:Nat)(k p:Int)(t:ByteArray)(ok:Bool)(w:World)(X:MX w b k p t ok) :
  CallsD prog 162 #[.pointer (some ⟨b+1+1+1,0,none⟩),.pointer (some ⟨b,0,none⟩),.pointer (some ⟨b+1,0,none⟩),.pointer (some ⟨b+1+1,0,none⟩)] .returning w fun e h a =>
   h=.returning/\(e=.returned (.tuple #[])/\MX a b (if ok then k else 0) (if ok then p else 0) (if ok then t else ⟨#[]⟩) ok/\Below b w a):=by
 obtain ⟨c0,c1,c2,c3,j,m,r,n⟩:=X.cells;have c:=X.set0 0;have d:=c.set1 0;have g:=d.set2 ⟨#[]⟩;obtain ⟨_,o,_,_,_,l,_,_⟩:=c.cells;obtain ⟨_,_,q,_,_,_,i,_⟩:=d.cells
 have f:Below b w (((w.setCell ⟨b,0,none⟩ (.int .i64 0)).setCell ⟨b+1,0,none⟩ (.int .i64 0)).setCell ⟨b+1+1,0,none⟩ (.string ⟨#[]⟩)) :=
  (((cj _ _).setCell (p:=⟨b,0,none⟩) (ce _) _).setCell (p:=⟨b+1,0,none⟩) (by show b <= b+1;omega) _).setCell (p:=⟨b+1+1,0,none⟩) (by show b <= b+1+1;omega) _
 go_enter_d func162,ntmps162
 cases ok with
 | true =>
  go_wp2
  go_end0
  exact ⟨rfl,X,cj _ _⟩
 | false =>
  go_wp2
  go_end0
  exact ⟨rfl,g,f⟩
theorem Row.set1 {w:World}{v:Value}{zs:List Int}{b:Nat}{x:Value}{t:TypeId}(R:Row w v zs)(h:w.heap[b]? = some (.cells #[x] t (0,0)))(l:∀ z,x ≠ .int .u8 z)(y:Value):Row (w.setCell ⟨b,0,none⟩ y) v zs:=by
 obtain ⟨s,f,rfl,q,k,p,a⟩:=R;refine ⟨s,f,rfl,q,k,p,fun c=>?_⟩;obtain ⟨g,o,rfl,r,d⟩:=a c;have m:0 < zs.length:=List.length_pos_iff.2 c
 have j:g ≠ b:=by
  rintro rfl;have e:=d 0 m;rw [cd w g (o+0) _ _ _ h] at e;cases o with
  | zero=>simp at e;exact l _ e
  | succ n=>simp at e
 refine ⟨g,o,rfl,by simpa using r,fun i hi=>?_⟩;rw [World.cell?_of_block (w:=w) (cr w ⟨b,0,none⟩ g y j)];exact d i hi
theorem Zcw {V u:World}{n b:Nat}{x:Value}{t:TypeId}(h:Below n V u)(c:V.heap[b]? = some (.cells #[x] t (0,0)))(e:b < n)(y:Value):Below n (V.setCell ⟨b,0,none⟩ y) (u.setCell ⟨b,0,none⟩ y):=by
 have d:u.heap[b]? = some (.cells #[x] t (0,0)):=(h.block b e).trans c;refine ⟨h.os,h.tape,h.output,by simpa using h.size,fun k f=>?_⟩
 by_cases a:k=b
 ·subst a
  rw [cu u k 0 _ _ y d,cu V k 0 _ _ y c]
 ·rw [cr u ⟨b,0,none⟩ k y a,cr V ⟨b,0,none⟩ k y a]
  exact h.block k f
structure RS (w u:World)(v:Value)(zs:List Int)(P rb:Nat)(a k p:Int)(t:ByteArray)(ok:Bool):Prop where
 sh:∃ V,Row V v zs/\Below V.heap.size V u/\V.heap.size <= P/\MX V w.heap.size k p t ok
 box:u.heap[rb]? = some (.cells #[v,.pointer (some ⟨P,0,none⟩)] 231 (0,0))
 one:One u P a
 bel:Below w.heap.size w u
 ne:P < rb
theorem RS.mx {w u:World}{v:Value}{zs:List Int}{P d:Nat}{a k p:Int}{t:ByteArray}{ok:Bool}(R:RS w u v zs P d a k p t ok):MX u w.heap.size k p t ok:=by
 obtain ⟨V,_,c,_,b⟩:=R.sh;exact b.below c
theorem RS.far {w u:World}{v:Value}{zs:List Int}{P b:Nat}{a k p:Int}{t:ByteArray}{ok:Bool}(R:RS w u v zs P b a k p t ok):w.heap.size+1+1+1 < P/\P < b:=by
 obtain ⟨V,_,_,d,c⟩:=R.sh;have:=c.lt;exact ⟨by omega,R.ne⟩
theorem RS.form {w u:World}{v:Value}{zs:List Int}{P d:Nat}{a k p:Int}{t:ByteArray}{ok:Bool}(R:RS w u v zs P d a k p t ok):∃ c b,v=.slice c zs.length b:=by
 obtain ⟨V,⟨c,b,h,_⟩,_⟩:=R.sh;exact ⟨c,b,h⟩
theorem RS.grown {w u d:World}{v:Value}{zs:List Int}{P g:Nat}{a h k p:Int}{t:ByteArray}{ok:Bool}(R:RS w u v zs P g a k p t ok)(e:u.grownBy d (some P))(i:One d P h):RS w d v zs P g h k p t ok:=by
 obtain ⟨V,b,f,l,j⟩:=R.sh;have m:=R.far;exact ⟨⟨V,b,f.grown e f.size (fun k c=>by cases c;omega),l,j⟩,(e.block _ (Zao R.box) (by simp;omega)).trans R.box,i,R.bel.grown e R.bel.size (fun k c=>by cases c;omega),R.ne⟩
theorem RS.set0 {w u:World}{v:Value}{zs:List Int}{P c:Nat}{a k p:Int}{t:ByteArray}{ok:Bool}(R:RS w u v zs P c a k p t ok)(d:Int):RS w (u.setCell ⟨w.heap.size,0,none⟩ (.int .i64 d)) v zs P c a d p t ok:=by
 obtain ⟨V,f,e,g,b⟩:=R.sh;have j:=R.far;have i:=b.lt
 exact ⟨⟨V.setCell ⟨w.heap.size,0,none⟩ (.int .i64 d),f.set1 b.c0 (by intro z h;cases h) _,by rw [World.size_setCell];exact Zcw e b.c0 (by omega) _,by rw [World.size_setCell];exact g,b.set0 _⟩,
  (cr u ⟨w.heap.size,0,none⟩ c _ (by show c ≠ w.heap.size;omega)).trans R.box,(cr u ⟨w.heap.size,0,none⟩ P _ (by show P ≠ w.heap.size;omega)).trans R.one,R.bel.setCell (p:=⟨w.heap.size,0,none⟩) (by show w.heap.size <= w.heap.size;omega) _,R.ne⟩
theorem RS.set1 {w u:World}{v:Value}{zs:List Int}{P c:Nat}{a k p:Int}{t:ByteArray}{ok:Bool}(R:RS w u v zs P c a k p t ok)(d:Int):RS w (u.setCell ⟨w.heap.size+1,0,none⟩ (.int .i64 d)) v zs P c a k d t ok:=by
 obtain ⟨V,f,e,g,b⟩:=R.sh;have j:=R.far;have i:=b.lt
 exact ⟨⟨V.setCell ⟨w.heap.size+1,0,none⟩ (.int .i64 d),f.set1 b.c1 (by intro z h;cases h) _,by rw [World.size_setCell];exact Zcw e b.c1 (by omega) _,by rw [World.size_setCell];exact g,b.set1 _⟩,
  (cr u ⟨w.heap.size+1,0,none⟩ c _ (by show c ≠ w.heap.size+1;omega)).trans R.box,(cr u ⟨w.heap.size+1,0,none⟩ P _ (by show P ≠ w.heap.size+1;omega)).trans R.one,R.bel.setCell (p:=⟨w.heap.size+1,0,none⟩) (by show w.heap.size <= w.heap.size+1;omega) _,R.ne⟩
theorem RS.set2 {w u:World}{v:Value}{zs:List Int}{P c:Nat}{a k p:Int}{t:ByteArray}{ok:Bool}(R:RS w u v zs P c a k p t ok)(d:ByteArray):RS w (u.setCell ⟨w.heap.size+1+1,0,none⟩ (.string d)) v zs P c a k p d ok:=by
 obtain ⟨V,f,e,g,b⟩:=R.sh;have j:=R.far;have i:=b.lt
 exact ⟨⟨V.setCell ⟨w.heap.size+1+1,0,none⟩ (.string d),f.set1 b.c2 (by intro z h;cases h) _,by rw [World.size_setCell];exact Zcw e b.c2 (by omega) _,by rw [World.size_setCell];exact g,b.set2 _⟩,
  (cr u ⟨w.heap.size+1+1,0,none⟩ c _ (by show c ≠ w.heap.size+1+1;omega)).trans R.box,(cr u ⟨w.heap.size+1+1,0,none⟩ P _ (by show P ≠ w.heap.size+1+1;omega)).trans R.one,R.bel.setCell (p:=⟨w.heap.size+1+1,0,none⟩) (by show w.heap.size <= w.heap.size+1+1;omega) _,R.ne⟩
theorem RS.set3 {w u:World}{v:Value}{zs:List Int}{P d:Nat}{a k p:Int}{t:ByteArray}{ok:Bool}(R:RS w u v zs P d a k p t ok)(b:Bool):RS w (u.setCell ⟨w.heap.size+1+1+1,0,none⟩ (.bool b)) v zs P d a k p t b:=by
 obtain ⟨V,f,e,g,c⟩:=R.sh;have j:=R.far;have i:=c.lt
 exact ⟨⟨V.setCell ⟨w.heap.size+1+1+1,0,none⟩ (.bool b),f.set1 c.c3 (by intro z h;cases h) _,by rw [World.size_setCell];exact Zcw e c.c3 (by omega) _,by rw [World.size_setCell];exact g,c.set3 _⟩,
  (cr u ⟨w.heap.size+1+1+1,0,none⟩ d _ (by show d ≠ w.heap.size+1+1+1;omega)).trans R.box,(cr u ⟨w.heap.size+1+1+1,0,none⟩ P _ (by show P ≠ w.heap.size+1+1+1;omega)).trans R.one,R.bel.setCell (p:=⟨w.heap.size+1+1+1,0,none⟩) (by show w.heap.size <= w.heap.size+1+1+1;omega) _,R.ne⟩
theorem RS.num {w u:World}{v:Value}{zs:List Int}{P c:Nat}{a k p:Int}{t:ByteArray}{ok:Bool}(R:RS w u v zs P c a k p t ok) :
  Calls prog 164 #[.agg #[v,.pointer (some ⟨P,0,none⟩)]] u fun e b=>e=.returned (.tuple #[.int .i64 (gN zs a).1,.bool (gN zs a).2.2])/\∃ q,((gN zs a).2.2=true -> q=(gN zs a).2.1)/\RS w b v zs P c q k p t ok:=by
 obtain ⟨V,h,f,j,l⟩:=id R.sh;refine (Zdy v zs P a V u h f j R.one).mono ?_;rintro e b ⟨rfl,⟨q,g,i⟩,d⟩;exact ⟨rfl,q,i,R.grown d g⟩
theorem RS.text {w u:World}{v:Value}{zs:List Int}{P c:Nat}{a k p:Int}{t:ByteArray}{ok:Bool}(R:RS w u v zs P c a k p t ok) :
  Calls prog 165 #[.agg #[v,.pointer (some ⟨P,0,none⟩)]] u fun e b=>e=.returned (.tuple #[.string (gT zs a).1,.bool (gT zs a).2.2])/\∃ q,((gT zs a).2.2=true -> q=(gT zs a).2.1)/\RS w b v zs P c q k p t ok:=by
 obtain ⟨V,h,f,j,l⟩:=id R.sh;refine (Zdn v zs P a V u h f j R.one).mono ?_;rintro e b ⟨rfl,⟨q,g,i⟩,d⟩;exact ⟨rfl,q,i,R.grown d g⟩
theorem ZiF (s:ByteArray)(w:World)(hs:s.size <= 1048576) :
  Calls prog 127 #[.string s] w fun e w'=>e=.returned (mrA (mrd (sb s)))/\Below w.heap.size w w':=by
 have af:=ZaJ s;have ah:∀ (fn:Fn) (first i:Array Value) (w:World),(Instr.makeFunc fn first i).run prog w=.ok (.func fn first i) w:=fun _ _ _ _=>rfl
 obtain ⟨W0,I⟩:∃ W0,Hid ((((w.alloc (Obj.cells #[.int .i64 0] 3)).alloc (Obj.cells #[.int .i64 0] 3)).alloc (Obj.cells #[.string ⟨#[]⟩] 9)).alloc (Obj.cells #[.bool false] 4)=W0):=⟨_,rfl⟩
 have ac:Below w.heap.size w W0:=by
  rw [<- I.out];exact ((((cj _ _).alloc (ce _) _).alloc (by simp) _).alloc (by simp;omega) _).alloc (by simp;omega) _
 have ag:W0.heap.size=w.heap.size+4:=by rw [<- I.out];simp
 have X0:MX W0 w.heap.size 0 0 ⟨#[]⟩ false:=by
  rw [<- I.out];refine ⟨?_,?_,?_,?_⟩
  ·rw [cz _ _ (by simp;omega),cz _ _ (by simp;omega),cz _ _ (by simp)];exact co _ _
  ·rw [cz _ _ (by simp),cz _ _ (by simp)];exact (by simpa using co (w.alloc (Obj.cells #[.int .i64 0] 3)) (Obj.cells #[.int .i64 0] 3))
  ·rw [cz _ _ (by simp)];exact (by simpa using co ((w.alloc (Obj.cells #[.int .i64 0] 3)).alloc (Obj.cells #[.int .i64 0] 3)) (Obj.cells #[.string ⟨#[]⟩] 9))
  ·exact (by simpa using co (((w.alloc (Obj.cells #[.int .i64 0] 3)).alloc (Obj.cells #[.int .i64 0] 3)).alloc (Obj.cells #[.string ⟨#[]⟩] 9)) (Obj.cells #[.bool false] 4))
 have q:Hid (mrd (sb s)=(rd1 (sb s) 0).bind fun k=>if k.1=1 then (rd1 (sb s) k.2).bind fun p=>mEnd (sb s) 1 p.1 p.2 else if k.1=2 then mEnd (sb s) 2 0 k.2 else none):=rfl
 go_enter_defers func127,ntmps127
 go_wp2_with fail;rw [I.out];refine (Za8 s _ (by omega)).mono ?_;rintro e Y ⟨v,V0,P,rfl,RR,Q,F,hP,C⟩;obtain ⟨L,i,rfl⟩:∃ L i,v=.slice L s.size i:=by obtain ⟨L,i,h,_⟩:=RR;exact ⟨L,i,by rw [<- af];exact h⟩
 have S:=Zap Y (Obj.cells #[.slice L s.size i,.pointer (some ⟨P,0,none⟩)] 231)
 have R:RS w (Y.alloc (Obj.cells #[.slice L s.size i,.pointer (some ⟨P,0,none⟩)] 231)) (.slice L s.size i) (sb s) P Y.heap.size 0 0 0 ⟨#[]⟩ false:=by
  exact ⟨⟨V0,RR,F.trans (S.mono F.size),hP,X0.below Q⟩,co _ _,C.below S C.lt,(ac.trans (Q.mono ac.size)).trans ((F.trans (S.mono F.size)).mono (by have:=Q.size;omega)),C.lt⟩
 clear S F Q C X0 ac I ag RR hP;have W:=R.num;obtain ⟨nn,N1⟩:∃ n,gN (sb s) 0=n:=⟨_,rfl⟩;obtain ⟨k,a1,k1⟩:=nn;rw [N1] at W;simp only at W
 have U:Hid ((k1=true -> rd1 (sb s) 0=some (k,a1))/\(k1=false -> rd1 (sb s) 0=none)):=by
  unfold Hid rd1;rw [N1];cases k1 <;> simp
 clear N1;go_wp2_with fail;refine W.mono ?_;rintro e u2 ⟨rfl,q2,ad,R2⟩;clear W R;obtain ⟨c0,_,_,_,f0,_,_,_⟩:=R2.mx.cells;have R3:=R2.set0 k;obtain ⟨_,_,_,d3,_,_,_,g3⟩:=R3.mx.cells;have B:=R3.set3 k1;clear R2 R3;obtain ⟨e0,e1,e2,e3,h0,h1,h2,X⟩:=B.mx.cells;cases k1 with
 | false =>
  have E:Hid (mrd (sb s)=none):=by unfold Hid;rw [q.out,U.out.2 rfl];rfl
  clear q U ad;go_wp2_with fail;refine ZgB w.heap.size k 0 ⟨#[]⟩ _ _ B.mx.c0 B.mx.c1 B.mx.c2 false B.mx.c3 ?_;intro u35 u36 u37 w9 y z A l d;have g:=B.bel;go_wp2_with fail;have m:MX _ w.heap.size k 0 ⟨#[]⟩ false:=⟨y,z,A,l⟩;refine leaves_cons (f:=162) (args:=#[.pointer (some ⟨w.heap.size+1+1+1,0,none⟩),.pointer (some ⟨w.heap.size,0,none⟩),.pointer (some ⟨w.heap.size+1,0,none⟩),.pointer (some ⟨w.heap.size+1+1,0,none⟩)]) (by simp) (by simp [go_sem]) ?_;refine (Zb0 w.heap.size _ _ _ _ _ m).mono ?_;rintro e Z wz ⟨rfl,rfl,b,c⟩;obtain ⟨x,o,r,u,_⟩:=b.cells;simp [Leaves,settle,results,Tryz.results127,go_sem,x,o,r,u,Result.andThen];rw [E.out];exact ⟨rfl,g.trans (d.trans c)⟩
 | true =>
  obtain rfl:=ad rfl;have D:=U.out.1 rfl;clear U
  by_cases M:k=1
  ·subst M
   have N:Hid (mrd (sb s)=(rd1 (sb s) q2).bind fun p=>mEnd (sb s) 1 p.1 p.2):=by unfold Hid;rw [q.out,D];rfl
   clear q D;have W:=B.num;obtain ⟨nn,N1⟩:∃ n,gN (sb s) q2=n:=⟨_,rfl⟩;obtain ⟨p,a2,k2⟩:=nn;rw [N1] at W;simp only at W
   have U:Hid ((k2=true -> rd1 (sb s) q2=some (p,a2))/\(k2=false -> rd1 (sb s) q2=none)):=by
    unfold Hid rd1;rw [N1];cases k2 <;> simp
   clear N1
   go_wp2_with (refine cE rfl 231 _ rfl Y.heap.size rfl 231 #[.slice L s.size i,.pointer (some ⟨P,0,none⟩)] (0,0) _ B.box underlying231 rfl ZnR ?_)
   refine W.mono ?_;rintro e u3 ⟨rfl,q3,ae,K⟩;clear W c0 f0 d3 g3 e0 e1 e2 e3 h0 h1 h2 X B;obtain ⟨_,c1,_,_,_,f1,_,_⟩:=K.mx.cells;have G:=K.set1 p;obtain ⟨_,_,_,d3,_,_,_,g3⟩:=G.mx.cells;have a:=G.set3 k2;clear K G;obtain ⟨e0,e1,e2,e3,h0,h1,h2,X⟩:=a.mx.cells;cases k2 with
   | false =>
    have E:Hid (mrd (sb s)=none):=by unfold Hid;rw [N.out,U.out.2 rfl];rfl
    clear N U ae;go_wp2_with fail;refine ZgB w.heap.size 1 p ⟨#[]⟩ _ _ a.mx.c0 a.mx.c1 a.mx.c2 false a.mx.c3 ?_;intro u35 u36 u37 w9 y z A l d;have g:=a.bel;go_wp2_with fail;have m:MX _ w.heap.size 1 p ⟨#[]⟩ false:=⟨y,z,A,l⟩;refine leaves_cons (f:=162) (args:=#[.pointer (some ⟨w.heap.size+1+1+1,0,none⟩),.pointer (some ⟨w.heap.size,0,none⟩),.pointer (some ⟨w.heap.size+1,0,none⟩),.pointer (some ⟨w.heap.size+1+1,0,none⟩)]) (by simp) (by simp [go_sem]) ?_;refine (Zb0 w.heap.size _ _ _ _ _ m).mono ?_;rintro e Z wz ⟨rfl,rfl,b,c⟩;obtain ⟨x,o,r,u,_⟩:=b.cells;simp [Leaves,settle,results,Tryz.results127,go_sem,x,o,r,u,Result.andThen];rw [E.out];exact ⟨rfl,g.trans (d.trans c)⟩
   | true =>
    obtain rfl:=ae rfl;have HM:Hid (mrd (sb s)=mEnd (sb s) 1 p q3):=by unfold Hid;rw [N.out,U.out.1 rfl];rfl
    clear U N;have R:=a;clear a;have V:=R.text;obtain ⟨tt,T⟩:∃ n,gT (sb s) q3=n:=⟨_,rfl⟩;obtain ⟨t,a3,O⟩:=tt;rw [T] at V;simp only at V;have J:=gT_range (sb s) q3;rw [T] at J;simp only at J
    have E:Hid (mrd (sb s)=if O=true/\a3=(sb s).length then some (1,p,t) else none):=by
     unfold Hid;rw [HM.out];unfold mEnd rt;rw [T];cases O <;> simp
    clear T HM
    go_wp2_with (refine cE rfl 231 _ rfl Y.heap.size rfl 231 #[.slice L s.size i,.pointer (some ⟨P,0,none⟩)] (0,0) _ R.box underlying231 rfl ZnR ?_)
    refine V.mono ?_;rintro e u5 ⟨rfl,q5,aa,K⟩;clear V;obtain ⟨c0,c1,c2,c3,f0,f1,f2,f3⟩:=K.mx.cells;have G:=K.set2 t;obtain ⟨_,_,_,d3,_,_,_,g3⟩:=G.mx.cells;have a:=G.set3 O;clear K;go_wp2_with fail;clear c0 c1 c2 c3 f0 f1 f2 f3 d3 g3 G;cases O with
    | false =>
     have j:Hid (mrd (sb s)=none):=by unfold Hid;rw [E.out];simp
     refine Zhz w.heap.size 1 p t _ _ a.mx.c0 a.mx.c1 a.mx.c2 a.mx.c3 ?_;intro u43 u44 u45 u46 u47 u48 u49 u50 u51 w9 y z A l d;have g:=a.bel;go_wp2_with fail;have m:MX _ w.heap.size 1 p t false:=⟨y,z,A,l⟩;refine leaves_cons (f:=162) (args:=#[.pointer (some ⟨w.heap.size+1+1+1,0,none⟩),.pointer (some ⟨w.heap.size,0,none⟩),.pointer (some ⟨w.heap.size+1,0,none⟩),.pointer (some ⟨w.heap.size+1+1,0,none⟩)]) (by simp) (by simp [go_sem]) ?_;refine (Zb0 w.heap.size _ _ _ _ _ m).mono ?_;rintro e Z wz ⟨rfl,rfl,b,c⟩;obtain ⟨x,o,r,u,_⟩:=b.cells;simp [Leaves,settle,results,Tryz.results127,go_sem,x,o,r,u,Result.andThen];rw [j.out];exact ⟨rfl,g.trans (d.trans c)⟩
    | true =>
     obtain rfl:=aa rfl;refine Zha w.heap.size 1 p t _ _ a.mx.c0 a.mx.c1 a.mx.c2 a.mx.c3 Y.heap.size P _ _ (sb s) a.form a.box a.one (by have:=a.far;omega) ?_;intro u43 u44 u45 u46 u47 u48 u49 u50 u51 w9 y z A l d;have g:=a.bel
     by_cases X:q5=((sb s).length:Int)
     ·have j:Hid (mrd (sb s)=some (1,p,t)):=by unfold Hid;rw [E.out,if_pos ⟨rfl,X⟩]
      have H:decide (((sb s).length:Int) <= q5)=true:=by simp;omega
      rw [H] at l;clear H;go_wp2_with fail;have m:MX _ w.heap.size 1 p t true:=⟨y,z,A,l⟩;refine leaves_cons (f:=162) (args:=#[.pointer (some ⟨w.heap.size+1+1+1,0,none⟩),.pointer (some ⟨w.heap.size,0,none⟩),.pointer (some ⟨w.heap.size+1,0,none⟩),.pointer (some ⟨w.heap.size+1+1,0,none⟩)]) (by simp) (by simp [go_sem]) ?_;refine (Zb0 w.heap.size _ _ _ _ _ m).mono ?_;rintro e Z wz ⟨rfl,rfl,b,c⟩;obtain ⟨x,o,r,u,_⟩:=b.cells;simp [Leaves,settle,results,Tryz.results127,go_sem,x,o,r,u,Result.andThen];rw [j.out];exact ⟨rfl,g.trans (d.trans c)⟩
     ·have j:Hid (mrd (sb s)=none):=by unfold Hid;rw [E.out,if_neg (fun h=>X h.2)]
      have H:decide (((sb s).length:Int) <= q5)=false:=by simp;omega
      rw [H] at l;clear H;go_wp2_with fail;have m:MX _ w.heap.size 1 p t false:=⟨y,z,A,l⟩;refine leaves_cons (f:=162) (args:=#[.pointer (some ⟨w.heap.size+1+1+1,0,none⟩),.pointer (some ⟨w.heap.size,0,none⟩),.pointer (some ⟨w.heap.size+1,0,none⟩),.pointer (some ⟨w.heap.size+1+1,0,none⟩)]) (by simp) (by simp [go_sem]) ?_;refine (Zb0 w.heap.size _ _ _ _ _ m).mono ?_;rintro e Z wz ⟨rfl,rfl,b,c⟩;obtain ⟨x,o,r,u,_⟩:=b.cells;simp [Leaves,settle,results,Tryz.results127,go_sem,x,o,r,u,Result.andThen];rw [j.out];exact ⟨rfl,g.trans (d.trans c)⟩
  ·by_cases ab:k=2
   ·subst ab
    have HM:Hid (mrd (sb s)=mEnd (sb s) 2 0 q2):=by unfold Hid;rw [q.out,D];rfl
    clear q D;have R:=B;have V:=R.text;obtain ⟨tt,T⟩:∃ n,gT (sb s) q2=n:=⟨_,rfl⟩;obtain ⟨t,a3,O⟩:=tt;rw [T] at V;simp only at V;have J:=gT_range (sb s) q2;rw [T] at J;simp only at J
    have E:Hid (mrd (sb s)=if O=true/\a3=(sb s).length then some (2,0,t) else none):=by
     unfold Hid;rw [HM.out];unfold mEnd rt;rw [T];cases O <;> simp
    clear T HM
    go_wp2_with (refine cE rfl 231 _ rfl Y.heap.size rfl 231 #[.slice L s.size i,.pointer (some ⟨P,0,none⟩)] (0,0) _ R.box underlying231 rfl ZnR ?_)
    refine V.mono ?_;rintro e u5 ⟨rfl,q5,aa,K⟩;clear V;obtain ⟨c0,c1,c2,c3,f0,f1,f2,f3⟩:=K.mx.cells;have G:=K.set2 t;obtain ⟨_,_,_,d3,_,_,_,g3⟩:=G.mx.cells;have a:=G.set3 O;clear K;go_wp2_with fail;clear c0 c1 c2 c3 f0 f1 f2 f3 d3 g3 G;cases O with
    | false =>
     have j:Hid (mrd (sb s)=none):=by unfold Hid;rw [E.out];simp
     refine Zhz w.heap.size 2 0 t _ _ a.mx.c0 a.mx.c1 a.mx.c2 a.mx.c3 ?_;intro u43 u44 u45 u46 u47 u48 u49 u50 u51 w9 y z A l d;have g:=a.bel;go_wp2_with fail;have m:MX _ w.heap.size 2 0 t false:=⟨y,z,A,l⟩;refine leaves_cons (f:=162) (args:=#[.pointer (some ⟨w.heap.size+1+1+1,0,none⟩),.pointer (some ⟨w.heap.size,0,none⟩),.pointer (some ⟨w.heap.size+1,0,none⟩),.pointer (some ⟨w.heap.size+1+1,0,none⟩)]) (by simp) (by simp [go_sem]) ?_;refine (Zb0 w.heap.size _ _ _ _ _ m).mono ?_;rintro e Z wz ⟨rfl,rfl,b,c⟩;obtain ⟨x,o,r,u,_⟩:=b.cells;simp [Leaves,settle,results,Tryz.results127,go_sem,x,o,r,u,Result.andThen];rw [j.out];exact ⟨rfl,g.trans (d.trans c)⟩
    | true =>
     obtain rfl:=aa rfl;refine Zha w.heap.size 2 0 t _ _ a.mx.c0 a.mx.c1 a.mx.c2 a.mx.c3 Y.heap.size P _ _ (sb s) a.form a.box a.one (by have:=a.far;omega) ?_;intro u43 u44 u45 u46 u47 u48 u49 u50 u51 w9 y z A l d;have g:=a.bel
     by_cases X:q5=((sb s).length:Int)
     ·have j:Hid (mrd (sb s)=some (2,0,t)):=by unfold Hid;rw [E.out,if_pos ⟨rfl,X⟩]
      have H:decide (((sb s).length:Int) <= q5)=true:=by simp;omega
      rw [H] at l;clear H;go_wp2_with fail;have m:MX _ w.heap.size 2 0 t true:=⟨y,z,A,l⟩;refine leaves_cons (f:=162) (args:=#[.pointer (some ⟨w.heap.size+1+1+1,0,none⟩),.pointer (some ⟨w.heap.size,0,none⟩),.pointer (some ⟨w.heap.size+1,0,none⟩),.pointer (some ⟨w.heap.size+1+1,0,none⟩)]) (by simp) (by simp [go_sem]) ?_;refine (Zb0 w.heap.size _ _ _ _ _ m).mono ?_;rintro e Z wz ⟨rfl,rfl,b,c⟩;obtain ⟨x,o,r,u,_⟩:=b.cells;simp [Leaves,settle,results,Tryz.results127,go_sem,x,o,r,u,Result.andThen];rw [j.out];exact ⟨rfl,g.trans (d.trans c)⟩
     ·have j:Hid (mrd (sb s)=none):=by unfold Hid;rw [E.out,if_neg (fun h=>X h.2)]
      have H:decide (((sb s).length:Int) <= q5)=false:=by simp;omega
      rw [H] at l;clear H;go_wp2_with fail;have m:MX _ w.heap.size 2 0 t false:=⟨y,z,A,l⟩;refine leaves_cons (f:=162) (args:=#[.pointer (some ⟨w.heap.size+1+1+1,0,none⟩),.pointer (some ⟨w.heap.size,0,none⟩),.pointer (some ⟨w.heap.size+1,0,none⟩),.pointer (some ⟨w.heap.size+1+1,0,none⟩)]) (by simp) (by simp [go_sem]) ?_;refine (Zb0 w.heap.size _ _ _ _ _ m).mono ?_;rintro e Z wz ⟨rfl,rfl,b,c⟩;obtain ⟨x,o,r,u,_⟩:=b.cells;simp [Leaves,settle,results,Tryz.results127,go_sem,x,o,r,u,Result.andThen];rw [j.out];exact ⟨rfl,g.trans (d.trans c)⟩
   ·have E:Hid (mrd (sb s)=none):=by unfold Hid;rw [q.out,D];simp [M,ab]
    clear q D;have F:(k == 1)=false:=by simp [M]
    have aj:(k != 1)=true:=by simp [M]
    have ai:(k != 2)=true:=by simp [ab]
    go_wp2_with fail;refine ZgB w.heap.size k 0 ⟨#[]⟩ _ _ B.mx.c0 B.mx.c1 B.mx.c2 true B.mx.c3 ?_;intro u35 u36 u37 w9 y z A l d;have g:=B.bel;go_wp2_with fail;have m:MX _ w.heap.size k 0 ⟨#[]⟩ false:=⟨y,z,A,l⟩;refine leaves_cons (f:=162) (args:=#[.pointer (some ⟨w.heap.size+1+1+1,0,none⟩),.pointer (some ⟨w.heap.size,0,none⟩),.pointer (some ⟨w.heap.size+1,0,none⟩),.pointer (some ⟨w.heap.size+1+1,0,none⟩)]) (by simp) (by simp [go_sem]) ?_;refine (Zb0 w.heap.size _ _ _ _ _ m).mono ?_;rintro e Z wz ⟨rfl,rfl,b,c⟩;obtain ⟨x,o,r,u,_⟩:=b.cells;simp [Leaves,settle,results,Tryz.results127,go_sem,x,o,r,u,Result.andThen];rw [E.out];exact ⟨rfl,g.trans (d.trans c)⟩
def tsL (zs:List Int):Nat -> List ByteArray -> Int -> Bool -> List ByteArray × Int × Bool
 | 0,xs,a,ok=>(xs,a,ok)
 | m+1,xs,a,ok=>if ok then tsL zs m (xs ++ [(txt8 zs a true).1]) (txt8 zs a true).2.1 (txt8 zs a true).2.2 else (xs,a,false)
theorem ZcU (zs:List Int)(b:List ByteArray)(a:Int):∀ m:Nat,tsL zs m b a false=(b,a,false)
 | 0=>rfl
 | _+1=>rfl
theorem ZlU (zs:List Int):∀ (m:Nat) (c:List ByteArray) (a:Int),(∀ q,rdTs zs m a=some q -> tsL zs m c a true=(c ++ q.1,q.2,true))/\(rdTs zs m a=none -> (tsL zs m c a true).2.2=false)
 | 0,c,a=>⟨fun q h=>by cases h;simp [tsL],fun h=>by cases h⟩
 | m+1,c,a=>by
  rw [rdTs,tsL,if_pos rfl,Zg5];cases h:rt zs a with
  | none =>
   simp only [Option.bind_none];refine ⟨fun q b=>(by cases b),fun _=>?_⟩;rw [ZcU]
  | some p =>
   simp only [Option.bind_some];obtain ⟨e,f⟩:=ZlU zs m (c ++ [p.1]) p.2;cases d:rdTs zs m p.2 with
   | none=>exact ⟨fun q b=>by (simp at b),fun _=>f d⟩
   | some t =>
    rw [e t d];refine ⟨fun q b=>?_,fun b=>by (simp at b)⟩;simp only [Option.map_some,Option.some.injEq] at b;subst b;simp
theorem Zf4 (n:Nat):1 <= (encI (n:Int)).length:=by
 rw [Zcu _ (by omega),enc];split <;> simp
theorem Zeq {zs:List Int}{c:Int}(i:∀ z ∈ zs,0 <= z/\z <= 255)(j:0 <= c)(f:c <= zs.length):0 <= (txt8 zs c true).2.1/\(txt8 zs c true).2.1 <= zs.length/\((txt8 zs c true).2.2=true -> c < (txt8 zs c true).2.1)/\(txt8 zs c true).1.size <= zs.length:=by
 unfold txt8;cases d:(gT zs c).2.2 with
 | false =>
  refine ⟨j,f,?_,?_⟩
  ·intro h
   cases h
  ·show ByteArray.size ⟨#[]⟩ <= _
   simp [ByteArray.size]
 | true =>
  have b:=gT_range zs c;have e:=Zjv (zs:=zs) (a:=c) (next:=(gT zs c).2.1) (s:=(gT zs c).1) i (by rw [<- d]);refine ⟨b.1,b.2,fun _=>?_,ZcQ zs c⟩;have g:=e.2.1;rw [Zc4] at g;have k:=Zf4 (gT zs c).1.size
  show c < (gT zs c).2.1
  omega
theorem ZeE {zs:List Int}{a:Int}{ok:Bool}(b:0 <= a)(c:a <= zs.length):0 <= (num8 zs a ok).1/\(num8 zs a ok).1 <= 9223372036854775807/\0 <= (num8 zs a ok).2.1/\(num8 zs a ok).2.1 <= zs.length:=by
 unfold num8;cases e:(ok && (gN zs a).2.2) with
 | false=>exact ⟨by simp,by simp,b,c⟩
 | true =>
  have d:(gN zs a).2.2=true:=by cases ok <;> simp_all
  have:=Zbc (zs:=zs) (a:=a) (p:=((gN zs a).1,(gN zs a).2.1)) (by unfold rd1;rw [d];rfl);exact this
theorem ZeG (b:Nat)(v:Value)(zs:List Int)(a:Int)(ok:Bool)(K w:World)(R:Row K v zs)(hb:Below K.heap.size K w)(L:K.heap.size <= b)(h:C8 w b v a ok)(ha:0 <= a)(hl:a <= zs.length)(hz:∀ z ∈ zs,0 <= z/\z <= 255)(aj:zs.length <= 1048576) :
  Calls prog 116 #[.pointer (some ⟨b,0,none⟩)] w fun e w'=>∃ (v':Value) (ts:List ByteArray) (c:Int) (k:Bool),tsL zs (num8 zs a ok).1.toNat [] (num8 zs a ok).2.1 (num8 zs a ok).2.2=(ts,c,k)/\e=.returned v'/\(0 <= c/\c <= zs.length/\ts.length <= zs.length+1)/\C8 w' b v c k/\w'.ownsRow w.heap.size 9 1 v' ts.length (stv ts)/\w.grownBy w' (some b):=by
 have lb:b < w.heap.size:=(bl h);obtain ⟨i0,hi,ad,ag,ac⟩:=info_parts ZnD;have H:Below w.heap.size w (w.alloc (Obj.cells #[] 9)):=(cj _ _).alloc (ce _) _;have oE:=Zcj w 9 1 w.heap.size (ce _);have hE:C8 (w.alloc (Obj.cells #[] 9)) b v a ok:=Zaa h H;have d:=hb.trans (H.mono hb.size);have X:=cF w (Obj.cells #[] 9) (some b);have HN:=Zb9 b v zs a ok _ (R.below d) hE (by omega) (by omega);have hm:=ZeE (zs:=zs) (a:=a) (ok:=ok) ha hl;obtain ⟨nn,N⟩:∃ n,Hid (num8 zs a ok=n):=⟨_,rfl⟩;obtain ⟨n,Z,Y⟩:=nn;rw [N.out] at HN hm ⊢;simp only at HN hm ⊢;clear N
 go_enter func116,ntmps116
 go_wp2_with fail;generalize w.alloc (Obj.cells #[] 9)=wE at *;refine HN.mono ?_;rintro e w1 ⟨rfl,h1,U⟩;have C:=Zch oE lb U;replace X:=ZaE X U (fun k hk=>Or.inl (by cases hk;rfl));replace d:=d.grown U d.size (fun k hk=>by cases hk;exact L);clear HN U oE hE H h hb;obtain ⟨m1,m2,m3,m4⟩:=hm;go_wp2_with fail
 go_loopw [3,5] (fun vo i wr=>∃ (k:Nat) (ts:List ByteArray) (c:Int) (I:Bool),(k:Int) <= n/\i=.int .i64 k/\Hid (tsL zs n.toNat [] Z Y=tsL zs (n.toNat - k) ts c I)/\(I=true -> (ts.length:Int) <= c)/\ts.length <= zs.length+1/\(0 <= c/\c <= zs.length)/\C8 wr b v c I/\wr.ownsRow w.heap.size 9 1 vo ts.length (stv ts)/\Below K.heap.size K wr/\w.grownBy wr (some b)) (fun _ i _=>n.toNat - (intOf i).toNat)
 case atStart=>exact ⟨0,[],Z,Y,by omega,rfl,rfl,fun _=>by simpa using m3,by simp,⟨m3,m4⟩,h1,C,d,X⟩
 case round =>
  clear h1 C d X;obtain ⟨k,ts,c,I,hk,rfl,E,O,r,⟨p,q⟩,A,l,d,g⟩:=hrel;have ck:wr.cell? ⟨b,2,none⟩=some (.bool I):=cd _ _ 2 _ _ _ A
  by_cases ai:(k:Int) < n
  ·cases I with
   | false =>
    have HF:Hid (tsL zs n.toNat [] Z Y=(ts,c,false)):=by unfold Hid;rw [E.out,ZcU]
    go_wp2;go_ret;exact ⟨u3,ts,c,false,HF.out,rfl,⟨p,q,r⟩,A,l,g⟩
   | true =>
    have ah:=O rfl
    have HS:Hid (tsL zs n.toNat [] Z Y=tsL zs (n.toNat - (k+1)) (ts ++ [(txt8 zs c true).1]) (txt8 zs c true).2.1 (txt8 zs c true).2.2):=by
     unfold Hid;rw [E.out,show n.toNat - k=(n.toNat - (k+1))+1 by omega];rfl
    have J:=Zeq (zs:=zs) hz p q;have V:=ZcX b v zs c true wr (R.below d) A (by omega) (by omega);obtain ⟨tt,S⟩:∃ t,Hid (txt8 zs c true=t):=⟨_,rfl⟩;obtain ⟨s,tn,tk⟩:=tt;rw [S.out] at V HS J;simp only at V HS J;obtain ⟨v1,v2,v3,v4⟩:=J;clear S E;go_wp2_with fail;refine V.mono ?_;rintro e D ⟨rfl,M,W⟩;have B:=Zch l lb W;have T:=ZaE g W (fun j y=>Or.inl (by cases y;rfl));have f:=d.grown W d.size (fun j y=>by cases y;exact L);have ab:s.size <= maxLen:=by unfold maxLen;omega
    have S1:=StRow.one9 D s ab;have x:Below D.heap.size D (D.alloc (Obj.cells #[.string s] 9)):=(cj _ _).alloc (ce _) _;have Q:=Zad B x;have u:C8 (D.alloc (Obj.cells #[.string s] 9)) b v tn tk:=Zaa M x;have F:=ZaE T (cF D (Obj.cells #[.string s] 9) none) (fun j y=>by cases y);have m:=f.trans (x.mono f.size);have P:w.heap.size <= (D.alloc (Obj.cells #[.string s] 9)).heap.size:=F.size;clear l B T f d g W V A M x ck O
    go_wp2_with (at_builtin;refine ZaB _ rfl _ _ 80 rfl w.heap.size 9 i0 _ 1 16 underlying80 hi ad ag ac rfl (by decide) _ ts.length _ rfl Q (some ⟨D.heap.size,0,none⟩) 1 1 (stv [s]) rfl (by simp [stv]) S1.nilcap S1.cells (Zjw [s]) (by unfold maxLen;omega) (by omega) P ?_)
    intro v5 w5 O5 o;have af:C8 w5 b v tn tk:=(o.block _ (Zao u) (fun e=>ZaI Q u (by decide) e.symm)).trans u;have aa:=ZaE F o (fun j y=>Or.inr (Q.lt j y).1);have G:=m.grown o m.size (fun j y=>by have:=(Q.lt j y).1;omega);have O6:w5.ownsRow w.heap.size 9 1 v5 (ts ++ [s]).length (stv (ts ++ [s])):=by rw [Zed,List.length_append];exact O5
    clear O5 o Q u F m S1 P;go_wp2
    go_roundw
    case rel=>exact ⟨k+1,ts ++ [s],tn,tk,by omega,by go_num,HS,fun h=>by have:=v3 h;simp;omega,by simp;omega,⟨v1,v2⟩,af,O6,G,aa⟩
    case measure=>simp [intOf];omega
  ·have ae:n.toNat - k=0:=by omega
   rw [ae] at E;cases I with
   | false =>
    go_wp2;go_ret
    first
     | exact ⟨u3,ts,c,false,E.out,rfl,⟨p,q,r⟩,A,l,g⟩
     | exact ⟨u3,ts,c,Or.inl ⟨E.out,rfl,⟨p,q,r⟩,A,l,g⟩⟩
   | true =>
    go_wp2;go_ret
    first
     | exact ⟨u3,ts,c,true,E.out,rfl,⟨p,q,r⟩,A,l,g⟩
     | exact ⟨u3,ts,c,Or.inr ⟨E.out,rfl,⟨p,q,r⟩,A,l,g⟩⟩
end Go.Proofs.YtkpfangkfknhoaaGreatDoor
