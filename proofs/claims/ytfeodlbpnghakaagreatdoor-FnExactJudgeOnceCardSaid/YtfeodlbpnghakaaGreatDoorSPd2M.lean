/-
  Texts that stood by themselves, laid into one.
-/
import Derived.Test.YtfeodlbpnghakaaGreatDoorIMlRgM
import Derived.Defers
import Derived.Recover
import Derived.Test.YtfeodlbpnghakaaGreatDoorS12tM
import Derived.Test.YtfeodlbpnghakaaGreatDoorSR8M
import Derived.Test.YtfeodlbpnghakaaGreatDoorSGTextM
import Derived.Test.YtfeodlbpnghakaaGreatDoorMRgM
import Derived.Test.YtfeodlbpnghakaaGreatDoorS8RdM
/-
  The contract of impl.MailRead, and of the function that it defers. No condition but bounds.
-/
set_option maxRecDepth 100000
set_option maxHeartbeats 12800000
namespace Go.Proofs.YtfeodlbpnghakaaGreatDoor
open Go.RowKit
structure MX (w:World)(b:Nat)(k p:Int)(t:ByteArray)(ok:Bool):Prop where
 c0:w.heap[b]? = some (.cells #[.int .i64 k] 3 (0,0))
 c1:w.heap[b+1]? = some (.cells #[.int .i64 p] 3 (0,0))
 c2:w.heap[b+1+1]? = some (.cells #[.string t] 9 (0,0))
 c3:w.heap[b+1+1+1]? = some (.cells #[.bool ok] 4 (0,0))
theorem MX.lt {w:World}{b:Nat}{k p:Int}{t:ByteArray}{ok:Bool}(h:MX w b k p t ok):b+1+1+1 < w.heap.size:=Zao h.c3
theorem MX.on {w c:World}{b:Nat}{k p:Int}{t:ByteArray}{ok:Bool}(h:MX w b k p t ok)(a:∀ j,b <= j -> j <= b+1+1+1 -> c.heap[j]? = w.heap[j]?):MX c b k p t ok :=
 ⟨(a _ (by omega) (by omega)).trans h.c0,(a _ (by omega) (by omega)).trans h.c1,(a _ (by omega) (by omega)).trans h.c2,(a _ (by omega) (by omega)).trans h.c3⟩
theorem MX.below {w a:World}{b:Nat}{k p:Int}{t:ByteArray}{ok:Bool}(h:MX w b k p t ok)(c:Below w.heap.size w a):MX a b k p t ok:=h.on fun j _ d=>c.block j (by have:=h.lt;omega)
theorem MX.set0 {w:World}{b:Nat}{k p:Int}{t:ByteArray}{ok:Bool}(h:MX w b k p t ok)(a:Int):MX (w.setCell ⟨b,0,none⟩ (.int .i64 a)) b a p t ok :=
 ⟨heap_setCell_same w b 0 _ _ _ h.c0,(heap_setCell_other w ⟨b,0,none⟩ _ _ (by show b+1 ≠ b;omega)).trans h.c1,(heap_setCell_other w ⟨b,0,none⟩ _ _ (by show b+1+1 ≠ b;omega)).trans h.c2,(heap_setCell_other w ⟨b,0,none⟩ _ _ (by show b+1+1+1 ≠ b;omega)).trans h.c3⟩
theorem MX.set1 {w:World}{b:Nat}{k p:Int}{t:ByteArray}{ok:Bool}(h:MX w b k p t ok)(a:Int):MX (w.setCell ⟨b+1,0,none⟩ (.int .i64 a)) b k a t ok :=
 ⟨(heap_setCell_other w ⟨b+1,0,none⟩ _ _ (by show b ≠ b+1;omega)).trans h.c0,heap_setCell_same w (b+1) 0 _ _ _ h.c1,(heap_setCell_other w ⟨b+1,0,none⟩ _ _ (by show b+1+1 ≠ b+1;omega)).trans h.c2,(heap_setCell_other w ⟨b+1,0,none⟩ _ _ (by show b+1+1+1 ≠ b+1;omega)).trans h.c3⟩
theorem MX.set2 {w:World}{b:Nat}{k p:Int}{t:ByteArray}{ok:Bool}(h:MX w b k p t ok)(a:ByteArray):MX (w.setCell ⟨b+1+1,0,none⟩ (.string a)) b k p a ok :=
 ⟨(heap_setCell_other w ⟨b+1+1,0,none⟩ _ _ (by show b ≠ b+1+1;omega)).trans h.c0,(heap_setCell_other w ⟨b+1+1,0,none⟩ _ _ (by show b+1 ≠ b+1+1;omega)).trans h.c1,heap_setCell_same w (b+1+1) 0 _ _ _ h.c2,(heap_setCell_other w ⟨b+1+1,0,none⟩ _ _ (by show b+1+1+1 ≠ b+1+1;omega)).trans h.c3⟩
theorem MX.set3 {w:World}{b:Nat}{k p:Int}{t:ByteArray}{ok:Bool}(h:MX w b k p t ok)(a:Bool):MX (w.setCell ⟨b+1+1+1,0,none⟩ (.bool a)) b k p t a :=
 ⟨(heap_setCell_other w ⟨b+1+1+1,0,none⟩ _ _ (by show b ≠ b+1+1+1;omega)).trans h.c0,(heap_setCell_other w ⟨b+1+1+1,0,none⟩ _ _ (by show b+1 ≠ b+1+1+1;omega)).trans h.c1,(heap_setCell_other w ⟨b+1+1+1,0,none⟩ _ _ (by show b+1+1 ≠ b+1+1+1;omega)).trans h.c2,heap_setCell_same w (b+1+1+1) 0 _ _ _ h.c3⟩
theorem MX.cells {w:World}{b:Nat}{k p:Int}{t:ByteArray}{ok:Bool}(h:MX w b k p t ok) :
  w.cell? ⟨b,0,none⟩=some (.int .i64 k)/\w.cell? ⟨b+1,0,none⟩=some (.int .i64 p)/\w.cell? ⟨b+1+1,0,none⟩=some (.string t)/\w.cell? ⟨b+1+1+1,0,none⟩=some (.bool ok) /\
   w.frozen? ⟨b,0,none⟩=false/\w.frozen? ⟨b+1,0,none⟩=false/\w.frozen? ⟨b+1+1,0,none⟩=false/\w.frozen? ⟨b+1+1+1,0,none⟩=false :=
 ⟨cell_of_row w _ 0 _ _ _ h.c0,cell_of_row w _ 0 _ _ _ h.c1,cell_of_row w _ 0 _ _ _ h.c2,cell_of_row w _ 0 _ _ _ h.c3,frozen_of_row w _ 0 _ _ h.c0,frozen_of_row w _ 0 _ _ h.c1,frozen_of_row w _ 0 _ _ h.c2,frozen_of_row w _ 0 _ _ h.c3⟩
theorem ZbW (b:Nat)(k p:Int)(t:ByteArray)(ok:Bool)(w:World)(X:MX w b k p t ok) :
  CallsD Tryz.prog 159 #[.pointer (some ⟨b+1+1+1,0,none⟩),.pointer (some ⟨b,0,none⟩),.pointer (some ⟨b+1,0,none⟩),.pointer (some ⟨b+1+1,0,none⟩)] .returning w fun e f d =>
   f=.returning/\(e=.returned (.tuple #[])/\MX d b (if ok then k else 0) (if ok then p else 0) (if ok then t else ⟨#[]⟩) ok/\Below b w d):=by
 obtain ⟨c0,c1,c2,c3,i,r,q,j⟩:=X.cells
 have a:=X.set0 0
 have c:=a.set1 0
 have hY:=c.set2 ⟨#[]⟩
 obtain ⟨_,l,_,_,_,m,_,_⟩:=a.cells
 obtain ⟨_,_,o,_,_,_,n,_⟩:=c.cells
 have g:Below b w (((w.setCell ⟨b,0,none⟩ (.int .i64 0)).setCell ⟨b+1,0,none⟩ (.int .i64 0)).setCell ⟨b+1+1,0,none⟩ (.string ⟨#[]⟩)) :=
  (((Below.refl _ _).setCell (p:=⟨b,0,none⟩) (Nat.le_refl _) _).setCell (p:=⟨b+1,0,none⟩) (by show b <= b+1;omega) _).setCell (p:=⟨b+1+1,0,none⟩) (by show b <= b+1+1;omega) _
 go_enter_d Tryz.func159,Tryz.ntmps159
 cases ok with
 | true =>
  go_wp2
  go_end0
  exact ⟨rfl,X,Below.refl _ _⟩
 | false =>
  go_wp2
  go_end0
  exact ⟨rfl,hY,g⟩
theorem Row.set1 {w:World}{v:Value}{zs:List Int}{b:Nat}{x:Value}{t:TypeId}(R:Row w v zs)(h:w.heap[b]? = some (.cells #[x] t (0,0)))(q:∀ z,x ≠ .int .u8 z)(y:Value):Row (w.setCell ⟨b,0,none⟩ y) v zs:=by
 obtain ⟨s,j,rfl,p,m,k,a⟩:=R
 refine ⟨s,j,rfl,p,m,k,fun c=>?_⟩
 obtain ⟨g,o,rfl,r,d⟩:=a c
 have l:0 < zs.length:=List.length_pos_iff.2 c
 have f:g ≠ b:=by
  rintro rfl
  have e:=d 0 l
  rw [cell_of_row w g (o+0) _ _ _ h] at e
  cases o with
  | zero=>simp at e;exact q _ e
  | succ n=>simp at e
 refine ⟨g,o,rfl,by simpa using r,fun i hi=>?_⟩
 rw [World.cell?_of_block (w:=w) (heap_setCell_other w ⟨b,0,none⟩ g y f)]
 exact d i hi
theorem Zct {V u:World}{n b:Nat}{x:Value}{t:TypeId}(h:Below n V u)(c:V.heap[b]? = some (.cells #[x] t (0,0)))(d:b < n)(y:Value):Below n (V.setCell ⟨b,0,none⟩ y) (u.setCell ⟨b,0,none⟩ y):=by
 have e:u.heap[b]? = some (.cells #[x] t (0,0)):=(h.block b d).trans c
 refine ⟨h.os,h.tape,h.output,by simpa using h.size,fun k f=>?_⟩
 by_cases a:k=b
 ·subst a
  rw [heap_setCell_same u k 0 _ _ y e,heap_setCell_same V k 0 _ _ y c]
 ·rw [heap_setCell_other u ⟨b,0,none⟩ k y a,heap_setCell_other V ⟨b,0,none⟩ k y a]
  exact h.block k f
structure RS (w u:World)(v:Value)(zs:List Int)(P rb:Nat)(a k p:Int)(t:ByteArray)(ok:Bool):Prop where
 sh:∃ V,Row V v zs/\Below V.heap.size V u/\V.heap.size <= P/\MX V w.heap.size k p t ok
 box:u.heap[rb]? = some (.cells #[v,.pointer (some ⟨P,0,none⟩)] 235 (0,0))
 one:One u P a
 bel:Below w.heap.size w u
 ne:P < rb
theorem RS.mx {w u:World}{v:Value}{zs:List Int}{P b:Nat}{a k p:Int}{t:ByteArray}{ok:Bool}(R:RS w u v zs P b a k p t ok):MX u w.heap.size k p t ok:=by
 obtain ⟨V,_,c,_,d⟩:=R.sh
 exact d.below c
theorem RS.far {w u:World}{v:Value}{zs:List Int}{P b:Nat}{a k p:Int}{t:ByteArray}{ok:Bool}(R:RS w u v zs P b a k p t ok):w.heap.size+1+1+1 < P/\P < b:=by
 obtain ⟨V,_,_,d,c⟩:=R.sh
 have:=c.lt
 exact ⟨by omega,R.ne⟩
theorem RS.form {w u:World}{v:Value}{zs:List Int}{P d:Nat}{a k p:Int}{t:ByteArray}{ok:Bool}(R:RS w u v zs P d a k p t ok):∃ c b,v=.slice c zs.length b:=by
 obtain ⟨V,⟨c,b,h,_⟩,_⟩:=R.sh
 exact ⟨c,b,h⟩
theorem RS.grown {w u b:World}{v:Value}{zs:List Int}{P h:Nat}{a g k p:Int}{t:ByteArray}{ok:Bool}(R:RS w u v zs P h a k p t ok)(c:u.grownBy b (some P))(i:One b P g):RS w b v zs P h g k p t ok:=by
 obtain ⟨V,d,f,j,l⟩:=R.sh
 have m:=R.far
 exact ⟨⟨V,d,f.grown c f.size (fun k e=>by cases e;omega),j,l⟩,(c.block _ (Zao R.box) (by simp;omega)).trans R.box,i,R.bel.grown c R.bel.size (fun k e=>by cases e;omega),R.ne⟩
theorem RS.set0 {w u:World}{v:Value}{zs:List Int}{P b:Nat}{a k p:Int}{t:ByteArray}{ok:Bool}(R:RS w u v zs P b a k p t ok)(d:Int):RS w (u.setCell ⟨w.heap.size,0,none⟩ (.int .i64 d)) v zs P b a d p t ok:=by
 obtain ⟨V,e,f,g,c⟩:=R.sh
 have i:=R.far
 have j:=c.lt
 exact ⟨⟨V.setCell ⟨w.heap.size,0,none⟩ (.int .i64 d),e.set1 c.c0 (by intro z h;cases h) _,by rw [World.size_setCell];exact Zct f c.c0 (by omega) _,by rw [World.size_setCell];exact g,c.set0 _⟩,
  (heap_setCell_other u ⟨w.heap.size,0,none⟩ b _ (by show b ≠ w.heap.size;omega)).trans R.box,(heap_setCell_other u ⟨w.heap.size,0,none⟩ P _ (by show P ≠ w.heap.size;omega)).trans R.one,R.bel.setCell (p:=⟨w.heap.size,0,none⟩) (by show w.heap.size <= w.heap.size;omega) _,R.ne⟩
theorem RS.set1 {w u:World}{v:Value}{zs:List Int}{P b:Nat}{a k p:Int}{t:ByteArray}{ok:Bool}(R:RS w u v zs P b a k p t ok)(d:Int):RS w (u.setCell ⟨w.heap.size+1,0,none⟩ (.int .i64 d)) v zs P b a k d t ok:=by
 obtain ⟨V,e,f,g,c⟩:=R.sh
 have i:=R.far
 have j:=c.lt
 exact ⟨⟨V.setCell ⟨w.heap.size+1,0,none⟩ (.int .i64 d),e.set1 c.c1 (by intro z h;cases h) _,by rw [World.size_setCell];exact Zct f c.c1 (by omega) _,by rw [World.size_setCell];exact g,c.set1 _⟩,
  (heap_setCell_other u ⟨w.heap.size+1,0,none⟩ b _ (by show b ≠ w.heap.size+1;omega)).trans R.box,(heap_setCell_other u ⟨w.heap.size+1,0,none⟩ P _ (by show P ≠ w.heap.size+1;omega)).trans R.one,R.bel.setCell (p:=⟨w.heap.size+1,0,none⟩) (by show w.heap.size <= w.heap.size+1;omega) _,R.ne⟩
theorem RS.set2 {w u:World}{v:Value}{zs:List Int}{P b:Nat}{a k p:Int}{t:ByteArray}{ok:Bool}(R:RS w u v zs P b a k p t ok)(d:ByteArray):RS w (u.setCell ⟨w.heap.size+1+1,0,none⟩ (.string d)) v zs P b a k p d ok:=by
 obtain ⟨V,e,f,g,c⟩:=R.sh
 have i:=R.far
 have j:=c.lt
 exact ⟨⟨V.setCell ⟨w.heap.size+1+1,0,none⟩ (.string d),e.set1 c.c2 (by intro z h;cases h) _,by rw [World.size_setCell];exact Zct f c.c2 (by omega) _,by rw [World.size_setCell];exact g,c.set2 _⟩,
  (heap_setCell_other u ⟨w.heap.size+1+1,0,none⟩ b _ (by show b ≠ w.heap.size+1+1;omega)).trans R.box,(heap_setCell_other u ⟨w.heap.size+1+1,0,none⟩ P _ (by show P ≠ w.heap.size+1+1;omega)).trans R.one,R.bel.setCell (p:=⟨w.heap.size+1+1,0,none⟩) (by show w.heap.size <= w.heap.size+1+1;omega) _,R.ne⟩
theorem RS.set3 {w u:World}{v:Value}{zs:List Int}{P c:Nat}{a k p:Int}{t:ByteArray}{ok:Bool}(R:RS w u v zs P c a k p t ok)(b:Bool):RS w (u.setCell ⟨w.heap.size+1+1+1,0,none⟩ (.bool b)) v zs P c a k p t b:=by
 obtain ⟨V,e,f,g,d⟩:=R.sh
 have i:=R.far
 have j:=d.lt
 exact ⟨⟨V.setCell ⟨w.heap.size+1+1+1,0,none⟩ (.bool b),e.set1 d.c3 (by intro z h;cases h) _,by rw [World.size_setCell];exact Zct f d.c3 (by omega) _,by rw [World.size_setCell];exact g,d.set3 _⟩,
  (heap_setCell_other u ⟨w.heap.size+1+1+1,0,none⟩ c _ (by show c ≠ w.heap.size+1+1+1;omega)).trans R.box,(heap_setCell_other u ⟨w.heap.size+1+1+1,0,none⟩ P _ (by show P ≠ w.heap.size+1+1+1;omega)).trans R.one,R.bel.setCell (p:=⟨w.heap.size+1+1+1,0,none⟩) (by show w.heap.size <= w.heap.size+1+1+1;omega) _,R.ne⟩
theorem RS.num {w u:World}{v:Value}{zs:List Int}{P c:Nat}{a k p:Int}{t:ByteArray}{ok:Bool}(R:RS w u v zs P c a k p t ok) :
  Calls Tryz.prog 161 #[.agg #[v,.pointer (some ⟨P,0,none⟩)]] u fun e b=>e=.returned (.tuple #[.int .i64 (gN zs a).1,.bool (gN zs a).2.2])/\∃ q,((gN zs a).2.2=true -> q=(gN zs a).2.1)/\RS w b v zs P c q k p t ok:=by
 obtain ⟨V,d,g,h,l⟩:=id R.sh
 refine (ZdG v zs P a V u d g h R.one).mono ?_
 rintro e b ⟨rfl,⟨q,i,f⟩,j⟩
 exact ⟨rfl,q,f,R.grown j i⟩
theorem RS.text {w u:World}{v:Value}{zs:List Int}{P c:Nat}{a k p:Int}{t:ByteArray}{ok:Bool}(R:RS w u v zs P c a k p t ok) :
  Calls Tryz.prog 162 #[.agg #[v,.pointer (some ⟨P,0,none⟩)]] u fun e b=>e=.returned (.tuple #[.string (gT zs a).1,.bool (gT zs a).2.2])/\∃ q,((gT zs a).2.2=true -> q=(gT zs a).2.1)/\RS w b v zs P c q k p t ok:=by
 obtain ⟨V,d,g,h,l⟩:=id R.sh
 refine (Zde v zs P a V u d g h R.one).mono ?_
 rintro e b ⟨rfl,⟨q,i,f⟩,j⟩
 exact ⟨rfl,q,f,R.grown j i⟩
theorem ZhU (s:ByteArray)(w:World)(hs:s.size <= 1048576) :
  Calls Tryz.prog 130 #[.string s] w fun e w'=>e=.returned (mrA (mrd (sb s)))/\Below w.heap.size w w':=by
 have af:=ZaJ s
 have ah:∀ (fn:Fn) (first i:Array Value) (w:World),(Instr.makeFunc fn first i).run Tryz.prog w=.ok (.func fn first i) w:=fun _ _ _ _=>rfl
 obtain ⟨W0,H⟩:∃ W0,Hid ((((w.alloc (Obj.cells #[.int .i64 0] 3)).alloc (Obj.cells #[.int .i64 0] 3)).alloc (Obj.cells #[.string ⟨#[]⟩] 9)).alloc (Obj.cells #[.bool false] 4)=W0):=⟨_,rfl⟩
 have ac:Below w.heap.size w W0:=by
  rw [<- H.out]
  exact ((((Below.refl _ _).alloc (Nat.le_refl _) _).alloc (by simp) _).alloc (by simp;omega) _).alloc (by simp;omega) _
 have ag:W0.heap.size=w.heap.size+4:=by rw [<- H.out];simp
 have X0:MX W0 w.heap.size 0 0 ⟨#[]⟩ false:=by
  rw [<- H.out]
  refine ⟨?_,?_,?_,?_⟩
  ·rw [heap_alloc_old _ _ (by simp;omega),heap_alloc_old _ _ (by simp;omega),heap_alloc_old _ _ (by simp)];exact heap_alloc_new _ _
  ·rw [heap_alloc_old _ _ (by simp),heap_alloc_old _ _ (by simp)];exact (by simpa using heap_alloc_new (w.alloc (Obj.cells #[.int .i64 0] 3)) (Obj.cells #[.int .i64 0] 3))
  ·rw [heap_alloc_old _ _ (by simp)];exact (by simpa using heap_alloc_new ((w.alloc (Obj.cells #[.int .i64 0] 3)).alloc (Obj.cells #[.int .i64 0] 3)) (Obj.cells #[.string ⟨#[]⟩] 9))
  ·exact (by simpa using heap_alloc_new (((w.alloc (Obj.cells #[.int .i64 0] 3)).alloc (Obj.cells #[.int .i64 0] 3)).alloc (Obj.cells #[.string ⟨#[]⟩] 9)) (Obj.cells #[.bool false] 4))
 have r:Hid (mrd (sb s)=(rd1 (sb s) 0).bind fun k=>if k.1=1 then (rd1 (sb s) k.2).bind fun p=>mEnd (sb s) 1 p.1 p.2 else if k.1=2 then mEnd (sb s) 2 0 k.2 else none):=rfl
 go_enter_defers Tryz.func130,Tryz.ntmps130
 go_wp2_with fail
 rw [H.out]
 refine (Za4 s _ (by omega)).mono ?_
 rintro e Y ⟨v,V0,P,rfl,RR,O,E,hP,C⟩
 obtain ⟨L,i,rfl⟩:∃ L i,v=.slice L s.size i:=by obtain ⟨L,i,h,_⟩:=RR;exact ⟨L,i,by rw [<- af];exact h⟩
 have U:=Zap Y (Obj.cells #[.slice L s.size i,.pointer (some ⟨P,0,none⟩)] 235)
 have R:RS w (Y.alloc (Obj.cells #[.slice L s.size i,.pointer (some ⟨P,0,none⟩)] 235)) (.slice L s.size i) (sb s) P Y.heap.size 0 0 0 ⟨#[]⟩ false:=by
  exact ⟨⟨V0,RR,E.trans (U.mono E.size),hP,X0.below O⟩,heap_alloc_new _ _,C.below U C.lt,(ac.trans (O.mono ac.size)).trans ((E.trans (U.mono E.size)).mono (by have:=O.size;omega)),C.lt⟩
 clear U E O C X0 ac H ag RR hP
 have T:=R.num
 obtain ⟨nn,N1⟩:∃ n,gN (sb s) 0=n:=⟨_,rfl⟩
 obtain ⟨k,a1,k1⟩:=nn
 rw [N1] at T
 simp only at T
 have V:Hid ((k1=true -> rd1 (sb s) 0=some (k,a1))/\(k1=false -> rd1 (sb s) 0=none)):=by
  unfold Hid rd1
  rw [N1]
  cases k1 <;> simp
 clear N1
 go_wp2_with fail
 refine T.mono ?_
 rintro e u2 ⟨rfl,q2,ae,R2⟩
 clear T R
 obtain ⟨c0,_,_,_,f0,_,_,_⟩:=R2.mx.cells
 have R3:=R2.set0 k
 obtain ⟨_,_,_,d3,_,_,_,g3⟩:=R3.mx.cells
 have z:=R3.set3 k1
 clear R2 R3
 obtain ⟨e0,e1,e2,e3,h0,h1,h2,h3⟩:=z.mx.cells
 cases k1 with
 | false =>
  have F:Hid (mrd (sb s)=none):=by unfold Hid;rw [r.out,V.out.2 rfl];rfl
  clear r V ae
  go_wp2_with fail
  refine Zgq w.heap.size k 0 ⟨#[]⟩ _ _ z.mx.c0 z.mx.c1 z.mx.c2 false z.mx.c3 ?_
  intro u35 u36 u37 w9 B A y l g
  have d:=z.bel
  go_wp2_with fail
  have x:MX _ w.heap.size k 0 ⟨#[]⟩ false:=⟨B,A,y,l⟩
  refine leaves_cons (f:=159) (args:=#[.pointer (some ⟨w.heap.size+1+1+1,0,none⟩),.pointer (some ⟨w.heap.size,0,none⟩),.pointer (some ⟨w.heap.size+1,0,none⟩),.pointer (some ⟨w.heap.size+1+1,0,none⟩)]) (by simp) (by simp [go_sem]) ?_
  refine (ZbW w.heap.size _ _ _ _ _ x).mono ?_
  rintro e Z X ⟨rfl,rfl,b,c⟩
  obtain ⟨q,o,u,m,_⟩:=b.cells
  simp [Leaves,settle,results,Tryz.results130,go_sem,q,o,u,m,Result.andThen]
  rw [F.out]
  exact ⟨rfl,d.trans (g.trans c)⟩
 | true =>
  obtain rfl:=ae rfl
  have D:=V.out.1 rfl
  clear V
  by_cases S:k=1
  ·subst S
   have N:Hid (mrd (sb s)=(rd1 (sb s) q2).bind fun p=>mEnd (sb s) 1 p.1 p.2):=by unfold Hid;rw [r.out,D];rfl
   clear r D
   have T:=z.num
   obtain ⟨nn,N1⟩:∃ n,gN (sb s) q2=n:=⟨_,rfl⟩
   obtain ⟨p,a2,k2⟩:=nn
   rw [N1] at T
   simp only at T
   have V:Hid ((k2=true -> rd1 (sb s) q2=some (p,a2))/\(k2=false -> rd1 (sb s) q2=none)):=by
    unfold Hid rd1
    rw [N1]
    cases k2 <;> simp
   clear N1
   go_wp2_with (refine wpList_load_row rfl 235 _ rfl Y.heap.size rfl 235 #[.slice L s.size i,.pointer (some ⟨P,0,none⟩)] (0,0) _ z.box Tryz.underlying235 rfl Zm6 ?_)
   refine T.mono ?_
   rintro e u3 ⟨rfl,q3,ad,G⟩
   clear T c0 f0 d3 g3 e0 e1 e2 e3 h0 h1 h2 h3 z
   obtain ⟨_,c1,_,_,_,f1,_,_⟩:=G.mx.cells
   have K:=G.set1 p
   obtain ⟨_,_,_,d3,_,_,_,g3⟩:=K.mx.cells
   have a:=K.set3 k2
   clear G K
   obtain ⟨e0,e1,e2,e3,h0,h1,h2,h3⟩:=a.mx.cells
   cases k2 with
   | false =>
    have F:Hid (mrd (sb s)=none):=by unfold Hid;rw [N.out,V.out.2 rfl];rfl
    clear N V ad
    go_wp2_with fail
    refine Zgq w.heap.size 1 p ⟨#[]⟩ _ _ a.mx.c0 a.mx.c1 a.mx.c2 false a.mx.c3 ?_
    intro u35 u36 u37 w9 B A y l g
    have d:=a.bel
    go_wp2_with fail
    have x:MX _ w.heap.size 1 p ⟨#[]⟩ false:=⟨B,A,y,l⟩
    refine leaves_cons (f:=159) (args:=#[.pointer (some ⟨w.heap.size+1+1+1,0,none⟩),.pointer (some ⟨w.heap.size,0,none⟩),.pointer (some ⟨w.heap.size+1,0,none⟩),.pointer (some ⟨w.heap.size+1+1,0,none⟩)]) (by simp) (by simp [go_sem]) ?_
    refine (ZbW w.heap.size _ _ _ _ _ x).mono ?_
    rintro e Z X ⟨rfl,rfl,b,c⟩
    obtain ⟨q,o,u,m,_⟩:=b.cells
    simp [Leaves,settle,results,Tryz.results130,go_sem,q,o,u,m,Result.andThen]
    rw [F.out]
    exact ⟨rfl,d.trans (g.trans c)⟩
   | true =>
    obtain rfl:=ad rfl
    have HM:Hid (mrd (sb s)=mEnd (sb s) 1 p q3):=by unfold Hid;rw [N.out,V.out.1 rfl];rfl
    clear V N
    have R:=a
    clear a
    have W:=R.text
    obtain ⟨tt,M⟩:∃ n,gT (sb s) q3=n:=⟨_,rfl⟩
    obtain ⟨t,a3,Q⟩:=tt
    rw [M] at W
    simp only at W
    have J:=gT_range (sb s) q3
    rw [M] at J
    simp only at J
    have F:Hid (mrd (sb s)=if Q=true/\a3=(sb s).length then some (1,p,t) else none):=by
     unfold Hid
     rw [HM.out]
     unfold mEnd rt
     rw [M]
     cases Q <;> simp
    clear M HM
    go_wp2_with (refine wpList_load_row rfl 235 _ rfl Y.heap.size rfl 235 #[.slice L s.size i,.pointer (some ⟨P,0,none⟩)] (0,0) _ R.box Tryz.underlying235 rfl Zm6 ?_)
    refine W.mono ?_
    rintro e u5 ⟨rfl,q5,ab,G⟩
    clear W
    obtain ⟨c0,c1,c2,c3,f0,f1,f2,f3⟩:=G.mx.cells
    have K:=G.set2 t
    obtain ⟨_,_,_,d3,_,_,_,g3⟩:=K.mx.cells
    have a:=K.set3 Q
    clear G
    go_wp2_with fail
    clear c0 c1 c2 c3 f0 f1 f2 f3 d3 g3 K
    cases Q with
    | false =>
     have j:Hid (mrd (sb s)=none):=by unfold Hid;rw [F.out];simp
     refine ZgR w.heap.size 1 p t _ _ a.mx.c0 a.mx.c1 a.mx.c2 a.mx.c3 ?_
     intro u43 u44 u45 u46 u47 u48 u49 u50 u51 w9 B A y l g
     have d:=a.bel
     go_wp2_with fail
     have x:MX _ w.heap.size 1 p t false:=⟨B,A,y,l⟩
     refine leaves_cons (f:=159) (args:=#[.pointer (some ⟨w.heap.size+1+1+1,0,none⟩),.pointer (some ⟨w.heap.size,0,none⟩),.pointer (some ⟨w.heap.size+1,0,none⟩),.pointer (some ⟨w.heap.size+1+1,0,none⟩)]) (by simp) (by simp [go_sem]) ?_
     refine (ZbW w.heap.size _ _ _ _ _ x).mono ?_
     rintro e Z X ⟨rfl,rfl,b,c⟩
     obtain ⟨q,o,u,m,_⟩:=b.cells
     simp [Leaves,settle,results,Tryz.results130,go_sem,q,o,u,m,Result.andThen]
     rw [j.out]
     exact ⟨rfl,d.trans (g.trans c)⟩
    | true =>
     obtain rfl:=ab rfl
     refine ZgT w.heap.size 1 p t _ _ a.mx.c0 a.mx.c1 a.mx.c2 a.mx.c3 Y.heap.size P _ _ (sb s) a.form a.box a.one (by have:=a.far;omega) ?_
     intro u43 u44 u45 u46 u47 u48 u49 u50 u51 w9 B A y l g
     have d:=a.bel
     by_cases h3:q5=((sb s).length:Int)
     ·have j:Hid (mrd (sb s)=some (1,p,t)):=by unfold Hid;rw [F.out,if_pos ⟨rfl,h3⟩]
      have I:decide (((sb s).length:Int) <= q5)=true:=by simp;omega
      rw [I] at l
      clear I
      go_wp2_with fail
      have x:MX _ w.heap.size 1 p t true:=⟨B,A,y,l⟩
      refine leaves_cons (f:=159) (args:=#[.pointer (some ⟨w.heap.size+1+1+1,0,none⟩),.pointer (some ⟨w.heap.size,0,none⟩),.pointer (some ⟨w.heap.size+1,0,none⟩),.pointer (some ⟨w.heap.size+1+1,0,none⟩)]) (by simp) (by simp [go_sem]) ?_
      refine (ZbW w.heap.size _ _ _ _ _ x).mono ?_
      rintro e Z X ⟨rfl,rfl,b,c⟩
      obtain ⟨q,o,u,m,_⟩:=b.cells
      simp [Leaves,settle,results,Tryz.results130,go_sem,q,o,u,m,Result.andThen]
      rw [j.out]
      exact ⟨rfl,d.trans (g.trans c)⟩
     ·have j:Hid (mrd (sb s)=none):=by unfold Hid;rw [F.out,if_neg (fun h=>h3 h.2)]
      have I:decide (((sb s).length:Int) <= q5)=false:=by simp;omega
      rw [I] at l
      clear I
      go_wp2_with fail
      have x:MX _ w.heap.size 1 p t false:=⟨B,A,y,l⟩
      refine leaves_cons (f:=159) (args:=#[.pointer (some ⟨w.heap.size+1+1+1,0,none⟩),.pointer (some ⟨w.heap.size,0,none⟩),.pointer (some ⟨w.heap.size+1,0,none⟩),.pointer (some ⟨w.heap.size+1+1,0,none⟩)]) (by simp) (by simp [go_sem]) ?_
      refine (ZbW w.heap.size _ _ _ _ _ x).mono ?_
      rintro e Z X ⟨rfl,rfl,b,c⟩
      obtain ⟨q,o,u,m,_⟩:=b.cells
      simp [Leaves,settle,results,Tryz.results130,go_sem,q,o,u,m,Result.andThen]
      rw [j.out]
      exact ⟨rfl,d.trans (g.trans c)⟩
  ·by_cases aa:k=2
   ·subst aa
    have HM:Hid (mrd (sb s)=mEnd (sb s) 2 0 q2):=by unfold Hid;rw [r.out,D];rfl
    clear r D
    have R:=z
    have W:=R.text
    obtain ⟨tt,M⟩:∃ n,gT (sb s) q2=n:=⟨_,rfl⟩
    obtain ⟨t,a3,Q⟩:=tt
    rw [M] at W
    simp only at W
    have J:=gT_range (sb s) q2
    rw [M] at J
    simp only at J
    have F:Hid (mrd (sb s)=if Q=true/\a3=(sb s).length then some (2,0,t) else none):=by
     unfold Hid
     rw [HM.out]
     unfold mEnd rt
     rw [M]
     cases Q <;> simp
    clear M HM
    go_wp2_with (refine wpList_load_row rfl 235 _ rfl Y.heap.size rfl 235 #[.slice L s.size i,.pointer (some ⟨P,0,none⟩)] (0,0) _ R.box Tryz.underlying235 rfl Zm6 ?_)
    refine W.mono ?_
    rintro e u5 ⟨rfl,q5,ab,G⟩
    clear W
    obtain ⟨c0,c1,c2,c3,f0,f1,f2,f3⟩:=G.mx.cells
    have K:=G.set2 t
    obtain ⟨_,_,_,d3,_,_,_,g3⟩:=K.mx.cells
    have a:=K.set3 Q
    clear G
    go_wp2_with fail
    clear c0 c1 c2 c3 f0 f1 f2 f3 d3 g3 K
    cases Q with
    | false =>
     have j:Hid (mrd (sb s)=none):=by unfold Hid;rw [F.out];simp
     refine ZgR w.heap.size 2 0 t _ _ a.mx.c0 a.mx.c1 a.mx.c2 a.mx.c3 ?_
     intro u43 u44 u45 u46 u47 u48 u49 u50 u51 w9 B A y l g
     have d:=a.bel
     go_wp2_with fail
     have x:MX _ w.heap.size 2 0 t false:=⟨B,A,y,l⟩
     refine leaves_cons (f:=159) (args:=#[.pointer (some ⟨w.heap.size+1+1+1,0,none⟩),.pointer (some ⟨w.heap.size,0,none⟩),.pointer (some ⟨w.heap.size+1,0,none⟩),.pointer (some ⟨w.heap.size+1+1,0,none⟩)]) (by simp) (by simp [go_sem]) ?_
     refine (ZbW w.heap.size _ _ _ _ _ x).mono ?_
     rintro e Z X ⟨rfl,rfl,b,c⟩
     obtain ⟨q,o,u,m,_⟩:=b.cells
     simp [Leaves,settle,results,Tryz.results130,go_sem,q,o,u,m,Result.andThen]
     rw [j.out]
     exact ⟨rfl,d.trans (g.trans c)⟩
    | true =>
     obtain rfl:=ab rfl
     refine ZgT w.heap.size 2 0 t _ _ a.mx.c0 a.mx.c1 a.mx.c2 a.mx.c3 Y.heap.size P _ _ (sb s) a.form a.box a.one (by have:=a.far;omega) ?_
     intro u43 u44 u45 u46 u47 u48 u49 u50 u51 w9 B A y l g
     have d:=a.bel
     by_cases h3:q5=((sb s).length:Int)
     ·have j:Hid (mrd (sb s)=some (2,0,t)):=by unfold Hid;rw [F.out,if_pos ⟨rfl,h3⟩]
      have I:decide (((sb s).length:Int) <= q5)=true:=by simp;omega
      rw [I] at l
      clear I
      go_wp2_with fail
      have x:MX _ w.heap.size 2 0 t true:=⟨B,A,y,l⟩
      refine leaves_cons (f:=159) (args:=#[.pointer (some ⟨w.heap.size+1+1+1,0,none⟩),.pointer (some ⟨w.heap.size,0,none⟩),.pointer (some ⟨w.heap.size+1,0,none⟩),.pointer (some ⟨w.heap.size+1+1,0,none⟩)]) (by simp) (by simp [go_sem]) ?_
      refine (ZbW w.heap.size _ _ _ _ _ x).mono ?_
      rintro e Z X ⟨rfl,rfl,b,c⟩
      obtain ⟨q,o,u,m,_⟩:=b.cells
      simp [Leaves,settle,results,Tryz.results130,go_sem,q,o,u,m,Result.andThen]
      rw [j.out]
      exact ⟨rfl,d.trans (g.trans c)⟩
     ·have j:Hid (mrd (sb s)=none):=by unfold Hid;rw [F.out,if_neg (fun h=>h3 h.2)]
      have I:decide (((sb s).length:Int) <= q5)=false:=by simp;omega
      rw [I] at l
      clear I
      go_wp2_with fail
      have x:MX _ w.heap.size 2 0 t false:=⟨B,A,y,l⟩
      refine leaves_cons (f:=159) (args:=#[.pointer (some ⟨w.heap.size+1+1+1,0,none⟩),.pointer (some ⟨w.heap.size,0,none⟩),.pointer (some ⟨w.heap.size+1,0,none⟩),.pointer (some ⟨w.heap.size+1+1,0,none⟩)]) (by simp) (by simp [go_sem]) ?_
      refine (ZbW w.heap.size _ _ _ _ _ x).mono ?_
      rintro e Z X ⟨rfl,rfl,b,c⟩
      obtain ⟨q,o,u,m,_⟩:=b.cells
      simp [Leaves,settle,results,Tryz.results130,go_sem,q,o,u,m,Result.andThen]
      rw [j.out]
      exact ⟨rfl,d.trans (g.trans c)⟩
   ·have F:Hid (mrd (sb s)=none):=by unfold Hid;rw [r.out,D];simp [S,aa]
    clear r D
    have E:(k == 1)=false:=by simp [S]
    have ai:(k != 1)=true:=by simp [S]
    have aj:(k != 2)=true:=by simp [aa]
    go_wp2_with fail
    refine Zgq w.heap.size k 0 ⟨#[]⟩ _ _ z.mx.c0 z.mx.c1 z.mx.c2 true z.mx.c3 ?_
    intro u35 u36 u37 w9 B A y l g
    have d:=z.bel
    go_wp2_with fail
    have x:MX _ w.heap.size k 0 ⟨#[]⟩ false:=⟨B,A,y,l⟩
    refine leaves_cons (f:=159) (args:=#[.pointer (some ⟨w.heap.size+1+1+1,0,none⟩),.pointer (some ⟨w.heap.size,0,none⟩),.pointer (some ⟨w.heap.size+1,0,none⟩),.pointer (some ⟨w.heap.size+1+1,0,none⟩)]) (by simp) (by simp [go_sem]) ?_
    refine (ZbW w.heap.size _ _ _ _ _ x).mono ?_
    rintro e Z X ⟨rfl,rfl,b,c⟩
    obtain ⟨q,o,u,m,_⟩:=b.cells
    simp [Leaves,settle,results,Tryz.results130,go_sem,q,o,u,m,Result.andThen]
    rw [F.out]
    exact ⟨rfl,d.trans (g.trans c)⟩
def tsL (zs:List Int):Nat -> List ByteArray -> Int -> Bool -> List ByteArray × Int × Bool
 | 0,xs,a,ok=>(xs,a,ok)
 | m+1,xs,a,ok=>if ok then tsL zs m (xs ++ [(txt8 zs a true).1]) (txt8 zs a true).2.1 (txt8 zs a true).2.2 else (xs,a,false)
theorem ZcN (zs:List Int)(b:List ByteArray)(a:Int):∀ m:Nat,tsL zs m b a false=(b,a,false)
 | 0=>rfl
 | _+1=>rfl
theorem Zlg (zs:List Int):∀ (m:Nat) (c:List ByteArray) (a:Int),(∀ q,rdTs zs m a=some q -> tsL zs m c a true=(c ++ q.1,q.2,true))/\(rdTs zs m a=none -> (tsL zs m c a true).2.2=false)
 | 0,c,a=>⟨fun q h=>by cases h;simp [tsL],fun h=>by cases h⟩
 | m+1,c,a=>by
  rw [rdTs,tsL,if_pos rfl,Zgk]
  cases h:rt zs a with
  | none =>
   simp only [Option.bind_none]
   refine ⟨fun q b=>(by cases b),fun _=>?_⟩
   rw [ZcN]
  | some p =>
   simp only [Option.bind_some]
   obtain ⟨e,f⟩:=Zlg zs m (c ++ [p.1]) p.2
   cases d:rdTs zs m p.2 with
   | none=>exact ⟨fun q b=>by (simp at b),fun _=>f d⟩
   | some t =>
    rw [e t d]
    refine ⟨fun q b=>?_,fun b=>by (simp at b)⟩
    simp only [Option.map_some,Option.some.injEq] at b
    subst b
    simp
theorem ZfD (n:Nat):1 <= (encI (n:Int)).length:=by
 rw [Zcn _ (by omega),enc]
 split <;> simp
theorem Zeu {zs:List Int}{c:Int}(d:∀ z ∈ zs,0 <= z/\z <= 255)(g:0 <= c)(e:c <= zs.length):0 <= (txt8 zs c true).2.1/\(txt8 zs c true).2.1 <= zs.length/\((txt8 zs c true).2.2=true -> c < (txt8 zs c true).2.1)/\(txt8 zs c true).1.size <= zs.length:=by
 unfold txt8
 cases j:(gT zs c).2.2 with
 | false =>
  refine ⟨g,e,?_,?_⟩
  ·intro h
   cases h
  ·show ByteArray.size ⟨#[]⟩ <= _
   simp [ByteArray.size]
 | true =>
  have b:=gT_range zs c
  have i:=ZiZ (zs:=zs) (a:=c) (next:=(gT zs c).2.1) (s:=(gT zs c).1) d (by rw [<- j])
  refine ⟨b.1,b.2,fun _=>?_,ZcD zs c⟩
  have f:=i.2.1
  rw [ZcY] at f
  have k:=ZfD (gT zs c).1.size
  show c < (gT zs c).2.1
  omega
theorem Zek {zs:List Int}{a:Int}{ok:Bool}(b:0 <= a)(c:a <= zs.length):0 <= (num8 zs a ok).1/\(num8 zs a ok).1 <= 9223372036854775807/\0 <= (num8 zs a ok).2.1/\(num8 zs a ok).2.1 <= zs.length:=by
 unfold num8
 cases e:(ok && (gN zs a).2.2) with
 | false=>exact ⟨by simp,by simp,b,c⟩
 | true =>
  have d:(gN zs a).2.2=true:=by cases ok <;> simp_all
  have:=Za9 (zs:=zs) (a:=a) (p:=((gN zs a).1,(gN zs a).2.1)) (by unfold rd1;rw [d];rfl)
  exact this
theorem Zeh (b:Nat)(v:Value)(zs:List Int)(a:Int)(ok:Bool)(L w:World)(R:Row L v zs)(hb:Below L.heap.size L w)(S:L.heap.size <= b)(h:C8 w b v a ok)(ha:0 <= a)(hl:a <= zs.length)(hz:∀ z ∈ zs,0 <= z/\z <= 255)(ai:zs.length <= 1048576) :
  Calls Tryz.prog 83 #[.pointer (some ⟨b,0,none⟩)] w fun e w'=>∃ (v':Value) (f:List ByteArray) (c:Int) (k:Bool),tsL zs (num8 zs a ok).1.toNat [] (num8 zs a ok).2.1 (num8 zs a ok).2.2=(f,c,k)/\e=.returned v'/\(0 <= c/\c <= zs.length/\f.length <= zs.length+1)/\C8 w' b v c k/\w'.ownsRow w.heap.size 9 1 v' f.length (stv f)/\w.grownBy w' (some b):=by
 have lb:b < w.heap.size:=(bl h)
 obtain ⟨i0,hi,ae,ag,af⟩:=info_parts Zm3
 have K:Below w.heap.size w (w.alloc (Obj.cells #[] 9)):=(Below.refl _ _).alloc (Nat.le_refl _) _
 have oE:=Zcl w 9 1 w.heap.size (Nat.le_refl _)
 have hE:C8 (w.alloc (Obj.cells #[] 9)) b v a ok:=Zae h K
 have d:=hb.trans (K.mono hb.size)
 have V:=World.grownBy_alloc w (Obj.cells #[] 9) (some b)
 have Y:=Zb3 b v zs a ok _ (R.below d) hE (by omega) (by omega)
 have hm:=Zek (zs:=zs) (a:=a) (ok:=ok) ha hl
 obtain ⟨nn,M⟩:∃ n,Hid (num8 zs a ok=n):=⟨_,rfl⟩
 obtain ⟨n,a1,X⟩:=nn
 rw [M.out] at Y hm ⊢
 simp only at Y hm ⊢
 clear M
 go_enter Tryz.func83,Tryz.ntmps83
 go_wp2_with fail
 generalize w.alloc (Obj.cells #[] 9)=wE at *
 refine Y.mono ?_
 rintro e w1 ⟨rfl,h1,g1⟩
 have D:=Zcb oE lb g1
 replace V:=ZaC V g1 (fun k W=>Or.inl (by cases W;rfl))
 replace d:=d.grown g1 d.size (fun k W=>by cases W;exact S)
 clear Y g1 oE hE K h hb
 obtain ⟨m1,m2,m3,m4⟩:=hm
 go_wp2_with fail
 go_loopw [3,5] (fun vo i wr=>∃ (k:Nat) (f:List ByteArray) (c:Int) (J:Bool),(k:Int) <= n/\i=.int .i64 k/\Hid (tsL zs n.toNat [] a1 X=tsL zs (n.toNat - k) f c J)/\(J=true -> (f.length:Int) <= c)/\f.length <= zs.length+1/\(0 <= c/\c <= zs.length)/\C8 wr b v c J/\wr.ownsRow w.heap.size 9 1 vo f.length (stv f)/\Below L.heap.size L wr/\w.grownBy wr (some b)) (fun _ i _=>n.toNat - (intOf i).toNat)
 case atStart=>exact ⟨0,[],a1,X,by omega,rfl,rfl,fun _=>by simpa using m3,by simp,⟨m3,m4⟩,h1,D,d,V⟩
 case round =>
  clear h1 D d V
  obtain ⟨k,f,c,J,W,rfl,E,U,u,⟨q,r⟩,F,o,d,m⟩:=hrel
  have ck:wr.cell? ⟨b,2,none⟩=some (.bool J):=cell_of_row _ _ 2 _ _ _ F
  by_cases aj:(k:Int) < n
  ·cases J with
   | false =>
    have HF:Hid (tsL zs n.toNat [] a1 X=(f,c,false)):=by unfold Hid;rw [E.out,ZcN]
    go_wp2
    go_ret
    exact ⟨u3,f,c,false,HF.out,rfl,⟨q,r,u⟩,F,o,m⟩
   | true =>
    have ah:=U rfl
    have HS:Hid (tsL zs n.toNat [] a1 X=tsL zs (n.toNat - (k+1)) (f ++ [(txt8 zs c true).1]) (txt8 zs c true).2.1 (txt8 zs c true).2.2):=by
     unfold Hid
     rw [E.out,show n.toNat - k=(n.toNat - (k+1))+1 by omega]
     rfl
    have I:=Zeu (zs:=zs) hz q r
    have Z:=ZcU b v zs c true wr (R.below d) F (by omega) (by omega)
    obtain ⟨tt,P⟩:∃ t,Hid (txt8 zs c true=t):=⟨_,rfl⟩
    obtain ⟨s,tn,tk⟩:=tt
    rw [P.out] at Z HS I
    simp only at Z HS I
    obtain ⟨v1,v2,v3,v4⟩:=I
    clear P E
    go_wp2_with fail
    refine Z.mono ?_
    rintro e C ⟨rfl,Q,g2⟩
    have B:=Zcb o lb g2
    have T:=ZaC m g2 (fun j y=>Or.inl (by cases y;rfl))
    have l:=d.grown g2 d.size (fun j y=>by cases y;exact S)
    have ad:s.size <= maxLen:=by unfold maxLen;omega
    have S1:=StRow.one9 C s ad
    have x:Below C.heap.size C (C.alloc (Obj.cells #[.string s] 9)):=(Below.refl _ _).alloc (Nat.le_refl _) _
    have O:=Zac B x
    have A:C8 (C.alloc (Obj.cells #[.string s] 9)) b v tn tk:=Zae Q x
    have G:=ZaC T (World.grownBy_alloc C (Obj.cells #[.string s] 9) none) (fun j y=>by cases y)
    have g:=l.trans (x.mono l.size)
    have N:w.heap.size <= (C.alloc (Obj.cells #[.string s] 9)).heap.size:=G.size
    clear o B T l d m g2 Z F Q x ck U
    go_wp2_with (at_builtin;refine ZaA _ rfl _ _ 62 rfl w.heap.size 9 i0 _ 1 16 Tryz.underlying62 hi ae ag af rfl (by decide) _ f.length _ rfl O (some ⟨C.heap.size,0,none⟩) 1 1 (stv [s]) rfl (by simp [stv]) S1.nilcap S1.cells (ZiL [s]) (by unfold maxLen;omega) (by omega) N ?_)
    intro v5 w5 O5 p
    have ac:C8 w5 b v tn tk:=(p.block _ (Zao A) (fun e=>ZaG O A (by decide) e.symm)).trans A
    have aa:=ZaC G p (fun j y=>Or.inr (O.lt j y).1)
    have H:=g.grown p g.size (fun j y=>by have:=(O.lt j y).1;omega)
    have O6:w5.ownsRow w.heap.size 9 1 v5 (f ++ [s]).length (stv (f ++ [s])):=by rw [Zd2,List.length_append];exact O5
    clear O5 p O A G g S1 N
    go_wp2
    go_roundw
    case rel=>exact ⟨k+1,f ++ [s],tn,tk,by omega,by go_num,HS,fun h=>by have:=v3 h;simp;omega,by simp;omega,⟨v1,v2⟩,ac,O6,H,aa⟩
    case measure=>simp [intOf];omega
  ·have ab:n.toNat - k=0:=by omega
   rw [ab] at E
   cases J with
   | false =>
    go_wp2
    go_ret
    first
     | exact ⟨u3,f,c,false,E.out,rfl,⟨q,r,u⟩,F,o,m⟩
     | exact ⟨u3,f,c,Or.inl ⟨E.out,rfl,⟨q,r,u⟩,F,o,m⟩⟩
   | true =>
    go_wp2
    go_ret
    first
     | exact ⟨u3,f,c,true,E.out,rfl,⟨q,r,u⟩,F,o,m⟩
     | exact ⟨u3,f,c,Or.inr ⟨E.out,rfl,⟨q,r,u⟩,F,o,m⟩⟩
end Go.Proofs.YtfeodlbpnghakaaGreatDoor
