/-
  Texts that stood by themselves, laid into one.
-/
import Derived.Test.YtkpfangkfknhoaaGreatDoorXRM
import Derived.Test.YtkpfangkfknhoaaGreatDoorS12tM
import Derived.Test.YtkpfangkfknhoaaGreatDoorSPTextM
import Derived.Test.YtkpfangkfknhoaaGreatDoorMRgM
import Derived.Test.YtkpfangkfknhoaaGreatDoorShapeM
/-
  The contract of spec.MailRead. No condition but bounds.
-/
set_option maxRecDepth 100000
set_option maxHeartbeats 6400000
namespace Go.Proofs.YtkpfangkfknhoaaGreatDoor
open Go.Proofs.Tryz
open Go.RowKit
theorem Zhq {zs:List Int}{k p a:Int}{t:ByteArray}{n:Int}{ok:Bool}(h:txt8 zs a true=(t,n,ok)):mEnd zs k p a=if ok=true/\n=zs.length then some (k,p,t) else none:=by
 unfold mEnd;rw [Zg5] at h;cases b:rt zs a with
 | none =>
  rw [b] at h;simp only [Prod.mk.injEq] at h;obtain ⟨_,_,rfl⟩:=h;simp
 | some q =>
  rw [b] at h;simp only [Prod.mk.injEq] at h;obtain ⟨rfl,rfl,rfl⟩:=h;simp
theorem Zis (s:ByteArray)(w:World)(hs:s.size <= 1048576) :
  Calls prog 80 #[.string s] w fun e w'=>e=.returned (mrA (mrd (sb s)))/\Below w.heap.size w w':=by
 have J:=ZaJ s
 go_enter func80,ntmps80
 go_wp2_with (first
  | (refine Zbg _ rfl _ 9 186 5 rfl underlying9 underlying186 underlying5 s rfl ?_;intro l c X U W I))
 have L:=Zbn (w:=w) (by omega) X U I;have b:Below w.heap.size w c:=(cj _ w).grown W (ce _) (fun k j=>by cases j);clear U W X;have P:=Zap c (Obj.cells #[.slice (some ⟨w.heap.size,0,none⟩) s.size l,.int .i64 0,.bool true] 188);have d:C8 (c.alloc (Obj.cells #[.slice (some ⟨w.heap.size,0,none⟩) s.size l,.int .i64 0,.bool true] 188)) c.heap.size (.slice (some ⟨w.heap.size,0,none⟩) s.size l) 0 true:=co _ _;have o:Below c.heap.size c (c.alloc (Obj.cells #[.slice (some ⟨w.heap.size,0,none⟩) s.size l,.int .i64 0,.bool true] 188)):=P;replace b:=b.trans (P.mono b.size);clear P;obtain ⟨u0,K⟩:∃ u,c.alloc (Obj.cells #[.slice (some ⟨w.heap.size,0,none⟩) s.size l,.int .i64 0,.bool true] 188)=u:=⟨_,rfl⟩;rw [K] at d o b ⊢;clear K;obtain ⟨V,S⟩:∃ V,V=(Value.slice (some ⟨w.heap.size,0,none⟩) s.size l):=⟨_,rfl⟩;rw [<- S] at d L;clear S
 have y:=Zb9 c.heap.size V (sb s) 0 true u0 (L.below o) d (by omega) (by omega);have i:=Zc7 (sb s) 0 true (by omega) (by omega);have M:Hid (mrd (sb s)=(rd1 (sb s) 0).bind fun k=>if k.1=1 then (rd1 (sb s) k.2).bind fun p=>mEnd (sb s) 1 p.1 p.2 else if k.1=2 then mEnd (sb s) 2 0 k.2 else none):=rfl;have x:=ZaL (sb s) 0;obtain ⟨E,r⟩:∃ n,num8 (sb s) 0 true=n:=⟨_,rfl⟩;obtain ⟨k,A,D⟩:=E;rw [r] at y i x;simp only at y i x;obtain ⟨_,_,R,Q⟩:=i
 have H:Hid ((D=true -> rd1 (sb s) 0=some (k,A))/\(D=false -> rd1 (sb s) 0=none/\k=0)):=by
  cases h:rd1 (sb s) 0 with
  | none =>
   have e:=ZaF h;rw [e] at r;cases r;exact ⟨fun h=>(by cases h),fun _=>⟨rfl,rfl⟩⟩
  | some q =>
   have e:=x.2 q h;simp only [Prod.mk.injEq] at e;obtain ⟨rfl,rfl,rfl⟩:=e;exact ⟨fun _=>rfl,fun h=>by cases h⟩
 clear r x;refine y.mono ?_;rintro e u1 ⟨rfl,d,g⟩;replace b:=b.grown g b.size (fun k j=>by cases j;exact Nat.le_of_lt I);replace o:=o.grown g o.size (fun k j=>by cases j;omega);clear y g;have N:∀ (p C:Int) (k2:Bool) (u:World),0 <= C -> C <= (sb s).length -> C8 u c.heap.size V C k2 -> Below w.heap.size w u -> Below c.heap.size c u -> (k2=true -> mrd (sb s)=if 1 <= k/\k <= 2 then mEnd (sb s) k p C else none) -> (k2=false -> mrd (sb s)=none) -> True:=fun _ _ _ _ _ _ _ _ _ _ _=>trivial
 by_cases Y:k=1
 ·subst Y
  obtain rfl:D=true:=by
   cases D with
   | true=>rfl
   | false=>exact absurd (H.out.2 rfl).2 (by decide)
  have T:=H.out.1 rfl;have y:=Zb9 c.heap.size V (sb s) A true u1 (L.below o) d (by omega) (by omega);have i:=Zc7 (sb s) A true R Q;have x:=ZaL (sb s) A;obtain ⟨E,r⟩:∃ n,num8 (sb s) A true=n:=⟨_,rfl⟩;obtain ⟨p,C,k2⟩:=E;rw [r] at y i x;simp only at y i x;obtain ⟨_,_,Z,aa⟩:=i
  have O:Hid ((k2=true -> mrd (sb s)=mEnd (sb s) 1 p C)/\(k2=false -> mrd (sb s)=none)):=by
   unfold Hid;rw [M.out,T];simp only [Option.bind_some,if_pos];cases h:rd1 (sb s) A with
   | none =>
    have e:=ZaF h;rw [e] at r;cases r;exact ⟨fun h=>(by cases h),fun _=>rfl⟩
   | some q =>
    have e:=x.2 q h;simp only [Prod.mk.injEq] at e;obtain ⟨rfl,rfl,rfl⟩:=e;exact ⟨fun _=>rfl,fun h=>by cases h⟩
  clear r x M H T;go_wp2_with fail;refine y.mono ?_;rintro e u2 ⟨rfl,d,g⟩;replace b:=b.grown g b.size (fun k j=>by cases j;exact Nat.le_of_lt I);replace o:=o.grown g o.size (fun k j=>by cases j;omega);clear y g N;have v:=ZcX c.heap.size V (sb s) C k2 u2 (L.below o) d (by omega) (by omega);obtain ⟨E,m⟩:∃ n,txt8 (sb s) C k2=n:=⟨_,rfl⟩;obtain ⟨t,F,G⟩:=E;rw [m] at v;simp only at v
  have f:Hid (mrd (sb s)=if G=true/\F=s.size then some (1,p,t) else none):=by
   unfold Hid;cases k2 with
   | false=>rw [Zer] at m;cases m;rw [O.out.2 rfl];simp
   | true=>rw [O.out.1 rfl,Zhq m,J]
  clear m O;go_wp2_with fail;refine v.mono ?_;rintro e u3 ⟨rfl,d,g⟩;replace b:=b.grown g b.size (fun k j=>by cases j;exact Nat.le_of_lt I);clear v g;unfold C8 at d;have x1:u3.cell? ⟨c.heap.size,1,none⟩=some (.int .i64 F):=cd _ _ 1 _ _ _ d;have x2:u3.cell? ⟨c.heap.size,2,none⟩=some (.bool G):=cd _ _ 2 _ _ _ d;cases G with
  | false =>
   have a:Hid (mrd (sb s)=none):=by unfold Hid;rw [f.out];simp
   clear f;go_wp2
   (try simp only [Exit.inBlock,Exit.then])
   refine cx (ZaR rfl _ _ _) rfl ?_;exact ⟨by rw [a.out];rfl,b⟩
  | true =>
   by_cases B:F=s.size
   ·have a:Hid (mrd (sb s)=some (1,p,t)):=by unfold Hid;rw [f.out];simp [B]
    clear f;subst B;go_wp2_with fail;refine (Zas _ _ _ _).mono ?_;rintro e u4 ⟨rfl,rfl⟩;go_wp2
    (try simp only [Exit.inBlock,Exit.then])
    refine cx (ZaR rfl _ _ _) rfl ?_;exact ⟨by rw [a.out];rfl,b⟩
   ·have a:Hid (mrd (sb s)=none):=by unfold Hid;rw [f.out];simp [B]
    clear f;go_wp2
    (try simp only [Exit.inBlock,Exit.then])
    refine cx (ZaR rfl _ _ _) rfl ?_;exact ⟨by rw [a.out];rfl,b⟩
 ·clear N
  have v:=ZcX c.heap.size V (sb s) A D u1 (L.below o) d (by omega) (by omega);obtain ⟨E,m⟩:∃ n,txt8 (sb s) A D=n:=⟨_,rfl⟩;obtain ⟨t,F,G⟩:=E;rw [m] at v;simp only at v
  have f:Hid (mrd (sb s)=if G=true/\F=s.size/\k=2 then some (2,0,t) else none):=by
   unfold Hid;cases D with
   | false=>rw [Zer] at m;cases m;rw [M.out,(H.out.2 rfl).1];simp
   | true =>
    rw [M.out,H.out.1 rfl];simp only [Option.bind_some,if_neg Y]
    by_cases z:k=2
    ·rw [if_pos z,Zhq m,J];simp [z]
    ·rw [if_neg z];simp [z]
  clear m M H;go_wp2_with fail;refine v.mono ?_;rintro e u3 ⟨rfl,d,g⟩;replace b:=b.grown g b.size (fun k j=>by cases j;exact Nat.le_of_lt I);clear v g;unfold C8 at d;have x1:u3.cell? ⟨c.heap.size,1,none⟩=some (.int .i64 F):=cd _ _ 1 _ _ _ d;have x2:u3.cell? ⟨c.heap.size,2,none⟩=some (.bool G):=cd _ _ 2 _ _ _ d;cases G with
  | false =>
   have a:Hid (mrd (sb s)=none):=by unfold Hid;rw [f.out];simp
   clear f;go_wp2
   (try simp only [Exit.inBlock,Exit.then])
   refine cx (ZaR rfl _ _ _) rfl ?_;exact ⟨by rw [a.out];rfl,b⟩
  | true =>
   by_cases B:F=s.size
   ·by_cases z:k=2
    ·have a:Hid (mrd (sb s)=some (2,0,t)):=by unfold Hid;rw [f.out];simp [B,z]
     clear f;subst B;subst z;go_wp2_with fail;refine (Zas _ _ _ _).mono ?_;rintro e u4 ⟨rfl,rfl⟩;go_wp2
     (try simp only [Exit.inBlock,Exit.then])
     refine cx (ZaR rfl _ _ _) rfl ?_;exact ⟨by rw [a.out];rfl,b⟩
    ·have a:Hid (mrd (sb s)=none):=by unfold Hid;rw [f.out];simp [z]
     clear f;subst B;have hi:(decide (1 <= k) && decide (k <= 2))=false:=by simp;omega
     go_wp2_with fail;refine (Zas _ _ _ _).mono ?_;rintro e u4 ⟨rfl,rfl⟩;rw [hi];go_wp2
     (try simp only [Exit.inBlock,Exit.then])
     refine cx (ZaR rfl _ _ _) rfl ?_;exact ⟨by rw [a.out];rfl,b⟩
   ·have a:Hid (mrd (sb s)=none):=by unfold Hid;rw [f.out];simp [B]
    clear f;go_wp2
    (try simp only [Exit.inBlock,Exit.then])
    refine cx (ZaR rfl _ _ _) rfl ?_;exact ⟨by rw [a.out];rfl,b⟩
theorem Za0 {w:World}{b:Nat}(v:Value){t:TypeId}(h:w.heap[b]? = some (.cells #[v] t (0,0))):w.setCell ⟨b,0,none⟩ v=w:=by
 have e:(w.setCell ⟨b,0,none⟩ v).heap=w.heap:=by
  apply Array.ext_getElem?;intro i
  by_cases hi:i=b
  ·subst hi
   rw [cu w i 0 _ _ v h,h];rfl
  ·exact cr w ⟨b,0,none⟩ i v hi
 have:∀ {x y:World},x.heap=y.heap -> x.tape=y.tape -> x.drawn=y.drawn -> x.os=y.os -> x.output=y.output -> x=y:=by
  intro x y d c g f a;cases x;cases y;simp_all
 exact this e rfl rfl rfl rfl
theorem ZgB {t0 t1 t6 t7 t8 t9 q z U X T N ad ae P J C G o R V u y Y ag v s D Z ab aa ai ak aj ah r O n A x L F ac H af E I M:Value}{fs:List Deferred}(b:Nat)(k p:Int)(t:ByteArray)(w:World)(Q:Exit -> Act -> World -> Prop)(h0:w.heap[b]? = some (.cells #[.int .i64 k] 3 (0,0)))(h1:w.heap[b+1]? = some (.cells #[.int .i64 p] 3 (0,0)))(h2:w.heap[b+1+1]? = some (.cells #[.string t] 9 (0,0)))(ok:Bool)(h3:w.heap[b+1+1+1]? = some (.cells #[.bool ok] 4 (0,0)))(hQ:∀ u35 u36 u37 W,W.heap[b]? = some (.cells #[.int .i64 k] 3 (0,0)) -> W.heap[b+1]? = some (.cells #[.int .i64 p] 3 (0,0)) -> W.heap[b+1+1]? = some (.cells #[.string t] 9 (0,0)) -> W.heap[b+1+1+1]? = some (.cells #[.bool false] 4 (0,0)) -> Below b w W -> Q .normal ⟨#[t0,t1,.pointer (some ⟨b,0,none⟩),.pointer (some ⟨b+1,0,none⟩),.pointer (some ⟨b+1+1,0,none⟩),.pointer (some ⟨b+1+1+1,0,none⟩),t6,t7,t8,t9,q,z,U,X,T,N,ad,ae,P,J,C,G,o,R,V,u,y,Y,ag,v,s,D,Z,ab,aa,u35,u36,u37,ah,r,O,n,A,x,L,F,ac,H,af,E,I,M],fs⟩ W) :
  (Code.region 7 (List.toArray (⟨some 35,.load 3 (.tmp 2),3, "l13_world.go:81", #[],none⟩ :: ⟨some 36,.load 3 (.tmp 3),3, "l13_world.go:81", #[],none⟩ :: ⟨some 37,.load 9 (.tmp 4),9, "l13_world.go:81", #[],none⟩ :: ⟨none,.store 3 (.tmp 2) (.tmp 35),0, "l13_world.go:81", #[⟨0,.data⟩,⟨0,.phase⟩,{ on:=1,ground:=Ground.textOnly Departure.lateStoresUnsure },{ on:=2,ground:=Ground.textOnly Departure.lateStoresUnsure }],none⟩ :: ⟨none,.store 3 (.tmp 3) (.tmp 36),0, "l13_world.go:81", #[⟨1,.data⟩,⟨3,.chain⟩,⟨0,.phase⟩,⟨1,.phase⟩,{ on:=2,ground:=Ground.textOnly Departure.lateStoresUnsure },⟨3,.phase⟩],none⟩ :: ⟨none,.store 9 (.tmp 4) (.tmp 37),0, "l13_world.go:81", #[⟨2,.data⟩,⟨4,.chain⟩,⟨0,.phase⟩,⟨1,.phase⟩,⟨2,.phase⟩,⟨3,.phase⟩,⟨4,.phase⟩],none⟩ :: ⟨none,.store 4 (.tmp 5) (.const (.bool false)),0, "l13_world.go:81", #[⟨5,.chain⟩,⟨0,.phase⟩,⟨1,.phase⟩,⟨2,.phase⟩,⟨3,.phase⟩,⟨4,.phase⟩,⟨5,.phase⟩],none⟩ :: [])) true).wp prog Q ⟨#[t0,t1,.pointer (some ⟨b,0,none⟩),.pointer (some ⟨b+1,0,none⟩),.pointer (some ⟨b+1+1,0,none⟩),.pointer (some ⟨b+1+1+1,0,none⟩),t6,t7,t8,t9,q,z,U,X,T,N,ad,ae,P,J,C,G,o,R,V,u,y,Y,ag,v,s,D,Z,ab,aa,ai,ak,aj,ah,r,O,n,A,x,L,F,ac,H,af,E,I,M],fs⟩ w:=by
 have LB:b <= w.heap.size:=Nat.le_of_lt (Zao h0);have B:Below w.heap.size w w.drew:=Zar w;have j:=Zaa h0 B;have g:=Zaa h1 B;have i:=Zaa h2 B;have X3:=Zaa h3 B;refine wp_region_noPanic ?_;refine wp_region_held_drew (S:=fun f=>f.heap[b]? = some (.cells #[.int .i64 k] 3 (0,0))/\f.heap[b+1]? = some (.cells #[.int .i64 p] 3 (0,0))/\f.heap[b+1+1]? = some (.cells #[.string t] 9 (0,0))) (by kernel_rfl) ⟨j,g,i⟩ (fun a=>?_);refine tk 0 (.int .i64 k) nz (by kernel_rfl) (Or.inl ⟨by rfl,by intro f e;have c:=cd f (b) 0 _ _ _ e.1;go_simp⟩) ‹_› ?_;simp only [Act.put,sit,sc0,scs];refine tk 1 (.int .i64 p) (n1 nz) (by kernel_rfl) (Or.inl ⟨by rfl,by intro f e;have c:=cd f (b+1) 0 _ _ _ e.2.1;go_simp⟩) ‹_› ?_;simp only [Act.put,sit,sc0,scs]
 refine tk 2 (.string t) (n2 nz) (by kernel_rfl) (Or.inl ⟨by rfl,by intro f e;have c:=cd f (b+1+1) 0 _ _ _ e.2.2;go_simp⟩) ‹_› ?_;simp only [Act.put,sit,sc0,scs];refine wpAnyH_ready (rs:=[3]) (by kernel_rfl) (by simp) ?_;refine AllReadyH.cons rfl (fun K d=>?_) AllReadyH.nil;have l:=cd _ (b) 0 _ _ _ j;have m:=cw _ (b) 0 _ _ j;have h:=Za0 (.int .i64 k) j
 go_simp
 go_wp2_with fail
 try rw [h]
 clear l m h;refine d.out _ _ ⟨j,g,i⟩ (fun a=>?_);clear d
 try simp only [Act.put]
 refine wpAnyH_ready (rs:=[4]) (by kernel_rfl) (by simp) ?_;refine AllReadyH.cons rfl (fun K d=>?_) AllReadyH.nil;have l:=cd _ (b+1) 0 _ _ _ g;have m:=cw _ (b+1) 0 _ _ g;have h:=Za0 (.int .i64 p) g
 go_simp
 go_wp2_with fail
 try rw [h]
 clear l m h;refine d.out _ _ ⟨j,g,i⟩ (fun a=>?_);clear d
 try simp only [Act.put]
 refine wpAnyH_ready (rs:=[5]) (by kernel_rfl) (by simp) ?_;refine AllReadyH.cons rfl (fun K d=>?_) AllReadyH.nil;have l:=cd _ (b+1+1) 0 _ _ _ i;have m:=cw _ (b+1+1) 0 _ _ i;have h:=Za0 (.string t) i
 go_simp
 go_wp2_with fail
 try rw [h]
 clear l m h;refine d.out _ _ ⟨j,g,i⟩ (fun a=>?_);clear d
 try simp only [Act.put]
 refine wpAnyH_ready (rs:=[6]) (by kernel_rfl) (by simp) ?_;refine AllReadyH.cons rfl (fun K d=>?_) AllReadyH.nil;have l:=cd _ (b+1+1+1) 0 _ _ _ X3;have m:=cw _ (b+1+1+1) 0 _ _ X3
 go_simp
 go_wp2_with fail;clear l m;have Y0:=(cr _ ⟨b+1+1+1,0,none⟩ b (.bool false) (by show b ≠ b+1+1+1;omega)).trans j;have Y1:=(cr _ ⟨b+1+1+1,0,none⟩ (b+1) (.bool false) (by show b+1 ≠ b+1+1+1;omega)).trans g;have Y2:=(cr _ ⟨b+1+1+1,0,none⟩ (b+1+1) (.bool false) (by show b+1+1 ≠ b+1+1+1;omega)).trans i;have Y3:=cu _ (b+1+1+1) 0 _ _ (.bool false) X3;replace B:Below b w _:=(B.mono LB).setCell (p:=⟨b+1+1+1,0,none⟩) (by show b <= b+1+1+1;omega) (.bool false);refine d.out _ _ ⟨Y0,Y1,Y2⟩ (fun a=>?_);clear d
 try simp only [Act.put]
 refine wpAnyH_done (by kernel_rfl) ?_ _;exact NoPanic.normal (hQ _ _ _ _ Y0 Y1 Y2 Y3 B)
abbrev opr3:List Oper:=⟨some 43,.load 3 (.tmp 2),3, "l13_world.go:84", #[],none⟩ :: ⟨some 44,.load 3 (.tmp 3),3, "l13_world.go:84", #[],none⟩ :: ⟨some 45,.load 9 (.tmp 4),9, "l13_world.go:84", #[],none⟩ :: ⟨some 46,.load 4 (.tmp 5),4, "l13_world.go:84", #[],none⟩ :: ⟨some 47,.move (.tmp 46),4, "l13_world.go:84", #[⟨3,.data⟩],none⟩ :: ⟨some 48,.load 231 (.tmp 6),231, "l13_world.go:84", #[⟨4,.guard⟩],some (4,true)⟩ :: ⟨some 49,.call { callee:=.value (.func 166),args:=#[.tmp 48],argTypes:=#[231] },236, "l13_world.go:84", #[⟨5,.data⟩,⟨4,.chain⟩,⟨4,.guard⟩],some (4,true)⟩ :: ⟨some 50,.binOp .eql 236 (.tmp 49) (.const .nilIface) 236,4, "l13_world.go:84", #[⟨6,.data⟩,⟨4,.guard⟩],some (4,true)⟩ :: ⟨some 51,.pick (.tmp 47) (.tmp 50) (.const (.bool false)),4, "l13_world.go:84", #[⟨4,.data⟩,⟨7,.data⟩],none⟩ :: ⟨none,.store 3 (.tmp 2) (.tmp 43),0, "l13_world.go:84", #[⟨0,.data⟩,⟨6,.chain⟩,⟨0,.phase⟩,{ on:=1,ground:=Ground.textOnly Departure.lateStoresUnsure },{ on:=2,ground:=Ground.textOnly Departure.lateStoresUnsure },{ on:=3,ground:=Ground.textOnly Departure.lateStoresUnsure },{ on:=4,ground:=Ground.textOnly Departure.lateStoresUnsure },{ on:=5,ground:=Ground.textOnly Departure.lateStoresUnsure },{ on:=6,ground:=Ground.textOnly Departure.lateStoresUnsure },{ on:=7,ground:=Ground.textOnly Departure.lateStoresUnsure },{ on:=8,ground:=Ground.textOnly Departure.lateStoresUnsure }],none⟩ :: ⟨none,.store 3 (.tmp 3) (.tmp 44),0, "l13_world.go:84", #[⟨1,.data⟩,⟨9,.chain⟩,⟨0,.phase⟩,⟨1,.phase⟩,{ on:=2,ground:=Ground.textOnly Departure.lateStoresUnsure },{ on:=3,ground:=Ground.textOnly Departure.lateStoresUnsure },{ on:=4,ground:=Ground.textOnly Departure.lateStoresUnsure },{ on:=5,ground:=Ground.textOnly Departure.lateStoresUnsure },{ on:=6,ground:=Ground.textOnly Departure.lateStoresUnsure },{ on:=7,ground:=Ground.textOnly Departure.lateStoresUnsure },{ on:=8,ground:=Ground.textOnly Departure.lateStoresUnsure },⟨9,.phase⟩],none⟩ :: ⟨none,.store 9 (.tmp 4) (.tmp 45),0, "l13_world.go:84", #[⟨2,.data⟩,⟨10,.chain⟩,⟨0,.phase⟩,⟨1,.phase⟩,⟨2,.phase⟩,{ on:=3,ground:=Ground.textOnly Departure.lateStoresUnsure },{ on:=4,ground:=Ground.textOnly Departure.lateStoresUnsure },{ on:=5,ground:=Ground.textOnly Departure.lateStoresUnsure },{ on:=6,ground:=Ground.textOnly Departure.lateStoresUnsure },{ on:=7,ground:=Ground.textOnly Departure.lateStoresUnsure },{ on:=8,ground:=Ground.textOnly Departure.lateStoresUnsure },⟨9,.phase⟩,⟨10,.phase⟩],none⟩ :: ⟨none,.store 4 (.tmp 5) (.tmp 51),0, "l13_world.go:84", #[⟨8,.data⟩,⟨11,.chain⟩,⟨0,.phase⟩,⟨1,.phase⟩,⟨2,.phase⟩,⟨3,.phase⟩,⟨4,.phase⟩,⟨5,.phase⟩,⟨6,.phase⟩,⟨7,.phase⟩,⟨8,.phase⟩,⟨9,.phase⟩,⟨10,.phase⟩,⟨11,.phase⟩],none⟩ :: []
theorem Zhz {t0 t1 t6 t7 t8 t9 q y M O J F V X H E A D o I N u x P aa v s C R U T L Z Y ab r G n z ac ah ae aj af ak ad ag ai:Value}{fs:List Deferred}(b:Nat)(k p:Int)(t:ByteArray)(w:World)(Q:Exit -> Act -> World -> Prop)(h0:w.heap[b]? = some (.cells #[.int .i64 k] 3 (0,0)))(h1:w.heap[b+1]? = some (.cells #[.int .i64 p] 3 (0,0)))(h2:w.heap[b+1+1]? = some (.cells #[.string t] 9 (0,0)))(h3:w.heap[b+1+1+1]? = some (.cells #[.bool false] 4 (0,0)))(hQ:∀ u43 u44 u45 u46 u47 u48 u49 u50 u51 W,W.heap[b]? = some (.cells #[.int .i64 k] 3 (0,0)) -> W.heap[b+1]? = some (.cells #[.int .i64 p] 3 (0,0)) -> W.heap[b+1+1]? = some (.cells #[.string t] 9 (0,0)) -> W.heap[b+1+1+1]? = some (.cells #[.bool false] 4 (0,0)) -> Below b w W -> Q .normal ⟨#[t0,t1,.pointer (some ⟨b,0,none⟩),.pointer (some ⟨b+1,0,none⟩),.pointer (some ⟨b+1+1,0,none⟩),.pointer (some ⟨b+1+1+1,0,none⟩),t6,t7,t8,t9,q,y,M,O,J,F,V,X,H,E,A,D,o,I,N,u,x,P,aa,v,s,C,R,U,T,L,Z,Y,ab,r,G,n,z,u43,u44,u45,u46,u47,u48,u49,u50,u51],fs⟩ W) :
  (Code.region 9 opr3.toArray true).wp prog Q ⟨#[t0,t1,.pointer (some ⟨b,0,none⟩),.pointer (some ⟨b+1,0,none⟩),.pointer (some ⟨b+1+1,0,none⟩),.pointer (some ⟨b+1+1+1,0,none⟩),t6,t7,t8,t9,q,y,M,O,J,F,V,X,H,E,A,D,o,I,N,u,x,P,aa,v,s,C,R,U,T,L,Z,Y,ab,r,G,n,z,ac,ah,ae,aj,af,ak,ad,ag,ai],fs⟩ w:=by
 have LB:b <= w.heap.size:=Nat.le_of_lt (Zao h0);have B:Below w.heap.size w w.drew:=Zar w;have i:=Zaa h0 B;have f:=Zaa h1 B;have h:=Zaa h2 B;have X3:=Zaa h3 B;refine wp_region_noPanic ?_;refine wp_region_held_drew (S:=fun j=>j.heap[b]? = some (.cells #[.int .i64 k] 3 (0,0))/\j.heap[b+1]? = some (.cells #[.int .i64 p] 3 (0,0))/\j.heap[b+1+1]? = some (.cells #[.string t] 9 (0,0))) (by kernel_rfl) ⟨i,f,h⟩ (fun a=>?_);refine tk 0 (.int .i64 k) nz (by kernel_rfl) (Or.inl ⟨by rfl,by intro j d;have c:=cd j (b) 0 _ _ _ d.1;go_simp⟩) ‹_› ?_;simp only [Act.put,sit,sc0,scs];refine tk 1 (.int .i64 p) (n1 nz) (by kernel_rfl) (Or.inl ⟨by rfl,by intro j d;have c:=cd j (b+1) 0 _ _ _ d.2.1;go_simp⟩) ‹_› ?_;simp only [Act.put,sit,sc0,scs]
 refine tk 2 (.string t) (n2 nz) (by kernel_rfl) (Or.inl ⟨by rfl,by intro j d;have c:=cd j (b+1+1) 0 _ _ _ d.2.2;go_simp⟩) ‹_› ?_;simp only [Act.put,sit,sc0,scs];refine wpAnyH_ready (rs:=[3]) (by kernel_rfl) (by simp) ?_;refine AllReadyH.cons rfl (fun K e=>?_) AllReadyH.nil;have g:=cd _ (b+1+1+1) 0 _ _ _ X3
 go_simp
 go_wp2_with fail;clear g;refine e.out _ _ ⟨i,f,h⟩ (fun a=>?_);clear e;refine tk 4 (.bool false) (n4 nz) (by kernel_rfl) (Or.inl ⟨by rfl,by intro w d;go_simp⟩) ‹_› ?_;simp only [Act.put,sit,sc0,scs];refine tk 5 (undef) (n4 (n1 nz)) (by kernel_rfl) (Or.inr ⟨by rfl,rfl⟩) ‹_› ?_;simp only [Act.put,sit,sc0,scs];refine tk 6 (undef) (n4 (n2 nz)) (by kernel_rfl) (Or.inr ⟨by rfl,rfl⟩) ‹_› ?_;simp only [Act.put,sit,sc0,scs];refine tk 7 (undef) (n4 (n2 (n1 nz))) (by kernel_rfl) (Or.inr ⟨by rfl,rfl⟩) ‹_› ?_;simp only [Act.put,sit,sc0,scs];refine tk 8 (.bool false) (n8 nz) (by kernel_rfl) (Or.inl ⟨by rfl,by intro w d;go_simp⟩) ‹_› ?_;simp only [Act.put,sit,sc0,scs];refine wpAnyH_ready (rs:=[9]) (by kernel_rfl) (by simp) ?_;refine AllReadyH.cons rfl (fun K e=>?_) AllReadyH.nil;have g:=cd _ (b) 0 _ _ _ i;have m:=cw _ (b) 0 _ _ i;have l:=Za0 (.int .i64 k) i
 go_simp
 go_wp2_with fail
 try rw [l]
 clear g m l;refine e.out _ _ ⟨i,f,h⟩ (fun a=>?_);clear e
 try simp only [Act.put]
 refine wpAnyH_ready (rs:=[10]) (by kernel_rfl) (by simp) ?_;refine AllReadyH.cons rfl (fun K e=>?_) AllReadyH.nil;have g:=cd _ (b+1) 0 _ _ _ f;have m:=cw _ (b+1) 0 _ _ f;have l:=Za0 (.int .i64 p) f
 go_simp
 go_wp2_with fail
 try rw [l]
 clear g m l;refine e.out _ _ ⟨i,f,h⟩ (fun a=>?_);clear e
 try simp only [Act.put]
 refine wpAnyH_ready (rs:=[11]) (by kernel_rfl) (by simp) ?_;refine AllReadyH.cons rfl (fun K e=>?_) AllReadyH.nil;have g:=cd _ (b+1+1) 0 _ _ _ h;have m:=cw _ (b+1+1) 0 _ _ h;have l:=Za0 (.string t) h
 go_simp
 go_wp2_with fail
 try rw [l]
 clear g m l;refine e.out _ _ ⟨i,f,h⟩ (fun a=>?_);clear e
 try simp only [Act.put]
 refine wpAnyH_ready (rs:=[12]) (by kernel_rfl) (by simp) ?_;refine AllReadyH.cons rfl (fun K e=>?_) AllReadyH.nil;have g:=cd _ (b+1+1+1) 0 _ _ _ X3;have m:=cw _ (b+1+1+1) 0 _ _ X3
 go_simp
 go_wp2_with fail;clear g m;have Y0:=(cr _ ⟨b+1+1+1,0,none⟩ b (.bool false) (by show b ≠ b+1+1+1;omega)).trans i;have Y1:=(cr _ ⟨b+1+1+1,0,none⟩ (b+1) (.bool false) (by show b+1 ≠ b+1+1+1;omega)).trans f;have Y2:=(cr _ ⟨b+1+1+1,0,none⟩ (b+1+1) (.bool false) (by show b+1+1 ≠ b+1+1+1;omega)).trans h;have Y3:=cu _ (b+1+1+1) 0 _ _ (.bool false) X3;replace B:Below b w _:=(B.mono LB).setCell (p:=⟨b+1+1+1,0,none⟩) (by show b <= b+1+1+1;omega) (.bool false);refine e.out _ _ ⟨Y0,Y1,Y2⟩ (fun a=>?_);clear e
 try simp only [Act.put]
 refine wpAnyH_done (by kernel_rfl) ?_ _;exact NoPanic.normal (hQ _ _ _ _ _ _ _ _ _ _ Y0 Y1 Y2 Y3 B)
theorem Zha {t0 t1 t7 t8 t9 ag A ac ae al ab M af O aa C Z z ak ad U ah J ap V T I E L am D an F R H aj G ai au aw ay ar av aA aq aB az:Value}{fs:List Deferred}(b:Nat)(k p:Int)(t:ByteArray)(w:World)(Q:Exit -> Act -> World -> Prop)(h0:w.heap[b]? = some (.cells #[.int .i64 k] 3 (0,0)))(h1:w.heap[b+1]? = some (.cells #[.int .i64 p] 3 (0,0)))(h2:w.heap[b+1+1]? = some (.cells #[.string t] 9 (0,0)))(h3:w.heap[b+1+1+1]? = some (.cells #[.bool true] 4 (0,0)))(x P:Nat)(a:Int)(v:Value)(zs:List Int)(hv:∃ ao aC,v=.slice ao zs.length aC)(h5:w.heap[x]? = some (.cells #[v,.pointer (some ⟨P,0,none⟩)] 231 (0,0)))(h6:One w P a)(N:x ≠ b+1+1+1)(hQ:∀ u43 u44 u45 u46 u47 u48 u49 u50 u51 W,W.heap[b]? = some (.cells #[.int .i64 k] 3 (0,0)) -> W.heap[b+1]? = some (.cells #[.int .i64 p] 3 (0,0)) -> W.heap[b+1+1]? = some (.cells #[.string t] 9 (0,0)) -> W.heap[b+1+1+1]? = some (.cells #[.bool (decide (zs.length <= a))] 4 (0,0)) -> Below b w W -> Q .normal ⟨#[t0,t1,.pointer (some ⟨b,0,none⟩),.pointer (some ⟨b+1,0,none⟩),.pointer (some ⟨b+1+1,0,none⟩),.pointer (some ⟨b+1+1+1,0,none⟩),.pointer (some ⟨x,0,none⟩),t7,t8,t9,ag,A,ac,ae,al,ab,M,af,O,aa,C,Z,z,ak,ad,U,ah,J,ap,V,T,I,E,L,am,D,an,F,R,H,aj,G,ai,u43,u44,u45,u46,u47,u48,u49,u50,u51],fs⟩ W) :
  (Code.region 9 opr3.toArray true).wp prog Q ⟨#[t0,t1,.pointer (some ⟨b,0,none⟩),.pointer (some ⟨b+1,0,none⟩),.pointer (some ⟨b+1+1,0,none⟩),.pointer (some ⟨b+1+1+1,0,none⟩),.pointer (some ⟨x,0,none⟩),t7,t8,t9,ag,A,ac,ae,al,ab,M,af,O,aa,C,Z,z,ak,ad,U,ah,J,ap,V,T,I,E,L,am,D,an,F,R,H,aj,G,ai,au,aw,ay,ar,av,aA,aq,aB,az],fs⟩ w:=by
 have LB:b <= w.heap.size:=Nat.le_of_lt (Zao h0);have B:Below w.heap.size w w.drew:=Zar w;have j:=Zaa h0 B;have i:=Zaa h1 B;have l:=Zaa h2 B;have u:=Zaa h3 B;refine wp_region_noPanic ?_;have q:=Zaa h5 B;replace h6:=h6.below B h6.lt;refine wp_region_held_drew (S:=fun s=>s.heap[b]? = some (.cells #[.int .i64 k] 3 (0,0))/\s.heap[b+1]? = some (.cells #[.int .i64 p] 3 (0,0))/\s.heap[b+1+1]? = some (.cells #[.string t] 9 (0,0))/\s.heap[x]? = some (.cells #[v,.pointer (some ⟨P,0,none⟩)] 231 (0,0))) (by kernel_rfl) ⟨j,i,l,q⟩ (fun d=>?_);refine tk 0 (.int .i64 k) nz (by kernel_rfl) (Or.inl ⟨by rfl,by intro s g;have c:=cd s (b) 0 _ _ _ g.1;go_simp⟩) ‹_› ?_;simp only [Act.put,sit,sc0,scs];refine tk 1 (.int .i64 p) (n1 nz) (by kernel_rfl) (Or.inl ⟨by rfl,by intro s g;have c:=cd s (b+1) 0 _ _ _ g.2.1;go_simp⟩) ‹_› ?_
 simp only [Act.put,sit,sc0,scs];refine tk 2 (.string t) (n2 nz) (by kernel_rfl) (Or.inl ⟨by rfl,by intro s g;have c:=cd s (b+1+1) 0 _ _ _ g.2.2.1;go_simp⟩) ‹_› ?_;simp only [Act.put,sit,sc0,scs];refine wpAnyH_ready (rs:=[3]) (by kernel_rfl) (by simp) ?_;refine AllReadyH.cons rfl (fun K f=>?_) AllReadyH.nil;have n:=cd _ (b+1+1+1) 0 _ _ _ u
 go_simp
 go_wp2_with fail;clear n;refine f.out _ _ ⟨j,i,l,q⟩ (fun d=>?_);clear f;refine tk 4 (.bool true) (n4 nz) (by kernel_rfl) (Or.inl ⟨by rfl,by intro w g;go_simp⟩) ‹_› ?_;simp only [Act.put,sit,sc0,scs];refine tk 5 (.agg #[v,.pointer (some ⟨P,0,none⟩)]) (n4 (n1 nz)) (by kernel_rfl) (ZaC (by rfl) 231 _ rfl x rfl #[v,.pointer (some ⟨P,0,none⟩)] 231 _ (fun _ h=>h.2.2.2) underlying231 rfl ZnR) ‹_› ?_;simp only [Act.put,sit,sc0,scs];refine wpAnyH_ready (rs:=[6]) (by kernel_rfl) (by simp) ?_;refine AllReadyH.cons rfl (fun K f=>?_) AllReadyH.nil
 go_simp
 go_wp2_with (go_at_call 166;with_reducible refine (Zdl v zs P a _ hv h6).mono ?_;rintro e wE ⟨r,rfl,he,y⟩)
 replace j:=Zaa j y;replace i:=Zaa i y;replace l:=Zaa l y;replace u:=Zaa u y;replace q:=Zaa q y;replace B:=B.trans (y.mono B.size);clear y;refine f.out _ _ ⟨j,i,l,q⟩ (fun d=>?_);clear f;rcases he with ⟨ax,pp,rfl⟩ | ⟨ax,rfl⟩
 ·unfold badV
  rw [show decide (zs.length <= a)=false by simp;omega] at hQ;refine tk 7 (.bool false) (n4 (n2 (n1 nz))) (by kernel_rfl) (Or.inl ⟨by rfl,by intro w g;go_simp⟩) ‹_› ?_;simp only [Act.put,sit,sc0,scs];refine tk 8 (.bool false) (n8 nz) (by kernel_rfl) (Or.inl ⟨by rfl,by intro w g;go_simp⟩) ‹_› ?_;simp only [Act.put,sit,sc0,scs];refine wpAnyH_ready (rs:=[9]) (by kernel_rfl) (by simp) ?_;refine AllReadyH.cons rfl (fun K f=>?_) AllReadyH.nil;have n:=cd _ (b) 0 _ _ _ j;have o:=cw _ (b) 0 _ _ j;have m:=Za0 (.int .i64 k) j
  go_simp
  go_wp2_with fail
  try rw [m]
  clear n o m;refine f.out _ _ ⟨j,i,l,q⟩ (fun d=>?_);clear f
  try simp only [Act.put]
  refine wpAnyH_ready (rs:=[10]) (by kernel_rfl) (by simp) ?_;refine AllReadyH.cons rfl (fun K f=>?_) AllReadyH.nil;have n:=cd _ (b+1) 0 _ _ _ i;have o:=cw _ (b+1) 0 _ _ i;have m:=Za0 (.int .i64 p) i
  go_simp
  go_wp2_with fail
  try rw [m]
  clear n o m;refine f.out _ _ ⟨j,i,l,q⟩ (fun d=>?_);clear f
  try simp only [Act.put]
  refine wpAnyH_ready (rs:=[11]) (by kernel_rfl) (by simp) ?_;refine AllReadyH.cons rfl (fun K f=>?_) AllReadyH.nil;have n:=cd _ (b+1+1) 0 _ _ _ l;have o:=cw _ (b+1+1) 0 _ _ l;have m:=Za0 (.string t) l
  go_simp
  go_wp2_with fail
  try rw [m]
  clear n o m;refine f.out _ _ ⟨j,i,l,q⟩ (fun d=>?_);clear f
  try simp only [Act.put]
  refine wpAnyH_ready (rs:=[12]) (by kernel_rfl) (by simp) ?_;refine AllReadyH.cons rfl (fun K f=>?_) AllReadyH.nil;have n:=cd _ (b+1+1+1) 0 _ _ _ u;have o:=cw _ (b+1+1+1) 0 _ _ u
  go_simp
  go_wp2_with fail;clear n o;have X:=(cr _ ⟨b+1+1+1,0,none⟩ b (.bool false) (by show b ≠ b+1+1+1;omega)).trans j;have Y:=(cr _ ⟨b+1+1+1,0,none⟩ (b+1) (.bool false) (by show b+1 ≠ b+1+1+1;omega)).trans i;have Y2:=(cr _ ⟨b+1+1+1,0,none⟩ (b+1+1) (.bool false) (by show b+1+1 ≠ b+1+1+1;omega)).trans l;have Y5:=(cr _ ⟨b+1+1+1,0,none⟩ x (.bool false) (by simpa using N)).trans q;have Y3:=cu _ (b+1+1+1) 0 _ _ (.bool false) u;replace B:Below b w _:=(B.mono LB).setCell (p:=⟨b+1+1+1,0,none⟩) (by show b <= b+1+1+1;omega) (.bool false);refine f.out _ _ ⟨X,Y,Y2,Y5⟩ (fun d=>?_);clear f
  try simp only [Act.put]
  refine wpAnyH_done (by kernel_rfl) ?_ _;exact NoPanic.normal (hQ _ _ _ _ _ _ _ _ _ _ X Y Y2 Y3 B)
 ·rw [show decide (zs.length <= a)=true by simp;omega] at hQ
  refine tk 7 (.bool true) (n4 (n2 (n1 nz))) (by kernel_rfl) (Or.inl ⟨by rfl,by intro w g;go_simp⟩) ‹_› ?_;simp only [Act.put,sit,sc0,scs];refine tk 8 (.bool true) (n8 nz) (by kernel_rfl) (Or.inl ⟨by rfl,by intro w g;go_simp⟩) ‹_› ?_;simp only [Act.put,sit,sc0,scs];refine wpAnyH_ready (rs:=[9]) (by kernel_rfl) (by simp) ?_;refine AllReadyH.cons rfl (fun K f=>?_) AllReadyH.nil;have n:=cd _ (b) 0 _ _ _ j;have o:=cw _ (b) 0 _ _ j;have m:=Za0 (.int .i64 k) j
  go_simp
  go_wp2_with fail
  try rw [m]
  clear n o m;refine f.out _ _ ⟨j,i,l,q⟩ (fun d=>?_);clear f
  try simp only [Act.put]
  refine wpAnyH_ready (rs:=[10]) (by kernel_rfl) (by simp) ?_;refine AllReadyH.cons rfl (fun K f=>?_) AllReadyH.nil;have n:=cd _ (b+1) 0 _ _ _ i;have o:=cw _ (b+1) 0 _ _ i;have m:=Za0 (.int .i64 p) i
  go_simp
  go_wp2_with fail
  try rw [m]
  clear n o m;refine f.out _ _ ⟨j,i,l,q⟩ (fun d=>?_);clear f
  try simp only [Act.put]
  refine wpAnyH_ready (rs:=[11]) (by kernel_rfl) (by simp) ?_;refine AllReadyH.cons rfl (fun K f=>?_) AllReadyH.nil;have n:=cd _ (b+1+1) 0 _ _ _ l;have o:=cw _ (b+1+1) 0 _ _ l;have m:=Za0 (.string t) l
  go_simp
  go_wp2_with fail
  try rw [m]
  clear n o m;refine f.out _ _ ⟨j,i,l,q⟩ (fun d=>?_);clear f
  try simp only [Act.put]
  refine wpAnyH_ready (rs:=[12]) (by kernel_rfl) (by simp) ?_;refine AllReadyH.cons rfl (fun K f=>?_) AllReadyH.nil;have n:=cd _ (b+1+1+1) 0 _ _ _ u;have o:=cw _ (b+1+1+1) 0 _ _ u
  go_simp
  go_wp2_with fail;clear n o;have X:=(cr _ ⟨b+1+1+1,0,none⟩ b (.bool true) (by show b ≠ b+1+1+1;omega)).trans j;have Y:=(cr _ ⟨b+1+1+1,0,none⟩ (b+1) (.bool true) (by show b+1 ≠ b+1+1+1;omega)).trans i;have Y2:=(cr _ ⟨b+1+1+1,0,none⟩ (b+1+1) (.bool true) (by show b+1+1 ≠ b+1+1+1;omega)).trans l;have Y5:=(cr _ ⟨b+1+1+1,0,none⟩ x (.bool true) (by simpa using N)).trans q;have Y3:=cu _ (b+1+1+1) 0 _ _ (.bool true) u;replace B:Below b w _:=(B.mono LB).setCell (p:=⟨b+1+1+1,0,none⟩) (by show b <= b+1+1+1;omega) (.bool true);refine f.out _ _ ⟨X,Y,Y2,Y5⟩ (fun d=>?_);clear f
  try simp only [Act.put]
  refine wpAnyH_done (by kernel_rfl) ?_ _;exact NoPanic.normal (hQ _ _ _ _ _ _ _ _ _ _ X Y Y2 Y3 B)
end Go.Proofs.YtkpfangkfknhoaaGreatDoor
