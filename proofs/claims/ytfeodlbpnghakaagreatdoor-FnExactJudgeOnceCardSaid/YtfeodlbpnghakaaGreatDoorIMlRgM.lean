/-
  Texts that stood by themselves, laid into one.
-/
import Derived.Test.YtfeodlbpnghakaaGreatDoorXRM
import Derived.Test.YtfeodlbpnghakaaGreatDoorS12tM
import Derived.Test.YtfeodlbpnghakaaGreatDoorSPTextM
import Derived.Test.YtfeodlbpnghakaaGreatDoorMRgM
import Derived.Test.YtfeodlbpnghakaaGreatDoorShapeM
/-
  The contract of spec.MailRead. No condition but bounds.
-/
set_option maxRecDepth 100000
set_option maxHeartbeats 6400000
namespace Go.Proofs.YtfeodlbpnghakaaGreatDoor
open Go.RowKit
theorem Zhb {zs:List Int}{k p a:Int}{t:ByteArray}{n:Int}{ok:Bool}(h:txt8 zs a true=(t,n,ok)):mEnd zs k p a=if ok=true/\n=zs.length then some (k,p,t) else none:=by
 unfold mEnd
 rw [Zgk] at h
 cases b:rt zs a with
 | none =>
  rw [b] at h
  simp only [Prod.mk.injEq] at h
  obtain ⟨_,_,rfl⟩:=h
  simp
 | some q =>
  rw [b] at h
  simp only [Prod.mk.injEq] at h
  obtain ⟨rfl,rfl,rfl⟩:=h
  simp
theorem ZhW (s:ByteArray)(w:World)(hs:s.size <= 1048576) :
  Calls Tryz.prog 45 #[.string s] w fun e w'=>e=.returned (mrA (mrd (sb s)))/\Below w.heap.size w w':=by
 have I:=ZaJ s
 go_enter Tryz.func45,Tryz.ntmps45
 go_wp2_with (first
  | (refine Zbd _ rfl _ 9 161 5 rfl Tryz.underlying9 Tryz.underlying161 Tryz.underlying5 s rfl ?_;intro l c Y T S L))
 have M:=Zbm (w:=w) (by omega) Y T L
 have b:Below w.heap.size w c:=(Below.refl _ w).grown S (Nat.le_refl _) (fun k j=>by cases j)
 clear T S Y
 have R:=Zap c (Obj.cells #[.slice (some ⟨w.heap.size,0,none⟩) s.size l,.int .i64 0,.bool true] 163)
 have d:C8 (c.alloc (Obj.cells #[.slice (some ⟨w.heap.size,0,none⟩) s.size l,.int .i64 0,.bool true] 163)) c.heap.size (.slice (some ⟨w.heap.size,0,none⟩) s.size l) 0 true:=heap_alloc_new _ _
 have o:Below c.heap.size c (c.alloc (Obj.cells #[.slice (some ⟨w.heap.size,0,none⟩) s.size l,.int .i64 0,.bool true] 163)):=R
 replace b:=b.trans (R.mono b.size)
 clear R
 obtain ⟨u0,N⟩:∃ u,c.alloc (Obj.cells #[.slice (some ⟨w.heap.size,0,none⟩) s.size l,.int .i64 0,.bool true] 163)=u:=⟨_,rfl⟩
 rw [N] at d o b ⊢
 clear N
 obtain ⟨V,W⟩:∃ V,V=(Value.slice (some ⟨w.heap.size,0,none⟩) s.size l):=⟨_,rfl⟩
 rw [<- W] at d M
 clear W
 have y:=Zb3 c.heap.size V (sb s) 0 true u0 (M.below o) d (by omega) (by omega)
 have f:=Zc1 (sb s) 0 true (by omega) (by omega)
 have J:Hid (mrd (sb s)=(rd1 (sb s) 0).bind fun k=>if k.1=1 then (rd1 (sb s) k.2).bind fun p=>mEnd (sb s) 1 p.1 p.2 else if k.1=2 then mEnd (sb s) 2 0 k.2 else none):=rfl
 have v:=ZaK (sb s) 0
 obtain ⟨G,r⟩:∃ n,num8 (sb s) 0 true=n:=⟨_,rfl⟩
 obtain ⟨k,B,F⟩:=G
 rw [r] at y f v
 simp only at y f v
 obtain ⟨_,_,P,Q⟩:=f
 have H:Hid ((F=true -> rd1 (sb s) 0=some (k,B))/\(F=false -> rd1 (sb s) 0=none/\k=0)):=by
  cases h:rd1 (sb s) 0 with
  | none =>
   have e:=ZaF h
   rw [e] at r
   cases r
   exact ⟨fun h=>(by cases h),fun _=>⟨rfl,rfl⟩⟩
  | some q =>
   have e:=v.2 q h
   simp only [Prod.mk.injEq] at e
   obtain ⟨rfl,rfl,rfl⟩:=e
   exact ⟨fun _=>rfl,fun h=>by cases h⟩
 clear r v
 refine y.mono ?_
 rintro e u1 ⟨rfl,d,g⟩
 replace b:=b.grown g b.size (fun k j=>by cases j;exact Nat.le_of_lt L)
 replace o:=o.grown g o.size (fun k j=>by cases j;omega)
 clear y g
 have K:∀ (p C:Int) (k2:Bool) (u:World),0 <= C -> C <= (sb s).length -> C8 u c.heap.size V C k2 -> Below w.heap.size w u -> Below c.heap.size c u -> (k2=true -> mrd (sb s)=if 1 <= k/\k <= 2 then mEnd (sb s) k p C else none) -> (k2=false -> mrd (sb s)=none) -> True:=fun _ _ _ _ _ _ _ _ _ _ _=>trivial
 by_cases U:k=1
 ·subst U
  obtain rfl:F=true:=by
   cases F with
   | true=>rfl
   | false=>exact absurd (H.out.2 rfl).2 (by decide)
  have X:=H.out.1 rfl
  have y:=Zb3 c.heap.size V (sb s) B true u1 (M.below o) d (by omega) (by omega)
  have f:=Zc1 (sb s) B true P Q
  have v:=ZaK (sb s) B
  obtain ⟨G,r⟩:∃ n,num8 (sb s) B true=n:=⟨_,rfl⟩
  obtain ⟨p,C,k2⟩:=G
  rw [r] at y f v
  simp only at y f v
  obtain ⟨_,_,aa,Z⟩:=f
  have O:Hid ((k2=true -> mrd (sb s)=mEnd (sb s) 1 p C)/\(k2=false -> mrd (sb s)=none)):=by
   unfold Hid
   rw [J.out,X]
   simp only [Option.bind_some,if_pos]
   cases h:rd1 (sb s) B with
   | none =>
    have e:=ZaF h
    rw [e] at r
    cases r
    exact ⟨fun h=>(by cases h),fun _=>rfl⟩
   | some q =>
    have e:=v.2 q h
    simp only [Prod.mk.injEq] at e
    obtain ⟨rfl,rfl,rfl⟩:=e
    exact ⟨fun _=>rfl,fun h=>by cases h⟩
  clear r v J H X
  go_wp2_with fail
  refine y.mono ?_
  rintro e u2 ⟨rfl,d,g⟩
  replace b:=b.grown g b.size (fun k j=>by cases j;exact Nat.le_of_lt L)
  replace o:=o.grown g o.size (fun k j=>by cases j;omega)
  clear y g K
  have x:=ZcU c.heap.size V (sb s) C k2 u2 (M.below o) d (by omega) (by omega)
  obtain ⟨G,m⟩:∃ n,txt8 (sb s) C k2=n:=⟨_,rfl⟩
  obtain ⟨t,E,D⟩:=G
  rw [m] at x
  simp only at x
  have i:Hid (mrd (sb s)=if D=true/\E=s.size then some (1,p,t) else none):=by
   unfold Hid
   cases k2 with
   | false=>rw [Zes] at m;cases m;rw [O.out.2 rfl];simp
   | true=>rw [O.out.1 rfl,Zhb m,I]
  clear m O
  go_wp2_with fail
  refine x.mono ?_
  rintro e u3 ⟨rfl,d,g⟩
  replace b:=b.grown g b.size (fun k j=>by cases j;exact Nat.le_of_lt L)
  clear x g
  unfold C8 at d
  have x1:u3.cell? ⟨c.heap.size,1,none⟩=some (.int .i64 E):=cell_of_row _ _ 1 _ _ _ d
  have x2:u3.cell? ⟨c.heap.size,2,none⟩=some (.bool D):=cell_of_row _ _ 2 _ _ _ d
  cases D with
  | false =>
   have a:Hid (mrd (sb s)=none):=by unfold Hid;rw [i.out];simp
   clear i
   go_wp2
   (try simp only [Exit.inBlock,Exit.then])
   refine bodyPost_ret (ZaS rfl _ _ _) rfl ?_
   exact ⟨by rw [a.out];rfl,b⟩
  | true =>
   by_cases A:E=s.size
   ·have a:Hid (mrd (sb s)=some (1,p,t)):=by unfold Hid;rw [i.out];simp [A]
    clear i
    subst A
    go_wp2_with fail
    refine (Zar _ _ _ _).mono ?_
    rintro e u4 ⟨rfl,rfl⟩
    go_wp2
    (try simp only [Exit.inBlock,Exit.then])
    refine bodyPost_ret (ZaS rfl _ _ _) rfl ?_
    exact ⟨by rw [a.out];rfl,b⟩
   ·have a:Hid (mrd (sb s)=none):=by unfold Hid;rw [i.out];simp [A]
    clear i
    go_wp2
    (try simp only [Exit.inBlock,Exit.then])
    refine bodyPost_ret (ZaS rfl _ _ _) rfl ?_
    exact ⟨by rw [a.out];rfl,b⟩
 ·clear K
  have x:=ZcU c.heap.size V (sb s) B F u1 (M.below o) d (by omega) (by omega)
  obtain ⟨G,m⟩:∃ n,txt8 (sb s) B F=n:=⟨_,rfl⟩
  obtain ⟨t,E,D⟩:=G
  rw [m] at x
  simp only at x
  have i:Hid (mrd (sb s)=if D=true/\E=s.size/\k=2 then some (2,0,t) else none):=by
   unfold Hid
   cases F with
   | false=>rw [Zes] at m;cases m;rw [J.out,(H.out.2 rfl).1];simp
   | true =>
    rw [J.out,H.out.1 rfl]
    simp only [Option.bind_some,if_neg U]
    by_cases z:k=2
    ·rw [if_pos z,Zhb m,I];simp [z]
    ·rw [if_neg z];simp [z]
  clear m J H
  go_wp2_with fail
  refine x.mono ?_
  rintro e u3 ⟨rfl,d,g⟩
  replace b:=b.grown g b.size (fun k j=>by cases j;exact Nat.le_of_lt L)
  clear x g
  unfold C8 at d
  have x1:u3.cell? ⟨c.heap.size,1,none⟩=some (.int .i64 E):=cell_of_row _ _ 1 _ _ _ d
  have x2:u3.cell? ⟨c.heap.size,2,none⟩=some (.bool D):=cell_of_row _ _ 2 _ _ _ d
  cases D with
  | false =>
   have a:Hid (mrd (sb s)=none):=by unfold Hid;rw [i.out];simp
   clear i
   go_wp2
   (try simp only [Exit.inBlock,Exit.then])
   refine bodyPost_ret (ZaS rfl _ _ _) rfl ?_
   exact ⟨by rw [a.out];rfl,b⟩
  | true =>
   by_cases A:E=s.size
   ·by_cases z:k=2
    ·have a:Hid (mrd (sb s)=some (2,0,t)):=by unfold Hid;rw [i.out];simp [A,z]
     clear i
     subst A
     subst z
     go_wp2_with fail
     refine (Zar _ _ _ _).mono ?_
     rintro e u4 ⟨rfl,rfl⟩
     go_wp2
     (try simp only [Exit.inBlock,Exit.then])
     refine bodyPost_ret (ZaS rfl _ _ _) rfl ?_
     exact ⟨by rw [a.out];rfl,b⟩
    ·have a:Hid (mrd (sb s)=none):=by unfold Hid;rw [i.out];simp [z]
     clear i
     subst A
     have hi:(decide (1 <= k) && decide (k <= 2))=false:=by simp;omega
     go_wp2_with fail
     refine (Zar _ _ _ _).mono ?_
     rintro e u4 ⟨rfl,rfl⟩
     rw [hi]
     go_wp2
     (try simp only [Exit.inBlock,Exit.then])
     refine bodyPost_ret (ZaS rfl _ _ _) rfl ?_
     exact ⟨by rw [a.out];rfl,b⟩
   ·have a:Hid (mrd (sb s)=none):=by unfold Hid;rw [i.out];simp [A]
    clear i
    go_wp2
    (try simp only [Exit.inBlock,Exit.then])
    refine bodyPost_ret (ZaS rfl _ _ _) rfl ?_
    exact ⟨by rw [a.out];rfl,b⟩
theorem ZaY {w:World}{b:Nat}(v:Value){t:TypeId}(h:w.heap[b]? = some (.cells #[v] t (0,0))):w.setCell ⟨b,0,none⟩ v=w:=by
 have e:(w.setCell ⟨b,0,none⟩ v).heap=w.heap:=by
  apply Array.ext_getElem?
  intro i
  by_cases hi:i=b
  ·subst hi
   rw [heap_setCell_same w i 0 _ _ v h,h]
   rfl
  ·exact heap_setCell_other w ⟨b,0,none⟩ i v hi
 have:∀ {x y:World},x.heap=y.heap -> x.tape=y.tape -> x.drawn=y.drawn -> x.os=y.os -> x.output=y.output -> x=y:=by
  intro x y a c d g f
  cases x;cases y;simp_all
 exact this e rfl rfl rfl rfl
theorem Zgq {t0 t1 t6 t7 t8 t9 r P z T H af M ab ag Z X x ah u o A D ad y G E R U V ae ai ak aj Y I q N v s aa ac O J C F n L:Value}{fs:List Deferred}(b:Nat)(k p:Int)(t:ByteArray)(w:World)(Q:Exit -> Act -> World -> Prop)(h0:w.heap[b]? = some (.cells #[.int .i64 k] 3 (0,0)))(h1:w.heap[b+1]? = some (.cells #[.int .i64 p] 3 (0,0)))(h2:w.heap[b+1+1]? = some (.cells #[.string t] 9 (0,0)))(ok:Bool)(h3:w.heap[b+1+1+1]? = some (.cells #[.bool ok] 4 (0,0)))(hQ:∀ u35 u36 u37 W,W.heap[b]? = some (.cells #[.int .i64 k] 3 (0,0)) -> W.heap[b+1]? = some (.cells #[.int .i64 p] 3 (0,0)) -> W.heap[b+1+1]? = some (.cells #[.string t] 9 (0,0)) -> W.heap[b+1+1+1]? = some (.cells #[.bool false] 4 (0,0)) -> Below b w W -> Q .normal ⟨#[t0,t1,.pointer (some ⟨b,0,none⟩),.pointer (some ⟨b+1,0,none⟩),.pointer (some ⟨b+1+1,0,none⟩),.pointer (some ⟨b+1+1+1,0,none⟩),t6,t7,t8,t9,r,P,z,T,H,af,M,ab,ag,Z,X,x,ah,u,o,A,D,ad,y,G,E,R,U,V,ae,u35,u36,u37,Y,I,q,N,v,s,aa,ac,O,J,C,F,n,L],fs⟩ W) :
  (Code.region 7 (List.toArray (⟨some 35,.load 3 (.tmp 2),3, "l13_world.go:81", #[],none⟩ :: ⟨some 36,.load 3 (.tmp 3),3, "l13_world.go:81", #[],none⟩ :: ⟨some 37,.load 9 (.tmp 4),9, "l13_world.go:81", #[],none⟩ :: ⟨none,.store 3 (.tmp 2) (.tmp 35),0, "l13_world.go:81", #[⟨0,.data⟩,⟨0,.phase⟩,{ on:=1,ground:=Ground.textOnly Departure.lateStoresUnsure },{ on:=2,ground:=Ground.textOnly Departure.lateStoresUnsure }],none⟩ :: ⟨none,.store 3 (.tmp 3) (.tmp 36),0, "l13_world.go:81", #[⟨1,.data⟩,⟨3,.chain⟩,⟨0,.phase⟩,⟨1,.phase⟩,{ on:=2,ground:=Ground.textOnly Departure.lateStoresUnsure },⟨3,.phase⟩],none⟩ :: ⟨none,.store 9 (.tmp 4) (.tmp 37),0, "l13_world.go:81", #[⟨2,.data⟩,⟨4,.chain⟩,⟨0,.phase⟩,⟨1,.phase⟩,⟨2,.phase⟩,⟨3,.phase⟩,⟨4,.phase⟩],none⟩ :: ⟨none,.store 4 (.tmp 5) (.const (.bool false)),0, "l13_world.go:81", #[⟨5,.chain⟩,⟨0,.phase⟩,⟨1,.phase⟩,⟨2,.phase⟩,⟨3,.phase⟩,⟨4,.phase⟩,⟨5,.phase⟩],none⟩ :: [])) true).wp Tryz.prog Q ⟨#[t0,t1,.pointer (some ⟨b,0,none⟩),.pointer (some ⟨b+1,0,none⟩),.pointer (some ⟨b+1+1,0,none⟩),.pointer (some ⟨b+1+1+1,0,none⟩),t6,t7,t8,t9,r,P,z,T,H,af,M,ab,ag,Z,X,x,ah,u,o,A,D,ad,y,G,E,R,U,V,ae,ai,ak,aj,Y,I,q,N,v,s,aa,ac,O,J,C,F,n,L],fs⟩ w:=by
 have LB:b <= w.heap.size:=Nat.le_of_lt (Zao h0)
 have B:Below w.heap.size w w.drew:=Zaw w
 have g:=Zae h0 B
 have h:=Zae h1 B
 have j:=Zae h2 B
 have X3:=Zae h3 B
 refine wp_region_noPanic ?_
 refine wp_region_held_drew (S:=fun f=>f.heap[b]? = some (.cells #[.int .i64 k] 3 (0,0))/\f.heap[b+1]? = some (.cells #[.int .i64 p] 3 (0,0))/\f.heap[b+1+1]? = some (.cells #[.string t] 9 (0,0))) (by kernel_rfl) ⟨g,h,j⟩ (fun a=>?_)
 refine tk 0 (.int .i64 k) nz (by kernel_rfl) (Or.inl ⟨by rfl,by intro f e;have c:=cell_of_row f (b) 0 _ _ _ e.1;go_simp⟩) ‹_› ?_
 simp only [Act.put,sit,sc0,scs]
 refine tk 1 (.int .i64 p) (n1 nz) (by kernel_rfl) (Or.inl ⟨by rfl,by intro f e;have c:=cell_of_row f (b+1) 0 _ _ _ e.2.1;go_simp⟩) ‹_› ?_
 simp only [Act.put,sit,sc0,scs]
 refine tk 2 (.string t) (n2 nz) (by kernel_rfl) (Or.inl ⟨by rfl,by intro f e;have c:=cell_of_row f (b+1+1) 0 _ _ _ e.2.2;go_simp⟩) ‹_› ?_
 simp only [Act.put,sit,sc0,scs]
 refine wpAnyH_ready (rs:=[3]) (by kernel_rfl) (by simp) ?_
 refine AllReadyH.cons rfl (fun K d=>?_) AllReadyH.nil
 have l:=cell_of_row _ (b) 0 _ _ _ g
 have m:=frozen_of_row _ (b) 0 _ _ g
 have i:=ZaY (.int .i64 k) g
 go_simp
 go_wp2_with fail
 try rw [i]
 clear l m i
 refine d.out _ _ ⟨g,h,j⟩ (fun a=>?_)
 clear d
 try simp only [Act.put]
 refine wpAnyH_ready (rs:=[4]) (by kernel_rfl) (by simp) ?_
 refine AllReadyH.cons rfl (fun K d=>?_) AllReadyH.nil
 have l:=cell_of_row _ (b+1) 0 _ _ _ h
 have m:=frozen_of_row _ (b+1) 0 _ _ h
 have i:=ZaY (.int .i64 p) h
 go_simp
 go_wp2_with fail
 try rw [i]
 clear l m i
 refine d.out _ _ ⟨g,h,j⟩ (fun a=>?_)
 clear d
 try simp only [Act.put]
 refine wpAnyH_ready (rs:=[5]) (by kernel_rfl) (by simp) ?_
 refine AllReadyH.cons rfl (fun K d=>?_) AllReadyH.nil
 have l:=cell_of_row _ (b+1+1) 0 _ _ _ j
 have m:=frozen_of_row _ (b+1+1) 0 _ _ j
 have i:=ZaY (.string t) j
 go_simp
 go_wp2_with fail
 try rw [i]
 clear l m i
 refine d.out _ _ ⟨g,h,j⟩ (fun a=>?_)
 clear d
 try simp only [Act.put]
 refine wpAnyH_ready (rs:=[6]) (by kernel_rfl) (by simp) ?_
 refine AllReadyH.cons rfl (fun K d=>?_) AllReadyH.nil
 have l:=cell_of_row _ (b+1+1+1) 0 _ _ _ X3
 have m:=frozen_of_row _ (b+1+1+1) 0 _ _ X3
 go_simp
 go_wp2_with fail
 clear l m
 have Y0:=(heap_setCell_other _ ⟨b+1+1+1,0,none⟩ b (.bool false) (by show b ≠ b+1+1+1;omega)).trans g
 have Y1:=(heap_setCell_other _ ⟨b+1+1+1,0,none⟩ (b+1) (.bool false) (by show b+1 ≠ b+1+1+1;omega)).trans h
 have Y2:=(heap_setCell_other _ ⟨b+1+1+1,0,none⟩ (b+1+1) (.bool false) (by show b+1+1 ≠ b+1+1+1;omega)).trans j
 have Y3:=heap_setCell_same _ (b+1+1+1) 0 _ _ (.bool false) X3
 replace B:Below b w _:=(B.mono LB).setCell (p:=⟨b+1+1+1,0,none⟩) (by show b <= b+1+1+1;omega) (.bool false)
 refine d.out _ _ ⟨Y0,Y1,Y2⟩ (fun a=>?_)
 clear d
 try simp only [Act.put]
 refine wpAnyH_done (by kernel_rfl) ?_ _
 exact NoPanic.normal (hQ _ _ _ _ Y0 Y1 Y2 Y3 B)
abbrev opr3:List Oper:=⟨some 43,.load 3 (.tmp 2),3, "l13_world.go:84", #[],none⟩ :: ⟨some 44,.load 3 (.tmp 3),3, "l13_world.go:84", #[],none⟩ :: ⟨some 45,.load 9 (.tmp 4),9, "l13_world.go:84", #[],none⟩ :: ⟨some 46,.load 4 (.tmp 5),4, "l13_world.go:84", #[],none⟩ :: ⟨some 47,.move (.tmp 46),4, "l13_world.go:84", #[⟨3,.data⟩],none⟩ :: ⟨some 48,.load 235 (.tmp 6),235, "l13_world.go:84", #[⟨4,.guard⟩],some (4,true)⟩ :: ⟨some 49,.call { callee:=.value (.func 163),args:=#[.tmp 48],argTypes:=#[235] },240, "l13_world.go:84", #[⟨5,.data⟩,⟨4,.chain⟩,⟨4,.guard⟩],some (4,true)⟩ :: ⟨some 50,.binOp .eql 240 (.tmp 49) (.const .nilIface) 240,4, "l13_world.go:84", #[⟨6,.data⟩,⟨4,.guard⟩],some (4,true)⟩ :: ⟨some 51,.pick (.tmp 47) (.tmp 50) (.const (.bool false)),4, "l13_world.go:84", #[⟨4,.data⟩,⟨7,.data⟩],none⟩ :: ⟨none,.store 3 (.tmp 2) (.tmp 43),0, "l13_world.go:84", #[⟨0,.data⟩,⟨6,.chain⟩,⟨0,.phase⟩,{ on:=1,ground:=Ground.textOnly Departure.lateStoresUnsure },{ on:=2,ground:=Ground.textOnly Departure.lateStoresUnsure },{ on:=3,ground:=Ground.textOnly Departure.lateStoresUnsure },{ on:=4,ground:=Ground.textOnly Departure.lateStoresUnsure },{ on:=5,ground:=Ground.textOnly Departure.lateStoresUnsure },{ on:=6,ground:=Ground.textOnly Departure.lateStoresUnsure },{ on:=7,ground:=Ground.textOnly Departure.lateStoresUnsure },{ on:=8,ground:=Ground.textOnly Departure.lateStoresUnsure }],none⟩ :: ⟨none,.store 3 (.tmp 3) (.tmp 44),0, "l13_world.go:84", #[⟨1,.data⟩,⟨9,.chain⟩,⟨0,.phase⟩,⟨1,.phase⟩,{ on:=2,ground:=Ground.textOnly Departure.lateStoresUnsure },{ on:=3,ground:=Ground.textOnly Departure.lateStoresUnsure },{ on:=4,ground:=Ground.textOnly Departure.lateStoresUnsure },{ on:=5,ground:=Ground.textOnly Departure.lateStoresUnsure },{ on:=6,ground:=Ground.textOnly Departure.lateStoresUnsure },{ on:=7,ground:=Ground.textOnly Departure.lateStoresUnsure },{ on:=8,ground:=Ground.textOnly Departure.lateStoresUnsure },⟨9,.phase⟩],none⟩ :: ⟨none,.store 9 (.tmp 4) (.tmp 45),0, "l13_world.go:84", #[⟨2,.data⟩,⟨10,.chain⟩,⟨0,.phase⟩,⟨1,.phase⟩,⟨2,.phase⟩,{ on:=3,ground:=Ground.textOnly Departure.lateStoresUnsure },{ on:=4,ground:=Ground.textOnly Departure.lateStoresUnsure },{ on:=5,ground:=Ground.textOnly Departure.lateStoresUnsure },{ on:=6,ground:=Ground.textOnly Departure.lateStoresUnsure },{ on:=7,ground:=Ground.textOnly Departure.lateStoresUnsure },{ on:=8,ground:=Ground.textOnly Departure.lateStoresUnsure },⟨9,.phase⟩,⟨10,.phase⟩],none⟩ :: ⟨none,.store 4 (.tmp 5) (.tmp 51),0, "l13_world.go:84", #[⟨8,.data⟩,⟨11,.chain⟩,⟨0,.phase⟩,⟨1,.phase⟩,⟨2,.phase⟩,⟨3,.phase⟩,⟨4,.phase⟩,⟨5,.phase⟩,⟨6,.phase⟩,⟨7,.phase⟩,⟨8,.phase⟩,⟨9,.phase⟩,⟨10,.phase⟩,⟨11,.phase⟩],none⟩ :: []
theorem ZgR {t0 t1 t6 t7 t8 t9 r I y N E Z G V aa U R v ab s n z C X x D A J O P Y q M L T F o H u ad aj ak ai ag ae af ac ah:Value}{fs:List Deferred}(b:Nat)(k p:Int)(t:ByteArray)(w:World)(Q:Exit -> Act -> World -> Prop)(h0:w.heap[b]? = some (.cells #[.int .i64 k] 3 (0,0)))(h1:w.heap[b+1]? = some (.cells #[.int .i64 p] 3 (0,0)))(h2:w.heap[b+1+1]? = some (.cells #[.string t] 9 (0,0)))(h3:w.heap[b+1+1+1]? = some (.cells #[.bool false] 4 (0,0)))(hQ:∀ u43 u44 u45 u46 u47 u48 u49 u50 u51 W,W.heap[b]? = some (.cells #[.int .i64 k] 3 (0,0)) -> W.heap[b+1]? = some (.cells #[.int .i64 p] 3 (0,0)) -> W.heap[b+1+1]? = some (.cells #[.string t] 9 (0,0)) -> W.heap[b+1+1+1]? = some (.cells #[.bool false] 4 (0,0)) -> Below b w W -> Q .normal ⟨#[t0,t1,.pointer (some ⟨b,0,none⟩),.pointer (some ⟨b+1,0,none⟩),.pointer (some ⟨b+1+1,0,none⟩),.pointer (some ⟨b+1+1+1,0,none⟩),t6,t7,t8,t9,r,I,y,N,E,Z,G,V,aa,U,R,v,ab,s,n,z,C,X,x,D,A,J,O,P,Y,q,M,L,T,F,o,H,u,u43,u44,u45,u46,u47,u48,u49,u50,u51],fs⟩ W) :
  (Code.region 9 opr3.toArray true).wp Tryz.prog Q ⟨#[t0,t1,.pointer (some ⟨b,0,none⟩),.pointer (some ⟨b+1,0,none⟩),.pointer (some ⟨b+1+1,0,none⟩),.pointer (some ⟨b+1+1+1,0,none⟩),t6,t7,t8,t9,r,I,y,N,E,Z,G,V,aa,U,R,v,ab,s,n,z,C,X,x,D,A,J,O,P,Y,q,M,L,T,F,o,H,u,ad,aj,ak,ai,ag,ae,af,ac,ah],fs⟩ w:=by
 have LB:b <= w.heap.size:=Nat.le_of_lt (Zao h0)
 have B:Below w.heap.size w w.drew:=Zaw w
 have f:=Zae h0 B
 have g:=Zae h1 B
 have h:=Zae h2 B
 have X3:=Zae h3 B
 refine wp_region_noPanic ?_
 refine wp_region_held_drew (S:=fun j=>j.heap[b]? = some (.cells #[.int .i64 k] 3 (0,0))/\j.heap[b+1]? = some (.cells #[.int .i64 p] 3 (0,0))/\j.heap[b+1+1]? = some (.cells #[.string t] 9 (0,0))) (by kernel_rfl) ⟨f,g,h⟩ (fun a=>?_)
 refine tk 0 (.int .i64 k) nz (by kernel_rfl) (Or.inl ⟨by rfl,by intro j d;have c:=cell_of_row j (b) 0 _ _ _ d.1;go_simp⟩) ‹_› ?_
 simp only [Act.put,sit,sc0,scs]
 refine tk 1 (.int .i64 p) (n1 nz) (by kernel_rfl) (Or.inl ⟨by rfl,by intro j d;have c:=cell_of_row j (b+1) 0 _ _ _ d.2.1;go_simp⟩) ‹_› ?_
 simp only [Act.put,sit,sc0,scs]
 refine tk 2 (.string t) (n2 nz) (by kernel_rfl) (Or.inl ⟨by rfl,by intro j d;have c:=cell_of_row j (b+1+1) 0 _ _ _ d.2.2;go_simp⟩) ‹_› ?_
 simp only [Act.put,sit,sc0,scs]
 refine wpAnyH_ready (rs:=[3]) (by kernel_rfl) (by simp) ?_
 refine AllReadyH.cons rfl (fun K e=>?_) AllReadyH.nil
 have i:=cell_of_row _ (b+1+1+1) 0 _ _ _ X3
 go_simp
 go_wp2_with fail
 clear i
 refine e.out _ _ ⟨f,g,h⟩ (fun a=>?_)
 clear e
 refine tk 4 (.bool false) (n4 nz) (by kernel_rfl) (Or.inl ⟨by rfl,by intro w d;go_simp⟩) ‹_› ?_
 simp only [Act.put,sit,sc0,scs]
 refine tk 5 (undef) (n4 (n1 nz)) (by kernel_rfl) (Or.inr ⟨by rfl,rfl⟩) ‹_› ?_
 simp only [Act.put,sit,sc0,scs]
 refine tk 6 (undef) (n4 (n2 nz)) (by kernel_rfl) (Or.inr ⟨by rfl,rfl⟩) ‹_› ?_
 simp only [Act.put,sit,sc0,scs]
 refine tk 7 (undef) (n4 (n2 (n1 nz))) (by kernel_rfl) (Or.inr ⟨by rfl,rfl⟩) ‹_› ?_
 simp only [Act.put,sit,sc0,scs]
 refine tk 8 (.bool false) (n8 nz) (by kernel_rfl) (Or.inl ⟨by rfl,by intro w d;go_simp⟩) ‹_› ?_
 simp only [Act.put,sit,sc0,scs]
 refine wpAnyH_ready (rs:=[9]) (by kernel_rfl) (by simp) ?_
 refine AllReadyH.cons rfl (fun K e=>?_) AllReadyH.nil
 have i:=cell_of_row _ (b) 0 _ _ _ f
 have m:=frozen_of_row _ (b) 0 _ _ f
 have l:=ZaY (.int .i64 k) f
 go_simp
 go_wp2_with fail
 try rw [l]
 clear i m l
 refine e.out _ _ ⟨f,g,h⟩ (fun a=>?_)
 clear e
 try simp only [Act.put]
 refine wpAnyH_ready (rs:=[10]) (by kernel_rfl) (by simp) ?_
 refine AllReadyH.cons rfl (fun K e=>?_) AllReadyH.nil
 have i:=cell_of_row _ (b+1) 0 _ _ _ g
 have m:=frozen_of_row _ (b+1) 0 _ _ g
 have l:=ZaY (.int .i64 p) g
 go_simp
 go_wp2_with fail
 try rw [l]
 clear i m l
 refine e.out _ _ ⟨f,g,h⟩ (fun a=>?_)
 clear e
 try simp only [Act.put]
 refine wpAnyH_ready (rs:=[11]) (by kernel_rfl) (by simp) ?_
 refine AllReadyH.cons rfl (fun K e=>?_) AllReadyH.nil
 have i:=cell_of_row _ (b+1+1) 0 _ _ _ h
 have m:=frozen_of_row _ (b+1+1) 0 _ _ h
 have l:=ZaY (.string t) h
 go_simp
 go_wp2_with fail
 try rw [l]
 clear i m l
 refine e.out _ _ ⟨f,g,h⟩ (fun a=>?_)
 clear e
 try simp only [Act.put]
 refine wpAnyH_ready (rs:=[12]) (by kernel_rfl) (by simp) ?_
 refine AllReadyH.cons rfl (fun K e=>?_) AllReadyH.nil
 have i:=cell_of_row _ (b+1+1+1) 0 _ _ _ X3
 have m:=frozen_of_row _ (b+1+1+1) 0 _ _ X3
 go_simp
 go_wp2_with fail
 clear i m
 have Y0:=(heap_setCell_other _ ⟨b+1+1+1,0,none⟩ b (.bool false) (by show b ≠ b+1+1+1;omega)).trans f
 have Y1:=(heap_setCell_other _ ⟨b+1+1+1,0,none⟩ (b+1) (.bool false) (by show b+1 ≠ b+1+1+1;omega)).trans g
 have Y2:=(heap_setCell_other _ ⟨b+1+1+1,0,none⟩ (b+1+1) (.bool false) (by show b+1+1 ≠ b+1+1+1;omega)).trans h
 have Y3:=heap_setCell_same _ (b+1+1+1) 0 _ _ (.bool false) X3
 replace B:Below b w _:=(B.mono LB).setCell (p:=⟨b+1+1+1,0,none⟩) (by show b <= b+1+1+1;omega) (.bool false)
 refine e.out _ _ ⟨Y0,Y1,Y2⟩ (fun a=>?_)
 clear e
 try simp only [Act.put]
 refine wpAnyH_done (by kernel_rfl) ?_ _
 exact NoPanic.normal (hQ _ _ _ _ _ _ _ _ _ _ Y0 Y1 Y2 Y3 B)
theorem ZgT {t0 t1 t7 t8 t9 z N Y ad aj H M af I G F ag an A U C aa al ah D Z O R E am V ak ac ae L J ab X ax aq az ay av au aA ar aw:Value}{fs:List Deferred}(b:Nat)(k p:Int)(t:ByteArray)(w:World)(Q:Exit -> Act -> World -> Prop)(h0:w.heap[b]? = some (.cells #[.int .i64 k] 3 (0,0)))(h1:w.heap[b+1]? = some (.cells #[.int .i64 p] 3 (0,0)))(h2:w.heap[b+1+1]? = some (.cells #[.string t] 9 (0,0)))(h3:w.heap[b+1+1+1]? = some (.cells #[.bool true] 4 (0,0)))(x P:Nat)(a:Int)(v:Value)(zs:List Int)(hv:∃ ao ap,v=.slice ao zs.length ap)(h5:w.heap[x]? = some (.cells #[v,.pointer (some ⟨P,0,none⟩)] 235 (0,0)))(h6:One w P a)(ai:x ≠ b+1+1+1)(hQ:∀ u43 u44 u45 u46 u47 u48 u49 u50 u51 W,W.heap[b]? = some (.cells #[.int .i64 k] 3 (0,0)) -> W.heap[b+1]? = some (.cells #[.int .i64 p] 3 (0,0)) -> W.heap[b+1+1]? = some (.cells #[.string t] 9 (0,0)) -> W.heap[b+1+1+1]? = some (.cells #[.bool (decide (zs.length <= a))] 4 (0,0)) -> Below b w W -> Q .normal ⟨#[t0,t1,.pointer (some ⟨b,0,none⟩),.pointer (some ⟨b+1,0,none⟩),.pointer (some ⟨b+1+1,0,none⟩),.pointer (some ⟨b+1+1+1,0,none⟩),.pointer (some ⟨x,0,none⟩),t7,t8,t9,z,N,Y,ad,aj,H,M,af,I,G,F,ag,an,A,U,C,aa,al,ah,D,Z,O,R,E,am,V,ak,ac,ae,L,J,ab,X,u43,u44,u45,u46,u47,u48,u49,u50,u51],fs⟩ W) :
  (Code.region 9 opr3.toArray true).wp Tryz.prog Q ⟨#[t0,t1,.pointer (some ⟨b,0,none⟩),.pointer (some ⟨b+1,0,none⟩),.pointer (some ⟨b+1+1,0,none⟩),.pointer (some ⟨b+1+1+1,0,none⟩),.pointer (some ⟨x,0,none⟩),t7,t8,t9,z,N,Y,ad,aj,H,M,af,I,G,F,ag,an,A,U,C,aa,al,ah,D,Z,O,R,E,am,V,ak,ac,ae,L,J,ab,X,ax,aq,az,ay,av,au,aA,ar,aw],fs⟩ w:=by
 have LB:b <= w.heap.size:=Nat.le_of_lt (Zao h0)
 have B:Below w.heap.size w w.drew:=Zaw w
 have i:=Zae h0 B
 have l:=Zae h1 B
 have j:=Zae h2 B
 have u:=Zae h3 B
 refine wp_region_noPanic ?_
 have q:=Zae h5 B
 replace h6:=h6.below B h6.lt
 refine wp_region_held_drew (S:=fun s=>s.heap[b]? = some (.cells #[.int .i64 k] 3 (0,0))/\s.heap[b+1]? = some (.cells #[.int .i64 p] 3 (0,0))/\s.heap[b+1+1]? = some (.cells #[.string t] 9 (0,0))/\s.heap[x]? = some (.cells #[v,.pointer (some ⟨P,0,none⟩)] 235 (0,0))) (by kernel_rfl) ⟨i,l,j,q⟩ (fun d=>?_)
 refine tk 0 (.int .i64 k) nz (by kernel_rfl) (Or.inl ⟨by rfl,by intro s g;have c:=cell_of_row s (b) 0 _ _ _ g.1;go_simp⟩) ‹_› ?_
 simp only [Act.put,sit,sc0,scs]
 refine tk 1 (.int .i64 p) (n1 nz) (by kernel_rfl) (Or.inl ⟨by rfl,by intro s g;have c:=cell_of_row s (b+1) 0 _ _ _ g.2.1;go_simp⟩) ‹_› ?_
 simp only [Act.put,sit,sc0,scs]
 refine tk 2 (.string t) (n2 nz) (by kernel_rfl) (Or.inl ⟨by rfl,by intro s g;have c:=cell_of_row s (b+1+1) 0 _ _ _ g.2.2.1;go_simp⟩) ‹_› ?_
 simp only [Act.put,sit,sc0,scs]
 refine wpAnyH_ready (rs:=[3]) (by kernel_rfl) (by simp) ?_
 refine AllReadyH.cons rfl (fun K f=>?_) AllReadyH.nil
 have n:=cell_of_row _ (b+1+1+1) 0 _ _ _ u
 go_simp
 go_wp2_with fail
 clear n
 refine f.out _ _ ⟨i,l,j,q⟩ (fun d=>?_)
 clear f
 refine tk 4 (.bool true) (n4 nz) (by kernel_rfl) (Or.inl ⟨by rfl,by intro w g;go_simp⟩) ‹_› ?_
 simp only [Act.put,sit,sc0,scs]
 refine tk 5 (.agg #[v,.pointer (some ⟨P,0,none⟩)]) (n4 (n1 nz)) (by kernel_rfl) (ZaI (by rfl) 235 _ rfl x rfl #[v,.pointer (some ⟨P,0,none⟩)] 235 _ (fun _ h=>h.2.2.2) Tryz.underlying235 rfl Zm6) ‹_› ?_
 simp only [Act.put,sit,sc0,scs]
 refine wpAnyH_ready (rs:=[6]) (by kernel_rfl) (by simp) ?_
 refine AllReadyH.cons rfl (fun K f=>?_) AllReadyH.nil
 go_simp
 go_wp2_with (go_at_call 163;with_reducible refine (Zdd v zs P a _ hv h6).mono ?_;rintro e wE ⟨r,rfl,he,y⟩)
 replace i:=Zae i y
 replace l:=Zae l y
 replace j:=Zae j y
 replace u:=Zae u y
 replace q:=Zae q y
 replace B:=B.trans (y.mono B.size)
 clear y
 refine f.out _ _ ⟨i,l,j,q⟩ (fun d=>?_)
 clear f
 rcases he with ⟨aB,pp,rfl⟩ | ⟨aB,rfl⟩
 ·unfold badV
  rw [show decide (zs.length <= a)=false by simp;omega] at hQ
  refine tk 7 (.bool false) (n4 (n2 (n1 nz))) (by kernel_rfl) (Or.inl ⟨by rfl,by intro w g;go_simp⟩) ‹_› ?_
  simp only [Act.put,sit,sc0,scs]
  refine tk 8 (.bool false) (n8 nz) (by kernel_rfl) (Or.inl ⟨by rfl,by intro w g;go_simp⟩) ‹_› ?_
  simp only [Act.put,sit,sc0,scs]
  refine wpAnyH_ready (rs:=[9]) (by kernel_rfl) (by simp) ?_
  refine AllReadyH.cons rfl (fun K f=>?_) AllReadyH.nil
  have n:=cell_of_row _ (b) 0 _ _ _ i
  have o:=frozen_of_row _ (b) 0 _ _ i
  have m:=ZaY (.int .i64 k) i
  go_simp
  go_wp2_with fail
  try rw [m]
  clear n o m
  refine f.out _ _ ⟨i,l,j,q⟩ (fun d=>?_)
  clear f
  try simp only [Act.put]
  refine wpAnyH_ready (rs:=[10]) (by kernel_rfl) (by simp) ?_
  refine AllReadyH.cons rfl (fun K f=>?_) AllReadyH.nil
  have n:=cell_of_row _ (b+1) 0 _ _ _ l
  have o:=frozen_of_row _ (b+1) 0 _ _ l
  have m:=ZaY (.int .i64 p) l
  go_simp
  go_wp2_with fail
  try rw [m]
  clear n o m
  refine f.out _ _ ⟨i,l,j,q⟩ (fun d=>?_)
  clear f
  try simp only [Act.put]
  refine wpAnyH_ready (rs:=[11]) (by kernel_rfl) (by simp) ?_
  refine AllReadyH.cons rfl (fun K f=>?_) AllReadyH.nil
  have n:=cell_of_row _ (b+1+1) 0 _ _ _ j
  have o:=frozen_of_row _ (b+1+1) 0 _ _ j
  have m:=ZaY (.string t) j
  go_simp
  go_wp2_with fail
  try rw [m]
  clear n o m
  refine f.out _ _ ⟨i,l,j,q⟩ (fun d=>?_)
  clear f
  try simp only [Act.put]
  refine wpAnyH_ready (rs:=[12]) (by kernel_rfl) (by simp) ?_
  refine AllReadyH.cons rfl (fun K f=>?_) AllReadyH.nil
  have n:=cell_of_row _ (b+1+1+1) 0 _ _ _ u
  have o:=frozen_of_row _ (b+1+1+1) 0 _ _ u
  go_simp
  go_wp2_with fail
  clear n o
  have T:=(heap_setCell_other _ ⟨b+1+1+1,0,none⟩ b (.bool false) (by show b ≠ b+1+1+1;omega)).trans i
  have Y1:=(heap_setCell_other _ ⟨b+1+1+1,0,none⟩ (b+1) (.bool false) (by show b+1 ≠ b+1+1+1;omega)).trans l
  have Y2:=(heap_setCell_other _ ⟨b+1+1+1,0,none⟩ (b+1+1) (.bool false) (by show b+1+1 ≠ b+1+1+1;omega)).trans j
  have Y5:=(heap_setCell_other _ ⟨b+1+1+1,0,none⟩ x (.bool false) (by simpa using ai)).trans q
  have Y3:=heap_setCell_same _ (b+1+1+1) 0 _ _ (.bool false) u
  replace B:Below b w _:=(B.mono LB).setCell (p:=⟨b+1+1+1,0,none⟩) (by show b <= b+1+1+1;omega) (.bool false)
  refine f.out _ _ ⟨T,Y1,Y2,Y5⟩ (fun d=>?_)
  clear f
  try simp only [Act.put]
  refine wpAnyH_done (by kernel_rfl) ?_ _
  exact NoPanic.normal (hQ _ _ _ _ _ _ _ _ _ _ T Y1 Y2 Y3 B)
 ·rw [show decide (zs.length <= a)=true by simp;omega] at hQ
  refine tk 7 (.bool true) (n4 (n2 (n1 nz))) (by kernel_rfl) (Or.inl ⟨by rfl,by intro w g;go_simp⟩) ‹_› ?_
  simp only [Act.put,sit,sc0,scs]
  refine tk 8 (.bool true) (n8 nz) (by kernel_rfl) (Or.inl ⟨by rfl,by intro w g;go_simp⟩) ‹_› ?_
  simp only [Act.put,sit,sc0,scs]
  refine wpAnyH_ready (rs:=[9]) (by kernel_rfl) (by simp) ?_
  refine AllReadyH.cons rfl (fun K f=>?_) AllReadyH.nil
  have n:=cell_of_row _ (b) 0 _ _ _ i
  have o:=frozen_of_row _ (b) 0 _ _ i
  have m:=ZaY (.int .i64 k) i
  go_simp
  go_wp2_with fail
  try rw [m]
  clear n o m
  refine f.out _ _ ⟨i,l,j,q⟩ (fun d=>?_)
  clear f
  try simp only [Act.put]
  refine wpAnyH_ready (rs:=[10]) (by kernel_rfl) (by simp) ?_
  refine AllReadyH.cons rfl (fun K f=>?_) AllReadyH.nil
  have n:=cell_of_row _ (b+1) 0 _ _ _ l
  have o:=frozen_of_row _ (b+1) 0 _ _ l
  have m:=ZaY (.int .i64 p) l
  go_simp
  go_wp2_with fail
  try rw [m]
  clear n o m
  refine f.out _ _ ⟨i,l,j,q⟩ (fun d=>?_)
  clear f
  try simp only [Act.put]
  refine wpAnyH_ready (rs:=[11]) (by kernel_rfl) (by simp) ?_
  refine AllReadyH.cons rfl (fun K f=>?_) AllReadyH.nil
  have n:=cell_of_row _ (b+1+1) 0 _ _ _ j
  have o:=frozen_of_row _ (b+1+1) 0 _ _ j
  have m:=ZaY (.string t) j
  go_simp
  go_wp2_with fail
  try rw [m]
  clear n o m
  refine f.out _ _ ⟨i,l,j,q⟩ (fun d=>?_)
  clear f
  try simp only [Act.put]
  refine wpAnyH_ready (rs:=[12]) (by kernel_rfl) (by simp) ?_
  refine AllReadyH.cons rfl (fun K f=>?_) AllReadyH.nil
  have n:=cell_of_row _ (b+1+1+1) 0 _ _ _ u
  have o:=frozen_of_row _ (b+1+1+1) 0 _ _ u
  go_simp
  go_wp2_with fail
  clear n o
  have T:=(heap_setCell_other _ ⟨b+1+1+1,0,none⟩ b (.bool true) (by show b ≠ b+1+1+1;omega)).trans i
  have Y1:=(heap_setCell_other _ ⟨b+1+1+1,0,none⟩ (b+1) (.bool true) (by show b+1 ≠ b+1+1+1;omega)).trans l
  have Y2:=(heap_setCell_other _ ⟨b+1+1+1,0,none⟩ (b+1+1) (.bool true) (by show b+1+1 ≠ b+1+1+1;omega)).trans j
  have Y5:=(heap_setCell_other _ ⟨b+1+1+1,0,none⟩ x (.bool true) (by simpa using ai)).trans q
  have Y3:=heap_setCell_same _ (b+1+1+1) 0 _ _ (.bool true) u
  replace B:Below b w _:=(B.mono LB).setCell (p:=⟨b+1+1+1,0,none⟩) (by show b <= b+1+1+1;omega) (.bool true)
  refine f.out _ _ ⟨T,Y1,Y2,Y5⟩ (fun d=>?_)
  clear f
  try simp only [Act.put]
  refine wpAnyH_done (by kernel_rfl) ?_ _
  exact NoPanic.normal (hQ _ _ _ _ _ _ _ _ _ _ T Y1 Y2 Y3 B)
end Go.Proofs.YtfeodlbpnghakaaGreatDoor
