/-
  Contracts of impl's pidsThere and hasEachOnce. Of a world that is right; the variable errors.errorType reads as it is laid.
-/
import Derived.Test.YtfeodlbpnghakaaGreatDoorJgRM
import Derived.Test.YtfeodlbpnghakaaGreatDoorShelfJM
import Derived.Test.YtfeodlbpnghakaaGreatDoorMcTM
import Derived.Test.YtfeodlbpnghakaaGreatDoorSEqM
import Derived.Test.YtfeodlbpnghakaaGreatDoorMark2M
import Derived.Lib.OwnBridge
set_option maxRecDepth 100000
set_option maxHeartbeats 3200000
namespace Go.Proofs.YtfeodlbpnghakaaGreatDoor
open Go.RowKit Go.Sort
theorem Zm0:(Tryz.prog.info? 3).map (fun i=>(i.zero,i.size,i.bytes))=some (some (.int .i64 0),1,8):=by kernel_rfl
theorem Zed (a ys:List Int):iv (a ++ ys)=iv a ++ iv ys:=by simp [iv]
def PidsAns (L:List Int)(B:Nat)(e:Ending)(w:World):Prop:=∃ g cap,e=.returned (.slice (some ⟨g,0,none⟩) L.length cap)/\w.ownsRow B 3 1 (.slice (some ⟨g,0,none⟩) L.length cap) L.length (iv L)
theorem PidsAns.of {L:List Int}{B:Nat}{e:Ending}{w:World}{v:Value}(c:e=.returned v)(h:w.ownsRow B 3 1 v L.length (iv L))(b:v ≠ .slice none 0 0):PidsAns L B e w:=by
 obtain ⟨g,a,rfl,_⟩:=Lib.holds_of_ownsRow (enc:=Value.int .i64) (zs:=L) h b
 exact ⟨g,a,c,h⟩
theorem ZbU {d:Wd}(h:worldB d=true):d.hs.length <= 8/\d.ls.length <= 9/\(∀ x ∈ d.hs,1 <= x.i):=by
 unfold worldB at h
 simp only [Bool.and_eq_true,decide_eq_true_eq] at h
 obtain ⟨⟨k,b,l⟩,⟨j,f⟩,a,_⟩:=h
 refine ⟨f,?_,?_⟩
 ·unfold lksB at a
  simp only [Bool.and_eq_true,decide_eq_true_eq] at a
  obtain ⟨m,n⟩:=placesB_nums b
  have c:=a.1.1
  have:d.pl=1 \/ d.pl=2 \/ d.pl=3:=by omega
  rcases this with e | e | e <;> rw [e] at c <;> omega
 ·intro x g
  have:=List.all_eq_true.1 j x g
  unfold hmB Zbr pidB at this
  simp only [Bool.and_eq_true,decide_eq_true_eq] at this
  omega
theorem ZiB {d:Wd}(L:LkAll d)(k:Nat)(h:k < d.ls.length):(wayT d k).length <= 100000:=by
 obtain ⟨l,b⟩:∃ x,d.ls[k]? = some x:=⟨d.ls[k],List.getElem?_eq_getElem _⟩
 have e:k < d.ga.length:=by have:=L.lg;omega
 obtain ⟨f,a⟩:∃ x,d.ga[k]? = some x:=⟨d.ga[k],List.getElem?_eq_getElem _⟩
 rw [ZeD b a,List.length_drop]
 have c:=L.ts b a
 have g:=Zbh c.1
 omega
theorem ZlZ (d:Wd)(a:List ByteArray):(mvs d a).length <= a.length:=by
 unfold mvs
 exact Nat.le_trans (List.length_filter_le _ _) (by simp)
theorem Zjo {d:Wd}(L:LkAll d):∀ (n i:Nat),i+n <= d.ls.length -> (wayP d n i).length <= n * 100000
 | 0,_,_=>by simp [wayP]
 | n+1,i,h=>by
  rw [wayP,List.length_append]
  have a:=ZlZ d (wayT d i)
  have b:=ZiB L i (by omega)
  have c:=Zjo L n (i+1) (by omega)
  omega
theorem ZlJ {d:Wd}(h:worldB d=true):(pidL d).length <= 4000000:=by
 obtain ⟨a,b,_⟩:=ZbU h
 have c:=Zjo (lkAll_of h) d.ls.length 0 (by omega)
 unfold pidL
 rw [List.length_append,List.length_map]
 omega
theorem ZjN {α:Type}{a:List α}{k:Nat}{x:α}(h:a[k]? = some x):a.take (k+1)=a.take k ++ [x]:=by
 obtain ⟨b,rfl⟩:=List.getElem?_eq_some_iff.1 h
 rw [List.take_succ_eq_append_getElem b]
theorem ZcS (a x:Int)(b:Nat)(w:World)(c:w.cell? ⟨b,8,none⟩=some (.int .i64 a)) :
  FnGives Tryz.prog 58 #[.pointer (some ⟨b,0,none⟩)] #[.int .i64 x] (.bool (decide (a <= x))) w:=by
 show Calls Tryz.prog 58 #[.int .i64 x,.pointer (some ⟨b,0,none⟩)] w _
 go_enter Tryz.func58,Tryz.ntmps58
 go_wp2
 all_goals (go_ret;exact ⟨by simp_all,0,rfl⟩)
theorem Zhn (zs:List Int)(c:Int)(g a base b:Nat)(w:World)(h:w.ownsRow base 3 1 (.slice (some ⟨g,0,none⟩) zs.length a) zs.length (iv zs))(D:b < base)(f:b < w.heap.size)(o:w.cell? ⟨b,8,none⟩=some (.int .i64 c)) :
  Calls Tryz.prog 56 #[.slice (some ⟨g,0,none⟩) zs.length a,.func (.func 58) #[] #[.pointer (some ⟨b,0,none⟩)]] w fun e m=>e=.returned (.slice (some ⟨g,0,none⟩) (zs.filter fun x=>!decide (c <= x)).length a)/\m.ownsRow base 3 1 (.slice (some ⟨g,0,none⟩) (zs.filter fun x=>!decide (c <= x)).length a) (zs.filter fun x=>!decide (c <= x)).length (iv (zs.filter fun x=>!decide (c <= x)))/\Below base w m:=by
 obtain ⟨B,r,e,l,C,u,v,z,s⟩:=Lib.holds_of_ownsRow (enc:=Value.int .i64) (zs:=zs) h (by intro e;cases e)
 simp only [Value.slice.injEq,Option.some.injEq,Addr.mk.injEq] at e
 obtain ⟨⟨rfl,_⟩,_,rfl⟩:=e
 have y:∀ args w,(callFunc 58 args).run Tryz.prog w=.ok (.enter 58 args) w:=enters_of Tryz.func58 (by kernel_rfl) rfl
 have j:b ≠ g:=by omega
 have d:=AnyE.slices_DeleteFunc Tryz.laysDel (Value.int .i64) (fun _=>rfl) (fun x=>decide (c <= x)) 58 #[.pointer (some ⟨b,0,none⟩)] y 0 Tryz.zeroValue3 g 0 a zs.toArray w
  (fun W x t=>ZcS c x b W ((t.cell (p:=⟨b,8,none⟩) f).trans o))
  (fun n os A x _=>ZcS c x b _ (by
   unfold sortWorld
   rw [cell?_grow _ _ _ (by show b < (Sort.putRow _ _ _ _ _).heap.size;rw [Sort.size_putRow];exact f),Sort.cell?_putRow_other _ _ g 0 _ _ (Or.inl j)]
   exact o)) s (by simp;unfold maxLen at v;omega) (by simpa using u)
 simp only [List.size_toArray] at d
 change Calls Tryz.prog 56 #[.slice (some ⟨g,0,none⟩) zs.length a,.func (.func 58) #[] #[.pointer (some ⟨b,0,none⟩)]] w _ at d
 refine d.mono ?_
 rintro e m ⟨rfl,q,rfl⟩
 have i:=List.length_filter_le (fun x=>!decide (c <= x)) zs
 refine ⟨rfl,?_,Lib.below_putRow (Below.refl _ _) l⟩
 have:=Lib.ownsRow_putRow (enc:=Value.int .i64) (q:=q) (k:=(zs.filter fun x=>!decide (c <= x)).length) (zs:=zs) (ys:=(zs.filter fun x=>!decide (c <= x)) ++ List.replicate (zs.length - (zs.filter fun x=>!decide (c <= x)).length) 0) h (by simp;omega) i
 rw [List.take_left'] at this
 ·exact this
 ·rfl
theorem Zko (B:Nat)(w:World)(os:Array Obj)(a:B <= w.heap.size):Below B w (grow w os):=⟨rfl,rfl,rfl,by simp [grow],fun k b=>heap_grow_old w os (by omega)⟩
theorem Zgx (zs:List Int)(g a base:Nat)(w:World)(h:w.ownsRow base 3 1 (.slice (some ⟨g,0,none⟩) zs.length a) zs.length (iv zs))(m:zs.length <= 4000000) :
  Calls Tryz.prog 59 #[.slice (some ⟨g,0,none⟩) zs.length a] w fun e i=>e=.returned (.tuple #[])/\i.ownsRow base 3 1 (.slice (some ⟨g,0,none⟩) zs.length a) zs.length (iv (zs.mergeSort fun x y=>decide (x <= y)))/\Below (min base w.heap.size) w i:=by
 obtain ⟨t,j,e,p,l,u,s,r,o⟩:=Lib.holds_of_ownsRow (enc:=Value.int .i64) (zs:=zs) h (by intro e;cases e)
 simp only [Value.slice.injEq,Option.some.injEq,Addr.mk.injEq] at e
 obtain ⟨⟨rfl,_⟩,_,rfl⟩:=e
 have b:=Any.slices_Sort_int Tryz.laysNm189 g 0 a zs w o l (by omega)
 change Calls Tryz.prog 59 #[.slice (some ⟨g,0,none⟩) zs.length a] w _ at b
 refine b.mono ?_
 rintro e i ⟨rfl,n,os,rfl⟩
 have f:Below (min base w.heap.size) w (Sort.putRow (Value.int .i64) (Sort.ahead w n) g 0 (zs.mergeSort fun x y=>decide (x <= y)).toArray):=Lib.below_putRow (Below.refl _ _) (by omega)
 have c:=Zko (Sort.putRow (Value.int .i64) (Sort.ahead w n) g 0 (zs.mergeSort fun x y=>decide (x <= y)).toArray).heap.size _ os (Nat.le_refl _)
 refine ⟨rfl,?_,f.trans (c.mono (by have:=f.size;omega))⟩
 have d:(zs.mergeSort fun x y=>decide (x <= y)).length=zs.length:=(List.mergeSort_perm _ _).length_eq
 have:=Lib.ownsRow_putRow (enc:=Value.int .i64) (q:=n) (k:=zs.length) (zs:=zs) (ys:=zs.mergeSort fun x y=>decide (x <= y)) h d (Nat.le_refl _)
 rw [List.take_of_length_le (by omega)] at this
 exact Zac this c
theorem ZgD (zs:List Int)(g a base:Nat)(w:World)(h:w.ownsRow base 3 1 (.slice (some ⟨g,0,none⟩) zs.length a) zs.length (iv zs)) :
  Calls Tryz.prog 60 #[.slice (some ⟨g,0,none⟩) zs.length a] w fun e f=>e=.returned (.slice (some ⟨g,0,none⟩) (Lib.compact zs).length a)/\Below base w f:=by
 obtain ⟨n,d,e,c,m,k,i,l,j⟩:=Lib.holds_of_ownsRow (enc:=Value.int .i64) (zs:=zs) h (by intro e;cases e)
 simp only [Value.slice.injEq,Option.some.injEq,Addr.mk.injEq] at e
 obtain ⟨⟨rfl,_⟩,_,rfl⟩:=e
 have b:=Any.slices_Compact_int Tryz.laysNm220 g 0 a zs w j (by unfold maxLen at i;omega) k
 change Calls Tryz.prog 60 #[.slice (some ⟨g,0,none⟩) zs.length a] w _ at b
 refine b.mono ?_
 rintro e f ⟨rfl,q,rfl⟩
 exact ⟨rfl,Lib.below_putRow (Below.refl _ _) c⟩
theorem Zd1 (vn vi vf vh vl vg vp va vt:Value)(d:Wd)(w:World)(R:WR 0 w vn vi vf vh vl vg vp va vt d)(hS:SmW d)(hg:ErrT w)(hw:worldB d=true) :
  Calls Tryz.prog 57 #[.agg #[vn,vi,vf,.int .i64 d.pl,vh,vl,vg,vp,.int .i64 d.nx,va,vt]] w fun e w'=>PidsAns (pidL d) w.heap.size e w'/\Below w.heap.size w w':=by
 obtain ⟨i0,hi,ay,aD,aB⟩:=info_parts Zm0
 obtain ⟨aS,aV,_⟩:=ZbU hw
 have L0:Hid (LkAll d):=lkAll_of hw
 have aU:d.ls.length <= d.ga.length:=by have:=L0.out.lg;omega
 clear hw
 have R0:=R
 obtain ⟨⟨S,X,rfl⟩,⟨O,G,rfl⟩,⟨P,Z,rfl⟩,⟨ah,M,rfl⟩,⟨W,Q,rfl⟩,⟨L,cg,rfl⟩,⟨ap,F,rfl⟩,⟨U,N,rfl⟩,⟨H,K,rfl⟩⟩:=R.form
 clear R
 obtain ⟨g,ak,_⟩:=Zav w (Obj.cells #[.slice S d.ns.length X,.slice O d.is.length G,.slice P d.ds.length Z,.int .i64 d.pl,.slice ah d.hs.length M,.slice W d.ls.length Q,.slice L d.gs.length cg,.slice ap d.ps.length F,.int .i64 d.nx,.slice U d.ga.length N,.slice H d.tk.length K] 50) (Obj.cells #[] 3)
 have au:=Zcl (w.alloc (Obj.cells #[.slice S d.ns.length X,.slice O d.is.length G,.slice P d.ds.length Z,.int .i64 d.pl,.slice ah d.hs.length M,.slice W d.ls.length Q,.slice L d.gs.length cg,.slice ap d.ps.length F,.int .i64 d.nx,.slice U d.ga.length N,.slice H d.tk.length K] 50)) 3 1 (w.heap.size+1) (by simp)
 have ax:(w.alloc (Obj.cells #[.slice S d.ns.length X,.slice O d.is.length G,.slice P d.ds.length Z,.int .i64 d.pl,.slice ah d.hs.length M,.slice W d.ls.length Q,.slice L d.gs.length cg,.slice ap d.ps.length F,.int .i64 d.nx,.slice U d.ga.length N,.slice H d.tk.length K] 50)).heap.size=w.heap.size+1:=by simp
 rw [ax] at au
 clear ax
 obtain ⟨aT,aR,aA,_,_,f⟩:=R0.rh
 simp only [Value.slice.injEq] at aA
 obtain ⟨rfl,_,rfl⟩:=aA
 have k4:=cell_of_row _ _ 4 _ _ _ ak
 go_enter Tryz.func57,Tryz.ntmps57
 go_wp2_with fail
 clear k4
 generalize (w.alloc (Obj.cells #[.slice S d.ns.length X,.slice O d.is.length G,.slice P d.ds.length Z,.int .i64 d.pl,.slice ah d.hs.length M,.slice W d.ls.length Q,.slice L d.gs.length cg,.slice ap d.ps.length F,.int .i64 d.nx,.slice U d.ga.length N,.slice H d.tk.length K] 50)).alloc (Obj.cells #[] 3)=w4 at *
 go_loopw [3,15] (fun s i wr=>∃ (k:Nat) (b:List Int),k <= d.hs.length/\i=.int .i64 k/\Hid (b=(d.hs.map Hm.i).take k)/\b.length <= k/\s ≠ .slice none 0 0/\wr.heap[w.heap.size]? = some (.cells #[.slice S d.ns.length X,.slice O d.is.length G,.slice P d.ds.length Z,.int .i64 d.pl,.slice ah d.hs.length M,.slice W d.ls.length Q,.slice L d.gs.length cg,.slice ap d.ps.length F,.int .i64 d.nx,.slice U d.ga.length N,.slice H d.tk.length K] 50 (0,0))/\wr.ownsRow (w.heap.size+1) 3 1 s b.length (iv b)/\Below w.heap.size w wr) (fun _ i _=>d.hs.length - (intOf i).toNat)
 case atStart=>exact ⟨0,[],by omega,rfl,rfl,by simp,(by intro h;cases h),ak,au,g⟩
 case round =>
  clear ak au g
  obtain ⟨k,b,hk,rfl,HL,ac,n,a,c,g⟩:=hrel
  have A:=Zao a
  obtain ⟨ad,qs,rfl⟩:=Zag c
  by_cases B:k < d.hs.length
  ·obtain ⟨gh,oh,rfl,_,aM,f⟩:=f (by intro e;rw [e] at B;simp at B)
   obtain ⟨x,hx⟩:∃ x,d.hs[k]? = some x:=⟨d.hs[k],List.getElem?_eq_getElem _⟩
   obtain ⟨cs,aG,hr,v1,v2,v3,hc,N1,S1,S2,_,_,_⟩:=f k x hx
   obtain ⟨n1,m1,rfl⟩:=N1.small8
   obtain ⟨n2,m2,rfl⟩:=S1.small
   obtain ⟨n3,m3,rfl⟩:=S2.small
   obtain rfl:cs=(#[.int .i64 x.pl,.int .i64 x.i,.slice n1 x.xs.length m1,.int .i64 x.m.p,.int .i64 x.m.s,.int .i64 x.m.e,.int .i64 x.m.d,.int .i64 x.m.t,.int .i64 x.m.q,.int .i64 x.m.r,.slice n2 x.bx.length m2,.slice n3 x.ox.length m3]:Array Value).toList:=congrArg Array.toList hc
   replace hr:=Zaf hr g aM
   clear f hc aG N1 S1 S2
   have aF:Hid (b ++ [x.i]=(d.hs.map Hm.i).take (k+1)):=by unfold Hid;rw [HL.out,ZjN (x:=x.i) (by rw [List.getElem?_map,hx];rfl)]
   have o:((wr.alloc (Obj.cells #[.int .i64 x.pl,.int .i64 x.i,.slice n1 x.xs.length m1,.int .i64 x.m.p,.int .i64 x.m.s,.int .i64 x.m.e,.int .i64 x.m.d,.int .i64 x.m.t,.int .i64 x.m.q,.int .i64 x.m.r,.slice n2 x.bx.length m2,.slice n3 x.ox.length m3] 66)).alloc (Obj.cells #[.int .i64 x.i] 3)).ownsRow (w.heap.size+1) 3 1 (.slice ad b.length qs) b.length (iv b):=(c.alloc _).alloc _
   obtain ⟨z,aH,aL⟩:=Zav wr (Obj.cells #[.int .i64 x.pl,.int .i64 x.i,.slice n1 x.xs.length m1,.int .i64 x.m.p,.int .i64 x.m.s,.int .i64 x.m.e,.int .i64 x.m.d,.int .i64 x.m.t,.int .i64 x.m.q,.int .i64 x.m.r,.slice n2 x.bx.length m2,.slice n3 x.ox.length m3] 66) (Obj.cells #[.int .i64 x.i] 3)
   have E:=Zae a z
   have aO:(wr.alloc (Obj.cells #[.int .i64 x.pl,.int .i64 x.i,.slice n1 x.xs.length m1,.int .i64 x.m.p,.int .i64 x.m.s,.int .i64 x.m.e,.int .i64 x.m.d,.int .i64 x.m.t,.int .i64 x.m.q,.int .i64 x.m.r,.slice n2 x.bx.length m2,.slice n3 x.ox.length m3] 66)).cell? ⟨wr.heap.size,0+1,none⟩=some (.int .i64 x.i):=cell_of_row _ _ 1 _ _ _ (heap_alloc_new _ _)
   have aE:∀ j u,[Value.int .i64 x.i][j]? = some u -> ((wr.alloc (Obj.cells #[.int .i64 x.pl,.int .i64 x.i,.slice n1 x.xs.length m1,.int .i64 x.m.p,.int .i64 x.m.s,.int .i64 x.m.e,.int .i64 x.m.d,.int .i64 x.m.t,.int .i64 x.m.q,.int .i64 x.m.r,.slice n2 x.bx.length m2,.slice n3 x.ox.length m3] 66)).alloc (Obj.cells #[.int .i64 x.i] 3)).cell? ((⟨wr.heap.size+1,0,none⟩:Addr).add j)=some u:=by
    have:=cell_one_new (wr.alloc (Obj.cells #[.int .i64 x.pl,.int .i64 x.i,.slice n1 x.xs.length m1,.int .i64 x.m.p,.int .i64 x.m.s,.int .i64 x.m.e,.int .i64 x.m.d,.int .i64 x.m.t,.int .i64 x.m.q,.int .i64 x.m.r,.slice n2 x.bx.length m2,.slice n3 x.ox.length m3] 66)) (.int .i64 x.i) 3
    simpa using this
   have J:=g.trans (z.mono g.size)
   have ae:((wr.alloc (Obj.cells #[.int .i64 x.pl,.int .i64 x.i,.slice n1 x.xs.length m1,.int .i64 x.m.p,.int .i64 x.m.s,.int .i64 x.m.e,.int .i64 x.m.d,.int .i64 x.m.t,.int .i64 x.m.q,.int .i64 x.m.r,.slice n2 x.bx.length m2,.slice n3 x.ox.length m3] 66)).alloc (Obj.cells #[.int .i64 x.i] 3)).heap.size=wr.heap.size+2:=by simp
   have aj:Hid (((wr.alloc (Obj.cells #[.int .i64 x.pl,.int .i64 x.i,.slice n1 x.xs.length m1,.int .i64 x.m.p,.int .i64 x.m.s,.int .i64 x.m.e,.int .i64 x.m.d,.int .i64 x.m.t,.int .i64 x.m.q,.int .i64 x.m.r,.slice n2 x.bx.length m2,.slice n3 x.ox.length m3] 66)).alloc (Obj.cells #[.int .i64 x.i] 3)).heap.size=wr.heap.size+2):=ae
   clear hx HL aH aL ae z
   go_wp2_with (first | (refine wpList_load_mid rfl 66 _ rfl gh (oh+k * 12) rfl _ _ hr Tryz.underlying66 rfl (by kernel_rfl) ?_) | (at_builtin;refine wpList_append_own _ rfl _ _ 129 rfl (w.heap.size+1) 3 i0 (.int .i64 0) 1 8 Tryz.underlying129 hi ay aD aB rfl (by decide) _ _ _ rfl o ⟨wr.heap.size+1,0,none⟩ 1 1 [.int .i64 x.i] rfl rfl aE (fun u hu=>by simp at hu;subst hu;rfl) (by unfold maxLen;omega) (by omega) (by have:=aj.out;omega) ?_))
   intro v7 w7 V y l
   have Y:w7.ownsRow (w.heap.size+1) 3 1 v7 (b ++ [x.i]).length (iv (b ++ [x.i])):=by rw [Zed,List.length_append];exact V
   have ar:w7.heap[w.heap.size]? = some (.cells #[.slice S d.ns.length X,.slice O d.is.length G,.slice P d.ds.length Z,.int .i64 d.pl,.slice (some ⟨gh,oh,none⟩) d.hs.length M,.slice W d.ls.length Q,.slice L d.gs.length cg,.slice ap d.ps.length F,.int .i64 d.nx,.slice U d.ga.length N,.slice H d.tk.length K] 50 (0,0)):=(y.block w.heap.size (by have:=aj.out;omega) (fun e=>by have:=(o.lt _ e.symm).1;omega)).trans E
   have aq:=J.grown y (by have:=aj.out;omega) (fun k hk=>by have:=(o.lt k hk).1;omega)
   have ao:v7 ≠ .slice none 0 0:=fun e=>by first | exact l e | (have:=(l.1 e).2;omega)
   clear V y l o E J aE aO a c g hr
   obtain ⟨aQ,aJ,rfl⟩:=Zag Y
   go_wp2_with fail
   go_roundw
   case rel=>exact ⟨k+1,b ++ [x.i],by omega,by go_num,aF,by simp;omega,ao,ar,Y,aq⟩
   case measure=>simp [intOf];omega
  ·have C:Hid (pidL d=b ++ wayP d (d.ls.length - 0) 0):=by unfold Hid pidL;rw [HL.out,List.take_of_length_le (by rw [List.length_map];omega)];rfl
   have aw:b.length <= 8:=by omega
   clear HL f
   have c5:=cell_of_row _ _ 5 _ _ _ a
   go_wp2_with fail
   clear c5
   go_loopw [3,29] (fun s i wx=>∃ (k:Nat) (b:List Int),k <= d.ls.length/\i=.int .i64 k/\Hid (pidL d=b ++ wayP d (d.ls.length - k) k)/\b.length <= 8+k * 100000/\s ≠ .slice none 0 0/\wx.heap[w.heap.size]? = some (.cells #[.slice S d.ns.length X,.slice O d.is.length G,.slice P d.ds.length Z,.int .i64 d.pl,.slice ah d.hs.length M,.slice W d.ls.length Q,.slice L d.gs.length cg,.slice ap d.ps.length F,.int .i64 d.nx,.slice U d.ga.length N,.slice H d.tk.length K] 50 (0,0))/\wx.ownsRow (w.heap.size+1) 3 1 s b.length (iv b)/\Below w.heap.size w wx) (fun _ i _=>d.ls.length - (intOf i).toNat)
   case atStart=>exact ⟨0,b,by omega,rfl,C,by omega,n,a,c,g⟩
   case round =>
    clear C n a c g A ac aw
    obtain ⟨k,b,hk,rfl,C,ac,n,a,c,g⟩:=hrel
    have A:=Zao a
    obtain ⟨ad,qs,rfl⟩:=Zag c
    by_cases B:k < d.ls.length
    ·have h2:k < d.ga.length:=by omega
     have aK:=ZiB L0.out k B
     have am:∀ x ∈ wayT d k,x.size <= 1048576:=ZhN hS.ha.2
     have av:Hid (pidL d=b ++ (mvs d ((wayT d k).drop 0) ++ wayP d (d.ls.length - (k+1)) (k+1))):=by unfold Hid;rw [C.out,wayP_step B];rfl
     clear C
     go_wp2_with (refine wpList_load_row rfl 50 _ rfl w.heap.size rfl 50 #[.slice S d.ns.length X,.slice O d.is.length G,.slice P d.ds.length Z,.int .i64 d.pl,.slice ah d.hs.length M,.slice W d.ls.length Q,.slice L d.gs.length cg,.slice ap d.ps.length F,.int .i64 d.nx,.slice U d.ga.length N,.slice H d.tk.length K] (0,0) _ a Tryz.underlying50 rfl Zni ?_)
     refine (Zgo _ _ _ _ _ _ _ _ _ d k w _ R0 g B h2).mono ?_
     rintro e w5 ⟨⟨v,rfl,hv⟩,hb⟩
     obtain ⟨D,hT⟩:∃ D,wayT d k=D:=⟨_,rfl⟩
     rw [hT] at aK am av hv
     clear hT
     obtain ⟨pa,qa,rfl,_,_,_,T⟩:=hv
     replace a:=Zae a hb
     replace c:=Zac c hb
     replace g:=g.trans (hb.mono g.size)
     clear hb A
     go_wp2_with fail
     go_loopw [3,36] (fun s i wx=>∃ (j:Nat) (b:List Int),j <= D.length/\i=.int .i64 j/\Hid (pidL d=b ++ (mvs d (D.drop j) ++ wayP d (d.ls.length - (k+1)) (k+1)))/\b.length <= 8+k * 100000+j/\s ≠ .slice none 0 0/\wx.heap[w.heap.size]? = some (.cells #[.slice S d.ns.length X,.slice O d.is.length G,.slice P d.ds.length Z,.int .i64 d.pl,.slice ah d.hs.length M,.slice W d.ls.length Q,.slice L d.gs.length cg,.slice ap d.ps.length F,.int .i64 d.nx,.slice U d.ga.length N,.slice H d.tk.length K] 50 (0,0))/\wx.ownsRow (w.heap.size+1) 3 1 s b.length (iv b)/\Below w.heap.size w wx) (fun _ i _=>D.length - (intOf i).toNat)
     case atStart=>exact ⟨0,b,by omega,rfl,av,by omega,n,a,c,g⟩
     case round =>
      clear av n a c g ac
      obtain ⟨j,b,hj,rfl,C,ac,n,a,c,g⟩:=hrel
      obtain ⟨ad,qs,rfl⟩:=Zag c
      have A:=Zao a
      by_cases az:j < D.length
      ·obtain ⟨gs,os,rfl,aN,T⟩:=T (by intro e;rw [e] at az;simp at az)
       obtain ⟨x,hx⟩:∃ x,D[j]? = some x:=⟨D[j],List.getElem?_eq_getElem _⟩
       have c0:=(g.cell (p:=⟨gs,os+j,none⟩) aN).trans (T j x hx)
       have aP:=am x (List.mem_of_getElem? hx)
       have HS:Hid (pidL d=b ++ (((if movN d.ns d.is d.ds x=0 then [] else [movN d.ns d.is d.ds x]) ++ mvs d (D.drop (j+1))) ++ wayP d (d.ls.length - (k+1)) (k+1))):=by unfold Hid;rw [C.out,mvs_step hx]
       clear T hx C am
       go_wp2_with (refine wpList_load_row rfl 50 _ rfl w.heap.size rfl 50 #[.slice S d.ns.length X,.slice O d.is.length G,.slice P d.ds.length Z,.int .i64 d.pl,.slice ah d.hs.length M,.slice W d.ls.length Q,.slice L d.gs.length cg,.slice ap d.ps.length F,.int .i64 d.nx,.slice U d.ga.length N,.slice H d.tk.length K] (0,0) _ a Tryz.underlying50 rfl Zni ?_)
       refine (Zfg _ _ _ _ _ _ _ _ _ d x 0 _ (R0.below g) aP (hg.below g (Nat.le_refl _))).mono ?_
       rintro e w6 ⟨⟨ok,I,rfl,hy,hn⟩,hb⟩
       replace a:=Zae a hb
       replace c:=Zac c hb
       replace g:=g.trans (hb.mono g.size)
       clear hb A c0
       cases ok with
       | false =>
        have HB:Hid (pidL d=b ++ (mvs d (D.drop (j+1)) ++ wayP d (d.ls.length - (k+1)) (k+1))):=by unfold Hid;rw [HS.out,hn rfl];rfl
        clear hn hy HS
        go_wp2_with fail
        go_roundw
        case rel=>exact ⟨j+1,b,by omega,by go_num,HB,by omega,n,a,c,g⟩
        case measure=>simp [intOf];omega
       | true =>
        obtain ⟨aC,aI⟩:=hy rfl
        have HB:Hid (pidL d=(b ++ [I]) ++ (mvs d (D.drop (j+1)) ++ wayP d (d.ls.length - (k+1)) (k+1))):=by unfold Hid;rw [HS.out,aC,if_neg (by omega)];simp
        clear hn hy HS aC aI
        have z:=Zap w6 (Obj.cells #[.int .i64 I] 3)
        have o:(w6.alloc (Obj.cells #[.int .i64 I] 3)).ownsRow (w.heap.size+1) 3 1 (.slice ad b.length qs) b.length (iv b):=c.alloc _
        have E:=Zae a z
        have J:=g.trans (z.mono g.size)
        have A:=Zao a
        clear z
        go_wp2_with (at_builtin;refine wpList_append_own _ rfl _ _ 129 rfl (w.heap.size+1) 3 i0 (.int .i64 0) 1 8 Tryz.underlying129 hi ay aD aB rfl (by decide) _ _ _ rfl o ⟨w6.heap.size,0,none⟩ 1 1 [.int .i64 I] rfl rfl (cell_one_new _ _ _) (fun u hu=>by simp at hu;subst hu;rfl) (by unfold maxLen;omega) (by omega) (by simp;omega) ?_)
        intro v7 w7 V y l
        have Y:w7.ownsRow (w.heap.size+1) 3 1 v7 (b ++ [I]).length (iv (b ++ [I])):=by rw [Zed,List.length_append];exact V
        have ar:w7.heap[w.heap.size]? = some (.cells #[.slice S d.ns.length X,.slice O d.is.length G,.slice P d.ds.length Z,.int .i64 d.pl,.slice ah d.hs.length M,.slice W d.ls.length Q,.slice L d.gs.length cg,.slice ap d.ps.length F,.int .i64 d.nx,.slice U d.ga.length N,.slice H d.tk.length K] 50 (0,0)):=(y.block w.heap.size (by simp;omega) (fun e=>by have:=(o.lt _ e.symm).1;omega)).trans E
        have aq:=J.grown y (by simp;omega) (fun k hk=>by have:=(o.lt k hk).1;omega)
        have ao:v7 ≠ .slice none 0 0:=fun e=>by first | exact l e | (have:=(l.1 e).2;omega)
        clear V y l o E J a c g
        obtain ⟨aQ,aJ,rfl⟩:=Zag Y
        go_wp2_with fail
        go_roundw
        case rel=>exact ⟨j+1,b ++ [I],by omega,by go_num,HB,by simp;omega,ao,ar,Y,aq⟩
        case measure=>simp [intOf];omega
      ·have HB:Hid (pidL d=b ++ wayP d (d.ls.length - (k+1)) (k+1)):=by unfold Hid;rw [C.out,mvs_end (by omega)];rfl
       clear C T
       go_wp2_with fail
       go_roundw
       case rel=>exact ⟨k+1,b,by omega,by go_num,HB,by omega,n,a,c,g⟩
       case measure=>simp [intOf];omega
    ·have HB:Hid (pidL d=b):=by unfold Hid;rw [C.out,wayP_end (by omega),List.append_nil]
     clear C
     go_wp2_with fail
     go_ret
     exact ⟨by rw [HB.out];exact PidsAns.of rfl (Zah c (by omega)) n,g⟩
theorem ZfN (X vi vf Z vl vg vp Y vt:Value)(d:Wd)(w:World)(R:WR 0 w X vi vf Z vl vg vp Y vt d)(hS:SmW d)(hg:ErrT w)(S:worldB d=true) :
  Calls Tryz.prog 25 #[.agg #[X,vi,vf,.int .i64 d.pl,Z,vl,vg,vp,.int .i64 d.nx,Y,vt]] w fun e w'=>e=.returned (.bool (oneB d))/\Below w.heap.size w w':=by
 have ad:∀ (fn:Fn) (first f:Array Value) (w:World),(Instr.makeFunc fn first f).run Tryz.prog w=.ok (.func fn first f) w:=fun _ _ _ _=>rfl
 have R0:=R
 obtain ⟨⟨p,H,rfl⟩,⟨D,A,rfl⟩,⟨E,B,rfl⟩,⟨q,t,rfl⟩,⟨C,o,rfl⟩,⟨s,G,rfl⟩,⟨J,z,rfl⟩,⟨v,u,rfl⟩,⟨I,r,rfl⟩⟩:=R.form
 clear R
 have c:=Zap w (Obj.cells #[.slice p d.ns.length H,.slice D d.is.length A,.slice E d.ds.length B,.int .i64 d.pl,.slice q d.hs.length t,.slice C d.ls.length o,.slice s d.gs.length G,.slice J d.ps.length z,.int .i64 d.nx,.slice v d.ga.length u,.slice I d.tk.length r] 50)
 have l:=heap_alloc_new w (Obj.cells #[.slice p d.ns.length H,.slice D d.is.length A,.slice E d.ds.length B,.int .i64 d.pl,.slice q d.hs.length t,.slice C d.ls.length o,.slice s d.gs.length G,.slice J d.ps.length z,.int .i64 d.nx,.slice v d.ga.length u,.slice I d.tk.length r] 50)
 go_enter Tryz.func25,Tryz.ntmps25
 go_wp2_with (refine wpList_load_row rfl 50 _ rfl w.heap.size rfl 50 #[.slice p d.ns.length H,.slice D d.is.length A,.slice E d.ds.length B,.int .i64 d.pl,.slice q d.hs.length t,.slice C d.ls.length o,.slice s d.gs.length G,.slice J d.ps.length z,.int .i64 d.nx,.slice v d.ga.length u,.slice I d.tk.length r] (0,0) _ l Tryz.underlying50 rfl Zni ?_)
 refine (Zd1 _ _ _ _ _ _ _ _ _ d _ (R0.below c) hS (hg.below c (Nat.le_refl _)) S).mono ?_
 rintro e Q ⟨⟨g,f,rfl,a⟩,b⟩
 have k:=Zae l b
 have P:=c.trans (b.mono c.size)
 have aj:=c.size
 have h:(w.alloc (Obj.cells #[.slice p d.ns.length H,.slice D d.is.length A,.slice E d.ds.length B,.int .i64 d.pl,.slice q d.hs.length t,.slice C d.ls.length o,.slice s d.gs.length G,.slice J d.ps.length z,.int .i64 d.nx,.slice v d.ga.length u,.slice I d.tk.length r] 50)).heap.size=w.heap.size+1:=by simp
 rw [h] at a b
 have ae:=b.size
 have c8:Q.cell? ⟨w.heap.size,8,none⟩=some (.int .i64 d.nx):=cell_of_row Q _ 8 _ _ _ k
 have U:=Zhn (pidL d) d.nx g f (w.heap.size+1) w.heap.size Q a (by omega) (Zao k) c8
 have i:=once_eq d _ rfl
 obtain ⟨F,V⟩:∃ F,((pidL d).filter fun x=>!decide (d.nx <= x))=F:=⟨_,rfl⟩
 have L:F.length <= 4000000:=by
  rw [<- V]
  exact Nat.le_trans (List.length_filter_le _ _) (ZlJ S)
 rw [V] at U i
 generalize (pidL d).length=n0 at *
 clear b l c h a c8 V S
 have n:Hid (((((Lib.compact (F.mergeSort fun x y=>decide (x <= y))).length:Int) == (F.length:Int)))=oneB d):=i
 clear i k
 go_wp2_with fail
 refine U.mono ?_
 rintro e w2 ⟨rfl,a,b⟩
 have W:=P.trans (b.mono (by omega))
 have ac:=b.size
 have m:=Zgx F g f (w.heap.size+1) w2 a L
 clear U b a
 have j:(F.mergeSort fun x y=>decide (x <= y)).length=F.length:=(List.mergeSort_perm _ _).length_eq
 obtain ⟨M,N⟩:∃ M,(F.mergeSort fun x y=>decide (x <= y))=M:=⟨_,rfl⟩
 rw [N] at n j
 generalize F.length=n1 at *
 have HL:Hid (M.length=n1):=j
 clear j
 go_wp2_with fail
 refine m.mono ?_
 rintro e w3 ⟨rfl,a,b⟩
 have K:=W.trans (b.mono (by omega))
 rw [N] at a
 have T:=ZgD M g f (w.heap.size+1) w3 (by rw [HL.out];exact a)
 rw [HL.out] at T
 clear a b m N
 generalize (Lib.compact M).length=n2 at *
 go_wp2_with fail
 refine T.mono ?_
 rintro e w4 ⟨rfl,b⟩
 have O:=K.trans (b.mono (by omega))
 clear T b
 go_wp2
 go_ret
 exact ⟨retB n.out,O⟩
end Go.Proofs.YtfeodlbpnghakaaGreatDoor
