/-
  Contracts of impl's pidsThere and hasEachOnce. Of a world that is right; the variable errors.errorType reads as it is laid.
-/
import Derived.Test.YtkpfangkfknhoaaGreatDoorJgRM
import Derived.Test.YtkpfangkfknhoaaGreatDoorJgMM
import Derived.Test.YtkpfangkfknhoaaGreatDoorShelfJM
import Derived.Test.YtkpfangkfknhoaaGreatDoorMcTM
import Derived.Test.YtkpfangkfknhoaaGreatDoorSEqM
import Derived.Test.YtkpfangkfknhoaaGreatDoorMark2M
import Derived.Lib.OwnBridge
set_option maxRecDepth 100000
set_option maxHeartbeats 3200000
namespace Go.Proofs.YtkpfangkfknhoaaGreatDoor
open Go.Proofs.Tryz
open Go.RowKit Go.Sort
theorem ZnA:(prog.info? 3).map (fun i=>(i.zero,i.size,i.bytes))=some (some (.int .i64 0),1,8):=by kernel_rfl
theorem Zev (a ys:List Int):iv (a ++ ys)=iv a ++ iv ys:=by simp [iv]
def PidsAns (L:List Int)(B:Nat)(e:Ending)(w:World):Prop:=∃ g cap,e=.returned (.slice (some ⟨g,0,none⟩) L.length cap)/\w.ownsRow B 3 1 (.slice (some ⟨g,0,none⟩) L.length cap) L.length (iv L)
theorem PidsAns.of {L:List Int}{B:Nat}{e:Ending}{w:World}{v:Value}(c:e=.returned v)(h:w.ownsRow B 3 1 v L.length (iv L))(b:v ≠ .slice none 0 0):PidsAns L B e w:=by
 obtain ⟨g,a,rfl,_⟩:=Lib.holds_of_ownsRow (enc:=Value.int .i64) (zs:=L) h b;exact ⟨g,a,c,h⟩
theorem ZbS {d:Wd}(h:Zaq d=true):d.hs.length <= 8/\d.ls.length <= 9/\(∀ x ∈ d.hs,1 <= x.i):=by
 unfold Zaq at h;simp only [Bool.and_eq_true,decide_eq_true_eq] at h;obtain ⟨⟨l,f,n⟩,⟨j,c⟩,a,_⟩:=h;refine ⟨c,?_,?_⟩
 ·unfold lksB at a
  simp only [Bool.and_eq_true,decide_eq_true_eq] at a;obtain ⟨k,m⟩:=Zcl f;have g:=a.1.1;have:d.pl=1 \/ d.pl=2 \/ d.pl=3:=by omega
  rcases this with e | e | e <;> rw [e] at g <;> omega
 ·intro x b
  have:=List.all_eq_true.1 j x b;unfold hmB Zbr pidB at this;simp only [Bool.and_eq_true,decide_eq_true_eq] at this;omega
theorem Zj7 {d:Wd}(L:LkAll d)(k:Nat)(f:k < d.ls.length):(wayT d k).length <= 100000:=by
 obtain ⟨l,b⟩:∃ x,d.ls[k]? = some x:=⟨d.ls[k],List.getElem?_eq_getElem _⟩;have g:k < d.ga.length:=by have:=L.lg;omega
 obtain ⟨ts,a⟩:∃ x,d.ga[k]? = some x:=⟨d.ga[k],List.getElem?_eq_getElem _⟩;rw [Zfi b a,List.length_drop];have c:=L.ts b a;have e:=Za7 c.1;omega
theorem ZmP (d:Wd)(ts:List ByteArray):(mvs d ts).length <= ts.length:=by
 unfold mvs;exact Nat.le_trans (List.length_filter_le _ _) (by simp)
theorem ZjV {d:Wd}(L:LkAll d):∀ (n i:Nat),i+n <= d.ls.length -> (wayP d n i).length <= n * 100000
 | 0,_,_=>by simp [wayP]
 | n+1,i,h=>by
  rw [wayP,List.length_append];have c:=ZmP d (wayT d i);have a:=Zj7 L i (by omega);have b:=ZjV L n (i+1) (by omega);omega
theorem Zmg {d:Wd}(h:Zaq d=true):(pidL d).length <= 4000000:=by
 obtain ⟨c,a,_⟩:=ZbS h;have b:=ZjV (Zcq h) d.ls.length 0 (by omega);unfold pidL;rw [List.length_append,List.length_map];omega
theorem Zkj {α:Type}{a:List α}{k:Nat}{x:α}(h:a[k]? = some x):a.take (k+1)=a.take k ++ [x]:=by
 obtain ⟨b,rfl⟩:=List.getElem?_eq_some_iff.1 h;rw [List.take_succ_eq_append_getElem b]
theorem Zc1 (a x:Int)(b:Nat)(w:World)(c:w.cell? ⟨b,8,none⟩=some (.int .i64 a)) :
  FnGives prog 57 #[.pointer (some ⟨b,0,none⟩)] #[.int .i64 x] (.bool (decide (a <= x))) w:=by
 show Calls prog 57 #[.int .i64 x,.pointer (some ⟨b,0,none⟩)] w _
 go_enter func57,ntmps57
 go_wp2
 all_goals (go_ret;exact ⟨by simp_all,0,rfl⟩)
theorem ZiO (zs:List Int)(c:Int)(g a base b:Nat)(w:World)(h:w.ownsRow base 3 1 (.slice (some ⟨g,0,none⟩) zs.length a) zs.length (iv zs))(A:b < base)(f:b < w.heap.size)(r:w.cell? ⟨b,8,none⟩=some (.int .i64 c)) :
  Calls prog 55 #[.slice (some ⟨g,0,none⟩) zs.length a,.func (.func 57) #[] #[.pointer (some ⟨b,0,none⟩)]] w fun e m=>e=.returned (.slice (some ⟨g,0,none⟩) (zs.filter fun x=>!decide (c <= x)).length a)/\m.ownsRow base 3 1 (.slice (some ⟨g,0,none⟩) (zs.filter fun x=>!decide (c <= x)).length a) (zs.filter fun x=>!decide (c <= x)).length (iv (zs.filter fun x=>!decide (c <= x)))/\Below base w m:=by
 obtain ⟨B,o,e,j,D,v,t,z,y⟩:=Lib.holds_of_ownsRow (enc:=Value.int .i64) (zs:=zs) h (by intro e;cases e);simp only [Value.slice.injEq,Option.some.injEq,Addr.mk.injEq] at e;obtain ⟨⟨rfl,_⟩,_,rfl⟩:=e;have s:∀ args w,(callFunc 57 args).run prog w=.ok (.enter 57 args) w:=enters_of func57 (by kernel_rfl) rfl;have i:b ≠ g:=by omega
 have d:=AnyE.slices_DeleteFunc Tryz.laysDel (Value.int .i64) (fun _=>rfl) (fun x=>decide (c <= x)) 57 #[.pointer (some ⟨b,0,none⟩)] s 0 Tryz.zeroValue3 g 0 a zs.toArray w
  (fun W x u=>Zc1 c x b W ((u.cell (p:=⟨b,8,none⟩) f).trans r))
  (fun n os C x _=>Zc1 c x b _ (by
   unfold sortWorld;rw [cell?_grow _ _ _ (by show b < (Sort.putRow _ _ _ _ _).heap.size;rw [Sort.size_putRow];exact f),Sort.cell?_putRow_other _ _ g 0 _ _ (Or.inl i)]
   exact r)) y (by simp;unfold maxLen at t;omega) (by simpa using v)
 simp only [List.size_toArray] at d
 change Calls prog 55 #[.slice (some ⟨g,0,none⟩) zs.length a,.func (.func 57) #[] #[.pointer (some ⟨b,0,none⟩)]] w _ at d
 refine d.mono ?_;rintro e m ⟨rfl,q,rfl⟩;have l:=List.length_filter_le (fun x=>!decide (c <= x)) zs;refine ⟨rfl,?_,Lib.below_putRow (cj _ _) j⟩;have:=Lib.ownsRow_putRow (enc:=Value.int .i64) (q:=q) (k:=(zs.filter fun x=>!decide (c <= x)).length) (zs:=zs) (ys:=(zs.filter fun x=>!decide (c <= x)) ++ List.replicate (zs.length - (zs.filter fun x=>!decide (c <= x)).length) 0) h (by simp;omega) l;rw [List.take_left'] at this
 ·exact this
 ·rfl
theorem ZkC (B:Nat)(w:World)(os:Array Obj)(b:B <= w.heap.size):Below B w (grow w os):=⟨rfl,rfl,rfl,by simp [grow],fun k a=>heap_grow_old w os (by omega)⟩
theorem ZgQ (zs:List Int)(g a base:Nat)(w:World)(h:w.ownsRow base 3 1 (.slice (some ⟨g,0,none⟩) zs.length a) zs.length (iv zs))(l:zs.length <= 4000000) :
  Calls prog 58 #[.slice (some ⟨g,0,none⟩) zs.length a] w fun e i=>e=.returned (.tuple #[])/\i.ownsRow base 3 1 (.slice (some ⟨g,0,none⟩) zs.length a) zs.length (iv (zs.mergeSort fun x y=>decide (x <= y)))/\Below (min base w.heap.size) w i:=by
 obtain ⟨s,j,e,p,o,u,r,t,m⟩:=Lib.holds_of_ownsRow (enc:=Value.int .i64) (zs:=zs) h (by intro e;cases e);simp only [Value.slice.injEq,Option.some.injEq,Addr.mk.injEq] at e;obtain ⟨⟨rfl,_⟩,_,rfl⟩:=e;have b:=Any.slices_Sort_int Tryz.laysNm189 g 0 a zs w m o (by omega)
 change Calls prog 58 #[.slice (some ⟨g,0,none⟩) zs.length a] w _ at b
 refine b.mono ?_;rintro e i ⟨rfl,n,os,rfl⟩;have d:Below (min base w.heap.size) w (Sort.putRow (Value.int .i64) (Sort.ahead w n) g 0 (zs.mergeSort fun x y=>decide (x <= y)).toArray):=Lib.below_putRow (cj _ _) (by omega);have c:=ZkC (Sort.putRow (Value.int .i64) (Sort.ahead w n) g 0 (zs.mergeSort fun x y=>decide (x <= y)).toArray).heap.size _ os (ce _);refine ⟨rfl,?_,d.trans (c.mono (by have:=d.size;omega))⟩;have f:(zs.mergeSort fun x y=>decide (x <= y)).length=zs.length:=(List.mergeSort_perm _ _).length_eq;have:=Lib.ownsRow_putRow (enc:=Value.int .i64) (q:=n) (k:=zs.length) (zs:=zs) (ys:=zs.mergeSort fun x y=>decide (x <= y)) h f (ce _);rw [List.take_of_length_le (by omega)] at this;exact Zad this c
theorem ZgT (zs:List Int)(g a base:Nat)(w:World)(h:w.ownsRow base 3 1 (.slice (some ⟨g,0,none⟩) zs.length a) zs.length (iv zs)) :
  Calls prog 59 #[.slice (some ⟨g,0,none⟩) zs.length a] w fun e d=>e=.returned (.slice (some ⟨g,0,none⟩) (Lib.compact zs).length a)/\Below base w d:=by
 obtain ⟨l,f,e,c,n,k,i,m,j⟩:=Lib.holds_of_ownsRow (enc:=Value.int .i64) (zs:=zs) h (by intro e;cases e);simp only [Value.slice.injEq,Option.some.injEq,Addr.mk.injEq] at e;obtain ⟨⟨rfl,_⟩,_,rfl⟩:=e;have b:=Any.slices_Compact_int Tryz.laysNm220 g 0 a zs w j (by unfold maxLen at i;omega) k
 change Calls prog 59 #[.slice (some ⟨g,0,none⟩) zs.length a] w _ at b
 refine b.mono ?_;rintro e d ⟨rfl,q,rfl⟩;exact ⟨rfl,Lib.below_putRow (cj _ _) c⟩
theorem Zea (vn vi vf vh vl vg vp va vt:Value)(d:Wd)(w:World)(R:WR 0 w vn vi vf vh vl vg vp va vt d)(hS:SmW d)(hg:ErrT w)(hw:Zaq d=true) :
  Calls prog 56 #[.agg #[vn,vi,vf,.int .i64 d.pl,vh,vl,vg,vp,.int .i64 d.nx,va,vt]] w fun e w'=>PidsAns (pidL d) w.heap.size e w'/\Below w.heap.size w w':=by
 obtain ⟨i0,hi,az,aC,ay⟩:=info_parts ZnA;obtain ⟨aV,aU,_⟩:=ZbS hw;have L0:Hid (LkAll d):=Zcq hw;have aT:d.ls.length <= d.ga.length:=by have:=L0.out.lg;omega
 clear hw;have R0:=R;obtain ⟨⟨X,V,rfl⟩,⟨J,Q,rfl⟩,⟨T,L,rfl⟩,⟨ah,H,rfl⟩,⟨U,F,rfl⟩,⟨M,O,rfl⟩,⟨G,K,rfl⟩,⟨S,ca,rfl⟩,⟨E,N,rfl⟩⟩:=R.form;clear R;obtain ⟨g,au,_⟩:=Zax w (Obj.cells #[.slice X d.ns.length V,.slice J d.is.length Q,.slice T d.ds.length L,.int .i64 d.pl,.slice ah d.hs.length H,.slice U d.ls.length F,.slice M d.gs.length O,.slice G d.ps.length K,.int .i64 d.nx,.slice S d.ga.length ca,.slice E d.tk.length N] 50) (Obj.cells #[] 3);have aj:=Zcj (w.alloc (Obj.cells #[.slice X d.ns.length V,.slice J d.is.length Q,.slice T d.ds.length L,.int .i64 d.pl,.slice ah d.hs.length H,.slice U d.ls.length F,.slice M d.gs.length O,.slice G d.ps.length K,.int .i64 d.nx,.slice S d.ga.length ca,.slice E d.tk.length N] 50)) 3 1 (w.heap.size+1) (by simp)
 have aB:(w.alloc (Obj.cells #[.slice X d.ns.length V,.slice J d.is.length Q,.slice T d.ds.length L,.int .i64 d.pl,.slice ah d.hs.length H,.slice U d.ls.length F,.slice M d.gs.length O,.slice G d.ps.length K,.int .i64 d.nx,.slice S d.ga.length ca,.slice E d.tk.length N] 50)).heap.size=w.heap.size+1:=by simp
 rw [aB] at aj;clear aB;obtain ⟨aS,aR,aD,_,_,f⟩:=R0.rh;simp only [Value.slice.injEq] at aD;obtain ⟨rfl,_,rfl⟩:=aD;have k4:=cd _ _ 4 _ _ _ au
 go_enter func56,ntmps56
 go_wp2_with fail;clear k4;generalize (w.alloc (Obj.cells #[.slice X d.ns.length V,.slice J d.is.length Q,.slice T d.ds.length L,.int .i64 d.pl,.slice ah d.hs.length H,.slice U d.ls.length F,.slice M d.gs.length O,.slice G d.ps.length K,.int .i64 d.nx,.slice S d.ga.length ca,.slice E d.tk.length N] 50)).alloc (Obj.cells #[] 3)=w4 at *
 go_loopw [3,15] (fun s i wr=>∃ (k:Nat) (b:List Int),k <= d.hs.length/\i=.int .i64 k/\Hid (b=(d.hs.map Hm.i).take k)/\b.length <= k/\s ≠ .slice none 0 0/\wr.heap[w.heap.size]? = some (.cells #[.slice X d.ns.length V,.slice J d.is.length Q,.slice T d.ds.length L,.int .i64 d.pl,.slice ah d.hs.length H,.slice U d.ls.length F,.slice M d.gs.length O,.slice G d.ps.length K,.int .i64 d.nx,.slice S d.ga.length ca,.slice E d.tk.length N] 50 (0,0))/\wr.ownsRow (w.heap.size+1) 3 1 s b.length (iv b)/\Below w.heap.size w wr) (fun _ i _=>d.hs.length - (intOf i).toNat)
 case atStart=>exact ⟨0,[],by omega,rfl,rfl,by simp,(by intro h;cases h),au,aj,g⟩
 case round =>
  clear au aj g;obtain ⟨k,b,hk,rfl,HL,ad,n,a,c,g⟩:=hrel;have A:=Zao a;obtain ⟨ac,qs,rfl⟩:=Zag c
  by_cases B:k < d.hs.length
  ·obtain ⟨gh,oh,rfl,_,aO,f⟩:=f (by intro e;rw [e] at B;simp at B)
   obtain ⟨x,hx⟩:∃ x,d.hs[k]? = some x:=⟨d.hs[k],List.getElem?_eq_getElem _⟩;obtain ⟨cs,aJ,hr,v1,v2,v3,hc,N1,S1,S2,_,_,_⟩:=f k x hx;obtain ⟨n1,m1,rfl⟩:=N1.small8;obtain ⟨n2,m2,rfl⟩:=S1.small;obtain ⟨n3,m3,rfl⟩:=S2.small;obtain rfl:cs=(#[.int .i64 x.pl,.int .i64 x.i,.slice n1 x.xs.length m1,.int .i64 x.m.p,.int .i64 x.m.s,.int .i64 x.m.e,.int .i64 x.m.d,.int .i64 x.m.t,.int .i64 x.m.q,.int .i64 x.m.r,.slice n2 x.bx.length m2,.slice n3 x.ox.length m3]:Array Value).toList:=congrArg Array.toList hc;replace hr:=Zaf hr g aO;clear f hc aJ N1 S1 S2;have aI:Hid (b ++ [x.i]=(d.hs.map Hm.i).take (k+1)):=by unfold Hid;rw [HL.out,Zkj (x:=x.i) (by rw [List.getElem?_map,hx];rfl)]
   have o:((wr.alloc (Obj.cells #[.int .i64 x.pl,.int .i64 x.i,.slice n1 x.xs.length m1,.int .i64 x.m.p,.int .i64 x.m.s,.int .i64 x.m.e,.int .i64 x.m.d,.int .i64 x.m.t,.int .i64 x.m.q,.int .i64 x.m.r,.slice n2 x.bx.length m2,.slice n3 x.ox.length m3] 103)).alloc (Obj.cells #[.int .i64 x.i] 3)).ownsRow (w.heap.size+1) 3 1 (.slice ac b.length qs) b.length (iv b):=(c.alloc _).alloc _;obtain ⟨y,aH,aP⟩:=Zax wr (Obj.cells #[.int .i64 x.pl,.int .i64 x.i,.slice n1 x.xs.length m1,.int .i64 x.m.p,.int .i64 x.m.s,.int .i64 x.m.e,.int .i64 x.m.d,.int .i64 x.m.t,.int .i64 x.m.q,.int .i64 x.m.r,.slice n2 x.bx.length m2,.slice n3 x.ox.length m3] 103) (Obj.cells #[.int .i64 x.i] 3);have Z:=Zaa a y
   have aG:(wr.alloc (Obj.cells #[.int .i64 x.pl,.int .i64 x.i,.slice n1 x.xs.length m1,.int .i64 x.m.p,.int .i64 x.m.s,.int .i64 x.m.e,.int .i64 x.m.d,.int .i64 x.m.t,.int .i64 x.m.q,.int .i64 x.m.r,.slice n2 x.bx.length m2,.slice n3 x.ox.length m3] 103)).cell? ⟨wr.heap.size,0+1,none⟩=some (.int .i64 x.i):=cd _ _ 1 _ _ _ (co _ _)
   have aA:∀ j u,[Value.int .i64 x.i][j]? = some u -> ((wr.alloc (Obj.cells #[.int .i64 x.pl,.int .i64 x.i,.slice n1 x.xs.length m1,.int .i64 x.m.p,.int .i64 x.m.s,.int .i64 x.m.e,.int .i64 x.m.d,.int .i64 x.m.t,.int .i64 x.m.q,.int .i64 x.m.r,.slice n2 x.bx.length m2,.slice n3 x.ox.length m3] 103)).alloc (Obj.cells #[.int .i64 x.i] 3)).cell? ((⟨wr.heap.size+1,0,none⟩:Addr).add j)=some u:=by
    have:=cell_one_new (wr.alloc (Obj.cells #[.int .i64 x.pl,.int .i64 x.i,.slice n1 x.xs.length m1,.int .i64 x.m.p,.int .i64 x.m.s,.int .i64 x.m.e,.int .i64 x.m.d,.int .i64 x.m.t,.int .i64 x.m.q,.int .i64 x.m.r,.slice n2 x.bx.length m2,.slice n3 x.ox.length m3] 103)) (.int .i64 x.i) 3
    simpa using this
   have D:=g.trans (y.mono g.size);have ae:((wr.alloc (Obj.cells #[.int .i64 x.pl,.int .i64 x.i,.slice n1 x.xs.length m1,.int .i64 x.m.p,.int .i64 x.m.s,.int .i64 x.m.e,.int .i64 x.m.d,.int .i64 x.m.t,.int .i64 x.m.q,.int .i64 x.m.r,.slice n2 x.bx.length m2,.slice n3 x.ox.length m3] 103)).alloc (Obj.cells #[.int .i64 x.i] 3)).heap.size=wr.heap.size+2:=by simp
   have ak:Hid (((wr.alloc (Obj.cells #[.int .i64 x.pl,.int .i64 x.i,.slice n1 x.xs.length m1,.int .i64 x.m.p,.int .i64 x.m.s,.int .i64 x.m.e,.int .i64 x.m.d,.int .i64 x.m.t,.int .i64 x.m.q,.int .i64 x.m.r,.slice n2 x.bx.length m2,.slice n3 x.ox.length m3] 103)).alloc (Obj.cells #[.int .i64 x.i] 3)).heap.size=wr.heap.size+2):=ae;clear hx HL aH aP ae y
   go_wp2_with (first | (refine wpList_load_mid rfl 103 _ rfl gh (oh+k * 12) rfl _ _ hr underlying103 rfl (by kernel_rfl) ?_) | (at_builtin;refine wpList_append_own _ rfl _ _ 124 rfl (w.heap.size+1) 3 i0 (.int .i64 0) 1 8 underlying124 hi az aC ay rfl (by decide) _ _ _ rfl o ⟨wr.heap.size+1,0,none⟩ 1 1 [.int .i64 x.i] rfl rfl aA (fun u hu=>by simp at hu;subst hu;rfl) (by unfold maxLen;omega) (by omega) (by have:=ak.out;omega) ?_))
   intro v7 w7 Y z l;have W:w7.ownsRow (w.heap.size+1) 3 1 v7 (b ++ [x.i]).length (iv (b ++ [x.i])):=by rw [Zev,List.length_append];exact Y
   have av:w7.heap[w.heap.size]? = some (.cells #[.slice X d.ns.length V,.slice J d.is.length Q,.slice T d.ds.length L,.int .i64 d.pl,.slice (some ⟨gh,oh,none⟩) d.hs.length H,.slice U d.ls.length F,.slice M d.gs.length O,.slice G d.ps.length K,.int .i64 d.nx,.slice S d.ga.length ca,.slice E d.tk.length N] 50 (0,0)):=(z.block w.heap.size (by have:=ak.out;omega) (fun e=>by have:=(o.lt _ e.symm).1;omega)).trans Z;have aq:=D.grown z (by have:=ak.out;omega) (fun k hk=>by have:=(o.lt k hk).1;omega);have am:v7 ≠ .slice none 0 0:=fun e=>by first | exact l e | (have:=(l.1 e).2;omega)
   clear Y z l o Z D aA aG a c g hr;obtain ⟨aL,aQ,rfl⟩:=Zag W;go_wp2_with fail
   go_roundw
   case rel=>exact ⟨k+1,b ++ [x.i],by omega,by go_num,aI,by simp;omega,am,av,W,aq⟩
   case measure=>simp [intOf];omega
  ·have C:Hid (pidL d=b ++ wayP d (d.ls.length - 0) 0):=by unfold Hid pidL;rw [HL.out,List.take_of_length_le (by rw [List.length_map];omega)];rfl
   have aE:b.length <= 8:=by omega
   clear HL f;have c5:=cd _ _ 5 _ _ _ a;go_wp2_with fail;clear c5
   go_loopw [3,29] (fun s i wx=>∃ (k:Nat) (b:List Int),k <= d.ls.length/\i=.int .i64 k/\Hid (pidL d=b ++ wayP d (d.ls.length - k) k)/\b.length <= 8+k * 100000/\s ≠ .slice none 0 0/\wx.heap[w.heap.size]? = some (.cells #[.slice X d.ns.length V,.slice J d.is.length Q,.slice T d.ds.length L,.int .i64 d.pl,.slice ah d.hs.length H,.slice U d.ls.length F,.slice M d.gs.length O,.slice G d.ps.length K,.int .i64 d.nx,.slice S d.ga.length ca,.slice E d.tk.length N] 50 (0,0))/\wx.ownsRow (w.heap.size+1) 3 1 s b.length (iv b)/\Below w.heap.size w wx) (fun _ i _=>d.ls.length - (intOf i).toNat)
   case atStart=>exact ⟨0,b,by omega,rfl,C,by omega,n,a,c,g⟩
   case round =>
    clear C n a c g A ad aE;obtain ⟨k,b,hk,rfl,C,ad,n,a,c,g⟩:=hrel;have A:=Zao a;obtain ⟨ac,qs,rfl⟩:=Zag c
    by_cases B:k < d.ls.length
    ·have h2:k < d.ga.length:=by omega
     have aK:=Zj7 L0.out k B;have ar:∀ x ∈ wayT d k,x.size <= 1048576:=ZhY hS.ha.2;have ao:Hid (pidL d=b ++ (mvs d ((wayT d k).drop 0) ++ wayP d (d.ls.length - (k+1)) (k+1))):=by unfold Hid;rw [C.out,ZdP B];rfl
     clear C
     go_wp2_with (refine cE rfl 50 _ rfl w.heap.size rfl 50 #[.slice X d.ns.length V,.slice J d.is.length Q,.slice T d.ds.length L,.int .i64 d.pl,.slice ah d.hs.length H,.slice U d.ls.length F,.slice M d.gs.length O,.slice G d.ps.length K,.int .i64 d.nx,.slice S d.ga.length ca,.slice E d.tk.length N] (0,0) _ a underlying50 rfl ZnQ ?_)
     refine (Zg0 _ _ _ _ _ _ _ _ _ d k w _ R0 g B h2).mono ?_;rintro e w5 ⟨⟨v,rfl,hv⟩,hb⟩;obtain ⟨ts,hT⟩:∃ ts,wayT d k=ts:=⟨_,rfl⟩;rw [hT] at aK ar ao hv;clear hT;obtain ⟨pa,qa,rfl,_,_,_,P⟩:=hv;replace a:=Zaa a hb;replace c:=Zad c hb;replace g:=g.trans (hb.mono g.size);clear hb A;go_wp2_with fail
     go_loopw [3,36] (fun s i wx=>∃ (j:Nat) (b:List Int),j <= ts.length/\i=.int .i64 j/\Hid (pidL d=b ++ (mvs d (ts.drop j) ++ wayP d (d.ls.length - (k+1)) (k+1)))/\b.length <= 8+k * 100000+j/\s ≠ .slice none 0 0/\wx.heap[w.heap.size]? = some (.cells #[.slice X d.ns.length V,.slice J d.is.length Q,.slice T d.ds.length L,.int .i64 d.pl,.slice ah d.hs.length H,.slice U d.ls.length F,.slice M d.gs.length O,.slice G d.ps.length K,.int .i64 d.nx,.slice S d.ga.length ca,.slice E d.tk.length N] 50 (0,0))/\wx.ownsRow (w.heap.size+1) 3 1 s b.length (iv b)/\Below w.heap.size w wx) (fun _ i _=>ts.length - (intOf i).toNat)
     case atStart=>exact ⟨0,b,by omega,rfl,ao,by omega,n,a,c,g⟩
     case round =>
      clear ao n a c g ad;obtain ⟨j,b,hj,rfl,C,ad,n,a,c,g⟩:=hrel;obtain ⟨ac,qs,rfl⟩:=Zag c;have A:=Zao a
      by_cases aw:j < ts.length
      ·obtain ⟨gs,os,rfl,aF,P⟩:=P (by intro e;rw [e] at aw;simp at aw)
       obtain ⟨x,hx⟩:∃ x,ts[j]? = some x:=⟨ts[j],List.getElem?_eq_getElem _⟩;have c0:=(g.cell (p:=⟨gs,os+j,none⟩) aF).trans (P j x hx);have aM:=ar x (List.mem_of_getElem? hx);have HS:Hid (pidL d=b ++ (((if movN d.ns d.is d.ds x=0 then [] else [movN d.ns d.is d.ds x]) ++ mvs d (ts.drop (j+1))) ++ wayP d (d.ls.length - (k+1)) (k+1))):=by unfold Hid;rw [C.out,Ze3 hx]
       clear P hx C ar
       go_wp2_with (refine cE rfl 50 _ rfl w.heap.size rfl 50 #[.slice X d.ns.length V,.slice J d.is.length Q,.slice T d.ds.length L,.int .i64 d.pl,.slice ah d.hs.length H,.slice U d.ls.length F,.slice M d.gs.length O,.slice G d.ps.length K,.int .i64 d.nx,.slice S d.ga.length ca,.slice E d.tk.length N] (0,0) _ a underlying50 rfl ZnQ ?_)
       refine (Zfz _ _ _ _ _ _ _ _ _ d x 0 _ (R0.below g) aM (hg.below g (ce _))).mono ?_;rintro e w6 ⟨⟨ok,I,rfl,hy,hn⟩,hb⟩;replace a:=Zaa a hb;replace c:=Zad c hb;replace g:=g.trans (hb.mono g.size);clear hb A c0;cases ok with
       | false =>
        have HB:Hid (pidL d=b ++ (mvs d (ts.drop (j+1)) ++ wayP d (d.ls.length - (k+1)) (k+1))):=by unfold Hid;rw [HS.out,hn rfl];rfl
        clear hn hy HS;go_wp2_with fail
        go_roundw
        case rel=>exact ⟨j+1,b,by omega,by go_num,HB,by omega,n,a,c,g⟩
        case measure=>simp [intOf];omega
       | true =>
        obtain ⟨ax,aN⟩:=hy rfl;have HB:Hid (pidL d=(b ++ [I]) ++ (mvs d (ts.drop (j+1)) ++ wayP d (d.ls.length - (k+1)) (k+1))):=by unfold Hid;rw [HS.out,ax,if_neg (by omega)];simp
        clear hn hy HS ax aN;have y:=Zap w6 (Obj.cells #[.int .i64 I] 3);have o:(w6.alloc (Obj.cells #[.int .i64 I] 3)).ownsRow (w.heap.size+1) 3 1 (.slice ac b.length qs) b.length (iv b):=c.alloc _;have Z:=Zaa a y;have D:=g.trans (y.mono g.size);have A:=Zao a;clear y
        go_wp2_with (at_builtin;refine wpList_append_own _ rfl _ _ 124 rfl (w.heap.size+1) 3 i0 (.int .i64 0) 1 8 underlying124 hi az aC ay rfl (by decide) _ _ _ rfl o ⟨w6.heap.size,0,none⟩ 1 1 [.int .i64 I] rfl rfl (cell_one_new _ _ _) (fun u hu=>by simp at hu;subst hu;rfl) (by unfold maxLen;omega) (by omega) (by simp;omega) ?_)
        intro v7 w7 Y z l;have W:w7.ownsRow (w.heap.size+1) 3 1 v7 (b ++ [I]).length (iv (b ++ [I])):=by rw [Zev,List.length_append];exact Y
        have av:w7.heap[w.heap.size]? = some (.cells #[.slice X d.ns.length V,.slice J d.is.length Q,.slice T d.ds.length L,.int .i64 d.pl,.slice ah d.hs.length H,.slice U d.ls.length F,.slice M d.gs.length O,.slice G d.ps.length K,.int .i64 d.nx,.slice S d.ga.length ca,.slice E d.tk.length N] 50 (0,0)):=(z.block w.heap.size (by simp;omega) (fun e=>by have:=(o.lt _ e.symm).1;omega)).trans Z;have aq:=D.grown z (by simp;omega) (fun k hk=>by have:=(o.lt k hk).1;omega);have am:v7 ≠ .slice none 0 0:=fun e=>by first | exact l e | (have:=(l.1 e).2;omega)
        clear Y z l o Z D a c g;obtain ⟨aL,aQ,rfl⟩:=Zag W;go_wp2_with fail
        go_roundw
        case rel=>exact ⟨j+1,b ++ [I],by omega,by go_num,HB,by simp;omega,am,av,W,aq⟩
        case measure=>simp [intOf];omega
      ·have HB:Hid (pidL d=b ++ wayP d (d.ls.length - (k+1)) (k+1)):=by unfold Hid;rw [C.out,ZgK (by omega)];rfl
       clear C P;go_wp2_with fail
       go_roundw
       case rel=>exact ⟨k+1,b,by omega,by go_num,HB,by omega,n,a,c,g⟩
       case measure=>simp [intOf];omega
    ·have HB:Hid (pidL d=b):=by unfold Hid;rw [C.out,Zfo (by omega),List.append_nil]
     clear C;go_wp2_with fail;go_ret;exact ⟨by rw [HB.out];exact PidsAns.of rfl (Zah c (by omega)) n,g⟩
theorem Zgo (vn vi vf vh vl vg vp X Y:Value)(d:Wd)(w:World)(R:WR 0 w vn vi vf vh vl vg vp X Y d)(hS:SmW d)(hg:ErrT w)(L:Zaq d=true) :
  Calls prog 26 #[.agg #[vn,vi,vf,.int .i64 d.pl,vh,vl,vg,vp,.int .i64 d.nx,X,Y]] w fun e w'=>e=.returned (.bool (oneB d))/\Below w.heap.size w w':=by
 have ac:∀ (Z:Fn) (first f:Array Value) (w:World),(Instr.makeFunc Z first f).run prog w=.ok (.func Z first f) w:=fun _ _ _ _=>rfl
 have R0:=R;obtain ⟨⟨B,s,rfl⟩,⟨r,C,rfl⟩,⟨o,z,rfl⟩,⟨G,q,rfl⟩,⟨p,A,rfl⟩,⟨I,u,rfl⟩,⟨E,t,rfl⟩,⟨H,D,rfl⟩,⟨v,J,rfl⟩⟩:=R.form;clear R;have c:=Zap w (Obj.cells #[.slice B d.ns.length s,.slice r d.is.length C,.slice o d.ds.length z,.int .i64 d.pl,.slice G d.hs.length q,.slice p d.ls.length A,.slice I d.gs.length u,.slice E d.ps.length t,.int .i64 d.nx,.slice H d.ga.length D,.slice v d.tk.length J] 50);have k:=co w (Obj.cells #[.slice B d.ns.length s,.slice r d.is.length C,.slice o d.ds.length z,.int .i64 d.pl,.slice G d.hs.length q,.slice p d.ls.length A,.slice I d.gs.length u,.slice E d.ps.length t,.int .i64 d.nx,.slice H d.ga.length D,.slice v d.tk.length J] 50)
 go_enter func26,ntmps26
 go_wp2_with (refine cE rfl 50 _ rfl w.heap.size rfl 50 #[.slice B d.ns.length s,.slice r d.is.length C,.slice o d.ds.length z,.int .i64 d.pl,.slice G d.hs.length q,.slice p d.ls.length A,.slice I d.gs.length u,.slice E d.ps.length t,.int .i64 d.nx,.slice H d.ga.length D,.slice v d.tk.length J] (0,0) _ k underlying50 rfl ZnQ ?_)
 refine (Zea _ _ _ _ _ _ _ _ _ d _ (R0.below c) hS (hg.below c (ce _)) L).mono ?_;rintro e U ⟨⟨g,f,rfl,a⟩,b⟩;have j:=Zaa k b;have Q:=c.trans (b.mono c.size);have aj:=c.size;have i:(w.alloc (Obj.cells #[.slice B d.ns.length s,.slice r d.is.length C,.slice o d.ds.length z,.int .i64 d.pl,.slice G d.hs.length q,.slice p d.ls.length A,.slice I d.gs.length u,.slice E d.ps.length t,.int .i64 d.nx,.slice H d.ga.length D,.slice v d.tk.length J] 50)).heap.size=w.heap.size+1:=by simp
 rw [i] at a b;have ae:=b.size;have c8:U.cell? ⟨w.heap.size,8,none⟩=some (.int .i64 d.nx):=cd U _ 8 _ _ _ j;have O:=ZiO (pidL d) d.nx g f (w.heap.size+1) w.heap.size U a (by omega) (Zao j) c8;have h:=Zmj d _ rfl;obtain ⟨F,V⟩:∃ F,((pidL d).filter fun x=>!decide (d.nx <= x))=F:=⟨_,rfl⟩
 have T:F.length <= 4000000:=by
  rw [<- V];exact Nat.le_trans (List.length_filter_le _ _) (Zmg L)
 rw [V] at O h;generalize (pidL d).length=n0 at *;clear b k c i a c8 V L;have m:Hid (((((Lib.compact (F.mergeSort fun x y=>decide (x <= y))).length:Int) == (F.length:Int)))=oneB d):=h;clear h j;go_wp2_with fail;refine O.mono ?_;rintro e w2 ⟨rfl,a,b⟩;have S:=Q.trans (b.mono (by omega));have ad:=b.size;have n:=ZgQ F g f (w.heap.size+1) w2 a T;clear O b a;have l:(F.mergeSort fun x y=>decide (x <= y)).length=F.length:=(List.mergeSort_perm _ _).length_eq;obtain ⟨M,P⟩:∃ M,(F.mergeSort fun x y=>decide (x <= y))=M:=⟨_,rfl⟩;rw [P] at m l;generalize F.length=n1 at *;have HL:Hid (M.length=n1):=l;clear l;go_wp2_with fail;refine n.mono ?_;rintro e w3 ⟨rfl,a,b⟩;have K:=S.trans (b.mono (by omega));rw [P] at a;have N:=ZgT M g f (w.heap.size+1) w3 (by rw [HL.out];exact a);rw [HL.out] at N;clear a b n P;generalize (Lib.compact M).length=n2 at *
 go_wp2_with fail;refine N.mono ?_;rintro e w4 ⟨rfl,b⟩;have W:=K.trans (b.mono (by omega));clear N b;go_wp2;go_ret;exact ⟨retB m.out,W⟩
end Go.Proofs.YtkpfangkfknhoaaGreatDoor
