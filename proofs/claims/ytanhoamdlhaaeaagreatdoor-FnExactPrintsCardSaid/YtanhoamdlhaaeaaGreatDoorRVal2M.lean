/-
  Texts that stood by themselves, laid into one.
-/
import Derived.Test.YtanhoamdlhaaeaaGreatDoorRNumsM
import Derived.Test.YtanhoamdlhaaeaaGreatDoorSGTextM
import Derived.Test.YtanhoamdlhaaeaaGreatDoorIReachM
import Derived.Test.YtanhoamdlhaaeaaGreatDoorShapeM
import Derived.LaidEql
import Derived.Stop.Asserts
import Derived.RowKitTokens
import Derived.Test.YtanhoamdlhaaeaaGreatDoorSWireM
import Derived.Test.YtanhoamdlhaaeaaGreatDoorMkListM
import Derived.Test.YtanhoamdlhaaeaaGreatDoorR8cM
/-
  Contracts of slices.Contains of bools, (impl.Pool).isKept and (impl.reader).end. No condition but that the pool is right.
-/
set_option maxRecDepth 100000
set_option maxHeartbeats 4000000
namespace Go.Proofs.YtanhoamdlhaaeaaGreatDoor
open Go.Proofs.Tryz
open Go.RowKit
theorem ZgH (v:Value)(c:List Bool)(w:World)(R:BRow w v c)(B:c.length <= 4194304) :
  Calls prog 200 #[v,.bool false] w fun e x=>∃ r:Int,e=.returned (.int .i64 r)/\(0 <= r <-> false ∈ c)/\x=w:=by
 obtain ⟨y,s,rfl,_,_,a⟩:=R
 go_enter func200,ntmps200
 go_wp2_with fail
 go_loopw [8] (fun i wr=>∃ k:Nat,k <= c.length/\i=.int .i64 k/\Hid (∀ j,j < k -> c[j]? = some true)/\wr=w) (fun i _=>c.length - (intOf i).toNat)
 case atStart=>exact ⟨0,by omega,rfl,fun j f=>by omega,rfl⟩
 case round =>
  obtain ⟨k,A,rfl,q,rfl⟩:=hrel
  by_cases d:k < c.length
  ·obtain ⟨g,o,rfl,z,a⟩:=a (by intro e;subst e;simp at d)
   have t:=a k d;clear a;obtain ⟨b,m⟩:∃ b,c[k]? = some b:=⟨c[k],by simp [d]⟩;rw [show c.getD k false=b by simp [List.getD,m]] at t;cases b with
   | false =>
    have p:false ∈ c:=List.mem_of_getElem? m;go_wp2;go_ret;exact ⟨k,rfl,⟨fun _=>p,fun _=>by omega⟩,rfl⟩
   | true =>
    have l:Hid (∀ j,j < k+1 -> c[j]? = some true):=fun j f=>by
     rcases Nat.lt_or_ge j k with h | h
     ·exact q.out j h
     ·obtain rfl:j=k:=by omega
      exact m
    go_wp2
    go_roundw
    case rel=>exact ⟨k+1,by omega,by go_num,l,by trivial⟩
    case measure=>simp [intOf];omega
  ·have n:k=c.length:=by omega
   subst n
   have p:false ∉ c:=fun h=>by
    obtain ⟨j,f,u⟩:=List.getElem_of_mem h;have:=q.out j f;rw [List.getElem?_eq_getElem f,u] at this;cases this
   go_wp2;go_ret;exact ⟨-1,rfl,⟨fun h=>by omega,fun h=>absurd h p⟩,rfl⟩
theorem ZdS (v:Value)(a:List Bool)(w:World)(R:BRow w v a)(d:a.length <= 4194304) :
  Calls prog 179 #[v,.bool false] w fun e f=>e=.returned (.bool (a.contains false))/\f=w:=by
 go_enter func179,ntmps179
 go_wp2_with fail;refine (ZgH v a w R d).mono ?_;rintro e g ⟨r,rfl,b,rfl⟩
 have c:Hid (a.contains false=decide (0 <= r)):=by
  unfold Hid;rw [Bool.eq_iff_iff,List.contains_iff_mem,decide_eq_true_eq];exact b.symm
 clear b;go_wp2;go_ret;exact ⟨by rw [c.out];rfl,rfl⟩
theorem Zg3 (v j:Value)(a:List Nd)(rs:List Int)(w:World)(R:NRow w v a)(L:IRow w j rs)(o:Zap a=true)(s:allI a rs=true) :
  Calls prog 172 #[.agg #[v],j] w fun e u=>e=.returned (.bool (allR a rs))/\Below w.heap.size w u:=by
 obtain ⟨l,f,rfl,_⟩:=id R;have m:=Za1 o;have b:Below w.heap.size w (w.alloc (Obj.cells #[.slice l a.length f] 41)):=(cf _ _).alloc (ce _) _
 go_enter func172,ntmps172
 go_wp2_with fail;refine (ZgZ l f j a rs _ (R.below b) (L.below b) o s).mono ?_;rintro e x ⟨t,rfl,n,i⟩;have g:=b.trans (i.mono b.size);have d:=Za2 a rs;have q:Hid ((Zat a rs).length=a.length):=d;rw [<- d] at n;have r:=BRow.of_own n (by omega);clear d;have k:=ZdS t (Zat a rs) _ r (by rw [q.out];omega);obtain ⟨cb,c⟩:∃ cb,Hid ((Zat a rs).contains false=cb):=⟨_,rfl⟩;rw [c.out] at k;have p:Hid (allR a rs = !cb):=by unfold Hid allR;rw [c.out]
 clear c;go_wp2_with fail;refine k.mono ?_;rintro e y ⟨rfl,rfl⟩;go_wp2;go_ret;exact ⟨by rw [p.out];rfl,g⟩
end Go.Proofs.YtanhoamdlhaaeaaGreatDoor
namespace Go.Proofs.YtanhoamdlhaaeaaGreatDoor
open Go.Proofs.Tryz
open Go.RowKit Go.Extern.Stop Go.Stop Go.Extern
theorem ZkL (t:Value)(w:World) :
  Calls prog 174 #[.nilIface,t] w fun e a=>e=.returned (.bool false)/\a=w:=by
 go_enter func174,ntmps174
 go_wp2;go_ret;exact ⟨rfl,rfl⟩
theorem Tryz.asValueOfP (t:Addr)(w:World):(ReflectliteValue.unpack (.iface 241 (.pointer (some t)))).run prog w
  = .ok (.agg #[.pointer (some ⟨1,241,none⟩),.pointer (some ⟨w.heap.size,0,none⟩),.int .u64 150]) (w.alloc (.cells #[.pointer (some t)] 241)):=by kernel_rfl
theorem Tryz.asTypeP (a:Addr)(w:World):(ReflectliteValue.methodAny (ReflectliteValue.valueError "reflectlite.Value.Type" 0) (fun t _ _ _=>ReflectliteType.toType t) #[.agg #[.pointer (some ⟨1,241,none⟩),.pointer (some a),.int .u64 150]]).run prog w
  = .ok (.iface 272 (.agg #[.pointer (some ⟨1,241,none⟩)])) w:=by kernel_rfl
theorem Tryz.asMethodKind (h:Value)(w:World):(Go.method 424 272 (.agg #[h]) "Kind").run prog w=.ok (226,h) w:=by kernel_rfl
theorem Tryz.asKindP (w:World):((ReflectliteType.abiMethod fun t=>(fun a:Nat=>Value.int IntKind.u8 (a:Int)) <$> Rtype.kind t) #[.pointer (some ⟨1,241,none⟩)]).run prog w=.ok (.int .u8 22) w:=by kernel_rfl
theorem Tryz.asKindT (w:World):((ReflectliteType.abiMethod fun t=>(fun a:Nat=>Value.int IntKind.u8 (a:Int)) <$> Rtype.kind t) #[.pointer (some ⟨1,238,none⟩)]).run prog w=.ok (.int .u8 25) w:=by kernel_rfl
theorem rlm (z:Sem Value)(f:TypeId -> Addr -> Nat -> Nat -> Sem Value)(v:Value) :
  ReflectliteValue.method z f #[v]=(do match <- ReflectliteValue.parts v with | none=>z | some (t,a,fl)=>f t a fl (fl % 32)):=rfl
theorem Tryz.asPartsP (a:Addr)(w:World):(ReflectliteValue.parts (.agg #[.pointer (some ⟨1,241,none⟩),.pointer (some a),.int .u64 150])).run prog w=.ok (some (241,a,150)) w:=by kernel_rfl
theorem Tryz.asIsNilP (a p:Addr)(W:World)(b:W.cell? a=some (.pointer (some p))) :
  (ReflectliteValue.method (ReflectliteValue.valueError "reflectlite.Value.IsNil" 0) ReflectliteValue.isNil #[.agg #[.pointer (some ⟨1,241,none⟩),.pointer (some a),.int .u64 150]]).run prog W=.ok (.bool false) W:=by
 rw [rlm];simp only [Sem.run_bind,Tryz.asPartsP,Result.andThen];simp [ReflectliteValue.isNil,loadVar,isAgg,underlying,underlying241,b,Result.andThen]
theorem Tryz.asMethodElem (h:Value)(w:World):(Go.method 424 272 (.agg #[h]) "Elem").run prog w=.ok (239,.agg #[h]) w:=by kernel_rfl
theorem Tryz.asMethodImplements (h:Value)(w:World):(Go.method 424 272 (.agg #[h]) "Implements").run prog w=.ok (240,.agg #[h]) w:=by kernel_rfl
theorem Tryz.asMethodAssignableTo (h:Value)(w:World):(Go.method 424 272 (.agg #[h]) "AssignableTo").run prog w=.ok (237,.agg #[h]) w:=by kernel_rfl
theorem Tryz.asElemP (w:World):(ReflectliteType.method ReflectliteType.elem #[.agg #[.pointer (some ⟨1,241,none⟩)]]).run prog w=.ok (.iface 272 (.agg #[.pointer (some ⟨1,238,none⟩)])) w:=by kernel_rfl
theorem Tryz.asImplementsT (w:World):(ReflectliteType.relation "Implements" ReflectliteType.implements_ #[.agg #[.pointer (some ⟨1,238,none⟩)],.iface 272 (.agg #[.pointer (some ⟨1,221,none⟩)])]).run prog w=.ok (.bool true) w:=by kernel_rfl
theorem Tryz.asTypeOfT (v:Value)(w:World):(ReflectliteType.typeOf #[.iface 238 v]).run prog w=.ok (.iface 272 (.agg #[.pointer (some ⟨1,238,none⟩)])) w:=by kernel_rfl
theorem Tryz.asAssignableT (w:World):(ReflectliteType.relation "AssignableTo" ReflectliteType.assignableTo #[.agg #[.pointer (some ⟨1,238,none⟩)],.iface 272 (.agg #[.pointer (some ⟨1,238,none⟩)])]).run prog w=.ok (.bool true) w:=by kernel_rfl
theorem Tryz.asValueOfT (p:Int)(w:World):(ReflectliteValue.unpack (.iface 238 (.agg #[.int .i64 p]))).run prog w
  = .ok (.agg #[.pointer (some ⟨1,238,none⟩),.pointer (some ⟨w.heap.size,0,none⟩),.int .u64 153]) (w.alloc (.cells #[.int .i64 p] 238)):=by kernel_rfl
theorem Tryz.asElemOfP (w:World):(Rtype.elem? 241).run prog w=.ok (some 238) w:=by kernel_rfl
theorem Tryz.asMkT (p:Addr)(w:World):(ReflectliteValue.mk 238 p ReflectliteValue.flagAddr).run prog w=.ok (.agg #[.pointer (some ⟨1,238,none⟩),.pointer (some p),.int .u64 409]) w:=by kernel_rfl
theorem Tryz.asElemV (a p:Addr)(W:World)(b:W.cell? a=some (.pointer (some p))) :
  (ReflectliteValue.method (ReflectliteValue.valueError "reflectlite.Value.Elem" 0) ReflectliteValue.elem #[.agg #[.pointer (some ⟨1,241,none⟩),.pointer (some a),.int .u64 150]]).run prog W
   = .ok (.agg #[.pointer (some ⟨1,238,none⟩),.pointer (some p),.int .u64 409]) W:=by
 rw [rlm];simp only [Sem.run_bind,Tryz.asPartsP,Result.andThen];simp [ReflectliteValue.elem,loadVar,isAgg,underlying,underlying241,b,Result.andThen,Tryz.asElemOfP,Tryz.asMkT]
theorem Tryz.asPartsA (a:Addr)(w:World):(ReflectliteValue.parts (.agg #[.pointer (some ⟨1,238,none⟩),.pointer (some a),.int .u64 409])).run prog w=.ok (some (238,a,409)) w:=by kernel_rfl
theorem Tryz.asPartsT (a:Addr)(w:World):(ReflectliteValue.parts (.agg #[.pointer (some ⟨1,238,none⟩),.pointer (some a),.int .u64 153])).run prog w=.ok (some (238,a,153)) w:=by kernel_rfl
theorem Tryz.asDirect (w:World):(Rtype.directlyAssignable 238 238).run prog w=.ok true w:=by kernel_rfl
def ErrT (w:World):Prop:=w.cell? ⟨0,0,none⟩=some (.iface 272 (.agg #[.pointer (some ⟨1,221,none⟩)]))
theorem ErrT.below {w a:World}{B:Nat}(h:ErrT w)(c:Below B w a)(b:w.heap.size <= B):ErrT a:=by
 have d:=World.block_lt_of_cell? _ _ h;unfold ErrT;rw [c.cell (p:=⟨0,0,none⟩) (cm d b)];exact h
theorem Tryz.asSet (a b:Nat)(p q:Int)(W:World)(g:W.heap[b]? = some (.cells #[.int .i64 p] 238 (0,0)))(d:W.heap[a]? = some (.cells #[.int .i64 q] 238 (0,0))) :
  (ReflectliteValue.set #[.agg #[.pointer (some ⟨1,238,none⟩),.pointer (some ⟨a,0,none⟩),.int .u64 409],.agg #[.pointer (some ⟨1,238,none⟩),.pointer (some ⟨b,0,none⟩),.int .u64 153]]).run prog W
   = .ok (.tuple #[]) (W.setCell ⟨a,0,none⟩ (.int .i64 p)):=by
 have c0:W.cell? ⟨b,0,none⟩=some (.int .i64 p):=cd _ _ 0 _ _ _ g;have e:W.cell? ⟨a,0,none⟩=some (.int .i64 q):=cd _ _ 0 _ _ _ d;have f:W.frozen? ⟨a,0,none⟩=false:=cj _ _ 0 _ _ d
 show (ReflectliteValue.parts _ >>= _).run prog W=_
 simp only [Sem.run_bind,Array.getLit,List.getElem_toArray,List.getElem_cons_zero,List.getElem_cons_succ,Tryz.asPartsA,Tryz.asPartsT,Result.andThen];simp [ReflectliteValue.flagAddr,loadVar,isAgg,underlying,underlying238,Result.andThen,Tryz.asDirect,storeVar,Value.cells,storeCells,Addr.add]
 have i:(loadCells ⟨b,0,none⟩ 1).run prog W=.ok #[.int .i64 p] W:=run_loadCells_list (P:=prog) W ⟨b,0,none⟩ [.int .i64 p] (fun j v c=>by
  cases j with
  | zero=>cases c;exact c0
  | succ j=>simp at c)
 rw [i];simp [storeCells,Addr.add];rw [run_store prog W ⟨a,0,none⟩ _ _ (by rfl)];simp [e,f]
theorem ZkK (p q:Int)(t:Nat)(w:World)(d:ErrT w)(e:w.heap[t]? = some (.cells #[.int .i64 q] 238 (0,0))) :
  Calls prog 174 #[.iface 238 (.agg #[.int .i64 p]),.iface 241 (.pointer (some ⟨t,0,none⟩))] w fun k C=>k=.returned (.bool true)/\w.grownBy C (some t):=by
 have F:=@run_callFunc_extern prog 181 _ (fun a=>ReflectliteValue.unpack (a.getD 0 (.tuple #[]))) func181 (by kernel_rfl) (by kernel_rfl) (by kernel_rfl) (by kernel_rfl);have G:=@run_callFunc_extern prog 182 _ (ReflectliteValue.methodAny (ReflectliteValue.valueError "reflectlite.Value.Type" 0) (fun t _ _ _=>ReflectliteType.toType t)) func182 (by kernel_rfl) (by kernel_rfl) (by kernel_rfl) (by kernel_rfl);have H:=@run_callFunc_extern prog 183 _ (ReflectliteValue.method (ReflectliteValue.valueError "reflectlite.Value.IsNil" 0) ReflectliteValue.isNil) func183 (by kernel_rfl) (by kernel_rfl) (by kernel_rfl) (by kernel_rfl);have o:=@run_callFunc_extern prog 226 _ (ReflectliteType.abiMethod fun t=>do pure (.int .u8 (<- Rtype.kind t))) func226 (by kernel_rfl) (by kernel_rfl) (by kernel_rfl) (by kernel_rfl)
 have s:=@run_callFunc_extern prog 239 _ (ReflectliteType.method ReflectliteType.elem) func239 (by kernel_rfl) (by kernel_rfl) (by kernel_rfl) (by kernel_rfl);have u:=@run_callFunc_extern prog 240 _ (ReflectliteType.relation "Implements" ReflectliteType.implements_) func240 (by kernel_rfl) (by kernel_rfl) (by kernel_rfl) (by kernel_rfl);have l:=@run_callFunc_extern prog 201 _ ReflectliteType.typeOf func201 (by kernel_rfl) (by kernel_rfl) (by kernel_rfl) (by kernel_rfl);have r:=@run_callFunc_extern prog 237 _ (ReflectliteType.relation "AssignableTo" ReflectliteType.assignableTo) func237 (by kernel_rfl) (by kernel_rfl) (by kernel_rfl) (by kernel_rfl);have m:=@run_callFunc_extern prog 202 _ (ReflectliteValue.method (ReflectliteValue.valueError "reflectlite.Value.Elem" 0) ReflectliteValue.elem) func202 (by kernel_rfl) (by kernel_rfl) (by kernel_rfl) (by kernel_rfl)
 have n:=@run_callFunc_extern prog 203 _ ReflectliteValue.set func203 (by kernel_rfl) (by kernel_rfl) (by kernel_rfl) (by kernel_rfl);have O:=Tryz.asTypeOfT;have I:=Tryz.asMethodAssignableTo;have i:=Tryz.asAssignableT;have B:=Tryz.asValueOfT;have D:=Tryz.asValueOfP;have E:=Tryz.asTypeP;have L:=Tryz.asMethodKind;have J:=Tryz.asMethodElem;have K:=Tryz.asMethodImplements;have A:=Tryz.asKindP;have z:=Tryz.asKindT;have j:=Tryz.asElemP;have y:=Tryz.asImplementsT;obtain ⟨g,f⟩:∃ g:Addr,g=⟨t,0,none⟩:=⟨_,rfl⟩;have M:=Tryz.asIsNilP ⟨w.heap.size,0,none⟩ ⟨t,0,none⟩ ((w.alloc (.cells #[.pointer (some ⟨t,0,none⟩)] 241)).alloc (.cells #[.pointer (some ⟨1,241,none⟩),.pointer (some ⟨w.heap.size,0,none⟩),.int .u64 150] 257)) (by simp);have b:0 < w.heap.size:=World.block_lt_of_cell? _ _ d
 have x:((w.alloc (.cells #[.pointer (some ⟨t,0,none⟩)] 241)).alloc (.cells #[.pointer (some ⟨1,241,none⟩),.pointer (some ⟨w.heap.size,0,none⟩),.int .u64 150] 257)).cell? ⟨0,0,none⟩=some (.iface 272 (.agg #[.pointer (some ⟨1,221,none⟩)])):=by
  rw [World.cell?_alloc_lt _ _ ⟨0,0,none⟩ (by simp <;> omega),World.cell?_alloc_lt _ _ ⟨0,0,none⟩ b];exact d
 have c:t < w.heap.size:=(bl e);have el:=Tryz.asElemV ⟨w.heap.size,0,none⟩ ⟨t,0,none⟩ (((w.alloc (.cells #[.pointer (some ⟨t,0,none⟩)] 241)).alloc (.cells #[.pointer (some ⟨1,241,none⟩),.pointer (some ⟨w.heap.size,0,none⟩),.int .u64 150] 257)).alloc (.cells #[.pointer (some ⟨1,241,none⟩),.pointer (some ⟨w.heap.size,0,none⟩),.int .u64 150] 257)) (by rw [World.cell?_alloc_lt _ _ ⟨w.heap.size,0,none⟩ (by simp <;> omega)];simp)
 have N:=Tryz.asSet t (w.heap.size+1+1+1) p q ((((w.alloc (.cells #[.pointer (some ⟨t,0,none⟩)] 241)).alloc (.cells #[.pointer (some ⟨1,241,none⟩),.pointer (some ⟨w.heap.size,0,none⟩),.int .u64 150] 257)).alloc (.cells #[.pointer (some ⟨1,241,none⟩),.pointer (some ⟨w.heap.size,0,none⟩),.int .u64 150] 257)).alloc (.cells #[.int .i64 p] 238))
  (by have:=cg (((w.alloc (.cells #[.pointer (some ⟨t,0,none⟩)] 241)).alloc (.cells #[.pointer (some ⟨1,241,none⟩),.pointer (some ⟨w.heap.size,0,none⟩),.int .u64 150] 257)).alloc (.cells #[.pointer (some ⟨1,241,none⟩),.pointer (some ⟨w.heap.size,0,none⟩),.int .u64 150] 257)) (.cells #[.int .i64 p] 238);simpa using this)
  (by rw [cn _ _ (by simp <;> omega),cn _ _ (by simp <;> omega),cn _ _ (by simp <;> omega),cn _ _ c];exact e)
 have v:w.grownBy (((((w.alloc (.cells #[.pointer (some ⟨t,0,none⟩)] 241)).alloc (.cells #[.pointer (some ⟨1,241,none⟩),.pointer (some ⟨w.heap.size,0,none⟩),.int .u64 150] 257)).alloc (.cells #[.pointer (some ⟨1,241,none⟩),.pointer (some ⟨w.heap.size,0,none⟩),.int .u64 150] 257)).alloc (.cells #[.int .i64 p] 238)).setCell ⟨t,0,none⟩ (.int .i64 p)) (some t) :=
  Zaj (Zaj (Zaj (Zaj (cr w _ _) (cr _ _ _)) (cr _ _ _)) (cr _ _ _)) (Zam _ t 0 _)
 clear f g b c e d
 go_enter func174,ntmps174
 go_wp2;refine wp_loop_rounds 1 ?_;rw [rounds_succ];go_wp2;go_ret;exact ⟨rfl,v⟩
theorem Zh7 (w:World):Calls prog 164 #[.nilIface] w fun e a=>e=.returned (.bool false)/\Below w.heap.size w a:=by
 go_enter func164,ntmps164
 go_wp2_with fail;refine (ZkL _ _).mono ?_;rintro e b ⟨rfl,rfl⟩;go_wp2;go_ret;exact ⟨rfl,(cf _ _).alloc (ce _) _⟩
theorem Zh6 (p:Int)(w:World)(c:ErrT w):Calls prog 164 #[.iface 238 (.agg #[.int .i64 p])] w fun e f=>e=.returned (.bool true)/\Below w.heap.size w f:=by
 go_enter func164,ntmps164
 go_wp2_with fail;have a:Below w.heap.size w (w.alloc (Obj.cells #[.int .i64 0] 238)):=(cf _ _).alloc (ce _) _;refine (ZkK p 0 w.heap.size _ (c.below a (ce _)) (cg _ _)).mono ?_;rintro e g ⟨rfl,b⟩;go_wp2;go_ret;exact ⟨rfl,a.grown b a.size (fun k d=>by simp at d;omega)⟩
end Go.Proofs.YtanhoamdlhaaeaaGreatDoor
namespace Go.Proofs.YtanhoamdlhaaeaaGreatDoor
open Go.Proofs.Tryz
open Go.RowKit
theorem Zjv (a:Nat)(b:List Nd)(rs:List Int)(d:Zap b=true)(g:a+(mvN a b rs).length <= 3000):∀ x ∈ mvN a b rs,NdOk x:=by
 have I:=Zk4 a b (Zat b rs) (fun i x h=>ZbL d h) (Zfa b rs (fun i x h=>ZbL d h));intro x f;obtain ⟨j,c⟩:=List.getElem?_of_mem f;have e:j < (mvN a b rs).length:=(List.getElem?_eq_some_iff.1 c).1;exact Zim (I.ok j x c) (by omega)
theorem Zhl {a:List Nd}(h:Zap a=true):a.length <= 3000:=by simp only [Zap,Bool.and_eq_true,decide_eq_true_eq] at h;exact h.1
theorem Zed {a:List Nd}(h:∀ x ∈ a,NdOk x):∀ x ∈ a,x.s.size <= maxLen:=fun x b=>by have:=(h x b).2.2.1;unfold maxLen;omega
theorem Zgo {w:World}{z:Int}{g:Nat}(h:w.heap[g]? = some (.cells #[.int .i64 z] 3 (0,0))):IRow w (.slice (some ⟨g,0,none⟩) 1 1) [z]:=by
 refine ⟨_,1,rfl,⟨by simp,fun h=>by cases h⟩,by simp,fun _=>⟨g,0,rfl,(bl h),fun i hi=>?_⟩⟩;have:i=0:=by simpa using hi
 subst this;rw [cd w _ 0 _ _ _ h];rfl
theorem Lies.le {c L:List Int}{a b:Int}(h:Lies c a L b)(e:L ≠ []):b <= c.length:=by
 obtain ⟨f,g,r,d⟩:=h;have:=congrArg List.length d;have i:=List.length_pos_iff.2 e;rw [List.length_drop,List.length_append] at this;omega
theorem Zkm {x:Int}(h:0 <= x):encI x ≠ []:=by
 rw [Zck x h];intro e;rcases Int.lt_or_le x 128 with a | a
 ·rw [ZaW 8 x a] at e;cases e
 ·rw [Zb4 8 x (by omega)] at e;cases e
theorem Zkf {j:List Int}{i:List Nd}{a b:Int}(k:∀ z ∈ j,0 <= z/\z <= 255)(h:rdP j a=some (i,b)):b <= j.length/\Zap i=true:=by
 unfold rdP at h;rw [Option.bind_eq_some_iff] at h;obtain ⟨⟨n,m⟩,o,d⟩:=h;split at d
 ·cases d
 rw [Option.bind_eq_some_iff] at d;obtain ⟨⟨t,c⟩,p,g⟩:=d;split at g
 ·rename_i r
  cases g;obtain ⟨f,q⟩:=Za9 k o;obtain ⟨l,s⟩:=Zcz k n.toNat m _ i (by have:=f.1;have:=f.2.1;omega) p;exact ⟨(f.append l).le (by intro e;exact Zkm q (List.append_eq_nil_iff.1 e).1),r⟩
 ·cases g
theorem ZkG {a:List Int}(h:rdP a 0=none):vrR a=none:=by unfold vrR;rw [h];rfl
theorem ZkI {c:List Int}{a:List Nd}{b:Int}(h:rdP c 0=some (a,b)):vrR c=if b=c.length/\a ≠ []/\allR a [(a.length:Int) - 1]=true then some a else none:=by unfold vrR;rw [h];rfl
def VAns (B:Nat)(zs:List Int)(e:Ending)(w':World):Prop :=
 (∃ xs vs,vrR zs=some xs/\e=.returned (.tuple #[.agg #[vs],.nilIface])/\w'.ownsRow B 176 5 vs xs.length (ncs xs)) \/ (vrR zs=none/\∃ ao n c p,e=.returned (.tuple #[.agg #[.slice ao n c],badV p]))
theorem Zhp (v:Value)(n:List Int)(N w:World)(P:Nat)(R:Row N v n)(hb:Below N.heap.size N w)(hP:N.heap.size <= P)(h1:One w P 0) :
  Calls prog 163 #[.agg #[v,.pointer (some ⟨P,0,none⟩)]] w fun e L=>w.grownBy L (some P)/\VAns w.heap.size n e L:=by
 obtain ⟨A,m,rfl,_,ak,hz,_⟩:=id R;have ac:=hb.size;have ab:=h1.lt;obtain ⟨B,X,H⟩:=ZaC w (Obj.cells #[Value.slice A n.length m,Value.pointer (some ⟨P,0,none⟩)] 225) (Obj.cells #[.slice none 0 0] 41)
 go_enter func163,ntmps163
 go_wp2_with fail;obtain ⟨O,Q⟩:∃ O,(w.alloc (Obj.cells #[Value.slice A n.length m,Value.pointer (some ⟨P,0,none⟩)] 225)).alloc (Obj.cells #[.slice none 0 0] 41)=O:=⟨_,rfl⟩;rw [Q] at B X H ⊢;have ad:=(bl H);refine (Zho _ n N O P 0 R (hb.trans (B.mono ac)) hP (h1.below B ab)).mono ?_;rintro e d ⟨x,S⟩;have X:=(x.block _ (by omega) (by simp;omega)).trans X;have H:=(x.block _ (by omega) (by simp;omega)).trans H;have s:w.grownBy d (some P):=Zaj (ZcX B _) x;have af:=x.size;rcases S with ⟨c,b,vs,J,rfl,K,a4⟩ | ⟨J,⟨p,rfl⟩,q,K⟩
 ·obtain ⟨aj,hp⟩:=Zkf hz J
  have ah:=Za1 hp;obtain ⟨g,i,rfl⟩:=Zad K;have HV:Hid (vrR n=if b=n.length/\c ≠ []/\allR c [(c.length:Int) - 1]=true then some c else none):=ZkI J;clear Q x;have al:(O.heap.size:Nat) <= d.heap.size:=af;have z:Below d.heap.size d (d.alloc (Obj.cells #[.slice g c.length i] 41)):=(cf _ _).alloc (ce _) _;have y0:=(z.block _ (by omega)).trans X;have E:=(z.block _ (by omega)).trans H;have V:(d.alloc (Obj.cells #[.slice g c.length i] 41)).cell? ⟨w.heap.size+1,0,none⟩=some (.slice none 0 0):=cd (d.alloc (Obj.cells #[.slice g c.length i] 41)) _ 0 _ _ _ E;have W:(d.alloc (Obj.cells #[.slice g c.length i] 41)).frozen? ⟨w.heap.size+1,0,none⟩=false:=cj (d.alloc (Obj.cells #[.slice g c.length i] 41)) _ 0 _ _ E
  have l:((d.alloc (Obj.cells #[.slice g c.length i] 41)).setCell ⟨w.heap.size+1,0,none⟩ (.slice none 0 0)).heap[w.heap.size+1]? = some (.cells #[.slice none 0 0] 41 (0,0)):=ci (d.alloc (Obj.cells #[.slice g c.length i] 41)) (w.heap.size+1) 0 _ _ (.slice none 0 0) E;have f:Below (w.heap.size+1) (d.alloc (Obj.cells #[.slice g c.length i] 41)) ((d.alloc (Obj.cells #[.slice g c.length i] 41)).setCell ⟨w.heap.size+1,0,none⟩ (.slice none 0 0)):=(cf _ _).setCell (p:=⟨w.heap.size+1,0,none⟩) (ce _) _;have y4:(d.alloc (Obj.cells #[.slice g c.length i] 41)).heap[d.heap.size]? = some (.cells #[.slice g c.length i] 41 (0,0)):=cg _ _
  by_cases u:c=[]
  ·have M:Hid (vrR n=none):=by unfold Hid;rw [HV.out,if_neg];intro h;exact h.2.1 u
   have h0:(c.length:Int) - 1 < 0:=by rw [u];simp
   clear u;go_wp2;exact ck (Zah rfl _ _ (w.heap.size+1) 41 _ (0,0) _ rfl l underlying41 rfl Zmf) rfl ⟨Zal (Zal s z s.size) f (by omega),Or.inr ⟨M.out,_,_,_,_,rfl⟩⟩
  ·have ai:=List.length_pos_iff.2 u
   have h0:¬ ((c.length:Int) - 1 < 0):=by omega
   have Y:Below (d.alloc (Obj.cells #[.slice g c.length i] 41)).heap.size (d.alloc (Obj.cells #[.slice g c.length i] 41)) ((d.alloc (Obj.cells #[.slice g c.length i] 41)).alloc (Obj.cells #[.int .i64 ((c.length:Int) - 1)] 3)):=(cf _ _).alloc (ce _) _;have U:(d.alloc (Obj.cells #[.slice g c.length i] 41)).heap.size=d.heap.size+1:=by simp
   have R3:NRow d (.slice g c.length i) c:=NRow.of_own K (by omega) (Zed (Ze8 hp))
   have RI:IRow ((d.alloc (Obj.cells #[.slice g c.length i] 41)).alloc (Obj.cells #[.int .i64 ((c.length:Int) - 1)] 3)) (.slice (some ⟨d.heap.size+1,0,none⟩) 1 1) [(c.length:Int) - 1]:=by
    rw [<- U];exact Zgo (cg _ _)
   have HK:=Zg3 _ _ c [(c.length:Int) - 1] ((d.alloc (Obj.cells #[.slice g c.length i] 41)).alloc (Obj.cells #[.int .i64 ((c.length:Int) - 1)] 3)) ((R3.below z).below Y) RI hp (ZfQ u);obtain ⟨kb,G⟩:∃ kb,Hid (allR c [(c.length:Int) - 1]=kb):=⟨_,rfl⟩;rw [G.out] at HK;clear RI U;go_wp2_with fail;refine HK.mono ?_;rintro e k ⟨rfl,T⟩;have B4:Below (d.alloc (Obj.cells #[.slice g c.length i] 41)).heap.size (d.alloc (Obj.cells #[.slice g c.length i] 41)) k:=Y.trans (T.mono Y.size);have o:Below d.heap.size d k:=z.trans (B4.mono z.size);have Z:=(o.block _ (by omega)).trans X;have I:=(o.block _ (by omega)).trans H;have z4:=(bb y4 B4);have zP:=a4.below o a4.lt;have zo:=Zac K o;have F:w.grownBy k (some P):=Zal s o s.size;have am:=o.size;clear HK T Y B4 o z y0 E y4 V W l f;cases kb with
   | false =>
    have M:Hid (vrR n=none):=by unfold Hid;rw [HV.out,if_neg];intro h;rw [G.out] at h;exact absurd h.2.2 (by simp)
    have V:k.cell? ⟨w.heap.size+1,0,none⟩=some (.slice none 0 0):=cd k _ 0 _ _ _ I;have W:k.frozen? ⟨w.heap.size+1,0,none⟩=false:=cj k _ 0 _ _ I;have l:(k.setCell ⟨w.heap.size+1,0,none⟩ (.slice none 0 0)).heap[w.heap.size+1]? = some (.cells #[.slice none 0 0] 41 (0,0)):=ci k (w.heap.size+1) 0 _ _ (.slice none 0 0) I;have f:Below (w.heap.size+1) k (k.setCell ⟨w.heap.size+1,0,none⟩ (.slice none 0 0)):=(cf _ _).setCell (p:=⟨w.heap.size+1,0,none⟩) (ce _) _;go_wp2;exact ck (Zah rfl _ _ (w.heap.size+1) 41 _ (0,0) _ rfl l underlying41 rfl Zmf) rfl ⟨Zal F f (by omega),Or.inr ⟨M.out,_,_,_,_,rfl⟩⟩
   | true =>
    have HE:=ZjI (.slice A n.length m) n P b k.drew ⟨A,m,rfl⟩ zP;have q0:k.cell? ⟨w.heap.size,0,none⟩=some (.slice A n.length m):=cd k _ 0 _ _ _ Z;have q1:k.cell? ⟨w.heap.size,1,none⟩=some (.pointer (some ⟨P,0,none⟩)):=cd k _ 1 _ _ _ Z;have q4:k.cell? ⟨d.heap.size,0,none⟩=some (.slice g c.length i):=cd k _ 0 _ _ _ z4;have V:k.cell? ⟨w.heap.size+1,0,none⟩=some (.slice none 0 0):=cd k _ 0 _ _ _ I;have W:k.frozen? ⟨w.heap.size+1,0,none⟩=false:=cj k _ 0 _ _ I
    have SS:∀ j:World,Below k.heap.size k j -> (j.heap[w.heap.size+1]? = some (.cells #[.slice none 0 0] 41 (0,0)))/\(j.cell? ⟨d.heap.size,0,none⟩=some (.slice g c.length i)/\j.cell? ⟨w.heap.size,0,none⟩=some (.slice A n.length m)/\j.cell? ⟨w.heap.size,1,none⟩=some (.pointer (some ⟨P,0,none⟩))):=by
     intro j t;have l0:=(bl Z);have l1:=(bl I);have l4:=(bl z4);have p0:=(t.block _ l0).trans Z;have p1:=(t.block _ l1).trans I;have p4:=(t.block _ l4).trans z4;exact ⟨p1,cd j _ 0 _ _ _ p4,cd j _ 0 _ _ _ p0,cd j _ 1 _ _ _ p0⟩
    have S6:∀ j:World,(j.cell? ⟨d.heap.size,0,none⟩=some (.slice g c.length i)/\j.cell? ⟨w.heap.size,0,none⟩=some (.slice A n.length m)/\j.cell? ⟨w.heap.size,1,none⟩=some (.pointer (some ⟨P,0,none⟩))) -> ((j.setCell ⟨w.heap.size+1,0,none⟩ (.slice g c.length i)).cell? ⟨d.heap.size,0,none⟩=some (.slice g c.length i)/\(j.setCell ⟨w.heap.size+1,0,none⟩ (.slice g c.length i)).cell? ⟨w.heap.size,0,none⟩=some (.slice A n.length m)/\(j.setCell ⟨w.heap.size+1,0,none⟩ (.slice g c.length i)).cell? ⟨w.heap.size,1,none⟩=some (.pointer (some ⟨P,0,none⟩))):=by
     rintro j ⟨J,a2,K⟩;exact ⟨(World.cell?_of_block (ch j ⟨w.heap.size+1,0,none⟩ _ _ (by show d.heap.size ≠ w.heap.size+1;omega))).trans J,(World.cell?_of_block (ch j ⟨w.heap.size+1,0,none⟩ _ _ (by show w.heap.size ≠ w.heap.size+1;omega))).trans a2,(World.cell?_of_block (ch j ⟨w.heap.size+1,0,none⟩ _ _ (by show w.heap.size ≠ w.heap.size+1;omega))).trans K⟩
    have C:Below k.heap.size k k.drew:=(cf _ _).drew;go_wp2_with fail
    go_region_held (fun L=>L.cell? ⟨d.heap.size,0,none⟩=some (.slice g c.length i)/\L.cell? ⟨w.heap.size,0,none⟩=some (.slice A n.length m)/\L.cell? ⟨w.heap.size,1,none⟩=some (.pointer (some ⟨P,0,none⟩))) (first | exact s5 | exact s6 | go_keep) (first
     | (go_at_call 173;refine HE.mono ?_;rintro e j ⟨r,rfl,hE,t⟩;have y:=SS j (C.trans (t.mono C.size));have s5:=y.2;have r5:j.cell? ⟨w.heap.size+1,0,none⟩=some (.slice none 0 0):=cd j _ 0 _ _ _ y.1;have ag:j.frozen? ⟨w.heap.size+1,0,none⟩=false:=cj j _ 0 _ _ y.1;have s6:=S6 j s5))
    all_goals
     have D:=C.trans (t.mono C.size);have l:(j.setCell ⟨w.heap.size+1,0,none⟩ (.slice g c.length i)).heap[w.heap.size+1]? = some (.cells #[.slice g c.length i] 41 (0,0)):=ci j (w.heap.size+1) 0 _ _ (.slice g c.length i) y.1;have f:Below (w.heap.size+1) j (j.setCell ⟨w.heap.size+1,0,none⟩ (.slice g c.length i)):=(cf _ _).setCell (p:=⟨w.heap.size+1,0,none⟩) (ce _) _;have aa:w.grownBy (j.setCell ⟨w.heap.size+1,0,none⟩ (.slice g c.length i)) (some P):=Zal (Zal F D F.size) f (by omega);have ae:=Zae (cx (Zac zo D) (a:=⟨w.heap.size+1,0,none⟩) ad (.slice g c.length i)) (show w.heap.size <= O.heap.size by omega)
     have HF:Hid ((vrR n=some c/\r=.nilIface) \/ (vrR n=none/\∃ p,r=badV p)):=by
      unfold Hid;rw [HV.out];rcases hE with ⟨e1,e2⟩ | ⟨e1,e2⟩
      ·rw [if_neg (fun h=>by have:=h.1;omega)];exact Or.inr ⟨rfl,e2⟩
      ·rw [if_pos ⟨by omega,u,G.out⟩];exact Or.inl ⟨rfl,e2⟩
     clear HE SS S6 s5 y s6 hE r5 ag q0 q1 q4 V W;go_wp2;refine ck (Zah rfl _ _ (w.heap.size+1) 41 _ (0,0) _ rfl l underlying41 rfl Zmf) rfl ⟨aa,?_⟩;rcases HF.out with ⟨f1,f2⟩ | ⟨f1,p,f2⟩
     ·exact Or.inl ⟨c,_,f1,by rw [<- f2];rfl,ae⟩
     ·exact Or.inr ⟨f1,_,_,_,p,by rw [<- f2];rfl⟩
 ·have M:Hid (vrR n=none):=ZkG J
  have z:Below d.heap.size d (d.alloc (Obj.cells #[.slice none 0 0] 41)):=(cf _ _).alloc (ce _) _;have E:=(z.block _ (by omega)).trans H;have V:(d.alloc (Obj.cells #[.slice none 0 0] 41)).cell? ⟨w.heap.size+1,0,none⟩=some (.slice none 0 0):=cd (d.alloc (Obj.cells #[.slice none 0 0] 41)) _ 0 _ _ _ E;have W:(d.alloc (Obj.cells #[.slice none 0 0] 41)).frozen? ⟨w.heap.size+1,0,none⟩=false:=cj (d.alloc (Obj.cells #[.slice none 0 0] 41)) _ 0 _ _ E;have l:((d.alloc (Obj.cells #[.slice none 0 0] 41)).setCell ⟨w.heap.size+1,0,none⟩ (.slice none 0 0)).heap[w.heap.size+1]? = some (.cells #[.slice none 0 0] 41 (0,0)):=ci (d.alloc (Obj.cells #[.slice none 0 0] 41)) (w.heap.size+1) 0 _ _ (.slice none 0 0) E
  have f:Below (w.heap.size+1) (d.alloc (Obj.cells #[.slice none 0 0] 41)) ((d.alloc (Obj.cells #[.slice none 0 0] 41)).setCell ⟨w.heap.size+1,0,none⟩ (.slice none 0 0)):=(cf _ _).setCell (p:=⟨w.heap.size+1,0,none⟩) (ce _) _;unfold badV;go_wp2;exact ck (Zah rfl _ _ (w.heap.size+1) 41 _ (0,0) _ rfl l underlying41 rfl Zmf) rfl ⟨Zal (Zal s z s.size) f (by omega),Or.inr ⟨M.out,_,_,_,p,rfl⟩⟩
end Go.Proofs.YtanhoamdlhaaeaaGreatDoor
