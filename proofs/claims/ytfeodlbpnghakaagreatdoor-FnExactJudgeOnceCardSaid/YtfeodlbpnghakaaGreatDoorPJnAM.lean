/-
  For every world, FnExactJudgeOnce returns true: impl.JudgeOnce answers as spec.JudgeOnce and writes into no argument. The variable errors.errorType reads as the program lays it; the card ties that to the program's text (over a pruned copy of the project: the packages that these roots load, no test file).
-/
import Derived.Test.YtfeodlbpnghakaaGreatDoorDfArgM
import Derived.Test.YtfeodlbpnghakaaGreatDoorWArgM
import Derived.Test.YtfeodlbpnghakaaGreatDoorTie
import Derived.Test.YtfeodlbpnghakaaGreatDoorCards
import Derived.SevenTiedAt
import Derived.ProofKit
import Derived.OpenShut
import Derived.ShutString
import Derived.ChangeOld
import Derived.Below
import Derived.ChangeSame
import Derived.ChangeVars
import Derived.JoinedOf
import Derived.LaidLaws
import Derived.LaidHandle
import Derived.Stop.Joined
set_option maxRecDepth 100000
namespace Go.Proofs.YtfeodlbpnghakaaGreatDoor
namespace JnRow
open Go.ChangeShapes Go.WideShapes Go.ChangeAt Go.RowKit
open Go.ChangeMaps (open_string shut_string)
theorem Zma:ownKnob Tryz.prog.godebug=none:=by kernel_rfl
def Zhx:List (String × DataW Unit):=Rows.fnExactJudgeOnceRow.laid
theorem Zmt:Tryz.prog.globalNamed "errors.errorType" = some 0:=by kernel_rfl
theorem Zmz:(Tryz.prog.cutTypes.find? (·.1 == "internal/reflectlite.rtype")).map (·.2)=some 317:=by kernel_rfl
theorem ZjH:((List.range 360).filter fun t=>Tryz.prog.rowNamed t [101,114,114,111,114])=[240]:=by kernel_rfl
theorem Zjj:Tryz.prog.types.size=360:=by kernel_rfl
theorem ZfM {W:World}(h:laidMetH Tryz.prog Zhx W):ErrT W:=by
 have d:laidMet Tryz.prog [] W/\handlesMet Tryz.prog Zhx W:=h
 obtain ⟨a,u,k,f,i,g,l,c⟩:=d.2 _ (List.mem_singleton.2 rfl)
 have e:a=[101,114,114,111,114]:=(Option.some.inj f).symm
 subst e
 obtain rfl:=Option.some.inj (Zmz.symm.trans i)
 have b:k ∈ (List.range 360).filter fun t=>Tryz.prog.rowNamed t [101,114,114,111,114]:=List.mem_filter.2 ⟨List.mem_range.2 (by rw [<- Zjj];exact g),l⟩
 rw [ZjH] at b
 obtain rfl:=List.mem_singleton.1 b
 have j:typeHandle Tryz.prog 240=.pointer (some ⟨1,240,none⟩):=by kernel_rfl
 rw [j] at c
 have:=World.var?_cell Zmt c 0
 unfold ErrT
 simpa using this
noncomputable def ZfU (os:Os):World :=
 let w0:=World.holding Tryz.prog os ⟨#[],#[],[]⟩
 { w0 with heap:=w0.heap.modify 0 fun
   | .cells _ t frozen=>.cells #[.iface 317 (.agg #[.pointer (some ⟨1,240,none⟩)])] t frozen
   | o=>o }
theorem ZeJ (os:Os)(args:Array Value):laidMetH Tryz.prog Zhx ((ZfU os).forCall (fun _ _=>0) ⟨#[],args,[]⟩).memory :=
 laidMetH_of_parts (laidMet_nil _ _) (by kernel_rfl)
theorem lifted (os:Os)(a:os.Started)(H:Type)(enc:TypeId × Value -> H) :
  ReturnsInHanded {} Tryz.checked os 3 .any (fun w args=>(Rows.fnExactJudgeOnceSpec.pre enc Tryz.prog Tryz.f3 [] false w args/\laidMetH Tryz.prog Zhx w)/\sizedMet enc Tryz.prog Tryz.f3 (OpenSpec.ofChange Rows.fnExactJudgeOnceSpec) false w args)
   (Rows.fnExactJudgeOnceSpec.post enc Tryz.prog Tryz.f3 false true false false):=by
 refine returnsInHanded_of_change_and (C:=Tryz.checked) (X:=fun w _=>laidMetH Tryz.prog Zhx w) (fun _ _ _ u h=>h.of_heap u) Zma a (by kernel_rfl) Tryz.func3
  (ChangeSpec.witness_at (enc:=enc) (C:=Tryz.checked) (os:=os) (X:=fun w _=>laidMetH Tryz.prog Zhx w) false (ZfU os) #[.agg #[.slice none 0 0,.slice none 0 0,.slice none 0 0,.int .i64 0,.slice none 0 0,.slice none 0 0,.slice none 0 0,.slice none 0 0,.int .i64 0,.slice none 0 0,.slice none 0 0]] 8 rfl (by kernel_rfl) (by kernel_rfl) (by kernel_rfl) (by kernel_rfl) (by kernel_rfl) (ZeJ os _)) ?_
 intro W base args ds O f b r _ _ D _
 have c:∀ (j:Nat) t v,Tryz.f3.params[j]? = some t -> args[j]? = some v -> Value.okWide Tryz.prog W .any base t v:=b
 have g:=r
 obtain ⟨p,q,d,E,rfl,y,I⟩:=r
 have l:DataW.TrodAll enc Tryz.prog W 0 (fun _=>true) true Tryz.f3.params.toList args.toList ds p:=d
 rw [Tryz.params3] at l c
 obtain ⟨s,A,L,J,G,M,i,rfl,rfl,n,B⟩:=trodAll_cons l
 obtain ⟨rfl,rfl,rfl⟩:=trodAll_nil B
 obtain rfl:args=#[s]:=by cases args;simp_all
 obtain ⟨rfl,rfl⟩:=trodVars_none E
 have o:=n
 have k:∀ x ∈ G,x.block < W.heap.size:=by obtain ⟨m,F⟩:=o;exact DataW.trod_lt m _ _ _ F
 obtain ⟨N,U,R,Q,V,S,T,P,Y,K,rfl,z⟩:=Zh4 (c 0 35 s rfl rfl) n
 clear d b
 refine (ZhM _ _ _ _ _ _ _ _ _ K W z (ZfM D)).mono fun e W' ⟨he,bel⟩=>?_
 subst he
 exact ⟨_,rfl,_,_,_,[],_,[],g,trodAll_mk1 (shut_bool Tryz.underlying4 _),(trodAll_cons_mk (Below.trod ZeT (by kernel_rfl) (of_decide_eq_true (by kernel_rfl)) o bel k) trodAll_mk0),rfl,bel.frame _,fun h=>by cases h⟩
end JnRow
end Go.Proofs.YtfeodlbpnghakaaGreatDoor
