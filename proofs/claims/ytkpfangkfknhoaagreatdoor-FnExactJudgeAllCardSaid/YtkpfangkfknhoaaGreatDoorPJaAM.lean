/-
  For every world, FnExactJudgeAll returns true: impl.JudgeAll answers as spec.JudgeAll and writes into no argument. The variable errors.errorType reads as the program lays it; the card ties that to the program's text (over a pruned copy of the project: the packages that these roots load, no test file).
-/
import Derived.Test.YtkpfangkfknhoaaGreatDoorDfArgM
import Derived.Test.YtkpfangkfknhoaaGreatDoorWArgM
import Derived.Test.YtkpfangkfknhoaaGreatDoorTie
import Derived.Test.YtkpfangkfknhoaaGreatDoorCards
import Derived.SevenTiedAt
import Derived.ProofKit
import Derived.OpenShut
import Derived.ShutString
import Derived.ChangeOld
import Derived.Below
import Derived.ChangeSame
import Derived.ChangeVars
import Derived.JoinedOf
import Derived.LaidLaws
import Derived.LaidHandle
import Derived.Stop.Joined
set_option maxRecDepth 100000
namespace Go.Proofs.YtkpfangkfknhoaaGreatDoor
open Go.Proofs.Tryz
namespace JaRow
open Go.ChangeShapes Go.WideShapes Go.ChangeAt Go.RowKit
open Go.ChangeMaps (open_string shut_string)
theorem ZmO:ownKnob prog.godebug=none:=by kernel_rfl
def ZhS:List (String × DataW Unit):=Rows.fnExactJudgeAllRow.laid
theorem Zm4:prog.globalNamed "errors.errorType" = some 0:=by kernel_rfl
theorem Zm0:(prog.cutTypes.find? (·.1 == "internal/reflectlite.rtype")).map (·.2)=some 317:=by kernel_rfl
theorem ZjP:((List.range 360).filter fun t=>prog.rowNamed t [101,114,114,111,114])=[236]:=by kernel_rfl
theorem Zj6:prog.types.size=360:=by kernel_rfl
theorem Zf3 {W:World}(h:laidMetH prog ZhS W):ErrT W:=by
 have j:laidMet prog [] W/\handlesMet prog ZhS W:=h;obtain ⟨a,u,l,d,e,k,g,c⟩:=j.2 _ (List.mem_singleton.2 rfl);have i:a=[101,114,114,111,114]:=(Option.some.inj d).symm;subst i;obtain rfl:=Option.some.inj (Zm0.symm.trans e);have b:l ∈ (List.range 360).filter fun t=>prog.rowNamed t [101,114,114,111,114]:=List.mem_filter.2 ⟨List.mem_range.2 (by rw [<- Zj6];exact k),g⟩
 rw [ZjP] at b;obtain rfl:=List.mem_singleton.1 b;have f:typeHandle prog 236=.pointer (some ⟨1,236,none⟩):=by kernel_rfl
 rw [f] at c;have:=World.var?_cell Zm4 c 0;unfold ErrT
 simpa using this
noncomputable def ZfQ (os:Os):World :=
 let w0:=World.holding prog os ⟨#[],#[],[]⟩
 { w0 with heap:=w0.heap.modify 0 fun
   | .cells _ t frozen=>.cells #[.iface 317 (.agg #[.pointer (some ⟨1,236,none⟩)])] t frozen
   | o=>o }
theorem Zfp (os:Os)(args:Array Value):laidMetH prog ZhS ((ZfQ os).forCall (fun _ _=>0) ⟨#[],args,[]⟩).memory :=
 laidMetH_of_parts (laidMet_nil _ _) (by kernel_rfl)
theorem lifted (os:Os)(b:os.Started)(H:Type)(enc:TypeId × Value -> H) :
  ReturnsInHanded {} Tryz.checked os 3 .any (fun w args=>(Rows.fnExactJudgeAllSpec.pre enc prog Tryz.f3 [] false w args/\laidMetH prog ZhS w)/\sizedMet enc prog Tryz.f3 (OpenSpec.ofChange Rows.fnExactJudgeAllSpec) false w args)
   (Rows.fnExactJudgeAllSpec.post enc prog Tryz.f3 false true false false):=by
 refine returnsInHanded_of_change_and (C:=Tryz.checked) (X:=fun w _=>laidMetH prog ZhS w) (fun _ _ _ I h=>h.of_heap I) ZmO b (by kernel_rfl) func3
  (ChangeSpec.witness_at (enc:=enc) (C:=Tryz.checked) (os:=os) (X:=fun w _=>laidMetH prog ZhS w) false (ZfQ os) #[.agg #[.slice none 0 0,.slice none 0 0,.slice none 0 0,.int .i64 0,.slice none 0 0,.slice none 0 0,.slice none 0 0,.slice none 0 0,.int .i64 0,.slice none 0 0,.slice none 0 0]] 8 rfl (by kernel_rfl) (by kernel_rfl) (by kernel_rfl) (by kernel_rfl) (by kernel_rfl) (Zfp os _)) ?_
 intro W base args ds O f a o _ _ y _;have c:∀ (j:Nat) t v,Tryz.f3.params[j]? = some t -> args[j]? = some v -> Value.okWide prog W .any base t v:=a;have i:=o;obtain ⟨p,q,d,z,rfl,G,F⟩:=o;have s:DataW.TrodAll enc prog W 0 (fun _=>true) true Tryz.f3.params.toList args.toList ds p:=d;rw [Tryz.params3] at s c;obtain ⟨r,K,S,E,D,Y,g,rfl,rfl,l,A⟩:=trodAll_cons s;obtain ⟨rfl,rfl,rfl⟩:=trodAll_nil A;obtain rfl:args=#[r]:=by cases args;simp_all
 obtain ⟨rfl,rfl⟩:=trodVars_none z;have n:=l;have k:∀ x ∈ D,x.block < W.heap.size:=by obtain ⟨m,B⟩:=n;exact DataW.trod_lt m _ _ _ B
 obtain ⟨P,N,U,T,Q,V,R,L,M,u,rfl,J⟩:=Zh8 (c 0 35 r rfl rfl) l;clear d a;refine (Zjk _ _ _ _ _ _ _ _ _ u W J (Zf3 y)).mono fun e W' ⟨he,bel⟩=>?_
 subst he;exact ⟨_,rfl,_,_,_,[],_,[],i,trodAll_mk1 (shut_bool underlying4 _),(trodAll_cons_mk (Below.trod ZeM (by kernel_rfl) (of_decide_eq_true (by kernel_rfl)) n bel k) trodAll_mk0),rfl,bel.frame _,fun h=>by cases h⟩
end JaRow
end Go.Proofs.YtkpfangkfknhoaaGreatDoor
