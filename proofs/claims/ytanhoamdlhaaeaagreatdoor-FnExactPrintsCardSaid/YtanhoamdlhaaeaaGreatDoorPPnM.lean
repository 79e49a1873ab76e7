/-
  For every world and number, FnExactPrints returns true: impl.Prints answers as spec.Prints, writes into no argument, and its answer owns its memory. The variable errors.errorType reads as the program lays it; the card ties that to the program's text (over a pruned copy of the project: the packages that these roots load, no test file).
-/
import Derived.Test.YtanhoamdlhaaeaaGreatDoorStArgM
import Derived.Test.YtanhoamdlhaaeaaGreatDoorWArgM
import Derived.Test.YtanhoamdlhaaeaaGreatDoorTie
import Derived.Test.YtanhoamdlhaaeaaGreatDoorCards
import Derived.SevenTiedAt
import Derived.ProofKit
import Derived.OpenShut
import Derived.ShutString
import Derived.ChangeOld
import Derived.Below
import Derived.ChangeSame
import Derived.ChangeVars
import Derived.JoinedOf
import Derived.LaidLaws
import Derived.LaidHandle
import Derived.Stop.Joined
set_option maxRecDepth 100000
namespace Go.Proofs.YtanhoamdlhaaeaaGreatDoor
open Go.Proofs.Tryz
namespace PrnRow
open Go.ChangeShapes Go.WideShapes Go.ChangeAt Go.RowKit
open Go.ChangeMaps (open_string shut_string)
theorem Zld:ownKnob prog.godebug=none:=by kernel_rfl
def Zg8:List (String × DataW Unit):=Rows.fnExactPrintsRow.laid
theorem Zls:prog.globalNamed "errors.errorType" = some 0:=by kernel_rfl
theorem Zlt:(prog.cutTypes.find? (·.1 == "internal/reflectlite.rtype")).map (·.2)=some 272:=by kernel_rfl
theorem Zi5:((List.range 324).filter fun t=>prog.rowNamed t [101,114,114,111,114])=[221]:=by kernel_rfl
theorem Zi4:prog.types.size=324:=by kernel_rfl
theorem Zew {W:World}(h:laidMetH prog Zg8 W):ErrT W:=by
 have j:laidMet prog [] W/\handlesMet prog Zg8 W:=h;obtain ⟨a,u,l,d,e,f,g,b⟩:=j.2 _ (List.mem_singleton.2 rfl);have i:a=[101,114,114,111,114]:=(Option.some.inj d).symm;subst i;obtain rfl:=Option.some.inj (Zlt.symm.trans e);have c:l ∈ (List.range 324).filter fun t=>prog.rowNamed t [101,114,114,111,114]:=List.mem_filter.2 ⟨List.mem_range.2 (by rw [<- Zi4];exact f),g⟩
 rw [Zi5] at c;obtain rfl:=List.mem_singleton.1 c;have k:typeHandle prog 221=.pointer (some ⟨1,221,none⟩):=by kernel_rfl
 rw [k] at b;have:=World.var?_cell Zls b 0;unfold ErrT
 simpa using this
noncomputable def ZeQ (os:Os):World :=
 let w0:=World.holding prog os ⟨#[],#[],[]⟩
 { w0 with heap:=w0.heap.modify 0 fun
   | .cells _ t frozen=>.cells #[.iface 272 (.agg #[.pointer (some ⟨1,221,none⟩)])] t frozen
   | o=>o }
theorem Zd6 (os:Os)(a:Array Value):laidMetH prog Zg8 ((ZeQ os).forCall (fun _ _=>0) ⟨#[],a,[]⟩).memory :=
 laidMetH_of_parts (laidMet_nil _ _) (by kernel_rfl)
theorem Zk0 (os:Os)(d:os.Started)(H:Type)(enc:TypeId × Value -> H) :
  ReturnsInHanded {} Tryz.checked os 3 .any (fun w a=>(Rows.fnExactPrintsSpec.pre enc prog Tryz.f3 [] false w a/\laidMetH prog Zg8 w)/\sizedMet enc prog Tryz.f3 (OpenSpec.ofChange Rows.fnExactPrintsSpec) false w a)
   (Rows.fnExactPrintsSpec.post enc prog Tryz.f3 false true false false):=by
 refine returnsInHanded_of_change_and (C:=Tryz.checked) (X:=fun w _=>laidMetH prog Zg8 w) (fun _ _ _ L h=>h.of_heap L) Zld d (by kernel_rfl) func3
  (ChangeSpec.witness_at (enc:=enc) (C:=Tryz.checked) (os:=os) (X:=fun w _=>laidMetH prog Zg8 w) false (ZeQ os) #[.agg #[.slice none 0 0,.slice none 0 0,.slice none 0 0,.int .i64 0,.slice none 0 0,.slice none 0 0,.slice none 0 0,.slice none 0 0,.int .i64 0,.slice none 0 0,.slice none 0 0],.int .i64 0] 8 rfl (by kernel_rfl) (by kernel_rfl) (by kernel_rfl) (by kernel_rfl) (by kernel_rfl) (Zd6 os _)) ?_
 intro W f a D Z i c s _ _ I _;have b:∀ (j:Nat) t v,Tryz.f3.params[j]? = some t -> a[j]? = some v -> Value.okWide prog W .any f t v:=c;have k:=s;obtain ⟨p,q,g,J,rfl,K,N⟩:=s;have r:DataW.TrodAll enc prog W 0 (fun _=>true) true Tryz.f3.params.toList a.toList D p:=g;rw [Tryz.params3] at r b;obtain ⟨y,S,V,E,P,q0,l,rfl,rfl,o,Q⟩:=trodAll_cons r;obtain ⟨A,T,Y,F,p1,q1,rfl,rfl,rfl,G,R⟩:=trodAll_cons Q;obtain ⟨rfl,rfl,rfl⟩:=trodAll_nil R;obtain rfl:a=#[y,A]:=by cases a;simp_all
 obtain ⟨rfl,rfl⟩:=trodVars_none J;have u:=o;have n:∀ x ∈ P,x.block < W.heap.size:=by obtain ⟨m,M⟩:=u;exact DataW.trod_lt m _ _ _ M
 obtain ⟨vn,vi,vf,vh,vl,vg,vp,va,vt,U,rfl,B⟩:=Zhj (b 0 35 y rfl rfl) o;obtain ⟨z,rfl,rfl,rfl,O⟩:=open_int underlying3 (b 1 3 A rfl rfl) G;clear g c;refine (ZfS _ _ _ _ _ _ _ _ _ U z W B (Zew I)).mono fun e W' ⟨he,bel⟩=>?_
 subst he;exact ⟨_,rfl,_,_,_,[],_,[],k,trodAll_mk1 (shut_bool underlying4 _),(trodAll_cons_mk (Below.trod Zd5 (by kernel_rfl) (of_decide_eq_true (by kernel_rfl)) u bel n) (trodAll_cons_mk (shut_int underlying3 O) trodAll_mk0)),rfl,bel.frame _,fun h=>by cases h⟩
theorem over:Rows.fnExactPrintsRow.holds Tryz.pinned (OpenSpec.ofChange Rows.fnExactPrintsSpec) :=
 OpenClaim.holds_of_wide 3 Tryz.f3 rfl rfl rfl rfl rfl rfl rfl ⟨rfl,rfl,rfl,rfl,rfl⟩ rfl rfl rfl rfl rfl (by kernel_rfl) func3 (by kernel_rfl)
  (of_decide_eq_true (by kernel_rfl)) (by unfold Func.isWrapper;first | (rw [if_pos (by decide +kernel)];kernel_rfl) | (rw [if_neg (by decide +kernel)];exact ⟨rfl,rfl⟩))
  (fun os a H enc _=>Zk0 os a H enc)
theorem card:Claim7.holds Tryz.pinned (.plain (OpenSpec.ofChange Rows.fnExactPrintsSpec)) Rows.fnExactPrintsCard :=
 Claim7.holds_tied_plain_at .later [] [.handle] true Rows.fnExactPrintsCard.stood.harness true
  over (fun _ h=>by cases h) (by kernel_rfl) (fun _ h=>by cases h) fnExactPrints_row_tie rfl ⟨rfl,rfl⟩ (by kernel_rfl) rfl
  (fun f d e b=>by
   obtain rfl:f=3:=Option.some.inj ((show prog.funcNamed Rows.fnExactPrintsRow.func=some 3 by kernel_rfl).symm.trans e) |>.symm;obtain rfl:d=Tryz.f3:=(Option.some.inj (func3.symm.trans b)).symm
   exact ⟨by kernel_rfl,fun j t c=>by
    rw [Tryz.params3] at c;have g:t ∈ [35,3]:=by simpa using Array.mem_of_getElem? c
    have a:([35,3].all fun u=>!prog.wantsStandIn u)=true:=by kernel_rfl
    exact (show prog.wantsStandIn t=false by simpa using List.all_eq_true.1 a t g)⟩)
  (by kernel_rfl)
end PrnRow
theorem prn_holds:Rows.FnExactPrintsCardSaid:=PrnRow.card
#print axioms prn_holds
end Go.Proofs.YtanhoamdlhaaeaaGreatDoor
