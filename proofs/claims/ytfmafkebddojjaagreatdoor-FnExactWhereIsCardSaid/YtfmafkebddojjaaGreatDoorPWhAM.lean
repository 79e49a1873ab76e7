/-
  For every world and number, FnExactWhereIs returns true: impl.WhereIs answers as spec.WhereIs and writes into no argument. The variable errors.errorType reads as the program lays it; the card ties that to the program's text (over a pruned copy of the project: the packages that these roots load, no test file).
-/
import Derived.Test.YtfmafkebddojjaaGreatDoorDfArgM
import Derived.Test.YtfmafkebddojjaaGreatDoorWArgM
import Derived.Test.YtfmafkebddojjaaGreatDoorTie
import Derived.Test.YtfmafkebddojjaaGreatDoorCards
import Derived.SevenTiedAt
import Derived.ProofKit
import Derived.OpenShut
import Derived.ShutString
import Derived.ChangeOld
import Derived.Below
import Derived.ChangeSame
import Derived.ChangeVars
import Derived.JoinedOf
import Derived.LaidLaws
import Derived.LaidHandle
import Derived.Stop.Joined
set_option maxRecDepth 100000
namespace Go.Proofs.YtfmafkebddojjaaGreatDoor
namespace WhRow
open Go.ChangeShapes Go.WideShapes Go.ChangeAt Go.RowKit
open Go.ChangeMaps (open_string shut_string)
theorem Zlp : ownKnob Tryz.prog.godebug = none := by kernel_rfl
def Zhj : List (String × DataW Unit) := Rows.fnExactWhereIsRow.laid
theorem ZlM : Tryz.prog.globalNamed "errors.errorType" = some 0 := by kernel_rfl
theorem ZlI : (Tryz.prog.cutTypes.find? (·.1 == "internal/reflectlite.rtype")).map (·.2) = some 336 := by kernel_rfl
theorem Zjf : ((List.range 379).filter fun t => Tryz.prog.rowNamed t [101, 114, 114, 111, 114]) = [259] := by kernel_rfl
theorem Zjy : Tryz.prog.types.size = 379 := by kernel_rfl
theorem Zfp {W : World} (h : laidMetH Tryz.prog Zhj W) : ErrT W := by
 have h' : laidMet Tryz.prog [] W /\ handlesMet Tryz.prog Zhj W := h
 obtain ⟨name, u, ty, e1, e2, e3, e4, e5⟩ := h'.2 _ (List.mem_singleton.2 rfl)
 have en : name = [101, 114, 114, 111, 114] := (Option.some.inj e1).symm
 subst en
 obtain rfl := Option.some.inj (ZlI.symm.trans e2)
 have hm : ty ∈ (List.range 379).filter fun t => Tryz.prog.rowNamed t [101, 114, 114, 111, 114] := List.mem_filter.2 ⟨List.mem_range.2 (by rw [<- Zjy]; exact e3), e4⟩
 rw [Zjf] at hm
 obtain rfl := List.mem_singleton.1 hm
 have hh : typeHandle Tryz.prog 259 = .pointer (some ⟨1, 259, none⟩) := by kernel_rfl
 rw [hh] at e5
 have := World.var?_cell ZlM e5 0
 unfold ErrT
 simpa using this
noncomputable def Zfa (os : Os) : World :=
 let w0 := World.holding Tryz.prog os ⟨#[], #[], []⟩
 { w0 with heap := w0.heap.modify 0 fun
   | .cells _ t frozen => .cells #[.iface 336 (.agg #[.pointer (some ⟨1, 259, none⟩)])] t frozen
   | o => o }
theorem ZeB (os : Os) (args : Array Value) : laidMetH Tryz.prog Zhj ((Zfa os).forCall (fun _ _ => 0) ⟨#[], args, []⟩).memory :=
 laidMetH_of_parts (laidMet_nil _ _) (by kernel_rfl)
theorem lifted (os : Os) (started : os.Started) (H : Type) (enc : TypeId × Value -> H) :
  ReturnsInHanded {} Tryz.checked os 8 .any (fun w args => (Rows.fnExactWhereIsSpec.pre enc Tryz.prog Tryz.f8 [] false w args /\ laidMetH Tryz.prog Zhj w) /\ sizedMet enc Tryz.prog Tryz.f8 (OpenSpec.ofChange Rows.fnExactWhereIsSpec) false w args)
   (Rows.fnExactWhereIsSpec.post enc Tryz.prog Tryz.f8 false true false false) := by
 refine returnsInHanded_of_change_and (C := Tryz.checked) (X := fun w _ => laidMetH Tryz.prog Zhj w) (fun _ _ _ hh h => h.of_heap hh) Zlp started (by kernel_rfl) Tryz.func8
  (ChangeSpec.witness_at (enc := enc) (C := Tryz.checked) (os := os) (X := fun w _ => laidMetH Tryz.prog Zhj w) false (Zfa os) #[.agg #[.slice none 0 0, .slice none 0 0, .slice none 0 0, .int .i64 0, .slice none 0 0, .slice none 0 0, .slice none 0 0, .slice none 0 0, .int .i64 0, .slice none 0 0, .slice none 0 0], .int .i64 0] 8 rfl (by kernel_rfl) (by kernel_rfl) (by kernel_rfl) (by kernel_rfl) (by kernel_rfl) (ZeB os _)) ?_
 intro W base args ds gs before hval0 hW _ _ hL _
 have hval : ∀ (j : Nat) t v, Tryz.f8.params[j]? = some t -> args[j]? = some v -> Value.okWide Tryz.prog W .any base t v := hval0
 have hW' := hW
 obtain ⟨p, q, hA0, hV, rfl, hfz, hnd⟩ := hW
 have hA : DataW.TrodAll enc Tryz.prog W 0 (fun _ => true) true Tryz.f8.params.toList args.toList ds p := hA0
 rw [Tryz.params8] at hA hval
 obtain ⟨v0, vs0, d0, ds0, p0, q0, hargs, rfl, rfl, h0, r0⟩ := trodAll_cons hA
 obtain ⟨v1, vs1, d1, ds1, p1, q1, rfl, rfl, rfl, h1, r1⟩ := trodAll_cons r0
 obtain ⟨rfl, rfl, rfl⟩ := trodAll_nil r1
 obtain rfl : args = #[v0, v1] := by cases args; simp_all
 obtain ⟨rfl, rfl⟩ := trodVars_none hV
 have k0 := h0
 have lt0 : ∀ x ∈ p0, x.block < W.heap.size := by obtain ⟨m, hm⟩ := k0; exact DataW.trod_lt m _ _ _ hm
 obtain ⟨vn, vi, vf, vh, vl, vg, vp, va, vt, wd, rfl, RW⟩ := Zhn (hval 0 35 v0 rfl rfl) h0
 obtain ⟨z, rfl, rfl, rfl, hz⟩ := open_int Tryz.underlying3 (hval 1 3 v1 rfl rfl) h1
 clear hA0 hval0
 refine (Zhe _ _ _ _ _ _ _ _ _ wd z W RW (Zfp hL)).mono fun e W' ⟨he, bel⟩ => ?_
 subst he
 exact ⟨_, rfl, _, _, _, [], _, [], hW', trodAll_mk1 (shut_bool Tryz.underlying4 _), (trodAll_cons_mk (Below.trod ZeK (by kernel_rfl) (of_decide_eq_true (by kernel_rfl)) k0 bel lt0) (trodAll_cons_mk (shut_int Tryz.underlying3 hz) trodAll_mk0)), rfl, bel.frame _, fun h => by cases h⟩
end WhRow
end Go.Proofs.YtfmafkebddojjaaGreatDoor
