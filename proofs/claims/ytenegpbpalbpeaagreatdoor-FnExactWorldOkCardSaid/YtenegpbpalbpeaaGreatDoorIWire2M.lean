/-
  Texts that stood by themselves, laid into one.
-/
import Derived.Test.YtenegpbpalbpeaaGreatDoorSMakeM
import Derived.Test.YtenegpbpalbpeaaGreatDoorSWireM
import Derived.Test.YtenegpbpalbpeaaGreatDoorMachM
import Derived.Test.YtenegpbpalbpeaaGreatDoorSizeIM
import Derived.Deep.RegionHeld
/-
  Contracts of impl.putNums, of the nine ways to put a node, of impl.wires and impl.putNodes. No condition but bounds.
-/
namespace Go.Proofs.YtenegpbpalbpeaaGreatDoor
open Go.RowKit
def Puts (f : Nat) (x : Nd) : Prop := ∀ (vb : Value) (bs : List Int) (B : Nat) (w : World), w.ownsRow B 5 1 vb bs.length (bv bs) → B ≤ w.heap.size → bs.length ≤ 400000 → Calls Tryz.prog f #[vb, .agg #[.int .i64 x.k, .int .i64 x.n, .string x.s, .int .i64 x.a, .int .i64 x.b]] w fun e w' => ∃ v', e = .returned v' ∧ w'.ownsRow B 5 1 v' (bs ++ wireB x).length (bv (bs ++ wireB x)) ∧ Below B w w' ∧ Stays w w'
end Go.Proofs.YtenegpbpalbpeaaGreatDoor
/-
  Contracts of impl.wires and impl.putNodes: the nodes' bytes behind what is there. No condition but bounds.
-/
namespace Go.Proofs.YtenegpbpalbpeaaGreatDoor
open Go.RowKit
def fnV (n : Nat) : Value := .func (.func n) #[] #[]
def wiresV : Array Value := #[.nilFunc, .nilFunc, .func (.func 206) #[] #[], .func (.func 207) #[] #[], .func (.func 208) #[] #[], .func (.func 209) #[] #[], .func (.func 210) #[] #[], .func (.func 211) #[] #[], .func (.func 212) #[] #[], .func (.func 213) #[] #[], .func (.func 214) #[] #[], .func (.func 215) #[] #[], .func (.func 216) #[] #[], .func (.func 217) #[] #[], .func (.func 218) #[] #[], .func (.func 219) #[] #[], .func (.func 208) #[] #[], .func (.func 209) #[] #[], .func (.func 208) #[] #[], .func (.func 209) #[] #[]]
theorem wiresV_one : wiresV.all (·.oneCell') = true := by simp [wiresV, Value.oneCell']
theorem Tryz.sizeW : (Tryz.prog.info? 259).map (·.size) = some 20 := by kernel_rfl
set_option maxRecDepth 100000 in
set_option maxHeartbeats 800000 in
theorem iwires_any (w : World) : Calls Tryz.prog 197 #[] w fun e w' => e = .returned (.agg wiresV) ∧ Below w.heap.size w w' := by
  go_enter Tryz.func197, Tryz.ntmps197
  go_wp2_with (refine wpList_store_own rfl 259 _ _ rfl w.heap.size wiresV rfl rfl 259 _ (heap_alloc_new _ _) Tryz.sizeW rfl wiresV_one ?_)
  intro w2 hh2 hb2 hs2
  have hB2 : Below w.heap.size w w2 := ((Below.refl _ _).alloc (Nat.le_refl _) _).trans hb2
  go_wp2
  exact bodyPost_ret (results_cell_row rfl _ _ w.heap.size 259 _ (0, 0) _ rfl hh2 Tryz.underlying259 rfl Tryz.sizeW) rfl ⟨rfl, hB2⟩
theorem run_enter {f : FuncId} {fn : Func} {c : Code} (hf : Tryz.prog.funcs[f]? = some fn) (hname : (fn.name == "runtime.NumGoroutine") = false) (hb : fn.body = some c) (args : Array Value) (w : World) :
    Sem.run Tryz.prog (callFunc f args) w = .ok (.enter f args) w := by
  have h1 : fn.name ≠ "runtime.NumGoroutine" := by simpa using hname
  simp [callFunc, hf, h1, hb]
end Go.Proofs.YtenegpbpalbpeaaGreatDoor
