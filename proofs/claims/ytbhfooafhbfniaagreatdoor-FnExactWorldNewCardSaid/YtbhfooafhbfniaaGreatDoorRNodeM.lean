/-
  Texts that stood by themselves, laid into one.
-/
import Derived.Test.YtbhfooafhbfniaaGreatDoorSWireM
import Derived.Test.YtbhfooafhbfniaaGreatDoorMkListM
import Derived.Test.YtbhfooafhbfniaaGreatDoorNodeFitsM
import Derived.Deep.RegionHeld
import Derived.Test.YtbhfooafhbfniaaGreatDoorIPutM
import Derived.Test.YtbhfooafhbfniaaGreatDoorShapeM
/-
  Contracts of impl.putNums, of the nine ways to put a node, of impl.wires and impl.putNodes. No condition but bounds.
-/
namespace Go.Proofs.YtbhfooafhbfniaaGreatDoor
open Go.RowKit
def Puts (f : Nat) (x : Nd) : Prop := ∀ (vb : Value) (bs : List Int) (B : Nat) (w : World), w.ownsRow B 5 1 vb bs.length (bv bs) → B ≤ w.heap.size → bs.length ≤ 400000 → Calls Tryz.prog f #[vb, .agg #[.int .i64 x.k, .int .i64 x.n, .string x.s, .int .i64 x.a, .int .i64 x.b]] w fun e w' => ∃ v', e = .returned v' ∧ w'.ownsRow B 5 1 v' (bs ++ wireB x).length (bv (bs ++ wireB x)) ∧ Below B w w' ∧ Stays w w'
end Go.Proofs.YtbhfooafhbfniaaGreatDoor
/-
  Contracts of impl.wires and impl.putNodes: the nodes' bytes behind what is there. No condition but bounds.
-/
namespace Go.Proofs.YtbhfooafhbfniaaGreatDoor
open Go.RowKit
def fnV (n : Nat) : Value := .func (.func n) #[] #[]
def wiresV : Array Value := #[.nilFunc, .nilFunc, .func (.func 159) #[] #[], .func (.func 160) #[] #[], .func (.func 161) #[] #[], .func (.func 162) #[] #[], .func (.func 163) #[] #[], .func (.func 164) #[] #[], .func (.func 165) #[] #[], .func (.func 166) #[] #[], .func (.func 167) #[] #[], .func (.func 168) #[] #[], .func (.func 169) #[] #[], .func (.func 170) #[] #[], .func (.func 171) #[] #[], .func (.func 172) #[] #[], .func (.func 161) #[] #[], .func (.func 162) #[] #[], .func (.func 161) #[] #[], .func (.func 162) #[] #[]]
theorem wiresV_one : wiresV.all (·.oneCell') = true := by simp [wiresV, Value.oneCell']
theorem Tryz.sizeW : (Tryz.prog.info? 206).map (·.size) = some 20 := by kernel_rfl
set_option maxRecDepth 100000 in
set_option maxHeartbeats 800000 in
theorem iwires_any (w : World) : Calls Tryz.prog 150 #[] w fun e w' => e = .returned (.agg wiresV) ∧ Below w.heap.size w w' := by
  go_enter Tryz.func150, Tryz.ntmps150
  go_wp2_with (refine wpList_store_own rfl 206 _ _ rfl w.heap.size wiresV rfl rfl 206 _ (heap_alloc_new _ _) Tryz.sizeW rfl wiresV_one ?_)
  intro w2 hh2 hb2 hs2
  have hB2 : Below w.heap.size w w2 := ((Below.refl _ _).alloc (Nat.le_refl _) _).trans hb2
  go_wp2
  exact bodyPost_ret (results_cell_row rfl _ _ w.heap.size 206 _ (0, 0) _ rfl hh2 Tryz.underlying206 rfl Tryz.sizeW) rfl ⟨rfl, hB2⟩
theorem run_enter {f : FuncId} {fn : Func} {c : Code} (hf : Tryz.prog.funcs[f]? = some fn) (hname : (fn.name == "runtime.NumGoroutine") = false) (hb : fn.body = some c) (args : Array Value) (w : World) :
    Sem.run Tryz.prog (callFunc f args) w = .ok (.enter f args) w := by
  have h1 : fn.name ≠ "runtime.NumGoroutine" := by simpa using hname
  simp [callFunc, hf, h1, hb]
end Go.Proofs.YtbhfooafhbfniaaGreatDoor
/-
  The contract of (impl.reader).node: one node is read, or there is a mistake. Bounds of the form alone.
-/
namespace Go.Proofs.YtbhfooafhbfniaaGreatDoor
open Go.RowKit
theorem four_boxes (w : World) (o1 o2 o3 o4 : Obj) : Below w.heap.size w ((((w.alloc o1).alloc o2).alloc o3).alloc o4) ∧ ((((w.alloc o1).alloc o2).alloc o3).alloc o4).heap[w.heap.size]? = some o1 ∧ ((((w.alloc o1).alloc o2).alloc o3).alloc o4).heap[w.heap.size + 1]? = some o2 ∧
    ((((w.alloc o1).alloc o2).alloc o3).alloc o4).heap[w.heap.size + 1 + 1]? = some o3 ∧ ((((w.alloc o1).alloc o2).alloc o3).alloc o4).heap[w.heap.size + 1 + 1 + 1]? = some o4 ∧ ((((w.alloc o1).alloc o2).alloc o3).alloc o4).heap.size = w.heap.size + 1 + 1 + 1 + 1 := by
  have s1 : (w.alloc o1).heap.size = w.heap.size + 1 := by simp
  have s2 : ((w.alloc o1).alloc o2).heap.size = w.heap.size + 1 + 1 := by simp
  have s3 : (((w.alloc o1).alloc o2).alloc o3).heap.size = w.heap.size + 1 + 1 + 1 := by simp
  refine ⟨((((Below.refl _ _).alloc (Nat.le_refl _) _).alloc (by omega) _).alloc (by omega) _).alloc (by omega) _, ?_, ?_, ?_, ?_, by simp⟩
  · rw [heap_alloc_old _ _ (by omega), heap_alloc_old _ _ (by omega), heap_alloc_old _ _ (by omega)]; exact heap_alloc_new _ _
  · rw [heap_alloc_old _ _ (by omega), heap_alloc_old _ _ (by omega), ← s1]; exact heap_alloc_new _ _
  · rw [heap_alloc_old _ _ (by omega), ← s2]; exact heap_alloc_new _ _
  · rw [← s3]; exact heap_alloc_new _ _
theorem get_of (k : Int) (h1 : 1 ≤ k) (h9 : k ≤ 9) : ∃ (n f : Nat), k = (n : Int) ∧ 1 ≤ n ∧ n ≤ 9 ∧ wiresV[n * 2 + 1]? = some (.func (.func f) #[] #[]) ∧ Gets f k ∧ ∀ args w, Sem.run Tryz.prog (callFunc f args) w = .ok (.enter f args) w := by
  have hk : k = 1 ∨ k = 2 ∨ k = 3 ∨ k = 4 ∨ k = 5 ∨ k = 6 ∨ k = 7 ∨ k = 8 ∨ k = 9 := by omega
  rcases hk with rfl | rfl | rfl | rfl | rfl | rfl | rfl | rfl | rfl
  · exact ⟨1, 160, rfl, by omega, by omega, rfl, getnothing_any, run_enter Tryz.func160 (by kernel_rfl) rfl⟩
  · exact ⟨2, 162, rfl, by omega, by omega, rfl, getn_any 2 (Or.inl rfl), run_enter Tryz.func162 (by kernel_rfl) rfl⟩
  · exact ⟨3, 164, rfl, by omega, by omega, rfl, getint_any, run_enter Tryz.func164 (by kernel_rfl) rfl⟩
  · exact ⟨4, 166, rfl, by omega, by omega, rfl, getname_any, run_enter Tryz.func166 (by kernel_rfl) rfl⟩
  · exact ⟨5, 168, rfl, by omega, by omega, rfl, getparts_any, run_enter Tryz.func168 (by kernel_rfl) rfl⟩
  · exact ⟨6, 170, rfl, by omega, by omega, rfl, getfun_any, run_enter Tryz.func170 (by kernel_rfl) rfl⟩
  · exact ⟨7, 172, rfl, by omega, by omega, rfl, geta_any, run_enter Tryz.func172 (by kernel_rfl) rfl⟩
  · exact ⟨8, 162, rfl, by omega, by omega, rfl, getn_any 8 (Or.inr (Or.inl rfl)), run_enter Tryz.func162 (by kernel_rfl) rfl⟩
  · exact ⟨9, 162, rfl, by omega, by omega, rfl, getn_any 9 (Or.inr (Or.inr rfl)), run_enter Tryz.func162 (by kernel_rfl) rfl⟩
theorem rdB_out {zs : List Int} {k a : Int} (h : k < 1 ∨ 9 < k) : rdB zs k a = none := by
  unfold rdB
  rw [if_neg (by omega), if_neg (by omega), if_neg (by omega), if_neg (by omega), if_neg (by omega), if_neg (by omega), if_neg (by omega)]
theorem ndA_one (x : Nd) : (ndA x).all (·.oneCell') = true := by simp [ndA, Value.oneCell']
def NdAns (zs : List Int) (a : Int) (P : Nat) (e : Ending) (w' : World) : Prop :=
  (∃ x b, rdNd zs a = some (x, b) ∧ e = .returned (.tuple #[.agg (ndA x), .nilIface]) ∧ One w' P b) ∨ (rdNd zs a = none ∧ (∃ x p, e = .returned (.tuple #[.agg (ndA x), badV p])) ∧ ∃ q, One w' P q)
set_option maxRecDepth 100000 in
set_option maxHeartbeats 3200000 in
theorem rnode_any (v : Value) (zs : List Int) (W0 w : World) (P : Nat) (a : Int) (R : Row W0 v zs) (hb : Below W0.heap.size W0 w) (hP : W0.heap.size ≤ P) (h1 : One w P a) :
    Calls Tryz.prog 151 #[.agg #[v, .pointer (some ⟨P, 0, none⟩)], .agg wiresV] w fun e w' => w.grownBy w' (some P) ∧ NdAns zs a P e w' := by
  obtain ⟨ao, cap, rfl, _⟩ := id R
  have hbs := hb.size
  have hPl := h1.lt
  obtain ⟨hB4, x0, x1, x2, x3, hs4⟩ := four_boxes w (Obj.cells #[Value.slice ao zs.length cap, Value.pointer (some ⟨P, 0, none⟩)] 177) (Obj.cells wiresV 206) (Obj.cells #[.int .i64 0, .int .i64 0, .string ⟨#[]⟩, .int .i64 0, .int .i64 0] 130) (Obj.cells #[.int .i64 0, .int .i64 0, .string ⟨#[]⟩, .int .i64 0, .int .i64 0] 130)
  have hc : ((((w.alloc (Obj.cells #[Value.slice ao zs.length cap, Value.pointer (some ⟨P, 0, none⟩)] 177)).alloc (Obj.cells wiresV 206)).alloc (Obj.cells #[.int .i64 0, .int .i64 0, .string ⟨#[]⟩, .int .i64 0, .int .i64 0] 130))).cell? ⟨P, 0, none⟩ = some (.int .i64 a) := by
    rw [World.cell?_alloc_lt _ _ ⟨P, 0, none⟩ (by simp; omega), World.cell?_alloc_lt _ _ ⟨P, 0, none⟩ (by simp; omega), World.cell?_alloc_lt _ _ ⟨P, 0, none⟩ hPl]
    exact h1.cell
  go_enter Tryz.func151, Tryz.ntmps151
  go_wp2_with fail
  obtain ⟨W4, hW4⟩ : ∃ W4, (((w.alloc (Obj.cells #[Value.slice ao zs.length cap, Value.pointer (some ⟨P, 0, none⟩)] 177)).alloc (Obj.cells wiresV 206)).alloc (Obj.cells #[.int .i64 0, .int .i64 0, .string ⟨#[]⟩, .int .i64 0, .int .i64 0] 130)).alloc (Obj.cells #[.int .i64 0, .int .i64 0, .string ⟨#[]⟩, .int .i64 0, .int .i64 0] 130) = W4 := ⟨_, rfl⟩
  rw [hW4] at hB4 x0 x1 x2 x3 hs4 ⊢
  have hBL : Below W4.heap.size W4 (W4.alloc (Obj.cells (tgt (w.heap.size + 1 + 1 + 1) [0]) 175)) := (Below.refl _ _).alloc (Nat.le_refl _) _
  have hbW := hb.trans (hB4.mono hbs)
  have x3' : W4.heap[w.heap.size + 1 + 1 + 1]? = some (.cells (ndA (nd0 0)) 130 (0, 0)) := x3
  have HC := rnums_any _ zs W0 (W4.alloc (Obj.cells (tgt (w.heap.size + 1 + 1 + 1) [0]) 175)) P (w.heap.size + 1 + 1 + 1) W4.heap.size a (ndA (nd0 0)) 130 [0] R (hbW.trans (hBL.mono hbW.size)) hP (by omega) ((h1.below hB4 hPl).below hBL (by omega)) ((hBL.block _ (by omega)).trans x3') (by intro o ho; simp at ho; simp [ndA]; omega) (heap_alloc_new _ _) (by omega) (by omega) (by omega) (by simp)
  rw [hs4] at HC
  have hLl : w.heap.size + 1 + 1 + 1 + 1 ≤ (W4.alloc (Obj.cells (tgt (w.heap.size + 1 + 1 + 1) [0]) 175)).heap.size := by have := hBL.size; omega
  have hG : K2 P (w.heap.size + 1 + 1 + 1) w (W4.alloc (Obj.cells (tgt (w.heap.size + 1 + 1 + 1) [0]) 175)) := (K2.ofB hB4).trans (K2.ofB hBL)
  have x0 := (hBL.block _ (by omega)).trans x0
  have x1 := (hBL.block _ (by omega)).trans x1
  have x2 := (hBL.block _ (by omega)).trans x2
  clear hs4 hc x3 x3' hBL
  refine HC.mono ?_
  rintro e w1 ⟨hK, h⟩
  have x0 := (hK.block _ (by omega) (by omega) (by omega)).trans x0
  have x1 := (hK.block _ (by omega) (by omega) (by omega)).trans x1
  have x2 := (hK.block _ (by omega) (by omega) (by omega)).trans x2
  have hK := hG.trans hK
  have hG1 : w.grownBy w1 (some P) := hK.grown (by omega)
  clear hG hLl HC hB4 hbW hW4
  rcases h with ⟨q, e1, rfl, e3, e4⟩ | ⟨e1, ⟨p, rfl⟩, ⟨q, e3⟩, -⟩
  · rw [show [0].length = 1 from rfl, rdK_one, Option.map_eq_some_iff] at e1
    obtain ⟨⟨k, b⟩, e1, rfl⟩ := e1
    have HR : Hid (rdNd zs a = rdB zs k b) := by unfold Hid rdNd; rw [e1]; rfl
    obtain ⟨k0, k1, _, _⟩ := rd1_range e1
    have e3 : One w1 P b := e3
    have e4 : w1.heap[w.heap.size + 1 + 1 + 1]? = some (.cells (ndA (nd0 k)) 130 (0, 0)) := e4
    have c0 : w1.cell? ⟨w.heap.size + 1 + 1 + 1, 0, none⟩ = some (.int .i64 k) := cell_of_row w1 _ 0 _ _ _ e4
    have k0 : 0 ≤ k := k0
    have k1 : k ≤ 9223372036854775807 := k1
    clear e1
    by_cases hk1 : k < 1
    · go_wp2_with (refine wpList_store_own rfl 130 _ _ rfl (w.heap.size + 1 + 1) (ndA (nd0 0)) rfl rfl 130 _ x2 Tryz.sizeN rfl (ndA_one _) ?_)
      intro w2 hh2 hb2 _
      go_wp2
      exact bodyPost_ret (results_row_tmp rfl _ _ (w.heap.size + 1 + 1) 130 _ (0, 0) _ rfl hh2 Tryz.underlying130 rfl Tryz.sizeN) rfl ⟨grown_then hG1 hb2 (by omega), Or.inr ⟨by rw [HR.out]; exact rdB_out (Or.inl hk1), ⟨_, _, rfl⟩, b, e3.below hb2 (by omega)⟩⟩
    by_cases hk9 : 9 < k
    · go_wp2_with (refine wpList_store_own rfl 130 _ _ rfl (w.heap.size + 1 + 1) (ndA (nd0 0)) rfl rfl 130 _ x2 Tryz.sizeN rfl (ndA_one _) ?_)
      intro w2 hh2 hb2 _
      go_wp2
      exact bodyPost_ret (results_row_tmp rfl _ _ (w.heap.size + 1 + 1) 130 _ (0, 0) _ rfl hh2 Tryz.underlying130 rfl Tryz.sizeN) rfl ⟨grown_then hG1 hb2 (by omega), Or.inr ⟨by rw [HR.out]; exact rdB_out (Or.inr hk9), ⟨_, _, rfl⟩, b, e3.below hb2 (by omega)⟩⟩
    obtain ⟨n, f, rfl, hn1, hn9, hw, hget, hent⟩ := get_of k (by omega) (by omega)
    have HG := hget (.slice ao zs.length cap) zs W0 w1.drew P (w.heap.size + 1 + 1 + 1) b R
    have hbw1 : Below W0.heap.size W0 w1.drew := (hb.grown hG1 hbs (fun k hk => by simp at hk; omega)).drew
    have HG := HG hbw1 hP (by omega) (by omega) e3 e4
    have b0 : w1.cell? ⟨w.heap.size, 0, none⟩ = some (.slice ao zs.length cap) := cell_of_row w1 _ 0 _ _ _ x0
    have b1 : w1.cell? ⟨w.heap.size, 1, none⟩ = some (.pointer (some ⟨P, 0, none⟩)) := cell_of_row w1 _ 1 _ _ _ x0
    have c5 : w1.cell? ⟨w.heap.size + 1, n * 2 + 1, none⟩ = some (.func (.func f) #[] #[]) := (cell_of_row w1 _ (n * 2 + 1) _ _ _ x1).trans hw
    have HG : Calls Tryz.prog f #[.agg #[.slice ao zs.length cap, .pointer (some ⟨P, 0, none⟩)], .pointer (some ⟨w.heap.size + 1 + 1 + 1, 0, none⟩)] w1.drew fun e w' => ∃ r, e = .returned r ∧ K2 P (w.heap.size + 1 + 1 + 1) w1.drew w' ∧ Hid (((∃ x b', rdB zs n b = some (x, b') ∧ r = .nilIface ∧ One w' P b' ∧ w'.heap[w.heap.size + 1 + 1 + 1]? = some (.cells (ndA x) 130 (0, 0)))
      ∨ (rdB zs n b = none ∧ (∃ p, r = badV p) ∧ (∃ q, One w' P q) ∧ ∃ x : Nd, x.k = (n : Int) ∧ w'.heap[w.heap.size + 1 + 1 + 1]? = some (.cells (ndA x) 130 (0, 0))))) := HG.mono (by
        rintro e w' ⟨hK', h'⟩
        rcases h' with ⟨x, b', a1, rfl, a3, a4⟩ | ⟨a1, ⟨p, rfl⟩, a3, a4⟩
        · exact ⟨_, rfl, hK', Or.inl ⟨x, b', a1, rfl, a3, a4⟩⟩
        · exact ⟨_, rfl, hK', Or.inr ⟨a1, ⟨p, rfl⟩, a3, a4⟩⟩)
    clear hget e4
    have SS : ∀ (w2 : World) (r : Value), K2 P (w.heap.size + 1 + 1 + 1) w1.drew w2 → Hid (((∃ x b', rdB zs n b = some (x, b') ∧ r = .nilIface ∧ One w2 P b' ∧ w2.heap[w.heap.size + 1 + 1 + 1]? = some (.cells (ndA x) 130 (0, 0)))
      ∨ (rdB zs n b = none ∧ (∃ p, r = badV p) ∧ (∃ q, One w2 P q) ∧ ∃ x : Nd, x.k = (n : Int) ∧ w2.heap[w.heap.size + 1 + 1 + 1]? = some (.cells (ndA x) 130 (0, 0))))) →
        w2.cell? ⟨w.heap.size + 1 + 1 + 1, 0, none⟩ = some (.int .i64 n) ∧ w2.cell? ⟨w.heap.size + 1, n * 2 + 1, none⟩ = some (.func (.func f) #[] #[]) ∧ w2.cell? ⟨w.heap.size, 0, none⟩ = some (.slice ao zs.length cap) ∧ w2.cell? ⟨w.heap.size, 1, none⟩ = some (.pointer (some ⟨P, 0, none⟩)) := by
      intro w2 r k2 h2
      have l0 := (Array.getElem?_eq_some_iff.1 x0).1
      have l1 := (Array.getElem?_eq_some_iff.1 x1).1
      have y0 := (k2.block _ l0 (by omega) (by omega)).trans x0
      have y1 := (k2.block _ l1 (by omega) (by omega)).trans x1
      have y2 : ∃ x : Nd, x.k = (n : Int) ∧ w2.heap[w.heap.size + 1 + 1 + 1]? = some (.cells (ndA x) 130 (0, 0)) := by
        rcases h2.out with ⟨x, _, a1, _, _, a4⟩ | ⟨_, _, _, a4⟩
        · exact ⟨x, rdB_k a1, a4⟩
        · exact a4
      obtain ⟨x, hx, y2⟩ := y2
      refine ⟨?_, (cell_of_row w2 _ (n * 2 + 1) _ _ _ y1).trans hw, cell_of_row w2 _ 0 _ _ _ y0, cell_of_row w2 _ 1 _ _ _ y0⟩
      rw [cell_of_row w2 _ 0 _ _ _ y2, ← hx]
      rfl
    have hn9' : (n : Int) ≤ 9 := by omega
    go_wp2_with fail
    go_region_held (fun w' => w'.cell? ⟨w.heap.size + 1 + 1 + 1, 0, none⟩ = some (.int .i64 n) ∧ w'.cell? ⟨w.heap.size + 1, n * 2 + 1, none⟩ = some (.func (.func f) #[] #[]) ∧ w'.cell? ⟨w.heap.size, 0, none⟩ = some (.slice ao zs.length cap) ∧ w'.cell? ⟨w.heap.size, 1, none⟩ = some (.pointer (some ⟨P, 0, none⟩))) (first | exact s2 | go_keep) (first
      | (refine HG.mono ?_; rintro e w2 ⟨r, rfl, k2, h2⟩; have s2 := SS w2 r k2 h2))
    all_goals
      have l2 := (Array.getElem?_eq_some_iff.1 x2).1
      have y2 := (k2.block _ l2 (by omega) (by omega)).trans x2
      have hG2 : w.grownBy w2 (some P) := ((hK.trans (K2.ofB (Below.refl _ w1).drew)).trans k2).grown (by omega)
      clear HG SS s2 b0 b1 c5 c0 hent
      rcases h2.out with ⟨x, b', a1, rfl, a3, a4⟩ | ⟨a1, ⟨p, rfl⟩, ⟨q, a3⟩, x, hxk, a4⟩
      · have hxk := rdB_k a1
        obtain ⟨xk, xn, xs', xa, xb⟩ := x
        dsimp only at hxk
        subst hxk
        have c0 : w2.cell? ⟨w.heap.size + 1 + 1 + 1, 0, none⟩ = some (.int .i64 n) := cell_of_row w2 _ 0 _ _ _ a4
        have c1 : w2.cell? ⟨w.heap.size + 1 + 1 + 1, 1, none⟩ = some (.int .i64 xn) := cell_of_row w2 _ 1 _ _ _ a4
        have c2 : w2.cell? ⟨w.heap.size + 1 + 1 + 1, 2, none⟩ = some (.string xs') := cell_of_row w2 _ 2 _ _ _ a4
        have c3 : w2.cell? ⟨w.heap.size + 1 + 1 + 1, 3, none⟩ = some (.int .i64 xa) := cell_of_row w2 _ 3 _ _ _ a4
        have c4 : w2.cell? ⟨w.heap.size + 1 + 1 + 1, 4, none⟩ = some (.int .i64 xb) := cell_of_row w2 _ 4 _ _ _ a4
        clear h2
        go_wp2_with (refine wpList_store_own rfl 130 _ _ rfl (w.heap.size + 1 + 1) (ndA ⟨n, xn, xs', xa, xb⟩) rfl rfl 130 _ y2 Tryz.sizeN rfl (ndA_one _) ?_)
        intro w3 hh3 hb3 _
        go_wp2
        exact bodyPost_ret (results_row_tmp rfl _ _ (w.heap.size + 1 + 1) 130 _ (0, 0) _ rfl hh3 Tryz.underlying130 rfl Tryz.sizeN) rfl ⟨grown_then hG2 hb3 (by omega), Or.inl ⟨⟨n, xn, xs', xa, xb⟩, b', by rw [HR.out]; exact a1, rfl, a3.below hb3 (by omega)⟩⟩
      · obtain ⟨xk, xn, xs', xa, xb⟩ := x
        dsimp only at hxk
        subst hxk
        have c0 : w2.cell? ⟨w.heap.size + 1 + 1 + 1, 0, none⟩ = some (.int .i64 n) := cell_of_row w2 _ 0 _ _ _ a4
        have c1 : w2.cell? ⟨w.heap.size + 1 + 1 + 1, 1, none⟩ = some (.int .i64 xn) := cell_of_row w2 _ 1 _ _ _ a4
        have c2 : w2.cell? ⟨w.heap.size + 1 + 1 + 1, 2, none⟩ = some (.string xs') := cell_of_row w2 _ 2 _ _ _ a4
        have c3 : w2.cell? ⟨w.heap.size + 1 + 1 + 1, 3, none⟩ = some (.int .i64 xa) := cell_of_row w2 _ 3 _ _ _ a4
        have c4 : w2.cell? ⟨w.heap.size + 1 + 1 + 1, 4, none⟩ = some (.int .i64 xb) := cell_of_row w2 _ 4 _ _ _ a4
        clear h2
        go_wp2_with (refine wpList_store_own rfl 130 _ _ rfl (w.heap.size + 1 + 1) (ndA ⟨n, xn, xs', xa, xb⟩) rfl rfl 130 _ y2 Tryz.sizeN rfl (ndA_one _) ?_)
        intro w3 hh3 hb3 _
        go_wp2
        exact bodyPost_ret (results_row_tmp rfl _ _ (w.heap.size + 1 + 1) 130 _ (0, 0) _ rfl hh3 Tryz.underlying130 rfl Tryz.sizeN) rfl ⟨grown_then hG2 hb3 (by omega), Or.inr ⟨by rw [HR.out]; exact a1, ⟨⟨n, xn, xs', xa, xb⟩, p, rfl⟩, q, a3.below hb3 (by omega)⟩⟩
  · rw [show [0].length = 1 from rfl, rdK_one, Option.map_eq_none_iff] at e1
    have HR : Hid (rdNd zs a = none) := by unfold Hid rdNd; rw [e1]; rfl
    unfold badV
    go_wp2_with (refine wpList_store_own rfl 130 _ _ rfl (w.heap.size + 1 + 1) (ndA (nd0 0)) rfl rfl 130 _ x2 Tryz.sizeN rfl (ndA_one _) ?_)
    intro w2 hh2 hb2 _
    go_wp2
    exact bodyPost_ret (results_row_tmp rfl _ _ (w.heap.size + 1 + 1) 130 _ (0, 0) _ rfl hh2 Tryz.underlying130 rfl Tryz.sizeN) rfl ⟨grown_then hG1 hb2 (by omega), Or.inr ⟨HR.out, ⟨_, p, rfl⟩, q, e3.below hb2 (by omega)⟩⟩
end Go.Proofs.YtbhfooafhbfniaaGreatDoor
