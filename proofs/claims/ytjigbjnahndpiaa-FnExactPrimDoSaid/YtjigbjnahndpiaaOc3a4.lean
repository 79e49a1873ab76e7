/-
  innerOutcome, number 4. Conditions: a right pool, as many nodes of it as are taken.
-/
import Derived.Test.YtjigbjnahndpiaaOc3
namespace Go.Proofs.Ytjigbjnahndpiaa
open Go.RowKit

set_option maxRecDepth 100000 in
set_option maxHeartbeats 6400000 in
theorem iinner_num4 (v vl : Value) (xs : List Nd) (zs : List Int) (w : World) (R : NRow w v xs) (L : IRow w vl zs) (hp : poolB xs = true) (ha : allI xs zs = true) (hl : (zs.length : Int) = primArgsR 4) :
    Calls Try.prog 52 #[.agg #[v], .int .i64 4, vl] w fun e w' => e = .returned (.agg (innerOc xs 4 zs).cs) ∧ Below w.heap.size w w' := by
  have R' := R
  obtain ⟨ao, cap, rfl, hcap, hm, hz, hcell⟩ := R'
  have L' := L
  obtain ⟨al, capl, rfl, hcapl, hml, hcelll⟩ := L'
  have hz1 : 1 ≤ zs.length := by
    simp [primArgsR, prims] at hl; omega
  obtain ⟨gl, ol, rfl, hgl, hcl⟩ := hcelll (by intro e; subst e; simp at hz1)
  have hall : ∀ i, i < zs.length → hasI xs (zs.getD i 0) = true := fun i hi => by
    unfold allI at ha
    rw [List.all_eq_true] at ha
    exact ha _ (by rw [List.getD_eq_getElem?_getD, List.getElem?_eq_getElem hi]; exact List.getElem_mem hi)
  have hA0 := hall 0 (by omega)
  have hA0' := hA0
  have c0 := hcl 0 (by omega)
  simp only [hasI, Bool.and_eq_true, decide_eq_true_eq] at hA0'
  obtain ⟨a0, e0⟩ : ∃ a0 : Nat, zs.getD 0 0 = a0 := ⟨(zs.getD 0 0).toNat, by omega⟩
  rw [e0] at hA0' hA0 c0
  have hlt0 : a0 < xs.length := by omega
  obtain ⟨g, o, rfl, hg, hnode⟩ := hcell (by intro e; subst e; simp at hlt0)
  obtain ⟨x, hx⟩ : ∃ x, xs[a0]? = some x := ⟨xs[a0], by simp [hlt0]⟩
  have hn0 := hnode a0 x hx
  have hxz := hz x (List.mem_of_getElem? hx)
  have HX : Hid (xs.getD (zs.getD 0 0).toNat z0 = x) := by unfold Hid; rw [e0, List.getD_eq_getElem?_getD]; simp [hx]
  have hB0 : Below w.heap.size w ((w.alloc (Obj.cells #[.slice (some ⟨g, o, none⟩) xs.length cap] 26)).alloc (Obj.cells #[.int .i64 0, .int .i64 0, .int .i64 0, .string ⟨#[]⟩, .int .i64 0, .int .i64 0, .int .i64 0] 61)) := below2 _ _ _
  rw [Nat.add_zero] at c0
  have hbx0 := old2 w (Obj.cells #[.slice (some ⟨g, o, none⟩) xs.length cap] 26) (Obj.cells #[.int .i64 0, .int .i64 0, .int .i64 0, .string ⟨#[]⟩, .int .i64 0, .int .i64 0, .int .i64 0] 61)
  have hbx1 := heap_alloc2_new w (Obj.cells #[.slice (some ⟨g, o, none⟩) xs.length cap] 26) (Obj.cells #[.int .i64 0, .int .i64 0, .int .i64 0, .string ⟨#[]⟩, .int .i64 0, .int .i64 0, .int .i64 0] 61)
  have hc0 := (hB0.cell (p := ⟨gl, ol, none⟩) hgl).trans c0
  obtain ⟨d0, d1, d2, d3, d4⟩ := hn0.below hB0 hg
  clear hcell hcelll
  go_enter Try.func52, Try.ntmps52
  go_wp2_with fail
  generalize (w.alloc (Obj.cells #[.slice (some ⟨g, o, none⟩) xs.length cap] 26)).alloc (Obj.cells #[.int .i64 0, .int .i64 0, .int .i64 0, .string ⟨#[]⟩, .int .i64 0, .int .i64 0, .int .i64 0] 61) = w1 at *
  have hp0 : w1.cell? ⟨w.heap.size, 0, none⟩ = some (.slice (some ⟨g, o, none⟩) xs.length cap) := by rw [cell_of_row w1 _ 0 _ _ _ hbx0]; rfl
  have hs0 := (Array.getElem?_eq_some_iff.1 hbx0).1
  have hs1 := (Array.getElem?_eq_some_iff.1 hbx1).1
  have hgl1 : gl < w1.heap.size := by omega
  have hg1 : g < w1.heap.size := by omega
  go_region
  have hB2 : Below w.heap.size w (w1.alloc (Obj.cells #[.int .i64 x.k, .int .i64 x.n, .string x.s, .int .i64 x.a, .int .i64 x.b] 34)).drew := (hB0.alloc hB0.size _).drew
  have hbx2 := heap_alloc_new w1 (Obj.cells #[.int .i64 x.k, .int .i64 x.n, .string x.s, .int .i64 x.a, .int .i64 x.b] 34)
  have hr2 := (heap_alloc_old w1 (Obj.cells #[.int .i64 x.k, .int .i64 x.n, .string x.s, .int .i64 x.a, .int .i64 x.b] 34) hs1).trans hbx1
  have hp2 := (heap_alloc_old w1 (Obj.cells #[.int .i64 x.k, .int .i64 x.n, .string x.s, .int .i64 x.a, .int .i64 x.b] 34) hs0).trans hbx0
  replace hbx2 : (w1.alloc (Obj.cells #[.int .i64 x.k, .int .i64 x.n, .string x.s, .int .i64 x.a, .int .i64 x.b] 34)).drew.heap[w1.heap.size]? = _ := hbx2
  replace hr2 : (w1.alloc (Obj.cells #[.int .i64 x.k, .int .i64 x.n, .string x.s, .int .i64 x.a, .int .i64 x.b] 34)).drew.heap[w.heap.size + 1]? = _ := hr2
  replace hp2 : (w1.alloc (Obj.cells #[.int .i64 x.k, .int .i64 x.n, .string x.s, .int .i64 x.a, .int .i64 x.b] 34)).drew.heap[w.heap.size]? = _ := hp2
  clear hc0 hp0 d0 d1 d2 d3 d4 hbx0 hbx1
  generalize (w1.alloc (Obj.cells #[.int .i64 x.k, .int .i64 x.n, .string x.s, .int .i64 x.a, .int .i64 x.b] 34)).drew = w2 at *
  have R2 := R.below hB2
  have L2 := L.below hB2
  have hc0 := (hB2.cell (p := ⟨gl, ol, none⟩) hgl).trans c0
  have hp0 : w2.cell? ⟨w.heap.size, 0, none⟩ = some (.slice (some ⟨g, o, none⟩) xs.length cap) := by rw [cell_of_row w2 _ 0 _ _ _ hp2]; rfl
  have hsr := (Array.getElem?_eq_some_iff.1 hr2).1
  have hz2 : zs.length = 2 := by
    simp [primArgsR, prims] at hl; omega
  have hA1 := hall 1 (by omega)
  have hA1' := hA1
  have c1 := hcl 1 (by omega)
  simp only [hasI, Bool.and_eq_true, decide_eq_true_eq] at hA1'
  obtain ⟨a1, e1⟩ : ∃ a1 : Nat, zs.getD 1 0 = a1 := ⟨(zs.getD 1 0).toNat, by omega⟩
  rw [e1] at hA1' hA1 c1
  have hlt1 : a1 < xs.length := by omega
  have hc1 := (hB2.cell (p := ⟨gl, ol + 1, none⟩) hgl).trans c1
  obtain ⟨y, hy⟩ : ∃ y, xs[a1]? = some y := ⟨xs[a1], by simp [hlt1]⟩
  have hn1 := hnode a1 y hy
  have hyz := hz y (List.mem_of_getElem? hy)
  have HR : Hid (innerOc xs 4 zs = numOc 4 x y) := by
    unfold Hid innerOc
    rw [if_pos (by omega), HX.out, e1, List.getD_eq_getElem?_getD]
    simp [hy]
  obtain ⟨f0, f1, f2, f3, f4⟩ := hn1.below hB2 hg
  clear hnode hcl hall
  have hxn := nodeB_N (poolB_at hp hx)
  have hyn := nodeB_N (poolB_at hp hy)
  have k0 : w2.cell? ⟨w1.heap.size, 0, none⟩ = some (.int .i64 x.k) := by rw [cell_of_row w2 _ 0 _ _ _ hbx2]; rfl
  have k1 : w2.cell? ⟨w1.heap.size, 1, none⟩ = some (.int .i64 x.n) := by rw [cell_of_row w2 _ 1 _ _ _ hbx2]; rfl
  have k2 : w2.cell? ⟨w1.heap.size, 2, none⟩ = some (.string x.s) := by rw [cell_of_row w2 _ 2 _ _ _ hbx2]; rfl
  have k3 : w2.cell? ⟨w1.heap.size, 3, none⟩ = some (.int .i64 x.a) := by rw [cell_of_row w2 _ 3 _ _ _ hbx2]; rfl
  have k4 : w2.cell? ⟨w1.heap.size, 4, none⟩ = some (.int .i64 x.b) := by rw [cell_of_row w2 _ 4 _ _ _ hbx2]; rfl
  clear hp ha hl hm hz R L hx hy HX R2 L2 hA0 hA1 hn0 hn1
  go_wp2_with fail
  go_region_with (go_at_call 66; refine (inumout_any _ x y _ hxn hyn).mono ?_; rintro e w3 ⟨rfl, hb3⟩; have hb3' : Below w2.heap.size w2 w3 := (Below.refl _ _).drew.trans hb3; generalize numOc _ x y = oc at HR ⊢; simp only [Oc.cs]; have hr3 := (hb3'.block _ hsr).trans hr2; obtain ⟨y0, y1, y2, y3, y4, y5, y6, z0', z1, z2, z3, z4, z5, z6⟩ := seven hr3)
  all_goals
    obtain ⟨p1, p2⟩ := put7 hr3 (Nat.le_succ w.heap.size) (.int .i64 oc.how) (.int .i64 oc.nd.k) (.int .i64 oc.nd.n) (.string oc.nd.s) (.int .i64 oc.nd.a) (.int .i64 oc.nd.b) (.int .i64 oc.there)
    have hB3 : Below w.heap.size w w3 := hB2.trans (hb3'.mono hB2.size)
    go_wp2
    exact bodyPost_ret (results_cell_row rfl _ _ (w.heap.size + 1) 61 _ (0, 0) _ rfl p1 Try.underlying61 rfl Try.sizeOc) rfl ⟨by rw [HR.out]; rfl, hB3.trans p2⟩
end Go.Proofs.Ytjigbjnahndpiaa
