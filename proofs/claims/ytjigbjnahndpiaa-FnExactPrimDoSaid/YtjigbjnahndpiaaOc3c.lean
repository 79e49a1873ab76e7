/-
  innerOutcome, one value. Conditions: a right pool, as many nodes of it as are taken.
-/
import Derived.Test.YtjigbjnahndpiaaOc3
namespace Go.Proofs.Ytjigbjnahndpiaa
open Go.RowKit

set_option maxRecDepth 100000 in
set_option maxHeartbeats 6400000 in
theorem iinner_one (v vl : Value) (xs : List Nd) (zs : List Int) (n : Int) (w : World) (R : NRow w v xs) (L : IRow w vl zs) (hp : poolB xs = true) (ha : allI xs zs = true) (hn : n = 7 ∨ n = 8 ∨ n = 9 ∨ n = 10 ∨ n = 12) (hl : (zs.length : Int) = primArgsR n) :
    Calls Try.prog 52 #[.agg #[v], .int .i64 n, vl] w fun e w' => e = .returned (.agg (innerOc xs n zs).cs) ∧ Below w.heap.size w w' := by
  have R' := R
  obtain ⟨ao, cap, rfl, hcap, hm, hz, hcell⟩ := R'
  have L' := L
  obtain ⟨al, capl, rfl, hcapl, hml, hcelll⟩ := L'
  have hz1 : 1 ≤ zs.length := by
    rcases hn with rfl | rfl | rfl | rfl | rfl <;> (simp [primArgsR, prims] at hl; omega)
  obtain ⟨gl, ol, rfl, hgl, hcl⟩ := hcelll (by intro e; subst e; simp at hz1)
  have hall : ∀ i, i < zs.length → hasI xs (zs.getD i 0) = true := fun i hi => by
    unfold allI at ha
    rw [List.all_eq_true] at ha
    exact ha _ (by rw [List.getD_eq_getElem?_getD, List.getElem?_eq_getElem hi]; exact List.getElem_mem hi)
  have hA0 := hall 0 (by omega)
  have hA0' := hA0
  have c0 := hcl 0 (by omega)
  simp only [hasI, Bool.and_eq_true, decide_eq_true_eq] at hA0'
  obtain ⟨a0, e0⟩ : ∃ a0 : Nat, zs.getD 0 0 = a0 := ⟨(zs.getD 0 0).toNat, by omega⟩
  rw [e0] at hA0' hA0 c0
  have hlt0 : a0 < xs.length := by omega
  obtain ⟨g, o, rfl, hg, hnode⟩ := hcell (by intro e; subst e; simp at hlt0)
  obtain ⟨x, hx⟩ : ∃ x, xs[a0]? = some x := ⟨xs[a0], by simp [hlt0]⟩
  have hn0 := hnode a0 x hx
  have hxz := hz x (List.mem_of_getElem? hx)
  have HX : Hid (xs.getD (zs.getD 0 0).toNat z0 = x) := by unfold Hid; rw [e0, List.getD_eq_getElem?_getD]; simp [hx]
  have hB0 : Below w.heap.size w ((w.alloc (Obj.cells #[.slice (some ⟨g, o, none⟩) xs.length cap] 26)).alloc (Obj.cells #[.int .i64 0, .int .i64 0, .int .i64 0, .string ⟨#[]⟩, .int .i64 0, .int .i64 0, .int .i64 0] 61)) := below2 _ _ _
  rw [Nat.add_zero] at c0
  have hbx0 := old2 w (Obj.cells #[.slice (some ⟨g, o, none⟩) xs.length cap] 26) (Obj.cells #[.int .i64 0, .int .i64 0, .int .i64 0, .string ⟨#[]⟩, .int .i64 0, .int .i64 0, .int .i64 0] 61)
  have hbx1 := heap_alloc2_new w (Obj.cells #[.slice (some ⟨g, o, none⟩) xs.length cap] 26) (Obj.cells #[.int .i64 0, .int .i64 0, .int .i64 0, .string ⟨#[]⟩, .int .i64 0, .int .i64 0, .int .i64 0] 61)
  have hc0 := (hB0.cell (p := ⟨gl, ol, none⟩) hgl).trans c0
  obtain ⟨d0, d1, d2, d3, d4⟩ := hn0.below hB0 hg
  clear hcell hcelll
  go_enter Try.func52, Try.ntmps52
  go_wp2_with fail
  generalize (w.alloc (Obj.cells #[.slice (some ⟨g, o, none⟩) xs.length cap] 26)).alloc (Obj.cells #[.int .i64 0, .int .i64 0, .int .i64 0, .string ⟨#[]⟩, .int .i64 0, .int .i64 0, .int .i64 0] 61) = w1 at *
  have hp0 : w1.cell? ⟨w.heap.size, 0, none⟩ = some (.slice (some ⟨g, o, none⟩) xs.length cap) := by rw [cell_of_row w1 _ 0 _ _ _ hbx0]; rfl
  have hs0 := (Array.getElem?_eq_some_iff.1 hbx0).1
  have hs1 := (Array.getElem?_eq_some_iff.1 hbx1).1
  have hgl1 : gl < w1.heap.size := by omega
  have hg1 : g < w1.heap.size := by omega
  go_region
  have hB2 : Below w.heap.size w (w1.alloc (Obj.cells #[.int .i64 x.k, .int .i64 x.n, .string x.s, .int .i64 x.a, .int .i64 x.b] 34)).drew := (hB0.alloc hB0.size _).drew
  have hbx2 := heap_alloc_new w1 (Obj.cells #[.int .i64 x.k, .int .i64 x.n, .string x.s, .int .i64 x.a, .int .i64 x.b] 34)
  have hr2 := (heap_alloc_old w1 (Obj.cells #[.int .i64 x.k, .int .i64 x.n, .string x.s, .int .i64 x.a, .int .i64 x.b] 34) hs1).trans hbx1
  have hp2 := (heap_alloc_old w1 (Obj.cells #[.int .i64 x.k, .int .i64 x.n, .string x.s, .int .i64 x.a, .int .i64 x.b] 34) hs0).trans hbx0
  replace hbx2 : (w1.alloc (Obj.cells #[.int .i64 x.k, .int .i64 x.n, .string x.s, .int .i64 x.a, .int .i64 x.b] 34)).drew.heap[w1.heap.size]? = _ := hbx2
  replace hr2 : (w1.alloc (Obj.cells #[.int .i64 x.k, .int .i64 x.n, .string x.s, .int .i64 x.a, .int .i64 x.b] 34)).drew.heap[w.heap.size + 1]? = _ := hr2
  replace hp2 : (w1.alloc (Obj.cells #[.int .i64 x.k, .int .i64 x.n, .string x.s, .int .i64 x.a, .int .i64 x.b] 34)).drew.heap[w.heap.size]? = _ := hp2
  clear hc0 hp0 d0 d1 d2 d3 d4 hbx0 hbx1
  generalize (w1.alloc (Obj.cells #[.int .i64 x.k, .int .i64 x.n, .string x.s, .int .i64 x.a, .int .i64 x.b] 34)).drew = w2 at *
  have R2 := R.below hB2
  have L2 := L.below hB2
  have hc0 := (hB2.cell (p := ⟨gl, ol, none⟩) hgl).trans c0
  have hp0 : w2.cell? ⟨w.heap.size, 0, none⟩ = some (.slice (some ⟨g, o, none⟩) xs.length cap) := by rw [cell_of_row w2 _ 0 _ _ _ hp2]; rfl
  have hsr := (Array.getElem?_eq_some_iff.1 hr2).1
  have k0 : w2.cell? ⟨w1.heap.size, 0, none⟩ = some (.int .i64 x.k) := by rw [cell_of_row w2 _ 0 _ _ _ hbx2]; rfl
  have k1 : w2.cell? ⟨w1.heap.size, 1, none⟩ = some (.int .i64 x.n) := by rw [cell_of_row w2 _ 1 _ _ _ hbx2]; rfl
  have k2 : w2.cell? ⟨w1.heap.size, 2, none⟩ = some (.string x.s) := by rw [cell_of_row w2 _ 2 _ _ _ hbx2]; rfl
  have k3 : w2.cell? ⟨w1.heap.size, 3, none⟩ = some (.int .i64 x.a) := by rw [cell_of_row w2 _ 3 _ _ _ hbx2]; rfl
  have k4 : w2.cell? ⟨w1.heap.size, 4, none⟩ = some (.int .i64 x.b) := by rw [cell_of_row w2 _ 4 _ _ _ hbx2]; rfl
  clear hnode hcl hall
  have hxp := poolB_at hp hx
  clear ha hl hm hz R L hx L2 hn0 R2 hp
  rcases hn with rfl | rfl | rfl | rfl | rfl
  · have HR : Hid (innerOc xs 7 zs = partOc 7 x) := by
      unfold Hid innerOc
      rw [HX.out]
      simp
    go_wp2_with (refine wpList_load_row rfl 34 _ rfl w1.heap.size rfl 34 #[.int .i64 x.k, .int .i64 x.n, .string x.s, .int .i64 x.a, .int .i64 x.b] (0, 0) _ hbx2 Try.underlying34 rfl Try.sizeNd ?_)
    refine (ipartout_any 7 x _).mono ?_
    rintro e w3 ⟨rfl, hb3⟩
    have hr3 := (hb3.block _ hsr).trans hr2
    go_wp2_with (refine wpList_store_own rfl 61 _ _ rfl (w.heap.size + 1) (partOc 7 x).cs rfl rfl 61 _ hr3 Try.sizeOc rfl (Oc.one _) ?_)
    intro w4 hh4 hb4 hs4
    have hB4 : Below w.heap.size w w4 := (hB2.trans (hb3.mono hB2.size)).trans (hb4.mono (by omega))
    go_wp2
    exact bodyPost_ret (results_cell_row rfl _ _ (w.heap.size + 1) 61 _ (0, 0) _ rfl hh4 Try.underlying61 rfl Try.sizeOc) rfl ⟨by rw [HR.out], hB4⟩
  · have HR : Hid (innerOc xs 8 zs = partOc 8 x) := by
      unfold Hid innerOc
      rw [HX.out]
      simp
    go_wp2_with (refine wpList_load_row rfl 34 _ rfl w1.heap.size rfl 34 #[.int .i64 x.k, .int .i64 x.n, .string x.s, .int .i64 x.a, .int .i64 x.b] (0, 0) _ hbx2 Try.underlying34 rfl Try.sizeNd ?_)
    refine (ipartout_any 8 x _).mono ?_
    rintro e w3 ⟨rfl, hb3⟩
    have hr3 := (hb3.block _ hsr).trans hr2
    go_wp2_with (refine wpList_store_own rfl 61 _ _ rfl (w.heap.size + 1) (partOc 8 x).cs rfl rfl 61 _ hr3 Try.sizeOc rfl (Oc.one _) ?_)
    intro w4 hh4 hb4 hs4
    have hB4 : Below w.heap.size w w4 := (hB2.trans (hb3.mono hB2.size)).trans (hb4.mono (by omega))
    go_wp2
    exact bodyPost_ret (results_cell_row rfl _ _ (w.heap.size + 1) 61 _ (0, 0) _ rfl hh4 Try.underlying61 rfl Try.sizeOc) rfl ⟨by rw [HR.out], hB4⟩
  · have HR : Hid (innerOc xs 9 zs = ocMade (boolNd (decide (x.k = 1)))) := by
      unfold Hid innerOc
      rw [HX.out]
      simp
    go_wp2_with fail
    refine (imadebool_any (decide (x.k = 1)) _).mono ?_
    rintro e w3 ⟨rfl, hb3⟩
    have hr3 := (hb3.block _ hsr).trans hr2
    go_wp2_with (refine wpList_store_own rfl 61 _ _ rfl (w.heap.size + 1) (ocMade (boolNd (decide (x.k = 1)))).cs rfl rfl 61 _ hr3 Try.sizeOc rfl (Oc.one _) ?_)
    intro w4 hh4 hb4 hs4
    have hB4 : Below w.heap.size w w4 := (hB2.trans (hb3.mono hB2.size)).trans (hb4.mono (by omega))
    go_wp2
    exact bodyPost_ret (results_cell_row rfl _ _ (w.heap.size + 1) 61 _ (0, 0) _ rfl hh4 Try.underlying61 rfl Try.sizeOc) rfl ⟨by rw [HR.out], hB4⟩
  · have HR : Hid (innerOc xs 10 zs = ocMade (boolNd (decide (x.k = 5)))) := by
      unfold Hid innerOc
      rw [HX.out]
      simp
    go_wp2_with fail
    refine (imadebool_any (decide (x.k = 5)) _).mono ?_
    rintro e w3 ⟨rfl, hb3⟩
    have hr3 := (hb3.block _ hsr).trans hr2
    go_wp2_with (refine wpList_store_own rfl 61 _ _ rfl (w.heap.size + 1) (ocMade (boolNd (decide (x.k = 5)))).cs rfl rfl 61 _ hr3 Try.sizeOc rfl (Oc.one _) ?_)
    intro w4 hh4 hb4 hs4
    have hB4 : Below w.heap.size w w4 := (hB2.trans (hb3.mono hB2.size)).trans (hb4.mono (by omega))
    go_wp2
    exact bodyPost_ret (results_cell_row rfl _ _ (w.heap.size + 1) 61 _ (0, 0) _ rfl hh4 Try.underlying61 rfl Try.sizeOc) rfl ⟨by rw [HR.out], hB4⟩
  · obtain ⟨xk, xn, xs', xa, xb⟩ := x
    have HR0 : Hid (innerOc xs 12 zs = ocMade (boolNd (decide (xk = 2) && decide (xn = 0)))) := by
      unfold Hid innerOc
      rw [HX.out]
      simp
    clear HX
    dsimp only at hbx2 k0 k1 k2 k3 k4
    by_cases hk : xk = 2
    · subst hk
      simp only [nodeB, nameFB, partB, hasS, hasA, hasB, Bool.and_eq_true] at hxp
      have hs0' : xs' = ⟨#[]⟩ := by
        have : xs'.toList = [] := by simpa using hxp.2.1.1
        exact ByteArray.ext (Array.ext' (by rw [← ByteArray.toList_eq]; exact this))
      have ha0' : xa = 0 := by simpa using hxp.2.1.2
      have hb0' : xb = 0 := by simpa using hxp.2.2
      subst hs0' ha0' hb0'
      clear hxp
      by_cases hn : xn = 0
      · subst hn
        have HR : Hid (innerOc xs 12 zs = ocMade (boolNd true)) := HR0
        go_wp2_with (refine wpList_load_row rfl 34 _ rfl w1.heap.size rfl 34 #[.int .i64 2, .int .i64 0, .string ⟨#[]⟩, .int .i64 0, .int .i64 0] (0, 0) _ hbx2 Try.underlying34 rfl Try.sizeNd ?_)
        refine (imadebool_any true _).mono ?_
        rintro e w3 ⟨rfl, hb3⟩
        have hr3 := (hb3.block _ hsr).trans hr2
        go_wp2_with (refine wpList_store_own rfl 61 _ _ rfl (w.heap.size + 1) (ocMade (boolNd true)).cs rfl rfl 61 _ hr3 Try.sizeOc rfl (Oc.one _) ?_)
        intro w4 hh4 hb4 hs4
        have hB4 : Below w.heap.size w w4 := (hB2.trans (hb3.mono hB2.size)).trans (hb4.mono (by omega))
        go_wp2
        exact bodyPost_ret (results_cell_row rfl _ _ (w.heap.size + 1) 61 _ (0, 0) _ rfl hh4 Try.underlying61 rfl Try.sizeOc) rfl ⟨by rw [HR.out], hB4⟩
      · have HR : Hid (innerOc xs 12 zs = ocMade (boolNd false)) := by unfold Hid; rw [HR0.out]; simp [hn]
        have q1 : (xn == 0) = false := by simp [hn]
        have q2 : decide (xn = 0) = false := by simp [hn]
        go_wp2_with (refine wpList_load_row rfl 34 _ rfl w1.heap.size rfl 34 #[.int .i64 2, .int .i64 xn, .string ⟨#[]⟩, .int .i64 0, .int .i64 0] (0, 0) _ hbx2 Try.underlying34 rfl Try.sizeNd ?_)
        refine (imadebool_any false _).mono ?_
        rintro e w3 ⟨rfl, hb3⟩
        have hr3 := (hb3.block _ hsr).trans hr2
        go_wp2_with (refine wpList_store_own rfl 61 _ _ rfl (w.heap.size + 1) (ocMade (boolNd false)).cs rfl rfl 61 _ hr3 Try.sizeOc rfl (Oc.one _) ?_)
        intro w4 hh4 hb4 hs4
        have hB4 : Below w.heap.size w w4 := (hB2.trans (hb3.mono hB2.size)).trans (hb4.mono (by omega))
        go_wp2
        exact bodyPost_ret (results_cell_row rfl _ _ (w.heap.size + 1) 61 _ (0, 0) _ rfl hh4 Try.underlying61 rfl Try.sizeOc) rfl ⟨by rw [HR.out], hB4⟩
    · have HR : Hid (innerOc xs 12 zs = ocMade (boolNd false)) := by unfold Hid; rw [HR0.out]; simp [hk]
      have q1 : (xk == 2) = false := by simp [hk]
      have q2 : decide (xk = 2) = false := by simp [hk]
      clear hxp
      go_wp2_with (refine wpList_load_row rfl 34 _ rfl w1.heap.size rfl 34 #[.int .i64 xk, .int .i64 xn, .string xs', .int .i64 xa, .int .i64 xb] (0, 0) _ hbx2 Try.underlying34 rfl Try.sizeNd ?_)
      refine (imadebool_any false _).mono ?_
      rintro e w3 ⟨rfl, hb3⟩
      have hr3 := (hb3.block _ hsr).trans hr2
      go_wp2_with (refine wpList_store_own rfl 61 _ _ rfl (w.heap.size + 1) (ocMade (boolNd false)).cs rfl rfl 61 _ hr3 Try.sizeOc rfl (Oc.one _) ?_)
      intro w4 hh4 hb4 hs4
      have hB4 : Below w.heap.size w w4 := (hB2.trans (hb3.mono hB2.size)).trans (hb4.mono (by omega))
      go_wp2
      exact bodyPost_ret (results_cell_row rfl _ _ (w.heap.size + 1) 61 _ (0, 0) _ rfl hh4 Try.underlying61 rfl Try.sizeOc) rfl ⟨by rw [HR.out], hB4⟩
end Go.Proofs.Ytjigbjnahndpiaa
