/-
  Texts that stood by themselves, laid into one.
-/
import Derived.Test.YtjigbjnahndpiaaS5xM
import Derived.Test.YtjigbjnahndpiaaSAddM
import Derived.Test.YtjigbjnahndpiaaOc3a1M
import Derived.Test.YtjigbjnahndpiaaBackM
import Derived.Deep.RegionWith
/-
  What values come to, on the specification's side: l5Do, one value. Conditions: a right pool that the caller owns, as many nodes of it as are taken.
-/
namespace Go.Proofs.Ytjigbjnahndpiaa
open Go.RowKit

set_option maxRecDepth 100000 in
set_option maxHeartbeats 32000000 in
theorem s5do_one (b base : Nat) (ao : Option Addr) (cap : Nat) (vl : Value) (xs : List Nd) (zs : List Int) (n : Int) (w : World) (hbk : w.heap[b]? = some (.cells #[.slice ao xs.length cap] 26 (0, 0))) (ho : w.ownsRow base 34 5 (.slice ao xs.length cap) xs.length (ncs xs)) (hbb : base ≤ b)
    (hz : ∀ x ∈ xs, x.s.size ≤ maxLen) (L : IRow w vl zs) (hp : poolB xs = true) (ha : allI xs zs = true) (hn : n = 7 ∨ n = 8 ∨ n = 9 ∨ n = 10 ∨ n = 12) (hl : (zs.length : Int) = primArgsR n) :
    Calls Try.prog 37 #[.pointer (some ⟨b, 0, none⟩), .int .i64 n, vl] w fun e w' => S5Ans b base xs (innerOc xs n zs) w e w' := by
  have hlen : xs.length ≤ 3000 := by simp only [poolB, Bool.and_eq_true, decide_eq_true_eq] at hp; exact hp.1
  have R := NRow.of_own ho (by omega) hz
  have R' := R
  obtain ⟨ao', cap', e', hcap, hm, _, hcell⟩ := R'
  simp only [Value.slice.injEq, true_and] at e'
  obtain ⟨rfl, rfl⟩ := e'
  obtain ⟨al, capl, rfl, hcapl, hml, hcelll⟩ := L
  have hz2 : zs.length = 1 := by
    rcases hn with rfl | rfl | rfl | rfl | rfl <;> (simp [primArgsR, prims] at hl; omega)
  obtain ⟨gl, ol, rfl, hgl, hcl⟩ := hcelll (by intro e; subst e; simp at hz2)
  have hall : ∀ i, i < zs.length → hasI xs (zs.getD i 0) = true := fun i hi => by
    unfold allI at ha
    rw [List.all_eq_true] at ha
    exact ha _ (by rw [List.getD_eq_getElem?_getD, List.getElem?_eq_getElem hi]; exact List.getElem_mem hi)
  have hA0' := hall 0 (by omega)
  have c0 := hcl 0 (by omega)
  simp only [hasI, Bool.and_eq_true, decide_eq_true_eq] at hA0'
  obtain ⟨a0, e0⟩ : ∃ a0 : Nat, zs.getD 0 0 = a0 := ⟨(zs.getD 0 0).toNat, by omega⟩
  rw [e0] at hA0' c0
  rw [Nat.add_zero] at c0
  have hlt0 : a0 < xs.length := by omega
  obtain ⟨g, o, rfl, hg, hnode⟩ := hcell (by intro e; subst e; simp at hlt0)
  obtain ⟨x, hx⟩ : ∃ x, xs[a0]? = some x := ⟨xs[a0], by simp [hlt0]⟩
  have hn0 := hnode a0 x hx
  have hlb := (Array.getElem?_eq_some_iff.1 hbk).1
  have hpb : w.cell? ⟨b, 0, none⟩ = some (.slice (some ⟨g, o, none⟩) xs.length cap) := by rw [cell_of_row w _ 0 _ _ _ hbk]; rfl
  have hBx : Below w.heap.size w (w.alloc (Obj.cells #[.int .i64 x.k, .int .i64 x.n, .string x.s, .int .i64 x.a, .int .i64 x.b] 34)).drew := ((Below.refl _ _).alloc (Nat.le_refl _) _).drew
  have hbx := heap_alloc_new w (Obj.cells #[.int .i64 x.k, .int .i64 x.n, .string x.s, .int .i64 x.a, .int .i64 x.b] 34)
  replace hbx : (w.alloc (Obj.cells #[.int .i64 x.k, .int .i64 x.n, .string x.s, .int .i64 x.a, .int .i64 x.b] 34)).drew.heap[w.heap.size]? = _ := hbx
  obtain ⟨d0, d1, d2, d3, d4⟩ := hn0
  have c0x := c0
  clear hcell hcelll hall hcl hnode
  go_enter Try.func37, Try.ntmps37
  go_wp2_with fail
  go_region
  generalize (w.alloc (Obj.cells #[.int .i64 x.k, .int .i64 x.n, .string x.s, .int .i64 x.a, .int .i64 x.b] 34)).drew = w2 at *
  have hb2 := (hBx.block _ hlb).trans hbk
  have ho2 := own_below ho hBx
  have hp2 := (hBx.cell (p := ⟨b, 0, none⟩) hlb).trans hpb
  have k0 : w2.cell? ⟨w.heap.size, 0, none⟩ = some (.int .i64 x.k) := by rw [cell_of_row w2 _ 0 _ _ _ hbx]; rfl
  have k1 : w2.cell? ⟨w.heap.size, 1, none⟩ = some (.int .i64 x.n) := by rw [cell_of_row w2 _ 1 _ _ _ hbx]; rfl
  have k2 : w2.cell? ⟨w.heap.size, 2, none⟩ = some (.string x.s) := by rw [cell_of_row w2 _ 2 _ _ _ hbx]; rfl
  have k3 : w2.cell? ⟨w.heap.size, 3, none⟩ = some (.int .i64 x.a) := by rw [cell_of_row w2 _ 3 _ _ _ hbx]; rfl
  have k4 : w2.cell? ⟨w.heap.size, 4, none⟩ = some (.int .i64 x.b) := by rw [cell_of_row w2 _ 4 _ _ _ hbx]; rfl
  clear d0 d1 d2 d3 d4 hpb c0
  have hBb : Below base w w2 := hBx.mono (by omega)
  have hxp := poolB_at hp hx
  have HX : Hid (xs.getD (zs.getD 0 0).toNat z0 = x) := by unfold Hid; rw [e0, List.getD_eq_getElem?_getD]; simp [hx]
  rcases hn with rfl | rfl | rfl | rfl | rfl
  · have HR : Hid (innerOc xs 7 zs = partOc 7 x) := by
      unfold Hid innerOc
      rw [HX.out]
      simp
    by_cases hk : x.k = 5
    · have hpos := nodeB_A hxp (by simp [hasA, hk])
      replace HR : Hid (innerOc xs 7 zs = ocThere x.a) := by unfold Hid; rw [HR.out]; simp [partOc, hk]
      go_wp2
      refine bodyPost_ret (results_tmp2 rfl _ _ _) rfl ?_
      rw [HR.out]
      exact S5Ans.same (V := x.a) (H := 0) (fun h => by have h2 : x.a = -1 := h.2; omega) rfl rfl hb2 ho2 hBb
    · replace HR : Hid (innerOc xs 7 zs = ocOf 3) := by unfold Hid; rw [HR.out]; simp [partOc, hk]
      have g1 : (x.k == 5) = false := by simp [hk]
      have g2 : decide (x.k = 5) = false := by simp [hk]
      go_wp2
      refine bodyPost_ret (results_tmp2 rfl _ _ _) rfl ?_
      rw [HR.out]
      exact S5Ans.same (V := -1) (H := 3) (fun h => by have h2 : (3 : Int) = 0 := h.1; omega) rfl rfl hb2 ho2 hBb
  · have HR : Hid (innerOc xs 8 zs = partOc 8 x) := by
      unfold Hid innerOc
      rw [HX.out]
      simp
    by_cases hk : x.k = 5
    · have hpos := nodeB_B hxp (by simp [hasB, hk])
      replace HR : Hid (innerOc xs 8 zs = ocThere x.b) := by unfold Hid; rw [HR.out]; simp [partOc, hk]
      go_wp2
      refine bodyPost_ret (results_tmp2 rfl _ _ _) rfl ?_
      rw [HR.out]
      exact S5Ans.same (V := x.b) (H := 0) (fun h => by have h2 : x.b = -1 := h.2; omega) rfl rfl hb2 ho2 hBb
    · replace HR : Hid (innerOc xs 8 zs = ocOf 3) := by unfold Hid; rw [HR.out]; simp [partOc, hk]
      have g1 : (x.k == 5) = false := by simp [hk]
      have g2 : decide (x.k = 5) = false := by simp [hk]
      go_wp2
      refine bodyPost_ret (results_tmp2 rfl _ _ _) rfl ?_
      rw [HR.out]
      exact S5Ans.same (V := -1) (H := 3) (fun h => by have h2 : (3 : Int) = 0 := h.1; omega) rfl rfl hb2 ho2 hBb
  · have HR : Hid (innerOc xs 9 zs = ocMade (boolNd (decide (x.k = 1)))) := by
      unfold Hid innerOc
      rw [HX.out]
      simp
    go_wp2_with fail
    refine (s5bool_any (decide (x.k = 1)) _).mono ?_
    rintro e w5 ⟨rfl, hb5⟩
    generalize boolNd (decide (x.k = 1)) = nb at HR ⊢
    simp only [Nd.ca]
    go_wp2_with fail
    refine (sadd_any b base _ cap xs nb _ ((hb5.block _ (by have := hBx.size; omega)).trans hb2) (own_below ho2 hb5) (by omega) hbb).mono ?_
    rintro e w6 ⟨v6, rfl, hb6, ho6, hB6⟩
    go_wp2
    refine bodyPost_ret (results_tmp2 rfl _ _ _) rfl ?_
    rw [HR.out]
    exact S5Ans.more (oc := ocMade nb) (V := xs.length) (H := 0) rfl rfl rfl rfl hb6 ho6 ((hBb.trans (hb5.mono (by have := hBx.size; omega))).trans hB6)
  · have HR : Hid (innerOc xs 10 zs = ocMade (boolNd (decide (x.k = 5)))) := by
      unfold Hid innerOc
      rw [HX.out]
      simp
    go_wp2_with fail
    refine (s5bool_any (decide (x.k = 5)) _).mono ?_
    rintro e w5 ⟨rfl, hb5⟩
    generalize boolNd (decide (x.k = 5)) = nb at HR ⊢
    simp only [Nd.ca]
    go_wp2_with fail
    refine (sadd_any b base _ cap xs nb _ ((hb5.block _ (by have := hBx.size; omega)).trans hb2) (own_below ho2 hb5) (by omega) hbb).mono ?_
    rintro e w6 ⟨v6, rfl, hb6, ho6, hB6⟩
    go_wp2
    refine bodyPost_ret (results_tmp2 rfl _ _ _) rfl ?_
    rw [HR.out]
    exact S5Ans.more (oc := ocMade nb) (V := xs.length) (H := 0) rfl rfl rfl rfl hb6 ho6 ((hBb.trans (hb5.mono (by have := hBx.size; omega))).trans hB6)
  · have HR : Hid (innerOc xs 12 zs = ocMade (boolNd (decide (x.k = 2) && decide (x.n = 0)))) := by
      unfold Hid innerOc
      rw [HX.out]
      simp
    by_cases hk : x.k = 2
    · rw [hk] at k0
      replace HR : Hid (innerOc xs 12 zs = ocMade (boolNd (decide (x.n = 0)))) := by unfold Hid; rw [HR.out, hk]; simp
      go_wp2_with fail
      refine (s5bool_any (decide (x.n = 0)) _).mono ?_
      rintro e w5 ⟨rfl, hb5⟩
      generalize boolNd (decide (x.n = 0)) = nb at HR ⊢
      simp only [Nd.ca]
      go_wp2_with fail
      refine (sadd_any b base _ cap xs nb _ ((hb5.block _ (by have := hBx.size; omega)).trans hb2) (own_below ho2 hb5) (by omega) hbb).mono ?_
      rintro e w6 ⟨v6, rfl, hb6, ho6, hB6⟩
      go_wp2
      refine bodyPost_ret (results_tmp2 rfl _ _ _) rfl ?_
      rw [HR.out]
      exact S5Ans.more (oc := ocMade nb) (V := xs.length) (H := 0) rfl rfl rfl rfl hb6 ho6 ((hBb.trans (hb5.mono (by have := hBx.size; omega))).trans hB6)
    · replace HR : Hid (innerOc xs 12 zs = ocMade (boolNd false)) := by unfold Hid; rw [HR.out]; simp [hk]
      have g1 : (x.k == 2) = false := by simp [hk]
      have g2 : decide (x.k = 2) = false := by simp [hk]
      go_wp2_with fail
      refine (s5bool_any false _).mono ?_
      rintro e w5 ⟨rfl, hb5⟩
      generalize boolNd false = nb at HR ⊢
      simp only [Nd.ca]
      go_wp2_with fail
      refine (sadd_any b base _ cap xs nb _ ((hb5.block _ (by have := hBx.size; omega)).trans hb2) (own_below ho2 hb5) (by omega) hbb).mono ?_
      rintro e w6 ⟨v6, rfl, hb6, ho6, hB6⟩
      go_wp2
      refine bodyPost_ret (results_tmp2 rfl _ _ _) rfl ?_
      rw [HR.out]
      exact S5Ans.more (oc := ocMade nb) (V := xs.length) (H := 0) rfl rfl rfl rfl hb6 ho6 ((hBb.trans (hb5.mono (by have := hBx.size; omega))).trans hB6)
end Go.Proofs.Ytjigbjnahndpiaa

/-
  Contract of spec's l2List: a list behind the pool that a pointer leads to.
-/
namespace Go.Proofs.Ytjigbjnahndpiaa
open Go.RowKit

end Go.Proofs.Ytjigbjnahndpiaa

/-
  Contract of spec.MakeList.
-/
namespace Go.Proofs.Ytjigbjnahndpiaa
open Go.RowKit

end Go.Proofs.Ytjigbjnahndpiaa
