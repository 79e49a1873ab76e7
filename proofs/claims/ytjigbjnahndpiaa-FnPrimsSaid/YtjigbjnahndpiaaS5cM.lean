/-
  Texts that stood by themselves, laid into one.
-/
import Derived.Test.YtjigbjnahndpiaaS5xM
import Derived.Test.YtjigbjnahndpiaaPrimM
/-
  What values come to, on the specification's side: l5Do of the first five. Conditions: a right pool that the caller owns, as many nodes of it as are taken.
-/
namespace Go.Proofs.Ytjigbjnahndpiaa
open Go.RowKit

set_option maxRecDepth 100000 in
set_option maxHeartbeats 32000000 in
theorem s5do_num (b base : Nat) (ao : Option Addr) (cap : Nat) (vl : Value) (xs : List Nd) (zs : List Int) (n : Int) (w : World) (hbk : w.heap[b]? = some (.cells #[.slice ao xs.length cap] 26 (0, 0))) (ho : w.ownsRow base 34 5 (.slice ao xs.length cap) xs.length (ncs xs)) (hbb : base ≤ b)
    (hz : ∀ x ∈ xs, x.s.size ≤ maxLen) (L : IRow w vl zs) (hp : poolB xs = true) (ha : allI xs zs = true) (h1 : 1 ≤ n) (h2 : n ≤ 5) (hl : (zs.length : Int) = primArgsR n) :
    Calls Try.prog 37 #[.pointer (some ⟨b, 0, none⟩), .int .i64 n, vl] w fun e w' => S5Ans b base xs (innerOc xs n zs) w e w' := by
  have hlen : xs.length ≤ 3000 := by simp only [poolB, Bool.and_eq_true, decide_eq_true_eq] at hp; exact hp.1
  have R := NRow.of_own ho (by omega) hz
  have R' := R
  obtain ⟨ao', cap', e', hcap, hm, _, hcell⟩ := R'
  simp only [Value.slice.injEq, true_and] at e'
  obtain ⟨rfl, rfl⟩ := e'
  obtain ⟨al, capl, rfl, hcapl, hml, hcelll⟩ := L
  have hz2 : zs.length = 2 := by
    have : n = 1 ∨ n = 2 ∨ n = 3 ∨ n = 4 ∨ n = 5 := by omega
    rcases this with rfl | rfl | rfl | rfl | rfl <;> (simp [primArgsR, prims] at hl; omega)
  obtain ⟨gl, ol, rfl, hgl, hcl⟩ := hcelll (by intro e; subst e; simp at hz2)
  have hall : ∀ i, i < zs.length → hasI xs (zs.getD i 0) = true := fun i hi => by
    unfold allI at ha
    rw [List.all_eq_true] at ha
    exact ha _ (by rw [List.getD_eq_getElem?_getD, List.getElem?_eq_getElem hi]; exact List.getElem_mem hi)
  have hA0' := hall 0 (by omega)
  have hA1' := hall 1 (by omega)
  have c0 := hcl 0 (by omega)
  have c1 := hcl 1 (by omega)
  simp only [hasI, Bool.and_eq_true, decide_eq_true_eq] at hA0' hA1'
  obtain ⟨a0, e0⟩ : ∃ a0 : Nat, zs.getD 0 0 = a0 := ⟨(zs.getD 0 0).toNat, by omega⟩
  obtain ⟨a1, e1⟩ : ∃ a1 : Nat, zs.getD 1 0 = a1 := ⟨(zs.getD 1 0).toNat, by omega⟩
  rw [e0] at hA0' c0
  rw [e1] at hA1' c1
  rw [Nat.add_zero] at c0
  have hlt0 : a0 < xs.length := by omega
  have hlt1 : a1 < xs.length := by omega
  obtain ⟨g, o, rfl, hg, hnode⟩ := hcell (by intro e; subst e; simp at hlt0)
  obtain ⟨x, hx⟩ : ∃ x, xs[a0]? = some x := ⟨xs[a0], by simp [hlt0]⟩
  obtain ⟨y, hy⟩ : ∃ y, xs[a1]? = some y := ⟨xs[a1], by simp [hlt1]⟩
  have hxn := nodeB_N (poolB_at hp hx)
  have hyn := nodeB_N (poolB_at hp hy)
  have hn0 := hnode a0 x hx
  have hn1 := hnode a1 y hy
  have HR : Hid (innerOc xs n zs = numOc n x y) := by
    unfold Hid innerOc
    rw [if_pos h2, e0, e1, List.getD_eq_getElem?_getD, List.getD_eq_getElem?_getD]
    simp [hx, hy]
  have hlb := (Array.getElem?_eq_some_iff.1 hbk).1
  have hpb : w.cell? ⟨b, 0, none⟩ = some (.slice (some ⟨g, o, none⟩) xs.length cap) := by rw [cell_of_row w _ 0 _ _ _ hbk]; rfl
  have hBx : Below w.heap.size w (w.alloc (Obj.cells #[.int .i64 x.k, .int .i64 x.n, .string x.s, .int .i64 x.a, .int .i64 x.b] 34)).drew := ((Below.refl _ _).alloc (Nat.le_refl _) _).drew
  have hbx := heap_alloc_new w (Obj.cells #[.int .i64 x.k, .int .i64 x.n, .string x.s, .int .i64 x.a, .int .i64 x.b] 34)
  replace hbx : (w.alloc (Obj.cells #[.int .i64 x.k, .int .i64 x.n, .string x.s, .int .i64 x.a, .int .i64 x.b] 34)).drew.heap[w.heap.size]? = _ := hbx
  obtain ⟨d0, d1, d2, d3, d4⟩ := hn0
  clear hcell hcelll hall hcl hnode
  go_enter Try.func37, Try.ntmps37
  go_wp2_with fail
  go_region
  generalize (w.alloc (Obj.cells #[.int .i64 x.k, .int .i64 x.n, .string x.s, .int .i64 x.a, .int .i64 x.b] 34)).drew = w2 at *
  have hb2 := (hBx.block _ hlb).trans hbk
  have ho2 := own_below ho hBx
  have hp2 := (hBx.cell (p := ⟨b, 0, none⟩) hlb).trans hpb
  have k1' := (hBx.cell (p := ⟨gl, ol + 1, none⟩) hgl).trans c1
  obtain ⟨f0, f1, f2, f3, f4⟩ := hn1.below hBx hg
  have k0 : w2.cell? ⟨w.heap.size, 0, none⟩ = some (.int .i64 x.k) := by rw [cell_of_row w2 _ 0 _ _ _ hbx]; rfl
  have k1 : w2.cell? ⟨w.heap.size, 1, none⟩ = some (.int .i64 x.n) := by rw [cell_of_row w2 _ 1 _ _ _ hbx]; rfl
  have k2 : w2.cell? ⟨w.heap.size, 2, none⟩ = some (.string x.s) := by rw [cell_of_row w2 _ 2 _ _ _ hbx]; rfl
  have k3 : w2.cell? ⟨w.heap.size, 3, none⟩ = some (.int .i64 x.a) := by rw [cell_of_row w2 _ 3 _ _ _ hbx]; rfl
  have k4 : w2.cell? ⟨w.heap.size, 4, none⟩ = some (.int .i64 x.b) := by rw [cell_of_row w2 _ 4 _ _ _ hbx]; rfl
  clear d0 d1 d2 d3 d4 hpb c0 c1 hx hy hn1
  have q1' : b < w2.heap.size := by have := hBx.size; omega
  have q2' : gl < w2.heap.size := by have := hBx.size; omega
  have q3' : g < w2.heap.size := by have := hBx.size; omega
  have q4' : w.heap.size < w2.heap.size := (Array.getElem?_eq_some_iff.1 hbx).1
  have sS := (⟨hp2, k1', f0, f1, f2, f3, f4, k0, k1, k2, k3, k4⟩ : w2.cell? ⟨b, 0, none⟩ = some (.slice (some ⟨g, o, none⟩) xs.length cap) ∧ w2.cell? ⟨gl, ol + 1, none⟩ = some (.int .i64 a1) ∧ w2.cell? ⟨g, o + a1 * 5, none⟩ = some (.int .i64 y.k) ∧ w2.cell? ⟨g, o + a1 * 5 + 1, none⟩ = some (.int .i64 y.n) ∧ w2.cell? ⟨g, o + a1 * 5 + 2, none⟩ = some (.string y.s) ∧ w2.cell? ⟨g, o + a1 * 5 + 3, none⟩ = some (.int .i64 y.a) ∧ w2.cell? ⟨g, o + a1 * 5 + 4, none⟩ = some (.int .i64 y.b) ∧ w2.cell? ⟨w.heap.size, 0, none⟩ = some (.int .i64 x.k) ∧ w2.cell? ⟨w.heap.size, 1, none⟩ = some (.int .i64 x.n) ∧ w2.cell? ⟨w.heap.size, 2, none⟩ = some (.string x.s) ∧ w2.cell? ⟨w.heap.size, 3, none⟩ = some (.int .i64 x.a) ∧ w2.cell? ⟨w.heap.size, 4, none⟩ = some (.int .i64 x.b))
  go_wp2_with fail
  clear hp2 k1' f0 f1 f2 f3 f4 k0 k1 k2 k3 k4
  go_region_held (fun w' => w'.cell? ⟨b, 0, none⟩ = some (.slice (some ⟨g, o, none⟩) xs.length cap) ∧ w'.cell? ⟨gl, ol + 1, none⟩ = some (.int .i64 a1) ∧ w'.cell? ⟨g, o + a1 * 5, none⟩ = some (.int .i64 y.k) ∧ w'.cell? ⟨g, o + a1 * 5 + 1, none⟩ = some (.int .i64 y.n) ∧ w'.cell? ⟨g, o + a1 * 5 + 2, none⟩ = some (.string y.s) ∧ w'.cell? ⟨g, o + a1 * 5 + 3, none⟩ = some (.int .i64 y.a) ∧ w'.cell? ⟨g, o + a1 * 5 + 4, none⟩ = some (.int .i64 y.b) ∧ w'.cell? ⟨w.heap.size, 0, none⟩ = some (.int .i64 x.k) ∧ w'.cell? ⟨w.heap.size, 1, none⟩ = some (.int .i64 x.n) ∧ w'.cell? ⟨w.heap.size, 2, none⟩ = some (.string x.s) ∧ w'.cell? ⟨w.heap.size, 3, none⟩ = some (.int .i64 x.a) ∧ w'.cell? ⟨w.heap.size, 4, none⟩ = some (.int .i64 x.b)) (first | exact s6 | exact cells12 s6 (set5b (Nat.le_refl _) _ _ _ _ _) q1' q2' q3' q3' q3' q3' q3' q4' q4' q4' q4' q4' | go_keep) ((go_at_call 54; refine (s5num_any n x y _ h1 h2 hxn hyn).mono ?_; rintro e w3 ⟨rfl, hb3⟩; have ht := numOc_there n x y; generalize numOc n x y = oc at HR ht ⊢; simp only [Nd.ca]; (try (have q3 : w3.heap[w2.heap.size]? = some (.cells #[.int .i64 0, .int .i64 0, .string ⟨#[]⟩, .int .i64 0, .int .i64 0] 34 (0, 0)) := hb3.block _ (by simp) |>.trans (heap_alloc_new w2 _); obtain ⟨y0, y1, y2, y3, y4, z0', z1, z2, z3, z4⟩ := five q3)); have hb3' : Below w2.heap.size w2 w3 := (by first | exact (Below.refl _ _).drew.trans hb3 | exact ((Below.refl _ _).alloc (Nat.le_refl _) _).drew.trans (hb3.mono (by simp)) | exact ((Below.refl _ _).drew.alloc (Nat.le_refl _) _).trans (hb3.mono (by simp))); have s6 := cells12 sS hb3' q1' q2' q3' q3' q3' q3' q3' q4' q4' q4' q4' q4'))
  · have hq := heap_alloc_new w3 (Obj.cells #[.int .i64 oc.nd.k, .int .i64 oc.nd.n, .string oc.nd.s, .int .i64 oc.nd.a, .int .i64 oc.nd.b] 34)
    have hb5 : Below w2.heap.size w2 (w3.alloc (Obj.cells #[.int .i64 oc.nd.k, .int .i64 oc.nd.n, .string oc.nd.s, .int .i64 oc.nd.a, .int .i64 oc.nd.b] 34)) := hb3'.alloc hb3'.size _
    clear s6 sS
    generalize w3.alloc (Obj.cells #[.int .i64 oc.nd.k, .int .i64 oc.nd.n, .string oc.nd.s, .int .i64 oc.nd.a, .int .i64 oc.nd.b] 34) = w5 at *
    have hb5k := (hb5.block _ q1').trans hb2
    have ho5 := own_below ho2 hb5
    have hB5 : Below base w w5 := (hBx.trans (hb5.mono hBx.size)).mono (by omega)
    by_cases e1 : oc.how = 0
    · go_wp2_with (refine wpList_load_row rfl 34 _ rfl (w3.heap.size) rfl 34 #[.int .i64 oc.nd.k, .int .i64 oc.nd.n, .string oc.nd.s, .int .i64 oc.nd.a, .int .i64 oc.nd.b] (0, 0) _ hq Try.underlying34 rfl Try.sizeNd ?_)
      refine (sadd_any b base _ cap xs oc.nd _ hb5k ho5 (by omega) hbb).mono ?_
      rintro e w6 ⟨v6, rfl, hb6, ho6, hB6⟩
      go_wp2
      refine bodyPost_ret (results_tmp2 rfl _ _ _) rfl ?_
      rw [HR.out]
      exact S5Ans.more (V := xs.length) (H := 0) e1 (ht e1) rfl rfl hb6 ho6 (hB5.trans hB6)
    · have g1 : (oc.how == 0) = false := by simp [e1]
      have g2 : decide (oc.how = 0) = false := by simp [e1]
      go_wp2
      refine bodyPost_ret (results_tmp2 rfl _ _ _) rfl ?_
      rw [HR.out]
      exact S5Ans.same (V := -1) (H := oc.how) (fun h => e1 h.1) (by rw [if_neg e1]) rfl hb5k ho5 hB5
  · have hq := put5 q3 (.int .i64 oc.nd.k) (.int .i64 oc.nd.n) (.string oc.nd.s) (.int .i64 oc.nd.a) (.int .i64 oc.nd.b)
    have hb5 : Below w2.heap.size w2 ((((((w3.setCell ⟨w2.heap.size, 0, none⟩ (.int .i64 oc.nd.k)).setCell ⟨w2.heap.size, 1, none⟩ (.int .i64 oc.nd.n)).setCell ⟨w2.heap.size, 2, none⟩ (.string oc.nd.s)).setCell ⟨w2.heap.size, 3, none⟩ (.int .i64 oc.nd.a)).setCell ⟨w2.heap.size, 4, none⟩ (.int .i64 oc.nd.b))) := hb3'.trans (set5b (Nat.le_refl _) _ _ _ _ _)
    clear s6 sS y0 y1 y2 y3 y4 z0' z1 z2 z3 z4
    generalize ((((w3.setCell ⟨w2.heap.size, 0, none⟩ (.int .i64 oc.nd.k)).setCell ⟨w2.heap.size, 1, none⟩ (.int .i64 oc.nd.n)).setCell ⟨w2.heap.size, 2, none⟩ (.string oc.nd.s)).setCell ⟨w2.heap.size, 3, none⟩ (.int .i64 oc.nd.a)).setCell ⟨w2.heap.size, 4, none⟩ (.int .i64 oc.nd.b) = w5 at *
    have hb5k := (hb5.block _ q1').trans hb2
    have ho5 := own_below ho2 hb5
    have hB5 : Below base w w5 := (hBx.trans (hb5.mono hBx.size)).mono (by omega)
    by_cases e1 : oc.how = 0
    · go_wp2_with (refine wpList_load_row rfl 34 _ rfl (w2.heap.size) rfl 34 #[.int .i64 oc.nd.k, .int .i64 oc.nd.n, .string oc.nd.s, .int .i64 oc.nd.a, .int .i64 oc.nd.b] (0, 0) _ hq Try.underlying34 rfl Try.sizeNd ?_)
      refine (sadd_any b base _ cap xs oc.nd _ hb5k ho5 (by omega) hbb).mono ?_
      rintro e w6 ⟨v6, rfl, hb6, ho6, hB6⟩
      go_wp2
      refine bodyPost_ret (results_tmp2 rfl _ _ _) rfl ?_
      rw [HR.out]
      exact S5Ans.more (V := xs.length) (H := 0) e1 (ht e1) rfl rfl hb6 ho6 (hB5.trans hB6)
    · have g1 : (oc.how == 0) = false := by simp [e1]
      have g2 : decide (oc.how = 0) = false := by simp [e1]
      go_wp2
      refine bodyPost_ret (results_tmp2 rfl _ _ _) rfl ?_
      rw [HR.out]
      exact S5Ans.same (V := -1) (H := oc.how) (fun h => e1 h.1) (by rw [if_neg e1]) rfl hb5k ho5 hB5
end Go.Proofs.Ytjigbjnahndpiaa

/-
  What values come to, on the specification's side: l5Do, cons and eq?. Conditions: a right pool that the caller owns, as many nodes of it as are taken.
-/
namespace Go.Proofs.Ytjigbjnahndpiaa
open Go.RowKit

set_option maxRecDepth 100000 in
set_option maxHeartbeats 32000000 in
theorem s5do_two (b base : Nat) (ao : Option Addr) (cap : Nat) (vl : Value) (xs : List Nd) (zs : List Int) (n : Int) (w : World) (hbk : w.heap[b]? = some (.cells #[.slice ao xs.length cap] 26 (0, 0))) (ho : w.ownsRow base 34 5 (.slice ao xs.length cap) xs.length (ncs xs)) (hbb : base ≤ b)
    (hz : ∀ x ∈ xs, x.s.size ≤ maxLen) (L : IRow w vl zs) (hp : poolB xs = true) (ha : allI xs zs = true) (hn : n = 6 ∨ n = 11) (hl : (zs.length : Int) = primArgsR n) :
    Calls Try.prog 37 #[.pointer (some ⟨b, 0, none⟩), .int .i64 n, vl] w fun e w' => S5Ans b base xs (innerOc xs n zs) w e w' := by
  have hlen : xs.length ≤ 3000 := by simp only [poolB, Bool.and_eq_true, decide_eq_true_eq] at hp; exact hp.1
  have R := NRow.of_own ho (by omega) hz
  have R' := R
  obtain ⟨ao', cap', e', hcap, hm, _, hcell⟩ := R'
  simp only [Value.slice.injEq, true_and] at e'
  obtain ⟨rfl, rfl⟩ := e'
  obtain ⟨al, capl, rfl, hcapl, hml, hcelll⟩ := L
  have hz2 : zs.length = 2 := by
    rcases hn with rfl | rfl <;> (simp [primArgsR, prims] at hl; omega)
  obtain ⟨gl, ol, rfl, hgl, hcl⟩ := hcelll (by intro e; subst e; simp at hz2)
  have hall : ∀ i, i < zs.length → hasI xs (zs.getD i 0) = true := fun i hi => by
    unfold allI at ha
    rw [List.all_eq_true] at ha
    exact ha _ (by rw [List.getD_eq_getElem?_getD, List.getElem?_eq_getElem hi]; exact List.getElem_mem hi)
  have hA0' := hall 0 (by omega)
  have hA1' := hall 1 (by omega)
  have c0 := hcl 0 (by omega)
  have c1 := hcl 1 (by omega)
  simp only [hasI, Bool.and_eq_true, decide_eq_true_eq] at hA0' hA1'
  obtain ⟨a0, e0⟩ : ∃ a0 : Nat, zs.getD 0 0 = a0 := ⟨(zs.getD 0 0).toNat, by omega⟩
  obtain ⟨a1, e1⟩ : ∃ a1 : Nat, zs.getD 1 0 = a1 := ⟨(zs.getD 1 0).toNat, by omega⟩
  rw [e0] at hA0' c0
  rw [e1] at hA1' c1
  rw [Nat.add_zero] at c0
  have hlt0 : a0 < xs.length := by omega
  have hlt1 : a1 < xs.length := by omega
  obtain ⟨g, o, rfl, hg, hnode⟩ := hcell (by intro e; subst e; simp at hlt0)
  obtain ⟨x, hx⟩ : ∃ x, xs[a0]? = some x := ⟨xs[a0], by simp [hlt0]⟩
  obtain ⟨y, hy⟩ : ∃ y, xs[a1]? = some y := ⟨xs[a1], by simp [hlt1]⟩
  have hn0 := hnode a0 x hx
  have hn1 := hnode a1 y hy
  have hlb := (Array.getElem?_eq_some_iff.1 hbk).1
  have hpb : w.cell? ⟨b, 0, none⟩ = some (.slice (some ⟨g, o, none⟩) xs.length cap) := by rw [cell_of_row w _ 0 _ _ _ hbk]; rfl
  have hBx : Below w.heap.size w (w.alloc (Obj.cells #[.int .i64 x.k, .int .i64 x.n, .string x.s, .int .i64 x.a, .int .i64 x.b] 34)).drew := ((Below.refl _ _).alloc (Nat.le_refl _) _).drew
  have hbx := heap_alloc_new w (Obj.cells #[.int .i64 x.k, .int .i64 x.n, .string x.s, .int .i64 x.a, .int .i64 x.b] 34)
  replace hbx : (w.alloc (Obj.cells #[.int .i64 x.k, .int .i64 x.n, .string x.s, .int .i64 x.a, .int .i64 x.b] 34)).drew.heap[w.heap.size]? = _ := hbx
  obtain ⟨d0, d1, d2, d3, d4⟩ := hn0
  have c0x := c0
  clear hcell hcelll hall hcl hnode
  go_enter Try.func37, Try.ntmps37
  go_wp2_with fail
  go_region
  generalize (w.alloc (Obj.cells #[.int .i64 x.k, .int .i64 x.n, .string x.s, .int .i64 x.a, .int .i64 x.b] 34)).drew = w2 at *
  have hb2 := (hBx.block _ hlb).trans hbk
  have ho2 := own_below ho hBx
  have hp2 := (hBx.cell (p := ⟨b, 0, none⟩) hlb).trans hpb
  have k1' := (hBx.cell (p := ⟨gl, ol + 1, none⟩) hgl).trans c1
  obtain ⟨f0, f1, f2, f3, f4⟩ := hn1.below hBx hg
  have k0 : w2.cell? ⟨w.heap.size, 0, none⟩ = some (.int .i64 x.k) := by rw [cell_of_row w2 _ 0 _ _ _ hbx]; rfl
  have k1 : w2.cell? ⟨w.heap.size, 1, none⟩ = some (.int .i64 x.n) := by rw [cell_of_row w2 _ 1 _ _ _ hbx]; rfl
  have k2 : w2.cell? ⟨w.heap.size, 2, none⟩ = some (.string x.s) := by rw [cell_of_row w2 _ 2 _ _ _ hbx]; rfl
  have k3 : w2.cell? ⟨w.heap.size, 3, none⟩ = some (.int .i64 x.a) := by rw [cell_of_row w2 _ 3 _ _ _ hbx]; rfl
  have k4 : w2.cell? ⟨w.heap.size, 4, none⟩ = some (.int .i64 x.b) := by rw [cell_of_row w2 _ 4 _ _ _ hbx]; rfl
  clear d0 d1 d2 d3 d4 hpb c0 c1 hx hy hn1
  have k0' := (hBx.cell (p := ⟨gl, ol, none⟩) hgl).trans c0x
  have hBb : Below base w w2 := hBx.mono (by omega)
  have q1' : b < w2.heap.size := by have := hBx.size; omega
  rcases hn with rfl | rfl
  · have HR : Hid (innerOc xs 6 zs = ocMade ⟨5, 0, ByteArray.empty, a0, a1⟩) := by
      unfold Hid innerOc
      rw [e0, e1]
      simp
    go_wp2_with fail
    go_region_with (go_at_call 28; refine (sadd_any b base (some ⟨g, o, none⟩) cap xs ⟨5, 0, ByteArray.empty, a0, a1⟩ _ ?_ ?_ ?_ hbb).mono ?_; exact hb2; exact own_below ho2 (Below.refl _ _).drew; omega; rintro e w6 ⟨v6, rfl, hb6, ho6, hB6⟩)
    all_goals
      go_wp2
      refine bodyPost_ret (results_tmp2 rfl _ _ _) rfl ?_
      rw [HR.out]
      exact S5Ans.more (V := xs.length) (H := 0) rfl rfl rfl rfl hb6 ho6 (hBb.trans ((Below.refl base w2).drew.trans hB6))
  · have HR : Hid (innerOc xs 11 zs = ocMade (boolNd (likeR xs a0 a1))) := by
      unfold Hid innerOc
      rw [e0, e1]
      simp
    have HL : Hid (likeR xs a0 a1 = ((firstsTo xs xs.length).getD a0 0 == (firstsTo xs xs.length).getD a1 0)) := rfl
    have R2 := R.below hBx
    have F := sclasses_any (some ⟨g, o, none⟩) cap xs w2 R2 (fun k x hk => poolB_at hp hk) hlen
    have hfl := firstsTo_length xs xs.length (Nat.le_refl _)
    go_wp2_with fail
    refine F.mono ?_
    rintro e w4 ⟨v4, rfl, ho4, hb4⟩
    have hb4k := (hb4.block _ q1').trans hb2
    have ho4' := own_below ho2 hb4
    have m0 := (hb4.cell (p := ⟨gl, ol, none⟩) (show gl < w2.heap.size by have := hBx.size; omega)).trans k0'
    have m1 := (hb4.cell (p := ⟨gl, ol + 1, none⟩) (show gl < w2.heap.size by have := hBx.size; omega)).trans k1'
    rcases ho4.2 with ⟨rfl, h0⟩ | ⟨B, capB, cur, rfl, hBb4, _⟩
    · omega
    have ea := ho4.cellAt a0 (by omega)
    rw [iv_get _ _ (by omega)] at ea
    have eb := ho4.cellAt a1 (by omega)
    rw [iv_get _ _ (by omega)] at eb
    clear F ho4
    generalize (firstsTo xs xs.length).getD a0 0 = fa at ea HL
    generalize (firstsTo xs xs.length).getD a1 0 = fb at eb HL
    rw [HL.out] at HR
    clear HL k0 k1 k2 k3 k4 f0 f1 f2 f3 f4 k0' k1' hp2
    go_wp2_with fail
    go_region_with (first
      | (go_at_call 55; refine (s5bool_any _ _).mono ?_; rintro e w5 ⟨rfl, hb5⟩; generalize boolNd _ = nb at HR ⊢; simp only [Nd.ca]; have hb5' : Below w4.heap.size w4 w5 := (Below.refl _ _).drew.trans hb5)
      | (go_at_call 28; refine (sadd_any b base (some ⟨g, o, none⟩) cap xs nb _ ?_ ?_ ?_ hbb).mono ?_; exact (hb5'.block _ (Nat.lt_of_lt_of_le q1' hb4.size)).trans hb4k; exact own_below ho4' hb5'; omega; rintro e w6 ⟨v6, rfl, hb6, ho6, hB6⟩))
    all_goals
      have hB5 : Below base w w5 := hBb.trans ((hb4.mono (by have := hBx.size; omega)).trans (hb5'.mono (by have := hBx.size; have := hb4.size; omega)))
      go_wp2
      refine bodyPost_ret (results_tmp2 rfl _ _ _) rfl ?_
      rw [HR.out]
      exact S5Ans.more (oc := ocMade nb) (V := xs.length) (H := 0) rfl rfl rfl rfl hb6 ho6 (hB5.trans hB6)
end Go.Proofs.Ytjigbjnahndpiaa
