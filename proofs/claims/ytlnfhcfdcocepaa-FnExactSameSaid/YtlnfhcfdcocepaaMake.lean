/-
  Contracts of impl.Make and spec.Make: a node behind a pool, or the pool as it was.
-/
import Derived.Test.YtlnfhcfdcocepaaWith
namespace Go.Proofs.Ytlnfhcfdcocepaa
open Go.RowKit

/-- What Make leaves of the nodes xs and the node x, and the number that it tells. -/
def makeL (xs : List Nd) (x : Nd) : List Nd := if poolB xs = true then (if xs.length ≠ 3000 ∧ nodeB x xs.length = true then xs ++ [x] else xs) else []
def makeI (xs : List Nd) (x : Nd) : Int := if poolB xs = true then (if xs.length ≠ 3000 ∧ nodeB x xs.length = true then xs.length else -1) else -1

theorem NRow.nil0 (w : World) : NRow w (.slice none 0 0) [] := ⟨none, 0, rfl, by simp, by simp, by simp, fun h => absurd rfl h⟩
theorem own_lit1 (w : World) (x : Nd) (base : Nat) (hb : base ≤ w.heap.size) :
    (w.alloc (Obj.cells #[.int .i64 x.k, .int .i64 x.n, .string x.s, .int .i64 x.a, .int .i64 x.b] 28)).ownsRow base 28 5 (.slice (some ⟨w.heap.size, 0, none⟩) 1 1) 1 (ncs [x]) :=
  World.ownsRow_lit (e := 28) (size := 5) w #[.int .i64 x.k, .int .i64 x.n, .string x.s, .int .i64 x.a, .int .i64 x.b] 1 hb (by unfold maxLen; omega) rfl
theorem NRow.lit1 (w : World) (x : Nd) (hs : x.s.size ≤ maxLen) : NRow (w.alloc (Obj.cells #[.int .i64 x.k, .int .i64 x.n, .string x.s, .int .i64 x.a, .int .i64 x.b] 28)) (.slice (some ⟨w.heap.size, 0, none⟩) 1 1) [x] :=
  NRow.of_own (own_lit1 w x w.heap.size (Nat.le_refl _)) (by simp) (by simpa using hs)

/-- A slice of the call's own laid into the cell of a pool. -/
theorem put_pool {B base0 base1 n cap : Nat} {w0 w2 : World} {ao : Option Addr} {xs : List Value} (hy : w2.heap[B]? = some (.cells #[.slice none 0 0] 26 (0, 0))) (ho : w2.ownsRow base1 28 5 (.slice ao n cap) n xs)
    (hB : Below base0 w0 w2) (h1 : B < base1) (h2 : base0 ≤ B) :
    (w2.setCell ⟨B, 0, none⟩ (.slice ao n cap)).heap[B]? = some (.cells #[.slice ao n cap] 26 (0, 0)) ∧ (w2.setCell ⟨B, 0, none⟩ (.slice ao n cap)).ownsRow base0 28 5 (.slice ao n cap) n xs ∧ Below base0 w0 (w2.setCell ⟨B, 0, none⟩ (.slice ao n cap)) :=
  ⟨heap_setCell_same w2 B 0 _ _ _ hy, own_mono (ownsRow_setCell_below ho (a := ⟨B, 0, none⟩) h1 _) (by omega), hB.setCell (p := ⟨B, 0, none⟩) h2 _⟩

set_option maxHeartbeats 1600000 in
theorem imake_any (v : Value) (xs : List Nd) (x : Nd) (w : World) (R : NRow w v xs) (hs : x.s.size ≤ maxLen) :
    Calls Try.prog 7 #[.agg #[v], .agg #[.int .i64 x.k, .int .i64 x.n, .string x.s, .int .i64 x.a, .int .i64 x.b]] w fun e w' =>
      ∃ v', e = .returned (.tuple #[.agg #[v'], .int .i64 (makeI xs x)]) ∧ w'.ownsRow w.heap.size 28 5 v' (makeL xs x).length (ncs (makeL xs x)) ∧ Below w.heap.size w w' := by
  have R' := R
  obtain ⟨ao, cap, rfl, hcap, hm, hz, _⟩ := R'
  go_enter Try.func7, Try.ntmps7
  go_wp2_with fail
  have hB0 : Below w.heap.size w (((w.alloc (Obj.cells #[.slice ao xs.length cap] 26)).alloc (Obj.cells #[.int .i64 x.k, .int .i64 x.n, .string x.s, .int .i64 x.a, .int .i64 x.b] 28)).alloc (Obj.cells #[.slice none 0 0] 26)) := (((Below.refl _ _).alloc (Nat.le_refl _) _).alloc (by simp) _).alloc (by simp; omega) _
  refine (ipool_any _ xs _ (R.below hB0)).mono ?_
  rintro e w1 ⟨rfl, hb1⟩
  have hx1 : w1.heap[w.heap.size]? = some (.cells #[.slice ao xs.length cap] 26 (0, 0)) := (hb1.block _ (by simp; omega)).trans ((heap_alloc_old _ _ (by simp; omega)).trans (heap_alloc2_old _ _ _))
  have hn1 : w1.heap[w.heap.size + 1]? = some (.cells #[.int .i64 x.k, .int .i64 x.n, .string x.s, .int .i64 x.a, .int .i64 x.b] 28 (0, 0)) := (hb1.block _ (by simp)).trans ((heap_alloc_old _ _ (by simp)).trans (heap_alloc2_new _ _ _))
  have hy1 : w1.heap[w.heap.size + 1 + 1]? = some (.cells #[.slice none 0 0] 26 (0, 0)) := (hb1.block _ (by simp)).trans (by have h := heap_alloc_new ((w.alloc (Obj.cells #[.slice ao xs.length cap] 26)).alloc (Obj.cells #[.int .i64 x.k, .int .i64 x.n, .string x.s, .int .i64 x.a, .int .i64 x.b] 28)) (Obj.cells #[.slice none 0 0] 26); simpa using h)
  have hB1 := hB0.trans (hb1.mono hB0.size)
  have hsz1 := (Array.getElem?_eq_some_iff.1 hy1).1
  clear hB0 hb1
  have hc1 : w1.cell? ⟨w.heap.size, 0, none⟩ = some (.slice ao xs.length cap) := by rw [cell_of_row w1 _ 0 _ _ _ hx1]; rfl
  have hd1 : w1.cell? ⟨w.heap.size + 1 + 1, 0, none⟩ = some (.slice none 0 0) := by rw [cell_of_row w1 _ 0 _ _ _ hy1]; rfl
  have hf1 : w1.frozen? ⟨w.heap.size + 1 + 1, 0, none⟩ = false := frozen_of_row w1 _ 0 _ _ hy1
  have hcell : ∀ j, w1.cell? ⟨w.heap.size + 1, j, none⟩ = #[Value.int .i64 x.k, .int .i64 x.n, .string x.s, .int .i64 x.a, .int .i64 x.b][j]? := fun j => cell_of_row w1 _ j _ _ _ hn1
  have n0 := hcell 0
  have n1 := hcell 1
  have n2 := hcell 2
  have n3 := hcell 3
  have n4 := hcell 4
  simp only [List.getElem?_toArray, List.getElem?_cons_succ, List.getElem?_cons_zero] at n0 n1 n2 n3 n4
  clear hcell
  by_cases hp : poolB xs = true
  · have hlen : xs.length ≤ 3000 := by simp only [poolB, Bool.and_eq_true, decide_eq_true_eq] at hp; exact hp.1
    rw [hp]
    by_cases h3 : xs.length = 3000
    · have HL : Hid (makeL xs x = xs ++ []) := by unfold Hid makeL; rw [if_pos hp, if_neg (by omega), List.append_nil]
      have HI : Hid (makeI xs x = -1) := by unfold Hid makeI; rw [if_pos hp, if_neg (by omega)]
      have h3' : (xs.length : Int) = 3000 := by omega
      clear h3
      go_wp2_with fail
      refine (with_any _ _ xs [] _ (R.below hB1) (NRow.nil0 _) (by simp; omega)).mono ?_
      rintro e w2 ⟨v2, rfl, ho2, hb2⟩
      rw [List.append_nil] at ho2 HL
      obtain ⟨ao2, cap2, rfl⟩ := own_form ho2
      have hB2 := hB1.trans (hb2.mono hB1.size)
      have hy2 := (hb2.block _ hsz1).trans hy1
      have hd2 : w2.cell? ⟨w.heap.size + 1 + 1, 0, none⟩ = some (.slice none 0 0) := by rw [cell_of_row w2 _ 0 _ _ _ hy2]; rfl
      have hf2 : w2.frozen? ⟨w.heap.size + 1 + 1, 0, none⟩ = false := frozen_of_row w2 _ 0 _ _ hy2
      clear hc1 hd1 hf1 n0 n1 n2 n3 n4 hx1 hn1 hy1 hb2
      obtain ⟨p1, p2, p3⟩ := put_pool hy2 ho2 hB2 hsz1 (by omega)
      go_wp2
      refine bodyPost_ret (results_row_tmp rfl _ _ (w.heap.size + 1 + 1) 26 _ (0, 0) _ rfl p1 Try.underlying26 rfl Try.sizeP) rfl ⟨_, by rw [HI.out]; rfl, ?_, p3⟩
      rw [HL.out]
      exact p2
    · have h3' : ¬ (xs.length : Int) = 3000 := by omega
      go_wp2_with fail
      refine (nodefits_any x _ _ hs).mono ?_
      rintro e w2 ⟨rfl, hb2⟩
      have hx2 := (hb2.block _ (by omega)).trans hx1
      have hn2 := (hb2.block _ (by omega)).trans hn1
      have hy2 := (hb2.block _ hsz1).trans hy1
      have hB2 := hB1.trans (hb2.mono hB1.size)
      have hsz2 := (Array.getElem?_eq_some_iff.1 hy2).1
      clear hB1 hc1 hd1 hf1 n0 n1 n2 n3 n4 hx1 hn1 hy1 hb2 hsz1
      have hc1 : w2.cell? ⟨w.heap.size, 0, none⟩ = some (.slice ao xs.length cap) := by rw [cell_of_row w2 _ 0 _ _ _ hx2]; rfl
      have hd1 : w2.cell? ⟨w.heap.size + 1 + 1, 0, none⟩ = some (.slice none 0 0) := by rw [cell_of_row w2 _ 0 _ _ _ hy2]; rfl
      have hf1 : w2.frozen? ⟨w.heap.size + 1 + 1, 0, none⟩ = false := frozen_of_row w2 _ 0 _ _ hy2
      have hcell : ∀ j, w2.cell? ⟨w.heap.size + 1, j, none⟩ = #[Value.int .i64 x.k, .int .i64 x.n, .string x.s, .int .i64 x.a, .int .i64 x.b][j]? := fun j => cell_of_row w2 _ j _ _ _ hn2
      have n0 := hcell 0
      have n1 := hcell 1
      have n2 := hcell 2
      have n3 := hcell 3
      have n4 := hcell 4
      simp only [List.getElem?_toArray, List.getElem?_cons_succ, List.getElem?_cons_zero] at n0 n1 n2 n3 n4
      clear hcell
      by_cases hn : nodeB x xs.length = true
      · have HL : Hid (makeL xs x = xs ++ [x]) := by unfold Hid makeL; rw [if_pos hp, if_pos ⟨by omega, hn⟩]
        have HI : Hid (makeI xs x = xs.length) := by unfold Hid makeI; rw [if_pos hp, if_pos ⟨by omega, hn⟩]
        have hBl : Below w2.heap.size w2 (w2.alloc (Obj.cells #[.int .i64 x.k, .int .i64 x.n, .string x.s, .int .i64 x.a, .int .i64 x.b] 28)) := (Below.refl _ _).alloc (Nat.le_refl _) _
        rw [hn]
        go_wp2_with fail
        refine (with_any _ _ xs [x] _ ((R.below hB2).below hBl) (NRow.lit1 w2 x hs) (by simp; omega)).mono ?_
        rintro e w3 ⟨v3, rfl, ho3, hb3⟩
        generalize xs ++ [x] = L at ho3 HL
        have hB3 := (hB2.trans (hBl.mono hB2.size)).trans (hb3.mono (by have := hB2.size; simp; omega))
        have hy2' := (hBl.block _ hsz2).trans hy2
        obtain ⟨ao3, cap3, rfl⟩ := own_form ho3
        have hy3 := (hb3.block _ (by first | exact hsz2 | (simp; omega))).trans hy2'
        have hd3 : w3.cell? ⟨w.heap.size + 1 + 1, 0, none⟩ = some (.slice none 0 0) := by rw [cell_of_row w3 _ 0 _ _ _ hy3]; rfl
        have hf3 : w3.frozen? ⟨w.heap.size + 1 + 1, 0, none⟩ = false := frozen_of_row w3 _ 0 _ _ hy3
        clear hc1 hd1 hf1 n0 n1 n2 n3 n4 hx2 hn2 hy2 hy2' hb3
        obtain ⟨p1, p2, p3⟩ := put_pool hy3 ho3 hB3 (by first | exact hsz2 | (simp; omega)) (by omega)
        go_wp2
        refine bodyPost_ret (results_row_tmp rfl _ _ (w.heap.size + 1 + 1) 26 _ (0, 0) _ rfl p1 Try.underlying26 rfl Try.sizeP) rfl ⟨_, by rw [HI.out]; rfl, ?_, p3⟩
        rw [HL.out]
        exact p2
      · have HL : Hid (makeL xs x = xs ++ []) := by unfold Hid makeL; rw [if_pos hp, if_neg (fun h => hn h.2), List.append_nil]
        have HI : Hid (makeI xs x = -1) := by unfold Hid makeI; rw [if_pos hp, if_neg (fun h => hn h.2)]
        rw [Bool.not_eq_true] at hn
        rw [hn]
        go_wp2_with fail
        refine (with_any _ _ xs [] _ (R.below hB2) (NRow.nil0 _) (by simp; omega)).mono ?_
        rintro e w3 ⟨v3, rfl, ho3, hb3⟩
        rw [List.append_nil] at ho3 HL
        have hB3 := hB2.trans (hb3.mono hB2.size)
        have hy2' := hy2
        obtain ⟨ao3, cap3, rfl⟩ := own_form ho3
        have hy3 := (hb3.block _ (by first | exact hsz2 | (simp; omega))).trans hy2'
        have hd3 : w3.cell? ⟨w.heap.size + 1 + 1, 0, none⟩ = some (.slice none 0 0) := by rw [cell_of_row w3 _ 0 _ _ _ hy3]; rfl
        have hf3 : w3.frozen? ⟨w.heap.size + 1 + 1, 0, none⟩ = false := frozen_of_row w3 _ 0 _ _ hy3
        clear hc1 hd1 hf1 n0 n1 n2 n3 n4 hx2 hn2 hy2 hy2' hb3
        obtain ⟨p1, p2, p3⟩ := put_pool hy3 ho3 hB3 (by first | exact hsz2 | (simp; omega)) (by omega)
        go_wp2
        refine bodyPost_ret (results_row_tmp rfl _ _ (w.heap.size + 1 + 1) 26 _ (0, 0) _ rfl p1 Try.underlying26 rfl Try.sizeP) rfl ⟨_, by rw [HI.out]; rfl, ?_, p3⟩
        rw [HL.out]
        exact p2
  · have HL : Hid (makeL xs x = []) := by unfold Hid makeL; rw [if_neg hp]
    have HI : Hid (makeI xs x = -1) := by unfold Hid makeI; rw [if_neg hp]
    rw [Bool.not_eq_true] at hp
    rw [hp]
    clear n0 n1 n2 n3 n4
    obtain ⟨p1, p2, p3⟩ := put_pool hy1 (World.ownsRow_nil w1 w1.heap.size 28 5) hB1 hsz1 (by omega)
    go_wp2_with fail
    refine bodyPost_ret (results_row_tmp rfl _ _ (w.heap.size + 1 + 1) 26 _ (0, 0) _ rfl p1 Try.underlying26 rfl Try.sizeP) rfl ⟨_, by rw [HI.out]; rfl, ?_, p3⟩
    rw [HL.out]
    exact p2
end Go.Proofs.Ytlnfhcfdcocepaa
