/-
  Contract of impl.SizeOf.
-/
import Derived.Test.YtmnmljmbicepjaaSizeI
namespace Go.Proofs.Ytmnmljmbicepjaa
open Go.RowKit

theorem Try.infoI : (Try.prog.info? 3).map (fun i => (i.zero, i.size, i.bytes)) = some (some (.int .i64 0), 1, 8) := by kernel_rfl

/-- The sizes so far, and noughts behind them. -/
def padded (xs : List Nd) (k n : Nat) : List Int := sizesTo xs k ++ List.replicate (n - k) 0
theorem padded_length (xs : List Nd) (k n : Nat) (hk : k ≤ n) (hn : n ≤ xs.length) : (padded xs k n).length = n := by
  unfold padded; rw [List.length_append, sizesTo_length xs k (by omega)]; simp; omega
theorem padded_zero (xs : List Nd) (n : Nat) : iv (padded xs 0 n) = (madeCells #[Value.int .i64 0] n).toList := by
  rw [toList_madeCells_one]; simp [padded, iv, sizesTo, sizes]
theorem padded_get (xs : List Nd) (k n i : Nat) (hk : k ≤ xs.length) (hi : i < k) : (padded xs k n).getD i 0 = (sizesTo xs k).getD i 0 := by
  unfold padded
  simp only [List.getD_eq_getElem?_getD]
  rw [List.getElem?_append_left (by rw [sizesTo_length xs k hk]; exact hi)]
theorem padded_set (xs : List Nd) (k n : Nat) (x : Nd) (hk : k < n) (hn : n ≤ xs.length) (h : xs[k]? = some x) : (padded xs k n).set k (szN (sizesTo xs k) x) = padded xs (k + 1) n := by
  unfold padded
  have hl := sizesTo_length xs k (by omega)
  rw [sizesTo_succ xs k x h, show n - k = n - (k + 1) + 1 by omega, List.replicate_succ, List.set_append_right _ _ (by omega), hl, Nat.sub_self, List.set_cons_zero, List.append_assoc]
  rfl

/-- A row of ints of the call's own, one cell of it written three times: what lies there. -/
theorem thrice {w : World} {base n B cap k : Nat} {zs : List Int} (h : w.ownsRow base 3 1 (.slice (some ⟨B, 0, none⟩) n cap) n (iv zs)) (hk : k < zs.length) (hn : zs.length = n) (a b c : Int) :
    ((((w.setCell ⟨B, k, none⟩ (.int .i64 a)).setCell ⟨B, k, none⟩ (.int .i64 b)).setCell ⟨B, k, none⟩ (.int .i64 c)).cell? ⟨B, k, none⟩ = some (.int .i64 c) ∧ (((w.setCell ⟨B, k, none⟩ (.int .i64 a)).setCell ⟨B, k, none⟩ (.int .i64 b)).setCell ⟨B, k, none⟩ (.int .i64 c)).frozen? ⟨B, k, none⟩ = false) ∧
    (((w.setCell ⟨B, k, none⟩ (.int .i64 a)).setCell ⟨B, k, none⟩ (.int .i64 b)).setCell ⟨B, k, none⟩ (.int .i64 c)).ownsRow base 3 1 (.slice (some ⟨B, 0, none⟩) n cap) n (iv (zs.set k c)) := by
  have s1 := h.stored k (.int .i64 a)
  rw [iv_set] at s1
  have s2 := s1.1.stored k (.int .i64 b)
  rw [iv_set, List.set_set] at s2
  have s3 := s2.1.stored k (.int .i64 c)
  rw [iv_set, List.set_set] at s3
  have g := s3.1.cellAt k (by omega)
  rw [iv_get _ _ (by rw [List.length_set]; omega), List.getD_eq_getElem?_getD, List.getElem?_set_self (by omega)] at g
  exact ⟨⟨g, s3.1.frozenAt k⟩, s3.1⟩
theorem twice {w : World} {base n B cap k : Nat} {zs : List Int} (h : w.ownsRow base 3 1 (.slice (some ⟨B, 0, none⟩) n cap) n (iv zs)) (hk : k < zs.length) (hn : zs.length = n) (a b : Int) :
    (((w.setCell ⟨B, k, none⟩ (.int .i64 a)).setCell ⟨B, k, none⟩ (.int .i64 b)).cell? ⟨B, k, none⟩ = some (.int .i64 b) ∧ ((w.setCell ⟨B, k, none⟩ (.int .i64 a)).setCell ⟨B, k, none⟩ (.int .i64 b)).frozen? ⟨B, k, none⟩ = false) ∧
    ((w.setCell ⟨B, k, none⟩ (.int .i64 a)).setCell ⟨B, k, none⟩ (.int .i64 b)).ownsRow base 3 1 (.slice (some ⟨B, 0, none⟩) n cap) n (iv (zs.set k b)) := by
  have s1 := h.stored k (.int .i64 a)
  rw [iv_set] at s1
  have s2 := s1.1.stored k (.int .i64 b)
  rw [iv_set, List.set_set] at s2
  have g := s2.1.cellAt k (by omega)
  rw [iv_get _ _ (by rw [List.length_set]; omega), List.getD_eq_getElem?_getD, List.getElem?_set_self (by omega)] at g
  exact ⟨⟨g, s2.1.frozenAt k⟩, s2.1⟩

theorem min_if (z : Int) : (if 1000000000 < z then 1000000000 else z) = min z 1000000000 := by split <;> omega
theorem fin3 {w w0 : World} {W0 base n B cap k : Nat} {zs : List Int} (h : w.ownsRow base 3 1 (.slice (some ⟨B, 0, none⟩) n cap) n (iv zs)) (hk : k < zs.length) (hn : zs.length = n) (hB : Below W0 w0 w) (hb : W0 ≤ B) (hs : W0 ≤ w.heap.size) (a b c d : Int) (o : Obj) :
    (((((w.setCell ⟨B, k, none⟩ (.int .i64 a)).setCell ⟨B, k, none⟩ (.int .i64 b)).setCell ⟨B, k, none⟩ (.int .i64 c)).setCell ⟨B, k, none⟩ (.int .i64 d)).alloc o).ownsRow base 3 1 (.slice (some ⟨B, 0, none⟩) n cap) n (iv (zs.set k d)) ∧
    Below W0 w0 (((((w.setCell ⟨B, k, none⟩ (.int .i64 a)).setCell ⟨B, k, none⟩ (.int .i64 b)).setCell ⟨B, k, none⟩ (.int .i64 c)).setCell ⟨B, k, none⟩ (.int .i64 d)).alloc o) := by
  have s := (thrice h hk hn a b c).2.stored k (.int .i64 d)
  rw [iv_set, List.set_set] at s
  exact ⟨s.1.alloc _, ((((hB.setCell (p := ⟨B, k, none⟩) hb _).setCell (p := ⟨B, k, none⟩) hb _).setCell (p := ⟨B, k, none⟩) hb _).setCell (p := ⟨B, k, none⟩) hb _).alloc (by simpa using hs) _⟩
theorem fin2 {w w0 : World} {W0 base n B cap k : Nat} {zs : List Int} (h : w.ownsRow base 3 1 (.slice (some ⟨B, 0, none⟩) n cap) n (iv zs)) (hk : k < zs.length) (hn : zs.length = n) (hB : Below W0 w0 w) (hb : W0 ≤ B) (hs : W0 ≤ w.heap.size) (a b d : Int) (o : Obj) :
    ((((w.setCell ⟨B, k, none⟩ (.int .i64 a)).setCell ⟨B, k, none⟩ (.int .i64 b)).setCell ⟨B, k, none⟩ (.int .i64 d)).alloc o).ownsRow base 3 1 (.slice (some ⟨B, 0, none⟩) n cap) n (iv (zs.set k d)) ∧
    Below W0 w0 ((((w.setCell ⟨B, k, none⟩ (.int .i64 a)).setCell ⟨B, k, none⟩ (.int .i64 b)).setCell ⟨B, k, none⟩ (.int .i64 d)).alloc o) :=
  ⟨(thrice h hk hn a b d).2.alloc _, (((hB.setCell (p := ⟨B, k, none⟩) hb _).setCell (p := ⟨B, k, none⟩) hb _).setCell (p := ⟨B, k, none⟩) hb _).alloc (by simpa using hs) _⟩
theorem fin1 {w w0 : World} {W0 base n B cap k : Nat} {zs : List Int} (h : w.ownsRow base 3 1 (.slice (some ⟨B, 0, none⟩) n cap) n (iv zs)) (hk : k < zs.length) (hn : zs.length = n) (hB : Below W0 w0 w) (hb : W0 ≤ B) (hs : W0 ≤ w.heap.size) (a d : Int) (o : Obj) :
    (((w.setCell ⟨B, k, none⟩ (.int .i64 a)).setCell ⟨B, k, none⟩ (.int .i64 d)).alloc o).ownsRow base 3 1 (.slice (some ⟨B, 0, none⟩) n cap) n (iv (zs.set k d)) ∧
    Below W0 w0 (((w.setCell ⟨B, k, none⟩ (.int .i64 a)).setCell ⟨B, k, none⟩ (.int .i64 d)).alloc o) :=
  ⟨(twice h hk hn a d).2.alloc _, ((hB.setCell (p := ⟨B, k, none⟩) hb _).setCell (p := ⟨B, k, none⟩) hb _).alloc (by simpa using hs) _⟩
theorem hasB_A {k : Int} (h : hasA k = false) : hasB k = false := by
  unfold hasA at h; unfold hasB
  simp only [decide_eq_false_iff_not] at h ⊢
  omega

end Go.Proofs.Ytmnmljmbicepjaa
