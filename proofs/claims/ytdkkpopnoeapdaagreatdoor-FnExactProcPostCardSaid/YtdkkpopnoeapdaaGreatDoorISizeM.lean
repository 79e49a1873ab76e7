/-
  Texts that stood by themselves, laid into one.
-/
import Derived.Test.YtdkkpopnoeapdaaGreatDoorSMakeM
import Derived.Deep.RegionLaw
import Derived.Deep.AppendLies
import Derived.Test.YtdkkpopnoeapdaaGreatDoorMkListM
import Derived.Test.YtdkkpopnoeapdaaGreatDoorIReachM
import Derived.Test.YtdkkpopnoeapdaaGreatDoorStore2M
import Derived.OneCell
import Derived.Test.YtdkkpopnoeapdaaGreatDoorListOfM
/-
  Contract of spec's l2Add: a node behind the pool that a pointer leads to.
-/
namespace Go.Proofs.YtdkkpopnoeapdaaGreatDoor
open Go.RowKit

set_option maxHeartbeats 1600000 in
theorem sadd_any (b base : Nat) (ao : Option Addr) (cap : Nat) (xs : List Nd) (x : Nd) (w : World) (hb : w.heap[b]? = some (.cells #[.slice ao xs.length cap] 39 (0, 0))) (ho : w.ownsRow base 119 5 (.slice ao xs.length cap) xs.length (ncs xs))
    (hm : xs.length ≤ 2097152) (hbb : base ≤ b) :
    Calls Tryz.prog 120 #[.pointer (some ⟨b, 0, none⟩), .agg #[.int .i64 x.k, .int .i64 x.n, .string x.s, .int .i64 x.a, .int .i64 x.b]] w fun e w' =>
      ∃ v', e = .returned (.int .i64 xs.length) ∧ w'.heap[b]? = some (.cells #[v'] 39 (0, 0)) ∧ w'.ownsRow base 119 5 v' (xs ++ [x]).length (ncs (xs ++ [x])) ∧ Below base w w' := by
  obtain ⟨i0, hi, hz0, hz1, hz2⟩ := info_parts Tryz.infoN
  have hlt : b < w.heap.size := (Array.getElem?_eq_some_iff.1 hb).1
  have hcb : w.cell? ⟨b, 0, none⟩ = some (.slice ao xs.length cap) := by rw [cell_of_row w b 0 _ _ _ hb]; rfl
  have hne : b ≠ w.heap.size := by omega
  go_enter Tryz.func120, Tryz.ntmps120
  go_wp2_with fail
  go_region_law (refine step_append_lies _ rfl _ _ 37 rfl base 119 i0 _ 5 48 Tryz.underlying37 hi hz0 hz1 hz2 rfl (by decide) _ _ _ rfl ((ho.alloc _).alloc _) ⟨w.heap.size + 1, 0, none⟩ 1 1 (ncs [x]) rfl rfl (World.news_of_block (cs := #[.int .i64 x.k, .int .i64 x.n, .string x.s, .int .i64 x.a, .int .i64 x.b]) (t := 119) (fr := (0, 0)) (heap_alloc2_new w _ _)) (ncs_one _) (by omega) (by unfold maxLen; omega) (by omega) (by simp; omega) (w.heap.size + 2) (by simp) ?_; intro g capg w1 hown hgrow hat hgl; have hb1 : w1.heap[b]? = some (.cells #[.slice ao xs.length cap] 39 (0, 0)) := (hgrow.block b (by simp; omega) (fun e => own_ne ho hb (by decide) e.symm)).trans ((heap_alloc_old _ _ (by simp; omega)).trans ((heap_alloc_old _ _ hlt).trans hb)); have kb1 : w1.cell? ⟨b, 0, none⟩ = some (.slice ao xs.length cap) := cell_of_row w1 b 0 _ _ _ hb1; have fb1 : w1.frozen? ⟨b, 0, none⟩ = false := frozen_of_row w1 b 0 _ _ hb1)
  all_goals
    have hown2 : w1.ownsRow base 119 5 (.slice (some ⟨g, 0, none⟩) (xs.length + 1) capg) (xs ++ [x]).length (ncs (xs ++ [x])) := by
      rw [ncs_append, List.length_append]
      exact hown
    have hs0 : base ≤ w.heap.size := by omega
    have hB1 : Below base w w1 := (((Below.refl base w).alloc hs0 _).drew.alloc (by simp; omega) _).grown hgrow (by simp; omega) (fun k hk => (ho.lt k hk).1)
    have hB2 := hB1.setCell (p := ⟨b, 0, none⟩) hbb (.slice (some ⟨g, 0, none⟩) (xs.length + 1) capg)
    have ho2 := ownsRow_setCell_other hown2 (a := ⟨b, 0, none⟩) (own_ne hown2 hb1 (by decide)) (.slice (some ⟨g, 0, none⟩) (xs.length + 1) capg)
    have hb2 := heap_setCell_same w1 b 0 _ _ (.slice (some ⟨g, 0, none⟩) (xs.length + 1) capg) hb1
    clear hown hgrow hat hcb hb
    go_wp2
    go_ret
    exact ⟨_, by simp, hb2, ho2, hB2⟩
end Go.Proofs.YtdkkpopnoeapdaaGreatDoor

/-
  Contract of spec's l2List: a list behind the pool that a pointer leads to.
-/
namespace Go.Proofs.YtdkkpopnoeapdaaGreatDoor
open Go.RowKit

end Go.Proofs.YtdkkpopnoeapdaaGreatDoor

/-
  Contract of impl.firstsAlike: for each node the first one that is alike.
-/
namespace Go.Proofs.YtdkkpopnoeapdaaGreatDoor
open Go.RowKit Go.Maps

theorem Tryz.infoI4 : (Tryz.prog.info? 3).map (fun i => (i.zero, i.size, i.bytes)) = some (some (.int .i64 0), 1, 8) := by kernel_rfl
def padI (l : List Int) (n : Nat) : List Int := l ++ List.replicate (n - l.length) 0
theorem padI_length (l : List Int) (n : Nat) (h : l.length ≤ n) : (padI l n).length = n := by simp [padI]; omega
theorem padI_nil (n : Nat) : iv (padI [] n) = (madeCells #[Value.int .i64 0] n).toList := by rw [toList_madeCells_one]; simp [padI, iv]
theorem padI_get (l : List Int) (n i : Nat) (h : i < l.length) : (padI l n).getD i 0 = l.getD i 0 := by
  unfold padI
  simp only [List.getD_eq_getElem?_getD]
  rw [List.getElem?_append_left h]
theorem padI_set (l : List Int) (n k : Nat) (z : Int) (hk : l.length = k) (h : k < n) : (padI l n).set k z = padI (l ++ [z]) n := by
  subst hk
  unfold padI
  rw [show n - l.length = n - (l ++ [z]).length + 1 by simp; omega, List.replicate_succ, List.set_append_right _ _ (Nat.le_refl _), Nat.sub_self, List.set_cons_zero, List.append_assoc]
  rfl
theorem padI_full (l : List Int) : padI l l.length = l := by simp [padI]
theorem zeroI (w : World) : (zeroValue 3).run Tryz.prog w = .ok (.int .i64 0) w := by kernel_rfl

theorem fb_get {l : List Int} {k : Nat} (h : ∀ f ∈ l, 0 ≤ f ∧ f ≤ k) (i : Nat) (hi : i < l.length) : 0 ≤ l.getD i 0 ∧ l.getD i 0 ≤ k := by
  rw [List.getD_eq_getElem?_getD, List.getElem?_eq_getElem hi]
  exact h _ (List.getElem_mem _)
theorem nodeB_N {x : Nd} {n : Int} (h : nodeB x n = true) : -1000000000 ≤ x.n ∧ x.n ≤ 1000000000 := by
  simp only [nodeB, Bool.and_eq_true, decide_eq_true_eq] at h
  have h1 := h.1.1.2
  have h2 := h.1.2
  unfold lo at h1
  unfold Go.Proofs.YtdkkpopnoeapdaaGreatDoor.hi at h2
  constructor
  · split at h1 <;> omega
  · split at h2
    · omega
    · split at h2
      · omega
      · split at h2 <;> omega
theorem nodeB_A0 {x : Nd} {n : Int} (h : nodeB x n = true) (ha : hasA x.k = false) : x.a = 0 := by
  simp only [nodeB, Bool.and_eq_true, decide_eq_true_eq] at h
  have := h.2.1.2
  rw [ha] at this
  simpa [partB] using this
theorem nodeB_B0 {x : Nd} {n : Int} (h : nodeB x n = true) (ha : hasB x.k = false) : x.b = 0 := by
  simp only [nodeB, Bool.and_eq_true, decide_eq_true_eq] at h
  have := h.2.2
  rw [ha] at this
  simpa [partB] using this

end Go.Proofs.YtdkkpopnoeapdaaGreatDoor

/-
  Contract of impl.SizeOf.
-/
namespace Go.Proofs.YtdkkpopnoeapdaaGreatDoor
open Go.RowKit

theorem Tryz.infoI : (Tryz.prog.info? 3).map (fun i => (i.zero, i.size, i.bytes)) = some (some (.int .i64 0), 1, 8) := by kernel_rfl

/-- The sizes so far, and noughts behind them. -/
def padded (xs : List Nd) (k n : Nat) : List Int := sizesTo xs k ++ List.replicate (n - k) 0
theorem padded_length (xs : List Nd) (k n : Nat) (hk : k ≤ n) (hn : n ≤ xs.length) : (padded xs k n).length = n := by
  unfold padded; rw [List.length_append, sizesTo_length xs k (by omega)]; simp; omega
theorem padded_zero (xs : List Nd) (n : Nat) : iv (padded xs 0 n) = (madeCells #[Value.int .i64 0] n).toList := by
  rw [toList_madeCells_one]; simp [padded, iv, sizesTo, sizes]
theorem padded_get (xs : List Nd) (k n i : Nat) (hk : k ≤ xs.length) (hi : i < k) : (padded xs k n).getD i 0 = (sizesTo xs k).getD i 0 := by
  unfold padded
  simp only [List.getD_eq_getElem?_getD]
  rw [List.getElem?_append_left (by rw [sizesTo_length xs k hk]; exact hi)]
theorem padded_set (xs : List Nd) (k n : Nat) (x : Nd) (hk : k < n) (hn : n ≤ xs.length) (h : xs[k]? = some x) : (padded xs k n).set k (szN (sizesTo xs k) x) = padded xs (k + 1) n := by
  unfold padded
  have hl := sizesTo_length xs k (by omega)
  rw [sizesTo_succ xs k x h, show n - k = n - (k + 1) + 1 by omega, List.replicate_succ, List.set_append_right _ _ (by omega), hl, Nat.sub_self, List.set_cons_zero, List.append_assoc]
  rfl

/-- A row of ints of the call's own, one cell of it written three times: what lies there. -/
theorem thrice {w : World} {base n B cap k : Nat} {zs : List Int} (h : w.ownsRow base 3 1 (.slice (some ⟨B, 0, none⟩) n cap) n (iv zs)) (hk : k < zs.length) (hn : zs.length = n) (a b c : Int) :
    ((((w.setCell ⟨B, k, none⟩ (.int .i64 a)).setCell ⟨B, k, none⟩ (.int .i64 b)).setCell ⟨B, k, none⟩ (.int .i64 c)).cell? ⟨B, k, none⟩ = some (.int .i64 c) ∧ (((w.setCell ⟨B, k, none⟩ (.int .i64 a)).setCell ⟨B, k, none⟩ (.int .i64 b)).setCell ⟨B, k, none⟩ (.int .i64 c)).frozen? ⟨B, k, none⟩ = false) ∧
    (((w.setCell ⟨B, k, none⟩ (.int .i64 a)).setCell ⟨B, k, none⟩ (.int .i64 b)).setCell ⟨B, k, none⟩ (.int .i64 c)).ownsRow base 3 1 (.slice (some ⟨B, 0, none⟩) n cap) n (iv (zs.set k c)) := by
  have s1 := h.stored k (.int .i64 a)
  rw [iv_set] at s1
  have s2 := s1.1.stored k (.int .i64 b)
  rw [iv_set, List.set_set] at s2
  have s3 := s2.1.stored k (.int .i64 c)
  rw [iv_set, List.set_set] at s3
  have g := s3.1.cellAt k (by omega)
  rw [iv_get _ _ (by rw [List.length_set]; omega), List.getD_eq_getElem?_getD, List.getElem?_set_self (by omega)] at g
  exact ⟨⟨g, s3.1.frozenAt k⟩, s3.1⟩
theorem twice {w : World} {base n B cap k : Nat} {zs : List Int} (h : w.ownsRow base 3 1 (.slice (some ⟨B, 0, none⟩) n cap) n (iv zs)) (hk : k < zs.length) (hn : zs.length = n) (a b : Int) :
    (((w.setCell ⟨B, k, none⟩ (.int .i64 a)).setCell ⟨B, k, none⟩ (.int .i64 b)).cell? ⟨B, k, none⟩ = some (.int .i64 b) ∧ ((w.setCell ⟨B, k, none⟩ (.int .i64 a)).setCell ⟨B, k, none⟩ (.int .i64 b)).frozen? ⟨B, k, none⟩ = false) ∧
    ((w.setCell ⟨B, k, none⟩ (.int .i64 a)).setCell ⟨B, k, none⟩ (.int .i64 b)).ownsRow base 3 1 (.slice (some ⟨B, 0, none⟩) n cap) n (iv (zs.set k b)) := by
  have s1 := h.stored k (.int .i64 a)
  rw [iv_set] at s1
  have s2 := s1.1.stored k (.int .i64 b)
  rw [iv_set, List.set_set] at s2
  have g := s2.1.cellAt k (by omega)
  rw [iv_get _ _ (by rw [List.length_set]; omega), List.getD_eq_getElem?_getD, List.getElem?_set_self (by omega)] at g
  exact ⟨⟨g, s2.1.frozenAt k⟩, s2.1⟩

theorem min_if (z : Int) : (if 1000000000 < z then 1000000000 else z) = min z 1000000000 := by split <;> omega
theorem fin3 {w w0 : World} {W0 base n B cap k : Nat} {zs : List Int} (h : w.ownsRow base 3 1 (.slice (some ⟨B, 0, none⟩) n cap) n (iv zs)) (hk : k < zs.length) (hn : zs.length = n) (hB : Below W0 w0 w) (hb : W0 ≤ B) (hs : W0 ≤ w.heap.size) (a b c d : Int) (o : Obj) :
    (((((w.setCell ⟨B, k, none⟩ (.int .i64 a)).setCell ⟨B, k, none⟩ (.int .i64 b)).setCell ⟨B, k, none⟩ (.int .i64 c)).setCell ⟨B, k, none⟩ (.int .i64 d)).alloc o).ownsRow base 3 1 (.slice (some ⟨B, 0, none⟩) n cap) n (iv (zs.set k d)) ∧
    Below W0 w0 (((((w.setCell ⟨B, k, none⟩ (.int .i64 a)).setCell ⟨B, k, none⟩ (.int .i64 b)).setCell ⟨B, k, none⟩ (.int .i64 c)).setCell ⟨B, k, none⟩ (.int .i64 d)).alloc o) := by
  have s := (thrice h hk hn a b c).2.stored k (.int .i64 d)
  rw [iv_set, List.set_set] at s
  exact ⟨s.1.alloc _, ((((hB.setCell (p := ⟨B, k, none⟩) hb _).setCell (p := ⟨B, k, none⟩) hb _).setCell (p := ⟨B, k, none⟩) hb _).setCell (p := ⟨B, k, none⟩) hb _).alloc (by simpa using hs) _⟩
theorem fin2 {w w0 : World} {W0 base n B cap k : Nat} {zs : List Int} (h : w.ownsRow base 3 1 (.slice (some ⟨B, 0, none⟩) n cap) n (iv zs)) (hk : k < zs.length) (hn : zs.length = n) (hB : Below W0 w0 w) (hb : W0 ≤ B) (hs : W0 ≤ w.heap.size) (a b d : Int) (o : Obj) :
    ((((w.setCell ⟨B, k, none⟩ (.int .i64 a)).setCell ⟨B, k, none⟩ (.int .i64 b)).setCell ⟨B, k, none⟩ (.int .i64 d)).alloc o).ownsRow base 3 1 (.slice (some ⟨B, 0, none⟩) n cap) n (iv (zs.set k d)) ∧
    Below W0 w0 ((((w.setCell ⟨B, k, none⟩ (.int .i64 a)).setCell ⟨B, k, none⟩ (.int .i64 b)).setCell ⟨B, k, none⟩ (.int .i64 d)).alloc o) :=
  ⟨(thrice h hk hn a b d).2.alloc _, (((hB.setCell (p := ⟨B, k, none⟩) hb _).setCell (p := ⟨B, k, none⟩) hb _).setCell (p := ⟨B, k, none⟩) hb _).alloc (by simpa using hs) _⟩
theorem fin1 {w w0 : World} {W0 base n B cap k : Nat} {zs : List Int} (h : w.ownsRow base 3 1 (.slice (some ⟨B, 0, none⟩) n cap) n (iv zs)) (hk : k < zs.length) (hn : zs.length = n) (hB : Below W0 w0 w) (hb : W0 ≤ B) (hs : W0 ≤ w.heap.size) (a d : Int) (o : Obj) :
    (((w.setCell ⟨B, k, none⟩ (.int .i64 a)).setCell ⟨B, k, none⟩ (.int .i64 d)).alloc o).ownsRow base 3 1 (.slice (some ⟨B, 0, none⟩) n cap) n (iv (zs.set k d)) ∧
    Below W0 w0 (((w.setCell ⟨B, k, none⟩ (.int .i64 a)).setCell ⟨B, k, none⟩ (.int .i64 d)).alloc o) :=
  ⟨(twice h hk hn a d).2.alloc _, ((hB.setCell (p := ⟨B, k, none⟩) hb _).setCell (p := ⟨B, k, none⟩) hb _).alloc (by simpa using hs) _⟩
theorem hasB_A {k : Int} (h : hasA k = false) : hasB k = false := by
  unfold hasA at h; unfold hasB
  simp only [decide_eq_false_iff_not] at h ⊢
  omega

end Go.Proofs.YtdkkpopnoeapdaaGreatDoor
