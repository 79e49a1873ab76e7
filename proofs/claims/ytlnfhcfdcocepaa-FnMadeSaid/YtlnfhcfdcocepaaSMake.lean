/-
  Contract of spec.Make.
-/
import Derived.Test.YtlnfhcfdcocepaaMake
import Derived.OneCell
namespace Go.Proofs.Ytlnfhcfdcocepaa
open Go.RowKit

theorem own_ne {w : World} {B : Nat} {e t : TypeId} {k : Nat} {v : Value} {n j : Nat} {xs : List Value} {c : Array Value} {fr : Nat × Nat} (h : w.ownsRow B e k v n xs) (hj : w.heap[j]? = some (.cells c t fr)) (hte : t ≠ e) : v.ownBlock ≠ some j := by
  rcases h.2 with ⟨rfl, _⟩ | ⟨g, cap, cur, rfl, hB, hg, _⟩
  · simp [Value.ownBlock]
  · intro e'
    simp only [Value.ownBlock, Option.some.injEq] at e'
    subst e'
    rw [hg] at hj
    cases hj
    exact hte rfl

set_option maxRecDepth 100000 in
set_option maxHeartbeats 1600000 in
theorem smake_any (v : Value) (xs : List Nd) (x : Nd) (w : World) (R : NRow w v xs) (hs : x.s.size ≤ maxLen) :
    Calls Try.prog 8 #[.agg #[v], .agg #[.int .i64 x.k, .int .i64 x.n, .string x.s, .int .i64 x.a, .int .i64 x.b]] w fun e w' =>
      ∃ v', e = .returned (.tuple #[.agg #[v'], .int .i64 (makeI xs x)]) ∧ w'.ownsRow w.heap.size 28 5 v' (makeL xs x).length (ncs (makeL xs x)) ∧ Below w.heap.size w w' := by
  have R' := R
  obtain ⟨ao, cap, rfl, hcap, hm, hz, _⟩ := R'
  obtain ⟨i0, hi, hz0, hz1, hz2⟩ := info_parts Try.infoN
  go_enter Try.func8, Try.ntmps8
  go_wp2_with fail
  have hB0 : Below w.heap.size w (((w.alloc (Obj.cells #[.slice ao xs.length cap] 26)).alloc (Obj.cells #[.int .i64 x.k, .int .i64 x.n, .string x.s, .int .i64 x.a, .int .i64 x.b] 28)).alloc (Obj.cells #[.slice none 0 0] 26)) := (((Below.refl _ _).alloc (Nat.le_refl _) _).alloc (by simp) _).alloc (by simp; omega) _
  refine (spool_any _ xs _ (R.below hB0)).mono ?_
  rintro e w1 ⟨rfl, hb1⟩
  have hx1 : w1.heap[w.heap.size]? = some (.cells #[.slice ao xs.length cap] 26 (0, 0)) := (hb1.block _ (by simp; omega)).trans ((heap_alloc_old _ _ (by simp; omega)).trans (heap_alloc2_old _ _ _))
  have hn1 : w1.heap[w.heap.size + 1]? = some (.cells #[.int .i64 x.k, .int .i64 x.n, .string x.s, .int .i64 x.a, .int .i64 x.b] 28 (0, 0)) := (hb1.block _ (by simp)).trans ((heap_alloc_old _ _ (by simp)).trans (heap_alloc2_new _ _ _))
  have hy1 : w1.heap[w.heap.size + 1 + 1]? = some (.cells #[.slice none 0 0] 26 (0, 0)) := (hb1.block _ (by simp)).trans (by have h := heap_alloc_new ((w.alloc (Obj.cells #[.slice ao xs.length cap] 26)).alloc (Obj.cells #[.int .i64 x.k, .int .i64 x.n, .string x.s, .int .i64 x.a, .int .i64 x.b] 28)) (Obj.cells #[.slice none 0 0] 26); simpa using h)
  have hB1 := hB0.trans (hb1.mono hB0.size)
  have hsz1 := (Array.getElem?_eq_some_iff.1 hy1).1
  clear hB0 hb1
  have hc1 : w1.cell? ⟨w.heap.size, 0, none⟩ = some (.slice ao xs.length cap) := by rw [cell_of_row w1 _ 0 _ _ _ hx1]; rfl
  have hd1 : w1.cell? ⟨w.heap.size + 1 + 1, 0, none⟩ = some (.slice none 0 0) := by rw [cell_of_row w1 _ 0 _ _ _ hy1]; rfl
  have hf1 : w1.frozen? ⟨w.heap.size + 1 + 1, 0, none⟩ = false := frozen_of_row w1 _ 0 _ _ hy1
  by_cases hp : poolB xs = true
  · have hlen : xs.length ≤ 3000 := by simp only [poolB, Bool.and_eq_true, decide_eq_true_eq] at hp; exact hp.1
    rw [hp]
    go_wp2_with fail
    refine (scopy_any _ xs _ (R.below hB1) (by omega)).mono ?_
    rintro e w2 ⟨v2, rfl, ho2, hb2⟩
    obtain ⟨ao2, cap2, rfl⟩ := own_form ho2
    have hx2 := (hb2.block _ (by omega)).trans hx1
    have hn2 := (hb2.block _ (by omega)).trans hn1
    have hy2 := (hb2.block _ hsz1).trans hy1
    have hB2 := hB1.trans (hb2.mono hB1.size)
    have hsz2 := (Array.getElem?_eq_some_iff.1 hy2).1
    clear hB1 hc1 hd1 hf1 hx1 hn1 hy1
    have hc1 : w2.cell? ⟨w.heap.size, 0, none⟩ = some (.slice ao xs.length cap) := by rw [cell_of_row w2 _ 0 _ _ _ hx2]; rfl
    have hcell : ∀ j, w2.cell? ⟨w.heap.size + 1, j, none⟩ = #[Value.int .i64 x.k, .int .i64 x.n, .string x.s, .int .i64 x.a, .int .i64 x.b][j]? := fun j => cell_of_row w2 _ j _ _ _ hn2
    have n0 := hcell 0
    have n1 := hcell 1
    have n2 := hcell 2
    have n3 := hcell 3
    have n4 := hcell 4
    simp only [List.getElem?_toArray, List.getElem?_cons_succ, List.getElem?_cons_zero] at n0 n1 n2 n3 n4
    clear hcell
    have hq1 : w.heap.size + 1 < w2.heap.size := by omega
    have hq0 : w.heap.size < w2.heap.size := by omega
    go_wp2_with fail
    have hBa : Below w2.heap.size w2 (w2.alloc (Obj.cells #[.slice ao2 xs.length cap2] 26)) := (Below.refl _ _).alloc (Nat.le_refl _) _
    refine (snode_any x _ _ hs (by omega)).mono ?_
    rintro e w3 ⟨rfl, hb3⟩
    have hz3 : w3.heap[w2.heap.size]? = some (.cells #[.slice ao2 xs.length cap2] 26 (0, 0)) := (hb3.block _ (by simp)).trans (heap_alloc_new _ _)
    have hB23 := hBa.trans (hb3.mono hBa.size)
    have hx3 := (hB23.block _ (by omega)).trans hx2
    have hn3 := (hB23.block _ (by omega)).trans hn2
    have hy3 := (hB23.block _ hsz2).trans hy2
    have ho3 := own_below ho2 hB23
    have hB3 := hB2.trans (hB23.mono hB2.size)
    have hsz3 := (Array.getElem?_eq_some_iff.1 hz3).1
    have hs13 : w1.heap.size ≤ w3.heap.size := Nat.le_trans hb2.size hB23.size
    have hs12 : w1.heap.size ≤ w2.heap.size := hb2.size
    have hlt2 : ∀ k, (Value.slice ao2 xs.length cap2).ownBlock = some k → k < w2.heap.size := fun k hk => (ho2.lt k hk).2
    clear hc1 n0 n1 n2 n3 n4 hx2 hn2 hy2 hb3 hBa hB23 ho2 hb2
    have hc1 : w3.cell? ⟨w.heap.size, 0, none⟩ = some (.slice ao xs.length cap) := by rw [cell_of_row w3 _ 0 _ _ _ hx3]; rfl
    have hd1 : w3.cell? ⟨w.heap.size + 1 + 1, 0, none⟩ = some (.slice none 0 0) := by rw [cell_of_row w3 _ 0 _ _ _ hy3]; rfl
    have hf1 : w3.frozen? ⟨w.heap.size + 1 + 1, 0, none⟩ = false := frozen_of_row w3 _ 0 _ _ hy3
    have he1 : w3.cell? ⟨w2.heap.size, 0, none⟩ = some (.slice ao2 xs.length cap2) := by rw [cell_of_row w3 _ 0 _ _ _ hz3]; rfl
    have hg1 : w3.frozen? ⟨w2.heap.size, 0, none⟩ = false := frozen_of_row w3 _ 0 _ _ hz3
    have hcell : ∀ j, w3.cell? ⟨w.heap.size + 1, j, none⟩ = #[Value.int .i64 x.k, .int .i64 x.n, .string x.s, .int .i64 x.a, .int .i64 x.b][j]? := fun j => cell_of_row w3 _ j _ _ _ hn3
    have n0 := hcell 0
    have n1 := hcell 1
    have n2 := hcell 2
    have n3 := hcell 3
    have n4 := hcell 4
    simp only [List.getElem?_toArray, List.getElem?_cons_succ, List.getElem?_cons_zero] at n0 n1 n2 n3 n4
    clear hcell
    have hr1 : w.heap.size + 1 < w3.heap.size := by omega
    have hr0 : w.heap.size < w3.heap.size := by omega
    have hr2 : w.heap.size + 1 + 1 < w3.heap.size := by omega
    by_cases hn : nodeB x xs.length = true
    · rw [hn]
      by_cases h3 : xs.length = 3000
      · have HL : Hid (makeL xs x = xs) := by unfold Hid makeL; rw [if_pos hp, if_neg (by omega)]
        have HI : Hid (makeI xs x = -1) := by unfold Hid makeI; rw [if_pos hp, if_neg (by omega)]
        have h3' : (xs.length : Int) = 3000 := by omega
        clear h3
        obtain ⟨p1, p2, p3⟩ := put_pool hy3 ho3 hB3 (by omega) (by omega)
        clear n0 n1 n2 n3 n4
        go_wp2
        refine bodyPost_ret (results_row_tmp rfl _ _ (w.heap.size + 1 + 1) 26 _ (0, 0) _ rfl p1 Try.underlying26 rfl Try.sizeP) rfl ⟨_, by rw [HI.out]; rfl, ?_, p3⟩
        rw [HL.out]
        exact p2
      · have HL : Hid (makeL xs x = xs ++ [x]) := by unfold Hid makeL; rw [if_pos hp, if_pos ⟨by omega, hn⟩]
        have HI : Hid (makeI xs x = xs.length) := by unfold Hid makeI; rw [if_pos hp, if_pos ⟨by omega, hn⟩]
        have h3' : ¬ (xs.length : Int) = 3000 := by omega
        have L1 := NRow.lit1 w3 x hs
        go_wp2_with (at_builtin; refine wpList_append_own_any _ rfl _ _ 24 rfl w1.heap.size 28 i0 _ 5 48 Try.underlying24 hi hz0 hz1 hz2 rfl (by decide) _ _ _ rfl (ho3.alloc _) (some ⟨w3.heap.size, 0, none⟩) 1 1 (ncs [x]) rfl rfl L1.nilcap L1.cells (ncs_one _) (by unfold maxLen; omega) (by omega) (by simp; omega) ?_)
        intro v4 w4 ho4 hg4
        rw [← ncs_append] at ho4
        have ho4' : w4.ownsRow w1.heap.size 28 5 v4 (xs ++ [x]).length (ncs (xs ++ [x])) := by simpa using ho4
        generalize xs ++ [x] = L at ho4' HL
        obtain ⟨ao4, cap4, rfl⟩ := own_form ho4'
        have hbel4 : Below w1.heap.size (w3.alloc (Obj.cells #[.int .i64 x.k, .int .i64 x.n, .string x.s, .int .i64 x.a, .int .i64 x.b] 28)) w4 := (Below.refl _ _).grown hg4 (by simp; omega) (fun k hk => (ho3.lt k hk).1)
        have hz4 : w4.heap[w2.heap.size]? = some (.cells #[.slice ao2 xs.length cap2] 26 (0, 0)) := (hg4.block _ (by simp; omega) (fun h => absurd (hlt2 _ h.symm) (by omega))).trans ((heap_alloc_old _ _ hsz3).trans hz3)
        have hx4 := (hbel4.block w.heap.size (by omega)).trans ((heap_alloc_old _ _ (by omega)).trans hx3)
        have hy4 := (hbel4.block (w.heap.size + 1 + 1) (by omega)).trans ((heap_alloc_old _ _ (by omega)).trans hy3)
        have hB4 : Below w.heap.size w w4 := (hB3.alloc hB3.size _).trans (hbel4.mono (by omega))
        clear hg4 ho4 hbel4 hc1 hd1 hf1 he1 hg1 n0 n1 n2 n3 n4 hx3 hn3 hy3 hz3 ho3 L1
        have hc1 : w4.cell? ⟨w.heap.size, 0, none⟩ = some (.slice ao xs.length cap) := by rw [cell_of_row w4 _ 0 _ _ _ hx4]; rfl
        have hd1 : w4.cell? ⟨w.heap.size + 1 + 1, 0, none⟩ = some (.slice none 0 0) := by rw [cell_of_row w4 _ 0 _ _ _ hy4]; rfl
        have hf1 : w4.frozen? ⟨w.heap.size + 1 + 1, 0, none⟩ = false := frozen_of_row w4 _ 0 _ _ hy4
        have he1 : w4.cell? ⟨w2.heap.size, 0, none⟩ = some (.slice ao2 xs.length cap2) := by rw [cell_of_row w4 _ 0 _ _ _ hz4]; rfl
        have hg1 : w4.frozen? ⟨w2.heap.size, 0, none⟩ = false := frozen_of_row w4 _ 0 _ _ hz4
        have hne0 : w.heap.size ≠ w2.heap.size := by omega
        have hne2 : w.heap.size + 1 + 1 ≠ w2.heap.size := by omega
        have ho5 := ownsRow_setCell_other ho4' (a := ⟨w2.heap.size, 0, none⟩) (own_ne ho4' hz4 (by decide)) (.slice ao4 L.length cap4)
        have hy5 := (heap_setCell_other w4 ⟨w2.heap.size, 0, none⟩ (w.heap.size + 1 + 1) (.slice ao4 L.length cap4) hne2).trans hy4
        have hB5 := hB4.setCell (p := ⟨w2.heap.size, 0, none⟩) (by simp; omega) (.slice ao4 L.length cap4)
        obtain ⟨p1, p2, p3⟩ := put_pool hy5 ho5 hB5 (by omega) (by omega)
        go_wp2
        go_region
        all_goals
          go_wp2
          refine bodyPost_ret (results_row_tmp rfl _ _ (w.heap.size + 1 + 1) 26 _ (0, 0) _ rfl p1 Try.underlying26 rfl Try.sizeP) rfl ⟨_, by rw [HI.out]; rfl, ?_, p3.drew⟩
          rw [HL.out]
          exact p2.drew
    · have HL : Hid (makeL xs x = xs) := by unfold Hid makeL; rw [if_pos hp, if_neg (fun h => hn h.2)]
      have HI : Hid (makeI xs x = -1) := by unfold Hid makeI; rw [if_pos hp, if_neg (fun h => hn h.2)]
      rw [Bool.not_eq_true] at hn
      rw [hn]
      obtain ⟨p1, p2, p3⟩ := put_pool hy3 ho3 hB3 (by omega) (by omega)
      clear n0 n1 n2 n3 n4
      go_wp2
      refine bodyPost_ret (results_row_tmp rfl _ _ (w.heap.size + 1 + 1) 26 _ (0, 0) _ rfl p1 Try.underlying26 rfl Try.sizeP) rfl ⟨_, by rw [HI.out]; rfl, ?_, p3⟩
      rw [HL.out]
      exact p2
  · have HL : Hid (makeL xs x = []) := by unfold Hid makeL; rw [if_neg hp]
    have HI : Hid (makeI xs x = -1) := by unfold Hid makeI; rw [if_neg hp]
    rw [Bool.not_eq_true] at hp
    rw [hp]
    obtain ⟨p1, p2, p3⟩ := put_pool hy1 (World.ownsRow_nil w1 w1.heap.size 28 5) hB1 hsz1 (by omega)
    go_wp2_with fail
    refine bodyPost_ret (results_row_tmp rfl _ _ (w.heap.size + 1 + 1) 26 _ (0, 0) _ rfl p1 Try.underlying26 rfl Try.sizeP) rfl ⟨_, by rw [HI.out]; rfl, ?_, p3⟩
    rw [HL.out]
    exact p2
end Go.Proofs.Ytlnfhcfdcocepaa
