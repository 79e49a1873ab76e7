/-
  The law FnSize, walked: at every argument it returns true.
-/
import Derived.Test.YtflhloohpobghacDraw11
namespace Go.Proofs.Ytflhloohpobghac
open Go.RowKit

set_option maxRecDepth 100000 in
set_option maxHeartbeats 400000 in
theorem fsize_big (ao : Option Addr) (len cap : Nat) (w : World) (hl : 1048576 < len) (hm : len ≤ 9223372036854775807) :
    Calls Try.prog 4 #[.slice ao len cap] w fun e w' => e = .returned (.bool true) ∧ Below w.heap.size w w' := by
  go_enter Try.func4, Try.ntmps4
  go_wp2_with (go_at_call 5; go_in)
  go_ret
  exact ⟨rfl, Below.refl _ _⟩

theorem sizeR_bounds (xs : List Nd) (a : Int) : 0 ≤ sizeR xs a ∧ sizeR xs a ≤ 1000000000 := by
  unfold sizeR
  split
  · exact getD_mem_bounds _ _ (sizesTo_bounds xs xs.length)
  · omega
theorem sizeR_step (xs : List Nd) (a : Nat) (x : Nd) (hp : poolB xs = true) (hx : xs[a]? = some x) :
    sizeR xs a = min (1 + (if hasA x.k then sizeR xs x.a else 0) + (if hasB x.k then sizeR xs x.b else 0)) 1000000000 := by
  have hl : a < xs.length := (List.getElem?_eq_some_iff.1 hx).1
  have hnb := poolB_at hp hx
  have e : sizeR xs a = szN (sizesTo xs a) x := by
    unfold sizeR
    rw [hp, show hasI xs a = true by unfold hasI; simp [hl], Bool.and_self, if_pos rfl, Int.toNat_natCast, sizesTo_prefix xs (a + 1) a (by omega) (by omega), sizesTo_succ xs a x hx]
    have := sizesTo_length xs a (by omega)
    simp only [List.getD_eq_getElem?_getD]
    rw [List.getElem?_append_right (by omega), this]
    simp
  rw [e]
  unfold szN szA szB
  have part : ∀ q : Int, 0 ≤ q → q < a → sizeR xs q = (sizesTo xs a).getD q.toNat 0 := fun q h0 h1 => by
    obtain ⟨m, rfl⟩ := Int.eq_ofNat_of_zero_le h0
    unfold sizeR
    rw [hp, show hasI xs (m : Nat) = true by unfold hasI; simp; omega, Bool.and_self, if_pos rfl, Int.toNat_natCast, sizesTo_prefix xs a m (by omega) (by omega)]
  cases hA : hasA x.k with
  | false =>
    cases hB : hasB x.k with
    | false => rfl
    | true => have := nodeB_B hnb hB; rw [part x.b this.1 this.2]; rfl
  | true =>
    have h1 := nodeB_A hnb hA
    rw [part x.a h1.1 h1.2]
    cases hB : hasB x.k with
    | false => rfl
    | true => have := nodeB_B hnb hB; rw [part x.b this.1 this.2]

set_option maxRecDepth 100000 in
set_option maxHeartbeats 3200000 in
theorem fsize_small (ao : Option Addr) (cap : Nat) (zs : List Int) (w : World) (R : Row w (.slice ao zs.length cap) zs) (hl : zs.length ≤ 1048576) :
    Calls Try.prog 4 #[.slice ao zs.length cap] w fun e w' => e = .returned (.bool true) ∧ Below w.heap.size w w' := by
  go_enter Try.func4, Try.ntmps4
  go_wp2_with (go_at_call 5; go_in)
  refine (dsizeof_any _ zs w R hl).mono ?_
  rintro e w1 ⟨v1, xs, a, rfl, hxl, hz, ho1, ha0, ha1, b1⟩
  have R1 := NRow.of_own ho1 (by omega) (fun x hx => Nat.le_trans (hz x hx) (by unfold maxLen; omega))
  obtain ⟨a1, q1, rfl⟩ := own_form ho1
  have hB1 : Below w1.heap.size w1 (w1.alloc (Obj.cells #[.slice a1 xs.length q1] 26)) := (Below.refl _ _).alloc (Nat.le_refl _) _
  clear ho1 hz
  go_wp2_with fail
  refine (isize_any _ xs a _ (R1.below hB1)).mono ?_
  rintro e w2 ⟨rfl, hb2⟩
  have hx2 : w2.heap[w1.heap.size]? = some (.cells #[.slice a1 xs.length q1] 26 (0, 0)) := (hb2.block _ (by simp)).trans (heap_alloc_new _ _)
  have hB2 := hB1.trans (hb2.mono hB1.size)
  have hc2 : w2.cell? ⟨w1.heap.size, 0, none⟩ = some (.slice a1 xs.length q1) := by rw [cell_of_row w2 _ 0 _ _ _ hx2]; rfl
  have hs2 := (Array.getElem?_eq_some_iff.1 hx2).1
  clear hb2 hB1
  obtain ⟨n, hn⟩ : ∃ n, n = sizeR xs a := ⟨_, rfl⟩
  have SS := ssize_any _ xs a _ (R1.below hB2)
  rw [← hn] at SS ⊢
  have HN : Hid (n = sizeR xs a) := hn
  clear hn
  go_wp2_with fail
  refine SS.mono ?_
  rintro e w3 ⟨rfl, hb3⟩
  have hB3 := hB2.trans (hb3.mono hB2.size)
  have hx3 := (hb3.block _ hs2).trans hx2
  have hc3 : w3.cell? ⟨w1.heap.size, 0, none⟩ = some (.slice a1 xs.length q1) := by rw [cell_of_row w3 _ 0 _ _ _ hx3]; rfl
  have hs3 := (Array.getElem?_eq_some_iff.1 hx3).1
  have hBw := b1.trans (hB3.mono b1.size)
  clear hb3 hB2 hc2 hx2 hs2 SS
  cases hok : (poolB xs && hasI xs a) with
  | false =>
    have hn0 : n = 0 := by rw [HN.out]; unfold sizeR; rw [hok]; rfl
    subst hn0
    go_wp2_with fail
    refine (spool_any _ xs _ (R1.below hB3)).mono ?_
    rintro e w4 ⟨rfl, hb4⟩
    have hc4 := (hb4.cell (p := ⟨w1.heap.size, 0, none⟩) hs3).trans hc3
    have hB4 := hBw.trans (hb4.mono hBw.size)
    cases hp : poolB xs with
    | false =>
      clear hok
      go_wp2_with fail
      go_ret
      exact ⟨rfl, hB4⟩
    | true =>
      rw [hp, Bool.true_and] at hok
      have hia : a < 0 ∨ (0 ≤ a ∧ (xs.length : Int) ≤ a) := by
        unfold hasI at hok
        simp only [Bool.and_eq_false_iff, decide_eq_false_iff_not] at hok
        omega
      clear hok
      rcases hia with h | ⟨h, h'⟩
      all_goals
        go_wp2_with fail
        go_ret
        exact ⟨rfl, hB4⟩
  | true =>
    simp only [Bool.and_eq_true, hasI, decide_eq_true_eq] at hok
    obtain ⟨hp, hi0, hi1⟩ := hok
    obtain ⟨i, rfl⟩ := Int.eq_ofNat_of_zero_le hi0
    have hil : i < xs.length := by omega
    obtain ⟨x, hx⟩ : ∃ x, xs[i]? = some x := ⟨xs[i], by simp [hil]⟩
    have R1' := R1
    obtain ⟨ao', cap', e', ⟨hcap, _⟩, _, _, hcell⟩ := R1'
    simp only [Value.slice.injEq, true_and] at e'
    obtain ⟨rfl, rfl⟩ := e'
    obtain ⟨g, o, rfl, hg, hcell⟩ := hcell (by intro e; subst e; simp at hil)
    obtain ⟨c0, c1, c2, c3, c4⟩ := (hcell i x hx).below hB3 hg
    have hst := sizeR_step xs i x hp hx
    rw [← HN.out] at hst
    obtain ⟨za, hza⟩ : ∃ za, za = sizeR xs x.a := ⟨_, rfl⟩
    obtain ⟨zb, hzb⟩ : ∃ zb, zb = sizeR xs x.b := ⟨_, rfl⟩
    have IA := fun W R => isize_any (.slice (some ⟨g, o, none⟩) xs.length q1) xs x.a W R
    have IB := fun W R => isize_any (.slice (some ⟨g, o, none⟩) xs.length q1) xs x.b W R
    have ba := sizeR_bounds xs x.a
    have bb := sizeR_bounds xs x.b
    rw [← hza] at IA ba hst
    rw [← hzb] at IB bb hst
    have hB4 := fun o => (Below.refl w3.heap.size w3).alloc (Nat.le_refl _) o
    have RW := fun o => R1.below (hB3.trans ((hB4 o).mono hB3.size))
    have hBw4 := fun o => hBw.trans ((hB4 o).mono hBw.size)
    clear hcell hx hza hzb HN hB3 R1
    by_cases h5 : x.k = 5
    · have hA : hasA x.k = true := by unfold hasA; simp [h5]
      have hBB : hasB x.k = true := by unfold hasB; simp [h5]
      rw [hA, hBB, if_pos rfl, if_pos rfl] at hst
      have hn1 : (n = 1 + za + zb ∧ 1 + za + zb ≤ 1000000000) ∨ (n = 1000000000 ∧ 1000000000 < 1 + za + zb) := by omega
      clear hst hA hBB
      rcases hn1 with ⟨rfl, hle⟩ | ⟨rfl, hle⟩
      all_goals
        go_wp2_with fail
        refine (IA _ (RW _)).mono ?_
        rintro e w5 ⟨rfl, hb5⟩
        have hx5 : w5.heap[w3.heap.size]? = some (ndO ⟨5, x.n, x.s, x.a, x.b⟩) := (hb5.block _ (by simp)).trans (heap_alloc_new _ _)
        have hy5 := (hb5.block w1.heap.size (by simp; omega)).trans ((heap_alloc_old _ _ hs3).trans hx3)
        have hc5 : w5.cell? ⟨w1.heap.size, 0, none⟩ = some (.slice (some ⟨g, o, none⟩) xs.length q1) := by rw [cell_of_row w5 _ 0 _ _ _ hy5]; rfl
        obtain ⟨d0, d1, d2, d3, d4⟩ := nd_cells hx5
        have RW5 := (RW _).below hb5
        have hBw5 := (hBw4 _).trans (hb5.mono (hBw4 _).size)
        go_wp2_with fail
        refine (IB _ RW5).mono ?_
        rintro e w6 ⟨rfl, hb6⟩
        have hBw6 := hBw5.trans (hb6.mono hBw5.size)
        clear hb5 hb6 hx5 hy5 hc5 d0 d1 d2 d3 d4 RW5 RW IA IB c0 c1 c2 c3 c4 hc3
        go_wp2_with fail
        go_ret
        exact ⟨rfl, hBw6⟩
    by_cases h67 : x.k = 6 ∨ x.k = 7
    · have hA : hasA x.k = true := by unfold hasA; simp [h67]
      have hBB : hasB x.k = false := by unfold hasB; simp [h5]
      rw [hA, hBB, if_pos rfl, if_neg (by simp)] at hst
      have hn1 : (n = 1 + za ∧ 1 + za ≤ 1000000000) ∨ (n = 1000000000 ∧ 1000000000 < 1 + za) := by omega
      clear hst hA hBB
      rcases hn1 with ⟨rfl, hle⟩ | ⟨rfl, hle⟩
      all_goals
        rcases h67 with h6 | h6
        · go_wp2_with fail
          refine (IA _ (RW _)).mono ?_
          rintro e w5 ⟨rfl, hb5⟩
          have hx5 : w5.heap[w3.heap.size]? = some (ndO ⟨6, x.n, x.s, x.a, x.b⟩) := (hb5.block _ (by simp)).trans (heap_alloc_new _ _)
          obtain ⟨d0, d1, d2, d3, d4⟩ := nd_cells hx5
          have hBw5 := (hBw4 _).trans (hb5.mono (hBw4 _).size)
          clear hb5 RW IA IB c0 c1 c2 c3 c4 hc3
          go_wp2_with fail
          go_ret
          exact ⟨rfl, hBw5⟩
        · go_wp2_with fail
          refine (IA _ (RW _)).mono ?_
          rintro e w5 ⟨rfl, hb5⟩
          have hx5 : w5.heap[w3.heap.size]? = some (ndO ⟨7, x.n, x.s, x.a, x.b⟩) := (hb5.block _ (by simp)).trans (heap_alloc_new _ _)
          obtain ⟨d0, d1, d2, d3, d4⟩ := nd_cells hx5
          have hBw5 := (hBw4 _).trans (hb5.mono (hBw4 _).size)
          clear hb5 RW IA IB c0 c1 c2 c3 c4 hc3
          go_wp2_with fail
          go_ret
          exact ⟨rfl, hBw5⟩
    · have hA : hasA x.k = false := by unfold hasA; simp; omega
      have hBB : hasB x.k = false := by unfold hasB; simp [h5]
      rw [hA, hBB, if_neg (by simp), if_neg (by simp)] at hst
      have hn1 : n = 1 := by omega
      have h6 : ¬ x.k = 6 := by omega
      have h7 : ¬ x.k = 7 := by omega
      have h5b : (x.k == 5) = false := by simp [h5]
      have h6b : (x.k == 6) = false := by simp [h6]
      have h7b : (x.k == 7) = false := by simp [h7]
      clear hst hA hBB h67 IA IB
      subst hn1
      go_wp2_with fail
      go_ret
      exact ⟨rfl, hBw4 _⟩
end Go.Proofs.Ytflhloohpobghac
