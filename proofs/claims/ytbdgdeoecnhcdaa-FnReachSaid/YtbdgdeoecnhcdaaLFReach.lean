/-
  The law FnReach, walked: at every argument it returns true.
-/
import Derived.Test.YtbdgdeoecnhcdaaDRoots
import Derived.Test.YtbdgdeoecnhcdaaSReach
import Derived.Test.YtbdgdeoecnhcdaaRcMath2
namespace Go.Proofs.Ytbdgdeoecnhcdaa
open Go.RowKit

set_option maxRecDepth 100000 in
set_option maxHeartbeats 400000 in
theorem freach_big (ao : Option Addr) (len cap : Nat) (w : World) (hl : 1048576 < len) (hm : len ≤ 9223372036854775807) :
    Calls Try.prog 3 #[.slice ao len cap] w fun e w' => e = .returned (.bool true) ∧ Below w.heap.size w w' := by
  go_enter Try.func3, Try.ntmps3
  go_wp2_with (go_at_call 6; go_in)
  go_ret
  exact ⟨rfl, Below.refl _ _⟩

set_option maxRecDepth 100000 in
set_option maxHeartbeats 3200000 in
theorem freach_small (ao : Option Addr) (cap : Nat) (zs : List Int) (w : World) (R : Row w (.slice ao zs.length cap) zs) (hl : zs.length ≤ 1048576) :
    Calls Try.prog 3 #[.slice ao zs.length cap] w fun e w' => e = .returned (.bool true) ∧ Below w.heap.size w w' := by
  go_enter Try.func3, Try.ntmps3
  go_wp2_with (go_at_call 6; go_in)
  refine (sdreach_any _ zs w R hl).mono ?_
  rintro e w1 ⟨v1, vl, xs, ls, rfl, hxl, hz, hls, ho1, hi1, b1⟩
  have R1 := NRow.of_own ho1 (by omega) (fun x hx => Nat.le_trans (hz x hx) (by unfold maxLen; omega))
  have L1 := IRow.of_own hi1 (by omega)
  obtain ⟨a1, q1, rfl⟩ := own_form ho1
  obtain ⟨al, ql, rfl⟩ := own_form hi1
  have hB1 : Below w1.heap.size w1 (w1.alloc (Obj.cells #[.slice a1 xs.length q1] 26)) := (Below.refl _ _).alloc (Nat.le_refl _) _
  clear ho1 hz hi1 R
  go_wp2_with fail
  refine (ireach_any _ _ xs ls _ (R1.below hB1) (L1.below hB1)).mono ?_
  rintro e w2 ⟨v2, rfl, ho2, hb2⟩
  obtain ⟨a2, q2, rfl⟩ := own_form ho2
  have hx2 : w2.heap[w1.heap.size]? = some (.cells #[.slice a1 xs.length q1] 26 (0, 0)) := (hb2.block _ (by simp)).trans (heap_alloc_new _ _)
  have hB2 := hB1.trans (hb2.mono hB1.size)
  have hc2 : w2.cell? ⟨w1.heap.size, 0, none⟩ = some (.slice a1 xs.length q1) := by rw [cell_of_row w2 _ 0 _ _ _ hx2]; rfl
  have hs2 := (Array.getElem?_eq_some_iff.1 hx2).1
  have hQl := reachR_len xs ls
  have B2 := BRow.of_own ho2 (by omega)
  clear hb2 hB1 ho2
  go_wp2_with fail
  refine (sreach_any7 _ _ xs ls _ (R1.below hB2) (L1.below hB2)).mono ?_
  rintro e w3 ⟨v3, rfl, ho3, hb3⟩
  obtain ⟨a3, q3, rfl⟩ := own_form ho3
  have B3 := BRow.of_own ho3 (by omega)
  have B2' := B2.below hb3
  have hB3 := hB2.trans (hb3.mono hB2.size)
  have hx3 := (hb3.block _ hs2).trans hx2
  have hs3 := (Array.getElem?_eq_some_iff.1 hx3).1
  have hBw := b1.trans (hB3.mono b1.size)
  have R3 := R1.below hB3
  have L3 := L1.below hB3
  clear hb3 hB2 hc2 hx2 hs2 ho3 B2 hB3 R1 L1 b1
  by_cases hne : reachR xs ls = []
  · have hQ0 : (reachR xs ls).length = 0 := by rw [hne]; rfl
    rw [hQ0]
    obtain ⟨_, _, e3, _, _, hcl⟩ := L3
    simp only [Value.slice.injEq, true_and] at e3
    obtain ⟨rfl, rfl⟩ := e3
    have hln : (ls.length : Int) ≤ 4 := by omega
    go_wp2_with fail
    refine wp_loop_rounds 1 ?_
    rw [rounds_succ]
    go_wp2_with fail
    refine wp_loop_rounds 1 ?_
    rw [rounds_succ]
    by_cases hl0 : ls.length = 0
    · rw [hl0]
      go_wp2_with fail
      go_ret
      exact ⟨rfl, hBw⟩
    · have hl1 : (0 : Int) < ls.length := by omega
      go_wp2_with fail
      go_ret
      exact ⟨rfl, hBw⟩
  have hpa : poolB xs = true ∧ allI xs ls = true := by
    unfold reachR at hne
    split at hne
    · rename_i h; simpa using h
    · exact absurd rfl hne
  obtain ⟨hp, hal⟩ := hpa
  have HQ : reachR xs ls = reachL xs ls := by unfold reachR; rw [hp, hal]; rfl
  rw [HQ] at B2' B3 hne ⊢
  have hQL := reachL_length xs ls
  have hroot : ∀ k, k < ls.length → 0 ≤ ls.getD k 0 ∧ ls.getD k 0 < xs.length ∧ (reachL xs ls).getD (ls.getD k 0).toNat false = true := fun k hk => by
    obtain ⟨h0, h1⟩ := allI_at hal k hk
    refine ⟨h0, h1, reach_root xs ls _ ?_ h0 h1⟩
    rw [List.getD_eq_getElem?_getD, List.getElem?_eq_getElem hk]
    exact List.getElem_mem _
  have hpart : ∀ (i : Nat) (x : Nd), xs[i]? = some x → nodeB x i = true ∧ ((reachL xs ls).getD i false = true → (hasA x.k = true → (reachL xs ls).getD x.a.toNat false = true) ∧ (hasB x.k = true → (reachL xs ls).getD x.b.toNat false = true)) := fun i x hx => ⟨poolB_at hp hx, fun ht => reach_parts xs ls (fun i x h => poolB_at hp h) i x hx ht⟩
  have hpos : 0 < xs.length := by
    rcases Nat.eq_zero_or_pos xs.length with h | h
    · rw [h] at hQL; exact absurd (List.eq_nil_of_length_eq_zero hQL) hne
    · exact h
  generalize reachL xs ls = Q at *
  clear HQ hQl hal
  rw [hQL]
  obtain ⟨_, _, e2, hca2, hm2, hcell2⟩ := B2'
  simp only [Value.slice.injEq, true_and] at e2
  obtain ⟨rfl, rfl⟩ := e2
  obtain ⟨_, _, e3, hca3, hm3, hcell3⟩ := B3
  simp only [Value.slice.injEq, true_and] at e3
  obtain ⟨rfl, rfl⟩ := e3
  obtain ⟨g2, o2, rfl, hg2, hcell2⟩ := hcell2 hne
  obtain ⟨g3, o3, rfl, hg3, hcell3⟩ := hcell3 hne
  obtain ⟨_, _, e4, hca4, hm4, _, hcell4⟩ := R3
  simp only [Value.slice.injEq, true_and] at e4
  obtain ⟨rfl, rfl⟩ := e4
  obtain ⟨_, _, e5, hca5, hm5, hcell5⟩ := L3
  simp only [Value.slice.injEq, true_and] at e5
  obtain ⟨rfl, rfl⟩ := e5
  obtain ⟨g4, o4, rfl, hg4, hcell4⟩ := hcell4 (by intro e; subst e; simp at hpos)
  go_wp2_with fail
  go_loopw [7] (fun i wr => ∃ k : Nat, k ≤ xs.length ∧ i = .int .i64 k ∧ Below w3.heap.size w3 wr) (fun i _ => xs.length - (intOf i).toNat)
  case atStart => exact ⟨0, by omega, rfl, Below.refl _ _⟩
  case round =>
    obtain ⟨k, hk, rfl, hB⟩ := hrel
    by_cases hlt : k < xs.length
    · have q2k := (hB.cell (p := ⟨g2, o2 + k, none⟩) hg2).trans (hcell2 k (by rw [hQL]; exact hlt))
      have q3k := (hB.cell (p := ⟨g3, o3 + k, none⟩) hg3).trans (hcell3 k (by rw [hQL]; exact hlt))
      obtain ⟨x, hx⟩ : ∃ x, xs[k]? = some x := ⟨xs[k], by simp⟩
      obtain ⟨c0, c1, c2, c3, c4⟩ := (hcell4 k x hx).below hB hg4
      have hcx : wr.cell? ⟨w1.heap.size, 0, none⟩ = some (.slice (some ⟨g4, o4, none⟩) xs.length q1) := (hB.cell (p := ⟨w1.heap.size, 0, none⟩) hs3).trans ((cell_of_row w3 _ 0 _ _ _ hx3).trans rfl)
      obtain ⟨hnb, hpt⟩ := hpart k x hx
      have hA : hasA x.k = true → 0 ≤ x.a ∧ x.a < (k : Int) := fun h => nodeB_A hnb h
      have hBb : hasB x.k = true → 0 ≤ x.b ∧ x.b < (k : Int) := fun h => nodeB_B hnb h
      have hcellq := fun (j : Nat) (hj : j < xs.length) => (hB.cell (p := ⟨g2, o2 + j, none⟩) hg2).trans (hcell2 j (by rw [hQL]; exact hj))
      have hsz := hB.size
      have hg2r : g2 < wr.heap.size := by omega
      have hg2n : g2 ≠ wr.heap.size := by omega
      clear hcell2 hcell3 hcell4 hpart hroot hx hnb
      have hgo : ∀ w6 : World, w6.heap[wr.heap.size]? = some (.cells #[.int .i64 x.k, .int .i64 x.n, .string x.s, .int .i64 x.a, .int .i64 x.b] 33 (0, 0)) → Below wr.heap.size wr w6 → (w6.cell? ⟨wr.heap.size, 0, none⟩ = some (.int .i64 x.k) ∧ w6.cell? ⟨wr.heap.size, 3, none⟩ = some (.int .i64 x.a) ∧ w6.cell? ⟨wr.heap.size, 4, none⟩ = some (.int .i64 x.b)) ∧ Below w3.heap.size w3 w6 := fun w6 hh hb => ⟨⟨cell_of_row w6 _ 0 _ _ _ hh, cell_of_row w6 _ 3 _ _ _ hh, cell_of_row w6 _ 4 _ _ _ hh⟩, hB.trans (hb.mono hB.size)⟩
      have hdr : ∀ (m : Nat) (o : Obj), Below wr.heap.size wr ((wr.drewN m).alloc o) := fun m o => (show Below wr.heap.size wr (wr.drewN m) from ⟨rfl, rfl, rfl, Nat.le_refl _, fun _ _ => rfl⟩).alloc (Nat.le_refl _) o
      cases hb : Q.getD k false with
      | false =>
        rw [hb] at q2k q3k
        clear hA hBb hcellq hpt hb
        go_wp2_with fail
        go_quiet (fail)
        go_wp2_with (refine wpList_store_own rfl 33 _ _ rfl wr.heap.size #[.int .i64 x.k, .int .i64 x.n, .string x.s, .int .i64 x.a, .int .i64 x.b] rfl rfl 33 _ (heap_alloc_new _ _) Try.sizeNW rfl (by simp [Value.oneCell']) ?_)
        intro w6 hh6 hb6 hs6
        have hb6' := (hdr _ _).trans hb6
        have q6 := (hb6'.cell (p := ⟨g2, o2 + k, none⟩) hg2r).trans q2k
        obtain ⟨⟨d0, d3, d4⟩, hB6⟩ := hgo w6 hh6 hb6'
        clear c0 c1 c2 c3 c4 q2k q3k hcx hh6 hb6 hb6' hgo hdr
        go_wp2_with fail
        go_roundw
        case rel => exact ⟨k + 1, by omega, by go_num, hB6⟩
        case measure => simp [intOf]; omega
      | true =>
        rw [hb] at q2k q3k
        have hpt := hpt hb
        go_wp2_with fail
        go_quiet (fail)
        go_wp2_with (refine wpList_store_own rfl 33 _ _ rfl wr.heap.size #[.int .i64 x.k, .int .i64 x.n, .string x.s, .int .i64 x.a, .int .i64 x.b] rfl rfl 33 _ (heap_alloc_new _ _) Try.sizeNW rfl (by simp [Value.oneCell']) ?_)
        intro w6 hh6 hb6 hs6
        have hb6' := (hdr _ _).trans hb6
        have q6 := (hb6'.cell (p := ⟨g2, o2 + k, none⟩) hg2r).trans q2k
        obtain ⟨⟨d0, d3, d4⟩, hB6⟩ := hgo w6 hh6 hb6'
        have hq6 := fun (j : Nat) (hj : j < xs.length) => (hb6'.cell (p := ⟨g2, o2 + j, none⟩) hg2r).trans (hcellq j hj)
        clear c0 c1 c2 c3 c4 q2k q3k hcx hh6 hb6 hb6' hgo hdr hcellq hb
        obtain ⟨kA, kB⟩ := hasA_kinds x.k
        by_cases h5 : x.k = 5
        · have h5A := kA.2 (Or.inl h5)
          have h5B := kB.2 h5
          obtain ⟨ha1, ha2⟩ := hA h5A
          obtain ⟨na, hna⟩ := Int.eq_ofNat_of_zero_le ha1
          obtain ⟨hb1, hb2⟩ := hBb h5B
          obtain ⟨nb', hnb'⟩ := Int.eq_ofNat_of_zero_le hb1
          have ea := hq6 na (by omega)
          have eb := hq6 nb' (by omega)
          have ta := hpt.1 h5A
          have tb := hpt.2 h5B
          rw [hna, Int.toNat_natCast] at ta
          rw [hnb', Int.toNat_natCast] at tb
          rw [ta] at ea
          rw [tb] at eb
          rw [h5] at d0
          rw [hna] at d3 ha2
          rw [hnb'] at d4 hb2
          clear hA hBb hpt hq6 kA kB ta tb
          go_wp2_with fail
          go_roundw
          case rel => exact ⟨k + 1, by omega, by go_num, hB6⟩
          case measure => simp [intOf]; omega
        have h5b : (x.k == 5) = false := by simp [h5]
        by_cases h67 : x.k = 6 ∨ x.k = 7
        · have h6A := kA.2 (Or.inr h67)
          obtain ⟨ha1, ha2⟩ := hA h6A
          obtain ⟨na, hna⟩ := Int.eq_ofNat_of_zero_le ha1
          have ea := hq6 na (by omega)
          have ta := hpt.1 h6A
          rw [hna, Int.toNat_natCast] at ta
          rw [ta] at ea
          rw [hna] at d3 ha2
          clear hA hBb hpt hq6 kA kB ta
          rcases h67 with h6 | h7
          · rw [h6] at d0
            go_wp2_with fail
            go_roundw
            case rel => exact ⟨k + 1, by omega, by go_num, hB6⟩
            case measure => simp [intOf]; omega
          · rw [h7] at d0
            go_wp2_with fail
            go_roundw
            case rel => exact ⟨k + 1, by omega, by go_num, hB6⟩
            case measure => simp [intOf]; omega
        · have h6b : (x.k == 6) = false := by simp; intro e; exact h67 (Or.inl e)
          have h7b : (x.k == 7) = false := by simp; intro e; exact h67 (Or.inr e)
          clear hA hBb hpt hq6 kA kB
          go_wp2_with fail
          go_roundw
          case rel => exact ⟨k + 1, by omega, by go_num, hB6⟩
          case measure => simp [intOf]; omega
    · clear hcell4 hpart hcell3
      have hBr := hBw.trans (hB.mono hBw.size)
      have hg2r : g2 < wr.heap.size := Nat.lt_of_lt_of_le hg2 hB.size
      have hc2 := fun (j : Nat) (hj : j < xs.length) => (hB.cell (p := ⟨g2, o2 + j, none⟩) hg2).trans (hcell2 j (by rw [hQL]; exact hj))
      have hc5 := fun (hne5 : ls ≠ []) => hcell5 hne5
      have hw5 := hB
      clear hcell2 hcell5
      go_wp2_with fail
      go_loopw [9] (fun i wq => ∃ k : Nat, k ≤ ls.length ∧ i = .int .i64 k ∧ wq = wr) (fun i _ => ls.length - (intOf i).toNat)
      case atStart => exact ⟨0, by omega, rfl, rfl⟩
      case round =>
        obtain ⟨j, hj, rfl, rfl⟩ := hrel
        by_cases hlt2 : j < ls.length
        · obtain ⟨g5, o5, rfl, hg5, hcell5⟩ := hc5 (by intro e; subst e; simp at hlt2)
          have ez := (hB.cell (p := ⟨g5, o5 + j, none⟩) hg5).trans (hcell5 j hlt2)
          obtain ⟨z0, z1, zt⟩ := hroot j hlt2
          generalize ls.getD j 0 = z at ez z0 z1 zt
          obtain ⟨nz, rfl⟩ := Int.eq_ofNat_of_zero_le z0
          have eq := hc2 nz (by omega)
          rw [Int.toNat_natCast] at zt
          rw [zt] at eq
          have hpos' : (0 : Int) < xs.length := by omega
          clear hc2 hc5 hcell5 hroot zt
          go_wp2_with fail
          go_roundw
          case rel => exact ⟨j + 1, by omega, by go_num, trivial⟩
          case measure => simp [intOf]; omega
        · have hje : j = ls.length := by omega
          go_wp2_with fail
          go_ret
          exact ⟨rfl, hBr⟩
end Go.Proofs.Ytbdgdeoecnhcdaa
