/-
  The law FnMade, walked: at every argument it returns true.
-/
import Derived.Test.YtlnfhcfdcocepaaDraw12
import Derived.Test.YtlnfhcfdcocepaaSMake
import Derived.Test.YtlnfhcfdcocepaaISame
import Derived.Test.YtlnfhcfdcocepaaLSz
import Derived.Deep.RegionHeld
namespace Go.Proofs.Ytlnfhcfdcocepaa
open Go.RowKit

set_option maxRecDepth 100000 in
set_option maxHeartbeats 400000 in
theorem fmade_big (ao : Option Addr) (len cap : Nat) (w : World) (hl : 1048576 < len) (hm : len ≤ 9223372036854775807) :
    Calls Try.prog 3 #[.slice ao len cap] w fun e w' => e = .returned (.bool true) ∧ Below w.heap.size w w' := by
  go_enter Try.func3, Try.ntmps3
  go_wp2_with (go_at_call 5; go_in)
  go_ret
  exact ⟨rfl, Below.refl _ _⟩

theorem nodesB_snoc (xs : List Nd) (x : Nd) (i : Nat) : nodesB (xs ++ [x]) i = (nodesB xs i && nodeB x ((i + xs.length : Nat) : Int)) := by
  induction xs generalizing i with
  | nil => simp [nodesB]
  | cons y ys ih =>
    simp only [List.cons_append, nodesB, ih, Bool.and_assoc, List.length_cons]
    rw [show i + 1 + ys.length = i + (ys.length + 1) by omega]
theorem poolB_snoc {xs : List Nd} {x : Nd} (h : poolB xs = true) (hx : nodeB x xs.length = true) (hl : xs.length ≠ 3000) : poolB (xs ++ [x]) = true := by
  unfold poolB at h ⊢
  simp only [Bool.and_eq_true, decide_eq_true_eq] at h
  rw [nodesB_snoc, h.2, Nat.zero_add, hx]
  simp; omega
theorem makeL_ok {xs : List Nd} {x : Nd} (hz : ∀ y ∈ xs, y.s.size ≤ 40) (hx : x.s.size ≤ 40) : ∀ y ∈ makeL xs x, y.s.size ≤ 40 := by
  intro y hy
  unfold makeL at hy
  split at hy
  · split at hy
    · simp only [List.mem_append, List.mem_singleton] at hy
      rcases hy with hy | rfl
      · exact hz y hy
      · exact hx
    · exact hz y hy
  · simp at hy
theorem makeL_len (xs : List Nd) (x : Nd) : (makeL xs x).length ≤ xs.length + 1 := by
  unfold makeL
  split
  · split <;> simp
  · simp
theorem node_nneq (y : Nd) (w : World) : (binOp .neq 28 (.agg #[.int .i64 y.k, .int .i64 y.n, .string y.s, .int .i64 y.a, .int .i64 y.b]) (.agg #[.int .i64 y.k, .int .i64 y.n, .string y.s, .int .i64 y.a, .int .i64 y.b])).run Try.prog w = .ok (.bool false) w := by
  simp [go_sem]
theorem node_eqq (y : Nd) (w : World) : (binOp .eql 28 (.agg #[.int .i64 y.k, .int .i64 y.n, .string y.s, .int .i64 y.a, .int .i64 y.b]) (.agg #[.int .i64 y.k, .int .i64 y.n, .string y.s, .int .i64 y.a, .int .i64 y.b])).run Try.prog w = .ok (.bool true) w := by
  simp [go_sem]
theorem m40 {n : Nat} (h : n ≤ 40) : n ≤ maxLen := Nat.le_trans h (by unfold maxLen; omega)
theorem below_drew1 {w w' : World} (h : Below w.drew.heap.size w.drew w') : Below w.heap.size w w' := ⟨h.os, h.tape, h.output, h.size, h.block⟩

set_option maxRecDepth 100000 in
set_option maxHeartbeats 3200000 in
theorem fmade_small (ao : Option Addr) (cap : Nat) (zs : List Int) (w : World) (R : Row w (.slice ao zs.length cap) zs) (hl : zs.length ≤ 1048576) :
    Calls Try.prog 3 #[.slice ao zs.length cap] w fun e w' => e = .returned (.bool true) ∧ Below w.heap.size w w' := by
  go_enter Try.func3, Try.ntmps3
  go_wp2_with (go_at_call 5; go_in)
  refine (dmake_any _ zs w R hl).mono ?_
  rintro e w1 ⟨v1, xs, x, rfl, hxl, hz, hx40, ho1, b1⟩
  have R1 := NRow.of_own ho1 (by omega) (fun y hy => m40 (hz y hy))
  obtain ⟨a1, q1, rfl⟩ := own_form ho1
  have hzL := makeL_ok hz hx40
  have hB1 : Below w1.heap.size w1 ((w1.alloc (Obj.cells #[.slice a1 xs.length q1] 26)).alloc (ndO x)) := ((Below.refl _ _).alloc (Nat.le_refl _) _).alloc (by simp) _
  clear ho1 hz
  rw [ndV]
  go_wp2_with fail
  refine (imake_any _ xs x _ (R1.below hB1) (m40 hx40)).mono ?_
  rintro e w2 ⟨v2, rfl, ho2, hb2⟩
  have hp2 : w2.heap[w1.heap.size]? = some (.cells #[.slice a1 xs.length q1] 26 (0, 0)) := (hb2.block _ (by simp; omega)).trans ((heap_alloc_old _ _ (by simp)).trans (heap_alloc_new _ _))
  have hn2 : w2.heap[w1.heap.size + 1]? = some (ndO x) := (hb2.block _ (by simp)).trans (heap_alloc2_new _ _ _)
  have hB2 : Below w1.heap.size w1 w2 := hB1.trans (hb2.mono hB1.size)
  obtain ⟨LQ, hLQ⟩ : ∃ LQ, LQ = makeL xs x := ⟨_, rfl⟩
  obtain ⟨nI, hnI⟩ : ∃ nI, nI = makeI xs x := ⟨_, rfl⟩
  rw [← hLQ] at ho2 hzL
  have hLQl : LQ.length ≤ 3002 := by rw [hLQ]; have := makeL_len xs x; omega
  have R2 := NRow.of_own ho2 (by omega) (fun y hy => m40 (hzL y hy))
  obtain ⟨a2, q2, rfl⟩ := own_form ho2
  have hs2 := (Array.getElem?_eq_some_iff.1 hn2).1
  have SM := smake_any (.slice a1 xs.length q1) xs x (w2.alloc (Obj.cells #[.slice a2 LQ.length q2] 26)) (R1.below (hB2.trans (((Below.refl _ _).alloc (Nat.le_refl _) _).mono hB2.size))) (m40 hx40)
  rw [← hnI] at SM ⊢
  have HL : Hid (LQ = makeL xs x) := hLQ
  have HI : Hid (nI = makeI xs x) := hnI
  have hcp2 : w2.cell? ⟨w1.heap.size, 0, none⟩ = some (.slice a1 xs.length q1) := cell_of_row w2 _ 0 _ _ _ hp2
  obtain ⟨d0, d1, d2, d3, d4⟩ := nd_cells hn2
  have hn2' := (heap_alloc_old w2 (Obj.cells #[.slice a2 LQ.length q2] 26) hs2).trans hn2
  have hp2' := (heap_alloc_old w2 (Obj.cells #[.slice a2 LQ.length q2] 26) (by omega : w1.heap.size < w2.heap.size)).trans hp2
  have kp2 : (w2.alloc (Obj.cells #[.slice a2 LQ.length q2] 26)).cell? ⟨w1.heap.size, 0, none⟩ = some (.slice a1 xs.length q1) := cell_of_row _ _ 0 _ _ _ hp2'
  obtain ⟨t0, t1, t2, t3, t4⟩ := nd_cells hn2'
  clear hn2' hp2' hcp2 d0 d1 d2 d3 d4
  clear hLQ hnI ho2 hb2 hB1 hzL
  go_wp2_with fail
  refine SM.mono ?_
  rintro e w3 ⟨v3, rfl, ho3, hb3⟩
  have hq3 : w3.heap[w2.heap.size]? = some (.cells #[.slice a2 LQ.length q2] 26 (0, 0)) := (hb3.block _ (by simp)).trans (heap_alloc_new _ _)
  have hp3 := (hb3.block w1.heap.size (by simp; omega)).trans ((heap_alloc_old _ _ (by omega)).trans hp2)
  have hn3 := (hb3.block (w1.heap.size + 1) (by simp; omega)).trans ((heap_alloc_old _ _ hs2).trans hn2)
  have hB23 : Below w2.heap.size w2 w3 := ((Below.refl w2.heap.size w2).alloc (Nat.le_refl _) _).trans (hb3.mono (by simp))
  have hB3 := hB2.trans (hB23.mono hB2.size)
  have hs3 := (Array.getElem?_eq_some_iff.1 hq3).1
  obtain ⟨a3, q3, rfl⟩ := own_form ho3
  have hB34 := (Below.refl w3.heap.size w3).alloc (Nat.le_refl _) (Obj.cells #[.slice a3 (makeL xs x).length q3] 26)
  have hq4 := (hB34.block _ hs3).trans hq3
  have hp4 := (hB34.block w1.heap.size (by omega)).trans hp3
  have hn4 := (hB34.block (w1.heap.size + 1) (by omega)).trans hn3
  have RP := R1.below (hB3.trans (hB34.mono hB3.size))
  have RQ := R2.below (hB23.trans (hB34.mono hB23.size))
  have hBw := (b1.trans (hB3.mono b1.size)).trans (hB34.mono (b1.trans (hB3.mono b1.size)).size)
  have hs4 : w3.heap.size < (w3.alloc (Obj.cells #[.slice a3 (makeL xs x).length q3] 26)).heap.size := by simp
  clear SM hb3 ho3 hp2 hn2 hB2 hB23 hB3 hB34 kp2 t0 t1 t2 t3 t4 R1 R2 b1 hp3 hn3 hq3
  go_upto_region 6 with fail
  rw [← HL.out] at hs4 hq4 hp4 hn4 RP RQ hBw ⊢
  generalize w3.alloc (Obj.cells #[.slice a3 LQ.length q3] 26) = w4 at hs4 hq4 hp4 hn4 RP RQ hBw ⊢
  have hlp : w1.heap.size + 1 < w4.heap.size := by omega
  have hlq : w2.heap.size < w4.heap.size := by omega
  have hpq : w1.heap.size + 1 < w2.heap.size := hs2
  generalize w1.heap.size = bp at hp4 hn4 hlp hpq ⊢
  generalize w2.heap.size = bq at hq4 hlq hpq ⊢
  clear hs4 hs2 hs3
  have kp : w4.cell? ⟨bp, 0, none⟩ = some (.slice a1 xs.length q1) := cell_of_row w4 _ 0 _ _ _ hp4
  go_cut [38] from 10 (fun s38 wx => s38 = .bool false ∧ Below w4.heap.size w4 wx)
  case first =>
    go_wp2_with fail
    go_region_held (fun w' => w'.cell? ⟨bp, 0, none⟩ = some (.slice a1 xs.length q1)) (first | exact ki | exact ks | go_keep) (first
      | (go_at_call 9; refine (ipool_any _ xs _ ?_).mono ?_; (first | exact RP.below hbs | exact RP.below (Below.refl _ _).drew); rintro e w5 ⟨rfl, hb5⟩; have hbi : Below w4.heap.size w4 w5 := (by first | exact hbs.trans (hb5.mono hbs.size) | exact below_drew1 hb5); have ki := (hbi.cell (p := ⟨bp, 0, none⟩) (show bp < w4.heap.size by omega)).trans kp)
      | (go_at_call 10; refine (spool_any _ xs _ ?_).mono ?_; (first | exact RP.below hbi | exact RP.below (Below.refl _ _).drew); rintro e w6 ⟨rfl, hb6⟩; have hbs : Below w4.heap.size w4 w6 := (by first | exact hbi.trans (hb6.mono hbi.size) | exact below_drew1 hb6); have ks := (hbs.cell (p := ⟨bp, 0, none⟩) (show bp < w4.heap.size by omega)).trans kp))
    all_goals
      go_wp2_with fail
      go_meet
      case rel => exact ⟨by simp, by first | exact hbs | exact hbi⟩
  case rest =>
    obtain ⟨rfl, hb5⟩ := hcut
    obtain ⟨w5, hw5⟩ : ∃ w5, w5 = wc := ⟨_, rfl⟩
    subst hw5
    have hp5 := (hb5.block bp (by omega)).trans hp4
    have hn5 := (hb5.block (bp + 1) (by omega)).trans hn4
    have hq5 := (hb5.block bq (by omega)).trans hq4
    have RP5 := RP.below hb5
    have RQ5 := RQ.below hb5
    have hBw5 := hBw.trans (hb5.mono hBw.size)
    have kp5 : w5.cell? ⟨bp, 0, none⟩ = some (.slice a1 xs.length q1) := cell_of_row w5 _ 0 _ _ _ hp5
    have kq5 : w5.cell? ⟨bq, 0, none⟩ = some (.slice a2 LQ.length q2) := cell_of_row w5 _ 0 _ _ _ hq5
    have hl5 := (Array.getElem?_eq_some_iff.1 hq5).1
    clear hp4 hn4 hq4 RP RQ hBw hb5 kp
    by_cases hok : poolB xs = true ∧ xs.length ≠ 3000 ∧ nodeB x xs.length = true
    · have e1 : nI = xs.length := by rw [HI.out]; unfold makeI; rw [if_pos hok.1, if_pos hok.2]
      have e2 : LQ = xs ++ [x] := by rw [HL.out]; unfold makeL; rw [if_pos hok.1, if_pos hok.2]
      have hLl : xs.length < LQ.length := by rw [e2]; simp
      have hpL : poolB LQ = true := by rw [e2]; exact poolB_snoc hok.1 hok.2.2 hok.2.1
      have hgx : LQ[xs.length]? = some x := by rw [e2]; simp
      have hgi : ∀ i y, xs[i]? = some y → LQ[i]? = some y := fun i y h => by rw [e2, List.getElem?_append_left (List.getElem?_eq_some_iff.1 h).1]; exact h
      have hsm : sameR LQ xs.length xs.length = true := by unfold sameR hasI; rw [hpL]; simp [hLl]
      have hsz1 : 1 ≤ sizeR LQ xs.length := by
        have b1 := sizeR_bounds LQ x.a
        have b2 := sizeR_bounds LQ x.b
        rw [sizeR_step LQ xs.length x hpL hgx]
        split <;> split <;> omega
      have IP := fun W R => ipool_any (.slice a2 LQ.length q2) LQ W R
      have IS := fun W R => isame_any (.slice a2 LQ.length q2) LQ xs.length xs.length W R
      have IZ := fun W R => isize_any (.slice a2 LQ.length q2) LQ xs.length W R
      rw [hpL] at IP
      rw [hsm] at IS
      generalize sizeR LQ xs.length = sz at hsz1 IZ
      have RP' := RP5
      have RQ' := RQ5
      obtain ⟨ap, qp, e', _, _, _, hcellP⟩ := RP'
      simp only [Value.slice.injEq, true_and] at e'
      obtain ⟨rfl, rfl⟩ := e'
      obtain ⟨aq, qq, e', _, _, _, hcellQ⟩ := RQ'
      simp only [Value.slice.injEq, true_and] at e'
      obtain ⟨rfl, rfl⟩ := e'
      obtain ⟨gq, oq, rfl, hgq, hcellQ⟩ := hcellQ (by intro e; rw [e] at hLl; simp at hLl)
      have hq0 := hcellQ xs.length x hgx
      subst e1
      have hok1 : Hid (poolB xs = true ∧ xs.length ≠ 3000 ∧ nodeB x xs.length = true) := hok
      have HLL : Hid (LQ = xs ++ [x]) := e2
      clear hok e2 HI HL hsm hpL
      go_wp2_with fail
      go_loopw [9] (fun i wr => ∃ (k m : Nat), k ≤ xs.length ∧ i = .int .i64 k ∧ wr = w5.drewN m) (fun i _ => xs.length - (intOf i).toNat)
      case atStart => exact ⟨0, 0, by omega, rfl, rfl⟩
      case round =>
        obtain ⟨k, m, hk, rfl, rfl⟩ := hrel
        by_cases hlt : k < xs.length
        · obtain ⟨y, hy⟩ : ∃ y, xs[k]? = some y := ⟨xs[k], by simp [hlt]⟩
          obtain ⟨gp, op, rfl, hgp, hcellP⟩ := hcellP (by intro e; subst e; simp at hlt)
          obtain ⟨c0, c1, c2, c3, c4⟩ := hcellP k y hy
          obtain ⟨e0, e1, e2, e3, e4⟩ := hcellQ k y (hgi k y hy)
          have hq := node_nneq y
          clear hy hgi hgx hq0 hcellQ hcellP IP IS IZ
          go_wp2_with fail
          go_quiet (fail)
          go_wp2_with fail
          go_roundw
          case rel => exact ⟨k + 1, _, by omega, by go_num, rfl⟩
          case measure => simp [intOf]; omega
        · have hkx : k = xs.length := by omega
          subst hkx
          clear hcellP hcellQ hgi hlt
          generalize hw6 : w5.drewN m = w6
          have hB56 : Below w5.heap.size w5 w6 := by rw [← hw6]; exact belowN (Below.refl _ _) m
          clear hw6
          have hBw6 := hBw5.trans (hB56.mono hBw5.size)
          have RQ6 := RQ5.below hB56
          have hp6 := (hB56.block bp (by omega)).trans hp5
          have hn6 := (hB56.block (bp + 1) (by omega)).trans hn5
          have hq6 := (hB56.block bq (by omega)).trans hq5
          have hq6c := hq0.below hB56 hgq
          have hl6 := (Array.getElem?_eq_some_iff.1 hq6).1
          have hgq6 := Nat.lt_of_lt_of_le hgq hB56.size
          have hS : ∀ W' : World, Below w6.heap.size w6 W' → (W'.cell? ⟨bp, 0, none⟩ = some (.slice a1 xs.length q1) ∧ W'.cell? ⟨bq, 0, none⟩ = some (.slice (some ⟨gq, oq, none⟩) LQ.length q2) ∧ W'.cell? ⟨bp + 1, 0, none⟩ = some (.int .i64 x.k) ∧ W'.cell? ⟨bp + 1, 1, none⟩ = some (.int .i64 x.n) ∧ W'.cell? ⟨bp + 1, 2, none⟩ = some (.string x.s) ∧ W'.cell? ⟨bp + 1, 3, none⟩ = some (.int .i64 x.a) ∧ W'.cell? ⟨bp + 1, 4, none⟩ = some (.int .i64 x.b) ∧
              W'.cell? ⟨gq, oq + xs.length * 5, none⟩ = some (.int .i64 x.k) ∧ W'.cell? ⟨gq, oq + xs.length * 5 + 1, none⟩ = some (.int .i64 x.n) ∧ W'.cell? ⟨gq, oq + xs.length * 5 + 2, none⟩ = some (.string x.s) ∧ W'.cell? ⟨gq, oq + xs.length * 5 + 3, none⟩ = some (.int .i64 x.a) ∧ W'.cell? ⟨gq, oq + xs.length * 5 + 4, none⟩ = some (.int .i64 x.b)) := fun W' hb => by
            have hpw := (hb.block bp (by omega)).trans hp6
            have hnw := (hb.block (bp + 1) (by omega)).trans hn6
            have hqw := (hb.block bq (by omega)).trans hq6
            obtain ⟨d0, d1, d2, d3, d4⟩ := nd_cells hnw
            obtain ⟨c0, c1, c2, c3, c4⟩ := hq6c.below hb hgq6
            exact ⟨cell_of_row W' _ 0 _ _ _ hpw, cell_of_row W' _ 0 _ _ _ hqw, d0, d1, d2, d3, d4, c0, c1, c2, c3, c4⟩
          obtain ⟨s0, s1, s2, s3, s4, s5, s6, s7, s8, s9, s10, s11⟩ := hS _ (Below.refl _ _)
          have hq := node_eqq x
          clear hp6 hn6 hq6 hq6c hq0 hp5 hn5 hq5 kp5 kq5 RQ5 RP5 hgx
          go_wp2_with fail
          go_region_held (fun W' => W'.cell? ⟨bp, 0, none⟩ = some (.slice a1 xs.length q1) ∧ W'.cell? ⟨bq, 0, none⟩ = some (.slice (some ⟨gq, oq, none⟩) LQ.length q2) ∧ W'.cell? ⟨bp + 1, 0, none⟩ = some (.int .i64 x.k) ∧ W'.cell? ⟨bp + 1, 1, none⟩ = some (.int .i64 x.n) ∧ W'.cell? ⟨bp + 1, 2, none⟩ = some (.string x.s) ∧ W'.cell? ⟨bp + 1, 3, none⟩ = some (.int .i64 x.a) ∧ W'.cell? ⟨bp + 1, 4, none⟩ = some (.int .i64 x.b) ∧
              W'.cell? ⟨gq, oq + xs.length * 5, none⟩ = some (.int .i64 x.k) ∧ W'.cell? ⟨gq, oq + xs.length * 5 + 1, none⟩ = some (.int .i64 x.n) ∧ W'.cell? ⟨gq, oq + xs.length * 5 + 2, none⟩ = some (.string x.s) ∧ W'.cell? ⟨gq, oq + xs.length * 5 + 3, none⟩ = some (.int .i64 x.a) ∧ W'.cell? ⟨gq, oq + xs.length * 5 + 4, none⟩ = some (.int .i64 x.b)) (first | exact S9 | exact S8 | exact S7 | go_keep) (first
            | (go_at_call 9; refine (IP _ ?_).mono ?_; exact RQ6.below (Below.refl _ _).drew; rintro e w7 ⟨rfl, hb7⟩; have hb7' := below_drew1 hb7; have S7 := hS _ hb7')
            | (go_at_call 11; refine (IS _ ?_).mono ?_; exact RQ6.below hb7'; rintro e w8 ⟨rfl, hb8⟩; have hb8' := hb7'.trans (hb8.mono hb7'.size); have S8 := hS _ hb8')
            | (go_at_call 12; refine (IZ _ ?_).mono ?_; exact RQ6.below hb8'; rintro e w9 ⟨rfl, hb9⟩; have hb9' := hb8'.trans (hb9.mono hb8'.size); have S9 := hS _ hb9'))
          all_goals
            have hBw9 := hBw6.trans (hb9'.mono hBw6.size)
            clear hS S7 S8 S9 IP IS IZ RQ6
            go_wp2_with fail
            go_ret
            exact ⟨by simp; omega, hBw9⟩
    · have e1 : nI = -1 := by
        rw [HI.out]; unfold makeI
        by_cases hp : poolB xs = true
        · rw [if_pos hp, if_neg (fun h => hok ⟨hp, h⟩)]
        · rw [if_neg hp]
      have e2 : LQ.length = xs.length ∨ LQ.length = 0 := by
        rw [HL.out]; unfold makeL
        by_cases hp : poolB xs = true
        · left; rw [if_pos hp, if_neg (fun h => hok ⟨hp, h⟩)]
        · right; rw [if_neg hp]; rfl
      subst e1
      clear HI HL hok
      obtain ⟨lq, hlq'⟩ : ∃ lq, lq = LQ.length := ⟨_, rfl⟩
      rw [← hlq'] at e2 kq5
      clear hlq' RQ5 hq5 hLQl
      rcases e2 with e2 | e2
      all_goals
        subst e2
        go_wp2_with fail
        all_goals go_ret
        all_goals exact ⟨rfl, hBw5⟩
end Go.Proofs.Ytlnfhcfdcocepaa
