/-
  spec.l3Write at a pair, and the contract of spec.Write. No condition.
-/
import Derived.Test.YtmgjefkelohocaaDoorSWr
import Derived.Test.YtmgjefkelohocaaDoorSizeI
import Derived.Deep.LoopGhost
namespace Go.Proofs.YtmgjefkelohocaaDoor
open Go.RowKit

/-- The text r so far, of a value that is written m behind l, where t is still to come (and a bracket). -/
def St (l m t r : List UInt8) (top : Nat) : Prop :=
  r.length ≤ top ∧ ((r.length ≤ 400 ∧ r ++ t ++ [41] = l ++ m) ∨ (400 < r.length ∧ 400 < l.length + m.length))
theorem st_init {xs : List Nd} {v ia ib : Nat} {l r : List UInt8} (hT : fullT xs v = [40] ++ fullT xs ia ++ restT xs ib ++ [41]) (hW : Wrote (l ++ [40]) (fullT xs ia) r (1504 + 4 * ia)) (hl : l.length ≤ 400) (hv : ia < v) : St l (fullT xs v) (restT xs ib) r (1500 + 4 * v) := by
  have hlen : (fullT xs v).length = 2 + (fullT xs ia).length + (restT xs ib).length := by rw [hT]; simp; omega
  by_cases h : 400 < (l ++ [40]).length
  · have e := hW.1 h
    subst e
    simp at h
    exact ⟨by simp; omega, Or.inr ⟨by simp; omega, by omega⟩⟩
  · obtain ⟨h1, h2, h3⟩ := hW.2 (by omega)
    by_cases h4 : (l ++ [40]).length + (fullT xs ia).length ≤ 400
    · have e := h2 h4
      subst e
      simp at h4
      exact ⟨by simp; omega, Or.inl ⟨by simp; omega, by rw [hT]; simp⟩⟩
    · have := h3 (by omega)
      simp at h4
      exact ⟨by omega, Or.inr ⟨this, by omega⟩⟩
theorem st_step {xs : List Nd} {jb ka kb v : Nat} {l m r r' : List UInt8} (hR : restT xs jb = [32] ++ fullT xs ka ++ restT xs kb) (hS : St l m (restT xs jb) r (1500 + 4 * v)) (hr : r.length ≤ 400) (hW : Wrote (r ++ [32]) (fullT xs ka) r' (1504 + 4 * ka)) (hv : ka < v) : St l m (restT xs kb) r' (1500 + 4 * v) := by
  rcases hS.2 with ⟨_, he⟩ | ⟨h, _⟩
  · have hlen := congrArg List.length he
    rw [hR] at hlen he
    simp at hlen
    by_cases h : 400 < (r ++ [32]).length
    · have e := hW.1 h
      subst e
      simp at h
      exact ⟨by simp; omega, Or.inr ⟨by simp; omega, by omega⟩⟩
    · obtain ⟨h1, h2, h3⟩ := hW.2 (by omega)
      by_cases h4 : (r ++ [32]).length + (fullT xs ka).length ≤ 400
      · have e := h2 h4
        subst e
        simp at h4
        exact ⟨by simp; omega, Or.inl ⟨by simp; omega, by rw [← he]; simp⟩⟩
      · have := h3 (by omega)
        simp at h4
        exact ⟨by omega, Or.inr ⟨this, by omega⟩⟩
  · omega
/-- At the end: the bracket. -/
theorem st_end {l m r : List UInt8} {v : Nat} (hl : l.length ≤ 400) (hS : St l m [] r (1503 + 4 * v)) : Wrote l m (r ++ [41]) (1504 + 4 * v) := by
  refine ⟨fun h => by omega, fun _ => ⟨by have := hS.1; simp; omega, fun h => ?_, fun h => ?_⟩⟩
  · rcases hS.2 with ⟨_, he⟩ | ⟨_, h'⟩
    · rw [← he]; simp
    · omega
  · rcases hS.2 with ⟨_, he⟩ | ⟨h', _⟩
    · have := congrArg List.length he
      simp at this ⊢
      omega
    · simp; omega
/-- What ends with no KNil. -/
theorem st_word {l m z r r' : List UInt8} {v b : Nat} (hS : St l m ([32, 46, 32] ++ z) r (1500 + 4 * v)) (hW : Wrote (r ++ [32, 46, 32]) z r' (1504 + 4 * b)) (hb : b < v) : St l m [] r' (1503 + 4 * v) := by
  have h0 := hS.1
  rcases hS.2 with ⟨hr, he⟩ | ⟨h, ht⟩
  · have hlen := congrArg List.length he
    simp at hlen
    by_cases h : 400 < (r ++ [32, 46, 32]).length
    · have e := hW.1 h
      subst e
      simp at h
      exact ⟨by simp; omega, Or.inr ⟨by simp; omega, by omega⟩⟩
    · obtain ⟨h1, h2, h3⟩ := hW.2 (by omega)
      by_cases h4 : (r ++ [32, 46, 32]).length + z.length ≤ 400
      · have e := h2 h4
        subst e
        simp at h4
        exact ⟨by simp; omega, Or.inl ⟨by simp; omega, by rw [← he]; simp⟩⟩
      · have := h3 (by omega)
        simp at h4
        exact ⟨by omega, Or.inr ⟨this, by omega⟩⟩
  · have e := hW.1 (by simp; omega)
    subst e
    exact ⟨by simp; omega, Or.inr ⟨by simp; omega, ht⟩⟩
/-- Too long already. -/
theorem st_over {l m t z r r' : List UInt8} {v b : Nat} (hS : St l m t r (1500 + 4 * v)) (hr : 400 < r.length) (hW : Wrote (r ++ [32, 46, 32]) z r' (1504 + 4 * b)) : St l m [] r' (1503 + 4 * v) := by
  have h0 := hS.1
  have e := hW.1 (by simp; omega)
  subst e
  rcases hS.2 with ⟨h, _⟩ | ⟨_, ht⟩
  · omega
  · exact ⟨by simp; omega, Or.inr ⟨by simp; omega, ht⟩⟩
theorem set1 (w : World) (q i : Nat) (u : Value) : w.grownBy (w.setCell ⟨q, i, none⟩ u) (some q) :=
  ⟨rfl, rfl, rfl, by simp, fun k _ hk => heap_setCell_other w ⟨q, i, none⟩ k u (fun e => hk (by rw [e]))⟩
theorem set5 (w : World) (q : Nat) (t : TypeId) (a0 a1 a2 a3 a4 u0 u1 u2 u3 u4 : Value) (h : w.heap[q]? = some (.cells #[a0, a1, a2, a3, a4] t (0, 0))) :
    (((((w.setCell ⟨q, 0, none⟩ u0).setCell ⟨q, 1, none⟩ u1).setCell ⟨q, 2, none⟩ u2).setCell ⟨q, 3, none⟩ u3).setCell ⟨q, 4, none⟩ u4).heap[q]? = some (.cells #[u0, u1, u2, u3, u4] t (0, 0)) ∧
      w.grownBy (((((w.setCell ⟨q, 0, none⟩ u0).setCell ⟨q, 1, none⟩ u1).setCell ⟨q, 2, none⟩ u2).setCell ⟨q, 3, none⟩ u3).setCell ⟨q, 4, none⟩ u4) (some q) := by
  have h0 : (w.setCell ⟨q, 0, none⟩ u0).heap[q]? = some (.cells #[u0, a1, a2, a3, a4] t (0, 0)) := heap_setCell_same w q 0 _ _ u0 h
  have g0 : w.grownBy (w.setCell ⟨q, 0, none⟩ u0) (some q) := set1 w q 0 u0
  have g1 := set1 (w.setCell ⟨q, 0, none⟩ u0) q 1 u1
  generalize w.setCell ⟨q, 0, none⟩ u0 = w1 at *
  have h1 : (w1.setCell ⟨q, 1, none⟩ u1).heap[q]? = some (.cells #[u0, u1, a2, a3, a4] t (0, 0)) := heap_setCell_same w1 q 1 _ _ u1 h0
  have g2 := set1 (w1.setCell ⟨q, 1, none⟩ u1) q 2 u2
  generalize w1.setCell ⟨q, 1, none⟩ u1 = w2 at *
  have h2 : (w2.setCell ⟨q, 2, none⟩ u2).heap[q]? = some (.cells #[u0, u1, u2, a3, a4] t (0, 0)) := heap_setCell_same w2 q 2 _ _ u2 h1
  have g3 := set1 (w2.setCell ⟨q, 2, none⟩ u2) q 3 u3
  generalize w2.setCell ⟨q, 2, none⟩ u2 = w3 at *
  have h3 : (w3.setCell ⟨q, 3, none⟩ u3).heap[q]? = some (.cells #[u0, u1, u2, u3, a4] t (0, 0)) := heap_setCell_same w3 q 3 _ _ u3 h2
  have g4 := set1 (w3.setCell ⟨q, 3, none⟩ u3) q 4 u4
  generalize w3.setCell ⟨q, 3, none⟩ u3 = w4 at *
  have h4 : (w4.setCell ⟨q, 4, none⟩ u4).heap[q]? = some (.cells #[u0, u1, u2, u3, u4] t (0, 0)) := heap_setCell_same w4 q 4 _ _ u4 h3
  generalize w4.setCell ⟨q, 4, none⟩ u4 = w5 at *
  have gg := (((g0.trans g1).trans g2).trans g3).trans g4
  exact ⟨h4, gg.os, gg.tape, gg.output, gg.size, gg.block⟩

set_option maxRecDepth 100000 in
set_option maxHeartbeats 4000000 in
theorem swrite_pair (ao : Option Addr) (cap : Nat) (xs : List Nd) (v : Nat) (x : Nd) (hp : poolB xs = true) (hx : xs[v]? = some x) (h5 : x.k = 5) (ih : ∀ j, j < v → SWrC ao cap xs j) : SWrC ao cap xs v := by
  intro w l R hl
  have hv := (List.getElem?_eq_some_iff.1 hx).1
  have hlen3 : xs.length ≤ 3000 := by simp only [poolB, Bool.and_eq_true, decide_eq_true_eq] at hp; exact hp.1
  obtain ⟨ia, ib, ha, hb, hal, hbl⟩ := pool_pair hp hx h5
  have HT : Hid (fullT xs v = [40] ++ fullT xs ia ++ restT xs ib ++ [41]) := fullT_pair hp hx h5 ha hb hal hbl
  have R' := R
  obtain ⟨ao', cap', e', ⟨hcap, _⟩, hm, hz, hcell⟩ := R'
  simp only [Value.slice.injEq, true_and] at e'
  obtain ⟨rfl, rfl⟩ := e'
  obtain ⟨g, o, rfl, hg, hcell⟩ := hcell (by intro e; subst e; simp at hv)
  obtain ⟨d0, d1, d2, d3, d4⟩ := hcell v x hx
  have hgn : ¬ g = w.heap.size := by omega
  have hvn : ((v : Int) < (xs.length : Int)) := by omega
  have hsz : (tx l).size = l.length := tx_size l
  have hBa : Below w.heap.size w (w.alloc (Obj.cells #[.slice (some ⟨g, o, none⟩) xs.length cap] 26)) := (Below.refl _ _).alloc (Nat.le_refl _) _
  by_cases h4 : 400 < l.length
  · clear hcell hx hz
    go_enter Tryd.func53, Tryd.ntmps53
    go_wp2_with fail
    go_ret
    exact ⟨l, rfl, wrote_skip h4, hBa⟩
  · have hl4 : l.length ≤ 400 := by omega
    obtain ⟨xk, xn, xs', xa, xb⟩ := x
    dsimp only at h5 ha hb d0 d1 d2 d3 d4
    subst h5 ha hb
    have hBb : Below w.heap.size w ((w.alloc (Obj.cells #[.slice (some ⟨g, o, none⟩) xs.length cap] 26)).alloc (Obj.cells #[.int .i64 5, .int .i64 xn, .string xs', .int .i64 ia, .int .i64 ib] 55)) := hBa.alloc hBa.size _
    have hadd : ∀ w : World, (Op.stringOp .add (tx l) ⟨#[40]⟩).run Tryd.prog w = .ok (.string (tx (l ++ [40]))) w := fun w => addS l [40] w (by simp; omega)
    have HX : Hid (xs[v]? = some ⟨5, xn, xs', ia, ib⟩) := hx
    have HC : Hid (∀ (i : Nat) (x : Nd), xs[i]? = some x → NAt w g (o + i * 5) x) := hcell
    clear hcell hx hz
    go_enter Tryd.func53, Tryd.ntmps53
    go_wp2_with fail
    refine (ih ia hal _ (l ++ [40]) (R.below hBb) (by simp; omega)).mono ?_
    rintro e w1 ⟨r1, rfl, hW1, hb1⟩
    have hB1 := hBb.trans (hb1.mono hBb.size)
    have hx1 : w1.heap[w.heap.size]? = some (.cells #[.slice (some ⟨g, o, none⟩) xs.length cap] 26 (0, 0)) := (hb1.block _ (by simp; omega)).trans ((heap_alloc_old _ _ (by simp)).trans (heap_alloc_new _ _))
    have hy1 : w1.heap[w.heap.size + 1]? = some (.cells #[.int .i64 5, .int .i64 xn, .string xs', .int .i64 ia, .int .i64 ib] 55 (0, 0)) := (hb1.block _ (by simp)).trans (heap_alloc2_new _ _ _)
    have hS := st_init (xs := xs) (v := v) HT.out hW1 hl4 (by omega)
    clear hb1 hW1 hBa hBb d0 d1 d2 d3 d4 hadd
    go_wp2_with fail
    go_loopg [2] v (fun k out wr => ∃ (r : List UInt8) (xn : Int) (xs' : ByteArray) (ja jb : Nat), out = .string (tx r) ∧ xs[k]? = some ⟨5, xn, xs', ja, jb⟩ ∧ k ≤ v ∧ jb < k ∧ wr.heap[w.heap.size + 1]? = some (.cells #[.int .i64 5, .int .i64 xn, .string xs', .int .i64 ja, .int .i64 jb] 55 (0, 0)) ∧ wr.heap[w.heap.size]? = some (.cells #[.slice (some ⟨g, o, none⟩) xs.length cap] 26 (0, 0)) ∧ Below w.heap.size w wr ∧ St l (fullT xs v) (restT xs jb) r (1500 + 4 * v))
    case atStart => exact ⟨r1, xn, xs', ia, ib, rfl, HX.out, Nat.le_refl _, hbl, hy1, hx1, hB1, hS⟩
    case round =>
      clear hx1 hy1 hB1 hS HX hbl
      obtain ⟨r, xn, xs', ja, jb, rfl, hxk, hkv, hjk, hyr, hxr, hB, hS⟩ := hrel
      obtain ⟨y, hy⟩ : ∃ y, xs[jb]? = some y := ⟨xs[jb], by simp [show jb < xs.length by omega]⟩
      obtain ⟨d0, d1, d2, d3, d4⟩ := (HC.out jb y hy).below hB hg
      have hgr : g < wr.heap.size := Nat.lt_of_lt_of_le hg hB.size
      have hjbn : ((jb : Int) < (xs.length : Int)) := by omega
      have hszr : (tx r).size = r.length := tx_size r
      have q0 : wr.cell? ⟨w.heap.size, 0, none⟩ = some (.slice (some ⟨g, o, none⟩) xs.length cap) := by rw [cell_of_row wr _ 0 _ _ _ hxr]; rfl
      have c0 : wr.cell? ⟨w.heap.size + 1, 0, none⟩ = some (.int .i64 5) := by rw [cell_of_row wr _ 0 _ _ _ hyr]; rfl
      have c1 : wr.cell? ⟨w.heap.size + 1, 0 + 1, none⟩ = some (.int .i64 xn) := by rw [cell_of_row wr _ 1 _ _ _ hyr]; rfl
      have c2 : wr.cell? ⟨w.heap.size + 1, 0 + 2, none⟩ = some (.string xs') := by rw [cell_of_row wr _ 2 _ _ _ hyr]; rfl
      have c3 : wr.cell? ⟨w.heap.size + 1, 0 + 3, none⟩ = some (.int .i64 ja) := by rw [cell_of_row wr _ 3 _ _ _ hyr]; rfl
      have c4 : wr.cell? ⟨w.heap.size + 1, 0 + 4, none⟩ = some (.int .i64 jb) := by rw [cell_of_row wr _ 4 _ _ _ hyr]; rfl
      have f0 : wr.frozen? ⟨w.heap.size + 1, 0, none⟩ = false := frozen_of_row wr _ 0 _ _ hyr
      have f1 : wr.frozen? ⟨w.heap.size + 1, 0 + 1, none⟩ = false := frozen_of_row wr _ 1 _ _ hyr
      have f2 : wr.frozen? ⟨w.heap.size + 1, 0 + 2, none⟩ = false := frozen_of_row wr _ 2 _ _ hyr
      have f3 : wr.frozen? ⟨w.heap.size + 1, 0 + 3, none⟩ = false := frozen_of_row wr _ 3 _ _ hyr
      have f4 : wr.frozen? ⟨w.heap.size + 1, 0 + 4, none⟩ = false := frozen_of_row wr _ 4 _ _ hyr
      have hrl : r.length ≤ 13500 := Nat.le_trans hS.1 (by omega)
      have HS : Hid (St l (fullT xs v) (restT xs jb) r (1500 + 4 * v)) := hS
      have HY : Hid (xs[jb]? = some y) := hy
      clear hxk hS
      have hadd1 : ∀ w : World, (Op.stringOp .add (tx r) ⟨#[32]⟩).run Tryd.prog w = .ok (.string (tx (r ++ [32]))) w := fun w => addS r [32] w (by simp; omega)
      have hadd3 : ∀ w : World, (Op.stringOp .add (tx r) ⟨#[32, 46, 32]⟩).run Tryd.prog w = .ok (.string (tx (r ++ [32, 46, 32]))) w := fun w => addS r [32, 46, 32] w (by simp; omega)
      have hadd4 : ∀ w : World, (Op.stringOp .add (tx r) ⟨#[41]⟩).run Tryd.prog w = .ok (.string (tx (r ++ [41]))) w := fun w => addS r [41] w (by simp; omega)
      by_cases hy5 : y.k = 5
      · obtain ⟨ka, kb, hka, hkb, hkal, hkbl⟩ := pool_pair hp hy hy5
        have HRT : Hid (restT xs jb = [32] ++ fullT xs ka ++ restT xs kb) := restT_pair hp hy hy5 hka hkb hkal hkbl
        obtain ⟨yk, yn, ys, ya, yb⟩ := y
        dsimp only at hy5 hka hkb d0 d1 d2 d3 d4
        subst hy5 hka hkb
        clear hy
        by_cases hr4 : r.length ≤ 400
        · go_wp2_with fail
          obtain ⟨hy6, hg6⟩ := set5 wr (w.heap.size + 1) 55 _ _ _ _ _ (.int .i64 5) (.int .i64 yn) (.string ys) (.int .i64 ka) (.int .i64 kb) hyr
          have hB6 := hB.grown hg6 hB.size (fun k hk => by simp at hk; omega)
          have hx6 := (hg6.block w.heap.size (Array.getElem?_eq_some_iff.1 hxr).1 (by simp)).trans hxr
          clear c0 c1 c2 c3 c4 f0 f1 f2 f3 f4 d0 d1 d2 d3 d4 q0 hyr hxr hg6 hB hadd3 hadd4
          generalize ((((wr.setCell ⟨w.heap.size + 1, 0, none⟩ (.int .i64 5)).setCell ⟨w.heap.size + 1, 1, none⟩ (.int .i64 yn)).setCell ⟨w.heap.size + 1, 2, none⟩ (.string ys)).setCell ⟨w.heap.size + 1, 3, none⟩ (.int .i64 ka)).setCell ⟨w.heap.size + 1, 4, none⟩ (.int .i64 kb) = w6 at *
          refine (ih ka (by omega) w6 (r ++ [32]) (R.below hB6) (by simp; omega)).mono ?_
          rintro e w7 ⟨r7, rfl, hW7, hb7⟩
          have hB7 := hB6.trans (hb7.mono hB6.size)
          have hy7 := (hb7.block _ (Array.getElem?_eq_some_iff.1 hy6).1).trans hy6
          have hx7 := (hb7.block _ (Array.getElem?_eq_some_iff.1 hx6).1).trans hx6
          have hS7 := st_step HRT.out HS.out hr4 hW7 (by omega)
          clear hb7 hW7 hB6 hy6 hx6
          go_wp2_with fail
          go_roundg jb
          case measure => exact hjk
          case rel => exact ⟨r7, yn, ys, ka, kb, rfl, HY.out, by omega, hkbl, hy7, hx7, hB7, hS7⟩
        · go_wp2_with fail
          refine (ih jb (by omega) wr (r ++ [32, 46, 32]) (R.below hB) (by simp; omega)).mono ?_
          rintro e w7 ⟨r7, rfl, hW7, hb7⟩
          have hB7 := hB.trans (hb7.mono hB.size)
          have hS7 := st_over HS.out (by omega) hW7
          have hW := st_end hl4 hS7
          have hr7 : r7.length ≤ 13600 := Nat.le_trans hS7.1 (by omega)
          have hadd5 : ∀ w : World, (Op.stringOp .add (tx r7) ⟨#[41]⟩).run Tryd.prog w = .ok (.string (tx (r7 ++ [41]))) w := fun w => addS r7 [41] w (by simp; omega)
          clear hb7 hW7 c0 c1 c2 c3 c4 f0 f1 f2 f3 f4 d0 d1 d2 d3 d4 q0
          go_wp2_with fail
          go_ret
          exact ⟨_, rfl, hW, hB7⟩
      · by_cases hy1 : y.k = 1
        · have HN : Hid (restT xs jb = []) := restT_nil hy hy1
          obtain ⟨yk, yn, ys, ya, yb⟩ := y
          dsimp only at hy5 hy1 d0 d1 d2 d3 d4
          subst hy1
          clear hy
          have hS7 : St l (fullT xs v) [] r (1503 + 4 * v) := by
            have h := HS.out
            rw [HN.out] at h
            exact ⟨by have := h.1; omega, h.2⟩
          have hW := st_end hl4 hS7
          go_wp2_with fail
          go_ret
          exact ⟨_, rfl, hW, hB⟩
        · have HN : Hid (restT xs jb = [32, 46, 32] ++ fullT xs jb) := by unfold Hid; rw [restT_word hy hy5 hy1, fullT_word hy hy5]
          clear hy
          go_wp2_with fail
          refine (ih jb (by omega) wr (r ++ [32, 46, 32]) (R.below hB) (by simp; omega)).mono ?_
          rintro e w7 ⟨r7, rfl, hW7, hb7⟩
          have hB7 := hB.trans (hb7.mono hB.size)
          have hS7 : St l (fullT xs v) [] r7 (1503 + 4 * v) := st_word (by rw [← HN.out]; exact HS.out) hW7 (by omega)
          have hW := st_end hl4 hS7
          have hr7 : r7.length ≤ 13600 := Nat.le_trans hS7.1 (by omega)
          have hadd5 : ∀ w : World, (Op.stringOp .add (tx r7) ⟨#[41]⟩).run Tryd.prog w = .ok (.string (tx (r7 ++ [41]))) w := fun w => addS r7 [41] w (by simp; omega)
          clear hb7 hW7 c0 c1 c2 c3 c4 f0 f1 f2 f3 f4 d0 d1 d2 d3 d4 q0
          go_wp2_with fail
          go_ret
          exact ⟨_, rfl, hW, hB7⟩

theorem swrite3_any (ao : Option Addr) (cap : Nat) (xs : List Nd) (hp : poolB xs = true) : ∀ v, v < xs.length → SWrC ao cap xs v := by
  intro v
  induction v using Nat.strongRecOn with
  | _ v ih =>
    intro hv
    obtain ⟨x, hx⟩ : ∃ x, xs[v]? = some x := ⟨xs[v], by simp [hv]⟩
    by_cases h5 : x.k = 5
    · exact swrite_pair ao cap xs v x hp hx h5 (fun j hj => ih j hj (by omega))
    · exact swrite_word ao cap xs v x hp hx h5

/-- What Write tells. -/
def writeR (xs : List Nd) (v : Int) : List UInt8 := if poolB xs && hasI xs v then (if (fullT xs v.toNat).length ≤ 400 then fullT xs v.toNat else []) else []
end Go.Proofs.YtmgjefkelohocaaDoor
