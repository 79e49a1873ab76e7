/-
  Texts that stood by themselves, laid into one.
-/
import Derived.Test.YtnhepegkjejfcaaDoorMv2M
import Derived.Test.YtnhepegkjejfcaaDoorKpMathM
import Derived.Test.YtnhepegkjejfcaaDoorGrowM
import Derived.OpenShut
/-
  Contract of impl's Keep. No condition but that the roots are no more than a row bears.
-/
namespace Go.Proofs.YtnhepegkjejfcaaDoor
open Go.RowKit

/-- What Keep leaves, and where the roots are then. -/
def keepL (xs : List Nd) (rs : List Int) : List Nd := if poolB xs && allI xs rs then mvN 0 xs rs else []
def keepR (xs : List Nd) (rs : List Int) : List Int := if poolB xs && allI xs rs then mvR 0 xs rs rs else []
theorem keepL_len (xs : List Nd) (rs : List Int) : (keepL xs rs).length ≤ xs.length := by
  unfold keepL
  split
  · exact mvN_len 0 xs rs
  · simp
theorem keepR_len (xs : List Nd) (rs : List Int) : (keepR xs rs).length ≤ rs.length := by
  unfold keepR
  split
  · simp [mvR]
  · simp

theorem none_pair {w w2 : World} {B : Nat} (hy : w2.heap[B]? = some (.cells #[.slice none 0 0] 26 (0, 0))) (hB : Below w.heap.size w w2) (h1 : w.heap.size ≤ B) :
    ((w2.setCell ⟨B, 0, none⟩ (.slice none 0 0)).alloc (Obj.cells #[] 3)).heap[B]? = some (.cells #[.slice none 0 0] 26 (0, 0)) ∧ ((w2.setCell ⟨B, 0, none⟩ (.slice none 0 0)).alloc (Obj.cells #[] 3)).ownsRow w.heap.size 40 5 (.slice none 0 0) 0 [] ∧ ((w2.setCell ⟨B, 0, none⟩ (.slice none 0 0)).alloc (Obj.cells #[] 3)).ownsRow w.heap.size 3 1 (.slice (some ⟨w2.heap.size, 0, none⟩) 0 0) 0 [] ∧ Below w.heap.size w ((w2.setCell ⟨B, 0, none⟩ (.slice none 0 0)).alloc (Obj.cells #[] 3)) := by
  have hs : (w2.setCell ⟨B, 0, none⟩ (.slice none 0 0)).heap.size = w2.heap.size := by simp [World.setCell]
  have hB' := hB.setCell (p := ⟨B, 0, none⟩) h1 (.slice none 0 0)
  have h0 := own_none0 (w2.setCell ⟨B, 0, none⟩ (.slice none 0 0)) 3 1 w.heap.size hB'.size
  rw [hs] at h0
  have hy' := heap_setCell_same w2 B 0 _ _ (.slice none 0 0) hy
  exact ⟨(Below.heap_alloc _ _ _ (Array.getElem?_eq_some_iff.1 hy').1).trans hy', World.ownsRow_nil _ _ _ _, h0, hB'.alloc hB'.size _⟩

set_option maxRecDepth 100000 in
set_option maxHeartbeats 1600000 in
theorem ikeep_any (v vl : Value) (xs : List Nd) (rs : List Int) (w : World) (R : NRow w v xs) (L : IRow w vl rs) (hrs : rs.length ≤ 1048576) :
    Calls Tryd.prog 7 #[.agg #[v], vl] w fun e w' => ∃ v1 v2, e = .returned (.tuple #[.agg #[v1], v2]) ∧ w'.ownsRow w.heap.size 40 5 v1 (keepL xs rs).length (ncs (keepL xs rs)) ∧ w'.ownsRow w.heap.size 3 1 v2 (keepR xs rs).length (iv (keepR xs rs)) ∧ Below w.heap.size w w' := by
  have R' := R
  obtain ⟨ao, cap, rfl, _⟩ := R'
  go_enter Tryd.func7, Tryd.ntmps7
  go_wp2_with fail
  have hB0 : Below w.heap.size w ((w.alloc (Obj.cells #[.slice ao xs.length cap] 26)).alloc (Obj.cells #[.slice none 0 0] 26)) := ((Below.refl _ _).alloc (Nat.le_refl _) _).alloc (by simp) _
  refine (ipool_any _ xs _ (R.below hB0)).mono ?_
  rintro e w1 ⟨rfl, hb1⟩
  have hx1 : w1.heap[w.heap.size]? = some (.cells #[.slice ao xs.length cap] 26 (0, 0)) := (hb1.block _ (by simp; omega)).trans (heap_alloc2_old _ _ _)
  have hy1 : w1.heap[w.heap.size + 1]? = some (.cells #[.slice none 0 0] 26 (0, 0)) := (hb1.block _ (by simp)).trans (heap_alloc2_new _ _ _)
  have hB1 := hB0.trans (hb1.mono hB0.size)
  have hsz1 := (Array.getElem?_eq_some_iff.1 hy1).1
  clear hB0 hb1
  have hc1 : w1.cell? ⟨w.heap.size, 0, none⟩ = some (.slice ao xs.length cap) := by rw [cell_of_row w1 _ 0 _ _ _ hx1]; rfl
  have hd1 : w1.cell? ⟨w.heap.size + 1, 0, none⟩ = some (.slice none 0 0) := by rw [cell_of_row w1 _ 0 _ _ _ hy1]; rfl
  have hf1 : w1.frozen? ⟨w.heap.size + 1, 0, none⟩ = false := frozen_of_row w1 _ 0 _ _ hy1
  by_cases hp : poolB xs = true
  · rw [hp]
    go_wp2_with fail
    refine (hasall_any _ _ xs rs _ (R.below hB1) (L.below hB1)).mono ?_
    rintro e w2 ⟨rfl, hb2⟩
    have hx2 := (hb2.block _ (by omega)).trans hx1
    have hy2 := (hb2.block _ hsz1).trans hy1
    have hB2 := hB1.trans (hb2.mono hB1.size)
    have hsz2 := (Array.getElem?_eq_some_iff.1 hy2).1
    have hc2 : w2.cell? ⟨w.heap.size, 0, none⟩ = some (.slice ao xs.length cap) := by rw [cell_of_row w2 _ 0 _ _ _ hx2]; rfl
    have hd2 : w2.cell? ⟨w.heap.size + 1, 0, none⟩ = some (.slice none 0 0) := by rw [cell_of_row w2 _ 0 _ _ _ hy2]; rfl
    have hf2 : w2.frozen? ⟨w.heap.size + 1, 0, none⟩ = false := frozen_of_row w2 _ 0 _ _ hy2
    clear hB1 hb2 hx1 hc1 hsz1 hd1 hf1 hy1
    cases hal : allI xs rs with
    | true =>
      have HL : Hid (keepL xs rs = mvN 0 xs rs) := by unfold Hid keepL; rw [hp, hal]; rfl
      have HR : Hid (keepR xs rs = mvR 0 xs rs rs) := by unfold Hid keepR; rw [hp, hal]; rfl
      have hlr : (mvR 0 xs rs rs).length = rs.length := by simp [mvR]
      go_wp2_with fail
      refine (moved_any ao cap vl xs rs 0 _ (R.below hB2) (L.below hB2) hp hal (by omega) hrs).mono ?_
      rintro e w3 ⟨v1, v2, rfl, ho1, ho2, hb3⟩
      obtain ⟨a1, q1, rfl⟩ := own_form ho1
      obtain ⟨a2, q2, rfl⟩ := own_form ho2
      have hy3 := (hb3.block _ hsz2).trans hy2
      have hd3 : w3.cell? ⟨w.heap.size + 1, 0, none⟩ = some (.slice none 0 0) := by rw [cell_of_row w3 _ 0 _ _ _ hy3]; rfl
      have hf3 : w3.frozen? ⟨w.heap.size + 1, 0, none⟩ = false := frozen_of_row w3 _ 0 _ _ hy3
      have hB3 := hB2.trans (hb3.mono hB2.size)
      obtain ⟨p1, p2, p3⟩ := put_pool hy3 ho1 hB3 hsz2 (by omega)
      have p4 := own_mono (B' := w.heap.size) (ownsRow_setCell_below ho2 (a := ⟨w.heap.size + 1, 0, none⟩) hsz2 (.slice a1 (mvN 0 xs rs).length q1)) (by omega)
      go_wp2
      refine bodyPost_ret (results_row_tmp rfl _ _ (w.heap.size + 1) 26 _ (0, 0) _ rfl p1 Tryd.underlying26 rfl Tryd.sizeP) rfl ⟨_, _, rfl, ?_, ?_, p3⟩
      · rw [HL.out]; exact p2
      · rw [HR.out, hlr]; exact p4
    | false =>
      have HL : Hid (keepL xs rs = []) := by unfold Hid keepL; rw [hp, hal]; rfl
      have HR : Hid (keepR xs rs = []) := by unfold Hid keepR; rw [hp, hal]; rfl
      obtain ⟨p1, p2, p4, p3⟩ := none_pair hy2 hB2 (by omega)
      go_wp2
      refine bodyPost_ret (results_row_tmp rfl _ _ (w.heap.size + 1) 26 _ (0, 0) _ rfl p1 Tryd.underlying26 rfl Tryd.sizeP) rfl ⟨_, _, rfl, ?_, ?_, p3⟩
      · rw [HL.out]; exact p2
      · rw [HR.out]; exact p4
  · have hp' : poolB xs = false := by simpa using hp
    have HL : Hid (keepL xs rs = []) := by unfold Hid keepL; rw [hp']; rfl
    have HR : Hid (keepR xs rs = []) := by unfold Hid keepR; rw [hp']; rfl
    rw [hp']
    obtain ⟨p1, p2, p4, p3⟩ := none_pair hy1 hB1 (by omega)
    go_wp2
    refine bodyPost_ret (results_row_tmp rfl _ _ (w.heap.size + 1) 26 _ (0, 0) _ rfl p1 Tryd.underlying26 rfl Tryd.sizeP) rfl ⟨_, _, rfl, ?_, ?_, p3⟩
    · rw [HL.out]; exact p2
    · rw [HR.out]; exact p4
end Go.Proofs.YtnhepegkjejfcaaDoor

/-
  What follows for what is kept: plain mathematics. Nothing of the program; no condition.
-/
namespace Go.Proofs.YtnhepegkjejfcaaDoor
open Go.RowKit

theorem its_okK (xs : List Nd) (bs : List Bool) (k : Nat) (hz : ∀ y ∈ xs, y.s.size ≤ maxLen) : ∀ p ∈ its xs bs k, p.2.s.size ≤ maxLen := by
  induction xs generalizing k with
  | nil => simp [its]
  | cons x xs ih =>
    intro p hp
    have ih := ih (k + 1) (fun y hy => hz y (List.mem_cons_of_mem _ hy))
    simp only [its] at hp
    split at hp
    · rcases List.mem_cons.1 hp with rfl | hp
      · exact hz x List.mem_cons_self
      · exact ih p hp
    · exact ih p hp
theorem fold_okK (a : Nat) (l : List (Nat × Nd)) (s : List Nd × List Int) (hl : ∀ p ∈ l, p.2.s.size ≤ maxLen) (hs : ∀ y ∈ s.1, y.s.size ≤ maxLen) : ∀ y ∈ (l.foldl (mvS a) s).1, y.s.size ≤ maxLen := by
  induction l generalizing s with
  | nil => exact hs
  | cons p l ih =>
    rw [List.foldl_cons]
    refine ih _ (fun q hq => hl q (List.mem_cons_of_mem _ hq)) (fun y hy => ?_)
    simp only [mvS, List.mem_append, List.mem_singleton] at hy
    rcases hy with hy | rfl
    · exact hs y hy
    · exact hl p List.mem_cons_self
theorem hasI_of {xs : List Nd} {z : Int} (h0 : 0 ≤ z) (h1 : z < xs.length) : hasI xs z = true := by unfold hasI; simp [h0, h1]
theorem at8_text (xs : List Nd) (rs : List Int) (hp : poolB xs = true) (i j : Nat) (h : At8 xs rs 0 i j) : fullT xs i = fullT (mvN 0 xs rs) j ∧ restT xs i = restT (mvN 0 xs rs) j ∧ sizeR xs i = sizeR (mvN 0 xs rs) j := by
  refine bis_text hp (keep_right xs rs hp) (At8 xs rs 0) (fun i j hij => ?_) i j h
  obtain ⟨x, p, hx, rfl, e3, hA, hB⟩ := at8_step xs rs hp 0 i j hij
  exact ⟨x, nrm (mvAll 0 xs (reachL xs rs)).2 x, hx, by rw [Nat.zero_add]; exact e3, rfl, rfl, rfl, hA, hB⟩
theorem keep_text (xs : List Nd) (rs : List Int) (hp : poolB xs = true) (hr : allI xs rs = true) (r : Int) (h : r ∈ rs) :
    writeR (mvN 0 xs rs) ((mvAll 0 xs (reachL xs rs)).2.getD r.toNat 0) = writeR xs r ∧ sizeR (mvN 0 xs rs) ((mvAll 0 xs (reachL xs rs)).2.getD r.toNat 0) = sizeR xs r := by
  obtain ⟨h8, h0, h1⟩ := at8_root xs rs hp hr 0 r h
  obtain ⟨t1, _, t3⟩ := at8_text xs rs hp _ _ h8
  obtain ⟨x, p, hx, e, e3, _, _⟩ := at8_step xs rs hp 0 _ _ h8
  have hl := (List.getElem?_eq_some_iff.1 e3).1
  have hxl := (List.getElem?_eq_some_iff.1 hx).1
  generalize (mvAll 0 xs (reachL xs rs)).2.getD r.toNat 0 = z at *
  have hq := keep_right xs rs hp
  have i1 : hasI xs r = true := hasI_of h0 (by omega)
  have i2 : hasI (mvN 0 xs rs) z = true := hasI_of h1 (by omega)
  refine ⟨?_, ?_⟩
  · unfold writeR
    rw [hp, hq, i1, i2, t1]
  · rw [Int.toNat_of_nonneg h0, Int.toNat_of_nonneg h1] at t3
    exact t3.symm
theorem keep_law (xs : List Nd) (rs : List Int) (h : (keepR xs rs).length = rs.length) :
    (∀ i, i < rs.length → writeR (keepL xs rs) ((keepR xs rs).getD i 0) = writeR xs (rs.getD i 0) ∧ sizeR (keepL xs rs) ((keepR xs rs).getD i 0) = sizeR xs (rs.getD i 0)) ∧
    poolB (keepL xs rs) = true ∧ (keepL (keepL xs rs) (keepR xs rs)).length = (keepL xs rs).length ∧ keepR (keepL xs rs) (keepR xs rs) = keepR xs rs := by
  cases hok : (poolB xs && allI xs rs) with
  | false =>
    have e1 : keepL xs rs = [] := by unfold keepL; rw [hok]; rfl
    have e2 : keepR xs rs = [] := by unfold keepR; rw [hok]; rfl
    rw [e2] at h
    have hrs : rs = [] := List.eq_nil_of_length_eq_zero (by simpa using h.symm)
    subst hrs
    rw [e1, e2]
    exact ⟨fun i hi => absurd hi (by simp), rfl, rfl, rfl⟩
  | true =>
    obtain ⟨hp, hr⟩ := (Bool.and_eq_true _ _).mp hok
    have e1 : keepL xs rs = mvN 0 xs rs := by unfold keepL; rw [hok]; rfl
    have e2 : keepR xs rs = mvR 0 xs rs rs := by unfold keepR; rw [hok]; rfl
    have hq := keep_right xs rs hp
    obtain ⟨g1, g2, g3⟩ := keep_again xs rs hp hr
    have hok2 : (poolB (mvN 0 xs rs) && allI (mvN 0 xs rs) (mvR 0 xs rs rs)) = true := by rw [hq, g1]; rfl
    rw [e1, e2]
    refine ⟨fun i hi => ?_, hq, ?_, ?_⟩
    · have hm : rs.getD i 0 ∈ rs := by simp [List.getD_eq_getElem?_getD, List.getElem?_eq_getElem hi]
      have e : (mvR 0 xs rs rs).getD i 0 = (mvAll 0 xs (reachL xs rs)).2.getD (rs.getD i 0).toNat 0 := by
        unfold mvR
        simp [List.getD_eq_getElem?_getD, List.getElem?_map, List.getElem?_eq_getElem hi]
      rw [e]
      exact keep_text xs rs hp hr _ hm
    · unfold keepL; rw [hok2, if_pos rfl, g2]
    · unfold keepR; rw [hok2, if_pos rfl, g3]
theorem keepL_max (xs : List Nd) (rs : List Int) (hz : ∀ y ∈ xs, y.s.size ≤ maxLen) : ∀ y ∈ keepL xs rs, y.s.size ≤ maxLen := by
  unfold keepL
  split
  · exact fold_okK 0 _ _ (its_okK xs _ 0 hz) (by simp)
  · simp
theorem keep_no (xs : List Nd) (rs : List Int) (h : (keepR xs rs).length ≠ rs.length) : keepL xs rs = [] ∧ keepR xs rs = [] := by
  cases hok : (poolB xs && allI xs rs) with
  | false => exact ⟨by unfold keepL; rw [hok]; rfl, by unfold keepR; rw [hok]; rfl⟩
  | true =>
    exfalso
    apply h
    unfold keepR
    rw [hok, if_pos rfl]
    simp [mvR]
end Go.Proofs.YtnhepegkjejfcaaDoor

/-
  What follows for what is copied: plain mathematics. Nothing of the program; no condition.
-/
namespace Go.Proofs.YtnhepegkjejfcaaDoor
open Go.RowKit

theorem copy_right (ps xs : List Nd) (v : Int) (hps : poolB ps = true) (hok : cyOk ps xs v = true) : poolB (ps ++ mvN ps.length xs [v]) = true := by
  unfold cyOk at hok
  simp only [Bool.and_eq_true, decide_eq_true_eq] at hok
  obtain ⟨⟨hp, _⟩, hl⟩ := hok
  unfold poolB
  rw [Bool.and_eq_true]
  refine ⟨by simp; omega, nodesB_of _ 0 (fun j y hj => ?_)⟩
  rcases Nat.lt_or_ge j ps.length with h | h
  · rw [List.getElem?_append_left h] at hj
    have := poolB_at hps hj
    simpa using this
  · rw [List.getElem?_append_right h] at hj
    have := keep_pool xs [v] hp ps.length (j - ps.length) y hj
    rw [show ps.length + (j - ps.length) = 0 + j by omega] at this
    exact this
theorem at8_textC (ps xs : List Nd) (v : Int) (hps : poolB ps = true) (hok : cyOk ps xs v = true) (i j : Nat) (h : At8 xs [v] ps.length i j) : fullT xs i = fullT (ps ++ mvN ps.length xs [v]) j ∧ restT xs i = restT (ps ++ mvN ps.length xs [v]) j ∧ sizeR xs i = sizeR (ps ++ mvN ps.length xs [v]) j := by
  have hp : poolB xs = true := by
    unfold cyOk at hok
    simp only [Bool.and_eq_true, decide_eq_true_eq] at hok
    exact hok.1.1
  refine bis_text hp (copy_right ps xs v hps hok) (At8 xs [v] ps.length) (fun i j hij => ?_) i j h
  obtain ⟨x, p, hx, rfl, e3, hA, hB⟩ := at8_step xs [v] hp ps.length i j hij
  exact ⟨x, nrm (mvAll ps.length xs (reachL xs [v])).2 x, hx, by rw [List.getElem?_append_right (by omega), Nat.add_sub_cancel_left]; exact e3, rfl, rfl, rfl, hA, hB⟩
theorem copy_law (ps xs : List Nd) (v : Int) (h : 0 ≤ cyI ps xs v) :
    (∀ i, i < ps.length → (cyL ps xs v)[i]? = ps[i]?) ∧ ps.length ≤ (cyL ps xs v).length ∧ poolB (cyL ps xs v) = true ∧ writeR (cyL ps xs v) (cyI ps xs v) = writeR xs v ∧ sizeR (cyL ps xs v) (cyI ps xs v) = sizeR xs v := by
  cases hps : poolB ps with
  | false => unfold cyI at h; rw [hps] at h; simp at h
  | true =>
    cases hok : cyOk ps xs v with
    | false => unfold cyI at h; rw [hps, hok] at h; simp at h
    | true =>
      have e1 : cyL ps xs v = ps ++ mvN ps.length xs [v] := by unfold cyL; rw [hps, hok]; rfl
      have e2 : cyI ps xs v = (mvAll ps.length xs (reachL xs [v])).2.getD v.toNat 0 := by unfold cyI; rw [hps, hok]; rfl
      have hq := copy_right ps xs v hps hok
      have hok' := hok
      unfold cyOk at hok'
      simp only [Bool.and_eq_true, decide_eq_true_eq] at hok'
      obtain ⟨⟨hp, hh⟩, hl⟩ := hok'
      have hal : allI xs [v] = true := by simp [allI, hh]
      obtain ⟨h8, h0, h1⟩ := at8_root xs [v] hp hal ps.length v (by simp)
      obtain ⟨t1, _, t3⟩ := at8_textC ps xs v hps hok _ _ h8
      obtain ⟨x, p, hx, e, e3, _, _⟩ := at8_step xs [v] hp ps.length _ _ h8
      have hlp := (List.getElem?_eq_some_iff.1 e3).1
      rw [e1, e2]
      refine ⟨fun i hi => List.getElem?_append_left hi, by simp, hq, ?_, ?_⟩
      · generalize (mvAll ps.length xs (reachL xs [v])).2.getD v.toNat 0 = z at *
        have i2 : hasI (ps ++ mvN ps.length xs [v]) z = true := hasI_of h1 (by rw [List.length_append]; omega)
        unfold writeR
        rw [hp, hq, hh, i2, t1]
      · rw [Int.toNat_of_nonneg h0, Int.toNat_of_nonneg h1] at t3
        exact t3.symm
theorem copy_no (ps xs : List Nd) (v : Int) (h : cyI ps xs v < 0) : (cyL ps xs v).length = ps.length ∨ (cyL ps xs v).length = 0 := by
  cases hps : poolB ps with
  | false => right; unfold cyL; rw [hps]; rfl
  | true =>
    cases hok : cyOk ps xs v with
    | false => left; unfold cyL; rw [hps, hok]; rfl
    | true =>
      exfalso
      have hok' := hok
      unfold cyOk at hok'
      simp only [Bool.and_eq_true, decide_eq_true_eq] at hok'
      obtain ⟨⟨hp, hh⟩, _⟩ := hok'
      have hal : allI xs [v] = true := by simp [allI, hh]
      obtain ⟨_, _, h1⟩ := at8_root xs [v] hp hal ps.length v (by simp)
      unfold cyI at h
      rw [hps, hok, if_pos rfl, if_pos rfl] at h
      omega
theorem cyL_max (ps xs : List Nd) (v : Int) (hz1 : ∀ y ∈ ps, y.s.size ≤ maxLen) (hz : ∀ y ∈ xs, y.s.size ≤ maxLen) : ∀ y ∈ cyL ps xs v, y.s.size ≤ maxLen := by
  unfold cyL
  split
  · split
    · intro y hy
      rcases List.mem_append.1 hy with h | h
      · exact hz1 y h
      · exact fold_okK ps.length _ _ (its_okK xs _ 0 hz) (by simp) y h
    · exact hz1
  · simp
end Go.Proofs.YtnhepegkjejfcaaDoor

/-
  Contracts of the draws' own cursor: l1New makes one; l1Byte gives a number from 0 to 255 and turns nothing but the cursor.
-/
namespace Go.Proofs.YtnhepegkjejfcaaDoor
open Go.RowKit

theorem and255 (x : Int) : 0 ≤ bits .and .i64 x 255 ∧ bits .and .i64 x 255 ≤ 255 := by
  have e : (BitVec.ofInt IntKind.i64.bits 255).toNat = 255 := by decide
  have hle : ((BitVec.ofInt IntKind.i64.bits x) &&& (BitVec.ofInt IntKind.i64.bits 255)).toNat ≤ 255 := by
    rw [BitVec.toNat_and, e]; exact Nat.and_le_right
  have h : bits .and .i64 x 255 = IntKind.i64.wrap (((BitVec.ofInt IntKind.i64.bits x) &&& (BitVec.ofInt IntKind.i64.bits 255)).toNat : Int) := rfl
  rw [h, IntKind.wrap_i64]
  omega
theorem and30 (x : Int) : 0 ≤ bits .and .i64 x 1073741823 ∧ bits .and .i64 x 1073741823 ≤ 1073741823 := by
  have e : (BitVec.ofInt IntKind.i64.bits 1073741823).toNat = 1073741823 := by decide
  have hle : ((BitVec.ofInt IntKind.i64.bits x) &&& (BitVec.ofInt IntKind.i64.bits 1073741823)).toNat ≤ 1073741823 := by
    rw [BitVec.toNat_and, e]; exact Nat.and_le_right
  have h : bits .and .i64 x 1073741823 = IntKind.i64.wrap (((BitVec.ofInt IntKind.i64.bits x) &&& (BitVec.ofInt IntKind.i64.bits 1073741823)).toNat : Int) := rfl
  rw [h, IntKind.wrap_i64]
  omega

theorem wrap64_bounds (x : Int) : -9223372036854775808 ≤ wrap64 x ∧ wrap64 x ≤ 9223372036854775807 := by
  unfold wrap64; omega

/-- A cursor at block P over a slice that reads as zs in w0: nothing of w0 has turned, and the cursor's place is within zs. -/
def Cur (w0 : World) (v : Value) (zs : List Int) (w : World) (P : Nat) : Prop :=
  Row w0 v zs ∧ Below w0.heap.size w0 w ∧ w0.heap.size ≤ P ∧ ∃ (i : Nat) (h : Int), i ≤ zs.length ∧ -9223372036854775808 ≤ h ∧ h ≤ 9223372036854775807 ∧ w.heap[P]? = some (.cells #[v, .int .i64 i, .int .i64 h] 67 (0, 0))

theorem Cur.lt {w0 : World} {v : Value} {zs : List Int} {w : World} {P : Nat} (c : Cur w0 v zs w P) : P < w.heap.size := by
  obtain ⟨_, _, _, i, h, _, _, _, hh⟩ := c
  exact (Array.getElem?_eq_some_iff.1 hh).1
/-- What leaves the cursor's block alone leaves the cursor. -/
theorem Cur.kept {w0 : World} {v : Value} {zs : List Int} {w w' : World} {P : Nat} (c : Cur w0 v zs w P) (hb : Below (P + 1) w w') : Cur w0 v zs w' P := by
  obtain ⟨R, B, hP, i, h, hi, h1, h2, hh⟩ := c
  exact ⟨R, B.trans (hb.mono (by omega)), hP, i, h, hi, h1, h2, (hb.block P (by omega)).trans hh⟩

theorem Cur.turned {w0 : World} {v : Value} {zs : List Int} {w w' : World} {P : Nat} (R : Row w0 v zs) (B : Below w0.heap.size w0 w) (hP : w0.heap.size ≤ P) (hg : w.grownBy w' (some P)) (hsz : w0.heap.size ≤ w.heap.size) {i : Nat} {h : Int} (hi : i ≤ zs.length) (h1 : -9223372036854775808 ≤ h) (h2 : h ≤ 9223372036854775807)
    (hh : w'.heap[P]? = some (.cells #[v, .int .i64 i, .int .i64 h] 67 (0, 0))) : Cur w0 v zs w' P :=
  ⟨R, B.grown hg hsz (fun k hk => by simp at hk; omega), hP, i, h, hi, h1, h2, hh⟩
theorem grown_drewN {w w' : World} {row : Option Nat} (h : w.grownBy w' row) (n : Nat) : w.grownBy (w'.drewN n) row := ⟨h.os, h.tape, h.output, h.size, h.block⟩

set_option maxHeartbeats 800000 in
theorem byte_any (w0 : World) (v : Value) (zs : List Int) (w : World) (P : Nat) (c : Cur w0 v zs w P) :
    Calls Tryd.prog 54 #[.pointer (some ⟨P, 0, none⟩)] w fun e w' => ∃ x : Int, e = .returned (.int .i64 x) ∧ 0 ≤ x ∧ x ≤ 255 ∧ Cur w0 v zs w' P ∧ w.grownBy w' (some P) := by
  obtain ⟨R, B, hP, i, h, hi, h1, h2, hh⟩ := c
  have R' := R
  obtain ⟨ao, cap, rfl, hcap, hm, hz, hcell⟩ := R'
  have c0 : w.cell? ⟨P, 0, none⟩ = some (.slice ao zs.length cap) := by rw [cell_of_row w P 0 _ 67 (0, 0) hh]; rfl
  have c1 : w.cell? ⟨P, 1, none⟩ = some (.int .i64 i) := by rw [cell_of_row w P 1 _ 67 (0, 0) hh]; rfl
  have c2 : w.cell? ⟨P, 2, none⟩ = some (.int .i64 h) := by rw [cell_of_row w P 2 _ 67 (0, 0) hh]; rfl
  have f1 := frozen_of_row w P 1 _ 67 hh
  have f2 := frozen_of_row w P 2 _ 67 hh
  by_cases hlt : i < zs.length
  · obtain ⟨g, o, rfl, hg, hcell⟩ := hcell (by intro e; subst e; simp at hlt)
    have hc0 : w.cell? ⟨g, o + i, none⟩ = some (.int .u8 (zs.getD i 0)) := (B.cell (p := ⟨g, o + i, none⟩) hg).trans (hcell i hlt)
    have hzb := hz zs[i] (List.getElem_mem _)
    have hgP : g ≠ P := by omega
    clear hcell hz
    go_enter Tryd.func54, Tryd.ntmps54
    go_wp2
    have hwb := wrap64_bounds (wrap64 (h * 6364136223846793005) + 1442695040888963407)
    generalize wrap64 (wrap64 (h * 6364136223846793005) + 1442695040888963407) = h3 at hwb ⊢
    go_quiet (fail)
    have hx := and255 (bits BinOp.xor IntKind.i64 (h3 / 8589934592) (h3 / 35184372088832))
    generalize bits BinOp.and IntKind.i64 (bits BinOp.xor IntKind.i64 (h3 / 8589934592) (h3 / 35184372088832)) 255 = x at hx ⊢
    go_wp2
    go_quiet (fail)
    go_wp2
    go_quiet (fail)
    have hx2 := and255 (x + zs[i])
    generalize bits BinOp.and IntKind.i64 (x + zs[i]) 255 = x2 at hx2 ⊢
    go_wp2
    go_ret
    have hg2 : w.grownBy (w.setCell ⟨P, 2, none⟩ (.int .i64 h3)) (some P) := grown_set w P 2 _
    have hh2 := heap_setCell_same w P 2 _ 67 (.int .i64 h3) hh
    have hh3 := heap_setCell_same (w.setCell ⟨P, 2, none⟩ (.int .i64 h3)) P 1 _ 67 (.int .i64 ((i : Int) + 1)) hh2
    refine ⟨x2, rfl, hx2.1, hx2.2, Cur.turned R B hP ?_ B.size (i := i + 1) (h := h3) (by omega) hwb.1 hwb.2 hh3, ?_⟩
    all_goals exact grown_trans (grown_drewN hg2 _) (grown_set _ P 1 _)
  · clear hcell hz
    go_enter Tryd.func54, Tryd.ntmps54
    go_wp2
    have hwb := wrap64_bounds (wrap64 (h * 6364136223846793005) + 1442695040888963407)
    generalize wrap64 (wrap64 (h * 6364136223846793005) + 1442695040888963407) = h3 at hwb ⊢
    go_quiet (fail)
    have hx := and255 (bits BinOp.xor IntKind.i64 (h3 / 8589934592) (h3 / 35184372088832))
    generalize bits BinOp.and IntKind.i64 (bits BinOp.xor IntKind.i64 (h3 / 8589934592) (h3 / 35184372088832)) 255 = x at hx ⊢
    go_wp2
    go_quiet (fail)
    go_wp2
    go_ret
    have hg2 : w.grownBy (w.setCell ⟨P, 2, none⟩ (.int .i64 h3)) (some P) := grown_set w P 2 _
    have hh2 := heap_setCell_same w P 2 _ 67 (.int .i64 h3) hh
    exact ⟨x, rfl, hx.1, hx.2, Cur.turned R B hP (grown_drewN (grown_drewN hg2 _) _) B.size (i := i) (h := h3) hi hwb.1 hwb.2 hh2, grown_drewN (grown_drewN hg2 _) _⟩

end Go.Proofs.YtnhepegkjejfcaaDoor
