/-
  What is in the air: more is appended to it, and its first is left. No condition.
-/
import Derived.Test.YtgjebgdingahjaaWyS
import Derived.Test.YtgjebgdingahjaaIns
import Derived.ArgAppend
namespace Go.Proofs.Ytgjebgdingahjaa
open Go.RowKit

theorem air_not0 {g CAP : Nat} {pre air : List Pc} (h : pre.length < CAP) : ¬ Air0 (.slice (some ⟨g, pre.length * 2, none⟩) air.length (CAP - pre.length)) := by
  rintro ⟨g', o', e⟩
  simp only [Value.slice.injEq] at e
  omega
theorem air_of_own {B : Nat} {w : World} {v : Value} {new : List Pc} {C : Nat} (h : w.ownsRow C 36 2 v new.length (pccs new)) (hC : B ≤ C) (hn : new ≠ []) : AirR B w v new := by
  have h' := own_mono h hC
  rcases h.2 with ⟨_, h0⟩ | ⟨g, cap, cur, rfl, _, hg, hnc, _⟩
  · exact absurd (List.eq_nil_of_length_eq_zero h0) hn
  · have hp : 0 < new.length := List.length_pos_iff.2 hn
    exact Or.inr ⟨g, cap, [], by simp, by simpa using hnc, by simp; omega, by simpa using h'⟩

set_option maxHeartbeats 1600000 in
theorem run_air {B C : Nat} {w : World} {va vx : Value} {air new : List Pc} (ty : TypeId) (A : AirR B w va air) (O : w.ownsRow C 36 2 vx new.length (pccs new)) (hB : B ≤ w.heap.size) (hm : air.length + new.length ≤ 1000) :
    ∃ v' w' ob, (Builtin.append_ #[25, 25] ty #[va, vx]).run Try.prog w = .ok v' w' ∧ AirR B w' v' (air ++ new) ∧ w.grownBy w' ob ∧ (ob = none ∨ (¬ Air0 va ∧ ob = va.ownBlock)) ∧
      ((air ++ new = [] ∧ Air0 v') ∨ ∀ k, v'.ownBlock = some k → (¬ Air0 va ∧ va.ownBlock = some k) ∨ w.heap.size ≤ k) := by
  obtain ⟨i0, hi, hz0, hz1, hz2⟩ := info_parts Try.infoPc
  have hbig : (air.length + new.length) * 24 ≤ 140737488355328 := by omega
  have hmax : air.length + new.length ≤ maxLen := by unfold maxLen; omega
  rcases O.2 with ⟨rfl, h0⟩ | ⟨gx, cx, curx, rfl, _, hgx, _⟩
  · have hn : new = [] := List.eq_nil_of_length_eq_zero h0
    subst hn
    rw [List.append_nil]
    rcases A with ⟨rfl, g, o, rfl⟩ | ⟨g, CAP, pre, rfl, h1, h2, ho⟩
    · exact ⟨_, w, none, by simp [Builtin.append_, run_underlying Try.underlying25, sizeOf, typeInfo, hi, Builtin.lenOf, Builtin.firstCells, storeCells], Or.inl ⟨rfl, g, o, rfl⟩, World.grownBy.refl _ _, Or.inl rfl, Or.inl ⟨rfl, g, o, rfl⟩⟩
    · have hnc : air.length ≤ CAP - pre.length := by omega
      exact ⟨_, w, none, by simp [Builtin.append_, run_underlying Try.underlying25, sizeOf, typeInfo, hi, Builtin.lenOf, Builtin.firstCells, storeCells, hnc], Or.inr ⟨g, CAP, pre, rfl, h1, h2, ho⟩, World.grownBy.refl _ _, Or.inl rfl, Or.inr fun k hk => Or.inl ⟨air_not0 h2, hk⟩⟩
  · have hcx : ∀ j u, (pccs new)[j]? = some u → w.cell? ((⟨gx, 0, none⟩ : Addr).add j) = some u := by
      intro j u hu
      have hj := (List.getElem?_eq_some_iff.1 hu).1
      rw [Addr.add_lit, Nat.zero_add]
      rw [pccs_length] at hj
      exact (O.cellAt j hj).trans hu
    have hln : (pccs new).length = new.length * i0.size := by rw [hz1]; exact pccs_length new
    rcases A with ⟨rfl, g, o, rfl⟩ | ⟨g, CAP, pre, rfl, h1, h2, ho⟩
    · by_cases hn : new = []
      · subst hn
        have hr := run_append_room_cells (P := Try.prog) w 25 ty 36 i0 Try.underlying25 hi g o 0 0 ⟨gx, 0, none⟩ 0 cx [] (by simp) (by simp) (by simp) (by simp) (by simp) (by simp)
        exact ⟨_, w, none, hr, Or.inl ⟨rfl, g, o, rfl⟩, World.grownBy.refl _ _, Or.inl rfl, Or.inl ⟨rfl, g, o, rfl⟩⟩
      · have hp : 0 < new.length := List.length_pos_iff.2 hn
        obtain ⟨v', w', hr, r1, r2⟩ := run_append_arg_grows (P := Try.prog) w 25 ty 36 i0 _ 2 24 Try.underlying25 hi hz0 hz1 hz2 rfl (by decide) ⟨g, o, none⟩ 0 0 [] (by simp) (by simp) ⟨gx, 0, none⟩ new.length cx (pccs new) (pccs_length new) hcx (by omega) (by simpa using hmax) (by simpa using hbig)
        rw [Nat.zero_add, List.nil_append] at r1
        rw [List.nil_append]
        exact ⟨v', w', none, hr, air_of_own r1 hB hn, r2, Or.inl rfl, Or.inr fun k hk => Or.inr (own_ge r1 hk)⟩
    · by_cases hroom : air.length + new.length ≤ CAP - pre.length
      · obtain ⟨g', cap', cur, e, hbg, hgg, hle, hcm, hcs, htk⟩ : ∃ g' cap' cur, (Value.slice (some ⟨g, 0, none⟩) (pre ++ air).length CAP) = .slice (some ⟨g', 0, none⟩) (pre ++ air).length cap' ∧ B ≤ g' ∧ w.heap[g']? = some (.cells cur 36 (0, 0)) ∧ (pre ++ air).length ≤ cap' ∧ cap' ≤ maxLen ∧ cur.size = cap' * 2 ∧ cur.toList.take ((pre ++ air).length * 2) = pccs (pre ++ air) := by
          rcases ho.2 with ⟨e, _⟩ | h
          · cases e
          · exact h
        cases e
        have hlp : (pre ++ air).length = pre.length + air.length := List.length_append
        have hoff : pre.length * 2 + air.length * i0.size = (pre ++ air).length * 2 := by rw [hz1, hlp]; omega
        have hcl : ∀ j, j < (pccs new).length → (w.cell? ⟨g, pre.length * 2 + air.length * i0.size + j, none⟩).isSome = true ∧ w.frozen? ⟨g, pre.length * 2 + air.length * i0.size + j, none⟩ = false := by
          intro j hj
          rw [pccs_length] at hj
          have hlt : pre.length * 2 + air.length * i0.size + j < cur.size := by rw [hoff, hcs, hlp]; omega
          exact ⟨by rw [cell_of_row w g _ _ _ _ hgg, Array.getElem?_eq_getElem hlt]; rfl, frozen_of_row w g _ _ _ hgg⟩
        have hr := run_append_room_cells (P := Try.prog) w 25 ty 36 i0 Try.underlying25 hi g (pre.length * 2) air.length (CAP - pre.length) ⟨gx, 0, none⟩ new.length cx (pccs new) hln hcx (pccs_one new) hroom (fun j hj => (hcl j hj).1) (fun j hj => (hcl j hj).2)
        rw [hoff] at hr
        obtain ⟨cur', hb1, hb2⟩ := setCells_block g 36 (pccs new) ((pre ++ air).length * 2) w cur hgg (by rw [pccs_length, hcs, hlp]; omega)
        have hcs' : cur'.size = CAP * 2 := by
          have := congrArg List.length hb2
          simp only [List.length_append, List.length_take, List.length_drop, Array.length_toList, pccs_length] at this
          omega
        refine ⟨_, _, some g, hr, Or.inr ⟨g, CAP, pre, ?_, by rw [List.length_append]; omega, h2, ?_, Or.inr ⟨g, CAP, cur', rfl, hbg, hb1, ?_, hcm, hcs', ?_⟩⟩, grown_setCells g _ _ w, Or.inr ⟨air_not0 h2, rfl⟩, Or.inr fun k hk => Or.inl ⟨air_not0 h2, hk⟩⟩
        · rw [List.length_append]
        · rw [pccs_length]
        · simp only [List.length_append]; omega
        · rw [hb2, htk, ← List.append_assoc pre, pccs_append (pre ++ air) new, ← List.append_assoc]
          exact List.take_left' (by simp only [List.length_append, pccs_length]; omega)
      · have hlp : (pre ++ air).length = pre.length + air.length := List.length_append
        have hold : ∀ j u, (pccs air)[j]? = some u → w.cell? ((⟨g, pre.length * 2, none⟩ : Addr).add j) = some u := by
          intro j u hu
          have hj := (List.getElem?_eq_some_iff.1 hu).1
          rw [pccs_length] at hj
          rw [Addr.add_lit]
          refine (ho.cellAt (pre.length * 2 + j) (by rw [hlp]; omega)).trans ?_
          rw [pccs_append, List.getElem?_append_right (by rw [pccs_length]; omega), pccs_length]
          rw [show pre.length * 2 + j - pre.length * 2 = j by omega]
          exact hu
        obtain ⟨v', w', hr, r1, r2⟩ := run_append_arg_grows (P := Try.prog) w 25 ty 36 i0 _ 2 24 Try.underlying25 hi hz0 hz1 hz2 rfl (by decide) ⟨g, pre.length * 2, none⟩ air.length (CAP - pre.length) (pccs air) (pccs_length air) hold ⟨gx, 0, none⟩ new.length cx (pccs new) (pccs_length new) hcx (by omega) hmax hbig
        have hne : air ++ new ≠ [] := by
          intro e
          have : air.length + new.length = 0 := by rw [← List.length_append, e]; rfl
          omega
        rw [← pccs_append, ← List.length_append] at r1
        exact ⟨v', w', none, hr, air_of_own r1 hB hne, r2, Or.inl rfl, Or.inr fun k hk => Or.inr (own_ge r1 hk)⟩

/-- More is in the air. -/
theorem WyS.air {B : Nat} {w w' : World} {b : Nat} {v1 v2 vg vt va va' : Value} {l : Lk} {gave took : List ByteArray} {air air' : List Pc} {ob : Option Nat} (S : WyS B w b v1 v2 vg vt va l gave took air) (A : AirR B w' va' air') (hg : w.grownBy w' ob)
    (h1 : ob = none ∨ (¬ Air0 va ∧ ob = va.ownBlock)) (h2 : (air' = [] ∧ Air0 va') ∨ ∀ k, va'.ownBlock = some k → (¬ Air0 va ∧ va.ownBlock = some k) ∨ w.heap.size ≤ k) : WyS B w' b v1 v2 vg vt va' l gave took air' := by
  have hob : ∀ k, ob = some k → (B ≤ k ∧ k < w.heap.size) ∧ (∃ c, w.heap[k]? = some (.cells c 36 (0, 0))) ∧ v2.ownBlock ≠ some k := by
    intro k hk
    rcases h1 with e | ⟨hn, e⟩
    · rw [e] at hk; cases hk
    · rw [e] at hk
      have ha : ∀ k, v2.ownBlock = some k → va.ownBlock ≠ some k := by
        rcases S.ha with ⟨_, h⟩ | h
        · exact absurd h hn
        · exact h
      rcases S.a.lt with ⟨_, h⟩ | h
      · exact absurd h hn
      · exact ⟨(h k hk).1, (h k hk).2, fun h' => ha k h' hk⟩
  refine ⟨(hg.block _ (Array.getElem?_eq_some_iff.1 S.x).1 (fun e => ?_)).trans S.x, S.bb, S.q.kept hg ?_, own_grow S.h hg (fun k hk e => (hob k e).2.2 hk), own_grow S.g hg (fun k hk e => ?_), own_grow S.t hg (fun k hk e => ?_), A, S.qg, S.qt, S.gt, ?_⟩
  · obtain ⟨c, hc⟩ := (hob b e.symm).2.1
    rw [S.x] at hc
    cases hc
  · by_cases hq : l.q = []
    · exact Or.inl hq
    · refine Or.inr fun k hk e => ?_
      obtain ⟨c, hc⟩ := (hob k e).2.1
      obtain ⟨g', cs, e', _, hc'⟩ := S.q.blk hq
      rw [e'] at hk
      cases hk
      rw [hc] at hc'
      cases hc'
  · obtain ⟨c, hc⟩ := (hob k e).2.1
    exact own_ne S.g hc (by decide) hk
  · obtain ⟨c, hc⟩ := (hob k e).2.1
    exact own_ne S.t hc (by decide) hk
  · rcases h2 with h | h
    · exact Or.inl h
    · refine Or.inr fun k hk e => ?_
      rcases h k e with ⟨hn, e2⟩ | hge
      · rcases S.ha with ⟨_, h'⟩ | h'
        · exact hn h'
        · exact h' k hk e2
      · have := own_lt S.h hk
        omega
theorem WyS.air_below {B : Nat} {w w' w0 : World} {va : Value} {air : List Pc} {ob : Option Nat} (A : AirR B w va air) (hg : w.grownBy w' ob) (h1 : ob = none ∨ (¬ Air0 va ∧ ob = va.ownBlock)) (hb : Below B w0 w) (hB : B ≤ w.heap.size) : Below B w0 w' := by
  refine hb.grown hg hB fun k hk => ?_
  rcases h1 with e | ⟨hn, e⟩
  · rw [e] at hk; cases hk
  · rw [e] at hk
    rcases A.lt with ⟨_, h⟩ | h
    · exact absurd h hn
    · exact (h k hk).1.1
/-- The first is in the air no more. -/
theorem AirR.tail {B : Nat} {w : World} {g o cap : Nat} {x : Pc} {air : List Pc} (A : AirR B w (.slice (some ⟨g, o, none⟩) (air.length + 1) cap) (x :: air)) :
    (cap = 1 → AirR B w (.slice (some ⟨g, o, none⟩) 0 0) air) ∧ (1 < cap → AirR B w (.slice (some ⟨g, o + 2, none⟩) air.length (cap - 1)) air) := by
  rcases A with ⟨h, _⟩ | ⟨g', CAP, pre, e, h1, h2, ho⟩
  · cases h
  · simp only [Value.slice.injEq, Option.some.injEq, Addr.mk.injEq, List.length_cons, and_true, true_and] at e
    obtain ⟨⟨rfl, rfl⟩, rfl⟩ := e
    simp only [List.length_cons] at h1
    constructor
    · intro hc
      have : air = [] := List.eq_nil_of_length_eq_zero (by omega)
      exact Or.inl ⟨this, g, _, rfl⟩
    · intro hc
      refine Or.inr ⟨g, CAP, pre ++ [x], ?_, by simp; omega, by simp; omega, ?_⟩
      · simp only [List.length_append, List.length_cons, List.length_nil, Value.slice.injEq, Option.some.injEq, Addr.mk.injEq, and_true, true_and]
        omega
      · simpa using ho
end Go.Proofs.Ytgjebgdingahjaa
