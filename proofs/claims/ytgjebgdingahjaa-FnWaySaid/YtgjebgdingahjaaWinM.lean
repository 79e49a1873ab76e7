/-
  A window's map and numbers: what they read as. Nothing of the program but the types' numbers; no condition.
-/
import Derived.Test.YtgjebgdingahjaaLkMath
import Derived.Maps.OwnSet
namespace Go.Proofs.Ytgjebgdingahjaa
open Go.RowKit Go.Maps

/-- How a piece in a map reads. -/
def pcd (p : Pc) : DataW Unit := .agg [.lit (.int .i64 p.n), .lit (.string p.s.data.toList)]
def pcR (v : Value) : Option (DataW Unit × List MemPlace) :=
  match v with
  | .agg ⟨[.int .i64 n, .string s]⟩ => some (pcd ⟨n, s⟩, [])
  | _ => none
theorem pcR_mk (n : Int) (s : ByteArray) : pcR (.agg #[.int .i64 n, .string s]) = some (pcd ⟨n, s⟩, []) := rfl
theorem pcd_inj {p q : Pc} (h : pcd p = pcd q) : p = q := by
  obtain ⟨n, ⟨⟨s⟩⟩⟩ := p
  obtain ⟨m, ⟨⟨t⟩⟩⟩ := q
  simp only [pcd, DataW.agg.injEq, List.cons.injEq, DataW.lit.injEq, Lit.int.injEq, Lit.string.injEq, and_true, true_and] at h
  obtain ⟨rfl, rfl⟩ := h
  rfl
theorem pcR_inv {v : Value} {p : Pc} {ps : List MemPlace} (h : pcR v = some (pcd p, ps)) : v = .agg #[.int .i64 p.n, .string p.s] := by
  unfold pcR at h
  split at h
  · simp only [Option.some.injEq, Prod.mk.injEq] at h
    have := pcd_inj h.1
    subst this
    rfl
  · cases h
/-- The map reads as the pieces ps, each at its number. -/
def MapIs (D : DataW Unit) (ps : List Pc) : Prop :=
  IsMap D ∧ ∀ n : Int, (Maps.has D (.int .i64 n) = true ↔ ∃ p ∈ ps, p.n = n) ∧ ∀ p ∈ ps, p.n = n → ∀ z, D.atKey (.int .i64 n) z = pcd p
theorem MapIs.nil : MapIs (.map []) [] := ⟨isMap_empty, fun n => ⟨by simp [Maps.has], fun p hp => by simp at hp⟩⟩
theorem MapIs.put {D : DataW Unit} {ps qs : List Pc} (h : MapIs D ps) (p : Pc) (hnew : ∀ q ∈ ps, q.n ≠ p.n) (hm : ∀ q, q ∈ qs ↔ q = p ∨ q ∈ ps) : MapIs (D.put (.int .i64 p.n) (pcd p)) qs := by
  refine ⟨h.1.put _ _, fun n => ?_⟩
  by_cases hn : n = p.n
  · subst hn
    refine ⟨⟨fun _ => ⟨p, (hm p).2 (Or.inl rfl), rfl⟩, fun _ => has_put_same h.1 (by simp [WideAt.IsKeyLit]) _⟩, fun q hq e z => ?_⟩
    rcases (hm q).1 hq with rfl | hq
    · exact atKey_put_same h.1 (by simp [WideAt.IsKeyLit]) _ _
    · exact absurd e (hnew q hq)
  · have hne : (Lit.int .i64 n) ≠ (Lit.int .i64 p.n) := fun e => hn (by simpa using e)
    rw [has_put_other hne]
    refine ⟨(h.2 n).1.trans ⟨fun ⟨q, hq, e⟩ => ⟨q, (hm q).2 (Or.inr hq), e⟩, fun ⟨q, hq, e⟩ => ?_⟩, fun q hq e z => ?_⟩
    · rcases (hm q).1 hq with rfl | hq
      · exact absurd e.symm hn
      · exact ⟨q, hq, e⟩
    · rw [atKey_put_other hne]
      rcases (hm q).1 hq with rfl | hq
      · exact absurd e.symm hn
      · exact (h.2 n).2 q hq e z
theorem MapIs.del {D : DataW Unit} {ps qs : List Pc} (h : MapIs D ps) (m : Int) (hm : ∀ q, q ∈ qs ↔ q ∈ ps ∧ q.n ≠ m) : MapIs (D.del (.int .i64 m)) qs := by
  refine ⟨h.1.del _, fun n => ?_⟩
  by_cases hn : n = m
  · subst hn
    refine ⟨⟨fun e => ?_, fun ⟨q, hq, e⟩ => absurd e ((hm q).1 hq).2⟩, fun q hq e => absurd e ((hm q).1 hq).2⟩
    rw [has_del_same] at e
    cases e
  · have hne : (Lit.int .i64 n) ≠ (Lit.int .i64 m) := fun e => hn (by simpa using e)
    rw [has_del_other hne]
    refine ⟨(h.2 n).1.trans ⟨fun ⟨q, hq, e⟩ => ⟨q, (hm q).2 ⟨hq, by omega⟩, e⟩, fun ⟨q, hq, e⟩ => ⟨q, ((hm q).1 hq).1, e⟩⟩, fun q hq e z => ?_⟩
    rw [atKey_del_other hne]
    exact (h.2 n).2 q ((hm q).1 hq).1 e z

/-- In order, each number once. -/
def Asc (ps : List Pc) : Prop := ps.Pairwise (fun p q => p.n < q.n)
theorem heldB_asc {e z : Int} {h : List Pc} (hb : heldB e z h = true) : Asc h ∧ ∀ p ∈ h, z < p.n ∧ p.n < e := by
  induction h generalizing z with
  | nil => exact ⟨List.Pairwise.nil, fun p hp => by simp at hp⟩
  | cons p ps ih =>
    simp only [heldB, Bool.and_eq_true, decide_eq_true_eq] at hb
    obtain ⟨i1, i2⟩ := ih hb.2.2
    refine ⟨List.Pairwise.cons (fun q hq => (i2 q hq).1) i1, fun q hq => ?_⟩
    rcases List.mem_cons.1 hq with rfl | hq
    · exact ⟨hb.1, hb.2.1⟩
    · have := i2 q hq
      exact ⟨by omega, this.2⟩
/-- Held at its place: the numbers. -/
theorem holdL_nums {ps : List Pc} {x : Pc} (ha : Asc ps) (hn : ∀ p ∈ ps, p.n ≠ x.n) : (holdL x ps).map (·.n) = (ps.map (·.n)).take ((ps.map (·.n)).countP (· < x.n)) ++ x.n :: (ps.map (·.n)).drop ((ps.map (·.n)).countP (· < x.n)) := by
  induction ps with
  | nil => rfl
  | cons p ps ih =>
    have hp := List.pairwise_cons.1 ha
    simp only [holdL, List.map_cons, List.countP_cons]
    by_cases hlt : p.n < x.n
    · rw [if_pos hlt]
      simp only [hlt, decide_true, if_true, List.map_cons, List.take_succ_cons, List.drop_succ_cons, List.cons_append]
      rw [ih hp.2 (fun q hq => hn q (List.mem_cons_of_mem _ hq))]
    · have h0 : (ps.map (·.n)).countP (· < x.n) = 0 := by
        rw [List.countP_eq_zero]
        intro m hm
        simp only [List.mem_map] at hm
        obtain ⟨q, hq, rfl⟩ := hm
        have := hp.1 q hq
        simp only [decide_eq_true_eq]
        omega
      rw [if_neg hlt, if_neg (hn p List.mem_cons_self), h0]
      simp [hlt]
theorem holdL_mem_iff {ps : List Pc} {x : Pc} (hn : ∀ p ∈ ps, p.n ≠ x.n) (q : Pc) : q ∈ holdL x ps ↔ q = x ∨ q ∈ ps := by
  induction ps with
  | nil => simp [holdL]
  | cons p ps ih =>
    simp only [holdL]
    split
    · rw [List.mem_cons, ih (fun q hq => hn q (List.mem_cons_of_mem _ hq)), List.mem_cons]
      constructor
      · rintro (h | h | h)
        · exact Or.inr (Or.inl h)
        · exact Or.inl h
        · exact Or.inr (Or.inr h)
      · rintro (h | h | h)
        · exact Or.inr (Or.inl h)
        · exact Or.inl h
        · exact Or.inr (Or.inr h)
    · rw [if_neg (hn p List.mem_cons_self), List.mem_cons]
/-- What is held already stays as it is. -/
theorem holdL_there {ps : List Pc} {x p : Pc} (ha : Asc ps) (hp : p ∈ ps) (he : p.n = x.n) : holdL x ps = ps := by
  induction ps with
  | nil => simp at hp
  | cons q ps ih =>
    have hq := List.pairwise_cons.1 ha
    simp only [holdL]
    rcases List.mem_cons.1 hp with rfl | hp
    · rw [if_neg (by omega), if_pos he]
    · have := hq.1 p hp
      rw [if_pos (by omega), ih hq.2 hp]
theorem holdL_asc {ps : List Pc} {x : Pc} (ha : Asc ps) : Asc (holdL x ps) := by
  induction ps with
  | nil => simp [holdL, Asc]
  | cons p ps ih =>
    have hp := List.pairwise_cons.1 ha
    simp only [holdL]
    split
    · refine List.Pairwise.cons (fun q hq => ?_) (ih hp.2)
      rcases holdL_mem x ps q hq with rfl | hq
      · assumption
      · exact hp.1 q hq
    · split
      · exact ha
      · refine List.Pairwise.cons (fun q hq => ?_) ha
        rcases List.mem_cons.1 hq with rfl | hq
        · omega
        · have := hp.1 q hq
          omega
/-- What LinkTake answers, as a window has it. -/
theorem takeR_win {l : Lk} {x : Pc} (h : linkB l = true) : takeR l x =
    (⟨l.sent, l.acked, l.q, (upGo l.got (if l.got ≤ x.n ∧ x.n < lend l then holdL x l.h else l.h)).2.1, (upGo l.got (if l.got ≤ x.n ∧ x.n < lend l then holdL x l.h else l.h)).2.2⟩, (upGo l.got (if l.got ≤ x.n ∧ x.n < lend l then holdL x l.h else l.h)).1) := by
  have hn := linkB_nums h
  have hh := h
  rw [linkB_held hn] at hh
  obtain ⟨ha, hb⟩ := heldB_asc hh
  have none : ∀ ps : List Pc, (∀ p ∈ ps, l.got < p.n) → upGo l.got ps = ([], l.got, ps) := by
    intro ps hp
    cases ps with
    | nil => rfl
    | cons p ps =>
      have := hp p List.mem_cons_self
      simp only [upGo, if_neg (by omega : ¬ p.n = l.got)]
  by_cases hin : l.got ≤ x.n ∧ x.n < lend l
  · by_cases hgt : l.got < x.n
    · rw [takeR_hold h ⟨hin.1, by omega⟩ hgt, if_pos hin, none]
      intro p hp
      rcases holdL_mem x l.h p hp with rfl | hp
      · exact hgt
      · exact (hb p hp).1
    · have he : x.n = l.got := by omega
      rw [takeR_up h ⟨hin.1, by omega⟩ hgt, if_pos hin]
      have hx : holdL x l.h = x :: l.h := by
        cases hl : l.h with
        | nil => rfl
        | cons p ps =>
          have := (hb p (by rw [hl]; exact List.mem_cons_self)).1
          simp only [holdL, if_neg (by omega : ¬ p.n < x.n), if_neg (by omega : ¬ p.n = x.n)]
      rw [hx]
      simp only [upGo, if_pos he]
  · rw [takeR_out h (by omega), if_neg hin, none _ (fun p hp => (hb p hp).1)]
end Go.Proofs.Ytgjebgdingahjaa
