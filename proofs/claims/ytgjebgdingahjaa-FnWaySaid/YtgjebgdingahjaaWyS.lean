/-
  Where the law FnWay stands: a link's box, what was handed in and up, what is in the air; and how that goes over its steps. No condition.
-/
import Derived.Test.YtgjebgdingahjaaWyH2
import Derived.Test.YtgjebgdingahjaaLkAckM
import Derived.Test.YtgjebgdingahjaaPcMark
namespace Go.Proofs.Ytgjebgdingahjaa
open Go.RowKit

theorem own_lt {w : World} {B k n g : Nat} {e : TypeId} {v : Value} {l : List Value} (h : w.ownsRow B e k v n l) (hg : v.ownBlock = some g) : g < w.heap.size := by
  rcases h.2 with ⟨rfl, _⟩ | ⟨g', cap, cur, rfl, hB, hgg, _⟩
  · cases hg
  · simp only [Value.ownBlock, Option.some.injEq] at hg
    subst hg
    exact (Array.getElem?_eq_some_iff.1 hgg).1
theorem own_ge {w : World} {B k n g : Nat} {e : TypeId} {v : Value} {l : List Value} (h : w.ownsRow B e k v n l) (hg : v.ownBlock = some g) : B ≤ g := by
  rcases h.2 with ⟨rfl, _⟩ | ⟨g', cap, cur, rfl, hB, hgg, _⟩
  · cases hg
  · simp only [Value.ownBlock, Option.some.injEq] at hg
    subst hg
    exact hB
theorem own_grow {w w' : World} {B k n : Nat} {e : TypeId} {v : Value} {l : List Value} {o : Option Nat} (h : w.ownsRow B e k v n l) (hg : w.grownBy w' o) (hne : ∀ g, v.ownBlock = some g → o ≠ some g) : w'.ownsRow B e k v n l := by
  refine ⟨h.1, ?_⟩
  rcases h.2 with ⟨rfl, h0⟩ | ⟨g', cap, cur, rfl, hB, hgg, hr⟩
  · exact Or.inl ⟨rfl, h0⟩
  · refine Or.inr ⟨g', cap, cur, rfl, hB, ?_, hr⟩
    rw [← hgg]
    exact hg.block g' (Array.getElem?_eq_some_iff.1 hgg).1 (fun e => hne g' rfl e.symm)
theorem own_cells {w : World} {B k n g : Nat} {e : TypeId} {v : Value} {l : List Value} (h : w.ownsRow B e k v n l) (hg : v.ownBlock = some g) : ∃ c, w.heap[g]? = some (.cells c e (0, 0)) := by
  rcases h.2 with ⟨rfl, _⟩ | ⟨g', cap, cur, rfl, hB, hgg, _⟩
  · cases hg
  · simp only [Value.ownBlock, Option.some.injEq] at hg
    subst hg
    exact ⟨cur, hgg⟩
theorem own_two {w : World} {B B' k k' n n' : Nat} {e e' : TypeId} {v v' : Value} {l l' : List Value} (h : w.ownsRow B e k v n l) (h' : w.ownsRow B' e' k' v' n' l') (hne : e ≠ e') : ∀ g, v.ownBlock = some g → v'.ownBlock ≠ some g := by
  intro g h1 h2
  obtain ⟨c, hc⟩ := own_cells h h1
  exact own_ne h' hc hne h2
theorem sown_lt {w : World} {B g : Nat} {v : Value} {xs : List ByteArray} (h : SOwn w B v xs) (hne : xs ≠ []) (hg : v.ownBlock = some g) : B ≤ g ∧ g < w.heap.size := by
  obtain ⟨g', cs, e, h1, h2⟩ := h.blk hne
  rw [e] at hg
  cases hg
  exact ⟨h1, (Array.getElem?_eq_some_iff.1 h2).1⟩

/-- A slice of none, without room. -/
def Air0 (v : Value) : Prop := ∃ g o, v = .slice (some ⟨g, o, none⟩) 0 0
/-- What is in the air: the last pieces of a row of our own, or none, without room. -/
def AirR (B : Nat) (w : World) (v : Value) (air : List Pc) : Prop :=
  (air = [] ∧ Air0 v) ∨ ∃ g CAP pre, v = .slice (some ⟨g, pre.length * 2, none⟩) air.length (CAP - pre.length) ∧ pre.length + air.length ≤ CAP ∧ pre.length < CAP ∧
    w.ownsRow B 36 2 (.slice (some ⟨g, 0, none⟩) (pre ++ air).length CAP) (pre ++ air).length (pccs (pre ++ air))
theorem AirR.form {B : Nat} {w : World} {v : Value} {air : List Pc} (h : AirR B w v air) : ∃ ao cap, v = .slice ao air.length cap := by
  rcases h with ⟨rfl, g, o, rfl⟩ | ⟨g, CAP, pre, rfl, _⟩
  · exact ⟨_, 0, rfl⟩
  · exact ⟨_, _, rfl⟩
theorem AirR.below {B : Nat} {w w' : World} {v : Value} {air : List Pc} (h : AirR B w v air) (hb : Below w.heap.size w w') : AirR B w' v air := by
  rcases h with h | ⟨g, CAP, pre, e, h1, h2, ho⟩
  · exact Or.inl h
  · exact Or.inr ⟨g, CAP, pre, e, h1, h2, own_below ho hb⟩
theorem AirR.grow {B : Nat} {w w' : World} {v : Value} {air : List Pc} {o : Option Nat} (h : AirR B w v air) (hg : w.grownBy w' o) (hne : ∀ g c, o = some g → w.heap[g]? ≠ some (.cells c 36 (0, 0))) : AirR B w' v air := by
  rcases h with h | ⟨g, CAP, pre, rfl, h1, h2, ho⟩
  · exact Or.inl h
  · exact Or.inr ⟨g, CAP, pre, rfl, h1, h2, own_grow ho hg (fun k hk e => by obtain ⟨c, hc⟩ := own_cells ho hk; exact hne k c e hc)⟩

structure WyS (B : Nat) (w : World) (b : Nat) (v1 v2 vg vt va : Value) (l : Lk) (gave took : List ByteArray) (air : List Pc) : Prop where
  x : w.heap[b]? = some (.cells #[.int .i64 l.sent, .int .i64 l.acked, v1, .int .i64 l.got, v2] 27 (0, 0))
  bb : B ≤ b
  q : SOwn w B v1 l.q
  h : w.ownsRow B 36 2 v2 l.h.length (pccs l.h)
  g : w.ownsRow B 9 1 vg gave.length (stv gave)
  t : w.ownsRow B 9 1 vt took.length (stv took)
  a : AirR B w va air
  qg : l.q = [] ∨ ∀ k, v1.ownBlock = some k → vg.ownBlock ≠ some k
  qt : l.q = [] ∨ ∀ k, v1.ownBlock = some k → vt.ownBlock ≠ some k
  gt : ∀ k, vg.ownBlock = some k → vt.ownBlock ≠ some k
  ha : (air = [] ∧ Air0 va) ∨ ∀ k, v2.ownBlock = some k → va.ownBlock ≠ some k
theorem WyS.below {B : Nat} {w w' : World} {b : Nat} {v1 v2 vg vt va : Value} {l : Lk} {gave took : List ByteArray} {air : List Pc} (S : WyS B w b v1 v2 vg vt va l gave took air) (hb : Below w.heap.size w w') : WyS B w' b v1 v2 vg vt va l gave took air :=
  ⟨(hb.block _ (Array.getElem?_eq_some_iff.1 S.x).1).trans S.x, S.bb, S.q.below hb, own_below S.h hb, own_below S.g hb, own_below S.t hb, S.a.below hb, S.qg, S.qt, S.gt, S.ha⟩
theorem AirR.box {B : Nat} {w w' : World} {v : Value} {air : List Pc} {g : Nat} {c : Array Value} {t : TypeId} (h : AirR B w v air) (hg : w.heap[g]? = some (.cells c t (0, 0))) (ht : t ≠ 36) (hb : ∀ j, j ≠ g → w'.heap[j]? = w.heap[j]?) : AirR B w' v air := by
  rcases h with h | ⟨g', CAP, pre, e, h1, h2, ho⟩
  · exact Or.inl h
  · exact Or.inr ⟨g', CAP, pre, e, h1, h2, own_box ho hg ht hb⟩
theorem AirR.lt {B : Nat} {w : World} {v : Value} {air : List Pc} (h : AirR B w v air) : (air = [] ∧ Air0 v) ∨ ∀ k, v.ownBlock = some k → (B ≤ k ∧ k < w.heap.size) ∧ ∃ c, w.heap[k]? = some (.cells c 36 (0, 0)) := by
  rcases h with h | ⟨g', CAP, pre, rfl, h1, h2, ho⟩
  · exact Or.inl h
  · exact Or.inr fun k hk => ⟨⟨own_ge ho hk, own_lt ho hk⟩, own_cells ho hk⟩
/-- Another link lies in the box. -/
theorem WyS.link {B : Nat} {w0 w w' : World} {b : Nat} {v1 v2 vg vt va u1 u2 : Value} {l l' : Lk} {gave took : List ByteArray} {air : List Pc} (S : WyS B w0 b v1 v2 vg vt va l gave took air) (hb : Below w0.heap.size w0 w)
    (U1 : SOwn w w0.heap.size u1 l'.q) (U2 : w.ownsRow w0.heap.size 36 2 u2 l'.h.length (pccs l'.h)) (hv : w'.heap[b]? = some (.cells #[.int .i64 l'.sent, .int .i64 l'.acked, u1, .int .i64 l'.got, u2] 27 (0, 0))) (ho : ∀ j, j ≠ b → w'.heap[j]? = w.heap[j]?) : WyS B w' b u1 u2 vg vt va l' gave took air := by
  have S1 := S.below hb
  have hB : B ≤ w0.heap.size := by have := S.bb; have := (Array.getElem?_eq_some_iff.1 S.x).1; omega
  refine ⟨hv, S.bb, U1.box S1.x (by decide) ho hB, own_mono (own_box U2 S1.x (by decide) ho) hB, own_box S1.g S1.x (by decide) ho, own_box S1.t S1.x (by decide) ho, S1.a.box S1.x (by decide) ho, ?_, ?_, S.gt, ?_⟩
  · by_cases h : l'.q = []
    · exact Or.inl h
    · exact Or.inr fun k h1 h2 => by have := (sown_lt U1 h h1).1; have := own_lt S.g h2; omega
  · by_cases h : l'.q = []
    · exact Or.inl h
    · exact Or.inr fun k h1 h2 => by have := (sown_lt U1 h h1).1; have := own_lt S.t h2; omega
  · rcases S.a.lt with h | h
    · exact Or.inl h
    · exact Or.inr fun k h1 h2 => by have := own_ge U2 h1; have := (h k h2).1.2; omega
/-- More was handed in. -/
theorem WyS.more {B : Nat} {w w' : World} {b : Nat} {v1 v2 vg vt va vg' : Value} {l : Lk} {gave took gave' : List ByteArray} {air : List Pc} (S : WyS B w b v1 v2 vg vt va l gave took air) (G : w'.ownsRow B 9 1 vg' gave'.length (stv gave')) (hg : w.grownBy w' vg.ownBlock)
    (hk : vg'.ownBlock = vg.ownBlock ∨ vg'.ownBlock = some w.heap.size) : WyS B w' b v1 v2 vg' vt va l gave' took air := by
  have hne := own_ne S.g S.x (by decide)
  refine ⟨(hg.block _ (Array.getElem?_eq_some_iff.1 S.x).1 (fun e => hne e.symm)).trans S.x, S.bb, S.q.kept hg S.qg, own_grow S.h hg (fun k h1 h2 => own_two S.h S.g (by decide) k h1 h2), G, own_grow S.t hg (fun k h1 h2 => S.gt k h2 h1), S.a.grow hg (fun k c h1 h2 => own_ne S.g h2 (by decide) h1), ?_, S.qt, ?_, S.ha⟩
  · rcases S.qg with h | h
    · exact Or.inl h
    · by_cases hq : l.q = []
      · exact Or.inl hq
      · refine Or.inr fun k h1 h2 => ?_
        rcases hk with e | e
        · rw [e] at h2; exact h k h1 h2
        · rw [e] at h2; cases h2; have := (sown_lt S.q hq h1).2; omega
  · intro k h1 h2
    rcases hk with e | e
    · rw [e] at h1; exact S.gt k h1 h2
    · rw [e] at h1; cases h1; have := own_lt S.t h2; omega
/-- More was handed up. -/
theorem WyS.up {B : Nat} {w w' : World} {b : Nat} {v1 v2 vg vt va vt' : Value} {l : Lk} {gave took took' : List ByteArray} {air : List Pc} (S : WyS B w b v1 v2 vg vt va l gave took air) (G : w'.ownsRow B 9 1 vt' took'.length (stv took')) (hg : w.grownBy w' vt.ownBlock)
    (hk : vt'.ownBlock = vt.ownBlock ∨ vt'.ownBlock = some w.heap.size) : WyS B w' b v1 v2 vg vt' va l gave took' air := by
  have hne := own_ne S.t S.x (by decide)
  refine ⟨(hg.block _ (Array.getElem?_eq_some_iff.1 S.x).1 (fun e => hne e.symm)).trans S.x, S.bb, S.q.kept hg S.qt, own_grow S.h hg (fun k h1 h2 => own_two S.h S.t (by decide) k h1 h2), own_grow S.g hg (fun k h1 h2 => S.gt k h1 h2), G, S.a.grow hg (fun k c h1 h2 => own_ne S.t h2 (by decide) h1), S.qg, ?_, ?_, S.ha⟩
  · rcases S.qt with h | h
    · exact Or.inl h
    · by_cases hq : l.q = []
      · exact Or.inl hq
      · refine Or.inr fun k h1 h2 => ?_
        rcases hk with e | e
        · rw [e] at h2; exact h k h1 h2
        · rw [e] at h2; cases h2; have := (sown_lt S.q hq h1).2; omega
  · intro k h1 h2
    rcases hk with e | e
    · rw [e] at h2; exact S.gt k h1 h2
    · rw [e] at h2; cases h2; have := own_lt S.g h1; omega
end Go.Proofs.Ytgjebgdingahjaa
