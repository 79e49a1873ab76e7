/-
  What LeaseAsk answers; results of a slice, a struct and a bool. No condition.
-/
import Derived.Test.YtdlbgdckkjhbdaaLsWith
import Derived.Test.YtdlbgdckkjhbdaaGrip
namespace Go.Proofs.Ytdlbgdckkjhbdaa
open Go.RowKit

/-- It is granted. -/
def akB (xs : List Ls) (i q n : Int) : Bool := lsB xs && (decide (0 ≤ n) && decide (n ≤ 1000000000)) && lsB (wlL xs ⟨i, q, n + 20⟩)
/-- The list that comes. -/
def akL (xs : List Ls) (i q n : Int) : List Ls := if akB xs i q n = true then wlL xs ⟨i, q, n + 20⟩ else if lsB xs = true then xs else []
/-- The grip's id, and up to when it is. -/
def akI (xs : List Ls) (i q n : Int) : Int := if akB xs i q n = true then i else 0
def akU (xs : List Ls) (i q n : Int) : Int := if akB xs i q n = true then n + 17 else 0

theorem ak_yes {xs : List Ls} {i q n : Int} (h1 : lsB xs = true) (h2 : 0 ≤ n ∧ n ≤ 1000000000) (h3 : lsB (wlL xs ⟨i, q, n + 20⟩) = true) : akB xs i q n = true ∧ akL xs i q n = wlL xs ⟨i, q, n + 20⟩ ∧ akI xs i q n = i ∧ akU xs i q n = n + 17 := by
  have hb : akB xs i q n = true := by unfold akB; rw [h1, h3]; simp; exact h2
  exact ⟨hb, by unfold akL; rw [if_pos hb], by unfold akI; rw [if_pos hb], by unfold akU; rw [if_pos hb]⟩
theorem ak_no {xs : List Ls} {i q n : Int} (h1 : lsB xs = true) (h : ¬ ((0 ≤ n ∧ n ≤ 1000000000) ∧ lsB (wlL xs ⟨i, q, n + 20⟩) = true)) : akB xs i q n = false ∧ akL xs i q n = xs ∧ akI xs i q n = 0 ∧ akU xs i q n = 0 := by
  have hb : akB xs i q n = false := by
    rw [Bool.eq_false_iff]
    intro e
    unfold akB at e
    simp only [Bool.and_eq_true, decide_eq_true_eq] at e
    exact h ⟨e.1.2, e.2⟩
  have hn : ¬ akB xs i q n = true := by rw [hb]; simp
  exact ⟨hb, by unfold akL; rw [if_neg hn, if_pos h1], by unfold akI; rw [if_neg hn], by unfold akU; rw [if_neg hn]⟩
theorem ak_bad {xs : List Ls} {i q n : Int} (h1 : lsB xs = false) : akB xs i q n = false ∧ akL xs i q n = [] ∧ akI xs i q n = 0 ∧ akU xs i q n = 0 := by
  have hb : akB xs i q n = false := by unfold akB; rw [h1]; rfl
  have hn : ¬ akB xs i q n = true := by rw [hb]; simp
  exact ⟨hb, by unfold akL; rw [if_neg hn, if_neg (by rw [h1]; simp)], by unfold akI; rw [if_neg hn], by unfold akU; rw [if_neg hn]⟩
theorem akL_len (xs : List Ls) (i q n : Int) : (akL xs i q n).length ≤ xs.length + 1 := by
  unfold akL
  split
  · exact wlL_len _ _
  · split
    · omega
    · simp

theorem results_tmp_row_tmp {P : Program} {fn : Func} {p u u' : Tmp} {ty : TypeId} (h : fn.results = #[.tmp u, .cell p ty, .tmp u']) (tmps : Array Value) (w : World) (g : Nat) (t : TypeId) (cs : Array Value) (fr : Nat × Nat) (d : TypeDesc)
    (hp : tmps.getD p undef = .pointer (some ⟨g, 0, none⟩)) (hg : w.heap[g]? = some (.cells cs t fr))
    (hu : P.underlying ty = some d) (hd : (match d with | .struct _ | .array _ _ => true | _ => false) = true) (hi : (P.info? ty).map (·.size) = some cs.size) :
    (results fn tmps).run P w = .ok (.tuple #[tmps.getD u undef, .agg cs, tmps.getD u' undef]) w := by
  have hp' : tmps[p]?.getD undef = .pointer (some ⟨g, 0, none⟩) := by simpa using hp
  simp [results, h, hp', asAddr, run_loadVar_row w g t ty cs fr d hg hu hd hi]

theorem own_keep2 {w w' : World} {B k n g : Nat} {e t : TypeId} {v : Value} {l : List Value} {c : Array Value} {fr : Nat × Nat} (h : w.ownsRow B e k v n l) (hte : t ≠ e) (hg : w.heap[g]? = some (.cells c t fr)) (hb : ∀ j, j ≠ g → w'.heap[j]? = w.heap[j]?) : w'.ownsRow B e k v n l := by
  refine ⟨h.1, ?_⟩
  rcases h.2 with ⟨rfl, h0⟩ | ⟨gg, cap, cur, rfl, hB, hgg, hr⟩
  · exact Or.inl ⟨rfl, h0⟩
  · refine Or.inr ⟨gg, cap, cur, rfl, hB, (hb gg ?_).trans hgg, hr⟩
    rintro rfl
    rw [hgg] at hg
    cases hg
    exact hte rfl

/-- What LeaseAsk answers, in memory. -/
def AkAns (xs : List Ls) (i q n : Int) (w : World) (e : Ending) (w' : World) : Prop :=
  ∃ u, e = .returned (.tuple #[u, .agg #[.int .i64 (akI xs i q n), .int .i64 (akU xs i q n)], .bool (akB xs i q n)]) ∧ w'.ownsRow w.heap.size 40 3 u (akL xs i q n).length (lscs (akL xs i q n)) ∧ Below w.heap.size w w'
theorem AkAns.of {xs : List Ls} {i q n : Int} {w w' : World} {u : Value} {L : List Ls} {gi gu : Int} {b : Bool} (h : akB xs i q n = b ∧ akL xs i q n = L ∧ akI xs i q n = gi ∧ akU xs i q n = gu) (ho : w'.ownsRow w.heap.size 40 3 u L.length (lscs L)) (hb : Below w.heap.size w w') :
    AkAns xs i q n w (.returned (.tuple #[u, .agg #[.int .i64 gi, .int .i64 gu], .bool b])) w' := by
  obtain ⟨rfl, rfl, rfl, rfl⟩ := h
  exact ⟨u, rfl, ho, hb⟩
end Go.Proofs.Ytdlbgdckkjhbdaa
