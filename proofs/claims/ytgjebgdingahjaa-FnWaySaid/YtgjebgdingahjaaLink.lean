/-
  Links: what one is, and the contracts of the laws' helpers szLink, toLink, eqLink, markLink, heldLink. No condition.
-/
import Derived.Test.YtgjebgdingahjaaStrs
import Derived.Test.YtgjebgdingahjaaSOwn
import Derived.Test.YtgjebgdingahjaaPcMark
import Derived.Test.YtgjebgdingahjaaStore2
namespace Go.Proofs.Ytgjebgdingahjaa
open Go.RowKit

structure Lk where
  sent : Int
  acked : Int
  q : List ByteArray
  got : Int
  h : List Pc

theorem Try.sizeLk : (Try.prog.info? 27).map (·.size) = some 5 := by kernel_rfl
/-- What a link's variable holds: at block b, a link whose rows lie between lo and hi and read as l has them. -/
def VarL (w : World) (b lo hi : Nat) (v1 v2 : Value) (l : Lk) : Prop :=
  w.heap[b]? = some (.cells #[.int .i64 l.sent, .int .i64 l.acked, v1, .int .i64 l.got, v2] 27 (0, 0)) ∧ SOwn w lo v1 l.q ∧ w.ownsRow lo 36 2 v2 l.h.length (pccs l.h) ∧ (l.q ≠ [] → ∀ k, v1.ownBlock = some k → k < hi) ∧ (∀ k, v2.ownBlock = some k → k < hi) ∧ hi ≤ w.heap.size
theorem VarL.new {w5 we : World} {lo : Nat} {v1 v2 : Value} {l : Lk} (h1 : SOwn w5 lo v1 l.q) (h2 : w5.ownsRow lo 36 2 v2 l.h.length (pccs l.h)) (hd : Below w5.heap.size w5 we) (hb : we.heap[w5.heap.size]? = some (.cells #[.int .i64 l.sent, .int .i64 l.acked, v1, .int .i64 l.got, v2] 27 (0, 0))) :
    VarL we w5.heap.size lo we.heap.size v1 v2 l :=
  ⟨hb, h1.below hd, own_below h2 hd, fun hne k hk => by
    obtain ⟨g, cs, e, _, hg⟩ := (h1.below hd).blk hne
    rw [hk] at e
    cases e
    exact (Array.getElem?_eq_some_iff.1 hg).1, fun k hk => ((own_below h2 hd).lt k hk).2, Nat.le_refl _⟩
theorem VarL.below {w w' : World} {b lo hi : Nat} {v1 v2 : Value} {l : Lk} (h : VarL w b lo hi v1 v2 l) (hb : Below w.heap.size w w') : VarL w' b lo hi v1 v2 l :=
  ⟨(hb.block b (Array.getElem?_eq_some_iff.1 h.1).1).trans h.1, h.2.1.below hb, own_below h.2.2.1 hb, h.2.2.2.1, h.2.2.2.2.1, Nat.le_trans h.2.2.2.2.2 hb.size⟩
theorem VarL.lt {w : World} {b lo hi : Nat} {v1 v2 : Value} {l : Lk} (h : VarL w b lo hi v1 v2 l) : b < w.heap.size := (Array.getElem?_eq_some_iff.1 h.1).1
theorem VarL.row1 {w : World} {b lo hi : Nat} {v1 v2 : Value} {l : Lk} (h : VarL w b lo hi v1 v2 l) (hm : l.q.length ≤ 4194304) (hz : ∀ x ∈ l.q, x.size ≤ maxLen) : StRow w v1 l.q := h.2.1.row (by omega) hz
theorem VarL.row2 {w : World} {b lo hi : Nat} {v1 v2 : Value} {l : Lk} (h : VarL w b lo hi v1 v2 l) (hm : l.h.length ≤ 4194304) (hz : ∀ x ∈ l.h, x.s.size ≤ maxLen) : PcRow w v2 l.h := PcRow.of_own h.2.2.1 (by omega) hz
/-- What another block's turning leaves. -/
theorem VarL.keptBy {w w' : World} {b lo hi : Nat} {v1 v2 : Value} {l : Lk} {o : Option Nat} (h : VarL w b lo hi v1 v2 l) (hg : w.grownBy w' o) (hb : ∀ k, o = some k → k ≠ b ∧ (k < lo ∨ hi ≤ k)) : VarL w' b lo hi v1 v2 l := by
  refine ⟨(hg.block b h.lt (fun e => (hb b e.symm).1 rfl)).trans h.1, h.2.1.kept hg ?_, h.2.2.1.kept hg ?_, h.2.2.2.1, h.2.2.2.2.1, Nat.le_trans h.2.2.2.2.2 hg.size⟩
  · by_cases hq : l.q = []
    · exact Or.inl hq
    · refine Or.inr fun g e eo => ?_
      obtain ⟨g', cs, e', hlo, _⟩ := h.2.1.blk hq
      rw [e] at e'
      cases e'
      have k1 := h.2.2.2.1 hq g e
      have k3 := (hb g eo).2
      omega
  · cases hv : v2.ownBlock with
    | none => exact Or.inl rfl
    | some k =>
      refine Or.inr fun e => ?_
      have k1 := h.2.2.2.2.1 k hv
      have k2 := (h.2.2.1.lt k hv).1
      have k3 := (hb k e.symm).2
      omega
/-- What is marked of a link: its texts, and its pieces behind them. -/
def lmk (l : Lk) : Lk := ⟨l.sent, l.acked, sm 1 l.q.length, l.got, pmarked (1 + l.q.length) l.h l.h.length⟩
/-- All but rows of texts and of pieces between lo and hi stay, and what is new. -/
def Turned (w w' : World) (lo hi : Nat) : Prop :=
  w'.os = w.os ∧ w'.tape = w.tape ∧ w'.output = w.output ∧ w.heap.size ≤ w'.heap.size ∧ ∀ k, k < w.heap.size → (k < lo ∨ hi ≤ k ∨ ∃ cs t, w.heap[k]? = some (.cells cs t (0, 0)) ∧ t ≠ 9 ∧ t ≠ 36) → w'.heap[k]? = w.heap[k]?
theorem Turned.block {w w' : World} {lo hi k : Nat} {cs : Array Value} {t : TypeId} (h : Turned w w' lo hi) (hk : w.heap[k]? = some (.cells cs t (0, 0))) (h1 : t ≠ 9) (h2 : t ≠ 36) : w'.heap[k]? = some (.cells cs t (0, 0)) :=
  (h.2.2.2.2 k (Array.getElem?_eq_some_iff.1 hk).1 (Or.inr (Or.inr ⟨cs, t, hk, h1, h2⟩))).trans hk
theorem Turned.belowT {w0 w w' : World} {lo hi B : Nat} (h0 : Below B w0 w) (h : Turned w w' lo hi) (hB : B ≤ lo) (hw : B ≤ w.heap.size) : Below B w0 w' :=
  ⟨h.1.trans h0.os, h.2.1.trans h0.tape, h.2.2.1.trans h0.output, Nat.le_trans h0.size h.2.2.2.1, fun k hk => (h.2.2.2.2 k (Nat.lt_of_lt_of_le hk hw) (Or.inl (Nat.lt_of_lt_of_le hk hB))).trans (h0.block k hk)⟩
theorem own_turned {w w' : World} {lo hi lo' hi' k n : Nat} {e : TypeId} {v : Value} {xs : List Value} (h : Turned w w' lo hi) (ho : w.ownsRow lo' e k v n xs) (hv : ∀ g, v.ownBlock = some g → g < hi') (hd : hi' ≤ lo ∨ hi ≤ lo') : w'.ownsRow lo' e k v n xs := by
  refine ⟨ho.1, ?_⟩
  rcases ho.2 with ⟨rfl, h0⟩ | ⟨g, cap, cur, rfl, hb, hg, hr⟩
  · exact Or.inl ⟨rfl, h0⟩
  · have h1 := hv g rfl
    exact Or.inr ⟨g, cap, cur, rfl, hb, (h.2.2.2.2 g (Array.getElem?_eq_some_iff.1 hg).1 (by omega)).trans hg, hr⟩
theorem VarL.turned {w w' : World} {lo hi b lo' hi' : Nat} {v1 v2 : Value} {l : Lk} (h : Turned w w' lo hi) (V : VarL w b lo' hi' v1 v2 l) (hd : hi' ≤ lo ∨ hi ≤ lo') : VarL w' b lo' hi' v1 v2 l := by
  refine ⟨h.block V.1 (by decide) (by decide), ?_, own_turned h V.2.2.1 V.2.2.2.2.1 hd, V.2.2.2.1, V.2.2.2.2.1, Nat.le_trans V.2.2.2.2.2 h.2.2.2.1⟩
  obtain ⟨ao, cap, rfl, hc, hq⟩ := V.2.1
  refine ⟨ao, cap, rfl, hc, ?_⟩
  by_cases hne : l.q = []
  · exact Or.inl hne
  · rcases hq with hq | ⟨g, CAP, N, pre, post, rfl, hN, ho⟩
    · exact absurd hq hne
    · exact Or.inr ⟨g, CAP, N, pre, post, rfl, hN, own_turned h ho (fun g' e => V.2.2.2.1 hne g' (by simpa [Value.ownBlock] using e)) hd⟩

theorem lmk_q (l : Lk) : (lmk l).q.length = l.q.length := sm_length _ _
theorem lmk_h (l : Lk) : (lmk l).h.length = l.h.length := pmarked_length _ _ _ (Nat.le_refl _)

end Go.Proofs.Ytgjebgdingahjaa
