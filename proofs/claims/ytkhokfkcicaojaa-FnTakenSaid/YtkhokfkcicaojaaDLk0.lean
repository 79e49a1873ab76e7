/-
  The memory of a link that is drawn. No condition.
-/
import Derived.Test.YtkhokfkcicaojaaLkMath
import Derived.Test.YtkhokfkcicaojaaSLkSend
import Derived.Test.YtkhokfkcicaojaaSLkTake
import Derived.Test.YtkhokfkcicaojaaSLkAck
import Derived.Test.YtkhokfkcicaojaaDraw5
namespace Go.Proofs.Ytkhokfkcicaojaa
open Go.RowKit

theorem grown_mr {w w1 w2 : World} {P : Nat} {r : Option Nat} (g : w.grownBy w1 (some P)) (h : w1.grownBy w2 r) (hr : ∀ k, r = some k → w.heap.size ≤ k) : w.grownBy w2 (some P) :=
  ⟨h.os.trans g.os, h.tape.trans g.tape, h.output.trans g.output, Nat.le_trans g.size h.size, fun i hi hne => (h.block i (Nat.lt_of_lt_of_le hi g.size) (fun e => by have := hr i e.symm; omega)).trans (g.block i hi hne)⟩
theorem own_nt {w : World} {base k : Nat} {e : TypeId} {v : Value} {n : Nat} {xs : List Value} (h : w.ownsRow base e k v n xs) {P : Nat} (hP : P < base) : v.ownBlock = none ∨ v.ownBlock ≠ some P := by
  cases hv : v.ownBlock with
  | none => exact Or.inl rfl
  | some k => right; intro e; have := (h.lt k hv).1; simp at e; omega
theorem SOwn.grow {w w' : World} {base P : Nat} {v : Value} {xs : List ByteArray} (h : SOwn w base v xs) (hg : w.grownBy w' (some P)) (hP : P < base) : SOwn w' base v xs := by
  refine h.kept hg ?_
  by_cases hx : xs = []
  · exact Or.inl hx
  · refine Or.inr fun g e eo => ?_
    obtain ⟨g', cs, e', hb, _⟩ := h.blk hx
    rw [e] at e'
    cases e'
    cases eo
    omega
theorem SOwn.mono {w : World} {B B' : Nat} {v : Value} {xs : List ByteArray} (h : SOwn w B v xs) (hB : B' ≤ B) : SOwn w B' v xs := by
  obtain ⟨ao, cap, rfl, hc, h⟩ := h
  refine ⟨ao, cap, rfl, hc, ?_⟩
  rcases h with h | ⟨g', CAP, N, pre, post, rfl, hN, ho⟩
  · exact Or.inl h
  · exact Or.inr ⟨g', CAP, N, pre, post, rfl, hN, own_mono ho hB⟩

/-- The memory of l10DrawRight: its result's box, its link's box, the link's rows, and what was sent. -/
structure DR (w0 : World) (v : Value) (zs : List Int) (P : Nat) (w wr : World) (l : Lk) (v1 v2 vs : Value) (S : List ByteArray) : Prop where
  res : wr.heap[w.heap.size]? = some (.cells #[.int .i64 0, .int .i64 0, .slice none 0 0, .int .i64 0, .slice none 0 0] 27 (0, 0))
  box : wr.heap[w.heap.size + 1]? = some (.cells #[.int .i64 l.sent, .int .i64 l.acked, v1, .int .i64 l.got, v2] 27 (0, 0))
  q : SOwn wr (w.heap.size + 2) v1 l.q
  h : wr.ownsRow (w.heap.size + 2) 29 2 v2 l.h.length (pccs l.h)
  s : wr.ownsRow (w.heap.size + 2) 9 1 vs S.length (stv S)
  ap : ∀ k, vs.ownBlock = some k → l.q = [] ∨ v1.ownBlock ≠ some k
  ok : linkB l = true
  zq : ∀ x ∈ l.q, x.size ≤ maxLen
  zh : ∀ x ∈ l.h, x.s.size ≤ maxLen
  zS : ∀ x ∈ S, x.size ≤ maxLen
  cur : Cur w0 v zs wr P
  gr : w.grownBy wr (some P)
variable {w0 : World} {v : Value} {zs : List Int} {P : Nat} {w wr : World} {l : Lk} {v1 v2 vs : Value} {S : List ByteArray}
theorem DR.lt (D : DR w0 v zs P w wr l v1 v2 vs S) : w.heap.size + 1 < wr.heap.size := (Array.getElem?_eq_some_iff.1 D.box).1
theorem DR.turn (D : DR w0 v zs P w wr l v1 v2 vs S) {w' : World} (c : Cur w0 v zs w' P) (g : wr.grownBy w' (some P)) (hP : P < w.heap.size) : DR w0 v zs P w w' l v1 v2 vs S :=
  ⟨(g.block _ (Array.getElem?_eq_some_iff.1 D.res).1 (by simp; omega)).trans D.res, (g.block _ D.lt (by simp; omega)).trans D.box, D.q.grow g (by omega), D.h.kept g (own_nt D.h (by omega)), D.s.kept g (own_nt D.s (by omega)), D.ap, D.ok, D.zq, D.zh, D.zS, c, grown_trans D.gr g⟩
theorem DR.below (D : DR w0 v zs P w wr l v1 v2 vs S) {w' : World} (hb : Below wr.heap.size wr w') (hP : P < w.heap.size) : DR w0 v zs P w w' l v1 v2 vs S :=
  ⟨(hb.block _ (Array.getElem?_eq_some_iff.1 D.res).1).trans D.res, (hb.block _ D.lt).trans D.box, D.q.below hb, own_below D.h hb, own_below D.s hb, D.ap, D.ok, D.zq, D.zh, D.zS, D.cur.kept (hb.mono (by have := D.lt; omega)), grown_mr D.gr (grown_below hb none) (fun k hk => by cases hk)⟩
/-- Another link laid into the box. -/
theorem DR.put (D : DR w0 v zs P w wr l v1 v2 vs S) {w' : World} {m : Lk} {u1 u2 : Value} {lo : Nat} (hbox : w'.heap[w.heap.size + 1]? = some (.cells #[.int .i64 m.sent, .int .i64 m.acked, u1, .int .i64 m.got, u2] 27 (0, 0))) (hoth : ∀ k, k ≠ w.heap.size + 1 → w'.heap[k]? = wr.heap[k]?) (hb : Below (w.heap.size + 1) wr w') (hsz : w'.heap.size = wr.heap.size)
    (q : SOwn wr lo u1 m.q) (h : wr.ownsRow lo 29 2 u2 m.h.length (pccs m.h)) (hlo : w.heap.size + 2 ≤ lo) (hf : ∀ k, vs.ownBlock = some k → k < lo) (ok : linkB m = true) (zq : ∀ x ∈ m.q, x.size ≤ maxLen) (zh : ∀ x ∈ m.h, x.s.size ≤ maxLen) (hP : P < w.heap.size) : DR w0 v zs P w w' m u1 u2 vs S := by
  have hq : SOwn w' (w.heap.size + 2) u1 m.q := by
    have := q.box D.box (by decide) hoth (B' := w.heap.size + 2) hlo
    exact this
  refine ⟨(hoth _ (by omega)).trans D.res, hbox, hq, own_mono (own_box h D.box (by decide) hoth) hlo, own_box D.s D.box (by decide) hoth, fun k hk => ?_, ok, zq, zh, D.zS, D.cur.kept (hb.mono (by omega)), ?_⟩
  · by_cases hx : m.q = []
    · exact Or.inl hx
    · refine Or.inr fun e => ?_
      obtain ⟨g, cs, e', hg, _⟩ := q.blk hx
      rw [e] at e'
      cases e'
      have := hf k hk
      omega
  · exact grown_mr D.gr ⟨hb.os, hb.tape, hb.output, by omega, fun i hi hne => hoth i (fun e => hne (by rw [e]))⟩ (fun k hk => by cases hk; omega)
/-- One more sent. -/
theorem DR.more (D : DR w0 v zs P w wr l v1 v2 vs S) {w' : World} {s : ByteArray} {g c H : Nat} (o : w'.ownsRow (w.heap.size + 2) 9 1 (.slice (some ⟨g, 0, none⟩) (S ++ [s]).length c) (S ++ [s]).length (stv (S ++ [s]))) (hg : (wr.alloc (.cells #[.string s] 9)).grownBy w' vs.ownBlock) (hgg : vs.ownBlock = some g ∨ g = H) (hH : wr.heap.size ≤ H) (hs : s.size ≤ maxLen) (hP : P < w.heap.size) :
    DR w0 v zs P w w' l v1 v2 (.slice (some ⟨g, 0, none⟩) (S ++ [s]).length c) (S ++ [s]) := by
  have hlt := D.lt
  have far : ∀ (k : Nat) (o : Obj), wr.heap[k]? = some o → vs.ownBlock ≠ some k → w'.heap[k]? = some o := fun k o hk hne =>
    (hg.block k (by simp; have := (Array.getElem?_eq_some_iff.1 hk).1; omega) (fun e => hne e.symm)).trans ((heap_alloc_old _ _ (Array.getElem?_eq_some_iff.1 hk).1).trans hk)
  have hne : ∀ k, k < w.heap.size + 2 → vs.ownBlock ≠ some k := fun k hk e => by have := (D.s.lt k e).1; omega
  refine ⟨far _ _ D.res (hne _ (by omega)), far _ _ D.box (hne _ (by omega)), ?_, ?_, o, fun k hk => ?_, D.ok, D.zq, D.zh, fun x hx => ?_, ?_, ?_⟩
  · refine (D.q.alloc _).kept hg ?_
    by_cases hx : l.q = []
    · exact Or.inl hx
    · refine Or.inr fun g' e eo => ?_
      rcases D.ap g' eo with h | h
      · exact hx h
      · exact h e
  · refine (D.h.alloc _).kept hg ?_
    cases hv : v2.ownBlock with
    | none => exact Or.inl rfl
    | some k =>
      refine Or.inr fun e => ?_
      rcases D.h.2 with ⟨e2, _⟩ | ⟨g2, cap2, cur2, e2, _, hg2, _⟩
      · rw [e2] at hv; cases hv
      · rw [e2] at hv
        simp only [Value.ownBlock, Option.some.injEq] at hv
        subst hv
        exact own_ne D.s hg2 (by decide) e.symm
  · have hk' : g = k := by simpa [Value.ownBlock] using hk
    subst hk'
    rcases hgg with h | rfl
    · exact D.ap g h
    · by_cases hx : l.q = []
      · exact Or.inl hx
      · refine Or.inr fun e => ?_
        obtain ⟨g', cs, e', _, hg'⟩ := D.q.blk hx
        rw [e] at e'
        cases e'
        have := (Array.getElem?_eq_some_iff.1 hg').1
        omega
  · simp only [List.mem_append, List.mem_singleton] at hx
    rcases hx with hx | rfl
    · exact D.zS x hx
    · exact hs
  · exact D.cur.kept ((((Below.refl _ _).alloc (by omega) _).grown hg (by simp; omega) (fun k hk => by have := (D.s.lt k hk).1; omega)))
  · exact grown_mr (grown_mr D.gr (World.grownBy_alloc wr _ none) (fun k hk => by cases hk)) hg (fun k hk => by have := (D.s.lt k hk).1; omega)
end Go.Proofs.Ytkhokfkcicaojaa
