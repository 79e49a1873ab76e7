/-
  Contract of the laws' markLink with a finer frame: only the two rows' blocks are turned. No condition.
-/
import Derived.Test.YtdmnpaoceimcdaaLink
import Derived.Test.YtdmnpaoceimcdaaLLkTkR
namespace Go.Proofs.Ytdmnpaoceimcdaa
open Go.RowKit

set_option maxHeartbeats 1600000 in
theorem marklink_fine (b lo hi : Nat) (v1 v2 : Value) (l : Lk) (w : World) (V : VarL w b lo hi v1 v2 l) (h1 : l.q.length ≤ 2097152) (h2 : l.h.length ≤ 2097152) :
    Calls Try.prog 24 #[.agg #[.int .i64 l.sent, .int .i64 l.acked, v1, .int .i64 l.got, v2], .int .i64 1] w fun e w' => e = .returned (.int .i64 (1 + l.q.length + 2 * l.h.length)) ∧ VarL w' b lo hi v1 v2 (lmk l) ∧ Turned w w' lo hi ∧ ∀ k, k < w.heap.size → v1.ownBlock ≠ some k → v2.ownBlock ≠ some k → w'.heap[k]? = w.heap[k]? := by
  have V0 := V
  obtain ⟨hb, hq, hh, hk1, hk2, hhi⟩ := V
  obtain ⟨a1, c1, rfl⟩ := hq.form
  obtain ⟨a2, c2, rfl⟩ := own_form hh
  have hB0 : Below w.heap.size w (w.alloc (Obj.cells #[.int .i64 l.sent, .int .i64 l.acked, .slice a1 l.q.length c1, .int .i64 l.got, .slice a2 l.h.length c2] 27)) := (Below.refl _ _).alloc (Nat.le_refl _) _
  go_enter Try.func24, Try.ntmps24
  go_wp2_with fail
  refine (markstrs_any _ 1 lo l.q _ (hq.below hB0) (by omega) (by omega) (by omega)).mono ?_
  rintro e w1 ⟨rfl, hq1, hg1⟩
  have hs1 : (w.alloc (Obj.cells #[.int .i64 l.sent, .int .i64 l.acked, .slice a1 l.q.length c1, .int .i64 l.got, .slice a2 l.h.length c2] 27)).heap.size ≤ w1.heap.size := by
    rcases hg1 with ⟨_, rfl⟩ | ⟨_, hg1⟩
    · exact Nat.le_refl _
    · exact hg1.size
  have keep1 : ∀ (k : Nat) (cs : Array Value) (t : TypeId), (w.alloc (Obj.cells #[.int .i64 l.sent, .int .i64 l.acked, .slice a1 l.q.length c1, .int .i64 l.got, .slice a2 l.h.length c2] 27)).heap[k]? = some (.cells cs t (0, 0)) → t ≠ 9 → w1.heap[k]? = some (.cells cs t (0, 0)) := by
    intro k cs t hk ht
    rcases hg1 with ⟨_, rfl⟩ | ⟨hne, hg1⟩
    · exact hk
    · obtain ⟨g, cs', e, _, hg⟩ := (hq.below hB0).blk hne
      rw [e] at hg1
      refine (hg1.block k (Array.getElem?_eq_some_iff.1 hk).1 (fun e => ht ?_)).trans hk
      have e := Option.some.inj e
      subst e
      rw [hk] at hg
      simp only [Option.some.injEq, Obj.cells.injEq] at hg
      exact hg.2.1
  have hx1 := keep1 w.heap.size _ 27 (heap_alloc_new _ _) (by decide)
  have cx : w1.cell? ⟨w.heap.size, 0 + 4, none⟩ = some (.slice a2 l.h.length c2) := by rw [cell_of_row w1 _ 4 _ _ _ hx1]; rfl
  have hh1 : w1.ownsRow lo 29 2 (.slice a2 l.h.length c2) l.h.length (pccs l.h) := by
    refine ⟨hh.1, ?_⟩
    rcases (hh.alloc (Obj.cells #[.int .i64 l.sent, .int .i64 l.acked, .slice a1 l.q.length c1, .int .i64 l.got, .slice a2 l.h.length c2] 27)).2 with ⟨e, h0⟩ | ⟨g, cap, cur, e, hbb, hg, hr⟩
    · exact Or.inl ⟨e, h0⟩
    · exact Or.inr ⟨g, cap, cur, e, hbb, keep1 g _ _ hg (by decide), hr⟩
  go_wp2_with fail
  refine (markpieces_any _ (1 + l.q.length) lo l.h _ hh1 (by omega) (by omega) (by omega)).mono ?_
  rintro e w2 ⟨rfl, hh2, hg2⟩
  clear cx
  have keep2 : ∀ (k : Nat) (cs : Array Value) (t : TypeId), w1.heap[k]? = some (.cells cs t (0, 0)) → t ≠ 29 → w2.heap[k]? = some (.cells cs t (0, 0)) := by
    intro k cs t hk ht
    exact (hg2.block k (Array.getElem?_eq_some_iff.1 hk).1 (fun e => own_ne hh1 hk ht e.symm)).trans hk
  have HV : VarL w2 b lo hi (.slice a1 l.q.length c1) (.slice a2 l.h.length c2) (lmk l) := by
    have hsz : w.heap.size ≤ w2.heap.size := Nat.le_trans (Nat.le_trans (by simp) hs1) hg2.size
    refine ⟨keep2 b _ _ (keep1 b _ _ ((heap_alloc_old _ _ V0.lt).trans hb) (by decide)) (by decide), ?_, ?_, fun hne k hk => hk1 (fun e => hne (by simp [lmk, sm, e])) k hk, hk2, Nat.le_trans hhi hsz⟩
    · obtain ⟨ao, cap, e, hc, hq⟩ := hq1
      refine ⟨ao, cap, e, hc, ?_⟩
      rcases hq with hq | ⟨g, CAP, N, pre, post, rfl, hN, ho⟩
      · exact Or.inl hq
      · refine Or.inr ⟨g, CAP, N, pre, post, rfl, hN, ⟨ho.1, ?_⟩⟩
        rcases ho.2 with ⟨e, h0⟩ | ⟨g', cap', cur, e, hbb, hg, hr⟩
        · exact Or.inl ⟨e, h0⟩
        · exact Or.inr ⟨g', cap', cur, e, hbb, keep2 g' _ _ hg (by decide), hr⟩
    · rw [lmk_h]; exact hh2
  have HT : Turned w w2 lo hi := by
    refine ⟨?_, ?_, ?_, Nat.le_trans (Nat.le_trans (by simp) hs1) hg2.size, fun k hk hor => ?_⟩
    · rcases hg1 with ⟨_, rfl⟩ | ⟨hne, hg1⟩
      · exact hg2.os
      · exact hg2.os.trans hg1.os
    · rcases hg1 with ⟨_, rfl⟩ | ⟨hne, hg1⟩
      · exact hg2.tape
      · exact hg2.tape.trans hg1.tape
    · rcases hg1 with ⟨_, rfl⟩ | ⟨hne, hg1⟩
      · exact hg2.output
      · exact hg2.output.trans hg1.output
    · have st1 : w1.heap[k]? = w.heap[k]? := by
        rw [← heap_alloc_old w (Obj.cells #[.int .i64 l.sent, .int .i64 l.acked, .slice a1 l.q.length c1, .int .i64 l.got, .slice a2 l.h.length c2] 27) hk]
        rcases hg1 with ⟨_, rfl⟩ | ⟨hne, hg1⟩
        · rfl
        · refine hg1.block k (by simp; omega) (fun e => ?_)
          have k1 := hk1 hne k e.symm
          obtain ⟨g, cs', e', hlo, hg⟩ := hq.blk hne
          rw [← e] at e'
          cases e'
          rcases hor with h | h | ⟨cs, t, h, ht, _⟩
          · omega
          · omega
          · rw [hg] at h
            simp only [Option.some.injEq, Obj.cells.injEq] at h
            exact ht h.2.1.symm
      refine Eq.trans ?_ st1
      refine hg2.block k (Nat.lt_of_lt_of_le (by simp; omega) hs1) (fun e => ?_)
      have k1 := hk2 k e.symm
      have k2 := (hh.lt k e.symm).1
      rcases hor with h | h | ⟨cs, t, h, _, ht⟩
      · omega
      · omega
      · exact own_ne hh h ht e.symm
  have HFI : ∀ k, k < w.heap.size → (Value.slice a1 l.q.length c1).ownBlock ≠ some k → (Value.slice a2 l.h.length c2).ownBlock ≠ some k → w2.heap[k]? = w.heap[k]? := by
    intro k hk k1 k2
    have st1 : w1.heap[k]? = w.heap[k]? := by
      rw [← heap_alloc_old w (Obj.cells #[.int .i64 l.sent, .int .i64 l.acked, .slice a1 l.q.length c1, .int .i64 l.got, .slice a2 l.h.length c2] 27) hk]
      rcases hg1 with ⟨_, rfl⟩ | ⟨_, hg1⟩
      · rfl
      · exact hg1.block k (by simp; omega) (fun e => k1 e.symm)
    exact (hg2.block k (Nat.lt_of_lt_of_le (by simp; omega) hs1) (fun e => k2 e.symm)).trans st1
  clear hg1 hg2 keep1 keep2 hx1 hh1 hh2 hq1
  go_wp2
  go_ret
  exact ⟨rfl, HV, HT, HFI⟩


/-- Texts of an answer stay where its link is marked. -/
theorem TkV.marked {w w' : World} {b lo hi : Nat} {v1 v2 v3 : Value} {M : Lk} {ts : List ByteArray} (V : TkV w b lo hi v1 v2 v3 M ts) (V' : VarL w' b lo hi v1 v2 (lmk M)) (hf : ∀ k, k < w.heap.size → v1.ownBlock ≠ some k → v2.ownBlock ≠ some k → w'.heap[k]? = w.heap[k]?) : w'.ownsRow lo 9 1 v3 ts.length (stv ts) ∧ VarL w' b lo hi v1 v2 (lmk M) := by
  refine ⟨⟨V.own.1, ?_⟩, V'⟩
  rcases V.own.2 with ⟨e, h0⟩ | ⟨g, cap, cur, e, hB, hg, hr⟩
  · exact Or.inl ⟨e, h0⟩
  · refine Or.inr ⟨g, cap, cur, e, hB, (hf g (Array.getElem?_eq_some_iff.1 hg).1 (V.apart g (by rw [e]; rfl)) (own_ne V.var.2.2.1 hg (by decide))).trans hg, hr⟩
/-- A link's variable stays where a row of texts that is not its own is turned. -/
theorem VarL.keptT {w w' : World} {b lo hi : Nat} {v1 v2 : Value} {l : Lk} {k : Nat} {cs : Array Value} (h : VarL w b lo hi v1 v2 l) (hk : w.heap[k]? = some (.cells cs 9 (0, 0))) (hg : w.grownBy w' (some k)) (hne : l.q = [] ∨ v1.ownBlock ≠ some k) : VarL w' b lo hi v1 v2 l := by
  refine ⟨(hg.block b h.lt (fun e => ?_)).trans h.1, h.2.1.kept hg (hne.imp id fun hne g hg' e => hne (by rw [hg', ← e])), h.2.2.1.kept hg (Or.inr (own_ne h.2.2.1 hk (by decide))), h.2.2.2.1, h.2.2.2.2.1, Nat.le_trans h.2.2.2.2.2 hg.size⟩
  cases e
  have := h.1
  rw [hk] at this
  cases this
section
variable {w w' : World} {b lo hi lo' hi' : Nat} {v1 v2 v3 : Value} {M : Lk} {ts : List ByteArray}
theorem TkV.below (V : TkV w b lo hi v1 v2 v3 M ts) (hb : Below w.heap.size w w') : TkV w' b lo hi v1 v2 v3 M ts := ⟨V.var.below hb, own_below V.own hb, V.top, V.apart⟩
theorem TkV.turned (h : Turned w w' lo' hi') (V : TkV w b lo hi v1 v2 v3 M ts) (hd : hi ≤ lo' ∨ hi' ≤ lo) : TkV w' b lo hi v1 v2 v3 M ts := ⟨VarL.turned h V.var hd, own_turned h V.own V.top hd, V.top, V.apart⟩
theorem TkV.row3 (V : TkV w b lo hi v1 v2 v3 M ts) (hm : ts.length ≤ 4194304) (hz : ∀ t ∈ ts, t.size ≤ maxLen) : StRow w v3 ts := StRow.of_own V.own (by omega) hz
end
/-- What is left where texts of one's own are marked. -/
theorem texts_turned {w0 wc ws : World} {lo B : Nat} {v3 : Value} {ts : List ByteArray} (o3 : wc.ownsRow lo 9 1 v3 ts.length (stv ts)) (hgs : ts = [] ∧ ws = wc ∨ ts ≠ [] ∧ wc.grownBy ws v3.ownBlock) (h0 : Below B w0 wc) (hB : B ≤ lo) :
    Below B w0 ws ∧ (∀ (k : Nat) (cs : Array Value) (t : TypeId), wc.heap[k]? = some (.cells cs t (0, 0)) → t ≠ 9 → ws.heap[k]? = some (.cells cs t (0, 0))) ∧ (∀ (b lo' hi' : Nat) (v1 v2 : Value) (M : Lk), VarL wc b lo' hi' v1 v2 M → (∀ g, v3.ownBlock = some g → v1.ownBlock ≠ some g) → VarL ws b lo' hi' v1 v2 M) ∧
    (∀ (b lo' hi' : Nat) (v1 v2 v3' : Value) (M : Lk) (ts' : List ByteArray), TkV wc b lo' hi' v1 v2 v3' M ts' → hi' ≤ lo → TkV ws b lo' hi' v1 v2 v3' M ts') := by
  rcases hgs with ⟨_, rfl⟩ | ⟨hne, hg⟩
  · exact ⟨h0, fun k cs t h _ => h, fun b lo' hi' v1 v2 M V _ => V, fun b lo' hi' v1 v2 v3' M ts' V _ => V⟩
  · rcases o3.2 with ⟨_, h⟩ | ⟨g, cap, cur, e, hlo, hgb, _⟩
    · exact absurd (List.eq_nil_of_length_eq_zero h) hne
    · have eb : v3.ownBlock = some g := by rw [e]; rfl
      rw [eb] at hg
      refine ⟨h0.grown hg (by have := (Array.getElem?_eq_some_iff.1 hgb).1; omega) (fun k hk => by cases hk; omega), fun k cs t h ht => (hg.block k (Array.getElem?_eq_some_iff.1 h).1 (fun e' => ?_)).trans h, fun b lo' hi' v1 v2 M V ha => V.keptT hgb hg (Or.inr (ha g eb)), fun b lo' hi' v1 v2 v3' M ts' V hd => ⟨V.var.keptT hgb hg ?_, V.own.kept hg (Or.inr fun e' => by have := V.top g e'; omega), V.top, V.apart⟩⟩
      · cases e'
        rw [hgb] at h
        cases h
        exact ht rfl
      · by_cases hq : M.q = []
        · exact Or.inl hq
        · exact Or.inr fun e' => by have := V.var.2.2.2.1 hq g e'; omega
end Go.Proofs.Ytdmnpaoceimcdaa
