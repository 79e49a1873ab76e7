/-
  Texts that stood by themselves, laid into one.
-/
import Derived.Test.YtdakifahedelcaaDoorSList3M
import Derived.WalkSmall
import Derived.Test.YtdakifahedelcaaDoorShapeM
import Derived.Lib.ItoaNum
/-
  The memory of the lists that are open while spec.Read reads: a row of records, each with a row of numbers of its own. No condition.
-/
namespace Go.Proofs.YtdakifahedelcaaDoor
open Go.RowKit

abbrev Rec := Int × Value × List Int
def stC (st : List Rec) : List Value := st.flatMap fun e => [.int .i64 e.1, e.2.1]
theorem stC_len (st : List Rec) : (stC st).length = st.length * 2 := by
  induction st with
  | nil => rfl
  | cons e st ih => simp only [stC, List.flatMap_cons, List.length_append, List.length_cons] at ih ⊢; rw [ih]; simp; omega
theorem stC_append (a b : List Rec) : stC (a ++ b) = stC a ++ stC b := by simp [stC]
theorem stC_at (lo : List Rec) (e : Rec) (hi : List Rec) : (stC (lo ++ e :: hi))[lo.length * 2]? = some (.int .i64 e.1) ∧ (stC (lo ++ e :: hi))[lo.length * 2 + 1]? = some e.2.1 := by
  rw [stC_append]
  constructor
  · rw [List.getElem?_append_right (by rw [stC_len]; omega), stC_len, Nat.sub_self]; rfl
  · rw [List.getElem?_append_right (by rw [stC_len]; omega), stC_len, show lo.length * 2 + 1 - lo.length * 2 = 1 by omega]; rfl
theorem stC_set (lo : List Rec) (a : Int) (v v' : Value) (zs zs' : List Int) : (stC (lo ++ [(a, v, zs)])).set (lo.length * 2 + 1) v' = stC (lo ++ [(a, v', zs')]) := by
  rw [stC_append, stC_append, List.set_append_right _ _ (by rw [stC_len]; omega), stC_len, show lo.length * 2 + 1 - lo.length * 2 = 1 by omega]
  rfl

structure Stk (base : Nat) (w : World) (v : Value) (st : List Rec) : Prop where
  recs : w.ownsRow base 88 2 v st.length (stC st)
  own : ∀ e ∈ st, w.ownsRow base 3 1 e.2.1 e.2.2.length (iv e.2.2)
  apart : st.Pairwise fun a b => ∀ k, a.2.1.ownBlock = some k → b.2.1.ownBlock ≠ some k

/-- It stays where its blocks stay. -/
theorem Stk.same {base : Nat} {w w' : World} {v : Value} {st : List Rec} (h : Stk base w v st) (hk : ∀ j : Nat, (∃ cs, w.heap[j]? = some (Obj.cells cs 88 (0, 0))) ∨ (∃ cs, w.heap[j]? = some (Obj.cells cs 3 (0, 0))) → w'.heap[j]? = w.heap[j]?) : Stk base w' v st := by
  have blk : ∀ {e : TypeId} {k n : Nat} {u : Value} {l : List Value}, w.ownsRow base e k u n l → ∀ j, u.ownBlock = some j → ∃ cs, w.heap[j]? = some (Obj.cells cs e (0, 0)) := by
    intro e k n u l ho j hj
    rcases ho.2 with ⟨rfl, _⟩ | ⟨g, cap, cur, rfl, _, hg, _⟩
    · cases hj
    · simp only [Value.ownBlock, Option.some.injEq] at hj
      subst hj
      exact ⟨cur, hg⟩
  exact ⟨own_same h.recs fun j hj => hk j (.inl (blk h.recs j hj)), fun e he => own_same (h.own e he) fun j hj => hk j (.inr (blk (h.own e he) j hj)), h.apart⟩
theorem Stk.below {base : Nat} {w w' : World} {v : Value} {st : List Rec} (h : Stk base w v st) (hb : Below w.heap.size w w') : Stk base w' v st :=
  h.same fun j hj => hb.block j (by rcases hj with ⟨_, q⟩ | ⟨_, q⟩ <;> exact (Array.getElem?_eq_some_iff.1 q).1)
/-- It stays where the pool alone is turned. -/
theorem Stk.pool {base b : Nat} {w w' : World} {v V V' : Value} {st : List Rec} {n : Nat} {l : List Value} (h : Stk base w v st) (hb : w.heap[b]? = some (.cells #[V] 26 (0, 0))) (ho : w.ownsRow base 55 5 V n l) (hx : Bx b base V w w' V') : Stk base w' v st := by
  refine h.same fun j hj => ?_
  have hlt : j < w.heap.size := by rcases hj with ⟨_, q⟩ | ⟨_, q⟩ <;> exact (Array.getElem?_eq_some_iff.1 q).1
  refine hx.keep j hlt ?_ ?_
  · intro e
    subst e
    rcases hj with ⟨_, q⟩ | ⟨_, q⟩ <;> (rw [hb] at q; cases q)
  · rcases hj with ⟨_, q⟩ | ⟨_, q⟩ <;> exact own_ne ho q (by decide)
/-- A list is opened. -/
theorem Stk.push {base : Nat} {w w' : World} {v v' : Value} {st : List Rec} (a : Int) (h : Stk base w v st) (ho : w'.ownsRow base 88 2 v' (st.length + 1) (stC st ++ [.int .i64 a, .slice none 0 0])) (hg : w.grownBy w' v.ownBlock) : Stk base w' v' (st ++ [(a, .slice none 0 0, [])]) := by
  refine ⟨?_, ?_, ?_⟩
  · rw [stC_append, List.length_append]
    exact ho
  · intro e he
    rcases List.mem_append.1 he with he | he
    · exact (h.own e he).kept hg (own_apart (h.own e he) h.recs (by decide))
    · rw [List.mem_singleton] at he
      subst he
      exact ⟨rfl, .inl ⟨rfl, rfl⟩⟩
  · rw [List.pairwise_append]
    refine ⟨h.apart, List.pairwise_singleton _ _, ?_⟩
    intro x hx y hy k hk
    rw [List.mem_singleton] at hy
    subst hy
    simp [Value.ownBlock]
/-- A list is closed. -/
theorem Stk.pop {base : Nat} {w : World} {g cap : Nat} {st : List Rec} {e : Rec} (h : Stk base w (.slice (some ⟨g, 0, none⟩) (st.length + 1) cap) (st ++ [e])) : Stk base w (.slice (some ⟨g, 0, none⟩) st.length cap) st := by
  refine ⟨?_, fun x hx => h.own x (List.mem_append_left _ hx), (List.pairwise_append.1 h.apart).1⟩
  have h1 := h.recs
  rw [stC_append, List.length_append] at h1
  exact ownsRow_pop (stC_len st) h1
/-- The innermost list gets one more value: its row first, then the record. -/
theorem Stk.more {base : Nat} {w w1 : World} {g n cap : Nat} {lo : List Rec} {a : Int} {lv lv' : Value} {zs : List Int} {z : Int} (h : Stk base w (.slice (some ⟨g, 0, none⟩) n cap) (lo ++ [(a, lv, zs)]))
    (ho : w1.ownsRow base 3 1 lv' (zs.length + 1) (iv zs ++ [.int .i64 z])) (hg : w.grownBy w1 lv.ownBlock) (hat : ∀ q, lv'.ownBlock = some q → lv.ownBlock = some q ∨ w.heap.size ≤ q) :
    Stk base (w1.setCell ⟨g, lo.length * 2 + 1, none⟩ lv') (.slice (some ⟨g, 0, none⟩) n cap) (lo ++ [(a, lv', zs ++ [z])]) := by
  have hown := h.own (a, lv, zs) (by simp)
  have hn : n = lo.length + 1 := by
    have h1 := h.recs
    rcases h1.2 with ⟨e, _⟩ | ⟨g', c', cur, e, _⟩
    · cases e
    · simp only [Value.slice.injEq] at e
      rw [e.2.1]
      simp
  have hr1 := h.recs.kept hg (own_apart h.recs hown (by decide))
  have hrl : (lo ++ [(a, lv, zs)]).length = n := by rw [hn]; simp
  rw [hrl] at hr1
  have hr2 := (hr1.stored (lo.length * 2 + 1) lv').1
  rw [stC_set lo a lv lv' zs (zs ++ [z])] at hr2
  have hgb : ∀ (e : Rec), e ∈ lo ++ [(a, lv, zs)] → e.2.1.ownBlock ≠ some g := by
    intro e he q
    rcases own_apart (h.own e he) h.recs (by decide) with k | k
    · rw [q] at k; cases k
    · exact k q
  have hlv' : lv'.ownBlock ≠ some g := by
    intro q
    rcases own_apart ho hr1 (by decide) with k | k
    · rw [q] at k; cases k
    · exact k q
  refine ⟨?_, ?_, ?_⟩
  · rw [show (lo ++ [(a, lv', zs ++ [z])]).length = n by rw [hn]; simp]
    exact hr2
  · intro e he
    rcases List.mem_append.1 he with he | he
    · have he' : e ∈ lo ++ [(a, lv, zs)] := List.mem_append_left _ he
      refine ownsRow_setCell_other ((h.own e he').kept hg ?_) (hgb e he') _
      cases hq : e.2.1.ownBlock with
      | none => exact .inl rfl
      | some k =>
        right
        intro q
        exact (List.pairwise_append.1 h.apart).2.2 e he (a, lv, zs) (by simp) k hq q.symm
    · rw [List.mem_singleton] at he
      subst he
      have := ownsRow_setCell_other ho (a := ⟨g, lo.length * 2 + 1, none⟩) hlv' lv'
      simp only [List.length_append, List.length_singleton, iv_append]
      exact this
  · rw [List.pairwise_append]
    refine ⟨(List.pairwise_append.1 h.apart).1, List.pairwise_singleton _ _, ?_⟩
    intro x hx y hy k hk
    rw [List.mem_singleton] at hy
    subst hy
    intro q
    rcases hat k q with r | r
    · exact (List.pairwise_append.1 h.apart).2.2 x hx (a, lv, zs) (by simp) k hk r
    · have := ((h.own x (List.mem_append_left _ hx)).lt k hk).2
      omega
end Go.Proofs.YtdakifahedelcaaDoor

/-
  The memory of the lists that are open while impl's text reader reads: a row of records, each with a row of numbers of its own. No condition.
-/
namespace Go.Proofs.YtdakifahedelcaaDoor
open Go.RowKit

structure IStk (base : Nat) (w : World) (v : Value) (st : List Rec) : Prop where
  recs : w.ownsRow base 81 2 v st.length (stC st)
  own : ∀ e ∈ st, w.ownsRow base 3 1 e.2.1 e.2.2.length (iv e.2.2)
  apart : st.Pairwise fun a b => ∀ k, a.2.1.ownBlock = some k → b.2.1.ownBlock ≠ some k

/-- It stays where its blocks stay. -/
theorem IStk.same {base : Nat} {w w' : World} {v : Value} {st : List Rec} (h : IStk base w v st) (hk : ∀ j : Nat, (∃ cs, w.heap[j]? = some (Obj.cells cs 81 (0, 0))) ∨ (∃ cs, w.heap[j]? = some (Obj.cells cs 3 (0, 0))) → w'.heap[j]? = w.heap[j]?) : IStk base w' v st := by
  have blk : ∀ {e : TypeId} {k n : Nat} {u : Value} {l : List Value}, w.ownsRow base e k u n l → ∀ j, u.ownBlock = some j → ∃ cs, w.heap[j]? = some (Obj.cells cs e (0, 0)) := by
    intro e k n u l ho j hj
    rcases ho.2 with ⟨rfl, _⟩ | ⟨g, cap, cur, rfl, _, hg, _⟩
    · cases hj
    · simp only [Value.ownBlock, Option.some.injEq] at hj
      subst hj
      exact ⟨cur, hg⟩
  exact ⟨own_same h.recs fun j hj => hk j (.inl (blk h.recs j hj)), fun e he => own_same (h.own e he) fun j hj => hk j (.inr (blk (h.own e he) j hj)), h.apart⟩
theorem IStk.below {base : Nat} {w w' : World} {v : Value} {st : List Rec} (h : IStk base w v st) (hb : Below w.heap.size w w') : IStk base w' v st :=
  h.same fun j hj => hb.block j (by rcases hj with ⟨_, q⟩ | ⟨_, q⟩ <;> exact (Array.getElem?_eq_some_iff.1 q).1)
/-- It stays where the pool alone is turned. -/
theorem IStk.pool {base b : Nat} {w w' : World} {v V V' : Value} {st : List Rec} {n : Nat} {l : List Value} (h : IStk base w v st) (hb : w.heap[b]? = some (.cells #[V] 26 (0, 0))) (ho : w.ownsRow base 55 5 V n l) (hx : Bx b base V w w' V') : IStk base w' v st := by
  refine h.same fun j hj => ?_
  have hlt : j < w.heap.size := by rcases hj with ⟨_, q⟩ | ⟨_, q⟩ <;> exact (Array.getElem?_eq_some_iff.1 q).1
  refine hx.keep j hlt ?_ ?_
  · intro e
    subst e
    rcases hj with ⟨_, q⟩ | ⟨_, q⟩ <;> (rw [hb] at q; cases q)
  · rcases hj with ⟨_, q⟩ | ⟨_, q⟩ <;> exact own_ne ho q (by decide)
/-- A list is opened. -/
theorem IStk.push {base : Nat} {w w' : World} {v v' : Value} {st : List Rec} (a : Int) (h : IStk base w v st) (ho : w'.ownsRow base 81 2 v' (st.length + 1) (stC st ++ [.int .i64 a, .slice none 0 0])) (hg : w.grownBy w' v.ownBlock) : IStk base w' v' (st ++ [(a, .slice none 0 0, [])]) := by
  refine ⟨?_, ?_, ?_⟩
  · rw [stC_append, List.length_append]
    exact ho
  · intro e he
    rcases List.mem_append.1 he with he | he
    · exact (h.own e he).kept hg (own_apart (h.own e he) h.recs (by decide))
    · rw [List.mem_singleton] at he
      subst he
      exact ⟨rfl, .inl ⟨rfl, rfl⟩⟩
  · rw [List.pairwise_append]
    refine ⟨h.apart, List.pairwise_singleton _ _, ?_⟩
    intro x hx y hy k hk
    rw [List.mem_singleton] at hy
    subst hy
    simp [Value.ownBlock]
/-- A list is closed. -/
theorem IStk.pop {base : Nat} {w : World} {g cap : Nat} {st : List Rec} {e : Rec} (h : IStk base w (.slice (some ⟨g, 0, none⟩) (st.length + 1) cap) (st ++ [e])) : IStk base w (.slice (some ⟨g, 0, none⟩) st.length cap) st := by
  refine ⟨?_, fun x hx => h.own x (List.mem_append_left _ hx), (List.pairwise_append.1 h.apart).1⟩
  have h1 := h.recs
  rw [stC_append, List.length_append] at h1
  exact ownsRow_pop (stC_len st) h1
/-- The innermost list gets one more value: its row first, then the record. -/
theorem IStk.more {base : Nat} {w w1 : World} {g n cap : Nat} {lo : List Rec} {a : Int} {lv lv' : Value} {zs : List Int} {z : Int} (h : IStk base w (.slice (some ⟨g, 0, none⟩) n cap) (lo ++ [(a, lv, zs)]))
    (ho : w1.ownsRow base 3 1 lv' (zs.length + 1) (iv zs ++ [.int .i64 z])) (hg : w.grownBy w1 lv.ownBlock) (hat : ∀ q, lv'.ownBlock = some q → lv.ownBlock = some q ∨ w.heap.size ≤ q) :
    IStk base (w1.setCell ⟨g, lo.length * 2 + 1, none⟩ lv') (.slice (some ⟨g, 0, none⟩) n cap) (lo ++ [(a, lv', zs ++ [z])]) := by
  have hown := h.own (a, lv, zs) (by simp)
  have hn : n = lo.length + 1 := by
    have h1 := h.recs
    rcases h1.2 with ⟨e, _⟩ | ⟨g', c', cur, e, _⟩
    · cases e
    · simp only [Value.slice.injEq] at e
      rw [e.2.1]
      simp
  have hr1 := h.recs.kept hg (own_apart h.recs hown (by decide))
  have hrl : (lo ++ [(a, lv, zs)]).length = n := by rw [hn]; simp
  rw [hrl] at hr1
  have hr2 := (hr1.stored (lo.length * 2 + 1) lv').1
  rw [stC_set lo a lv lv' zs (zs ++ [z])] at hr2
  have hgb : ∀ (e : Rec), e ∈ lo ++ [(a, lv, zs)] → e.2.1.ownBlock ≠ some g := by
    intro e he q
    rcases own_apart (h.own e he) h.recs (by decide) with k | k
    · rw [q] at k; cases k
    · exact k q
  have hlv' : lv'.ownBlock ≠ some g := by
    intro q
    rcases own_apart ho hr1 (by decide) with k | k
    · rw [q] at k; cases k
    · exact k q
  refine ⟨?_, ?_, ?_⟩
  · rw [show (lo ++ [(a, lv', zs ++ [z])]).length = n by rw [hn]; simp]
    exact hr2
  · intro e he
    rcases List.mem_append.1 he with he | he
    · have he' : e ∈ lo ++ [(a, lv, zs)] := List.mem_append_left _ he
      refine ownsRow_setCell_other ((h.own e he').kept hg ?_) (hgb e he') _
      cases hq : e.2.1.ownBlock with
      | none => exact .inl rfl
      | some k =>
        right
        intro q
        exact (List.pairwise_append.1 h.apart).2.2 e he (a, lv, zs) (by simp) k hq q.symm
    · rw [List.mem_singleton] at he
      subst he
      have := ownsRow_setCell_other ho (a := ⟨g, lo.length * 2 + 1, none⟩) hlv' lv'
      simp only [List.length_append, List.length_singleton, iv_append]
      exact this
  · rw [List.pairwise_append]
    refine ⟨(List.pairwise_append.1 h.apart).1, List.pairwise_singleton _ _, ?_⟩
    intro x hx y hy k hk
    rw [List.mem_singleton] at hy
    subst hy
    intro q
    rcases hat k q with r | r
    · exact (List.pairwise_append.1 h.apart).2.2 x hx (a, lv, zs) (by simp) k hk r
    · have := ((h.own x (List.mem_append_left _ hx)).lt k hk).2
      omega
end Go.Proofs.YtdakifahedelcaaDoor

/-
  How values are written, as lists of bytes. Nothing of the program; no condition.
-/
namespace Go.Proofs.YtdakifahedelcaaDoor
open Go.RowKit

theorem dec_len : ∀ (k u : Nat), u < 10 ^ (k + 1) → (Lib.decDigits u).length ≤ k + 1 := by
  intro k
  induction k with
  | zero => intro u h; rw [Lib.decDigits, dif_pos (by simpa using h)]; simp
  | succ k ih =>
    intro u h
    rw [Lib.decDigits]
    split
    · simp
    · have := ih (u / 10) (by rw [Nat.pow_succ] at h; omega)
      simp
      omega
theorem itoa_len {n : Int} (h : -1000000000 ≤ n ∧ n ≤ 1000000000) : (Lib.itoa n).length ≤ 11 := by
  unfold Lib.itoa
  split
  · have := dec_len 9 n.natAbs (by omega)
    simp; omega
  · have := dec_len 9 n.toNat (by omega)
    omega

/-- A node that is no pair, as it is written. -/
def wordL (x : Nd) : List UInt8 :=
  if x.k = 1 then [40, 41] else if x.k = 2 then (if x.n = 0 then [35, 102] else [35, 116]) else if x.k = 3 then Lib.itoa x.n
  else if x.k = 4 then x.s.data.toList else if x.k = 6 then [35, 102, 117, 110] ++ Lib.itoa x.n else if x.k = 7 then [35, 107, 111, 110, 116] ++ Lib.itoa x.n
  else if x.k = 8 then [35, 112, 114, 105, 109] ++ Lib.itoa x.n else if x.k = 9 then [35, 112, 105, 100] ++ Lib.itoa x.n else []

theorem wordL_len {x : Nd} (h : -1000000000 ≤ x.n ∧ x.n ≤ 1000000000) (hs : x.s.size ≤ 1000) : (wordL x).length ≤ 1100 := by
  have := itoa_len h
  have e : x.s.data.toList.length = x.s.size := by rw [Array.length_toList]; rfl
  unfold wordL
  split
  · simp
  · split
    · split <;> simp
    · split
      · omega
      · split
        · omega
        · split
          · simp; omega
          · split
            · simp; omega
            · split
              · simp; omega
              · split
                · simp; omega
                · simp

/-- The node v as it is written, and as it is written as the rest of a list. -/
def ft (xs : List Nd) : Nat → Nat → List UInt8 × List UInt8
  | 0, _ => ([], [])
  | f + 1, v => match xs[v]? with
    | none => ([], [])
    | some x => if x.k = 5 then ([40] ++ (ft xs f x.a.toNat).1 ++ (ft xs f x.b.toNat).2 ++ [41], [32] ++ (ft xs f x.a.toNat).1 ++ (ft xs f x.b.toNat).2)
      else (wordL x, if x.k = 1 then [] else [32, 46, 32] ++ wordL x)
def fullT (xs : List Nd) (v : Nat) : List UInt8 := (ft xs (v + 1) v).1
def restT (xs : List Nd) (v : Nat) : List UInt8 := (ft xs (v + 1) v).2

theorem nodesB_at {xs : List Nd} : ∀ {k i : Nat} {x : Nd}, nodesB xs k = true → xs[i]? = some x → nodeB x ((k + i : Nat) : Int) = true := by
  induction xs with
  | nil => intro k i x _ h; simp at h
  | cons y ys ih =>
    intro k i x h hx
    rw [nodesB, Bool.and_eq_true] at h
    cases i with
    | zero => simp at hx; subst hx; simpa using h.1
    | succ i =>
      have := ih (k := k + 1) (i := i) h.2 (by simpa using hx)
      rw [show k + (i + 1) = k + 1 + i by omega]
      exact this
theorem pool_at {xs : List Nd} (hp : poolB xs = true) {i : Nat} {x : Nd} (hx : xs[i]? = some x) : nodeB x (i : Int) = true := by
  simp only [poolB, Bool.and_eq_true] at hp
  have := nodesB_at hp.2 hx
  simpa using this
theorem pool_pair {xs : List Nd} (hp : poolB xs = true) {i : Nat} {x : Nd} (hx : xs[i]? = some x) (h5 : x.k = 5) : ∃ a b : Nat, x.a = a ∧ x.b = b ∧ a < i ∧ b < i := by
  have h := pool_at hp hx
  simp only [nodeB, Bool.and_eq_true, partB, hasA, hasB, h5] at h
  obtain ⟨_, ⟨_, hA⟩, hB⟩ := h
  simp only [true_or, decide_true, if_true, Bool.and_eq_true, decide_eq_true_eq] at hA hB
  exact ⟨x.a.toNat, x.b.toNat, by omega, by omega, by omega, by omega⟩
theorem lo_ge (k : Int) : -1000000000 ≤ lo k := by unfold lo; split <;> decide
theorem hi_le (k : Int) : hi k ≤ 1000000000 := by
  unfold hi
  split
  · decide
  · split
    · decide
    · split <;> decide
theorem pool_num {xs : List Nd} (hp : poolB xs = true) {i : Nat} {x : Nd} (hx : xs[i]? = some x) : (1 ≤ x.k ∧ x.k ≤ 9) ∧ (-1000000000 ≤ x.n ∧ x.n ≤ 1000000000) := by
  have h := pool_at hp hx
  simp only [nodeB, Bool.and_eq_true, decide_eq_true_eq] at h
  obtain ⟨⟨⟨⟨h1, h2⟩, h3⟩, h4⟩, _⟩ := h
  exact ⟨⟨h1, h2⟩, Int.le_trans (lo_ge _) h3, Int.le_trans h4 (hi_le _)⟩

theorem ft_fuel {xs : List Nd} (hp : poolB xs = true) : ∀ (v f : Nat), v < f → ft xs f v = ft xs (v + 1) v := by
  intro v
  induction v using Nat.strongRecOn with
  | _ v ih =>
    intro f hf
    cases f with
    | zero => omega
    | succ f =>
      rw [ft, ft]
      cases hx : xs[v]? with
      | none => rfl
      | some x =>
        dsimp only
        by_cases h5 : x.k = 5
        · obtain ⟨a, b, ha, hb, hal, hbl⟩ := pool_pair hp hx h5
          rw [if_pos h5, if_pos h5, ha, hb, Int.toNat_natCast, Int.toNat_natCast, ih a hal f (by omega), ih b hbl f (by omega), ih a hal v hal, ih b hbl v hbl]
        · rw [if_neg h5, if_neg h5]
theorem fullT_pair {xs : List Nd} (hp : poolB xs = true) {v : Nat} {x : Nd} (hx : xs[v]? = some x) (h5 : x.k = 5) {a b : Nat} (ha : x.a = a) (hb : x.b = b) (hal : a < v) (hbl : b < v) : fullT xs v = [40] ++ fullT xs a ++ restT xs b ++ [41] := by
  rw [fullT, ft, hx]
  dsimp only
  rw [if_pos h5, ha, hb, Int.toNat_natCast, Int.toNat_natCast, ft_fuel hp a v hal, ft_fuel hp b v hbl]
  rfl
theorem restT_pair {xs : List Nd} (hp : poolB xs = true) {v : Nat} {x : Nd} (hx : xs[v]? = some x) (h5 : x.k = 5) {a b : Nat} (ha : x.a = a) (hb : x.b = b) (hal : a < v) (hbl : b < v) : restT xs v = [32] ++ fullT xs a ++ restT xs b := by
  rw [restT, ft, hx]
  dsimp only
  rw [if_pos h5, ha, hb, Int.toNat_natCast, Int.toNat_natCast, ft_fuel hp a v hal, ft_fuel hp b v hbl]
  rfl
theorem fullT_word {xs : List Nd} {v : Nat} {x : Nd} (hx : xs[v]? = some x) (h5 : ¬ x.k = 5) : fullT xs v = wordL x := by
  rw [fullT, ft, hx]
  dsimp only
  rw [if_neg h5]
theorem restT_nil {xs : List Nd} {v : Nat} {x : Nd} (hx : xs[v]? = some x) (h1 : x.k = 1) : restT xs v = [] := by
  rw [restT, ft, hx]
  dsimp only
  rw [if_neg (by omega), if_pos h1]
theorem restT_word {xs : List Nd} {v : Nat} {x : Nd} (hx : xs[v]? = some x) (h5 : ¬ x.k = 5) (h1 : ¬ x.k = 1) : restT xs v = [32, 46, 32] ++ wordL x := by
  rw [restT, ft, hx]
  dsimp only
  rw [if_neg h5, if_neg h1]
end Go.Proofs.YtdakifahedelcaaDoor
