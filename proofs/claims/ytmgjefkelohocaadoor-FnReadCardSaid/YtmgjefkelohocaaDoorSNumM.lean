/-
  Texts that stood by themselves, laid into one.
-/
import Derived.Test.YtmgjefkelohocaaDoorSList3M
import Derived.WalkSmall
import Derived.Test.YtmgjefkelohocaaDoorBsM
import Derived.Test.YtmgjefkelohocaaDoorDReadM
import Derived.Test.YtmgjefkelohocaaDoorNameM
import Derived.Test.YtmgjefkelohocaaDoorDraw2M
/-
  The memory of the lists that are open while spec.Read reads: a row of records, each with a row of numbers of its own. No condition.
-/
namespace Go.Proofs.YtmgjefkelohocaaDoor
open Go.RowKit

abbrev Rec := Int × Value × List Int
def stC (st : List Rec) : List Value := st.flatMap fun e => [.int .i64 e.1, e.2.1]
theorem stC_len (st : List Rec) : (stC st).length = st.length * 2 := by
  induction st with
  | nil => rfl
  | cons e st ih => simp only [stC, List.flatMap_cons, List.length_append, List.length_cons] at ih ⊢; rw [ih]; simp; omega
theorem stC_append (a b : List Rec) : stC (a ++ b) = stC a ++ stC b := by simp [stC]
theorem stC_at (lo : List Rec) (e : Rec) (hi : List Rec) : (stC (lo ++ e :: hi))[lo.length * 2]? = some (.int .i64 e.1) ∧ (stC (lo ++ e :: hi))[lo.length * 2 + 1]? = some e.2.1 := by
  rw [stC_append]
  constructor
  · rw [List.getElem?_append_right (by rw [stC_len]; omega), stC_len, Nat.sub_self]; rfl
  · rw [List.getElem?_append_right (by rw [stC_len]; omega), stC_len, show lo.length * 2 + 1 - lo.length * 2 = 1 by omega]; rfl
theorem stC_set (lo : List Rec) (a : Int) (v v' : Value) (zs zs' : List Int) : (stC (lo ++ [(a, v, zs)])).set (lo.length * 2 + 1) v' = stC (lo ++ [(a, v', zs')]) := by
  rw [stC_append, stC_append, List.set_append_right _ _ (by rw [stC_len]; omega), stC_len, show lo.length * 2 + 1 - lo.length * 2 = 1 by omega]
  rfl

structure Stk (base : Nat) (w : World) (v : Value) (st : List Rec) : Prop where
  recs : w.ownsRow base 88 2 v st.length (stC st)
  own : ∀ e ∈ st, w.ownsRow base 3 1 e.2.1 e.2.2.length (iv e.2.2)
  apart : st.Pairwise fun a b => ∀ k, a.2.1.ownBlock = some k → b.2.1.ownBlock ≠ some k

/-- It stays where its blocks stay. -/
theorem Stk.same {base : Nat} {w w' : World} {v : Value} {st : List Rec} (h : Stk base w v st) (hk : ∀ j : Nat, (∃ cs, w.heap[j]? = some (Obj.cells cs 88 (0, 0))) ∨ (∃ cs, w.heap[j]? = some (Obj.cells cs 3 (0, 0))) → w'.heap[j]? = w.heap[j]?) : Stk base w' v st := by
  have blk : ∀ {e : TypeId} {k n : Nat} {u : Value} {l : List Value}, w.ownsRow base e k u n l → ∀ j, u.ownBlock = some j → ∃ cs, w.heap[j]? = some (Obj.cells cs e (0, 0)) := by
    intro e k n u l ho j hj
    rcases ho.2 with ⟨rfl, _⟩ | ⟨g, cap, cur, rfl, _, hg, _⟩
    · cases hj
    · simp only [Value.ownBlock, Option.some.injEq] at hj
      subst hj
      exact ⟨cur, hg⟩
  exact ⟨own_same h.recs fun j hj => hk j (.inl (blk h.recs j hj)), fun e he => own_same (h.own e he) fun j hj => hk j (.inr (blk (h.own e he) j hj)), h.apart⟩
theorem Stk.below {base : Nat} {w w' : World} {v : Value} {st : List Rec} (h : Stk base w v st) (hb : Below w.heap.size w w') : Stk base w' v st :=
  h.same fun j hj => hb.block j (by rcases hj with ⟨_, q⟩ | ⟨_, q⟩ <;> exact (Array.getElem?_eq_some_iff.1 q).1)
/-- It stays where the pool alone is turned. -/
theorem Stk.pool {base b : Nat} {w w' : World} {v V V' : Value} {st : List Rec} {n : Nat} {l : List Value} (h : Stk base w v st) (hb : w.heap[b]? = some (.cells #[V] 26 (0, 0))) (ho : w.ownsRow base 55 5 V n l) (hx : Bx b base V w w' V') : Stk base w' v st := by
  refine h.same fun j hj => ?_
  have hlt : j < w.heap.size := by rcases hj with ⟨_, q⟩ | ⟨_, q⟩ <;> exact (Array.getElem?_eq_some_iff.1 q).1
  refine hx.keep j hlt ?_ ?_
  · intro e
    subst e
    rcases hj with ⟨_, q⟩ | ⟨_, q⟩ <;> (rw [hb] at q; cases q)
  · rcases hj with ⟨_, q⟩ | ⟨_, q⟩ <;> exact own_ne ho q (by decide)
/-- A list is opened. -/
theorem Stk.push {base : Nat} {w w' : World} {v v' : Value} {st : List Rec} (a : Int) (h : Stk base w v st) (ho : w'.ownsRow base 88 2 v' (st.length + 1) (stC st ++ [.int .i64 a, .slice none 0 0])) (hg : w.grownBy w' v.ownBlock) : Stk base w' v' (st ++ [(a, .slice none 0 0, [])]) := by
  refine ⟨?_, ?_, ?_⟩
  · rw [stC_append, List.length_append]
    exact ho
  · intro e he
    rcases List.mem_append.1 he with he | he
    · exact (h.own e he).kept hg (own_apart (h.own e he) h.recs (by decide))
    · rw [List.mem_singleton] at he
      subst he
      exact ⟨rfl, .inl ⟨rfl, rfl⟩⟩
  · rw [List.pairwise_append]
    refine ⟨h.apart, List.pairwise_singleton _ _, ?_⟩
    intro x hx y hy k hk
    rw [List.mem_singleton] at hy
    subst hy
    simp [Value.ownBlock]
/-- A list is closed. -/
theorem Stk.pop {base : Nat} {w : World} {g cap : Nat} {st : List Rec} {e : Rec} (h : Stk base w (.slice (some ⟨g, 0, none⟩) (st.length + 1) cap) (st ++ [e])) : Stk base w (.slice (some ⟨g, 0, none⟩) st.length cap) st := by
  refine ⟨?_, fun x hx => h.own x (List.mem_append_left _ hx), (List.pairwise_append.1 h.apart).1⟩
  have h1 := h.recs
  rw [stC_append, List.length_append] at h1
  exact ownsRow_pop (stC_len st) h1
/-- The innermost list gets one more value: its row first, then the record. -/
theorem Stk.more {base : Nat} {w w1 : World} {g n cap : Nat} {lo : List Rec} {a : Int} {lv lv' : Value} {zs : List Int} {z : Int} (h : Stk base w (.slice (some ⟨g, 0, none⟩) n cap) (lo ++ [(a, lv, zs)]))
    (ho : w1.ownsRow base 3 1 lv' (zs.length + 1) (iv zs ++ [.int .i64 z])) (hg : w.grownBy w1 lv.ownBlock) (hat : ∀ q, lv'.ownBlock = some q → lv.ownBlock = some q ∨ w.heap.size ≤ q) :
    Stk base (w1.setCell ⟨g, lo.length * 2 + 1, none⟩ lv') (.slice (some ⟨g, 0, none⟩) n cap) (lo ++ [(a, lv', zs ++ [z])]) := by
  have hown := h.own (a, lv, zs) (by simp)
  have hn : n = lo.length + 1 := by
    have h1 := h.recs
    rcases h1.2 with ⟨e, _⟩ | ⟨g', c', cur, e, _⟩
    · cases e
    · simp only [Value.slice.injEq] at e
      rw [e.2.1]
      simp
  have hr1 := h.recs.kept hg (own_apart h.recs hown (by decide))
  have hrl : (lo ++ [(a, lv, zs)]).length = n := by rw [hn]; simp
  rw [hrl] at hr1
  have hr2 := (hr1.stored (lo.length * 2 + 1) lv').1
  rw [stC_set lo a lv lv' zs (zs ++ [z])] at hr2
  have hgb : ∀ (e : Rec), e ∈ lo ++ [(a, lv, zs)] → e.2.1.ownBlock ≠ some g := by
    intro e he q
    rcases own_apart (h.own e he) h.recs (by decide) with k | k
    · rw [q] at k; cases k
    · exact k q
  have hlv' : lv'.ownBlock ≠ some g := by
    intro q
    rcases own_apart ho hr1 (by decide) with k | k
    · rw [q] at k; cases k
    · exact k q
  refine ⟨?_, ?_, ?_⟩
  · rw [show (lo ++ [(a, lv', zs ++ [z])]).length = n by rw [hn]; simp]
    exact hr2
  · intro e he
    rcases List.mem_append.1 he with he | he
    · have he' : e ∈ lo ++ [(a, lv, zs)] := List.mem_append_left _ he
      refine ownsRow_setCell_other ((h.own e he').kept hg ?_) (hgb e he') _
      cases hq : e.2.1.ownBlock with
      | none => exact .inl rfl
      | some k =>
        right
        intro q
        exact (List.pairwise_append.1 h.apart).2.2 e he (a, lv, zs) (by simp) k hq q.symm
    · rw [List.mem_singleton] at he
      subst he
      have := ownsRow_setCell_other ho (a := ⟨g, lo.length * 2 + 1, none⟩) hlv' lv'
      simp only [List.length_append, List.length_singleton, iv_append]
      exact this
  · rw [List.pairwise_append]
    refine ⟨(List.pairwise_append.1 h.apart).1, List.pairwise_singleton _ _, ?_⟩
    intro x hx y hy k hk
    rw [List.mem_singleton] at hy
    subst hy
    intro q
    rcases hat k q with r | r
    · exact (List.pairwise_append.1 h.apart).2.2 x hx (a, lv, zs) (by simp) k hk r
    · have := ((h.own x (List.mem_append_left _ hx)).lt k hk).2
      omega
end Go.Proofs.YtmgjefkelohocaaDoor

/-
  The memory of the lists that are open while impl's text reader reads: a row of records, each with a row of numbers of its own. No condition.
-/
namespace Go.Proofs.YtmgjefkelohocaaDoor
open Go.RowKit

structure IStk (base : Nat) (w : World) (v : Value) (st : List Rec) : Prop where
  recs : w.ownsRow base 81 2 v st.length (stC st)
  own : ∀ e ∈ st, w.ownsRow base 3 1 e.2.1 e.2.2.length (iv e.2.2)
  apart : st.Pairwise fun a b => ∀ k, a.2.1.ownBlock = some k → b.2.1.ownBlock ≠ some k

/-- It stays where its blocks stay. -/
theorem IStk.same {base : Nat} {w w' : World} {v : Value} {st : List Rec} (h : IStk base w v st) (hk : ∀ j : Nat, (∃ cs, w.heap[j]? = some (Obj.cells cs 81 (0, 0))) ∨ (∃ cs, w.heap[j]? = some (Obj.cells cs 3 (0, 0))) → w'.heap[j]? = w.heap[j]?) : IStk base w' v st := by
  have blk : ∀ {e : TypeId} {k n : Nat} {u : Value} {l : List Value}, w.ownsRow base e k u n l → ∀ j, u.ownBlock = some j → ∃ cs, w.heap[j]? = some (Obj.cells cs e (0, 0)) := by
    intro e k n u l ho j hj
    rcases ho.2 with ⟨rfl, _⟩ | ⟨g, cap, cur, rfl, _, hg, _⟩
    · cases hj
    · simp only [Value.ownBlock, Option.some.injEq] at hj
      subst hj
      exact ⟨cur, hg⟩
  exact ⟨own_same h.recs fun j hj => hk j (.inl (blk h.recs j hj)), fun e he => own_same (h.own e he) fun j hj => hk j (.inr (blk (h.own e he) j hj)), h.apart⟩
theorem IStk.below {base : Nat} {w w' : World} {v : Value} {st : List Rec} (h : IStk base w v st) (hb : Below w.heap.size w w') : IStk base w' v st :=
  h.same fun j hj => hb.block j (by rcases hj with ⟨_, q⟩ | ⟨_, q⟩ <;> exact (Array.getElem?_eq_some_iff.1 q).1)
/-- It stays where the pool alone is turned. -/
theorem IStk.pool {base b : Nat} {w w' : World} {v V V' : Value} {st : List Rec} {n : Nat} {l : List Value} (h : IStk base w v st) (hb : w.heap[b]? = some (.cells #[V] 26 (0, 0))) (ho : w.ownsRow base 55 5 V n l) (hx : Bx b base V w w' V') : IStk base w' v st := by
  refine h.same fun j hj => ?_
  have hlt : j < w.heap.size := by rcases hj with ⟨_, q⟩ | ⟨_, q⟩ <;> exact (Array.getElem?_eq_some_iff.1 q).1
  refine hx.keep j hlt ?_ ?_
  · intro e
    subst e
    rcases hj with ⟨_, q⟩ | ⟨_, q⟩ <;> (rw [hb] at q; cases q)
  · rcases hj with ⟨_, q⟩ | ⟨_, q⟩ <;> exact own_ne ho q (by decide)
/-- A list is opened. -/
theorem IStk.push {base : Nat} {w w' : World} {v v' : Value} {st : List Rec} (a : Int) (h : IStk base w v st) (ho : w'.ownsRow base 81 2 v' (st.length + 1) (stC st ++ [.int .i64 a, .slice none 0 0])) (hg : w.grownBy w' v.ownBlock) : IStk base w' v' (st ++ [(a, .slice none 0 0, [])]) := by
  refine ⟨?_, ?_, ?_⟩
  · rw [stC_append, List.length_append]
    exact ho
  · intro e he
    rcases List.mem_append.1 he with he | he
    · exact (h.own e he).kept hg (own_apart (h.own e he) h.recs (by decide))
    · rw [List.mem_singleton] at he
      subst he
      exact ⟨rfl, .inl ⟨rfl, rfl⟩⟩
  · rw [List.pairwise_append]
    refine ⟨h.apart, List.pairwise_singleton _ _, ?_⟩
    intro x hx y hy k hk
    rw [List.mem_singleton] at hy
    subst hy
    simp [Value.ownBlock]
/-- A list is closed. -/
theorem IStk.pop {base : Nat} {w : World} {g cap : Nat} {st : List Rec} {e : Rec} (h : IStk base w (.slice (some ⟨g, 0, none⟩) (st.length + 1) cap) (st ++ [e])) : IStk base w (.slice (some ⟨g, 0, none⟩) st.length cap) st := by
  refine ⟨?_, fun x hx => h.own x (List.mem_append_left _ hx), (List.pairwise_append.1 h.apart).1⟩
  have h1 := h.recs
  rw [stC_append, List.length_append] at h1
  exact ownsRow_pop (stC_len st) h1
/-- The innermost list gets one more value: its row first, then the record. -/
theorem IStk.more {base : Nat} {w w1 : World} {g n cap : Nat} {lo : List Rec} {a : Int} {lv lv' : Value} {zs : List Int} {z : Int} (h : IStk base w (.slice (some ⟨g, 0, none⟩) n cap) (lo ++ [(a, lv, zs)]))
    (ho : w1.ownsRow base 3 1 lv' (zs.length + 1) (iv zs ++ [.int .i64 z])) (hg : w.grownBy w1 lv.ownBlock) (hat : ∀ q, lv'.ownBlock = some q → lv.ownBlock = some q ∨ w.heap.size ≤ q) :
    IStk base (w1.setCell ⟨g, lo.length * 2 + 1, none⟩ lv') (.slice (some ⟨g, 0, none⟩) n cap) (lo ++ [(a, lv', zs ++ [z])]) := by
  have hown := h.own (a, lv, zs) (by simp)
  have hn : n = lo.length + 1 := by
    have h1 := h.recs
    rcases h1.2 with ⟨e, _⟩ | ⟨g', c', cur, e, _⟩
    · cases e
    · simp only [Value.slice.injEq] at e
      rw [e.2.1]
      simp
  have hr1 := h.recs.kept hg (own_apart h.recs hown (by decide))
  have hrl : (lo ++ [(a, lv, zs)]).length = n := by rw [hn]; simp
  rw [hrl] at hr1
  have hr2 := (hr1.stored (lo.length * 2 + 1) lv').1
  rw [stC_set lo a lv lv' zs (zs ++ [z])] at hr2
  have hgb : ∀ (e : Rec), e ∈ lo ++ [(a, lv, zs)] → e.2.1.ownBlock ≠ some g := by
    intro e he q
    rcases own_apart (h.own e he) h.recs (by decide) with k | k
    · rw [q] at k; cases k
    · exact k q
  have hlv' : lv'.ownBlock ≠ some g := by
    intro q
    rcases own_apart ho hr1 (by decide) with k | k
    · rw [q] at k; cases k
    · exact k q
  refine ⟨?_, ?_, ?_⟩
  · rw [show (lo ++ [(a, lv', zs ++ [z])]).length = n by rw [hn]; simp]
    exact hr2
  · intro e he
    rcases List.mem_append.1 he with he | he
    · have he' : e ∈ lo ++ [(a, lv, zs)] := List.mem_append_left _ he
      refine ownsRow_setCell_other ((h.own e he').kept hg ?_) (hgb e he') _
      cases hq : e.2.1.ownBlock with
      | none => exact .inl rfl
      | some k =>
        right
        intro q
        exact (List.pairwise_append.1 h.apart).2.2 e he (a, lv, zs) (by simp) k hq q.symm
    · rw [List.mem_singleton] at he
      subst he
      have := ownsRow_setCell_other ho (a := ⟨g, lo.length * 2 + 1, none⟩) hlv' lv'
      simp only [List.length_append, List.length_singleton, iv_append]
      exact this
  · rw [List.pairwise_append]
    refine ⟨(List.pairwise_append.1 h.apart).1, List.pairwise_singleton _ _, ?_⟩
    intro x hx y hy k hk
    rw [List.mem_singleton] at hy
    subst hy
    intro q
    rcases hat k q with r | r
    · exact (List.pairwise_append.1 h.apart).2.2 x hx (a, lv, zs) (by simp) k hk r
    · have := ((h.own x (List.mem_append_left _ hx)).lt k hk).2
      omega
end Go.Proofs.YtmgjefkelohocaaDoor

/-
  Which texts are numbers, and what a word means: plain mathematics. Nothing of the program; no condition.
-/
namespace Go.Proofs.YtmgjefkelohocaaDoor
open Go.RowKit

/-- The number that digits tell, behind a. -/
def dval : List UInt8 → Nat → Nat
  | [], a => a
  | c :: l, a => dval l (10 * a + (c.toNat - 48))
theorem dval_append (l m : List UInt8) (a : Nat) : dval (l ++ m) a = dval m (dval l a) := by
  induction l generalizing a with
  | nil => rfl
  | cons c l ih => exact ih _
def isDig (c : UInt8) : Bool := decide (48 ≤ c.toNat) && decide (c.toNat ≤ 57)
theorem dig_toNat {d : Nat} (h : d < 10) : (UInt8.ofNat (48 + d)).toNat = 48 + d := by
  rw [UInt8.toNat_ofNat']
  omega
theorem dval_dec (n : Nat) : dval (Lib.decDigits n) 0 = n := by
  induction n using Nat.strongRecOn with
  | _ n ih =>
    rw [Lib.decDigits]
    split
    · rename_i h
      simp only [dval]
      rw [dig_toNat h]
      omega
    · rename_i h
      rw [dval_append, ih (n / 10) (by omega)]
      simp only [dval]
      rw [dig_toNat (by omega)]
      omega
theorem dec_dig (n : Nat) : ∀ c ∈ Lib.decDigits n, isDig c = true := by
  induction n using Nat.strongRecOn with
  | _ n ih =>
    rw [Lib.decDigits]
    split
    · rename_i h
      intro c hc
      rw [List.mem_singleton] at hc
      subst hc
      simp only [isDig, dig_toNat h, Bool.and_eq_true, decide_eq_true_eq]
      omega
    · rename_i h
      intro c hc
      rw [List.mem_append, List.mem_singleton] at hc
      rcases hc with hc | rfl
      · exact ih (n / 10) (by omega) c hc
      · simp only [isDig, dig_toNat (show n % 10 < 10 by omega), Bool.and_eq_true, decide_eq_true_eq]
        omega
theorem dec_ne (n : Nat) : Lib.decDigits n ≠ [] := by
  rw [Lib.decDigits]
  split <;> simp
theorem dval_lt (l : List UInt8) : ∀ a, (∀ c ∈ l, isDig c = true) → dval l a < (a + 1) * 10 ^ l.length := by
  induction l with
  | nil => intro a _; simp [dval]
  | cons c l ih =>
    intro a h
    have hc := h c (by simp)
    simp only [isDig, Bool.and_eq_true, decide_eq_true_eq] at hc
    have := ih (10 * a + (c.toNat - 48)) (fun d hd => h d (by simp [hd]))
    simp only [dval, List.length_cons, Nat.pow_succ]
    refine Nat.lt_of_lt_of_le this ?_
    have h2 : 10 * a + (c.toNat - 48) + 1 ≤ (a + 1) * 10 := by omega
    calc (10 * a + (c.toNat - 48) + 1) * 10 ^ l.length ≤ (a + 1) * 10 * 10 ^ l.length := Nat.mul_le_mul_right _ h2
      _ = (a + 1) * (10 ^ l.length * 10) := by rw [Nat.mul_assoc, Nat.mul_comm 10 (10 ^ l.length)]

/-- The digits of a text behind its sign. -/
def body : List UInt8 → List UInt8
  | c :: d :: r => if c = 45 then d :: r else c :: d :: r
  | l => l
theorem dec_head {n : Nat} {c : UInt8} {r : List UInt8} (h : Lib.decDigits n = c :: r) : ¬ c = 45 := by
  intro e
  have := dec_dig n c (by rw [h]; simp)
  subst e
  simp [isDig] at this
theorem body_neg (n : Nat) : body (45 :: Lib.decDigits n) = Lib.decDigits n := by
  cases h : Lib.decDigits n with
  | nil => exact absurd h (dec_ne n)
  | cons d r => simp [body]
theorem body_pos (n : Nat) : body (Lib.decDigits n) = Lib.decDigits n := by
  cases h : Lib.decDigits n with
  | nil => exact absurd h (dec_ne n)
  | cons d r =>
    cases r with
    | nil => rfl
    | cons d' r' => simp [body, dec_head h]
/-- What a text's digits tell, with its sign. -/
def tval (l : List UInt8) : Int := if (body l).length = l.length then (dval (body l) 0 : Nat) else -((dval (body l) 0 : Nat) : Int)
theorem tval_itoa (x : Int) : tval (Lib.itoa x) = x := by
  unfold tval Lib.itoa
  split
  · rename_i h
    rw [body_neg, dval_dec, if_neg (by simp)]
    omega
  · rename_i h
    rw [body_pos, if_pos rfl, dval_dec]
    omega
theorem itoa_body (x : Int) (h : -1000000000 ≤ x ∧ x ≤ 1000000000) : (∀ c ∈ body (Lib.itoa x), isDig c = true) ∧ body (Lib.itoa x) ≠ [] ∧ (body (Lib.itoa x)).length ≤ 10 := by
  unfold Lib.itoa
  split
  · rw [body_neg]
    exact ⟨dec_dig _, dec_ne _, dec_len 9 _ (by omega)⟩
  · rw [body_pos]
    exact ⟨dec_dig _, dec_ne _, dec_len 9 _ (by omega)⟩

/-- The text is a number. -/
def numB (l : List UInt8) : Bool := decide (-1000000000 ≤ tval l) && decide (tval l ≤ 1000000000) && (Lib.itoa (tval l) == l)
theorem numB_iff (l : List UInt8) : numB l = true ↔ ∃ x : Int, (-1000000000 ≤ x ∧ x ≤ 1000000000) ∧ Lib.itoa x = l := by
  unfold numB
  simp only [Bool.and_eq_true, decide_eq_true_eq, beq_iff_eq]
  constructor
  · rintro ⟨h, e⟩; exact ⟨tval l, h, e⟩
  · rintro ⟨x, h, rfl⟩
    rw [tval_itoa]
    exact ⟨h, rfl⟩
theorem numB_body {l : List UInt8} (h : numB l = true) : (∀ c ∈ body l, isDig c = true) ∧ body l ≠ [] ∧ (body l).length ≤ 10 := by
  obtain ⟨x, hx, rfl⟩ := (numB_iff l).1 h
  exact itoa_body x hx
end Go.Proofs.YtmgjefkelohocaaDoor

/-
  The contracts of spec.l3Digit, l3WordByte, l3Num and l3Word. No condition beyond a text's length.
-/
namespace Go.Proofs.YtmgjefkelohocaaDoor
open Go.RowKit

def digB (b : Int) : Bool := decide (48 ≤ b) && decide (b ≤ 57)
/-- A byte of a word. -/
def wb (b : Int) : Bool := nb b || digB b || b == 35

set_option maxHeartbeats 400000 in
theorem sdigit_any (b : Int) (w : World) : Calls Tryd.prog 73 #[.int .u8 b] w fun e w' => e = .returned (.bool (digB b)) ∧ w' = w := by
  go_enter Tryd.func73, Tryd.ntmps73
  go_wp2
  all_goals
    go_ret
    refine ⟨retB ?_, rfl⟩
    unfold digB
    first | (simp [*]; done) | (simp [*]; omega)

set_option maxHeartbeats 400000 in
theorem swordbyte_any (b : Int) (w : World) : Calls Tryd.prog 49 #[.int .u8 b] w fun e w' => e = .returned (.bool (wb b)) ∧ w' = w := by
  go_enter Tryd.func49, Tryd.ntmps49
  go_wp2_with fail
  refine (snb_any b _).mono ?_
  rintro e w1 ⟨rfl, rfl⟩
  cases h : nb b with
  | true =>
    go_wp2_with fail
    go_ret
    exact ⟨retB (by simp [wb, h]), rfl⟩
  | false =>
    go_wp2_with fail
    refine (sdigit_any b _).mono ?_
    rintro e w1 ⟨rfl, rfl⟩
    cases h2 : digB b with
    | true =>
      go_wp2_with fail
      go_ret
      exact ⟨retB (by simp [wb, h, h2]), rfl⟩
    | false =>
      go_wp2_with fail
      go_ret
      exact ⟨retB (by simp [wb, h, h2]), rfl⟩

set_option maxHeartbeats 800000 in
theorem sdigits_wide (n : Int) (w : World) (hn : -99999999999 ≤ n ∧ n ≤ 99999999999) :
    Calls Tryd.prog 78 #[.int .i64 n] w fun e w' => e = .returned (.string (tx (Lib.itoa n))) ∧ Below w.heap.size w w' := by
  by_cases h0 : n < 0
  · have HI : Hid (Lib.itoa n = [45] ++ Lib.decDigits n.natAbs) := by unfold Hid Lib.itoa; rw [if_pos h0]; rfl
    have hlen := dec_len 11 n.natAbs (by omega)
    have hadd : ∀ w : World, (Op.stringOp .add ⟨#[45]⟩ (tx (Lib.decDigits n.natAbs))).run Tryd.prog w = .ok (.string (tx ([45] ++ Lib.decDigits n.natAbs))) w := fun w => addS [45] _ w (by simp; omega)
    have hm := sdigits_pos n.natAbs w (by omega)
    rw [show ((n.natAbs : Nat) : Int) = -n by omega] at hm
    clear hlen
    generalize Lib.decDigits n.natAbs = dd at *
    go_enter Tryd.func78, Tryd.ntmps78
    go_wp2_with fail
    refine hm.mono ?_
    rintro e w1 ⟨rfl, hb1⟩
    go_wp2_with fail
    go_ret
    exact ⟨retS (by rw [HI.out]; rfl), hb1⟩
  · obtain ⟨m, rfl⟩ := Int.eq_ofNat_of_zero_le (show 0 ≤ n by omega)
    have HI : Hid (Lib.itoa (m : Int) = Lib.decDigits m) := by unfold Hid Lib.itoa; rw [if_neg h0]; rfl
    rw [HI.out]
    exact sdigits_pos m w (by omega)

theorem get_list (s : ByteArray) (k : Nat) (h : k < s.size) : s.data.toList[k]? = some s[k] := by
  have h' : k < s.data.size := h
  rw [Array.getElem?_toList, Array.getElem?_eq_getElem h']
  rfl
theorem dval_take (l : List UInt8) (k : Nat) (c : UInt8) (h : l[k]? = some c) : dval (l.take (k + 1)) 0 = 10 * dval (l.take k) 0 + (c.toNat - 48) := by
  obtain ⟨hl, he⟩ := List.getElem?_eq_some_iff.1 h
  rw [List.take_succ_eq_append_getElem hl, dval_append, he]
  rfl
end Go.Proofs.YtmgjefkelohocaaDoor
