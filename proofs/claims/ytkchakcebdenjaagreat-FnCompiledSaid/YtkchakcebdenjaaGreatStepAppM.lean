/-
  Texts that stood by themselves, laid into one.
-/
import Derived.Test.YtkchakcebdenjaaGreatSList2M
import Derived.WalkSmall
import Derived.Test.YtkchakcebdenjaaGreatStore2M
/-
  Contracts of spec's l2Add and l2List with their frame: all stays but the pool's block and its row.
-/
namespace Go.Proofs.YtkchakcebdenjaaGreat
open Go.RowKit
structure Bx (b base : Nat) (v : Value) (w w' : World) (v' : Value) : Prop where
  below : Below base w w'
  keep : ∀ k, k < w.heap.size → k ≠ b → v.ownBlock ≠ some k → w'.heap[k]? = w.heap[k]?
  row : ∀ g, v'.ownBlock = some g → v.ownBlock = some g ∨ w.heap.size ≤ g
theorem Bx.trans {b base : Nat} {v v1 v2 : Value} {w w1 w2 : World} (h : Bx b base v w w1 v1) (h' : Bx b base v1 w1 w2 v2) : Bx b base v w w2 v2 := by
  have hs := h.below.size
  refine ⟨h.below.trans h'.below, fun k hk hb hv => ?_, fun g hg => ?_⟩
  · refine (h'.keep k (by omega) hb ?_).trans (h.keep k hk hb hv)
    intro e
    rcases h.row k e with q | q
    · exact hv q
    · omega
  · rcases h'.row g hg with q | q
    · exact h.row g q
    · exact .inr (by omega)
set_option maxHeartbeats 1600000 in
theorem sadd_fr (b base : Nat) (ao : Option Addr) (cap : Nat) (xs : List Nd) (x : Nd) (w : World) (hb : w.heap[b]? = some (.cells #[.slice ao xs.length cap] 29 (0, 0))) (ho : w.ownsRow base 92 5 (.slice ao xs.length cap) xs.length (ncs xs))
    (hm : xs.length ≤ 2097152) (hbb : base ≤ b) :
    Calls Tryz.prog 50 #[.pointer (some ⟨b, 0, none⟩), .agg #[.int .i64 x.k, .int .i64 x.n, .string x.s, .int .i64 x.a, .int .i64 x.b]] w fun e w' =>
      ∃ v', e = .returned (.int .i64 xs.length) ∧ w'.heap[b]? = some (.cells #[v'] 29 (0, 0)) ∧ w'.ownsRow base 92 5 v' (xs ++ [x]).length (ncs (xs ++ [x])) ∧ Bx b base (.slice ao xs.length cap) w w' v' := by
  obtain ⟨i0, hi, hz0, hz1, hz2⟩ := info_parts Tryz.infoN
  have hlt : b < w.heap.size := (Array.getElem?_eq_some_iff.1 hb).1
  have hcb : w.cell? ⟨b, 0, none⟩ = some (.slice ao xs.length cap) := by rw [cell_of_row w b 0 _ _ _ hb]; rfl
  have hne : b ≠ w.heap.size := by omega
  go_enter Tryz.func50, Tryz.ntmps50
  go_wp2_with fail
  go_region_law (refine step_append_lies _ rfl _ _ 27 rfl base 92 i0 _ 5 48 Tryz.underlying27 hi hz0 hz1 hz2 rfl (by decide) _ _ _ rfl ((ho.alloc _).alloc _) ⟨w.heap.size + 1, 0, none⟩ 1 1 (ncs [x]) rfl rfl (World.news_of_block (cs := #[.int .i64 x.k, .int .i64 x.n, .string x.s, .int .i64 x.a, .int .i64 x.b]) (t := 92) (fr := (0, 0)) (heap_alloc2_new w _ _)) (ncs_one _) (by omega) (by unfold maxLen; omega) (by omega) (by simp; omega) (w.heap.size + 2) (by simp) ?_; intro g capg w1 hown hgrow hat hgl; have hb1 : w1.heap[b]? = some (.cells #[.slice ao xs.length cap] 29 (0, 0)) := (hgrow.block b (by simp; omega) (fun e => own_ne ho hb (by decide) e.symm)).trans ((heap_alloc_old _ _ (by simp; omega)).trans ((heap_alloc_old _ _ hlt).trans hb)); have kb1 : w1.cell? ⟨b, 0, none⟩ = some (.slice ao xs.length cap) := cell_of_row w1 b 0 _ _ _ hb1; have fb1 : w1.frozen? ⟨b, 0, none⟩ = false := frozen_of_row w1 b 0 _ _ hb1)
  all_goals
    have hown2 : w1.ownsRow base 92 5 (.slice (some ⟨g, 0, none⟩) (xs.length + 1) capg) (xs ++ [x]).length (ncs (xs ++ [x])) := by
      rw [ncs_append, List.length_append]
      exact hown
    have hs0 : base ≤ w.heap.size := by omega
    have hB1 : Below base w w1 := (((Below.refl base w).alloc hs0 _).drew.alloc (by simp; omega) _).grown hgrow (by simp; omega) (fun k hk => (ho.lt k hk).1)
    have hB2 := hB1.setCell (p := ⟨b, 0, none⟩) hbb (.slice (some ⟨g, 0, none⟩) (xs.length + 1) capg)
    have ho2 := ownsRow_setCell_other hown2 (a := ⟨b, 0, none⟩) (own_ne hown2 hb1 (by decide)) (.slice (some ⟨g, 0, none⟩) (xs.length + 1) capg)
    have hb2 := heap_setCell_same w1 b 0 _ _ (.slice (some ⟨g, 0, none⟩) (xs.length + 1) capg) hb1
    have hk2 : ∀ k, k < w.heap.size → k ≠ b → (Value.slice ao xs.length cap).ownBlock ≠ some k → (w1.setCell ⟨b, 0, none⟩ (.slice (some ⟨g, 0, none⟩) (xs.length + 1) capg)).heap[k]? = w.heap[k]? := fun k hk hkb hko => by
      rw [heap_setCell_other w1 ⟨b, 0, none⟩ k _ (fun e => hkb e), hgrow.block k (by simp; omega) (fun e => hko e.symm)]
      exact (heap_alloc_old _ _ (by simp; omega)).trans (heap_alloc_old _ _ hk)
    have hr2 : ∀ q, (Value.slice (some ⟨g, 0, none⟩) (xs.length + 1) capg).ownBlock = some q → (Value.slice ao xs.length cap).ownBlock = some q ∨ w.heap.size ≤ q := fun q hq => by
      simp only [Value.ownBlock, Option.some.injEq] at hq
      subst hq
      rcases hat with e | e
      · exact .inl e
      · exact .inr (by omega)
    clear hown hgrow hat hcb hb
    go_wp2
    go_ret
    exact ⟨_, by simp, hb2, ho2, hB2, hk2, hr2⟩
set_option maxRecDepth 100000 in
set_option maxHeartbeats 1600000 in
theorem slist_fr (b base : Nat) (v vl : Value) (xs : List Nd) (zs : List Int) (w : World) (hb : w.heap[b]? = some (.cells #[v] 29 (0, 0))) (ho : w.ownsRow base 92 5 v xs.length (ncs xs)) (L : w.ownsRow base 3 1 vl zs.length (iv zs))
    (hm : xs.length ≤ 1048576) (hzl : zs.length ≤ 1048576) (hbb : base ≤ b) :
    Calls Tryz.prog 80 #[.pointer (some ⟨b, 0, none⟩), vl] w fun e w' =>
      ∃ v', e = .returned (.int .i64 ((xs.length + zs.length : Nat) : Int)) ∧ w'.heap[b]? = some (.cells #[v'] 29 (0, 0)) ∧ w'.ownsRow base 92 5 v' (xs ++ more zs xs.length 0).length (ncs (xs ++ more zs xs.length 0)) ∧ Bx b base v w w' v' := by
  obtain ⟨ao, cap, rfl⟩ := own_form ho
  obtain ⟨al, cl, rfl⟩ := own_form L
  have keep : ∀ (w1 w2 : World) (V : Value) (n : Nat) (l : List Value), w1.heap[b]? = some (.cells #[V] 29 (0, 0)) → w1.ownsRow base 92 5 V n l → w1.ownsRow base 3 1 (.slice al zs.length cl) zs.length (iv zs) → (∀ k, k < w1.heap.size → k ≠ b → V.ownBlock ≠ some k → w2.heap[k]? = w1.heap[k]?) → w2.ownsRow base 3 1 (.slice al zs.length cl) zs.length (iv zs) := by
    intro w1 w2 V n l hb1 ho1 hL1 hk
    refine own_same hL1 (fun j hj => hk j (hL1.lt j hj).2 ?_ ?_)
    · intro e; subst e; exact own_ne hL1 hb1 (by decide) hj
    · intro e
      rcases own_apart hL1 ho1 (by decide) with h | h
      · rw [hj] at h; cases h
      · exact h (hj.trans e.symm)
  go_enter Tryz.func80, Tryz.ntmps80
  go_wp2_with fail
  refine (sadd_fr b base ao cap xs nilN w hb ho (by omega) hbb).mono ?_
  rintro e w1 ⟨v1, rfl, hb1, ho1, hB1⟩
  have L1 := keep w w1 _ _ _ hb ho L hB1.keep
  clear hb ho L
  go_wp2_with fail
  go_loopw [5, 6] (fun l i wr => ∃ (m : Nat) (v' : Value), m ≤ zs.length ∧ i = .int .i64 ((m : Int) - 1) ∧ l = .int .i64 ((xs.length + (zs.length - m) : Nat) : Int) ∧ wr.heap[b]? = some (.cells #[v'] 29 (0, 0)) ∧ wr.ownsRow base 92 5 v' (xs ++ more zs xs.length m).length (ncs (xs ++ more zs xs.length m)) ∧ wr.ownsRow base 3 1 (.slice al zs.length cl) zs.length (iv zs) ∧ Bx b base (.slice ao xs.length cap) w wr v') (fun _ i _ => (intOf i + 1).toNat)
  case atStart =>
    have : more zs xs.length zs.length = [nilN] := by simp [more, pairsR]
    exact ⟨zs.length, v1, Nat.le_refl _, rfl, by simp, hb1, by rw [this]; exact ho1, L1, hB1⟩
  case round =>
    clear hb1 ho1 hB1 L1
    obtain ⟨m, v', hmz, rfl, rfl, hbr, hor, Lr, hBr⟩ := hrel
    by_cases hpos : 0 < m
    · obtain ⟨m, rfl⟩ : ∃ m', m = m' + 1 := ⟨m - 1, by omega⟩
      rcases Lr.2 with ⟨e1, h0⟩ | ⟨g, capB, cur, e1, hBb, _⟩
      · omega
      simp only [Value.slice.injEq, true_and] at e1
      obtain ⟨rfl, rfl⟩ := e1
      have c0 := Lr.cellAt m (by omega)
      rw [iv_get _ _ (by omega)] at c0
      have HM := more_step zs xs.length m (by omega)
      have hzm : zs.getD m 0 = zs[m] := by simp [List.getD, show m < zs.length by omega]
      rw [hzm] at c0
      have hml := more_length zs xs.length (m + 1)
      have hlast : Hid (xs.length + (zs.length - (m + 1)) + 1 = xs.length + (zs.length - m)) := by unfold Hid; omega
      have hlen : Hid ((xs ++ more zs xs.length (m + 1)).length = xs.length + (zs.length - (m + 1)) + 1) := by unfold Hid; rw [List.length_append, hml]; omega
      have hll : xs.length + (zs.length - (m + 1)) ≤ 2097151 := by omega
      generalize xs.length + (zs.length - (m + 1)) = last at HM hlast hll hlen ⊢
      have HM' : Hid (xs ++ more zs xs.length m = (xs ++ more zs xs.length (m + 1)) ++ [pairN zs[m] last]) := by unfold Hid; rw [HM, List.append_assoc]
      clear HM hml hzm
      generalize xs ++ more zs xs.length (m + 1) = LL at hor HM' hlen
      obtain ⟨aor, capr, rfl⟩ := own_form hor
      go_wp2_with fail
      refine (sadd_fr b base aor capr LL (pairN zs[m] last) wr hbr hor (by have := hlen.out; omega) hbb).mono ?_
      rintro e w2 ⟨v2, rfl, hb2, ho2, hB2⟩
      have L2 := keep wr w2 _ _ _ hbr hor Lr hB2.keep
      have hB3 := hBr.trans hB2
      clear hbr hor hBr hB2 c0 Lr
      have ho3 : w2.ownsRow base 92 5 v2 (xs ++ more zs xs.length m).length (ncs (xs ++ more zs xs.length m)) := by rw [HM'.out]; exact ho2
      clear ho2
      rw [hlen.out]
      go_wp2
      go_roundw
      case rel => exact ⟨m, v2, by omega, by go_num, by rw [← hlast.out]; simp, hb2, ho3, L2, hB3⟩
      case measure => (simp [intOf] <;> omega)
    · have hm0 : m = 0 := by omega
      subst hm0
      go_wp2
      go_ret
      exact ⟨_, rfl, hbr, hor, hBr⟩
end Go.Proofs.YtkchakcebdenjaaGreat
/-
  The memory of the lists that are open while spec.Read reads: a row of records, each with a row of numbers of its own. No condition.
-/
namespace Go.Proofs.YtkchakcebdenjaaGreat
open Go.RowKit
abbrev Rec := Int × Value × List Int
def stC (st : List Rec) : List Value := st.flatMap fun e => [.int .i64 e.1, e.2.1]
theorem stC_len (st : List Rec) : (stC st).length = st.length * 2 := by
  induction st with
  | nil => rfl
  | cons e st ih => simp only [stC, List.flatMap_cons, List.length_append, List.length_cons] at ih ⊢; rw [ih]; simp; omega
theorem stC_append (a b : List Rec) : stC (a ++ b) = stC a ++ stC b := by simp [stC]
theorem stC_at (lo : List Rec) (e : Rec) (hi : List Rec) : (stC (lo ++ e :: hi))[lo.length * 2]? = some (.int .i64 e.1) ∧ (stC (lo ++ e :: hi))[lo.length * 2 + 1]? = some e.2.1 := by
  rw [stC_append]
  constructor
  · rw [List.getElem?_append_right (by rw [stC_len]; omega), stC_len, Nat.sub_self]; rfl
  · rw [List.getElem?_append_right (by rw [stC_len]; omega), stC_len, show lo.length * 2 + 1 - lo.length * 2 = 1 by omega]; rfl
theorem stC_set (lo : List Rec) (a : Int) (v v' : Value) (zs zs' : List Int) : (stC (lo ++ [(a, v, zs)])).set (lo.length * 2 + 1) v' = stC (lo ++ [(a, v', zs')]) := by
  rw [stC_append, stC_append, List.set_append_right _ _ (by rw [stC_len]; omega), stC_len, show lo.length * 2 + 1 - lo.length * 2 = 1 by omega]
  rfl
structure Stk (base : Nat) (w : World) (v : Value) (st : List Rec) : Prop where
  recs : w.ownsRow base 132 2 v st.length (stC st)
  own : ∀ e ∈ st, w.ownsRow base 3 1 e.2.1 e.2.2.length (iv e.2.2)
  apart : st.Pairwise fun a b => ∀ k, a.2.1.ownBlock = some k → b.2.1.ownBlock ≠ some k
theorem Stk.same {base : Nat} {w w' : World} {v : Value} {st : List Rec} (h : Stk base w v st) (hk : ∀ j : Nat, (∃ cs, w.heap[j]? = some (Obj.cells cs 132 (0, 0))) ∨ (∃ cs, w.heap[j]? = some (Obj.cells cs 3 (0, 0))) → w'.heap[j]? = w.heap[j]?) : Stk base w' v st := by
  have blk : ∀ {e : TypeId} {k n : Nat} {u : Value} {l : List Value}, w.ownsRow base e k u n l → ∀ j, u.ownBlock = some j → ∃ cs, w.heap[j]? = some (Obj.cells cs e (0, 0)) := by
    intro e k n u l ho j hj
    rcases ho.2 with ⟨rfl, _⟩ | ⟨g, cap, cur, rfl, _, hg, _⟩
    · cases hj
    · simp only [Value.ownBlock, Option.some.injEq] at hj
      subst hj
      exact ⟨cur, hg⟩
  exact ⟨own_same h.recs fun j hj => hk j (.inl (blk h.recs j hj)), fun e he => own_same (h.own e he) fun j hj => hk j (.inr (blk (h.own e he) j hj)), h.apart⟩
theorem Stk.below {base : Nat} {w w' : World} {v : Value} {st : List Rec} (h : Stk base w v st) (hb : Below w.heap.size w w') : Stk base w' v st :=
  h.same fun j hj => hb.block j (by rcases hj with ⟨_, q⟩ | ⟨_, q⟩ <;> exact (Array.getElem?_eq_some_iff.1 q).1)
theorem Stk.pool {base b : Nat} {w w' : World} {v V V' : Value} {st : List Rec} {n : Nat} {l : List Value} (h : Stk base w v st) (hb : w.heap[b]? = some (.cells #[V] 29 (0, 0))) (ho : w.ownsRow base 92 5 V n l) (hx : Bx b base V w w' V') : Stk base w' v st := by
  refine h.same fun j hj => ?_
  have hlt : j < w.heap.size := by rcases hj with ⟨_, q⟩ | ⟨_, q⟩ <;> exact (Array.getElem?_eq_some_iff.1 q).1
  refine hx.keep j hlt ?_ ?_
  · intro e
    subst e
    rcases hj with ⟨_, q⟩ | ⟨_, q⟩ <;> (rw [hb] at q; cases q)
  · rcases hj with ⟨_, q⟩ | ⟨_, q⟩ <;> exact own_ne ho q (by decide)
theorem Stk.push {base : Nat} {w w' : World} {v v' : Value} {st : List Rec} (a : Int) (h : Stk base w v st) (ho : w'.ownsRow base 132 2 v' (st.length + 1) (stC st ++ [.int .i64 a, .slice none 0 0])) (hg : w.grownBy w' v.ownBlock) : Stk base w' v' (st ++ [(a, .slice none 0 0, [])]) := by
  refine ⟨?_, ?_, ?_⟩
  · rw [stC_append, List.length_append]
    exact ho
  · intro e he
    rcases List.mem_append.1 he with he | he
    · exact (h.own e he).kept hg (own_apart (h.own e he) h.recs (by decide))
    · rw [List.mem_singleton] at he
      subst he
      exact ⟨rfl, .inl ⟨rfl, rfl⟩⟩
  · rw [List.pairwise_append]
    refine ⟨h.apart, List.pairwise_singleton _ _, ?_⟩
    intro x hx y hy k hk
    rw [List.mem_singleton] at hy
    subst hy
    simp [Value.ownBlock]
theorem Stk.pop {base : Nat} {w : World} {g cap : Nat} {st : List Rec} {e : Rec} (h : Stk base w (.slice (some ⟨g, 0, none⟩) (st.length + 1) cap) (st ++ [e])) : Stk base w (.slice (some ⟨g, 0, none⟩) st.length cap) st := by
  refine ⟨?_, fun x hx => h.own x (List.mem_append_left _ hx), (List.pairwise_append.1 h.apart).1⟩
  have h1 := h.recs
  rw [stC_append, List.length_append] at h1
  exact ownsRow_pop (stC_len st) h1
theorem Stk.more {base : Nat} {w w1 : World} {g n cap : Nat} {lo : List Rec} {a : Int} {lv lv' : Value} {zs : List Int} {z : Int} (h : Stk base w (.slice (some ⟨g, 0, none⟩) n cap) (lo ++ [(a, lv, zs)]))
    (ho : w1.ownsRow base 3 1 lv' (zs.length + 1) (iv zs ++ [.int .i64 z])) (hg : w.grownBy w1 lv.ownBlock) (hat : ∀ q, lv'.ownBlock = some q → lv.ownBlock = some q ∨ w.heap.size ≤ q) :
    Stk base (w1.setCell ⟨g, lo.length * 2 + 1, none⟩ lv') (.slice (some ⟨g, 0, none⟩) n cap) (lo ++ [(a, lv', zs ++ [z])]) := by
  have hown := h.own (a, lv, zs) (by simp)
  have hn : n = lo.length + 1 := by
    have h1 := h.recs
    rcases h1.2 with ⟨e, _⟩ | ⟨g', c', cur, e, _⟩
    · cases e
    · simp only [Value.slice.injEq] at e
      rw [e.2.1]
      simp
  have hr1 := h.recs.kept hg (own_apart h.recs hown (by decide))
  have hrl : (lo ++ [(a, lv, zs)]).length = n := by rw [hn]; simp
  rw [hrl] at hr1
  have hr2 := (hr1.stored (lo.length * 2 + 1) lv').1
  rw [stC_set lo a lv lv' zs (zs ++ [z])] at hr2
  have hgb : ∀ (e : Rec), e ∈ lo ++ [(a, lv, zs)] → e.2.1.ownBlock ≠ some g := by
    intro e he q
    rcases own_apart (h.own e he) h.recs (by decide) with k | k
    · rw [q] at k; cases k
    · exact k q
  have hlv' : lv'.ownBlock ≠ some g := by
    intro q
    rcases own_apart ho hr1 (by decide) with k | k
    · rw [q] at k; cases k
    · exact k q
  refine ⟨?_, ?_, ?_⟩
  · rw [show (lo ++ [(a, lv', zs ++ [z])]).length = n by rw [hn]; simp]
    exact hr2
  · intro e he
    rcases List.mem_append.1 he with he | he
    · have he' : e ∈ lo ++ [(a, lv, zs)] := List.mem_append_left _ he
      refine ownsRow_setCell_other ((h.own e he').kept hg ?_) (hgb e he') _
      cases hq : e.2.1.ownBlock with
      | none => exact .inl rfl
      | some k =>
        right
        intro q
        exact (List.pairwise_append.1 h.apart).2.2 e he (a, lv, zs) (by simp) k hq q.symm
    · rw [List.mem_singleton] at he
      subst he
      have := ownsRow_setCell_other ho (a := ⟨g, lo.length * 2 + 1, none⟩) hlv' lv'
      simp only [List.length_append, List.length_singleton, iv_append]
      exact this
  · rw [List.pairwise_append]
    refine ⟨(List.pairwise_append.1 h.apart).1, List.pairwise_singleton _ _, ?_⟩
    intro x hx y hy k hk
    rw [List.mem_singleton] at hy
    subst hy
    intro q
    rcases hat k q with r | r
    · exact (List.pairwise_append.1 h.apart).2.2 x hx (a, lv, zs) (by simp) k hk r
    · have := ((h.own x (List.mem_append_left _ hx)).lt k hk).2
      omega
end Go.Proofs.YtkchakcebdenjaaGreat
/-
  'append' as a step of a region that draws. Nothing of the program; no condition.
-/
namespace Go.Proofs.YtkchakcebdenjaaGreat
open Go.RowKit
theorem step_append_own_any {P : Program} (w : World) {ops : Array Oper} {o : Oper} {a : Act} {K : Act → World → Prop} {Q : Exit → Act → World → Prop} {E : Prop}
    (hg : o.guard = none) (s x : Operand) (t : TypeId) (hop : o.op = Op.call { callee := Callee.builtin Builtin.append, args := #[s, x], argTypes := #[t, t] })
    (base : Nat) (e : TypeId) (i : TypeInfo) (z : Value) (size bytes : Nat) (h1 : P.underlying t = some (.slice e)) (h2 : P.info? e = some i) (h3 : i.zero = some z) (h4 : i.size = size) (h5 : i.bytes = bytes) (h6 : z.cells.size = size) (h7 : 0 < size)
    (v : Value) (k : Nat) (xs : List Value) (hs : a.eval s = v) (hown : w.ownsRow base e size v k xs) (ao : Option Addr) (m c : Nat) (news : List Value) (hx : a.eval x = .slice ao m c) (hn : news.length = m * size)
    (hnone : ao = none → m = 0 ∧ c = 0) (hc : ∀ ad, ao = some ad → ∀ j u, news[j]? = some u → w.cell? (ad.add j) = some u) (h1c : ∀ u ∈ news, u.oneCell' = true) (b1 : k + m ≤ maxLen) (b2 : (k + m) * bytes ≤ 140737488355328) (b3 : base ≤ w.heap.size)
    (hK : ∀ v' w', w'.ownsRow base e size v' (k + m) (xs ++ news) → w.grownBy w' v.ownBlock → K (a.put o.dst v') w') :
    if Region.wanted o (yielded ops a.tmps) = true then Oper.wp P o a w K Q else E := by
  have hw : Region.wanted o (yielded ops a.tmps) = true := by simp [Region.wanted, hg]
  rw [if_pos hw]
  cases ao with
  | some ad => exact wp_append_own w s x t hop base e i z size bytes h1 h2 h3 h4 h5 h6 h7 v k xs hs hown ad m c news hx hn (hc ad rfl) h1c b1 b2 b3 (fun v' w' h1 h2 _ => hK v' w' h1 h2)
  | none =>
    obtain ⟨rfl, rfl⟩ := hnone rfl
    have hnews : news = [] := List.eq_nil_of_length_eq_zero (by simpa using hn)
    subst hnews
    have hrun := run_append_owned_none (P := P) w base t o.type e i size h1 h2 _ k xs hown
    unfold Oper.wp execOp
    simp only [hop, resolve, invoke, builtin, Sem.run_bind, Sem.run_pure, Result.andThen_ok, List.map_toArray, List.map_cons, List.map_nil, hs, hx, hrun]
    exact hK v w (by simpa using hown) (World.grownBy.refl _ _)
end Go.Proofs.YtkchakcebdenjaaGreat
