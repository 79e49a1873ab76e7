/-
  Texts that stood by themselves, laid into one.
-/
import Derived.Test.YtmgjefkelohocaaDoorIRd3M
import Derived.Test.YtmgjefkelohocaaDoorMkListM
import Derived.Test.YtmgjefkelohocaaDoorListOfM
/-
  The contract of impl's text reader: what it panics with. The table of powers of ten and the two error variables are there.
-/
namespace Go.Proofs.YtmgjefkelohocaaDoor
open Go.RowKit

/-- How a text is read behind nodes. -/
def readE (xs : List Nd) (t : ByteArray) : RdR :=
  if t.size ≤ 400 then (rd t 0 0 ⟨xs, [], 0, []⟩).andThen fun s => if s.lo = [] then (if s.ns.length ≤ 3000 then .ok s else .bad 6 0) else .bad 4 s.a else .bad 1 0

set_option maxRecDepth 100000 in
set_option maxHeartbeats 3200000 in
theorem rread_any (base P B : Nat) (xs : List Nd) (t : ByteArray) (w : World) (D : RdOk base P w ⟨xs, [], 0, []⟩) (hn : xs.length ≤ 3000) (hz : ∀ x ∈ xs, x.s.size ≤ maxLen) (hb : base ≤ w.heap.size) (hB : B ≤ base) (hP : Pow B w) (hE : Errs B w) (ht : t.size ≤ maxLen) :
    Calls Tryd.prog 46 #[.pointer (some ⟨P, 0, none⟩), .string t] w (RdPostB base P w (readE xs t)) := by
  unfold maxLen at ht
  have F0 : Fits xs.length 0 ⟨xs, [], 0, []⟩ := ⟨by simp, by simp, by simp, by simp, hz⟩
  go_enter Tryd.func46, Tryd.ntmps46
  by_cases h4 : t.size ≤ 400
  · have HE : Hid (readE xs t = (rd t 0 0 ⟨xs, [], 0, []⟩).andThen fun s => if s.lo = [] then (if s.ns.length ≤ 3000 then .ok s else .bad 6 0) else .bad 4 s.a) := by unfold Hid readE; rw [if_pos h4]
    have h4' : ¬ (400 : Int) < t.size := by omega
    go_wp2_with fail
    refine (rall_any base P B xs.length _ t _ D F0 hn hb hB hP hE h4).mono ?_
    rintro e w1 ⟨he, hb1, D1⟩
    cases hr : rd t 0 0 ⟨xs, [], 0, []⟩ with
    | bad h p =>
      have he2 : e = .panicked (oops h p) := by rw [he, hr]; rfl
      have HX2 : Hid (readE xs t = .bad h p) := by unfold Hid; rw [HE.out, hr]; rfl
      subst he2
      exact ⟨rfl, by rw [HX2.out]; rfl, hb1, fun s' q => by rw [HX2.out] at q; cases q⟩
    | ok s =>
      have he2 : e = .returned (.tuple #[]) := by rw [he, hr]; rfl
      have HX2 : Hid (readE xs t = if s.lo = [] then (if s.ns.length ≤ 3000 then .ok s else .bad 6 0) else .bad 4 s.a) := by unfold Hid; rw [HE.out, hr]; rfl
      subst he2
      obtain ⟨vn, vl, st, lv, D2⟩ := D1 s hr
      have D2' : RdOk base P w1 s := ⟨vn, vl, st, lv, D2⟩
      have hl := D2.len
      obtain ⟨blk, nod, stk, lo, le⟩ := D2
      obtain ⟨an, cn, rfl⟩ := own_form nod
      obtain ⟨g, capo, hoe, hgb, hgl⟩ := stk.recs.form (by simp)
      rw [List.length_append, List.length_singleton] at hoe
      subst hoe
      have c0 : w1.cell? ⟨P, 0, none⟩ = some (.slice an s.ns.length cn) := by rw [cell_of_row w1 _ 0 _ _ _ blk]; rfl
      have c1 : w1.cell? ⟨P, 0 + 1, none⟩ = some (.slice (some ⟨g, 0, none⟩) (st.length + 1) capo) := by rw [cell_of_row w1 _ 1 _ _ _ blk]; rfl
      have SR := stk.recs
      rw [List.length_append, List.length_singleton] at SR
      have cA := SR.cellAt (st.length * 2) (by omega)
      rw [(stC_at st (s.a, lv, s.vs) []).1] at cA
      have hst : st.length ≤ maxLen := by
        rcases SR.2 with ⟨e, _⟩ | ⟨g', c', cur, e, _, _, h1, h2, _⟩
        · cases e
        · omega
      unfold maxLen at hst
      clear HE SR stk nod
      by_cases hlo : s.lo = []
      · have hst0 : st = [] := List.length_eq_zero_iff.1 (by rw [hl, hlo]; rfl)
        subst hst0
        rw [if_pos hlo] at HX2
        clear hl hst
        by_cases h3 : s.ns.length ≤ 3000
        · rw [if_pos h3] at HX2
          go_wp2_with fail
          go_end0
          exact ⟨by rw [HX2.out]; rfl, hb1, fun s' q => by rw [HX2.out] at q; cases q; exact D2'⟩
        · rw [if_neg h3] at HX2
          go_wp2_with fail
          exact ⟨rfl, by rw [HX2.out]; rfl, hb1, fun s' q => by rw [HX2.out] at q; cases q⟩
      · rw [if_neg hlo] at HX2
        have hst0 : 0 < st.length := by
          rcases Nat.eq_zero_or_pos st.length with h | h
          · exact absurd (List.length_eq_zero_iff.1 (by rw [← hl, h])) hlo
          · exact h
        clear hl
        go_wp2_with fail
        exact ⟨rfl, by rw [HX2.out]; rfl, hb1, fun s' q => by rw [HX2.out] at q; cases q⟩
  · have HX2 : Hid (readE xs t = .bad 1 0) := by unfold Hid readE; rw [if_neg h4]
    have h4' : (400 : Int) < t.size := by omega
    go_wp2_with fail
    exact ⟨rfl, by rw [HX2.out]; rfl, Below.refl _ _, fun s' q => by rw [HX2.out] at q; cases q⟩

theorem Tryd.mistakeZ : (Tryd.prog.info? 76).map (fun i => (i.zero, i.size, i.bytes)) = some (some (.agg #[.int .i64 0, .int .i64 0]), 2, 16) := by kernel_rfl
theorem ta_nil (xT : TypeId) (w : World) : (Instr.typeAssert .nilIface xT 76 true).run Tryd.prog w = .ok (.tuple #[.agg #[.int .i64 0, .int .i64 0], .bool false]) w := by
  obtain ⟨i0, hi, hz0, hz1, hz2⟩ := info_parts Tryd.mistakeZ
  simp [Instr.typeAssert, run_underlying Tryd.underlying76, zeroValue, typeInfo, go_sem, Result.andThen, hi, hz0]
theorem ta_ok (xT : TypeId) (v : Value) (w : World) : (Instr.typeAssert (.iface 76 v) xT 76 true).run Tryd.prog w = .ok (.tuple #[v, .bool true]) w := by
  simp [Instr.typeAssert, run_underlying Tryd.underlying76, go_sem, Result.andThen]

theorem NRow.nil (w : World) : NRow w (.slice none 0 0) [] := NRow.of_own (base := 0) ⟨rfl, .inl ⟨rfl, rfl⟩⟩ (by simp) (by simp)
/-- The boxes of Read: its argument, and its four results. -/
structure RBox (q : Nat) (w : World) (v a b c d : Value) : Prop where
  arg : w.heap[q]? = some (.cells #[v] 26 (0, 0))
  pool : w.heap[q + 1]? = some (.cells #[a] 26 (0, 0))
  list : w.heap[q + 1 + 1]? = some (.cells #[b] 34 (0, 0))
  how : w.heap[q + 1 + 1 + 1]? = some (.cells #[c] 3 (0, 0))
  place : w.heap[q + 1 + 1 + 1 + 1]? = some (.cells #[d] 3 (0, 0))
theorem RBox.lt {q : Nat} {w : World} {v a b c d : Value} (X : RBox q w v a b c d) : q + 1 + 1 + 1 + 1 < w.heap.size := (Array.getElem?_eq_some_iff.1 X.place).1
theorem RBox.on {q : Nat} {w w' : World} {v a b c d : Value} (X : RBox q w v a b c d) (h : Below (q + 5) w w') : RBox q w' v a b c d :=
  ⟨(h.block _ (by omega)).trans X.arg, (h.block _ (by omega)).trans X.pool, (h.block _ (by omega)).trans X.list, (h.block _ (by omega)).trans X.how, (h.block _ (by omega)).trans X.place⟩
theorem set_block (u : World) (i j : Nat) (z : Value) (h : j ≠ i) : (u.setCell ⟨i, 0, none⟩ z).heap[j]? = u.heap[j]? := heap_setCell_other u ⟨i, 0, none⟩ j z h
theorem RBox.set1 {q : Nat} {w : World} {v a b c d : Value} (X : RBox q w v a b c d) (z : Value) : RBox q (w.setCell ⟨q + 1, 0, none⟩ z) v z b c d :=
  ⟨(set_block w (q + 1) (q) z (by omega)).trans X.arg, heap_setCell_same w (q + 1) 0 _ _ z X.pool, (set_block w (q + 1) (q + 1 + 1) z (by omega)).trans X.list, (set_block w (q + 1) (q + 1 + 1 + 1) z (by omega)).trans X.how, (set_block w (q + 1) (q + 1 + 1 + 1 + 1) z (by omega)).trans X.place⟩
theorem RBox.set2 {q : Nat} {w : World} {v a b c d : Value} (X : RBox q w v a b c d) (z : Value) : RBox q (w.setCell ⟨q + 1 + 1, 0, none⟩ z) v a z c d :=
  ⟨(set_block w (q + 1 + 1) (q) z (by omega)).trans X.arg, (set_block w (q + 1 + 1) (q + 1) z (by omega)).trans X.pool, heap_setCell_same w (q + 1 + 1) 0 _ _ z X.list, (set_block w (q + 1 + 1) (q + 1 + 1 + 1) z (by omega)).trans X.how, (set_block w (q + 1 + 1) (q + 1 + 1 + 1 + 1) z (by omega)).trans X.place⟩
theorem RBox.set3 {q : Nat} {w : World} {v a b c d : Value} (X : RBox q w v a b c d) (z : Value) : RBox q (w.setCell ⟨q + 1 + 1 + 1, 0, none⟩ z) v a b z d :=
  ⟨(set_block w (q + 1 + 1 + 1) (q) z (by omega)).trans X.arg, (set_block w (q + 1 + 1 + 1) (q + 1) z (by omega)).trans X.pool, (set_block w (q + 1 + 1 + 1) (q + 1 + 1) z (by omega)).trans X.list, heap_setCell_same w (q + 1 + 1 + 1) 0 _ _ z X.how, (set_block w (q + 1 + 1 + 1) (q + 1 + 1 + 1 + 1) z (by omega)).trans X.place⟩
theorem RBox.set4 {q : Nat} {w : World} {v a b c d : Value} (X : RBox q w v a b c d) (z : Value) : RBox q (w.setCell ⟨q + 1 + 1 + 1 + 1, 0, none⟩ z) v a b c z :=
  ⟨(set_block w (q + 1 + 1 + 1 + 1) (q) z (by omega)).trans X.arg, (set_block w (q + 1 + 1 + 1 + 1) (q + 1) z (by omega)).trans X.pool, (set_block w (q + 1 + 1 + 1 + 1) (q + 1 + 1) z (by omega)).trans X.list, (set_block w (q + 1 + 1 + 1 + 1) (q + 1 + 1 + 1) z (by omega)).trans X.how, heap_setCell_same w (q + 1 + 1 + 1 + 1) 0 _ _ z X.place⟩
theorem RBox.cells {q : Nat} {w : World} {v a b c d : Value} (X : RBox q w v a b c d) : w.cell? ⟨q, 0, none⟩ = some v ∧ w.cell? ⟨q + 1, 0, none⟩ = some a ∧ w.cell? ⟨q + 1 + 1, 0, none⟩ = some b ∧ w.cell? ⟨q + 1 + 1 + 1, 0, none⟩ = some c ∧ w.cell? ⟨q + 1 + 1 + 1 + 1, 0, none⟩ = some d ∧
    w.frozen? ⟨q + 1, 0, none⟩ = false ∧ w.frozen? ⟨q + 1 + 1, 0, none⟩ = false ∧ w.frozen? ⟨q + 1 + 1 + 1, 0, none⟩ = false ∧ w.frozen? ⟨q + 1 + 1 + 1 + 1, 0, none⟩ = false := by
  refine ⟨?_, ?_, ?_, ?_, ?_, frozen_of_row w _ 0 _ _ X.pool, frozen_of_row w _ 0 _ _ X.list, frozen_of_row w _ 0 _ _ X.how, frozen_of_row w _ 0 _ _ X.place⟩
  · rw [cell_of_row w _ 0 _ _ _ X.arg]; rfl
  · rw [cell_of_row w _ 0 _ _ _ X.pool]; rfl
  · rw [cell_of_row w _ 0 _ _ _ X.list]; rfl
  · rw [cell_of_row w _ 0 _ _ _ X.how]; rfl
  · rw [cell_of_row w _ 0 _ _ _ X.place]; rfl

theorem set_far (u : World) (i j : Nat) (z : Value) (h : j ≠ i) : (u.setCell ⟨i, 0, none⟩ z).cell? ⟨j, 0, none⟩ = u.cell? ⟨j, 0, none⟩ ∧ (u.setCell ⟨i, 0, none⟩ z).frozen? ⟨j, 0, none⟩ = u.frozen? ⟨j, 0, none⟩ :=
  ⟨World.cell?_of_block (heap_setCell_other u ⟨i, 0, none⟩ j z h), World.frozen?_of_block (heap_setCell_other u ⟨i, 0, none⟩ j z h)⟩

/-- All four stored behind one another. -/
theorem fin_box {q B n : Nat} {w W : World} {v a b c d V L h p : Value} {l : List Value} (X : RBox q W v a b c d) (oV : W.ownsRow B 55 5 V n l) (oL : W.ownsRow B 3 1 L 0 []) (hb : Below q w W) (hB : q + 1 + 1 + 1 + 1 < B) :
    ∃ v' vl, RBox q ((((W.setCell ⟨q + 1, 0, none⟩ V).setCell ⟨q + 1 + 1, 0, none⟩ L).setCell ⟨q + 1 + 1 + 1, 0, none⟩ h).setCell ⟨q + 1 + 1 + 1 + 1, 0, none⟩ p) v v' vl h p ∧
      ((((W.setCell ⟨q + 1, 0, none⟩ V).setCell ⟨q + 1 + 1, 0, none⟩ L).setCell ⟨q + 1 + 1 + 1, 0, none⟩ h).setCell ⟨q + 1 + 1 + 1 + 1, 0, none⟩ p).ownsRow B 55 5 v' n l ∧
      ((((W.setCell ⟨q + 1, 0, none⟩ V).setCell ⟨q + 1 + 1, 0, none⟩ L).setCell ⟨q + 1 + 1 + 1, 0, none⟩ h).setCell ⟨q + 1 + 1 + 1 + 1, 0, none⟩ p).ownsRow B 3 1 vl 0 [] ∧
      Below q w ((((W.setCell ⟨q + 1, 0, none⟩ V).setCell ⟨q + 1 + 1, 0, none⟩ L).setCell ⟨q + 1 + 1 + 1, 0, none⟩ h).setCell ⟨q + 1 + 1 + 1 + 1, 0, none⟩ p) := by
  have s : ∀ {u : World} {e : TypeId} {m k : Nat} {x : Value} {ys : List Value} (i : Nat) (z : Value), i < B → u.ownsRow B e m x k ys → (u.setCell ⟨i, 0, none⟩ z).ownsRow B e m x k ys := fun i z hi h => ownsRow_setCell_below h (a := ⟨i, 0, none⟩) hi z
  refine ⟨V, L, (((X.set1 V).set2 L).set3 h).set4 p, ?_, ?_, ?_⟩
  · exact s _ _ (by omega) (s _ _ (by omega) (s _ _ (by omega) (s _ _ (by omega) oV)))
  · exact s _ _ (by omega) (s _ _ (by omega) (s _ _ (by omega) (s _ _ (by omega) oL)))
  · exact (((hb.setCell (p := ⟨q + 1, 0, none⟩) (by simp) V).setCell (p := ⟨q + 1 + 1, 0, none⟩) (by simp; omega) L).setCell (p := ⟨q + 1 + 1 + 1, 0, none⟩) (by simp; omega) h).setCell (p := ⟨q + 1 + 1 + 1 + 1, 0, none⟩) (by simp; omega) p
theorem fin_box3 {q B n : Nat} {w W : World} {v b c d V L h p : Value} {l : List Value} (X : RBox q W v V b c d) (oV : W.ownsRow B 55 5 V n l) (oL : W.ownsRow B 3 1 L 0 []) (hb : Below q w W) (hB : q + 1 + 1 + 1 + 1 < B) :
    ∃ v' vl, RBox q (((W.setCell ⟨q + 1 + 1, 0, none⟩ L).setCell ⟨q + 1 + 1 + 1, 0, none⟩ h).setCell ⟨q + 1 + 1 + 1 + 1, 0, none⟩ p) v v' vl h p ∧
      (((W.setCell ⟨q + 1 + 1, 0, none⟩ L).setCell ⟨q + 1 + 1 + 1, 0, none⟩ h).setCell ⟨q + 1 + 1 + 1 + 1, 0, none⟩ p).ownsRow B 55 5 v' n l ∧
      (((W.setCell ⟨q + 1 + 1, 0, none⟩ L).setCell ⟨q + 1 + 1 + 1, 0, none⟩ h).setCell ⟨q + 1 + 1 + 1 + 1, 0, none⟩ p).ownsRow B 3 1 vl 0 [] ∧
      Below q w (((W.setCell ⟨q + 1 + 1, 0, none⟩ L).setCell ⟨q + 1 + 1 + 1, 0, none⟩ h).setCell ⟨q + 1 + 1 + 1 + 1, 0, none⟩ p) := by
  have s : ∀ {u : World} {e : TypeId} {m k : Nat} {x : Value} {ys : List Value} (i : Nat) (z : Value), i < B → u.ownsRow B e m x k ys → (u.setCell ⟨i, 0, none⟩ z).ownsRow B e m x k ys := fun i z hi h => ownsRow_setCell_below h (a := ⟨i, 0, none⟩) hi z
  refine ⟨V, L, ((X.set2 L).set3 h).set4 p, ?_, ?_, ?_⟩
  · exact s _ _ (by omega) (s _ _ (by omega) (s _ _ (by omega) oV))
  · exact s _ _ (by omega) (s _ _ (by omega) (s _ _ (by omega) oL))
  · exact ((hb.setCell (p := ⟨q + 1 + 1, 0, none⟩) (by simp; omega) L).setCell (p := ⟨q + 1 + 1 + 1, 0, none⟩) (by simp; omega) h).setCell (p := ⟨q + 1 + 1 + 1 + 1, 0, none⟩) (by simp; omega) p

/-- The deferred closure where nothing is panicking. -/
theorem catchr_idle (p0 p1 p2 p3 p4 : Addr) (w : World) :
    CallsD Tryd.prog 44 #[.pointer (some p0), .pointer (some p1), .pointer (some p2), .pointer (some p3), .pointer (some p4)] .returning w fun e u' w' => e = .returned (.tuple #[]) ∧ u' = .returning ∧ Below w.heap.size w w' := by
  refine callsD_of_wpS Tryd.func44 rfl fun c₀ cs hu => ?_
  apply wpS_seq
  apply wpS_region
  simp [wpOpsS, go_sem, recoverD, hu, Tryd.ntmps44, Exit.thenS, ta_nil, Array.replicate]
  refine wpS_of_wp ?_
  go_wp2_with fail
  cases c₀
  simp_all [bodyPostS, results, Tryd.results44]
  exact (Below.refl _ _).alloc (Nat.le_refl _) _
end Go.Proofs.YtmgjefkelohocaaDoor

/-
  A list that is made of values is read as these: plain mathematics. Nothing of the program; no condition.
-/
namespace Go.Proofs.YtmgjefkelohocaaDoor
open Go.RowKit

theorem nodesB_snoc' (xs : List Nd) (x : Nd) (i : Nat) : nodesB (xs ++ [x]) i = (nodesB xs i && nodeB x ((i + xs.length : Nat) : Int)) := by
  induction xs generalizing i with
  | nil => simp [nodesB]
  | cons y ys ih =>
    simp only [List.cons_append, nodesB, ih, Bool.and_assoc, List.length_cons]
    rw [show i + 1 + ys.length = i + (ys.length + 1) by omega]
theorem poolB_snoc' {xs : List Nd} {x : Nd} (h : poolB xs = true) (hx : nodeB x xs.length = true) (hl : xs.length < 3000) : poolB (xs ++ [x]) = true := by
  unfold poolB at h ⊢
  simp only [Bool.and_eq_true, decide_eq_true_eq] at h
  rw [nodesB_snoc', h.2, Nat.zero_add, hx]
  simp; omega
theorem nilN_ok (n : Nat) : nodeB nilN n = true := by simp [nodeB, nilN, nameFB, partB, lo, hi, hasS, hasA, hasB]
theorem pairN_ok (z : Int) (last : Nat) (at_ : Nat) (h0 : 0 ≤ z) (h1 : z < at_) (h2 : last < at_) : nodeB (pairN z last) at_ = true := by
  simp [nodeB, pairN, nameFB, partB, lo, hi, hasS, hasA, hasB, h0, h1, h2]
theorem pool_more (xs : List Nd) (zs : List Int) (hp : poolB xs = true) (hl : xs.length + 1 + zs.length ≤ 3000) (ha : allI xs zs = true) (d : Nat) (hd : d ≤ zs.length) : poolB (xs ++ more zs xs.length (zs.length - d)) = true := by
  induction d with
  | zero =>
    rw [show more zs xs.length (zs.length - 0) = [nilN] by simp [more, pairsR]]
    exact poolB_snoc' hp (nilN_ok _) (by omega)
  | succ d ih =>
    have hm : zs.length - (d + 1) < zs.length := by omega
    rw [more_step zs xs.length (zs.length - (d + 1)) hm, show zs.length - (d + 1) + 1 = zs.length - d by omega, ← List.append_assoc]
    have hlen : (xs ++ more zs xs.length (zs.length - d)).length = xs.length + d + 1 := by rw [List.length_append, more_length]; omega
    refine poolB_snoc' (ih (by omega)) ?_ (by rw [hlen]; omega)
    have hz := List.all_eq_true.1 ha zs[zs.length - (d + 1)] (List.getElem_mem _)
    simp only [hasI, Bool.and_eq_true, decide_eq_true_eq] at hz
    rw [hlen]
    exact pairN_ok _ _ _ hz.1 (by omega) (by omega)
theorem more_ext (zs : List Int) (n : Nat) (d : Nat) (hd : d ≤ zs.length) : ∃ t, more zs n 0 = more zs n (zs.length - d) ++ t := by
  induction hk : zs.length - d generalizing d with
  | zero => exact ⟨[], by simp⟩
  | succ k ih =>
    obtain ⟨t, ht⟩ := ih (d + 1) (by omega) (by omega)
    rw [ht, more_step zs n k (by omega)]
    exact ⟨_, List.append_assoc _ _ _⟩
theorem chain_more (xs : List Nd) (zs : List Int) (d : Nat) (hd : d ≤ zs.length) (f : Nat) (acc : List Int) (hf : xs.length + d < f) :
    chain (xs ++ more zs xs.length 0) f (xs.length + d) acc = some (acc ++ zs.drop (zs.length - d)) := by
  induction d generalizing f acc with
  | zero =>
    obtain ⟨t, ht⟩ := more_ext zs xs.length 0 (by omega)
    rw [chain_nil _ f (xs.length + 0) acc nilN ?_ rfl hf]
    · simp
    · rw [ht, show more zs xs.length (zs.length - 0) = [nilN] by simp [more, pairsR]]
      simp
  | succ d ih =>
    have hm : zs.length - (d + 1) < zs.length := by omega
    obtain ⟨t, ht⟩ := more_ext zs xs.length (d + 1) hd
    have hx : (xs ++ more zs xs.length 0)[xs.length + (d + 1)]? = some (pairN zs[zs.length - (d + 1)] (xs.length + (zs.length - (zs.length - (d + 1) + 1)))) := by
      rw [ht, more_step zs xs.length (zs.length - (d + 1)) hm]
      have hl := more_length zs xs.length (zs.length - (d + 1) + 1)
      rw [List.getElem?_append_right (by omega), List.append_assoc, List.getElem?_append_right (by omega), List.getElem?_append_left (by simp; omega)]
      rw [show xs.length + (d + 1) - xs.length - (more zs xs.length (zs.length - (d + 1) + 1)).length = 0 by omega]
      rfl
    rw [chain_pair _ f _ acc _ hx rfl (by omega)]
    have hb : ((pairN zs[zs.length - (d + 1)] (xs.length + (zs.length - (zs.length - (d + 1) + 1)))).b).toNat = xs.length + d := by
      show (((xs.length + (zs.length - (zs.length - (d + 1) + 1)) : Nat) : Int)).toNat = _
      rw [Int.toNat_natCast]; omega
    rw [hb, ih (by omega) (f - 1) _ (by omega)]
    have : zs.drop (zs.length - (d + 1)) = zs[zs.length - (d + 1)] :: zs.drop (zs.length - d) := by
      rw [List.drop_eq_getElem_cons hm, show zs.length - (d + 1) + 1 = zs.length - d by omega]
    rw [this, List.append_assoc]
    rfl
theorem lists_back (xs : List Nd) (zs : List Int) (hp : poolB xs = true) (hok : mlOk xs zs = true) : poolB (xs ++ more zs xs.length 0) = true ∧ listR (xs ++ more zs xs.length 0) ((xs.length + zs.length : Nat) : Int) = (zs, true) := by
  simp only [mlOk, Bool.and_eq_true, decide_eq_true_eq] at hok
  have h1 := pool_more xs zs hp hok.1 hok.2 zs.length (Nat.le_refl _)
  rw [Nat.sub_self] at h1
  refine ⟨h1, ?_⟩
  have hml := more_length zs xs.length 0
  have hi : hasI (xs ++ more zs xs.length 0) ((xs.length + zs.length : Nat) : Int) = true := by
    unfold hasI
    rw [List.length_append, hml]
    simp
    omega
  unfold listR chainR
  rw [h1, hi, Bool.and_self, if_pos rfl, Int.toNat_natCast, chain_more xs zs zs.length (Nat.le_refl _) _ [] (by omega)]
  simp
theorem chain_len' (xs : List Nd) (f j : Nat) (acc l : List Int) (h : chain xs f j acc = some l) : l.length ≤ acc.length + f := by
  induction f generalizing j acc with
  | zero => simp [chain] at h
  | succ f ih =>
    simp only [chain] at h
    split at h
    · cases h
    · split at h
      · have := ih _ _ h
        simp at this
        omega
      · split at h
        · cases h; omega
        · cases h
theorem listR_len' (xs : List Nd) (a : Int) : (listR xs a).1.length ≤ xs.length := by
  unfold listR
  cases h : (poolB xs && hasI xs a) with
  | false => simp
  | true =>
    simp only [Bool.and_eq_true, hasI, decide_eq_true_eq] at h
    rw [if_pos rfl]
    unfold chainR
    split
    · rename_i l hl
      have := chain_len' xs _ _ _ _ hl
      show l.length ≤ xs.length
      simp only [List.length_nil] at this
      omega
    · simp

end Go.Proofs.YtmgjefkelohocaaDoor
