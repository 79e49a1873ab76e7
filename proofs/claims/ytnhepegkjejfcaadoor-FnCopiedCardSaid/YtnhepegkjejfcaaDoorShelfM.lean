/-
  Texts that stood by themselves, laid into one.
-/
import Derived.Test.YtnhepegkjejfcaaDoorSCopy7M
import Derived.Test.YtnhepegkjejfcaaDoorNameM
import Derived.Test.YtnhepegkjejfcaaDoorGrowM
import Derived.Shelf.LaysM
import Derived.Shelf.Strconv.Itoa3
import Derived.Test.YtnhepegkjejfcaaDoorProg
/-
  Contract of spec's Copy. No condition.
-/
namespace Go.Proofs.YtnhepegkjejfcaaDoor
open Go.RowKit

set_option maxRecDepth 100000 in
set_option maxHeartbeats 3200000 in
theorem scopy7_any (vp vq : Value) (ps xs : List Nd) (v : Int) (w : World) (RP : NRow w vp ps) (RQ : NRow w vq xs) :
    Calls Tryd.prog 15 #[.agg #[vp], .agg #[vq], .int .i64 v] w fun e w' => ∃ v1, e = .returned (.tuple #[.agg #[v1], .int .i64 (cyI ps xs v)]) ∧ w'.ownsRow w.heap.size 40 5 v1 (cyL ps xs v).length (ncs (cyL ps xs v)) ∧ Below w.heap.size w w' := by
  have RP' := RP
  have RQ' := RQ
  obtain ⟨ap, cp, rfl, _⟩ := RP'
  obtain ⟨aq, cq, rfl, _⟩ := RQ'
  have hB0 : Below w.heap.size w (((w.alloc (Obj.cells #[.slice ap ps.length cp] 26)).alloc (Obj.cells #[.slice aq xs.length cq] 26)).alloc (Obj.cells #[.slice none 0 0] 26)) := (below2 w _ _).alloc (by simp; omega) _
  have hx0 : (((w.alloc (Obj.cells #[.slice ap ps.length cp] 26)).alloc (Obj.cells #[.slice aq xs.length cq] 26)).alloc (Obj.cells #[.slice none 0 0] 26)).heap[w.heap.size]? = some (.cells #[.slice ap ps.length cp] 26 (0, 0)) := (heap_alloc_old _ _ (by simp; omega)).trans (old2 w _ _)
  have hy0 : (((w.alloc (Obj.cells #[.slice ap ps.length cp] 26)).alloc (Obj.cells #[.slice aq xs.length cq] 26)).alloc (Obj.cells #[.slice none 0 0] 26)).heap[w.heap.size + 1]? = some (.cells #[.slice aq xs.length cq] 26 (0, 0)) := (heap_alloc_old _ _ (by simp)).trans (heap_alloc2_new w _ _)
  have hz0 : (((w.alloc (Obj.cells #[.slice ap ps.length cp] 26)).alloc (Obj.cells #[.slice aq xs.length cq] 26)).alloc (Obj.cells #[.slice none 0 0] 26)).heap[w.heap.size + 1 + 1]? = some (.cells #[.slice none 0 0] 26 (0, 0)) := by
    have := heap_alloc_new ((w.alloc (Obj.cells #[.slice ap ps.length cp] 26)).alloc (Obj.cells #[.slice aq xs.length cq] 26)) (Obj.cells #[.slice none 0 0] 26)
    simpa using this
  go_enter Tryd.func15, Tryd.ntmps15
  go_wp2_with fail
  generalize ((w.alloc (Obj.cells #[.slice ap ps.length cp] 26)).alloc (Obj.cells #[.slice aq xs.length cq] 26)).alloc (Obj.cells #[.slice none 0 0] 26) = W0 at *
  refine (spool_any _ ps _ (RP.below hB0)).mono ?_
  rintro e w1 ⟨rfl, hb1⟩
  have hl0 := (Array.getElem?_eq_some_iff.1 hz0).1
  have hB1 := hB0.trans (hb1.mono hB0.size)
  have hx1 := (hb1.block _ (by omega)).trans hx0
  have hy1 := (hb1.block _ (by omega)).trans hy0
  have hz1 := (hb1.block _ hl0).trans hz0
  have hl1 := (Array.getElem?_eq_some_iff.1 hz1).1
  have cx1 : w1.cell? ⟨w.heap.size, 0, none⟩ = some (.slice ap ps.length cp) := by rw [cell_of_row w1 _ 0 _ _ _ hx1]; rfl
  have cy1 : w1.cell? ⟨w.heap.size + 1, 0, none⟩ = some (.slice aq xs.length cq) := by rw [cell_of_row w1 _ 0 _ _ _ hy1]; rfl
  have cz1 : w1.cell? ⟨w.heap.size + 1 + 1, 0, none⟩ = some (.slice none 0 0) := by rw [cell_of_row w1 _ 0 _ _ _ hz1]; rfl
  have fz1 : w1.frozen? ⟨w.heap.size + 1 + 1, 0, none⟩ = false := frozen_of_row w1 _ 0 _ _ hz1
  clear hB0 hb1 hx0 hy0 hz0 hl0
  by_cases hpp : poolB ps = true
  · rw [hpp]
    go_wp2_with fail
    refine (spool_any _ xs _ (RQ.below hB1)).mono ?_
    rintro e w2 ⟨rfl, hb2⟩
    have hB2 := hB1.trans (hb2.mono hB1.size)
    have hx2 := (hb2.block _ (by omega)).trans hx1
    have hy2 := (hb2.block _ (by omega)).trans hy1
    have hz2 := (hb2.block _ hl1).trans hz1
    have hl2 := (Array.getElem?_eq_some_iff.1 hz2).1
    have cx2 : w2.cell? ⟨w.heap.size, 0, none⟩ = some (.slice ap ps.length cp) := by rw [cell_of_row w2 _ 0 _ _ _ hx2]; rfl
    have cy2 : w2.cell? ⟨w.heap.size + 1, 0, none⟩ = some (.slice aq xs.length cq) := by rw [cell_of_row w2 _ 0 _ _ _ hy2]; rfl
    have cz2 : w2.cell? ⟨w.heap.size + 1 + 1, 0, none⟩ = some (.slice none 0 0) := by rw [cell_of_row w2 _ 0 _ _ _ hz2]; rfl
    have fz2 : w2.frozen? ⟨w.heap.size + 1 + 1, 0, none⟩ = false := frozen_of_row w2 _ 0 _ _ hz2
    clear hB1 hb2 hx1 hy1 hz1 hl1 cx1 cy1 cz1 fz1
    have hpl := poolB_len hpp
    by_cases hpq : poolB xs = true
    · rw [hpq]
      go_wp2_with fail
      refine (shas_all _ xs _ _ (RQ.below hB2)).mono ?_
      rintro e w3 ⟨rfl, hb3⟩
      have hB3 := hB2.trans (hb3.mono hB2.size)
      have hx3 := (hb3.block _ (by omega)).trans hx2
      have hy3 := (hb3.block _ (by omega)).trans hy2
      have hz3 := (hb3.block _ hl2).trans hz2
      have hl3 := (Array.getElem?_eq_some_iff.1 hz3).1
      have cx3 : w3.cell? ⟨w.heap.size, 0, none⟩ = some (.slice ap ps.length cp) := by rw [cell_of_row w3 _ 0 _ _ _ hx3]; rfl
      have cy3 : w3.cell? ⟨w.heap.size + 1, 0, none⟩ = some (.slice aq xs.length cq) := by rw [cell_of_row w3 _ 0 _ _ _ hy3]; rfl
      have cz3 : w3.cell? ⟨w.heap.size + 1 + 1, 0, none⟩ = some (.slice none 0 0) := by rw [cell_of_row w3 _ 0 _ _ _ hz3]; rfl
      have fz3 : w3.frozen? ⟨w.heap.size + 1 + 1, 0, none⟩ = false := frozen_of_row w3 _ 0 _ _ hz3
      clear hB2 hb3 hx2 hy2 hz2 hl2 cx2 cy2 cz2 fz2
      cases hhi : hasI xs v with
      | false =>
        have hno : cyOk ps xs v = false := by unfold cyOk; rw [hhi]; simp
        have HL : Hid (cyL ps xs v = ps) := by unfold Hid cyL; rw [hpp, hno]; rfl
        have HI : Hid (cyI ps xs v = -1) := by unfold Hid cyI; rw [hpp, hno]; rfl
        go_wp2_with fail
        refine (scopy_any _ ps _ (RP.below hB3) (by omega)).mono ?_
        rintro e w9 ⟨v9, rfl, ho9, hb9⟩
        obtain ⟨a9, q9, rfl⟩ := own_form ho9
        have hz9 := (hb9.block _ hl3).trans hz3
        have cz9 : w9.cell? ⟨w.heap.size + 1 + 1, 0, none⟩ = some (.slice none 0 0) := by rw [cell_of_row w9 _ 0 _ _ _ hz9]; rfl
        have fz9 : w9.frozen? ⟨w.heap.size + 1 + 1, 0, none⟩ = false := frozen_of_row w9 _ 0 _ _ hz9
        have hB9 := hB3.trans (hb9.mono hB3.size)
        obtain ⟨p1, p2, p3⟩ := put_pool hz9 ho9 hB9 hl3 (by omega)
        clear hb9
        go_wp2
        refine bodyPost_ret (results_row_tmp rfl _ _ (w.heap.size + 1 + 1) 26 _ (0, 0) _ rfl p1 Tryd.underlying26 rfl Tryd.sizeP) rfl ⟨_, by rw [HI.out]; rfl, ?_, p3⟩
        rw [HL.out]
        exact p2
      | true =>
        have hhv := hhi
        simp only [hasI, Bool.and_eq_true, decide_eq_true_eq] at hhv
        obtain ⟨k, rfl⟩ := Int.eq_ofNat_of_zero_le hhv.1
        have hk : k < xs.length := by omega
        go_wp2_with fail
        refine (scopy_any _ ps _ (RP.below hB3) (by omega)).mono ?_
        rintro e w4 ⟨v4, rfl, ho4, hb4⟩
        obtain ⟨a4, q4, rfl⟩ := own_form ho4
        have hb5 := heap_alloc_new w4 (Obj.cells #[.slice a4 ps.length q4] 26)
        have ho5 := ho4.alloc (Obj.cells #[.slice a4 ps.length q4] 26)
        have hB35 : Below w3.heap.size w3 (w4.alloc (Obj.cells #[.slice a4 ps.length q4] 26)) := hb4.alloc hb4.size _
        have hs4 := hb4.size
        have cy5 : (w4.alloc (Obj.cells #[.slice a4 ps.length q4] 26)).cell? ⟨w.heap.size + 1, 0, none⟩ = some (.slice aq xs.length cq) := (hB35.cell (p := ⟨w.heap.size + 1, 0, none⟩) (by show w.heap.size + 1 < w3.heap.size; omega)).trans cy3
        have cy4 : w4.cell? ⟨w.heap.size + 1, 0, none⟩ = some (.slice aq xs.length cq) := (hb4.cell (p := ⟨w.heap.size + 1, 0, none⟩) (by show w.heap.size + 1 < w3.heap.size; omega)).trans cy3
        have hl4 : w.heap.size + 1 < w4.heap.size := by omega
        clear hb4 ho4 cx3 cy3 cz3 fz3
        go_wp2_with fail
        generalize w4.alloc (Obj.cells #[.slice a4 ps.length q4] 26) = W5 at *
        refine (slcopy7_any w4.heap.size w3.heap.size a4 q4 ps xs aq cq k w3 W5 hb5 ho5 hs4 (RQ.below hB3) (Nat.le_refl _) hB35 hpq (by omega) hk).mono ?_
        rintro e w6 ⟨vp, rfl, hb6, ho6, hB6⟩
        obtain ⟨a6, q6, rfl⟩ := own_form ho6
        have hx6 := (hB6.block _ (by omega)).trans hx3
        have hz6 := (hB6.block _ hl3).trans hz3
        have hBw6 := hB3.trans (hB6.mono hB3.size)
        have hl6 := (Array.getElem?_eq_some_iff.1 hz6).1
        have c86 : w6.cell? ⟨w4.heap.size, 0, none⟩ = some (.slice a6 (ps ++ mvN ps.length xs [(k : Int)]).length q6) := by rw [cell_of_row w6 _ 0 _ _ _ hb6]; rfl
        have cx6 : w6.cell? ⟨w.heap.size, 0, none⟩ = some (.slice ap ps.length cp) := by rw [cell_of_row w6 _ 0 _ _ _ hx6]; rfl
        have cz6 : w6.cell? ⟨w.heap.size + 1 + 1, 0, none⟩ = some (.slice none 0 0) := by rw [cell_of_row w6 _ 0 _ _ _ hz6]; rfl
        have fz6 : w6.frozen? ⟨w.heap.size + 1 + 1, 0, none⟩ = false := frozen_of_row w6 _ 0 _ _ hz6
        have hlm := mvN_len ps.length xs [(k : Int)]
        have hql := poolB_len hpq
        have HLn : Hid ((ps ++ mvN ps.length xs [(k : Int)]).length = ps.length + (mvN ps.length xs [(k : Int)]).length) := List.length_append
        have hsum : (ps ++ mvN ps.length xs [(k : Int)]).length ≤ 6000 := by rw [HLn.out]; omega
        by_cases hfit : (ps ++ mvN ps.length xs [(k : Int)]).length ≤ 3000
        · have hok : cyOk ps xs k = true := by unfold cyOk; rw [hpq, hhi]; rw [HLn.out] at hfit; simp [hfit]
          have HL : Hid (cyL ps xs k = ps ++ mvN ps.length xs [(k : Int)]) := by unfold Hid cyL; rw [hpp, hok]; rfl
          have HI : Hid (cyI ps xs k = (mvAll ps.length xs (reachL xs [(k : Int)])).2.getD k 0) := by unfold Hid cyI; rw [hpp, hok]; rfl
          generalize (mvAll ps.length xs (reachL xs [(k : Int)])).2.getD k 0 = y at *
          generalize ps ++ mvN ps.length xs [(k : Int)] = LL at *
          have hfit' : ¬ (3000 : Int) < LL.length := by omega
          obtain ⟨p1, p2, p3⟩ := put_pool hz6 ho6 hBw6 hl3 (by omega)
          go_wp2
          refine bodyPost_ret (results_row_tmp rfl _ _ (w.heap.size + 1 + 1) 26 _ (0, 0) _ rfl p1 Tryd.underlying26 rfl Tryd.sizeP) rfl ⟨_, by rw [HI.out]; rfl, ?_, p3⟩
          rw [HL.out]
          exact p2
        · have hno : cyOk ps xs k = false := by unfold cyOk; rw [HLn.out] at hfit; simp [hfit]
          have hfit' : (3000 : Int) < (ps ++ mvN ps.length xs [(k : Int)]).length := by omega
          generalize ps ++ mvN ps.length xs [(k : Int)] = LL at *
          generalize (mvAll ps.length xs (reachL xs [(k : Int)])).2.getD k 0 = y
          have HL : Hid (cyL ps xs k = ps) := by unfold Hid cyL; rw [hpp, hno]; rfl
          have HI : Hid (cyI ps xs k = -1) := by unfold Hid cyI; rw [hpp, hno]; rfl
          go_wp2_with fail
          refine (scopy_any _ ps _ (RP.below hBw6) (by omega)).mono ?_
          rintro e w9 ⟨v9, rfl, ho9, hb9⟩
          obtain ⟨a9, q9, rfl⟩ := own_form ho9
          have hz9 := (hb9.block _ hl6).trans hz6
          have cz9 : w9.cell? ⟨w.heap.size + 1 + 1, 0, none⟩ = some (.slice none 0 0) := by rw [cell_of_row w9 _ 0 _ _ _ hz9]; rfl
          have fz9 : w9.frozen? ⟨w.heap.size + 1 + 1, 0, none⟩ = false := frozen_of_row w9 _ 0 _ _ hz9
          have hB9 := hBw6.trans (hb9.mono hBw6.size)
          obtain ⟨p1, p2, p3⟩ := put_pool hz9 ho9 hB9 hl6 (by omega)
          clear hb9
          go_wp2
          refine bodyPost_ret (results_row_tmp rfl _ _ (w.heap.size + 1 + 1) 26 _ (0, 0) _ rfl p1 Tryd.underlying26 rfl Tryd.sizeP) rfl ⟨_, by rw [HI.out]; rfl, ?_, p3⟩
          rw [HL.out]
          exact p2
    · have hpq' : poolB xs = false := by simpa using hpq
      rw [hpq']
      have hno : cyOk ps xs v = false := by unfold cyOk; rw [hpq']; simp
      have HL : Hid (cyL ps xs v = ps) := by unfold Hid cyL; rw [hpp, hno]; rfl
      have HI : Hid (cyI ps xs v = -1) := by unfold Hid cyI; rw [hpp, hno]; rfl
      go_wp2_with fail
      refine (scopy_any _ ps _ (RP.below hB2) (by omega)).mono ?_
      rintro e w9 ⟨v9, rfl, ho9, hb9⟩
      obtain ⟨a9, q9, rfl⟩ := own_form ho9
      have hz9 := (hb9.block _ hl2).trans hz2
      have cz9 : w9.cell? ⟨w.heap.size + 1 + 1, 0, none⟩ = some (.slice none 0 0) := by rw [cell_of_row w9 _ 0 _ _ _ hz9]; rfl
      have fz9 : w9.frozen? ⟨w.heap.size + 1 + 1, 0, none⟩ = false := frozen_of_row w9 _ 0 _ _ hz9
      have hB9 := hB2.trans (hb9.mono hB2.size)
      obtain ⟨p1, p2, p3⟩ := put_pool hz9 ho9 hB9 hl2 (by omega)
      clear hb9
      go_wp2
      refine bodyPost_ret (results_row_tmp rfl _ _ (w.heap.size + 1 + 1) 26 _ (0, 0) _ rfl p1 Tryd.underlying26 rfl Tryd.sizeP) rfl ⟨_, by rw [HI.out]; rfl, ?_, p3⟩
      rw [HL.out]
      exact p2
  · have hpp' : poolB ps = false := by simpa using hpp
    rw [hpp']
    have HL : Hid (cyL ps xs v = []) := by unfold Hid cyL; rw [hpp']; rfl
    have HI : Hid (cyI ps xs v = -1) := by unfold Hid cyI; rw [hpp']; rfl
    obtain ⟨p1, p2, p3⟩ := put_pool (ao := none) (cap := 0) hz1 (World.ownsRow_nil _ (w.heap.size + 1 + 1 + 1) _ _) hB1 (by omega) (by omega)
    go_wp2
    refine bodyPost_ret (results_row_tmp rfl _ _ (w.heap.size + 1 + 1) 26 _ (0, 0) _ rfl p1 Tryd.underlying26 rfl Tryd.sizeP) rfl ⟨_, by rw [HI.out]; rfl, ?_, p3⟩
    rw [HL.out]
    exact p2
end Go.Proofs.YtnhepegkjejfcaaDoor

/-
  The writer's memory (one block with the pool and the bytes so far) and the contract of its method put. No condition.
-/
namespace Go.Proofs.YtnhepegkjejfcaaDoor
open Go.RowKit

/-- The cells of bytes. -/
def cb (l : List UInt8) : List Value := l.map fun b => Value.int .u8 b.toNat
theorem cb_length (l : List UInt8) : (cb l).length = l.length := by simp [cb]
theorem cb_append (a b : List UInt8) : cb (a ++ b) = cb a ++ cb b := by simp [cb]
theorem cb_str (s : ByteArray) : Lib.strCells s = cb s.data.toList := rfl

/-- All that is there stays, but for block p and rows of bytes from lo on. -/
structure Fr (p lo : Nat) (w w' : World) : Prop where
  os : w'.os = w.os
  tape : w'.tape = w.tape
  output : w'.output = w.output
  size : w.heap.size ≤ w'.heap.size
  block : ∀ k, k < w.heap.size → k ≠ p → (k < lo ∨ ∀ cur fr, w.heap[k]? ≠ some (.cells cur 5 fr)) → w'.heap[k]? = w.heap[k]?
theorem Fr.refl (p lo : Nat) (w : World) : Fr p lo w w := ⟨rfl, rfl, rfl, Nat.le_refl _, fun _ _ _ _ => rfl⟩
theorem Fr.trans {p lo : Nat} {a b c : World} (h : Fr p lo a b) (k : Fr p lo b c) : Fr p lo a c :=
  ⟨k.os.trans h.os, k.tape.trans h.tape, k.output.trans h.output, Nat.le_trans h.size k.size, fun i hi hp hc => by
    have e := h.block i hi hp hc
    rw [k.block i (Nat.lt_of_lt_of_le hi h.size) hp (by rw [e]; exact hc), e]⟩
theorem Fr.of_below {p lo : Nat} {w w' : World} (h : Below w.heap.size w w') : Fr p lo w w' := ⟨h.os, h.tape, h.output, h.size, fun k hk _ _ => h.block k hk⟩
theorem Fr.below {p lo : Nat} {w w' : World} (h : Fr p lo w w') (hp : lo ≤ w.heap.size) (hpl : p < lo) : Below p w w' := ⟨h.os, h.tape, h.output, h.size, fun k hk => h.block k (by omega) (by omega) (Or.inl (by omega))⟩
theorem Fr.of_grown {p lo : Nat} {w w' : World} {v : Value} {n : Nat} {xs : List Value} (ho : w.ownsRow lo 5 1 v n xs) (h : w.grownBy w' v.ownBlock) : Fr p lo w w' :=
  ⟨h.os, h.tape, h.output, h.size, fun k hk _ hc => h.block k hk (fun e => by
    rcases ho.2 with ⟨rfl, _⟩ | ⟨g, cap, cur, rfl, hb, hg, _⟩
    · cases e
    · simp only [Value.ownBlock, Option.some.injEq] at e
      subst e
      rcases hc with hc | hc
      · omega
      · exact hc _ _ hg)⟩
/-- A block that is no row of bytes stays. -/
theorem Fr.keep {p lo : Nat} {w w' : World} {k : Nat} {cs : Array Value} {t : TypeId} {fr : Nat × Nat} (h : Fr p lo w w') (hk : w.heap[k]? = some (.cells cs t fr)) (hp : k ≠ p) (ht : t ≠ 5) : w'.heap[k]? = some (.cells cs t fr) := by
  rw [h.block k (Array.getElem?_eq_some_iff.1 hk).1 hp (Or.inr fun cur fr' e => by rw [hk] at e; cases e; exact ht rfl), hk]

/-- The writer: block p holds the pool and the bytes so far, which it owns. -/
def Wr (w : World) (p lo : Nat) (pv v : Value) (l : List UInt8) : Prop :=
  w.heap[p]? = some (.cells #[pv, v] 52 (0, 0)) ∧ w.ownsRow lo 5 1 v l.length (cb l)
theorem Wr.below {w w' : World} {p lo : Nat} {pv v : Value} {l : List UInt8} (h : Wr w p lo pv v l) (hb : Below w.heap.size w w') : Wr w' p lo pv v l :=
  ⟨(hb.block _ (Array.getElem?_eq_some_iff.1 h.1).1).trans h.1, own_below h.2 hb⟩

/-- What put panics with. -/
def tooLong : List PanicEntry := [{ v := .iface 94 (.agg #[.int .i64 1, .int .i64 0]), recovered := false }]

/-- How put ends where so many bytes are there then. -/
def putEnd (n : Nat) : Ending := if n ≤ 400 then .returned (.tuple #[]) else .panicked tooLong
theorem putEnd_ok {n : Nat} (h : n ≤ 400) : putEnd n = .returned (.tuple #[]) := by rw [putEnd, if_pos h]
theorem putEnd_no {n : Nat} (h : ¬ n ≤ 400) : putEnd n = .panicked tooLong := by rw [putEnd, if_neg h]

set_option maxRecDepth 100000 in
set_option maxHeartbeats 1600000 in
theorem wput_any (p lo : Nat) (ao : Option Addr) (n cap : Nat) (v : Value) (l : List UInt8) (s : ByteArray) (w : World) (W : Wr w p lo (.slice ao n cap) v l) (hp : p < lo) (hlo : lo ≤ w.heap.size) (hl : l.length ≤ 400) (hs : s.size ≤ 1048576) :
    Calls Tryd.prog 44 #[.pointer (some ⟨p, 0, none⟩), .string s] w fun e w' => Fr p lo w w' ∧ e = putEnd (l.length + s.size) ∧ ∃ v', Wr w' p lo (.slice ao n cap) v' (l ++ s.data.toList) := by
  obtain ⟨hblk, hown⟩ := W
  obtain ⟨i0, hi, hz0, hz1, hz2⟩ := info_parts Tryd.infoU8
  obtain ⟨a2, c2, rfl⟩ := own_form hown
  have hps := (Array.getElem?_eq_some_iff.1 hblk).1
  have c1 : w.cell? ⟨p, 0 + 1, none⟩ = some (.slice a2 l.length c2) := by rw [cell_of_row w _ 1 _ _ _ hblk]; rfl
  go_enter Tryd.func44, Tryd.ntmps44
  go_wp2_with (at_builtin; refine Lib.wpList_append_own_string _ rfl _ _ 22 9 rfl lo 5 i0 Tryd.underlying22 Tryd.underlying9 hi hz0 hz1 hz2 _ _ _ rfl hown s rfl (by unfold maxLen; omega) (by omega) hlo ?_)
  intro v2 w2 own2 hgrow _
  obtain ⟨m, hm⟩ : ∃ m, m = l.length + s.size := ⟨_, rfl⟩
  rw [← hm] at own2
  have hme : (l ++ s.data.toList).length = m := by rw [hm, List.length_append, Array.length_toList]; rfl
  have hne : some p ≠ (Value.slice a2 l.length c2).ownBlock := fun e => by
    have := (hown.lt p e.symm).1
    omega
  have hblk2 : w2.heap[p]? = some (.cells #[.slice ao n cap, .slice a2 l.length c2] 52 (0, 0)) := (hgrow.block p hps hne).trans hblk
  have hF : Fr p lo w w2 := Fr.of_grown hown hgrow
  obtain ⟨a3, c3, rfl⟩ := own_form own2
  have d1 : w2.cell? ⟨p, 0 + 1, none⟩ = some (.slice a2 l.length c2) := by rw [cell_of_row w2 _ 1 _ _ _ hblk2]; rfl
  have f1 : w2.frozen? ⟨p, 0 + 1, none⟩ = false := frozen_of_row w2 _ 1 _ _ hblk2
  have hblk3 := heap_setCell_same w2 p 1 _ _ (.slice a3 m c3) hblk2
  have own3 : (w2.setCell ⟨p, 1, none⟩ (.slice a3 m c3)).ownsRow lo 5 1 (.slice a3 m c3) (l ++ s.data.toList).length (cb (l ++ s.data.toList)) := by
    have := ownsRow_setCell_below own2 (a := ⟨p, 1, none⟩) (by simpa using hp) (.slice a3 m c3)
    rw [cb_append, hme]
    exact this
  have hF3 : Fr p lo w (w2.setCell ⟨p, 1, none⟩ (.slice a3 m c3)) :=
    hF.trans ⟨rfl, rfl, rfl, by simp, fun k _ hk _ => heap_setCell_other w2 ⟨p, 1, none⟩ k _ (by simpa using hk)⟩
  have HE : Hid (putEnd (l.length + s.size) = putEnd m) := by unfold Hid; rw [hm]
  clear hgrow hF c1 hown own2 hm hme
  by_cases hb : m ≤ 400
  · go_wp2
    go_end0
    exact ⟨hF3, by rw [HE.out, putEnd_ok hb], _, hblk3, own3⟩
  · go_wp2
    exact ⟨rfl, hF3, by rw [HE.out, putEnd_no hb]; rfl, _, hblk3, own3⟩
end Go.Proofs.YtnhepegkjejfcaaDoor

/-
  The contract of the library function strconv.Itoa at this program, by one application. The table of powers of ten reads as it is laid.
-/
namespace Go.Proofs
open Go.Shelf
def Tryd.laysM171_ren : Go.Shelf.Ren := ⟨fun | 171 => 58 | 243 => 63 | 246 => 66 | 283 => 67 | 284 => 68 | 285 => 69 | 286 => 70 | 129 => 72 | 317 => 71 | 318 => 73 | 319 => 74 | 320 => 75 | 337 => 76 | 338 => 77 | n => n, fun | 3 => 3 | 9 => 9 | 2 => 2 | 4 => 4 | 171 => 101 | 0 => 0 | 53 => 102 | 37 => 22 | 5 => 5 | 173 => 105 | 212 => 109 | 51 => 110 | 20 => 20 | 213 => 111 | 46 => 98 | 232 => 114 | 233 => 115 | n => n, fun | 17 => 0 | 18 => 1 | 19 => 2 | n => n⟩
theorem Tryd.laysM171 : Go.Proofs.LaysM.n171 Tryd.prog Tryd.laysM171_ren := {
  mixed := by kernel_rfl
  f129 := Tryd.func72.trans (congrArg some (by kernel_rfl))
  f171 := Tryd.func58.trans (congrArg some (by kernel_rfl))
  f243 := Tryd.func63.trans (congrArg some (by kernel_rfl))
  f246 := Tryd.func66.trans (congrArg some (by kernel_rfl))
  f283 := Tryd.func67.trans (congrArg some (by kernel_rfl))
  f284 := Tryd.func68.trans (congrArg some (by kernel_rfl))
  f285 := Tryd.func69.trans (congrArg some (by kernel_rfl))
  f286 := Tryd.func70.trans (congrArg some (by kernel_rfl))
  f317 := Tryd.func71.trans (congrArg some (by kernel_rfl))
  f318 := Tryd.func73.trans (congrArg some (by kernel_rfl))
  f319 := Tryd.func74.trans (congrArg some (by kernel_rfl))
  f320 := Tryd.func75.trans (congrArg some (by kernel_rfl))
  f337 := Tryd.func76.trans (congrArg some (by kernel_rfl))
  f338 := Tryd.func77.trans (congrArg some (by kernel_rfl))
  t0 := Tryd.underlying0
  a0 := Tryd.isAgg0
  z0 := Tryd.sizeOf0
  v0 := Tryd.zeroValue0
  t2 := Tryd.underlying2
  a2 := Tryd.isAgg2
  z2 := Tryd.sizeOf2
  v2 := Tryd.zeroValue2
  t3 := Tryd.underlying3
  a3 := Tryd.isAgg3
  z3 := Tryd.sizeOf3
  v3 := Tryd.zeroValue3
  t4 := Tryd.underlying4
  a4 := Tryd.isAgg4
  z4 := Tryd.sizeOf4
  v4 := Tryd.zeroValue4
  t5 := Tryd.underlying5
  a5 := Tryd.isAgg5
  z5 := Tryd.sizeOf5
  v5 := Tryd.zeroValue5
  t9 := Tryd.underlying9
  a9 := Tryd.isAgg9
  z9 := Tryd.sizeOf9
  v9 := Tryd.zeroValue9
  t20 := Tryd.underlying20
  a20 := Tryd.isAgg20
  z20 := Tryd.sizeOf20
  v20 := Tryd.zeroValue20
  t37 := Tryd.underlying22
  a37 := Tryd.isAgg22
  z37 := Tryd.sizeOf22
  v37 := Tryd.zeroValue22
  t46 := Tryd.underlying98
  a46 := Tryd.isAgg98
  z46 := Tryd.sizeOf98
  v46 := Tryd.zeroValue98
  t51 := Tryd.underlying110
  a51 := Tryd.isAgg110
  z51 := Tryd.sizeOf110
  v51 := Tryd.zeroValue110
  t53 := Tryd.underlying102
  a53 := Tryd.isAgg102
  z53 := Tryd.sizeOf102
  v53 := Tryd.zeroValue102
  t171 := Tryd.underlying101
  a171 := Tryd.isAgg101
  z171 := Tryd.sizeOf101
  v171 := Tryd.zeroValue101
  t173 := Tryd.underlying105
  a173 := Tryd.isAgg105
  z173 := Tryd.sizeOf105
  v173 := Tryd.zeroValue105
  t212 := Tryd.underlying109
  a212 := Tryd.isAgg109
  z212 := Tryd.sizeOf109
  v212 := Tryd.zeroValue109
  t213 := Tryd.underlying111
  a213 := Tryd.isAgg111
  z213 := Tryd.sizeOf111
  t232 := Tryd.underlying114
  a232 := Tryd.isAgg114
  z232 := Tryd.sizeOf114
  v232 := Tryd.zeroValue114
  t233 := Tryd.underlying115
  a233 := Tryd.isAgg115
  z233 := Tryd.sizeOf115
  v233 := Tryd.zeroValue115
  g17 := by kernel_rfl
  g18 := by kernel_rfl
  g19 := by kernel_rfl
  i0 := by kernel_rfl
  i2 := by kernel_rfl
  i3 := by kernel_rfl
  i4 := by kernel_rfl
  i5 := by kernel_rfl
  i9 := by kernel_rfl
  i20 := by kernel_rfl
  i37 := by kernel_rfl
  i46 := by kernel_rfl
  i51 := by kernel_rfl
  i53 := by kernel_rfl
  i171 := by kernel_rfl
  i173 := by kernel_rfl
  i212 := by kernel_rfl
  i232 := by kernel_rfl
  i233 := by kernel_rfl
  m17 := by kernel_rfl
  m18 := by kernel_rfl
  m19 := by kernel_rfl }
open Go.RowKit Go.Sort Go.Lib in
theorem Tryd.strconv_Itoa (n : Int) (h0 : -9223372036854775808 ≤ n) (h1 : n ≤ 9223372036854775807) (w : World) (htab : Lib.TabIs Tryd.prog w "internal/strconv.uint64pow10" .u64 Lib.pow10Tab) :
    Calls Tryd.prog 58 #[.int .i64 n] w fun e w' => e = .returned (.string ⟨(Lib.itoa n).toArray⟩) ∧ ∃ k os, w' = grow (w.drewN k) os := Any.strconv_Itoa Tryd.laysM171 n h0 h1 w htab
end Go.Proofs
