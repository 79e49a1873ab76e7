/-
  The contract of impl.Read. The table of powers of ten and the two error variables are there.
-/
import Derived.Test.YtmgjefkelohocaaDoorDWriteM
import Derived.Test.YtmgjefkelohocaaDoorLPoolOkM
import Derived.Defers
import Derived.Recover
namespace Go.Proofs.YtmgjefkelohocaaDoor
open Go.RowKit

theorem results_read {fn : Func} {u0 u1 u2 u3 : Tmp} {q : Nat} {v a b c d : Value} (h : fn.results = #[.cell u0 26, .cell u1 34, .cell u2 3, .cell u3 3]) (tmps : Array Value) (w : World) (X : RBox q w v a b c d)
    (h0 : tmps.getD u0 undef = .pointer (some ⟨q + 1, 0, none⟩)) (h1 : tmps.getD u1 undef = .pointer (some ⟨q + 1 + 1, 0, none⟩)) (h2 : tmps.getD u2 undef = .pointer (some ⟨q + 1 + 1 + 1, 0, none⟩)) (h3 : tmps.getD u3 undef = .pointer (some ⟨q + 1 + 1 + 1 + 1, 0, none⟩)) :
    (results fn tmps).run Tryd.prog w = .ok (.tuple #[.agg #[a], b, c, d]) w := by
  obtain ⟨_, c1, c2, c3, c4, _⟩ := X.cells
  have h0' : tmps[u0]?.getD undef = .pointer (some ⟨q + 1, 0, none⟩) := by simpa using h0
  have h1' : tmps[u1]?.getD undef = .pointer (some ⟨q + 1 + 1, 0, none⟩) := by simpa using h1
  have h2' : tmps[u2]?.getD undef = .pointer (some ⟨q + 1 + 1 + 1, 0, none⟩) := by simpa using h2
  have h3' : tmps[u3]?.getD undef = .pointer (some ⟨q + 1 + 1 + 1 + 1, 0, none⟩) := by simpa using h3
  simp [results, h, h0', h1', h2', h3', asAddr, go_sem, c1, c2, c3, c4, Result.andThen]

/-- What impl.Read's deferred closure does where a mistake is panicking (it stands in a text of its own). -/
def CatchR : Prop := ∀ (q : Nat) (xs : List Nd) (v a b c d : Value) (h p : Int) (older : List PanicEntry) (w : World), RBox q w v a b c d → NRow w v xs → xs.length ≤ 1048576 →
    CallsD Tryd.prog 44 #[.pointer (some ⟨q, 0, none⟩), .pointer (some ⟨q + 1, 0, none⟩), .pointer (some ⟨q + 1 + 1, 0, none⟩), .pointer (some ⟨q + 1 + 1 + 1, 0, none⟩), .pointer (some ⟨q + 1 + 1 + 1 + 1, 0, none⟩)] (.panicking ({ v := .iface 76 (.agg #[.int .i64 h, .int .i64 p]), recovered := false } :: older)) w fun e u' w' => e = .returned (.tuple #[]) ∧ u' = .panicking ({ v := .iface 76 (.agg #[.int .i64 h, .int .i64 p]), recovered := true } :: older) ∧
      ∃ v' vl, RBox q w' v v' vl (.int .i64 h) (.int .i64 p) ∧ w'.ownsRow w.heap.size 55 5 v' xs.length (ncs xs) ∧ w'.ownsRow w.heap.size 3 1 vl 0 [] ∧ Below q w w'

/-- A region that does not panic: what is asked behind a panic does not matter. -/
def onlyNormal (Q : Exit → Act → World → Prop) : Exit → Act → World → Prop
  | .normal, a, w => Q .normal a w
  | _, _, _ => False
theorem wp_normal {P : Program} {c : Code} {Q : Exit → Act → World → Prop} {a : Act} {w : World} (h : c.wp P (onlyNormal Q) a w) : c.wp P Q a w := by
  intro b k cs
  obtain ⟨e, a', w', q, r⟩ := h b k cs
  refine ⟨e, a', w', ?_, r⟩
  cases e <;> first | exact q | exact q.elim
theorem readE_lo {xs : List Nd} {t : ByteArray} {s : RS} (h : readE xs t = .ok s) : s.lo = [] := by
  unfold readE at h
  split at h
  · cases hr : rd t 0 0 ⟨xs, [], 0, []⟩ with
    | bad a b => rw [hr] at h; cases h
    | ok s1 =>
      rw [hr] at h
      simp only [RdR.andThen] at h
      split at h
      · split at h
        · cases h; assumption
        · cases h
      · cases h
  · cases h
theorem pool_field (x : Value) (w : World) : (Instr.field 26 (.agg #[x]) 0).run Tryd.prog w = .ok x w := by
  simp [Instr.field, run_underlying Tryd.underlying26, asAgg, go_sem, Result.andThen]

set_option maxRecDepth 100000 in
set_option maxHeartbeats 3200000 in
theorem iread_any (hC : CatchR) (v : Value) (xs : List Nd) (t : ByteArray) (w : World) (R : NRow w v xs) (ht : t.size ≤ maxLen) (hT : Pow w.heap.size w) (hE : Errs w.heap.size w) :
    Calls Tryd.prog 15 #[.agg #[v], .string t] w fun e w' => ReadAns w (readR xs t) e w' := by
  have hmf : ∀ (fn : Fn) (first cap : Array Value) (w : World), (Instr.makeFunc fn first cap).run Tryd.prog w = .ok (.func fn first cap) w := fun _ _ _ _ => rfl
  have R' := R
  obtain ⟨ao, cap, rfl, hcap, hm, hz, _⟩ := R'
  obtain ⟨W0, hW0⟩ : ∃ W0, Hid ((((((w.alloc (Obj.cells #[.slice ao xs.length cap] 26)).alloc (Obj.cells #[.slice none 0 0] 26)).alloc (Obj.cells #[.slice none 0 0] 34)).alloc (Obj.cells #[.int .i64 0] 3)).alloc (Obj.cells #[.int .i64 0] 3)) = W0) := ⟨_, rfl⟩
  have X0 : RBox w.heap.size W0 (.slice ao xs.length cap) (.slice none 0 0) (.slice none 0 0) (.int .i64 0) (.int .i64 0) := by
    rw [← hW0.out]
    have a1 : ∀ (u : World) (o : Obj) (j : Nat), j < u.heap.size → (u.alloc o).heap[j]? = u.heap[j]? := fun u o j h => heap_alloc_old u o h
    have s1 : ∀ (u : World) (o : Obj), (u.alloc o).heap.size = u.heap.size + 1 := fun u o => by simp
    have n1 : ∀ (u : World) (o : Obj) (j : Nat), j = u.heap.size → (u.alloc o).heap[j]? = some o := fun u o j h => by subst h; exact heap_alloc_new u o
    refine ⟨?_, ?_, ?_, ?_, ?_⟩
    · rw [a1 _ _ _ (by simp only [s1]; omega), a1 _ _ _ (by simp only [s1]; omega), a1 _ _ _ (by simp only [s1]; omega), a1 _ _ _ (by simp only [s1]; omega)]
      exact n1 _ _ _ rfl
    · rw [a1 _ _ _ (by simp only [s1]; omega), a1 _ _ _ (by simp only [s1]; omega), a1 _ _ _ (by simp only [s1]; omega)]
      exact n1 _ _ _ (by simp only [s1])
    · rw [a1 _ _ _ (by simp only [s1]; omega), a1 _ _ _ (by simp only [s1]; omega)]
      exact n1 _ _ _ (by simp only [s1])
    · rw [a1 _ _ _ (by simp only [s1]; omega)]
      exact n1 _ _ _ (by simp only [s1])
    · exact n1 _ _ _ (by simp only [s1])
  have hB0 : Below w.heap.size w W0 := by
    rw [← hW0.out]
    exact (((((Below.refl _ _).alloc (Nat.le_refl _) _).alloc (by simp) _).alloc (by simp; omega) _).alloc (by simp; omega) _).alloc (by simp; omega) _
  have hs0 : W0.heap.size = w.heap.size + 5 := by rw [← hW0.out]; simp
  go_enter_defers Tryd.func15, Tryd.ntmps15
  go_wp2_with fail
  rw [hW0.out]
  refine (ipool_any _ xs _ (R.below hB0)).mono ?_
  rintro e w1 ⟨rfl, hb1⟩
  have X1 := X0.on (hb1.mono (by omega))
  have hB1 := hB0.trans (hb1.mono hB0.size)
  have hs1 := hb1.size
  clear hb1 X0 hB0 hW0
  obtain ⟨c0, c1, c2, c3, c4, f1, f2, f3, f4⟩ := X1.cells
  cases hp : poolB xs with
  | false =>
    have HR : Hid (readR xs t = ([], [], 6, 0)) := by unfold Hid readR; rw [if_neg (by rw [hp]; decide)]
    have XA := X1.on (((Below.refl w1.heap.size w1).alloc (Nat.le_refl _) (Obj.cells #[] 3)).mono (by omega))
    obtain ⟨g0, g1, g2, g3, g4, k1, k2, k3, k4⟩ := XA.cells
    have Y1 := XA.set1 (.slice none 0 0)
    obtain ⟨_, _, y2, _, _, _, z2, _, _⟩ := Y1.cells
    have Y2 := Y1.set2 (.slice (some ⟨w1.heap.size, 0, none⟩) 0 0)
    obtain ⟨_, _, _, y3, _, _, _, z3, _⟩ := Y2.cells
    have Y3 := Y2.set3 (.int .i64 6)
    obtain ⟨_, _, _, _, y4, _, _, _, z4⟩ := Y3.cells
    have Y4 := Y3.set4 (.int .i64 0)
    clear c1 c2 c3 c4 f1 f2 f3 f4 g2 g3 g4 k2 k3 k4
    have oL : (w1.alloc (Obj.cells #[] 3)).ownsRow w1.heap.size 3 1 (.slice (some ⟨w1.heap.size, 0, none⟩) 0 0) 0 [] := ⟨rfl, .inr ⟨w1.heap.size, 0, #[], rfl, Nat.le_refl _, heap_alloc_new w1 _, Nat.le_refl _, by unfold maxLen; omega, rfl, rfl⟩⟩
    have sB : ∀ {u : World} {e : TypeId} {m k : Nat} {x : Value} {ys : List Value} (i : Nat) (z : Value), i < w1.heap.size → u.ownsRow w1.heap.size e m x k ys → (u.setCell ⟨i, 0, none⟩ z).ownsRow w1.heap.size e m x k ys := fun i z hi h => ownsRow_setCell_below h (a := ⟨i, 0, none⟩) hi z
    have oL4 := sB (w.heap.size + 1 + 1 + 1 + 1) (.int .i64 0) (by omega) (sB (w.heap.size + 1 + 1 + 1) (.int .i64 6) (by omega) (sB (w.heap.size + 1 + 1) (.slice (some ⟨w1.heap.size, 0, none⟩) 0 0) (by omega) (sB (w.heap.size + 1) (.slice none 0 0) (by omega) oL)))
    have hb4 := ((((hB1.alloc hB1.size (Obj.cells #[] 3)).setCell (p := ⟨w.heap.size + 1, 0, none⟩) (by simp) (.slice none 0 0)).setCell (p := ⟨w.heap.size + 1 + 1, 0, none⟩) (by simp; omega) (.slice (some ⟨w1.heap.size, 0, none⟩) 0 0)).setCell (p := ⟨w.heap.size + 1 + 1 + 1, 0, none⟩) (by simp; omega) (.int .i64 6)).setCell (p := ⟨w.heap.size + 1 + 1 + 1 + 1, 0, none⟩) (by simp; omega) (.int .i64 0)
    obtain ⟨_, x1, x2, x3, x4, _⟩ := Y4.cells
    go_wp2_with fail
    simp [bodyPostD, Leaves, results, Tryd.results15, go_sem, x1, x2, x3, x4, Result.andThen]
    rw [HR.out]
    exact ⟨_, _, rfl, ⟨rfl, .inl ⟨rfl, rfl⟩⟩, own_mono oL4 (by omega), hb4⟩
  | true =>
    have hlen : xs.length ≤ 3000 := by simp only [poolB, Bool.and_eq_true, decide_eq_true_eq] at hp; exact hp.1
    go_wp2_with fail
    refine (with_any _ _ xs [] _ (R.below hB1) (NRow.nil0 _) (by simp; omega)).mono ?_
    rintro e w2 ⟨v2, rfl, ho2, hb2⟩
    rw [List.append_nil] at ho2
    obtain ⟨ao2, cap2, rfl⟩ := own_form ho2
    have X2 := X1.on (hb2.mono (by omega))
    have hB2 := hB1.trans (hb2.mono hB1.size)
    have hs2 := hb2.size
    have hfld := pool_field
    have hB4 : Below w2.heap.size w2 (((w2.alloc (Obj.cells #[] 3)).alloc (Obj.cells #[.int .i64 0, .slice (some ⟨w2.heap.size, 0, none⟩) 0 0] 81)).alloc (Obj.cells #[.slice ao2 xs.length cap2, .slice (some ⟨w2.heap.size + 1, 0, none⟩) 1 1] 84)) := (((Below.refl _ _).alloc (Nat.le_refl _) _).alloc (by simp) _).alloc (by simp; omega) _
    have D : RdOk (w.heap.size + 5) (w2.heap.size + 1 + 1) (((w2.alloc (Obj.cells #[] 3)).alloc (Obj.cells #[.int .i64 0, .slice (some ⟨w2.heap.size, 0, none⟩) 0 0] 81)).alloc (Obj.cells #[.slice ao2 xs.length cap2, .slice (some ⟨w2.heap.size + 1, 0, none⟩) 1 1] 84)) ⟨xs, [], 0, []⟩ := by
      refine ⟨.slice ao2 xs.length cap2, .slice (some ⟨w2.heap.size + 1, 0, none⟩) 1 1, [], .slice (some ⟨w2.heap.size, 0, none⟩) 0 0, ⟨?_, ?_, ⟨?_, ?_, List.pairwise_singleton _ _⟩, rfl, by omega⟩⟩
      · have := heap_alloc_new ((w2.alloc (Obj.cells #[] 3)).alloc (Obj.cells #[.int .i64 0, .slice (some ⟨w2.heap.size, 0, none⟩) 0 0] 81)) (Obj.cells #[.slice ao2 xs.length cap2, .slice (some ⟨w2.heap.size + 1, 0, none⟩) 1 1] 84)
        simpa using this
      · exact own_below (own_mono ho2 (by omega)) hB4
      · refine ⟨rfl, .inr ⟨w2.heap.size + 1, 1, #[.int .i64 0, .slice (some ⟨w2.heap.size, 0, none⟩) 0 0], rfl, by omega, ?_, Nat.le_refl _, by unfold maxLen; omega, rfl, rfl⟩⟩
        exact (heap_alloc_old _ _ (by simp)).trans (heap_alloc2_new _ _ _)
      · intro e he
        rw [List.nil_append, List.mem_singleton] at he
        subst he
        refine ⟨rfl, .inr ⟨w2.heap.size, 0, #[], rfl, by omega, ?_, Nat.le_refl _, by unfold maxLen; omega, rfl, rfl⟩⟩
        exact (heap_alloc_old _ _ (by simp; omega)).trans ((heap_alloc_old _ _ (by simp)).trans (heap_alloc_new _ _))
    have X4 := X2.on (hB4.mono (by omega))
    have hBB4 := hB2.trans (hB4.mono hB2.size)
    have hs4 := hB4.size
    clear hB4 c0 c1 c2 c3 c4 f1 f2 f3 f4 X1 hB1 ho2
    obtain ⟨c0, _⟩ := X2.cells
    go_wp2_with fail
    refine (rread_any (w.heap.size + 5) (w2.heap.size + 1 + 1) w.heap.size xs t _ D hlen hz (by omega) (by omega) (hT.on hBB4) (hE.on hBB4) ht).mono ?_
    rintro e w5 ⟨he, hb5, D5⟩
    have X5 := X4.on hb5
    have hBB5 := hBB4.trans (hb5.mono (by omega))
    have hs5 := hb5.size
    clear X4 X2 D hB2 hBB4 hb2
    cases hr : readE xs t with
    | bad h p =>
      have he2 : e = .panicked (oops h p) := by rw [he, hr]; rfl
      have HR : Hid (readR xs t = (xs, [], h, p)) := by unfold Hid; rw [readR_of t hp, hr]
      subst he2
      refine leaves_cons (f := 44) (args := #[.pointer (some ⟨w.heap.size, 0, none⟩), .pointer (some ⟨w.heap.size + 1, 0, none⟩), .pointer (some ⟨w.heap.size + 1 + 1, 0, none⟩), .pointer (some ⟨w.heap.size + 1 + 1 + 1, 0, none⟩), .pointer (some ⟨w.heap.size + 1 + 1 + 1 + 1, 0, none⟩)]) (by simp) (by simp [go_sem]) ?_
      refine (hC w.heap.size xs _ _ _ _ _ h p [] _ X5 (R.below hBB5) (by omega)).mono ?_
      rintro e u' w6 ⟨rfl, rfl, v6, vl6, X6, oV, oL, hb6⟩
      obtain ⟨_, x1, x2, x3, x4, _⟩ := X6.cells
      simp [Leaves, settle, results, Tryd.results15, go_sem, x1, x2, x3, x4, Result.andThen]
      rw [HR.out]
      exact ⟨v6, vl6, rfl, own_mono oV (by omega), own_mono oL (by omega), hBB5.trans hb6⟩
    | ok s =>
      have he2 : e = .returned (.tuple #[]) := by rw [he, hr]; rfl
      have HR : Hid (readR xs t = (s.ns, s.vs, 0, (t.size : Int))) := by unfold Hid; rw [readR_of t hp, hr]
      subst he2
      have hslo := readE_lo hr
      obtain ⟨vn, vl, st, lv, blk, nod, stk, lo, le⟩ := D5 s hr
      have hst0 : st = [] := List.map_eq_nil_iff.1 (lo.out.trans hslo)
      subst hst0
      obtain ⟨an, cn, rfl⟩ := own_form nod
      obtain ⟨g, capo, hoe, hgb, hgl⟩ := stk.recs.form (by simp)
      subst hoe
      have oLv : w5.ownsRow (w.heap.size + 5) 3 1 lv s.vs.length (iv s.vs) := stk.own (s.a, lv, s.vs) (by simp)
      obtain ⟨aL, cL, rfl⟩ := own_form oLv
      have SR : w5.ownsRow (w.heap.size + 5) 81 2 (.slice (some ⟨g, 0, none⟩) 1 capo) 1 (stC [(s.a, .slice aL s.vs.length cL, s.vs)]) := stk.recs
      have p2 : w5.cell? ⟨g, 0 + 1, none⟩ = some (.slice aL s.vs.length cL) := (SR.cellAt 1 (by omega)).trans rfl
      have p2' : w5.cell? ⟨g, 1, none⟩ = some (.slice aL s.vs.length cL) := p2
      go_wp2_with fail
      obtain ⟨P, hP⟩ : ∃ P, Hid (w2.heap.size + 1 + 1 = P) := ⟨_, rfl⟩
      rw [hP.out] at blk ⊢
      have hPq : w.heap.size + 5 ≤ P := by have := hP.out; omega
      have p0 : w5.cell? ⟨P, 0, none⟩ = some (.slice an s.ns.length cn) := by rw [cell_of_row w5 _ 0 _ _ _ blk]; rfl
      have p1 : w5.cell? ⟨P, 0 + 1, none⟩ = some (.slice (some ⟨g, 0, none⟩) 1 capo) := by rw [cell_of_row w5 _ 1 _ _ _ blk]; rfl
      have p1' : w5.cell? ⟨P, 1, none⟩ = some (.slice (some ⟨g, 0, none⟩) 1 capo) := p1
      obtain ⟨_, y1, _, _, _, z1, _⟩ := X5.cells
      have Y1 := X5.set1 (.slice an s.ns.length cn)
      obtain ⟨_, _, y2, _, _, _, z2, _, _⟩ := Y1.cells
      have Y2 := Y1.set2 (.slice aL s.vs.length cL)
      obtain ⟨_, _, _, y3, _, _, _, z3, _⟩ := Y2.cells
      have Y3 := Y2.set3 (.int .i64 0)
      obtain ⟨_, _, _, _, y4, _, _, _, z4⟩ := Y3.cells
      have Y4 := Y3.set4 (.int .i64 t.size)
      have j1 : ¬ P = w.heap.size + 1 := by omega
      have j2 : ¬ w.heap.size + 1 = P := by omega
      have j3 : ¬ P = w.heap.size + 2 := by omega
      have j4 : ¬ w.heap.size + 2 = P := by omega
      have j5 : ¬ P = w.heap.size + 3 := by omega
      have j6 : ¬ w.heap.size + 3 = P := by omega
      have j7 : ¬ P = w.heap.size + 4 := by omega
      have j8 : ¬ w.heap.size + 4 = P := by omega
      have j9 : ¬ P = w.heap.size + 1 + 1 := by omega
      have j10 : ¬ w.heap.size + 1 + 1 = P := by omega
      have j11 : ¬ P = w.heap.size + 1 + 1 + 1 := by omega
      have j12 : ¬ w.heap.size + 1 + 1 + 1 = P := by omega
      have j13 : ¬ P = w.heap.size + 1 + 1 + 1 + 1 := by omega
      have j14 : ¬ w.heap.size + 1 + 1 + 1 + 1 = P := by omega
      have j15 : ¬ g = w.heap.size + 1 := by omega
      have j16 : ¬ w.heap.size + 1 = g := by omega
      have j17 : ¬ g = w.heap.size + 2 := by omega
      have j18 : ¬ w.heap.size + 2 = g := by omega
      have j19 : ¬ g = w.heap.size + 3 := by omega
      have j20 : ¬ w.heap.size + 3 = g := by omega
      have j21 : ¬ g = w.heap.size + 4 := by omega
      have j22 : ¬ w.heap.size + 4 = g := by omega
      have j23 : ¬ g = w.heap.size + 1 + 1 := by omega
      have j24 : ¬ w.heap.size + 1 + 1 = g := by omega
      have j25 : ¬ g = w.heap.size + 1 + 1 + 1 := by omega
      have j26 : ¬ w.heap.size + 1 + 1 + 1 = g := by omega
      have j27 : ¬ g = w.heap.size + 1 + 1 + 1 + 1 := by omega
      have j28 : ¬ w.heap.size + 1 + 1 + 1 + 1 = g := by omega
      have sB : ∀ {u : World} {e : TypeId} {m k : Nat} {x : Value} {ys : List Value} (i : Nat) (z : Value), i < w.heap.size + 5 → u.ownsRow (w.heap.size + 5) e m x k ys → (u.setCell ⟨i, 0, none⟩ z).ownsRow (w.heap.size + 5) e m x k ys := fun i z hi h => ownsRow_setCell_below h (a := ⟨i, 0, none⟩) hi z
      have oV4 := sB (w.heap.size + 1 + 1 + 1 + 1) (.int .i64 t.size) (by omega) (sB (w.heap.size + 1 + 1 + 1) (.int .i64 0) (by omega) (sB (w.heap.size + 1 + 1) (.slice aL s.vs.length cL) (by omega) (sB (w.heap.size + 1) (.slice an s.ns.length cn) (by omega) nod)))
      have oL4 := sB (w.heap.size + 1 + 1 + 1 + 1) (.int .i64 t.size) (by omega) (sB (w.heap.size + 1 + 1 + 1) (.int .i64 0) (by omega) (sB (w.heap.size + 1 + 1) (.slice aL s.vs.length cL) (by omega) (sB (w.heap.size + 1) (.slice an s.ns.length cn) (by omega) oLv)))
      have hb4 := (((hBB5.setCell (p := ⟨w.heap.size + 1, 0, none⟩) (by simp) (.slice an s.ns.length cn)).setCell (p := ⟨w.heap.size + 1 + 1, 0, none⟩) (by simp; omega) (.slice aL s.vs.length cL)).setCell (p := ⟨w.heap.size + 1 + 1 + 1, 0, none⟩) (by simp; omega) (.int .i64 0)).setCell (p := ⟨w.heap.size + 1 + 1 + 1 + 1, 0, none⟩) (by simp; omega) (.int .i64 t.size)
      clear SR stk X5 Y1 Y2 Y3 D5 nod oLv blk
      refine wp_normal ?_
      go_region_held (fun w' => w'.cell? ⟨P, 0, none⟩ = some (.slice an s.ns.length cn) ∧ w'.cell? ⟨P, 1, none⟩ = some (.slice (some ⟨g, 0, none⟩) 1 capo) ∧ w'.cell? ⟨g, 1, none⟩ = some (.slice aL s.vs.length cL)) (go_keep) (fail)
      all_goals
        unfold onlyNormal
        generalize (((w5.setCell ⟨w.heap.size + 1, 0, none⟩ (.slice an s.ns.length cn)).setCell ⟨w.heap.size + 1 + 1, 0, none⟩ (.slice aL s.vs.length cL)).setCell ⟨w.heap.size + 1 + 1 + 1, 0, none⟩ (.int .i64 0)).setCell ⟨w.heap.size + 1 + 1 + 1 + 1, 0, none⟩ (.int .i64 t.size) = F at Y4 oV4 oL4 hb4 ⊢
        have hFl := Y4.lt
        go_wp2_with fail
        refine leaves_cons (f := 44) (args := #[.pointer (some ⟨w.heap.size, 0, none⟩), .pointer (some ⟨w.heap.size + 1, 0, none⟩), .pointer (some ⟨w.heap.size + 1 + 1, 0, none⟩), .pointer (some ⟨w.heap.size + 1 + 1 + 1, 0, none⟩), .pointer (some ⟨w.heap.size + 1 + 1 + 1 + 1, 0, none⟩)]) (by simp) (by simp [go_sem]) ?_
        refine (catchr_idle ⟨w.heap.size, 0, none⟩ ⟨w.heap.size + 1, 0, none⟩ ⟨w.heap.size + 1 + 1, 0, none⟩ ⟨w.heap.size + 1 + 1 + 1, 0, none⟩ ⟨w.heap.size + 1 + 1 + 1 + 1, 0, none⟩ _).mono ?_
        rintro e u' w7 ⟨rfl, rfl, hb7⟩
        have hbF : Below F.heap.size F w7 := by first | exact hb7 | exact (Below.refl _ _).drew.trans hb7
        have X7 := Y4.on (hbF.mono (by omega))
        obtain ⟨_, x1, x2, x3, x4, _⟩ := X7.cells
        simp [Leaves, settle, results, Tryd.results15, go_sem, x1, x2, x3, x4, Result.andThen]
        rw [HR.out]
        exact ⟨_, _, rfl, own_mono (own_below oV4 hbF) (by omega), own_mono (own_below oL4 hbF) (by omega), hb4.trans (hbF.mono hb4.size)⟩
end Go.Proofs.YtmgjefkelohocaaDoor
