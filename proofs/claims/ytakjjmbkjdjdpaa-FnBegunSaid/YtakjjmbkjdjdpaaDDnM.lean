/-
  Texts that stood by themselves, laid into one.
-/
import Derived.Test.YtakjjmbkjdjdpaaDDrM
import Derived.Test.YtakjjmbkjdjdpaaDDdM
import Derived.Test.YtakjjmbkjdjdpaaDraw10M
/-
  The contract of spec.l4Draw: some code, in rows of the call's own; nothing else is turned but the cursor. No condition.
-/
namespace Go.Proofs.Ytakjjmbkjdjdpaa
open Go.RowKit

/-- How much drawn code has. -/
structure Sz3 (ns : List Nd) (is : List In) (ds : List Df) : Prop where
  l1 : ns.length ≤ 3001
  l2 : is.length ≤ 400
  l3 : ds.length ≤ 21
  z1 : ∀ x ∈ ns, x.s.size ≤ maxLen
  z2 : ∀ x ∈ is, x.s.size ≤ maxLen
  z3 : ∀ x ∈ ds, x.s.size ≤ maxLen
  ne : is ≠ []
theorem Sz3.set {ns : List Nd} {is : List In} {ds : List Df} (h : Sz3 ns is ds) (i : Nat) (y : In) (hy : y.s.size ≤ maxLen ∨ is[i]?.map (·.s) = some y.s) : Sz3 ns (is.set i y) ds := by
  refine ⟨h.l1, by rw [List.length_set]; exact h.l2, h.l3, h.z1, ?_, h.z3, fun e => h.ne (by have := congrArg List.length e; simp at this; exact this)⟩
  intro x hx
  rcases List.mem_or_eq_of_mem_set hx with hx | rfl
  · exact h.z2 x hx
  · rcases hy with hy | hy
    · exact hy
    · cases hq : is[i]? with
      | none => rw [hq] at hy; cases hy
      | some z =>
        rw [hq] at hy
        have e : z.s = x.s := by simpa using hy
        rw [← e]
        exact h.z2 z (List.mem_of_getElem? hq)
theorem empty_sz {s : ByteArray} (h : (s.toList == []) = true) : s.size ≤ 12 := by
  have e : s.toList = [] := by simpa using h
  rw [ByteArray.toList_eq] at e
  have := congrArg List.length e
  rw [Array.length_toList] at this
  have h0 : s.size = 0 := this
  omega
theorem nameB_sz {s : ByteArray} (h : nameB s = true) : s.size ≤ 12 := by
  simp only [nameB, Bool.and_eq_true, decide_eq_true_eq] at h
  exact h.1.2
theorem instrB_sz {x : In} {i : Int} {n1 n2 : Nat} (h : instrB x i n1 n2 = true) : x.s.size ≤ 12 := by
  unfold instrB at h
  repeat' split at h
  all_goals try simp only [litB, varB, globalB, wayB, funB, callB, bareB, Bool.and_eq_true] at h
  · exact empty_sz h.1.1.2
  · exact empty_sz h.1.1.1.1
  · exact nameB_sz h.2
  · exact empty_sz h.1.1.2
  · exact empty_sz h.1.1.2
  · exact empty_sz h.1.1.1.1
  · exact empty_sz h.1.1.2
  · exact empty_sz h.2
  · exact empty_sz h.2
  · cases h
theorem insB_sz : ∀ (is : List In) (i n1 n2 : Nat), insB is i n1 n2 = true → ∀ x ∈ is, x.s.size ≤ 12
  | [], _, _, _, _, x, hx => by cases hx
  | y :: is, i, n1, n2, h, x, hx => by
    simp only [insB, Bool.and_eq_true] at h
    rcases List.mem_cons.1 hx with rfl | hx
    · exact instrB_sz h.1
    · exact insB_sz is (i + 1) n1 n2 h.2 x hx
theorem dfsB_sz : ∀ (all ds : List Df) (n2 i : Nat), dfsB all n2 ds i = true → ∀ x ∈ ds, x.s.size ≤ 12
  | _, [], _, _, _, x, hx => by cases hx
  | all, y :: ds, n2, i, h, x, hx => by
    simp only [dfsB, Bool.and_eq_true] at h
    rcases List.mem_cons.1 hx with rfl | hx
    · simp only [dfB, Bool.and_eq_true] at h
      exact nameB_sz h.1.1.1.1
    · exact dfsB_sz all ds n2 (i + 1) h.2 x hx
theorem codeB_sz {ns : List Nd} {is : List In} {ds : List Df} (h : codeB ns is ds = true) (hn : is ≠ []) : Sz3 ns is ds ∧ ds.length ≤ 20 := by
  simp only [codeB, Bool.and_eq_true, decide_eq_true_eq] at h
  obtain ⟨⟨hp, h2, h3⟩, h4, h5⟩ := h
  have := poolB_len hp
  have hm : ∀ n : Nat, n ≤ 12 → n ≤ maxLen := fun n h => by unfold maxLen; omega
  exact ⟨⟨by omega, h2, by omega, poolB_sz hp, fun x hx => hm _ (insB_sz is 0 _ _ h3 x hx), fun x hx => hm _ (dfsB_sz ds ds _ 0 h5 x hx), hn⟩, h4⟩

set_option maxRecDepth 100000 in
set_option maxHeartbeats 6400000 in
theorem d4draw_any (w0 : World) (v : Value) (zs : List Int) (P : Nat) (w : World) (c : Cur w0 v zs w P) :
    Calls Try.prog 14 #[.pointer (some ⟨P, 0, none⟩)] w fun e w' => ∃ v1 v2 v3 ns is ds, e = .returned (.agg #[v1, v2, v3]) ∧ Sz3 ns is ds ∧ Own3 w' w.heap.size v1 v2 v3 ns is ds ∧ Cur w0 v zs w' P ∧ w.grownBy w' (some P) := by
  have hP := c.lt
  have hB0 : Below w.heap.size w (w.alloc (Obj.cells #[.slice none 0 0, .slice none 0 0, .slice none 0 0] 30)) := (Below.refl _ _).alloc (Nat.le_refl _) _
  have c0 := c.kept (hB0.mono (show P + 1 ≤ w.heap.size by omega))
  have hr0 := heap_alloc_new w (Obj.cells #[.slice none 0 0, .slice none 0 0, .slice none 0 0] 30)
  have hsz : (w.alloc (Obj.cells #[.slice none 0 0, .slice none 0 0, .slice none 0 0] 30)).heap.size = w.heap.size + 1 := by simp
  go_enter Try.func14, Try.ntmps14
  go_wp2_with fail
  generalize w.alloc (Obj.cells #[.slice none 0 0, .slice none 0 0, .slice none 0 0] 30) = w1 at *
  refine (d4right_any w0 v zs P w1 c0).mono ?_
  rintro e w2 ⟨v1, v2, v3, ns, is, ds, rfl, hcb, hne, O2, c2, g2⟩
  obtain ⟨hS, hd20⟩ := codeB_sz hcb hne
  obtain ⟨a1, q1, rfl⟩ := own_form O2.1
  obtain ⟨gi, qi, rfl, _, _⟩ := O2.2.1.form (List.length_pos_iff.2 hne)
  obtain ⟨a3, q3, rfl⟩ := own_form O2.2.2
  have g12 : w.grownBy w2 (some P) := draw_step hB0 g2
  have hr2 := (g2.block _ (Array.getElem?_eq_some_iff.1 hr0).1 (by simp; omega)).trans hr0
  have hBx : Below w2.heap.size w2 (w2.alloc (Obj.cells #[.slice a1 ns.length q1, .slice (some ⟨gi, 0, none⟩) is.length qi, .slice a3 ds.length q3] 30)) := (Below.refl _ _).alloc (Nat.le_refl _) _
  obtain ⟨c3, g3⟩ := draw_done c2 g12 (hBx.mono g12.size) hP
  have hlt2 := (Array.getElem?_eq_some_iff.1 hr2).1
  have D : DX w0 v zs P w w2.heap.size (.slice a1 ns.length q1) (.slice (some ⟨gi, 0, none⟩) is.length qi) (.slice a3 ds.length q3) ns is ds (w2.alloc (Obj.cells #[.slice a1 ns.length q1, .slice (some ⟨gi, 0, none⟩) is.length qi, .slice a3 ds.length q3] 30)) :=
    ⟨(hBx.block _ hlt2).trans hr2, heap_alloc_new _ _, (O2.below hBx).mono (by omega), c3, g3, hP, hlt2⟩
  have k1 := D.cell1
  clear hB0 c0 hr0 hsz O2 c2 g2 g12 hr2 hBx c3 g3 hlt2 c
  go_wp2_with fail
  generalize w2.alloc (Obj.cells #[.slice a1 ns.length q1, .slice (some ⟨gi, 0, none⟩) is.length qi, .slice a3 ds.length q3] 30) = w3 at *
  generalize w2.heap.size = bx at *
  have hl2 := hS.l2
  refine (below_any w0 v zs _ P is.length D.cur (by omega)).mono ?_
  rintro e w4 ⟨i, rfl, hi0, hi1, c4, g4⟩
  obtain ⟨i, rfl⟩ := Int.eq_ofNat_of_zero_le hi0
  have hi : i < is.length := by
    have : 0 < is.length := List.length_pos_iff.2 hne
    have := hi1 (by omega)
    omega
  replace D := D.turn c4 g4
  clear k1 c4 g4 hi0 hi1
  go_wp2_with fail
  refine (below_any w0 v zs _ P 25 D.cur (by omega)).mono ?_
  rintro e w5 ⟨z, rfl, hz0, _, c5, g5⟩
  replace D := D.turn c5 g5
  clear c5 g5
  by_cases h0 : z = 0
  · subst h0
    go_wp2_with fail
    refine dd_reg5 w0 v zs P w bx _ _ gi qi ns is ds i w5 _ D hi ?_
    intro u16 u17 u18 u19 u20 u21 u22 y w6 hy D
    have hS6 := hS.set i y hy
    have hle : (is.set i y).length = is.length := by simp
    rw [hle] at D
    obtain ⟨y0, y1, y2, _, _, _⟩ := cells3 D.box
    obtain ⟨r0, r1, r2, z0, z1, z2⟩ := cells3 D.res
    obtain ⟨h8, O8, c8, g8⟩ := own3_put (u1 := .slice a1 ns.length q1) (u2 := .slice (some ⟨gi, 0, none⟩) is.length qi) (u3 := .slice a3 ds.length q3) D.res D.own D.cur D.grown hP (Nat.le_refl _)
    go_wp2_with fail
    exact bodyPost_ret (results_cell_row rfl _ _ w.heap.size 30 _ (0, 0) _ rfl h8 Try.underlying30 rfl Try.sizeC) rfl ⟨_, _, _, _, _, _, rfl, hS6, O8.mono (by omega), c8, g8⟩
  by_cases h1 : z = 1
  · subst h1
    go_wp2_with fail
    refine dd_reg7 w0 v zs P w bx _ _ gi qi ns is ds i w5 _ D hi (by omega) ?_
    intro u25 u26 u27 u28 u29 u30 u31 u32 u33 u34 u35 u36 u37 u38 u39 u40 u41 u42 y w6 hy D
    have hS6 := hS.set i y hy
    have hle : (is.set i y).length = is.length := by simp
    rw [hle] at D
    obtain ⟨y0, y1, y2, _, _, _⟩ := cells3 D.box
    obtain ⟨r0, r1, r2, z0, z1, z2⟩ := cells3 D.res
    obtain ⟨h8, O8, c8, g8⟩ := own3_put (u1 := .slice a1 ns.length q1) (u2 := .slice (some ⟨gi, 0, none⟩) is.length qi) (u3 := .slice a3 ds.length q3) D.res D.own D.cur D.grown hP (Nat.le_refl _)
    go_wp2_with fail
    exact bodyPost_ret (results_cell_row rfl _ _ w.heap.size 30 _ (0, 0) _ rfl h8 Try.underlying30 rfl Try.sizeC) rfl ⟨_, _, _, _, _, _, rfl, hS6, O8.mono (by omega), c8, g8⟩
  by_cases h2 : z = 2
  · subst h2
    go_wp2_with fail
    refine dd_reg9 w0 v zs P w bx _ _ gi qi ns is ds i w5 _ D hi ?_
    intro u45 u46 u47 u48 u49 u50 u51 u52 y w6 hy D
    have hS6 := hS.set i y hy
    have hle : (is.set i y).length = is.length := by simp
    rw [hle] at D
    obtain ⟨y0, y1, y2, _, _, _⟩ := cells3 D.box
    obtain ⟨r0, r1, r2, z0, z1, z2⟩ := cells3 D.res
    obtain ⟨h8, O8, c8, g8⟩ := own3_put (u1 := .slice a1 ns.length q1) (u2 := .slice (some ⟨gi, 0, none⟩) is.length qi) (u3 := .slice a3 ds.length q3) D.res D.own D.cur D.grown hP (Nat.le_refl _)
    go_wp2_with fail
    exact bodyPost_ret (results_cell_row rfl _ _ w.heap.size 30 _ (0, 0) _ rfl h8 Try.underlying30 rfl Try.sizeC) rfl ⟨_, _, _, _, _, _, rfl, hS6, O8.mono (by omega), c8, g8⟩
  by_cases h3 : z = 3
  · subst h3
    go_wp2_with fail
    refine dd_reg11 w0 v zs P w bx _ _ gi qi ns is ds i w5 _ D hi ?_
    intro u55 u56 u57 u58 u59 u60 u61 u62 y w6 hy D
    have hS6 := hS.set i y hy
    have hle : (is.set i y).length = is.length := by simp
    rw [hle] at D
    obtain ⟨y0, y1, y2, _, _, _⟩ := cells3 D.box
    obtain ⟨r0, r1, r2, z0, z1, z2⟩ := cells3 D.res
    obtain ⟨h8, O8, c8, g8⟩ := own3_put (u1 := .slice a1 ns.length q1) (u2 := .slice (some ⟨gi, 0, none⟩) is.length qi) (u3 := .slice a3 ds.length q3) D.res D.own D.cur D.grown hP (Nat.le_refl _)
    go_wp2_with fail
    exact bodyPost_ret (results_cell_row rfl _ _ w.heap.size 30 _ (0, 0) _ rfl h8 Try.underlying30 rfl Try.sizeC) rfl ⟨_, _, _, _, _, _, rfl, hS6, O8.mono (by omega), c8, g8⟩
  by_cases h4 : z = 4
  · subst h4
    go_wp2_with fail
    refine dd_reg13 w0 v zs P w bx _ _ a3 q3 ns is ds w5 _ D (by omega) ?_
    intro u65 u66 u67 u68 u69 u70 u71 u72 u73 u74 u75 u76 u77 v9 y w6 hy D
    have hS6 : Sz3 ns is (ds ++ [y]) := ⟨hS.l1, hS.l2, by simp; omega, hS.z1, hS.z2, fun x hx => by
      rcases List.mem_append.1 hx with hx | hx
      · exact hS.z3 x hx
      · rw [List.mem_singleton] at hx; subst hx; exact hy, hS.ne⟩
    obtain ⟨a9, q9, rfl⟩ := own_form D.own.2.2
    generalize ds ++ [y] = ds9 at *
    obtain ⟨y0, y1, y2, _, _, _⟩ := cells3 D.box
    obtain ⟨r0, r1, r2, z0, z1, z2⟩ := cells3 D.res
    obtain ⟨h8, O8, c8, g8⟩ := own3_put (u1 := .slice a1 ns.length q1) (u2 := .slice (some ⟨gi, 0, none⟩) is.length qi) (u3 := .slice a9 ds9.length q9) D.res D.own D.cur D.grown hP (Nat.le_refl _)
    go_wp2_with fail
    exact bodyPost_ret (results_cell_row rfl _ _ w.heap.size 30 _ (0, 0) _ rfl h8 Try.underlying30 rfl Try.sizeC) rfl ⟨_, _, _, _, _, _, rfl, hS6, O8.mono (by omega), c8, g8⟩
  by_cases h5 : z = 5
  · subst h5
    go_wp2_with fail
    refine (ddraw_any w0 v zs _ P D.cur).mono ?_
    rintro e w6 ⟨v6, xs, rfl, hx1, hx2, ho6, c6, g6⟩
    obtain ⟨a6, q6, rfl⟩ := own_form ho6
    have hs5 := D.grown.size
    have lr5 := (Array.getElem?_eq_some_iff.1 D.res).1
    replace D := D.turn c6 g6
    have hS6 : Sz3 xs is ds := ⟨hx1, hS.l2, hS.l3, fun x hx => by have := hx2 x hx; unfold maxLen; omega, hS.z2, hS.z3, hS.ne⟩
    obtain ⟨y0, y1, y2, f0, f1, f2⟩ := cells3 D.box
    have hbx := D.hbx
    have hne6 := own_ne ho6 D.box (by decide)
    have hrd : (w6.setCell ⟨bx, 0, none⟩ (.slice a6 xs.length q6)).heap[bx]? = some (.cells #[.slice a6 xs.length q6, .slice (some ⟨gi, 0, none⟩) is.length qi, .slice a3 ds.length q3] 30 (0, 0)) := heap_setCell_same w6 bx 0 _ _ _ D.box
    have hBs : Below w.heap.size w6 (w6.setCell ⟨bx, 0, none⟩ (.slice a6 xs.length q6)) := (Below.refl _ _).setCell (p := ⟨bx, 0, none⟩) (Nat.le_of_lt hbx) _
    obtain ⟨c7, g7⟩ := draw_done D.cur D.grown hBs hP
    have D7 : DX w0 v zs P w bx (.slice a6 xs.length q6) (.slice (some ⟨gi, 0, none⟩) is.length qi) (.slice a3 ds.length q3) xs is ds (w6.setCell ⟨bx, 0, none⟩ (.slice a6 xs.length q6)) :=
      ⟨(heap_setCell_other w6 ⟨bx, 0, none⟩ _ _ (by simp; omega)).trans D.res, hrd, ⟨own_mono (ownsRow_setCell_other ho6 (a := ⟨bx, 0, none⟩) hne6 _) (by omega), ownsRow_setCell_other D.own.2.1 (a := ⟨bx, 0, none⟩) (own_ne D.own.2.1 D.box (by decide)) _, ownsRow_setCell_other D.own.2.2 (a := ⟨bx, 0, none⟩) (own_ne D.own.2.2 D.box (by decide)) _⟩, c7, g7, hP, hbx⟩
    clear hrd hBs c7 g7 hne6 ho6 c6 g6
    obtain ⟨x0, x1, x2, _, _, _⟩ := cells3 D7.box
    obtain ⟨r0, r1, r2, z0, z1, z2⟩ := cells3 D7.res
    obtain ⟨h8, O8, c8, g8⟩ := own3_put (u1 := .slice a6 xs.length q6) (u2 := .slice (some ⟨gi, 0, none⟩) is.length qi) (u3 := .slice a3 ds.length q3) D7.res D7.own D7.cur D7.grown hP (Nat.le_refl _)
    go_wp2_with fail
    exact bodyPost_ret (results_cell_row rfl _ _ w.heap.size 30 _ (0, 0) _ rfl h8 Try.underlying30 rfl Try.sizeC) rfl ⟨_, _, _, _, _, _, rfl, hS6, O8.mono (by omega), c8, g8⟩
  obtain ⟨y0, y1, y2, _, _, _⟩ := cells3 D.box
  obtain ⟨r0, r1, r2, z0, z1, z2⟩ := cells3 D.res
  obtain ⟨h8, O8, c8, g8⟩ := own3_put (u1 := .slice a1 ns.length q1) (u2 := .slice (some ⟨gi, 0, none⟩) is.length qi) (u3 := .slice a3 ds.length q3) D.res D.own D.cur D.grown hP (Nat.le_refl _)
  go_wp2_with fail
  exact bodyPost_ret (results_cell_row rfl _ _ w.heap.size 30 _ (0, 0) _ rfl h8 Try.underlying30 rfl Try.sizeC) rfl ⟨_, _, _, _, _, _, rfl, hS, O8.mono (by omega), c8, g8⟩
end Go.Proofs.Ytakjjmbkjdjdpaa

/-
  Contract of the draws' DrawSizeOf.
-/
namespace Go.Proofs.Ytakjjmbkjdjdpaa
open Go.RowKit

theorem PV.below {w w' : World} {b base : Nat} {xs : List Nd} (h : PV w b base xs) (hb : Below w.heap.size w w') : PV w' b base xs := by
  obtain ⟨v', h1, h2⟩ := h
  exact ⟨v', (hb.block b (Array.getElem?_eq_some_iff.1 h1).1).trans h1, own_below h2 hb⟩
theorem PV.turn {w w' : World} {b P : Nat} {xs : List Nd} (h : PV w b (P + 1) xs) (hg : w.grownBy w' (some P)) (hb : P < b) : PV w' b (P + 1) xs := h.kept hg (by omega) (by omega)
theorem below_own {w0 w w' : World} {v : Value} {zs : List Int} {P : Nat} (c : Cur w0 v zs w P) (hb : Below (P + 1) w w') : Cur w0 v zs w' P := c.kept hb

end Go.Proofs.Ytakjjmbkjdjdpaa

/-
  The contract of the draw spec.DrawMachineNew: some code, and a name. No condition.
-/
namespace Go.Proofs.Ytakjjmbkjdjdpaa
open Go.RowKit

set_option maxRecDepth 100000 in
set_option maxHeartbeats 3200000 in
theorem ddn_reg {t0 t1 t3 t6 t7 t8 t9 t10 t11 t12 t13 : Value} {fs : List Deferred} (w0 : World) (v : Value) (zs : List Int) (P b2 b5 B : Nat) (a1 a2 a3 : Option Addr) (n1 n2 n3 q1 q2 q3 : Nat) (ns : List Nd) (is : List In) (ds : List Df) (W : World) (Q : Exit → Act → World → Prop)
    (c : Cur w0 v zs W P) (hr : W.heap[b2]? = some (.cells #[.slice none 0 0, .slice none 0 0, .slice none 0 0] 30 (0, 0))) (hx : W.heap[b5]? = some (.cells #[.slice a1 n1 q1, .slice a2 n2 q2, .slice a3 n3 q3] 30 (0, 0))) (O : Own3 W B (.slice a1 n1 q1) (.slice a2 n2 q2) (.slice a3 n3 q3) ns is ds) (h2 : b2 < P) (h5 : P < b5) (hB : P < B)
    (hQ : ∀ u10 u11 u12 u13 s wx, s.size ≤ 40 → wx.heap[b2]? = some (.cells #[.slice a1 n1 q1, .slice a2 n2 q2, .slice a3 n3 q3] 30 (0, 0)) → Own3 wx B (.slice a1 n1 q1) (.slice a2 n2 q2) (.slice a3 n3 q3) ns is ds → Below b2 W wx → Q .normal ⟨#[t0, t1, .pointer (some ⟨b2, 0, none⟩), .string s, .pointer (some ⟨P, 0, none⟩), .pointer (some ⟨b5, 0, none⟩), t6, t7, t8, t9, u10, u11, u12, u13], fs⟩ wx) :
    (Code.region 3 #[{ dst := some 10, op := Op.load 30 (Operand.tmp 5), type := 30, pos := "l06_machine.go:374", after := #[], guard := none }, { dst := some 11, op := Op.move (Operand.tmp 4), type := 46, pos := "l06_machine.go:374", after := #[], guard := none }, { dst := some 12, op := Op.buildSlice 50 5 #[(0, Operand.const (Value.string { data := #[109, 97, 105, 110] })), (1, Operand.const (Value.string { data := #[109, 97, 105, 110] })), (2, Operand.const (Value.string { data := #[102] })), (3, Operand.const (Value.string { data := #[117, 112] })), (4, Operand.const (Value.string { data := #[122, 122] }))], type := 50, pos := "l06_machine.go:374", after := #[], guard := none }, { dst := some 13, op := Op.call { callee := Callee.value (Operand.func 15), args := #[Operand.tmp 11, Operand.tmp 12], argTypes := #[46, 50] }, type := 9, pos := "l06_machine.go:374", after := #[{ on := 1, ground := Ground.data }, { on := 2, ground := Ground.data }], guard := none }, { dst := none, op := Op.store 30 (Operand.tmp 2) (Operand.tmp 10), type := 0, pos := "l06_machine.go:374", after := #[{ on := 0, ground := Ground.data }, { on := 3, ground := Ground.chain }, { on := 0, ground := Ground.phase }, { on := 1, ground := Ground.textOnly Departure.lateStores }, { on := 2, ground := Ground.textOnly Departure.lateStores }, { on := 3, ground := Ground.textOnly Departure.lateStoresUnsure }], guard := none }, { dst := some 3, op := Op.assign (Operand.tmp 13), type := 9, pos := "l06_machine.go:374", after := #[{ on := 3, ground := Ground.data }, { on := 4, ground := Ground.chain }, { on := 0, ground := Ground.phase }, { on := 1, ground := Ground.phase }, { on := 2, ground := Ground.phase }, { on := 3, ground := Ground.phase }, { on := 4, ground := Ground.phase }], guard := none }] true).wp Try.prog Q ⟨#[t0, t1, .pointer (some ⟨b2, 0, none⟩), t3, .pointer (some ⟨P, 0, none⟩), .pointer (some ⟨b5, 0, none⟩), t6, t7, t8, t9, t10, t11, t12, t13], fs⟩ W := by
  have hWP : W.heap.size ≠ P := by have := c.lt; omega
  have l2 := (Array.getElem?_eq_some_iff.1 hr).1
  have l5 := (Array.getElem?_eq_some_iff.1 hx).1
  have n25 : b5 ≠ b2 := by omega
  obtain ⟨y0, y1, y2, _, _, _⟩ := cells3 hx
  go_region_held3 (fun w' => w'.cell? ⟨b5, 0, none⟩ = some (.slice a1 n1 q1) ∧ w'.cell? ⟨b5, 1, none⟩ = some (.slice a2 n2 q2) ∧ w'.cell? ⟨b5, 2, none⟩ = some (.slice a3 n3 q3)) (first | (with_reducible exact s1) | (with_reducible exact ⟨far1 (far1 (far1 s1.1 n25) n25) n25, far1 (far1 (far1 s1.2.1 n25) n25) n25, far1 (far1 (far1 s1.2.2 n25) n25) n25⟩) | go_keep) (first
    | (go_at_call 15; refine (picks_any w0 v zs _ P W.heap.size 5 [ByteArray.mk #[109, 97, 105, 110], ByteArray.mk #[109, 97, 105, 110], ByteArray.mk #[102], ByteArray.mk #[117, 112], ByteArray.mk #[122, 122]] ?_ (by omega) (by decide) (by decide) ?_).mono ?_; (with_reducible exact cur_drewA c _); (intro j hj; exact strs_new W [ByteArray.mk #[109, 97, 105, 110], ByteArray.mk #[109, 97, 105, 110], ByteArray.mk #[102], ByteArray.mk #[117, 112], ByteArray.mk #[122, 122]] 9 j hj); rintro e w2 ⟨s, hs, rfl, c2, g2⟩
       have g := grown_drewA g2
       have hr2 := (g.block _ l2 (by simp; omega)).trans hr
       have hx2 := (g.block _ l5 (by simp; omega)).trans hx
       have O2 : Own3 w2 B (.slice a1 n1 q1) (.slice a2 n2 q2) (.slice a3 n3 q3) ns is ds := ⟨O.1.kept g (own_not O.1 hB), O.2.1.kept g (own_not O.2.1 hB), O.2.2.kept g (own_not O.2.2 hB)⟩
       have s1 : w2.cell? ⟨b5, 0, none⟩ = some (.slice a1 n1 q1) ∧ w2.cell? ⟨b5, 1, none⟩ = some (.slice a2 n2 q2) ∧ w2.cell? ⟨b5, 2, none⟩ = some (.slice a3 n3 q3) := ⟨cell_of_row _ _ 0 _ _ _ hx2, cell_of_row _ _ 1 _ _ _ hx2, cell_of_row _ _ 2 _ _ _ hx2⟩
       obtain ⟨r0, r1, r2, z0, z1, z2⟩ := cells3 hr2))
  all_goals
    have hsz : s.size ≤ 40 := by
      simp only [List.mem_cons, List.not_mem_nil, or_false] at hs
      rcases hs with rfl | rfl | rfl | rfl | rfl <;> simp [ByteArray.size]
    have m1 := own_ne O2.1 hr2 (by decide)
    have m2 := own_ne O2.2.1 hr2 (by decide)
    have m3 := own_ne O2.2.2 hr2 (by decide)
    have hBw : Below b2 W w2 := ⟨g.os, g.tape, g.output, g.size, fun k hk => g.block k (by omega) (by simp; omega)⟩
    exact hQ _ _ _ _ s _ hsz (store3 hr2 _ _ _) ⟨ownsRow_setCell_other (ownsRow_setCell_other (ownsRow_setCell_other O2.1 (a := ⟨b2, 0, none⟩) m1 _) (a := ⟨b2, 1, none⟩) m1 _) (a := ⟨b2, 2, none⟩) m1 _, ownsRow_setCell_other (ownsRow_setCell_other (ownsRow_setCell_other O2.2.1 (a := ⟨b2, 0, none⟩) m2 _) (a := ⟨b2, 1, none⟩) m2 _) (a := ⟨b2, 2, none⟩) m2 _, ownsRow_setCell_other (ownsRow_setCell_other (ownsRow_setCell_other O2.2.2 (a := ⟨b2, 0, none⟩) m3 _) (a := ⟨b2, 1, none⟩) m3 _) (a := ⟨b2, 2, none⟩) m3 _⟩ (((hBw.setCell (p := ⟨b2, 0, none⟩) (Nat.le_refl _) _).setCell (p := ⟨b2, 1, none⟩) (Nat.le_refl _) _).setCell (p := ⟨b2, 2, none⟩) (Nat.le_refl _) _)

set_option maxRecDepth 100000 in
set_option maxHeartbeats 3200000 in
theorem ddn_any (v : Value) (zs : List Int) (w : World) (R : Row w v zs) (hl : zs.length ≤ 1048576) :
    Calls Try.prog 5 #[v] w fun e w' => ∃ (v1 v2 v3 : Value) (ns : List Nd) (is : List In) (ds : List Df) (s : ByteArray), e = .returned (.tuple #[.agg #[v1, v2, v3], .string s]) ∧ Sz3 ns is ds ∧ s.size ≤ 40 ∧ Own3 w' w.heap.size v1 v2 v3 ns is ds ∧ Below w.heap.size w w' := by
  have hB0 : Below w.heap.size w (w.alloc (.cells #[.slice none 0 0, .slice none 0 0, .slice none 0 0] 30)) := (Below.refl _ _).alloc (Nat.le_refl _) _
  have hr0 := heap_alloc_new w (Obj.cells #[.slice none 0 0, .slice none 0 0, .slice none 0 0] 30)
  have R0 := R.below hB0
  go_enter Try.func5, Try.ntmps5
  go_wp2_with fail
  generalize hA : w.alloc (Obj.cells #[.slice none 0 0, .slice none 0 0, .slice none 0 0] 30) = wA at hB0 hr0 R0 ⊢
  have hA1 : wA.heap.size = w.heap.size + 1 := by rw [← hA]; simp
  have HA1 : Hid (wA.heap.size = w.heap.size + 1) := hA1
  clear hA hA1
  refine (new_any v zs wA R0 hl).mono ?_
  rintro e w1 ⟨rfl, c1, b1⟩
  have hlr : w.heap.size < wA.heap.size := by rw [HA1.out]; omega
  have hP1 := c1.lt
  have hr1 := (c1.2.1.block _ (Array.getElem?_eq_some_iff.1 hr0).1).trans hr0
  clear b1 hr0
  go_wp2_with fail
  generalize HP : wA.heap.size = P at c1 hlr hP1 HA1 ⊢
  refine (d4draw_any wA v zs P w1 c1).mono ?_
  rintro e w2 ⟨v1, v2, v3, ns, is, ds, rfl, hS, O2, c2, g2⟩
  obtain ⟨a1, q1, rfl⟩ := own_form O2.1
  obtain ⟨a2, q2, rfl⟩ := own_form O2.2.1
  obtain ⟨a3, q3, rfl⟩ := own_form O2.2.2
  have hr2 := (g2.block _ (Array.getElem?_eq_some_iff.1 hr1).1 (by simp; omega)).trans hr1
  have hs12 := g2.size
  have hBx : Below w2.heap.size w2 (w2.alloc (Obj.cells #[.slice a1 ns.length q1, .slice a2 is.length q2, .slice a3 ds.length q3] 30)) := (Below.refl _ _).alloc (Nat.le_refl _) _
  have hx3 := heap_alloc_new w2 (Obj.cells #[.slice a1 ns.length q1, .slice a2 is.length q2, .slice a3 ds.length q3] 30)
  have c3 := c2.kept (hBx.mono (by omega))
  have hr3 := (hBx.block _ (Array.getElem?_eq_some_iff.1 hr2).1).trans hr2
  have O3 := O2.below hBx
  clear hr1 g2 c1 c2 hr2 O2 hBx
  go_wp2_with fail
  generalize w2.alloc (Obj.cells #[.slice a1 ns.length q1, .slice a2 is.length q2, .slice a3 ds.length q3] 30) = w3 at *
  refine ddn_reg wA v zs P w.heap.size w2.heap.size w1.heap.size a1 a2 a3 ns.length is.length ds.length q1 q2 q3 ns is ds w3 _ c3 hr3 hx3 O3 hlr (by omega) hP1 ?_
  intro u10 u11 u12 u13 s w4 hs h4 O4 b4
  have hB3 : Below w.heap.size w w3 := hB0.trans (c3.2.1.mono (by omega))
  go_wp2_with fail
  exact bodyPost_ret (results_row_tmp rfl _ _ w.heap.size 30 _ (0, 0) _ rfl h4 Try.underlying30 rfl Try.sizeC) rfl ⟨_, _, _, ns, is, ds, s, rfl, hS, hs, O4.mono (by omega), hB3.trans b4⟩
end Go.Proofs.Ytakjjmbkjdjdpaa
