/-
  Texts that stood by themselves, laid into one.
-/
import Derived.Test.YtmbomhcnmjhbnaaGreatDoorDDrM
import Derived.Test.YtmbomhcnmjhbnaaGreatDoorDDdM
import Derived.Test.YtmbomhcnmjhbnaaGreatDoorDraw10M
/-
  The contract of spec.l4Draw: some code, in rows of the call's own; nothing else is turned but the cursor. No condition.
-/
namespace Go.Proofs.YtmbomhcnmjhbnaaGreatDoor
open Go.RowKit

/-- How much drawn code has. -/
structure Sz3 (ns : List Nd) (is : List In) (ds : List Df) : Prop where
  l1 : ns.length ≤ 3001
  l2 : is.length ≤ 400
  l3 : ds.length ≤ 21
  z1 : ∀ x ∈ ns, x.s.size ≤ maxLen
  z2 : ∀ x ∈ is, x.s.size ≤ maxLen
  z3 : ∀ x ∈ ds, x.s.size ≤ maxLen
  ne : is ≠ []
theorem Sz3.set {ns : List Nd} {is : List In} {ds : List Df} (h : Sz3 ns is ds) (i : Nat) (y : In) (hy : y.s.size ≤ maxLen ∨ is[i]?.map (·.s) = some y.s) : Sz3 ns (is.set i y) ds := by
  refine ⟨h.l1, by rw [List.length_set]; exact h.l2, h.l3, h.z1, ?_, h.z3, fun e => h.ne (by have := congrArg List.length e; simp at this; exact this)⟩
  intro x hx
  rcases List.mem_or_eq_of_mem_set hx with hx | rfl
  · exact h.z2 x hx
  · rcases hy with hy | hy
    · exact hy
    · cases hq : is[i]? with
      | none => rw [hq] at hy; cases hy
      | some z =>
        rw [hq] at hy
        have e : z.s = x.s := by simpa using hy
        rw [← e]
        exact h.z2 z (List.mem_of_getElem? hq)
theorem empty_sz {s : ByteArray} (h : (s.toList == []) = true) : s.size ≤ 12 := by
  have e : s.toList = [] := by simpa using h
  rw [ByteArray.toList_eq] at e
  have := congrArg List.length e
  rw [Array.length_toList] at this
  have h0 : s.size = 0 := this
  omega
theorem nameB_sz {s : ByteArray} (h : nameB s = true) : s.size ≤ 12 := by
  simp only [nameB, Bool.and_eq_true, decide_eq_true_eq] at h
  exact h.1.2
theorem instrB_sz {x : In} {i : Int} {n1 n2 : Nat} (h : instrB x i n1 n2 = true) : x.s.size ≤ 12 := by
  unfold instrB at h
  repeat' split at h
  all_goals try simp only [litB, varB, globalB, wayB, funB, callB, bareB, Bool.and_eq_true] at h
  · exact empty_sz h.1.1.2
  · exact empty_sz h.1.1.1.1
  · exact nameB_sz h.2
  · exact empty_sz h.1.1.2
  · exact empty_sz h.1.1.2
  · exact empty_sz h.1.1.1.1
  · exact empty_sz h.1.1.2
  · exact empty_sz h.2
  · exact empty_sz h.2
  · cases h
theorem insB_sz : ∀ (is : List In) (i n1 n2 : Nat), insB is i n1 n2 = true → ∀ x ∈ is, x.s.size ≤ 12
  | [], _, _, _, _, x, hx => by cases hx
  | y :: is, i, n1, n2, h, x, hx => by
    simp only [insB, Bool.and_eq_true] at h
    rcases List.mem_cons.1 hx with rfl | hx
    · exact instrB_sz h.1
    · exact insB_sz is (i + 1) n1 n2 h.2 x hx
theorem dfsB_sz : ∀ (all ds : List Df) (n2 i : Nat), dfsB all n2 ds i = true → ∀ x ∈ ds, x.s.size ≤ 12
  | _, [], _, _, _, x, hx => by cases hx
  | all, y :: ds, n2, i, h, x, hx => by
    simp only [dfsB, Bool.and_eq_true] at h
    rcases List.mem_cons.1 hx with rfl | hx
    · simp only [dfB, Bool.and_eq_true] at h
      exact nameB_sz h.1.1.1.1
    · exact dfsB_sz all ds n2 (i + 1) h.2 x hx
theorem codeB_sz {ns : List Nd} {is : List In} {ds : List Df} (h : codeB ns is ds = true) (hn : is ≠ []) : Sz3 ns is ds ∧ ds.length ≤ 20 := by
  simp only [codeB, Bool.and_eq_true, decide_eq_true_eq] at h
  obtain ⟨⟨hp, h2, h3⟩, h4, h5⟩ := h
  have := poolB_len hp
  have hm : ∀ n : Nat, n ≤ 12 → n ≤ maxLen := fun n h => by unfold maxLen; omega
  exact ⟨⟨by omega, h2, by omega, poolB_sz hp, fun x hx => hm _ (insB_sz is 0 _ _ h3 x hx), fun x hx => hm _ (dfsB_sz ds ds _ 0 h5 x hx), hn⟩, h4⟩

set_option maxRecDepth 100000 in
set_option maxHeartbeats 6400000 in
theorem d4draw_any (w0 : World) (v : Value) (zs : List Int) (P : Nat) (w : World) (c : Cur w0 v zs w P) :
    Calls Tryz.prog 10 #[.pointer (some ⟨P, 0, none⟩)] w fun e w' => ∃ v1 v2 v3 ns is ds, e = .returned (.agg #[v1, v2, v3]) ∧ Sz3 ns is ds ∧ Own3 w' w.heap.size v1 v2 v3 ns is ds ∧ Cur w0 v zs w' P ∧ w.grownBy w' (some P) := by
  have hP := c.lt
  have hB0 : Below w.heap.size w (w.alloc (Obj.cells #[.slice none 0 0, .slice none 0 0, .slice none 0 0] 30)) := (Below.refl _ _).alloc (Nat.le_refl _) _
  have c0 := c.kept (hB0.mono (show P + 1 ≤ w.heap.size by omega))
  have hr0 := heap_alloc_new w (Obj.cells #[.slice none 0 0, .slice none 0 0, .slice none 0 0] 30)
  have hsz : (w.alloc (Obj.cells #[.slice none 0 0, .slice none 0 0, .slice none 0 0] 30)).heap.size = w.heap.size + 1 := by simp
  go_enter Tryz.func10, Tryz.ntmps10
  go_wp2_with fail
  generalize w.alloc (Obj.cells #[.slice none 0 0, .slice none 0 0, .slice none 0 0] 30) = w1 at *
  refine (d4right_any w0 v zs P w1 c0).mono ?_
  rintro e w2 ⟨v1, v2, v3, ns, is, ds, rfl, hcb, hne, O2, c2, g2⟩
  obtain ⟨hS, hd20⟩ := codeB_sz hcb hne
  obtain ⟨a1, q1, rfl⟩ := own_form O2.1
  obtain ⟨gi, qi, rfl, _, _⟩ := O2.2.1.form (List.length_pos_iff.2 hne)
  obtain ⟨a3, q3, rfl⟩ := own_form O2.2.2
  have g12 : w.grownBy w2 (some P) := draw_step hB0 g2
  have hr2 := (g2.block _ (Array.getElem?_eq_some_iff.1 hr0).1 (by simp; omega)).trans hr0
  have hBx : Below w2.heap.size w2 (w2.alloc (Obj.cells #[.slice a1 ns.length q1, .slice (some ⟨gi, 0, none⟩) is.length qi, .slice a3 ds.length q3] 30)) := (Below.refl _ _).alloc (Nat.le_refl _) _
  obtain ⟨c3, g3⟩ := draw_done c2 g12 (hBx.mono g12.size) hP
  have hlt2 := (Array.getElem?_eq_some_iff.1 hr2).1
  have D : DX w0 v zs P w w2.heap.size (.slice a1 ns.length q1) (.slice (some ⟨gi, 0, none⟩) is.length qi) (.slice a3 ds.length q3) ns is ds (w2.alloc (Obj.cells #[.slice a1 ns.length q1, .slice (some ⟨gi, 0, none⟩) is.length qi, .slice a3 ds.length q3] 30)) :=
    ⟨(hBx.block _ hlt2).trans hr2, heap_alloc_new _ _, (O2.below hBx).mono (by omega), c3, g3, hP, hlt2⟩
  have k1 := D.cell1
  clear hB0 c0 hr0 hsz O2 c2 g2 g12 hr2 hBx c3 g3 hlt2 c
  go_wp2_with fail
  generalize w2.alloc (Obj.cells #[.slice a1 ns.length q1, .slice (some ⟨gi, 0, none⟩) is.length qi, .slice a3 ds.length q3] 30) = w3 at *
  generalize w2.heap.size = bx at *
  have hl2 := hS.l2
  refine (below_any w0 v zs _ P is.length D.cur (by omega)).mono ?_
  rintro e w4 ⟨i, rfl, hi0, hi1, c4, g4⟩
  obtain ⟨i, rfl⟩ := Int.eq_ofNat_of_zero_le hi0
  have hi : i < is.length := by
    have : 0 < is.length := List.length_pos_iff.2 hne
    have := hi1 (by omega)
    omega
  replace D := D.turn c4 g4
  clear k1 c4 g4 hi0 hi1
  go_wp2_with fail
  refine (below_any w0 v zs _ P 25 D.cur (by omega)).mono ?_
  rintro e w5 ⟨z, rfl, hz0, _, c5, g5⟩
  replace D := D.turn c5 g5
  clear c5 g5
  by_cases h0 : z = 0
  · subst h0
    go_wp2_with fail
    refine dd_reg5 w0 v zs P w bx _ _ gi qi ns is ds i w5 _ D hi ?_
    intro u16 u17 u18 u19 u20 u21 u22 y w6 hy D
    have hS6 := hS.set i y hy
    have hle : (is.set i y).length = is.length := by simp
    rw [hle] at D
    obtain ⟨y0, y1, y2, _, _, _⟩ := cells3 D.box
    obtain ⟨r0, r1, r2, z0, z1, z2⟩ := cells3 D.res
    obtain ⟨h8, O8, c8, g8⟩ := own3_put (u1 := .slice a1 ns.length q1) (u2 := .slice (some ⟨gi, 0, none⟩) is.length qi) (u3 := .slice a3 ds.length q3) D.res D.own D.cur D.grown hP (Nat.le_refl _)
    go_wp2_with fail
    exact bodyPost_ret (results_cell_row rfl _ _ w.heap.size 30 _ (0, 0) _ rfl h8 Tryz.underlying30 rfl Tryz.sizeC) rfl ⟨_, _, _, _, _, _, rfl, hS6, O8.mono (by omega), c8, g8⟩
  by_cases h1 : z = 1
  · subst h1
    go_wp2_with fail
    refine dd_reg7 w0 v zs P w bx _ _ gi qi ns is ds i w5 _ D hi (by omega) ?_
    intro u25 u26 u27 u28 u29 u30 u31 u32 u33 u34 u35 u36 u37 u38 u39 u40 u41 u42 y w6 hy D
    have hS6 := hS.set i y hy
    have hle : (is.set i y).length = is.length := by simp
    rw [hle] at D
    obtain ⟨y0, y1, y2, _, _, _⟩ := cells3 D.box
    obtain ⟨r0, r1, r2, z0, z1, z2⟩ := cells3 D.res
    obtain ⟨h8, O8, c8, g8⟩ := own3_put (u1 := .slice a1 ns.length q1) (u2 := .slice (some ⟨gi, 0, none⟩) is.length qi) (u3 := .slice a3 ds.length q3) D.res D.own D.cur D.grown hP (Nat.le_refl _)
    go_wp2_with fail
    exact bodyPost_ret (results_cell_row rfl _ _ w.heap.size 30 _ (0, 0) _ rfl h8 Tryz.underlying30 rfl Tryz.sizeC) rfl ⟨_, _, _, _, _, _, rfl, hS6, O8.mono (by omega), c8, g8⟩
  by_cases h2 : z = 2
  · subst h2
    go_wp2_with fail
    refine dd_reg9 w0 v zs P w bx _ _ gi qi ns is ds i w5 _ D hi ?_
    intro u45 u46 u47 u48 u49 u50 u51 u52 y w6 hy D
    have hS6 := hS.set i y hy
    have hle : (is.set i y).length = is.length := by simp
    rw [hle] at D
    obtain ⟨y0, y1, y2, _, _, _⟩ := cells3 D.box
    obtain ⟨r0, r1, r2, z0, z1, z2⟩ := cells3 D.res
    obtain ⟨h8, O8, c8, g8⟩ := own3_put (u1 := .slice a1 ns.length q1) (u2 := .slice (some ⟨gi, 0, none⟩) is.length qi) (u3 := .slice a3 ds.length q3) D.res D.own D.cur D.grown hP (Nat.le_refl _)
    go_wp2_with fail
    exact bodyPost_ret (results_cell_row rfl _ _ w.heap.size 30 _ (0, 0) _ rfl h8 Tryz.underlying30 rfl Tryz.sizeC) rfl ⟨_, _, _, _, _, _, rfl, hS6, O8.mono (by omega), c8, g8⟩
  by_cases h3 : z = 3
  · subst h3
    go_wp2_with fail
    refine dd_reg11 w0 v zs P w bx _ _ gi qi ns is ds i w5 _ D hi ?_
    intro u55 u56 u57 u58 u59 u60 u61 u62 y w6 hy D
    have hS6 := hS.set i y hy
    have hle : (is.set i y).length = is.length := by simp
    rw [hle] at D
    obtain ⟨y0, y1, y2, _, _, _⟩ := cells3 D.box
    obtain ⟨r0, r1, r2, z0, z1, z2⟩ := cells3 D.res
    obtain ⟨h8, O8, c8, g8⟩ := own3_put (u1 := .slice a1 ns.length q1) (u2 := .slice (some ⟨gi, 0, none⟩) is.length qi) (u3 := .slice a3 ds.length q3) D.res D.own D.cur D.grown hP (Nat.le_refl _)
    go_wp2_with fail
    exact bodyPost_ret (results_cell_row rfl _ _ w.heap.size 30 _ (0, 0) _ rfl h8 Tryz.underlying30 rfl Tryz.sizeC) rfl ⟨_, _, _, _, _, _, rfl, hS6, O8.mono (by omega), c8, g8⟩
  by_cases h4 : z = 4
  · subst h4
    go_wp2_with fail
    refine dd_reg13 w0 v zs P w bx _ _ a3 q3 ns is ds w5 _ D (by omega) ?_
    intro u65 u66 u67 u68 u69 u70 u71 u72 u73 u74 u75 u76 u77 v9 y w6 hy D
    have hS6 : Sz3 ns is (ds ++ [y]) := ⟨hS.l1, hS.l2, by simp; omega, hS.z1, hS.z2, fun x hx => by
      rcases List.mem_append.1 hx with hx | hx
      · exact hS.z3 x hx
      · rw [List.mem_singleton] at hx; subst hx; exact hy, hS.ne⟩
    obtain ⟨a9, q9, rfl⟩ := own_form D.own.2.2
    generalize ds ++ [y] = ds9 at *
    obtain ⟨y0, y1, y2, _, _, _⟩ := cells3 D.box
    obtain ⟨r0, r1, r2, z0, z1, z2⟩ := cells3 D.res
    obtain ⟨h8, O8, c8, g8⟩ := own3_put (u1 := .slice a1 ns.length q1) (u2 := .slice (some ⟨gi, 0, none⟩) is.length qi) (u3 := .slice a9 ds9.length q9) D.res D.own D.cur D.grown hP (Nat.le_refl _)
    go_wp2_with fail
    exact bodyPost_ret (results_cell_row rfl _ _ w.heap.size 30 _ (0, 0) _ rfl h8 Tryz.underlying30 rfl Tryz.sizeC) rfl ⟨_, _, _, _, _, _, rfl, hS6, O8.mono (by omega), c8, g8⟩
  by_cases h5 : z = 5
  · subst h5
    go_wp2_with fail
    refine (ddraw_any w0 v zs _ P D.cur).mono ?_
    rintro e w6 ⟨v6, xs, rfl, hx1, hx2, ho6, c6, g6⟩
    obtain ⟨a6, q6, rfl⟩ := own_form ho6
    have hs5 := D.grown.size
    have lr5 := (Array.getElem?_eq_some_iff.1 D.res).1
    replace D := D.turn c6 g6
    have hS6 : Sz3 xs is ds := ⟨hx1, hS.l2, hS.l3, fun x hx => by have := hx2 x hx; unfold maxLen; omega, hS.z2, hS.z3, hS.ne⟩
    obtain ⟨y0, y1, y2, f0, f1, f2⟩ := cells3 D.box
    have hbx := D.hbx
    have hne6 := own_ne ho6 D.box (by decide)
    have hrd : (w6.setCell ⟨bx, 0, none⟩ (.slice a6 xs.length q6)).heap[bx]? = some (.cells #[.slice a6 xs.length q6, .slice (some ⟨gi, 0, none⟩) is.length qi, .slice a3 ds.length q3] 30 (0, 0)) := heap_setCell_same w6 bx 0 _ _ _ D.box
    have hBs : Below w.heap.size w6 (w6.setCell ⟨bx, 0, none⟩ (.slice a6 xs.length q6)) := (Below.refl _ _).setCell (p := ⟨bx, 0, none⟩) (Nat.le_of_lt hbx) _
    obtain ⟨c7, g7⟩ := draw_done D.cur D.grown hBs hP
    have D7 : DX w0 v zs P w bx (.slice a6 xs.length q6) (.slice (some ⟨gi, 0, none⟩) is.length qi) (.slice a3 ds.length q3) xs is ds (w6.setCell ⟨bx, 0, none⟩ (.slice a6 xs.length q6)) :=
      ⟨(heap_setCell_other w6 ⟨bx, 0, none⟩ _ _ (by simp; omega)).trans D.res, hrd, ⟨own_mono (ownsRow_setCell_other ho6 (a := ⟨bx, 0, none⟩) hne6 _) (by omega), ownsRow_setCell_other D.own.2.1 (a := ⟨bx, 0, none⟩) (own_ne D.own.2.1 D.box (by decide)) _, ownsRow_setCell_other D.own.2.2 (a := ⟨bx, 0, none⟩) (own_ne D.own.2.2 D.box (by decide)) _⟩, c7, g7, hP, hbx⟩
    clear hrd hBs c7 g7 hne6 ho6 c6 g6
    obtain ⟨x0, x1, x2, _, _, _⟩ := cells3 D7.box
    obtain ⟨r0, r1, r2, z0, z1, z2⟩ := cells3 D7.res
    obtain ⟨h8, O8, c8, g8⟩ := own3_put (u1 := .slice a6 xs.length q6) (u2 := .slice (some ⟨gi, 0, none⟩) is.length qi) (u3 := .slice a3 ds.length q3) D7.res D7.own D7.cur D7.grown hP (Nat.le_refl _)
    go_wp2_with fail
    exact bodyPost_ret (results_cell_row rfl _ _ w.heap.size 30 _ (0, 0) _ rfl h8 Tryz.underlying30 rfl Tryz.sizeC) rfl ⟨_, _, _, _, _, _, rfl, hS6, O8.mono (by omega), c8, g8⟩
  obtain ⟨y0, y1, y2, _, _, _⟩ := cells3 D.box
  obtain ⟨r0, r1, r2, z0, z1, z2⟩ := cells3 D.res
  obtain ⟨h8, O8, c8, g8⟩ := own3_put (u1 := .slice a1 ns.length q1) (u2 := .slice (some ⟨gi, 0, none⟩) is.length qi) (u3 := .slice a3 ds.length q3) D.res D.own D.cur D.grown hP (Nat.le_refl _)
  go_wp2_with fail
  exact bodyPost_ret (results_cell_row rfl _ _ w.heap.size 30 _ (0, 0) _ rfl h8 Tryz.underlying30 rfl Tryz.sizeC) rfl ⟨_, _, _, _, _, _, rfl, hS, O8.mono (by omega), c8, g8⟩
end Go.Proofs.YtmbomhcnmjhbnaaGreatDoor

/-
  Contract of the draws' DrawSizeOf.
-/
namespace Go.Proofs.YtmbomhcnmjhbnaaGreatDoor
open Go.RowKit

theorem PV.below {w w' : World} {b base : Nat} {xs : List Nd} (h : PV w b base xs) (hb : Below w.heap.size w w') : PV w' b base xs := by
  obtain ⟨v', h1, h2⟩ := h
  exact ⟨v', (hb.block b (Array.getElem?_eq_some_iff.1 h1).1).trans h1, own_below h2 hb⟩
theorem PV.turn {w w' : World} {b P : Nat} {xs : List Nd} (h : PV w b (P + 1) xs) (hg : w.grownBy w' (some P)) (hb : P < b) : PV w' b (P + 1) xs := h.kept hg (by omega) (by omega)
theorem below_own {w0 w w' : World} {v : Value} {zs : List Int} {P : Nat} (c : Cur w0 v zs w P) (hb : Below (P + 1) w w') : Cur w0 v zs w' P := c.kept hb

end Go.Proofs.YtmbomhcnmjhbnaaGreatDoor
