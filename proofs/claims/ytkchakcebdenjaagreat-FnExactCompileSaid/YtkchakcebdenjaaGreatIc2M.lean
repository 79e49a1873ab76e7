/-
  Texts that stood by themselves, laid into one.
-/
import Derived.Test.YtkchakcebdenjaaGreatIcMM
/-
  The contracts of the compiler's put and leadHere. No condition beyond the compiler's memory.
-/
namespace Go.Proofs.YtkchakcebdenjaaGreat
open Go.RowKit
theorem NRow.under {C : Nat} {w w' : World} {v : Value} {xs : List Nd} (R : NRow w v xs) (hf : xs ≠ [] → ∀ g, v.ownBlock = some g → g < C) (hb : Below C w w') : NRow w' v xs := by
  obtain ⟨ao, cap, rfl, hc, hm, hz, hcell⟩ := R
  refine ⟨ao, cap, rfl, hc, hm, hz, fun hne => ?_⟩
  obtain ⟨g, o, rfl, hg, hcell⟩ := hcell hne
  have hg' : g < C := hf hne g rfl
  refine ⟨g, o, rfl, Nat.lt_of_lt_of_le hg hb.size, fun i x hi => ?_⟩
  obtain ⟨c0, c1, c2, c3, c4⟩ := hcell i x hi
  exact ⟨(hb.cell (p := ⟨g, _, none⟩) hg').trans c0, (hb.cell (p := ⟨g, _, none⟩) hg').trans c1, (hb.cell (p := ⟨g, _, none⟩) hg').trans c2, (hb.cell (p := ⟨g, _, none⟩) hg').trans c3, (hb.cell (p := ⟨g, _, none⟩) hg').trans c4⟩
section
variable {xs : List Nd} {C : Nat} {w w1 : World} {num : Int} {env : Env} {pv lv dv fv : Value} {L L' : List In} {D : List Df}
theorem FRow.kept {B B' n k : Nat} {e : TypeId} {v v' : Value} {l : List Value} (r : FRow w B v env) (ho : w.ownsRow B' e k v' n l) (hg : w.grownBy w1 v'.ownBlock) (h1 : 85 ≠ e) (h2 : 9 ≠ e) : FRow w1 B v env := by
  obtain ⟨vs, h, hs⟩ := r
  exact ⟨vs, h.kept hg (own_apart h ho h1), fun i u q => ⟨(hs i u q).1, (hs i u q).2.kept hg (own_apart (hs i u q).2 ho h2)⟩⟩
theorem FRow.set {B o : Nat} {v u : Value} {c : Array Value} {t : TypeId} {fr : Nat × Nat} (r : FRow w B v env) (hC : w.heap[C]? = some (.cells c t fr)) (h1 : t ≠ 85) (h2 : t ≠ 9) : FRow (w.setCell ⟨C, o, none⟩ u) B v env := by
  obtain ⟨vs, h, hs⟩ := r
  exact ⟨vs, ownsRow_setCell_other h (a := ⟨C, o, none⟩) (own_ne h hC h1) _, fun i z q => ⟨(hs i z q).1, ownsRow_setCell_other (hs i z q).2 (a := ⟨C, o, none⟩) (own_ne (hs i z q).2 hC h2) _⟩⟩
theorem IC.turnL (h : IC xs C w num env pv lv dv fv L D) (hg : w.grownBy w1 lv.ownBlock) (ho : w1.ownsRow (C + 1) 53 4 lv L'.length (incs L')) : IC xs C w1 num env pv lv dv fv L' D ∧ IF C w w1 := by
  have hC := h.lt
  have hF := IF.of_grown h.list (.inl rfl) hC hg
  exact ⟨⟨(hg.block C hC (fun e => own_ne h.list h.blk (by decide) e.symm)).trans h.blk, h.pool.under h.out hF.below, h.out, ho, h.defs.kept hg (own_apart h.defs h.list (by decide)), h.frm.kept h.list hg (by decide) (by decide)⟩, hF⟩
theorem IC.putL {lv' : Value} (h : IC xs C w num env pv lv dv fv L D) (hg : w.grownBy w1 lv.ownBlock) (ho : w1.ownsRow (C + 1) 53 4 lv' L'.length (incs L')) : IC xs C (w1.setCell ⟨C, 1, none⟩ lv') num env pv lv' dv fv L' D ∧ IF C w (w1.setCell ⟨C, 1, none⟩ lv') := by
  have hC := h.lt
  have hF := (IF.of_grown h.list (.inl rfl) hC hg).trans (IF.of_set w1 1 lv')
  have hb : w1.heap[C]? = some (.cells #[pv, lv, dv, .int .i64 num, fv] 71 (0, 0)) := (hg.block C hC (fun e => own_ne h.list h.blk (by decide) e.symm)).trans h.blk
  have ne : ∀ {e : TypeId} {m n : Nat} {v : Value} {l : List Value} {B : Nat}, w1.ownsRow B e m v n l → 71 ≠ e → (w1.setCell ⟨C, 1, none⟩ lv').ownsRow B e m v n l := fun ho he => ownsRow_setCell_other ho (a := ⟨C, 1, none⟩) (own_ne ho hb he) _
  exact ⟨⟨heap_setCell_same w1 C 1 _ _ lv' hb, h.pool.under h.out hF.below, h.out, ne ho (by decide), ne (h.defs.kept hg (own_apart h.defs h.list (by decide))) (by decide), (h.frm.kept h.list hg (by decide) (by decide)).set hb (by decide) (by decide)⟩, hF⟩
end
theorem emit_not (s : CS) (x : In) (h : s.how = 0) (h4 : s.list.length = 400) : s.emit x = ⟨s.list, s.defs, 3⟩ := by
  unfold CS.emit; rw [if_pos h, if_pos h4]
theorem emit_ok (s : CS) (x : In) (h : s.how = 0) (h4 : ¬ s.list.length = 400) : s.emit x = ⟨s.list ++ [x], s.defs, s.how⟩ ∧ s.place = s.list.length := by
  unfold CS.emit CS.place; rw [if_pos h, if_neg h4, if_pos h, if_neg h4]; exact ⟨rfl, rfl⟩
set_option maxRecDepth 100000 in
set_option maxHeartbeats 3200000 in
theorem iputc_any (xs : List Nd) (C : Nat) (num : Int) (env : Env) (s : CS) (x : In) (w : World) (h : Ic xs C w num env s.list s.defs) (h0 : s.how = 0) (hl : s.list.length ≤ 400) :
    Calls Tryz.prog 120 #[.pointer (some ⟨C, 0, none⟩), .agg #[.int .i64 x.o, .int .i64 x.n, .int .i64 x.i, .string x.s]] w fun e w' => Out xs C num env (s.emit x) (.int .i64 s.place) e w' ∧ IF C w w' := by
  obtain ⟨pv, lv, dv, fv, h⟩ := h
  obtain ⟨L, D, how⟩ := s
  dsimp only at *
  subst h0
  obtain ⟨i0, hi, hz0, hz1, hz2⟩ := info_parts Tryz.infoIn
  obtain ⟨al, ql, rfl⟩ := own_form h.list
  have hC := h.lt
  have hB0 : Below w.heap.size w (w.alloc (Obj.cells #[.int .i64 x.o, .int .i64 x.n, .int .i64 x.i, .string x.s] 53)) := (Below.refl _ _).alloc (Nat.le_refl _) _
  have hk := h.on hB0
  obtain ⟨_, c1, _, _, _, f1, _⟩ := hk.cells
  have hF0 := IF.of_below (C := C) hB0 (by omega)
  by_cases h4 : L.length = 400
  · have HP : Hid ((⟨L, D, 0⟩ : CS).emit x = ⟨L, D, 3⟩) := emit_not _ x rfl h4
    have h4' : (L.length : Int) = 400 := by omega
    go_enter Tryz.func120, Tryz.ntmps120
    go_wp2_with fail
    exact ⟨rfl, by rw [HP.out]; exact Or.inr ⟨by simp, rfl⟩, hF0⟩
  · have HP : Hid ((⟨L, D, 0⟩ : CS).emit x = ⟨L ++ [x], D, 0⟩ ∧ (⟨L, D, 0⟩ : CS).place = L.length) := emit_ok _ x rfl h4
    have h4' : ¬ (L.length : Int) = 400 := by omega
    have hne : C ≠ w.heap.size := by omega
    go_enter Tryz.func120, Tryz.ntmps120
    go_wp2_with fail
    go_region_law (refine step_append_lies _ rfl _ _ 30 rfl (C + 1) 53 i0 _ 4 40 Tryz.underlying30 hi hz0 hz1 hz2 rfl (by decide) _ _ _ rfl ((h.list.alloc _).alloc _) ⟨w.heap.size + 1, 0, none⟩ 1 1 (incs [x]) rfl rfl (World.news_of_block (cs := #[.int .i64 x.o, .int .i64 x.n, .int .i64 x.i, .string x.s]) (t := 53) (fr := (0, 0)) (heap_alloc2_new w _ _)) (incs_one _) (by omega) (by unfold maxLen; omega) (by omega) (by simp; omega) (w.heap.size + 2) (by simp) ?_; intro g capg w1 hown hgrow hat hgl; have hb1 : w1.heap[C]? = some (.cells #[pv, .slice al L.length ql, dv, .int .i64 num, fv] 71 (0, 0)) := (hgrow.block C (by simp; omega) (fun e => own_ne h.list h.blk (by decide) e.symm)).trans ((heap_alloc_old _ _ (by simp; omega)).trans ((heap_alloc_old _ _ hC).trans h.blk)); have kb1 : w1.cell? ⟨C, 0 + 1, none⟩ = some (.slice al L.length ql) := cell_of_row w1 C 1 _ _ _ hb1; have fb1 : w1.frozen? ⟨C, 0 + 1, none⟩ = false := frozen_of_row w1 C 1 _ _ hb1)
    all_goals
      have hown2 : w1.ownsRow (C + 1) 53 4 (.slice (some ⟨g, 0, none⟩) (L.length + 1) capg) (L ++ [x]).length (incs (L ++ [x])) := by
        rw [incs_append, List.length_append]
        exact hown
      have hBx := (((Below.refl w.heap.size w).alloc (Nat.le_refl _) (Obj.cells #[.int .i64 x.o, .int .i64 x.n, .int .i64 x.i, .string x.s] 53)).drew.alloc (by simp) (Obj.cells #[.int .i64 x.o, .int .i64 x.n, .int .i64 x.i, .string x.s] 53))
      obtain ⟨k1, k2⟩ := (h.on hBx).putL hgrow hown2
      have hb2 := heap_setCell_same w1 C 1 _ _ (.slice (some ⟨g, 0, none⟩) (L.length + 1) capg) hb1
      have kc : (w1.setCell ⟨C, 1, none⟩ (.slice (some ⟨g, 0, none⟩) (L.length + 1) capg)).cell? ⟨C, 0 + 1, none⟩ = some (.slice (some ⟨g, 0, none⟩) (L.length + 1) capg) := cell_of_row _ C 1 _ _ _ hb2
      have hF := (IF.of_below (C := C) hBx (by omega)).trans k2
      clear hown hgrow hat c1 f1 hk hF0 kb1 fb1 hb2 hBx hB0
      go_wp2_with fail
      go_ret
      exact ⟨by rw [HP.out.1, HP.out.2]; exact Or.inl ⟨rfl, by simp; omega, by simp, _, _, _, _, k1⟩, hF⟩
set_option maxRecDepth 100000 in
set_option maxHeartbeats 1600000 in
theorem ileadc_any (xs : List Nd) (C : Nat) (num : Int) (env : Env) (s : CS) (a : Nat) (w : World) (h : Ic xs C w num env s.list s.defs) (h0 : s.how = 0) (hl : s.list.length ≤ 400) (ha : a < s.list.length) :
    Calls Tryz.prog 133 #[.pointer (some ⟨C, 0, none⟩), .int .i64 a] w fun e w' => Out xs C num env (s.lead a) (.tuple #[]) e w' ∧ IF C w w' := by
  obtain ⟨pv, lv, dv, fv, h⟩ := h
  obtain ⟨L, D, how⟩ := s
  dsimp only at *
  subst h0
  obtain ⟨al, ql, rfl⟩ := own_form h.list
  have hC := h.lt
  obtain ⟨_, c1, _, _, _, f1, _⟩ := h.cells
  obtain ⟨x, hx⟩ : ∃ x, L[a]? = some x := ⟨L[a], by simp [ha]⟩
  have HP : Hid ((⟨L, D, 0⟩ : CS).lead a = ⟨L.set a ⟨x.o, L.length, x.i, x.s⟩, D, 0⟩) := by unfold Hid CS.lead; simp [hx]
  obtain ⟨g, rfl, hg0⟩ : ∃ g, al = some ⟨g, 0, none⟩ ∧ C + 1 ≤ g := by
    rcases h.list.2 with ⟨_, h0⟩ | ⟨g, cap, cur, e, hB, hg, _⟩
    · omega
    · simp only [Value.slice.injEq] at e
      exact ⟨g, e.1, hB⟩
  have hst := h.list.stored (a * 4 + 1) (.int .i64 L.length)
  rw [incs_set L a x ⟨x.o, L.length, x.i, x.s⟩ hx 1 (by omega) _ rfl] at hst
  have ho2 : (w.setCell ⟨g, a * 4 + 1, none⟩ (.int .i64 L.length)).ownsRow (C + 1) 53 4 (.slice (some ⟨g, 0, none⟩) L.length ql) (L.set a ⟨x.o, L.length, x.i, x.s⟩).length (incs (L.set a ⟨x.o, L.length, x.i, x.s⟩)) := by rw [List.length_set]; exact hst.1
  obtain ⟨k1, k2⟩ := h.turnL hst.2 ho2
  have hca := h.list.cellAt (a * 4 + 1) (by omega)
  rw [incs_get L a x hx 1 (by omega)] at hca
  have hfa := h.list.frozenAt (a * 4 + 1)
  have hna : (a : Int) < L.length := by omega
  have hcc : w.cell? ⟨g, a * 4 + 1, none⟩ = some (.int .i64 x.n) := hca
  have hgM : ¬ g = C := by omega
  have hMg : ¬ C = g := by omega
  clear hca
  go_enter Tryz.func133, Tryz.ntmps133
  go_wp2_with fail
  go_region_held (fun w' => w'.cell? ⟨C, 1, none⟩ = some (.slice (some ⟨g, 0, none⟩) L.length ql)) (go_keep) (fail)
  all_goals
    go_wp2_with fail
    exact bodyPost_end (results_nil0 rfl _ _) rfl ⟨by rw [HP.out]; exact Or.inl ⟨rfl, by simpa using hl, rfl, _, _, _, _, k1.on (Below.refl _ _).drew⟩, k2.trans (IF.of_below (Below.refl _ _).drew (by simp; omega))⟩
end Go.Proofs.YtkchakcebdenjaaGreat
/-
  The contracts of the compiler's names and meaning. No condition beyond the compiler's memory.
-/
namespace Go.Proofs.YtkchakcebdenjaaGreat
open Go.RowKit
def idxI : Option Nat → Int
  | some i => i
  | none => -1
theorem beq_symL (a b : List UInt8) : (a == b) = (b == a) := by
  rw [Bool.eq_iff_iff, beq_iff_eq, beq_iff_eq]
  exact eq_comm
theorem memB_idx (s : ByteArray) : ∀ (l : List ByteArray) (i : Nat), memB s l = decide (0 ≤ idxI (idxS l s i))
  | [], _ => rfl
  | t :: l, i => by
    show ((t.toList == s.toList) || memB s l) = _
    rw [idxS]
    cases h : (t.toList == s.toList) with
    | true => simp [idxI]
    | false =>
      rw [memB_idx s l (i + 1)]
      simp
set_option maxRecDepth 100000 in
set_option maxHeartbeats 1600000 in
theorem idxstr_any (v : Value) (l : List ByteArray) (s : ByteArray) (w : World) (R : SRow w v l) :
    Calls Tryz.prog 125 #[v, .string s] w fun e w' => e = .returned (.int .i64 (idxI (idxS l s 0))) ∧ w' = w := by
  obtain ⟨au, cu, rfl⟩ := R.form
  have hmaxl := own_max R
  go_enter Tryz.func125, Tryz.ntmps125
  go_wp2_with fail
  go_loop [8] (fun i => ∃ j : Nat, j ≤ l.length ∧ i = .int .i64 j ∧ Hid (idxS l s 0 = idxS (l.drop j) s j)) (fun i => l.length - (intOf i).toNat)
  case atStart => exact ⟨0, by omega, rfl, rfl⟩
  case round =>
    obtain ⟨j, hj, rfl, HI⟩ := hrel
    by_cases hjl : j < l.length
    · obtain ⟨t, ht⟩ : ∃ t, l[j]? = some t := ⟨l[j], by simp [hjl]⟩
      obtain ⟨gu, rfl, hgu, hcu⟩ := R.cell j t ht
      have HD := idxS_drop l s t j ht
      have hjl' : (j : Int) < l.length := by omega
      cases he : (s.toList == t.toList) with
      | true =>
        have HR : Hid (idxS l s 0 = some j) := by unfold Hid; rw [HI.out, HD, beq_symL, he]; rfl
        clear HD
        go_wp2_with fail
        go_ret
        exact ⟨by rw [HR.out]; rfl, rfl⟩
      | false =>
        have HI2 : Hid (idxS l s 0 = idxS (l.drop (j + 1)) s (j + 1)) := by unfold Hid; rw [HI.out, HD, beq_symL, he]; rfl
        clear HD
        go_wp2_with fail
        go_round
        case rel => exact ⟨j + 1, by omega, by go_num, HI2⟩
        case measure => simp [intOf]; omega
    · have HR : Hid (idxS l s 0 = none) := by
        unfold Hid
        rw [HI.out, List.drop_eq_nil_of_le (by omega)]
        rfl
      have hjl' : ¬ (j : Int) < l.length := by omega
      go_wp2_with fail
      go_ret
      exact ⟨by rw [HR.out]; rfl, rfl⟩
set_option maxHeartbeats 1600000 in
theorem cnstr_any (v : Value) (l : List ByteArray) (s : ByteArray) (w : World) (R : SRow w v l) :
    Calls Tryz.prog 118 #[v, .string s] w fun e w' => e = .returned (.bool (memB s l)) ∧ w' = w := by
  go_enter Tryz.func118, Tryz.ntmps118
  go_wp2_with fail
  refine (idxstr_any v l s _ R).mono ?_
  rintro e w1 ⟨rfl, rfl⟩
  go_wp2
  go_ret
  exact ⟨by rw [memB_idx s l 0]; rfl, rfl⟩
set_option maxRecDepth 100000 in
set_option maxHeartbeats 3200000 in
theorem inamesc_any (xs : List Nd) (C : Nat) (num : Int) (env : Env) (L : List In) (D : List Df) (vl : Value) (l : List Int) (w : World) (h : Ic xs C w num env L D) (T : TRow w vl l) (hv : InP xs l) (hl4 : l.length ≤ 4) :
    Calls Tryz.prog 101 #[.pointer (some ⟨C, 0, none⟩), vl] w fun e w' => ((dupB (nameL xs l) l.length = false ∧ ∃ v', e = .returned v' ∧ w'.ownsRow w.heap.size 9 1 v' (nameL xs l).length ((nameL xs l).map Value.string)) ∨ (dupB (nameL xs l) l.length = true ∧ e = .panicked (oopc 2 num))) ∧ Below w.heap.size w w' := by
  obtain ⟨pv, lv, dv, fv, h⟩ := h
  have hC := h.lt
  obtain ⟨i0, hi, hz0, hz1, hz2⟩ := info_parts Tryz.infoStr
  obtain ⟨al, cl, rfl, hlc, hcm⟩ := T.form
  have hB0 : Below w.heap.size w (w.alloc (Obj.cells #[] 9)) := (Below.refl _ _).alloc (Nat.le_refl _) _
  have hN0 : (w.alloc (Obj.cells #[] 9)).ownsRow w.heap.size 9 1 (.slice (some ⟨w.heap.size, 0, none⟩) 0 0) ([] : List ByteArray).length (([] : List ByteArray).map Value.string) := World.ownsRow_made _ _ 0 (Nat.le_refl _) (by simp) (by simp)
  go_enter Tryz.func101, Tryz.ntmps101
  go_wp2_with fail
  generalize w.alloc (Obj.cells #[] 9) = w1 at *
  go_loopw [5, 12] (fun o i wr => ∃ (ys : List ByteArray), ys.length ≤ l.length ∧ i = .int .i64 ys.length ∧ wr.ownsRow w.heap.size 9 1 o ys.length (ys.map Value.string) ∧ Below w.heap.size w wr ∧ Hid (ys = nameL xs (l.take ys.length) ∧ dupB (nameL xs l) ys.length = false)) (fun _ i _ => l.length - (intOf i).toNat)
  case atStart => exact ⟨[], by simp, rfl, hN0, hB0, by simp [nameL], rfl⟩
  case round =>
    clear hN0 hB0
    obtain ⟨ys, hk, rfl, hor, hbr, HH⟩ := hrel
    obtain ⟨ar, cr, rfl⟩ := own_form hor
    have h2 := h.on hbr
    have c0 := h2.cells.1
    have c3 := h2.cells.2.2.2.1
    have R2 := h2.pool
    by_cases hlt : ys.length < l.length
    · obtain ⟨z, hz⟩ : ∃ z, l[ys.length]? = some z := ⟨l[ys.length], by simp [hlt]⟩
      obtain ⟨n, rfl, hnl⟩ := hv z (List.mem_of_getElem? hz)
      obtain ⟨x, hx⟩ : ∃ x, xs[n]? = some x := ⟨xs[n], by simp [hnl]⟩
      have Tr := T.below hbr
      obtain ⟨g, o, rfl, hg, hc⟩ := Tr.cell ys.length hlt
      have hgd : l.getD ys.length 0 = n := by rw [List.getD_eq_getElem?_getD, hz]; rfl
      rw [hgd] at hc
      obtain ⟨ap, cp, e', _, _, _, hcell⟩ := R2
      subst e'
      obtain ⟨gp, op, rfl, hgp, hcell⟩ := hcell (by intro e; rw [e] at hnl; simp at hnl)
      obtain ⟨d0, d1, d2, d3, d4⟩ := hcell n x hx
      have hlt' : (ys.length : Int) < l.length := by omega
      have HN : Hid ((nameL xs l).getD ys.length ByteArray.empty = x.s ∧ (nameL xs l).take ys.length = ys) := by
        have HX := ndAt_some hx
        refine ⟨?_, ?_⟩
        · unfold nameL
          rw [List.getD_eq_getElem?_getD, List.getElem?_map, hz]
          exact congrArg Nd.s HX
        · rw [HH.out.1]
          unfold nameL
          rw [List.map_take, List.length_take, List.length_map, Nat.min_eq_left hk]
      have HS : Hid (nameL xs (l.take (ys.length + 1)) = ys ++ [x.s]) := by unfold Hid; rw [nameL_snoc xs l ys.length n hz, ← HH.out.1, ndAt_some hx]
      obtain ⟨b, hbb⟩ : ∃ b, Hid (memB x.s ys = b) := ⟨_, rfl⟩
      have HD : Hid (dupB (nameL xs l) (ys.length + 1) = b) := by unfold Hid; rw [dupB, HH.out.2, HN.out.1, HN.out.2, hbb.out]; rfl
      clear hcell hz hgd d0 d1 d3 d4
      go_wp2_with fail
      refine (cnstr_any _ ys x.s _ (own_mono hor (Nat.zero_le _))).mono ?_
      rintro e w3 ⟨rfl, rfl⟩
      rw [hbb.out]
      cases b with
      | true =>
        have HT : Hid (dupB (nameL xs l) l.length = true) := dupB_mono HD.out (by omega)
        go_wp2_with fail
        refine (icwrong_any C 2 num _ c3).mono ?_
        rintro e w4 ⟨rfl, rfl⟩
        go_wp2_with fail
        exact ⟨rfl, Or.inr ⟨HT.out, rfl⟩, hbr⟩
      | false =>
        have hsz3 : w.heap.size ≤ w3.heap.size := hbr.size
        go_wp2_with (at_builtin; refine wpList_append_own _ rfl _ _ 85 rfl w.heap.size 9 i0 (.string ByteArray.empty) 1 16 Tryz.underlying85 hi hz0 hz1 hz2 rfl (by decide) _ _ _ rfl (hor.alloc _) ⟨_, 0, none⟩ 1 1 [.string x.s] rfl rfl (cell_one_new _ _ _) (fun u hu => by simp at hu; subst hu; rfl) (by unfold maxLen; omega) (by omega) (by simp; omega) ?_)
        intro v' w6 hown' hgrow _
        have hown6 : w6.ownsRow w.heap.size 9 1 v' (ys ++ [x.s]).length ((ys ++ [x.s]).map Value.string) := by
          rw [List.map_append, List.length_append]
          exact hown'
        have hB6 : Below w.heap.size w w6 := (hbr.alloc hsz3 _).grown hgrow (by simp; omega) (fun q hq => (hor.lt q hq).1)
        have HH2 : Hid (ys ++ [x.s] = nameL xs (l.take (ys ++ [x.s]).length) ∧ dupB (nameL xs l) (ys ++ [x.s]).length = false) := by
          rw [List.length_append, List.length_singleton]
          exact ⟨HS.out.symm, HD.out⟩
        clear hown' hgrow HH
        go_wp2_with fail
        go_roundw
        case rel => exact ⟨ys ++ [x.s], by simp; omega, by simp, hown6, hB6, HH2⟩
        case measure => simp [intOf]; omega
    · have hlt' : ¬ (ys.length : Int) < l.length := by omega
      have he : ys.length = l.length := by omega
      have HY : Hid (ys = nameL xs l ∧ dupB (nameL xs l) l.length = false) := by
        have := HH.out
        rw [he, List.take_of_length_le (Nat.le_refl _)] at this
        exact this
      clear HH he
      go_wp2_with fail
      go_ret
      refine ⟨Or.inl ⟨HY.out.2, _, rfl, ?_⟩, hbr⟩
      rw [← HY.out.1]
      exact hor
end Go.Proofs.YtkchakcebdenjaaGreat
