/-
  Texts that stood by themselves, laid into one.
-/
import Derived.Test.YtkchakcebdenjaaGreatIc2M
import Derived.BigQuiet
/-
  The contract of the compiler's meaning. No condition beyond the compiler's memory.
-/
namespace Go.Proofs.YtkchakcebdenjaaGreat
open Go.RowKit
theorem Tryz.sizeIn4 : (Tryz.prog.info? 53).map (·.size) = some 4 := by kernel_rfl
def meanR (env : Env) (s : ByteArray) : In := match findV env s 0 with
  | some (n, i) => ins 2 n i
  | none => ⟨3, 0, 0, s⟩
def inV (x : In) : Value := .agg #[.int .i64 x.o, .int .i64 x.n, .int .i64 x.i, .string x.s]
set_option maxRecDepth 100000 in
set_option maxHeartbeats 3200000 in
theorem imeanc_any (xs : List Nd) (C : Nat) (num : Int) (env : Env) (L : List In) (D : List Df) (s : ByteArray) (w : World) (h : Ic xs C w num env L D) :
    Calls Tryz.prog 129 #[.pointer (some ⟨C, 0, none⟩), .string s] w fun e w' => e = .returned (inV (meanR env s)) ∧ Below w.heap.size w w' := by
  obtain ⟨pv, lv, dv, fv, h⟩ := h
  have hC := h.lt
  obtain ⟨vs, ho, hvs⟩ := h.frm
  obtain ⟨ae, ce, rfl⟩ := own_form ho
  have hmax := own_max ho
  have hB0 : Below w.heap.size w (w.alloc (Obj.cells #[.int .i64 0, .int .i64 0, .int .i64 0, .string ⟨#[]⟩] 53)) := (Below.refl _ _).alloc (Nat.le_refl _) _
  have hx0 := heap_alloc_new w (Obj.cells #[.int .i64 0, .int .i64 0, .int .i64 0, .string ⟨#[]⟩] 53)
  have c4 := (h.on hB0).cells.2.2.2.2.1
  go_enter Tryz.func129, Tryz.ntmps129
  go_wp2_with fail
  generalize w.alloc (Obj.cells #[.int .i64 0, .int .i64 0, .int .i64 0, .string ⟨#[]⟩] 53) = w1 at *
  go_loopw [12] (fun i wr => ∃ k : Nat, k ≤ env.length ∧ i = .int .i64 k ∧ Below w.heap.size w wr ∧ wr.heap[w.heap.size]? = some (.cells #[.int .i64 0, .int .i64 0, .int .i64 0, .string ⟨#[]⟩] 53 (0, 0)) ∧ Hid (findV env s 0 = findV (env.drop k) s k)) (fun i _ => env.length - (intOf i).toNat)
  case atStart => exact ⟨0, by omega, rfl, hB0, hx0, rfl⟩
  case round =>
    clear hB0 hx0 c4
    obtain ⟨k, hk, rfl, hbr, hxr, HF⟩ := hrel
    have h2 := h.on hbr
    have c4 := h2.cells.2.2.2.2.1
    by_cases hlt : k < env.length
    · obtain ⟨m, hm⟩ : ∃ m : Nat, m = env.length - 1 - k := ⟨_, rfl⟩
      have hme : (env.length : Int) - 1 - (k : Int) = (m : Int) := by omega
      have hml : m < env.length := by omega
      have hml' : (m : Int) < (env.length : Int) := by omega
      obtain ⟨g, u, rfl, hu, hg, hc⟩ := own_el (own_below ho hbr) m hml
      have hS := (hvs m u hu).2
      have hev : env.reverse.getD m [] = env.getD k [] := by
        rw [List.getD_eq_getElem?_getD, List.getD_eq_getElem?_getD, List.getElem?_reverse hml, show env.length - 1 - m = k by omega]
      rw [hev] at hS
      have HF2 : Hid (findV env s 0 = (match idxS (env.getD k []) s 0 with
        | some i => some (k, i)
        | none => findV (env.drop (k + 1)) s (k + 1))) := HF.out.trans (findV_drop env s k hlt)
      generalize env.getD k [] = l at hS HF2 hev
      have hlt' : (k : Int) < env.length := by omega
      have hSr := own_below hS hbr
      have hSd := own_below hSr (below_dN wr 1)
      obtain ⟨qv, hqv⟩ : ∃ q, Hid (idxI (idxS l s 0) = q) := ⟨_, rfl⟩
      clear HF hev hm hu
      go_wp2_with fail
      have IQ : ∀ n, Calls Tryz.prog 125 #[u, .string s] (wr.drewN n) fun e w' => e = .returned (.int .i64 qv) ∧ w' = wr.drewN n := fun n => by
        have := idxstr_any u l s (wr.drewN n) (own_below hSr (below_dN wr n))
        rw [hqv.out] at this
        exact this
      go_quiet (first | (go_at_call 125; refine Calls.quiet_of_same (IQ _)))
      all_goals
        have hbD : ∀ n, Below w.heap.size w (wr.drewN n) := fun n => hbr.trans ((below_dN wr n).mono hbr.size)
        have hxD : ∀ n, (wr.drewN n).heap[w.heap.size]? = some (.cells #[.int .i64 0, .int .i64 0, .int .i64 0, .string ⟨#[]⟩] 53 (0, 0)) := fun _ => hxr
        obtain ⟨q, hq⟩ : ∃ q, idxS l s 0 = q := ⟨_, rfl⟩
        rw [hq] at HF2 hqv
        clear hq
        cases q with
        | some i =>
          have HR : Hid (meanR env s = ins 2 k i) := by unfold Hid meanR; rw [HF2.out]
          obtain rfl : (i : Int) = qv := hqv.out
          have hi0 : (0 : Int) ≤ (i : Int) := by omega
          go_wp2_with (refine wpList_store_own2 rfl 53 _ _ rfl w.heap.size #[.int .i64 2, .int .i64 k, .int .i64 i, .string ⟨#[]⟩] rfl rfl 53 #[.int .i64 0, .int .i64 0, .int .i64 0, .string ⟨#[]⟩] (hxD _) Tryz.sizeIn4 rfl (by simp [Value.oneCell']) ?_)
          intro w9 hh9 hb9 hs9 _
          have hB9 := (hbD _).trans hb9
          go_wp2
          exact bodyPost_ret (results_cell_row rfl _ _ w.heap.size 53 _ (0, 0) _ rfl hh9 Tryz.underlying53 rfl Tryz.sizeIn4) rfl ⟨by rw [HR.out]; rfl, hB9⟩
        | none =>
          obtain rfl : (-1 : Int) = qv := hqv.out
          have HF3 : Hid (findV env s 0 = findV (env.drop (k + 1)) s (k + 1)) := HF2
          go_wp2_with fail
          go_roundw
          case rel => exact ⟨k + 1, by omega, by go_num, hbD _, hxD _, HF3⟩
          case measure => simp [intOf]; omega
    · have HR : Hid (meanR env s = ⟨3, 0, 0, s⟩) := by
        unfold Hid meanR
        rw [HF.out, List.drop_eq_nil_of_le (by omega)]
        rfl
      have hlt' : ¬ (k : Int) < env.length := by omega
      clear HF
      go_wp2_with (refine wpList_store_own2 rfl 53 _ _ rfl w.heap.size #[.int .i64 3, .int .i64 0, .int .i64 0, .string s] rfl rfl 53 #[.int .i64 0, .int .i64 0, .int .i64 0, .string ⟨#[]⟩] hxr Tryz.sizeIn4 rfl (by simp [Value.oneCell']) ?_)
      intro w9 hh9 hb9 hs9 _
      have hB9 := hbr.trans (hb9.mono (by omega))
      go_wp2
      exact bodyPost_ret (results_cell_row rfl _ _ w.heap.size 53 _ (0, 0) _ rfl hh9 Tryz.underlying53 rfl Tryz.sizeIn4) rfl ⟨by rw [HR.out]; rfl, hB9⟩
end Go.Proofs.YtkchakcebdenjaaGreat
/-
  The contracts of the compiler's body and frame, given that of expression. No condition beyond the compiler's memory.
-/
namespace Go.Proofs.YtkchakcebdenjaaGreat
open Go.RowKit
def ICE (xs : List Nd) (C : Nat) (num : Int) (e : Ex) (v : Int) : Prop := ∀ (s : CS) (env : Env) (w : World), Ic xs C w num env s.list s.defs → s.how = 0 → s.list.length ≤ 400 → env.length + v.toNat ≤ 3001 →
  Calls Tryz.prog 126 #[.pointer (some ⟨C, 0, none⟩), .int .i64 v] w fun r w' => Out xs C num env (e v env s) (.tuple #[]) r w' ∧ IF C w w'
theorem Out.bad {xs : List Nd} {C : Nat} {num : Int} {env' : Env} {s s' : CS} {r : Value} {w' : World} (hn : s.how ≠ 0) (e : s' = s) : Out xs C num env' s' r (.panicked (oopc s.how (plc num s.how))) w' := by
  subst e
  exact Or.inr ⟨hn, rfl⟩
set_option maxRecDepth 100000 in
set_option maxHeartbeats 3200000 in
theorem ibodyc_any (xs : List Nd) (C : Nat) (num : Int) (e : Ex) (hst : Stay e) (body : List Int) (bv : Value) (s : CS) (env : Env) (w : World) (h : Ic xs C w num env s.list s.defs) (h0 : s.how = 0) (hl : s.list.length ≤ 400) (T : TRow w bv body) (hE : ∀ z ∈ body, ICE xs C num e z ∧ env.length + z.toNat ≤ 3001) :
    Calls Tryz.prog 119 #[.pointer (some ⟨C, 0, none⟩), bv] w fun r w' => Out xs C num env (cbody e body env s) (.tuple #[]) r w' ∧ IF C w w' := by
  obtain ⟨ab, cb, rfl, hlc, hcm⟩ := T.form
  go_enter Tryz.func119, Tryz.ntmps119
  go_wp2_with fail
  go_loopw [8] (fun i wr => ∃ (k : Nat) (sk : CS), k ≤ body.length ∧ i = .int .i64 k ∧ sk.how = 0 ∧ sk.list.length ≤ 400 ∧ Ic xs C wr num env sk.list sk.defs ∧ IF C w wr ∧ Hid (cbody e body env s = cseq e env (body.drop k) (decide (k = 0)) sk)) (fun i _ => body.length - (intOf i).toNat)
  case atStart => exact ⟨0, s, by omega, rfl, h0, hl, h, IF.refl _ _, rfl⟩
  case round =>
    obtain ⟨k, sk, hk, rfl, hk0, hkl, hI, hF, HC⟩ := hrel
    by_cases hlt : k < body.length
    · have Tr := hF.trow' h T
      obtain ⟨g, o, rfl, hg, hc⟩ := Tr.cell k hlt
      obtain ⟨z, hz⟩ : ∃ z, body[k]? = some z := ⟨body[k], List.getElem?_eq_getElem hlt⟩
      have hgd : body.getD k 0 = z := by rw [List.getD_eq_getElem?_getD, hz]; rfl
      rw [hgd] at hc
      obtain ⟨hEz, hez⟩ := hE z (List.mem_of_getElem? hz)
      have hlt' : (k : Int) < body.length := by omega
      have HD : Hid (cbody e body env s = cseq e env (body.drop (k + 1)) false (e z env (if decide (k = 0) then sk else sk.emit (ins 9 0 0)))) := by
        unfold Hid
        obtain ⟨hl', he'⟩ := List.getElem?_eq_some_iff.1 hz
        rw [HC.out, List.drop_eq_getElem_cons hl', he', cseq, if_pos hk0]
      clear HC hz hgd Tr
      by_cases hkz : k = 0
      · subst hkz
        have HD2 : Hid (cbody e body env s = cseq e env (body.drop (0 + 1)) false (e z env sk)) := HD
        have hc' : wr.cell? ⟨g, o, none⟩ = some (.int .i64 z) := hc
        go_wp2_with fail
        refine (hEz sk env _ hI hk0 hkl hez).mono ?_
        rintro r w5 ⟨hO, hF5⟩
        rcases hO with ⟨q0, ql, rfl, hI5⟩ | ⟨hn, rfl⟩
        · go_wp2_with fail
          go_roundw
          case rel => exact ⟨1, e z env sk, by omega, by go_num, q0, ql, hI5, hF.trans hF5, HD2⟩
          case measure => simp [intOf]; omega
        · go_wp2_with fail
          exact ⟨rfl, Out.bad hn (HD2.out.trans (by rw [cseq_stay _ _ _ _ _ hn])), hF.trans hF5⟩
      · have HD2 : Hid (cbody e body env s = cseq e env (body.drop (k + 1)) false (e z env (sk.emit (ins 9 0 0)))) := by unfold Hid; rw [HD.out, decide_eq_false hkz]; rfl
        have hkp : (0 : Int) < (k : Int) := by omega
        go_wp2_with fail
        refine (iputc_any xs C num env sk (ins 9 0 0) _ hI hk0 hkl).mono ?_
        rintro r w4 ⟨hO, hF4⟩
        rcases hO with ⟨p0, pl, rfl, hI4⟩ | ⟨hn, rfl⟩
        · go_wp2_with fail
          refine (hEz (sk.emit (ins 9 0 0)) env _ hI4 p0 pl hez).mono ?_
          rintro r w5 ⟨hO, hF5⟩
          rcases hO with ⟨q0, ql, rfl, hI5⟩ | ⟨hn, rfl⟩
          · go_wp2_with fail
            go_roundw
            case rel => exact ⟨k + 1, e z env (sk.emit (ins 9 0 0)), by omega, by go_num, q0, ql, hI5, (hF.trans hF4).trans hF5, HD2⟩
            case measure => simp [intOf]; omega
          · go_wp2_with fail
            exact ⟨rfl, Out.bad hn (HD2.out.trans (by rw [cseq_stay _ _ _ _ _ hn])), (hF.trans hF4).trans hF5⟩
        · go_wp2_with fail
          exact ⟨rfl, Out.bad hn (HD2.out.trans (by rw [hst _ _ _ hn, cseq_stay _ _ _ _ _ hn])), hF.trans hF4⟩
    · have HR : Hid (cbody e body env s = sk) := by unfold Hid; rw [HC.out, List.drop_eq_nil_of_le (by omega)]; rfl
      have hlt' : ¬ (k : Int) < body.length := by omega
      clear HC
      go_wp2_with fail
      exact bodyPost_end (results_nil0 rfl _ _) rfl ⟨by rw [HR.out]; exact Or.inl ⟨hk0, hkl, rfl, hI⟩, hF⟩
end Go.Proofs.YtkchakcebdenjaaGreat
/-
  The contract of the compiler's frame, given that of expression. No condition beyond the compiler's memory.
-/
namespace Go.Proofs.YtkchakcebdenjaaGreat
open Go.RowKit
theorem own_cut {w : World} {B k n m g cap : Nat} {t : TypeId} {l : List Value} (h : w.ownsRow B t k (.slice (some ⟨g, 0, none⟩) n cap) n l) (hm : m ≤ n) : w.ownsRow B t k (.slice (some ⟨g, 0, none⟩) m cap) m (l.take (m * k)) := by
  have hmk : m * k ≤ n * k := Nat.mul_le_mul_right k hm
  refine ⟨by rw [List.length_take, h.1]; omega, ?_⟩
  rcases h.2 with ⟨e, _⟩ | ⟨g', cap', cur, e, hb, hg, hnc, hcm, hcs, htake⟩
  · cases e
  · simp only [Value.slice.injEq, Option.some.injEq, Addr.mk.injEq, true_and, and_true] at e
    obtain ⟨rfl, rfl⟩ := e
    refine Or.inr ⟨g, cap, cur, rfl, hb, hg, by omega, hcm, hcs, ?_⟩
    rw [← htake, List.take_take, Nat.min_eq_left hmk]
section
variable {xs : List Nd} {C : Nat} {w w1 : World} {num : Int} {env env' : Env} {pv lv dv fv fv' : Value} {L : List In} {D : List Df}
theorem IC.putF (h : IC xs C w num env pv lv dv fv L D) (hg : w.grownBy w1 fv.ownBlock) (hf : FRow w1 (C + 1) fv' env') : IC xs C (w1.setCell ⟨C, 4, none⟩ fv') num env' pv lv dv fv' L D ∧ IF C w (w1.setCell ⟨C, 4, none⟩ fv') := by
  have hC := h.lt
  obtain ⟨vs, ho, _⟩ := h.frm
  have hF := (IF.of_grown ho (.inr (.inr rfl)) hC hg).trans (IF.of_set w1 4 fv')
  have hb : w1.heap[C]? = some (.cells #[pv, lv, dv, .int .i64 num, fv] 71 (0, 0)) := (hg.block C hC (fun e => own_ne ho h.blk (by decide) e.symm)).trans h.blk
  have ne : ∀ {e : TypeId} {m n : Nat} {v : Value} {l : List Value} {B : Nat}, w1.ownsRow B e m v n l → 71 ≠ e → (w1.setCell ⟨C, 4, none⟩ fv').ownsRow B e m v n l := fun ho he => ownsRow_setCell_other ho (a := ⟨C, 4, none⟩) (own_ne ho hb he) _
  exact ⟨⟨heap_setCell_same w1 C 4 _ _ fv' hb, h.pool.under h.out hF.below, h.out, ne (h.list.kept hg (own_apart h.list ho (by decide))) (by decide), ne (h.defs.kept hg (own_apart h.defs ho (by decide))) (by decide), hf.set hb (by decide) (by decide)⟩, hF⟩
end
set_option maxRecDepth 100000 in
set_option maxHeartbeats 3200000 in
theorem iframec_any (xs : List Nd) (C : Nat) (num : Int) (e : Ex) (hst : Stay e) (names : List ByteArray) (nv : Value) (body : List Int) (bv : Value) (s : CS) (env : Env) (w : World) (h : Ic xs C w num env s.list s.defs) (h0 : s.how = 0) (hl : s.list.length ≤ 400) (hen : env.length ≤ 3001) (N : SRow w nv names) (T : TRow w bv body) (hE : ∀ z ∈ body, ICE xs C num e z ∧ env.length + 1 + z.toNat ≤ 3001) :
    Calls Tryz.prog 102 #[.pointer (some ⟨C, 0, none⟩), nv, bv] w fun r w' => Out xs C num env ((cbody e body (names :: env) s).emit (ins 8 0 0)) (.tuple #[]) r w' ∧ IF C w w' := by
  obtain ⟨pv, lv, dv, fv, h⟩ := h
  obtain ⟨i0, hi, hz0, hz1, hz2⟩ := info_parts Tryz.infoSs
  obtain ⟨vs, ho, hvs⟩ := h.frm
  have hvl := ho.1
  obtain ⟨af, cf, rfl⟩ := own_form ho
  obtain ⟨an, cn, rfl⟩ := N.form
  have hC := h.lt
  obtain ⟨_, _, _, _, c4, _, _, _, f4⟩ := h.cells
  have hB0 : Below w.heap.size w (w.alloc (Obj.cells #[.slice an names.length cn] 85)) := (Below.refl _ _).alloc (Nat.le_refl _) _
  go_enter Tryz.func102, Tryz.ntmps102
  go_wp2_with (at_builtin; refine wpList_append_own _ rfl _ _ 69 rfl (C + 1) 85 i0 (.slice none 0 0) 1 24 Tryz.underlying69 hi hz0 hz1 hz2 rfl (by decide) _ _ _ rfl (ho.alloc _) ⟨_, 0, none⟩ 1 1 [.slice an names.length cn] rfl rfl (cell_one_new _ _ _) (fun u hu => by simp at hu; subst hu; rfl) (by unfold maxLen; omega) (by omega) (by simp; omega) ?_)
  intro v' w1 hown hgrow _
  obtain ⟨av, cv, rfl⟩ := own_form hown
  have h1 := h.on hB0
  have hfr : FRow w1 (C + 1) (.slice av (env.length + 1) cv) (names :: env) := by
    refine ⟨vs ++ [.slice an names.length cn], by rw [List.length_cons]; exact hown, fun i u hu => ?_⟩
    have ho1 := own_below ho hB0
    have hk : ∀ {u : Value} {ss : List ByteArray}, SRow w u ss → SRow w1 u ss := fun r => (own_below r hB0).kept hgrow (own_apart (own_below r hB0) ho1 (by decide))
    rw [List.reverse_cons]
    by_cases hi : i < env.length
    · rw [List.getElem?_append_left (by omega)] at hu
      obtain ⟨q1, q2⟩ := hvs i u hu
      refine ⟨q1, ?_⟩
      rw [List.getD_eq_getElem?_getD, List.getElem?_append_left (by rw [List.length_reverse]; exact hi), ← List.getD_eq_getElem?_getD]
      exact hk q2
    · rw [List.getElem?_append_right (by omega)] at hu
      have hi0 : i - vs.length = 0 := by
        have := (List.getElem?_eq_some_iff.1 hu).1
        simp at this
        omega
      rw [hi0] at hu
      simp at hu
      subst hu
      refine ⟨rfl, ?_⟩
      have hie : i = env.length := by
        have : i - env.length = 0 := by omega
        omega
      rw [List.getD_eq_getElem?_getD, List.getElem?_append_right (by rw [List.length_reverse]; omega), List.length_reverse, hie, Nat.sub_self]
      exact hk N
  obtain ⟨K1, F1⟩ := h1.putF hgrow hfr
  have hF := (IF.of_below (C := C) hB0 (by omega)).trans F1
  have hb1 : w1.heap[C]? = some (.cells #[pv, lv, dv, .int .i64 num, .slice af env.length cf] 71 (0, 0)) := (hgrow.block C (Nat.lt_of_lt_of_le hC hB0.size) (fun e => own_ne (own_below ho hB0) h1.blk (by decide) e.symm)).trans h1.blk
  have c4' : w1.cell? ⟨C, 4, none⟩ = some (.slice af env.length cf) := cell_of_row w1 C 4 _ _ _ hb1
  have f4' : w1.frozen? ⟨C, 4, none⟩ = false := frozen_of_row w1 C 4 _ _ hb1
  clear c4 f4 hown hgrow h1 hfr F1 hb1
  go_wp2_with fail
  refine (ibodyc_any xs C num e hst body bv s (names :: env) _ ⟨_, _, _, _, K1⟩ h0 hl (hF.trow h.blk T) (fun z hz => ⟨(hE z hz).1, by rw [List.length_cons]; exact (hE z hz).2⟩)).mono ?_
  rintro r w5 ⟨hO, hF5⟩
  rcases hO with ⟨q0, ql, rfl, hI5⟩ | ⟨hn, rfl⟩
  · go_wp2_with fail
    refine (iputc_any xs C num _ _ (ins 8 0 0) _ hI5 q0 ql).mono ?_
    rintro r w6 ⟨hO, hF6⟩
    rcases hO with ⟨p0, pl, rfl, hI6⟩ | ⟨hn, rfl⟩
    · obtain ⟨pv6, lv6, dv6, fv6, K6⟩ := hI6
      obtain ⟨vs6, ho6, hvs6⟩ := K6.frm
      obtain ⟨a6, c6, rfl⟩ := own_form ho6
      obtain ⟨g, u0, rfl, _, hg6, _⟩ := own_el ho6 0 (by simp)
      rw [List.length_cons] at ho6
      have hcut := own_cut ho6 (show env.length ≤ env.length + 1 by omega)
      have hvl6 := ho6.1
      have hfr7 : FRow w6 (C + 1) (.slice (some ⟨g, 0, none⟩) env.length c6) env := by
        refine ⟨_, hcut, fun i u hu => ?_⟩
        have hil : i < env.length := by
          have := (List.getElem?_eq_some_iff.1 hu).1
          rw [List.length_take] at this
          omega
        rw [List.getElem?_take, if_pos (by omega)] at hu
        obtain ⟨q1, q2⟩ := hvs6 i u hu
        refine ⟨q1, ?_⟩
        rw [List.reverse_cons, List.getD_eq_getElem?_getD, List.getElem?_append_left (by rw [List.length_reverse]; exact hil), ← List.getD_eq_getElem?_getD] at q2
        exact q2
      have K6' : IC xs C w6 num (names :: env) pv6 lv6 dv6 (.slice (some ⟨g, 0, none⟩) (env.length + 1) c6) _ _ := K6
      obtain ⟨K7, F7⟩ := K6'.putF (World.grownBy.refl _ _) hfr7
      obtain ⟨_, _, _, _, k4, _, _, _, fr4⟩ := K6'.cells
      have hC6 := K6'.lt
      have hFF := ((hF.trans hF5).trans hF6).trans F7
      have hme : ((env.length : Int) + 1) - 1 = (env.length : Int) := by omega
      have hmc : env.length + 1 ≤ c6 := by
        rcases ho6.2 with ⟨e1, _⟩ | ⟨g', cap', cur, e1, _, _, hnc, _⟩
        · cases e1
        · simp only [Value.slice.injEq] at e1
          omega
      have hc0 : ¬ c6 = 0 := by omega
      have hcn : env.length ≤ c6 := by omega
      clear K6 K6' F7 ho6 hcut hfr7 hvs6 hF hF5 hF6 hvs ho
      go_wp2_with fail
      go_region
      all_goals
        go_wp2_with fail
        exact bodyPost_end (results_nil0 rfl _ _) rfl ⟨Or.inl ⟨p0, pl, rfl, _, _, _, _, K7.on (Below.refl _ _).drew⟩, hFF.trans (IF.of_below (Below.refl _ _).drew (by simp; omega))⟩
    · go_wp2_with fail
      exact ⟨rfl, Out.bad hn rfl, (hF.trans hF5).trans hF6⟩
  · go_wp2_with fail
    exact ⟨rfl, Out.bad hn (emit_stay _ _ hn), hF.trans hF5⟩
end Go.Proofs.YtkchakcebdenjaaGreat
