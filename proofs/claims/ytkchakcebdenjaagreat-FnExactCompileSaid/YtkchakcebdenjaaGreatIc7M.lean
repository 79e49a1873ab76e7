/-
  Texts that stood by themselves, laid into one.
-/
import Derived.Test.YtkchakcebdenjaaGreatIc5M
/-
  The contracts of the compiler's function, choice and call, given that of expression. No condition beyond the compiler's memory.
-/
namespace Go.Proofs.YtkchakcebdenjaaGreat
open Go.RowKit
theorem lead_how (s : CS) (a : Nat) : (s.lead a).how = s.how := by
  unfold CS.lead
  split <;> rfl
set_option maxRecDepth 100000 in
set_option maxHeartbeats 3200000 in
theorem ifunc_any (xs : List Nd) (C : Nat) (num : Int) (e : Ex) (hm : Mono e) (hst : Stay e) (vs body : List Int) (vv bv : Value) (s : CS) (env : Env) (w : World) (h : Ic xs C w num env s.list s.defs) (h0 : s.how = 0) (hl : s.list.length ≤ 400) (hen : env.length ≤ 3001) (TV : TRow w vv vs) (hv : InP xs vs) (h4 : vs.length ≤ 4) (ha : allVars xs vs = true) (T : TRow w bv body) (hE : ∀ z ∈ body, ICE xs C num e z ∧ env.length + 1 + z.toNat ≤ 3001) :
    Calls Tryz.prog 131 #[.pointer (some ⟨C, 0, none⟩), .agg #[vv, bv]] w fun r w' => Out xs C num env (cnames e xs vs body env s) (.tuple #[]) r w' ∧ IF C w w' := by
  obtain ⟨av, cv, rfl, _⟩ := TV.form
  obtain ⟨ab, cb, rfl, _⟩ := T.form
  have hC := h.lt
  have hB0 : Below w.heap.size w (w.alloc (Obj.cells #[.slice av vs.length cv, .slice ab body.length cb] 112)) := (Below.refl _ _).alloc (Nat.le_refl _) _
  have hx0 : (w.alloc (Obj.cells #[.slice av vs.length cv, .slice ab body.length cb] 112)).heap[w.heap.size]? = some (.cells #[.slice av vs.length cv, .slice ab body.length cb] 112 (0, 0)) := heap_alloc_new _ _
  have I0 := h.on hB0
  have F0 := IF.of_below (C := C) hB0 (by omega)
  have TV0 := TV.below hB0
  have T0 := T.below hB0
  have k0 := cell_of_row _ _ 0 _ _ _ hx0
  have HN : Hid (namesHow xs vs = if dupB (nameL xs vs) vs.length then 2 else 0) := by unfold Hid namesHow; rw [if_neg (by omega), ha]; rfl
  go_enter Tryz.func131, Tryz.ntmps131
  go_wp2_with fail
  generalize w.alloc (Obj.cells #[.slice av vs.length cv, .slice ab body.length cb] 112) = w0 at *
  refine (inamesc_any xs C num env s.list s.defs _ vs _ I0 TV0 hv h4).mono ?_
  rintro r w1 ⟨hO, hB1⟩
  rcases hO.symm with ⟨hd, rfl⟩ | ⟨hd, v1, rfl, N1⟩
  · have HS : Hid (cnames e xs vs body env s = { s with how := 2 }) := by
      unfold Hid cnames
      rw [HN.out, hd]
      rfl
    go_wp2_with fail
    exact ⟨rfl, by rw [HS.out]; exact Or.inr ⟨by simp, rfl⟩, F0.trans (IF.of_below hB1 (Nat.le_of_lt I0.lt))⟩
  have HS : Hid (cnames e xs vs body env s = cfun e (nameL xs vs) body env s) := by
    unfold Hid cnames
    rw [HN.out, hd]
    rfl
  have I1 := I0.on hB1
  have F1 := F0.trans (IF.of_below hB1 (Nat.le_of_lt I0.lt))
  have T1 := T0.below hB1
  have hx1 := (hB1.block _ (Array.getElem?_eq_some_iff.1 hx0).1).trans hx0
  generalize nameL xs vs = ns at *
  obtain ⟨an, cn, rfl⟩ := own_form N1
  have N1' : SRow w1 (.slice an ns.length cn) ns := own_mono N1 (Nat.zero_le _)
  clear N1 HN hd k0 hx0 I0 T0 TV0 F0 hB0 hB1
  go_wp2_with fail
  refine (iputc_any xs C num env s (ins 6 0 ns.length) _ I1 h0 hl).mono ?_
  rintro r w2 ⟨hO, F2⟩
  rcases hO.symm with ⟨hn, rfl⟩ | ⟨q1, l1, rfl, I2⟩
  · go_wp2_with fail
    exact ⟨rfl, Out.bad hn (HS.out.trans (by unfold cfun; dsimp only; rw [emit_stay (s.emit _) _ hn, lead_stay _ _ hn, show cbody e body (ns :: env) (s.emit (ins 6 0 ns.length)) = s.emit (ins 6 0 ns.length) from cseq_stay _ _ _ _ _ hn, emit_stay _ _ hn, lead_stay _ _ hn])), F1.trans F2⟩
  have hpl : s.place < (s.emit (ins 6 0 ns.length)).list.length := place_lt (Grow.refl _) q1
  obtain ⟨s1, hs1⟩ : ∃ s1, s.emit (ins 6 0 ns.length) = s1 := ⟨_, rfl⟩
  have HF : Hid (cnames e xs vs body env s = (((cbody e body (ns :: env) ((s1.emit (ins 5 0 0)).lead s.place)).emit (ins 8 0 0)).lead s1.place)) := by unfold Hid; rw [HS.out, ← hs1]; rfl
  have hg1 : ∀ s', Grow (s.emit (ins 6 0 ns.length)) s' → s'.how = 0 → s.place < s'.list.length := fun s' hg => place_lt hg
  rw [hs1] at q1 l1 I2 hpl hg1
  generalize s.place = p0 at *
  clear hs1 HS
  have hx2 : w2.heap[w.heap.size]? = some (.cells #[.slice av vs.length cv, .slice ab body.length cb] 112 (0, 0)) := F2.keep _ _ _ _ hx1 (by have := hC; omega) (by decide) (by decide) (by decide)
  have T2 := F2.trow' I1 T1
  have N2 := F2.srow' I1 N1'
  clear hx1 T1 N1' I1
  have FA := F1.trans F2
  clear F1 F2
  go_wp2_with fail
  refine (iputc_any xs C num env s1 (ins 5 0 0) _ I2 q1 l1).mono ?_
  rintro r w3 ⟨hO, F3⟩
  rcases hO.symm with ⟨hn, rfl⟩ | ⟨q2, l2, rfl, I3⟩
  · go_wp2_with fail
    exact ⟨rfl, Out.bad hn (HF.out.trans (by rw [lead_stay _ _ hn, show cbody e body (ns :: env) (s1.emit (ins 5 0 0)) = s1.emit (ins 5 0 0) from cseq_stay _ _ _ _ _ hn, emit_stay _ _ hn, lead_stay _ _ hn])), FA.trans F3⟩
  have hp2 : p0 < (s1.emit (ins 5 0 0)).list.length := hg1 _ (Grow.emit _ _) q2
  have hg2 : ∀ s', Grow (s1.emit (ins 5 0 0)) s' → s'.how = 0 → s1.place < s'.list.length := fun s' hg => place_lt hg
  have hx3 := F3.keep _ _ _ _ hx2 (by have := hC; omega) (by decide) (by decide) (by decide)
  have T3 := F3.trow' I2 T2
  have N3 := F3.srow' I2 N2
  have FB := FA.trans F3
  clear hx2 T2 N2 I2 FA F3 hg1
  obtain ⟨s2, hs2⟩ : ∃ s2, s1.emit (ins 5 0 0) = s2 := ⟨_, rfl⟩
  rw [hs2] at HF q2 l2 I3 hp2 hg2
  generalize s1.place = p1 at *
  clear hs2
  go_wp2_with fail
  refine (ileadc_any xs C num env s2 p0 _ I3 q2 l2 hp2).mono ?_
  rintro r w4 ⟨hO, F4⟩
  have q3 : (s2.lead p0).how = 0 := by rw [lead_how]; exact q2
  rcases hO.symm with ⟨hn, rfl⟩ | ⟨_, l3, rfl, I4⟩
  · exact absurd q3 hn
  have hx4 := F4.keep _ _ _ _ hx3 (by have := hC; omega) (by decide) (by decide) (by decide)
  have T4 := F4.trow' I3 T3
  have N4 := F4.srow' I3 N3
  have FC := FB.trans F4
  have hg3 : ∀ s', Grow (s2.lead p0) s' → s'.how = 0 → p1 < s'.list.length := fun s' hg => hg2 s' ((Grow.lead _ _).trans hg)
  have k1 := cell_of_row _ _ 1 _ _ _ hx4
  clear hx3 T3 N3 I3 FB F4 hg2
  generalize s2.lead p0 = s3 at *
  go_wp2_with fail
  refine (iframec_any xs C num e hst ns _ body _ s3 env _ I4 q3 l3 hen N4 T4 hE).mono ?_
  rintro r w5 ⟨hO, F5⟩
  rcases hO.symm with ⟨hn, rfl⟩ | ⟨q5, l5, rfl, I5⟩
  · go_wp2_with fail
    exact ⟨rfl, Out.bad hn (HF.out.trans (by rw [lead_stay _ _ hn])), FC.trans F5⟩
  have hp5 : p1 < ((cbody e body (ns :: env) s3).emit (ins 8 0 0)).list.length := hg3 _ ((hm.seq _ _ _ _).trans (Grow.emit _ _)) q5
  go_wp2_with fail
  refine (ileadc_any xs C num env _ p1 _ I5 q5 l5 hp5).mono ?_
  rintro r w6 ⟨hO, F6⟩
  rcases hO.symm with ⟨hn, rfl⟩ | ⟨q6, l6, rfl, I6⟩
  · exact absurd (by rw [lead_how]; exact q5) hn
  go_wp2_with fail
  exact bodyPost_end (results_nil0 rfl _ _) rfl ⟨by rw [HF.out]; exact Or.inl ⟨q6, l6, rfl, I6⟩, (FC.trans F5).trans F6⟩
end Go.Proofs.YtkchakcebdenjaaGreat
/-
  The contracts of the compiler's choice and call, given that of expression. No condition beyond the compiler's memory.
-/
namespace Go.Proofs.YtkchakcebdenjaaGreat
open Go.RowKit
set_option maxRecDepth 100000 in
set_option maxHeartbeats 3200000 in
theorem ichoicec_any (xs : List Nd) (C : Nat) (num : Int) (e : Ex) (hm : Mono e) (hst : Stay e) (a b c : Int) (s : CS) (env : Env) (w : World) (h : Ic xs C w num env s.list s.defs) (h0 : s.how = 0) (hl : s.list.length ≤ 400) (hE : ∀ z ∈ [a, b, c], ICE xs C num e z ∧ env.length + z.toNat ≤ 3001) :
    Calls Tryz.prog 130 #[.pointer (some ⟨C, 0, none⟩), .int .i64 a, .int .i64 b, .int .i64 c] w fun r w' => Out xs C num env (cif e a b c env s) (.tuple #[]) r w' ∧ IF C w w' := by
  obtain ⟨ea, ba⟩ := hE a (by simp)
  obtain ⟨eb, bb⟩ := hE b (by simp)
  obtain ⟨ec, bc⟩ := hE c (by simp)
  have HF : Hid (cif e a b c env s = (e c env (((e b env ((e a env s).emit (ins 4 0 0))).emit (ins 5 0 0)).lead (e a env s).place)).lead (e b env ((e a env s).emit (ins 4 0 0))).place) := rfl
  go_enter Tryz.func130, Tryz.ntmps130
  go_wp2_with fail
  refine (ea s env _ h h0 hl ba).mono ?_
  rintro r w1 ⟨hO, F1⟩
  rcases hO.symm with ⟨hn, rfl⟩ | ⟨q1, l1, rfl, I1⟩
  · go_wp2_with fail
    exact ⟨rfl, Out.bad hn (HF.out.trans (by rw [emit_stay _ _ hn, hst _ _ _ hn, emit_stay _ _ hn, lead_stay _ _ hn, hst _ _ _ hn, lead_stay _ _ hn])), F1⟩
  generalize e a env s = s1 at *
  go_wp2_with fail
  refine (iputc_any xs C num env s1 (ins 4 0 0) _ I1 q1 l1).mono ?_
  rintro r w2 ⟨hO, F2⟩
  rcases hO.symm with ⟨hn, rfl⟩ | ⟨q2, l2, rfl, I2⟩
  · go_wp2_with fail
    exact ⟨rfl, Out.bad hn (HF.out.trans (by rw [hst _ _ _ hn, emit_stay _ _ hn, lead_stay _ _ hn, hst _ _ _ hn, lead_stay _ _ hn])), F1.trans F2⟩
  have g2 : ∀ s', Grow (s1.emit (ins 4 0 0)) s' → s'.how = 0 → s1.place < s'.list.length := fun s' hg => place_lt hg
  have FA := F1.trans F2
  clear F1 F2 I1
  generalize s1.emit (ins 4 0 0) = s2 at *
  generalize s1.place = p1 at *
  go_wp2_with fail
  refine (eb s2 env _ I2 q2 l2 bb).mono ?_
  rintro r w3 ⟨hO, F3⟩
  rcases hO.symm with ⟨hn, rfl⟩ | ⟨q3, l3, rfl, I3⟩
  · go_wp2_with fail
    exact ⟨rfl, Out.bad hn (HF.out.trans (by rw [emit_stay _ _ hn, lead_stay _ _ hn, hst _ _ _ hn, lead_stay _ _ hn])), FA.trans F3⟩
  have g3 : ∀ s', Grow (e b env s2) s' → s'.how = 0 → p1 < s'.list.length := fun s' hg => g2 s' ((hm _ _ _).trans hg)
  have FB := FA.trans F3
  clear FA F3 I2 g2
  generalize e b env s2 = s3 at *
  go_wp2_with fail
  refine (iputc_any xs C num env s3 (ins 5 0 0) _ I3 q3 l3).mono ?_
  rintro r w4 ⟨hO, F4⟩
  rcases hO.symm with ⟨hn, rfl⟩ | ⟨q4, l4, rfl, I4⟩
  · go_wp2_with fail
    exact ⟨rfl, Out.bad hn (HF.out.trans (by rw [lead_stay _ _ hn, hst _ _ _ hn, lead_stay _ _ hn])), FB.trans F4⟩
  have g4 : p1 < (s3.emit (ins 5 0 0)).list.length := g3 _ (Grow.emit _ _) q4
  have g5 : ∀ s', Grow (s3.emit (ins 5 0 0)) s' → s'.how = 0 → s3.place < s'.list.length := fun s' hg => place_lt hg
  have FC := FB.trans F4
  clear FB F4 I3 g3
  generalize s3.emit (ins 5 0 0) = s4 at *
  generalize s3.place = p3 at *
  go_wp2_with fail
  refine (ileadc_any xs C num env s4 p1 _ I4 q4 l4 g4).mono ?_
  rintro r w5 ⟨hO, F5⟩
  have q5 : (s4.lead p1).how = 0 := by rw [lead_how]; exact q4
  rcases hO.symm with ⟨hn, rfl⟩ | ⟨_, l5, rfl, I5⟩
  · exact absurd q5 hn
  have g6 : ∀ s', Grow (s4.lead p1) s' → s'.how = 0 → p3 < s'.list.length := fun s' hg => g5 s' ((Grow.lead _ _).trans hg)
  have FD := FC.trans F5
  clear FC F5 I4 g5
  generalize s4.lead p1 = s5 at *
  go_wp2_with fail
  refine (ec s5 env _ I5 q5 l5 bc).mono ?_
  rintro r w6 ⟨hO, F6⟩
  rcases hO.symm with ⟨hn, rfl⟩ | ⟨q6, l6, rfl, I6⟩
  · go_wp2_with fail
    exact ⟨rfl, Out.bad hn (HF.out.trans (by rw [lead_stay _ _ hn])), FD.trans F6⟩
  have g7 : p3 < (e c env s5).list.length := g6 _ (hm _ _ _) q6
  go_wp2_with fail
  refine (ileadc_any xs C num env _ p3 _ I6 q6 l6 g7).mono ?_
  rintro r w7 ⟨hO, F7⟩
  rcases hO.symm with ⟨hn, rfl⟩ | ⟨q7, l7, rfl, I7⟩
  · exact absurd (by rw [lead_how]; exact q6) hn
  go_wp2_with fail
  exact bodyPost_end (results_nil0 rfl _ _) rfl ⟨by rw [HF.out]; exact Or.inl ⟨q7, l7, rfl, I7⟩, (FD.trans F6).trans F7⟩
theorem fold_stay {e : Ex} (hst : Stay e) (env : Env) : ∀ (l : List Int) (s : CS), ¬ s.how = 0 → l.foldl (fun s u => e u env s) s = s
  | [], _, _ => rfl
  | v :: l, s, h => by rw [List.foldl_cons, hst v env s h]; exact fold_stay hst env l s h
set_option maxRecDepth 100000 in
set_option maxHeartbeats 3200000 in
theorem icallc_any (xs : List Nd) (C : Nat) (num : Int) (e : Ex) (hst : Stay e) (l : List Int) (lv : Value) (s : CS) (env : Env) (w : World) (h : Ic xs C w num env s.list s.defs) (h0 : s.how = 0) (hl : s.list.length ≤ 400) (T : TRow w lv l) (hE : ∀ z ∈ l, ICE xs C num e z ∧ env.length + z.toNat ≤ 3001) :
    Calls Tryz.prog 132 #[.pointer (some ⟨C, 0, none⟩), lv] w fun r w' => Out xs C num env (ccall e l env s) (.tuple #[]) r w' ∧ IF C w w' := by
  obtain ⟨ab, cb, rfl, hlc, hcm⟩ := T.form
  go_enter Tryz.func132, Tryz.ntmps132
  go_wp2_with fail
  go_loopw [8] (fun i wr => ∃ (k : Nat) (sk : CS), k ≤ l.length ∧ i = .int .i64 k ∧ sk.how = 0 ∧ sk.list.length ≤ 400 ∧ Ic xs C wr num env sk.list sk.defs ∧ IF C w wr ∧ Hid (l.foldl (fun s u => e u env s) s = (l.drop k).foldl (fun s u => e u env s) sk)) (fun i _ => l.length - (intOf i).toNat)
  case atStart => exact ⟨0, s, by omega, rfl, h0, hl, h, IF.refl _ _, rfl⟩
  case round =>
    obtain ⟨k, sk, hk, rfl, hk0, hkl, hI, hF, HC⟩ := hrel
    by_cases hlt : k < l.length
    · have Tr := hF.trow' h T
      obtain ⟨g, o, rfl, hg, hc⟩ := Tr.cell k hlt
      obtain ⟨z, hz⟩ : ∃ z, l[k]? = some z := ⟨l[k], List.getElem?_eq_getElem hlt⟩
      have hgd : l.getD k 0 = z := by rw [List.getD_eq_getElem?_getD, hz]; rfl
      rw [hgd] at hc
      obtain ⟨hEz, hez⟩ := hE z (List.mem_of_getElem? hz)
      have hlt' : (k : Int) < l.length := by omega
      have HD : Hid (l.foldl (fun s u => e u env s) s = (l.drop (k + 1)).foldl (fun s u => e u env s) (e z env sk)) := by
        unfold Hid
        obtain ⟨hl', he'⟩ := List.getElem?_eq_some_iff.1 hz
        rw [HC.out, List.drop_eq_getElem_cons hl', he', List.foldl_cons]
      clear HC hz hgd Tr
      go_wp2_with fail
      refine (hEz sk env _ hI hk0 hkl hez).mono ?_
      rintro r w5 ⟨hO, hF5⟩
      rcases hO.symm with ⟨hn, rfl⟩ | ⟨q0, ql, rfl, hI5⟩
      · go_wp2_with fail
        exact ⟨rfl, Out.bad hn (by unfold ccall; rw [HD.out, fold_stay hst env _ _ hn, emit_stay _ _ hn]), hF.trans hF5⟩
      go_wp2_with fail
      go_roundw
      case rel => exact ⟨k + 1, e z env sk, by omega, by go_num, q0, ql, hI5, hF.trans hF5, HD⟩
      case measure => simp [intOf]; omega
    · have HR : Hid (l.foldl (fun s u => e u env s) s = sk) := by unfold Hid; rw [HC.out, List.drop_eq_nil_of_le (by omega)]; rfl
      have HR2 : Hid (ccall e l env s = sk.emit (ins 7 0 ((l.length : Int) - 1))) := by unfold Hid ccall; rw [HR.out]
      have hlt' : ¬ (k : Int) < l.length := by omega
      clear HC
      go_wp2_with fail
      refine (iputc_any xs C num env sk (ins 7 0 ((l.length : Int) - 1)) _ hI hk0 hkl).mono ?_
      rintro r w6 ⟨hO, hF6⟩
      rcases hO.symm with ⟨hn, rfl⟩ | ⟨q0, ql, rfl, hI6⟩
      · go_wp2_with fail
        exact ⟨rfl, Out.bad hn HR2.out, hF.trans hF6⟩
      go_wp2_with fail
      exact bodyPost_end (results_nil0 rfl _ _) rfl ⟨by rw [HR2.out]; exact Or.inl ⟨q0, ql, rfl, hI6⟩, hF.trans hF6⟩
end Go.Proofs.YtkchakcebdenjaaGreat
