/-
  Texts that stood by themselves, laid into one.
-/
import Derived.Test.YtkchakcebdenjaaGreatIc5M
import Derived.Test.YtkchakcebdenjaaGreatBsM
/-
  The contracts of the compiler's function, choice and call, given that of expression. No condition beyond the compiler's memory.
-/
namespace Go.Proofs.YtkchakcebdenjaaGreat
open Go.RowKit
theorem lead_how (s : CS) (a : Nat) : (s.lead a).how = s.how := by
  unfold CS.lead
  split <;> rfl
set_option maxRecDepth 100000 in
set_option maxHeartbeats 3200000 in
theorem ifunc_any (xs : List Nd) (C : Nat) (num : Int) (e : Ex) (hm : Mono e) (hst : Stay e) (vs body : List Int) (vv bv : Value) (s : CS) (env : Env) (w : World) (h : Ic xs C w num env s.list s.defs) (h0 : s.how = 0) (hl : s.list.length ≤ 400) (hen : env.length ≤ 3001) (TV : TRow w vv vs) (hv : InP xs vs) (h4 : vs.length ≤ 4) (ha : allVars xs vs = true) (T : TRow w bv body) (hE : ∀ z ∈ body, ICE xs C num e z ∧ env.length + 1 + z.toNat ≤ 3001) :
    Calls Tryz.prog 131 #[.pointer (some ⟨C, 0, none⟩), .agg #[vv, bv]] w fun r w' => Out xs C num env (cnames e xs vs body env s) (.tuple #[]) r w' ∧ IF C w w' := by
  obtain ⟨av, cv, rfl, _⟩ := TV.form
  obtain ⟨ab, cb, rfl, _⟩ := T.form
  have hC := h.lt
  have hB0 : Below w.heap.size w (w.alloc (Obj.cells #[.slice av vs.length cv, .slice ab body.length cb] 112)) := (Below.refl _ _).alloc (Nat.le_refl _) _
  have hx0 : (w.alloc (Obj.cells #[.slice av vs.length cv, .slice ab body.length cb] 112)).heap[w.heap.size]? = some (.cells #[.slice av vs.length cv, .slice ab body.length cb] 112 (0, 0)) := heap_alloc_new _ _
  have I0 := h.on hB0
  have F0 := IF.of_below (C := C) hB0 (by omega)
  have TV0 := TV.below hB0
  have T0 := T.below hB0
  have k0 := cell_of_row _ _ 0 _ _ _ hx0
  have HN : Hid (namesHow xs vs = if dupB (nameL xs vs) vs.length then 2 else 0) := by unfold Hid namesHow; rw [if_neg (by omega), ha]; rfl
  go_enter Tryz.func131, Tryz.ntmps131
  go_wp2_with fail
  generalize w.alloc (Obj.cells #[.slice av vs.length cv, .slice ab body.length cb] 112) = w0 at *
  refine (inamesc_any xs C num env s.list s.defs _ vs _ I0 TV0 hv h4).mono ?_
  rintro r w1 ⟨hO, hB1⟩
  rcases hO.symm with ⟨hd, rfl⟩ | ⟨hd, v1, rfl, N1⟩
  · have HS : Hid (cnames e xs vs body env s = { s with how := 2 }) := by
      unfold Hid cnames
      rw [HN.out, hd]
      rfl
    go_wp2_with fail
    exact ⟨rfl, by rw [HS.out]; exact Or.inr ⟨by simp, rfl⟩, F0.trans (IF.of_below hB1 (Nat.le_of_lt I0.lt))⟩
  have HS : Hid (cnames e xs vs body env s = cfun e (nameL xs vs) body env s) := by
    unfold Hid cnames
    rw [HN.out, hd]
    rfl
  have I1 := I0.on hB1
  have F1 := F0.trans (IF.of_below hB1 (Nat.le_of_lt I0.lt))
  have T1 := T0.below hB1
  have hx1 := (hB1.block _ (Array.getElem?_eq_some_iff.1 hx0).1).trans hx0
  generalize nameL xs vs = ns at *
  obtain ⟨an, cn, rfl⟩ := own_form N1
  have N1' : SRow w1 (.slice an ns.length cn) ns := own_mono N1 (Nat.zero_le _)
  clear N1 HN hd k0 hx0 I0 T0 TV0 F0 hB0 hB1
  go_wp2_with fail
  refine (iputc_any xs C num env s (ins 6 0 ns.length) _ I1 h0 hl).mono ?_
  rintro r w2 ⟨hO, F2⟩
  rcases hO.symm with ⟨hn, rfl⟩ | ⟨q1, l1, rfl, I2⟩
  · go_wp2_with fail
    exact ⟨rfl, Out.bad hn (HS.out.trans (by unfold cfun; dsimp only; rw [emit_stay (s.emit _) _ hn, lead_stay _ _ hn, show cbody e body (ns :: env) (s.emit (ins 6 0 ns.length)) = s.emit (ins 6 0 ns.length) from cseq_stay _ _ _ _ _ hn, emit_stay _ _ hn, lead_stay _ _ hn])), F1.trans F2⟩
  have hpl : s.place < (s.emit (ins 6 0 ns.length)).list.length := place_lt (Grow.refl _) q1
  obtain ⟨s1, hs1⟩ : ∃ s1, s.emit (ins 6 0 ns.length) = s1 := ⟨_, rfl⟩
  have HF : Hid (cnames e xs vs body env s = (((cbody e body (ns :: env) ((s1.emit (ins 5 0 0)).lead s.place)).emit (ins 8 0 0)).lead s1.place)) := by unfold Hid; rw [HS.out, ← hs1]; rfl
  have hg1 : ∀ s', Grow (s.emit (ins 6 0 ns.length)) s' → s'.how = 0 → s.place < s'.list.length := fun s' hg => place_lt hg
  rw [hs1] at q1 l1 I2 hpl hg1
  generalize s.place = p0 at *
  clear hs1 HS
  have hx2 : w2.heap[w.heap.size]? = some (.cells #[.slice av vs.length cv, .slice ab body.length cb] 112 (0, 0)) := F2.keep _ _ _ _ hx1 (by have := hC; omega) (by decide) (by decide) (by decide)
  have T2 := F2.trow' I1 T1
  have N2 := F2.srow' I1 N1'
  clear hx1 T1 N1' I1
  have FA := F1.trans F2
  clear F1 F2
  go_wp2_with fail
  refine (iputc_any xs C num env s1 (ins 5 0 0) _ I2 q1 l1).mono ?_
  rintro r w3 ⟨hO, F3⟩
  rcases hO.symm with ⟨hn, rfl⟩ | ⟨q2, l2, rfl, I3⟩
  · go_wp2_with fail
    exact ⟨rfl, Out.bad hn (HF.out.trans (by rw [lead_stay _ _ hn, show cbody e body (ns :: env) (s1.emit (ins 5 0 0)) = s1.emit (ins 5 0 0) from cseq_stay _ _ _ _ _ hn, emit_stay _ _ hn, lead_stay _ _ hn])), FA.trans F3⟩
  have hp2 : p0 < (s1.emit (ins 5 0 0)).list.length := hg1 _ (Grow.emit _ _) q2
  have hg2 : ∀ s', Grow (s1.emit (ins 5 0 0)) s' → s'.how = 0 → s1.place < s'.list.length := fun s' hg => place_lt hg
  have hx3 := F3.keep _ _ _ _ hx2 (by have := hC; omega) (by decide) (by decide) (by decide)
  have T3 := F3.trow' I2 T2
  have N3 := F3.srow' I2 N2
  have FB := FA.trans F3
  clear hx2 T2 N2 I2 FA F3 hg1
  obtain ⟨s2, hs2⟩ : ∃ s2, s1.emit (ins 5 0 0) = s2 := ⟨_, rfl⟩
  rw [hs2] at HF q2 l2 I3 hp2 hg2
  generalize s1.place = p1 at *
  clear hs2
  go_wp2_with fail
  refine (ileadc_any xs C num env s2 p0 _ I3 q2 l2 hp2).mono ?_
  rintro r w4 ⟨hO, F4⟩
  have q3 : (s2.lead p0).how = 0 := by rw [lead_how]; exact q2
  rcases hO.symm with ⟨hn, rfl⟩ | ⟨_, l3, rfl, I4⟩
  · exact absurd q3 hn
  have hx4 := F4.keep _ _ _ _ hx3 (by have := hC; omega) (by decide) (by decide) (by decide)
  have T4 := F4.trow' I3 T3
  have N4 := F4.srow' I3 N3
  have FC := FB.trans F4
  have hg3 : ∀ s', Grow (s2.lead p0) s' → s'.how = 0 → p1 < s'.list.length := fun s' hg => hg2 s' ((Grow.lead _ _).trans hg)
  have k1 := cell_of_row _ _ 1 _ _ _ hx4
  clear hx3 T3 N3 I3 FB F4 hg2
  generalize s2.lead p0 = s3 at *
  go_wp2_with fail
  refine (iframec_any xs C num e hst ns _ body _ s3 env _ I4 q3 l3 hen N4 T4 hE).mono ?_
  rintro r w5 ⟨hO, F5⟩
  rcases hO.symm with ⟨hn, rfl⟩ | ⟨q5, l5, rfl, I5⟩
  · go_wp2_with fail
    exact ⟨rfl, Out.bad hn (HF.out.trans (by rw [lead_stay _ _ hn])), FC.trans F5⟩
  have hp5 : p1 < ((cbody e body (ns :: env) s3).emit (ins 8 0 0)).list.length := hg3 _ ((hm.seq _ _ _ _).trans (Grow.emit _ _)) q5
  go_wp2_with fail
  refine (ileadc_any xs C num env _ p1 _ I5 q5 l5 hp5).mono ?_
  rintro r w6 ⟨hO, F6⟩
  rcases hO.symm with ⟨hn, rfl⟩ | ⟨q6, l6, rfl, I6⟩
  · exact absurd (by rw [lead_how]; exact q5) hn
  go_wp2_with fail
  exact bodyPost_end (results_nil0 rfl _ _) rfl ⟨by rw [HF.out]; exact Or.inl ⟨q6, l6, rfl, I6⟩, (FC.trans F5).trans F6⟩
end Go.Proofs.YtkchakcebdenjaaGreat
/-
  The contracts of the compiler's choice and call, given that of expression. No condition beyond the compiler's memory.
-/
namespace Go.Proofs.YtkchakcebdenjaaGreat
open Go.RowKit
set_option maxRecDepth 100000 in
set_option maxHeartbeats 3200000 in
theorem ichoicec_any (xs : List Nd) (C : Nat) (num : Int) (e : Ex) (hm : Mono e) (hst : Stay e) (a b c : Int) (s : CS) (env : Env) (w : World) (h : Ic xs C w num env s.list s.defs) (h0 : s.how = 0) (hl : s.list.length ≤ 400) (hE : ∀ z ∈ [a, b, c], ICE xs C num e z ∧ env.length + z.toNat ≤ 3001) :
    Calls Tryz.prog 130 #[.pointer (some ⟨C, 0, none⟩), .int .i64 a, .int .i64 b, .int .i64 c] w fun r w' => Out xs C num env (cif e a b c env s) (.tuple #[]) r w' ∧ IF C w w' := by
  obtain ⟨ea, ba⟩ := hE a (by simp)
  obtain ⟨eb, bb⟩ := hE b (by simp)
  obtain ⟨ec, bc⟩ := hE c (by simp)
  have HF : Hid (cif e a b c env s = (e c env (((e b env ((e a env s).emit (ins 4 0 0))).emit (ins 5 0 0)).lead (e a env s).place)).lead (e b env ((e a env s).emit (ins 4 0 0))).place) := rfl
  go_enter Tryz.func130, Tryz.ntmps130
  go_wp2_with fail
  refine (ea s env _ h h0 hl ba).mono ?_
  rintro r w1 ⟨hO, F1⟩
  rcases hO.symm with ⟨hn, rfl⟩ | ⟨q1, l1, rfl, I1⟩
  · go_wp2_with fail
    exact ⟨rfl, Out.bad hn (HF.out.trans (by rw [emit_stay _ _ hn, hst _ _ _ hn, emit_stay _ _ hn, lead_stay _ _ hn, hst _ _ _ hn, lead_stay _ _ hn])), F1⟩
  generalize e a env s = s1 at *
  go_wp2_with fail
  refine (iputc_any xs C num env s1 (ins 4 0 0) _ I1 q1 l1).mono ?_
  rintro r w2 ⟨hO, F2⟩
  rcases hO.symm with ⟨hn, rfl⟩ | ⟨q2, l2, rfl, I2⟩
  · go_wp2_with fail
    exact ⟨rfl, Out.bad hn (HF.out.trans (by rw [hst _ _ _ hn, emit_stay _ _ hn, lead_stay _ _ hn, hst _ _ _ hn, lead_stay _ _ hn])), F1.trans F2⟩
  have g2 : ∀ s', Grow (s1.emit (ins 4 0 0)) s' → s'.how = 0 → s1.place < s'.list.length := fun s' hg => place_lt hg
  have FA := F1.trans F2
  clear F1 F2 I1
  generalize s1.emit (ins 4 0 0) = s2 at *
  generalize s1.place = p1 at *
  go_wp2_with fail
  refine (eb s2 env _ I2 q2 l2 bb).mono ?_
  rintro r w3 ⟨hO, F3⟩
  rcases hO.symm with ⟨hn, rfl⟩ | ⟨q3, l3, rfl, I3⟩
  · go_wp2_with fail
    exact ⟨rfl, Out.bad hn (HF.out.trans (by rw [emit_stay _ _ hn, lead_stay _ _ hn, hst _ _ _ hn, lead_stay _ _ hn])), FA.trans F3⟩
  have g3 : ∀ s', Grow (e b env s2) s' → s'.how = 0 → p1 < s'.list.length := fun s' hg => g2 s' ((hm _ _ _).trans hg)
  have FB := FA.trans F3
  clear FA F3 I2 g2
  generalize e b env s2 = s3 at *
  go_wp2_with fail
  refine (iputc_any xs C num env s3 (ins 5 0 0) _ I3 q3 l3).mono ?_
  rintro r w4 ⟨hO, F4⟩
  rcases hO.symm with ⟨hn, rfl⟩ | ⟨q4, l4, rfl, I4⟩
  · go_wp2_with fail
    exact ⟨rfl, Out.bad hn (HF.out.trans (by rw [lead_stay _ _ hn, hst _ _ _ hn, lead_stay _ _ hn])), FB.trans F4⟩
  have g4 : p1 < (s3.emit (ins 5 0 0)).list.length := g3 _ (Grow.emit _ _) q4
  have g5 : ∀ s', Grow (s3.emit (ins 5 0 0)) s' → s'.how = 0 → s3.place < s'.list.length := fun s' hg => place_lt hg
  have FC := FB.trans F4
  clear FB F4 I3 g3
  generalize s3.emit (ins 5 0 0) = s4 at *
  generalize s3.place = p3 at *
  go_wp2_with fail
  refine (ileadc_any xs C num env s4 p1 _ I4 q4 l4 g4).mono ?_
  rintro r w5 ⟨hO, F5⟩
  have q5 : (s4.lead p1).how = 0 := by rw [lead_how]; exact q4
  rcases hO.symm with ⟨hn, rfl⟩ | ⟨_, l5, rfl, I5⟩
  · exact absurd q5 hn
  have g6 : ∀ s', Grow (s4.lead p1) s' → s'.how = 0 → p3 < s'.list.length := fun s' hg => g5 s' ((Grow.lead _ _).trans hg)
  have FD := FC.trans F5
  clear FC F5 I4 g5
  generalize s4.lead p1 = s5 at *
  go_wp2_with fail
  refine (ec s5 env _ I5 q5 l5 bc).mono ?_
  rintro r w6 ⟨hO, F6⟩
  rcases hO.symm with ⟨hn, rfl⟩ | ⟨q6, l6, rfl, I6⟩
  · go_wp2_with fail
    exact ⟨rfl, Out.bad hn (HF.out.trans (by rw [lead_stay _ _ hn])), FD.trans F6⟩
  have g7 : p3 < (e c env s5).list.length := g6 _ (hm _ _ _) q6
  go_wp2_with fail
  refine (ileadc_any xs C num env _ p3 _ I6 q6 l6 g7).mono ?_
  rintro r w7 ⟨hO, F7⟩
  rcases hO.symm with ⟨hn, rfl⟩ | ⟨q7, l7, rfl, I7⟩
  · exact absurd (by rw [lead_how]; exact q6) hn
  go_wp2_with fail
  exact bodyPost_end (results_nil0 rfl _ _) rfl ⟨by rw [HF.out]; exact Or.inl ⟨q7, l7, rfl, I7⟩, (FD.trans F6).trans F7⟩
theorem fold_stay {e : Ex} (hst : Stay e) (env : Env) : ∀ (l : List Int) (s : CS), ¬ s.how = 0 → l.foldl (fun s u => e u env s) s = s
  | [], _, _ => rfl
  | v :: l, s, h => by rw [List.foldl_cons, hst v env s h]; exact fold_stay hst env l s h
set_option maxRecDepth 100000 in
set_option maxHeartbeats 3200000 in
theorem icallc_any (xs : List Nd) (C : Nat) (num : Int) (e : Ex) (hst : Stay e) (l : List Int) (lv : Value) (s : CS) (env : Env) (w : World) (h : Ic xs C w num env s.list s.defs) (h0 : s.how = 0) (hl : s.list.length ≤ 400) (T : TRow w lv l) (hE : ∀ z ∈ l, ICE xs C num e z ∧ env.length + z.toNat ≤ 3001) :
    Calls Tryz.prog 132 #[.pointer (some ⟨C, 0, none⟩), lv] w fun r w' => Out xs C num env (ccall e l env s) (.tuple #[]) r w' ∧ IF C w w' := by
  obtain ⟨ab, cb, rfl, hlc, hcm⟩ := T.form
  go_enter Tryz.func132, Tryz.ntmps132
  go_wp2_with fail
  go_loopw [8] (fun i wr => ∃ (k : Nat) (sk : CS), k ≤ l.length ∧ i = .int .i64 k ∧ sk.how = 0 ∧ sk.list.length ≤ 400 ∧ Ic xs C wr num env sk.list sk.defs ∧ IF C w wr ∧ Hid (l.foldl (fun s u => e u env s) s = (l.drop k).foldl (fun s u => e u env s) sk)) (fun i _ => l.length - (intOf i).toNat)
  case atStart => exact ⟨0, s, by omega, rfl, h0, hl, h, IF.refl _ _, rfl⟩
  case round =>
    obtain ⟨k, sk, hk, rfl, hk0, hkl, hI, hF, HC⟩ := hrel
    by_cases hlt : k < l.length
    · have Tr := hF.trow' h T
      obtain ⟨g, o, rfl, hg, hc⟩ := Tr.cell k hlt
      obtain ⟨z, hz⟩ : ∃ z, l[k]? = some z := ⟨l[k], List.getElem?_eq_getElem hlt⟩
      have hgd : l.getD k 0 = z := by rw [List.getD_eq_getElem?_getD, hz]; rfl
      rw [hgd] at hc
      obtain ⟨hEz, hez⟩ := hE z (List.mem_of_getElem? hz)
      have hlt' : (k : Int) < l.length := by omega
      have HD : Hid (l.foldl (fun s u => e u env s) s = (l.drop (k + 1)).foldl (fun s u => e u env s) (e z env sk)) := by
        unfold Hid
        obtain ⟨hl', he'⟩ := List.getElem?_eq_some_iff.1 hz
        rw [HC.out, List.drop_eq_getElem_cons hl', he', List.foldl_cons]
      clear HC hz hgd Tr
      go_wp2_with fail
      refine (hEz sk env _ hI hk0 hkl hez).mono ?_
      rintro r w5 ⟨hO, hF5⟩
      rcases hO.symm with ⟨hn, rfl⟩ | ⟨q0, ql, rfl, hI5⟩
      · go_wp2_with fail
        exact ⟨rfl, Out.bad hn (by unfold ccall; rw [HD.out, fold_stay hst env _ _ hn, emit_stay _ _ hn]), hF.trans hF5⟩
      go_wp2_with fail
      go_roundw
      case rel => exact ⟨k + 1, e z env sk, by omega, by go_num, q0, ql, hI5, hF.trans hF5, HD⟩
      case measure => simp [intOf]; omega
    · have HR : Hid (l.foldl (fun s u => e u env s) s = sk) := by unfold Hid; rw [HC.out, List.drop_eq_nil_of_le (by omega)]; rfl
      have HR2 : Hid (ccall e l env s = sk.emit (ins 7 0 ((l.length : Int) - 1))) := by unfold Hid ccall; rw [HR.out]
      have hlt' : ¬ (k : Int) < l.length := by omega
      clear HC
      go_wp2_with fail
      refine (iputc_any xs C num env sk (ins 7 0 ((l.length : Int) - 1)) _ hI hk0 hkl).mono ?_
      rintro r w6 ⟨hO, hF6⟩
      rcases hO.symm with ⟨hn, rfl⟩ | ⟨q0, ql, rfl, hI6⟩
      · go_wp2_with fail
        exact ⟨rfl, Out.bad hn HR2.out, hF.trans hF6⟩
      go_wp2_with fail
      exact bodyPost_end (results_nil0 rfl _ _) rfl ⟨by rw [HR2.out]; exact Or.inl ⟨q0, ql, rfl, hI6⟩, hF.trans hF6⟩
end Go.Proofs.YtkchakcebdenjaaGreat
/-
  The contract of spec's l4Define. No condition beyond the compiler's memory, and that the values are there.
-/
namespace Go.Proofs.YtkchakcebdenjaaGreat
open Go.RowKit
theorem dfIdx_none (ds : List Df) (s : ByteArray) (i : Nat) (h : ds.length ≤ i) : dfIdx (ds.drop i) s i = -1 := by
  rw [List.drop_eq_nil_of_le h]
  rfl
theorem Mk.how {xs : List Nd} {M d : Nat} {w : World} {s : CS} (h : Mk xs M d w s) (s' : CS) (h1 : s'.how = s.how) (h2 : ¬ s.how = 0) : Mk xs M d w s' := by
  obtain ⟨pv, lv, dv, L, D, h⟩ := h
  exact ⟨pv, lv, dv, L, D, h.same_how s' h1 (fun e => absurd (h1.symm.trans e) h2)⟩
theorem Mk.wide {xs : List Nd} {M d d' : Nat} {w : World} {s : CS} (h : Mk xs M d w s) (hd : d ≤ d') : Mk xs M d' w s := by
  obtain ⟨pv, lv, dv, L, D, h⟩ := h
  exact ⟨pv, lv, dv, L, D, h.blk, h.pool, h.list, h.defs, h.same, h.len, by have := h.many; omega⟩
def cdef (e : Ex) (name : ByteArray) (names : List ByteArray) (body : List Int) (s : CS) : CS := if s.how = 0 then cdefine e name names body s else s
set_option maxRecDepth 100000 in
set_option maxHeartbeats 6400000 in
theorem s4define_any (xs : List Nd) (M d : Nat) (hd : d ≤ 2097152) (e : Ex) (name : ByteArray) (names : List ByteArray) (nv : Value) (body : List Int) (bv : Value) (s : CS) (w : World) (h : Mk xs M d w s) (N : SRow w nv names) (T : TRow w bv body)
    (hE : ∀ z ∈ body, CE xs M (d + 1) e z ∧ 1 + z.toNat ≤ 3001) :
    Calls Tryz.prog 59 #[.pointer (some ⟨M, 0, none⟩), .string name, nv, bv] w fun r w' => r = .returned (.tuple #[]) ∧ Mk xs M (d + 1) w' (cdef e name names body s) ∧ CF M w w' := by
  obtain ⟨i0, hi, hz0, hz1, hz2⟩ := info_parts Tryz.infoDf
  obtain ⟨ab, cb, rfl, hbc, hcm⟩ := T.form
  obtain ⟨an, cn, rfl⟩ := N.form
  have HT : Hid (TRow w (.slice ab body.length cb) body) := T
  have HN : Hid (SRow w (.slice an names.length cn) names) := N
  have HE : Hid (∀ z ∈ body, CE xs M (d + 1) e z ∧ 1 + z.toNat ≤ 3001) := hE
  have hnl := own_max N
  clear T N hE
  go_enter Tryz.func59, Tryz.ntmps59
  go_wp2_with fail
  go_loopw [8] (fun i wr => ∃ (k : Nat) (hw : Int), k ≤ d + 1 ∧ i = .int .i64 k ∧ Mk xs M d wr ⟨s.list, s.defs, hw⟩ ∧ CF M w wr ∧ Hid ((hw = 0 ∧ s.how = 0 ∧ k ≤ s.defs.length ∧ dfIdx s.defs name 0 = dfIdx (s.defs.drop k) name k) ∨ (hw ≠ 0 ∧ hw = (if s.how = 0 then 2 else s.how) ∧ (s.how = 0 → 0 ≤ dfIdx s.defs name 0)))) (fun i _ => d + 2 - (intOf i).toNat)
  case atStart =>
    refine ⟨0, s.how, by omega, rfl, h, CF.refl _ _, ?_⟩
    by_cases h0 : s.how = 0
    · exact .inl ⟨h0, h0, by omega, rfl⟩
    · exact .inr ⟨h0, by rw [if_neg h0], fun e => absurd e h0⟩
  case round =>
    obtain ⟨k, hw, hkd, rfl, hkr, hfr, HH⟩ := hrel
    have hkr0 := hkr
    obtain ⟨pv, lv, dv, L, D, h2⟩ := hkr
    have hM := h2.lt
    have hmany := h2.many
    have hlen := h2.len
    obtain ⟨al, ql, rfl⟩ := own_form h2.list
    obtain ⟨ad, qd, rfl⟩ := own_form h2.defs
    obtain ⟨_, c1, c2, c3, _, f2, f3⟩ := h2.cells
    dsimp only at c3
    by_cases go : k < D.length ∧ hw = 0
    · obtain ⟨hkD, rfl⟩ := go
      obtain ⟨rfl, rfl⟩ := h2.same rfl
      obtain ⟨h0, hks, hix⟩ : s.how = 0 ∧ k ≤ s.defs.length ∧ dfIdx s.defs name 0 = dfIdx (s.defs.drop k) name k := by
        rcases HH.out with h | h
        · exact h.2
        · exact absurd rfl h.1
      obtain ⟨dk, hdk⟩ : ∃ x, s.defs[k]? = some x := ⟨s.defs[k], by simp [hkD]⟩
      obtain ⟨g, rfl, hg⟩ : ∃ g, ad = some ⟨g, 0, none⟩ ∧ M + 1 ≤ g := by
        rcases h2.defs.2 with ⟨_, h0⟩ | ⟨g, cap, cur, e, hB, hg, _⟩
        · have : s.defs.length = 0 := h0
          omega
        · simp only [Value.slice.injEq] at e
          exact ⟨g, e.1, hB⟩
      have hca := h2.defs.cellAt (k * 3 + 0) (by have : k < s.defs.length := hkD; omega)
      rw [dfcs_get s.defs k dk hdk 0 (by omega)] at hca
      have hcn : wr.cell? ⟨g, k * 3, none⟩ = some (.string dk.s) := hca
      have hkD' : (k : Int) < s.defs.length := by have : k < s.defs.length := hkD; omega
      clear hca
      cases he : (dk.s.toList == name.toList) with
      | true =>
        have HH2 : Hid (((2 : Int) = 0 ∧ s.how = 0 ∧ k + 1 ≤ s.defs.length ∧ dfIdx s.defs name 0 = dfIdx (s.defs.drop (k + 1)) name (k + 1)) ∨ ((2 : Int) ≠ 0 ∧ (2 : Int) = (if s.how = 0 then 2 else s.how) ∧ (s.how = 0 → 0 ≤ dfIdx s.defs name 0))) :=
          .inr ⟨by decide, by rw [if_pos h0], fun _ => by rw [hix, dfIdx_hit s.defs name k dk hdk he]; omega⟩
        obtain ⟨k1, k2⟩ := h2.wrong 2 (by decide) ⟨s.list, s.defs, 2⟩ rfl
        have f2' := hfr.trans k2
        clear HH hix hdk
        go_wp2_with fail
        go_roundw
        case rel => exact ⟨k + 1, 2, by omega, by go_num, k1, f2', HH2⟩
        case measure => simp [intOf]; omega
      | false =>
        have HH2 : Hid (((0 : Int) = 0 ∧ s.how = 0 ∧ k + 1 ≤ s.defs.length ∧ dfIdx s.defs name 0 = dfIdx (s.defs.drop (k + 1)) name (k + 1)) ∨ ((0 : Int) ≠ 0 ∧ (0 : Int) = (if s.how = 0 then 2 else s.how) ∧ (s.how = 0 → 0 ≤ dfIdx s.defs name 0))) :=
          .inl ⟨rfl, h0, hkD, by rw [hix, dfIdx_miss s.defs name k dk hdk he]⟩
        clear HH hix hdk
        go_wp2_with fail
        go_roundw
        case rel => exact ⟨k + 1, 0, by omega, by go_num, hkr0, hfr, HH2⟩
        case measure => simp [intOf]; omega
    · have HS : Hid ((hw = 0 → s.how = 0 ∧ dfIdx s.defs name 0 = -1) ∧ (hw ≠ 0 → hw = (if s.how = 0 then 2 else s.how) ∧ (s.how = 0 → 0 ≤ dfIdx s.defs name 0))) := by
        rcases HH.out with hq | hq
        · refine ⟨fun _ => ⟨hq.2.1, ?_⟩, fun e => absurd hq.1 e⟩
          have hD := (h2.same hq.1).2
          rw [hq.2.2.2]
          exact dfIdx_none s.defs name k (by
            have : ¬ k < D.length := fun hk => go ⟨hk, hq.1⟩
            rw [hD] at this
            have e : (⟨s.list, s.defs, hw⟩ : CS).defs.length = s.defs.length := rfl
            omega)
        · exact ⟨fun e => absurd e hq.1, fun _ => hq.2⟩
      have hsz : M ≠ wr.heap.size := by omega
      clear HH
      by_cases hkD : k < D.length
      case' pos =>
        have hkD' : (k : Int) < D.length := by omega
        have hw0 : ¬ hw = 0 := fun e => go ⟨hkD, e⟩
        have hwb : (hw == 0) = false := by simpa using hw0
      case' neg =>
        have hkD' : ¬ (k : Int) < D.length := by omega
      all_goals
        clear go
        go_wp2_with fail
        go_region_law (refine step_append_lies _ rfl _ _ 31 rfl (M + 1) 51 i0 _ 3 32 Tryz.underlying31 hi hz0 hz1 hz2 rfl (by decide) _ _ _ rfl (h2.defs.alloc _) ⟨wr.heap.size, 0, none⟩ 1 1 (dfcs [⟨name, L.length, names.length⟩]) rfl rfl (World.news_of_block (cs := #[.string name, .int .i64 L.length, .int .i64 names.length]) (t := 51) (fr := (0, 0)) (heap_alloc_new wr _)) (dfcs_one _) (by omega) (by unfold maxLen; omega) (by omega) (by simp; omega) (wr.heap.size + 1) (by simp) ?_; intro g capg w1 hown hgrow hat hgl; have hb1 : w1.heap[M]? = some (.cells #[pv, .slice al L.length ql, .slice ad D.length qd, .int .i64 hw] 61 (0, 0)) := (hgrow.block M (by simp; omega) (fun e => own_ne h2.defs h2.blk (by decide) e.symm)).trans ((heap_alloc_old _ _ hM).trans h2.blk); have kb1 : w1.cell? ⟨M, 0 + 2, none⟩ = some (.slice ad D.length qd) := cell_of_row w1 M 2 _ _ _ hb1; have fb1 : w1.frozen? ⟨M, 0 + 2, none⟩ = false := frozen_of_row w1 M 2 _ _ hb1)
        all_goals
          have hown2 : w1.ownsRow (M + 1) 51 3 (.slice (some ⟨g, 0, none⟩) (D.length + 1) capg) (D ++ [(⟨name, L.length, names.length⟩ : Df)]).length (dfcs (D ++ [(⟨name, L.length, names.length⟩ : Df)])) := by
            rw [dfcs_append, List.length_append]
            exact hown
          have hBx := ((Below.refl wr.heap.size wr).drew.alloc (Nat.le_refl _) (Obj.cells #[.string name, .int .i64 L.length, .int .i64 names.length] 51))
          obtain ⟨k1, k2⟩ := (h2.on hBx).putD hgrow hown2 (d' := d + 1) (by simp; omega) ⟨s.list, s.defs ++ [⟨name, s.list.length, names.length⟩], hw⟩ rfl (fun e => by
            obtain ⟨q1, q2⟩ := h2.same e
            dsimp only at q1 q2
            exact ⟨q1, by rw [q1, q2]⟩)
          have hF := hfr.trans ((CF.of_below (M := M) hBx (by omega)).trans k2)
          clear hown hgrow hat c1 c2 c3 f2 f3 kb1 fb1 hBx hb1 hown2 k2 h2 hkr0
          go_upto_region 6 with fail
          generalize w1.setCell ⟨M, 2, none⟩ (.slice (some ⟨g, 0, none⟩) (D.length + 1) capg) = w5 at *
          have hBe : Below w5.heap.size w5 (w5.alloc (Obj.cells #[.slice an names.length cn] 85)) := (Below.refl _ _).alloc (Nat.le_refl _) _
          have N5 := hF.srow' h HN.out
          have T5 := hF.trow' h HT.out
          have hl5 := own_lit w5 (.slice an names.length cn) 85 0 (Nat.zero_le _)
          have E5 : ERow (w5.alloc (Obj.cells #[.slice an names.length cn] 85)) (.slice (some ⟨w5.heap.size, 0, none⟩) 1 1) [names] := ⟨[.slice an names.length cn], hl5, fun i u hu => by
            have hi0 : i = 0 := by
              have := (List.getElem?_eq_some_iff.1 hu).1
              simp at this
              exact this
            subst hi0
            simp at hu
            subst hu
            exact ⟨rfl, own_below N5 hBe⟩⟩
          go_wp2_with fail
          refine (s4body_any xs M (d + 1) e body _ _ [names] _ _ (k1.on hBe) (T5.below hBe) E5 (fun z hz => ⟨(HE.out z hz).1, (HE.out z hz).2⟩)).mono ?_
          rintro r w6 ⟨rfl, k6, f6⟩
          go_wp2_with fail
          refine (semit_any xs M (d + 1) _ (ins 8 0 0) _ k6).mono ?_
          rintro r w7 ⟨rfl, k7, f7⟩
          go_wp2_with fail
          go_end0
          refine ⟨rfl, ?_, ((hF.trans (CF.of_below (M := M) hBe k1.lt)).trans f6).trans f7⟩
          unfold cdef
          by_cases hq : hw = 0
          · subst hq
            obtain ⟨q1, q2⟩ := HS.out.1 rfl
            rw [if_pos q1]
            unfold cdefine
            rw [q2, if_neg (by decide), q1]
            exact k7
          · obtain ⟨q1, q2⟩ := HS.out.2 hq
            unfold cbody at k7
            rw [cseq_stay e _ _ _ _ (by exact hq), emit_stay _ _ (by exact hq)] at k7
            refine Mk.how k7 _ ?_ (by exact hq)
            show _ = hw
            by_cases h0 : s.how = 0
            · rw [if_pos h0] at q1 ⊢
              unfold cdefine
              rw [if_pos (q2 h0)]
              exact q1.symm
            · rw [if_neg h0] at q1 ⊢
              exact q1.symm
end Go.Proofs.YtkchakcebdenjaaGreat
