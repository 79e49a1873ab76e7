/-
  The contract of spec's l4Form, given that of l4Expr. No condition beyond the compiler's memory, and that the values are there.
-/
import Derived.Test.YtkchakcebdenjaaGreatTxtM
namespace Go.Proofs.YtkchakcebdenjaaGreat
open Go.RowKit
theorem chain_mem {xs : List Nd} (hp : poolB xs = true) (B : Nat) : ∀ (f j : Nat) (acc l : List Int), (∀ z ∈ acc, ∃ n : Nat, z = n ∧ n < B) → j ≤ B → chain xs f j acc = some l → ∀ z ∈ l, ∃ n : Nat, z = n ∧ n < B := by
  intro f
  induction f with
  | zero => intro j acc l _ _ h; simp [chain] at h
  | succ f ih =>
    intro j acc l ha hj h
    rw [chain] at h
    cases hx : xs[j]? with
    | none => rw [hx] at h; cases h
    | some x =>
      rw [hx] at h
      dsimp only at h
      split at h
      · rename_i h5
        obtain ⟨a, b, e1, e2, l1, l2⟩ := pool_pair hp hx h5
        rw [e2, Int.toNat_natCast] at h
        refine ih b _ l (fun z hz => ?_) (by omega) h
        rcases List.mem_append.1 hz with hz | hz
        · exact ha z hz
        · rw [List.mem_singleton] at hz
          exact ⟨a, by rw [hz, e1], by omega⟩
      · split at h
        · cases h; exact ha
        · cases h
theorem chainR_mem {xs : List Nd} (hp : poolB xs = true) (v : Nat) : ∀ z ∈ (chainR xs v).1, ∃ n : Nat, z = n ∧ n < v := by
  intro z hz
  unfold chainR at hz
  cases h : chain xs (v + 1) v [] with
  | none => rw [h] at hz; simp at hz
  | some l =>
    rw [h] at hz
    exact chain_mem hp v _ _ _ _ (fun z hz => by simp at hz) (Nat.le_refl _) h z hz
theorem pool_s2 {xs : List Nd} (hp : poolB xs = true) : xs.length ≤ 3000 ∧ ∀ x ∈ xs, x.s.size ≤ maxLen := by
  have hl : xs.length ≤ 3000 := by simp only [poolB, Bool.and_eq_true, decide_eq_true_eq] at hp; exact hp.1
  refine ⟨hl, fun x hx => ?_⟩
  obtain ⟨i, hi, rfl⟩ := List.getElem_of_mem hx
  have h := pool_at hp (List.getElem?_eq_getElem hi)
  simp only [nodeB, Bool.and_eq_true] at h
  obtain ⟨_, ⟨hn, _⟩, _⟩ := h
  unfold maxLen
  unfold nameFB at hn
  split at hn
  · simp only [nameB, Bool.and_eq_true, decide_eq_true_eq] at hn
    have := hn.1.2
    omega
  · have e : (xs[i].s).toList = [] := by simpa using hn
    rw [ByteArray.toList_eq] at e
    have := congrArg List.length e
    rw [Array.length_toList] at this
    have h0 : (xs[i].s).size = 0 := this
    omega
def Stay (e : Ex) : Prop := ∀ v env s, ¬ s.how = 0 → e v env s = s
theorem cseq_stay (e : Ex) (env : Env) (l : List Int) (b : Bool) (s : CS) (h : ¬ s.how = 0) : cseq e env l b s = s := by
  cases l with
  | nil => rfl
  | cons v l => rw [cseq, if_neg h]
theorem emit_stay (s : CS) (x : In) (h : ¬ s.how = 0) : s.emit x = s := by unfold CS.emit; rw [if_neg h]
theorem lead_stay (s : CS) (a : Nat) (h : ¬ s.how = 0) : s.lead a = s := by unfold CS.lead; rw [if_neg h]
theorem cfun_stay (e : Ex) (ns : List ByteArray) (body : List Int) (env : Env) (s : CS) (h : ¬ s.how = 0) : cfun e ns body env s = s := by
  unfold cfun cbody
  dsimp only
  rw [emit_stay s _ h, emit_stay s _ h, lead_stay s _ h, cseq_stay e _ _ _ s h, emit_stay s _ h, lead_stay s _ h]
theorem TRow.one {w : World} {g o n cap : Nat} {l : List Int} (h : TRow w (.slice (some ⟨g, o, none⟩) n cap) l) (k : Nat) (hk : k < l.length) : TRow w (.slice (some ⟨g, o + k, none⟩) 1 (cap - k)) [l.getD k 0] := by
  obtain ⟨ao', cap', e, h1, h2, h3⟩ := h
  simp only [Value.slice.injEq] at e
  obtain ⟨rfl, rfl, rfl⟩ := e
  refine ⟨_, _, rfl, by simp; omega, by omega, fun _ => ?_⟩
  obtain ⟨g', o', cur, fr, e, hg, hc⟩ := h3 (by rintro rfl; simp at hk)
  simp only [Option.some.injEq, Addr.mk.injEq, and_true] at e
  obtain ⟨rfl, rfl⟩ := e
  refine ⟨g, o + k, cur, fr, rfl, hg, fun i hi => ?_⟩
  have : i = 0 := by simpa using hi
  subst this
  exact hc k hk
def Elt (xs : List Nd) (M d : Nat) (e : Ex) (n : Nat) (z : Int) : Prop := ∃ k : Nat, z = k ∧ k < xs.length ∧ CE xs M d e k ∧ n + 1 + k ≤ 3001
set_option maxRecDepth 100000 in
set_option maxHeartbeats 6400000 in
theorem s4form_any (xs : List Nd) (hp : poolB xs = true) (M d : Nat) (e : Ex) (hm : Mono e) (hst : Stay e) (head : ByteArray) (l : List Int) (lv : Value) (s : CS) (env : Env) (ev : Value) (w : World) (h : Mk xs M d w s) (h0 : s.how = 0) (T : TRow w lv l) (E : ERow w ev env)
    (hE : ∀ z ∈ l, Elt xs M d e env.length z) (hne : 0 < l.length) :
    Calls Tryz.prog 124 #[.pointer (some ⟨M, 0, none⟩), .string head, lv, ev] w fun r w' => r = .returned (.tuple #[]) ∧ Mk xs M d w' (cform e xs head l env s) ∧ CF M w w' := by
  obtain ⟨al, cl, rfl, hlc, hcm⟩ := T.form
  obtain ⟨ae, ce, rfl⟩ := E.form
  obtain ⟨g, o, rfl, _, _⟩ := T.cell 0 hne
  have HT : Hid (TRow w (.slice (some ⟨g, o, none⟩) l.length cl) l) := T
  have HE : Hid (ERow w (.slice ae env.length ce) env) := E
  have HH : Hid (s.how = 0) := h0
  have hlist : Hid (∀ k, k < l.length → Elt xs M d e env.length (l.getD k 0)) := fun k hk => hE _ (by rw [List.getD_eq_getElem?_getD, List.getElem?_eq_getElem hk]; exact List.getElem_mem _)
  clear T E h0
  have hk0 := h
  obtain ⟨pv, lv', dv, L, D, h2⟩ := hk0
  obtain ⟨c0, _, _, c3, _, _, f3⟩ := h2.cells
  have bad : ∃ (s' : CS), s' = { s with how := 1 } ∧ Mk xs M d (w.setCell ⟨M, 3, none⟩ (.int .i64 1)) s' ∧ CF M w (w.setCell ⟨M, 3, none⟩ (.int .i64 1)) := ⟨_, rfl, h2.wrong 1 (by decide) _ rfl⟩
  obtain ⟨sb, esb, kb, fb⟩ := bad
  have HE2 : Hid (∀ z ∈ l, Elt xs M d e env.length z) := hE
  clear hE
  have at_ : Hid (∀ (W : World), CF M w W → ∀ k, k < l.length → W.cell? ⟨g, o + k, none⟩ = some (.int .i64 (l.getD k 0))) := fun W hF k hk => by
    obtain ⟨g', o', e', _, hc'⟩ := (hF.trow' h HT.out).cell k hk
    simp only [Option.some.injEq, Addr.mk.injEq, and_true] at e'
    obtain ⟨rfl, rfl⟩ := e'
    exact hc'
  obtain ⟨z1, e1⟩ : ∃ z, Hid (l.getD 1 0 = z) := ⟨_, rfl⟩
  obtain ⟨z2, e2⟩ : ∃ z, Hid (l.getD 2 0 = z) := ⟨_, rfl⟩
  obtain ⟨z3, e3⟩ : ∃ z, Hid (l.getD 3 0 = z) := ⟨_, rfl⟩
  have at1 : Hid (∀ (W : World), CF M w W → 1 < l.length → W.cell? ⟨g, o + 1, none⟩ = some (.int .i64 z1)) := fun W hF hk => by rw [← e1.out]; exact at_.out W hF 1 hk
  have at2 : Hid (∀ (W : World), CF M w W → 2 < l.length → W.cell? ⟨g, o + 2, none⟩ = some (.int .i64 z2)) := fun W hF hk => by rw [← e2.out]; exact at_.out W hF 2 hk
  have at3 : Hid (∀ (W : World), CF M w W → 3 < l.length → W.cell? ⟨g, o + 3, none⟩ = some (.int .i64 z3)) := fun W hF hk => by rw [← e3.out]; exact at_.out W hF 3 hk
  have el1 : Hid (1 < l.length → Elt xs M d e env.length z1) := fun hk => by rw [← e1.out]; exact hlist.out 1 hk
  have el2 : Hid (2 < l.length → Elt xs M d e env.length z2) := fun hk => by rw [← e2.out]; exact hlist.out 2 hk
  have el3 : Hid (3 < l.length → Elt xs M d e env.length z3) := fun hk => by rw [← e3.out]; exact hlist.out 3 hk
  clear at_ hlist
  go_enter Tryz.func124, Tryz.ntmps124
  by_cases q1 : head.toList = [113, 117, 111, 116, 101]
  · have b1 : (head.toList == [113, 117, 111, 116, 101]) = true := by rw [q1]; decide
    have b2 : (head.toList == [105, 102]) = false := by rw [q1]; decide
    have b3 : (head.toList == [100, 111]) = false := by rw [q1]; decide
    have b4 : (head.toList == [102, 110]) = false := by rw [q1]; decide
    have b5 : (head.toList == [108, 101, 116]) = false := by rw [q1]; decide
    have HF : Hid (cform e xs head l env s = if l.length = 2 then s.emit (ins 1 z1 0) else { s with how := 1 }) := by
      unfold Hid cform isW wQuote wIf wFn wDo wLet
      rw [e1.out]
      simp [b1, b2, b3, b4, b5]
    clear q1
    by_cases hn : l.length = 2
    · have HR : Hid (cform e xs head l env s = s.emit (ins 1 z1 0)) := by unfold Hid; rw [HF.out, if_pos hn]
      have hc := at1.out w (CF.refl _ _) (by omega)
      have hn' : (l.length : Int) = 2 := by omega
      have hn1 : (1 : Int) < l.length := by omega
      clear HF
      go_wp2_with fail
      refine (semit_any xs M d s (ins 1 z1 0) _ h).mono ?_
      rintro r w1 ⟨rfl, k1, f1⟩
      go_wp2_with fail
      go_end0
      exact ⟨rfl, by rw [HR.out]; exact k1, f1⟩
    · have HR : Hid (cform e xs head l env s = sb) := by unfold Hid; rw [HF.out, if_neg hn, esb]
      have hn' : ((l.length : Int) == 2) = false := by simp; omega
      have hn2 : decide ((l.length : Int) = 2) = false := by simp; omega
      clear HF hn
      go_wp2_with fail
      go_end0
      exact ⟨rfl, by rw [HR.out]; exact kb, fb⟩
  by_cases q2 : head.toList = [105, 102]
  · have b1 : (head.toList == [113, 117, 111, 116, 101]) = false := by rw [q2]; decide
    have b2 : (head.toList == [105, 102]) = true := by rw [q2]; decide
    have b3 : (head.toList == [100, 111]) = false := by rw [q2]; decide
    have b4 : (head.toList == [102, 110]) = false := by rw [q2]; decide
    have b5 : (head.toList == [108, 101, 116]) = false := by rw [q2]; decide
    have HF : Hid (cform e xs head l env s = if l.length = 4 then cif e z1 z2 z3 env s else { s with how := 1 }) := by
      unfold Hid cform isW wQuote wIf wFn wDo wLet
      rw [e1.out, e2.out, e3.out]
      simp [b1, b2, b3, b4, b5]
    clear q1 q2
    by_cases hn : l.length = 4
    · have HR : Hid (cform e xs head l env s = cif e z1 z2 z3 env s) := by unfold Hid; rw [HF.out, if_pos hn]
      have hc1 := at1.out w (CF.refl _ _) (by omega)
      obtain ⟨n1, rfl, ln1, ce1, en1⟩ := el1.out (by omega)
      obtain ⟨n2, rfl, ln2, ce2, en2⟩ := el2.out (by omega)
      obtain ⟨n3, rfl, ln3, ce3, en3⟩ := el3.out (by omega)
      have hn' : (l.length : Int) = 4 := by omega
      have hn1 : (1 : Int) < l.length := by omega
      have hn2 : (2 : Int) < l.length := by omega
      have hn3 : (3 : Int) < l.length := by omega
      have hnN : 1 < l.length ∧ 2 < l.length ∧ 3 < l.length := by omega
      have HNN : Hid (1 < l.length ∧ 2 < l.length ∧ 3 < l.length) := hnN
      clear HF hnN c3 f3
      go_wp2_with fail
      refine (ce1 s env _ w h HE.out (by simp; omega)).mono ?_
      rintro r w1 ⟨rfl, k1, f1⟩
      go_wp2_with fail
      refine (semit_any xs M d _ (ins 4 0 0) _ k1).mono ?_
      rintro r w2 ⟨rfl, k2, f2⟩
      have f2' := f1.trans f2
      have hc2 := at2.out w2 f2' HNN.out.2.1
      go_wp2_with fail
      refine (ce2 _ env _ w2 k2 (f2'.erow' h HE.out) (by simp; omega)).mono ?_
      rintro r w3 ⟨rfl, k3, f3⟩
      have f3' := f2'.trans f3
      go_wp2_with fail
      refine (semit_any xs M d _ (ins 5 0 0) _ k3).mono ?_
      rintro r w4 ⟨rfl, k4, f4⟩
      have f4' := f3'.trans f4
      go_wp2_with fail
      refine (sto_any xs M d _ _ _ k4 (place_lt ((hm _ _ _).trans (Grow.emit _ _)))).mono ?_
      rintro r w5 ⟨rfl, k5, f5⟩
      have f5' := f4'.trans f5
      have hc3 := at3.out w5 f5' HNN.out.2.2
      go_wp2_with fail
      refine (ce3 _ env _ w5 k5 (f5'.erow' h HE.out) (by simp; omega)).mono ?_
      rintro r w6 ⟨rfl, k6, f6⟩
      have f6' := f5'.trans f6
      go_wp2_with fail
      refine (sto_any xs M d _ _ _ k6 (place_lt ((Grow.lead _ _).trans (hm _ _ _)))).mono ?_
      rintro r w7 ⟨rfl, k7, f7⟩
      go_wp2_with fail
      go_end0
      exact ⟨rfl, by rw [HR.out]; exact k7, f6'.trans f7⟩
    · have HR : Hid (cform e xs head l env s = sb) := by unfold Hid; rw [HF.out, if_neg hn, esb]
      have hn' : ((l.length : Int) == 4) = false := by simp; omega
      have hn2 : decide ((l.length : Int) = 4) = false := by simp; omega
      clear HF hn
      go_wp2_with fail
      go_end0
      exact ⟨rfl, by rw [HR.out]; exact kb, fb⟩
  by_cases q3 : head.toList = [100, 111]
  · have b1 : (head.toList == [113, 117, 111, 116, 101]) = false := by rw [q3]; decide
    have b2 : (head.toList == [105, 102]) = false := by rw [q3]; decide
    have b3 : (head.toList == [100, 111]) = true := by rw [q3]; decide
    have b4 : (head.toList == [102, 110]) = false := by rw [q3]; decide
    have b5 : (head.toList == [108, 101, 116]) = false := by rw [q3]; decide
    have HF : Hid (cform e xs head l env s = if 2 ≤ l.length then cbody e (l.drop 1) env s else { s with how := 1 }) := by
      unfold Hid cform isW wQuote wIf wFn wDo wLet
      simp [b1, b2, b3, b4, b5]
    clear q1 q2 q3
    by_cases hn : 2 ≤ l.length
    · have HR : Hid (cform e xs head l env s = cbody e (l.drop 1) env s) := by unfold Hid; rw [HF.out, if_pos hn]
      have hn' : (2 : Int) ≤ l.length := by omega
      have hT1 := HT.out.drop 1 (by omega)
      clear HF
      go_wp2_with fail
      refine (s4body_any xs M d e (l.drop 1) _ s env _ w h hT1 HE.out (fun z hz => by
        obtain ⟨k, rfl, _, hc, hb⟩ := HE2.out z (List.mem_of_mem_drop hz)
        exact ⟨hc, by simp; omega⟩)).mono ?_
      rintro r w1 ⟨rfl, k1, f1⟩
      go_wp2_with fail
      go_end0
      exact ⟨rfl, by rw [HR.out]; exact k1, f1⟩
    · have HR : Hid (cform e xs head l env s = sb) := by unfold Hid; rw [HF.out, if_neg hn, esb]
      have hn' : ¬ (2 : Int) ≤ l.length := by omega
      have hn2 : decide ((2 : Int) ≤ l.length) = false := by simp; omega
      clear HF
      go_wp2_with fail
      go_end0
      exact ⟨rfl, by rw [HR.out]; exact kb, fb⟩
  have HPS := pool_s2 hp
  by_cases q4 : head.toList = [102, 110]
  · have b1 : (head.toList == [113, 117, 111, 116, 101]) = false := by rw [q4]; decide
    have b2 : (head.toList == [105, 102]) = false := by rw [q4]; decide
    have b3 : (head.toList == [100, 111]) = false := by rw [q4]; decide
    have b4 : (head.toList == [102, 110]) = true := by rw [q4]; decide
    have b5 : (head.toList == [108, 101, 116]) = false := by rw [q4]; decide
    have HF : Hid (cform e xs head l env s = if 3 ≤ l.length then (if (chainR xs z1.toNat).2 then cnames e xs (chainR xs z1.toNat).1 (l.drop 2) env s else { s with how := 1 }) else { s with how := 1 }) := by
      unfold Hid cform isW wQuote wIf wFn wDo wLet
      rw [e1.out]
      simp [b1, b2, b3, b4, b5]
    clear q1 q2 q3 q4
    by_cases hn : 3 ≤ l.length
    · have hn' : (3 : Int) ≤ l.length := by omega
      obtain ⟨n1, rfl, ln1, ce1, en1⟩ := el1.out (by omega)
      rw [if_pos hn, Int.toNat_natCast] at HF
      have hc1 := at1.out w (CF.refl _ _) (by omega)
      have hn1 : (1 : Int) < l.length := by omega
      have R := NRow.of_own h2.pool (by omega) HPS.2
      obtain ⟨ap, cp, rfl⟩ := own_form h2.pool
      have hgl := World.block_lt_of_cell? _ _ hc1
      go_wp2_with fail
      go_region_held (fun w' => w'.cell? ⟨M, 0, none⟩ = some (.slice ap xs.length cp) ∧ w'.cell? ⟨g, o + 1, none⟩ = some (.int .i64 n1)) (first | exact ⟨d0, d1⟩ | go_keep) (first
        | (go_at_call 58; refine (slistof_in ap cp xs n1 _ ?_ hp ln1).mono ?_; exact R.below (Below.refl _ _).drew; rintro r w1 ⟨v1, rfl, ho1, hb1⟩; have hb01 : Below w.heap.size w w1 := (Below.refl _ _).drew.trans hb1; have d0 := (hb01.cell (p := ⟨M, 0, none⟩) h2.lt).trans c0; have d1 := (hb01.cell (p := ⟨g, o + 1, none⟩) hgl).trans hc1))
      have k1 := h.on hb01
      have f1 := CF.of_below (M := M) hb01 h.lt
      have h21 := h2.on hb01
      have T1 := TRow.of_own ho1
      obtain ⟨_, _, _, c31, _, _, f31⟩ := h21.cells
      clear c3 f3 d0 d1 R hc1
      cases hch : (chainR xs n1).2 with
      | false =>
        have HR : Hid (cform e xs head l env s = { s with how := 1 }) := by unfold Hid; rw [HF.out, hch]; rfl
        obtain ⟨kb1, fb1⟩ := h21.wrong 1 (by decide) { s with how := 1 } rfl
        clear HF
        go_wp2_with fail
        exact bodyPost_ret (results_none rfl _ _ _) rfl ⟨rfl, by rw [HR.out]; exact kb1, f1.trans fb1⟩
      | true =>
        have HF2 : Hid (cform e xs head l env s = cnames e xs (chainR xs n1).1 (l.drop 2) env s) := by unfold Hid; rw [HF.out, hch]; rfl
        have hmem := chainR_mem hp n1
        generalize (chainR xs n1).1 = args at *
        clear HF
        go_wp2_with fail
        refine (s4names_any xs M d s _ args _ k1 HH.out T1 (fun z hz => by obtain ⟨k, e, hk⟩ := hmem z hz; exact ⟨k, e, by omega⟩)).mono ?_
        rintro r w2 ⟨v2, ys, rfl, S2, hy4, hys, k2, f2⟩
        have f2' := f1.trans f2
        have hT2 := (f2'.trow' h HT.out).drop 2 (by omega)
        have hl30 : env.length ≤ 3000 := by omega
        have hn2 : (2 : Int) ≤ l.length := by omega
        go_wp2_with fail
        refine (s4fun_any xs M d e ys _ (l.drop 2) _ _ env _ w2 k2 S2 hT2 (f2'.erow' h HE.out) hm hl30 (fun z hz => by
          obtain ⟨k, rfl, _, hc, hb⟩ := HE2.out z (List.mem_of_mem_drop hz)
          exact ⟨hc, by simp; omega⟩)).mono ?_
        rintro r w3 ⟨rfl, k3, f3⟩
        have HR : Hid (cform e xs head l env s = cfun e ys (l.drop 2) env ⟨s.list, s.defs, namesHow xs args⟩) := by
          unfold Hid
          rw [HF2.out]
          unfold cnames
          by_cases hnh : namesHow xs args = 0
          · have hs : s = ⟨s.list, s.defs, 0⟩ := by
              have := HH.out
              obtain ⟨a, b, c⟩ := s
              dsimp only at this ⊢
              rw [this]
            rw [if_pos hnh, hys hnh, hnh, ← hs]
          · rw [if_neg hnh, cfun_stay _ _ _ _ _ (by exact hnh)]
        go_wp2_with fail
        go_end0
        exact ⟨rfl, by rw [HR.out]; exact k3, f2'.trans f3⟩
    · have HR : Hid (cform e xs head l env s = sb) := by unfold Hid; rw [HF.out, if_neg hn, esb]
      have hn' : ¬ (3 : Int) ≤ l.length := by omega
      have hn2 : decide ((3 : Int) ≤ l.length) = false := by simp; omega
      clear HF
      go_wp2_with fail
      go_end0
      exact ⟨rfl, by rw [HR.out]; exact kb, fb⟩
  by_cases q5 : head.toList = [108, 101, 116]
  · have b1 : (head.toList == [113, 117, 111, 116, 101]) = false := by rw [q5]; decide
    have b2 : (head.toList == [105, 102]) = false := by rw [q5]; decide
    have b3 : (head.toList == [100, 111]) = false := by rw [q5]; decide
    have b4 : (head.toList == [102, 110]) = false := by rw [q5]; decide
    have b5 : (head.toList == [108, 101, 116]) = true := by rw [q5]; decide
    have HF : Hid (cform e xs head l env s = if 4 ≤ l.length then (if namesHow xs [z1] = 0 then (e z2 env (cfun e (nameL xs [z1]) (l.drop 3) env s)).emit (ins 7 0 1) else { s with how := namesHow xs [z1] }) else { s with how := 1 }) := by
      unfold Hid cform isW wQuote wIf wFn wDo wLet
      rw [e1.out, e2.out]
      simp [b1, b2, b3, b4, b5]
    clear q1 q2 q3 q4 q5
    by_cases hn : 4 ≤ l.length
    · have hn' : (4 : Int) ≤ l.length := by omega
      obtain ⟨n1, rfl, ln1, ce1, en1⟩ := el1.out (by omega)
      obtain ⟨n2, rfl, ln2, ce2, en2⟩ := el2.out (by omega)
      rw [if_pos hn] at HF
      have T1 := HT.out.one 1 (by omega)
      rw [e1.out] at T1
      have hn2' : (2 : Int) ≤ l.length := by omega
      go_wp2_with fail
      refine (s4names_any xs M d s _ [(n1 : Int)] _ h HH.out T1 (fun z hz => by rw [List.mem_singleton] at hz; exact ⟨n1, hz, ln1⟩)).mono ?_
      rintro r w2 ⟨v2, ys, rfl, S2, hy4, hys, k2, f2'⟩
      have hT2 := (f2'.trow' h HT.out).drop 3 (by omega)
      have hl30 : env.length ≤ 3000 := by omega
      have hn3 : (3 : Int) ≤ l.length := by omega
      clear c3 f3
      go_wp2_with fail
      refine (s4fun_any xs M d e ys _ (l.drop 3) _ _ env _ w2 k2 S2 hT2 (f2'.erow' h HE.out) hm hl30 (fun z hz => by
        obtain ⟨k, rfl, _, hc, hb⟩ := HE2.out z (List.mem_of_mem_drop hz)
        exact ⟨hc, by simp; omega⟩)).mono ?_
      rintro r w3 ⟨rfl, k3, f3⟩
      have f3' := f2'.trans f3
      have hc2 := at2.out w3 f3' (by omega)
      have hn22 : (2 : Int) < l.length := by omega
      go_wp2_with fail
      refine (ce2 _ env _ w3 k3 (f3'.erow' h HE.out) (by simp; omega)).mono ?_
      rintro r w4 ⟨rfl, k4, f4⟩
      go_wp2_with fail
      refine (semit_any xs M d _ (ins 7 0 1) _ k4).mono ?_
      rintro r w5 ⟨rfl, k5, f5⟩
      have HR : Hid (cform e xs head l env s = (e n2 env (cfun e ys (l.drop 3) env ⟨s.list, s.defs, namesHow xs [(n1 : Int)]⟩)).emit (ins 7 0 1)) := by
        unfold Hid
        rw [HF.out]
        by_cases hnh : namesHow xs [(n1 : Int)] = 0
        · have hs : s = ⟨s.list, s.defs, 0⟩ := by
            have := HH.out
            obtain ⟨a, b, c⟩ := s
            dsimp only at this ⊢
            rw [this]
          rw [if_pos hnh, hys hnh, hnh, ← hs]
        · rw [if_neg hnh, cfun_stay _ _ _ _ _ (by exact hnh), hst _ _ _ (by exact hnh), emit_stay _ _ (by exact hnh)]
      go_wp2_with fail
      go_end0
      exact ⟨rfl, by rw [HR.out]; exact k5, (f3'.trans f4).trans f5⟩
    · have HR : Hid (cform e xs head l env s = sb) := by unfold Hid; rw [HF.out, if_neg hn, esb]
      have hn' : ¬ (4 : Int) ≤ l.length := by omega
      have hn2 : decide ((4 : Int) ≤ l.length) = false := by simp; omega
      clear HF
      go_wp2_with fail
      go_end0
      exact ⟨rfl, by rw [HR.out]; exact kb, fb⟩
  have b1 : (head.toList == [113, 117, 111, 116, 101]) = false := by simpa using q1
  have b2 : (head.toList == [105, 102]) = false := by simpa using q2
  have b3 : (head.toList == [100, 111]) = false := by simpa using q3
  have b4 : (head.toList == [102, 110]) = false := by simpa using q4
  have b5 : (head.toList == [108, 101, 116]) = false := by simpa using q5
  have HR : Hid (cform e xs head l env s = sb) := by
    unfold Hid cform isW wQuote wIf wFn wDo wLet
    rw [esb]
    simp [b1, b2, b3, b4, b5]
  clear q1 q2 q3 q4 q5
  go_wp2_with fail
  go_end0
  exact ⟨rfl, by rw [HR.out]; exact kb, fb⟩
end Go.Proofs.YtkchakcebdenjaaGreat
