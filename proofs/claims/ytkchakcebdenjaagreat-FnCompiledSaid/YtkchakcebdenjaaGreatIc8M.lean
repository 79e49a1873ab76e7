/-
  Texts that stood by themselves, laid into one.
-/
import Derived.Test.YtkchakcebdenjaaGreatInstrM
import Derived.Test.YtkchakcebdenjaaGreatMkListM
import Derived.Test.YtkchakcebdenjaaGreatSCp9M
/-
  What is compiled has no long names: plain mathematics. Nothing of the program; no condition.
-/
namespace Go.Proofs.YtkchakcebdenjaaGreat
open Go.RowKit
def Sm (s : CS) : Prop := (∀ x ∈ s.list, x.s.size ≤ 12) ∧ (∀ x ∈ s.defs, x.s.size ≤ 12)
theorem Sm.emit {s : CS} (h : Sm s) (x : In) (hx : x.s.size ≤ 12) : Sm (s.emit x) := by
  unfold CS.emit
  split
  · split
    · exact h
    · refine ⟨fun y hy => ?_, h.2⟩
      rcases List.mem_append.1 hy with hy | hy
      · exact h.1 y hy
      · rw [List.mem_singleton] at hy; rw [hy]; exact hx
  · exact h
theorem Sm.ins {s : CS} (h : Sm s) (o n i : Int) : Sm (s.emit (ins o n i)) := h.emit _ (Nat.zero_le _)
theorem Sm.lead {s : CS} (h : Sm s) (a : Nat) : Sm (s.lead a) := by
  unfold CS.lead
  split
  · refine ⟨fun y hy => ?_, h.2⟩
    dsimp only at hy
    split at hy
    · rename_i x hx
      rcases List.mem_or_eq_of_mem_set hy with hy | rfl
      · exact h.1 y hy
      · exact h.1 x (List.mem_of_getElem? hx)
    · exact h.1 y hy
  · exact h
def SmE (e : Ex) : Prop := ∀ v env s, Sm s → Sm (e v env s)
theorem SmE.seq {e : Ex} (h : SmE e) (env : Env) : ∀ (l : List Int) (b : Bool) (s : CS), Sm s → Sm (cseq e env l b s) := by
  intro l
  induction l with
  | nil => intro b s hs; exact hs
  | cons v l ih =>
    intro b s hs
    rw [cseq]
    split
    · refine ih false _ (h v env _ ?_)
      split
      · exact hs
      · exact hs.ins _ _ _
    · exact hs
theorem SmE.fn {e : Ex} (h : SmE e) (names : List ByteArray) (body : List Int) (env : Env) (s : CS) (hs : Sm s) : Sm (cfun e names body env s) := by
  unfold cfun
  exact ((h.seq _ _ _ _ (((hs.ins _ _ _).ins _ _ _).lead _)).ins _ _ _).lead _
theorem SmE.fold {e : Ex} (h : SmE e) (env : Env) : ∀ (l : List Int) (s : CS), Sm s → Sm (l.foldl (fun s u => e u env s) s) := by
  intro l
  induction l with
  | nil => intro s hs; exact hs
  | cons v l ih => intro s hs; exact ih _ (h v env s hs)
theorem SmE.form {e : Ex} (h : SmE e) (xs : List Nd) (head : ByteArray) (l : List Int) (env : Env) (s : CS) (hs : Sm s) : Sm (cform e xs head l env s) := by
  unfold cform
  split
  · exact hs.ins _ _ _
  split
  · unfold cif
    exact (h _ _ _ (((h _ _ _ ((h _ _ _ hs).ins _ _ _)).ins _ _ _).lead _)).lead _
  split
  · exact h.seq _ _ _ _ hs
  split
  · split
    · unfold cnames
      split
      · exact h.fn _ _ _ _ hs
      · exact hs
    · exact hs
  split
  · split
    · exact (h _ _ _ (h.fn _ _ _ _ hs)).ins _ _ _
    · exact hs
  · exact hs
theorem SmE.one {e : Ex} (h : SmE e) (xs : List Nd) (hx : ∀ v, (ndAt xs v).s.size ≤ 12) : SmE (cone e xs) := by
  intro v env s hs
  unfold cone
  split
  · split
    · exact hs.ins _ _ _
    split
    · split
      · exact hs
      · split
        · exact hs.ins _ _ _
        · exact hs.emit _ (hx v)
    split
    · split
      · dsimp only
        split
        · exact h.form _ _ _ _ _ hs
        split
        · exact hs
        · exact (h.fold _ _ _ hs).ins _ _ _
      · exact hs
    · exact hs
  · exact hs
theorem cexp_sm (xs : List Nd) (hx : ∀ v, (ndAt xs v).s.size ≤ 12) : ∀ f, SmE (cexp xs f) := by
  intro f
  induction f with
  | zero => intro v env s hs; exact hs
  | succ f ih => exact ih.one xs hx
theorem cdefine_sm {e : Ex} (h : SmE e) (name : ByteArray) (hn : name.size ≤ 12) (names : List ByteArray) (body : List Int) (s : CS) (hs : Sm s) : Sm (cdefine e name names body s) := by
  unfold cdefine
  split
  · exact hs
  · have h1 : Sm { s with defs := s.defs ++ [⟨name, s.list.length, names.length⟩] } := ⟨hs.1, fun x hx => by
      rcases List.mem_append.1 hx with hx | hx
      · exact hs.2 x hx
      · rw [List.mem_singleton] at hx; rw [hx]; exact hn⟩
    unfold cbody
    exact (h.seq [names] body true _ h1).ins _ _ _
theorem ctop_sm (xs : List Nd) (hx : ∀ v, (ndAt xs v).s.size ≤ 12) (v : Int) (s : CS) (hs : Sm s) : Sm (ctop xs v s) := by
  unfold ctop
  dsimp only
  split
  · split
    · split
      · exact cdefine_sm (cexp_sm xs hx _) _ (hx _) _ _ _ hs
      · exact hs
    · exact hs
  · exact cdefine_sm (cexp_sm xs hx _) _ (by decide) _ _ _ hs
theorem ndAt_s {xs : List Nd} (hp : poolB xs = true) (v : Int) : (ndAt xs v).s.size ≤ 12 := by
  unfold ndAt
  rw [List.getD_eq_getElem?_getD]
  cases hx : xs[v.toNat]? with
  | none => exact Nat.zero_le _
  | some x =>
    have h := pool_at hp hx
    simp only [nodeB, Bool.and_eq_true] at h
    obtain ⟨_, ⟨hn, _⟩, _⟩ := h
    unfold nameFB at hn
    show x.s.size ≤ 12
    split at hn
    · simp only [nameB, Bool.and_eq_true, decide_eq_true_eq] at hn
      exact hn.1.2
    · have e : x.s.toList = [] := by simpa using hn
      rw [ByteArray.toList_eq] at e
      have := congrArg List.length e
      rw [Array.length_toList] at this
      have h0 : x.s.size = 0 := this
      omega
def compR (xs : List Nd) (l : List Int) : (List Nd × List In × List Df) × Int × Int :=
  if poolB xs && allI xs l then
    (if (ctops xs l 0 ⟨[], [], 0⟩).1.how = 0 then
      (if codeB xs (ctops xs l 0 ⟨[], [], 0⟩).1.list (ctops xs l 0 ⟨[], [], 0⟩).1.defs then ((xs, (ctops xs l 0 ⟨[], [], 0⟩).1.list, (ctops xs l 0 ⟨[], [], 0⟩).1.defs), 0, (l.length : Int)) else (([], [], []), 3, 0))
     else if (ctops xs l 0 ⟨[], [], 0⟩).1.how = 3 then (([], [], []), 3, 0) else (([], [], []), (ctops xs l 0 ⟨[], [], 0⟩).1.how, ((ctops xs l 0 ⟨[], [], 0⟩).2 : Int)))
  else (([], [], []), 3, 0)
end Go.Proofs.YtkchakcebdenjaaGreat
/-
  What a value is compiled to, told by its form: plain mathematics. No condition beyond a right pool.
-/
namespace Go.Proofs.YtkchakcebdenjaaGreat
open Go.RowKit
theorem rsv_k4 {xs : List Nd} (hp : poolB xs = true) (v : Int) (h : rsv (ndAt xs v).s = true) : (ndAt xs v).k = 4 := by
  unfold ndAt at h ⊢
  rw [List.getD_eq_getElem?_getD] at h ⊢
  cases hx : xs[v.toNat]? with
  | none =>
    rw [hx] at h
    have h' : rsv ByteArray.empty = true := h
    unfold rsv isW at h'
    rw [show ByteArray.empty.toList = [] by rw [ByteArray.toList_eq]; rfl] at h'
    exact absurd h' (by decide)
  | some x =>
    rw [hx] at h
    have h1 := pool_at hp hx
    simp only [nodeB, Bool.and_eq_true] at h1
    obtain ⟨_, ⟨hn, _⟩, _⟩ := h1
    unfold nameFB at hn
    show x.k = 4
    replace h : rsv x.s = true := h
    split at hn
    · rename_i hs
      unfold hasS at hs
      exact of_decide_eq_true hs
    · have e : x.s.toList = [] := by simpa using hn
      unfold rsv isW at h
      rw [e] at h
      exact absurd h (by decide)
def cfm (e : Ex) (xs : List Nd) (f : Fm) (env : Env) (s : CS) : CS := match f with
  | .lit v => s.emit (ins 1 v 0)
  | .men t => s.emit (meanR env t)
  | .quo l => s.emit (ins 1 (l.getD 0 0) 0)
  | .cho l => cif e (l.getD 0 0) (l.getD 1 0) (l.getD 2 0) env s
  | .seq l => cbody e l env s
  | .cal l => ccall e l env s
  | .fn vs bs => cnames e xs vs bs env s
  | .bin vs bs v => (e v env (cnames e xs vs bs env s)).emit (ins 7 0 1)
  | _ => { s with how := 1 }
theorem namesHow_fn {xs : List Nd} {vs : List Int} (h : (decide (vs.length ≤ 4) && allVars xs vs) = false) : namesHow xs vs = 1 := by
  unfold namesHow
  by_cases h4 : 4 < vs.length
  · rw [if_pos h4]
  · rw [if_neg h4]
    rw [decide_eq_true (show vs.length ≤ 4 by omega)] at h
    simp at h
    rw [h]
    rfl
theorem namesHow_one {xs : List Nd} {z : Int} (h : allVars xs [z] = true) : namesHow xs [z] = 0 := by
  unfold namesHow
  rw [if_neg (by simp), if_pos h]
  rfl
theorem isW_no {s : ByteArray} {a b : List UInt8} (h : isW s a = true) (hn : (a == b) = false) : isW s b = false := by
  unfold isW at h ⊢
  rw [beq_iff_eq.1 h]
  exact hn
theorem form_list (e : Ex) (xs : List Nd) (a : Int) (t : List Int) (env : Env) (s : CS) :
    (if rsv (ndAt xs a).s then cform e xs (ndAt xs a).s (a :: t) env s else if 5 < (a :: t).length then { s with how := 1 } else ccall e (a :: t) env s) =
      if tellB xs (listF xs (a :: t)) then cfm e xs (listF xs (a :: t)) env s else { s with how := 1 } := by
  have hL : listF xs (a :: t) = swF xs (ndAt xs a).s t (a :: t) := rfl
  rw [hL]
  generalize (ndAt xs a).s = h
  cases w1 : isW h wQuote with
  | true =>
    have hr : rsv h = true := by unfold rsv; rw [w1]; rfl
    have n2 := isW_no (b := wIf) w1 (by decide)
    have n3 := isW_no (b := wFn) w1 (by decide)
    have n4 := isW_no (b := wDo) w1 (by decide)
    have n5 := isW_no (b := wLet) w1 (by decide)
    unfold cform swF
    rw [hr, w1, n2, n3, n4, n5]
    cases t with
    | nil => simp [tellB]
    | cons b t =>
      cases t <;> simp [tellB, cfm]
      all_goals (intro hh; exact absurd hh (by omega))
  | false =>
  cases w2 : isW h wIf with
  | true =>
    have hr : rsv h = true := by unfold rsv; rw [w2]; simp
    have n3 := isW_no (b := wFn) w2 (by decide)
    have n4 := isW_no (b := wDo) w2 (by decide)
    have n5 := isW_no (b := wLet) w2 (by decide)
    unfold cform swF
    rw [hr, w1, w2, n3, n4, n5]
    cases t with
    | nil => simp [tellB]
    | cons b t => cases t with
      | nil => simp [tellB]
      | cons c t => cases t with
        | nil => simp [tellB]
        | cons d t =>
          cases t <;> simp [tellB, cfm]
          all_goals (intro hh; exact absurd hh (by omega))
  | false =>
  cases w3 : isW h wFn with
  | true =>
    have hr : rsv h = true := by unfold rsv; rw [w3]; simp
    have n4 := isW_no (b := wDo) w3 (by decide)
    have n5 := isW_no (b := wLet) w3 (by decide)
    unfold cform swF
    rw [hr, w1, w2, w3, n4, n5]
    cases t with
    | nil => simp [tellB, funF]
    | cons p t => cases t with
      | nil =>
        simp [funF]
        cases (chainR xs p.toNat).2 <;> simp [tellB, fnB]
      | cons q t =>
        simp [funF]
        cases (chainR xs p.toNat).2 with
        | false => simp [tellB]
        | true =>
          simp [tellB, fnB, cfm]
          intro hh
          unfold cnames
          have := namesHow_fn (xs := xs) (vs := (chainR xs p.toNat).1) (by
            cases hb : (decide ((chainR xs p.toNat).1.length ≤ 4) && allVars xs (chainR xs p.toNat).1) with
            | false => rfl
            | true => simp at hb; exact absurd hb.2 (by simpa using hh hb.1))
          rw [this]
          rfl
  | false =>
  cases w4 : isW h wDo with
  | true =>
    have hr : rsv h = true := by unfold rsv; rw [w4]; simp
    have n5 := isW_no (b := wLet) w4 (by decide)
    unfold cform swF
    rw [hr, w1, w2, w3, w4, n5]
    cases t <;> simp [tellB, cfm]
  | false =>
  cases w5 : isW h wLet with
  | true =>
    have hr : rsv h = true := by unfold rsv; rw [w5]; simp
    unfold cform swF
    rw [hr, w1, w2, w3, w4, w5]
    cases t with
    | nil => simp [tellB, bindF]
    | cons p t => cases t with
      | nil => simp [tellB, bindF]
      | cons q t => cases t with
        | nil => simp [tellB, bindF, fnB]
        | cons u t =>
          have hb : bindF (p :: q :: u :: t) = .bin [p] (u :: t) q := by
            unfold bindF
            rw [if_neg (by simp)]
            rfl
          rw [hb]
          cases ha : allVars xs [p] with
          | true =>
            have hn := namesHow_one ha
            have hc : cnames e xs [p] (u :: t) env s = cfun e (nameL xs [p]) (u :: t) env s := by unfold cnames; rw [if_pos hn]
            simp [tellB, fnB, cfm, ha, hn, hc]
          | false =>
            have hn : namesHow xs [p] = 1 := namesHow_fn (by rw [ha]; simp)
            simp [tellB, fnB, ha, hn]
  | false =>
  cases w6 : isW h wDefine with
  | true =>
    have hr : rsv h = true := by unfold rsv; rw [w6]; simp
    have hd : ∃ a b c, defF xs t = .defn a b c := by
      cases t with
      | nil => exact ⟨_, _, _, rfl⟩
      | cons p t =>
        unfold defF
        dsimp only
        split <;> exact ⟨_, _, _, rfl⟩
    unfold cform swF
    rw [hr, w1, w2, w3, w4, w5, w6]
    obtain ⟨x, y, z, hd⟩ := hd
    simp [hd, cfm]
  | false =>
    have hr : rsv h = false := by unfold rsv; rw [w1, w2, w3, w4, w5, w6]; rfl
    unfold swF
    rw [hr, w1, w2, w3, w4, w5, w6]
    simp [tellB, cfm]
    by_cases h5 : 5 < t.length + 1
    · rw [if_pos h5, if_neg (by omega)]
    · rw [if_neg h5, if_pos (by omega)]
theorem cone_form (e : Ex) {xs : List Nd} (hp : poolB xs = true) (v : Nat) (hv : v < xs.length) (env : Env) (s : CS) (h0 : s.how = 0) :
    cone e xs v env s = if tellB xs (formF xs v) then cfm e xs (formF xs v) env s else { s with how := 1 } := by
  obtain ⟨x, hx⟩ : ∃ x, xs[v]? = some x := ⟨xs[v], List.getElem?_eq_getElem hv⟩
  have HN := ndAt_some hx
  have hne := fun h5 h2 => chain_ne hx h5 h2
  unfold cone formF
  rw [if_pos h0, HN]
  dsimp only
  by_cases k1 : x.k = 1 ∨ x.k = 2 ∨ x.k = 3
  · rw [if_pos k1, if_pos k1]
    rfl
  rw [if_neg k1, if_neg k1]
  by_cases k4 : x.k = 4
  · rw [if_pos k4, if_pos k4]
    cases hr : rsv x.s with
    | true => simp [tellB, hr]
    | false =>
      simp only [tellB, hr, cfm, meanR]
      simp
      cases findV env x.s 0 <;> rfl
  rw [if_neg k4, if_neg k4]
  by_cases k5 : x.k = 5
  · rw [if_pos k5, if_pos k5, Int.toNat_natCast]
    cases hc : (chainR xs v).2 with
    | false => simp [tellB]
    | true =>
      have hl := hne k5 hc
      cases hq : (chainR xs v).1 with
      | nil => rw [hq] at hl; simp at hl
      | cons a t =>
        have := form_list e xs a t env s
        simp only [if_true]
        rw [← this, show (a :: t).getD 0 0 = a from rfl]
        cases hr : rsv (ndAt xs a).s with
        | true =>
          have h4 := rsv_k4 hp a hr
          rw [if_pos ⟨h4, rfl⟩]
          rfl
        | false =>
          rw [if_neg (by simp)]
          rfl
  rw [if_neg k5, if_neg k5]
  simp [tellB]
def LtL (v : Nat) (l : List Int) : Prop := ∀ z ∈ l, ∃ n : Nat, z = n ∧ n < v
theorem LtL.drop {v : Nat} {l : List Int} (h : LtL v l) (k : Nat) : LtL v (l.drop k) := fun z hz => h z (List.mem_of_mem_drop hz)
theorem LtL.take {v : Nat} {l : List Int} (h : LtL v l) (k : Nat) : LtL v (l.take k) := fun z hz => h z (List.mem_of_mem_take hz)
theorem LtL.nil (v : Nat) : LtL v [] := fun z hz => by cases hz
theorem LtL.chain {xs : List Nd} (hp : poolB xs = true) {p v : Nat} (hpv : p ≤ v) : LtL v (chainR xs p).1 := fun z hz => by
  obtain ⟨n, h1, h2⟩ := chainR_mem hp p z hz
  exact ⟨n, h1, by omega⟩
def FmLt (v : Nat) : Fm → Prop
  | .lit _ => True
  | .men _ => True
  | .quo l => LtL v l
  | .cho l => LtL v l
  | .seq l => LtL v l
  | .cal l => LtL v l
  | .fn vs bs => LtL v vs ∧ LtL v bs
  | .bin vs bs u => LtL v vs ∧ LtL v bs ∧ LtL v [u]
  | .defn _ vs bs => LtL v vs ∧ LtL v bs
  | .stray => True
theorem funF_lt {xs : List Nd} (hp : poolB xs = true) {v : Nat} : ∀ {l : List Int}, LtL v l → FmLt v (funF xs l)
  | [], _ => trivial
  | p :: r, h => by
    obtain ⟨n, rfl, hn⟩ := h p (List.mem_cons_self ..)
    rw [funF_cons]
    split
    · exact ⟨LtL.chain hp (by omega), fun z hz => h z (List.mem_cons_of_mem _ hz)⟩
    · trivial
theorem defF_lt {xs : List Nd} (hp : poolB xs = true) {v : Nat} : ∀ {l : List Int}, LtL v l → FmLt v (defF xs l)
  | [], _ => ⟨LtL.nil v, LtL.nil v⟩
  | p :: r, h => by
    obtain ⟨n, rfl, hn⟩ := h p (List.mem_cons_self ..)
    rw [defF_cons]
    have hc : LtL v (chainR xs n).1 := LtL.chain hp (by omega)
    split
    · exact ⟨LtL.nil v, LtL.nil v⟩
    · rename_i a t hq
      rw [hq] at hc
      exact ⟨fun z hz => hc z (List.mem_cons_of_mem _ hz), fun z hz => h z (List.mem_cons_of_mem _ hz)⟩
theorem bindF_lt {v : Nat} {l : List Int} (h : LtL v l) : FmLt v (bindF l) := by
  unfold bindF
  split
  · trivial
  · rename_i h2
    refine ⟨h.take 1, h.drop 2, fun z hz => ?_⟩
    rw [List.mem_singleton] at hz
    subst hz
    rw [List.getD_eq_getElem?_getD, List.getElem?_eq_getElem (by omega)]
    exact h _ (List.getElem_mem _)
theorem formF_lt {xs : List Nd} (hp : poolB xs = true) (v : Nat) : FmLt v (formF xs v) := by
  unfold formF
  dsimp only
  split
  · trivial
  split
  · trivial
  split
  · split
    · have hc : LtL v (chainR xs v).1 := LtL.chain hp (Nat.le_refl _)
      generalize (chainR xs v).1 = l at hc
      unfold listF
      dsimp only
      split
      · exact hc.drop 1
      split
      · exact hc.drop 1
      split
      · exact funF_lt hp (hc.drop 1)
      split
      · exact hc.drop 1
      split
      · exact bindF_lt (hc.drop 1)
      split
      · exact defF_lt hp (hc.drop 1)
      · exact hc
    · trivial
  · trivial
theorem LtL.inp {xs : List Nd} {v : Nat} {l : List Int} (h : LtL v l) (hv : v ≤ xs.length) : InP xs l := fun z hz => by
  obtain ⟨n, h1, h2⟩ := h z hz
  exact ⟨n, h1, by omega⟩
theorem formF_in {xs : List Nd} (hp : poolB xs = true) (v : Nat) (hv : v < xs.length) : FmIn xs (formF xs v) := by
  have h := formF_lt hp v
  revert h
  cases formF xs v <;> intro h
  case fn => exact h.1.inp (by omega)
  case bin => exact h.1.inp (by omega)
  case defn => exact h.1.inp (by omega)
  all_goals trivial
end Go.Proofs.YtkchakcebdenjaaGreat
