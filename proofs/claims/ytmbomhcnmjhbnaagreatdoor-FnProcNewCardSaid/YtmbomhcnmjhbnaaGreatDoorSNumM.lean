/-
  Texts that stood by themselves, laid into one.
-/
import Derived.Test.YtmbomhcnmjhbnaaGreatDoorSMakeM
import Derived.Test.YtmbomhcnmjhbnaaGreatDoorIntsM
import Derived.Test.YtmbomhcnmjhbnaaGreatDoorSCp10M
import Derived.Test.YtmbomhcnmjhbnaaGreatDoorCodeOkM
import Derived.Test.YtmbomhcnmjhbnaaGreatDoorBsM
import Derived.Test.YtmbomhcnmjhbnaaGreatDoorInM
import Derived.Test.YtmbomhcnmjhbnaaGreatDoorNameM
import Derived.Test.YtmbomhcnmjhbnaaGreatDoorDraw2M
/-
  What MakeList makes, and the contracts of impl's hasAll and MakeList.
-/
namespace Go.Proofs.YtmbomhcnmjhbnaaGreatDoor
open Go.RowKit

def nilN : Nd := ⟨1, 0, ByteArray.empty, 0, 0⟩
def pairN (z : Int) (last : Nat) : Nd := ⟨5, 0, ByteArray.empty, z, last⟩
/-- The pairs of the values, the last one first, from the node 'last' on. -/
def pairsR : List Int → Nat → List Nd
  | [], _ => []
  | z :: r, last => pairN z last :: pairsR r (last + 1)
theorem pairsR_snoc (r : List Int) (z : Int) (last : Nat) : pairsR (r ++ [z]) last = pairsR r last ++ [pairN z (last + r.length)] := by
  induction r generalizing last with
  | nil => rfl
  | cons y r ih => simp only [List.cons_append, pairsR, ih, List.length_cons]; rw [show last + 1 + r.length = last + (r.length + 1) by omega]
theorem pairsR_length (r : List Int) (last : Nat) : (pairsR r last).length = r.length := by
  induction r generalizing last with
  | nil => rfl
  | cons y r ih => simp [pairsR, ih]
theorem pairsR_ok (r : List Int) (last : Nat) : ∀ x ∈ pairsR r last, x.s.size ≤ maxLen := by
  induction r generalizing last with
  | nil => simp [pairsR]
  | cons y r ih =>
    intro x hx
    simp only [pairsR, List.mem_cons] at hx
    rcases hx with rfl | hx
    · simp [pairN]
    · exact ih _ x hx
/-- The list so far, when the values from m on stand. -/
def more (zs : List Int) (n m : Nat) : List Nd := nilN :: pairsR (zs.drop m).reverse n
theorem more_length (zs : List Int) (n m : Nat) : (more zs n m).length = zs.length - m + 1 := by simp [more, pairsR_length]
theorem more_ok (zs : List Int) (n m : Nat) : ∀ x ∈ more zs n m, x.s.size ≤ maxLen := by
  intro x hx
  simp only [more, List.mem_cons] at hx
  rcases hx with rfl | hx
  · simp [nilN]
  · exact pairsR_ok _ _ x hx
theorem more_step (zs : List Int) (n m : Nat) (h : m < zs.length) : more zs n m = more zs n (m + 1) ++ [pairN zs[m] (n + (zs.length - (m + 1)))] := by
  unfold more
  rw [List.drop_eq_getElem_cons h, List.reverse_cons, pairsR_snoc]
  simp

def allI (xs : List Nd) (zs : List Int) : Bool := zs.all (hasI xs)
/-- What MakeList leaves, and the number that it tells. -/
def mlOk (xs : List Nd) (zs : List Int) : Bool := decide (xs.length + 1 + zs.length ≤ 3000) && allI xs zs
def mlL (xs : List Nd) (zs : List Int) : List Nd := if poolB xs = true then (if mlOk xs zs = true then xs ++ more zs xs.length 0 else xs) else []
def mlI (xs : List Nd) (zs : List Int) : Int := if poolB xs = true then (if mlOk xs zs = true then ((xs.length + zs.length : Nat) : Int) else -1) else -1

theorem all_drop (p : Int → Bool) (zs : List Int) (k : Nat) (h : k < zs.length) : (zs.drop k).all p = (p (zs.getD k 0) && (zs.drop (k + 1)).all p) := by
  rw [List.drop_eq_getElem_cons h, List.all_cons, List.getD_eq_getElem?_getD, List.getElem?_eq_getElem h]
  rfl

set_option maxHeartbeats 800000 in
theorem hasall_any (v vl : Value) (xs : List Nd) (zs : List Int) (w : World) (R : NRow w v xs) (L : IRow w vl zs) :
    Calls Tryz.prog 33 #[.agg #[v], vl] w fun e w' => e = .returned (.bool (allI xs zs)) ∧ Below w.heap.size w w' := by
  have R' := R
  obtain ⟨ao, cap, rfl, _⟩ := R'
  obtain ⟨al, cl, rfl, hcl, hlm, hcell⟩ := L
  go_enter Tryz.func33, Tryz.ntmps33
  go_wp2_with fail
  go_loopw [9] (fun i wr => ∃ k : Nat, k ≤ zs.length ∧ i = .int .i64 k ∧ Hid (allI xs zs = (zs.drop k).all (hasI xs)) ∧ wr.cell? ⟨w.heap.size, 0, none⟩ = some (.slice ao xs.length cap) ∧ w.heap.size < wr.heap.size ∧ Below w.heap.size w wr) (fun i _ => zs.length - (intOf i).toNat)
  case atStart => exact ⟨0, by omega, rfl, by simp [Hid, allI], by simp, by simp, (Below.refl _ _).alloc (Nat.le_refl _) _⟩
  case round =>
    obtain ⟨k, hk, rfl, HA, hbox, hbl, hb⟩ := hrel
    by_cases hlt : k < zs.length
    · obtain ⟨g, o, rfl, hg, hcell⟩ := hcell (by intro e; subst e; simp at hlt)
      have c0 := (hb.cell (p := ⟨g, o + k, none⟩) hg).trans (hcell k hlt)
      have HS : Hid (allI xs zs = (hasI xs (zs.getD k 0) && (zs.drop (k + 1)).all (hasI xs))) := by unfold Hid; rw [HA.out, all_drop _ _ _ hlt]
      clear hcell HA
      generalize zs.getD k 0 = z at c0 HS
      go_wp2_with fail
      refine (has_any _ xs _ _ (R.below hb)).mono ?_
      rintro e w2 ⟨rfl, hb2⟩
      have hB2 := hb.trans (hb2.mono hb.size)
      have hbox2 := (hb2.cell (p := ⟨w.heap.size, 0, none⟩) hbl).trans hbox
      have hbl2 := Nat.lt_of_lt_of_le hbl hb2.size
      clear c0 hb2 hbox hb
      generalize hA : hasI xs z = bA at HS ⊢
      clear hA
      cases bA with
      | false =>
        go_wp2
        go_ret
        exact ⟨by rw [HS.out]; rfl, hB2⟩
      | true =>
        go_wp2
        go_roundw
        case rel => exact ⟨k + 1, by omega, by go_num, by rw [HS.out]; rfl, hbox2, hbl2, hB2⟩
        case measure => simp [intOf]; omega
    · have e : k = zs.length := by omega
      subst e
      have HT : Hid (allI xs zs = true) := by unfold Hid; rw [HA.out, List.drop_length]; rfl
      clear HA
      go_wp2
      go_ret
      exact ⟨by rw [HT.out]; rfl, hb⟩

theorem own_nil1 (w : World) (base : Nat) (hb : base ≤ w.heap.size) :
    (w.alloc (Obj.cells #[.int .i64 1, .int .i64 0, .string ⟨#[]⟩, .int .i64 0, .int .i64 0] 64)).ownsRow base 64 5 (.slice (some ⟨w.heap.size, 0, none⟩) 1 1) 1 (ncs [nilN]) :=
  own_lit1 w nilN base hb
theorem NRow.pair1 (w : World) (z : Int) (last : Nat) : NRow (w.alloc (Obj.cells #[.int .i64 5, .int .i64 0, .string ⟨#[]⟩, .int .i64 z, .int .i64 last] 64)) (.slice (some ⟨w.heap.size, 0, none⟩) 1 1) [pairN z last] :=
  NRow.lit1 w (pairN z last) (by simp [pairN])

theorem wrap_two (a b : Int) (h0 : 0 ≤ a) (h1 : a ≤ 1000000) (h2 : 0 ≤ b) (h3 : b ≤ 1000000) : IntKind.i64.wrap (IntKind.i64.wrap (a + b) - 1) = a + b - 1 := by
  rw [IntKind.wrap_i64, IntKind.wrap_i64]; omega

end Go.Proofs.YtmbomhcnmjhbnaaGreatDoor

/-
  What is compiled has no long names: plain mathematics. Nothing of the program; no condition.
-/
namespace Go.Proofs.YtmbomhcnmjhbnaaGreatDoor
open Go.RowKit

/-- No long name. -/
def Sm (s : CS) : Prop := (∀ x ∈ s.list, x.s.size ≤ 12) ∧ (∀ x ∈ s.defs, x.s.size ≤ 12)
theorem Sm.emit {s : CS} (h : Sm s) (x : In) (hx : x.s.size ≤ 12) : Sm (s.emit x) := by
  unfold CS.emit
  split
  · split
    · exact h
    · refine ⟨fun y hy => ?_, h.2⟩
      rcases List.mem_append.1 hy with hy | hy
      · exact h.1 y hy
      · rw [List.mem_singleton] at hy; rw [hy]; exact hx
  · exact h
theorem Sm.ins {s : CS} (h : Sm s) (o n i : Int) : Sm (s.emit (ins o n i)) := h.emit _ (Nat.zero_le _)
theorem Sm.lead {s : CS} (h : Sm s) (a : Nat) : Sm (s.lead a) := by
  unfold CS.lead
  split
  · refine ⟨fun y hy => ?_, h.2⟩
    dsimp only at hy
    split at hy
    · rename_i x hx
      rcases List.mem_or_eq_of_mem_set hy with hy | rfl
      · exact h.1 y hy
      · exact h.1 x (List.mem_of_getElem? hx)
    · exact h.1 y hy
  · exact h
theorem Sm.how {s : CS} (h : Sm s) (k : Int) : Sm { s with how := k } := h
def SmE (e : Ex) : Prop := ∀ v env s, Sm s → Sm (e v env s)
theorem SmE.seq {e : Ex} (h : SmE e) (env : Env) : ∀ (l : List Int) (b : Bool) (s : CS), Sm s → Sm (cseq e env l b s) := by
  intro l
  induction l with
  | nil => intro b s hs; exact hs
  | cons v l ih =>
    intro b s hs
    rw [cseq]
    split
    · refine ih false _ (h v env _ ?_)
      split
      · exact hs
      · exact hs.ins _ _ _
    · exact hs
theorem SmE.fn {e : Ex} (h : SmE e) (names : List ByteArray) (body : List Int) (env : Env) (s : CS) (hs : Sm s) : Sm (cfun e names body env s) := by
  unfold cfun
  exact ((h.seq _ _ _ _ (((hs.ins _ _ _).ins _ _ _).lead _)).ins _ _ _).lead _
theorem SmE.fold {e : Ex} (h : SmE e) (env : Env) : ∀ (l : List Int) (s : CS), Sm s → Sm (l.foldl (fun s u => e u env s) s) := by
  intro l
  induction l with
  | nil => intro s hs; exact hs
  | cons v l ih => intro s hs; exact ih _ (h v env s hs)
theorem SmE.form {e : Ex} (h : SmE e) (xs : List Nd) (head : ByteArray) (l : List Int) (env : Env) (s : CS) (hs : Sm s) : Sm (cform e xs head l env s) := by
  unfold cform
  split
  · exact hs.ins _ _ _
  split
  · unfold cif
    exact (h _ _ _ (((h _ _ _ ((h _ _ _ hs).ins _ _ _)).ins _ _ _).lead _)).lead _
  split
  · exact h.seq _ _ _ _ hs
  split
  · split
    · unfold cnames
      split
      · exact h.fn _ _ _ _ hs
      · exact hs
    · exact hs
  split
  · split
    · exact (h _ _ _ (h.fn _ _ _ _ hs)).ins _ _ _
    · exact hs
  · exact hs
theorem SmE.one {e : Ex} (h : SmE e) (xs : List Nd) (hx : ∀ v, (ndAt xs v).s.size ≤ 12) : SmE (cone e xs) := by
  intro v env s hs
  unfold cone
  split
  · split
    · exact hs.ins _ _ _
    split
    · split
      · exact hs
      · split
        · exact hs.ins _ _ _
        · exact hs.emit _ (hx v)
    split
    · split
      · dsimp only
        split
        · exact h.form _ _ _ _ _ hs
        split
        · exact hs
        · exact (h.fold _ _ _ hs).ins _ _ _
      · exact hs
    · exact hs
  · exact hs
theorem cexp_sm (xs : List Nd) (hx : ∀ v, (ndAt xs v).s.size ≤ 12) : ∀ f, SmE (cexp xs f) := by
  intro f
  induction f with
  | zero => intro v env s hs; exact hs
  | succ f ih => exact ih.one xs hx
theorem cdefine_sm {e : Ex} (h : SmE e) (name : ByteArray) (hn : name.size ≤ 12) (names : List ByteArray) (body : List Int) (s : CS) (hs : Sm s) : Sm (cdefine e name names body s) := by
  unfold cdefine
  split
  · exact hs
  · have h1 : Sm { s with defs := s.defs ++ [⟨name, s.list.length, names.length⟩] } := ⟨hs.1, fun x hx => by
      rcases List.mem_append.1 hx with hx | hx
      · exact hs.2 x hx
      · rw [List.mem_singleton] at hx; rw [hx]; exact hn⟩
    unfold cbody
    exact (h.seq [names] body true _ h1).ins _ _ _
theorem ctop_sm (xs : List Nd) (hx : ∀ v, (ndAt xs v).s.size ≤ 12) (v : Int) (s : CS) (hs : Sm s) : Sm (ctop xs v s) := by
  unfold ctop
  dsimp only
  split
  · split
    · split
      · exact cdefine_sm (cexp_sm xs hx _) _ (hx _) _ _ _ hs
      · exact hs
    · exact hs
  · exact cdefine_sm (cexp_sm xs hx _) _ (by decide) _ _ _ hs
theorem ndAt_s {xs : List Nd} (hp : poolB xs = true) (v : Int) : (ndAt xs v).s.size ≤ 12 := by
  unfold ndAt
  rw [List.getD_eq_getElem?_getD]
  cases hx : xs[v.toNat]? with
  | none => exact Nat.zero_le _
  | some x =>
    have h := pool_at hp hx
    simp only [nodeB, Bool.and_eq_true] at h
    obtain ⟨_, ⟨hn, _⟩, _⟩ := h
    unfold nameFB at hn
    show x.s.size ≤ 12
    split at hn
    · simp only [nameB, Bool.and_eq_true, decide_eq_true_eq] at hn
      exact hn.1.2
    · have e : x.s.toList = [] := by simpa using hn
      rw [ByteArray.toList_eq] at e
      have := congrArg List.length e
      rw [Array.length_toList] at this
      have h0 : x.s.size = 0 := this
      omega
/-- What Compile answers. -/
def compR (xs : List Nd) (l : List Int) : (List Nd × List In × List Df) × Int × Int :=
  if poolB xs && allI xs l then
    (if (ctops xs l 0 ⟨[], [], 0⟩).1.how = 0 then
      (if codeB xs (ctops xs l 0 ⟨[], [], 0⟩).1.list (ctops xs l 0 ⟨[], [], 0⟩).1.defs then ((xs, (ctops xs l 0 ⟨[], [], 0⟩).1.list, (ctops xs l 0 ⟨[], [], 0⟩).1.defs), 0, (l.length : Int)) else (([], [], []), 3, 0))
     else if (ctops xs l 0 ⟨[], [], 0⟩).1.how = 3 then (([], [], []), 3, 0) else (([], [], []), (ctops xs l 0 ⟨[], [], 0⟩).1.how, ((ctops xs l 0 ⟨[], [], 0⟩).2 : Int)))
  else (([], [], []), 3, 0)
end Go.Proofs.YtmbomhcnmjhbnaaGreatDoor

/-
  Which texts are numbers, and what a word means: plain mathematics. Nothing of the program; no condition.
-/
namespace Go.Proofs.YtmbomhcnmjhbnaaGreatDoor
open Go.RowKit

/-- The number that digits tell, behind a. -/
def dval : List UInt8 → Nat → Nat
  | [], a => a
  | c :: l, a => dval l (10 * a + (c.toNat - 48))
theorem dval_append (l m : List UInt8) (a : Nat) : dval (l ++ m) a = dval m (dval l a) := by
  induction l generalizing a with
  | nil => rfl
  | cons c l ih => exact ih _
def isDig (c : UInt8) : Bool := decide (48 ≤ c.toNat) && decide (c.toNat ≤ 57)
theorem dig_toNat {d : Nat} (h : d < 10) : (UInt8.ofNat (48 + d)).toNat = 48 + d := by
  rw [UInt8.toNat_ofNat']
  omega
theorem dval_dec (n : Nat) : dval (Lib.decDigits n) 0 = n := by
  induction n using Nat.strongRecOn with
  | _ n ih =>
    rw [Lib.decDigits]
    split
    · rename_i h
      simp only [dval]
      rw [dig_toNat h]
      omega
    · rename_i h
      rw [dval_append, ih (n / 10) (by omega)]
      simp only [dval]
      rw [dig_toNat (by omega)]
      omega
theorem dec_dig (n : Nat) : ∀ c ∈ Lib.decDigits n, isDig c = true := by
  induction n using Nat.strongRecOn with
  | _ n ih =>
    rw [Lib.decDigits]
    split
    · rename_i h
      intro c hc
      rw [List.mem_singleton] at hc
      subst hc
      simp only [isDig, dig_toNat h, Bool.and_eq_true, decide_eq_true_eq]
      omega
    · rename_i h
      intro c hc
      rw [List.mem_append, List.mem_singleton] at hc
      rcases hc with hc | rfl
      · exact ih (n / 10) (by omega) c hc
      · simp only [isDig, dig_toNat (show n % 10 < 10 by omega), Bool.and_eq_true, decide_eq_true_eq]
        omega
theorem dec_ne (n : Nat) : Lib.decDigits n ≠ [] := by
  rw [Lib.decDigits]
  split <;> simp
theorem dval_lt (l : List UInt8) : ∀ a, (∀ c ∈ l, isDig c = true) → dval l a < (a + 1) * 10 ^ l.length := by
  induction l with
  | nil => intro a _; simp [dval]
  | cons c l ih =>
    intro a h
    have hc := h c (by simp)
    simp only [isDig, Bool.and_eq_true, decide_eq_true_eq] at hc
    have := ih (10 * a + (c.toNat - 48)) (fun d hd => h d (by simp [hd]))
    simp only [dval, List.length_cons, Nat.pow_succ]
    refine Nat.lt_of_lt_of_le this ?_
    have h2 : 10 * a + (c.toNat - 48) + 1 ≤ (a + 1) * 10 := by omega
    calc (10 * a + (c.toNat - 48) + 1) * 10 ^ l.length ≤ (a + 1) * 10 * 10 ^ l.length := Nat.mul_le_mul_right _ h2
      _ = (a + 1) * (10 ^ l.length * 10) := by rw [Nat.mul_assoc, Nat.mul_comm 10 (10 ^ l.length)]

/-- The digits of a text behind its sign. -/
def body : List UInt8 → List UInt8
  | c :: d :: r => if c = 45 then d :: r else c :: d :: r
  | l => l
theorem dec_head {n : Nat} {c : UInt8} {r : List UInt8} (h : Lib.decDigits n = c :: r) : ¬ c = 45 := by
  intro e
  have := dec_dig n c (by rw [h]; simp)
  subst e
  simp [isDig] at this
theorem body_neg (n : Nat) : body (45 :: Lib.decDigits n) = Lib.decDigits n := by
  cases h : Lib.decDigits n with
  | nil => exact absurd h (dec_ne n)
  | cons d r => simp [body]
theorem body_pos (n : Nat) : body (Lib.decDigits n) = Lib.decDigits n := by
  cases h : Lib.decDigits n with
  | nil => exact absurd h (dec_ne n)
  | cons d r =>
    cases r with
    | nil => rfl
    | cons d' r' => simp [body, dec_head h]
/-- What a text's digits tell, with its sign. -/
def tval (l : List UInt8) : Int := if (body l).length = l.length then (dval (body l) 0 : Nat) else -((dval (body l) 0 : Nat) : Int)
theorem tval_itoa (x : Int) : tval (Lib.itoa x) = x := by
  unfold tval Lib.itoa
  split
  · rename_i h
    rw [body_neg, dval_dec, if_neg (by simp)]
    omega
  · rename_i h
    rw [body_pos, if_pos rfl, dval_dec]
    omega
theorem itoa_body (x : Int) (h : -1000000000 ≤ x ∧ x ≤ 1000000000) : (∀ c ∈ body (Lib.itoa x), isDig c = true) ∧ body (Lib.itoa x) ≠ [] ∧ (body (Lib.itoa x)).length ≤ 10 := by
  unfold Lib.itoa
  split
  · rw [body_neg]
    exact ⟨dec_dig _, dec_ne _, dec_len 9 _ (by omega)⟩
  · rw [body_pos]
    exact ⟨dec_dig _, dec_ne _, dec_len 9 _ (by omega)⟩

/-- The text is a number. -/
def numB (l : List UInt8) : Bool := decide (-1000000000 ≤ tval l) && decide (tval l ≤ 1000000000) && (Lib.itoa (tval l) == l)
theorem numB_iff (l : List UInt8) : numB l = true ↔ ∃ x : Int, (-1000000000 ≤ x ∧ x ≤ 1000000000) ∧ Lib.itoa x = l := by
  unfold numB
  simp only [Bool.and_eq_true, decide_eq_true_eq, beq_iff_eq]
  constructor
  · rintro ⟨h, e⟩; exact ⟨tval l, h, e⟩
  · rintro ⟨x, h, rfl⟩
    rw [tval_itoa]
    exact ⟨h, rfl⟩
theorem numB_body {l : List UInt8} (h : numB l = true) : (∀ c ∈ body l, isDig c = true) ∧ body l ≠ [] ∧ (body l).length ≤ 10 := by
  obtain ⟨x, hx, rfl⟩ := (numB_iff l).1 h
  exact itoa_body x hx
end Go.Proofs.YtmbomhcnmjhbnaaGreatDoor

/-
  The contracts of spec.l3Digit, l3WordByte, l3Num and l3Word. No condition beyond a text's length.
-/
namespace Go.Proofs.YtmbomhcnmjhbnaaGreatDoor
open Go.RowKit

def digB (b : Int) : Bool := decide (48 ≤ b) && decide (b ≤ 57)
/-- A byte of a word. -/
def wb (b : Int) : Bool := nb b || digB b || b == 35

set_option maxHeartbeats 400000 in
theorem sdigit_any (b : Int) (w : World) : Calls Tryz.prog 83 #[.int .u8 b] w fun e w' => e = .returned (.bool (digB b)) ∧ w' = w := by
  go_enter Tryz.func83, Tryz.ntmps83
  go_wp2
  all_goals
    go_ret
    refine ⟨retB ?_, rfl⟩
    unfold digB
    first | (simp [*]; done) | (simp [*]; omega)

set_option maxHeartbeats 400000 in
theorem swordbyte_any (b : Int) (w : World) : Calls Tryz.prog 60 #[.int .u8 b] w fun e w' => e = .returned (.bool (wb b)) ∧ w' = w := by
  go_enter Tryz.func60, Tryz.ntmps60
  go_wp2_with fail
  refine (snb_any b _).mono ?_
  rintro e w1 ⟨rfl, rfl⟩
  cases h : nb b with
  | true =>
    go_wp2_with fail
    go_ret
    exact ⟨retB (by simp [wb, h]), rfl⟩
  | false =>
    go_wp2_with fail
    refine (sdigit_any b _).mono ?_
    rintro e w1 ⟨rfl, rfl⟩
    cases h2 : digB b with
    | true =>
      go_wp2_with fail
      go_ret
      exact ⟨retB (by simp [wb, h, h2]), rfl⟩
    | false =>
      go_wp2_with fail
      go_ret
      exact ⟨retB (by simp [wb, h, h2]), rfl⟩

set_option maxHeartbeats 800000 in
theorem sdigits_wide (n : Int) (w : World) (hn : -99999999999 ≤ n ∧ n ≤ 99999999999) :
    Calls Tryz.prog 113 #[.int .i64 n] w fun e w' => e = .returned (.string (tx (Lib.itoa n))) ∧ Below w.heap.size w w' := by
  by_cases h0 : n < 0
  · have HI : Hid (Lib.itoa n = [45] ++ Lib.decDigits n.natAbs) := by unfold Hid Lib.itoa; rw [if_pos h0]; rfl
    have hlen := dec_len 11 n.natAbs (by omega)
    have hadd : ∀ w : World, (Op.stringOp .add ⟨#[45]⟩ (tx (Lib.decDigits n.natAbs))).run Tryz.prog w = .ok (.string (tx ([45] ++ Lib.decDigits n.natAbs))) w := fun w => addS [45] _ w (by simp; omega)
    have hm := sdigits_pos n.natAbs w (by omega)
    rw [show ((n.natAbs : Nat) : Int) = -n by omega] at hm
    clear hlen
    generalize Lib.decDigits n.natAbs = dd at *
    go_enter Tryz.func113, Tryz.ntmps113
    go_wp2_with fail
    refine hm.mono ?_
    rintro e w1 ⟨rfl, hb1⟩
    go_wp2_with fail
    go_ret
    exact ⟨retS (by rw [HI.out]; rfl), hb1⟩
  · obtain ⟨m, rfl⟩ := Int.eq_ofNat_of_zero_le (show 0 ≤ n by omega)
    have HI : Hid (Lib.itoa (m : Int) = Lib.decDigits m) := by unfold Hid Lib.itoa; rw [if_neg h0]; rfl
    rw [HI.out]
    exact sdigits_pos m w (by omega)

theorem get_list (s : ByteArray) (k : Nat) (h : k < s.size) : s.data.toList[k]? = some s[k] := by
  have h' : k < s.data.size := h
  rw [Array.getElem?_toList, Array.getElem?_eq_getElem h']
  rfl
theorem dval_take (l : List UInt8) (k : Nat) (c : UInt8) (h : l[k]? = some c) : dval (l.take (k + 1)) 0 = 10 * dval (l.take k) 0 + (c.toNat - 48) := by
  obtain ⟨hl, he⟩ := List.getElem?_eq_some_iff.1 h
  rw [List.take_succ_eq_append_getElem hl, dval_append, he]
  rfl
end Go.Proofs.YtmbomhcnmjhbnaaGreatDoor
