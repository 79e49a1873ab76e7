/-
  Texts that stood by themselves, laid into one.
-/
import Derived.Test.YtdakifahedelcaaDoorSNumM
import Derived.Test.YtdakifahedelcaaDoorNameM
import Derived.Test.YtdakifahedelcaaDoorDraw2M
/-
  What is written has as many brackets closed as opened, and no two blanks together: plain mathematics. Nothing of the program; no condition.
-/
namespace Go.Proofs.YtdakifahedelcaaDoor
open Go.RowKit

theorem itoa_wb (n : Int) : (∀ c ∈ Lib.itoa n, wb (c.toNat : Int) = true) ∧ Lib.itoa n ≠ [] := by
  have hd : ∀ (m : Nat), ∀ c ∈ Lib.decDigits m, wb (c.toNat : Int) = true := fun m c hc => by
    have := dec_dig m c hc
    simp only [isDig, Bool.and_eq_true, decide_eq_true_eq] at this
    have h1 : digB (c.toNat : Int) = true := by simp only [digB, Bool.and_eq_true, decide_eq_true_eq]; omega
    simp [wb, h1]
  unfold Lib.itoa
  split
  · refine ⟨fun c hc => ?_, by simp⟩
    rcases List.mem_cons.1 hc with rfl | hc
    · decide
    · exact hd _ c hc
  · exact ⟨hd _, dec_ne _⟩
theorem name_wb {s : ByteArray} (h : nameB s = true) : (∀ c ∈ s.data.toList, wb (c.toNat : Int) = true) ∧ s.data.toList ≠ [] := by
  simp only [nameB, Bool.and_eq_true, decide_eq_true_eq] at h
  obtain ⟨⟨h1, h2⟩, h3⟩ := h
  refine ⟨fun c hc => ?_, fun e => ?_⟩
  · obtain ⟨i, hi, rfl⟩ := List.getElem_of_mem hc
    have hi' : i < s.size := by rw [Array.length_toList] at hi; exact hi
    have := h3 ⟨i, hi'⟩
    have e : s.data.toList[i] = s[i] := by simp; rfl
    rw [e]
    simp only [wb]
    rw [show nb (s[i].toNat : Int) = true from this]
    rfl
  · have e2 := congrArg List.length e
    rw [Array.length_toList] at e2
    have : s.size = 0 := e2
    omega
/-- A word's bytes. -/
theorem word_wb {x : Nd} {i : Int} (h : nodeB x i = true) (h5 : ¬ x.k = 5) (h1 : ¬ x.k = 1) : (∀ c ∈ wordL x, wb (c.toNat : Int) = true) ∧ wordL x ≠ [] := by
  have h' := h
  simp only [nodeB, Bool.and_eq_true, decide_eq_true_eq] at h'
  obtain ⟨⟨⟨⟨k1, k2⟩, _⟩, _⟩, ⟨hn, _⟩, _⟩ := h'
  have ap : ∀ (l m : List UInt8), (∀ c ∈ l, wb (c.toNat : Int) = true) → ((∀ c ∈ m, wb (c.toNat : Int) = true) ∧ m ≠ []) → (∀ c ∈ l ++ m, wb (c.toNat : Int) = true) ∧ l ++ m ≠ [] := fun l m hl hm =>
    ⟨fun c hc => by rcases List.mem_append.1 hc with hc | hc; exact hl c hc; exact hm.1 c hc, by simp [hm.2]⟩
  unfold wordL
  rw [if_neg h1]
  split
  · split <;> exact ⟨by decide, by simp⟩
  split
  · exact itoa_wb _
  split
  · rename_i h4
    rw [nameFB, hasS, if_pos (by simp [h4])] at hn
    exact name_wb hn
  split
  · exact ap _ _ (by decide) (itoa_wb _)
  split
  · exact ap _ _ (by decide) (itoa_wb _)
  split
  · exact ap _ _ (by decide) (itoa_wb _)
  split
  · exact ap _ _ (by decide) (itoa_wb _)
  · omega
theorem wb_not {c : UInt8} (h : wb (c.toNat : Int) = true) : ¬ c = 32 ∧ ¬ c = 40 ∧ ¬ c = 41 := by
  refine ⟨?_, ?_, ?_⟩ <;> (rintro rfl; revert h; decide)

/-- How many brackets are open behind a text. -/
def stepW (o : Int) (c : UInt8) : Int := if c = 40 then o + 1 else if c = 41 then o - 1 else o
def dep : Int → List UInt8 → Int
  | o, [] => o
  | o, c :: l => dep (stepW o c) l
theorem dep_append (o : Int) (l m : List UInt8) : dep o (l ++ m) = dep (dep o l) m := by
  induction l generalizing o with
  | nil => rfl
  | cons c l ih => exact ih _
def Bal (l : List UInt8) : Prop := ∀ o, 0 ≤ o → (∀ k, 0 ≤ dep o (l.take k)) ∧ dep o l = o
theorem Bal.append {l m : List UInt8} (hl : Bal l) (hm : Bal m) : Bal (l ++ m) := by
  intro o ho
  refine ⟨fun k => ?_, by rw [dep_append, (hl o ho).2, (hm o ho).2]⟩
  rw [List.take_append, dep_append]
  by_cases hk : k ≤ l.length
  · rw [show k - l.length = 0 by omega]
    exact (hl o ho).1 k
  · rw [List.take_of_length_le (by omega), (hl o ho).2]
    exact (hm o ho).1 _
theorem Bal.nil : Bal [] := fun o ho => ⟨fun k => by simpa [dep] using ho, rfl⟩
theorem Bal.brackets {l : List UInt8} (hl : Bal l) : Bal ([40] ++ l ++ [41]) := by
  intro o ho
  have h41 : ∀ q : Int, dep q [41] = q - 1 := fun q => by simp [dep, stepW]
  refine ⟨fun k => ?_, ?_⟩
  · cases k with
    | zero => simpa [dep] using ho
    | succ k =>
      simp only [List.cons_append, List.nil_append, List.take_succ_cons, dep]
      rw [show stepW o 40 = o + 1 from rfl, List.take_append, dep_append]
      by_cases hk : k ≤ l.length
      · rw [show k - l.length = 0 by omega]
        exact (hl (o + 1) (by omega)).1 k
      · rw [List.take_of_length_le (by omega), (hl (o + 1) (by omega)).2, List.take_of_length_le (by simp; omega), h41]
        omega
  · rw [dep_append, h41]
    simp only [List.cons_append, List.nil_append, dep]
    rw [show stepW o 40 = o + 1 from rfl, (hl (o + 1) (by omega)).2]
    omega
theorem Bal.plain {l : List UInt8} (h : ∀ c ∈ l, ¬ c = 40 ∧ ¬ c = 41) : Bal l := by
  induction l with
  | nil => exact Bal.nil
  | cons c l ih =>
    intro o ho
    have hc := h c (by simp)
    have hs : stepW o c = o := by simp [stepW, hc.1, hc.2]
    have := ih (fun d hd => h d (by simp [hd])) o ho
    refine ⟨fun k => ?_, by rw [dep, hs]; exact this.2⟩
    cases k with
    | zero => simpa [dep] using ho
    | succ k => rw [List.take_succ_cons, dep, hs]; exact this.1 k
/-- No blank at an end, no two together: b: the byte ahead is a blank, or there is none. -/
def bk : Bool → List UInt8 → Bool
  | b, [] => !b
  | b, c :: l => if c = 32 then !b && bk true l else bk false l
theorem bk_word (b : Bool) (l r : List UInt8) (h : ∀ c ∈ l, ¬ c = 32) (hl : l ≠ []) : bk b (l ++ r) = bk false r := by
  induction l generalizing b with
  | nil => exact absurd rfl hl
  | cons c l ih =>
    rw [List.cons_append, bk, if_neg (h c (by simp))]
    cases l with
    | nil => rfl
    | cons d l => exact ih false (fun e he => h e (by simp [he])) (by simp)
theorem written_ok {xs : List Nd} (hp : poolB xs = true) : ∀ v, v < xs.length → (Bal (fullT xs v) ∧ ∀ b r, bk b (fullT xs v ++ r) = bk false r) ∧ (Bal (restT xs v) ∧ ∀ r, bk false (restT xs v ++ r) = bk false r) := by
  intro v
  induction v using Nat.strongRecOn with
  | _ v ih =>
    intro hv
    obtain ⟨x, hx⟩ : ∃ x, xs[v]? = some x := ⟨xs[v], by simp [hv]⟩
    have hn := pool_at hp hx
    by_cases h5 : x.k = 5
    · obtain ⟨a, b, ha, hb, hal, hbl⟩ := pool_pair hp hx h5
      obtain ⟨⟨B1, k1⟩, _⟩ := ih a hal (by omega)
      obtain ⟨_, B2, k2⟩ := ih b hbl (by omega)
      rw [fullT_pair hp hx h5 ha hb hal hbl, restT_pair hp hx h5 ha hb hal hbl]
      refine ⟨⟨?_, fun b' r => ?_⟩, ?_, fun r => ?_⟩
      · rw [List.append_assoc [40]]
        exact (B1.append B2).brackets
      · simp only [List.append_assoc, List.cons_append, List.nil_append]
        rw [bk, if_neg (by decide), k1, k2, bk, if_neg (by decide)]
      · exact ((Bal.plain (l := [32]) (by decide)).append B1).append B2
      · simp only [List.append_assoc, List.cons_append, List.nil_append]
        rw [bk, if_pos rfl, Bool.not_false, Bool.true_and, k1, k2]
    · rw [fullT_word hx h5]
      by_cases h1 : x.k = 1
      · have e : wordL x = [40, 41] := by unfold wordL; rw [if_pos h1]
        rw [e, restT_nil hx h1]
        refine ⟨⟨?_, fun b r => ?_⟩, Bal.nil, fun r => rfl⟩
        · exact Bal.nil.brackets
        · exact bk_word b [40, 41] r (by decide) (by simp)
      · obtain ⟨hw, hne⟩ := word_wb hn h5 h1
        rw [restT_word hx h5 h1]
        have hB : Bal (wordL x) := Bal.plain fun c hc => (wb_not (hw c hc)).2
        have hk : ∀ b r, bk b (wordL x ++ r) = bk false r := fun b r => bk_word b _ r (fun c hc => (wb_not (hw c hc)).1) hne
        refine ⟨⟨hB, hk⟩, ?_, fun r => ?_⟩
        · exact (Bal.plain (l := [32, 46, 32]) (by decide)).append hB
        · simp only [List.cons_append, List.nil_append]
          rw [bk, if_pos rfl, Bool.not_false, Bool.true_and, bk, if_neg (by decide), bk, if_pos rfl, Bool.not_false, Bool.true_and, hk]
theorem bk_at {l : List UInt8} : ∀ {b : Bool}, bk b l = true → ∀ i, l[i]? = some (32 : UInt8) → (i = 0 → b = false) ∧ ∃ c, l[i + 1]? = some c ∧ ¬ c = 32 := by
  induction l with
  | nil => intro b _ i h; simp at h
  | cons c l ih =>
    intro b h i hi
    rw [bk] at h
    cases i with
    | zero =>
      simp at hi
      rw [if_pos hi, Bool.and_eq_true] at h
      refine ⟨fun _ => by simpa using h.1, ?_⟩
      cases l with
      | nil => simp [bk] at h
      | cons d l =>
        refine ⟨d, rfl, fun e => ?_⟩
        have := h.2
        rw [bk, if_pos e] at this
        simp at this
    | succ i =>
      refine ⟨fun e => by omega, ?_⟩
      have hi' : l[i]? = some (32 : UInt8) := by simpa using hi
      split at h
      · rw [Bool.and_eq_true] at h
        exact (ih h.2 i hi').2
      · exact (ih h i hi').2
/-- What Write answers, looked through byte by byte. -/
structure Neat (l : List UInt8) : Prop where
  open_ : ∀ k, 0 ≤ dep 0 (l.take k)
  done : dep 0 l = 0
  blank : ∀ i, l[i]? = some (32 : UInt8) → ¬ i = 0 ∧ ∃ c, l[i + 1]? = some c ∧ ¬ c = 32
theorem dep_take {l : List UInt8} {i : Nat} {c : UInt8} (h : l[i]? = some c) : dep 0 (l.take (i + 1)) = stepW (dep 0 (l.take i)) c := by
  rw [List.take_add_one, h, dep_append]
  rfl
end Go.Proofs.YtdakifahedelcaaDoor

/-
  The writer's memory (one block with the pool and the bytes so far) and the contract of its method put. No condition.
-/
namespace Go.Proofs.YtdakifahedelcaaDoor
open Go.RowKit

/-- The cells of bytes. -/
def cb (l : List UInt8) : List Value := l.map fun b => Value.int .u8 b.toNat
theorem cb_length (l : List UInt8) : (cb l).length = l.length := by simp [cb]
theorem cb_append (a b : List UInt8) : cb (a ++ b) = cb a ++ cb b := by simp [cb]
theorem cb_str (s : ByteArray) : Lib.strCells s = cb s.data.toList := rfl

/-- All that is there stays, but for block p and rows of bytes from lo on. -/
structure Fr (p lo : Nat) (w w' : World) : Prop where
  os : w'.os = w.os
  tape : w'.tape = w.tape
  output : w'.output = w.output
  size : w.heap.size ≤ w'.heap.size
  block : ∀ k, k < w.heap.size → k ≠ p → (k < lo ∨ ∀ cur fr, w.heap[k]? ≠ some (.cells cur 5 fr)) → w'.heap[k]? = w.heap[k]?
theorem Fr.refl (p lo : Nat) (w : World) : Fr p lo w w := ⟨rfl, rfl, rfl, Nat.le_refl _, fun _ _ _ _ => rfl⟩
theorem Fr.trans {p lo : Nat} {a b c : World} (h : Fr p lo a b) (k : Fr p lo b c) : Fr p lo a c :=
  ⟨k.os.trans h.os, k.tape.trans h.tape, k.output.trans h.output, Nat.le_trans h.size k.size, fun i hi hp hc => by
    have e := h.block i hi hp hc
    rw [k.block i (Nat.lt_of_lt_of_le hi h.size) hp (by rw [e]; exact hc), e]⟩
theorem Fr.of_below {p lo : Nat} {w w' : World} (h : Below w.heap.size w w') : Fr p lo w w' := ⟨h.os, h.tape, h.output, h.size, fun k hk _ _ => h.block k hk⟩
theorem Fr.below {p lo : Nat} {w w' : World} (h : Fr p lo w w') (hp : lo ≤ w.heap.size) (hpl : p < lo) : Below p w w' := ⟨h.os, h.tape, h.output, h.size, fun k hk => h.block k (by omega) (by omega) (Or.inl (by omega))⟩
theorem Fr.of_grown {p lo : Nat} {w w' : World} {v : Value} {n : Nat} {xs : List Value} (ho : w.ownsRow lo 5 1 v n xs) (h : w.grownBy w' v.ownBlock) : Fr p lo w w' :=
  ⟨h.os, h.tape, h.output, h.size, fun k hk _ hc => h.block k hk (fun e => by
    rcases ho.2 with ⟨rfl, _⟩ | ⟨g, cap, cur, rfl, hb, hg, _⟩
    · cases e
    · simp only [Value.ownBlock, Option.some.injEq] at e
      subst e
      rcases hc with hc | hc
      · omega
      · exact hc _ _ hg)⟩
/-- A block that is no row of bytes stays. -/
theorem Fr.keep {p lo : Nat} {w w' : World} {k : Nat} {cs : Array Value} {t : TypeId} {fr : Nat × Nat} (h : Fr p lo w w') (hk : w.heap[k]? = some (.cells cs t fr)) (hp : k ≠ p) (ht : t ≠ 5) : w'.heap[k]? = some (.cells cs t fr) := by
  rw [h.block k (Array.getElem?_eq_some_iff.1 hk).1 hp (Or.inr fun cur fr' e => by rw [hk] at e; cases e; exact ht rfl), hk]

/-- The writer: block p holds the pool and the bytes so far, which it owns. -/
def Wr (w : World) (p lo : Nat) (pv v : Value) (l : List UInt8) : Prop :=
  w.heap[p]? = some (.cells #[pv, v] 70 (0, 0)) ∧ w.ownsRow lo 5 1 v l.length (cb l)
theorem Wr.below {w w' : World} {p lo : Nat} {pv v : Value} {l : List UInt8} (h : Wr w p lo pv v l) (hb : Below w.heap.size w w') : Wr w' p lo pv v l :=
  ⟨(hb.block _ (Array.getElem?_eq_some_iff.1 h.1).1).trans h.1, own_below h.2 hb⟩

/-- What put panics with. -/
def tooLong : List PanicEntry := [{ v := .iface 76 (.agg #[.int .i64 1, .int .i64 0]), recovered := false }]

/-- How put ends where so many bytes are there then. -/
def putEnd (n : Nat) : Ending := if n ≤ 400 then .returned (.tuple #[]) else .panicked tooLong
theorem putEnd_ok {n : Nat} (h : n ≤ 400) : putEnd n = .returned (.tuple #[]) := by rw [putEnd, if_pos h]
theorem putEnd_no {n : Nat} (h : ¬ n ≤ 400) : putEnd n = .panicked tooLong := by rw [putEnd, if_neg h]

set_option maxRecDepth 100000 in
set_option maxHeartbeats 1600000 in
theorem wput_any (p lo : Nat) (ao : Option Addr) (n cap : Nat) (v : Value) (l : List UInt8) (s : ByteArray) (w : World) (W : Wr w p lo (.slice ao n cap) v l) (hp : p < lo) (hlo : lo ≤ w.heap.size) (hl : l.length ≤ 400) (hs : s.size ≤ 1048576) :
    Calls Tryd.prog 68 #[.pointer (some ⟨p, 0, none⟩), .string s] w fun e w' => Fr p lo w w' ∧ e = putEnd (l.length + s.size) ∧ ∃ v', Wr w' p lo (.slice ao n cap) v' (l ++ s.data.toList) := by
  obtain ⟨hblk, hown⟩ := W
  obtain ⟨i0, hi, hz0, hz1, hz2⟩ := info_parts Tryd.infoU8
  obtain ⟨a2, c2, rfl⟩ := own_form hown
  have hps := (Array.getElem?_eq_some_iff.1 hblk).1
  have c1 : w.cell? ⟨p, 0 + 1, none⟩ = some (.slice a2 l.length c2) := by rw [cell_of_row w _ 1 _ _ _ hblk]; rfl
  go_enter Tryd.func68, Tryd.ntmps68
  go_wp2_with (at_builtin; refine Lib.wpList_append_own_string _ rfl _ _ 22 9 rfl lo 5 i0 Tryd.underlying22 Tryd.underlying9 hi hz0 hz1 hz2 _ _ _ rfl hown s rfl (by unfold maxLen; omega) (by omega) hlo ?_)
  intro v2 w2 own2 hgrow _
  obtain ⟨m, hm⟩ : ∃ m, m = l.length + s.size := ⟨_, rfl⟩
  rw [← hm] at own2
  have hme : (l ++ s.data.toList).length = m := by rw [hm, List.length_append, Array.length_toList]; rfl
  have hne : some p ≠ (Value.slice a2 l.length c2).ownBlock := fun e => by
    have := (hown.lt p e.symm).1
    omega
  have hblk2 : w2.heap[p]? = some (.cells #[.slice ao n cap, .slice a2 l.length c2] 70 (0, 0)) := (hgrow.block p hps hne).trans hblk
  have hF : Fr p lo w w2 := Fr.of_grown hown hgrow
  obtain ⟨a3, c3, rfl⟩ := own_form own2
  have d1 : w2.cell? ⟨p, 0 + 1, none⟩ = some (.slice a2 l.length c2) := by rw [cell_of_row w2 _ 1 _ _ _ hblk2]; rfl
  have f1 : w2.frozen? ⟨p, 0 + 1, none⟩ = false := frozen_of_row w2 _ 1 _ _ hblk2
  have hblk3 := heap_setCell_same w2 p 1 _ _ (.slice a3 m c3) hblk2
  have own3 : (w2.setCell ⟨p, 1, none⟩ (.slice a3 m c3)).ownsRow lo 5 1 (.slice a3 m c3) (l ++ s.data.toList).length (cb (l ++ s.data.toList)) := by
    have := ownsRow_setCell_below own2 (a := ⟨p, 1, none⟩) (by simpa using hp) (.slice a3 m c3)
    rw [cb_append, hme]
    exact this
  have hF3 : Fr p lo w (w2.setCell ⟨p, 1, none⟩ (.slice a3 m c3)) :=
    hF.trans ⟨rfl, rfl, rfl, by simp, fun k _ hk _ => heap_setCell_other w2 ⟨p, 1, none⟩ k _ (by simpa using hk)⟩
  have HE : Hid (putEnd (l.length + s.size) = putEnd m) := by unfold Hid; rw [hm]
  clear hgrow hF c1 hown own2 hm hme
  by_cases hb : m ≤ 400
  · go_wp2
    go_end0
    exact ⟨hF3, by rw [HE.out, putEnd_ok hb], _, hblk3, own3⟩
  · go_wp2
    exact ⟨rfl, hF3, by rw [HE.out, putEnd_no hb]; rfl, _, hblk3, own3⟩
end Go.Proofs.YtdakifahedelcaaDoor
