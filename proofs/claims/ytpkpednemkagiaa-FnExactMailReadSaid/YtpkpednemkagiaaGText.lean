/-
  Plain mathematics of reading a text, and the law of a slice of bytes turned into a text. Nothing of the program; no condition.
-/
import Derived.Test.YtpkpednemkagiaaIGet
import Derived.Test.YtpkpednemkagiaaSb
import Derived.Laws.BytesArg
namespace Go.Proofs.Ytpkpednemkagiaa
open Go.RowKit

theorem scan_bounds (f : Nat) (l bs : List Int) (h : scan f l = some bs) : bs.length ≤ f ∧ bs.length ≤ l.length := by
  induction f generalizing l bs with
  | zero => simp [scan] at h
  | succ f ih =>
    cases l with
    | nil => simp [scan] at h
    | cons b l =>
      simp only [scan] at h
      split at h
      · simp at h; subst h; simp
      · simp only [Option.map_eq_some_iff] at h
        obtain ⟨bs', h1, rfl⟩ := h
        have := ih l bs' h1
        simp only [List.length_cons]; omega

theorem gN_ok (zs : List Int) (a n next : Int) (h : gN zs a = (n, next, true)) : 0 ≤ n ∧ n ≤ 9223372036854775807 ∧ 0 ≤ next ∧ next ≤ zs.length := by
  unfold gN at h
  by_cases h0 : a < 0
  · simp [h0] at h
  · simp only [h0, if_false] at h
    cases hs : scan 9 (zs.drop a.toNat) with
    | none => simp [hs] at h
    | some bs =>
      simp only [hs] at h
      have hb := scan_bounds 9 _ bs hs
      have hv := val_bounds bs
      have hl := lim_mono hb.1
      rw [lim_nine] at hl
      by_cases h1 : 1 < bs.length ∧ bs.getLast? = some 0
      · rw [if_pos h1] at h; simp at h
      · rw [if_neg h1] at h
        simp only [Prod.mk.injEq, and_true] at h
        obtain ⟨rfl, rfl⟩ := h
        have hb2 := hb.2
        simp only [List.length_drop] at hb2
        have hpos : 0 < bs.length := by
          rcases Nat.eq_zero_or_pos bs.length with h | h
          · rw [List.eq_nil_of_length_eq_zero h] at hs
            exfalso
            cases hd : zs.drop a.toNat with
            | nil => rw [hd] at hs; simp [scan] at hs
            | cons b l =>
              rw [hd] at hs
              simp only [scan] at hs
              split at hs
              · simp at hs
              · simp at hs
          · exact h
        omega

/-- What GetText answers. -/
def gT (zs : List Int) (a : Int) : ByteArray × Int × Bool :=
  if (gN zs a).2.2 = true ∧ (gN zs a).1 ≤ (zs.length : Int) - (gN zs a).2.1 then
    (strOfNums ((zs.drop (gN zs a).2.1.toNat).take (gN zs a).1.toNat), (gN zs a).2.1 + (gN zs a).1, true)
  else (⟨#[]⟩, 0, false)
abbrev tV (r : ByteArray × Int × Bool) : Value := .tuple #[.string r.1, .int .i64 r.2.1, .bool r.2.2]
theorem gT_no (zs : List Int) (a n next : Int) (ok : Bool) (h : gN zs a = (n, next, ok)) (hn : ok = false ∨ (zs.length : Int) - next < n) : gT zs a = (⟨#[]⟩, 0, false) := by
  unfold gT
  rw [h, if_neg]
  rcases hn with rfl | hn
  · simp
  · intro h; have := h.2; simp only at this; omega
theorem gT_yes (zs : List Int) (a : Int) (n next : Nat) (h : gN zs a = ((n : Int), (next : Int), true)) (hn : (n : Int) ≤ (zs.length : Int) - next) : gT zs a = (strOfNums ((zs.drop next).take n), (next : Int) + n, true) := by
  unfold gT
  rw [h, if_pos ⟨rfl, hn⟩]
  simp

theorem gT_false (zs : List Int) (a : Int) (h : (gT zs a).2.2 = false) : gT zs a = (⟨#[]⟩, 0, false) := by
  unfold gT at h ⊢
  split at h
  · simp at h
  · rename_i h1; rw [if_neg h1]
theorem cut_cell {w : World} {g o : Nat} {zs : List Int} (hcell : ∀ i, i < zs.length → w.cell? ⟨g, o + i, none⟩ = some (.int .u8 (zs.getD i 0))) (next n : Nat) (hle : next + n ≤ zs.length) (i : Nat) (hi : i < n) :
    w.cell? ⟨g, o + next + i, none⟩ = some (.int .u8 (((zs.drop next).take n).getD i 0)) := by
  rw [Nat.add_assoc, hcell (next + i) (by omega)]
  simp only [List.getD_eq_getElem?_getD, List.getElem?_take, List.getElem?_drop]
  rw [if_pos hi]
theorem cut_length (zs : List Int) (next n : Nat) (hle : next + n ≤ zs.length) : ((zs.drop next).take n).length = n := by
  simp only [List.length_take, List.length_drop]; omega
/-- Where the bytes of a cut of a slice lie. -/
theorem cut_cells {w : World} {ao : Option Addr} {cap : Nat} {zs : List Int} (hcell : zs ≠ [] → ∃ g o, ao = some ⟨g, o, none⟩ ∧ g < w.heap.size ∧ ∀ i, i < zs.length → w.cell? ⟨g, o + i, none⟩ = some (.int .u8 (zs.getD i 0)))
    (next n : Nat) (hle : next + n ≤ zs.length) (hcap : zs.length ≤ cap) :
    n ≠ 0 → ∃ g o', (if cap = next then ao else ao.map (·.add next)) = some ⟨g, o', none⟩ ∧ ∀ i, i < n → w.cell? ⟨g, o' + i, none⟩ = some (.int .u8 (((zs.drop next).take n).getD i 0)) := by
  intro hn
  obtain ⟨g, o, rfl, _, hc⟩ := hcell (by intro e; subst e; simp at hle; omega)
  rw [if_neg (by omega)]
  exact ⟨g, o + next, by simp [Addr.add_lit], cut_cell hc next n hle⟩

/-- A slice of bytes turned into a text. -/
theorem wpList_bytes_string {P : Program} (w : World) {ops : Array Oper} {rest : List Oper} {o : Oper} {a : Act} {Q : Exit → Act → World → Prop} (hg : o.guard = none) (x : Operand) (src dst e : TypeId) (ho : o.op = .convert src dst x)
    (hs : P.underlying src = some (.slice e)) (hd : P.underlying dst = some .string) (he : P.underlying e = some (.int .u8)) (ao : Option Addr) (n c : Nat) (xs : List Int) (hx : a.eval x = .slice ao n c) (hl : xs.length = n)
    (hc : n ≠ 0 → ∃ g o', ao = some ⟨g, o', none⟩ ∧ ∀ i, i < n → w.cell? ⟨g, o' + i, none⟩ = some (.int .u8 (xs.getD i 0)))
    (h : wpList P ops Q rest (a.put o.dst (.string (strOfNums xs))) w) : wpList P ops Q (o :: rest) a w := by
  refine wpList_plain hg fun K hK => ?_
  have hrun : (convert src dst (.slice ao n c)).run P w = .ok (.string (strOfNums xs)) w := by
    by_cases h0 : n = 0
    · subst h0
      have : xs = [] := List.eq_nil_of_length_eq_zero hl
      subst this
      cases ao with
      | none => exact run_convert_bytes_nil w src e hs he 0 c dst hd
      | some ad => exact run_convert_bytes_back w src dst e ad c [] hs he hd (fun j hj => absurd hj (by simp))
    · obtain ⟨g, o', rfl, hcell⟩ := hc h0
      exact run_convert_bytes_arg w src e hs he g o' n c xs hl hcell dst hd
  unfold Oper.wp
  simp [execOp, ho, hx, hrun, Result.andThen]
  exact hK _ _ h

end Go.Proofs.Ytpkpednemkagiaa
