/-
  The law of a slice of bytes turned into a text, and the laws' own markText: the same text at the same number, in whatever world. Nothing else of the program; no condition.
-/
import Derived.Test.YtkoiccocgejmcaaDoorNd
import Derived.Laws.BytesArg
import Derived.Lib.AppendStr
import Derived.Laws.IdiomStrings
namespace Go.Proofs.YtkoiccocgejmcaaDoor
open Go.RowKit

/-- A slice of bytes turned into a text. -/
theorem wpList_bytes_text {P : Program} (w : World) {ops : Array Oper} {rest : List Oper} {o : Oper} {a : Act} {Q : Exit → Act → World → Prop} (hg : o.guard = none) (x : Operand) (src dst e : TypeId) (ho : o.op = .convert src dst x)
    (hs : P.underlying src = some (.slice e)) (hd : P.underlying dst = some .string) (he : P.underlying e = some (.int .u8)) (ao : Option Addr) (n c : Nat) (xs : List Int) (hx : a.eval x = .slice ao n c) (hl : xs.length = n)
    (hc : n ≠ 0 → ∃ g o', ao = some ⟨g, o', none⟩ ∧ ∀ i, i < n → w.cell? ⟨g, o' + i, none⟩ = some (.int .u8 (xs.getD i 0)))
    (h : wpList P ops Q rest (a.put o.dst (.string (strOfNums xs))) w) : wpList P ops Q (o :: rest) a w := by
  refine wpList_plain hg fun K hK => ?_
  have hrun : (convert src dst (.slice ao n c)).run P w = .ok (.string (strOfNums xs)) w := by
    by_cases h0 : n = 0
    · subst h0
      have : xs = [] := List.eq_nil_of_length_eq_zero hl
      subst this
      cases ao with
      | none => exact run_convert_bytes_nil w src e hs he 0 c dst hd
      | some ad => exact run_convert_bytes_back w src dst e ad c [] hs he hd (fun j hj => absurd hj (by simp))
    · obtain ⟨g, o', rfl, hcell⟩ := hc h0
      exact run_convert_bytes_arg w src e hs he g o' n c xs hl hcell dst hd
  unfold Oper.wp
  simp [execOp, ho, hx, hrun, Result.andThen]
  exact hK _ _ h

/-- The digits of k ahead of out. -/
def mtGo : Nat → Nat → ByteArray → ByteArray
  | 0, _, out => out
  | f + 1, k, out => if k = 0 then out else mtGo f (k / 10) (strOfNums [48 + (k : Int) % 10] ++ out)
/-- What markText tells of a number. -/
def mt (k : Int) : ByteArray := if k ≤ 0 then ⟨#[109, 48]⟩ else ⟨#[109]⟩ ++ mtGo k.toNat k.toNat ⟨#[]⟩
theorem mtGo_step (f k : Nat) (out : ByteArray) (h : 0 < k) (hf : k ≤ f) : mtGo f k out = mtGo (f - 1) (k / 10) (strOfNums [48 + (k : Int) % 10] ++ out) := by
  cases f with
  | zero => omega
  | succ f => simp only [mtGo, if_neg (by omega : ¬ k = 0)]; rfl
theorem mtGo_end (f : Nat) (out : ByteArray) : mtGo f 0 out = out := by
  cases f <;> simp [mtGo]

theorem digit_size (x : Int) : (strOfNums [x]).size = 1 := rfl

end Go.Proofs.YtkoiccocgejmcaaDoor
