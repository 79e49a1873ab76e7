/-
  The law of a slice of bytes turned into a text, and the laws' own markText: the same text at the same number, in whatever world. Nothing else of the program; no condition.
-/
import Derived.Test.YtdmnpaoceimcdaaNd
import Derived.Laws.BytesArg
import Derived.Lib.AppendStr
import Derived.Laws.IdiomStrings
namespace Go.Proofs.Ytdmnpaoceimcdaa
open Go.RowKit

/-- A slice of bytes turned into a text. -/
theorem wpList_bytes_text {P : Program} (w : World) {ops : Array Oper} {rest : List Oper} {o : Oper} {a : Act} {Q : Exit → Act → World → Prop} (hg : o.guard = none) (x : Operand) (src dst e : TypeId) (ho : o.op = .convert src dst x)
    (hs : P.underlying src = some (.slice e)) (hd : P.underlying dst = some .string) (he : P.underlying e = some (.int .u8)) (ao : Option Addr) (n c : Nat) (xs : List Int) (hx : a.eval x = .slice ao n c) (hl : xs.length = n)
    (hc : n ≠ 0 → ∃ g o', ao = some ⟨g, o', none⟩ ∧ ∀ i, i < n → w.cell? ⟨g, o' + i, none⟩ = some (.int .u8 (xs.getD i 0)))
    (h : wpList P ops Q rest (a.put o.dst (.string (strOfNums xs))) w) : wpList P ops Q (o :: rest) a w := by
  refine wpList_plain hg fun K hK => ?_
  have hrun : (convert src dst (.slice ao n c)).run P w = .ok (.string (strOfNums xs)) w := by
    by_cases h0 : n = 0
    · subst h0
      have : xs = [] := List.eq_nil_of_length_eq_zero hl
      subst this
      cases ao with
      | none => exact run_convert_bytes_nil w src e hs he 0 c dst hd
      | some ad => exact run_convert_bytes_back w src dst e ad c [] hs he hd (fun j hj => absurd hj (by simp))
    · obtain ⟨g, o', rfl, hcell⟩ := hc h0
      exact run_convert_bytes_arg w src e hs he g o' n c xs hl hcell dst hd
  unfold Oper.wp
  simp [execOp, ho, hx, hrun, Result.andThen]
  exact hK _ _ h

/-- The digits of k ahead of out. -/
def mtGo : Nat → Nat → ByteArray → ByteArray
  | 0, _, out => out
  | f + 1, k, out => if k = 0 then out else mtGo f (k / 10) (strOfNums [48 + (k : Int) % 10] ++ out)
/-- What markText tells of a number. -/
def mt (k : Int) : ByteArray := if k ≤ 0 then ⟨#[109, 48]⟩ else ⟨#[109]⟩ ++ mtGo k.toNat k.toNat ⟨#[]⟩
theorem mtGo_step (f k : Nat) (out : ByteArray) (h : 0 < k) (hf : k ≤ f) : mtGo f k out = mtGo (f - 1) (k / 10) (strOfNums [48 + (k : Int) % 10] ++ out) := by
  cases f with
  | zero => omega
  | succ f => simp only [mtGo, if_neg (by omega : ¬ k = 0)]; rfl
theorem mtGo_end (f : Nat) (out : ByteArray) : mtGo f 0 out = out := by
  cases f <;> simp [mtGo]

theorem digit_size (x : Int) : (strOfNums [x]).size = 1 := rfl

set_option maxHeartbeats 800000 in
theorem marktext_any (k : Int) (w : World) (hk : k ≤ 4611686018427387904) :
    Calls Try.prog 48 #[.int .i64 k] w fun e w' => e = .returned (.string (mt k)) ∧ Below w.heap.size w w' := by
  by_cases h0 : k ≤ 0
  · have HM : Hid (mt k = ⟨#[109, 48]⟩) := by unfold Hid mt; rw [if_pos h0]
    go_enter Try.func48, Try.ntmps48
    go_wp2
    go_ret
    exact ⟨by rw [HM.out]; rfl, Below.refl _ _⟩
  · obtain ⟨n, rfl⟩ := Int.eq_ofNat_of_zero_le (show 0 ≤ k by omega)
    have HM : Hid (mt n = ⟨#[109]⟩ ++ mtGo n n ⟨#[]⟩) := by unfold Hid mt; rw [if_neg h0]; rfl
    go_enter Try.func48, Try.ntmps48
    go_wp2
    go_loopw [0, 3] (fun q s wr => ∃ (f j : Nat) (t : ByteArray), q = .int .i64 j ∧ s = .string t ∧ j ≤ f ∧ t.size + j ≤ n ∧ Hid (mtGo n n ⟨#[]⟩ = mtGo f j t) ∧ Below w.heap.size w wr) (fun q _ _ => (intOf q).toNat)
    case atStart => exact ⟨n, n, ⟨#[]⟩, rfl, rfl, by omega, by show 0 + n ≤ n; omega, rfl, Below.refl _ _⟩
    case round =>
      obtain ⟨f, j, t, rfl, rfl, hjf, hjn, HG, hb⟩ := hrel
      by_cases hj : 0 < j
      · go_wp2_with (refine wpList_bytes_text _ rfl _ 22 9 5 rfl Try.underlying22 Try.underlying9 Try.underlying5 (some ⟨wr.heap.size, 0, none⟩) 1 1 [48 + (j : Int) % 10] rfl rfl ?_ ?_)
        · intro _
          refine ⟨_, 0, rfl, fun i hi => ?_⟩
          have hi0 : i = 0 := by omega
          subst hi0
          simp
        · exfalso
          have hd := digit_size (48 + (j : Int) % 10)
          omega
        · have hB := hb.alloc hb.size (Obj.cells #[Value.int .u8 (48 + (j : Int) % 10)] 5)
          refine ⟨⟨f - 1, j / 10, _, by rw [Int.natCast_ediv]; rfl, rfl, by omega, ?_, ?_, hB⟩, by simp [intOf]; omega⟩
          · rw [ByteArray.size_append, digit_size]; omega
          · unfold Hid
            rw [HG.out, mtGo_step f j t hj hjf]
      · have hj0 : j = 0 := by omega
        subst hj0
        have hcat : ¬ 9223372036854775807 < (⟨#[109]⟩ : ByteArray).size + t.size := by
          have e : (⟨#[109]⟩ : ByteArray).size = 1 := rfl
          rw [e]; omega
        go_wp2
        go_ret
        refine ⟨?_, hb⟩
        rw [HM.out, HG.out, mtGo_end]
        rfl
end Go.Proofs.Ytdmnpaoceimcdaa
