/-
  What the listed variables give: the table of powers of ten, the words of deeds. No condition beyond that list.
-/
import Derived.Test.YtkoiccocgejmcaaDoorLDl
import Derived.ProofKit
import Derived.LaidMore
import Derived.OpenShut
import Derived.Stop.Joined
import Derived.Stop.LaidErr
import Derived.Lib.LaidTab
namespace Go.Proofs.YtkoiccocgejmcaaDoor
open Go.ChangeShapes Go.WideShapes Go.ChangeAt Go.RowKit

/-- A table of texts, as a row lists it. -/
def strData {H : Type} (ls : List (List UInt8)) : DataW H := .agg (ls.map fun l => .lit (.string l))

theorem cells_of_strs {H : Type} {enc : TypeId × Value → H} {P : Program} {w : World} {base : Nat} {sp : Nat → Bool} {held : Bool} {fuel : Nat} {t e : TypeId} {n : Nat} {cs : List Value} {ls : List (List UInt8)} {p : List MemPlace}
    (ht : P.underlying t = some (.array n e)) (he : P.underlying e = some .string) (hce : P.cellsOf e = 1) (hct : P.cellsOf t = n)
    (h : DataW.trod enc P w base sp held fuel t cs = some (strData ls, p)) : cs = ls.map fun l => Value.string (tx l) := by
  cases fuel with
  | zero => simp [DataW.trod] at h
  | succ fuel =>
    simp only [DataW.trod, ht, hce, hct, Nat.mul_one] at h
    split at h
    · rename_i hl
      obtain ⟨xs, hm, hx⟩ := Option.map_eq_some_iff.1 h
      have hxs : xs.map (·.1) = ls.map fun l => (DataW.lit (.string l) : DataW H) := by
        have := congrArg Prod.fst hx
        simpa [strData] using this
      have hxl : xs.length = n := by simpa using Lib.mapM_length hm
      have hzl : ls.length = n := by
        have := congrArg List.length hxs
        simp at this
        omega
      apply List.ext_getElem?
      intro i
      by_cases hi : i < n
      · obtain ⟨b, hb, hf⟩ := Lib.mapM_at hm i i (by simp [hi])
        obtain ⟨s, hc, hd, _⟩ := DataW.trod_string he hf
        have h1 : cs[i]? = some (.string s) := by
          have := congrArg (·[0]?) hc
          simpa [List.getElem?_take, List.getElem?_drop] using this
        have h2 : (xs.map (·.1))[i]? = some b.1 := by simp [hb]
        rw [hxs] at h2
        simp only [List.getElem?_map, Option.map_eq_some_iff] at h2
        obtain ⟨l, hl', e'⟩ := h2
        rw [hd] at e'
        simp only [DataW.lit.injEq, Lit.string.injEq] at e'
        have es : s = tx l := by
          apply ByteArray.ext
          rw [e']
          simp [tx]
        rw [h1, es]
        simp [hl']
      · rw [List.getElem?_eq_none (by omega), List.getElem?_eq_none (by simp; omega)]
    · cases h

theorem Tryd.gWords : Tryd.prog.globalNamed "loop.example/g00189/impl.deedWords" = some 0 := by kernel_rfl
theorem words_data : (Rows.laid_loop_example_g00189_impl_deedWords : DataW Unit) = strData [[], [115, 116, 101, 112], [115, 104, 111, 119], [103, 105, 118, 101], [99, 111, 112, 121], [108, 111, 115, 101]] := by kernel_rfl
theorem wds_of_head {W : World} {rest : List (String × DataW Unit)} (h0 : laidMet Tryd.prog (("loop.example/g00189/impl.deedWords", Rows.laid_loop_example_g00189_impl_deedWords) :: rest) W) : Wds W := by
  rw [words_data] at h0
  obtain ⟨ps, ⟨g', t', cs, fuel, p, q, hg', ht', hvar, hd, _, _⟩, _⟩ := h0
  obtain rfl := Option.some.inj (Tryd.gWords.symm.trans hg')
  have htt : (Tryd.prog.globals[0]?).map (·.type) = some 36 := by kernel_rfl
  obtain rfl := Option.some.inj (htt.symm.trans ht')
  have hcs := cells_of_strs Tryd.underlying36 Tryd.underlying9 (by kernel_rfl) (by kernel_rfl) hd
  have hat : ∀ i v, wordsV[i]? = some v → W.cell? ⟨0, i, none⟩ = some v := by
    intro i v e
    rw [World.var?_cell Tryd.gWords hvar i]
    obtain ⟨l⟩ := cs
    subst hcs
    rw [List.getElem?_toArray]
    exact e
  refine ⟨World.block_lt_of_cell? _ _ (hat 0 _ rfl), hat⟩

def laidDl : List (String × DataW Unit) := Rows.fnExactDeedLineRow.laid
theorem pow10_dataDl : (Rows.laid_internal_strconv_uint64pow10 : DataW Unit) = Lib.tabData .u64 Lib.pow10Tab := by kernel_rfl
theorem pow_of_laidDl {W : World} (h : laidMetH Tryd.prog laidDl W) : Pow W.heap.size W := by
  rw [MakeChecks.laidMetH_plain _ _ _ (by kernel_rfl)] at h
  have h' : laidMet Tryd.prog [("internal/strconv.uint64pow10", Rows.laid_internal_strconv_uint64pow10), ("loop.example/g00189/impl.deedWords", Rows.laid_loop_example_g00189_impl_deedWords)] W := h.tail.tail
  rw [pow10_dataDl] at h'
  exact Lib.tabBelow_of_tabIs (Lib.tabIs_of_head (g := 2) (by kernel_rfl) (by kernel_rfl) Tryd.underlying86 Tryd.underlying74 (by kernel_rfl) (by kernel_rfl) h')
theorem wds_of_laidDl {W : World} (h : laidMetH Tryd.prog laidDl W) : Wds W := by
  rw [MakeChecks.laidMetH_plain _ _ _ (by kernel_rfl)] at h
  have h' : laidMet Tryd.prog [("loop.example/g00189/impl.deedWords", Rows.laid_loop_example_g00189_impl_deedWords)] W := h.tail.tail.tail
  exact wds_of_head h'

/-- The door's own heap meets the condition. -/
theorem door_metDl (os : Os) (args : Array Value) : laidMetH Tryd.prog laidDl ((World.doorLaid Tryd.prog 65 os).forCall (fun _ _ => 0) ⟨#[], args, []⟩).memory :=
  laidMetH_of_parts3 (fuel := 8) (laidMet_of_run' 8 (by kernel_rfl) (by kernel_rfl)) (by kernel_rfl) (by kernel_rfl)
end Go.Proofs.YtkoiccocgejmcaaDoor
