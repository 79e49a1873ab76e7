/-
  Plain facts on a text's bytes, and the law of a text turned into bytes. Nothing of the program; no condition.
-/
import Derived.Test.YtpkpednemkagiaaMath
import Derived.Lib.AppendStr
import Derived.Laws.IdiomStrings
namespace Go.Proofs.Ytpkpednemkagiaa
open Go.RowKit

/-- A text's bytes. -/
def sb (s : ByteArray) : List Int := s.data.toList.map fun b => (b.toNat : Int)
theorem sb_length (s : ByteArray) : (sb s).length = s.size := by rw [sb, List.length_map, Array.length_toList]; rfl
theorem sb_wf (s : ByteArray) : ∀ z ∈ sb s, 0 ≤ z ∧ z ≤ 255 := by
  intro z hz
  simp only [sb, List.mem_map] at hz
  obtain ⟨b, _, rfl⟩ := hz
  have := b.toNat_lt
  omega
theorem sb_cells (s : ByteArray) : bv (sb s) = Lib.strCells s := by
  simp [bv, sb, Lib.strCells]
/-- What PutText answers. -/
def pt (s : ByteArray) : List Int := encI s.size ++ sb s
theorem pt_length (s : ByteArray) : (pt s).length = (encI s.size).length + s.size := by rw [pt, List.length_append, sb_length]
theorem pt_wf (s : ByteArray) : ∀ z ∈ pt s, 0 ≤ z ∧ z ≤ 255 := by
  intro z hz
  simp only [pt, List.mem_append] at hz
  rcases hz with hz | hz
  · exact encI_wf _ z hz
  · exact sb_wf s z hz

theorem bytesRow_get (s : ByteArray) (cap j : Nat) (u : Value) (h : (bv (sb s))[j]? = some u) : (bytesRow s cap)[j]? = some u := by
  have hj : j < s.data.size := by
    have := (List.getElem?_eq_some_iff.1 h).1
    rw [bv_length, sb_length] at this
    exact this
  unfold bytesRow
  rw [Array.getElem?_append_left (by simpa using hj)]
  simp only [bv, sb, List.map_map, List.getElem?_map, Array.getElem?_toList] at h
  simpa using h

/-- A text turned into bytes: a new row that holds them. -/
theorem wpList_string_bytes {P : Program} (w : World) {ops : Array Oper} {rest : List Oper} {o : Oper} {a : Act} {Q : Exit → Act → World → Prop} (hg : o.guard = none) (x : Operand) (src dst e : TypeId) (ho : o.op = .convert src dst x)
    (hs : P.underlying src = some .string) (hd : P.underlying dst = some (.slice e)) (he : P.underlying e = some (.int .u8)) (s : ByteArray) (hx : a.eval x = .string s)
    (h : ∀ cap w', (∀ j u, (bv (sb s))[j]? = some u → w'.cell? ((⟨w.heap.size, 0, none⟩ : Addr).add j) = some u) → w.grownBy w' none → w.heap.size < w'.heap.size → wpList P ops Q rest (a.put o.dst (.slice (some ⟨w.heap.size, 0, none⟩) s.size cap)) w') :
    wpList P ops Q (o :: rest) a w := by
  refine wpList_plain hg fun K hK => ?_
  obtain ⟨cap, w', hrun, h1, h2, h3⟩ : ∃ cap w', (convert src dst (.string s)).run P w = .ok (.slice (some ⟨w.heap.size, 0, none⟩) s.size cap) w' ∧
      (∀ j u, (bv (sb s))[j]? = some u → w'.cell? ((⟨w.heap.size, 0, none⟩ : Addr).add j) = some u) ∧ w.grownBy w' none ∧ w.heap.size < w'.heap.size := by
    refine ⟨_, _, run_bytes_of_string w src dst e s hs hd he, ?_, ?_, ?_⟩
    · intro j u hu
      rw [Addr.add_lit, Nat.zero_add, cell_of_row _ w.heap.size j _ e _ (heap_alloc_new w.drew _)]
      exact bytesRow_get s _ j u hu
    · have hga := World.grownBy_alloc w.drew (Obj.cells (bytesRow s (grownCap w s.size 0 e)) e ((bytesRow s (grownCap w s.size 0 e)).size, (bytesRow s (grownCap w s.size 0 e)).size + 1)) none
      exact ⟨hga.os, hga.tape, hga.output, hga.size, hga.block⟩
    · show w.heap.size < (w.heap.push _).size
      simp
  unfold Oper.wp
  simp [execOp, ho, hx, hrun, Result.andThen]
  exact hK _ _ (h cap w' h1 h2 h3)

end Go.Proofs.Ytpkpednemkagiaa
