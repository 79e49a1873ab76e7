/-
  Contract of spec.PutText: for every text of at most 2^21 bytes a new slice of its own that holds the bytes of its length, and then its own.
-/
import Derived.Test.YtllfojddaobpmaaSb
import Derived.Test.YtllfojddaobpmaaSPut
namespace Go.Proofs.Ytllfojddaobpmaa
open Go.RowKit

set_option maxRecDepth 100000 in
set_option maxHeartbeats 400000 in
theorem sptext_any (s : ByteArray) (w : World) (hs : s.size ≤ 2097152) :
    Calls Try.prog 16 #[.string s] w fun e w' => ∃ v, e = .returned v ∧ w'.ownsRow w.heap.size 5 1 v (pt s).length (bv (pt s)) ∧ Below w.heap.size w w' := by
  obtain ⟨i0, hi, hz0, hz1, hz2⟩ := info_parts Try.infoU8
  have hl := encI_length s.size
  go_enter Try.func16, Try.ntmps16
  go_wp2_with fail
  refine (sput_any (s.size : Int) _ (by omega)).mono ?_
  rintro e w1 ⟨v1, rfl, own1, bel1⟩
  have hsz := bel1.size
  go_wp2_with (first | (refine wpList_string_bytes _ rfl _ 9 58 5 rfl Try.underlying9 Try.underlying58 Try.underlying5 s rfl ?_; intro cap w2 hcell hg2 hs2) | (at_builtin; refine wpList_append_own _ rfl _ _ 58 rfl w.heap.size 5 i0 (.int .u8 0) 1 1 Try.underlying58 hi hz0 hz1 hz2 rfl (by decide) v1 (encI s.size).length (bv (encI s.size)) rfl ?ho ⟨w1.heap.size, 0, none⟩ s.size _ (bv (sb s)) rfl ?hl ?hn ?h1 ?h63 ?hby ?hba ?_))
  case ho => exact own1.kept hg2 (by cases v1.ownBlock <;> simp)
  case hl => rw [bv_length, sb_length]; simp
  case hn => exact hcell
  case h1 => exact ints_oneCell .u8 _
  case h63 => unfold maxLen; omega
  case hby => omega
  case hba => omega
  intro v3 w3 own3 hgrow _
  go_wp2_with fail
  go_ret
  refine ⟨v3, rfl, ?_, (bel1.grown hg2 hsz (fun k hk => by cases hk)).grown hgrow (by omega) (fun k hk => (own1.lt k hk).1)⟩
  rw [pt_length, pt, bv_append]
  exact own3

end Go.Proofs.Ytllfojddaobpmaa
