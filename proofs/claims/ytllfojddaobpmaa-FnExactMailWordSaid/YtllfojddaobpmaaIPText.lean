/-
  Contract of impl.PutText: for every text of at most 2^21 bytes a new slice of its own that holds the bytes of its length, and then its own.
-/
import Derived.Test.YtllfojddaobpmaaSb
import Derived.Test.YtllfojddaobpmaaIPut
namespace Go.Proofs.Ytllfojddaobpmaa
open Go.RowKit

set_option maxRecDepth 100000 in
set_option maxHeartbeats 400000 in
theorem iptext_any (s : ByteArray) (w : World) (hs : s.size ≤ 2097152) :
    Calls Try.prog 18 #[.string s] w fun e w' => ∃ v, e = .returned v ∧ w'.ownsRow w.heap.size 5 1 v (pt s).length (bv (pt s)) ∧ Below w.heap.size w w' := by
  obtain ⟨i0, hi, hz0, hz1, hz2⟩ := info_parts Try.infoU8
  have hl := encI_length s.size
  go_enter Try.func18, Try.ntmps18
  go_wp2_with fail
  refine (iput_any (s.size : Int) _ (by omega)).mono ?_
  rintro e w1 ⟨v1, rfl, own1, bel1⟩
  have hsz := bel1.size
  go_wp2_with (at_builtin; refine Lib.wpList_append_own_string _ rfl _ _ 58 9 rfl w.heap.size 5 i0 Try.underlying58 Try.underlying9 hi hz0 hz1 hz2 _ _ _ rfl own1 s rfl (by unfold maxLen; omega) (by omega) hsz ?_)
  intro v2 w2 own2 hgrow _
  go_wp2_with fail
  go_ret
  refine ⟨v2, rfl, ?_, bel1.grown hgrow hsz (fun k hk => (own1.lt k hk).1)⟩
  rw [pt_length, pt, bv_append, sb_cells]
  exact own2

end Go.Proofs.Ytllfojddaobpmaa
