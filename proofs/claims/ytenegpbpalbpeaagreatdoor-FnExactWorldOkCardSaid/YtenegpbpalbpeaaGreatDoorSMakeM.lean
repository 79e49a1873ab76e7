/-
  Texts that stood by themselves, laid into one.
-/
import Derived.Test.YtenegpbpalbpeaaGreatDoorWireM
import Derived.Test.YtenegpbpalbpeaaGreatDoorSPutM
import Derived.Test.YtenegpbpalbpeaaGreatDoorNextM
import Derived.Test.YtenegpbpalbpeaaGreatDoorMachM
import Derived.Test.YtenegpbpalbpeaaGreatDoorSizeIM
import Derived.Deep.RegionHeld
import Derived.OneCell
import Derived.Test.YtenegpbpalbpeaaGreatDoorNameM
/-
  Contract of spec.PutText: for every text of at most 2^21 bytes a new slice of its own that holds the bytes of its length, and then its own.
-/
namespace Go.Proofs.YtenegpbpalbpeaaGreatDoor
open Go.RowKit
set_option maxRecDepth 100000 in
set_option maxHeartbeats 400000 in
theorem sptext_any (s : ByteArray) (w : World) (hs : s.size ≤ 2097152) :
    Calls Tryz.prog 190 #[.string s] w fun e w' => ∃ v, e = .returned v ∧ w'.ownsRow w.heap.size 5 1 v (pt s).length (bv (pt s)) ∧ Below w.heap.size w w' := by
  obtain ⟨i0, hi, hz0, hz1, hz2⟩ := info_parts Tryz.infoU8
  have hl := encI_length s.size
  go_enter Tryz.func190, Tryz.ntmps190
  go_wp2_with fail
  refine (sput_any (s.size : Int) _ (by omega)).mono ?_
  rintro e w1 ⟨v1, rfl, own1, bel1⟩
  have hsz := bel1.size
  go_wp2_with (first | (refine wpList_string_bytes _ rfl _ 9 203 5 rfl Tryz.underlying9 Tryz.underlying203 Tryz.underlying5 s rfl ?_; intro cap w2 hcell hg2 hs2) | (at_builtin; refine wpList_append_own _ rfl _ _ 203 rfl w.heap.size 5 i0 (.int .u8 0) 1 1 Tryz.underlying203 hi hz0 hz1 hz2 rfl (by decide) v1 (encI s.size).length (bv (encI s.size)) rfl ?ho ⟨w1.heap.size, 0, none⟩ s.size _ (bv (sb s)) rfl ?hl ?hn ?h1 ?h63 ?hby ?hba ?_))
  case ho => exact own1.kept hg2 (by cases v1.ownBlock <;> simp)
  case hl => rw [bv_length, sb_length]; simp
  case hn => exact hcell
  case h1 => exact ints_oneCell .u8 _
  case h63 => unfold maxLen; omega
  case hby => omega
  case hba => omega
  intro v3 w3 own3 hgrow _
  go_wp2_with fail
  go_ret
  refine ⟨v3, rfl, ?_, (bel1.grown hg2 hsz (fun k hk => by cases hk)).grown hgrow (by omega) (fun k hk => (own1.lt k hk).1)⟩
  rw [pt_length, pt, bv_append]
  exact own3
end Go.Proofs.YtenegpbpalbpeaaGreatDoor
/-
  Contract of impl.PutNum: for every int a new slice of its own that holds the number's bytes.
-/
namespace Go.Proofs.YtenegpbpalbpeaaGreatDoor
open Go.RowKit
end Go.Proofs.YtenegpbpalbpeaaGreatDoor
/-
  Contract of impl.PutText: for every text of at most 2^21 bytes a new slice of its own that holds the bytes of its length, and then its own.
-/
namespace Go.Proofs.YtenegpbpalbpeaaGreatDoor
open Go.RowKit
end Go.Proofs.YtenegpbpalbpeaaGreatDoor
/-
  What impl.putNums puts: the contract, with great bounds. No condition but bounds.
-/
namespace Go.Proofs.YtenegpbpalbpeaaGreatDoor
open Go.RowKit
def Stays (w w' : World) : Prop := ∀ (j : Nat) (c : Array Value) (t : TypeId), t ≠ 5 → w.heap[j]? = some (.cells c t (0, 0)) → w'.heap[j]? = some (.cells c t (0, 0))
theorem Stays.refl (w : World) : Stays w w := fun _ _ _ _ h => h
theorem Stays.trans {w1 w2 w3 : World} (h : Stays w1 w2) (k : Stays w2 w3) : Stays w1 w3 := fun j c t ht hj => k j c t ht (h j c t ht hj)
theorem Stays.below {w w' : World} (hb : Below w.heap.size w w') : Stays w w' := fun j _ _ _ hj => (hb.block j (Array.getElem?_eq_some_iff.1 hj).1).trans hj
theorem Stays.grown {w w' : World} {B n : Nat} {vo : Value} {xs : List Value} (ho : w.ownsRow B 5 1 vo n xs) (hg : w.grownBy w' vo.ownBlock) : Stays w w' := fun j _ _ ht hj => (hg.block j (Array.getElem?_eq_some_iff.1 hj).1 (fun e => own_ne ho hj ht e.symm)).trans hj
def OwnB (w : World) (B : Nat) (v : Value) (bs : List Int) : Prop := w.ownsRow B 5 1 v bs.length (bv bs)
end Go.Proofs.YtenegpbpalbpeaaGreatDoor
/-
  Contract of spec.Make.
-/
namespace Go.Proofs.YtenegpbpalbpeaaGreatDoor
open Go.RowKit
end Go.Proofs.YtenegpbpalbpeaaGreatDoor
