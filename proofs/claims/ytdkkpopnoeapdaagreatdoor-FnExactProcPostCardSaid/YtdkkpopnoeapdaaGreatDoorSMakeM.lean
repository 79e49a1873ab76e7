/-
  Texts that stood by themselves, laid into one.
-/
import Derived.Test.YtdkkpopnoeapdaaGreatDoorStore2M
import Derived.Test.YtdkkpopnoeapdaaGreatDoorDecM
import Derived.Test.YtdkkpopnoeapdaaGreatDoorR8bM
import Derived.Test.YtdkkpopnoeapdaaGreatDoorMkListM
import Derived.OneCell
/-
  Contract of the laws' own helper toByteS: a new slice of its own that reads as the slice that was handed in (at most 2^21 bytes).
-/
namespace Go.Proofs.YtdkkpopnoeapdaaGreatDoor
open Go.RowKit

/-- The first j of zs, and noughts behind them. -/
def copied (zs : List Int) (j : Nat) : List Int := zs.take j ++ List.replicate (zs.length - j) 0
theorem copied_length (zs : List Int) (j : Nat) (h : j ≤ zs.length) : (copied zs j).length = zs.length := by simp [copied]; omega
theorem copied_full (zs : List Int) : copied zs zs.length = zs := by simp [copied]
theorem copied_zero (zs : List Int) : bv (copied zs 0) = (madeCells #[Value.int .u8 0] zs.length).toList := by
  rw [toList_madeCells_one]
  simp [copied, bv]
theorem copied_set (zs : List Int) (j : Nat) (h : j < zs.length) : (bv (copied zs j)).set j (.int .u8 zs[j]) = bv (copied zs (j + 1)) := by
  unfold copied bv
  rw [show zs.length - j = zs.length - (j + 1) + 1 by omega, List.replicate_succ, List.take_succ_eq_append_getElem h]
  simp only [List.map_append, List.map_cons, List.map_nil]
  rw [List.set_append_right _ _ (by simp; omega)]
  have e : j - (List.map (Value.int IntKind.u8) (List.take j zs)).length = 0 := by simp; omega
  rw [e]
  simp

end Go.Proofs.YtdkkpopnoeapdaaGreatDoor

/-
  Contract of spec.PutNum: for every int a new slice of its own that holds the number's bytes.
-/
namespace Go.Proofs.YtdkkpopnoeapdaaGreatDoor
open Go.RowKit

set_option maxRecDepth 100000 in
set_option maxHeartbeats 400000 in
theorem sput_neg (x : Int) (w : World) (hx : x < 0) :
    Calls Tryz.prog 108 #[.int .i64 x] w fun e w' => ∃ v, e = .returned v ∧ w'.ownsRow w.heap.size 5 1 v 0 (bv []) ∧ Below w.heap.size w w' := by
  go_enter Tryz.func108, Tryz.ntmps108
  go_wp2
  go_ret
  exact ⟨_, rfl, World.ownsRow_made _ _ 0 (Nat.le_refl _) (by simp) (by simp), (Below.refl _ _).alloc (Nat.le_refl _) _⟩

set_option maxRecDepth 100000 in
set_option maxHeartbeats 400000 in
theorem sput_pos (x : Int) (w : World) (hx : 0 ≤ x) (hm : x ≤ 9223372036854775807) :
    Calls Tryz.prog 108 #[.int .i64 x] w fun e w' => ∃ v, e = .returned v ∧ w'.ownsRow w.heap.size 5 1 v (enc 9 x).length (bv (enc 9 x)) ∧ Below w.heap.size w w' := by
  obtain ⟨i0, hi, hz0, hz1, hz2⟩ := info_parts Tryz.infoU8
  go_enter Tryz.func108, Tryz.ntmps108
  go_wp2
  go_loopw [0, 3] (fun y v wr => ∃ (f : Nat) (q : Int) (acc : List Int), y = .int .i64 q ∧ 0 ≤ q ∧ q ≤ 9223372036854775807 ∧ acc.length + f = 8 ∧ Hid (q < lim (f + 1)) ∧ Hid (acc ++ enc (f + 1) q = enc 9 x) ∧ wr.ownsRow w.heap.size 5 1 v acc.length (bv acc) ∧ Below w.heap.size w wr) (fun y _ _ => (intOf y).toNat)
  case atStart =>
    exact ⟨8, x, [], rfl, hx, hm, rfl, by unfold Hid; rw [lim_nine]; omega, rfl, World.ownsRow_made _ _ 0 (Nat.le_refl _) (by simp) (by simp), (Below.refl _ _).alloc (Nat.le_refl _) _⟩
  case round =>
    obtain ⟨f, q, acc, rfl, hq0, hq1, hlen, Hl, Ha, hown, hbel⟩ := hrel
    have hsz := hbel.size
    by_cases hlt : q < 128
    · go_wp2_with (at_builtin; refine wpList_append_own _ rfl _ _ 100 rfl w.heap.size 5 i0 (.int .u8 0) 1 1 Tryz.underlying100 hi hz0 hz1 hz2 rfl (by decide) _ _ _ rfl (hown.alloc _) ⟨wr.heap.size, 0, none⟩ 1 1 [.int .u8 q] rfl rfl (cell_one_new _ _ _) (fun u hu => by simp at hu; subst hu; rfl) (by unfold maxLen; omega) (by omega) (by simp; omega) ?_)
      intro v' w1 hown' hgrow _
      go_wp2
      go_ret
      refine ⟨v', rfl, ?_, ?_⟩
      · have e : enc 9 x = acc ++ [q] := by rw [← Ha.out, enc_last f q hlt]
        rw [e, bv_append]
        simpa [bv] using hown'
      · exact (hbel.alloc hsz _).grown hgrow (by simp; omega) (fun k hk => (hown.lt k hk).1)
    · go_wp2_with (at_builtin; refine wpList_append_own _ rfl _ _ 100 rfl w.heap.size 5 i0 (.int .u8 0) 1 1 Tryz.underlying100 hi hz0 hz1 hz2 rfl (by decide) _ _ _ rfl (hown.alloc _) ⟨wr.heap.size, 0, none⟩ 1 1 [.int .u8 (q % 128 + 128)] rfl rfl (cell_one_new _ _ _) (fun u hu => by simp at hu; subst hu; rfl) (by unfold maxLen; omega) (by omega) (by simp; omega) ?_)
      intro v' w1 hown' hgrow _
      go_wp2
      go_roundw
      case rel =>
        obtain ⟨f', rfl, hl⟩ := lim_more f q (by omega) Hl.out
        refine ⟨f', q / 128, acc ++ [q % 128 + 128], rfl, by omega, by omega, by simp; omega, hl, ?_, ?_, ?_⟩
        · have e := enc_more (f' + 1) q (by omega)
          have e2 := Ha.out
          rw [e] at e2
          unfold Hid
          rw [← e2]
          simp
        · rw [bv_append]
          simpa [bv] using hown'
        · exact (hbel.alloc hsz _).grown hgrow (by simp; omega) (fun k hk => (hown.lt k hk).1)
      case measure => simp [intOf]; omega

set_option maxRecDepth 100000 in
theorem sput_any (x : Int) (w : World) (hm : x ≤ 9223372036854775807) :
    Calls Tryz.prog 108 #[.int .i64 x] w fun e w' => ∃ v, e = .returned v ∧ w'.ownsRow w.heap.size 5 1 v (encI x).length (bv (encI x)) ∧ Below w.heap.size w w' := by
  by_cases hx : x < 0
  · rw [encI_neg x hx]; exact sput_neg x w hx
  · rw [encI_pos x (by omega)]; exact sput_pos x w (by omega) hm

end Go.Proofs.YtdkkpopnoeapdaaGreatDoor

/-
  Contract of spec.PutText: for every text of at most 2^21 bytes a new slice of its own that holds the bytes of its length, and then its own.
-/
namespace Go.Proofs.YtdkkpopnoeapdaaGreatDoor
open Go.RowKit

set_option maxRecDepth 100000 in
set_option maxHeartbeats 400000 in
theorem sptext_any (s : ByteArray) (w : World) (hs : s.size ≤ 2097152) :
    Calls Tryz.prog 109 #[.string s] w fun e w' => ∃ v, e = .returned v ∧ w'.ownsRow w.heap.size 5 1 v (pt s).length (bv (pt s)) ∧ Below w.heap.size w w' := by
  obtain ⟨i0, hi, hz0, hz1, hz2⟩ := info_parts Tryz.infoU8
  have hl := encI_length s.size
  go_enter Tryz.func109, Tryz.ntmps109
  go_wp2_with fail
  refine (sput_any (s.size : Int) _ (by omega)).mono ?_
  rintro e w1 ⟨v1, rfl, own1, bel1⟩
  have hsz := bel1.size
  go_wp2_with (first | (refine wpList_string_bytes _ rfl _ 9 100 5 rfl Tryz.underlying9 Tryz.underlying100 Tryz.underlying5 s rfl ?_; intro cap w2 hcell hg2 hs2) | (at_builtin; refine wpList_append_own _ rfl _ _ 100 rfl w.heap.size 5 i0 (.int .u8 0) 1 1 Tryz.underlying100 hi hz0 hz1 hz2 rfl (by decide) v1 (encI s.size).length (bv (encI s.size)) rfl ?ho ⟨w1.heap.size, 0, none⟩ s.size _ (bv (sb s)) rfl ?hl ?hn ?h1 ?h63 ?hby ?hba ?_))
  case ho => exact own1.kept hg2 (by cases v1.ownBlock <;> simp)
  case hl => rw [bv_length, sb_length]; simp
  case hn => exact hcell
  case h1 => exact ints_oneCell .u8 _
  case h63 => unfold maxLen; omega
  case hby => omega
  case hba => omega
  intro v3 w3 own3 hgrow _
  go_wp2_with fail
  go_ret
  refine ⟨v3, rfl, ?_, (bel1.grown hg2 hsz (fun k hk => by cases hk)).grown hgrow (by omega) (fun k hk => (own1.lt k hk).1)⟩
  rw [pt_length, pt, bv_append]
  exact own3

end Go.Proofs.YtdkkpopnoeapdaaGreatDoor

/-
  Contract of spec.Make.
-/
namespace Go.Proofs.YtdkkpopnoeapdaaGreatDoor
open Go.RowKit


end Go.Proofs.YtdkkpopnoeapdaaGreatDoor
