/-
  Texts that stood by themselves, laid into one.
-/
import Derived.Test.YtpkpednemkagiaaDecM
import Derived.Test.YtpkpednemkagiaaToM
import Derived.Test.YtpkpednemkagiaaGTextM
import Derived.Test.YtpkpednemkagiaaNextM
/-
  Contract of spec.PutNum: for every int a new slice of its own that holds the number's bytes.
-/
namespace Go.Proofs.Ytpkpednemkagiaa
open Go.RowKit

set_option maxRecDepth 100000 in
set_option maxHeartbeats 400000 in
theorem sput_neg (x : Int) (w : World) (hx : x < 0) :
    Calls Try.prog 38 #[.int .i64 x] w fun e w' => ∃ v, e = .returned v ∧ w'.ownsRow w.heap.size 5 1 v 0 (bv []) ∧ Below w.heap.size w w' := by
  go_enter Try.func38, Try.ntmps38
  go_wp2
  go_ret
  exact ⟨_, rfl, World.ownsRow_made _ _ 0 (Nat.le_refl _) (by simp) (by simp), (Below.refl _ _).alloc (Nat.le_refl _) _⟩

set_option maxRecDepth 100000 in
set_option maxHeartbeats 400000 in
theorem sput_pos (x : Int) (w : World) (hx : 0 ≤ x) (hm : x ≤ 9223372036854775807) :
    Calls Try.prog 38 #[.int .i64 x] w fun e w' => ∃ v, e = .returned v ∧ w'.ownsRow w.heap.size 5 1 v (enc 9 x).length (bv (enc 9 x)) ∧ Below w.heap.size w w' := by
  obtain ⟨i0, hi, hz0, hz1, hz2⟩ := info_parts Try.infoU8
  go_enter Try.func38, Try.ntmps38
  go_wp2
  go_loopw [0, 3] (fun y v wr => ∃ (f : Nat) (q : Int) (acc : List Int), y = .int .i64 q ∧ 0 ≤ q ∧ q ≤ 9223372036854775807 ∧ acc.length + f = 8 ∧ Hid (q < lim (f + 1)) ∧ Hid (acc ++ enc (f + 1) q = enc 9 x) ∧ wr.ownsRow w.heap.size 5 1 v acc.length (bv acc) ∧ Below w.heap.size w wr) (fun y _ _ => (intOf y).toNat)
  case atStart =>
    exact ⟨8, x, [], rfl, hx, hm, rfl, by unfold Hid; rw [lim_nine]; omega, rfl, World.ownsRow_made _ _ 0 (Nat.le_refl _) (by simp) (by simp), (Below.refl _ _).alloc (Nat.le_refl _) _⟩
  case round =>
    obtain ⟨f, q, acc, rfl, hq0, hq1, hlen, Hl, Ha, hown, hbel⟩ := hrel
    have hsz := hbel.size
    by_cases hlt : q < 128
    · go_wp2_with (at_builtin; refine wpList_append_own _ rfl _ _ 25 rfl w.heap.size 5 i0 (.int .u8 0) 1 1 Try.underlying25 hi hz0 hz1 hz2 rfl (by decide) _ _ _ rfl (hown.alloc _) ⟨wr.heap.size, 0, none⟩ 1 1 [.int .u8 q] rfl rfl (cell_one_new _ _ _) (fun u hu => by simp at hu; subst hu; rfl) (by unfold maxLen; omega) (by omega) (by simp; omega) ?_)
      intro v' w1 hown' hgrow _
      go_wp2
      go_ret
      refine ⟨v', rfl, ?_, ?_⟩
      · have e : enc 9 x = acc ++ [q] := by rw [← Ha.out, enc_last f q hlt]
        rw [e, bv_append]
        simpa [bv] using hown'
      · exact (hbel.alloc hsz _).grown hgrow (by simp; omega) (fun k hk => (hown.lt k hk).1)
    · go_wp2_with (at_builtin; refine wpList_append_own _ rfl _ _ 25 rfl w.heap.size 5 i0 (.int .u8 0) 1 1 Try.underlying25 hi hz0 hz1 hz2 rfl (by decide) _ _ _ rfl (hown.alloc _) ⟨wr.heap.size, 0, none⟩ 1 1 [.int .u8 (q % 128 + 128)] rfl rfl (cell_one_new _ _ _) (fun u hu => by simp at hu; subst hu; rfl) (by unfold maxLen; omega) (by omega) (by simp; omega) ?_)
      intro v' w1 hown' hgrow _
      go_wp2
      go_roundw
      case rel =>
        obtain ⟨f', rfl, hl⟩ := lim_more f q (by omega) Hl.out
        refine ⟨f', q / 128, acc ++ [q % 128 + 128], rfl, by omega, by omega, by simp; omega, hl, ?_, ?_, ?_⟩
        · have e := enc_more (f' + 1) q (by omega)
          have e2 := Ha.out
          rw [e] at e2
          unfold Hid
          rw [← e2]
          simp
        · rw [bv_append]
          simpa [bv] using hown'
        · exact (hbel.alloc hsz _).grown hgrow (by simp; omega) (fun k hk => (hown.lt k hk).1)
      case measure => simp [intOf]; omega

set_option maxRecDepth 100000 in
theorem sput_any (x : Int) (w : World) (hm : x ≤ 9223372036854775807) :
    Calls Try.prog 38 #[.int .i64 x] w fun e w' => ∃ v, e = .returned v ∧ w'.ownsRow w.heap.size 5 1 v (encI x).length (bv (encI x)) ∧ Below w.heap.size w w' := by
  by_cases hx : x < 0
  · rw [encI_neg x hx]; exact sput_neg x w hx
  · rw [encI_pos x (by omega)]; exact sput_pos x w (by omega) hm

end Go.Proofs.Ytpkpednemkagiaa

/-
  Contract of spec.PutText: for every text of at most 2^21 bytes a new slice of its own that holds the bytes of its length, and then its own.
-/
namespace Go.Proofs.Ytpkpednemkagiaa
open Go.RowKit

set_option maxRecDepth 100000 in
set_option maxHeartbeats 400000 in
theorem sptext_any (s : ByteArray) (w : World) (hs : s.size ≤ 2097152) :
    Calls Try.prog 39 #[.string s] w fun e w' => ∃ v, e = .returned v ∧ w'.ownsRow w.heap.size 5 1 v (pt s).length (bv (pt s)) ∧ Below w.heap.size w w' := by
  obtain ⟨i0, hi, hz0, hz1, hz2⟩ := info_parts Try.infoU8
  have hl := encI_length s.size
  go_enter Try.func39, Try.ntmps39
  go_wp2_with fail
  refine (sput_any (s.size : Int) _ (by omega)).mono ?_
  rintro e w1 ⟨v1, rfl, own1, bel1⟩
  have hsz := bel1.size
  go_wp2_with (first | (refine wpList_string_bytes _ rfl _ 9 25 5 rfl Try.underlying9 Try.underlying25 Try.underlying5 s rfl ?_; intro cap w2 hcell hg2 hs2) | (at_builtin; refine wpList_append_own _ rfl _ _ 25 rfl w.heap.size 5 i0 (.int .u8 0) 1 1 Try.underlying25 hi hz0 hz1 hz2 rfl (by decide) v1 (encI s.size).length (bv (encI s.size)) rfl ?ho ⟨w1.heap.size, 0, none⟩ s.size _ (bv (sb s)) rfl ?hl ?hn ?h1 ?h63 ?hby ?hba ?_))
  case ho => exact own1.kept hg2 (by cases v1.ownBlock <;> simp)
  case hl => rw [bv_length, sb_length]; simp
  case hn => exact hcell
  case h1 => exact ints_oneCell .u8 _
  case h63 => unfold maxLen; omega
  case hby => omega
  case hba => omega
  intro v3 w3 own3 hgrow _
  go_wp2_with fail
  go_ret
  refine ⟨v3, rfl, ?_, (bel1.grown hg2 hsz (fun k hk => by cases hk)).grown hgrow (by omega) (fun k hk => (own1.lt k hk).1)⟩
  rw [pt_length, pt, bv_append]
  exact own3

end Go.Proofs.Ytpkpednemkagiaa

/-
  Contract of impl.PutNum: for every int a new slice of its own that holds the number's bytes.
-/
namespace Go.Proofs.Ytpkpednemkagiaa
open Go.RowKit

set_option maxRecDepth 100000 in
set_option maxHeartbeats 400000 in
theorem iput_neg (x : Int) (w : World) (hx : x < 0) :
    Calls Try.prog 37 #[.int .i64 x] w fun e w' => ∃ v, e = .returned v ∧ w'.ownsRow w.heap.size 5 1 v 0 (bv []) ∧ Below w.heap.size w w' := by
  go_enter Try.func37, Try.ntmps37
  go_wp2
  go_ret
  exact ⟨_, rfl, World.ownsRow_made _ _ 0 (Nat.le_refl _) (by simp) (by simp), (Below.refl _ _).alloc (Nat.le_refl _) _⟩

theorem formC_start (xs : List Int) (h : xs.length ≤ 9) (w : World) (g : Nat) (hh : w.heap[g]? = some (.cells (formC xs) 65 (0, 0))) :
    ∀ j u, (bv xs)[j]? = some u → w.cell? ((⟨g, 0, none⟩ : Addr).add j) = some u := by
  intro j u hu
  have hj : j < xs.length := by have := (List.getElem?_eq_some_iff.1 hu).1; rwa [bv_length] at this
  rw [Addr.add_lit, Nat.zero_add, cell_of_row w g j _ 65 (0, 0) hh, formC_get xs h j (by omega)]
  rw [bv_get xs j hj] at hu
  rw [← hu]
  rw [List.getD_eq_getElem?_getD, List.getElem?_append_left hj, ← List.getD_eq_getElem?_getD]

theorem Try.arrLen : Try.prog.arrayLen 63 = 9 := by kernel_rfl
theorem Try.arrElem : Try.prog.elem 63 = 5 := by kernel_rfl
theorem Try.arrIs : Try.prog.underlying 63 = some (.array (Try.prog.arrayLen 63) (Try.prog.elem 63)) := by kernel_rfl
theorem slice_form (g n : Nat) (h : n ≤ 9) (w : World) :
    (Instr.sliceAt 63 (.pointer (some ⟨g, 0, none⟩)) none (some (.int .i64 (n : Int))) none).run Try.prog w = .ok (.slice (some ⟨g, 0, none⟩) n 9) w := by
  obtain ⟨i0, hi, hz0, hz1, hz2⟩ := info_parts Try.infoU8
  have h0 := run_sliceAt_array_h (P := Try.prog) w 63 ⟨g, 0, none⟩ Try.arrIs .i64 (n : Int) (by omega) (by rw [Try.arrLen]; omega)
  rw [h0, Try.arrElem, Try.arrLen]
  simp [sizeOf, typeInfo, hi, hz1, slicedAt, Addr.add_lit]

set_option maxRecDepth 100000 in
set_option maxHeartbeats 400000 in
theorem iput_pos (x : Int) (w : World) (hx : 0 ≤ x) (hm : x ≤ 9223372036854775807) :
    Calls Try.prog 37 #[.int .i64 x] w fun e w' => ∃ v, e = .returned v ∧ w'.ownsRow w.heap.size 5 1 v (enc 9 x).length (bv (enc 9 x)) ∧ Below w.heap.size w w' := by
  obtain ⟨i0, hi, hz0, hz1, hz2⟩ := info_parts Try.infoU8
  have hl := enc_length 9 x
  go_enter Try.func37, Try.ntmps37
  go_wp2_with fail
  refine (form_any x _ hx hm).mono ?_
  rintro e w1 ⟨rfl, hbel1⟩
  generalize hxs : enc 9 x = xs at hl ⊢
  have Hxs : Hid (enc 9 x = xs) := hxs
  clear hxs
  have HI := Try.infoFormC xs hl
  have Hsz := formC_sizes [] xs (Nat.zero_le _) hl
  have hsl := fun wx => slice_form w1.heap.size xs.length hl wx
  have HO : Hid ((formC xs).all (·.oneCell') = true) := formC_one _
  have hsz := hbel1.size
  go_wp2_with (first | (refine wpList_store_own rfl 65 _ _ rfl w1.heap.size _ rfl rfl 65 _ (heap_alloc_new _ _) HI.out Hsz.out HO.out ?_; intro w2 hh2 hb2 hs2; have hc9 := (cell_of_row w2 w1.heap.size 9 _ 65 (0, 0) hh2).trans (formC_count xs hl); have hs2' : w2.heap.size = w1.heap.size + 1 := by rw [hs2]; simp) | (at_builtin; refine wpList_append_own _ rfl _ _ 25 rfl w.heap.size 5 i0 (.int .u8 0) 1 1 Try.underlying25 hi hz0 hz1 hz2 rfl (by decide) _ 0 [] rfl ?ho ⟨w1.heap.size, 0, none⟩ xs.length 9 (bv xs) rfl ?hl ?hn ?h1 ?h63 ?hby ?hba ?_))
  case ho =>
    show (w2.alloc (Obj.cells #[] 5)).ownsRow w.heap.size 5 1 (.slice (some ⟨w1.heap.size + 1, 0, none⟩) 0 0) 0 []
    rw [← hs2']
    exact World.ownsRow_made w2 #[] 0 (by omega) (by simp) (by simp)
  case hl => rw [bv_length]; simp
  case hn => exact formC_start xs hl _ w1.heap.size ((Below.heap_alloc w2 _ _ (by omega)).trans hh2)
  case h1 => exact ints_oneCell .u8 xs
  case h63 => unfold maxLen; omega
  case hby => omega
  case hba => simp; omega
  intro v' w3 hown hgrow _
  go_wp2
  go_ret
  refine ⟨v', rfl, ?_, ?_⟩
  · rw [Hxs.out]; simpa using hown
  · refine ((((hbel1.alloc hsz _).trans (hb2.mono hsz)).alloc (by omega) _).grown hgrow (by simp; omega) ?_)
    intro k hk
    simp [Value.ownBlock] at hk
    omega

set_option maxRecDepth 100000 in
theorem iput_any (x : Int) (w : World) (hm : x ≤ 9223372036854775807) :
    Calls Try.prog 37 #[.int .i64 x] w fun e w' => ∃ v, e = .returned v ∧ w'.ownsRow w.heap.size 5 1 v (encI x).length (bv (encI x)) ∧ Below w.heap.size w w' := by
  by_cases hx : x < 0
  · rw [encI_neg x hx]; exact iput_neg x w hx
  · rw [encI_pos x (by omega)]; exact iput_pos x w (by omega) hm

end Go.Proofs.Ytpkpednemkagiaa

/-
  Contract of impl.PutText: for every text of at most 2^21 bytes a new slice of its own that holds the bytes of its length, and then its own.
-/
namespace Go.Proofs.Ytpkpednemkagiaa
open Go.RowKit

set_option maxRecDepth 100000 in
set_option maxHeartbeats 400000 in
theorem iptext_any (s : ByteArray) (w : World) (hs : s.size ≤ 2097152) :
    Calls Try.prog 25 #[.string s] w fun e w' => ∃ v, e = .returned v ∧ w'.ownsRow w.heap.size 5 1 v (pt s).length (bv (pt s)) ∧ Below w.heap.size w w' := by
  obtain ⟨i0, hi, hz0, hz1, hz2⟩ := info_parts Try.infoU8
  have hl := encI_length s.size
  go_enter Try.func25, Try.ntmps25
  go_wp2_with fail
  refine (iput_any (s.size : Int) _ (by omega)).mono ?_
  rintro e w1 ⟨v1, rfl, own1, bel1⟩
  have hsz := bel1.size
  go_wp2_with (at_builtin; refine Lib.wpList_append_own_string _ rfl _ _ 25 9 rfl w.heap.size 5 i0 Try.underlying25 Try.underlying9 hi hz0 hz1 hz2 _ _ _ rfl own1 s rfl (by unfold maxLen; omega) (by omega) hsz ?_)
  intro v2 w2 own2 hgrow _
  go_wp2_with fail
  go_ret
  refine ⟨v2, rfl, ?_, bel1.grown hgrow hsz (fun k hk => (own1.lt k hk).1)⟩
  rw [pt_length, pt, bv_append, sb_cells]
  exact own2

end Go.Proofs.Ytpkpednemkagiaa
