/-
  Texts that stood by themselves, laid into one.
-/
import Derived.Test.YtaojlmoppbknbaaGreatDoorFormM
import Derived.Test.YtaojlmoppbknbaaGreatDoorNdM
import Derived.Test.YtaojlmoppbknbaaGreatDoorSizeIM
/-
  Contract of impl.PutNum: for every int a new slice of its own that holds the number's bytes.
-/
namespace Go.Proofs.YtaojlmoppbknbaaGreatDoor
open Go.RowKit

set_option maxRecDepth 100000 in
set_option maxHeartbeats 400000 in
theorem iput_neg (x : Int) (w : World) (hx : x < 0) :
    Calls Tryz.prog 128 #[.int .i64 x] w fun e w' => ∃ v, e = .returned v ∧ w'.ownsRow w.heap.size 5 1 v 0 (bv []) ∧ Below w.heap.size w w' := by
  go_enter Tryz.func128, Tryz.ntmps128
  go_wp2
  go_ret
  exact ⟨_, rfl, World.ownsRow_made _ _ 0 (Nat.le_refl _) (by simp) (by simp), (Below.refl _ _).alloc (Nat.le_refl _) _⟩

theorem formC_start (xs : List Int) (h : xs.length ≤ 9) (w : World) (g : Nat) (hh : w.heap[g]? = some (.cells (formC xs) 164 (0, 0))) :
    ∀ j u, (bv xs)[j]? = some u → w.cell? ((⟨g, 0, none⟩ : Addr).add j) = some u := by
  intro j u hu
  have hj : j < xs.length := by have := (List.getElem?_eq_some_iff.1 hu).1; rwa [bv_length] at this
  rw [Addr.add_lit, Nat.zero_add, cell_of_row w g j _ 164 (0, 0) hh, formC_get xs h j (by omega)]
  rw [bv_get xs j hj] at hu
  rw [← hu]
  rw [List.getD_eq_getElem?_getD, List.getElem?_append_left hj, ← List.getD_eq_getElem?_getD]

theorem Tryz.arrLen : Tryz.prog.arrayLen 162 = 9 := by kernel_rfl
theorem Tryz.arrElem : Tryz.prog.elem 162 = 5 := by kernel_rfl
theorem Tryz.arrIs : Tryz.prog.underlying 162 = some (.array (Tryz.prog.arrayLen 162) (Tryz.prog.elem 162)) := by kernel_rfl
theorem slice_form (g n : Nat) (h : n ≤ 9) (w : World) :
    (Instr.sliceAt 162 (.pointer (some ⟨g, 0, none⟩)) none (some (.int .i64 (n : Int))) none).run Tryz.prog w = .ok (.slice (some ⟨g, 0, none⟩) n 9) w := by
  obtain ⟨i0, hi, hz0, hz1, hz2⟩ := info_parts Tryz.infoU8
  have h0 := run_sliceAt_array_h (P := Tryz.prog) w 162 ⟨g, 0, none⟩ Tryz.arrIs .i64 (n : Int) (by omega) (by rw [Tryz.arrLen]; omega)
  rw [h0, Tryz.arrElem, Tryz.arrLen]
  simp [sizeOf, typeInfo, hi, hz1, slicedAt, Addr.add_lit]

set_option maxRecDepth 100000 in
set_option maxHeartbeats 400000 in
theorem iput_pos (x : Int) (w : World) (hx : 0 ≤ x) (hm : x ≤ 9223372036854775807) :
    Calls Tryz.prog 128 #[.int .i64 x] w fun e w' => ∃ v, e = .returned v ∧ w'.ownsRow w.heap.size 5 1 v (enc 9 x).length (bv (enc 9 x)) ∧ Below w.heap.size w w' := by
  obtain ⟨i0, hi, hz0, hz1, hz2⟩ := info_parts Tryz.infoU8
  have hl := enc_length 9 x
  go_enter Tryz.func128, Tryz.ntmps128
  go_wp2_with fail
  refine (form_any x _ hx hm).mono ?_
  rintro e w1 ⟨rfl, hbel1⟩
  generalize hxs : enc 9 x = xs at hl ⊢
  have Hxs : Hid (enc 9 x = xs) := hxs
  clear hxs
  have HI := Tryz.infoFormC xs hl
  have Hsz := formC_sizes [] xs (Nat.zero_le _) hl
  have hsl := fun wx => slice_form w1.heap.size xs.length hl wx
  have HO : Hid ((formC xs).all (·.oneCell') = true) := formC_one _
  have hsz := hbel1.size
  go_wp2_with (first | (refine wpList_store_own rfl 164 _ _ rfl w1.heap.size _ rfl rfl 164 _ (heap_alloc_new _ _) HI.out Hsz.out HO.out ?_; intro w2 hh2 hb2 hs2; have hc9 := (cell_of_row w2 w1.heap.size 9 _ 164 (0, 0) hh2).trans (formC_count xs hl); have hs2' : w2.heap.size = w1.heap.size + 1 := by rw [hs2]; simp) | (at_builtin; refine wpList_append_own _ rfl _ _ 51 rfl w.heap.size 5 i0 (.int .u8 0) 1 1 Tryz.underlying51 hi hz0 hz1 hz2 rfl (by decide) _ 0 [] rfl ?ho ⟨w1.heap.size, 0, none⟩ xs.length 9 (bv xs) rfl ?hl ?hn ?h1 ?h63 ?hby ?hba ?_))
  case ho =>
    show (w2.alloc (Obj.cells #[] 5)).ownsRow w.heap.size 5 1 (.slice (some ⟨w1.heap.size + 1, 0, none⟩) 0 0) 0 []
    rw [← hs2']
    exact World.ownsRow_made w2 #[] 0 (by omega) (by simp) (by simp)
  case hl => rw [bv_length]; simp
  case hn => exact formC_start xs hl _ w1.heap.size ((Below.heap_alloc w2 _ _ (by omega)).trans hh2)
  case h1 => exact ints_oneCell .u8 xs
  case h63 => unfold maxLen; omega
  case hby => omega
  case hba => simp; omega
  intro v' w3 hown hgrow _
  go_wp2
  go_ret
  refine ⟨v', rfl, ?_, ?_⟩
  · rw [Hxs.out]; simpa using hown
  · refine ((((hbel1.alloc hsz _).trans (hb2.mono hsz)).alloc (by omega) _).grown hgrow (by simp; omega) ?_)
    intro k hk
    simp [Value.ownBlock] at hk
    omega

set_option maxRecDepth 100000 in
theorem iput_any (x : Int) (w : World) (hm : x ≤ 9223372036854775807) :
    Calls Tryz.prog 128 #[.int .i64 x] w fun e w' => ∃ v, e = .returned v ∧ w'.ownsRow w.heap.size 5 1 v (encI x).length (bv (encI x)) ∧ Below w.heap.size w w' := by
  by_cases hx : x < 0
  · rw [encI_neg x hx]; exact iput_neg x w hx
  · rw [encI_pos x (by omega)]; exact iput_pos x w (by omega) hm

end Go.Proofs.YtaojlmoppbknbaaGreatDoor

/-
  Contract of impl.PutText: for every text of at most 2^21 bytes a new slice of its own that holds the bytes of its length, and then its own.
-/
namespace Go.Proofs.YtaojlmoppbknbaaGreatDoor
open Go.RowKit

set_option maxRecDepth 100000 in
set_option maxHeartbeats 400000 in
theorem iptext_any (s : ByteArray) (w : World) (hs : s.size ≤ 2097152) :
    Calls Tryz.prog 122 #[.string s] w fun e w' => ∃ v, e = .returned v ∧ w'.ownsRow w.heap.size 5 1 v (pt s).length (bv (pt s)) ∧ Below w.heap.size w w' := by
  obtain ⟨i0, hi, hz0, hz1, hz2⟩ := info_parts Tryz.infoU8
  have hl := encI_length s.size
  go_enter Tryz.func122, Tryz.ntmps122
  go_wp2_with fail
  refine (iput_any (s.size : Int) _ (by omega)).mono ?_
  rintro e w1 ⟨v1, rfl, own1, bel1⟩
  have hsz := bel1.size
  go_wp2_with (at_builtin; refine Lib.wpList_append_own_string _ rfl _ _ 51 9 rfl w.heap.size 5 i0 Tryz.underlying51 Tryz.underlying9 hi hz0 hz1 hz2 _ _ _ rfl own1 s rfl (by unfold maxLen; omega) (by omega) hsz ?_)
  intro v2 w2 own2 hgrow _
  go_wp2_with fail
  go_ret
  refine ⟨v2, rfl, ?_, bel1.grown hgrow hsz (fun k hk => (own1.lt k hk).1)⟩
  rw [pt_length, pt, bv_append, sb_cells]
  exact own2

end Go.Proofs.YtaojlmoppbknbaaGreatDoor

/-
  Contracts of the laws' own helpers eqIntS, markIntS, heldIntS.
-/
namespace Go.Proofs.YtaojlmoppbknbaaGreatDoor
open Go.RowKit

/-- The slice value v reads in w as the ints zs. -/
def IRow (w : World) (v : Value) (zs : List Int) : Prop :=
  ∃ ao cap, v = .slice ao zs.length cap ∧ (zs.length ≤ cap ∧ (ao = none → cap = 0)) ∧ zs.length ≤ 9223372036854775807 ∧ (zs ≠ [] → ∃ g o, ao = some ⟨g, o, none⟩ ∧ g < w.heap.size ∧ ∀ i, i < zs.length → w.cell? ⟨g, o + i, none⟩ = some (.int .i64 (zs.getD i 0)))
theorem IRow.below {w w' : World} {v : Value} {zs : List Int} (h : IRow w v zs) (hb : Below w.heap.size w w') : IRow w' v zs := by
  obtain ⟨ao, cap, rfl, hc, hm, hcell⟩ := h
  refine ⟨ao, cap, rfl, hc, hm, fun hne => ?_⟩
  obtain ⟨g, o, rfl, hg, hcell⟩ := hcell hne
  exact ⟨g, o, rfl, Nat.lt_of_lt_of_le hg hb.size, fun i hi => (hb.cell (p := ⟨g, o + i, none⟩) hg).trans (hcell i hi)⟩
theorem IRow.of_own {w : World} {base : Nat} {v : Value} {zs : List Int} (h : w.ownsRow base 3 1 v zs.length (iv zs)) (hm : zs.length ≤ 9223372036854775807) : IRow w v zs := by
  rcases h.2 with ⟨rfl, h0⟩ | ⟨g, cap, cur, rfl, hb, hg, hnc, hcm, hcs, htake⟩
  · have : zs = [] := List.eq_nil_of_length_eq_zero h0
    subst this
    exact ⟨none, 0, rfl, by simp, by simp, fun h => absurd rfl h⟩
  · refine ⟨_, cap, rfl, ⟨hnc, fun h => by cases h⟩, hm, fun _ => ⟨g, 0, rfl, (Array.getElem?_eq_some_iff.1 hg).1, fun i hi => ?_⟩⟩
    have := h.cellAt i (by omega)
    rw [Nat.zero_add, this, iv_get zs i hi]

/-- What lies in a slice of ints behind markIntS from k on, when i of them are written and zs stood there. -/
def imarked (k : Int) (zs : List Int) (i : Nat) : List Int := (List.range i).map (fun (j : Nat) => k + (j : Int)) ++ zs.drop i
theorem imarked_zero (k : Int) (zs : List Int) : imarked k zs 0 = zs := by simp [imarked]
theorem imarked_length (k : Int) (zs : List Int) (i : Nat) (h : i ≤ zs.length) : (imarked k zs i).length = zs.length := by simp [imarked]; omega
theorem imarked_set (k : Int) (zs : List Int) (i : Nat) (h : i < zs.length) : (imarked k zs i).set i (k + (i : Int)) = imarked k zs (i + 1) := by
  unfold imarked
  rw [List.range_succ, List.map_append, List.set_append_right _ _ (by simp), List.drop_eq_getElem_cons h, List.append_assoc]
  have e : i - (List.map (fun (j : Nat) => k + (j : Int)) (List.range i)).length = 0 := by simp
  rw [e]
  rfl
theorem imarked_get (k : Int) (zs : List Int) (i : Nat) (h : i < zs.length) : (imarked k zs zs.length).getD i 0 = k + (i : Int) := by
  simp [imarked, List.getD, h]

end Go.Proofs.YtaojlmoppbknbaaGreatDoor

/-
  A machine but for its pool. No condition.
-/
namespace Go.Proofs.YtaojlmoppbknbaaGreatDoor
open Go.RowKit

/-- A machine but for its pool: where it is, its stack, frames, what waits, its state, what it asks, and with what. -/
structure Mc where
  p : Int
  s : Int
  e : Int
  d : Int
  t : Int
  q : Int
  r : Int

theorem Tryz.sizeMach : (Tryz.prog.info? 34).map (·.size) = some 8 := by kernel_rfl

theorem two_boxes (w : World) (A B : Obj) : Below w.heap.size w ((w.alloc A).alloc B) ∧ ((w.alloc A).alloc B).heap[w.heap.size]? = some A ∧ ((w.alloc A).alloc B).heap[w.heap.size + 1]? = some B :=
  ⟨((Below.refl _ _).alloc (Nat.le_refl _) _).alloc (by simp) _, (heap_alloc_old _ _ (by simp)).trans (heap_alloc_new _ _), heap_alloc2_new _ _ _⟩

end Go.Proofs.YtaojlmoppbknbaaGreatDoor
