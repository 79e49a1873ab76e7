/-
  Texts that stood by themselves, laid into one.
-/
import Derived.Test.YtbhfooafhbfniaaGreatDoorS8RdM
import Derived.Test.YtbhfooafhbfniaaGreatDoorSAddM
import Derived.Test.YtbhfooafhbfniaaGreatDoorVPackM
import Derived.Test.YtbhfooafhbfniaaGreatDoorPrToM
import Derived.Test.YtbhfooafhbfniaaGreatDoorDecM
/-
  The contract of spec.ValueRead: the value of the bytes, or nothing. No condition but a bound on the text.
-/
namespace Go.Proofs.YtbhfooafhbfniaaGreatDoor
open Go.RowKit
theorem str_eq {l : List Int} {s : ByteArray} (hl : ∀ z ∈ l, 0 ≤ z ∧ z ≤ 255) : strOfNums l = s ↔ l = sb s := by
  constructor
  · intro h
    rw [← h, sb_str hl]
  · intro h
    rw [h, strOfNums_sb]
theorem vr_by {s : ByteArray} {xs : List Nd} {at_ : Int} {k : Bool} (hs : sP (sb s) 0 true = (xs, at_, k)) : 
    (sOk (sb s) 0 true = false → vrR (sb s) = none) ∧ (xs = [] → vrR (sb s) = none) ∧ (sOk (sb s) 0 true = true → xs ≠ [] → (poolB xs = true ∧ vpB xs ((xs.length : Int) - 1) = true) ∧ (vpR xs ((xs.length : Int) - 1) = s → vrR (sb s) = some xs) ∧ (vpR xs ((xs.length : Int) - 1) ≠ s → vrR (sb s) = none)) := by
  have key := fun ys => vrR_spec (sb s) (sb_wf s) ys
  rw [hs] at key
  refine ⟨fun h => ?_, fun h => ?_, fun h hne => ?_⟩
  · cases hv : vrR (sb s) with
    | none => rfl
    | some ys => have := ((key ys).1 hv).1.1; rw [h] at this; cases this
  · cases hv : vrR (sb s) with
    | none => rfl
    | some ys => obtain ⟨⟨_, h2⟩, h3, _⟩ := (key ys).1 hv; exact absurd (h2.symm.trans h) h3
  · have hp : poolB xs = true := by
      unfold sOk at h
      rw [hs] at h
      simp only [Bool.and_eq_true] at h
      exact h.2
    have hpos := List.length_pos_iff.2 hne
    have hvp : vpB xs ((xs.length : Int) - 1) = true := by unfold vpB hasI; rw [hp]; simp; omega
    have hR : vpR xs ((xs.length : Int) - 1) = strOfNums (wireL (mvN 0 xs [(xs.length : Int) - 1])) := by unfold vpR; rw [if_pos hvp]
    refine ⟨⟨hp, hvp⟩, fun e => ?_, fun e => ?_⟩
    · rw [hR, str_eq (wireL_wf _)] at e
      exact (key xs).2 ⟨⟨h, rfl⟩, hne, e⟩
    · cases hv : vrR (sb s) with
      | none => rfl
      | some ys =>
        obtain ⟨⟨_, h2⟩, _, h4⟩ := (key ys).1 hv
        have h2 : xs = ys := h2
        subst h2
        exact absurd (by rw [hR, str_eq (wireL_wf _)]; exact h4) e
set_option maxRecDepth 100000 in
set_option maxHeartbeats 3200000 in
theorem svread_any (s : ByteArray) (w : World) (hs : s.size ≤ 140737488351232) :
    Calls Tryz.prog 82 #[.string s] w fun e w' => VrAns w.heap.size (sb s) e w' ∧ Below w.heap.size w w' := by
  have hB0 : Below w.heap.size w (w.alloc (Obj.cells #[.slice none 0 0] 32)) := (Below.refl _ _).alloc (Nat.le_refl _) _
  go_enter Tryz.func82, Tryz.ntmps82
  go_wp2_with (first
    | (refine wpList_bytes8 _ rfl _ 9 143 5 rfl Tryz.underlying9 Tryz.underlying143 Tryz.underlying5 s rfl ?_; intro cap w2 g0 g1 g2 g3))
  have e1 : (w.alloc (Obj.cells #[.slice none 0 0] 32)).heap.size = w.heap.size + 1 := by simp
  have RR := row_of_bytes (w := w.alloc (Obj.cells #[.slice none 0 0] 32)) hs g0 g1 g3
  rw [e1] at RR g3
  have x2 := (g2.block w.heap.size (by rw [e1]; omega) (by simp)).trans (heap_alloc_new w _)
  have B2 : Below w.heap.size w w2 := hB0.grown g2 hB0.size (fun k hk => by cases hk)
  clear e1 g1 g2
  have B3 : Below w2.heap.size w2 (w2.alloc (Obj.cells #[.slice (some ⟨w.heap.size + 1, 0, none⟩) s.size cap, .int .i64 0, .bool true] 150)) := (Below.refl _ _).alloc (Nat.le_refl _) _
  have hC3 : C8 (w2.alloc (Obj.cells #[.slice (some ⟨w.heap.size + 1, 0, none⟩) s.size cap, .int .i64 0, .bool true] 150)) w2.heap.size (.slice (some ⟨w.heap.size + 1, 0, none⟩) s.size cap) 0 true := heap_alloc_new _ _
  have x3 := (B3.block w.heap.size (by omega)).trans x2
  have B03 := B2.trans (B3.mono B2.size)
  have HRD := s8read_any w2.heap.size _ (sb s) 0 true _ (RR.below B3) hC3 (by omega) (by omega)
  have s3 : (w2.alloc (Obj.cells #[.slice (some ⟨w.heap.size + 1, 0, none⟩) s.size cap, .int .i64 0, .bool true] 150)).heap.size = w2.heap.size + 1 := by simp
  obtain ⟨p, hp⟩ : ∃ p, Hid (sP (sb s) 0 true = p) := ⟨_, rfl⟩
  obtain ⟨xs, at_, k⟩ := p
  obtain ⟨b, hb⟩ : ∃ b, Hid (sOk (sb s) 0 true = b) := ⟨_, rfl⟩
  have HV := vr_by hp.out
  rw [hb.out] at HV
  rw [hp.out, hb.out] at HRD
  dsimp only at HRD
  refine HRD.mono ?_
  rintro e w4 ⟨vs, rfl, o4, c4, hg4, hz4⟩
  have x4 := (hg4.block w.heap.size (by rw [s3]; omega) (by simp; omega)).trans x3
  have B04 : Below w.heap.size w w4 := B03.grown hg4 B03.size (fun k hk => by simp at hk; omega)
  have hs4 : w2.heap.size + 1 ≤ w4.heap.size := by have := hg4.size; omega
  rw [s3] at o4
  have hw2 : w.heap.size + 1 < w2.heap.size := g3
  clear HRD hg4 x3 B03 hC3 B3 s3 hB0 x2 B2 g3 RR
  obtain ⟨av, cv, rfl⟩ := own_form o4
  have B5 : Below w4.heap.size w4 (w4.alloc (Obj.cells #[.slice av xs.length cv] 32)) := (Below.refl _ _).alloc (Nat.le_refl _) _
  have x5 := (B5.block _ (by omega)).trans x4
  have c5 := c4.below B5
  have o5 := own_below o4 B5
  have B05 := B04.trans (B5.mono B04.size)
  have y5 : (w4.alloc (Obj.cells #[.slice av xs.length cv] 32)).heap[w4.heap.size]? = some (.cells #[.slice av xs.length cv] 32 (0, 0)) := heap_alloc_new _ _
  have cok : (w4.alloc (Obj.cells #[.slice av xs.length cv] 32)).cell? ⟨w2.heap.size, 2, none⟩ = some (.bool b) := cell_of_row _ _ 2 _ _ _ c5
  have cp : (w4.alloc (Obj.cells #[.slice av xs.length cv] 32)).cell? ⟨w4.heap.size, 0, none⟩ = some (.slice av xs.length cv) := cell_of_row _ _ 0 _ _ _ y5
  cases b with
  | false =>
    have hN := HV.1 rfl
    have HA : Hid (vrL (sb s) = [] ∧ vrI (sb s) = 0 ∧ vrB (sb s) = false) := vr_no hN
    clear HV hN
    have r0 : (w4.alloc (Obj.cells #[.slice av xs.length cv] 32)).cell? ⟨w.heap.size, 0, none⟩ = some (.slice none 0 0) := cell_of_row (w4.alloc (Obj.cells #[.slice av xs.length cv] 32)) _ 0 _ _ _ x5
    have rf : (w4.alloc (Obj.cells #[.slice av xs.length cv] 32)).frozen? ⟨w.heap.size, 0, none⟩ = false := frozen_of_row (w4.alloc (Obj.cells #[.slice av xs.length cv] 32)) _ 0 _ _ x5
    have hset := heap_setCell_same (w4.alloc (Obj.cells #[.slice av xs.length cv] 32)) w.heap.size 0 _ _ (.slice none 0 0) x5
    have hBF := B05.setCell (p := ⟨w.heap.size, 0, none⟩) (Nat.le_refl _) (.slice none 0 0)
    go_wp2
    refine bodyPost_ret (results_row_2 rfl _ _ w.heap.size 32 _ (0, 0) _ rfl hset Tryz.underlying32 rfl Tryz.sizeP) rfl ⟨VrAns.intro (.slice none 0 0) ?_ ?_, hBF⟩
    · rw [HA.out.2.1, HA.out.2.2]; rfl
    · rw [HA.out.1]; exact World.ownsRow_nil _ _ _ _
  | true =>
    by_cases hxe : xs = []
    · have HA : Hid (vrL (sb s) = [] ∧ vrI (sb s) = 0 ∧ vrB (sb s) = false) := vr_no (HV.2.1 hxe)
      have hl0 : (xs.length : Int) = 0 := by rw [hxe]; rfl
      clear HV hxe
      have r0 : (w4.alloc (Obj.cells #[.slice av xs.length cv] 32)).cell? ⟨w.heap.size, 0, none⟩ = some (.slice none 0 0) := cell_of_row (w4.alloc (Obj.cells #[.slice av xs.length cv] 32)) _ 0 _ _ _ x5
      have rf : (w4.alloc (Obj.cells #[.slice av xs.length cv] 32)).frozen? ⟨w.heap.size, 0, none⟩ = false := frozen_of_row (w4.alloc (Obj.cells #[.slice av xs.length cv] 32)) _ 0 _ _ x5
      have hset := heap_setCell_same (w4.alloc (Obj.cells #[.slice av xs.length cv] 32)) w.heap.size 0 _ _ (.slice none 0 0) x5
      have hBF := B05.setCell (p := ⟨w.heap.size, 0, none⟩) (Nat.le_refl _) (.slice none 0 0)
      go_wp2
      refine bodyPost_ret (results_row_2 rfl _ _ w.heap.size 32 _ (0, 0) _ rfl hset Tryz.underlying32 rfl Tryz.sizeP) rfl ⟨VrAns.intro (.slice none 0 0) ?_ ?_, hBF⟩
      · rw [HA.out.2.1, HA.out.2.2]; rfl
      · rw [HA.out.1]; exact World.ownsRow_nil _ _ _ _
    · obtain ⟨⟨hpool, hvp⟩, hyes, hno⟩ := HV.2.2 rfl hxe
      have hpos := List.length_pos_iff.2 hxe
      have hlen := poolB_len hpool
      have hl0 : ¬ (xs.length : Int) = 0 := by omega
      have R5 : NRow (w4.alloc (Obj.cells #[.slice av xs.length cv] 32)) (.slice av xs.length cv) xs := NRow.of_own o5 (by omega) (ndok_max (pool_ndok hpool))
      have HK := svpack_any _ xs ((xs.length : Int) - 1) _ R5
      obtain ⟨tx, htx⟩ : ∃ tx, Hid (vpR xs ((xs.length : Int) - 1) = tx) := ⟨_, rfl⟩
      obtain ⟨tb, htb⟩ : ∃ tb, Hid (vpB xs ((xs.length : Int) - 1) = tb) := ⟨_, rfl⟩
      rw [htx.out, htb.out] at HK
      rw [htx.out] at hyes hno
      clear HV htx htb hvp
      go_wp2_with fail
      refine HK.mono ?_
      rintro e w6 ⟨rfl, hb6⟩
      have x6 := (hb6.block _ (Array.getElem?_eq_some_iff.1 x5).1).trans x5
      have y6 := (hb6.block _ (Array.getElem?_eq_some_iff.1 y5).1).trans y5
      have o6 := own_below o5 hb6
      have B06 := B05.trans (hb6.mono B05.size)
      clear HK hb6 B05 B5 B04 x4 x5 y5 o4 o5 c4 c5 cok cp R5
      by_cases heq : tx = s
      · have HA : Hid (vrL (sb s) = xs ∧ vrI (sb s) = (xs.length : Int) - 1 ∧ vrB (sb s) = true) := vr_yes (hyes heq)
        clear hyes hno
        have q0 : w6.cell? ⟨w4.heap.size, 0, none⟩ = some (.slice av xs.length cv) := cell_of_row w6 _ 0 _ _ _ y6
        have r0 : w6.cell? ⟨w.heap.size, 0, none⟩ = some (.slice none 0 0) := cell_of_row w6 _ 0 _ _ _ x6
        have rf : w6.frozen? ⟨w.heap.size, 0, none⟩ = false := frozen_of_row w6 _ 0 _ _ x6
        have hne : w4.heap.size ≠ w.heap.size := by omega
        have hset := heap_setCell_same w6 w.heap.size 0 _ _ (.slice av xs.length cv) x6
        have hBF := B06.setCell (p := ⟨w.heap.size, 0, none⟩) (Nat.le_refl _) (.slice av xs.length cv)
        have hoF := own_mono (ownsRow_setCell_below o6 (a := ⟨w.heap.size, 0, none⟩) (by show w.heap.size < w2.heap.size + 1; omega) (.slice av xs.length cv)) (show w.heap.size ≤ w2.heap.size + 1 by omega)
        go_wp2_with fail
        go_region
        all_goals
          go_wp2
          refine bodyPost_ret (results_row_2 rfl _ _ w.heap.size 32 _ (0, 0) _ rfl hset Tryz.underlying32 rfl Tryz.sizeP) rfl ⟨VrAns.intro (.slice av xs.length cv) ?_ ?_, hBF.drew⟩
          · rw [HA.out.2.1, HA.out.2.2]; rfl
          · rw [HA.out.1]; exact hoF
      · have HA : Hid (vrL (sb s) = [] ∧ vrI (sb s) = 0 ∧ vrB (sb s) = false) := vr_no (hno heq)
        have hl2 : (tx.toList == s.toList) = false := by
          rw [← Bool.not_eq_true, beq_iff_eq, ByteArray.toList_eq, ByteArray.toList_eq]
          intro h
          apply heq
          cases tx
          cases s
          congr 1
          exact Array.toList_inj.1 h
        clear hyes hno
        have r0 : w6.cell? ⟨w.heap.size, 0, none⟩ = some (.slice none 0 0) := cell_of_row w6 _ 0 _ _ _ x6
        have rf : w6.frozen? ⟨w.heap.size, 0, none⟩ = false := frozen_of_row w6 _ 0 _ _ x6
        have hset := heap_setCell_same w6 w.heap.size 0 _ _ (.slice none 0 0) x6
        have hBF := B06.setCell (p := ⟨w.heap.size, 0, none⟩) (Nat.le_refl _) (.slice none 0 0)
        go_wp2
        refine bodyPost_ret (results_row_2 rfl _ _ w.heap.size 32 _ (0, 0) _ rfl hset Tryz.underlying32 rfl Tryz.sizeP) rfl ⟨VrAns.intro (.slice none 0 0) ?_ ?_, hBF⟩
        · rw [HA.out.2.1, HA.out.2.2]; rfl
        · rw [HA.out.1]; exact World.ownsRow_nil _ _ _ _
end Go.Proofs.YtbhfooafhbfniaaGreatDoor
/-
  A process that is right: ProcOk on both sides. The variable errors.errorType reads as it is laid.
-/
namespace Go.Proofs.YtbhfooafhbfniaaGreatDoor
open Go.RowKit
def pidB (i : Int) : Bool := decide (1 ≤ i ∧ i ≤ 1000000000)
def boxB (bx : List ByteArray) : Bool := decide (bx.length ≤ 20) && bx.all fun s => vrB (sb s)
def outB (ox : List ByteArray) : Bool := decide (ox.length ≤ 40) && ox.all fun s => decide (s.size ≤ 400)
def procB (ns : List Nd) (is : List In) (ds : List Df) (i : Int) (xs : List Nd) (m : Mc) (bx ox : List ByteArray) : Bool := pidB i && (boxB bx && (outB ox && machB ns is ds xs m))
theorem all_upto {xs : List ByteArray} {f : ByteArray → Bool} {k : Nat} {x : ByteArray} (h : ∀ j y, xs[j]? = some y → j < k → f y = true) (hx : xs[k]? = some x) (hf : f x = true) : ∀ j y, xs[j]? = some y → j < k + 1 → f y = true := fun j y hy hj => by
  by_cases e : j = k
  · subst e
    rw [hx] at hy
    cases hy
    exact hf
  · exact h j y hy (by omega)
theorem all_end {xs : List ByteArray} {f : ByteArray → Bool} (h : ∀ j y, xs[j]? = some y → j < xs.length → f y = true) : xs.all f = true := List.all_eq_true.2 fun x hx => by
  obtain ⟨j, hj, e⟩ := List.getElem_of_mem hx
  exact h j x (by rw [← e]; simp [hj]) hj
theorem all_fell {xs : List ByteArray} {f : ByteArray → Bool} {k : Nat} {x : ByteArray} (hx : xs[k]? = some x) (hf : f x = false) : xs.all f = false := by
  rw [List.all_eq_false]
  exact ⟨x, List.mem_of_getElem? hx, by simp [hf]⟩
set_option maxHeartbeats 400000 in
theorem ispid_any (i : Int) (w : World) : Calls Tryz.prog 89 #[.int .i64 i] w fun e w' => e = .returned (.bool (pidB i)) ∧ w' = w := by
  by_cases h1 : 1 ≤ i
  · by_cases h2 : i ≤ 1000000000
    · go_enter Tryz.func89, Tryz.ntmps89
      go_wp2
      go_ret
      exact ⟨retB (by simp [pidB, h1, h2]), rfl⟩
    · go_enter Tryz.func89, Tryz.ntmps89
      go_wp2
      go_ret
      exact ⟨retB (by simp [pidB, h2]), rfl⟩
  · go_enter Tryz.func89, Tryz.ntmps89
    go_wp2
    go_ret
    exact ⟨retB (by unfold pidB; rw [decide_eq_false_iff_not.2 (by omega)]), rfl⟩
set_option maxRecDepth 100000 in
set_option maxHeartbeats 1600000 in
theorem boxfits_any (v : Value) (bx : List ByteArray) (w : World) (R : StRow w v bx) (hz : ∀ x ∈ bx, x.size ≤ 140737488351232) (hg : ErrT w) :
    Calls Tryz.prog 90 #[v] w fun e w' => e = .returned (.bool (boxB bx)) ∧ Below w.heap.size w w' := by
  obtain ⟨ao, cap, rfl, hcap, hm, hzm, hcell⟩ := R
  by_cases hl : bx.length ≤ 20
  rotate_left
  · have hl' : 20 < (bx.length : Int) := by omega
    have HF : Hid (boxB bx = false) := by show boxB bx = false; simp [boxB, hl]
    go_enter Tryz.func90, Tryz.ntmps90
    go_wp2
    go_ret
    exact ⟨retB HF.out.symm, Below.refl _ _⟩
  have HV : Hid (boxB bx = bx.all fun s => vrB (sb s)) := by show boxB bx = bx.all fun s => vrB (sb s); simp [boxB, hl]
  go_enter Tryz.func90, Tryz.ntmps90
  go_wp2
  go_loopw [13] (fun i wr => ∃ k : Nat, k ≤ bx.length ∧ i = .int .i64 k ∧ Hid (∀ j x, bx[j]? = some x → j < k → vrB (sb x) = true) ∧ Below w.heap.size w wr) (fun i _ => bx.length - (intOf i).toNat)
  case atStart => exact ⟨0, by omega, rfl, fun j x _ h => by omega, Below.refl _ _⟩
  case round =>
    obtain ⟨k, hk, rfl, HA, hb⟩ := hrel
    by_cases hlt : k < bx.length
    · obtain ⟨g, o, rfl, hgg, hcell⟩ := hcell (by intro e; subst e; simp at hlt)
      obtain ⟨x, hx⟩ : ∃ x, bx[k]? = some x := ⟨bx[k], by simp [hlt]⟩
      have c0 := (hb.cell (p := ⟨g, o + k, none⟩) hgg).trans (hcell k x hx)
      have HR := ivread_any x wr (hz x (List.mem_of_getElem? hx)) (hg.below hb (Nat.le_refl _))
      unfold VrAns at HR
      have HX : Hid (bx[k]? = some x) := hx
      have HF := fun h => all_fell (f := fun s => vrB (sb s)) hx h
      have HA2 := fun h => all_upto (f := fun s => vrB (sb s)) HA.out hx h
      clear hcell hx
      generalize vrB (sb x) = bv at HR HF HA2
      go_wp2_with fail
      refine HR.mono ?_
      rintro e w2 ⟨⟨v2, rfl, ho2⟩, hb2⟩
      obtain ⟨ao2, cap2, rfl⟩ := own_form ho2
      have hB2 := hb.trans (hb2.mono hb.size)
      clear HR ho2 hb2 c0
      have hB3 : Below w.heap.size w (w2.alloc (Obj.cells #[.slice ao2 (vrL (sb x)).length cap2] 32)) := hB2.alloc hB2.size _
      cases bv with
      | true =>
        have HA3 := HA2 rfl
        have HA4 : Hid (∀ j x, bx[j]? = some x → j < k + 1 → vrB (sb x) = true) := HA3
        clear HA HA2 HA3 HF
        go_wp2
        go_roundw
        case rel => exact ⟨k + 1, by omega, by go_num, HA4, hB3⟩
        case measure => simp [intOf]; omega
      | false =>
        have HF2 : Hid ((bx.all fun s => vrB (sb s)) = false) := HF rfl
        clear HA HA2 HF
        go_wp2
        go_ret
        exact ⟨retB (HV.out.trans HF2.out).symm, hB3⟩
    · go_wp2
      go_ret
      have e : k = bx.length := by omega
      subst e
      exact ⟨retB (HV.out.trans (all_end HA.out)).symm, hb⟩
set_option maxRecDepth 100000 in
set_option maxHeartbeats 1600000 in
theorem outfits_any (v : Value) (ox : List ByteArray) (w : World) (R : StRow w v ox) :
    Calls Tryz.prog 91 #[v] w fun e w' => e = .returned (.bool (outB ox)) ∧ Below w.heap.size w w' := by
  obtain ⟨ao, cap, rfl, hcap, hm, hzm, hcell⟩ := R
  by_cases hl : ox.length ≤ 40
  rotate_left
  · have hl' : 40 < (ox.length : Int) := by omega
    have HF : Hid (outB ox = false) := by show outB ox = false; simp [outB, hl]
    go_enter Tryz.func91, Tryz.ntmps91
    go_wp2
    go_ret
    exact ⟨retB HF.out.symm, Below.refl _ _⟩
  have HV : Hid (outB ox = ox.all fun s => decide (s.size ≤ 400)) := by show outB ox = ox.all fun s => decide (s.size ≤ 400); simp [outB, hl]
  go_enter Tryz.func91, Tryz.ntmps91
  go_wp2
  go_loopw [10] (fun i wr => ∃ k : Nat, k ≤ ox.length ∧ i = .int .i64 k ∧ Hid (∀ j x, ox[j]? = some x → j < k → decide (x.size ≤ 400) = true) ∧ Below w.heap.size w wr) (fun i _ => ox.length - (intOf i).toNat)
  case atStart => exact ⟨0, by omega, rfl, fun j x _ h => by omega, Below.refl _ _⟩
  case round =>
    obtain ⟨k, hk, rfl, HA, hb⟩ := hrel
    by_cases hlt : k < ox.length
    · obtain ⟨g, o, rfl, hgg, hcell⟩ := hcell (by intro e; subst e; simp at hlt)
      obtain ⟨x, hx⟩ : ∃ x, ox[k]? = some x := ⟨ox[k], by simp [hlt]⟩
      have c0 := (hb.cell (p := ⟨g, o + k, none⟩) hgg).trans (hcell k x hx)
      have hxs := hzm x (List.mem_of_getElem? hx)
      unfold maxLen at hxs
      have HX : Hid (ox[k]? = some x) := hx
      clear hcell hx
      by_cases h4 : x.size ≤ 400
      · have h4' : ¬ 400 < (x.size : Int) := by omega
        go_wp2
        go_roundw
        case rel => exact ⟨k + 1, by omega, by go_num, all_upto (f := fun s => decide (s.size ≤ 400)) HA.out HX.out (by simp [h4]), hb⟩
        case measure => simp [intOf]; omega
      · have h4' : 400 < (x.size : Int) := by omega
        go_wp2
        go_ret
        exact ⟨retB (HV.out.trans (all_fell (f := fun s => decide (s.size ≤ 400)) HX.out (by simp [h4]))).symm, hb⟩
    · go_wp2
      go_ret
      have e : k = ox.length := by omega
      subst e
      exact ⟨retB (HV.out.trans (all_end HA.out)).symm, hb⟩
set_option maxRecDepth 100000 in
set_option maxHeartbeats 3200000 in
theorem iprocok_any (v1 v2 v3 v vb vo : Value) (ns : List Nd) (is : List In) (ds : List Df) (i : Int) (xs : List Nd) (m : Mc) (bx ox : List ByteArray) (w : World) (R1 : NRow w v1 ns) (R2 : InRow w v2 is) (R3 : DfRow w v3 ds) (R : NRow w v xs) (Rb : StRow w vb bx) (Ro : StRow w vo ox) (hz : ∀ x ∈ bx, x.size ≤ 140737488351232) (hg : ErrT w) :
    Calls Tryz.prog 59 #[.agg #[v1, v2, v3], .agg #[.int .i64 i, v, .int .i64 m.p, .int .i64 m.s, .int .i64 m.e, .int .i64 m.d, .int .i64 m.t, .int .i64 m.q, .int .i64 m.r, vb, vo]] w fun e w' => e = .returned (.bool (procB ns is ds i xs m bx ox)) ∧ Below w.heap.size w w' := by
  obtain ⟨ao, cap, rfl⟩ : ∃ ao cap, v = .slice ao xs.length cap := by obtain ⟨ao, cap, rfl, _⟩ := R; exact ⟨ao, cap, rfl⟩
  obtain ⟨a1, c1, rfl⟩ := R1.small
  obtain ⟨a2, c2, rfl⟩ := R2.small
  obtain ⟨a3, c3, rfl⟩ := R3.small
  obtain ⟨ab, cb, rfl⟩ := Rb.small
  obtain ⟨ac, cc, rfl⟩ := Ro.small
  obtain ⟨hB0, hk0, hx0⟩ := two_boxes w (Obj.cells #[.slice a1 ns.length c1, .slice a2 is.length c2, .slice a3 ds.length c3] 36) (Obj.cells #[.int .i64 i, .slice ao xs.length cap, .int .i64 m.p, .int .i64 m.s, .int .i64 m.e, .int .i64 m.d, .int .i64 m.t, .int .i64 m.q, .int .i64 m.r, .slice ab bx.length cb, .slice ac ox.length cc] 59)
  have HM : Hid (procB ns is ds i xs m bx ox = (pidB i && (boxB bx && (outB ox && machB ns is ds xs m)))) := rfl
  go_enter Tryz.func59, Tryz.ntmps59
  go_wp2_with fail
  refine (ispid_any _ _).mono ?_
  rintro e w1 ⟨rfl, rfl⟩
  generalize pidB i = b1 at HM ⊢
  cases b1 with
  | false =>
    go_wp2
    go_ret
    exact ⟨retB (by rw [HM.out]; rfl), hB0⟩
  | true =>
    go_wp2_with fail
    refine (boxfits_any _ bx _ (Rb.below hB0) hz (hg.below hB0 (Nat.le_refl _))).mono ?_
    rintro e w2 ⟨rfl, hb2⟩
    have hB2 := hB0.trans (hb2.mono hB0.size)
    have hk2 := (hb2.block _ (Array.getElem?_eq_some_iff.1 hk0).1).trans hk0
    have hx2 := (hb2.block _ (Array.getElem?_eq_some_iff.1 hx0).1).trans hx0
    clear hB0 hk0 hx0 hb2
    generalize boxB bx = b2 at HM ⊢
    cases b2 with
    | false =>
      go_wp2
      go_ret
      exact ⟨retB (by rw [HM.out]; rfl), hB2⟩
    | true =>
      have k0 : w2.cell? ⟨w.heap.size + 1, 0 + 10, none⟩ = some (.slice ac ox.length cc) := cell_of_row w2 _ 10 _ _ _ hx2
      go_wp2_with fail
      refine (outfits_any _ ox _ (Ro.below hB2)).mono ?_
      rintro e w3 ⟨rfl, hb3⟩
      have hB3 := hB2.trans (hb3.mono hB2.size)
      have hk3 := (hb3.block _ (Array.getElem?_eq_some_iff.1 hk2).1).trans hk2
      have hx3 := (hb3.block _ (Array.getElem?_eq_some_iff.1 hx2).1).trans hx2
      clear hB2 hk2 hx2 hb3 k0
      generalize outB ox = b3 at HM ⊢
      cases b3 with
      | false =>
        go_wp2
        go_ret
        exact ⟨retB (by rw [HM.out]; rfl), hB3⟩
      | true =>
        have l0 : w3.cell? ⟨w.heap.size, 0, none⟩ = some (.slice a1 ns.length c1) := cell_of_row w3 _ 0 _ _ _ hk3
        have l1 : w3.cell? ⟨w.heap.size, 0 + 1, none⟩ = some (.slice a2 is.length c2) := cell_of_row w3 _ 1 _ _ _ hk3
        have l2 : w3.cell? ⟨w.heap.size, 0 + 2, none⟩ = some (.slice a3 ds.length c3) := cell_of_row w3 _ 2 _ _ _ hk3
        have k1 : w3.cell? ⟨w.heap.size + 1, 0 + 1, none⟩ = some (.slice ao xs.length cap) := cell_of_row w3 _ 1 _ _ _ hx3
        have k2 : w3.cell? ⟨w.heap.size + 1, 0 + 1 + 1, none⟩ = some (.int .i64 m.p) := cell_of_row w3 _ 2 _ _ _ hx3
        have k3 : w3.cell? ⟨w.heap.size + 1, 0 + 1 + 2, none⟩ = some (.int .i64 m.s) := cell_of_row w3 _ 3 _ _ _ hx3
        have k4 : w3.cell? ⟨w.heap.size + 1, 0 + 1 + 3, none⟩ = some (.int .i64 m.e) := cell_of_row w3 _ 4 _ _ _ hx3
        have k5 : w3.cell? ⟨w.heap.size + 1, 0 + 1 + 4, none⟩ = some (.int .i64 m.d) := cell_of_row w3 _ 5 _ _ _ hx3
        have k6 : w3.cell? ⟨w.heap.size + 1, 0 + 1 + 5, none⟩ = some (.int .i64 m.t) := cell_of_row w3 _ 6 _ _ _ hx3
        have k7 : w3.cell? ⟨w.heap.size + 1, 0 + 1 + 6, none⟩ = some (.int .i64 m.q) := cell_of_row w3 _ 7 _ _ _ hx3
        have k8 : w3.cell? ⟨w.heap.size + 1, 0 + 1 + 7, none⟩ = some (.int .i64 m.r) := cell_of_row w3 _ 8 _ _ _ hx3
        go_wp2_with fail
        refine (imachok_any _ _ _ _ ns is ds xs m _ (R1.below hB3) (R2.below hB3) (R3.below hB3) (R.below hB3)).mono ?_
        rintro e w4 ⟨rfl, hb4⟩
        have hB4 := hB3.trans (hb4.mono hB3.size)
        clear hB3 hk3 hx3 hb4 l0 l1 l2
        generalize machB ns is ds xs m = b4 at HM ⊢
        cases b4 with
        | false =>
          go_wp2
          go_ret
          exact ⟨retB (by rw [HM.out]; rfl), hB4⟩
        | true =>
          go_wp2
          go_ret
          exact ⟨retB (by rw [HM.out]; rfl), hB4⟩
end Go.Proofs.YtbhfooafhbfniaaGreatDoor
/-
  A process that is right, on the specification's side: ProcOk. No condition.
-/
namespace Go.Proofs.YtbhfooafhbfniaaGreatDoor
open Go.RowKit
theorem lin_pid (x : Int) (w : World) : Calls Tryz.prog 17 #[.int .i64 x, .int .i64 1, .int .i64 1000000000] w fun e w' => e = .returned (.bool (pidB x)) ∧ w' = w := by
  refine (lin_any x 1 1000000000 w).mono ?_
  rintro e w' ⟨rfl, rfl⟩
  exact ⟨retB (by simp [pidB]), rfl⟩
set_option maxRecDepth 100000 in
set_option maxHeartbeats 6400000 in
theorem sprocok_any (v1 v2 v3 v vb vo : Value) (ns : List Nd) (is : List In) (ds : List Df) (i : Int) (xs : List Nd) (m : Mc) (bx ox : List ByteArray) (w : World) (R1 : NRow w v1 ns) (R2 : InRow w v2 is) (R3 : DfRow w v3 ds) (R : NRow w v xs) (Rb : StRow w vb bx) (Ro : StRow w vo ox) (hz : ∀ x ∈ bx, x.size ≤ 140737488351232) :
    Calls Tryz.prog 52 #[.agg #[v1, v2, v3], .agg #[.int .i64 i, v, .int .i64 m.p, .int .i64 m.s, .int .i64 m.e, .int .i64 m.d, .int .i64 m.t, .int .i64 m.q, .int .i64 m.r, vb, vo]] w fun e w' => e = .returned (.bool (procB ns is ds i xs m bx ox)) ∧ Below w.heap.size w w' := by
  obtain ⟨ao, cap, rfl⟩ : ∃ ao cap, v = .slice ao xs.length cap := by obtain ⟨ao, cap, rfl, _⟩ := R; exact ⟨ao, cap, rfl⟩
  obtain ⟨a1, c1, rfl⟩ := R1.small
  obtain ⟨a2, c2, rfl⟩ := R2.small
  obtain ⟨a3, c3, rfl⟩ := R3.small
  obtain ⟨ab, cb, rfl, hcapb, hmb, hzb, hcellb⟩ := Rb
  obtain ⟨ac, cc, rfl, hcapc, hmc, hzc, hcellc⟩ := Ro
  obtain ⟨hB0, hk0, hx0⟩ := two_boxes w (Obj.cells #[.slice a1 ns.length c1, .slice a2 is.length c2, .slice a3 ds.length c3] 36) (Obj.cells #[.int .i64 i, .slice ao xs.length cap, .int .i64 m.p, .int .i64 m.s, .int .i64 m.e, .int .i64 m.d, .int .i64 m.t, .int .i64 m.q, .int .i64 m.r, .slice ab bx.length cb, .slice ac ox.length cc] 59)
  have HM : Hid (procB ns is ds i xs m bx ox = (pidB i && (boxB bx && (outB ox && machB ns is ds xs m)))) := rfl
  have HV : Hid (boxB bx = (decide (bx.length ≤ 20) && bx.all fun s => vrB (sb s))) := rfl
  have HW : Hid (outB ox = (decide (ox.length ≤ 40) && ox.all fun s => decide (s.size ≤ 400))) := rfl
  go_enter Tryz.func52, Tryz.ntmps52
  go_wp2_with fail
  refine (lin_pid _ _).mono ?_
  rintro e w1 ⟨rfl, rfl⟩
  generalize pidB i = b1 at HM ⊢
  cases b1 with
  | false =>
    go_wp2
    go_ret
    exact ⟨retB (by rw [HM.out]; rfl), hB0⟩
  | true =>
    go_wp2_with fail
    refine (smachok_any _ _ _ _ ns is ds xs m _ (R1.below hB0) (R2.below hB0) (R3.below hB0) (R.below hB0)).mono ?_
    rintro e w2 ⟨rfl, hb2⟩
    have hB2 := hB0.trans (hb2.mono hB0.size)
    have hx2 := (hb2.block _ (Array.getElem?_eq_some_iff.1 hx0).1).trans hx0
    clear hB0 hk0 hx0 hb2 R R1 R2 R3
    generalize machB ns is ds xs m = b2 at HM ⊢
    cases b2 with
    | false =>
      go_wp2
      go_ret
      exact ⟨retB (by rw [HM.out]; simp), hB2⟩
    | true =>
      have k9 : w2.cell? ⟨w.heap.size + 1, 0 + 9, none⟩ = some (.slice ab bx.length cb) := cell_of_row w2 _ 9 _ _ _ hx2
      by_cases l20 : bx.length ≤ 20
      rotate_left
      · have l20' : 20 < (bx.length : Int) := by omega
        have HF : Hid (boxB bx = false) := by show boxB bx = false; simp [boxB, l20]
        go_wp2
        go_ret
        exact ⟨retB (by rw [HM.out, HF.out]; rfl), hB2⟩
      have k10 : w2.cell? ⟨w.heap.size + 1, 0 + 10, none⟩ = some (.slice ac ox.length cc) := cell_of_row w2 _ 10 _ _ _ hx2
      by_cases l40 : ox.length ≤ 40
      rotate_left
      · have l40' : 40 < (ox.length : Int) := by omega
        have HF : Hid (outB ox = false) := by show outB ox = false; simp [outB, l40]
        go_wp2
        go_ret
        exact ⟨retB (by rw [HM.out, HF.out]; simp), hB2⟩
      replace HV : Hid (boxB bx = bx.all fun s => vrB (sb s)) := by show boxB bx = bx.all fun s => vrB (sb s); simp [boxB, l20]
      replace HW : Hid (outB ox = ox.all fun s => decide (s.size ≤ 400)) := by show outB ox = ox.all fun s => decide (s.size ≤ 400); simp [outB, l40]
      go_wp2
      clear k9 k10 l20 l40
      go_loopw [5] (fun i wr => ∃ k : Nat, k ≤ bx.length ∧ i = .int .i64 k ∧ Hid (∀ j x, bx[j]? = some x → j < k → vrB (sb x) = true) ∧ Below w2.heap.size w2 wr) (fun i _ => bx.length - (intOf i).toNat)
      case atStart => exact ⟨0, by omega, rfl, fun j x _ h => by omega, Below.refl _ _⟩
      case round =>
        obtain ⟨k, hk, rfl, HA, hb⟩ := hrel
        have hxr := (hb.block _ (Array.getElem?_eq_some_iff.1 hx2).1).trans hx2
        have k9 : wr.cell? ⟨w.heap.size + 1, 0 + 9, none⟩ = some (.slice ab bx.length cb) := cell_of_row wr _ 9 _ _ _ hxr
        have hBr := hB2.trans (hb.mono hB2.size)
        clear hB2 hx2
        by_cases hlt : k < bx.length
        · obtain ⟨g, o, rfl, hgg, hcellb⟩ := hcellb (by intro e; subst e; simp at hlt)
          obtain ⟨x, hx⟩ : ∃ x, bx[k]? = some x := ⟨bx[k], by simp [hlt]⟩
          have c0 := (hBr.cell (p := ⟨g, o + k, none⟩) hgg).trans (hcellb k x hx)
          have HR := svread_any x wr (hz x (List.mem_of_getElem? hx))
          unfold VrAns at HR
          have HF := fun h => all_fell (f := fun s => vrB (sb s)) hx h
          have HA2 := fun h => all_upto (f := fun s => vrB (sb s)) HA.out hx h
          clear hcellb hx hcellc hxr
          generalize vrB (sb x) = bv at HR HF HA2
          go_wp2_with fail
          refine HR.mono ?_
          rintro e w3 ⟨⟨v3, rfl, ho3⟩, hb3⟩
          obtain ⟨ao3, cap3, rfl⟩ := own_form ho3
          have hb4 := hb.trans ((hb3.trans (((Below.refl w3.heap.size w3).alloc (Nat.le_refl _) (Obj.cells #[.slice ao3 (vrL (sb x)).length cap3] 32)).mono hb3.size)).mono hb.size)
          have hB4 := hBr.trans ((hb3.trans (((Below.refl w3.heap.size w3).alloc (Nat.le_refl _) (Obj.cells #[.slice ao3 (vrL (sb x)).length cap3] 32)).mono hb3.size)).mono hBr.size)
          clear HR ho3 hb3 c0 k9 hb hBr
          cases bv with
          | true =>
            have HA4 : Hid (∀ j x, bx[j]? = some x → j < k + 1 → vrB (sb x) = true) := HA2 rfl
            clear HA HA2 HF hB4
            go_wp2
            go_roundw
            case rel => exact ⟨k + 1, by omega, by go_num, HA4, hb4⟩
            case measure => simp [intOf]; omega
          | false =>
            have HF2 : Hid ((bx.all fun s => vrB (sb s)) = false) := HF rfl
            clear HA HA2 HF hb4
            go_wp2
            go_ret
            exact ⟨retB (by rw [HM.out, HV.out, HF2.out]; rfl), hB4⟩
        · have e : k = bx.length := by omega
          subst e
          have HA5 : Hid (boxB bx = true) := HV.out.trans (all_end HA.out)
          clear HA HV hcellb hb hlt hk
          go_wp2
          clear k9
          obtain ⟨wz, hwz⟩ : ∃ z, z = wr := ⟨_, rfl⟩
          subst hwz
          go_loopw [9] (fun i wq => ∃ k : Nat, k ≤ ox.length ∧ i = .int .i64 k ∧ Hid (∀ j x, ox[j]? = some x → j < k → decide (x.size ≤ 400) = true) ∧ Below wz.heap.size wz wq) (fun i _ => ox.length - (intOf i).toNat)
          case atStart => exact ⟨0, by omega, rfl, fun j x _ h => by omega, Below.refl _ _⟩
          case round =>
            obtain ⟨k, hk, rfl, HA, hb⟩ := hrel
            have hxq := (hb.block _ (Array.getElem?_eq_some_iff.1 hxr).1).trans hxr
            have k10 : wr.cell? ⟨w.heap.size + 1, 0 + 10, none⟩ = some (.slice ac ox.length cc) := cell_of_row wr _ 10 _ _ _ hxq
            have hBq := hBr.trans (hb.mono hBr.size)
            clear hBr hxr
            by_cases hlt : k < ox.length
            · obtain ⟨g, o, rfl, hgg, hcellc⟩ := hcellc (by intro e; subst e; simp at hlt)
              obtain ⟨x, hx⟩ : ∃ x, ox[k]? = some x := ⟨ox[k], by simp [hlt]⟩
              have c0 := (hBq.cell (p := ⟨g, o + k, none⟩) hgg).trans (hcellc k x hx)
              have hxs := hzc x (List.mem_of_getElem? hx)
              unfold maxLen at hxs
              have HX : Hid (ox[k]? = some x) := hx
              clear hcellc hx
              by_cases h4 : x.size ≤ 400
              · have h4' : ¬ 400 < (x.size : Int) := by omega
                go_wp2
                go_roundw
                case rel => exact ⟨k + 1, by omega, by go_num, all_upto (f := fun s => decide (s.size ≤ 400)) HA.out HX.out (by simp [h4]), hb⟩
                case measure => simp [intOf]; omega
              · have h4' : 400 < (x.size : Int) := by omega
                go_wp2
                go_ret
                exact ⟨retB (by rw [HM.out, HW.out, all_fell (f := fun s => decide (s.size ≤ 400)) HX.out (by simp [h4])]; simp), hBq⟩
            · go_wp2
              go_ret
              have e : k = ox.length := by omega
              subst e
              exact ⟨retB (by rw [HM.out, HA5.out, HW.out, all_end HA.out]; rfl), hBq⟩
end Go.Proofs.YtbhfooafhbfniaaGreatDoor
