/-
  The law FnExactListOf, walked: at every argument the law returns true.
-/
import Derived.Test.YtgmijnkdcdgejaaLMake
import Derived.Test.YtgmijnkdcdgejaaListOf
import Derived.Test.YtgmijnkdcdgejaaInts
namespace Go.Proofs.Ytgmijnkdcdgejaa
open Go.RowKit

/-- A slice of ints of the call's own, its row between lo and hi. -/
def OwnI (w : World) (lo hi : Nat) (v : Value) (zs : List Int) : Prop := w.ownsRow lo 3 1 v zs.length (iv zs) ∧ (∀ k, v.ownBlock = some k → k < hi)
theorem OwnI.mk' {w : World} {lo : Nat} {v : Value} {zs : List Int} (h : w.ownsRow lo 3 1 v zs.length (iv zs)) : OwnI w lo w.heap.size v zs := ⟨h, fun k hk => (h.lt k hk).2⟩
theorem OwnI.below {w w' : World} {lo hi : Nat} {v : Value} {zs : List Int} (h : OwnI w lo hi v zs) (hb : Below w.heap.size w w') : OwnI w' lo hi v zs := ⟨own_below h.1 hb, h.2⟩
theorem OwnI.row {w : World} {lo hi : Nat} {v : Value} {zs : List Int} (h : OwnI w lo hi v zs) (hm : zs.length ≤ 4194304) : IRow w v zs := IRow.of_own h.1 (by omega)
theorem own_two {w : World} {B B' : Nat} {e e' : TypeId} {k k' : Nat} {v v' : Value} {n n' : Nat} {xs xs' : List Value} (h : w.ownsRow B e k v n xs) (h' : w.ownsRow B' e' k' v' n' xs') (hne : e ≠ e') : v.ownBlock = none ∨ v.ownBlock ≠ v'.ownBlock := by
  rcases h.2 with ⟨rfl, _⟩ | ⟨g, cap, cur, rfl, hB, hg, _⟩
  · exact Or.inl rfl
  · exact Or.inr fun e => own_ne h' hg hne e.symm
theorem OwnI.keptN {w w' : World} {lo hi lo' hi' b' : Nat} {v v' : Value} {zs : List Int} {xs' : List Nd} (h : OwnI w lo hi v zs) (V : Var w b' lo' hi' v' xs') (hg : w.grownBy w' v'.ownBlock) : OwnI w' lo hi v zs :=
  ⟨h.1.kept hg (own_two h.1 V.2.1 (by decide)), h.2⟩
theorem OwnI.kept {w w' : World} {lo hi lo' hi' : Nat} {v v' : Value} {zs zs' : List Int} (h : OwnI w lo hi v zs) (h' : OwnI w lo' hi' v' zs') (hg : w.grownBy w' v'.ownBlock) (hd : hi ≤ lo' ∨ hi' ≤ lo) : OwnI w' lo hi v zs := by
  refine ⟨h.1.kept hg ?_, h.2⟩
  cases hv : v.ownBlock with
  | none => exact Or.inl rfl
  | some k =>
    refine Or.inr fun e => ?_
    have k1 := h.2 k hv
    have k2 := (h.1.lt k hv).1
    have k3 := h'.2 k e.symm
    have k4 := (h'.1.lt k e.symm).1
    omega
theorem OwnI.block {w w' : World} {lo hi : Nat} {v : Value} {zs : List Int} (h : OwnI w lo hi v zs) (hg : w.grownBy w' v.ownBlock) {j : Nat} {c : Array Value} {t : TypeId} (hj : w.heap[j]? = some (.cells c t (0, 0))) (hte : t ≠ 3) : w'.heap[j]? = some (.cells c t (0, 0)) :=
  (hg.block j (Array.getElem?_eq_some_iff.1 hj).1 (fun e => own_ne h.1 hj hte e.symm)).trans hj
theorem below_markI {w w' w0 : World} {B lo hi : Nat} {v : Value} {zs : List Int} (h0 : Below B w0 w) (h : OwnI w lo hi v zs) (hg : w.grownBy w' v.ownBlock) (hlo : B ≤ lo) (hB : B ≤ w.heap.size) : Below B w0 w' :=
  h0.grown hg hB (fun k hk => Nat.le_trans hlo (h.1.lt k hk).1)
theorem chain_len (xs : List Nd) (f j : Nat) (acc l : List Int) (h : chain xs f j acc = some l) : l.length ≤ acc.length + f := by
  induction f generalizing j acc with
  | zero => simp [chain] at h
  | succ f ih =>
    simp only [chain] at h
    split at h
    · cases h
    · split at h
      · have := ih _ _ h
        simp at this
        omega
      · split at h
        · cases h; omega
        · cases h
theorem listR_len (xs : List Nd) (a : Int) : (listR xs a).1.length ≤ xs.length := by
  unfold listR
  cases h : (poolB xs && hasI xs a) with
  | false => simp
  | true =>
    simp only [Bool.and_eq_true, hasI, decide_eq_true_eq] at h
    rw [if_pos rfl]
    unfold chainR
    split
    · rename_i l hl
      have := chain_len xs _ _ _ _ hl
      show l.length ≤ xs.length
      simp only [List.length_nil] at this
      omega
    · simp

set_option maxRecDepth 100000 in
set_option maxHeartbeats 1600000 in
theorem llistof_any (v : Value) (xs : List Nd) (a : Int) (w : World) (R : NRow w v xs) :
    Calls Try.prog 4 #[.agg #[v], .int .i64 a] w fun e w' => e = .returned (.bool true) ∧ Below w.heap.size w w' := by
  have R' := R
  obtain ⟨ao, cap, rfl, _, _, hz, _⟩ := R'
  have hlr := listR_len xs a
  go_enter Try.func4, Try.ntmps4
  go_wp2_with fail
  have hB0 : Below w.heap.size w (w.alloc (Obj.cells #[.slice ao xs.length cap] 38)) := (Below.refl _ _).alloc (Nat.le_refl _) _
  refine (szpool_any _ xs _ (R.below hB0)).mono ?_
  rintro e w1 ⟨r, rfl, hr0, hr1, hr2, hb1⟩
  have hx1 : w1.heap[w.heap.size]? = some (.cells #[.slice ao xs.length cap] 38 (0, 0)) := (hb1.block _ (by simp)).trans (heap_alloc_new _ _)
  have hB1 := hB0.trans (hb1.mono hB0.size)
  have hsz1 := (Array.getElem?_eq_some_iff.1 hx1).1
  clear hB0 hb1
  by_cases hr : r < 0
  · go_wp2
    go_ret
    exact ⟨rfl, hB1⟩
  have hl := (hr2 (by omega)).1
  clear hr2
  have hLL : (listR xs a).1.length ≤ 4194304 := by omega
  have hc1 : w1.cell? ⟨w.heap.size, 0, none⟩ = some (.slice ao xs.length cap) := by rw [cell_of_row w1 _ 0 _ _ _ hx1]; rfl
  go_wp2_with fail
  refine (topool_any _ xs _ (R.below hB1) (by omega)).mono ?_
  rintro e w2 ⟨v2, rfl, ho2, hb2⟩
  obtain ⟨ao2, cap2, rfl⟩ := own_form ho2
  have R2 := NRow.of_own ho2 (by omega) hz
  have hB2 := hB1.trans (hb2.mono hB1.size)
  have hx2 := (hb2.block _ hsz1).trans hx1
  have hsz2 := (Array.getElem?_eq_some_iff.1 hx2).1
  clear hB1 hx1 hc1 hb2 hsz1 ho2
  go_wp2_with fail
  refine (slistof_any _ xs a _ R2).mono ?_
  rintro e w3 ⟨v6, rfl, ho6, hb3⟩
  obtain ⟨ao6, cap6, rfl⟩ := own_form ho6
  have O6 := OwnI.mk' ho6
  have hB3 := hB2.trans (hb3.mono hB2.size)
  have hx3 := (hb3.block _ hsz2).trans hx2
  have hsz3 := (Array.getElem?_eq_some_iff.1 hx3).1
  have hc3 : w3.cell? ⟨w.heap.size, 0, none⟩ = some (.slice ao xs.length cap) := by rw [cell_of_row w3 _ 0 _ _ _ hx3]; rfl
  have hlo6 : w.heap.size ≤ w2.heap.size := by omega
  clear hB2 hx2 hb3 R2 ho6
  go_wp2_with fail
  refine (topool_any _ xs _ (R.below hB3) (by omega)).mono ?_
  rintro e w4 ⟨v8, rfl, ho8, hb4⟩
  obtain ⟨ao8, cap8, rfl⟩ := own_form ho8
  obtain ⟨V8, hBe, hce⟩ := Var.new hB3 hb4 ho8
  have O6e := O6.below hce
  have hxe := (hce.block _ hsz3).trans hx3
  have hlo8 : w.heap.size ≤ w3.heap.size := hB3.size
  have hb4s := hb4.size
  clear O6 hB3 hx3 hc3 ho8 hb4
  have k8 := V8.cell
  go_wp2_with fail
  refine (ilistof_any _ xs a _ (V8.row (by omega) hz)).mono ?_
  rintro e w5 ⟨v9, rfl, ho9, hb5⟩
  obtain ⟨ao9, cap9, rfl⟩ := own_form ho9
  have O9 := OwnI.mk' ho9
  have O6f := O6e.below hb5
  have V8f := V8.below hb5
  have hBf := hBe.trans (hb5.mono hBe.size)
  have hxf := (hb5.block _ (Array.getElem?_eq_some_iff.1 hxe).1).trans hxe
  have hd69 : w3.heap.size ≤ (w4.alloc (Obj.cells #[.slice ao8 xs.length cap8] 26)).heap.size := by simp; omega
  have hlo9 : w.heap.size ≤ (w4.alloc (Obj.cells #[.slice ao8 xs.length cap8] 26)).heap.size := by simp; omega
  clear O6e V8 hBe hxe k8 ho9 hb5 hce
  generalize (w4.alloc (Obj.cells #[.slice ao8 xs.length cap8] 26)).heap.size = lo9 at *
  go_wp2_with fail
  refine (eqints_any _ _ _ _ (O9.row hLL) (O6f.row hLL)).mono ?_
  rintro e wf ⟨rfl, hbf⟩
  have O9f := O9.below hbf
  have O6g := O6f.below hbf
  have V8g := V8f.below hbf
  have hBg := hBf.trans (hbf.mono hBf.size)
  have hxg := (hbf.block _ (Array.getElem?_eq_some_iff.1 hxf).1).trans hxf
  have hszg := (Array.getElem?_eq_some_iff.1 hxg).1
  clear O9 O6f V8f hBf hxf hbf
  have k8 := V8g.cell
  have lt8 := V8g.lt
  have jf : wf.cell? ⟨w.heap.size, 0, none⟩ = some (.slice ao xs.length cap) := by rw [cell_of_row wf _ 0 _ _ _ hxg]; rfl
  go_wp2_with fail
  go_region_held (fun w' => w'.cell? ⟨w4.heap.size, 0, none⟩ = some (.slice ao8 xs.length cap8) ∧ w'.cell? ⟨w.heap.size, 0, none⟩ = some (.slice ao xs.length cap)) (first | exact ⟨k5, j5⟩ | exact ⟨k4, j4⟩ | go_keep) (first
    | (go_at_call 14; refine (topool_any _ xs _ ?_ ?_).mono ?_; exact R.below hBg.drew; omega; rintro e wk ⟨vk, rfl, hok, hbk⟩; obtain ⟨aok, capk, rfl⟩ := own_form hok
       have hb34 : Below wf.heap.size wf wk := step_drew hbk
       have k4 := (hb34.cell (p := ⟨w4.heap.size, 0, none⟩) lt8).trans k8
       have j4 := (hb34.cell (p := ⟨w.heap.size, 0, none⟩) hszg).trans jf
       have R4 := NRow.of_own hok (by omega) hz
       have R8 := (V8g.below hb34).row (by omega) hz)
    | (go_at_call 16; refine (eqpool_any _ _ xs _ ?_ ?_).mono ?_; exact R8; exact R4; rintro e w5' ⟨rfl, hb5⟩
       have k5 := (hb5.cell (p := ⟨w4.heap.size, 0, none⟩) (Nat.lt_of_lt_of_le lt8 hb34.size)).trans k4
       have j5 := (hb5.cell (p := ⟨w.heap.size, 0, none⟩) (Nat.lt_of_lt_of_le hszg hb34.size)).trans j4))
  have hbf5 := hb34.trans (hb5.mono hb34.size)
  have O9 := O9f.below hbf5
  have O6 := O6g.below hbf5
  have V8 := V8g.below hbf5
  have hB := hBg.trans (hbf5.mono hBg.size)
  have hx := (hbf5.block _ (Array.getElem?_eq_some_iff.1 hxg).1).trans hxg
  clear O9f O6g V8g hBg hxg k8 lt8 jf k4 j4 R4 R8 j5 hb34 hbk hb5 hok hbf5
  go_wp2_with fail
  refine (markpool_any _ 1 w3.heap.size xs _ V8.2.1 (by omega) (by omega) (by omega)).mono ?_
  rintro e w6 ⟨rfl, _, hg6⟩
  have O9h := O9.keptN V8 hg6
  have O6h := O6.keptN V8 hg6
  have hxh := V8.block hg6 hx (by decide)
  have hBh := below_mark hB V8 hg6 hlo8 hB.size
  clear O9 O6 V8 hB hx hg6 k5
  have hk1 : ¬ (1 + 5 * (xs.length : Int)) < 0 := by omega
  go_wp2_with fail
  refine (eqints_any _ _ _ _ (O9h.row hLL) (O6h.row hLL)).mono ?_
  rintro e w7 ⟨rfl, hb7⟩
  have O9 := O9h.below hb7
  have O6 := O6h.below hb7
  have hB := hBh.trans (hb7.mono hBh.size)
  have hx := (hb7.block _ (Array.getElem?_eq_some_iff.1 hxh).1).trans hxh
  clear O9h O6h hBh hxh hb7
  go_wp2_with fail
  refine (markints_any _ 1 lo9 _ _ O9.1 hLL (by omega) (by omega)).mono ?_
  rintro e w8 ⟨rfl, ho8, hg8⟩
  have hlm := imarked_length 1 (listR xs a).1 _ (Nat.le_refl _)
  have O6h := O6.kept O9 hg8 (Or.inl hd69)
  have O9m : OwnI w8 lo9 w5.heap.size (.slice ao9 (listR xs a).1.length cap9) (imarked 1 (listR xs a).1 (listR xs a).1.length) := ⟨by rw [hlm]; exact ho8, O9.2⟩
  have hxh := O9.block hg8 hx (by decide)
  have hBh := below_markI hB O9 hg8 hlo9 hB.size
  clear O9 O6 hB hx ho8 hg8
  go_wp2_with fail
  refine (heldints_any _ 1 _ _ (O9m.row (by omega)) hLL (by omega) (by omega)).mono ?_
  rintro e w9 ⟨rfl, hw9⟩
  subst hw9
  have hk2 : ¬ (1 + ((listR xs a).1.length : Int)) < 0 := by omega
  have hc9 : w9.cell? ⟨w.heap.size, 0, none⟩ = some (.slice ao xs.length cap) := by rw [cell_of_row w9 _ 0 _ _ _ hxh]; rfl
  go_wp2_with fail
  refine (topool_any _ xs _ (R.below hBh) (by omega)).mono ?_
  rintro e w10 ⟨v10, rfl, ho10, hb10⟩
  obtain ⟨ao10, cap10, rfl⟩ := own_form ho10
  have R10 := NRow.of_own ho10 (by omega) hz
  have O6 := O6h.below hb10
  have O9 := O9m.below hb10
  have hB := hBh.trans (hb10.mono hBh.size)
  clear O6h O9m hBh hxh hc9 ho10 hb10
  go_wp2_with fail
  refine (ilistof_any _ xs a _ R10).mono ?_
  rintro e w11 ⟨v14, rfl, ho14, hb11⟩
  obtain ⟨ao14, cap14, rfl⟩ := own_form ho14
  have O14 := OwnI.mk' ho14
  have O6h := O6.below hb11
  have O9m := O9.below hb11
  have hBh := hB.trans (hb11.mono hB.size)
  clear O6 O9 hB R10 ho14 hb11
  go_wp2_with fail
  refine (eqints_any _ _ _ _ (O14.row hLL) (O6h.row hLL)).mono ?_
  rintro e w12 ⟨rfl, hb12⟩
  have O9 := O9m.below hb12
  have hB := hBh.trans (hb12.mono hBh.size)
  clear O14 O6h O9m hBh hb12
  go_wp2_with fail
  refine (heldints_any _ 1 _ _ (O9.row (by omega)) hLL (by omega) (by omega)).mono ?_
  rintro e w13 ⟨rfl, hw13⟩
  subst hw13
  go_wp2
  go_ret
  exact ⟨rfl, hB⟩
end Go.Proofs.Ytgmijnkdcdgejaa
