/-
  The law FnExactKeep, walked: at every argument the law returns true.
-/
import Derived.Test.YtbdgdeoecnhcdaaLListOf
import Derived.Test.YtbdgdeoecnhcdaaToInts
import Derived.Test.YtbdgdeoecnhcdaaSKeep
namespace Go.Proofs.Ytbdgdeoecnhcdaa
open Go.RowKit

theorem Var.keptI8 {w w' : World} {b lo hi lo' hi' : Nat} {v v' : Value} {xs : List Nd} {zs : List Int} (h : Var w b lo hi v xs) (h' : OwnI w lo' hi' v' zs) (hg : w.grownBy w' v'.ownBlock) : Var w' b lo hi v xs :=
  ⟨h'.block hg h.1 (by decide), h.2.1.kept hg (own_two h.2.1 h'.1 (by decide)), h.2.2.1, Nat.le_trans h.2.2.2 hg.size⟩
theorem its_ok (xs : List Nd) (bs : List Bool) (k : Nat) (hz : ∀ y ∈ xs, y.s.size ≤ maxLen) : ∀ p ∈ its xs bs k, p.2.s.size ≤ maxLen := by
  induction xs generalizing k with
  | nil => simp [its]
  | cons x xs ih =>
    intro p hp
    have ih := ih (k + 1) (fun y hy => hz y (List.mem_cons_of_mem _ hy))
    simp only [its] at hp
    split at hp
    · rcases List.mem_cons.1 hp with rfl | hp
      · exact hz x List.mem_cons_self
      · exact ih p hp
    · exact ih p hp
theorem fold_ok (a : Nat) (l : List (Nat × Nd)) (s : List Nd × List Int) (hl : ∀ p ∈ l, p.2.s.size ≤ maxLen) (hs : ∀ y ∈ s.1, y.s.size ≤ maxLen) : ∀ y ∈ (l.foldl (mvS a) s).1, y.s.size ≤ maxLen := by
  induction l generalizing s with
  | nil => exact hs
  | cons p l ih =>
    rw [List.foldl_cons]
    refine ih _ (fun q hq => hl q (List.mem_cons_of_mem _ hq)) (fun y hy => ?_)
    simp only [mvS, List.mem_append, List.mem_singleton] at hy
    rcases hy with hy | rfl
    · exact hs y hy
    · exact hl p List.mem_cons_self
theorem mvN_ok (a : Nat) (xs : List Nd) (rs : List Int) (hz : ∀ y ∈ xs, y.s.size ≤ maxLen) : ∀ y ∈ mvN a xs rs, y.s.size ≤ maxLen :=
  fold_ok a _ _ (its_ok xs _ 0 hz) (by simp)
theorem keepL_ok (xs : List Nd) (rs : List Int) (hz : ∀ y ∈ xs, y.s.size ≤ maxLen) : ∀ y ∈ keepL xs rs, y.s.size ≤ maxLen := by
  unfold keepL
  split
  · exact mvN_ok 0 xs rs hz
  · simp

set_option maxRecDepth 100000 in
set_option maxHeartbeats 1600000 in
theorem lkeep_any (v vl : Value) (xs : List Nd) (zs : List Int) (w : World) (R : NRow w v xs) (L : IRow w vl zs) :
    Calls Try.prog 5 #[.agg #[v], vl] w fun e w' => e = .returned (.bool true) ∧ Below w.heap.size w w' := by
  have R' := R
  obtain ⟨ao, cap, rfl, _, _, hz, _⟩ := R'
  have L' := L
  obtain ⟨al, cl, rfl, _, hzm, _⟩ := L'
  have hB0 : Below w.heap.size w (w.alloc (Obj.cells #[.slice ao xs.length cap] 36)) := (Below.refl _ _).alloc (Nat.le_refl _) _
  by_cases hbig : 1048576 < zs.length
  · go_enter Try.func5, Try.ntmps5
    go_wp2
    go_ret
    exact ⟨rfl, hB0⟩
  go_enter Try.func5, Try.ntmps5
  go_wp2_with fail
  refine (szpool_any _ xs _ (R.below hB0)).mono ?_
  rintro e w1 ⟨r, rfl, hr0, hr1, hr2, hb1⟩
  have hx1 : w1.heap[w.heap.size]? = some (.cells #[.slice ao xs.length cap] 36 (0, 0)) := (hb1.block _ (by simp)).trans (heap_alloc_new _ _)
  have hB1 := hB0.trans (hb1.mono hB0.size)
  have hsz1 := (Array.getElem?_eq_some_iff.1 hx1).1
  clear hB0 hb1
  by_cases hr : r < 0
  · go_wp2
    go_ret
    exact ⟨rfl, hB1⟩
  have hl := (hr2 (by omega)).1
  clear hr2
  have hzl : zs.length ≤ 1048576 := by omega
  have hzL := keepL_ok xs zs hz
  have hlL0 := keepL_len xs zs
  have hlR0 := keepR_len xs zs
  have IK := fun (v vl : Value) (w : World) (R : NRow w v xs) (L : IRow w vl zs) => ikeep_any v vl xs zs w R L hzl
  have SK := fun (v vl : Value) (w : World) (R : NRow w v xs) (L : IRow w vl zs) => skeep_any v vl xs zs w R L hzl
  generalize keepL xs zs = Q at *
  generalize keepR xs zs = Z at *
  have hlL' : Q.length ≤ 4194304 := by omega
  have hlZ' : Z.length ≤ 4194304 := by omega
  have hlm := nmarked_length 1 Q _ (Nat.le_refl _)
  have hlmI := imarked_length (1 + 5 * (Q.length : Int)) Z _ (Nat.le_refl _)
  have hc1 : w1.cell? ⟨w.heap.size, 0, none⟩ = some (.slice ao xs.length cap) := by rw [cell_of_row w1 _ 0 _ _ _ hx1]; rfl
  go_wp2_with fail
  refine (topool_any _ xs _ (R.below hB1) (by omega)).mono ?_
  rintro e w2 ⟨v2, rfl, ho2, hb2⟩
  obtain ⟨ao2, cap2, rfl⟩ := own_form ho2
  have R2 := NRow.of_own ho2 (by omega) hz
  have hB2 := hB1.trans (hb2.mono hB1.size)
  have hx2 := (hb2.block _ hsz1).trans hx1
  have hsz2 := (Array.getElem?_eq_some_iff.1 hx2).1
  clear hB1 hx1 hc1 hb2 hsz1 ho2
  go_wp2_with fail
  refine (toints_any _ zs _ (L.below hB2) (by omega)).mono ?_
  rintro e w3 ⟨v3, rfl, ho3, hb3⟩
  have L3 := IRow.of_own ho3 (by omega)
  have R3 := R2.below hb3
  obtain ⟨ao3, cap3, rfl⟩ := own_form ho3
  have hB3 := hB2.trans (hb3.mono hB2.size)
  have hx3 := (hb3.block _ hsz2).trans hx2
  have hsz3 := (Array.getElem?_eq_some_iff.1 hx3).1
  clear hB2 hx2 hb3 R2 ho3 hsz2
  go_wp2_with fail
  refine (SK _ _ _ R3 L3).mono ?_
  rintro e w4 ⟨v6, v7, rfl, ho6, ho7, hb4⟩
  obtain ⟨ao6, cap6, rfl⟩ := own_form ho6
  obtain ⟨ao7, cap7, rfl⟩ := own_form ho7
  obtain ⟨V6, hBc, hcc⟩ := Var.new hB3 hb4 ho6
  have O7 := (OwnI.mk' ho7).below ((Below.refl w4.heap.size w4).alloc (Nat.le_refl _) (Obj.cells #[.slice ao6 Q.length cap6] 26))
  have hxc := (hcc.block _ hsz3).trans hx3
  have hk4 : w4.cell? ⟨w.heap.size, 0, none⟩ = some (.slice ao xs.length cap) := by rw [cell_of_row w4 _ 0 _ _ _ ((hb4.block _ hsz3).trans hx3)]; rfl
  have hw4 : w.heap.size < w4.heap.size := Nat.lt_of_lt_of_le hsz3 hb4.size
  have hlo6 : w.heap.size ≤ w3.heap.size := by omega
  clear hB3 hx3 hb4 R3 L3 ho6 ho7 hcc hsz3 SK
  go_wp2_with fail
  have hb6c : w4.heap.size < (w4.alloc (Obj.cells #[.slice ao6 Q.length cap6] 26)).heap.size := by simp
  generalize w4.alloc (Obj.cells #[.slice ao6 Q.length cap6] 26) = wc at *
  generalize w4.heap.size = b6 at *
  generalize w3.heap.size = lo6 at *
  clear hk4 hw4
  have hszc := (Array.getElem?_eq_some_iff.1 hxc).1
  refine (topool_any _ xs _ (R.below hBc) (by omega)).mono ?_
  rintro e wd ⟨v8, rfl, ho8, hb8⟩
  obtain ⟨ao8, cap8, rfl⟩ := own_form ho8
  obtain ⟨V8, hBe, hce⟩ := Var.new hBc hb8 ho8
  have V6e := V6.below hce
  have O7e := O7.below hce
  have hxe := (hce.block _ hszc).trans hxc
  have hs8 : wc.heap.size ≤ wd.heap.size := hb8.size
  clear V6 O7 hBc hxc ho8 hb8 hce
  go_wp2_with fail
  have hle8 : wd.heap.size ≤ (wd.alloc (Obj.cells #[.slice ao8 xs.length cap8] 26)).heap.size := by simp
  generalize wd.alloc (Obj.cells #[.slice ao8 xs.length cap8] 26) = we at *
  refine (toints_any _ zs _ (L.below hBe) (by omega)).mono ?_
  rintro e wf ⟨v9, rfl, ho9, hb9⟩
  obtain ⟨ao9, cap9, rfl⟩ := own_form ho9
  have O9 := OwnI.mk' ho9
  have V6f := V6e.below hb9
  have O7f := O7e.below hb9
  have V8f := V8.below hb9
  have hBf := hBe.trans (hb9.mono hBe.size)
  have hxf := (hb9.block _ (Array.getElem?_eq_some_iff.1 hxe).1).trans hxe
  have hs9 : we.heap.size ≤ wf.heap.size := hb9.size
  have hlo9 : w.heap.size ≤ we.heap.size := hBe.size
  clear V6e O7e V8 hBe hxe ho9 hb9
  have k8 := V8f.cell
  go_wp2_with fail
  refine (IK _ _ _ (V8f.row (by omega) hz) (O9.row (by omega))).mono ?_
  rintro e wg ⟨v10, v12, rfl, ho10, ho12, hb10⟩
  obtain ⟨ao10, cap10, rfl⟩ := own_form ho10
  obtain ⟨ao12, cap12, rfl⟩ := own_form ho12
  obtain ⟨V10, hBh, hch⟩ := Var.new hBf hb10 ho10
  have O12 := (OwnI.mk' ho12).below ((Below.refl wg.heap.size wg).alloc (Nat.le_refl _) (Obj.cells #[.slice ao10 Q.length cap10] 26))
  have O9h := O9.below hch
  have V6h := V6f.below hch
  have O7h := O7f.below hch
  have V8h := V8f.below hch
  have hxh := (hch.block _ (Array.getElem?_eq_some_iff.1 hxf).1).trans hxf
  have hl8 : wd.heap.size < wg.heap.size := Nat.lt_of_lt_of_le V8f.lt hb10.size
  have hl6 : b6 < wg.heap.size := Nat.lt_of_lt_of_le V6f.lt hb10.size
  have c6g : wg.cell? ⟨b6, 0, none⟩ = some (.slice ao6 Q.length cap6) := (V6f.below hb10).cell
  have hs10 : wf.heap.size ≤ wg.heap.size := hb10.size
  clear O9 V6f O7f V8f hBf hxf k8 ho10 ho12 hb10 hch
  go_wp2_with fail
  generalize wg.alloc (Obj.cells #[.slice ao10 Q.length cap10] 26) = wh at *
  generalize wg.heap.size = b10 at *
  clear c6g
  refine (eqpool_any _ _ Q _ (V10.row hlL' hzL) (V6h.row hlL' hzL)).mono ?_
  rintro e wi ⟨rfl, hbi⟩
  have O9 := O9h.below hbi
  have V6f := V6h.below hbi
  have O7f := O7h.below hbi
  have V8f := V8h.below hbi
  have V10f := V10.below hbi
  have O12f := O12.below hbi
  have hBf := hBh.trans (hbi.mono hBh.size)
  have hxf := (hbi.block _ (Array.getElem?_eq_some_iff.1 hxh).1).trans hxh
  clear O9h V6h O7h V8h V10 O12 hBh hxh hbi
  go_wp2_with fail
  refine (eqints_any _ _ Z _ (O12f.row hlZ') (O7f.row hlZ')).mono ?_
  rintro e wj ⟨rfl, hbj⟩
  have O9h := O9.below hbj
  have V6h := V6f.below hbj
  have O7h := O7f.below hbj
  have V8h := V8f.below hbj
  have V10h := V10f.below hbj
  have O12h := O12f.below hbj
  have hBh := hBf.trans (hbj.mono hBf.size)
  have hxh := (hbj.block _ (Array.getElem?_eq_some_iff.1 hxf).1).trans hxf
  have hszf := (Array.getElem?_eq_some_iff.1 hxh).1
  clear O9 V6f O7f V8f V10f O12f hBf hxf hbj
  have k8 := V8h.cell
  have lt8 := V8h.lt
  have jf : wj.cell? ⟨w.heap.size, 0, none⟩ = some (.slice ao xs.length cap) := by rw [cell_of_row wj _ 0 _ _ _ hxh]; rfl
  go_wp2_with fail
  go_region_held (fun w' => w'.cell? ⟨wd.heap.size, 0, none⟩ = some (.slice ao8 xs.length cap8) ∧ w'.cell? ⟨w.heap.size, 0, none⟩ = some (.slice ao xs.length cap)) (first | exact ⟨k5, j5⟩ | exact ⟨k4, j4⟩ | go_keep) (first
    | (go_at_call 11; refine (topool_any _ xs _ ?_ ?_).mono ?_; exact R.below hBh.drew; omega; rintro e wk ⟨vk, rfl, hok, hbk⟩; obtain ⟨aok, capk, rfl⟩ := own_form hok
       have hb34 : Below wj.heap.size wj wk := step_drew hbk
       have k4 := (hb34.cell (p := ⟨wd.heap.size, 0, none⟩) lt8).trans k8
       have j4 := (hb34.cell (p := ⟨w.heap.size, 0, none⟩) hszf).trans jf
       have R4 := NRow.of_own hok (by omega) hz
       have R8 := (V8h.below hb34).row (by omega) hz)
    | (go_at_call 14; refine (eqpool_any _ _ xs _ ?_ ?_).mono ?_; exact R8; exact R4; rintro e w5' ⟨rfl, hb5⟩
       have k5 := (hb5.cell (p := ⟨wd.heap.size, 0, none⟩) (Nat.lt_of_lt_of_le lt8 hb34.size)).trans k4
       have j5 := (hb5.cell (p := ⟨w.heap.size, 0, none⟩) (Nat.lt_of_lt_of_le hszf hb34.size)).trans j4))
  have hbf5 := hb34.trans (hb5.mono hb34.size)
  have O9g := O9h.below hbf5
  have V6 := V6h.below hbf5
  have O7 := O7h.below hbf5
  have V8 := V8h.below hbf5
  have V10 := V10h.below hbf5
  have O12 := O12h.below hbf5
  have hB := hBh.trans (hbf5.mono hBh.size)
  have hx := (hbf5.block _ (Array.getElem?_eq_some_iff.1 hxh).1).trans hxh
  clear O9h V6h O7h V8h V10h O12h hBh hxh k8 lt8 jf k4 j4 R4 R8 j5 hb34 hbk hb5 hok hbf5
  go_wp2_with fail
  refine (toints_any _ zs _ (L.below hB) (by omega)).mono ?_
  rintro e w6 ⟨v6', rfl, ho6, hb6⟩
  have L6 := IRow.of_own ho6 (by omega)
  obtain ⟨aoq, capq, rfl⟩ := own_form ho6
  have O9h := O9g.below hb6
  have V6h := V6.below hb6
  have O7h := O7.below hb6
  have V8h := V8.below hb6
  have V10h := V10.below hb6
  have O12h := O12.below hb6
  have hBh := hB.trans (hb6.mono hB.size)
  have hxh := (hb6.block _ (Array.getElem?_eq_some_iff.1 hx).1).trans hx
  clear O9g V6 O7 V8 V10 O12 hB hx ho6 hb6 k5
  go_wp2_with fail
  refine (eqints_any _ _ zs _ (O9h.row (by omega)) L6).mono ?_
  rintro e w7 ⟨rfl, hb7⟩
  have O9 := O9h.below hb7
  have V6 := V6h.below hb7
  have O7 := O7h.below hb7
  have V8 := V8h.below hb7
  have V10 := V10h.below hb7
  have O12 := O12h.below hb7
  have hB := hBh.trans (hb7.mono hBh.size)
  have hx := (hb7.block _ (Array.getElem?_eq_some_iff.1 hxh).1).trans hxh
  clear O9h V6h O7h V8h V10h O12h hBh hxh hb7 L6
  have k8 := V8.cell
  go_wp2_with fail
  refine (markpool_any _ 1 wc.heap.size xs _ V8.2.1 (by omega) (by omega) (by omega)).mono ?_
  rintro e w8 ⟨rfl, _, hg8⟩
  have O9h := O9.keptN V8 hg8
  have V6h := V6.kept V8 hg8 (Or.inl (Nat.le_refl _))
  have O7h := O7.keptN V8 hg8
  have V10h := V10.kept V8 hg8 (Or.inr hs9)
  have O12h := O12.keptN V8 hg8
  have hxh := V8.block hg8 hx (by decide)
  have hBh := below_mark hB V8 hg8 (by omega) hB.size
  clear O9 V6 O7 V8 V10 O12 hB hx hg8 k8
  have hkb : (1 : Int) + 5 * xs.length ≤ 2305843009213693952 := by omega
  have hkb0 : (0 : Int) ≤ 1 + 5 * xs.length := by omega
  go_wp2_with fail
  refine (markints_any _ _ we.heap.size zs _ O9h.1 (by omega) hkb0 hkb).mono ?_
  rintro e w9 ⟨rfl, _, hg9⟩
  have V6 := V6h.keptI8 O9h hg9
  have O7 := O7h.kept O9h hg9 (Or.inl (by omega))
  have V10 := V10h.keptI8 O9h hg9
  have O12 := O12h.kept O9h hg9 (Or.inr (by omega))
  have hx := O9h.block hg9 hxh (by decide)
  have hB := below_markI hBh O9h hg9 hlo9 hBh.size
  clear O9h V6h O7h V10h O12h hBh hxh hg9
  have c10 := V10.cell
  have c6 := V6.cell
  have hk1 : ¬ (1 + 5 * (xs.length : Int) + zs.length) < 0 := by omega
  go_wp2_with fail
  refine (eqpool_any _ _ Q _ (V10.row hlL' hzL) (V6.row hlL' hzL)).mono ?_
  rintro e wa ⟨rfl, hba⟩
  have V6h := V6.below hba
  have O7h := O7.below hba
  have V10h := V10.below hba
  have O12h := O12.below hba
  have hBh := hB.trans (hba.mono hB.size)
  have hxh := (hba.block _ (Array.getElem?_eq_some_iff.1 hx).1).trans hx
  clear V6 O7 V10 O12 hB hx hba c10 c6
  go_wp2_with fail
  refine (eqints_any _ _ Z _ (O12h.row hlZ') (O7h.row hlZ')).mono ?_
  rintro e wa2 ⟨rfl, hba2⟩
  have V6 := V6h.below hba2
  have O7 := O7h.below hba2
  have V10 := V10h.below hba2
  have O12 := O12h.below hba2
  have hB := hBh.trans (hba2.mono hBh.size)
  have hx := (hba2.block _ (Array.getElem?_eq_some_iff.1 hxh).1).trans hxh
  clear V6h O7h V10h O12h hBh hxh hba2
  have c10 := V10.cell
  go_wp2_with fail
  refine (markpool_any _ 1 wf.heap.size Q _ V10.2.1 hlL' (by omega) (by omega)).mono ?_
  rintro e wb ⟨rfl, hob, hgb⟩
  have V6h := V6.kept V10 hgb (Or.inl (by omega))
  have O7h := O7.keptN V10 hgb
  have O12h := O12.keptN V10 hgb
  have V10h := V10.marked (ys := nmarked 1 Q Q.length) hgb (by rw [hlm]; exact hob)
  have hxh := V10.block hgb hx (by decide)
  have hBh := below_mark hB V10 hgb (by omega) hB.size
  clear V6 O7 V10 O12 hB hx hob hgb c10
  have hkc : (1 : Int) + 5 * Q.length ≤ 2305843009213693952 := by omega
  have hkc0 : (0 : Int) ≤ 1 + 5 * Q.length := by omega
  go_wp2_with fail
  refine (markints_any _ _ wf.heap.size Z _ O12h.1 hlZ' hkc0 hkc).mono ?_
  rintro e wm0 ⟨rfl, hom, hgm⟩
  have V6 := V6h.keptI8 O12h hgm
  have O7 := O7h.kept O12h hgm (Or.inl (by omega))
  have V10 := V10h.keptI8 O12h hgm
  have O12 : OwnI wm0 wf.heap.size b10 (.slice ao12 Z.length cap12) (imarked (1 + 5 * (Q.length : Int)) Z Z.length) := ⟨by rw [hlmI]; exact hom, O12h.2⟩
  have hx := O12h.block hgm hxh (by decide)
  have hB := below_markI hBh O12h hgm (by omega) hBh.size
  clear V6h O7h V10h O12h hBh hxh hom hgm
  have c10 := V10.cell
  have hzM := nmarked_ok 1 Q (by omega) hlL'
  go_wp2_with fail
  refine (heldpool_any _ 1 Q _ (V10.row (by omega) hzM) hlL' (by omega) (by omega)).mono ?_
  rintro e wc2 ⟨rfl, hbc2⟩
  have V6h := V6.below hbc2
  have O7h := O7.below hbc2
  have V10h := V10.below hbc2
  have O12h := O12.below hbc2
  have hBh := hB.trans (hbc2.mono hB.size)
  have hxh := (hbc2.block _ (Array.getElem?_eq_some_iff.1 hx).1).trans hx
  clear V6 O7 V10 O12 hB hx hbc2 c10
  have hk2 : ¬ (1 + 5 * (Q.length : Int)) < 0 := by omega
  go_wp2_with fail
  refine (heldints_any _ _ Z _ (O12h.row (by omega)) hlZ' hkc0 hkc).mono ?_
  rintro e wc3 ⟨rfl, rfl⟩
  have hszh := (Array.getElem?_eq_some_iff.1 hxh).1
  have hk3 : ¬ (1 + 5 * (Q.length : Int) + Z.length) < 0 := by omega
  have hch : wc3.cell? ⟨w.heap.size, 0, none⟩ = some (.slice ao xs.length cap) := by rw [cell_of_row wc3 _ 0 _ _ _ hxh]; rfl
  go_wp2_with fail
  refine (topool_any _ xs _ (R.below hBh) (by omega)).mono ?_
  rintro e wj2 ⟨vj, rfl, hoj, hbj⟩
  obtain ⟨aoj, capj, rfl⟩ := own_form hoj
  have Rj := NRow.of_own hoj (by omega) hz
  have V6 := V6h.below hbj
  have O7 := O7h.below hbj
  have V10 := V10h.below hbj
  have O12 := O12h.below hbj
  have hB := hBh.trans (hbj.mono hBh.size)
  clear V6h O7h V10h O12h hBh hxh hch hoj hbj
  go_wp2_with fail
  refine (toints_any _ zs _ (L.below hB) (by omega)).mono ?_
  rintro e wl ⟨vl', rfl, hol, hbl⟩
  have Ll := IRow.of_own hol (by omega)
  obtain ⟨aol, capl, rfl⟩ := own_form hol
  have Rl := Rj.below hbl
  have V6h := V6.below hbl
  have O7h := O7.below hbl
  have V10h := V10.below hbl
  have O12h := O12.below hbl
  have hBh := hB.trans (hbl.mono hB.size)
  clear V6 O7 V10 O12 hB Rj hol hbl
  go_wp2_with fail
  refine (IK _ _ _ Rl Ll).mono ?_
  rintro e wm ⟨vm, vn, rfl, hom, hon, hbm⟩
  obtain ⟨aom, capm, rfl⟩ := own_form hom
  obtain ⟨aon, capn, rfl⟩ := own_form hon
  obtain ⟨V15, hBn, hcn⟩ := Var.new hBh hbm hom
  have O16 := (OwnI.mk' hon).below ((Below.refl wm.heap.size wm).alloc (Nat.le_refl _) (Obj.cells #[.slice aom Q.length capm] 26))
  have V6n := V6h.below hcn
  have O7n := O7h.below hcn
  have V10n := V10h.below hcn
  have O12n := O12h.below hcn
  have c6m : wm.cell? ⟨b6, 0, none⟩ = some (.slice ao6 Q.length cap6) := (V6h.below hbm).cell
  have hl6m : b6 < wm.heap.size := Nat.lt_of_lt_of_le V6h.lt hbm.size
  clear V6h O7h V10h O12h hBh Rl Ll hom hon hbm hcn
  go_wp2_with fail
  refine (eqpool_any _ _ Q _ (V15.row hlL' hzL) (V6n.row hlL' hzL)).mono ?_
  rintro e wn ⟨rfl, hbn⟩
  have V10 := V10n.below hbn
  have O12 := O12n.below hbn
  have O7 := O7n.below hbn
  have O16n := O16.below hbn
  have hB := hBn.trans (hbn.mono hBn.size)
  clear V15 V6n O7n V10n O12n O16 hBn hbn c6m
  go_wp2_with fail
  refine (eqints_any _ _ Z _ (O16n.row hlZ') (O7.row hlZ')).mono ?_
  rintro e wn2 ⟨rfl, hbn2⟩
  have V10n := V10.below hbn2
  have O12n := O12.below hbn2
  have hBn := hB.trans (hbn2.mono hB.size)
  clear V10 O12 O7 O16n hB hbn2
  have c10 := V10n.cell
  go_wp2_with fail
  refine (heldpool_any _ 1 Q _ (V10n.row (by omega) hzM) hlL' (by omega) (by omega)).mono ?_
  rintro e wo ⟨rfl, hbo⟩
  have O12 := O12n.below hbo
  have hBo := hBn.trans (hbo.mono hBn.size)
  clear V10n O12n c10 hBn hbo
  go_wp2_with fail
  refine (heldints_any _ _ Z _ (O12.row (by omega)) hlZ' hkc0 hkc).mono ?_
  rintro e wp ⟨rfl, rfl⟩
  go_wp2
  go_ret
  exact ⟨rfl, hBo⟩
end Go.Proofs.Ytbdgdeoecnhcdaa
