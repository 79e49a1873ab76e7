/-
  The law FnExactReach, walked: at every argument the law returns true.
-/
import Derived.Test.YtbdgdeoecnhcdaaLListOf
import Derived.Test.YtbdgdeoecnhcdaaToInts
import Derived.Test.YtbdgdeoecnhcdaaSReach
namespace Go.Proofs.Ytbdgdeoecnhcdaa
open Go.RowKit

theorem Var.keptI7 {w w' : World} {b lo hi lo' hi' : Nat} {v v' : Value} {xs : List Nd} {zs : List Int} (h : Var w b lo hi v xs) (h' : OwnI w lo' hi' v' zs) (hg : w.grownBy w' v'.ownBlock) : Var w' b lo hi v xs :=
  ⟨h'.block hg h.1 (by decide), h.2.1.kept hg (own_two h.2.1 h'.1 (by decide)), h.2.2.1, Nat.le_trans h.2.2.2 hg.size⟩
/-- A slice of bools of the call's own, its row between lo and hi. -/
def OwnB (w : World) (lo hi : Nat) (v : Value) (zs : List Bool) : Prop := w.ownsRow lo 4 1 v zs.length (vb zs) ∧ (∀ k, v.ownBlock = some k → k < hi)
theorem OwnB.mk' {w : World} {lo : Nat} {v : Value} {zs : List Bool} (h : w.ownsRow lo 4 1 v zs.length (vb zs)) : OwnB w lo w.heap.size v zs := ⟨h, fun k hk => (h.lt k hk).2⟩
theorem OwnB.below {w w' : World} {lo hi : Nat} {v : Value} {zs : List Bool} (h : OwnB w lo hi v zs) (hb : Below w.heap.size w w') : OwnB w' lo hi v zs := ⟨own_below h.1 hb, h.2⟩
theorem OwnB.row {w : World} {lo hi : Nat} {v : Value} {zs : List Bool} (h : OwnB w lo hi v zs) (hm : zs.length ≤ 4194304) : BRow w v zs := BRow.of_own h.1 (by omega)
theorem OwnB.keptN {w w' : World} {lo hi lo' hi' b' : Nat} {v v' : Value} {zs : List Bool} {xs' : List Nd} (h : OwnB w lo hi v zs) (V : Var w b' lo' hi' v' xs') (hg : w.grownBy w' v'.ownBlock) : OwnB w' lo hi v zs :=
  ⟨h.1.kept hg (own_two h.1 V.2.1 (by decide)), h.2⟩
theorem OwnB.keptI {w w' : World} {lo hi lo' hi' : Nat} {v v' : Value} {zs : List Bool} {zs' : List Int} (h : OwnB w lo hi v zs) (V : OwnI w lo' hi' v' zs') (hg : w.grownBy w' v'.ownBlock) : OwnB w' lo hi v zs :=
  ⟨h.1.kept hg (own_two h.1 V.1 (by decide)), h.2⟩
theorem OwnB.kept {w w' : World} {lo hi lo' hi' : Nat} {v v' : Value} {zs zs' : List Bool} (h : OwnB w lo hi v zs) (h' : OwnB w lo' hi' v' zs') (hg : w.grownBy w' v'.ownBlock) (hd : hi ≤ lo' ∨ hi' ≤ lo) : OwnB w' lo hi v zs := by
  refine ⟨h.1.kept hg ?_, h.2⟩
  cases hv : v.ownBlock with
  | none => exact Or.inl rfl
  | some k =>
    refine Or.inr fun e => ?_
    have k1 := h.2 k hv
    have k2 := (h.1.lt k hv).1
    have k3 := h'.2 k e.symm
    have k4 := (h'.1.lt k e.symm).1
    omega
theorem OwnB.block {w w' : World} {lo hi : Nat} {v : Value} {zs : List Bool} (h : OwnB w lo hi v zs) (hg : w.grownBy w' v.ownBlock) {j : Nat} {c : Array Value} {t : TypeId} (hj : w.heap[j]? = some (.cells c t (0, 0))) (hte : t ≠ 4) : w'.heap[j]? = some (.cells c t (0, 0)) :=
  (hg.block j (Array.getElem?_eq_some_iff.1 hj).1 (fun e => own_ne h.1 hj hte e.symm)).trans hj
theorem below_markB {w w' w0 : World} {B lo hi : Nat} {v : Value} {zs : List Bool} (h0 : Below B w0 w) (h : OwnB w lo hi v zs) (hg : w.grownBy w' v.ownBlock) (hlo : B ≤ lo) (hB : B ≤ w.heap.size) : Below B w0 w' :=
  h0.grown hg hB (fun k hk => Nat.le_trans hlo (h.1.lt k hk).1)

set_option maxRecDepth 100000 in
set_option maxHeartbeats 1600000 in
theorem lreach_any (v vl : Value) (xs : List Nd) (zs : List Int) (w : World) (R : NRow w v xs) (L : IRow w vl zs) :
    Calls Try.prog 4 #[.agg #[v], vl] w fun e w' => e = .returned (.bool true) ∧ Below w.heap.size w w' := by
  have R' := R
  obtain ⟨ao, cap, rfl, _, _, hz, _⟩ := R'
  have L' := L
  obtain ⟨al, cl, rfl, _, hzm, _⟩ := L'
  have hB0 : Below w.heap.size w (w.alloc (Obj.cells #[.slice ao xs.length cap] 36)) := (Below.refl _ _).alloc (Nat.le_refl _) _
  by_cases hbig : 1048576 < zs.length
  · go_enter Try.func4, Try.ntmps4
    go_wp2
    go_ret
    exact ⟨rfl, hB0⟩
  go_enter Try.func4, Try.ntmps4
  go_wp2_with fail
  refine (szpool_any _ xs _ (R.below hB0)).mono ?_
  rintro e w1 ⟨r, rfl, hr0, hr1, hr2, hb1⟩
  have hx1 : w1.heap[w.heap.size]? = some (.cells #[.slice ao xs.length cap] 36 (0, 0)) := (hb1.block _ (by simp)).trans (heap_alloc_new _ _)
  have hB1 := hB0.trans (hb1.mono hB0.size)
  have hsz1 := (Array.getElem?_eq_some_iff.1 hx1).1
  clear hB0 hb1
  by_cases hr : r < 0
  · go_wp2
    go_ret
    exact ⟨rfl, hB1⟩
  have hl := (hr2 (by omega)).1
  clear hr2
  have hzl : zs.length ≤ 1048576 := by omega
  have hlL0 := reachR_len xs zs
  generalize HQ : reachR xs zs = Q at hlL0
  have hlL' : Q.length ≤ 4194304 := by omega
  have hlm := bmarked_length 1 Q _ (Nat.le_refl _)
  have hc1 : w1.cell? ⟨w.heap.size, 0, none⟩ = some (.slice ao xs.length cap) := by rw [cell_of_row w1 _ 0 _ _ _ hx1]; rfl
  go_wp2_with fail
  refine (topool_any _ xs _ (R.below hB1) (by omega)).mono ?_
  rintro e w2 ⟨v2, rfl, ho2, hb2⟩
  obtain ⟨ao2, cap2, rfl⟩ := own_form ho2
  have R2 := NRow.of_own ho2 (by omega) hz
  have hB2 := hB1.trans (hb2.mono hB1.size)
  have hx2 := (hb2.block _ hsz1).trans hx1
  have hsz2 := (Array.getElem?_eq_some_iff.1 hx2).1
  clear hB1 hx1 hc1 hb2 hsz1 ho2
  go_wp2_with fail
  refine (toints_any _ zs _ (L.below hB2) (by omega)).mono ?_
  rintro e w3 ⟨v3, rfl, ho3, hb3⟩
  have L3 := IRow.of_own ho3 (by omega)
  have R3 := R2.below hb3
  obtain ⟨ao3, cap3, rfl⟩ := own_form ho3
  have hB3 := hB2.trans (hb3.mono hB2.size)
  have hx3 := (hb3.block _ hsz2).trans hx2
  have hsz3 := (Array.getElem?_eq_some_iff.1 hx3).1
  clear hB2 hx2 hb3 R2 ho3 hsz2
  go_wp2_with fail
  refine (sreach_any7 _ _ xs zs _ R3 L3).mono ?_
  rintro e wc ⟨v6, rfl, ho6, hb4⟩
  rw [HQ] at ho6
  obtain ⟨ao6, cap6, rfl⟩ := own_form ho6
  have O6 := OwnB.mk' ho6
  have hBc := hB3.trans (hb4.mono hB3.size)
  have hxc := (hb4.block _ hsz3).trans hx3
  have hk4 : wc.cell? ⟨w.heap.size, 0, none⟩ = some (.slice ao xs.length cap) := by rw [cell_of_row wc _ 0 _ _ _ hxc]; rfl
  have hlo6 : w.heap.size ≤ w3.heap.size := by omega
  clear hB3 hx3 hb4 R3 L3 ho6 hsz3
  generalize w3.heap.size = lo6 at *
  have hszc := (Array.getElem?_eq_some_iff.1 hxc).1
  go_wp2_with fail
  refine (topool_any _ xs _ (R.below hBc) (by omega)).mono ?_
  rintro e wd ⟨v8, rfl, ho8, hb8⟩
  obtain ⟨ao8, cap8, rfl⟩ := own_form ho8
  obtain ⟨V8, hBe, hce⟩ := Var.new hBc hb8 ho8
  have O6e := O6.below hce
  have hxe := (hce.block _ hszc).trans hxc
  have hs8 : wc.heap.size ≤ wd.heap.size := hb8.size
  clear O6 hBc hxc ho8 hb8 hce hk4
  go_wp2_with fail
  have hle8 : wd.heap.size ≤ (wd.alloc (Obj.cells #[.slice ao8 xs.length cap8] 26)).heap.size := by simp
  generalize wd.alloc (Obj.cells #[.slice ao8 xs.length cap8] 26) = we at *
  refine (toints_any _ zs _ (L.below hBe) (by omega)).mono ?_
  rintro e wf ⟨v9, rfl, ho9, hb9⟩
  obtain ⟨ao9, cap9, rfl⟩ := own_form ho9
  have O9 := OwnI.mk' ho9
  have O6f := O6e.below hb9
  have V8f := V8.below hb9
  have hBf := hBe.trans (hb9.mono hBe.size)
  have hxf := (hb9.block _ (Array.getElem?_eq_some_iff.1 hxe).1).trans hxe
  have hs9 : we.heap.size ≤ wf.heap.size := hb9.size
  have hlo9 : w.heap.size ≤ we.heap.size := hBe.size
  clear O6e V8 hBe hxe ho9 hb9
  have k8 := V8f.cell
  go_wp2_with fail
  refine (ireach_any _ _ xs zs _ (V8f.row (by omega) hz) (O9.row (by omega))).mono ?_
  rintro e wh ⟨v10, rfl, ho10, hb10⟩
  rw [HQ] at ho10
  obtain ⟨ao10, cap10, rfl⟩ := own_form ho10
  have O10 := OwnB.mk' ho10
  have hBh := hBf.trans (hb10.mono hBf.size)
  have O9h := O9.below hb10
  have O6h := O6f.below hb10
  have V8h := V8f.below hb10
  have hxh := (hb10.block _ (Array.getElem?_eq_some_iff.1 hxf).1).trans hxf
  clear O9 O6f V8f hBf hxf k8 ho10 hb10
  go_wp2_with fail
  refine (eqbools_any _ _ Q _ (O10.row hlL') (O6h.row hlL')).mono ?_
  rintro e wi ⟨rfl, hbi⟩
  have O9 := O9h.below hbi
  have O6f := O6h.below hbi
  have V8f := V8h.below hbi
  have O10f := O10.below hbi
  have hBf := hBh.trans (hbi.mono hBh.size)
  have hxf := (hbi.block _ (Array.getElem?_eq_some_iff.1 hxh).1).trans hxh
  have hszf := (Array.getElem?_eq_some_iff.1 hxf).1
  clear O9h O6h V8h O10 hBh hxh hbi
  have k8 := V8f.cell
  have lt8 := V8f.lt
  have jf : wi.cell? ⟨w.heap.size, 0, none⟩ = some (.slice ao xs.length cap) := by rw [cell_of_row wi _ 0 _ _ _ hxf]; rfl
  go_wp2_with fail
  go_region_held (fun w' => w'.cell? ⟨wd.heap.size, 0, none⟩ = some (.slice ao8 xs.length cap8) ∧ w'.cell? ⟨w.heap.size, 0, none⟩ = some (.slice ao xs.length cap)) (first | exact ⟨k5, j5⟩ | exact ⟨k4, j4⟩ | go_keep) (first
    | (go_at_call 11; refine (topool_any _ xs _ ?_ ?_).mono ?_; exact R.below hBf.drew; omega; rintro e wk ⟨vk, rfl, hok, hbk⟩; obtain ⟨aok, capk, rfl⟩ := own_form hok
       have hb34 : Below wi.heap.size wi wk := step_drew hbk
       have k4 := (hb34.cell (p := ⟨wd.heap.size, 0, none⟩) lt8).trans k8
       have j4 := (hb34.cell (p := ⟨w.heap.size, 0, none⟩) hszf).trans jf
       have R4 := NRow.of_own hok (by omega) hz
       have R8 := (V8f.below hb34).row (by omega) hz)
    | (go_at_call 14; refine (eqpool_any _ _ xs _ ?_ ?_).mono ?_; exact R8; exact R4; rintro e w5' ⟨rfl, hb5⟩
       have k5 := (hb5.cell (p := ⟨wd.heap.size, 0, none⟩) (Nat.lt_of_lt_of_le lt8 hb34.size)).trans k4
       have j5 := (hb5.cell (p := ⟨w.heap.size, 0, none⟩) (Nat.lt_of_lt_of_le hszf hb34.size)).trans j4))
  have hbf5 := hb34.trans (hb5.mono hb34.size)
  have O9g := O9.below hbf5
  have O6 := O6f.below hbf5
  have V8 := V8f.below hbf5
  have O10 := O10f.below hbf5
  have hB := hBf.trans (hbf5.mono hBf.size)
  have hx := (hbf5.block _ (Array.getElem?_eq_some_iff.1 hxf).1).trans hxf
  clear O9 O6f V8f O10f hBf hxf k8 lt8 jf k4 j4 R4 R8 j5 hb34 hbk hb5 hok hbf5
  go_wp2_with fail
  refine (toints_any _ zs _ (L.below hB) (by omega)).mono ?_
  rintro e w6 ⟨v6', rfl, ho6, hb6⟩
  have L6 := IRow.of_own ho6 (by omega)
  obtain ⟨aoq, capq, rfl⟩ := own_form ho6
  have O9h := O9g.below hb6
  have O6h := O6.below hb6
  have V8h := V8.below hb6
  have O10h := O10.below hb6
  have hBh := hB.trans (hb6.mono hB.size)
  have hxh := (hb6.block _ (Array.getElem?_eq_some_iff.1 hx).1).trans hx
  clear O9g O6 V8 O10 hB hx ho6 hb6 k5
  go_wp2_with fail
  refine (eqints_any _ _ zs _ (O9h.row (by omega)) L6).mono ?_
  rintro e w7 ⟨rfl, hb7⟩
  have O9 := O9h.below hb7
  have O6 := O6h.below hb7
  have V8 := V8h.below hb7
  have O10 := O10h.below hb7
  have hB := hBh.trans (hb7.mono hBh.size)
  have hx := (hb7.block _ (Array.getElem?_eq_some_iff.1 hxh).1).trans hxh
  clear O9h O6h V8h O10h hBh hxh hb7 L6
  have k8 := V8.cell
  go_wp2_with fail
  refine (markpool_any _ 1 wc.heap.size xs _ V8.2.1 (by omega) (by omega) (by omega)).mono ?_
  rintro e w8 ⟨rfl, _, hg8⟩
  have O9h := O9.keptN V8 hg8
  have O6h := O6.keptN V8 hg8
  have O10h := O10.keptN V8 hg8
  have hxh := V8.block hg8 hx (by decide)
  have hBh := below_mark hB V8 hg8 (by omega) hB.size
  clear O9 O6 V8 O10 hB hx hg8 k8
  have hkb : (1 : Int) + 5 * xs.length ≤ 2305843009213693952 := by omega
  have hkb0 : (0 : Int) ≤ 1 + 5 * xs.length := by omega
  go_wp2_with fail
  refine (markints_any _ _ we.heap.size zs _ O9h.1 (by omega) hkb0 hkb).mono ?_
  rintro e w9 ⟨rfl, _, hg9⟩
  have O6 := O6h.keptI O9h hg9
  have O10 := O10h.keptI O9h hg9
  have hx := O9h.block hg9 hxh (by decide)
  have hB := below_markI hBh O9h hg9 hlo9 hBh.size
  clear O9h O6h O10h hBh hxh hg9
  have hk1 : ¬ (1 + 5 * (xs.length : Int) + zs.length) < 0 := by omega
  go_wp2_with fail
  refine (eqbools_any _ _ Q _ (O10.row hlL') (O6.row hlL')).mono ?_
  rintro e wa ⟨rfl, hba⟩
  have O6h := O6.below hba
  have O10h := O10.below hba
  have hBh := hB.trans (hba.mono hB.size)
  have hxh := (hba.block _ (Array.getElem?_eq_some_iff.1 hx).1).trans hx
  clear O6 O10 hB hx hba
  go_wp2_with fail
  refine (markbools_any _ 1 wf.heap.size Q _ O10h.1 hlL' (by omega) (by omega)).mono ?_
  rintro e wb ⟨rfl, hob, hgb⟩
  have O6 := O6h.kept O10h hgb (Or.inl (by omega))
  have O10 : OwnB wb wf.heap.size wh.heap.size (.slice ao10 Q.length cap10) (bmarked 1 Q Q.length) := ⟨by rw [hlm]; exact hob, O10h.2⟩
  have hx := O10h.block hgb hxh (by decide)
  have hB := below_markB hBh O10h hgb (by omega) hBh.size
  clear O6h O10h hBh hxh hob hgb
  go_wp2_with fail
  have B10 := O10.row (by omega)
  refine (heldbools_any _ 1 Q _ B10 hlL' (by omega) (by omega)).mono ?_
  rintro e wc2 ⟨rfl, rfl⟩
  have hszh := (Array.getElem?_eq_some_iff.1 hx).1
  have hk2 : ¬ (1 + (Q.length : Int)) < 0 := by omega
  have hch : wc2.cell? ⟨w.heap.size, 0, none⟩ = some (.slice ao xs.length cap) := by rw [cell_of_row wc2 _ 0 _ _ _ hx]; rfl
  go_wp2_with fail
  refine (topool_any _ xs _ (R.below hB) (by omega)).mono ?_
  rintro e wj ⟨vj, rfl, hoj, hbj⟩
  obtain ⟨aoj, capj, rfl⟩ := own_form hoj
  have Rj := NRow.of_own hoj (by omega) hz
  have O6h := O6.below hbj
  have O10h := O10.below hbj
  have hBh := hB.trans (hbj.mono hB.size)
  clear O6 O10 hB hx hch hoj hbj B10
  go_wp2_with fail
  refine (toints_any _ zs _ (L.below hBh) (by omega)).mono ?_
  rintro e wl ⟨vl', rfl, hol, hbl⟩
  have Ll := IRow.of_own hol (by omega)
  obtain ⟨aol, capl, rfl⟩ := own_form hol
  have Rl := Rj.below hbl
  have O6 := O6h.below hbl
  have O10 := O10h.below hbl
  have hB := hBh.trans (hbl.mono hBh.size)
  clear O6h O10h hBh Rj hol hbl
  go_wp2_with fail
  refine (ireach_any _ _ xs zs _ Rl Ll).mono ?_
  rintro e wm ⟨vm, rfl, hom, hbm⟩
  rw [HQ] at hom
  obtain ⟨aom, capm, rfl⟩ := own_form hom
  have O15 := OwnB.mk' hom
  have O6n := O6.below hbm
  have O10n := O10.below hbm
  have hBn := hB.trans (hbm.mono hB.size)
  clear O6 O10 hB Rl Ll hom hbm
  go_wp2_with fail
  refine (eqbools_any _ _ Q _ (O15.row hlL') (O6n.row hlL')).mono ?_
  rintro e wn ⟨rfl, hbn⟩
  have O10 := O10n.below hbn
  have hB := hBn.trans (hbn.mono hBn.size)
  clear O15 O6n O10n hBn hbn
  go_wp2_with fail
  refine (heldbools_any _ 1 Q _ (O10.row (by omega)) hlL' (by omega) (by omega)).mono ?_
  rintro e wo ⟨rfl, rfl⟩
  go_wp2
  go_ret
  exact ⟨rfl, hB⟩
end Go.Proofs.Ytbdgdeoecnhcdaa
