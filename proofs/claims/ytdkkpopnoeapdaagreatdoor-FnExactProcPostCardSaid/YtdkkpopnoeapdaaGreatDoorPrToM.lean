/-
  Texts that stood by themselves, laid into one.
-/
import Derived.Test.YtdkkpopnoeapdaaGreatDoorBsM
import Derived.Test.YtdkkpopnoeapdaaGreatDoorSubM
/-
  A process's records: how great, made of the law's, and alike. No condition.
-/
namespace Go.Proofs.YtdkkpopnoeapdaaGreatDoor
open Go.RowKit

theorem Tryz.sizeProc : (Tryz.prog.info? 48).map (·.size) = some 11 := by kernel_rfl
theorem Tryz.sizeLMach : (Tryz.prog.info? 30).map (·.size) = some 8 := by kernel_rfl

set_option maxRecDepth 100000 in
set_option maxHeartbeats 1600000 in
theorem szproc_gen (l0 : Int) (hl0 : 0 ≤ l0) (hl1 : l0 ≤ 1048576) (i : Int) (v vb vo : Value) (xs : List Nd) (m : Mc) (bx ox : List ByteArray) (w : World) (R : NRow w v xs) (Rb : StRow w vb bx) (Ro : StRow w vo ox) :
    Calls Tryz.prog 7 #[.agg #[.int .i64 i, v, .int .i64 m.p, .int .i64 m.s, .int .i64 m.e, .int .i64 m.d, .int .i64 m.t, .int .i64 m.q, .int .i64 m.r, vb, vo], .int .i64 l0] w fun e w' => ∃ r : Int, e = .returned (.int .i64 r) ∧ -1 ≤ r ∧ r ≤ 1048576 ∧ (0 ≤ r → (xs.length ≤ 1048576 ∧ ∀ x ∈ xs, x.s.size ≤ 1048576) ∧ (bx.length ≤ 1048576 ∧ ∀ x ∈ bx, x.size ≤ 1048576) ∧ (ox.length ≤ 1048576 ∧ ∀ x ∈ ox, x.size ≤ 1048576)) ∧ Below w.heap.size w w' := by
  have R' := R
  obtain ⟨ao, cap, rfl, _⟩ := R'
  obtain ⟨ab, cb, rfl⟩ := Rb.small
  obtain ⟨ac, cc, rfl⟩ := Ro.small
  have hB0 : Below w.heap.size w (w.alloc (Obj.cells #[.int .i64 i, .slice ao xs.length cap, .int .i64 m.p, .int .i64 m.s, .int .i64 m.e, .int .i64 m.d, .int .i64 m.t, .int .i64 m.q, .int .i64 m.r, .slice ab bx.length cb, .slice ac ox.length cc] 33)) := (Below.refl _ _).alloc (Nat.le_refl _) _
  go_enter Tryz.func7, Tryz.ntmps7
  go_wp2_with (refine wpList_load_sub rfl 30 _ rfl w.heap.size 1 rfl _ 33 #[.slice ao xs.length cap, .int .i64 m.p, .int .i64 m.s, .int .i64 m.e, .int .i64 m.d, .int .i64 m.t, .int .i64 m.q, .int .i64 m.r] _ (heap_alloc_new _ _) rfl Tryz.underlying30 rfl Tryz.sizeLMach ?_)
  refine (szmach_gen l0 hl0 hl1 _ xs m _ (R.below hB0)).mono ?_
  rintro e w1 ⟨r, rfl, h0, h1, h2, hb1⟩
  have hx1 := (hb1.block w.heap.size (by simp)).trans (heap_alloc_new w (Obj.cells #[.int .i64 i, .slice ao xs.length cap, .int .i64 m.p, .int .i64 m.s, .int .i64 m.e, .int .i64 m.d, .int .i64 m.t, .int .i64 m.q, .int .i64 m.r, .slice ab bx.length cb, .slice ac ox.length cc] 33))
  have hB1 := hB0.trans (hb1.mono hB0.size)
  clear hB0 hb1
  by_cases hr : r < 0
  · go_wp2
    go_ret
    exact ⟨-1, rfl, by omega, by omega, fun h => by omega, hB1⟩
  have k2 : w1.cell? ⟨w.heap.size, 0 + 9, none⟩ = some (.slice ab bx.length cb) := cell_of_row w1 _ 9 _ _ _ hx1
  have k3 : w1.cell? ⟨w.heap.size, 0 + 10, none⟩ = some (.slice ac ox.length cc) := cell_of_row w1 _ 10 _ _ _ hx1
  go_wp2_with fail
  refine (szstrs_any _ bx r _ (Rb.below hB1) (by omega) (by omega)).mono ?_
  rintro e w2 ⟨r2, rfl, g0, g1, g2, hb2⟩
  have hx2 := (hb2.block _ (Array.getElem?_eq_some_iff.1 hx1).1).trans hx1
  have hB2 := hB1.trans (hb2.mono hB1.size)
  clear hB1 hb2 hx1 k2 k3
  by_cases hr2 : r2 < 0
  · go_wp2
    go_ret
    exact ⟨-1, rfl, by omega, by omega, fun h => by omega, hB2⟩
  have k3 : w2.cell? ⟨w.heap.size, 0 + 10, none⟩ = some (.slice ac ox.length cc) := cell_of_row w2 _ 10 _ _ _ hx2
  go_wp2_with fail
  refine (szstrs_any _ ox r2 _ (Ro.below hB2) (by omega) (by omega)).mono ?_
  rintro e w3 ⟨r3, rfl, f0, f1, f2, hb3⟩
  have hB3 := hB2.trans (hb3.mono hB2.size)
  clear hB2 hb3 hx2 k3
  by_cases hr3 : r3 < 0
  · go_wp2
    go_ret
    exact ⟨-1, rfl, by omega, by omega, fun h => by omega, hB3⟩
  · go_wp2
    go_ret
    exact ⟨r3, rfl, by omega, by omega, fun h => ⟨h2 (by omega), g2 (by omega), f2 h⟩, hB3⟩

set_option maxRecDepth 100000 in
set_option maxHeartbeats 1600000 in
theorem eqproc_any (i : Int) (va ba oa vb bb ob : Value) (xs : List Nd) (m : Mc) (bx ox : List ByteArray) (w : World) (Ra : NRow w va xs) (Ba : StRow w ba bx) (Oa : StRow w oa ox) (Rb : NRow w vb xs) (Bb : StRow w bb bx) (Ob : StRow w ob ox) :
    Calls Tryz.prog 13 #[.agg #[.int .i64 i, va, .int .i64 m.p, .int .i64 m.s, .int .i64 m.e, .int .i64 m.d, .int .i64 m.t, .int .i64 m.q, .int .i64 m.r, ba, oa], .agg #[.int .i64 i, vb, .int .i64 m.p, .int .i64 m.s, .int .i64 m.e, .int .i64 m.d, .int .i64 m.t, .int .i64 m.q, .int .i64 m.r, bb, ob]] w fun e w' => e = .returned (.bool true) ∧ Below w.heap.size w w' := by
  have Ra' := Ra
  have Rb' := Rb
  obtain ⟨aa, ca, rfl, _⟩ := Ra'
  obtain ⟨ab, cb, rfl, _⟩ := Rb'
  obtain ⟨a1, c1, rfl⟩ := Ba.small
  obtain ⟨a2, c2, rfl⟩ := Oa.small
  obtain ⟨a3, c3, rfl⟩ := Bb.small
  obtain ⟨a4, c4, rfl⟩ := Ob.small
  obtain ⟨hB0, hk0, hx0⟩ := two_boxes w (Obj.cells #[.int .i64 i, .slice aa xs.length ca, .int .i64 m.p, .int .i64 m.s, .int .i64 m.e, .int .i64 m.d, .int .i64 m.t, .int .i64 m.q, .int .i64 m.r, .slice a1 bx.length c1, .slice a2 ox.length c2] 48) (Obj.cells #[.int .i64 i, .slice ab xs.length cb, .int .i64 m.p, .int .i64 m.s, .int .i64 m.e, .int .i64 m.d, .int .i64 m.t, .int .i64 m.q, .int .i64 m.r, .slice a3 bx.length c3, .slice a4 ox.length c4] 48)
  have e1 : (i != i) = false := by simp
  go_enter Tryz.func13, Tryz.ntmps13
  go_wp2_with (first
    | (refine wpList_load_sub rfl 46 _ rfl w.heap.size 1 rfl _ 48 #[.slice aa xs.length ca, .int .i64 m.p, .int .i64 m.s, .int .i64 m.e, .int .i64 m.d, .int .i64 m.t, .int .i64 m.q, .int .i64 m.r] _ hk0 rfl Tryz.underlying46 rfl Tryz.sizeMach ?_)
    | (refine wpList_load_sub rfl 46 _ rfl (w.heap.size + 1) 1 rfl _ 48 #[.slice ab xs.length cb, .int .i64 m.p, .int .i64 m.s, .int .i64 m.e, .int .i64 m.d, .int .i64 m.t, .int .i64 m.q, .int .i64 m.r] _ hx0 rfl Tryz.underlying46 rfl Tryz.sizeMach ?_))
  refine (eqmach_any _ _ xs m _ (Ra.below hB0) (Rb.below hB0)).mono ?_
  rintro e w1 ⟨rfl, hb1⟩
  have hB1 := hB0.trans (hb1.mono hB0.size)
  have hk1 := (hb1.block _ (Array.getElem?_eq_some_iff.1 hk0).1).trans hk0
  have hx1 := (hb1.block _ (Array.getElem?_eq_some_iff.1 hx0).1).trans hx0
  clear hB0 hk0 hx0 hb1
  have l1 : w1.cell? ⟨w.heap.size, 0 + 9, none⟩ = some (.slice a1 bx.length c1) := cell_of_row w1 _ 9 _ _ _ hk1
  have k1 : w1.cell? ⟨w.heap.size + 1, 0 + 9, none⟩ = some (.slice a3 bx.length c3) := cell_of_row w1 _ 9 _ _ _ hx1
  go_wp2_with fail
  refine (eqstrs_any _ _ bx _ (Ba.below hB1) (Bb.below hB1)).mono ?_
  rintro e w2 ⟨rfl, hb2⟩
  have hB2 := hB1.trans (hb2.mono hB1.size)
  have hk2 := (hb2.block _ (Array.getElem?_eq_some_iff.1 hk1).1).trans hk1
  have hx2 := (hb2.block _ (Array.getElem?_eq_some_iff.1 hx1).1).trans hx1
  clear hB1 hk1 hx1 hb2 l1 k1
  have l1 : w2.cell? ⟨w.heap.size, 0 + 10, none⟩ = some (.slice a2 ox.length c2) := cell_of_row w2 _ 10 _ _ _ hk2
  have k1 : w2.cell? ⟨w.heap.size + 1, 0 + 10, none⟩ = some (.slice a4 ox.length c4) := cell_of_row w2 _ 10 _ _ _ hx2
  go_wp2_with fail
  refine (eqstrs_any _ _ ox _ (Oa.below hB2) (Ob.below hB2)).mono ?_
  rintro e w3 ⟨rfl, hb3⟩
  have hB3 := hB2.trans (hb3.mono hB2.size)
  clear hB2 hk2 hx2 hb3 l1 k1
  go_wp2
  go_ret
  exact ⟨rfl, hB3⟩
end Go.Proofs.YtdkkpopnoeapdaaGreatDoor

/-
  A process made of the law's own: toProc. No condition.
-/
namespace Go.Proofs.YtdkkpopnoeapdaaGreatDoor
open Go.RowKit

set_option maxRecDepth 100000 in
set_option maxHeartbeats 6400000 in
theorem toproc_any (i : Int) (v vb vo : Value) (xs : List Nd) (m : Mc) (bx ox : List ByteArray) (w : World) (R : NRow w v xs) (Rb : StRow w vb bx) (Ro : StRow w vo ox) (hm : xs.length ≤ 2097152) (hmb : bx.length ≤ 2097152) (hmo : ox.length ≤ 2097152) :
    Calls Tryz.prog 10 #[.agg #[.int .i64 i, v, .int .i64 m.p, .int .i64 m.s, .int .i64 m.e, .int .i64 m.d, .int .i64 m.t, .int .i64 m.q, .int .i64 m.r, vb, vo]] w fun e w' => ∃ v1 v2 v3, e = .returned (.agg #[.int .i64 i, v1, .int .i64 m.p, .int .i64 m.s, .int .i64 m.e, .int .i64 m.d, .int .i64 m.t, .int .i64 m.q, .int .i64 m.r, v2, v3]) ∧ w'.ownsRow w.heap.size 119 5 v1 xs.length (ncs xs) ∧ w'.ownsRow w.heap.size 9 1 v2 bx.length (stv bx) ∧ w'.ownsRow w.heap.size 9 1 v3 ox.length (stv ox) ∧ (∀ g, v3.ownBlock = some g → v2.ownBlock ≠ some g) ∧ Below w.heap.size w w' := by
  obtain ⟨ao, cap, rfl⟩ : ∃ ao cap, v = .slice ao xs.length cap := by obtain ⟨ao, cap, rfl, _⟩ := R; exact ⟨ao, cap, rfl⟩
  obtain ⟨ab, cb, rfl⟩ := Rb.small
  obtain ⟨ac, cc, rfl⟩ := Ro.small
  have hB : Below w.heap.size w (((w.alloc (Obj.cells #[.int .i64 i, .slice ao xs.length cap, .int .i64 m.p, .int .i64 m.s, .int .i64 m.e, .int .i64 m.d, .int .i64 m.t, .int .i64 m.q, .int .i64 m.r, .slice ab bx.length cb, .slice ac ox.length cc] 33)).alloc (Obj.cells #[.int .i64 0, .slice none 0 0, .int .i64 0, .int .i64 0, .int .i64 0, .int .i64 0, .int .i64 0, .int .i64 0, .int .i64 0, .slice none 0 0, .slice none 0 0] 48)).alloc (Obj.cells #[.int .i64 0, .slice none 0 0, .int .i64 0, .int .i64 0, .int .i64 0, .int .i64 0, .int .i64 0, .int .i64 0, .int .i64 0, .slice none 0 0, .slice none 0 0] 48)) := (((Below.refl _ _).alloc (Nat.le_refl _) _).alloc (by simp) _).alloc (by simp; omega) _
  have hx : (((w.alloc (Obj.cells #[.int .i64 i, .slice ao xs.length cap, .int .i64 m.p, .int .i64 m.s, .int .i64 m.e, .int .i64 m.d, .int .i64 m.t, .int .i64 m.q, .int .i64 m.r, .slice ab bx.length cb, .slice ac ox.length cc] 33)).alloc (Obj.cells #[.int .i64 0, .slice none 0 0, .int .i64 0, .int .i64 0, .int .i64 0, .int .i64 0, .int .i64 0, .int .i64 0, .int .i64 0, .slice none 0 0, .slice none 0 0] 48)).alloc (Obj.cells #[.int .i64 0, .slice none 0 0, .int .i64 0, .int .i64 0, .int .i64 0, .int .i64 0, .int .i64 0, .int .i64 0, .int .i64 0, .slice none 0 0, .slice none 0 0] 48)).heap[w.heap.size]? = some (Obj.cells #[.int .i64 i, .slice ao xs.length cap, .int .i64 m.p, .int .i64 m.s, .int .i64 m.e, .int .i64 m.d, .int .i64 m.t, .int .i64 m.q, .int .i64 m.r, .slice ab bx.length cb, .slice ac ox.length cc] 33) := (heap_alloc_old _ _ (by simp; omega)).trans ((heap_alloc_old _ _ (by simp)).trans (heap_alloc_new _ _))
  have hy : (((w.alloc (Obj.cells #[.int .i64 i, .slice ao xs.length cap, .int .i64 m.p, .int .i64 m.s, .int .i64 m.e, .int .i64 m.d, .int .i64 m.t, .int .i64 m.q, .int .i64 m.r, .slice ab bx.length cb, .slice ac ox.length cc] 33)).alloc (Obj.cells #[.int .i64 0, .slice none 0 0, .int .i64 0, .int .i64 0, .int .i64 0, .int .i64 0, .int .i64 0, .int .i64 0, .int .i64 0, .slice none 0 0, .slice none 0 0] 48)).alloc (Obj.cells #[.int .i64 0, .slice none 0 0, .int .i64 0, .int .i64 0, .int .i64 0, .int .i64 0, .int .i64 0, .int .i64 0, .int .i64 0, .slice none 0 0, .slice none 0 0] 48)).heap[w.heap.size + 1]? = some (Obj.cells #[.int .i64 0, .slice none 0 0, .int .i64 0, .int .i64 0, .int .i64 0, .int .i64 0, .int .i64 0, .int .i64 0, .int .i64 0, .slice none 0 0, .slice none 0 0] 48) := (heap_alloc_old _ _ (by simp)).trans (heap_alloc2_new _ _ _)
  have hv : (((w.alloc (Obj.cells #[.int .i64 i, .slice ao xs.length cap, .int .i64 m.p, .int .i64 m.s, .int .i64 m.e, .int .i64 m.d, .int .i64 m.t, .int .i64 m.q, .int .i64 m.r, .slice ab bx.length cb, .slice ac ox.length cc] 33)).alloc (Obj.cells #[.int .i64 0, .slice none 0 0, .int .i64 0, .int .i64 0, .int .i64 0, .int .i64 0, .int .i64 0, .int .i64 0, .int .i64 0, .slice none 0 0, .slice none 0 0] 48)).alloc (Obj.cells #[.int .i64 0, .slice none 0 0, .int .i64 0, .int .i64 0, .int .i64 0, .int .i64 0, .int .i64 0, .int .i64 0, .int .i64 0, .slice none 0 0, .slice none 0 0] 48)).heap[w.heap.size + 2]? = some (Obj.cells #[.int .i64 0, .slice none 0 0, .int .i64 0, .int .i64 0, .int .i64 0, .int .i64 0, .int .i64 0, .int .i64 0, .int .i64 0, .slice none 0 0, .slice none 0 0] 48) := by
    have h := heap_alloc_new ((w.alloc (Obj.cells #[.int .i64 i, .slice ao xs.length cap, .int .i64 m.p, .int .i64 m.s, .int .i64 m.e, .int .i64 m.d, .int .i64 m.t, .int .i64 m.q, .int .i64 m.r, .slice ab bx.length cb, .slice ac ox.length cc] 33)).alloc (Obj.cells #[.int .i64 0, .slice none 0 0, .int .i64 0, .int .i64 0, .int .i64 0, .int .i64 0, .int .i64 0, .int .i64 0, .int .i64 0, .slice none 0 0, .slice none 0 0] 48)) (Obj.cells #[.int .i64 0, .slice none 0 0, .int .i64 0, .int .i64 0, .int .i64 0, .int .i64 0, .int .i64 0, .int .i64 0, .int .i64 0, .slice none 0 0, .slice none 0 0] 48)
    simpa using h
  go_enter Tryz.func10, Tryz.ntmps10
  go_wp2_with (refine wpList_store_at rfl 3 _ _ rfl (w.heap.size + 2) 0 (.int .i64 i) #[.int .i64 i] rfl rfl rfl rfl 48 #[.int .i64 0, .slice none 0 0, .int .i64 0, .int .i64 0, .int .i64 0, .int .i64 0, .int .i64 0, .int .i64 0, .int .i64 0, .slice none 0 0, .slice none 0 0] #[.int .i64 i, .slice none 0 0, .int .i64 0, .int .i64 0, .int .i64 0, .int .i64 0, .int .i64 0, .int .i64 0, .int .i64 0, .slice none 0 0, .slice none 0 0] hv (by simp) (by kernel_rfl) rfl ?_)
  intro u0 hn0 hbl0 hsz0 hoth0
  replace hsz0 : Hid (u0.heap.size = w.heap.size + 3) := hsz0.trans (by simp)
  replace hx := (hoth0 w.heap.size (by omega)).trans hx
  replace hy := (hoth0 (w.heap.size + 1) (by omega)).trans hy
  replace hB := hB.trans (hbl0.mono (by omega))
  replace hv := hn0
  clear hn0 hbl0 hoth0
  go_wp2_with (refine wpList_load_sub rfl 30 _ rfl w.heap.size 1 rfl _ 33 #[.slice ao xs.length cap, .int .i64 m.p, .int .i64 m.s, .int .i64 m.e, .int .i64 m.d, .int .i64 m.t, .int .i64 m.q, .int .i64 m.r] _ hx rfl Tryz.underlying30 rfl Tryz.sizeLMach ?_)
  refine (tomach_any _ xs m _ (R.below hB) hm).mono ?_
  rintro e w1 ⟨v1, rfl, ho1, hb⟩
  obtain ⟨ao1, cap1, rfl⟩ := own_form ho1
  rw [hsz0.out] at ho1
  have hs1 : w.heap.size + 3 ≤ w1.heap.size := hsz0.out ▸ hb.size
  replace hx := (hb.block _ (Array.getElem?_eq_some_iff.1 hx).1).trans hx
  replace hy := (hb.block _ (Array.getElem?_eq_some_iff.1 hy).1).trans hy
  replace hv := (hb.block _ (Array.getElem?_eq_some_iff.1 hv).1).trans hv
  replace hB := hB.trans (hb.mono hB.size)
  clear hb
  go_wp2_with (refine wpList_store_sub rfl 46 _ _ rfl (w.heap.size + 2) 1 #[.slice ao1 xs.length cap1, .int .i64 m.p, .int .i64 m.s, .int .i64 m.e, .int .i64 m.d, .int .i64 m.t, .int .i64 m.q, .int .i64 m.r] rfl rfl 48 #[.int .i64 i, .slice none 0 0, .int .i64 0, .int .i64 0, .int .i64 0, .int .i64 0, .int .i64 0, .int .i64 0, .int .i64 0, .slice none 0 0, .slice none 0 0] #[.int .i64 i, .slice ao1 xs.length cap1, .int .i64 m.p, .int .i64 m.s, .int .i64 m.e, .int .i64 m.d, .int .i64 m.t, .int .i64 m.q, .int .i64 m.r, .slice none 0 0, .slice none 0 0] hv (by simp) Tryz.sizeMach (by simp [Value.oneCell']) rfl ?_)
  intro u1 hn1 hbl1 hsz1 hoth1
  have hs1' : w.heap.size + 3 ≤ u1.heap.size := by omega
  clear hsz1 hsz0
  replace hx := (hoth1 w.heap.size (by omega)).trans hx
  replace hy := (hoth1 (w.heap.size + 1) (by omega)).trans hy
  replace ho1 := own_keep ho1 (by omega) hoth1
  replace hB := hB.trans (hbl1.mono (by omega))
  replace hv := hn1
  clear hn1 hbl1 hoth1
  have k9 : u1.cell? ⟨w.heap.size, 0 + 9, none⟩ = some (.slice ab bx.length cb) := cell_of_row u1 _ 9 _ _ _ hx
  go_wp2_with fail
  refine (tostrs_any _ bx _ (Rb.below hB) hmb).mono ?_
  rintro e w2 ⟨v2, rfl, ho2, hb⟩
  obtain ⟨ao2, cap2, rfl⟩ := own_form ho2
  replace ho2 := own_mono (B' := w.heap.size + 3) ho2 (by omega)
  have hs2 := hb.size
  replace hx := (hb.block _ (Array.getElem?_eq_some_iff.1 hx).1).trans hx
  replace hy := (hb.block _ (Array.getElem?_eq_some_iff.1 hy).1).trans hy
  replace hv := (hb.block _ (Array.getElem?_eq_some_iff.1 hv).1).trans hv
  replace ho1 := own_below ho1 hb
  replace hB := hB.trans (hb.mono hB.size)
  clear hb k9
  go_wp2_with (refine wpList_store_at rfl 31 _ _ rfl (w.heap.size + 2) 9 (.slice ao2 bx.length cap2) #[.slice ao2 bx.length cap2] rfl rfl rfl rfl 48 #[.int .i64 i, .slice ao1 xs.length cap1, .int .i64 m.p, .int .i64 m.s, .int .i64 m.e, .int .i64 m.d, .int .i64 m.t, .int .i64 m.q, .int .i64 m.r, .slice none 0 0, .slice none 0 0] #[.int .i64 i, .slice ao1 xs.length cap1, .int .i64 m.p, .int .i64 m.s, .int .i64 m.e, .int .i64 m.d, .int .i64 m.t, .int .i64 m.q, .int .i64 m.r, .slice ao2 bx.length cap2, .slice none 0 0] hv (by simp) (by kernel_rfl) rfl ?_)
  intro u2 hn2 hbl2 hsz2 hoth2
  have hs2' : w2.heap.size ≤ u2.heap.size := by omega
  clear hsz2
  replace hx := (hoth2 w.heap.size (by omega)).trans hx
  replace hy := (hoth2 (w.heap.size + 1) (by omega)).trans hy
  replace ho1 := own_keep ho1 (by omega) hoth2
  replace ho2 := own_keep ho2 (by omega) hoth2
  replace hB := hB.trans (hbl2.mono (by omega))
  replace hv := hn2
  clear hn2 hbl2 hoth2
  have k10 : u2.cell? ⟨w.heap.size, 0 + 10, none⟩ = some (.slice ac ox.length cc) := cell_of_row u2 _ 10 _ _ _ hx
  go_wp2_with fail
  refine (tostrs_any _ ox _ (Ro.below hB) hmo).mono ?_
  rintro e w3 ⟨v3, rfl, ho3, hb⟩
  obtain ⟨ao3, cap3, rfl⟩ := own_form ho3
  have hap : ∀ g, (Value.slice ao3 ox.length cap3).ownBlock = some g → (Value.slice ao2 bx.length cap2).ownBlock ≠ some g := fun g hg e => by
    have h1 := (ho2.lt g e).2
    have h2 := (ho3.lt g hg).1
    omega
  replace ho3 := own_mono (B' := w.heap.size + 3) ho3 (by omega)
  have hs3 := hb.size
  replace hx := (hb.block _ (Array.getElem?_eq_some_iff.1 hx).1).trans hx
  replace hy := (hb.block _ (Array.getElem?_eq_some_iff.1 hy).1).trans hy
  replace hv := (hb.block _ (Array.getElem?_eq_some_iff.1 hv).1).trans hv
  replace ho1 := own_below ho1 hb
  replace ho2 := own_below ho2 hb
  replace hB := hB.trans (hb.mono hB.size)
  clear hb k10
  go_wp2_with (refine wpList_store_at rfl 31 _ _ rfl (w.heap.size + 2) 10 (.slice ao3 ox.length cap3) #[.slice ao3 ox.length cap3] rfl rfl rfl rfl 48 #[.int .i64 i, .slice ao1 xs.length cap1, .int .i64 m.p, .int .i64 m.s, .int .i64 m.e, .int .i64 m.d, .int .i64 m.t, .int .i64 m.q, .int .i64 m.r, .slice ao2 bx.length cap2, .slice none 0 0] #[.int .i64 i, .slice ao1 xs.length cap1, .int .i64 m.p, .int .i64 m.s, .int .i64 m.e, .int .i64 m.d, .int .i64 m.t, .int .i64 m.q, .int .i64 m.r, .slice ao2 bx.length cap2, .slice ao3 ox.length cap3] hv (by simp) (by kernel_rfl) rfl ?_)
  intro u3 hn3 hbl3 hsz3 hoth3
  clear hsz3
  replace hx := (hoth3 w.heap.size (by omega)).trans hx
  replace hy := (hoth3 (w.heap.size + 1) (by omega)).trans hy
  replace ho1 := own_keep ho1 (by omega) hoth3
  replace ho2 := own_keep ho2 (by omega) hoth3
  replace ho3 := own_keep ho3 (by omega) hoth3
  replace hB := hB.trans (hbl3.mono (by omega))
  replace hv := hn3
  clear hn3 hbl3 hoth3
  go_wp2_with (first
    | (refine wpList_load_row rfl 48 _ rfl (w.heap.size + 2) rfl 48 #[.int .i64 i, .slice ao1 xs.length cap1, .int .i64 m.p, .int .i64 m.s, .int .i64 m.e, .int .i64 m.d, .int .i64 m.t, .int .i64 m.q, .int .i64 m.r, .slice ao2 bx.length cap2, .slice ao3 ox.length cap3] (0, 0) _ hv Tryz.underlying48 rfl Tryz.sizeProc ?_)
    | (refine wpList_store_own2 rfl 48 _ _ rfl (w.heap.size + 1) #[.int .i64 i, .slice ao1 xs.length cap1, .int .i64 m.p, .int .i64 m.s, .int .i64 m.e, .int .i64 m.d, .int .i64 m.t, .int .i64 m.q, .int .i64 m.r, .slice ao2 bx.length cap2, .slice ao3 ox.length cap3] rfl rfl 48 #[.int .i64 0, .slice none 0 0, .int .i64 0, .int .i64 0, .int .i64 0, .int .i64 0, .int .i64 0, .int .i64 0, .int .i64 0, .slice none 0 0, .slice none 0 0] hy Tryz.sizeProc rfl (by simp [Value.oneCell']) ?_))
  intro w9 hh9 hb9 hs9 hoth9
  have p1 := own_mono (B' := w.heap.size) (own_keep ho1 (by omega) hoth9) (by omega)
  have p2 := own_mono (B' := w.heap.size) (own_keep ho2 (by omega) hoth9) (by omega)
  have p3 := own_mono (B' := w.heap.size) (own_keep ho3 (by omega) hoth9) (by omega)
  have hB9 : Below w.heap.size w w9 := hB.trans (hb9.mono (by omega))
  go_wp2
  exact bodyPost_ret (results_cell_row rfl _ _ (w.heap.size + 1) 48 _ (0, 0) _ rfl hh9 Tryz.underlying48 rfl Tryz.sizeProc) rfl ⟨_, _, _, rfl, p1, p2, p3, hap, hB9⟩
end Go.Proofs.YtdkkpopnoeapdaaGreatDoor
