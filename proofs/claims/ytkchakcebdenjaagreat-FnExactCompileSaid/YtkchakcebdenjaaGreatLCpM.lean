/-
  The law FnExactCompile, walked: at every argument it returns true.
-/
import Derived.Test.YtkchakcebdenjaaGreatIc14M
import Derived.Test.YtkchakcebdenjaaGreatCpSM
import Derived.Test.YtkchakcebdenjaaGreatPrRegM
import Derived.Test.YtkchakcebdenjaaGreatMkXM
namespace Go.Proofs.YtkchakcebdenjaaGreat
open Go.RowKit
abbrev Cd := List Nd × List In × List Df
structure VarC (w : World) (b lo hi : Nat) (v1 v2 v3 : Value) (c : Cd) : Prop where
  blk : w.heap[b]? = some (.cells #[v1, v2, v3] 33 (0, 0))
  o1 : w.ownsRow lo 92 5 v1 c.1.length (ncs c.1)
  o2 : w.ownsRow lo 53 4 v2 c.2.1.length (incs c.2.1)
  o3 : w.ownsRow lo 51 3 v3 c.2.2.length (dfcs c.2.2)
  r1 : ∀ g, v1.ownBlock = some g → g < hi
  r2 : ∀ g, v2.ownBlock = some g → g < hi
  r3 : ∀ g, v3.ownBlock = some g → g < hi
  hib : hi ≤ b
section
variable {w w' : World} {b lo hi : Nat} {v1 v2 v3 : Value} {c : Cd}
theorem VarC.lt (h : VarC w b lo hi v1 v2 v3 c) : b < w.heap.size := (Array.getElem?_eq_some_iff.1 h.blk).1
theorem VarC.below (h : VarC w b lo hi v1 v2 v3 c) (hb : Below w.heap.size w w') : VarC w' b lo hi v1 v2 v3 c :=
  ⟨(hb.block _ h.lt).trans h.blk, own_below h.o1 hb, own_below h.o2 hb, own_below h.o3 hb, h.r1, h.r2, h.r3, h.hib⟩
theorem VarC.tn {P : Nat → Prop} (h : VarC w b lo hi v1 v2 v3 c) (T : TnS P w w') (hp : ∀ j, lo ≤ j → j < hi → ¬ P j) (hb : ¬ P b) : VarC w' b lo hi v1 v2 v3 c :=
  ⟨T.blk h.blk hb, T.own h.o1 (fun g e => hp g (h.o1.lt g e).1 (h.r1 g e)), T.own h.o2 (fun g e => hp g (h.o2.lt g e).1 (h.r2 g e)), T.own h.o3 (fun g e => hp g (h.o3.lt g e).1 (h.r3 g e)), h.r1, h.r2, h.r3, h.hib⟩
theorem VarC.new {w2 w5 w0 : World} (h02 : Below w0.heap.size w0 w2) (h25 : Below w2.heap.size w2 w5) (o1 : w5.ownsRow w2.heap.size 92 5 v1 c.1.length (ncs c.1)) (o2 : w5.ownsRow w2.heap.size 53 4 v2 c.2.1.length (incs c.2.1)) (o3 : w5.ownsRow w2.heap.size 51 3 v3 c.2.2.length (dfcs c.2.2)) :
    VarC (w5.alloc (.cells #[v1, v2, v3] 33)) w5.heap.size w2.heap.size w5.heap.size v1 v2 v3 c ∧ Below w0.heap.size w0 (w5.alloc (.cells #[v1, v2, v3] 33)) ∧ Below w2.heap.size w2 (w5.alloc (.cells #[v1, v2, v3] 33)) := by
  have hb : Below w5.heap.size w5 (w5.alloc (.cells #[v1, v2, v3] 33)) := (Below.refl _ _).alloc (Nat.le_refl _) _
  have h5 := h25.trans (hb.mono h25.size)
  exact ⟨⟨heap_alloc_new _ _, own_below o1 hb, own_below o2 hb, own_below o3 hb, fun g e => (o1.lt g e).2, fun g e => (o2.lt g e).2, fun g e => (o3.lt g e).2, Nat.le_refl _⟩, h02.trans (h5.mono h02.size), h5⟩
end
theorem Tryz.sizeCd3 : (Tryz.prog.info? 33).map (·.size) = some 3 := by kernel_rfl
set_option maxRecDepth 100000 in
set_option maxHeartbeats 12800000 in
theorem lcompile_any (v vl : Value) (xs : List Nd) (zs : List Int) (w : World) (R : NRow w v xs) (L : IRow w vl zs) :
    Calls Tryz.prog 3 #[.agg #[v], vl] w fun e w' => e = .returned (.bool true) ∧ Below w.heap.size w w' := by
  have R' := R
  obtain ⟨ao, cap, rfl, _, _, hz, _⟩ := R'
  have L' := L
  obtain ⟨al, cl, rfl, _, hzm, _⟩ := L'
  have hB0 : Below w.heap.size w (w.alloc (Obj.cells #[.slice ao xs.length cap] 24)) := (Below.refl _ _).alloc (Nat.le_refl _) _
  by_cases hbig : 1048576 < zs.length
  · go_enter Tryz.func3, Tryz.ntmps3
    go_wp2
    go_ret
    exact ⟨rfl, hB0⟩
  go_enter Tryz.func3, Tryz.ntmps3
  go_wp2_with fail
  refine (szpool_any _ xs _ (R.below hB0)).mono ?_
  rintro e w1 ⟨r, rfl, hr0, hr1, hr2, hb1⟩
  have hx1 : w1.heap[w.heap.size]? = some (.cells #[.slice ao xs.length cap] 24 (0, 0)) := (hb1.block _ (by simp)).trans (heap_alloc_new _ _)
  have hB1 := hB0.trans (hb1.mono hB0.size)
  have hsz1 := (Array.getElem?_eq_some_iff.1 hx1).1
  clear hB0 hb1
  by_cases hr : r < 0
  · go_wp2
    go_ret
    exact ⟨rfl, hB1⟩
  have hl := (hr2 (by omega)).1
  clear hr2
  have hzl : zs.length ≤ 1048576 := by omega
  obtain ⟨⟨y1, y2, y3⟩, n1, n2, n3⟩ := compR_ok xs zs hz
  have ST := fun (u v : Value) (W : World) (R : NRow W u xs) (T : TRow W v zs) => scompile_any u xs v zs W R T hzl (by omega)
  have IT := fun (u v : Value) (W : World) (R : NRow W u xs) (T : TRow W v zs) (TI : IRow W v zs) => icompile_any u xs v zs W R T TI hzl (by omega)
  generalize compR xs zs = cc at *
  obtain ⟨c, h9, p9⟩ := cc
  dsimp only at y1 y2 y3 n1 n2 n3
  have hne1 : (h9 != h9) = false := by simp
  have hne2 : (p9 != p9) = false := by simp
  have EQ : ∀ (W : World) (b lo hi b' lo' hi' : Nat) (u1 u2 u3 v1 v2 v3 : Value), VarC W b lo hi u1 u2 u3 c → VarC W b' lo' hi' v1 v2 v3 c → Calls Tryz.prog 10 #[.agg #[u1, u2, u3], .agg #[v1, v2, v3]] W fun e w' => e = .returned (.bool true) ∧ Below W.heap.size W w' := fun W b lo hi b' lo' hi' u1 u2 u3 v1 v2 v3 h k => eqcode_any _ _ _ _ _ _ c.1 c.2.1 c.2.2 W (NRow.of_own h.o1 (by omega) n1) (InRow.of_own h.o2 (by omega) n2) (DfRow.of_own h.o3 (by omega) n3) (NRow.of_own k.o1 (by omega) n1) (InRow.of_own k.o2 (by omega) n2) (DfRow.of_own k.o3 (by omega) n3)
  have hc1 : w1.cell? ⟨w.heap.size, 0, none⟩ = some (.slice ao xs.length cap) := by rw [cell_of_row w1 _ 0 _ _ _ hx1]; rfl
  go_wp2_with fail
  refine (topool_any _ xs _ (R.below hB1) (by omega)).mono ?_
  rintro e w2 ⟨v2, rfl, ho2, hb2⟩
  obtain ⟨ao2, cap2, rfl⟩ := own_form ho2
  have R2 := NRow.of_own ho2 (by omega) hz
  have hB2 := hB1.trans (hb2.mono hB1.size)
  have hx2 := (hb2.block _ hsz1).trans hx1
  have hsz2 := (Array.getElem?_eq_some_iff.1 hx2).1
  clear hB1 hx1 hc1 hb2 hsz1 ho2
  go_wp2_with fail
  refine (toints_any _ zs _ (L.below hB2) (by omega)).mono ?_
  rintro e w3 ⟨v3, rfl, ho3, hb3⟩
  have T3 := TRow.of_own ho3
  have R3 := R2.below hb3
  obtain ⟨ao3, cap3, rfl⟩ := own_form ho3
  have hB3 := hB2.trans (hb3.mono hB2.size)
  have hx3 := (hb3.block _ hsz2).trans hx2
  have hsz3 := (Array.getElem?_eq_some_iff.1 hx3).1
  clear hB2 hx2 hb3 R2 ho3 hsz2
  go_wp2_with fail
  refine (ST _ _ _ R3 T3).mono ?_
  rintro e w4 ⟨q1, q2, q3, rfl, o1, o2, o3, hb4⟩
  obtain ⟨d1, e1, rfl⟩ := own_form o1
  obtain ⟨d2, e2, rfl⟩ := own_form o2
  obtain ⟨d3, e3, rfl⟩ := own_form o3
  obtain ⟨V6, hBc, hcc⟩ := VarC.new hB3 hb4 o1 o2 o3
  have hxc := (hcc.block _ hsz3).trans hx3
  have hk4 : w4.cell? ⟨w.heap.size, 0, none⟩ = some (.slice ao xs.length cap) := by rw [cell_of_row w4 _ 0 _ _ _ ((hb4.block _ hsz3).trans hx3)]; rfl
  have hw4 : w.heap.size < w4.heap.size := Nat.lt_of_lt_of_le hsz3 hb4.size
  have hlo6 : w.heap.size < w3.heap.size := hsz3
  clear hB3 hx3 hb4 R3 T3 o1 o2 o3 hcc hsz3
  go_wp2_with fail
  generalize w4.alloc (Obj.cells #[.slice d1 c.1.length e1, .slice d2 c.2.1.length e2, .slice d3 c.2.2.length e3] 33) = wc at *
  generalize w4.heap.size = b6 at *
  generalize w3.heap.size = lo6 at *
  clear hk4
  have hszc := (Array.getElem?_eq_some_iff.1 hxc).1
  have hb6c := V6.lt
  refine (topool_any _ xs _ (R.below hBc) (by omega)).mono ?_
  rintro e wd ⟨v8, rfl, ho8, hb8⟩
  obtain ⟨ao8, cap8, rfl⟩ := own_form ho8
  obtain ⟨V8, hBe, hce⟩ := Var.new hBc hb8 ho8
  have V6e := V6.below hce
  have hxe := (hce.block _ hszc).trans hxc
  have hs8 : wc.heap.size ≤ wd.heap.size := hb8.size
  clear V6 hBc hxc ho8 hb8 hce
  go_wp2_with fail
  have hle8 : wd.heap.size < (wd.alloc (Obj.cells #[.slice ao8 xs.length cap8] 29)).heap.size := by simp
  generalize wd.alloc (Obj.cells #[.slice ao8 xs.length cap8] 29) = we at *
  refine (toints_any _ zs _ (L.below hBe) (by omega)).mono ?_
  rintro e wf ⟨v9, rfl, ho9, hb9⟩
  obtain ⟨ao9, cap9, rfl⟩ := own_form ho9
  have O9 := OwnI.mk' ho9
  have V6f := V6e.below hb9
  have V8f := V8.below hb9
  have hBf := hBe.trans (hb9.mono hBe.size)
  have hxf := (hb9.block _ (Array.getElem?_eq_some_iff.1 hxe).1).trans hxe
  have hs9 : we.heap.size ≤ wf.heap.size := hb9.size
  have hlo9 : w.heap.size ≤ we.heap.size := hBe.size
  clear V6e V8 hBe hxe ho9 hb9
  have k8 := V8f.cell
  go_wp2_with fail
  refine (IT _ _ _ (V8f.row (by omega) hz) (TRow.of_own O9.1) (O9.row (by omega))).mono ?_
  rintro e wg ⟨q1, q2, q3, rfl, o1, o2, o3, hb10⟩
  obtain ⟨f1, g1, rfl⟩ := own_form o1
  obtain ⟨f2, g2, rfl⟩ := own_form o2
  obtain ⟨f3, g3, rfl⟩ := own_form o3
  obtain ⟨V10, hBh, hch⟩ := VarC.new hBf hb10 o1 o2 o3
  have O9h := O9.below hch
  have V6h := V6f.below hch
  have V8h := V8f.below hch
  have hxh := (hch.block _ (Array.getElem?_eq_some_iff.1 hxf).1).trans hxf
  have hwg : wf.heap.size ≤ wg.heap.size := hb10.size
  clear O9 V6f V8f hBf hxf k8 o1 o2 o3 hb10 hch
  go_wp2_with (first | (refine wpList_load_row rfl 33 _ rfl wg.heap.size rfl 33 #[.slice f1 c.1.length g1, .slice f2 c.2.1.length g2, .slice f3 c.2.2.length g3] (0, 0) _ V10.blk Tryz.underlying33 rfl Tryz.sizeCd3 ?_) | (refine wpList_load_row rfl 33 _ rfl b6 rfl 33 #[.slice d1 c.1.length e1, .slice d2 c.2.1.length e2, .slice d3 c.2.2.length e3] (0, 0) _ V6h.blk Tryz.underlying33 rfl Tryz.sizeCd3 ?_))
  generalize wg.alloc (Obj.cells #[.slice f1 c.1.length g1, .slice f2 c.2.1.length g2, .slice f3 c.2.2.length g3] 33) = wh at *
  generalize wg.heap.size = b10 at *
  refine (EQ _ _ _ _ _ _ _ _ _ _ _ _ _ V10 V6h).mono ?_
  rintro e wi ⟨rfl, hbi⟩
  have O9 := O9h.below hbi
  have V6f := V6h.below hbi
  have V8f := V8h.below hbi
  have V10f := V10.below hbi
  have hBf := hBh.trans (hbi.mono hBh.size)
  have hxf := (hbi.block _ (Array.getElem?_eq_some_iff.1 hxh).1).trans hxh
  have hszf := (Array.getElem?_eq_some_iff.1 hxf).1
  clear O9h V6h V8h V10 hBh hxh hbi
  have k8 := V8f.cell
  have lt8 := V8f.lt
  have jf : wi.cell? ⟨w.heap.size, 0, none⟩ = some (.slice ao xs.length cap) := by rw [cell_of_row wi _ 0 _ _ _ hxf]; rfl
  go_wp2_with fail
  go_region_held (fun w' => w'.cell? ⟨wd.heap.size, 0, none⟩ = some (.slice ao8 xs.length cap8) ∧ w'.cell? ⟨w.heap.size, 0, none⟩ = some (.slice ao xs.length cap)) (first | exact ⟨k5, j5⟩ | exact ⟨k4, j4⟩ | go_keep) (first
    | (go_at_call 7; refine (topool_any _ xs _ ?_ ?_).mono ?_; exact R.below hBf.drew; omega; rintro e wk ⟨vk, rfl, hok, hbk⟩; obtain ⟨aok, capk, rfl⟩ := own_form hok
       have hb34 : Below wi.heap.size wi wk := step_drew hbk
       have k4 := (hb34.cell (p := ⟨wd.heap.size, 0, none⟩) lt8).trans k8
       have j4 := (hb34.cell (p := ⟨w.heap.size, 0, none⟩) hszf).trans jf
       have R4 := NRow.of_own hok (by omega) hz
       have R8 := (V8f.below hb34).row (by omega) hz)
    | (go_at_call 11; refine (eqpool_any _ _ xs _ ?_ ?_).mono ?_; exact R8; exact R4; rintro e w5' ⟨rfl, hb5⟩
       have k5 := (hb5.cell (p := ⟨wd.heap.size, 0, none⟩) (Nat.lt_of_lt_of_le lt8 hb34.size)).trans k4
       have j5 := (hb5.cell (p := ⟨w.heap.size, 0, none⟩) (Nat.lt_of_lt_of_le hszf hb34.size)).trans j4))
  have hbf5 := hb34.trans (hb5.mono hb34.size)
  have O9g := O9.below hbf5
  have V6 := V6f.below hbf5
  have V8 := V8f.below hbf5
  have V10 := V10f.below hbf5
  have hB := hBf.trans (hbf5.mono hBf.size)
  have hx := (hbf5.block _ (Array.getElem?_eq_some_iff.1 hxf).1).trans hxf
  clear O9 V6f V8f V10f hBf hxf k8 lt8 jf k4 j4 R4 R8 j5 hb34 hbk hb5 hok hbf5
  go_wp2_with fail
  refine (toints_any _ zs _ (L.below hB) (by omega)).mono ?_
  rintro e w6 ⟨v6', rfl, ho6, hb6⟩
  have L6 := IRow.of_own ho6 (by omega)
  obtain ⟨aoq, capq, rfl⟩ := own_form ho6
  have O9h := O9g.below hb6
  have V6h := V6.below hb6
  have V8h := V8.below hb6
  have V10h := V10.below hb6
  have hBh := hB.trans (hb6.mono hB.size)
  have hxh := (hb6.block _ (Array.getElem?_eq_some_iff.1 hx).1).trans hx
  clear O9g V6 V8 V10 hB hx ho6 hb6 k5
  go_wp2_with fail
  refine (eqints_any _ _ zs _ (O9h.row (by omega)) L6).mono ?_
  rintro e w7 ⟨rfl, hb7⟩
  have O9 := O9h.below hb7
  have V6 := V6h.below hb7
  have V8 := V8h.below hb7
  have V10 := V10h.below hb7
  have hB := hBh.trans (hb7.mono hBh.size)
  have hx := (hb7.block _ (Array.getElem?_eq_some_iff.1 hxh).1).trans hxh
  clear O9h V6h V8h V10h hBh hxh hb7 L6
  have k8 := V8.cell
  have hib6 := V6.hib
  have hib10 := V10.hib
  go_wp2_with fail
  refine (markpool_any _ 1 wc.heap.size xs _ V8.2.1 (by omega) (by omega) (by omega)).mono ?_
  rintro e w8 ⟨rfl, _, hg8⟩
  have T8 := TnS.of_grown hg8
  have P8 : ∀ j, (Value.slice ao8 xs.length cap8).ownBlock = some j → wc.heap.size ≤ j ∧ j < we.heap.size := fun j e => ⟨(V8.2.1.lt j e).1, V8.2.2.1 j e⟩
  have O9h := O9.keptN V8 hg8
  have V6h := V6.tn T8 (fun j h1 h2 h3 => by have := P8 j h3; omega) (fun h3 => by have := P8 _ h3; omega)
  have V10h := V10.tn T8 (fun j h1 h2 h3 => by have := P8 j h3; omega) (fun h3 => by have := P8 _ h3; omega)
  have hxh := V8.block hg8 hx (by decide)
  have hBh := below_mark hB V8 hg8 (by omega) hB.size
  clear O9 V6 V8 V10 hB hx hg8 k8 T8 P8
  have hkb : (1 : Int) + 5 * xs.length ≤ 2305843009213693952 := by omega
  have hkb0 : (0 : Int) ≤ 1 + 5 * xs.length := by omega
  go_wp2_with fail
  refine (markints_any _ _ we.heap.size zs _ O9h.1 (by omega) hkb0 hkb).mono ?_
  rintro e w9 ⟨rfl, _, hg9⟩
  have T9 := TnS.of_grown hg9
  have P9 : ∀ j, (Value.slice ao9 zs.length cap9).ownBlock = some j → we.heap.size ≤ j ∧ j < wf.heap.size := fun j e => ⟨(O9h.1.lt j e).1, O9h.2 j e⟩
  have V6 := V6h.tn T9 (fun j h1 h2 h3 => by have := P9 j h3; omega) (fun h3 => by have := P9 _ h3; omega)
  have V10 := V10h.tn T9 (fun j h1 h2 h3 => by have := P9 j h3; omega) (fun h3 => by have := P9 _ h3; omega)
  have hx := O9h.block hg9 hxh (by decide)
  have hB := below_markI hBh O9h hg9 hlo9 hBh.size
  clear O9h V6h V10h hBh hxh hg9 T9 P9
  have hk1 : ¬ (1 + 5 * (xs.length : Int) + zs.length) < 0 := by omega
  have z0 : w9.cell? ⟨b10, 0, none⟩ = some (.slice f1 c.1.length g1) := cell_of_row w9 _ 0 _ _ _ V10.blk
  have z1 : w9.cell? ⟨b10, 0 + 1, none⟩ = some (.slice f2 c.2.1.length g2) := cell_of_row w9 _ 1 _ _ _ V10.blk
  have z2 : w9.cell? ⟨b10, 0 + 2, none⟩ = some (.slice f3 c.2.2.length g3) := cell_of_row w9 _ 2 _ _ _ V10.blk
  have x0 : w9.cell? ⟨b6, 0, none⟩ = some (.slice d1 c.1.length e1) := cell_of_row w9 _ 0 _ _ _ V6.blk
  have x1 : w9.cell? ⟨b6, 0 + 1, none⟩ = some (.slice d2 c.2.1.length e2) := cell_of_row w9 _ 1 _ _ _ V6.blk
  have x2 : w9.cell? ⟨b6, 0 + 2, none⟩ = some (.slice d3 c.2.2.length e3) := cell_of_row w9 _ 2 _ _ _ V6.blk
  go_wp2_with fail
  refine (EQ _ _ _ _ _ _ _ _ _ _ _ _ _ V10 V6).mono ?_
  rintro e wa ⟨rfl, hba⟩
  clear z0 z1 z2 x0 x1 x2
  have V6h := V6.below hba
  have V10h := V10.below hba
  have hBh := hB.trans (hba.mono hB.size)
  have hxh := (hba.block _ (Array.getElem?_eq_some_iff.1 hx).1).trans hx
  clear V6 V10 hB hx hba
  go_wp2_with (refine wpList_load_row rfl 33 _ rfl b10 rfl 33 #[.slice f1 c.1.length g1, .slice f2 c.2.1.length g2, .slice f3 c.2.2.length g3] (0, 0) _ V10h.blk Tryz.underlying33 rfl Tryz.sizeCd3 ?_)
  refine (markcode_x _ _ _ 1 wf.heap.size c.1 c.2.1 c.2.2 _ V10h.o1 V10h.o2 V10h.o3 (by omega) (by omega) (by omega) (by omega) (by omega)).mono ?_
  rintro e wb ⟨rfl, m1, m2, m3, TB⟩
  have PB : ∀ j, ((Value.slice f1 c.1.length g1).ownBlock = some j ∨ (Value.slice f2 c.2.1.length g2).ownBlock = some j ∨ (Value.slice f3 c.2.2.length g3).ownBlock = some j) → wf.heap.size ≤ j ∧ j < b10 := fun j e => by
    rcases e with e | e | e
    · exact ⟨(V10h.o1.lt j e).1, by have := V10h.r1 j e; omega⟩
    · exact ⟨(V10h.o2.lt j e).1, by have := V10h.r2 j e; omega⟩
    · exact ⟨(V10h.o3.lt j e).1, by have := V10h.r3 j e; omega⟩
  have V6 := V6h.tn TB (fun j h1 h2 h3 => by have := PB j h3; omega) (fun h3 => by have := PB _ h3; omega)
  have B10 := TB.blk V10h.blk (fun h3 => by have := PB _ h3; omega)
  have hx := TB.blk hxh (fun h3 => by have := PB _ h3; omega)
  have hB := TB.bel hBh hBh.size (fun k h3 => by have := PB _ h3; omega)
  clear V6h V10h hBh hxh TB PB
  go_wp2_with (refine wpList_load_row rfl 33 _ rfl b10 rfl 33 #[.slice f1 c.1.length g1, .slice f2 c.2.1.length g2, .slice f3 c.2.2.length g3] (0, 0) _ B10 Tryz.underlying33 rfl Tryz.sizeCd3 ?_)
  refine (heldcode_x _ _ _ 1 wf.heap.size c.1 c.2.1 c.2.2 _ m1 m2 m3 (by omega) (by omega) (by omega) (by omega) (by omega)).mono ?_
  rintro e wc2 ⟨rfl, hbc2⟩
  have V6h := V6.below hbc2
  have B10h := (hbc2.block _ (Array.getElem?_eq_some_iff.1 B10).1).trans B10
  have m1h := own_below m1 hbc2
  have m2h := own_below m2 hbc2
  have m3h := own_below m3 hbc2
  have hBh := hB.trans (hbc2.mono hB.size)
  have hxh := (hbc2.block _ (Array.getElem?_eq_some_iff.1 hx).1).trans hx
  clear V6 hB hx hbc2 B10 m1 m2 m3
  have hk2 : ¬ (1 + 5 * (c.1.length : Int) + 4 * (c.2.1.length : Int) + 3 * (c.2.2.length : Int)) < 0 := by omega
  have hcl : wc2.cell? ⟨w.heap.size, 0, none⟩ = some (.slice ao xs.length cap) := by rw [cell_of_row wc2 _ 0 _ _ _ hxh]; rfl
  go_wp2_with fail
  refine (topool_any _ xs _ (R.below hBh) (by omega)).mono ?_
  rintro e wj ⟨vj, rfl, hoj, hbj⟩
  obtain ⟨aoj, capj, rfl⟩ := own_form hoj
  have Rj := NRow.of_own hoj (by omega) hz
  have V6 := V6h.below hbj
  have B10 := (hbj.block _ (Array.getElem?_eq_some_iff.1 B10h).1).trans B10h
  have m1 := own_below m1h hbj
  have m2 := own_below m2h hbj
  have m3 := own_below m3h hbj
  have hB := hBh.trans (hbj.mono hBh.size)
  clear V6h hBh hxh hcl hoj hbj B10h m1h m2h m3h
  go_wp2_with fail
  refine (toints_any _ zs _ (L.below hB) (by omega)).mono ?_
  rintro e wl ⟨vl', rfl, hol, hbl⟩
  have Ll := IRow.of_own hol (by omega)
  have Tl := TRow.of_own hol
  obtain ⟨aol, capl, rfl⟩ := own_form hol
  have Rl := Rj.below hbl
  have V6h := V6.below hbl
  have B10h := (hbl.block _ (Array.getElem?_eq_some_iff.1 B10).1).trans B10
  have m1h := own_below m1 hbl
  have m2h := own_below m2 hbl
  have m3h := own_below m3 hbl
  have hBh := hB.trans (hbl.mono hB.size)
  clear V6 hB Rj hol hbl B10 m1 m2 m3
  go_wp2_with fail
  refine (IT _ _ _ Rl Tl Ll).mono ?_
  rintro e wm ⟨q1, q2, q3, rfl, o1, o2, o3, hbm⟩
  obtain ⟨s1, t1, rfl⟩ := own_form o1
  obtain ⟨s2, t2, rfl⟩ := own_form o2
  obtain ⟨s3, t3, rfl⟩ := own_form o3
  obtain ⟨V15, hBn, hcn⟩ := VarC.new hBh hbm o1 o2 o3
  have V6n := V6h.below hcn
  have B10 := (hcn.block _ (Array.getElem?_eq_some_iff.1 B10h).1).trans B10h
  have m1 := own_below m1h hcn
  have m2 := own_below m2h hcn
  have m3 := own_below m3h hcn
  clear V6h hBh Rl Ll Tl o1 o2 o3 hbm hcn B10h m1h m2h m3h
  go_wp2_with (first | (refine wpList_load_row rfl 33 _ rfl wm.heap.size rfl 33 #[.slice s1 c.1.length t1, .slice s2 c.2.1.length t2, .slice s3 c.2.2.length t3] (0, 0) _ V15.blk Tryz.underlying33 rfl Tryz.sizeCd3 ?_) | (refine wpList_load_row rfl 33 _ rfl b6 rfl 33 #[.slice d1 c.1.length e1, .slice d2 c.2.1.length e2, .slice d3 c.2.2.length e3] (0, 0) _ V6n.blk Tryz.underlying33 rfl Tryz.sizeCd3 ?_))
  refine (EQ _ _ _ _ _ _ _ _ _ _ _ _ _ V15 V6n).mono ?_
  rintro e wn ⟨rfl, hbn⟩
  have B10h := (hbn.block _ (Array.getElem?_eq_some_iff.1 B10).1).trans B10
  have m1h := own_below m1 hbn
  have m2h := own_below m2 hbn
  have m3h := own_below m3 hbn
  have hB := hBn.trans (hbn.mono hBn.size)
  clear V15 V6n hBn hbn B10 m1 m2 m3
  go_wp2_with (refine wpList_load_row rfl 33 _ rfl b10 rfl 33 #[.slice f1 c.1.length g1, .slice f2 c.2.1.length g2, .slice f3 c.2.2.length g3] (0, 0) _ B10h Tryz.underlying33 rfl Tryz.sizeCd3 ?_)
  refine (heldcode_x _ _ _ 1 wf.heap.size c.1 c.2.1 c.2.2 _ m1h m2h m3h (by omega) (by omega) (by omega) (by omega) (by omega)).mono ?_
  rintro e wo ⟨rfl, hbo⟩
  have hBo := hB.trans (hbo.mono hB.size)
  clear B10h m1h m2h m3h hB hbo
  go_wp2
  go_ret
  exact ⟨rfl, hBo⟩
end Go.Proofs.YtkchakcebdenjaaGreat
