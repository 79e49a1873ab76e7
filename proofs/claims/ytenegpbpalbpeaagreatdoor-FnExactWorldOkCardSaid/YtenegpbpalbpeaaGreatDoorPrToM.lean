/-
  Texts that stood by themselves, laid into one.
-/
import Derived.Test.YtenegpbpalbpeaaGreatDoorNameM
import Derived.Deep.MidRow
import Derived.Test.YtenegpbpalbpeaaGreatDoorBsM
import Derived.Test.YtenegpbpalbpeaaGreatDoorStrsM
/-
  A part of a block loaded, and stored: where it lies within a struct's variable. Nothing of the program; no condition.
-/
namespace Go.Proofs.YtenegpbpalbpeaaGreatDoor
open Go.RowKit
theorem wpList_load_sub {P : Program} {ops : Array Oper} {rest : List Oper} {op : Oper} {a : Act} {w : World} {Q : Exit → Act → World → Prop} (hgd : op.guard = none) (ty : TypeId) (x : Operand) (ho : op.op = .load ty x)
    (b o : Nat) (hx : a.eval x = .pointer (some ⟨b, o, none⟩)) (C : Array Value) (t : TypeId) (cs : Array Value) (d : TypeDesc) (hb : w.heap[b]? = some (.cells C t (0, 0))) (hc : C.extract o (o + cs.size) = cs)
    (hu : P.underlying ty = some d) (hd : d.isRow = true) (hi : (P.info? ty).map (·.size) = some cs.size)
    (h : wpList P ops Q rest (a.put op.dst (.agg cs)) w) : wpList P ops Q (op :: rest) a w := by
  have hr := World.rangeAt_of_block hb o cs.size
  rw [hc] at hr
  exact wpList_load_mid hgd ty x ho b o hx cs.toList d hr hu hd (by simpa using hi) (by simpa using h)
theorem setCells_blk (g : Nat) (e : TypeId) : ∀ (vs : List Value) (o : Nat) (w : World) (cur : Array Value), w.heap[g]? = some (.cells cur e (0, 0)) → o + vs.length ≤ cur.size →
    ∃ cur' : Array Value, (w.setCells g o vs).heap[g]? = some (.cells cur' e (0, 0)) ∧ cur'.toList = cur.toList.take o ++ (vs ++ cur.toList.drop (o + vs.length))
  | [], o, w, cur, h, hb => ⟨cur, h, by simp⟩
  | v :: r, o, w, cur, h, hb => by
    simp only [List.length_cons] at hb
    obtain ⟨cur', h1, h2⟩ := setCells_blk g e r (o + 1) (w.setCell ⟨g, o, none⟩ v) _ (heap_setCell_same w g o cur e v h) (by simp; omega)
    refine ⟨cur', h1, h2.trans ?_⟩
    obtain ⟨A, c, B, hc, hA⟩ : ∃ A c B, cur.toList = A ++ c :: B ∧ A.length = o := ⟨cur.toList.take o, cur.toList[o]'(by simp; omega), cur.toList.drop (o + 1), by rw [← List.drop_eq_getElem_cons]; exact (List.take_append_drop _ _).symm, by simp; omega⟩
    subst hA
    rw [Array.toList_setIfInBounds, hc]
    have e1 : A.length + 1 + r.length - A.length = r.length + 1 := by omega
    have e2 : A.length ≤ A.length + 1 + r.length := by omega
    simp [List.take_append, List.drop_append, List.take_of_length_le, List.drop_of_length_le, e1, e2]
theorem setCells_oth (g : Nat) : ∀ (vs : List Value) (o : Nat) (w : World) (k : Nat), k ≠ g → (w.setCells g o vs).heap[k]? = w.heap[k]?
  | [], _, _, _, _ => rfl
  | v :: r, o, w, k, hk => (setCells_oth g r (o + 1) _ k hk).trans (heap_setCell_other w ⟨g, o, none⟩ k v hk)
theorem setCells_sz (g : Nat) : ∀ (vs : List Value) (o : Nat) (w : World), (w.setCells g o vs).heap.size = w.heap.size
  | [], _, _ => rfl
  | v :: r, o, _ => (setCells_sz g r (o + 1) _).trans (by simp [World.setCell])
theorem setCells_bel (g : Nat) : ∀ (vs : List Value) (o : Nat) (w w0 : World), Below g w0 w → Below g w0 (w.setCells g o vs)
  | [], _, _, _, h => h
  | v :: r, o, _, w0, h => setCells_bel g r (o + 1) _ w0 (h.setCell (p := ⟨g, o, none⟩) (Nat.le_refl _) v)
theorem wpList_store_sub {P : Program} {ops : Array Oper} {rest : List Oper} {op : Oper} {a : Act} {w : World} {Q : Exit → Act → World → Prop} (hgd : op.guard = none) (ty : TypeId) (x y : Operand) (ho : op.op = .store ty x y)
    (g o : Nat) (cells : Array Value) (hx : a.eval x = .pointer (some ⟨g, o, none⟩)) (hy : a.eval y = .agg cells) (t : TypeId) (old new : Array Value) (hg : w.heap[g]? = some (.cells old t (0, 0))) (hl : o + cells.size ≤ old.size)
    (hi : (P.info? ty).map (·.size) = some cells.size) (h1 : cells.all (·.oneCell') = true) (hn : new.toList = old.toList.take o ++ (cells.toList ++ old.toList.drop (o + cells.size)))
    (h : ∀ w2 : World, w2.heap[g]? = some (.cells new t (0, 0)) → Below g w w2 → w2.heap.size = w.heap.size → (∀ k, k ≠ g → w2.heap[k]? = w.heap[k]?) → wpList P ops Q rest (a.put op.dst undef) w2) : wpList P ops Q (op :: rest) a w := by
  refine wpList_store_mid hgd ty x y ho g o cells hx hy (fun j hj => ⟨?_, frozen_of_row w g _ _ _ hg⟩) hi h1 (h _ ?_ (setCells_bel g _ _ _ _ (Below.refl _ _)) (setCells_sz _ _ _ _) (fun k hk => setCells_oth g _ _ _ k hk))
  · rw [cell_of_row w g (o + j) _ _ _ hg]
    simp
    omega
  · obtain ⟨cur', h2, h3⟩ := setCells_blk g t cells.toList o w old hg (by simpa using hl)
    rw [h2]
    have : cur' = new := Array.toList_inj.1 (h3.trans (by rw [hn]; simp))
    rw [this]
end Go.Proofs.YtenegpbpalbpeaaGreatDoor
/-
  A process's records: how great, made of the law's, and alike. No condition.
-/
namespace Go.Proofs.YtenegpbpalbpeaaGreatDoor
open Go.RowKit
theorem Tryz.sizeProc : (Tryz.prog.info? 88).map (·.size) = some 11 := by kernel_rfl
theorem Tryz.sizeLMach : (Tryz.prog.info? 110).map (·.size) = some 8 := by kernel_rfl
set_option maxRecDepth 100000 in
set_option maxHeartbeats 1600000 in
theorem szproc_gen (l0 : Int) (hl0 : 0 ≤ l0) (hl1 : l0 ≤ 1048576) (i : Int) (v vb vo : Value) (xs : List Nd) (m : Mc) (bx ox : List ByteArray) (w : World) (R : NRow w v xs) (Rb : StRow w vb bx) (Ro : StRow w vo ox) :
    Calls Tryz.prog 124 #[.agg #[.int .i64 i, v, .int .i64 m.p, .int .i64 m.s, .int .i64 m.e, .int .i64 m.d, .int .i64 m.t, .int .i64 m.q, .int .i64 m.r, vb, vo], .int .i64 l0] w fun e w' => ∃ r : Int, e = .returned (.int .i64 r) ∧ -1 ≤ r ∧ r ≤ 1048576 ∧ (0 ≤ r → (xs.length ≤ 1048576 ∧ ∀ x ∈ xs, x.s.size ≤ 1048576) ∧ (bx.length ≤ 1048576 ∧ ∀ x ∈ bx, x.size ≤ 1048576) ∧ (ox.length ≤ 1048576 ∧ ∀ x ∈ ox, x.size ≤ 1048576)) ∧ Below w.heap.size w w' := by
  have R' := R
  obtain ⟨ao, cap, rfl, _⟩ := R'
  obtain ⟨ab, cb, rfl⟩ := Rb.small
  obtain ⟨ac, cc, rfl⟩ := Ro.small
  have hB0 : Below w.heap.size w (w.alloc (Obj.cells #[.int .i64 i, .slice ao xs.length cap, .int .i64 m.p, .int .i64 m.s, .int .i64 m.e, .int .i64 m.d, .int .i64 m.t, .int .i64 m.q, .int .i64 m.r, .slice ab bx.length cb, .slice ac ox.length cc] 112)) := (Below.refl _ _).alloc (Nat.le_refl _) _
  go_enter Tryz.func124, Tryz.ntmps124
  go_wp2_with (refine wpList_load_sub rfl 110 _ rfl w.heap.size 1 rfl _ 112 #[.slice ao xs.length cap, .int .i64 m.p, .int .i64 m.s, .int .i64 m.e, .int .i64 m.d, .int .i64 m.t, .int .i64 m.q, .int .i64 m.r] _ (heap_alloc_new _ _) rfl Tryz.underlying110 rfl Tryz.sizeLMach ?_)
  refine (szmach_gen l0 hl0 hl1 _ xs m _ (R.below hB0)).mono ?_
  rintro e w1 ⟨r, rfl, h0, h1, h2, hb1⟩
  have hx1 := (hb1.block w.heap.size (by simp)).trans (heap_alloc_new w (Obj.cells #[.int .i64 i, .slice ao xs.length cap, .int .i64 m.p, .int .i64 m.s, .int .i64 m.e, .int .i64 m.d, .int .i64 m.t, .int .i64 m.q, .int .i64 m.r, .slice ab bx.length cb, .slice ac ox.length cc] 112))
  have hB1 := hB0.trans (hb1.mono hB0.size)
  clear hB0 hb1
  by_cases hr : r < 0
  · go_wp2
    go_ret
    exact ⟨-1, rfl, by omega, by omega, fun h => by omega, hB1⟩
  have k2 : w1.cell? ⟨w.heap.size, 0 + 9, none⟩ = some (.slice ab bx.length cb) := cell_of_row w1 _ 9 _ _ _ hx1
  have k3 : w1.cell? ⟨w.heap.size, 0 + 10, none⟩ = some (.slice ac ox.length cc) := cell_of_row w1 _ 10 _ _ _ hx1
  go_wp2_with fail
  refine (szstrs_any _ bx r _ (Rb.below hB1) (by omega) (by omega)).mono ?_
  rintro e w2 ⟨r2, rfl, g0, g1, g2, hb2⟩
  have hx2 := (hb2.block _ (Array.getElem?_eq_some_iff.1 hx1).1).trans hx1
  have hB2 := hB1.trans (hb2.mono hB1.size)
  clear hB1 hb2 hx1 k2 k3
  by_cases hr2 : r2 < 0
  · go_wp2
    go_ret
    exact ⟨-1, rfl, by omega, by omega, fun h => by omega, hB2⟩
  have k3 : w2.cell? ⟨w.heap.size, 0 + 10, none⟩ = some (.slice ac ox.length cc) := cell_of_row w2 _ 10 _ _ _ hx2
  go_wp2_with fail
  refine (szstrs_any _ ox r2 _ (Ro.below hB2) (by omega) (by omega)).mono ?_
  rintro e w3 ⟨r3, rfl, f0, f1, f2, hb3⟩
  have hB3 := hB2.trans (hb3.mono hB2.size)
  clear hB2 hb3 hx2 k3
  by_cases hr3 : r3 < 0
  · go_wp2
    go_ret
    exact ⟨-1, rfl, by omega, by omega, fun h => by omega, hB3⟩
  · go_wp2
    go_ret
    exact ⟨r3, rfl, by omega, by omega, fun h => ⟨h2 (by omega), g2 (by omega), f2 h⟩, hB3⟩
set_option maxRecDepth 100000 in
set_option maxHeartbeats 1600000 in
theorem eqproc_any (i : Int) (va ba oa vb bb ob : Value) (xs : List Nd) (m : Mc) (bx ox : List ByteArray) (w : World) (Ra : NRow w va xs) (Ba : StRow w ba bx) (Oa : StRow w oa ox) (Rb : NRow w vb xs) (Bb : StRow w bb bx) (Ob : StRow w ob ox) :
    Calls Tryz.prog 146 #[.agg #[.int .i64 i, va, .int .i64 m.p, .int .i64 m.s, .int .i64 m.e, .int .i64 m.d, .int .i64 m.t, .int .i64 m.q, .int .i64 m.r, ba, oa], .agg #[.int .i64 i, vb, .int .i64 m.p, .int .i64 m.s, .int .i64 m.e, .int .i64 m.d, .int .i64 m.t, .int .i64 m.q, .int .i64 m.r, bb, ob]] w fun e w' => e = .returned (.bool true) ∧ Below w.heap.size w w' := by
  have Ra' := Ra
  have Rb' := Rb
  obtain ⟨aa, ca, rfl, _⟩ := Ra'
  obtain ⟨ab, cb, rfl, _⟩ := Rb'
  obtain ⟨a1, c1, rfl⟩ := Ba.small
  obtain ⟨a2, c2, rfl⟩ := Oa.small
  obtain ⟨a3, c3, rfl⟩ := Bb.small
  obtain ⟨a4, c4, rfl⟩ := Ob.small
  obtain ⟨hB0, hk0, hx0⟩ := two_boxes w (Obj.cells #[.int .i64 i, .slice aa xs.length ca, .int .i64 m.p, .int .i64 m.s, .int .i64 m.e, .int .i64 m.d, .int .i64 m.t, .int .i64 m.q, .int .i64 m.r, .slice a1 bx.length c1, .slice a2 ox.length c2] 88) (Obj.cells #[.int .i64 i, .slice ab xs.length cb, .int .i64 m.p, .int .i64 m.s, .int .i64 m.e, .int .i64 m.d, .int .i64 m.t, .int .i64 m.q, .int .i64 m.r, .slice a3 bx.length c3, .slice a4 ox.length c4] 88)
  have e1 : (i != i) = false := by simp
  go_enter Tryz.func146, Tryz.ntmps146
  go_wp2_with (first
    | (refine wpList_load_sub rfl 85 _ rfl w.heap.size 1 rfl _ 88 #[.slice aa xs.length ca, .int .i64 m.p, .int .i64 m.s, .int .i64 m.e, .int .i64 m.d, .int .i64 m.t, .int .i64 m.q, .int .i64 m.r] _ hk0 rfl Tryz.underlying85 rfl Tryz.sizeMach ?_)
    | (refine wpList_load_sub rfl 85 _ rfl (w.heap.size + 1) 1 rfl _ 88 #[.slice ab xs.length cb, .int .i64 m.p, .int .i64 m.s, .int .i64 m.e, .int .i64 m.d, .int .i64 m.t, .int .i64 m.q, .int .i64 m.r] _ hx0 rfl Tryz.underlying85 rfl Tryz.sizeMach ?_))
  refine (eqmach_any _ _ xs m _ (Ra.below hB0) (Rb.below hB0)).mono ?_
  rintro e w1 ⟨rfl, hb1⟩
  have hB1 := hB0.trans (hb1.mono hB0.size)
  have hk1 := (hb1.block _ (Array.getElem?_eq_some_iff.1 hk0).1).trans hk0
  have hx1 := (hb1.block _ (Array.getElem?_eq_some_iff.1 hx0).1).trans hx0
  clear hB0 hk0 hx0 hb1
  have l1 : w1.cell? ⟨w.heap.size, 0 + 9, none⟩ = some (.slice a1 bx.length c1) := cell_of_row w1 _ 9 _ _ _ hk1
  have k1 : w1.cell? ⟨w.heap.size + 1, 0 + 9, none⟩ = some (.slice a3 bx.length c3) := cell_of_row w1 _ 9 _ _ _ hx1
  go_wp2_with fail
  refine (eqstrs_any _ _ bx _ (Ba.below hB1) (Bb.below hB1)).mono ?_
  rintro e w2 ⟨rfl, hb2⟩
  have hB2 := hB1.trans (hb2.mono hB1.size)
  have hk2 := (hb2.block _ (Array.getElem?_eq_some_iff.1 hk1).1).trans hk1
  have hx2 := (hb2.block _ (Array.getElem?_eq_some_iff.1 hx1).1).trans hx1
  clear hB1 hk1 hx1 hb2 l1 k1
  have l1 : w2.cell? ⟨w.heap.size, 0 + 10, none⟩ = some (.slice a2 ox.length c2) := cell_of_row w2 _ 10 _ _ _ hk2
  have k1 : w2.cell? ⟨w.heap.size + 1, 0 + 10, none⟩ = some (.slice a4 ox.length c4) := cell_of_row w2 _ 10 _ _ _ hx2
  go_wp2_with fail
  refine (eqstrs_any _ _ ox _ (Oa.below hB2) (Ob.below hB2)).mono ?_
  rintro e w3 ⟨rfl, hb3⟩
  have hB3 := hB2.trans (hb3.mono hB2.size)
  clear hB2 hk2 hx2 hb3 l1 k1
  go_wp2
  go_ret
  exact ⟨rfl, hB3⟩
end Go.Proofs.YtenegpbpalbpeaaGreatDoor
/-
  A process made of the law's own: toProc. No condition.
-/
namespace Go.Proofs.YtenegpbpalbpeaaGreatDoor
open Go.RowKit
set_option maxRecDepth 100000 in
set_option maxHeartbeats 6400000 in
theorem toproc_any (i : Int) (v vb vo : Value) (xs : List Nd) (m : Mc) (bx ox : List ByteArray) (w : World) (R : NRow w v xs) (Rb : StRow w vb bx) (Ro : StRow w vo ox) (hm : xs.length ≤ 2097152) (hmb : bx.length ≤ 2097152) (hmo : ox.length ≤ 2097152) :
    Calls Tryz.prog 133 #[.agg #[.int .i64 i, v, .int .i64 m.p, .int .i64 m.s, .int .i64 m.e, .int .i64 m.d, .int .i64 m.t, .int .i64 m.q, .int .i64 m.r, vb, vo]] w fun e w' => ∃ v1 v2 v3, e = .returned (.agg #[.int .i64 i, v1, .int .i64 m.p, .int .i64 m.s, .int .i64 m.e, .int .i64 m.d, .int .i64 m.t, .int .i64 m.q, .int .i64 m.r, v2, v3]) ∧ w'.ownsRow w.heap.size 178 5 v1 xs.length (ncs xs) ∧ w'.ownsRow w.heap.size 9 1 v2 bx.length (stv bx) ∧ w'.ownsRow w.heap.size 9 1 v3 ox.length (stv ox) ∧ (∀ g, v3.ownBlock = some g → v2.ownBlock ≠ some g) ∧ Below w.heap.size w w' := by
  obtain ⟨ao, cap, rfl⟩ : ∃ ao cap, v = .slice ao xs.length cap := by obtain ⟨ao, cap, rfl, _⟩ := R; exact ⟨ao, cap, rfl⟩
  obtain ⟨ab, cb, rfl⟩ := Rb.small
  obtain ⟨ac, cc, rfl⟩ := Ro.small
  have hB : Below w.heap.size w (((w.alloc (Obj.cells #[.int .i64 i, .slice ao xs.length cap, .int .i64 m.p, .int .i64 m.s, .int .i64 m.e, .int .i64 m.d, .int .i64 m.t, .int .i64 m.q, .int .i64 m.r, .slice ab bx.length cb, .slice ac ox.length cc] 112)).alloc (Obj.cells #[.int .i64 0, .slice none 0 0, .int .i64 0, .int .i64 0, .int .i64 0, .int .i64 0, .int .i64 0, .int .i64 0, .int .i64 0, .slice none 0 0, .slice none 0 0] 88)).alloc (Obj.cells #[.int .i64 0, .slice none 0 0, .int .i64 0, .int .i64 0, .int .i64 0, .int .i64 0, .int .i64 0, .int .i64 0, .int .i64 0, .slice none 0 0, .slice none 0 0] 88)) := (((Below.refl _ _).alloc (Nat.le_refl _) _).alloc (by simp) _).alloc (by simp; omega) _
  have hx : (((w.alloc (Obj.cells #[.int .i64 i, .slice ao xs.length cap, .int .i64 m.p, .int .i64 m.s, .int .i64 m.e, .int .i64 m.d, .int .i64 m.t, .int .i64 m.q, .int .i64 m.r, .slice ab bx.length cb, .slice ac ox.length cc] 112)).alloc (Obj.cells #[.int .i64 0, .slice none 0 0, .int .i64 0, .int .i64 0, .int .i64 0, .int .i64 0, .int .i64 0, .int .i64 0, .int .i64 0, .slice none 0 0, .slice none 0 0] 88)).alloc (Obj.cells #[.int .i64 0, .slice none 0 0, .int .i64 0, .int .i64 0, .int .i64 0, .int .i64 0, .int .i64 0, .int .i64 0, .int .i64 0, .slice none 0 0, .slice none 0 0] 88)).heap[w.heap.size]? = some (Obj.cells #[.int .i64 i, .slice ao xs.length cap, .int .i64 m.p, .int .i64 m.s, .int .i64 m.e, .int .i64 m.d, .int .i64 m.t, .int .i64 m.q, .int .i64 m.r, .slice ab bx.length cb, .slice ac ox.length cc] 112) := (heap_alloc_old _ _ (by simp; omega)).trans ((heap_alloc_old _ _ (by simp)).trans (heap_alloc_new _ _))
  have hy : (((w.alloc (Obj.cells #[.int .i64 i, .slice ao xs.length cap, .int .i64 m.p, .int .i64 m.s, .int .i64 m.e, .int .i64 m.d, .int .i64 m.t, .int .i64 m.q, .int .i64 m.r, .slice ab bx.length cb, .slice ac ox.length cc] 112)).alloc (Obj.cells #[.int .i64 0, .slice none 0 0, .int .i64 0, .int .i64 0, .int .i64 0, .int .i64 0, .int .i64 0, .int .i64 0, .int .i64 0, .slice none 0 0, .slice none 0 0] 88)).alloc (Obj.cells #[.int .i64 0, .slice none 0 0, .int .i64 0, .int .i64 0, .int .i64 0, .int .i64 0, .int .i64 0, .int .i64 0, .int .i64 0, .slice none 0 0, .slice none 0 0] 88)).heap[w.heap.size + 1]? = some (Obj.cells #[.int .i64 0, .slice none 0 0, .int .i64 0, .int .i64 0, .int .i64 0, .int .i64 0, .int .i64 0, .int .i64 0, .int .i64 0, .slice none 0 0, .slice none 0 0] 88) := (heap_alloc_old _ _ (by simp)).trans (heap_alloc2_new _ _ _)
  have hv : (((w.alloc (Obj.cells #[.int .i64 i, .slice ao xs.length cap, .int .i64 m.p, .int .i64 m.s, .int .i64 m.e, .int .i64 m.d, .int .i64 m.t, .int .i64 m.q, .int .i64 m.r, .slice ab bx.length cb, .slice ac ox.length cc] 112)).alloc (Obj.cells #[.int .i64 0, .slice none 0 0, .int .i64 0, .int .i64 0, .int .i64 0, .int .i64 0, .int .i64 0, .int .i64 0, .int .i64 0, .slice none 0 0, .slice none 0 0] 88)).alloc (Obj.cells #[.int .i64 0, .slice none 0 0, .int .i64 0, .int .i64 0, .int .i64 0, .int .i64 0, .int .i64 0, .int .i64 0, .int .i64 0, .slice none 0 0, .slice none 0 0] 88)).heap[w.heap.size + 2]? = some (Obj.cells #[.int .i64 0, .slice none 0 0, .int .i64 0, .int .i64 0, .int .i64 0, .int .i64 0, .int .i64 0, .int .i64 0, .int .i64 0, .slice none 0 0, .slice none 0 0] 88) := by
    have h := heap_alloc_new ((w.alloc (Obj.cells #[.int .i64 i, .slice ao xs.length cap, .int .i64 m.p, .int .i64 m.s, .int .i64 m.e, .int .i64 m.d, .int .i64 m.t, .int .i64 m.q, .int .i64 m.r, .slice ab bx.length cb, .slice ac ox.length cc] 112)).alloc (Obj.cells #[.int .i64 0, .slice none 0 0, .int .i64 0, .int .i64 0, .int .i64 0, .int .i64 0, .int .i64 0, .int .i64 0, .int .i64 0, .slice none 0 0, .slice none 0 0] 88)) (Obj.cells #[.int .i64 0, .slice none 0 0, .int .i64 0, .int .i64 0, .int .i64 0, .int .i64 0, .int .i64 0, .int .i64 0, .int .i64 0, .slice none 0 0, .slice none 0 0] 88)
    simpa using h
  go_enter Tryz.func133, Tryz.ntmps133
  go_wp2_with (refine wpList_store_at rfl 3 _ _ rfl (w.heap.size + 2) 0 (.int .i64 i) #[.int .i64 i] rfl rfl rfl rfl 88 #[.int .i64 0, .slice none 0 0, .int .i64 0, .int .i64 0, .int .i64 0, .int .i64 0, .int .i64 0, .int .i64 0, .int .i64 0, .slice none 0 0, .slice none 0 0] #[.int .i64 i, .slice none 0 0, .int .i64 0, .int .i64 0, .int .i64 0, .int .i64 0, .int .i64 0, .int .i64 0, .int .i64 0, .slice none 0 0, .slice none 0 0] hv (by simp) (by kernel_rfl) rfl ?_)
  intro u0 hn0 hbl0 hsz0 hoth0
  replace hsz0 : Hid (u0.heap.size = w.heap.size + 3) := hsz0.trans (by simp)
  replace hx := (hoth0 w.heap.size (by omega)).trans hx
  replace hy := (hoth0 (w.heap.size + 1) (by omega)).trans hy
  replace hB := hB.trans (hbl0.mono (by omega))
  replace hv := hn0
  clear hn0 hbl0 hoth0
  go_wp2_with (refine wpList_load_sub rfl 110 _ rfl w.heap.size 1 rfl _ 112 #[.slice ao xs.length cap, .int .i64 m.p, .int .i64 m.s, .int .i64 m.e, .int .i64 m.d, .int .i64 m.t, .int .i64 m.q, .int .i64 m.r] _ hx rfl Tryz.underlying110 rfl Tryz.sizeLMach ?_)
  refine (tomach_any _ xs m _ (R.below hB) hm).mono ?_
  rintro e w1 ⟨v1, rfl, ho1, hb⟩
  obtain ⟨ao1, cap1, rfl⟩ := own_form ho1
  rw [hsz0.out] at ho1
  have hs1 : w.heap.size + 3 ≤ w1.heap.size := hsz0.out ▸ hb.size
  replace hx := (hb.block _ (Array.getElem?_eq_some_iff.1 hx).1).trans hx
  replace hy := (hb.block _ (Array.getElem?_eq_some_iff.1 hy).1).trans hy
  replace hv := (hb.block _ (Array.getElem?_eq_some_iff.1 hv).1).trans hv
  replace hB := hB.trans (hb.mono hB.size)
  clear hb
  go_wp2_with (refine wpList_store_sub rfl 85 _ _ rfl (w.heap.size + 2) 1 #[.slice ao1 xs.length cap1, .int .i64 m.p, .int .i64 m.s, .int .i64 m.e, .int .i64 m.d, .int .i64 m.t, .int .i64 m.q, .int .i64 m.r] rfl rfl 88 #[.int .i64 i, .slice none 0 0, .int .i64 0, .int .i64 0, .int .i64 0, .int .i64 0, .int .i64 0, .int .i64 0, .int .i64 0, .slice none 0 0, .slice none 0 0] #[.int .i64 i, .slice ao1 xs.length cap1, .int .i64 m.p, .int .i64 m.s, .int .i64 m.e, .int .i64 m.d, .int .i64 m.t, .int .i64 m.q, .int .i64 m.r, .slice none 0 0, .slice none 0 0] hv (by simp) Tryz.sizeMach (by simp [Value.oneCell']) rfl ?_)
  intro u1 hn1 hbl1 hsz1 hoth1
  have hs1' : w.heap.size + 3 ≤ u1.heap.size := by omega
  clear hsz1 hsz0
  replace hx := (hoth1 w.heap.size (by omega)).trans hx
  replace hy := (hoth1 (w.heap.size + 1) (by omega)).trans hy
  replace ho1 := own_keep ho1 (by omega) hoth1
  replace hB := hB.trans (hbl1.mono (by omega))
  replace hv := hn1
  clear hn1 hbl1 hoth1
  have k9 : u1.cell? ⟨w.heap.size, 0 + 9, none⟩ = some (.slice ab bx.length cb) := cell_of_row u1 _ 9 _ _ _ hx
  go_wp2_with fail
  refine (tostrs_any _ bx _ (Rb.below hB) hmb).mono ?_
  rintro e w2 ⟨v2, rfl, ho2, hb⟩
  obtain ⟨ao2, cap2, rfl⟩ := own_form ho2
  replace ho2 := own_mono (B' := w.heap.size + 3) ho2 (by omega)
  have hs2 := hb.size
  replace hx := (hb.block _ (Array.getElem?_eq_some_iff.1 hx).1).trans hx
  replace hy := (hb.block _ (Array.getElem?_eq_some_iff.1 hy).1).trans hy
  replace hv := (hb.block _ (Array.getElem?_eq_some_iff.1 hv).1).trans hv
  replace ho1 := own_below ho1 hb
  replace hB := hB.trans (hb.mono hB.size)
  clear hb k9
  go_wp2_with (refine wpList_store_at rfl 86 _ _ rfl (w.heap.size + 2) 9 (.slice ao2 bx.length cap2) #[.slice ao2 bx.length cap2] rfl rfl rfl rfl 88 #[.int .i64 i, .slice ao1 xs.length cap1, .int .i64 m.p, .int .i64 m.s, .int .i64 m.e, .int .i64 m.d, .int .i64 m.t, .int .i64 m.q, .int .i64 m.r, .slice none 0 0, .slice none 0 0] #[.int .i64 i, .slice ao1 xs.length cap1, .int .i64 m.p, .int .i64 m.s, .int .i64 m.e, .int .i64 m.d, .int .i64 m.t, .int .i64 m.q, .int .i64 m.r, .slice ao2 bx.length cap2, .slice none 0 0] hv (by simp) (by kernel_rfl) rfl ?_)
  intro u2 hn2 hbl2 hsz2 hoth2
  have hs2' : w2.heap.size ≤ u2.heap.size := by omega
  clear hsz2
  replace hx := (hoth2 w.heap.size (by omega)).trans hx
  replace hy := (hoth2 (w.heap.size + 1) (by omega)).trans hy
  replace ho1 := own_keep ho1 (by omega) hoth2
  replace ho2 := own_keep ho2 (by omega) hoth2
  replace hB := hB.trans (hbl2.mono (by omega))
  replace hv := hn2
  clear hn2 hbl2 hoth2
  have k10 : u2.cell? ⟨w.heap.size, 0 + 10, none⟩ = some (.slice ac ox.length cc) := cell_of_row u2 _ 10 _ _ _ hx
  go_wp2_with fail
  refine (tostrs_any _ ox _ (Ro.below hB) hmo).mono ?_
  rintro e w3 ⟨v3, rfl, ho3, hb⟩
  obtain ⟨ao3, cap3, rfl⟩ := own_form ho3
  have hap : ∀ g, (Value.slice ao3 ox.length cap3).ownBlock = some g → (Value.slice ao2 bx.length cap2).ownBlock ≠ some g := fun g hg e => by
    have h1 := (ho2.lt g e).2
    have h2 := (ho3.lt g hg).1
    omega
  replace ho3 := own_mono (B' := w.heap.size + 3) ho3 (by omega)
  have hs3 := hb.size
  replace hx := (hb.block _ (Array.getElem?_eq_some_iff.1 hx).1).trans hx
  replace hy := (hb.block _ (Array.getElem?_eq_some_iff.1 hy).1).trans hy
  replace hv := (hb.block _ (Array.getElem?_eq_some_iff.1 hv).1).trans hv
  replace ho1 := own_below ho1 hb
  replace ho2 := own_below ho2 hb
  replace hB := hB.trans (hb.mono hB.size)
  clear hb k10
  go_wp2_with (refine wpList_store_at rfl 86 _ _ rfl (w.heap.size + 2) 10 (.slice ao3 ox.length cap3) #[.slice ao3 ox.length cap3] rfl rfl rfl rfl 88 #[.int .i64 i, .slice ao1 xs.length cap1, .int .i64 m.p, .int .i64 m.s, .int .i64 m.e, .int .i64 m.d, .int .i64 m.t, .int .i64 m.q, .int .i64 m.r, .slice ao2 bx.length cap2, .slice none 0 0] #[.int .i64 i, .slice ao1 xs.length cap1, .int .i64 m.p, .int .i64 m.s, .int .i64 m.e, .int .i64 m.d, .int .i64 m.t, .int .i64 m.q, .int .i64 m.r, .slice ao2 bx.length cap2, .slice ao3 ox.length cap3] hv (by simp) (by kernel_rfl) rfl ?_)
  intro u3 hn3 hbl3 hsz3 hoth3
  clear hsz3
  replace hx := (hoth3 w.heap.size (by omega)).trans hx
  replace hy := (hoth3 (w.heap.size + 1) (by omega)).trans hy
  replace ho1 := own_keep ho1 (by omega) hoth3
  replace ho2 := own_keep ho2 (by omega) hoth3
  replace ho3 := own_keep ho3 (by omega) hoth3
  replace hB := hB.trans (hbl3.mono (by omega))
  replace hv := hn3
  clear hn3 hbl3 hoth3
  go_wp2_with (first
    | (refine wpList_load_row rfl 88 _ rfl (w.heap.size + 2) rfl 88 #[.int .i64 i, .slice ao1 xs.length cap1, .int .i64 m.p, .int .i64 m.s, .int .i64 m.e, .int .i64 m.d, .int .i64 m.t, .int .i64 m.q, .int .i64 m.r, .slice ao2 bx.length cap2, .slice ao3 ox.length cap3] (0, 0) _ hv Tryz.underlying88 rfl Tryz.sizeProc ?_)
    | (refine wpList_store_own2 rfl 88 _ _ rfl (w.heap.size + 1) #[.int .i64 i, .slice ao1 xs.length cap1, .int .i64 m.p, .int .i64 m.s, .int .i64 m.e, .int .i64 m.d, .int .i64 m.t, .int .i64 m.q, .int .i64 m.r, .slice ao2 bx.length cap2, .slice ao3 ox.length cap3] rfl rfl 88 #[.int .i64 0, .slice none 0 0, .int .i64 0, .int .i64 0, .int .i64 0, .int .i64 0, .int .i64 0, .int .i64 0, .int .i64 0, .slice none 0 0, .slice none 0 0] hy Tryz.sizeProc rfl (by simp [Value.oneCell']) ?_))
  intro w9 hh9 hb9 hs9 hoth9
  have p1 := own_mono (B' := w.heap.size) (own_keep ho1 (by omega) hoth9) (by omega)
  have p2 := own_mono (B' := w.heap.size) (own_keep ho2 (by omega) hoth9) (by omega)
  have p3 := own_mono (B' := w.heap.size) (own_keep ho3 (by omega) hoth9) (by omega)
  have hB9 : Below w.heap.size w w9 := hB.trans (hb9.mono (by omega))
  go_wp2
  exact bodyPost_ret (results_cell_row rfl _ _ (w.heap.size + 1) 88 _ (0, 0) _ rfl hh9 Tryz.underlying88 rfl Tryz.sizeProc) rfl ⟨_, _, _, rfl, p1, p2, p3, hap, hB9⟩
end Go.Proofs.YtenegpbpalbpeaaGreatDoor
