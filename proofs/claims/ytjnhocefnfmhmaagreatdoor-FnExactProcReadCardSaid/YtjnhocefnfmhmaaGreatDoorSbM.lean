/-
  Texts that stood by themselves, laid into one.
-/
import Derived.Test.YtjnhocefnfmhmaaGreatDoorPrRegM
import Derived.Deep.MidRow
import Derived.Test.YtjnhocefnfmhmaaGreatDoorBsM
import Derived.Test.YtjnhocefnfmhmaaGreatDoorStrsM
import Derived.Lib.AppendStr
import Derived.Laws.IdiomStrings
/-
  A part of a block loaded, and stored: where it lies within a struct's variable. Nothing of the program; no condition.
-/
namespace Go.Proofs.YtjnhocefnfmhmaaGreatDoor
open Go.RowKit

theorem wpList_load_sub {P : Program} {ops : Array Oper} {rest : List Oper} {op : Oper} {a : Act} {w : World} {Q : Exit → Act → World → Prop} (hgd : op.guard = none) (ty : TypeId) (x : Operand) (ho : op.op = .load ty x)
    (b o : Nat) (hx : a.eval x = .pointer (some ⟨b, o, none⟩)) (C : Array Value) (t : TypeId) (cs : Array Value) (d : TypeDesc) (hb : w.heap[b]? = some (.cells C t (0, 0))) (hc : C.extract o (o + cs.size) = cs)
    (hu : P.underlying ty = some d) (hd : d.isRow = true) (hi : (P.info? ty).map (·.size) = some cs.size)
    (h : wpList P ops Q rest (a.put op.dst (.agg cs)) w) : wpList P ops Q (op :: rest) a w := by
  have hr := World.rangeAt_of_block hb o cs.size
  rw [hc] at hr
  exact wpList_load_mid hgd ty x ho b o hx cs.toList d hr hu hd (by simpa using hi) (by simpa using h)

theorem setCells_blk (g : Nat) (e : TypeId) : ∀ (vs : List Value) (o : Nat) (w : World) (cur : Array Value), w.heap[g]? = some (.cells cur e (0, 0)) → o + vs.length ≤ cur.size →
    ∃ cur' : Array Value, (w.setCells g o vs).heap[g]? = some (.cells cur' e (0, 0)) ∧ cur'.toList = cur.toList.take o ++ (vs ++ cur.toList.drop (o + vs.length))
  | [], o, w, cur, h, hb => ⟨cur, h, by simp⟩
  | v :: r, o, w, cur, h, hb => by
    simp only [List.length_cons] at hb
    obtain ⟨cur', h1, h2⟩ := setCells_blk g e r (o + 1) (w.setCell ⟨g, o, none⟩ v) _ (heap_setCell_same w g o cur e v h) (by simp; omega)
    refine ⟨cur', h1, h2.trans ?_⟩
    obtain ⟨A, c, B, hc, hA⟩ : ∃ A c B, cur.toList = A ++ c :: B ∧ A.length = o := ⟨cur.toList.take o, cur.toList[o]'(by simp; omega), cur.toList.drop (o + 1), by rw [← List.drop_eq_getElem_cons]; exact (List.take_append_drop _ _).symm, by simp; omega⟩
    subst hA
    rw [Array.toList_setIfInBounds, hc]
    have e1 : A.length + 1 + r.length - A.length = r.length + 1 := by omega
    have e2 : A.length ≤ A.length + 1 + r.length := by omega
    simp [List.take_append, List.drop_append, List.take_of_length_le, List.drop_of_length_le, e1, e2]
theorem setCells_oth (g : Nat) : ∀ (vs : List Value) (o : Nat) (w : World) (k : Nat), k ≠ g → (w.setCells g o vs).heap[k]? = w.heap[k]?
  | [], _, _, _, _ => rfl
  | v :: r, o, w, k, hk => (setCells_oth g r (o + 1) _ k hk).trans (heap_setCell_other w ⟨g, o, none⟩ k v hk)
theorem setCells_sz (g : Nat) : ∀ (vs : List Value) (o : Nat) (w : World), (w.setCells g o vs).heap.size = w.heap.size
  | [], _, _ => rfl
  | v :: r, o, _ => (setCells_sz g r (o + 1) _).trans (by simp [World.setCell])
theorem setCells_bel (g : Nat) : ∀ (vs : List Value) (o : Nat) (w w0 : World), Below g w0 w → Below g w0 (w.setCells g o vs)
  | [], _, _, _, h => h
  | v :: r, o, _, w0, h => setCells_bel g r (o + 1) _ w0 (h.setCell (p := ⟨g, o, none⟩) (Nat.le_refl _) v)

theorem wpList_store_sub {P : Program} {ops : Array Oper} {rest : List Oper} {op : Oper} {a : Act} {w : World} {Q : Exit → Act → World → Prop} (hgd : op.guard = none) (ty : TypeId) (x y : Operand) (ho : op.op = .store ty x y)
    (g o : Nat) (cells : Array Value) (hx : a.eval x = .pointer (some ⟨g, o, none⟩)) (hy : a.eval y = .agg cells) (t : TypeId) (old new : Array Value) (hg : w.heap[g]? = some (.cells old t (0, 0))) (hl : o + cells.size ≤ old.size)
    (hi : (P.info? ty).map (·.size) = some cells.size) (h1 : cells.all (·.oneCell') = true) (hn : new.toList = old.toList.take o ++ (cells.toList ++ old.toList.drop (o + cells.size)))
    (h : ∀ w2 : World, w2.heap[g]? = some (.cells new t (0, 0)) → Below g w w2 → w2.heap.size = w.heap.size → (∀ k, k ≠ g → w2.heap[k]? = w.heap[k]?) → wpList P ops Q rest (a.put op.dst undef) w2) : wpList P ops Q (op :: rest) a w := by
  refine wpList_store_mid hgd ty x y ho g o cells hx hy (fun j hj => ⟨?_, frozen_of_row w g _ _ _ hg⟩) hi h1 (h _ ?_ (setCells_bel g _ _ _ _ (Below.refl _ _)) (setCells_sz _ _ _ _) (fun k hk => setCells_oth g _ _ _ k hk))
  · rw [cell_of_row w g (o + j) _ _ _ hg]
    simp
    omega
  · obtain ⟨cur', h2, h3⟩ := setCells_blk g t cells.toList o w old hg (by simpa using hl)
    rw [h2]
    have : cur' = new := Array.toList_inj.1 (h3.trans (by rw [hn]; simp))
    rw [this]
end Go.Proofs.YtjnhocefnfmhmaaGreatDoor

/-
  A process's records: how great, made of the law's, and alike. No condition.
-/
namespace Go.Proofs.YtjnhocefnfmhmaaGreatDoor
open Go.RowKit

theorem Tryz.sizeProc : (Tryz.prog.info? 49).map (·.size) = some 11 := by kernel_rfl
theorem Tryz.sizeLMach : (Tryz.prog.info? 30).map (·.size) = some 8 := by kernel_rfl

set_option maxRecDepth 100000 in
set_option maxHeartbeats 1600000 in
theorem szproc_gen (l0 : Int) (hl0 : 0 ≤ l0) (hl1 : l0 ≤ 1048576) (i : Int) (v vb vo : Value) (xs : List Nd) (m : Mc) (bx ox : List ByteArray) (w : World) (R : NRow w v xs) (Rb : StRow w vb bx) (Ro : StRow w vo ox) :
    Calls Tryz.prog 6 #[.agg #[.int .i64 i, v, .int .i64 m.p, .int .i64 m.s, .int .i64 m.e, .int .i64 m.d, .int .i64 m.t, .int .i64 m.q, .int .i64 m.r, vb, vo], .int .i64 l0] w fun e w' => ∃ r : Int, e = .returned (.int .i64 r) ∧ -1 ≤ r ∧ r ≤ 1048576 ∧ (0 ≤ r → (xs.length ≤ 1048576 ∧ ∀ x ∈ xs, x.s.size ≤ 1048576) ∧ (bx.length ≤ 1048576 ∧ ∀ x ∈ bx, x.size ≤ 1048576) ∧ (ox.length ≤ 1048576 ∧ ∀ x ∈ ox, x.size ≤ 1048576)) ∧ Below w.heap.size w w' := by
  have R' := R
  obtain ⟨ao, cap, rfl, _⟩ := R'
  obtain ⟨ab, cb, rfl⟩ := Rb.small
  obtain ⟨ac, cc, rfl⟩ := Ro.small
  have hB0 : Below w.heap.size w (w.alloc (Obj.cells #[.int .i64 i, .slice ao xs.length cap, .int .i64 m.p, .int .i64 m.s, .int .i64 m.e, .int .i64 m.d, .int .i64 m.t, .int .i64 m.q, .int .i64 m.r, .slice ab bx.length cb, .slice ac ox.length cc] 33)) := (Below.refl _ _).alloc (Nat.le_refl _) _
  go_enter Tryz.func6, Tryz.ntmps6
  go_wp2_with (refine wpList_load_sub rfl 30 _ rfl w.heap.size 1 rfl _ 33 #[.slice ao xs.length cap, .int .i64 m.p, .int .i64 m.s, .int .i64 m.e, .int .i64 m.d, .int .i64 m.t, .int .i64 m.q, .int .i64 m.r] _ (heap_alloc_new _ _) rfl Tryz.underlying30 rfl Tryz.sizeLMach ?_)
  refine (szmach_gen l0 hl0 hl1 _ xs m _ (R.below hB0)).mono ?_
  rintro e w1 ⟨r, rfl, h0, h1, h2, hb1⟩
  have hx1 := (hb1.block w.heap.size (by simp)).trans (heap_alloc_new w (Obj.cells #[.int .i64 i, .slice ao xs.length cap, .int .i64 m.p, .int .i64 m.s, .int .i64 m.e, .int .i64 m.d, .int .i64 m.t, .int .i64 m.q, .int .i64 m.r, .slice ab bx.length cb, .slice ac ox.length cc] 33))
  have hB1 := hB0.trans (hb1.mono hB0.size)
  clear hB0 hb1
  by_cases hr : r < 0
  · go_wp2
    go_ret
    exact ⟨-1, rfl, by omega, by omega, fun h => by omega, hB1⟩
  have k2 : w1.cell? ⟨w.heap.size, 0 + 9, none⟩ = some (.slice ab bx.length cb) := cell_of_row w1 _ 9 _ _ _ hx1
  have k3 : w1.cell? ⟨w.heap.size, 0 + 10, none⟩ = some (.slice ac ox.length cc) := cell_of_row w1 _ 10 _ _ _ hx1
  go_wp2_with fail
  refine (szstrs_any _ bx r _ (Rb.below hB1) (by omega) (by omega)).mono ?_
  rintro e w2 ⟨r2, rfl, g0, g1, g2, hb2⟩
  have hx2 := (hb2.block _ (Array.getElem?_eq_some_iff.1 hx1).1).trans hx1
  have hB2 := hB1.trans (hb2.mono hB1.size)
  clear hB1 hb2 hx1 k2 k3
  by_cases hr2 : r2 < 0
  · go_wp2
    go_ret
    exact ⟨-1, rfl, by omega, by omega, fun h => by omega, hB2⟩
  have k3 : w2.cell? ⟨w.heap.size, 0 + 10, none⟩ = some (.slice ac ox.length cc) := cell_of_row w2 _ 10 _ _ _ hx2
  go_wp2_with fail
  refine (szstrs_any _ ox r2 _ (Ro.below hB2) (by omega) (by omega)).mono ?_
  rintro e w3 ⟨r3, rfl, f0, f1, f2, hb3⟩
  have hB3 := hB2.trans (hb3.mono hB2.size)
  clear hB2 hb3 hx2 k3
  by_cases hr3 : r3 < 0
  · go_wp2
    go_ret
    exact ⟨-1, rfl, by omega, by omega, fun h => by omega, hB3⟩
  · go_wp2
    go_ret
    exact ⟨r3, rfl, by omega, by omega, fun h => ⟨h2 (by omega), g2 (by omega), f2 h⟩, hB3⟩

set_option maxRecDepth 100000 in
set_option maxHeartbeats 1600000 in
theorem eqproc_any (i : Int) (va ba oa vb bb ob : Value) (xs : List Nd) (m : Mc) (bx ox : List ByteArray) (w : World) (Ra : NRow w va xs) (Ba : StRow w ba bx) (Oa : StRow w oa ox) (Rb : NRow w vb xs) (Bb : StRow w bb bx) (Ob : StRow w ob ox) :
    Calls Tryz.prog 12 #[.agg #[.int .i64 i, va, .int .i64 m.p, .int .i64 m.s, .int .i64 m.e, .int .i64 m.d, .int .i64 m.t, .int .i64 m.q, .int .i64 m.r, ba, oa], .agg #[.int .i64 i, vb, .int .i64 m.p, .int .i64 m.s, .int .i64 m.e, .int .i64 m.d, .int .i64 m.t, .int .i64 m.q, .int .i64 m.r, bb, ob]] w fun e w' => e = .returned (.bool true) ∧ Below w.heap.size w w' := by
  have Ra' := Ra
  have Rb' := Rb
  obtain ⟨aa, ca, rfl, _⟩ := Ra'
  obtain ⟨ab, cb, rfl, _⟩ := Rb'
  obtain ⟨a1, c1, rfl⟩ := Ba.small
  obtain ⟨a2, c2, rfl⟩ := Oa.small
  obtain ⟨a3, c3, rfl⟩ := Bb.small
  obtain ⟨a4, c4, rfl⟩ := Ob.small
  obtain ⟨hB0, hk0, hx0⟩ := two_boxes w (Obj.cells #[.int .i64 i, .slice aa xs.length ca, .int .i64 m.p, .int .i64 m.s, .int .i64 m.e, .int .i64 m.d, .int .i64 m.t, .int .i64 m.q, .int .i64 m.r, .slice a1 bx.length c1, .slice a2 ox.length c2] 49) (Obj.cells #[.int .i64 i, .slice ab xs.length cb, .int .i64 m.p, .int .i64 m.s, .int .i64 m.e, .int .i64 m.d, .int .i64 m.t, .int .i64 m.q, .int .i64 m.r, .slice a3 bx.length c3, .slice a4 ox.length c4] 49)
  have e1 : (i != i) = false := by simp
  go_enter Tryz.func12, Tryz.ntmps12
  go_wp2_with (first
    | (refine wpList_load_sub rfl 47 _ rfl w.heap.size 1 rfl _ 49 #[.slice aa xs.length ca, .int .i64 m.p, .int .i64 m.s, .int .i64 m.e, .int .i64 m.d, .int .i64 m.t, .int .i64 m.q, .int .i64 m.r] _ hk0 rfl Tryz.underlying47 rfl Tryz.sizeMach ?_)
    | (refine wpList_load_sub rfl 47 _ rfl (w.heap.size + 1) 1 rfl _ 49 #[.slice ab xs.length cb, .int .i64 m.p, .int .i64 m.s, .int .i64 m.e, .int .i64 m.d, .int .i64 m.t, .int .i64 m.q, .int .i64 m.r] _ hx0 rfl Tryz.underlying47 rfl Tryz.sizeMach ?_))
  refine (eqmach_any _ _ xs m _ (Ra.below hB0) (Rb.below hB0)).mono ?_
  rintro e w1 ⟨rfl, hb1⟩
  have hB1 := hB0.trans (hb1.mono hB0.size)
  have hk1 := (hb1.block _ (Array.getElem?_eq_some_iff.1 hk0).1).trans hk0
  have hx1 := (hb1.block _ (Array.getElem?_eq_some_iff.1 hx0).1).trans hx0
  clear hB0 hk0 hx0 hb1
  have l1 : w1.cell? ⟨w.heap.size, 0 + 9, none⟩ = some (.slice a1 bx.length c1) := cell_of_row w1 _ 9 _ _ _ hk1
  have k1 : w1.cell? ⟨w.heap.size + 1, 0 + 9, none⟩ = some (.slice a3 bx.length c3) := cell_of_row w1 _ 9 _ _ _ hx1
  go_wp2_with fail
  refine (eqstrs_any _ _ bx _ (Ba.below hB1) (Bb.below hB1)).mono ?_
  rintro e w2 ⟨rfl, hb2⟩
  have hB2 := hB1.trans (hb2.mono hB1.size)
  have hk2 := (hb2.block _ (Array.getElem?_eq_some_iff.1 hk1).1).trans hk1
  have hx2 := (hb2.block _ (Array.getElem?_eq_some_iff.1 hx1).1).trans hx1
  clear hB1 hk1 hx1 hb2 l1 k1
  have l1 : w2.cell? ⟨w.heap.size, 0 + 10, none⟩ = some (.slice a2 ox.length c2) := cell_of_row w2 _ 10 _ _ _ hk2
  have k1 : w2.cell? ⟨w.heap.size + 1, 0 + 10, none⟩ = some (.slice a4 ox.length c4) := cell_of_row w2 _ 10 _ _ _ hx2
  go_wp2_with fail
  refine (eqstrs_any _ _ ox _ (Oa.below hB2) (Ob.below hB2)).mono ?_
  rintro e w3 ⟨rfl, hb3⟩
  have hB3 := hB2.trans (hb3.mono hB2.size)
  clear hB2 hk2 hx2 hb3 l1 k1
  go_wp2
  go_ret
  exact ⟨rfl, hB3⟩
end Go.Proofs.YtjnhocefnfmhmaaGreatDoor

/-
  A process made of the law's own: toProc. No condition.
-/
namespace Go.Proofs.YtjnhocefnfmhmaaGreatDoor
open Go.RowKit

set_option maxRecDepth 100000 in
set_option maxHeartbeats 6400000 in
theorem toproc_any (i : Int) (v vb vo : Value) (xs : List Nd) (m : Mc) (bx ox : List ByteArray) (w : World) (R : NRow w v xs) (Rb : StRow w vb bx) (Ro : StRow w vo ox) (hm : xs.length ≤ 2097152) (hmb : bx.length ≤ 2097152) (hmo : ox.length ≤ 2097152) :
    Calls Tryz.prog 9 #[.agg #[.int .i64 i, v, .int .i64 m.p, .int .i64 m.s, .int .i64 m.e, .int .i64 m.d, .int .i64 m.t, .int .i64 m.q, .int .i64 m.r, vb, vo]] w fun e w' => ∃ v1 v2 v3, e = .returned (.agg #[.int .i64 i, v1, .int .i64 m.p, .int .i64 m.s, .int .i64 m.e, .int .i64 m.d, .int .i64 m.t, .int .i64 m.q, .int .i64 m.r, v2, v3]) ∧ w'.ownsRow w.heap.size 153 5 v1 xs.length (ncs xs) ∧ w'.ownsRow w.heap.size 9 1 v2 bx.length (stv bx) ∧ w'.ownsRow w.heap.size 9 1 v3 ox.length (stv ox) ∧ (∀ g, v3.ownBlock = some g → v2.ownBlock ≠ some g) ∧ Below w.heap.size w w' := by
  obtain ⟨ao, cap, rfl⟩ : ∃ ao cap, v = .slice ao xs.length cap := by obtain ⟨ao, cap, rfl, _⟩ := R; exact ⟨ao, cap, rfl⟩
  obtain ⟨ab, cb, rfl⟩ := Rb.small
  obtain ⟨ac, cc, rfl⟩ := Ro.small
  have hB : Below w.heap.size w (((w.alloc (Obj.cells #[.int .i64 i, .slice ao xs.length cap, .int .i64 m.p, .int .i64 m.s, .int .i64 m.e, .int .i64 m.d, .int .i64 m.t, .int .i64 m.q, .int .i64 m.r, .slice ab bx.length cb, .slice ac ox.length cc] 33)).alloc (Obj.cells #[.int .i64 0, .slice none 0 0, .int .i64 0, .int .i64 0, .int .i64 0, .int .i64 0, .int .i64 0, .int .i64 0, .int .i64 0, .slice none 0 0, .slice none 0 0] 49)).alloc (Obj.cells #[.int .i64 0, .slice none 0 0, .int .i64 0, .int .i64 0, .int .i64 0, .int .i64 0, .int .i64 0, .int .i64 0, .int .i64 0, .slice none 0 0, .slice none 0 0] 49)) := (((Below.refl _ _).alloc (Nat.le_refl _) _).alloc (by simp) _).alloc (by simp; omega) _
  have hx : (((w.alloc (Obj.cells #[.int .i64 i, .slice ao xs.length cap, .int .i64 m.p, .int .i64 m.s, .int .i64 m.e, .int .i64 m.d, .int .i64 m.t, .int .i64 m.q, .int .i64 m.r, .slice ab bx.length cb, .slice ac ox.length cc] 33)).alloc (Obj.cells #[.int .i64 0, .slice none 0 0, .int .i64 0, .int .i64 0, .int .i64 0, .int .i64 0, .int .i64 0, .int .i64 0, .int .i64 0, .slice none 0 0, .slice none 0 0] 49)).alloc (Obj.cells #[.int .i64 0, .slice none 0 0, .int .i64 0, .int .i64 0, .int .i64 0, .int .i64 0, .int .i64 0, .int .i64 0, .int .i64 0, .slice none 0 0, .slice none 0 0] 49)).heap[w.heap.size]? = some (Obj.cells #[.int .i64 i, .slice ao xs.length cap, .int .i64 m.p, .int .i64 m.s, .int .i64 m.e, .int .i64 m.d, .int .i64 m.t, .int .i64 m.q, .int .i64 m.r, .slice ab bx.length cb, .slice ac ox.length cc] 33) := (heap_alloc_old _ _ (by simp; omega)).trans ((heap_alloc_old _ _ (by simp)).trans (heap_alloc_new _ _))
  have hy : (((w.alloc (Obj.cells #[.int .i64 i, .slice ao xs.length cap, .int .i64 m.p, .int .i64 m.s, .int .i64 m.e, .int .i64 m.d, .int .i64 m.t, .int .i64 m.q, .int .i64 m.r, .slice ab bx.length cb, .slice ac ox.length cc] 33)).alloc (Obj.cells #[.int .i64 0, .slice none 0 0, .int .i64 0, .int .i64 0, .int .i64 0, .int .i64 0, .int .i64 0, .int .i64 0, .int .i64 0, .slice none 0 0, .slice none 0 0] 49)).alloc (Obj.cells #[.int .i64 0, .slice none 0 0, .int .i64 0, .int .i64 0, .int .i64 0, .int .i64 0, .int .i64 0, .int .i64 0, .int .i64 0, .slice none 0 0, .slice none 0 0] 49)).heap[w.heap.size + 1]? = some (Obj.cells #[.int .i64 0, .slice none 0 0, .int .i64 0, .int .i64 0, .int .i64 0, .int .i64 0, .int .i64 0, .int .i64 0, .int .i64 0, .slice none 0 0, .slice none 0 0] 49) := (heap_alloc_old _ _ (by simp)).trans (heap_alloc2_new _ _ _)
  have hv : (((w.alloc (Obj.cells #[.int .i64 i, .slice ao xs.length cap, .int .i64 m.p, .int .i64 m.s, .int .i64 m.e, .int .i64 m.d, .int .i64 m.t, .int .i64 m.q, .int .i64 m.r, .slice ab bx.length cb, .slice ac ox.length cc] 33)).alloc (Obj.cells #[.int .i64 0, .slice none 0 0, .int .i64 0, .int .i64 0, .int .i64 0, .int .i64 0, .int .i64 0, .int .i64 0, .int .i64 0, .slice none 0 0, .slice none 0 0] 49)).alloc (Obj.cells #[.int .i64 0, .slice none 0 0, .int .i64 0, .int .i64 0, .int .i64 0, .int .i64 0, .int .i64 0, .int .i64 0, .int .i64 0, .slice none 0 0, .slice none 0 0] 49)).heap[w.heap.size + 2]? = some (Obj.cells #[.int .i64 0, .slice none 0 0, .int .i64 0, .int .i64 0, .int .i64 0, .int .i64 0, .int .i64 0, .int .i64 0, .int .i64 0, .slice none 0 0, .slice none 0 0] 49) := by
    have h := heap_alloc_new ((w.alloc (Obj.cells #[.int .i64 i, .slice ao xs.length cap, .int .i64 m.p, .int .i64 m.s, .int .i64 m.e, .int .i64 m.d, .int .i64 m.t, .int .i64 m.q, .int .i64 m.r, .slice ab bx.length cb, .slice ac ox.length cc] 33)).alloc (Obj.cells #[.int .i64 0, .slice none 0 0, .int .i64 0, .int .i64 0, .int .i64 0, .int .i64 0, .int .i64 0, .int .i64 0, .int .i64 0, .slice none 0 0, .slice none 0 0] 49)) (Obj.cells #[.int .i64 0, .slice none 0 0, .int .i64 0, .int .i64 0, .int .i64 0, .int .i64 0, .int .i64 0, .int .i64 0, .int .i64 0, .slice none 0 0, .slice none 0 0] 49)
    simpa using h
  go_enter Tryz.func9, Tryz.ntmps9
  go_wp2_with (refine wpList_store_at rfl 3 _ _ rfl (w.heap.size + 2) 0 (.int .i64 i) #[.int .i64 i] rfl rfl rfl rfl 49 #[.int .i64 0, .slice none 0 0, .int .i64 0, .int .i64 0, .int .i64 0, .int .i64 0, .int .i64 0, .int .i64 0, .int .i64 0, .slice none 0 0, .slice none 0 0] #[.int .i64 i, .slice none 0 0, .int .i64 0, .int .i64 0, .int .i64 0, .int .i64 0, .int .i64 0, .int .i64 0, .int .i64 0, .slice none 0 0, .slice none 0 0] hv (by simp) (by kernel_rfl) rfl ?_)
  intro u0 hn0 hbl0 hsz0 hoth0
  replace hsz0 : Hid (u0.heap.size = w.heap.size + 3) := hsz0.trans (by simp)
  replace hx := (hoth0 w.heap.size (by omega)).trans hx
  replace hy := (hoth0 (w.heap.size + 1) (by omega)).trans hy
  replace hB := hB.trans (hbl0.mono (by omega))
  replace hv := hn0
  clear hn0 hbl0 hoth0
  go_wp2_with (refine wpList_load_sub rfl 30 _ rfl w.heap.size 1 rfl _ 33 #[.slice ao xs.length cap, .int .i64 m.p, .int .i64 m.s, .int .i64 m.e, .int .i64 m.d, .int .i64 m.t, .int .i64 m.q, .int .i64 m.r] _ hx rfl Tryz.underlying30 rfl Tryz.sizeLMach ?_)
  refine (tomach_any _ xs m _ (R.below hB) hm).mono ?_
  rintro e w1 ⟨v1, rfl, ho1, hb⟩
  obtain ⟨ao1, cap1, rfl⟩ := own_form ho1
  rw [hsz0.out] at ho1
  have hs1 : w.heap.size + 3 ≤ w1.heap.size := hsz0.out ▸ hb.size
  replace hx := (hb.block _ (Array.getElem?_eq_some_iff.1 hx).1).trans hx
  replace hy := (hb.block _ (Array.getElem?_eq_some_iff.1 hy).1).trans hy
  replace hv := (hb.block _ (Array.getElem?_eq_some_iff.1 hv).1).trans hv
  replace hB := hB.trans (hb.mono hB.size)
  clear hb
  go_wp2_with (refine wpList_store_sub rfl 47 _ _ rfl (w.heap.size + 2) 1 #[.slice ao1 xs.length cap1, .int .i64 m.p, .int .i64 m.s, .int .i64 m.e, .int .i64 m.d, .int .i64 m.t, .int .i64 m.q, .int .i64 m.r] rfl rfl 49 #[.int .i64 i, .slice none 0 0, .int .i64 0, .int .i64 0, .int .i64 0, .int .i64 0, .int .i64 0, .int .i64 0, .int .i64 0, .slice none 0 0, .slice none 0 0] #[.int .i64 i, .slice ao1 xs.length cap1, .int .i64 m.p, .int .i64 m.s, .int .i64 m.e, .int .i64 m.d, .int .i64 m.t, .int .i64 m.q, .int .i64 m.r, .slice none 0 0, .slice none 0 0] hv (by simp) Tryz.sizeMach (by simp [Value.oneCell']) rfl ?_)
  intro u1 hn1 hbl1 hsz1 hoth1
  have hs1' : w.heap.size + 3 ≤ u1.heap.size := by omega
  clear hsz1 hsz0
  replace hx := (hoth1 w.heap.size (by omega)).trans hx
  replace hy := (hoth1 (w.heap.size + 1) (by omega)).trans hy
  replace ho1 := own_keep ho1 (by omega) hoth1
  replace hB := hB.trans (hbl1.mono (by omega))
  replace hv := hn1
  clear hn1 hbl1 hoth1
  have k9 : u1.cell? ⟨w.heap.size, 0 + 9, none⟩ = some (.slice ab bx.length cb) := cell_of_row u1 _ 9 _ _ _ hx
  go_wp2_with fail
  refine (tostrs_any _ bx _ (Rb.below hB) hmb).mono ?_
  rintro e w2 ⟨v2, rfl, ho2, hb⟩
  obtain ⟨ao2, cap2, rfl⟩ := own_form ho2
  replace ho2 := own_mono (B' := w.heap.size + 3) ho2 (by omega)
  have hs2 := hb.size
  replace hx := (hb.block _ (Array.getElem?_eq_some_iff.1 hx).1).trans hx
  replace hy := (hb.block _ (Array.getElem?_eq_some_iff.1 hy).1).trans hy
  replace hv := (hb.block _ (Array.getElem?_eq_some_iff.1 hv).1).trans hv
  replace ho1 := own_below ho1 hb
  replace hB := hB.trans (hb.mono hB.size)
  clear hb k9
  go_wp2_with (refine wpList_store_at rfl 31 _ _ rfl (w.heap.size + 2) 9 (.slice ao2 bx.length cap2) #[.slice ao2 bx.length cap2] rfl rfl rfl rfl 49 #[.int .i64 i, .slice ao1 xs.length cap1, .int .i64 m.p, .int .i64 m.s, .int .i64 m.e, .int .i64 m.d, .int .i64 m.t, .int .i64 m.q, .int .i64 m.r, .slice none 0 0, .slice none 0 0] #[.int .i64 i, .slice ao1 xs.length cap1, .int .i64 m.p, .int .i64 m.s, .int .i64 m.e, .int .i64 m.d, .int .i64 m.t, .int .i64 m.q, .int .i64 m.r, .slice ao2 bx.length cap2, .slice none 0 0] hv (by simp) (by kernel_rfl) rfl ?_)
  intro u2 hn2 hbl2 hsz2 hoth2
  have hs2' : w2.heap.size ≤ u2.heap.size := by omega
  clear hsz2
  replace hx := (hoth2 w.heap.size (by omega)).trans hx
  replace hy := (hoth2 (w.heap.size + 1) (by omega)).trans hy
  replace ho1 := own_keep ho1 (by omega) hoth2
  replace ho2 := own_keep ho2 (by omega) hoth2
  replace hB := hB.trans (hbl2.mono (by omega))
  replace hv := hn2
  clear hn2 hbl2 hoth2
  have k10 : u2.cell? ⟨w.heap.size, 0 + 10, none⟩ = some (.slice ac ox.length cc) := cell_of_row u2 _ 10 _ _ _ hx
  go_wp2_with fail
  refine (tostrs_any _ ox _ (Ro.below hB) hmo).mono ?_
  rintro e w3 ⟨v3, rfl, ho3, hb⟩
  obtain ⟨ao3, cap3, rfl⟩ := own_form ho3
  have hap : ∀ g, (Value.slice ao3 ox.length cap3).ownBlock = some g → (Value.slice ao2 bx.length cap2).ownBlock ≠ some g := fun g hg e => by
    have h1 := (ho2.lt g e).2
    have h2 := (ho3.lt g hg).1
    omega
  replace ho3 := own_mono (B' := w.heap.size + 3) ho3 (by omega)
  have hs3 := hb.size
  replace hx := (hb.block _ (Array.getElem?_eq_some_iff.1 hx).1).trans hx
  replace hy := (hb.block _ (Array.getElem?_eq_some_iff.1 hy).1).trans hy
  replace hv := (hb.block _ (Array.getElem?_eq_some_iff.1 hv).1).trans hv
  replace ho1 := own_below ho1 hb
  replace ho2 := own_below ho2 hb
  replace hB := hB.trans (hb.mono hB.size)
  clear hb k10
  go_wp2_with (refine wpList_store_at rfl 31 _ _ rfl (w.heap.size + 2) 10 (.slice ao3 ox.length cap3) #[.slice ao3 ox.length cap3] rfl rfl rfl rfl 49 #[.int .i64 i, .slice ao1 xs.length cap1, .int .i64 m.p, .int .i64 m.s, .int .i64 m.e, .int .i64 m.d, .int .i64 m.t, .int .i64 m.q, .int .i64 m.r, .slice ao2 bx.length cap2, .slice none 0 0] #[.int .i64 i, .slice ao1 xs.length cap1, .int .i64 m.p, .int .i64 m.s, .int .i64 m.e, .int .i64 m.d, .int .i64 m.t, .int .i64 m.q, .int .i64 m.r, .slice ao2 bx.length cap2, .slice ao3 ox.length cap3] hv (by simp) (by kernel_rfl) rfl ?_)
  intro u3 hn3 hbl3 hsz3 hoth3
  clear hsz3
  replace hx := (hoth3 w.heap.size (by omega)).trans hx
  replace hy := (hoth3 (w.heap.size + 1) (by omega)).trans hy
  replace ho1 := own_keep ho1 (by omega) hoth3
  replace ho2 := own_keep ho2 (by omega) hoth3
  replace ho3 := own_keep ho3 (by omega) hoth3
  replace hB := hB.trans (hbl3.mono (by omega))
  replace hv := hn3
  clear hn3 hbl3 hoth3
  go_wp2_with (first
    | (refine wpList_load_row rfl 49 _ rfl (w.heap.size + 2) rfl 49 #[.int .i64 i, .slice ao1 xs.length cap1, .int .i64 m.p, .int .i64 m.s, .int .i64 m.e, .int .i64 m.d, .int .i64 m.t, .int .i64 m.q, .int .i64 m.r, .slice ao2 bx.length cap2, .slice ao3 ox.length cap3] (0, 0) _ hv Tryz.underlying49 rfl Tryz.sizeProc ?_)
    | (refine wpList_store_own2 rfl 49 _ _ rfl (w.heap.size + 1) #[.int .i64 i, .slice ao1 xs.length cap1, .int .i64 m.p, .int .i64 m.s, .int .i64 m.e, .int .i64 m.d, .int .i64 m.t, .int .i64 m.q, .int .i64 m.r, .slice ao2 bx.length cap2, .slice ao3 ox.length cap3] rfl rfl 49 #[.int .i64 0, .slice none 0 0, .int .i64 0, .int .i64 0, .int .i64 0, .int .i64 0, .int .i64 0, .int .i64 0, .int .i64 0, .slice none 0 0, .slice none 0 0] hy Tryz.sizeProc rfl (by simp [Value.oneCell']) ?_))
  intro w9 hh9 hb9 hs9 hoth9
  have p1 := own_mono (B' := w.heap.size) (own_keep ho1 (by omega) hoth9) (by omega)
  have p2 := own_mono (B' := w.heap.size) (own_keep ho2 (by omega) hoth9) (by omega)
  have p3 := own_mono (B' := w.heap.size) (own_keep ho3 (by omega) hoth9) (by omega)
  have hB9 : Below w.heap.size w w9 := hB.trans (hb9.mono (by omega))
  go_wp2
  exact bodyPost_ret (results_cell_row rfl _ _ (w.heap.size + 1) 49 _ (0, 0) _ rfl hh9 Tryz.underlying49 rfl Tryz.sizeProc) rfl ⟨_, _, _, rfl, p1, p2, p3, hap, hB9⟩
end Go.Proofs.YtjnhocefnfmhmaaGreatDoor

/-
  Plain mathematics of a number's bytes: groups of seven bits, the lowest first. Nothing of the program; no condition.
-/
namespace Go.Proofs.YtjnhocefnfmhmaaGreatDoor

/-- A number's bytes, f of them at most. -/
def enc : Nat → Int → List Int
  | 0, _ => []
  | f + 1, x => if x < 128 then [x] else (x % 128 + 128) :: enc f (x / 128)
/-- What f bytes can't hold. -/
def lim : Nat → Int
  | 0 => 1
  | f + 1 => 128 * lim f
theorem lim_nine : lim 9 = 9223372036854775808 := by simp [lim]
theorem lim_pos (f : Nat) : 1 ≤ lim f := by
  induction f with
  | zero => simp [lim]
  | succ f ih => simp only [lim]; omega
theorem enc_last (f : Nat) (x : Int) (h : x < 128) : enc (f + 1) x = [x] := by simp [enc, h]
theorem enc_more (f : Nat) (x : Int) (h : 128 ≤ x) : enc (f + 1) x = (x % 128 + 128) :: enc f (x / 128) := by
  have : ¬ x < 128 := by omega
  simp [enc, this]
theorem lim_more (f : Nat) (y : Int) (h : 128 ≤ y) (hy : y < lim (f + 1)) : ∃ f', f = f' + 1 ∧ y / 128 < lim f := by
  cases f with
  | zero => simp [lim] at hy; omega
  | succ f' => exact ⟨f', rfl, by simp only [lim] at hy ⊢; omega⟩
theorem enc_length (f : Nat) (x : Int) : (enc f x).length ≤ f := by
  induction f generalizing x with
  | zero => simp [enc]
  | succ f ih =>
    simp only [enc]
    split
    · simp
    · simp only [List.length_cons]; have := ih (x / 128); omega
theorem enc_wf (f : Nat) (x : Int) (h : 0 ≤ x) : ∀ z ∈ enc f x, 0 ≤ z ∧ z ≤ 255 := by
  induction f generalizing x with
  | zero => simp [enc]
  | succ f ih =>
    simp only [enc]
    split
    · intro z hz; simp at hz; omega
    · intro z hz
      simp only [List.mem_cons] at hz
      rcases hz with rfl | hz
      · omega
      · exact ih _ (by omega) z hz
/-- The bytes of any int: none of one below 0. -/
def encI (x : Int) : List Int := if x < 0 then [] else enc 9 x
theorem encI_neg (x : Int) (h : x < 0) : encI x = [] := by simp [encI, h]
theorem encI_pos (x : Int) (h : 0 ≤ x) : encI x = enc 9 x := by
  have : ¬ x < 0 := by omega
  simp [encI, this]
theorem encI_length (x : Int) : (encI x).length ≤ 9 := by
  unfold encI; split
  · simp
  · exact enc_length 9 x
theorem encI_wf (x : Int) : ∀ z ∈ encI x, 0 ≤ z ∧ z ≤ 255 := by
  unfold encI; split
  · simp
  · exact enc_wf 9 x (by omega)

end Go.Proofs.YtjnhocefnfmhmaaGreatDoor

/-
  Plain facts on a text's bytes, and the law of a text turned into bytes. Nothing of the program; no condition.
-/
namespace Go.Proofs.YtjnhocefnfmhmaaGreatDoor
open Go.RowKit

/-- A text's bytes. -/
def sb (s : ByteArray) : List Int := s.data.toList.map fun b => (b.toNat : Int)
theorem sb_length (s : ByteArray) : (sb s).length = s.size := by rw [sb, List.length_map, Array.length_toList]; rfl
theorem sb_wf (s : ByteArray) : ∀ z ∈ sb s, 0 ≤ z ∧ z ≤ 255 := by
  intro z hz
  simp only [sb, List.mem_map] at hz
  obtain ⟨b, _, rfl⟩ := hz
  have := b.toNat_lt
  omega
theorem sb_cells (s : ByteArray) : bv (sb s) = Lib.strCells s := by
  simp [bv, sb, Lib.strCells]
/-- What PutText answers. -/
def pt (s : ByteArray) : List Int := encI s.size ++ sb s
theorem pt_length (s : ByteArray) : (pt s).length = (encI s.size).length + s.size := by rw [pt, List.length_append, sb_length]
theorem pt_wf (s : ByteArray) : ∀ z ∈ pt s, 0 ≤ z ∧ z ≤ 255 := by
  intro z hz
  simp only [pt, List.mem_append] at hz
  rcases hz with hz | hz
  · exact encI_wf _ z hz
  · exact sb_wf s z hz

theorem bytesRow_get (s : ByteArray) (cap j : Nat) (u : Value) (h : (bv (sb s))[j]? = some u) : (bytesRow s cap)[j]? = some u := by
  have hj : j < s.data.size := by
    have := (List.getElem?_eq_some_iff.1 h).1
    rw [bv_length, sb_length] at this
    exact this
  unfold bytesRow
  rw [Array.getElem?_append_left (by simpa using hj)]
  simp only [bv, sb, List.map_map, List.getElem?_map, Array.getElem?_toList] at h
  simpa using h

/-- A text turned into bytes: a new row that holds them. -/
theorem wpList_string_bytes {P : Program} (w : World) {ops : Array Oper} {rest : List Oper} {o : Oper} {a : Act} {Q : Exit → Act → World → Prop} (hg : o.guard = none) (x : Operand) (src dst e : TypeId) (ho : o.op = .convert src dst x)
    (hs : P.underlying src = some .string) (hd : P.underlying dst = some (.slice e)) (he : P.underlying e = some (.int .u8)) (s : ByteArray) (hx : a.eval x = .string s)
    (h : ∀ cap w', (∀ j u, (bv (sb s))[j]? = some u → w'.cell? ((⟨w.heap.size, 0, none⟩ : Addr).add j) = some u) → w.grownBy w' none → w.heap.size < w'.heap.size → wpList P ops Q rest (a.put o.dst (.slice (some ⟨w.heap.size, 0, none⟩) s.size cap)) w') :
    wpList P ops Q (o :: rest) a w := by
  refine wpList_plain hg fun K hK => ?_
  obtain ⟨cap, w', hrun, h1, h2, h3⟩ : ∃ cap w', (convert src dst (.string s)).run P w = .ok (.slice (some ⟨w.heap.size, 0, none⟩) s.size cap) w' ∧
      (∀ j u, (bv (sb s))[j]? = some u → w'.cell? ((⟨w.heap.size, 0, none⟩ : Addr).add j) = some u) ∧ w.grownBy w' none ∧ w.heap.size < w'.heap.size := by
    refine ⟨_, _, run_bytes_of_string w src dst e s hs hd he, ?_, ?_, ?_⟩
    · intro j u hu
      rw [Addr.add_lit, Nat.zero_add, cell_of_row _ w.heap.size j _ e _ (heap_alloc_new w.drew _)]
      exact bytesRow_get s _ j u hu
    · have hga := World.grownBy_alloc w.drew (Obj.cells (bytesRow s (grownCap w s.size 0 e)) e ((bytesRow s (grownCap w s.size 0 e)).size, (bytesRow s (grownCap w s.size 0 e)).size + 1)) none
      exact ⟨hga.os, hga.tape, hga.output, hga.size, hga.block⟩
    · show w.heap.size < (w.heap.push _).size
      simp
  unfold Oper.wp
  simp [execOp, ho, hx, hrun, Result.andThen]
  exact hK _ _ (h cap w' h1 h2 h3)

end Go.Proofs.YtjnhocefnfmhmaaGreatDoor
