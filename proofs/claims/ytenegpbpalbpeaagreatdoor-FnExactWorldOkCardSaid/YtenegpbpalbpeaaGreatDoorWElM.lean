/-
  Homes, grams and parked ones: what they are as cells, and the contracts of the laws' helpers on one of them. No condition.
-/
import Derived.Test.YtenegpbpalbpeaaGreatDoorSizeIM
import Derived.Test.YtenegpbpalbpeaaGreatDoorPrToM
import Derived.Test.YtenegpbpalbpeaaGreatDoorPcMarkM
namespace Go.Proofs.YtenegpbpalbpeaaGreatDoor
open Go.RowKit
structure Hm where
  pl : Int
  i : Int
  xs : List Nd
  m : Mc
  bx : List ByteArray
  ox : List ByteArray
structure Gm where
  k : Int
  f : Int
  t : Int
  n : Int
  s : ByteArray
structure Pd where
  p : Int
  t : Int
  s : ByteArray
theorem StRow.kp {w w' : World} {v : Value} {xs : List ByteArray} {B : Nat} (R : StRow w v xs) (hf : Fr B v) (hk : Kp B w w') : StRow w' v xs := by
  obtain ⟨ao, cap, rfl, hc, hm, hz, hcell⟩ := R
  refine ⟨ao, cap, rfl, hc, hm, hz, fun hne => ?_⟩
  obtain ⟨g, o, rfl, hg, hcell⟩ := hcell hne
  have e := kp_cell hk hf rfl hg
  exact ⟨g, o, rfl, Nat.lt_of_lt_of_le hg hk.1, fun i x hi => (World.cell?_of_block e).trans (hcell i x hi)⟩
theorem PcRow.kp {w w' : World} {v : Value} {xs : List Pc} {B : Nat} (R : PcRow w v xs) (hf : Fr B v) (hk : Kp B w w') : PcRow w' v xs := by
  obtain ⟨ao, cap, rfl, hc, hm, hz, hcell⟩ := R
  refine ⟨ao, cap, rfl, hc, hm, hz, fun hne => ?_⟩
  obtain ⟨g, o, rfl, hg, hcell⟩ := hcell hne
  have e := kp_cell hk hf rfl hg
  refine ⟨g, o, rfl, Nat.lt_of_lt_of_le hg hk.1, fun i x hi => ?_⟩
  obtain ⟨c0, c1⟩ := hcell i x hi
  exact ⟨(World.cell?_of_block e).trans c0, (World.cell?_of_block e).trans c1⟩
def EH (B : Nat) (w : World) (cs : List Value) (h : Hm) : Prop := ∃ v vb vo, cs.toArray = #[.int .i64 h.pl, .int .i64 h.i, v, .int .i64 h.m.p, .int .i64 h.m.s, .int .i64 h.m.e, .int .i64 h.m.d, .int .i64 h.m.t, .int .i64 h.m.q, .int .i64 h.m.r, vb, vo] ∧ NRow w v h.xs ∧ StRow w vb h.bx ∧ StRow w vo h.ox ∧ Fr B v ∧ Fr B vb ∧ Fr B vo
def EG (_ : Nat) (_ : World) (cs : List Value) (g : Gm) : Prop := cs.toArray = #[.int .i64 g.k, .int .i64 g.f, .int .i64 g.t, .int .i64 g.n, .string g.s] ∧ g.s.size ≤ maxLen
def EP (_ : Nat) (_ : World) (cs : List Value) (p : Pd) : Prop := cs.toArray = #[.int .i64 p.p, .int .i64 p.t, .string p.s] ∧ p.s.size ≤ maxLen
theorem stbH : Stb EH := ⟨fun _ _ _ _ _ ⟨v, vb, vo, h, r1, r2, r3, f1, f2, f3⟩ hk => ⟨v, vb, vo, h, r1.kp f1 hk, r2.kp f2 hk, r3.kp f3 hk, f1, f2, f3⟩, fun _ _ _ _ _ ⟨v, vb, vo, h, r1, r2, r3, f1, f2, f3⟩ hc => ⟨v, vb, vo, h, r1, r2, r3, f1.mono hc, f2.mono hc, f3.mono hc⟩⟩
theorem stbG : Stb EG := ⟨fun _ _ _ _ _ h _ => h, fun _ _ _ _ _ h _ => h⟩
theorem stbP : Stb EP := ⟨fun _ _ _ _ _ h _ => h, fun _ _ _ _ _ h _ => h⟩
def SmH (h : Hm) : Prop := h.xs.length ≤ 1048576 ∧ h.bx.length ≤ 1048576 ∧ h.ox.length ≤ 1048576 ∧ ∀ x ∈ h.bx, x.size ≤ 1048576
def SmG (_ : Gm) : Prop := True
def SmP (_ : Pd) : Prop := True
theorem Tryz.sizeHm : (Tryz.prog.info? 93).map (·.size) = some 12 := by kernel_rfl
theorem Tryz.sizeGm : (Tryz.prog.info? 141).map (·.size) = some 5 := by kernel_rfl
theorem Tryz.sizePd : (Tryz.prog.info? 142).map (·.size) = some 3 := by kernel_rfl
theorem Tryz.sizeLProc8 : (Tryz.prog.info? 112).map (·.size) = some 11 := by kernel_rfl
theorem Tryz.sizeLPc8 : (Tryz.prog.info? 121).map (·.size) = some 2 := by kernel_rfl
theorem StRow.szs {w : World} {v : Value} {xs : List ByteArray} (R : StRow w v xs) : ∀ x ∈ xs, x.size ≤ maxLen := by
  obtain ⟨_, _, _, _, _, h, _⟩ := R
  exact h
theorem NRow.szn {w : World} {v : Value} {xs : List Nd} (R : NRow w v xs) : ∀ x ∈ xs, x.s.size ≤ maxLen := by
  obtain ⟨_, _, _, _, _, h, _⟩ := R
  exact h
set_option maxRecDepth 100000 in
set_option maxHeartbeats 6400000 in
theorem tohome_any (h : Hm) (v vb vo : Value) (w : World) (R : NRow w v h.xs) (Rb : StRow w vb h.bx) (Ro : StRow w vo h.ox) (hs : SmH h) :
    Calls Tryz.prog 84 #[.agg #[.int .i64 h.pl, .int .i64 h.i, v, .int .i64 h.m.p, .int .i64 h.m.s, .int .i64 h.m.e, .int .i64 h.m.d, .int .i64 h.m.t, .int .i64 h.m.q, .int .i64 h.m.r, vb, vo]] w fun e w' => ∃ v1 v2 v3, e = .returned (.agg #[.int .i64 h.pl, .int .i64 h.i, v1, .int .i64 h.m.p, .int .i64 h.m.s, .int .i64 h.m.e, .int .i64 h.m.d, .int .i64 h.m.t, .int .i64 h.m.q, .int .i64 h.m.r, v2, v3]) ∧ NRow w' v1 h.xs ∧ StRow w' v2 h.bx ∧ StRow w' v3 h.ox ∧ Fr w.heap.size v1 ∧ Fr w.heap.size v2 ∧ Fr w.heap.size v3 ∧ Below w.heap.size w w' := by
  have hz1 := R.szn
  have hz2 := Rb.szs
  have hz3 := Ro.szs
  obtain ⟨ao, cap, rfl⟩ : ∃ ao cap, v = .slice ao h.xs.length cap := by obtain ⟨ao, cap, rfl, _⟩ := R; exact ⟨ao, cap, rfl⟩
  obtain ⟨ab, cb, rfl⟩ := Rb.small
  obtain ⟨ac, cc, rfl⟩ := Ro.small
  have hB : Below w.heap.size w (((w.alloc (Obj.cells #[.int .i64 h.pl, .int .i64 h.i, .slice ao h.xs.length cap, .int .i64 h.m.p, .int .i64 h.m.s, .int .i64 h.m.e, .int .i64 h.m.d, .int .i64 h.m.t, .int .i64 h.m.q, .int .i64 h.m.r, .slice ab h.bx.length cb, .slice ac h.ox.length cc] 114)).alloc (Obj.cells #[.int .i64 0, .int .i64 0, .slice none 0 0, .int .i64 0, .int .i64 0, .int .i64 0, .int .i64 0, .int .i64 0, .int .i64 0, .int .i64 0, .slice none 0 0, .slice none 0 0] 93)).alloc (Obj.cells #[.int .i64 0, .int .i64 0, .slice none 0 0, .int .i64 0, .int .i64 0, .int .i64 0, .int .i64 0, .int .i64 0, .int .i64 0, .int .i64 0, .slice none 0 0, .slice none 0 0] 93)) := (((Below.refl _ _).alloc (Nat.le_refl _) _).alloc (by simp) _).alloc (by simp; omega) _
  have hx : (((w.alloc (Obj.cells #[.int .i64 h.pl, .int .i64 h.i, .slice ao h.xs.length cap, .int .i64 h.m.p, .int .i64 h.m.s, .int .i64 h.m.e, .int .i64 h.m.d, .int .i64 h.m.t, .int .i64 h.m.q, .int .i64 h.m.r, .slice ab h.bx.length cb, .slice ac h.ox.length cc] 114)).alloc (Obj.cells #[.int .i64 0, .int .i64 0, .slice none 0 0, .int .i64 0, .int .i64 0, .int .i64 0, .int .i64 0, .int .i64 0, .int .i64 0, .int .i64 0, .slice none 0 0, .slice none 0 0] 93)).alloc (Obj.cells #[.int .i64 0, .int .i64 0, .slice none 0 0, .int .i64 0, .int .i64 0, .int .i64 0, .int .i64 0, .int .i64 0, .int .i64 0, .int .i64 0, .slice none 0 0, .slice none 0 0] 93)).heap[w.heap.size]? = some (Obj.cells #[.int .i64 h.pl, .int .i64 h.i, .slice ao h.xs.length cap, .int .i64 h.m.p, .int .i64 h.m.s, .int .i64 h.m.e, .int .i64 h.m.d, .int .i64 h.m.t, .int .i64 h.m.q, .int .i64 h.m.r, .slice ab h.bx.length cb, .slice ac h.ox.length cc] 114) := (heap_alloc_old _ _ (by simp; omega)).trans ((heap_alloc_old _ _ (by simp)).trans (heap_alloc_new _ _))
  have hy : (((w.alloc (Obj.cells #[.int .i64 h.pl, .int .i64 h.i, .slice ao h.xs.length cap, .int .i64 h.m.p, .int .i64 h.m.s, .int .i64 h.m.e, .int .i64 h.m.d, .int .i64 h.m.t, .int .i64 h.m.q, .int .i64 h.m.r, .slice ab h.bx.length cb, .slice ac h.ox.length cc] 114)).alloc (Obj.cells #[.int .i64 0, .int .i64 0, .slice none 0 0, .int .i64 0, .int .i64 0, .int .i64 0, .int .i64 0, .int .i64 0, .int .i64 0, .int .i64 0, .slice none 0 0, .slice none 0 0] 93)).alloc (Obj.cells #[.int .i64 0, .int .i64 0, .slice none 0 0, .int .i64 0, .int .i64 0, .int .i64 0, .int .i64 0, .int .i64 0, .int .i64 0, .int .i64 0, .slice none 0 0, .slice none 0 0] 93)).heap[w.heap.size + 1]? = some (Obj.cells #[.int .i64 0, .int .i64 0, .slice none 0 0, .int .i64 0, .int .i64 0, .int .i64 0, .int .i64 0, .int .i64 0, .int .i64 0, .int .i64 0, .slice none 0 0, .slice none 0 0] 93) := (heap_alloc_old _ _ (by simp)).trans (heap_alloc2_new _ _ _)
  have hv : (((w.alloc (Obj.cells #[.int .i64 h.pl, .int .i64 h.i, .slice ao h.xs.length cap, .int .i64 h.m.p, .int .i64 h.m.s, .int .i64 h.m.e, .int .i64 h.m.d, .int .i64 h.m.t, .int .i64 h.m.q, .int .i64 h.m.r, .slice ab h.bx.length cb, .slice ac h.ox.length cc] 114)).alloc (Obj.cells #[.int .i64 0, .int .i64 0, .slice none 0 0, .int .i64 0, .int .i64 0, .int .i64 0, .int .i64 0, .int .i64 0, .int .i64 0, .int .i64 0, .slice none 0 0, .slice none 0 0] 93)).alloc (Obj.cells #[.int .i64 0, .int .i64 0, .slice none 0 0, .int .i64 0, .int .i64 0, .int .i64 0, .int .i64 0, .int .i64 0, .int .i64 0, .int .i64 0, .slice none 0 0, .slice none 0 0] 93)).heap[w.heap.size + 2]? = some (Obj.cells #[.int .i64 0, .int .i64 0, .slice none 0 0, .int .i64 0, .int .i64 0, .int .i64 0, .int .i64 0, .int .i64 0, .int .i64 0, .int .i64 0, .slice none 0 0, .slice none 0 0] 93) := by
    have h := heap_alloc_new ((w.alloc (Obj.cells #[.int .i64 h.pl, .int .i64 h.i, .slice ao h.xs.length cap, .int .i64 h.m.p, .int .i64 h.m.s, .int .i64 h.m.e, .int .i64 h.m.d, .int .i64 h.m.t, .int .i64 h.m.q, .int .i64 h.m.r, .slice ab h.bx.length cb, .slice ac h.ox.length cc] 114)).alloc (Obj.cells #[.int .i64 0, .int .i64 0, .slice none 0 0, .int .i64 0, .int .i64 0, .int .i64 0, .int .i64 0, .int .i64 0, .int .i64 0, .int .i64 0, .slice none 0 0, .slice none 0 0] 93)) (Obj.cells #[.int .i64 0, .int .i64 0, .slice none 0 0, .int .i64 0, .int .i64 0, .int .i64 0, .int .i64 0, .int .i64 0, .int .i64 0, .int .i64 0, .slice none 0 0, .slice none 0 0] 93)
    simpa using h
  have hs3 : w.heap.size + 3 ≤ (((w.alloc (Obj.cells #[.int .i64 h.pl, .int .i64 h.i, .slice ao h.xs.length cap, .int .i64 h.m.p, .int .i64 h.m.s, .int .i64 h.m.e, .int .i64 h.m.d, .int .i64 h.m.t, .int .i64 h.m.q, .int .i64 h.m.r, .slice ab h.bx.length cb, .slice ac h.ox.length cc] 114)).alloc (Obj.cells #[.int .i64 0, .int .i64 0, .slice none 0 0, .int .i64 0, .int .i64 0, .int .i64 0, .int .i64 0, .int .i64 0, .int .i64 0, .int .i64 0, .slice none 0 0, .slice none 0 0] 93)).alloc (Obj.cells #[.int .i64 0, .int .i64 0, .slice none 0 0, .int .i64 0, .int .i64 0, .int .i64 0, .int .i64 0, .int .i64 0, .int .i64 0, .int .i64 0, .slice none 0 0, .slice none 0 0] 93)).heap.size := by simp
  go_enter Tryz.func84, Tryz.ntmps84
  go_wp2_with (refine wpList_store_at rfl 3 _ _ rfl (w.heap.size + 2) 0 (.int .i64 h.pl) #[.int .i64 h.pl] rfl rfl rfl rfl 93 #[.int .i64 0, .int .i64 0, .slice none 0 0, .int .i64 0, .int .i64 0, .int .i64 0, .int .i64 0, .int .i64 0, .int .i64 0, .int .i64 0, .slice none 0 0, .slice none 0 0] #[.int .i64 h.pl, .int .i64 0, .slice none 0 0, .int .i64 0, .int .i64 0, .int .i64 0, .int .i64 0, .int .i64 0, .int .i64 0, .int .i64 0, .slice none 0 0, .slice none 0 0] hv (by simp) (by kernel_rfl) rfl ?_)
  intro u1 hn hbl hsz hoth
  replace hx := (hoth w.heap.size (by omega)).trans hx
  replace hy := (hoth (w.heap.size + 1) (by omega)).trans hy
  replace hB := hB.trans (hbl.mono (by omega))
  replace hv := hn
  replace hs3 : w.heap.size + 3 ≤ u1.heap.size := by omega
  clear hn hbl hsz hoth
  go_wp2_with (refine wpList_load_sub rfl 112 _ rfl w.heap.size 1 rfl _ 114 #[.int .i64 h.i, .slice ao h.xs.length cap, .int .i64 h.m.p, .int .i64 h.m.s, .int .i64 h.m.e, .int .i64 h.m.d, .int .i64 h.m.t, .int .i64 h.m.q, .int .i64 h.m.r, .slice ab h.bx.length cb, .slice ac h.ox.length cc] _ hx rfl Tryz.underlying112 rfl Tryz.sizeLProc8 ?_)
  refine (toproc_any h.i _ _ _ h.xs h.m h.bx h.ox _ (R.below hB) (Rb.below hB) (Ro.below hB) (by have := hs.1; omega) (by have := hs.2.1; omega) (by have := hs.2.2.1; omega)).mono ?_
  rintro e w2 ⟨v1, v2, v3, rfl, O1, O2, O3, hap, hb⟩
  replace hx := (hb.block _ (Array.getElem?_eq_some_iff.1 hx).1).trans hx
  replace hy := (hb.block _ (Array.getElem?_eq_some_iff.1 hy).1).trans hy
  replace hv := (hb.block _ (Array.getElem?_eq_some_iff.1 hv).1).trans hv
  replace hB := hB.trans (hb.mono hB.size)
  have hsb := hb.size
  obtain ⟨p1, q1, rfl⟩ := own_form O1
  obtain ⟨p2, q2, rfl⟩ := own_form O2
  obtain ⟨p3, q3, rfl⟩ := own_form O3
  have F1 := (Fr.of_own O1).mono hs3
  have F2 := (Fr.of_own O2).mono hs3
  have F3 := (Fr.of_own O3).mono hs3
  have P1 := NRow.of_own O1 (by have := hs.1; omega) hz1
  have P2 := StRow.of_own O2 (by have := hs.2.1; omega) hz2
  have P3 := StRow.of_own O3 (by have := hs.2.2.1; omega) hz3
  clear O1 O2 O3 hap
  replace hs3 : w.heap.size + 3 ≤ w2.heap.size := Nat.le_trans hs3 hsb
  clear hb hsb
  go_wp2_with (refine wpList_store_sub rfl 88 _ _ rfl (w.heap.size + 2) 1 #[.int .i64 h.i, .slice p1 h.xs.length q1, .int .i64 h.m.p, .int .i64 h.m.s, .int .i64 h.m.e, .int .i64 h.m.d, .int .i64 h.m.t, .int .i64 h.m.q, .int .i64 h.m.r, .slice p2 h.bx.length q2, .slice p3 h.ox.length q3] rfl rfl 93 #[.int .i64 h.pl, .int .i64 0, .slice none 0 0, .int .i64 0, .int .i64 0, .int .i64 0, .int .i64 0, .int .i64 0, .int .i64 0, .int .i64 0, .slice none 0 0, .slice none 0 0] #[.int .i64 h.pl, .int .i64 h.i, .slice p1 h.xs.length q1, .int .i64 h.m.p, .int .i64 h.m.s, .int .i64 h.m.e, .int .i64 h.m.d, .int .i64 h.m.t, .int .i64 h.m.q, .int .i64 h.m.r, .slice p2 h.bx.length q2, .slice p3 h.ox.length q3] hv (by simp) Tryz.sizeProc (by simp [Value.oneCell']) rfl ?_)
  intro u2 hn hbl hsz hoth
  have hk : Kp (w.heap.size + 3) _ u2 := Kp.of_oth (by omega) hoth (by omega)
  replace P1 := P1.kp F1 hk
  replace P2 := P2.kp F2 hk
  replace P3 := P3.kp F3 hk
  replace hx := (hoth w.heap.size (by omega)).trans hx
  replace hy := (hoth (w.heap.size + 1) (by omega)).trans hy
  replace hB := hB.trans (hbl.mono (by omega))
  replace hv := hn
  replace hs3 : w.heap.size + 3 ≤ u2.heap.size := by omega
  clear hn hbl hsz hoth hk
  go_wp2_with (first
    | (refine wpList_load_row rfl 93 _ rfl (w.heap.size + 2) rfl 93 #[.int .i64 h.pl, .int .i64 h.i, .slice p1 h.xs.length q1, .int .i64 h.m.p, .int .i64 h.m.s, .int .i64 h.m.e, .int .i64 h.m.d, .int .i64 h.m.t, .int .i64 h.m.q, .int .i64 h.m.r, .slice p2 h.bx.length q2, .slice p3 h.ox.length q3] (0, 0) _ hv Tryz.underlying93 rfl Tryz.sizeHm ?_)
    | (refine wpList_store_own2 rfl 93 _ _ rfl (w.heap.size + 1) #[.int .i64 h.pl, .int .i64 h.i, .slice p1 h.xs.length q1, .int .i64 h.m.p, .int .i64 h.m.s, .int .i64 h.m.e, .int .i64 h.m.d, .int .i64 h.m.t, .int .i64 h.m.q, .int .i64 h.m.r, .slice p2 h.bx.length q2, .slice p3 h.ox.length q3] rfl rfl 93 #[.int .i64 0, .int .i64 0, .slice none 0 0, .int .i64 0, .int .i64 0, .int .i64 0, .int .i64 0, .int .i64 0, .int .i64 0, .int .i64 0, .slice none 0 0, .slice none 0 0] hy Tryz.sizeHm rfl (by simp [Value.oneCell']) ?_))
  intro w9 hh9 hb9 hs9 hoth9
  have hk : Kp (w.heap.size + 3) _ w9 := Kp.of_oth (by omega) hoth9 (by omega)
  replace P1 := P1.kp F1 hk
  replace P2 := P2.kp F2 hk
  replace P3 := P3.kp F3 hk
  have hB9 : Below w.heap.size w w9 := hB.trans (hb9.mono (by omega))
  go_wp2
  exact bodyPost_ret (results_cell_row rfl _ _ (w.heap.size + 1) 93 _ (0, 0) _ rfl hh9 Tryz.underlying93 rfl Tryz.sizeHm) rfl ⟨_, _, _, rfl, P1, P2, P3, F1.mono (by omega), F2.mono (by omega), F3.mono (by omega), hB9⟩
set_option maxRecDepth 100000 in
set_option maxHeartbeats 6400000 in
theorem togram_any (g : Gm) (w : World) :
    Calls Tryz.prog 86 #[.agg #[.int .i64 g.k, .int .i64 g.f, .int .i64 g.t, .int .i64 g.n, .string g.s]] w fun e w' => e = .returned (.agg #[.int .i64 g.k, .int .i64 g.f, .int .i64 g.t, .int .i64 g.n, .string g.s]) ∧ Below w.heap.size w w' := by
  have hB : Below w.heap.size w (((w.alloc (Obj.cells #[.int .i64 g.k, .int .i64 g.f, .int .i64 g.t, .int .i64 g.n, .string g.s] 123)).alloc (Obj.cells #[.int .i64 0, .int .i64 0, .int .i64 0, .int .i64 0, .string ByteArray.empty] 141)).alloc (Obj.cells #[.int .i64 0, .int .i64 0, .int .i64 0, .int .i64 0, .string ByteArray.empty] 141)) := (((Below.refl _ _).alloc (Nat.le_refl _) _).alloc (by simp) _).alloc (by simp; omega) _
  have hx : (((w.alloc (Obj.cells #[.int .i64 g.k, .int .i64 g.f, .int .i64 g.t, .int .i64 g.n, .string g.s] 123)).alloc (Obj.cells #[.int .i64 0, .int .i64 0, .int .i64 0, .int .i64 0, .string ByteArray.empty] 141)).alloc (Obj.cells #[.int .i64 0, .int .i64 0, .int .i64 0, .int .i64 0, .string ByteArray.empty] 141)).heap[w.heap.size]? = some (Obj.cells #[.int .i64 g.k, .int .i64 g.f, .int .i64 g.t, .int .i64 g.n, .string g.s] 123) := (heap_alloc_old _ _ (by simp; omega)).trans ((heap_alloc_old _ _ (by simp)).trans (heap_alloc_new _ _))
  have hy : (((w.alloc (Obj.cells #[.int .i64 g.k, .int .i64 g.f, .int .i64 g.t, .int .i64 g.n, .string g.s] 123)).alloc (Obj.cells #[.int .i64 0, .int .i64 0, .int .i64 0, .int .i64 0, .string ByteArray.empty] 141)).alloc (Obj.cells #[.int .i64 0, .int .i64 0, .int .i64 0, .int .i64 0, .string ByteArray.empty] 141)).heap[w.heap.size + 1]? = some (Obj.cells #[.int .i64 0, .int .i64 0, .int .i64 0, .int .i64 0, .string ByteArray.empty] 141) := (heap_alloc_old _ _ (by simp)).trans (heap_alloc2_new _ _ _)
  have hv : (((w.alloc (Obj.cells #[.int .i64 g.k, .int .i64 g.f, .int .i64 g.t, .int .i64 g.n, .string g.s] 123)).alloc (Obj.cells #[.int .i64 0, .int .i64 0, .int .i64 0, .int .i64 0, .string ByteArray.empty] 141)).alloc (Obj.cells #[.int .i64 0, .int .i64 0, .int .i64 0, .int .i64 0, .string ByteArray.empty] 141)).heap[w.heap.size + 2]? = some (Obj.cells #[.int .i64 0, .int .i64 0, .int .i64 0, .int .i64 0, .string ByteArray.empty] 141) := by
    have h := heap_alloc_new ((w.alloc (Obj.cells #[.int .i64 g.k, .int .i64 g.f, .int .i64 g.t, .int .i64 g.n, .string g.s] 123)).alloc (Obj.cells #[.int .i64 0, .int .i64 0, .int .i64 0, .int .i64 0, .string ByteArray.empty] 141)) (Obj.cells #[.int .i64 0, .int .i64 0, .int .i64 0, .int .i64 0, .string ByteArray.empty] 141)
    simpa using h
  have hs3 : w.heap.size + 3 ≤ (((w.alloc (Obj.cells #[.int .i64 g.k, .int .i64 g.f, .int .i64 g.t, .int .i64 g.n, .string g.s] 123)).alloc (Obj.cells #[.int .i64 0, .int .i64 0, .int .i64 0, .int .i64 0, .string ByteArray.empty] 141)).alloc (Obj.cells #[.int .i64 0, .int .i64 0, .int .i64 0, .int .i64 0, .string ByteArray.empty] 141)).heap.size := by simp
  go_enter Tryz.func86, Tryz.ntmps86
  go_wp2_with (refine wpList_store_at rfl 3 _ _ rfl (w.heap.size + 2) 0 (.int .i64 g.k) #[.int .i64 g.k] rfl rfl rfl rfl 141 #[.int .i64 0, .int .i64 0, .int .i64 0, .int .i64 0, .string ByteArray.empty] #[.int .i64 g.k, .int .i64 0, .int .i64 0, .int .i64 0, .string ByteArray.empty] hv (by simp) (by kernel_rfl) rfl ?_)
  intro u1 hn hbl hsz hoth
  replace hx := (hoth w.heap.size (by omega)).trans hx
  replace hy := (hoth (w.heap.size + 1) (by omega)).trans hy
  replace hB := hB.trans (hbl.mono (by omega))
  replace hv := hn
  replace hs3 : w.heap.size + 3 ≤ u1.heap.size := by omega
  clear hn hbl hsz hoth
  have kc : u1.cell? ⟨w.heap.size, 0 + 1, none⟩ = some (.int .i64 g.f) := cell_of_row u1 _ 1 _ _ _ hx
  go_wp2_with (refine wpList_store_at rfl 3 _ _ rfl (w.heap.size + 2) 1 (.int .i64 g.f) #[.int .i64 g.f] rfl rfl rfl rfl 141 #[.int .i64 g.k, .int .i64 0, .int .i64 0, .int .i64 0, .string ByteArray.empty] #[.int .i64 g.k, .int .i64 g.f, .int .i64 0, .int .i64 0, .string ByteArray.empty] hv (by simp) (by kernel_rfl) rfl ?_)
  intro u2 hn hbl hsz hoth
  replace hx := (hoth w.heap.size (by omega)).trans hx
  replace hy := (hoth (w.heap.size + 1) (by omega)).trans hy
  replace hB := hB.trans (hbl.mono (by omega))
  replace hv := hn
  replace hs3 : w.heap.size + 3 ≤ u2.heap.size := by omega
  clear hn hbl hsz hoth kc
  have kc : u2.cell? ⟨w.heap.size, 0 + 2, none⟩ = some (.int .i64 g.t) := cell_of_row u2 _ 2 _ _ _ hx
  go_wp2_with (refine wpList_store_at rfl 3 _ _ rfl (w.heap.size + 2) 2 (.int .i64 g.t) #[.int .i64 g.t] rfl rfl rfl rfl 141 #[.int .i64 g.k, .int .i64 g.f, .int .i64 0, .int .i64 0, .string ByteArray.empty] #[.int .i64 g.k, .int .i64 g.f, .int .i64 g.t, .int .i64 0, .string ByteArray.empty] hv (by simp) (by kernel_rfl) rfl ?_)
  intro u3 hn hbl hsz hoth
  replace hx := (hoth w.heap.size (by omega)).trans hx
  replace hy := (hoth (w.heap.size + 1) (by omega)).trans hy
  replace hB := hB.trans (hbl.mono (by omega))
  replace hv := hn
  replace hs3 : w.heap.size + 3 ≤ u3.heap.size := by omega
  clear hn hbl hsz hoth kc
  go_wp2_with (refine wpList_load_sub rfl 121 _ rfl w.heap.size 3 rfl _ 123 #[.int .i64 g.n, .string g.s] _ hx rfl Tryz.underlying121 rfl Tryz.sizeLPc8 ?_)
  refine (topc_any ⟨g.n, g.s⟩ _).mono ?_
  rintro e w4 ⟨rfl, hb⟩
  replace hx := (hb.block _ (Array.getElem?_eq_some_iff.1 hx).1).trans hx
  replace hy := (hb.block _ (Array.getElem?_eq_some_iff.1 hy).1).trans hy
  replace hv := (hb.block _ (Array.getElem?_eq_some_iff.1 hv).1).trans hv
  replace hB := hB.trans (hb.mono hB.size)
  have hsb := hb.size
  replace hs3 : w.heap.size + 3 ≤ w4.heap.size := Nat.le_trans hs3 hsb
  clear hb hsb
  go_wp2_with (refine wpList_store_sub rfl 139 _ _ rfl (w.heap.size + 2) 3 #[.int .i64 g.n, .string g.s] rfl rfl 141 #[.int .i64 g.k, .int .i64 g.f, .int .i64 g.t, .int .i64 0, .string ByteArray.empty] #[.int .i64 g.k, .int .i64 g.f, .int .i64 g.t, .int .i64 g.n, .string g.s] hv (by simp) Tryz.sizePc (by simp [Value.oneCell']) rfl ?_)
  intro u4 hn hbl hsz hoth
  replace hx := (hoth w.heap.size (by omega)).trans hx
  replace hy := (hoth (w.heap.size + 1) (by omega)).trans hy
  replace hB := hB.trans (hbl.mono (by omega))
  replace hv := hn
  replace hs3 : w.heap.size + 3 ≤ u4.heap.size := by omega
  clear hn hbl hsz hoth
  go_wp2_with (first
    | (refine wpList_load_row rfl 141 _ rfl (w.heap.size + 2) rfl 141 #[.int .i64 g.k, .int .i64 g.f, .int .i64 g.t, .int .i64 g.n, .string g.s] (0, 0) _ hv Tryz.underlying141 rfl Tryz.sizeGm ?_)
    | (refine wpList_store_own2 rfl 141 _ _ rfl (w.heap.size + 1) #[.int .i64 g.k, .int .i64 g.f, .int .i64 g.t, .int .i64 g.n, .string g.s] rfl rfl 141 #[.int .i64 0, .int .i64 0, .int .i64 0, .int .i64 0, .string ByteArray.empty] hy Tryz.sizeGm rfl (by simp [Value.oneCell']) ?_))
  intro w9 hh9 hb9 hs9 hoth9
  have hB9 : Below w.heap.size w w9 := hB.trans (hb9.mono (by omega))
  go_wp2
  exact bodyPost_ret (results_cell_row rfl _ _ (w.heap.size + 1) 141 _ (0, 0) _ rfl hh9 Tryz.underlying141 rfl Tryz.sizeGm) rfl ⟨rfl, hB9⟩
set_option maxRecDepth 100000 in
set_option maxHeartbeats 6400000 in
theorem toparked_any (p : Pd) (w : World) :
    Calls Tryz.prog 87 #[.agg #[.int .i64 p.p, .int .i64 p.t, .string p.s]] w fun e w' => e = .returned (.agg #[.int .i64 p.p, .int .i64 p.t, .string p.s]) ∧ Below w.heap.size w w' := by
  have hB : Below w.heap.size w (((w.alloc (Obj.cells #[.int .i64 p.p, .int .i64 p.t, .string p.s] 126)).alloc (Obj.cells #[.int .i64 0, .int .i64 0, .string ByteArray.empty] 142)).alloc (Obj.cells #[.int .i64 0, .int .i64 0, .string ByteArray.empty] 142)) := (((Below.refl _ _).alloc (Nat.le_refl _) _).alloc (by simp) _).alloc (by simp; omega) _
  have hx : (((w.alloc (Obj.cells #[.int .i64 p.p, .int .i64 p.t, .string p.s] 126)).alloc (Obj.cells #[.int .i64 0, .int .i64 0, .string ByteArray.empty] 142)).alloc (Obj.cells #[.int .i64 0, .int .i64 0, .string ByteArray.empty] 142)).heap[w.heap.size]? = some (Obj.cells #[.int .i64 p.p, .int .i64 p.t, .string p.s] 126) := (heap_alloc_old _ _ (by simp; omega)).trans ((heap_alloc_old _ _ (by simp)).trans (heap_alloc_new _ _))
  have hy : (((w.alloc (Obj.cells #[.int .i64 p.p, .int .i64 p.t, .string p.s] 126)).alloc (Obj.cells #[.int .i64 0, .int .i64 0, .string ByteArray.empty] 142)).alloc (Obj.cells #[.int .i64 0, .int .i64 0, .string ByteArray.empty] 142)).heap[w.heap.size + 1]? = some (Obj.cells #[.int .i64 0, .int .i64 0, .string ByteArray.empty] 142) := (heap_alloc_old _ _ (by simp)).trans (heap_alloc2_new _ _ _)
  have hv : (((w.alloc (Obj.cells #[.int .i64 p.p, .int .i64 p.t, .string p.s] 126)).alloc (Obj.cells #[.int .i64 0, .int .i64 0, .string ByteArray.empty] 142)).alloc (Obj.cells #[.int .i64 0, .int .i64 0, .string ByteArray.empty] 142)).heap[w.heap.size + 2]? = some (Obj.cells #[.int .i64 0, .int .i64 0, .string ByteArray.empty] 142) := by
    have h := heap_alloc_new ((w.alloc (Obj.cells #[.int .i64 p.p, .int .i64 p.t, .string p.s] 126)).alloc (Obj.cells #[.int .i64 0, .int .i64 0, .string ByteArray.empty] 142)) (Obj.cells #[.int .i64 0, .int .i64 0, .string ByteArray.empty] 142)
    simpa using h
  have hs3 : w.heap.size + 3 ≤ (((w.alloc (Obj.cells #[.int .i64 p.p, .int .i64 p.t, .string p.s] 126)).alloc (Obj.cells #[.int .i64 0, .int .i64 0, .string ByteArray.empty] 142)).alloc (Obj.cells #[.int .i64 0, .int .i64 0, .string ByteArray.empty] 142)).heap.size := by simp
  go_enter Tryz.func87, Tryz.ntmps87
  go_wp2_with (refine wpList_store_at rfl 3 _ _ rfl (w.heap.size + 2) 0 (.int .i64 p.p) #[.int .i64 p.p] rfl rfl rfl rfl 142 #[.int .i64 0, .int .i64 0, .string ByteArray.empty] #[.int .i64 p.p, .int .i64 0, .string ByteArray.empty] hv (by simp) (by kernel_rfl) rfl ?_)
  intro u1 hn hbl hsz hoth
  replace hx := (hoth w.heap.size (by omega)).trans hx
  replace hy := (hoth (w.heap.size + 1) (by omega)).trans hy
  replace hB := hB.trans (hbl.mono (by omega))
  replace hv := hn
  replace hs3 : w.heap.size + 3 ≤ u1.heap.size := by omega
  clear hn hbl hsz hoth
  have kc : u1.cell? ⟨w.heap.size, 0 + 1, none⟩ = some (.int .i64 p.t) := cell_of_row u1 _ 1 _ _ _ hx
  go_wp2_with (refine wpList_store_at rfl 3 _ _ rfl (w.heap.size + 2) 1 (.int .i64 p.t) #[.int .i64 p.t] rfl rfl rfl rfl 142 #[.int .i64 p.p, .int .i64 0, .string ByteArray.empty] #[.int .i64 p.p, .int .i64 p.t, .string ByteArray.empty] hv (by simp) (by kernel_rfl) rfl ?_)
  intro u2 hn hbl hsz hoth
  replace hx := (hoth w.heap.size (by omega)).trans hx
  replace hy := (hoth (w.heap.size + 1) (by omega)).trans hy
  replace hB := hB.trans (hbl.mono (by omega))
  replace hv := hn
  replace hs3 : w.heap.size + 3 ≤ u2.heap.size := by omega
  clear hn hbl hsz hoth kc
  have kc : u2.cell? ⟨w.heap.size, 0 + 2, none⟩ = some (.string p.s) := cell_of_row u2 _ 2 _ _ _ hx
  go_wp2_with (refine wpList_store_at rfl 9 _ _ rfl (w.heap.size + 2) 2 (.string p.s) #[.string p.s] rfl rfl rfl rfl 142 #[.int .i64 p.p, .int .i64 p.t, .string ByteArray.empty] #[.int .i64 p.p, .int .i64 p.t, .string p.s] hv (by simp) (by kernel_rfl) rfl ?_)
  intro u3 hn hbl hsz hoth
  replace hx := (hoth w.heap.size (by omega)).trans hx
  replace hy := (hoth (w.heap.size + 1) (by omega)).trans hy
  replace hB := hB.trans (hbl.mono (by omega))
  replace hv := hn
  replace hs3 : w.heap.size + 3 ≤ u3.heap.size := by omega
  clear hn hbl hsz hoth kc
  go_wp2_with (first
    | (refine wpList_load_row rfl 142 _ rfl (w.heap.size + 2) rfl 142 #[.int .i64 p.p, .int .i64 p.t, .string p.s] (0, 0) _ hv Tryz.underlying142 rfl Tryz.sizePd ?_)
    | (refine wpList_store_own2 rfl 142 _ _ rfl (w.heap.size + 1) #[.int .i64 p.p, .int .i64 p.t, .string p.s] rfl rfl 142 #[.int .i64 0, .int .i64 0, .string ByteArray.empty] hy Tryz.sizePd rfl (by simp [Value.oneCell']) ?_))
  intro w9 hh9 hb9 hs9 hoth9
  have hB9 : Below w.heap.size w w9 := hB.trans (hb9.mono (by omega))
  go_wp2
  exact bodyPost_ret (results_cell_row rfl _ _ (w.heap.size + 1) 142 _ (0, 0) _ rfl hh9 Tryz.underlying142 rfl Tryz.sizePd) rfl ⟨rfl, hB9⟩
set_option maxRecDepth 100000 in
set_option maxHeartbeats 1600000 in
theorem szhome_any (h : Hm) (v vb vo : Value) (l : Int) (w : World) (R : NRow w v h.xs) (Rb : StRow w vb h.bx) (Ro : StRow w vo h.ox) (hl0 : 0 ≤ l) (hl1 : l ≤ 1048576) :
    Calls Tryz.prog 73 #[.agg #[.int .i64 h.pl, .int .i64 h.i, v, .int .i64 h.m.p, .int .i64 h.m.s, .int .i64 h.m.e, .int .i64 h.m.d, .int .i64 h.m.t, .int .i64 h.m.q, .int .i64 h.m.r, vb, vo], .int .i64 l] w fun e w' => ∃ r : Int, e = .returned (.int .i64 r) ∧ -1 ≤ r ∧ r ≤ 1048576 ∧ (0 ≤ r → SmH h) ∧ Below w.heap.size w w' := by
  obtain ⟨ao, cap, rfl⟩ : ∃ ao cap, v = .slice ao h.xs.length cap := by obtain ⟨ao, cap, rfl, _⟩ := R; exact ⟨ao, cap, rfl⟩
  obtain ⟨ab, cb, rfl⟩ := Rb.small
  obtain ⟨ac, cc, rfl⟩ := Ro.small
  have hB0 : Below w.heap.size w (w.alloc (Obj.cells #[.int .i64 h.pl, .int .i64 h.i, .slice ao h.xs.length cap, .int .i64 h.m.p, .int .i64 h.m.s, .int .i64 h.m.e, .int .i64 h.m.d, .int .i64 h.m.t, .int .i64 h.m.q, .int .i64 h.m.r, .slice ab h.bx.length cb, .slice ac h.ox.length cc] 114)) := (Below.refl _ _).alloc (Nat.le_refl _) _
  have hx : (w.alloc (Obj.cells #[.int .i64 h.pl, .int .i64 h.i, .slice ao h.xs.length cap, .int .i64 h.m.p, .int .i64 h.m.s, .int .i64 h.m.e, .int .i64 h.m.d, .int .i64 h.m.t, .int .i64 h.m.q, .int .i64 h.m.r, .slice ab h.bx.length cb, .slice ac h.ox.length cc] 114)).heap[w.heap.size]? = some (Obj.cells #[.int .i64 h.pl, .int .i64 h.i, .slice ao h.xs.length cap, .int .i64 h.m.p, .int .i64 h.m.s, .int .i64 h.m.e, .int .i64 h.m.d, .int .i64 h.m.t, .int .i64 h.m.q, .int .i64 h.m.r, .slice ab h.bx.length cb, .slice ac h.ox.length cc] 114) := heap_alloc_new _ _
  go_enter Tryz.func73, Tryz.ntmps73
  go_wp2_with (refine wpList_load_sub rfl 112 _ rfl w.heap.size 1 rfl _ 114 #[.int .i64 h.i, .slice ao h.xs.length cap, .int .i64 h.m.p, .int .i64 h.m.s, .int .i64 h.m.e, .int .i64 h.m.d, .int .i64 h.m.t, .int .i64 h.m.q, .int .i64 h.m.r, .slice ab h.bx.length cb, .slice ac h.ox.length cc] _ hx rfl Tryz.underlying112 rfl Tryz.sizeLProc8 ?_)
  refine (szproc_gen l hl0 hl1 h.i _ _ _ h.xs h.m h.bx h.ox _ (R.below hB0) (Rb.below hB0) (Ro.below hB0)).mono ?_
  rintro e w1 ⟨r, rfl, h0, h1, h2, hb⟩
  have hB1 := hB0.trans (hb.mono hB0.size)
  clear hB0 hx hb
  by_cases hr : r < 0
  · have HR : Hid (r = -1) := by unfold Hid; omega
    go_wp2
    go_ret
    exact ⟨-1, rfl, by omega, by omega, fun h => by omega, hB1⟩
  · have h2 := h2 (by omega)
    go_wp2
    go_ret
    exact ⟨r, rfl, by omega, by omega, fun _ => ⟨h2.1.1, h2.2.1.1, h2.2.2.1, h2.2.1.2⟩, hB1⟩
set_option maxRecDepth 100000 in
set_option maxHeartbeats 1600000 in
theorem szgram_any (g : Gm) (l : Int) (w : World) (hs : g.s.size ≤ maxLen) (hl0 : 0 ≤ l) (hl1 : l ≤ 1048576) :
    Calls Tryz.prog 75 #[.agg #[.int .i64 g.k, .int .i64 g.f, .int .i64 g.t, .int .i64 g.n, .string g.s], .int .i64 l] w fun e w' => ∃ r : Int, e = .returned (.int .i64 r) ∧ -1 ≤ r ∧ r ≤ 1048576 ∧ (0 ≤ r → SmG g) ∧ Below w.heap.size w w' := by
  have hB0 : Below w.heap.size w (w.alloc (Obj.cells #[.int .i64 g.k, .int .i64 g.f, .int .i64 g.t, .int .i64 g.n, .string g.s] 123)) := (Below.refl _ _).alloc (Nat.le_refl _) _
  have hx : (w.alloc (Obj.cells #[.int .i64 g.k, .int .i64 g.f, .int .i64 g.t, .int .i64 g.n, .string g.s] 123)).heap[w.heap.size]? = some (Obj.cells #[.int .i64 g.k, .int .i64 g.f, .int .i64 g.t, .int .i64 g.n, .string g.s] 123) := heap_alloc_new _ _
  have hs2 : g.s.size ≤ 9223372036854775807 := by unfold maxLen at hs; omega
  go_enter Tryz.func75, Tryz.ntmps75
  go_wp2_with (refine wpList_load_sub rfl 121 _ rfl w.heap.size 3 rfl _ 123 #[.int .i64 g.n, .string g.s] _ hx rfl Tryz.underlying121 rfl Tryz.sizeLPc8 ?_)
  refine (szpc_any ⟨g.n, g.s⟩ l _ hs hl0 hl1).mono ?_
  rintro e w1 ⟨rfl, hb⟩
  have hB1 := hB0.trans (hb.mono hB0.size)
  clear hB0 hx hb
  by_cases hr : l < g.s.size
  · have HR : Hid (less l g.s.size = -1) := by unfold Hid less; rw [if_pos hr]
    rw [show less l (Pc.mk g.n g.s).s.size = -1 from HR.out]
    go_wp2
    go_ret
    exact ⟨-1, rfl, by omega, by omega, fun h => by omega, hB1⟩
  · have HR : Hid (less l g.s.size = l - g.s.size) := by unfold Hid less; rw [if_neg hr]
    rw [show less l (Pc.mk g.n g.s).s.size = l - g.s.size from HR.out]
    go_wp2
    go_ret
    exact ⟨_, rfl, by omega, by omega, fun _ => trivial, hB1⟩
set_option maxRecDepth 100000 in
set_option maxHeartbeats 1600000 in
theorem szparked_any (p : Pd) (l : Int) (w : World) (hs : p.s.size ≤ maxLen) (hl0 : 0 ≤ l) (hl1 : l ≤ 1048576) :
    Calls Tryz.prog 76 #[.agg #[.int .i64 p.p, .int .i64 p.t, .string p.s], .int .i64 l] w fun e w' => ∃ r : Int, e = .returned (.int .i64 r) ∧ -1 ≤ r ∧ r ≤ 1048576 ∧ (0 ≤ r → SmP p) ∧ Below w.heap.size w w' := by
  have hs2 : p.s.size ≤ 9223372036854775807 := by unfold maxLen at hs; omega
  have hB0 : Below w.heap.size w (w.alloc (Obj.cells #[.int .i64 p.p, .int .i64 p.t, .string p.s] 126)) := (Below.refl _ _).alloc (Nat.le_refl _) _
  go_enter Tryz.func76, Tryz.ntmps76
  by_cases hr : l < p.s.size
  · go_wp2
    go_ret
    exact ⟨-1, rfl, by omega, by omega, fun h => by omega, hB0⟩
  · go_wp2
    go_ret
    exact ⟨_, rfl, by omega, by omega, fun _ => trivial, hB0⟩
set_option maxRecDepth 100000 in
set_option maxHeartbeats 1600000 in
theorem eqhome_any (h : Hm) (v vb vo u ub uo : Value) (w : World) (R : NRow w v h.xs) (Rb : StRow w vb h.bx) (Ro : StRow w vo h.ox) (S : NRow w u h.xs) (Sb : StRow w ub h.bx) (So : StRow w uo h.ox) :
    Calls Tryz.prog 96 #[.agg #[.int .i64 h.pl, .int .i64 h.i, v, .int .i64 h.m.p, .int .i64 h.m.s, .int .i64 h.m.e, .int .i64 h.m.d, .int .i64 h.m.t, .int .i64 h.m.q, .int .i64 h.m.r, vb, vo], .agg #[.int .i64 h.pl, .int .i64 h.i, u, .int .i64 h.m.p, .int .i64 h.m.s, .int .i64 h.m.e, .int .i64 h.m.d, .int .i64 h.m.t, .int .i64 h.m.q, .int .i64 h.m.r, ub, uo]] w fun e w' => e = .returned (.bool true) ∧ Below w.heap.size w w' := by
  obtain ⟨ao, cap, rfl⟩ : ∃ ao cap, v = .slice ao h.xs.length cap := by obtain ⟨ao, cap, rfl, _⟩ := R; exact ⟨ao, cap, rfl⟩
  obtain ⟨ab, cb, rfl⟩ := Rb.small
  obtain ⟨ac, cc, rfl⟩ := Ro.small
  obtain ⟨p1, q1, rfl⟩ : ∃ ao cap, u = .slice ao h.xs.length cap := by obtain ⟨ao, cap, rfl, _⟩ := S; exact ⟨ao, cap, rfl⟩
  obtain ⟨p2, q2, rfl⟩ := Sb.small
  obtain ⟨p3, q3, rfl⟩ := So.small
  obtain ⟨hB0, hx, hy⟩ := two_boxes w (Obj.cells #[.int .i64 h.pl, .int .i64 h.i, .slice ao h.xs.length cap, .int .i64 h.m.p, .int .i64 h.m.s, .int .i64 h.m.e, .int .i64 h.m.d, .int .i64 h.m.t, .int .i64 h.m.q, .int .i64 h.m.r, .slice ab h.bx.length cb, .slice ac h.ox.length cc] 93) (Obj.cells #[.int .i64 h.pl, .int .i64 h.i, .slice p1 h.xs.length q1, .int .i64 h.m.p, .int .i64 h.m.s, .int .i64 h.m.e, .int .i64 h.m.d, .int .i64 h.m.t, .int .i64 h.m.q, .int .i64 h.m.r, .slice p2 h.bx.length q2, .slice p3 h.ox.length q3] 93)
  go_enter Tryz.func96, Tryz.ntmps96
  go_wp2_with (first
    | (refine wpList_load_sub rfl 88 _ rfl w.heap.size 1 rfl _ 93 #[.int .i64 h.i, .slice ao h.xs.length cap, .int .i64 h.m.p, .int .i64 h.m.s, .int .i64 h.m.e, .int .i64 h.m.d, .int .i64 h.m.t, .int .i64 h.m.q, .int .i64 h.m.r, .slice ab h.bx.length cb, .slice ac h.ox.length cc] _ hx rfl Tryz.underlying88 rfl Tryz.sizeProc ?_)
    | (refine wpList_load_sub rfl 88 _ rfl (w.heap.size + 1) 1 rfl _ 93 #[.int .i64 h.i, .slice p1 h.xs.length q1, .int .i64 h.m.p, .int .i64 h.m.s, .int .i64 h.m.e, .int .i64 h.m.d, .int .i64 h.m.t, .int .i64 h.m.q, .int .i64 h.m.r, .slice p2 h.bx.length q2, .slice p3 h.ox.length q3] _ hy rfl Tryz.underlying88 rfl Tryz.sizeProc ?_))
  refine (eqproc_any h.i _ _ _ _ _ _ h.xs h.m h.bx h.ox _ (R.below hB0) (Rb.below hB0) (Ro.below hB0) (S.below hB0) (Sb.below hB0) (So.below hB0)).mono ?_
  rintro e w1 ⟨rfl, hb⟩
  have hB1 := hB0.trans (hb.mono hB0.size)
  clear hB0 hx hy hb
  go_wp2
  go_ret
  exact ⟨rfl, hB1⟩
set_option maxRecDepth 100000 in
set_option maxHeartbeats 1600000 in
theorem eqgram_any (g : Gm) (w : World) :
    Calls Tryz.prog 98 #[.agg #[.int .i64 g.k, .int .i64 g.f, .int .i64 g.t, .int .i64 g.n, .string g.s], .agg #[.int .i64 g.k, .int .i64 g.f, .int .i64 g.t, .int .i64 g.n, .string g.s]] w fun e w' => e = .returned (.bool true) ∧ Below w.heap.size w w' := by
  obtain ⟨hB0, hx, hy⟩ := two_boxes w (Obj.cells #[.int .i64 g.k, .int .i64 g.f, .int .i64 g.t, .int .i64 g.n, .string g.s] 141) (Obj.cells #[.int .i64 g.k, .int .i64 g.f, .int .i64 g.t, .int .i64 g.n, .string g.s] 141)
  go_enter Tryz.func98, Tryz.ntmps98
  go_wp2_with (first
    | (refine wpList_load_sub rfl 139 _ rfl w.heap.size 3 rfl _ 141 #[.int .i64 g.n, .string g.s] _ hx rfl Tryz.underlying139 rfl Tryz.sizePc ?_)
    | (refine wpList_load_sub rfl 139 _ rfl (w.heap.size + 1) 3 rfl _ 141 #[.int .i64 g.n, .string g.s] _ hy rfl Tryz.underlying139 rfl Tryz.sizePc ?_))
  refine (eqpc_any ⟨g.n, g.s⟩ _).mono ?_
  rintro e w1 ⟨rfl, hb⟩
  have hB1 := hB0.trans (hb.mono hB0.size)
  clear hB0 hx hy hb
  go_wp2
  go_ret
  exact ⟨rfl, hB1⟩
set_option maxRecDepth 100000 in
set_option maxHeartbeats 1600000 in
theorem eqparked_any (p : Pd) (w : World) :
    Calls Tryz.prog 99 #[.agg #[.int .i64 p.p, .int .i64 p.t, .string p.s], .agg #[.int .i64 p.p, .int .i64 p.t, .string p.s]] w fun e w' => e = .returned (.bool true) ∧ Below w.heap.size w w' := by
  obtain ⟨hB0, hx, hy⟩ := two_boxes w (Obj.cells #[.int .i64 p.p, .int .i64 p.t, .string p.s] 142) (Obj.cells #[.int .i64 p.p, .int .i64 p.t, .string p.s] 142)
  clear hx hy
  go_enter Tryz.func99, Tryz.ntmps99
  go_wp2
  go_ret
  exact ⟨rfl, hB0⟩
end Go.Proofs.YtenegpbpalbpeaaGreatDoor
