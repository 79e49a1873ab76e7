/-
  A new process: ProcNew on both sides. No condition.
-/
import Derived.Test.YtmbomhcnmjhbnaaGreatDoorSzGenM
import Derived.Test.YtmbomhcnmjhbnaaGreatDoorMNew2M
namespace Go.Proofs.YtmbomhcnmjhbnaaGreatDoor
open Go.RowKit

/-- Is there a new process of that name and number? -/
def pnB (ns : List Nd) (is : List In) (ds : List Df) (s : ByteArray) (i : Int) : Bool := (newD ns is ds s).isSome && procB0 ns is ds i (newL (newD ns is ds s)) (newM (newD ns is ds s))
def pnI (ns : List Nd) (is : List In) (ds : List Df) (s : ByteArray) (i : Int) : Int := if pnB ns is ds s i then i else 0
def pnD (ns : List Nd) (is : List In) (ds : List Df) (s : ByteArray) (i : Int) : Option Df := if pnB ns is ds s i then newD ns is ds s else none
theorem pn_yes {ns : List Nd} {is : List In} {ds : List Df} {s : ByteArray} {i : Int} (h : pnB ns is ds s i = true) : pnI ns is ds s i = i ∧ pnD ns is ds s i = newD ns is ds s := by simp [pnI, pnD, h]
theorem pn_no {ns : List Nd} {is : List In} {ds : List Df} {s : ByteArray} {i : Int} (h : pnB ns is ds s i = false) : pnI ns is ds s i = 0 ∧ pnD ns is ds s i = none := by simp [pnI, pnD, h]
theorem newL_fits (d : Option Df) : (newL d).length ≤ 2 ∧ ∀ y ∈ newL d, y.s.size ≤ maxLen := by
  cases d with
  | none => simp [newL]
  | some d => simp [newL]
/-- What ProcNew answers. -/
def PnAns (B : Nat) (I : Int) (M : Mc) (L : List Nd) (ok : Bool) (e : Ending) (w' : World) : Prop :=
  ∃ v', e = .returned (.tuple #[.agg #[.int .i64 I, v', .int .i64 M.p, .int .i64 M.s, .int .i64 M.e, .int .i64 M.d, .int .i64 M.t, .int .i64 M.q, .int .i64 M.r, .slice none 0 0, .slice none 0 0], .bool ok]) ∧ w'.ownsRow B 64 5 v' L.length (ncs L)

set_option maxRecDepth 100000 in
set_option maxHeartbeats 6400000 in
theorem iprocnew_any (v1 v2 v3 : Value) (ns : List Nd) (is : List In) (ds : List Df) (s : ByteArray) (i : Int) (w : World) (R1 : NRow w v1 ns) (R2 : InRow w v2 is) (R3 : DfRow w v3 ds) :
    Calls Tryz.prog 6 #[.agg #[v1, v2, v3], .string s, .int .i64 i] w fun e w' => PnAns w.heap.size (pnI ns is ds s i) (newM (pnD ns is ds s i)) (newL (pnD ns is ds s i)) (pnB ns is ds s i) e w' ∧ Below w.heap.size w w' := by
  obtain ⟨a1, c1, rfl⟩ := R1.small
  obtain ⟨a2, c2, rfl⟩ := R2.small
  obtain ⟨a3, c3, rfl⟩ := R3.small
  obtain ⟨hB0, hx0, hy0⟩ := two_boxes w (Obj.cells #[.slice a1 ns.length c1, .slice a2 is.length c2, .slice a3 ds.length c3] 30) (Obj.cells #[.int .i64 0, .slice none 0 0, .int .i64 0, .int .i64 0, .int .i64 0, .int .i64 0, .int .i64 0, .int .i64 0, .int .i64 0, .slice none 0 0, .slice none 0 0] 37)
  obtain ⟨hlL, hzL⟩ := newL_fits (newD ns is ds s)
  have HC := imachnew_any _ _ _ ns is ds s _ (R1.below hB0) (R2.below hB0) (R3.below hB0)
  have HP : Hid (pnB ns is ds s i = ((newD ns is ds s).isSome && procB0 ns is ds i (newL (newD ns is ds s)) (newM (newD ns is ds s)))) := rfl
  have HY := fun h => pn_yes (ns := ns) (is := is) (ds := ds) (s := s) (i := i) h
  generalize newD ns is ds s = D at HC HP HY hlL hzL
  obtain ⟨L, hL⟩ : ∃ L, Hid (newL D = L) := ⟨_, rfl⟩
  obtain ⟨M, hM⟩ : ∃ M, Hid (newM D = M) := ⟨_, rfl⟩
  rw [hL.out, hM.out] at HC
  rw [hL.out] at hlL hzL
  replace HP : Hid (pnB ns is ds s i = (D.isSome && procB0 ns is ds i L M)) := by unfold Hid; rw [HP.out, hL.out, hM.out]
  go_enter Tryz.func6, Tryz.ntmps6
  go_wp2_with fail
  refine HC.mono ?_
  rintro e w1 ⟨v', rfl, O1, hb1⟩
  obtain ⟨ao, cap, rfl⟩ := own_form O1
  replace O1 := own_mono (B' := w.heap.size + 2) O1 (by simp)
  have hB1 := hB0.trans (hb1.mono hB0.size)
  have hx1 := blk_bel hx0 hb1
  have hy1 := blk_bel hy0 hb1
  clear hB0 hx0 hy0 hb1 HC
  have q1 := blk_lt hy1
  go_wp2_with (refine wpList_store_own2 rfl 34 _ _ rfl w1.heap.size #[.slice ao L.length cap, .int .i64 M.p, .int .i64 M.s, .int .i64 M.e, .int .i64 M.d, .int .i64 M.t, .int .i64 M.q, .int .i64 M.r] rfl rfl 34 #[.slice none 0 0, .int .i64 0, .int .i64 0, .int .i64 0, .int .i64 0, .int .i64 0, .int .i64 0, .int .i64 0] (heap_alloc_new _ _) Tryz.sizeMach rfl (by simp [Value.oneCell']) ?_)
  intro w2 hm2 hb2 hs2 hk2
  have hb : Below w1.heap.size w1 w2 := ((Below.refl _ _).alloc (Nat.le_refl _) _).trans hb2
  have O2 := own_below O1 hb
  have hB2 := hB1.trans (hb.mono hB1.size)
  have hx2 := blk_bel hx1 hb
  have hy2 := blk_bel hy1 hb
  clear hb2 hs2 hk2 hb O1 hB1 hx1 hy1
  generalize w1.heap.size = bm at *
  go_wp2_with (first
    | (refine wpList_load_row rfl 34 _ rfl bm rfl 34 #[.slice ao L.length cap, .int .i64 M.p, .int .i64 M.s, .int .i64 M.e, .int .i64 M.d, .int .i64 M.t, .int .i64 M.q, .int .i64 M.r] (0, 0) _ hm2 Tryz.underlying34 rfl Tryz.sizeMach ?_)
    | (refine wpList_store_own2 rfl 37 _ _ rfl w2.heap.size #[.int .i64 i, .slice ao L.length cap, .int .i64 M.p, .int .i64 M.s, .int .i64 M.e, .int .i64 M.d, .int .i64 M.t, .int .i64 M.q, .int .i64 M.r, .slice none 0 0, .slice none 0 0] rfl rfl 37 #[.int .i64 0, .slice none 0 0, .int .i64 0, .int .i64 0, .int .i64 0, .int .i64 0, .int .i64 0, .int .i64 0, .int .i64 0, .slice none 0 0, .slice none 0 0] (heap_alloc_new _ _) Tryz.sizeProc rfl (by simp [Value.oneCell']) ?_))
  intro w3 hp3 hb3 hs3 hk3
  have hb : Below w2.heap.size w2 w3 := ((Below.refl _ _).alloc (Nat.le_refl _) _).trans hb3
  have O3 := own_below O2 hb
  have hB3 := hB2.trans (hb.mono hB2.size)
  have hx3 := blk_bel hx2 hb
  have hy3 := blk_bel hy2 hb
  clear hb3 hs3 hk3 hb O2 hB2 hx2 hy2 hm2
  generalize w2.heap.size = bp at *
  cases hD : D.isSome with
  | false =>
    have HN : Hid (pnB ns is ds s i = false) := by unfold Hid; rw [HP.out, hD]; rfl
    have l3 := blk_lt hy3
    go_wp2_with (refine wpList_store_own2 rfl 37 _ _ rfl (w.heap.size + 1) #[.int .i64 0, .slice none 0 0, .int .i64 0, .int .i64 0, .int .i64 0, .int .i64 0, .int .i64 0, .int .i64 0, .int .i64 0, .slice none 0 0, .slice none 0 0] rfl rfl 37 #[.int .i64 0, .slice none 0 0, .int .i64 0, .int .i64 0, .int .i64 0, .int .i64 0, .int .i64 0, .int .i64 0, .int .i64 0, .slice none 0 0, .slice none 0 0] hy3 Tryz.sizeProc rfl (by simp [Value.oneCell']) ?_)
    intro wB hvB hbB hsB hkB
    go_wp2
    refine bodyPost_ret (results_row_tmp rfl _ _ (w.heap.size + 1) 37 _ (0, 0) _ rfl hvB Tryz.underlying37 rfl Tryz.sizeProc) rfl ⟨by rw [(pn_no HN.out).1, (pn_no HN.out).2, HN.out]; exact ⟨.slice none 0 0, rfl, ⟨rfl, Or.inl ⟨rfl, rfl⟩⟩⟩, hB3.trans (hbB.mono (by omega))⟩
  | true =>
    have c0 : w3.cell? ⟨w.heap.size, 0, none⟩ = some (.slice a1 ns.length c1) := cell_of_row w3 _ 0 _ _ _ hx3
    have c1' : w3.cell? ⟨w.heap.size, 0 + 1, none⟩ = some (.slice a2 is.length c2) := cell_of_row w3 _ 1 _ _ _ hx3
    have c2' : w3.cell? ⟨w.heap.size, 0 + 2, none⟩ = some (.slice a3 ds.length c3) := cell_of_row w3 _ 2 _ _ _ hx3
    have k0 : w3.cell? ⟨bp, 0, none⟩ = some (.int .i64 i) := cell_of_row w3 _ 0 _ _ _ hp3
    have k1 : w3.cell? ⟨bp, 0 + 1, none⟩ = some (.slice ao L.length cap) := cell_of_row w3 _ 1 _ _ _ hp3
    have k2 : w3.cell? ⟨bp, 0 + 2, none⟩ = some (.int .i64 M.p) := cell_of_row w3 _ 2 _ _ _ hp3
    have k3 : w3.cell? ⟨bp, 0 + 3, none⟩ = some (.int .i64 M.s) := cell_of_row w3 _ 3 _ _ _ hp3
    have k4 : w3.cell? ⟨bp, 0 + 4, none⟩ = some (.int .i64 M.e) := cell_of_row w3 _ 4 _ _ _ hp3
    have k5 : w3.cell? ⟨bp, 0 + 5, none⟩ = some (.int .i64 M.d) := cell_of_row w3 _ 5 _ _ _ hp3
    have k6 : w3.cell? ⟨bp, 0 + 6, none⟩ = some (.int .i64 M.t) := cell_of_row w3 _ 6 _ _ _ hp3
    have k7 : w3.cell? ⟨bp, 0 + 7, none⟩ = some (.int .i64 M.q) := cell_of_row w3 _ 7 _ _ _ hp3
    have k8 : w3.cell? ⟨bp, 0 + 8, none⟩ = some (.int .i64 M.r) := cell_of_row w3 _ 8 _ _ _ hp3
    have k9 : w3.cell? ⟨bp, 0 + 9, none⟩ = some (.slice none 0 0) := cell_of_row w3 _ 9 _ _ _ hp3
    have k10 : w3.cell? ⟨bp, 0 + 10, none⟩ = some (.slice none 0 0) := cell_of_row w3 _ 10 _ _ _ hp3
    go_wp2_with fail
    refine (iprocok0_any _ _ _ _ ns is ds i L M _ (R1.below hB3) (R2.below hB3) (R3.below hB3) (NRow.of_own O3 (by omega) hzL)).mono ?_
    rintro e w4 ⟨rfl, hb4⟩
    have O4 := own_below O3 hb4
    have hB4 := hB3.trans (hb4.mono hB3.size)
    have hy4 := blk_bel hy3 hb4
    have hp4 := blk_bel hp3 hb4
    clear hB3 hx3 hy3 hp3 hb4 O3 c0 c1' c2' k0 k1 k2 k3 k4 k5 k6 k7 k8 k9 k10
    have l4 := blk_lt hy4
    cases hP : procB0 ns is ds i L M with
    | false =>
      have HN : Hid (pnB ns is ds s i = false) := by unfold Hid; rw [HP.out, hP]; simp
      go_wp2_with (refine wpList_store_own2 rfl 37 _ _ rfl (w.heap.size + 1) #[.int .i64 0, .slice none 0 0, .int .i64 0, .int .i64 0, .int .i64 0, .int .i64 0, .int .i64 0, .int .i64 0, .int .i64 0, .slice none 0 0, .slice none 0 0] rfl rfl 37 #[.int .i64 0, .slice none 0 0, .int .i64 0, .int .i64 0, .int .i64 0, .int .i64 0, .int .i64 0, .int .i64 0, .int .i64 0, .slice none 0 0, .slice none 0 0] hy4 Tryz.sizeProc rfl (by simp [Value.oneCell']) ?_)
      intro wB hvB hbB hsB hkB
      go_wp2
      refine bodyPost_ret (results_row_tmp rfl _ _ (w.heap.size + 1) 37 _ (0, 0) _ rfl hvB Tryz.underlying37 rfl Tryz.sizeProc) rfl ⟨by rw [(pn_no HN.out).1, (pn_no HN.out).2, HN.out]; exact ⟨.slice none 0 0, rfl, ⟨rfl, Or.inl ⟨rfl, rfl⟩⟩⟩, hB4.trans (hbB.mono (by omega))⟩
    | true =>
      have HN : Hid (pnB ns is ds s i = true) := by unfold Hid; rw [HP.out, hP, hD]; rfl
      go_wp2_with (first
        | (refine wpList_load_row rfl 37 _ rfl bp rfl 37 #[.int .i64 i, .slice ao L.length cap, .int .i64 M.p, .int .i64 M.s, .int .i64 M.e, .int .i64 M.d, .int .i64 M.t, .int .i64 M.q, .int .i64 M.r, .slice none 0 0, .slice none 0 0] (0, 0) _ hp4 Tryz.underlying37 rfl Tryz.sizeProc ?_)
        | (refine wpList_store_own2 rfl 37 _ _ rfl (w.heap.size + 1) #[.int .i64 i, .slice ao L.length cap, .int .i64 M.p, .int .i64 M.s, .int .i64 M.e, .int .i64 M.d, .int .i64 M.t, .int .i64 M.q, .int .i64 M.r, .slice none 0 0, .slice none 0 0] rfl rfl 37 #[.int .i64 0, .slice none 0 0, .int .i64 0, .int .i64 0, .int .i64 0, .int .i64 0, .int .i64 0, .int .i64 0, .int .i64 0, .slice none 0 0, .slice none 0 0] hy4 Tryz.sizeProc rfl (by simp [Value.oneCell']) ?_))
      intro wB hvB hbB hsB hkB
      have O5 := own_mono (B' := w.heap.size) (own_keep O4 (by omega) hkB) (by omega)
      go_wp2
      refine bodyPost_ret (results_row_tmp rfl _ _ (w.heap.size + 1) 37 _ (0, 0) _ rfl hvB Tryz.underlying37 rfl Tryz.sizeProc) rfl ⟨by rw [(HY HN.out).1, (HY HN.out).2, HN.out, hM.out, hL.out]; exact ⟨_, rfl, O5⟩, hB4.trans (hbB.mono (by omega))⟩

set_option maxRecDepth 100000 in
set_option maxHeartbeats 6400000 in
theorem sprocnew_any (v1 v2 v3 : Value) (ns : List Nd) (is : List In) (ds : List Df) (s : ByteArray) (i : Int) (w : World) (R1 : NRow w v1 ns) (R2 : InRow w v2 is) (R3 : DfRow w v3 ds) :
    Calls Tryz.prog 7 #[.agg #[v1, v2, v3], .string s, .int .i64 i] w fun e w' => PnAns w.heap.size (pnI ns is ds s i) (newM (pnD ns is ds s i)) (newL (pnD ns is ds s i)) (pnB ns is ds s i) e w' ∧ Below w.heap.size w w' := by
  obtain ⟨a1, c1, rfl⟩ := R1.small
  obtain ⟨a2, c2, rfl⟩ := R2.small
  obtain ⟨a3, c3, rfl⟩ := R3.small
  obtain ⟨hB0, hx0, hy0⟩ := two_boxes w (Obj.cells #[.slice a1 ns.length c1, .slice a2 is.length c2, .slice a3 ds.length c3] 30) (Obj.cells #[.int .i64 0, .slice none 0 0, .int .i64 0, .int .i64 0, .int .i64 0, .int .i64 0, .int .i64 0, .int .i64 0, .int .i64 0, .slice none 0 0, .slice none 0 0] 37)
  obtain ⟨hlL, hzL⟩ := newL_fits (newD ns is ds s)
  have HC := smachnew_any _ _ _ ns is ds s _ (R1.below hB0) (R2.below hB0) (R3.below hB0)
  have HP : Hid (pnB ns is ds s i = ((newD ns is ds s).isSome && procB0 ns is ds i (newL (newD ns is ds s)) (newM (newD ns is ds s)))) := rfl
  have HY := fun h => pn_yes (ns := ns) (is := is) (ds := ds) (s := s) (i := i) h
  generalize newD ns is ds s = D at HC HP HY hlL hzL
  obtain ⟨L, hL⟩ : ∃ L, Hid (newL D = L) := ⟨_, rfl⟩
  obtain ⟨M, hM⟩ : ∃ M, Hid (newM D = M) := ⟨_, rfl⟩
  rw [hL.out, hM.out] at HC
  rw [hL.out] at hlL hzL
  replace HP : Hid (pnB ns is ds s i = (D.isSome && procB0 ns is ds i L M)) := by unfold Hid; rw [HP.out, hL.out, hM.out]
  go_enter Tryz.func7, Tryz.ntmps7
  go_wp2_with fail
  refine HC.mono ?_
  rintro e w1 ⟨v', rfl, O1, hb1⟩
  obtain ⟨ao, cap, rfl⟩ := own_form O1
  replace O1 := own_mono (B' := w.heap.size + 2) O1 (by simp)
  have hB1 := hB0.trans (hb1.mono hB0.size)
  have hx1 := blk_bel hx0 hb1
  have hy1 := blk_bel hy0 hb1
  clear hB0 hx0 hy0 hb1 HC
  have q1 := blk_lt hy1
  go_wp2_with (refine wpList_store_own2 rfl 34 _ _ rfl w1.heap.size #[.slice ao L.length cap, .int .i64 M.p, .int .i64 M.s, .int .i64 M.e, .int .i64 M.d, .int .i64 M.t, .int .i64 M.q, .int .i64 M.r] rfl rfl 34 #[.slice none 0 0, .int .i64 0, .int .i64 0, .int .i64 0, .int .i64 0, .int .i64 0, .int .i64 0, .int .i64 0] (heap_alloc_new _ _) Tryz.sizeMach rfl (by simp [Value.oneCell']) ?_)
  intro w2 hm2 hb2 hs2 hk2
  have hb : Below w1.heap.size w1 w2 := ((Below.refl _ _).alloc (Nat.le_refl _) _).trans hb2
  have O2 := own_below O1 hb
  have hB2 := hB1.trans (hb.mono hB1.size)
  have hx2 := blk_bel hx1 hb
  have hy2 := blk_bel hy1 hb
  clear hb2 hs2 hk2 hb O1 hB1 hx1 hy1
  generalize w1.heap.size = bm at *
  go_wp2_with (first
    | (refine wpList_load_row rfl 34 _ rfl bm rfl 34 #[.slice ao L.length cap, .int .i64 M.p, .int .i64 M.s, .int .i64 M.e, .int .i64 M.d, .int .i64 M.t, .int .i64 M.q, .int .i64 M.r] (0, 0) _ hm2 Tryz.underlying34 rfl Tryz.sizeMach ?_)
    | (refine wpList_store_own2 rfl 37 _ _ rfl w2.heap.size #[.int .i64 i, .slice ao L.length cap, .int .i64 M.p, .int .i64 M.s, .int .i64 M.e, .int .i64 M.d, .int .i64 M.t, .int .i64 M.q, .int .i64 M.r, .slice none 0 0, .slice none 0 0] rfl rfl 37 #[.int .i64 0, .slice none 0 0, .int .i64 0, .int .i64 0, .int .i64 0, .int .i64 0, .int .i64 0, .int .i64 0, .int .i64 0, .slice none 0 0, .slice none 0 0] (heap_alloc_new _ _) Tryz.sizeProc rfl (by simp [Value.oneCell']) ?_))
  intro w3 hp3 hb3 hs3 hk3
  have hb : Below w2.heap.size w2 w3 := ((Below.refl _ _).alloc (Nat.le_refl _) _).trans hb3
  have O3 := own_below O2 hb
  have hB3 := hB2.trans (hb.mono hB2.size)
  have hx3 := blk_bel hx2 hb
  have hy3 := blk_bel hy2 hb
  clear hb3 hs3 hk3 hb O2 hB2 hx2 hy2 hm2
  generalize w2.heap.size = bp at *
  cases hD : D.isSome with
  | false =>
    have HN : Hid (pnB ns is ds s i = false) := by unfold Hid; rw [HP.out, hD]; rfl
    have l3 := blk_lt hy3
    go_wp2_with (refine wpList_store_own2 rfl 37 _ _ rfl (w.heap.size + 1) #[.int .i64 0, .slice none 0 0, .int .i64 0, .int .i64 0, .int .i64 0, .int .i64 0, .int .i64 0, .int .i64 0, .int .i64 0, .slice none 0 0, .slice none 0 0] rfl rfl 37 #[.int .i64 0, .slice none 0 0, .int .i64 0, .int .i64 0, .int .i64 0, .int .i64 0, .int .i64 0, .int .i64 0, .int .i64 0, .slice none 0 0, .slice none 0 0] hy3 Tryz.sizeProc rfl (by simp [Value.oneCell']) ?_)
    intro wB hvB hbB hsB hkB
    go_wp2
    refine bodyPost_ret (results_row_tmp rfl _ _ (w.heap.size + 1) 37 _ (0, 0) _ rfl hvB Tryz.underlying37 rfl Tryz.sizeProc) rfl ⟨by rw [(pn_no HN.out).1, (pn_no HN.out).2, HN.out]; exact ⟨.slice none 0 0, rfl, ⟨rfl, Or.inl ⟨rfl, rfl⟩⟩⟩, hB3.trans (hbB.mono (by omega))⟩
  | true =>
    have c0 : w3.cell? ⟨w.heap.size, 0, none⟩ = some (.slice a1 ns.length c1) := cell_of_row w3 _ 0 _ _ _ hx3
    have c1' : w3.cell? ⟨w.heap.size, 0 + 1, none⟩ = some (.slice a2 is.length c2) := cell_of_row w3 _ 1 _ _ _ hx3
    have c2' : w3.cell? ⟨w.heap.size, 0 + 2, none⟩ = some (.slice a3 ds.length c3) := cell_of_row w3 _ 2 _ _ _ hx3
    have k0 : w3.cell? ⟨bp, 0, none⟩ = some (.int .i64 i) := cell_of_row w3 _ 0 _ _ _ hp3
    have k1 : w3.cell? ⟨bp, 0 + 1, none⟩ = some (.slice ao L.length cap) := cell_of_row w3 _ 1 _ _ _ hp3
    have k2 : w3.cell? ⟨bp, 0 + 2, none⟩ = some (.int .i64 M.p) := cell_of_row w3 _ 2 _ _ _ hp3
    have k3 : w3.cell? ⟨bp, 0 + 3, none⟩ = some (.int .i64 M.s) := cell_of_row w3 _ 3 _ _ _ hp3
    have k4 : w3.cell? ⟨bp, 0 + 4, none⟩ = some (.int .i64 M.e) := cell_of_row w3 _ 4 _ _ _ hp3
    have k5 : w3.cell? ⟨bp, 0 + 5, none⟩ = some (.int .i64 M.d) := cell_of_row w3 _ 5 _ _ _ hp3
    have k6 : w3.cell? ⟨bp, 0 + 6, none⟩ = some (.int .i64 M.t) := cell_of_row w3 _ 6 _ _ _ hp3
    have k7 : w3.cell? ⟨bp, 0 + 7, none⟩ = some (.int .i64 M.q) := cell_of_row w3 _ 7 _ _ _ hp3
    have k8 : w3.cell? ⟨bp, 0 + 8, none⟩ = some (.int .i64 M.r) := cell_of_row w3 _ 8 _ _ _ hp3
    have k9 : w3.cell? ⟨bp, 0 + 9, none⟩ = some (.slice none 0 0) := cell_of_row w3 _ 9 _ _ _ hp3
    have k10 : w3.cell? ⟨bp, 0 + 10, none⟩ = some (.slice none 0 0) := cell_of_row w3 _ 10 _ _ _ hp3
    go_wp2_with fail
    refine (sprocok0_any _ _ _ _ ns is ds i L M _ (R1.below hB3) (R2.below hB3) (R3.below hB3) (NRow.of_own O3 (by omega) hzL)).mono ?_
    rintro e w4 ⟨rfl, hb4⟩
    have O4 := own_below O3 hb4
    have hB4 := hB3.trans (hb4.mono hB3.size)
    have hy4 := blk_bel hy3 hb4
    have hp4 := blk_bel hp3 hb4
    clear hB3 hx3 hy3 hp3 hb4 O3 c0 c1' c2' k0 k1 k2 k3 k4 k5 k6 k7 k8 k9 k10
    have l4 := blk_lt hy4
    cases hP : procB0 ns is ds i L M with
    | false =>
      have HN : Hid (pnB ns is ds s i = false) := by unfold Hid; rw [HP.out, hP]; simp
      go_wp2_with (refine wpList_store_own2 rfl 37 _ _ rfl (w.heap.size + 1) #[.int .i64 0, .slice none 0 0, .int .i64 0, .int .i64 0, .int .i64 0, .int .i64 0, .int .i64 0, .int .i64 0, .int .i64 0, .slice none 0 0, .slice none 0 0] rfl rfl 37 #[.int .i64 0, .slice none 0 0, .int .i64 0, .int .i64 0, .int .i64 0, .int .i64 0, .int .i64 0, .int .i64 0, .int .i64 0, .slice none 0 0, .slice none 0 0] hy4 Tryz.sizeProc rfl (by simp [Value.oneCell']) ?_)
      intro wB hvB hbB hsB hkB
      go_wp2
      refine bodyPost_ret (results_row_tmp rfl _ _ (w.heap.size + 1) 37 _ (0, 0) _ rfl hvB Tryz.underlying37 rfl Tryz.sizeProc) rfl ⟨by rw [(pn_no HN.out).1, (pn_no HN.out).2, HN.out]; exact ⟨.slice none 0 0, rfl, ⟨rfl, Or.inl ⟨rfl, rfl⟩⟩⟩, hB4.trans (hbB.mono (by omega))⟩
    | true =>
      have HN : Hid (pnB ns is ds s i = true) := by unfold Hid; rw [HP.out, hP, hD]; rfl
      go_wp2_with (first
        | (refine wpList_load_row rfl 37 _ rfl bp rfl 37 #[.int .i64 i, .slice ao L.length cap, .int .i64 M.p, .int .i64 M.s, .int .i64 M.e, .int .i64 M.d, .int .i64 M.t, .int .i64 M.q, .int .i64 M.r, .slice none 0 0, .slice none 0 0] (0, 0) _ hp4 Tryz.underlying37 rfl Tryz.sizeProc ?_)
        | (refine wpList_store_own2 rfl 37 _ _ rfl (w.heap.size + 1) #[.int .i64 i, .slice ao L.length cap, .int .i64 M.p, .int .i64 M.s, .int .i64 M.e, .int .i64 M.d, .int .i64 M.t, .int .i64 M.q, .int .i64 M.r, .slice none 0 0, .slice none 0 0] rfl rfl 37 #[.int .i64 0, .slice none 0 0, .int .i64 0, .int .i64 0, .int .i64 0, .int .i64 0, .int .i64 0, .int .i64 0, .int .i64 0, .slice none 0 0, .slice none 0 0] hy4 Tryz.sizeProc rfl (by simp [Value.oneCell']) ?_))
      intro wB hvB hbB hsB hkB
      have O5 := own_mono (B' := w.heap.size) (own_keep O4 (by omega) hkB) (by omega)
      go_wp2
      refine bodyPost_ret (results_row_tmp rfl _ _ (w.heap.size + 1) 37 _ (0, 0) _ rfl hvB Tryz.underlying37 rfl Tryz.sizeProc) rfl ⟨by rw [(HY HN.out).1, (HY HN.out).2, HN.out, hM.out, hL.out]; exact ⟨_, rfl, O5⟩, hB4.trans (hbB.mono (by omega))⟩
theorem pn_true {ns : List Nd} {is : List In} {ds : List Df} {s : ByteArray} {i : Int} (h : pnB ns is ds s i = true) : procB0 ns is ds (pnI ns is ds s i) (newL (pnD ns is ds s i)) (newM (pnD ns is ds s i)) = true ∧ (newM (pnD ns is ds s i)).t = 0 := by
  obtain ⟨e1, e2⟩ := pn_yes h
  rw [e1, e2]
  simp only [pnB, Bool.and_eq_true] at h
  refine ⟨h.2, ?_⟩
  cases hd : newD ns is ds s with
  | none => rw [hd] at h; cases h.1
  | some d => rfl
end Go.Proofs.YtmbomhcnmjhbnaaGreatDoor
