/-
  Texts that stood by themselves, laid into one.
-/
import Derived.Test.YtbhfooafhbfniaaGreatDoorPrOkSM
import Derived.Test.YtbhfooafhbfniaaGreatDoorMNew2M
import Derived.Test.YtbhfooafhbfniaaGreatDoorPrRegM
import Derived.Test.YtbhfooafhbfniaaGreatDoorWnCM
import Derived.Test.YtbhfooafhbfniaaGreatDoorInstrM
/-
  A new process: ProcNew on both sides. The variable errors.errorType reads as it is laid.
-/
namespace Go.Proofs.YtbhfooafhbfniaaGreatDoor
open Go.RowKit
def pnB (ns : List Nd) (is : List In) (ds : List Df) (s : ByteArray) (i : Int) : Bool := (newD ns is ds s).isSome && procB ns is ds i (newL (newD ns is ds s)) (newM (newD ns is ds s)) [] []
def pnI (ns : List Nd) (is : List In) (ds : List Df) (s : ByteArray) (i : Int) : Int := if pnB ns is ds s i then i else 0
def pnD (ns : List Nd) (is : List In) (ds : List Df) (s : ByteArray) (i : Int) : Option Df := if pnB ns is ds s i then newD ns is ds s else none
theorem pn_yes {ns : List Nd} {is : List In} {ds : List Df} {s : ByteArray} {i : Int} (h : pnB ns is ds s i = true) : pnI ns is ds s i = i ∧ pnD ns is ds s i = newD ns is ds s := by simp [pnI, pnD, h]
theorem pn_no {ns : List Nd} {is : List In} {ds : List Df} {s : ByteArray} {i : Int} (h : pnB ns is ds s i = false) : pnI ns is ds s i = 0 ∧ pnD ns is ds s i = none := by simp [pnI, pnD, h]
theorem StRow.nil (w : World) : StRow w (.slice none 0 0) [] := ⟨none, 0, rfl, by simp, by simp, by simp, fun h => absurd rfl h⟩
theorem newL_fits (d : Option Df) : (newL d).length ≤ 2 ∧ ∀ y ∈ newL d, y.s.size ≤ maxLen := by
  cases d with
  | none => simp [newL]
  | some d => simp [newL]
def PnAns (B : Nat) (I : Int) (M : Mc) (L : List Nd) (ok : Bool) (e : Ending) (w' : World) : Prop :=
  ∃ v', e = .returned (.tuple #[.agg #[.int .i64 I, v', .int .i64 M.p, .int .i64 M.s, .int .i64 M.e, .int .i64 M.d, .int .i64 M.t, .int .i64 M.q, .int .i64 M.r, .slice none 0 0, .slice none 0 0], .bool ok]) ∧ w'.ownsRow B 130 5 v' L.length (ncs L)
set_option maxRecDepth 100000 in
set_option maxHeartbeats 6400000 in
theorem iprocnew_any (v1 v2 v3 : Value) (ns : List Nd) (is : List In) (ds : List Df) (s : ByteArray) (i : Int) (w : World) (R1 : NRow w v1 ns) (R2 : InRow w v2 is) (R3 : DfRow w v3 ds) (hg : ErrT w) :
    Calls Tryz.prog 25 #[.agg #[v1, v2, v3], .string s, .int .i64 i] w fun e w' => PnAns w.heap.size (pnI ns is ds s i) (newM (pnD ns is ds s i)) (newL (pnD ns is ds s i)) (pnB ns is ds s i) e w' ∧ Below w.heap.size w w' := by
  obtain ⟨a1, c1, rfl⟩ := R1.small
  obtain ⟨a2, c2, rfl⟩ := R2.small
  obtain ⟨a3, c3, rfl⟩ := R3.small
  obtain ⟨hB0, hx0, hy0⟩ := two_boxes w (Obj.cells #[.slice a1 ns.length c1, .slice a2 is.length c2, .slice a3 ds.length c3] 36) (Obj.cells #[.int .i64 0, .slice none 0 0, .int .i64 0, .int .i64 0, .int .i64 0, .int .i64 0, .int .i64 0, .int .i64 0, .int .i64 0, .slice none 0 0, .slice none 0 0] 59)
  obtain ⟨hlL, hzL⟩ := newL_fits (newD ns is ds s)
  have HC := imachnew_any _ _ _ ns is ds s _ (R1.below hB0) (R2.below hB0) (R3.below hB0)
  have HP : Hid (pnB ns is ds s i = ((newD ns is ds s).isSome && procB ns is ds i (newL (newD ns is ds s)) (newM (newD ns is ds s)) [] [])) := rfl
  have HY := fun h => pn_yes (ns := ns) (is := is) (ds := ds) (s := s) (i := i) h
  generalize newD ns is ds s = D at HC HP HY hlL hzL
  obtain ⟨L, hL⟩ : ∃ L, Hid (newL D = L) := ⟨_, rfl⟩
  obtain ⟨M, hM⟩ : ∃ M, Hid (newM D = M) := ⟨_, rfl⟩
  rw [hL.out, hM.out] at HC
  rw [hL.out] at hlL hzL
  replace HP : Hid (pnB ns is ds s i = (D.isSome && procB ns is ds i L M [] [])) := by unfold Hid; rw [HP.out, hL.out, hM.out]
  go_enter Tryz.func25, Tryz.ntmps25
  go_wp2_with fail
  refine HC.mono ?_
  rintro e w1 ⟨v', rfl, O1, hb1⟩
  obtain ⟨ao, cap, rfl⟩ := own_form O1
  replace O1 := own_mono (B' := w.heap.size + 2) O1 (by simp)
  have hB1 := hB0.trans (hb1.mono hB0.size)
  have hx1 := blk_bel hx0 hb1
  have hy1 := blk_bel hy0 hb1
  clear hB0 hx0 hy0 hb1 HC
  have q1 := blk_lt hy1
  go_wp2_with (refine wpList_store_own2 rfl 56 _ _ rfl w1.heap.size #[.slice ao L.length cap, .int .i64 M.p, .int .i64 M.s, .int .i64 M.e, .int .i64 M.d, .int .i64 M.t, .int .i64 M.q, .int .i64 M.r] rfl rfl 56 #[.slice none 0 0, .int .i64 0, .int .i64 0, .int .i64 0, .int .i64 0, .int .i64 0, .int .i64 0, .int .i64 0] (heap_alloc_new _ _) Tryz.sizeMach rfl (by simp [Value.oneCell']) ?_)
  intro w2 hm2 hb2 hs2 hk2
  have hb : Below w1.heap.size w1 w2 := ((Below.refl _ _).alloc (Nat.le_refl _) _).trans hb2
  have O2 := own_below O1 hb
  have hB2 := hB1.trans (hb.mono hB1.size)
  have hx2 := blk_bel hx1 hb
  have hy2 := blk_bel hy1 hb
  clear hb2 hs2 hk2 hb O1 hB1 hx1 hy1
  generalize w1.heap.size = bm at *
  go_wp2_with (first
    | (refine wpList_load_row rfl 56 _ rfl bm rfl 56 #[.slice ao L.length cap, .int .i64 M.p, .int .i64 M.s, .int .i64 M.e, .int .i64 M.d, .int .i64 M.t, .int .i64 M.q, .int .i64 M.r] (0, 0) _ hm2 Tryz.underlying56 rfl Tryz.sizeMach ?_)
    | (refine wpList_store_own2 rfl 59 _ _ rfl w2.heap.size #[.int .i64 i, .slice ao L.length cap, .int .i64 M.p, .int .i64 M.s, .int .i64 M.e, .int .i64 M.d, .int .i64 M.t, .int .i64 M.q, .int .i64 M.r, .slice none 0 0, .slice none 0 0] rfl rfl 59 #[.int .i64 0, .slice none 0 0, .int .i64 0, .int .i64 0, .int .i64 0, .int .i64 0, .int .i64 0, .int .i64 0, .int .i64 0, .slice none 0 0, .slice none 0 0] (heap_alloc_new _ _) Tryz.sizeProc rfl (by simp [Value.oneCell']) ?_))
  intro w3 hp3 hb3 hs3 hk3
  have hb : Below w2.heap.size w2 w3 := ((Below.refl _ _).alloc (Nat.le_refl _) _).trans hb3
  have O3 := own_below O2 hb
  have hB3 := hB2.trans (hb.mono hB2.size)
  have hx3 := blk_bel hx2 hb
  have hy3 := blk_bel hy2 hb
  clear hb3 hs3 hk3 hb O2 hB2 hx2 hy2 hm2
  generalize w2.heap.size = bp at *
  cases hD : D.isSome with
  | false =>
    have HN : Hid (pnB ns is ds s i = false) := by unfold Hid; rw [HP.out, hD]; rfl
    have l3 := blk_lt hy3
    go_wp2_with (refine wpList_store_own2 rfl 59 _ _ rfl (w.heap.size + 1) #[.int .i64 0, .slice none 0 0, .int .i64 0, .int .i64 0, .int .i64 0, .int .i64 0, .int .i64 0, .int .i64 0, .int .i64 0, .slice none 0 0, .slice none 0 0] rfl rfl 59 #[.int .i64 0, .slice none 0 0, .int .i64 0, .int .i64 0, .int .i64 0, .int .i64 0, .int .i64 0, .int .i64 0, .int .i64 0, .slice none 0 0, .slice none 0 0] hy3 Tryz.sizeProc rfl (by simp [Value.oneCell']) ?_)
    intro wB hvB hbB hsB hkB
    go_wp2
    refine bodyPost_ret (results_row_tmp rfl _ _ (w.heap.size + 1) 59 _ (0, 0) _ rfl hvB Tryz.underlying59 rfl Tryz.sizeProc) rfl ⟨by rw [(pn_no HN.out).1, (pn_no HN.out).2, HN.out]; exact ⟨.slice none 0 0, rfl, ⟨rfl, Or.inl ⟨rfl, rfl⟩⟩⟩, hB3.trans (hbB.mono (by omega))⟩
  | true =>
    have c0 : w3.cell? ⟨w.heap.size, 0, none⟩ = some (.slice a1 ns.length c1) := cell_of_row w3 _ 0 _ _ _ hx3
    have c1' : w3.cell? ⟨w.heap.size, 0 + 1, none⟩ = some (.slice a2 is.length c2) := cell_of_row w3 _ 1 _ _ _ hx3
    have c2' : w3.cell? ⟨w.heap.size, 0 + 2, none⟩ = some (.slice a3 ds.length c3) := cell_of_row w3 _ 2 _ _ _ hx3
    have k0 : w3.cell? ⟨bp, 0, none⟩ = some (.int .i64 i) := cell_of_row w3 _ 0 _ _ _ hp3
    have k1 : w3.cell? ⟨bp, 0 + 1, none⟩ = some (.slice ao L.length cap) := cell_of_row w3 _ 1 _ _ _ hp3
    have k2 : w3.cell? ⟨bp, 0 + 2, none⟩ = some (.int .i64 M.p) := cell_of_row w3 _ 2 _ _ _ hp3
    have k3 : w3.cell? ⟨bp, 0 + 3, none⟩ = some (.int .i64 M.s) := cell_of_row w3 _ 3 _ _ _ hp3
    have k4 : w3.cell? ⟨bp, 0 + 4, none⟩ = some (.int .i64 M.e) := cell_of_row w3 _ 4 _ _ _ hp3
    have k5 : w3.cell? ⟨bp, 0 + 5, none⟩ = some (.int .i64 M.d) := cell_of_row w3 _ 5 _ _ _ hp3
    have k6 : w3.cell? ⟨bp, 0 + 6, none⟩ = some (.int .i64 M.t) := cell_of_row w3 _ 6 _ _ _ hp3
    have k7 : w3.cell? ⟨bp, 0 + 7, none⟩ = some (.int .i64 M.q) := cell_of_row w3 _ 7 _ _ _ hp3
    have k8 : w3.cell? ⟨bp, 0 + 8, none⟩ = some (.int .i64 M.r) := cell_of_row w3 _ 8 _ _ _ hp3
    have k9 : w3.cell? ⟨bp, 0 + 9, none⟩ = some (.slice none 0 0) := cell_of_row w3 _ 9 _ _ _ hp3
    have k10 : w3.cell? ⟨bp, 0 + 10, none⟩ = some (.slice none 0 0) := cell_of_row w3 _ 10 _ _ _ hp3
    go_wp2_with fail
    refine (iprocok_any _ _ _ _ _ _ ns is ds i L M [] [] _ (R1.below hB3) (R2.below hB3) (R3.below hB3) (NRow.of_own O3 (by omega) hzL) (StRow.nil _) (StRow.nil _) (by simp) (hg.below hB3 (Nat.le_refl _))).mono ?_
    rintro e w4 ⟨rfl, hb4⟩
    have O4 := own_below O3 hb4
    have hB4 := hB3.trans (hb4.mono hB3.size)
    have hy4 := blk_bel hy3 hb4
    have hp4 := blk_bel hp3 hb4
    clear hB3 hx3 hy3 hp3 hb4 O3 c0 c1' c2' k0 k1 k2 k3 k4 k5 k6 k7 k8 k9 k10
    have l4 := blk_lt hy4
    cases hP : procB ns is ds i L M [] [] with
    | false =>
      have HN : Hid (pnB ns is ds s i = false) := by unfold Hid; rw [HP.out, hP]; simp
      go_wp2_with (refine wpList_store_own2 rfl 59 _ _ rfl (w.heap.size + 1) #[.int .i64 0, .slice none 0 0, .int .i64 0, .int .i64 0, .int .i64 0, .int .i64 0, .int .i64 0, .int .i64 0, .int .i64 0, .slice none 0 0, .slice none 0 0] rfl rfl 59 #[.int .i64 0, .slice none 0 0, .int .i64 0, .int .i64 0, .int .i64 0, .int .i64 0, .int .i64 0, .int .i64 0, .int .i64 0, .slice none 0 0, .slice none 0 0] hy4 Tryz.sizeProc rfl (by simp [Value.oneCell']) ?_)
      intro wB hvB hbB hsB hkB
      go_wp2
      refine bodyPost_ret (results_row_tmp rfl _ _ (w.heap.size + 1) 59 _ (0, 0) _ rfl hvB Tryz.underlying59 rfl Tryz.sizeProc) rfl ⟨by rw [(pn_no HN.out).1, (pn_no HN.out).2, HN.out]; exact ⟨.slice none 0 0, rfl, ⟨rfl, Or.inl ⟨rfl, rfl⟩⟩⟩, hB4.trans (hbB.mono (by omega))⟩
    | true =>
      have HN : Hid (pnB ns is ds s i = true) := by unfold Hid; rw [HP.out, hP, hD]; rfl
      go_wp2_with (first
        | (refine wpList_load_row rfl 59 _ rfl bp rfl 59 #[.int .i64 i, .slice ao L.length cap, .int .i64 M.p, .int .i64 M.s, .int .i64 M.e, .int .i64 M.d, .int .i64 M.t, .int .i64 M.q, .int .i64 M.r, .slice none 0 0, .slice none 0 0] (0, 0) _ hp4 Tryz.underlying59 rfl Tryz.sizeProc ?_)
        | (refine wpList_store_own2 rfl 59 _ _ rfl (w.heap.size + 1) #[.int .i64 i, .slice ao L.length cap, .int .i64 M.p, .int .i64 M.s, .int .i64 M.e, .int .i64 M.d, .int .i64 M.t, .int .i64 M.q, .int .i64 M.r, .slice none 0 0, .slice none 0 0] rfl rfl 59 #[.int .i64 0, .slice none 0 0, .int .i64 0, .int .i64 0, .int .i64 0, .int .i64 0, .int .i64 0, .int .i64 0, .int .i64 0, .slice none 0 0, .slice none 0 0] hy4 Tryz.sizeProc rfl (by simp [Value.oneCell']) ?_))
      intro wB hvB hbB hsB hkB
      have O5 := own_mono (B' := w.heap.size) (own_keep O4 (by omega) hkB) (by omega)
      go_wp2
      refine bodyPost_ret (results_row_tmp rfl _ _ (w.heap.size + 1) 59 _ (0, 0) _ rfl hvB Tryz.underlying59 rfl Tryz.sizeProc) rfl ⟨by rw [(HY HN.out).1, (HY HN.out).2, HN.out, hM.out, hL.out]; exact ⟨_, rfl, O5⟩, hB4.trans (hbB.mono (by omega))⟩
set_option maxRecDepth 100000 in
set_option maxHeartbeats 6400000 in
theorem sprocnew_any (v1 v2 v3 : Value) (ns : List Nd) (is : List In) (ds : List Df) (s : ByteArray) (i : Int) (w : World) (R1 : NRow w v1 ns) (R2 : InRow w v2 is) (R3 : DfRow w v3 ds) :
    Calls Tryz.prog 16 #[.agg #[v1, v2, v3], .string s, .int .i64 i] w fun e w' => PnAns w.heap.size (pnI ns is ds s i) (newM (pnD ns is ds s i)) (newL (pnD ns is ds s i)) (pnB ns is ds s i) e w' ∧ Below w.heap.size w w' := by
  obtain ⟨a1, c1, rfl⟩ := R1.small
  obtain ⟨a2, c2, rfl⟩ := R2.small
  obtain ⟨a3, c3, rfl⟩ := R3.small
  obtain ⟨hB0, hx0, hy0⟩ := two_boxes w (Obj.cells #[.slice a1 ns.length c1, .slice a2 is.length c2, .slice a3 ds.length c3] 36) (Obj.cells #[.int .i64 0, .slice none 0 0, .int .i64 0, .int .i64 0, .int .i64 0, .int .i64 0, .int .i64 0, .int .i64 0, .int .i64 0, .slice none 0 0, .slice none 0 0] 59)
  obtain ⟨hlL, hzL⟩ := newL_fits (newD ns is ds s)
  have HC := smachnew_any _ _ _ ns is ds s _ (R1.below hB0) (R2.below hB0) (R3.below hB0)
  have HP : Hid (pnB ns is ds s i = ((newD ns is ds s).isSome && procB ns is ds i (newL (newD ns is ds s)) (newM (newD ns is ds s)) [] [])) := rfl
  have HY := fun h => pn_yes (ns := ns) (is := is) (ds := ds) (s := s) (i := i) h
  generalize newD ns is ds s = D at HC HP HY hlL hzL
  obtain ⟨L, hL⟩ : ∃ L, Hid (newL D = L) := ⟨_, rfl⟩
  obtain ⟨M, hM⟩ : ∃ M, Hid (newM D = M) := ⟨_, rfl⟩
  rw [hL.out, hM.out] at HC
  rw [hL.out] at hlL hzL
  replace HP : Hid (pnB ns is ds s i = (D.isSome && procB ns is ds i L M [] [])) := by unfold Hid; rw [HP.out, hL.out, hM.out]
  go_enter Tryz.func16, Tryz.ntmps16
  go_wp2_with fail
  refine HC.mono ?_
  rintro e w1 ⟨v', rfl, O1, hb1⟩
  obtain ⟨ao, cap, rfl⟩ := own_form O1
  replace O1 := own_mono (B' := w.heap.size + 2) O1 (by simp)
  have hB1 := hB0.trans (hb1.mono hB0.size)
  have hx1 := blk_bel hx0 hb1
  have hy1 := blk_bel hy0 hb1
  clear hB0 hx0 hy0 hb1 HC
  have q1 := blk_lt hy1
  go_wp2_with (refine wpList_store_own2 rfl 56 _ _ rfl w1.heap.size #[.slice ao L.length cap, .int .i64 M.p, .int .i64 M.s, .int .i64 M.e, .int .i64 M.d, .int .i64 M.t, .int .i64 M.q, .int .i64 M.r] rfl rfl 56 #[.slice none 0 0, .int .i64 0, .int .i64 0, .int .i64 0, .int .i64 0, .int .i64 0, .int .i64 0, .int .i64 0] (heap_alloc_new _ _) Tryz.sizeMach rfl (by simp [Value.oneCell']) ?_)
  intro w2 hm2 hb2 hs2 hk2
  have hb : Below w1.heap.size w1 w2 := ((Below.refl _ _).alloc (Nat.le_refl _) _).trans hb2
  have O2 := own_below O1 hb
  have hB2 := hB1.trans (hb.mono hB1.size)
  have hx2 := blk_bel hx1 hb
  have hy2 := blk_bel hy1 hb
  clear hb2 hs2 hk2 hb O1 hB1 hx1 hy1
  generalize w1.heap.size = bm at *
  go_wp2_with (first
    | (refine wpList_load_row rfl 56 _ rfl bm rfl 56 #[.slice ao L.length cap, .int .i64 M.p, .int .i64 M.s, .int .i64 M.e, .int .i64 M.d, .int .i64 M.t, .int .i64 M.q, .int .i64 M.r] (0, 0) _ hm2 Tryz.underlying56 rfl Tryz.sizeMach ?_)
    | (refine wpList_store_own2 rfl 59 _ _ rfl w2.heap.size #[.int .i64 i, .slice ao L.length cap, .int .i64 M.p, .int .i64 M.s, .int .i64 M.e, .int .i64 M.d, .int .i64 M.t, .int .i64 M.q, .int .i64 M.r, .slice none 0 0, .slice none 0 0] rfl rfl 59 #[.int .i64 0, .slice none 0 0, .int .i64 0, .int .i64 0, .int .i64 0, .int .i64 0, .int .i64 0, .int .i64 0, .int .i64 0, .slice none 0 0, .slice none 0 0] (heap_alloc_new _ _) Tryz.sizeProc rfl (by simp [Value.oneCell']) ?_))
  intro w3 hp3 hb3 hs3 hk3
  have hb : Below w2.heap.size w2 w3 := ((Below.refl _ _).alloc (Nat.le_refl _) _).trans hb3
  have O3 := own_below O2 hb
  have hB3 := hB2.trans (hb.mono hB2.size)
  have hx3 := blk_bel hx2 hb
  have hy3 := blk_bel hy2 hb
  clear hb3 hs3 hk3 hb O2 hB2 hx2 hy2 hm2
  generalize w2.heap.size = bp at *
  cases hD : D.isSome with
  | false =>
    have HN : Hid (pnB ns is ds s i = false) := by unfold Hid; rw [HP.out, hD]; rfl
    have l3 := blk_lt hy3
    go_wp2_with (refine wpList_store_own2 rfl 59 _ _ rfl (w.heap.size + 1) #[.int .i64 0, .slice none 0 0, .int .i64 0, .int .i64 0, .int .i64 0, .int .i64 0, .int .i64 0, .int .i64 0, .int .i64 0, .slice none 0 0, .slice none 0 0] rfl rfl 59 #[.int .i64 0, .slice none 0 0, .int .i64 0, .int .i64 0, .int .i64 0, .int .i64 0, .int .i64 0, .int .i64 0, .int .i64 0, .slice none 0 0, .slice none 0 0] hy3 Tryz.sizeProc rfl (by simp [Value.oneCell']) ?_)
    intro wB hvB hbB hsB hkB
    go_wp2
    refine bodyPost_ret (results_row_tmp rfl _ _ (w.heap.size + 1) 59 _ (0, 0) _ rfl hvB Tryz.underlying59 rfl Tryz.sizeProc) rfl ⟨by rw [(pn_no HN.out).1, (pn_no HN.out).2, HN.out]; exact ⟨.slice none 0 0, rfl, ⟨rfl, Or.inl ⟨rfl, rfl⟩⟩⟩, hB3.trans (hbB.mono (by omega))⟩
  | true =>
    have c0 : w3.cell? ⟨w.heap.size, 0, none⟩ = some (.slice a1 ns.length c1) := cell_of_row w3 _ 0 _ _ _ hx3
    have c1' : w3.cell? ⟨w.heap.size, 0 + 1, none⟩ = some (.slice a2 is.length c2) := cell_of_row w3 _ 1 _ _ _ hx3
    have c2' : w3.cell? ⟨w.heap.size, 0 + 2, none⟩ = some (.slice a3 ds.length c3) := cell_of_row w3 _ 2 _ _ _ hx3
    have k0 : w3.cell? ⟨bp, 0, none⟩ = some (.int .i64 i) := cell_of_row w3 _ 0 _ _ _ hp3
    have k1 : w3.cell? ⟨bp, 0 + 1, none⟩ = some (.slice ao L.length cap) := cell_of_row w3 _ 1 _ _ _ hp3
    have k2 : w3.cell? ⟨bp, 0 + 2, none⟩ = some (.int .i64 M.p) := cell_of_row w3 _ 2 _ _ _ hp3
    have k3 : w3.cell? ⟨bp, 0 + 3, none⟩ = some (.int .i64 M.s) := cell_of_row w3 _ 3 _ _ _ hp3
    have k4 : w3.cell? ⟨bp, 0 + 4, none⟩ = some (.int .i64 M.e) := cell_of_row w3 _ 4 _ _ _ hp3
    have k5 : w3.cell? ⟨bp, 0 + 5, none⟩ = some (.int .i64 M.d) := cell_of_row w3 _ 5 _ _ _ hp3
    have k6 : w3.cell? ⟨bp, 0 + 6, none⟩ = some (.int .i64 M.t) := cell_of_row w3 _ 6 _ _ _ hp3
    have k7 : w3.cell? ⟨bp, 0 + 7, none⟩ = some (.int .i64 M.q) := cell_of_row w3 _ 7 _ _ _ hp3
    have k8 : w3.cell? ⟨bp, 0 + 8, none⟩ = some (.int .i64 M.r) := cell_of_row w3 _ 8 _ _ _ hp3
    have k9 : w3.cell? ⟨bp, 0 + 9, none⟩ = some (.slice none 0 0) := cell_of_row w3 _ 9 _ _ _ hp3
    have k10 : w3.cell? ⟨bp, 0 + 10, none⟩ = some (.slice none 0 0) := cell_of_row w3 _ 10 _ _ _ hp3
    go_wp2_with fail
    refine (sprocok_any _ _ _ _ _ _ ns is ds i L M [] [] _ (R1.below hB3) (R2.below hB3) (R3.below hB3) (NRow.of_own O3 (by omega) hzL) (StRow.nil _) (StRow.nil _) (by simp)).mono ?_
    rintro e w4 ⟨rfl, hb4⟩
    have O4 := own_below O3 hb4
    have hB4 := hB3.trans (hb4.mono hB3.size)
    have hy4 := blk_bel hy3 hb4
    have hp4 := blk_bel hp3 hb4
    clear hB3 hx3 hy3 hp3 hb4 O3 c0 c1' c2' k0 k1 k2 k3 k4 k5 k6 k7 k8 k9 k10
    have l4 := blk_lt hy4
    cases hP : procB ns is ds i L M [] [] with
    | false =>
      have HN : Hid (pnB ns is ds s i = false) := by unfold Hid; rw [HP.out, hP]; simp
      go_wp2_with (refine wpList_store_own2 rfl 59 _ _ rfl (w.heap.size + 1) #[.int .i64 0, .slice none 0 0, .int .i64 0, .int .i64 0, .int .i64 0, .int .i64 0, .int .i64 0, .int .i64 0, .int .i64 0, .slice none 0 0, .slice none 0 0] rfl rfl 59 #[.int .i64 0, .slice none 0 0, .int .i64 0, .int .i64 0, .int .i64 0, .int .i64 0, .int .i64 0, .int .i64 0, .int .i64 0, .slice none 0 0, .slice none 0 0] hy4 Tryz.sizeProc rfl (by simp [Value.oneCell']) ?_)
      intro wB hvB hbB hsB hkB
      go_wp2
      refine bodyPost_ret (results_row_tmp rfl _ _ (w.heap.size + 1) 59 _ (0, 0) _ rfl hvB Tryz.underlying59 rfl Tryz.sizeProc) rfl ⟨by rw [(pn_no HN.out).1, (pn_no HN.out).2, HN.out]; exact ⟨.slice none 0 0, rfl, ⟨rfl, Or.inl ⟨rfl, rfl⟩⟩⟩, hB4.trans (hbB.mono (by omega))⟩
    | true =>
      have HN : Hid (pnB ns is ds s i = true) := by unfold Hid; rw [HP.out, hP, hD]; rfl
      go_wp2_with (first
        | (refine wpList_load_row rfl 59 _ rfl bp rfl 59 #[.int .i64 i, .slice ao L.length cap, .int .i64 M.p, .int .i64 M.s, .int .i64 M.e, .int .i64 M.d, .int .i64 M.t, .int .i64 M.q, .int .i64 M.r, .slice none 0 0, .slice none 0 0] (0, 0) _ hp4 Tryz.underlying59 rfl Tryz.sizeProc ?_)
        | (refine wpList_store_own2 rfl 59 _ _ rfl (w.heap.size + 1) #[.int .i64 i, .slice ao L.length cap, .int .i64 M.p, .int .i64 M.s, .int .i64 M.e, .int .i64 M.d, .int .i64 M.t, .int .i64 M.q, .int .i64 M.r, .slice none 0 0, .slice none 0 0] rfl rfl 59 #[.int .i64 0, .slice none 0 0, .int .i64 0, .int .i64 0, .int .i64 0, .int .i64 0, .int .i64 0, .int .i64 0, .int .i64 0, .slice none 0 0, .slice none 0 0] hy4 Tryz.sizeProc rfl (by simp [Value.oneCell']) ?_))
      intro wB hvB hbB hsB hkB
      have O5 := own_mono (B' := w.heap.size) (own_keep O4 (by omega) hkB) (by omega)
      go_wp2
      refine bodyPost_ret (results_row_tmp rfl _ _ (w.heap.size + 1) 59 _ (0, 0) _ rfl hvB Tryz.underlying59 rfl Tryz.sizeProc) rfl ⟨by rw [(HY HN.out).1, (HY HN.out).2, HN.out, hM.out, hL.out]; exact ⟨_, rfl, O5⟩, hB4.trans (hbB.mono (by omega))⟩
end Go.Proofs.YtbhfooafhbfniaaGreatDoor
/-
  What a right world is; and the contracts of impl's placesFit, hasPlace, isKnown, parkedFits, gramsFit. No condition.
-/
namespace Go.Proofs.YtbhfooafhbfniaaGreatDoor
open Go.RowKit
def hasP (pl a : Int) : Bool := decide (0 ≤ a) && decide (a < pl)
def knB (g : Gm) : Bool := (decide (0 ≤ g.n) && decide (g.n ≤ 100000)) && (decide (g.k = 1) || (decide (g.k = 2) && g.s.toList.isEmpty))
def gmB (pl : Int) (g : Gm) : Bool := (hasP pl g.f && hasP pl g.t) && knB g
def pdB (pl : Int) (p : Pd) : Bool := hasP pl p.p
def placesB (pl : Int) : Bool := decide (1 ≤ pl) && decide (pl ≤ 3)
set_option maxHeartbeats 400000 in
theorem placesfit_any (pl : Int) (w : World) : Calls Tryz.prog 22 #[.int .i64 pl] w fun e w' => e = .returned (.bool (placesB pl)) ∧ w' = w := by
  by_cases h1 : 1 ≤ pl
  · have HR : Hid (placesB pl = decide (pl ≤ 3)) := by unfold Hid placesB; simp [h1]
    go_enter Tryz.func22, Tryz.ntmps22
    go_wp2
    go_ret
    exact ⟨by rw [HR.out]; rfl, rfl⟩
  · have HR : Hid (placesB pl = false) := by unfold Hid placesB; simp [h1]
    go_enter Tryz.func22, Tryz.ntmps22
    go_wp2
    go_ret
    exact ⟨by rw [HR.out]; rfl, rfl⟩
end Go.Proofs.YtbhfooafhbfniaaGreatDoor
/-
  What impl.WorldNew's deferred function leaves; begun: impl.WorldNew. No condition.
-/
namespace Go.Proofs.YtbhfooafhbfniaaGreatDoor
open Go.RowKit
set_option maxRecDepth 100000 in
set_option maxHeartbeats 3200000 in
theorem iwnc_yes (b : Nat) (w : World) (ho : w.heap[b + 1]? = some (.cells #[.bool true] 4 (0, 0))) :
    CallsD Tryz.prog 23 #[.pointer (some ⟨b + 1, 0, none⟩), .pointer (some ⟨b, 0, none⟩)] .returning w fun e u' w' => u' = .returning ∧ (e = .returned (.tuple #[]) ∧ w' = w) := by
  have k := cell_of_row w _ 0 _ _ _ ho
  go_enter_d Tryz.func23, Tryz.ntmps23
  go_wp2
  go_end0
  exact ⟨rfl, rfl⟩
set_option maxRecDepth 100000 in
set_option maxHeartbeats 3200000 in
theorem iwnc_no (b : Nat) (c0 c1 c2 c3 c4 c5 c6 c7 c8 c9 c10 : Value) (w : World) (hx : w.heap[b]? = some (.cells #[c0, c1, c2, c3, c4, c5, c6, c7, c8, c9, c10] 43 (0, 0))) (ho : w.heap[b + 1]? = some (.cells #[.bool false] 4 (0, 0))) :
    CallsD Tryz.prog 23 #[.pointer (some ⟨b + 1, 0, none⟩), .pointer (some ⟨b, 0, none⟩)] .returning w fun e u' w' =>
      u' = .returning ∧ (e = .returned (.tuple #[]) ∧ w'.heap[b]? = some (.cells #[.slice none 0 0, .slice none 0 0, .slice none 0 0, .int .i64 0, .slice none 0 0, .slice none 0 0, .slice none 0 0, .slice none 0 0, .int .i64 0, .slice none 0 0, .slice none 0 0] 43 (0, 0)) ∧ w'.heap[b + 1]? = some (.cells #[.bool false] 4 (0, 0)) ∧ Below b w w') := by
  have k := cell_of_row w _ 0 _ _ _ ho
  go_enter_d Tryz.func23, Tryz.ntmps23
  go_wp2_with (refine wpList_store_own2 rfl 43 _ _ rfl b #[.slice none 0 0, .slice none 0 0, .slice none 0 0, .int .i64 0, .slice none 0 0, .slice none 0 0, .slice none 0 0, .slice none 0 0, .int .i64 0, .slice none 0 0, .slice none 0 0] rfl rfl 43 #[c0, c1, c2, c3, c4, c5, c6, c7, c8, c9, c10] hx Tryz.sizeWd rfl (by simp [Value.oneCell']) ?_)
  intro w2 hv hb hs hoth
  have ho2 := (hoth (b + 1) (by omega)).trans ho
  go_wp2
  go_end0
  exact ⟨rfl, hv, ho2, hb⟩
theorem results_wn {fn : Func} {p q : Tmp} (h : fn.results = #[.cell p 43, .cell q 4]) (tmps : Array Value) (w : World) (g g' : Nat) (cs : Array Value) (ok : Bool) (hp : tmps.getD p undef = .pointer (some ⟨g, 0, none⟩)) (hq : tmps.getD q undef = .pointer (some ⟨g', 0, none⟩))
    (hg : w.heap[g]? = some (.cells cs 43 (0, 0))) (hg' : w.heap[g']? = some (.cells #[.bool ok] 4 (0, 0))) (hs : cs.size = 11) : (results fn tmps).run Tryz.prog w = .ok (.tuple #[.agg cs, .bool ok]) w := by
  have hp' : tmps[p]?.getD undef = .pointer (some ⟨g, 0, none⟩) := by simpa using hp
  have hq' : tmps[q]?.getD undef = .pointer (some ⟨g', 0, none⟩) := by simpa using hq
  have c := cell_of_row w g' 0 _ _ _ hg'
  have lb : (loadVar 4 ⟨g', 0, none⟩).run Tryz.prog w = .ok (.bool ok) w := by simp [go_sem, c, Result.andThen]
  simp [results, h, hp', hq', asAddr, run_loadVar_row w g _ 43 cs _ _ hg Tryz.underlying43 rfl (by rw [Tryz.sizeWd, hs]), lb]
structure NB (B : Nat) (w : World) (ac : Array Value) (cs : Array Value) (ok : Bool) : Prop where
  c : w.heap[B]? = some (.cells ac 36 (0, 0))
  x : w.heap[B + 1]? = some (.cells cs 43 (0, 0))
  o : w.heap[B + 1 + 1]? = some (.cells #[.bool ok] 4 (0, 0))
theorem NB.below {B : Nat} {w w' : World} {ac cs : Array Value} {ok : Bool} (h : NB B w ac cs ok) (hb : Below w.heap.size w w') : NB B w' ac cs ok := ⟨blk_bel h.c hb, blk_bel h.x hb, blk_bel h.o hb⟩
theorem NB.start (w : World) (ac cs : Array Value) : NB w.heap.size (((w.alloc (Obj.cells ac 36)).alloc (Obj.cells cs 43)).alloc (Obj.cells #[.bool false] 4)) ac cs false := by
  refine ⟨?_, ?_, ?_⟩
  · rw [heap_alloc_old _ _ (by simp; omega), heap_alloc_old _ _ (by simp)]; exact heap_alloc_new _ _
  · rw [heap_alloc_old _ _ (by simp)]; exact (by simpa using heap_alloc_new (w.alloc (Obj.cells ac 36)) (Obj.cells cs 43))
  · exact (by simpa using heap_alloc_new ((w.alloc (Obj.cells ac 36)).alloc (Obj.cells cs 43)) (Obj.cells #[.bool false] 4))
end Go.Proofs.YtbhfooafhbfniaaGreatDoor
