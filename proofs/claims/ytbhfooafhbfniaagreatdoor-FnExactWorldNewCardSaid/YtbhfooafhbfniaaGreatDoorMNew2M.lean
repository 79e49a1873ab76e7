/-
  Texts that stood by themselves, laid into one.
-/
import Derived.Test.YtbhfooafhbfniaaGreatDoorMkListM
import Derived.Test.YtbhfooafhbfniaaGreatDoorInstrM
import Derived.Test.YtbhfooafhbfniaaGreatDoorBsM
/-
  What MachineNew answers, and the contract of impl.MachineNew. No condition.
-/
namespace Go.Proofs.YtbhfooafhbfniaaGreatDoor
open Go.RowKit
theorem Tryz.sizeC9 : (Tryz.prog.info? 36).map (·.size) = some 3 := by kernel_rfl
def newD (ns : List Nd) (is : List In) (ds : List Df) (s : ByteArray) : Option Df :=
  if codeB ns is ds && decide (0 ≤ dfIdx ds s 0) then (ds[(dfIdx ds s 0).toNat]?).filter (fun d => d.m == 0) else none
def newL : Option Df → List Nd
  | none => []
  | some _ => [⟨1, 0, ByteArray.empty, 0, 0⟩, ⟨5, 0, ByteArray.empty, 0, 0⟩]
def newM : Option Df → Mc
  | none => ⟨0, 0, 0, 0, 0, 0, 0⟩
  | some d => ⟨d.p, 0, 1, 0, 0, 0, 0⟩
theorem dfIdx_lt (ds : List Df) (s : ByteArray) (i : Nat) : dfIdx ds s i = -1 ∨ ((i : Int) ≤ dfIdx ds s i ∧ dfIdx ds s i < i + ds.length) := by
  induction ds generalizing i with
  | nil => left; rfl
  | cons d ds ih =>
    rw [dfIdx]
    split
    · right; constructor <;> simp <;> omega
    · rcases ih (i + 1) with h | ⟨h1, h2⟩
      · exact Or.inl h
      · right; simp; omega
theorem eight_set {w2 : World} {B : Nat} {T : TypeId} {u0 u1 u2 u3 u4 u5 u6 u7 : Value} (v0 v1 v2 v3 v4 v5 v6 v7 : Value) (h : w2.heap[B]? = some (.cells #[u0, u1, u2, u3, u4, u5, u6, u7] T (0, 0))) :
    ((((((((w2.setCell ⟨B, 0, none⟩ v0).setCell ⟨B, 1, none⟩ v1).setCell ⟨B, 2, none⟩ v2).setCell ⟨B, 3, none⟩ v3).setCell ⟨B, 4, none⟩ v4).setCell ⟨B, 5, none⟩ v5).setCell ⟨B, 6, none⟩ v6).setCell ⟨B, 7, none⟩ v7).heap[B]? = some (.cells #[v0, v1, v2, v3, v4, v5, v6, v7] T (0, 0)) ∧ Below B w2 ((((((((w2.setCell ⟨B, 0, none⟩ v0).setCell ⟨B, 1, none⟩ v1).setCell ⟨B, 2, none⟩ v2).setCell ⟨B, 3, none⟩ v3).setCell ⟨B, 4, none⟩ v4).setCell ⟨B, 5, none⟩ v5).setCell ⟨B, 6, none⟩ v6).setCell ⟨B, 7, none⟩ v7) ∧ ((((((((w2.setCell ⟨B, 0, none⟩ v0).setCell ⟨B, 1, none⟩ v1).setCell ⟨B, 2, none⟩ v2).setCell ⟨B, 3, none⟩ v3).setCell ⟨B, 4, none⟩ v4).setCell ⟨B, 5, none⟩ v5).setCell ⟨B, 6, none⟩ v6).setCell ⟨B, 7, none⟩ v7).heap.size = w2.heap.size := by
  have h0 : (w2.setCell ⟨B, 0, none⟩ v0).heap[B]? = some (.cells #[v0, u1, u2, u3, u4, u5, u6, u7] T (0, 0)) := heap_setCell_same _ B 0 _ _ v0 h
  have h1 : ((w2.setCell ⟨B, 0, none⟩ v0).setCell ⟨B, 1, none⟩ v1).heap[B]? = some (.cells #[v0, v1, u2, u3, u4, u5, u6, u7] T (0, 0)) := heap_setCell_same _ B 1 _ _ v1 h0
  have h2 : (((w2.setCell ⟨B, 0, none⟩ v0).setCell ⟨B, 1, none⟩ v1).setCell ⟨B, 2, none⟩ v2).heap[B]? = some (.cells #[v0, v1, v2, u3, u4, u5, u6, u7] T (0, 0)) := heap_setCell_same _ B 2 _ _ v2 h1
  have h3 : ((((w2.setCell ⟨B, 0, none⟩ v0).setCell ⟨B, 1, none⟩ v1).setCell ⟨B, 2, none⟩ v2).setCell ⟨B, 3, none⟩ v3).heap[B]? = some (.cells #[v0, v1, v2, v3, u4, u5, u6, u7] T (0, 0)) := heap_setCell_same _ B 3 _ _ v3 h2
  have h4 : (((((w2.setCell ⟨B, 0, none⟩ v0).setCell ⟨B, 1, none⟩ v1).setCell ⟨B, 2, none⟩ v2).setCell ⟨B, 3, none⟩ v3).setCell ⟨B, 4, none⟩ v4).heap[B]? = some (.cells #[v0, v1, v2, v3, v4, u5, u6, u7] T (0, 0)) := heap_setCell_same _ B 4 _ _ v4 h3
  have h5 : ((((((w2.setCell ⟨B, 0, none⟩ v0).setCell ⟨B, 1, none⟩ v1).setCell ⟨B, 2, none⟩ v2).setCell ⟨B, 3, none⟩ v3).setCell ⟨B, 4, none⟩ v4).setCell ⟨B, 5, none⟩ v5).heap[B]? = some (.cells #[v0, v1, v2, v3, v4, v5, u6, u7] T (0, 0)) := heap_setCell_same _ B 5 _ _ v5 h4
  have h6 : (((((((w2.setCell ⟨B, 0, none⟩ v0).setCell ⟨B, 1, none⟩ v1).setCell ⟨B, 2, none⟩ v2).setCell ⟨B, 3, none⟩ v3).setCell ⟨B, 4, none⟩ v4).setCell ⟨B, 5, none⟩ v5).setCell ⟨B, 6, none⟩ v6).heap[B]? = some (.cells #[v0, v1, v2, v3, v4, v5, v6, u7] T (0, 0)) := heap_setCell_same _ B 6 _ _ v6 h5
  have h7 : ((((((((w2.setCell ⟨B, 0, none⟩ v0).setCell ⟨B, 1, none⟩ v1).setCell ⟨B, 2, none⟩ v2).setCell ⟨B, 3, none⟩ v3).setCell ⟨B, 4, none⟩ v4).setCell ⟨B, 5, none⟩ v5).setCell ⟨B, 6, none⟩ v6).setCell ⟨B, 7, none⟩ v7).heap[B]? = some (.cells #[v0, v1, v2, v3, v4, v5, v6, v7] T (0, 0)) := heap_setCell_same _ B 7 _ _ v7 h6
  exact ⟨h7, (((((((((Below.refl B w2).setCell (p := ⟨B, 0, none⟩) (Nat.le_refl _) v0).setCell (p := ⟨B, 1, none⟩) (Nat.le_refl _) v1).setCell (p := ⟨B, 2, none⟩) (Nat.le_refl _) v2).setCell (p := ⟨B, 3, none⟩) (Nat.le_refl _) v3).setCell (p := ⟨B, 4, none⟩) (Nat.le_refl _) v4).setCell (p := ⟨B, 5, none⟩) (Nat.le_refl _) v5).setCell (p := ⟨B, 6, none⟩) (Nat.le_refl _) v6).setCell (p := ⟨B, 7, none⟩) (Nat.le_refl _) v7), by simp⟩
set_option maxRecDepth 100000 in
set_option maxHeartbeats 3200000 in
theorem imachnew_any (v1 v2 v3 : Value) (ns : List Nd) (is : List In) (ds : List Df) (s : ByteArray) (w : World) (R1 : NRow w v1 ns) (R2 : InRow w v2 is) (R3 : DfRow w v3 ds) :
    Calls Tryz.prog 58 #[.agg #[v1, v2, v3], .string s] w fun e w' => ∃ v', e = .returned (.tuple #[.agg #[v', .int .i64 (newM (newD ns is ds s)).p, .int .i64 (newM (newD ns is ds s)).s, .int .i64 (newM (newD ns is ds s)).e, .int .i64 (newM (newD ns is ds s)).d, .int .i64 (newM (newD ns is ds s)).t, .int .i64 (newM (newD ns is ds s)).q, .int .i64 (newM (newD ns is ds s)).r], .bool (newD ns is ds s).isSome]) ∧ w'.ownsRow w.heap.size 130 5 v' (newL (newD ns is ds s)).length (ncs (newL (newD ns is ds s))) ∧ Below w.heap.size w w' := by
  obtain ⟨a1, c1, rfl⟩ := R1.small
  obtain ⟨a2, c2, rfl⟩ := R2.small
  obtain ⟨a3, c3, rfl⟩ := R3.small
  obtain ⟨hB0, hx0, hy0⟩ := two_boxes w (Obj.cells #[.slice a1 ns.length c1, .slice a2 is.length c2, .slice a3 ds.length c3] 36) (Obj.cells #[.slice none 0 0, .int .i64 0, .int .i64 0, .int .i64 0, .int .i64 0, .int .i64 0, .int .i64 0, .int .i64 0] 56)
  go_enter Tryz.func58, Tryz.ntmps58
  go_wp2_with fail
  refine (icodeok_any _ _ _ ns is ds _ (R1.below hB0) (R2.below hB0) (R3.below hB0)).mono ?_
  rintro e w1 ⟨rfl, hb1⟩
  have hB1 := hB0.trans (hb1.mono hB0.size)
  have hx1 := (hb1.block _ (Array.getElem?_eq_some_iff.1 hx0).1).trans hx0
  have hy1 := (hb1.block _ (Array.getElem?_eq_some_iff.1 hy0).1).trans hy0
  clear hB0 hx0 hy0 hb1
  cases hc : codeB ns is ds with
  | false =>
    have HD : Hid (newD ns is ds s = none) := by unfold Hid newD; rw [hc]; rfl
    go_wp2_with (refine wpList_store_own2 rfl 56 _ _ rfl (w.heap.size + 1) #[.slice none 0 0, .int .i64 0, .int .i64 0, .int .i64 0, .int .i64 0, .int .i64 0, .int .i64 0, .int .i64 0] rfl rfl 56 #[.slice none 0 0, .int .i64 0, .int .i64 0, .int .i64 0, .int .i64 0, .int .i64 0, .int .i64 0, .int .i64 0] hy1 Tryz.sizeMach rfl (by simp [Value.oneCell']) ?_)
    intro wB hvB hbB hsB hkB
    go_wp2
    refine bodyPost_ret (results_row_tmp rfl _ _ (w.heap.size + 1) 56 _ (0, 0) _ rfl hvB Tryz.underlying56 rfl Tryz.sizeMach) rfl ⟨.slice none 0 0, by rw [HD.out]; rfl, by rw [HD.out]; exact ⟨rfl, Or.inl ⟨rfl, rfl⟩⟩, hB1.trans (hbB.mono (by omega))⟩
  | true =>
    go_wp2_with (refine wpList_load_row rfl 36 _ rfl w.heap.size rfl 36 #[.slice a1 ns.length c1, .slice a2 is.length c2, .slice a3 ds.length c3] (0, 0) _ hx1 Tryz.underlying36 rfl Tryz.sizeC9 ?_)
    refine (idefof_any a1 a2 _ _ _ _ _ ds s _ (R3.below hB1)).mono ?_
    rintro e w2 ⟨rfl, hb2⟩
    have hB2 := hB1.trans (hb2.mono hB1.size)
    have hx2 := (hb2.block _ (Array.getElem?_eq_some_iff.1 hx1).1).trans hx1
    have hy2 := (hb2.block _ (Array.getElem?_eq_some_iff.1 hy1).1).trans hy1
    have c2' : w2.cell? ⟨w.heap.size, 0 + 2, none⟩ = some (.slice a3 ds.length c3) := cell_of_row w2 _ 2 _ _ _ hx2
    clear hB1 hx1 hy1 hb2
    have hK := dfIdx_lt ds s 0
    have HD0 : Hid (newD ns is ds s = if decide (0 ≤ dfIdx ds s 0) = true then (ds[(dfIdx ds s 0).toNat]?).filter (fun d => d.m == 0) else none) := by unfold Hid newD; rw [hc, Bool.true_and]
    rcases hK with hK | ⟨hK1, hK2⟩
    · have HD : Hid (newD ns is ds s = none) := by unfold Hid; rw [HD0.out, hK]; rfl
      rw [hK]
      go_wp2_with (refine wpList_store_own2 rfl 56 _ _ rfl (w.heap.size + 1) #[.slice none 0 0, .int .i64 0, .int .i64 0, .int .i64 0, .int .i64 0, .int .i64 0, .int .i64 0, .int .i64 0] rfl rfl 56 #[.slice none 0 0, .int .i64 0, .int .i64 0, .int .i64 0, .int .i64 0, .int .i64 0, .int .i64 0, .int .i64 0] hy2 Tryz.sizeMach rfl (by simp [Value.oneCell']) ?_)
      intro wB hvB hbB hsB hkB
      go_wp2
      refine bodyPost_ret (results_row_tmp rfl _ _ (w.heap.size + 1) 56 _ (0, 0) _ rfl hvB Tryz.underlying56 rfl Tryz.sizeMach) rfl ⟨.slice none 0 0, by rw [HD.out]; rfl, by rw [HD.out]; exact ⟨rfl, Or.inl ⟨rfl, rfl⟩⟩, hB2.trans (hbB.mono (by omega))⟩
    · obtain ⟨k, hk⟩ : ∃ k : Nat, dfIdx ds s 0 = k := ⟨(dfIdx ds s 0).toNat, by omega⟩
      rw [hk] at hK1 hK2 HD0 ⊢
      have hlt : k < ds.length := by omega
      obtain ⟨a3', c3', e3, _, _, _, hcell⟩ := R3
      simp only [Value.slice.injEq] at e3
      obtain ⟨e3, _, _⟩ := e3
      subst e3
      obtain ⟨g, o, rfl, hg, hcell⟩ := hcell (by intro e; subst e; simp at hlt)
      obtain ⟨x, hx⟩ : ∃ x, ds[k]? = some x := ⟨ds[k], by simp [hlt]⟩
      obtain ⟨d0, d1, d2⟩ := (hcell k x hx).below hB2 hg
      clear hcell
      have HD1 : Hid (newD ns is ds s = if (x.m == 0) = true then some x else none) := by
        unfold Hid
        rw [HD0.out]
        simp [hx, Option.filter]
      by_cases hm : x.m = 0
      · have HD : Hid (newD ns is ds s = some x) := by unfold Hid; rw [HD1.out]; simp [hm]
        have hg2 : g < w2.heap.size := Nat.lt_of_lt_of_le hg hB2.size
        have hw2 : w.heap.size < w2.heap.size := (Array.getElem?_eq_some_iff.1 hx2).1
        have hw3 : w.heap.size + 1 < w2.heap.size := (Array.getElem?_eq_some_iff.1 hy2).1
        have z0 : w2.cell? ⟨w.heap.size + 1, 0, none⟩ = some (.slice none 0 0) := cell_of_row w2 _ 0 _ _ _ hy2
        have f0 : w2.frozen? ⟨w.heap.size + 1, 0, none⟩ = false := frozen_of_row w2 _ 0 _ _ hy2
        have z1 : w2.cell? ⟨w.heap.size + 1, 1, none⟩ = some (.int .i64 0) := cell_of_row w2 _ 1 _ _ _ hy2
        have f1 : w2.frozen? ⟨w.heap.size + 1, 1, none⟩ = false := frozen_of_row w2 _ 1 _ _ hy2
        have z2 : w2.cell? ⟨w.heap.size + 1, 2, none⟩ = some (.int .i64 0) := cell_of_row w2 _ 2 _ _ _ hy2
        have f2 : w2.frozen? ⟨w.heap.size + 1, 2, none⟩ = false := frozen_of_row w2 _ 2 _ _ hy2
        have z3 : w2.cell? ⟨w.heap.size + 1, 3, none⟩ = some (.int .i64 0) := cell_of_row w2 _ 3 _ _ _ hy2
        have f3 : w2.frozen? ⟨w.heap.size + 1, 3, none⟩ = false := frozen_of_row w2 _ 3 _ _ hy2
        have z4 : w2.cell? ⟨w.heap.size + 1, 4, none⟩ = some (.int .i64 0) := cell_of_row w2 _ 4 _ _ _ hy2
        have f4 : w2.frozen? ⟨w.heap.size + 1, 4, none⟩ = false := frozen_of_row w2 _ 4 _ _ hy2
        have z5 : w2.cell? ⟨w.heap.size + 1, 5, none⟩ = some (.int .i64 0) := cell_of_row w2 _ 5 _ _ _ hy2
        have f5 : w2.frozen? ⟨w.heap.size + 1, 5, none⟩ = false := frozen_of_row w2 _ 5 _ _ hy2
        have z6 : w2.cell? ⟨w.heap.size + 1, 6, none⟩ = some (.int .i64 0) := cell_of_row w2 _ 6 _ _ _ hy2
        have f6 : w2.frozen? ⟨w.heap.size + 1, 6, none⟩ = false := frozen_of_row w2 _ 6 _ _ hy2
        have z7 : w2.cell? ⟨w.heap.size + 1, 7, none⟩ = some (.int .i64 0) := cell_of_row w2 _ 7 _ _ _ hy2
        have f7 : w2.frozen? ⟨w.heap.size + 1, 7, none⟩ = false := frozen_of_row w2 _ 7 _ _ hy2
        go_wp2_with fail
        go_region
        obtain ⟨hvC, hbC, hsC⟩ := eight_set (.slice (some ⟨w2.heap.size, 0, none⟩) 2 2) (.int .i64 x.p) (.int .i64 0) (.int .i64 1) (.int .i64 0) (.int .i64 0) (.int .i64 0) (.int .i64 0) hy2
        generalize ((((((((w2.setCell ⟨w.heap.size + 1, 0, none⟩ (.slice (some ⟨w2.heap.size, 0, none⟩) 2 2)).setCell ⟨w.heap.size + 1, 1, none⟩ (.int .i64 x.p)).setCell ⟨w.heap.size + 1, 2, none⟩ (.int .i64 0)).setCell ⟨w.heap.size + 1, 3, none⟩ (.int .i64 1)).setCell ⟨w.heap.size + 1, 4, none⟩ (.int .i64 0)).setCell ⟨w.heap.size + 1, 5, none⟩ (.int .i64 0)).setCell ⟨w.heap.size + 1, 6, none⟩ (.int .i64 0)).setCell ⟨w.heap.size + 1, 7, none⟩ (.int .i64 0)) = wC at *
        have hAC : (wC.alloc (Obj.cells #[.int .i64 1, .int .i64 0, .string ByteArray.empty, .int .i64 0, .int .i64 0, .int .i64 5, .int .i64 0, .string ByteArray.empty, .int .i64 0, .int .i64 0] 130)).heap[w2.heap.size]? = some (Obj.cells #[.int .i64 1, .int .i64 0, .string ByteArray.empty, .int .i64 0, .int .i64 0, .int .i64 5, .int .i64 0, .string ByteArray.empty, .int .i64 0, .int .i64 0] 130) := by rw [← hsC]; exact heap_alloc_new _ _
        have hBC := hB2.trans (hbC.mono (Nat.le_succ w.heap.size))
        have hBE : Below w.heap.size w ((wC.alloc (Obj.cells #[.int .i64 1, .int .i64 0, .string ByteArray.empty, .int .i64 0, .int .i64 0, .int .i64 5, .int .i64 0, .string ByteArray.empty, .int .i64 0, .int .i64 0] 130)).alloc (Obj.cells #[.slice (some ⟨w2.heap.size, 0, none⟩) 2 2] 32)).drew := ((hBC.alloc hBC.size _).alloc (by have := hBC.size; simp; omega) _).drew
        have hvE : ((wC.alloc (Obj.cells #[.int .i64 1, .int .i64 0, .string ByteArray.empty, .int .i64 0, .int .i64 0, .int .i64 5, .int .i64 0, .string ByteArray.empty, .int .i64 0, .int .i64 0] 130)).alloc (Obj.cells #[.slice (some ⟨w2.heap.size, 0, none⟩) 2 2] 32)).drew.heap[w.heap.size + 1]? = _ := (heap_alloc_old _ _ (by simp; omega)).trans ((heap_alloc_old _ _ (by omega)).trans hvC)
        have hAE : ((wC.alloc (Obj.cells #[.int .i64 1, .int .i64 0, .string ByteArray.empty, .int .i64 0, .int .i64 0, .int .i64 5, .int .i64 0, .string ByteArray.empty, .int .i64 0, .int .i64 0] 130)).alloc (Obj.cells #[.slice (some ⟨w2.heap.size, 0, none⟩) 2 2] 32)).drew.heap[w2.heap.size]? = _ := (heap_alloc_old _ _ (by simp; omega)).trans hAC
        go_wp2
        refine bodyPost_ret (results_row_tmp rfl _ _ (w.heap.size + 1) 56 _ (0, 0) _ rfl hvE Tryz.underlying56 rfl Tryz.sizeMach) rfl ⟨.slice (some ⟨w2.heap.size, 0, none⟩) 2 2, by rw [HD.out]; rfl, ?_, hBE⟩
        rw [HD.out]
        exact ⟨rfl, Or.inr ⟨w2.heap.size, 2, _, rfl, by omega, hAE, Nat.le_refl _, by unfold maxLen; omega, rfl, rfl⟩⟩
      · have HD : Hid (newD ns is ds s = none) := by unfold Hid; rw [HD1.out]; simp [hm]
        have hmb : (x.m != 0) = true := by simp [hm]
        clear hx
        go_wp2_with (refine wpList_store_own2 rfl 56 _ _ rfl (w.heap.size + 1) #[.slice none 0 0, .int .i64 0, .int .i64 0, .int .i64 0, .int .i64 0, .int .i64 0, .int .i64 0, .int .i64 0] rfl rfl 56 #[.slice none 0 0, .int .i64 0, .int .i64 0, .int .i64 0, .int .i64 0, .int .i64 0, .int .i64 0, .int .i64 0] hy2 Tryz.sizeMach rfl (by simp [Value.oneCell']) ?_)
        intro wB hvB hbB hsB hkB
        go_wp2
        refine bodyPost_ret (results_row_tmp rfl _ _ (w.heap.size + 1) 56 _ (0, 0) _ rfl hvB Tryz.underlying56 rfl Tryz.sizeMach) rfl ⟨.slice none 0 0, by rw [HD.out]; rfl, by rw [HD.out]; exact ⟨rfl, Or.inl ⟨rfl, rfl⟩⟩, hB2.trans (hbB.mono (by omega))⟩
end Go.Proofs.YtbhfooafhbfniaaGreatDoor
/-
  The contract of spec.MachineNew. No condition.
-/
namespace Go.Proofs.YtbhfooafhbfniaaGreatDoor
open Go.RowKit
set_option maxRecDepth 100000 in
set_option maxHeartbeats 3200000 in
theorem smachnew_any (v1 v2 v3 : Value) (ns : List Nd) (is : List In) (ds : List Df) (s : ByteArray) (w : World) (R1 : NRow w v1 ns) (R2 : InRow w v2 is) (R3 : DfRow w v3 ds) :
    Calls Tryz.prog 51 #[.agg #[v1, v2, v3], .string s] w fun e w' => ∃ v', e = .returned (.tuple #[.agg #[v', .int .i64 (newM (newD ns is ds s)).p, .int .i64 (newM (newD ns is ds s)).s, .int .i64 (newM (newD ns is ds s)).e, .int .i64 (newM (newD ns is ds s)).d, .int .i64 (newM (newD ns is ds s)).t, .int .i64 (newM (newD ns is ds s)).q, .int .i64 (newM (newD ns is ds s)).r], .bool (newD ns is ds s).isSome]) ∧ w'.ownsRow w.heap.size 130 5 v' (newL (newD ns is ds s)).length (ncs (newL (newD ns is ds s))) ∧ Below w.heap.size w w' := by
  obtain ⟨a1, c1, rfl⟩ := R1.small
  obtain ⟨a2, c2, rfl⟩ := R2.small
  obtain ⟨a3, c3, rfl⟩ := R3.small
  obtain ⟨hB0, hx0, hy0⟩ := two_boxes w (Obj.cells #[.slice a1 ns.length c1, .slice a2 is.length c2, .slice a3 ds.length c3] 36) (Obj.cells #[.slice none 0 0, .int .i64 0, .int .i64 0, .int .i64 0, .int .i64 0, .int .i64 0, .int .i64 0, .int .i64 0] 56)
  go_enter Tryz.func51, Tryz.ntmps51
  go_wp2_with fail
  refine (sdefof_any a1 a2 _ _ _ _ _ ds s _ (R3.below hB0)).mono ?_
  rintro e w1 ⟨rfl, hb1⟩
  have hB1 := hB0.trans (hb1.mono hB0.size)
  have hx1 := (hb1.block _ (Array.getElem?_eq_some_iff.1 hx0).1).trans hx0
  have hy1 := (hb1.block _ (Array.getElem?_eq_some_iff.1 hy0).1).trans hy0
  clear hB0 hx0 hy0 hb1
  go_wp2_with (refine wpList_load_row rfl 36 _ rfl w.heap.size rfl 36 #[.slice a1 ns.length c1, .slice a2 is.length c2, .slice a3 ds.length c3] (0, 0) _ hx1 Tryz.underlying36 rfl Tryz.sizeC9 ?_)
  refine (scodeok_any _ _ _ ns is ds _ (R1.below hB1) (R2.below hB1) (R3.below hB1)).mono ?_
  rintro e w2 ⟨rfl, hb2⟩
  have hB2 := hB1.trans (hb2.mono hB1.size)
  have hx2 := (hb2.block _ (Array.getElem?_eq_some_iff.1 hx1).1).trans hx1
  have hy2 := (hb2.block _ (Array.getElem?_eq_some_iff.1 hy1).1).trans hy1
  have c2' : w2.cell? ⟨w.heap.size, 0 + 2, none⟩ = some (.slice a3 ds.length c3) := cell_of_row w2 _ 2 _ _ _ hx2
  clear hB1 hx1 hy1 hb2
  cases hc : codeB ns is ds with
  | false =>
    have HD : Hid (newD ns is ds s = none) := by unfold Hid newD; rw [hc]; rfl
    go_wp2_with (refine wpList_store_own2 rfl 56 _ _ rfl (w.heap.size + 1) #[.slice none 0 0, .int .i64 0, .int .i64 0, .int .i64 0, .int .i64 0, .int .i64 0, .int .i64 0, .int .i64 0] rfl rfl 56 #[.slice none 0 0, .int .i64 0, .int .i64 0, .int .i64 0, .int .i64 0, .int .i64 0, .int .i64 0, .int .i64 0] hy2 Tryz.sizeMach rfl (by simp [Value.oneCell']) ?_)
    intro wB hvB hbB hsB hkB
    go_wp2
    refine bodyPost_ret (results_row_tmp rfl _ _ (w.heap.size + 1) 56 _ (0, 0) _ rfl hvB Tryz.underlying56 rfl Tryz.sizeMach) rfl ⟨.slice none 0 0, by rw [HD.out]; rfl, by rw [HD.out]; exact ⟨rfl, Or.inl ⟨rfl, rfl⟩⟩, hB2.trans (hbB.mono (by omega))⟩
  | true =>
    have hK := dfIdx_lt ds s 0
    have HD0 : Hid (newD ns is ds s = if decide (0 ≤ dfIdx ds s 0) = true then (ds[(dfIdx ds s 0).toNat]?).filter (fun d => d.m == 0) else none) := by unfold Hid newD; rw [hc, Bool.true_and]
    rcases hK with hK | ⟨hK1, hK2⟩
    · have HD : Hid (newD ns is ds s = none) := by unfold Hid; rw [HD0.out, hK]; rfl
      rw [hK]
      go_wp2_with (refine wpList_store_own2 rfl 56 _ _ rfl (w.heap.size + 1) #[.slice none 0 0, .int .i64 0, .int .i64 0, .int .i64 0, .int .i64 0, .int .i64 0, .int .i64 0, .int .i64 0] rfl rfl 56 #[.slice none 0 0, .int .i64 0, .int .i64 0, .int .i64 0, .int .i64 0, .int .i64 0, .int .i64 0, .int .i64 0] hy2 Tryz.sizeMach rfl (by simp [Value.oneCell']) ?_)
      intro wB hvB hbB hsB hkB
      go_wp2
      refine bodyPost_ret (results_row_tmp rfl _ _ (w.heap.size + 1) 56 _ (0, 0) _ rfl hvB Tryz.underlying56 rfl Tryz.sizeMach) rfl ⟨.slice none 0 0, by rw [HD.out]; rfl, by rw [HD.out]; exact ⟨rfl, Or.inl ⟨rfl, rfl⟩⟩, hB2.trans (hbB.mono (by omega))⟩
    · obtain ⟨k, hk⟩ : ∃ k : Nat, dfIdx ds s 0 = k := ⟨(dfIdx ds s 0).toNat, by omega⟩
      rw [hk] at hK1 hK2 HD0 ⊢
      have hlt : k < ds.length := by omega
      obtain ⟨a3', c3', e3, _, _, _, hcell⟩ := R3
      simp only [Value.slice.injEq] at e3
      obtain ⟨e3, _, _⟩ := e3
      subst e3
      obtain ⟨g, o, rfl, hg, hcell⟩ := hcell (by intro e; subst e; simp at hlt)
      obtain ⟨x, hx⟩ : ∃ x, ds[k]? = some x := ⟨ds[k], by simp [hlt]⟩
      obtain ⟨d0, d1, d2⟩ := (hcell k x hx).below hB2 hg
      clear hcell
      have HD1 : Hid (newD ns is ds s = if (x.m == 0) = true then some x else none) := by
        unfold Hid
        rw [HD0.out]
        simp [hx, Option.filter]
      by_cases hm : x.m = 0
      · have HD : Hid (newD ns is ds s = some x) := by unfold Hid; rw [HD1.out]; simp [hm]
        have hg2 : g < w2.heap.size := Nat.lt_of_lt_of_le hg hB2.size
        have hw2 : w.heap.size < w2.heap.size := (Array.getElem?_eq_some_iff.1 hx2).1
        have hw3 : w.heap.size + 1 < w2.heap.size := (Array.getElem?_eq_some_iff.1 hy2).1
        have z0 : w2.cell? ⟨w.heap.size + 1, 0, none⟩ = some (.slice none 0 0) := cell_of_row w2 _ 0 _ _ _ hy2
        have f0 : w2.frozen? ⟨w.heap.size + 1, 0, none⟩ = false := frozen_of_row w2 _ 0 _ _ hy2
        have z1 : w2.cell? ⟨w.heap.size + 1, 1, none⟩ = some (.int .i64 0) := cell_of_row w2 _ 1 _ _ _ hy2
        have f1 : w2.frozen? ⟨w.heap.size + 1, 1, none⟩ = false := frozen_of_row w2 _ 1 _ _ hy2
        have z2 : w2.cell? ⟨w.heap.size + 1, 2, none⟩ = some (.int .i64 0) := cell_of_row w2 _ 2 _ _ _ hy2
        have f2 : w2.frozen? ⟨w.heap.size + 1, 2, none⟩ = false := frozen_of_row w2 _ 2 _ _ hy2
        have z3 : w2.cell? ⟨w.heap.size + 1, 3, none⟩ = some (.int .i64 0) := cell_of_row w2 _ 3 _ _ _ hy2
        have f3 : w2.frozen? ⟨w.heap.size + 1, 3, none⟩ = false := frozen_of_row w2 _ 3 _ _ hy2
        have z4 : w2.cell? ⟨w.heap.size + 1, 4, none⟩ = some (.int .i64 0) := cell_of_row w2 _ 4 _ _ _ hy2
        have f4 : w2.frozen? ⟨w.heap.size + 1, 4, none⟩ = false := frozen_of_row w2 _ 4 _ _ hy2
        have z5 : w2.cell? ⟨w.heap.size + 1, 5, none⟩ = some (.int .i64 0) := cell_of_row w2 _ 5 _ _ _ hy2
        have f5 : w2.frozen? ⟨w.heap.size + 1, 5, none⟩ = false := frozen_of_row w2 _ 5 _ _ hy2
        have z6 : w2.cell? ⟨w.heap.size + 1, 6, none⟩ = some (.int .i64 0) := cell_of_row w2 _ 6 _ _ _ hy2
        have f6 : w2.frozen? ⟨w.heap.size + 1, 6, none⟩ = false := frozen_of_row w2 _ 6 _ _ hy2
        have z7 : w2.cell? ⟨w.heap.size + 1, 7, none⟩ = some (.int .i64 0) := cell_of_row w2 _ 7 _ _ _ hy2
        have f7 : w2.frozen? ⟨w.heap.size + 1, 7, none⟩ = false := frozen_of_row w2 _ 7 _ _ hy2
        go_wp2_with fail
        go_region
        obtain ⟨hvC, hbC, hsC⟩ := eight_set (.slice (some ⟨w2.heap.size, 0, none⟩) 2 2) (.int .i64 x.p) (.int .i64 0) (.int .i64 1) (.int .i64 0) (.int .i64 0) (.int .i64 0) (.int .i64 0) hy2
        generalize ((((((((w2.setCell ⟨w.heap.size + 1, 0, none⟩ (.slice (some ⟨w2.heap.size, 0, none⟩) 2 2)).setCell ⟨w.heap.size + 1, 1, none⟩ (.int .i64 x.p)).setCell ⟨w.heap.size + 1, 2, none⟩ (.int .i64 0)).setCell ⟨w.heap.size + 1, 3, none⟩ (.int .i64 1)).setCell ⟨w.heap.size + 1, 4, none⟩ (.int .i64 0)).setCell ⟨w.heap.size + 1, 5, none⟩ (.int .i64 0)).setCell ⟨w.heap.size + 1, 6, none⟩ (.int .i64 0)).setCell ⟨w.heap.size + 1, 7, none⟩ (.int .i64 0)) = wC at *
        have hAC : (wC.alloc (Obj.cells #[.int .i64 1, .int .i64 0, .string ByteArray.empty, .int .i64 0, .int .i64 0, .int .i64 5, .int .i64 0, .string ByteArray.empty, .int .i64 0, .int .i64 0] 130)).heap[w2.heap.size]? = some (Obj.cells #[.int .i64 1, .int .i64 0, .string ByteArray.empty, .int .i64 0, .int .i64 0, .int .i64 5, .int .i64 0, .string ByteArray.empty, .int .i64 0, .int .i64 0] 130) := by rw [← hsC]; exact heap_alloc_new _ _
        have hBC := hB2.trans (hbC.mono (Nat.le_succ w.heap.size))
        have hBE : Below w.heap.size w ((wC.alloc (Obj.cells #[.int .i64 1, .int .i64 0, .string ByteArray.empty, .int .i64 0, .int .i64 0, .int .i64 5, .int .i64 0, .string ByteArray.empty, .int .i64 0, .int .i64 0] 130)).alloc (Obj.cells #[.slice (some ⟨w2.heap.size, 0, none⟩) 2 2] 32)).drew := ((hBC.alloc hBC.size _).alloc (by have := hBC.size; simp; omega) _).drew
        have hvE : ((wC.alloc (Obj.cells #[.int .i64 1, .int .i64 0, .string ByteArray.empty, .int .i64 0, .int .i64 0, .int .i64 5, .int .i64 0, .string ByteArray.empty, .int .i64 0, .int .i64 0] 130)).alloc (Obj.cells #[.slice (some ⟨w2.heap.size, 0, none⟩) 2 2] 32)).drew.heap[w.heap.size + 1]? = _ := (heap_alloc_old _ _ (by simp; omega)).trans ((heap_alloc_old _ _ (by omega)).trans hvC)
        have hAE : ((wC.alloc (Obj.cells #[.int .i64 1, .int .i64 0, .string ByteArray.empty, .int .i64 0, .int .i64 0, .int .i64 5, .int .i64 0, .string ByteArray.empty, .int .i64 0, .int .i64 0] 130)).alloc (Obj.cells #[.slice (some ⟨w2.heap.size, 0, none⟩) 2 2] 32)).drew.heap[w2.heap.size]? = _ := (heap_alloc_old _ _ (by simp; omega)).trans hAC
        go_wp2
        refine bodyPost_ret (results_row_tmp rfl _ _ (w.heap.size + 1) 56 _ (0, 0) _ rfl hvE Tryz.underlying56 rfl Tryz.sizeMach) rfl ⟨.slice (some ⟨w2.heap.size, 0, none⟩) 2 2, by rw [HD.out]; rfl, ?_, hBE⟩
        rw [HD.out]
        exact ⟨rfl, Or.inr ⟨w2.heap.size, 2, _, rfl, by omega, hAE, Nat.le_refl _, by unfold maxLen; omega, rfl, rfl⟩⟩
      · have HD : Hid (newD ns is ds s = none) := by unfold Hid; rw [HD1.out]; simp [hm]
        have hmb : (x.m != 0) = true := by simp [hm]
        clear hx
        go_wp2_with (refine wpList_store_own2 rfl 56 _ _ rfl (w.heap.size + 1) #[.slice none 0 0, .int .i64 0, .int .i64 0, .int .i64 0, .int .i64 0, .int .i64 0, .int .i64 0, .int .i64 0] rfl rfl 56 #[.slice none 0 0, .int .i64 0, .int .i64 0, .int .i64 0, .int .i64 0, .int .i64 0, .int .i64 0, .int .i64 0] hy2 Tryz.sizeMach rfl (by simp [Value.oneCell']) ?_)
        intro wB hvB hbB hsB hkB
        go_wp2
        refine bodyPost_ret (results_row_tmp rfl _ _ (w.heap.size + 1) 56 _ (0, 0) _ rfl hvB Tryz.underlying56 rfl Tryz.sizeMach) rfl ⟨.slice none 0 0, by rw [HD.out]; rfl, by rw [HD.out]; exact ⟨rfl, Or.inl ⟨rfl, rfl⟩⟩, hB2.trans (hbB.mono (by omega))⟩
end Go.Proofs.YtbhfooafhbfniaaGreatDoor
