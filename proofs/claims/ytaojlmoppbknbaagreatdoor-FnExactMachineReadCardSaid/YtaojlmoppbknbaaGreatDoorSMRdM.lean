/-
  The contract of spec.MachineRead: the machine of the bytes, or nothing. No condition but a bound on the text.
-/
import Derived.Test.YtaojlmoppbknbaaGreatDoorS8RdM
import Derived.Test.YtaojlmoppbknbaaGreatDoorRMachM
import Derived.Test.YtaojlmoppbknbaaGreatDoorMPack2M
import Derived.Test.YtaojlmoppbknbaaGreatDoorITdM
namespace Go.Proofs.YtaojlmoppbknbaaGreatDoor
open Go.RowKit

theorem Row.cur {W w' : World} {v : Value} {zs : List Int} {C : Nat} {a : Int} {ok : Bool} (R : Row W v zs) (hC : C8 W C v a ok) (hG : W.grownBy w' (some C)) : Row w' v zs := by
  obtain ⟨ao, cap, rfl, h1, h2, h3, h4⟩ := R
  refine ⟨ao, cap, rfl, h1, h2, h3, fun hne => ?_⟩
  obtain ⟨g, o, rfl, hg, hc⟩ := h4 hne
  have n1 := Row.apart (List.length_pos_iff.2 hne) hc hC (cur_no _ _ _ _ _)
  refine ⟨g, o, rfl, Nat.lt_of_lt_of_le hg hG.size, fun i hi => ?_⟩
  rw [World.cell?_of_block (w := W) (hG.block g hg (by simpa using n1))]
  exact hc i hi
theorem grown_nw {w w1 w2 : World} {P g : Nat} (h : w.grownBy w1 (some P)) (hg : w.heap.size ≤ g) (k : w1.grownBy w2 (some g)) : w.grownBy w2 (some P) :=
  ⟨k.os.trans h.os, k.tape.trans h.tape, k.output.trans h.output, Nat.le_trans h.size k.size, fun j hj hne => (k.block j (Nat.lt_of_lt_of_le hj h.size) (by simp; omega)).trans (h.block j hj hne)⟩
def mrL (r : Option (List Nd × Mc)) : List Nd := match r with | some p => p.1 | none => []
def mrM (r : Option (List Nd × Mc)) : Mc := match r with | some p => p.2 | none => m0
/-- What MachineRead answers. -/
def MrAns (B : Nat) (r : Option (List Nd × Mc)) (e : Ending) (w' : World) : Prop := ∃ v', e = .returned (.tuple #[.agg #[v', .int .i64 (mrM r).p, .int .i64 (mrM r).s, .int .i64 (mrM r).e, .int .i64 (mrM r).d, .int .i64 (mrM r).t, .int .i64 (mrM r).q, .int .i64 (mrM r).r], .bool r.isSome]) ∧ w'.ownsRow B 86 5 v' (mrL r).length (ncs (mrL r))
theorem MrAns.intro {B : Nat} {r : Option (List Nd × Mc)} {e : Ending} {w' : World} (v' : Value) (h : e = .returned (.tuple #[.agg #[v', .int .i64 (mrM r).p, .int .i64 (mrM r).s, .int .i64 (mrM r).e, .int .i64 (mrM r).d, .int .i64 (mrM r).t, .int .i64 (mrM r).q, .int .i64 (mrM r).r], .bool r.isSome])) (k : w'.ownsRow B 86 5 v' (mrL r).length (ncs (mrL r))) : MrAns B r e w' := ⟨v', h, k⟩
theorem str_eq8 {l : List Int} {s : ByteArray} (hl : ∀ z ∈ l, 0 ≤ z ∧ z ≤ 255) : strOfNums l = s ↔ l = sb s := by
  constructor
  · intro h
    rw [← h, sb_str hl]
  · intro h
    rw [h, strOfNums_sb]
theorem mpL_wf (xs : List Nd) (m : Mc) : ∀ z ∈ mpL xs m, 0 ≤ z ∧ z ≤ 255 := by
  intro z hz
  unfold mpL at hz
  rcases List.mem_append.1 hz with h | h
  · rw [List.mem_flatMap] at h
    obtain ⟨x, _, hx⟩ := h
    exact encI_wf x z hx
  · exact wireL_wf _ z h
/-- What the specification comes to, by what is left. -/
theorem mr_by {ns : List Nd} {is : List In} {ds : List Df} {s : ByteArray} {l : List Int} {a at_ : Int} {k k' : Bool} {xs : List Nd} (hl : num8K (sb s) 7 0 true = (l, a, k)) (hs : sP (sb s) a k = (xs, at_, k')) :
    (sOk (sb s) a k = false → mrR ns is ds (sb s) = none) ∧ (sOk (sb s) a k = true → poolB xs = true ∧ (machB ns is ds xs (mcOf l) = false → mrR ns is ds (sb s) = none) ∧ (machB ns is ds xs (mcOf l) = true → (mpR ns is ds xs (mcOf l) = s → mrR ns is ds (sb s) = some (xs, mcOf l)) ∧ (mpR ns is ds xs (mcOf l) ≠ s → mrR ns is ds (sb s) = none))) := by
  have key := fun ys m => mrR_spec (ns := ns) (is := is) (ds := ds) (sb_wf s) hl ys m
  rw [hs] at key
  refine ⟨fun h => ?_, fun h => ⟨?_, fun hb => ?_, fun hb => ⟨fun e => ?_, fun e => ?_⟩⟩⟩
  · cases hv : mrR ns is ds (sb s) with
    | none => rfl
    | some p => have := ((key p.1 p.2).1 hv).1.1; rw [h] at this; cases this
  · unfold sOk at h
    rw [hs] at h
    simp only [Bool.and_eq_true] at h
    exact h.2
  · cases hv : mrR ns is ds (sb s) with
    | none => rfl
    | some p =>
      obtain ⟨⟨_, h2⟩, h3, h4, _⟩ := (key p.1 p.2).1 hv
      have h2 : xs = p.1 := h2
      rw [← h2, h3, hb] at h4
      cases h4
  · have eR : mpR ns is ds xs (mcOf l) = strOfNums (mpL xs (mcOf l)) := by unfold mpR; rw [if_pos hb]
    rw [eR, str_eq8 (mpL_wf _ _)] at e
    exact (key xs (mcOf l)).2 ⟨⟨h, rfl⟩, rfl, hb, e⟩
  · have eR : mpR ns is ds xs (mcOf l) = strOfNums (mpL xs (mcOf l)) := by unfold mpR; rw [if_pos hb]
    cases hv : mrR ns is ds (sb s) with
    | none => rfl
    | some p =>
      obtain ⟨⟨_, h2⟩, h3, _, h5⟩ := (key p.1 p.2).1 hv
      have h2 : xs = p.1 := h2
      rw [← h2, h3] at h5
      exact absurd (by rw [eR, str_eq8 (mpL_wf _ _)]; exact h5) e

set_option maxRecDepth 100000 in
set_option maxHeartbeats 12800000 in
theorem smread_any (v1 v2 v3 : Value) (ns : List Nd) (is : List In) (ds : List Df) (s : ByteArray) (w : World) (R1 : NRow w v1 ns) (R2 : InRow w v2 is) (R3 : DfRow w v3 ds) (hs : s.size ≤ 140737488351232) :
    Calls Tryz.prog 5 #[.agg #[v1, v2, v3], .string s] w fun e w' => MrAns w.heap.size (mrR ns is ds (sb s)) e w' ∧ Below w.heap.size w w' := by
  obtain ⟨a1, c1, rfl⟩ := R1.small
  obtain ⟨a2, c2, rfl⟩ := R2.small
  obtain ⟨a3, c3, rfl⟩ := R3.small
  obtain ⟨hB2, z0, z1⟩ := two_boxes w (Obj.cells #[.slice a1 ns.length c1, .slice a2 is.length c2, .slice a3 ds.length c3] 40) (Obj.cells #[.slice none 0 0, .int .i64 0, .int .i64 0, .int .i64 0, .int .i64 0, .int .i64 0, .int .i64 0, .int .i64 0] 34)
  go_enter Tryz.func5, Tryz.ntmps5
  go_wp2_with (first
    | (refine wpList_bytes8 _ rfl _ 9 51 5 rfl Tryz.underlying9 Tryz.underlying51 Tryz.underlying5 s rfl ?_; intro cap w2 g0 g1 g2 g3))
  obtain ⟨W2, hW2⟩ : ∃ W2, (w.alloc (Obj.cells #[.slice a1 ns.length c1, .slice a2 is.length c2, .slice a3 ds.length c3] 40)).alloc (Obj.cells #[.slice none 0 0, .int .i64 0, .int .i64 0, .int .i64 0, .int .i64 0, .int .i64 0, .int .i64 0, .int .i64 0] 34) = W2 := ⟨_, rfl⟩
  have hs2 : W2.heap.size = w.heap.size + 1 + 1 := by rw [← hW2]; simp
  rw [hW2] at hB2 z0 z1 g1 g2 g3
  have RR := row_of_bytes (w := W2) hs g0 g1 g3
  rw [hs2] at RR g3
  have z0 := (g2.block _ (by omega) (by simp)).trans z0
  have z1 := (g2.block _ (by omega) (by simp)).trans z1
  have B2 : Below w.heap.size w w2 := hB2.grown g2 hB2.size (fun k hk => by cases hk)
  clear hs2 g1 g2 hW2 hB2
  have B3 : Below w2.heap.size w2 (w2.alloc (Obj.cells #[.slice (some ⟨w.heap.size + 1 + 1, 0, none⟩) s.size cap, .int .i64 0, .bool true] 53)) := (Below.refl _ _).alloc (Nat.le_refl _) _
  have hC0 : C8 (w2.alloc (Obj.cells #[.slice (some ⟨w.heap.size + 1 + 1, 0, none⟩) s.size cap, .int .i64 0, .bool true] 53)) w2.heap.size (.slice (some ⟨w.heap.size + 1 + 1, 0, none⟩) s.size cap) 0 true := heap_alloc_new _ _
  have x0 := (B3.block w.heap.size (by omega)).trans z0
  have x1 := (B3.block (w.heap.size + 1) (by omega)).trans z1
  have B03 := B2.trans (B3.mono B2.size)
  have R0 := RR.below B3
  have s3 : w2.heap.size + 1 ≤ (w2.alloc (Obj.cells #[.slice (some ⟨w.heap.size + 1 + 1, 0, none⟩) s.size cap, .int .i64 0, .bool true] 53)).heap.size := by simp
  obtain ⟨WB, hWB⟩ : ∃ WB, w2.alloc (Obj.cells #[.slice (some ⟨w.heap.size + 1 + 1, 0, none⟩) s.size cap, .int .i64 0, .bool true] 53) = WB := ⟨_, rfl⟩
  rw [hWB] at B3 hC0 x0 x1 B03 R0 s3 ⊢
  have hwC : w.heap.size + 1 < w2.heap.size := by omega
  obtain ⟨C, hCeq⟩ : ∃ C, Hid (w2.heap.size = C) := ⟨_, rfl⟩
  rw [hCeq.out] at hC0 s3 hwC ⊢
  clear hCeq hWB B3 z0 z1 B2 RR g3
  have G0 : WB.grownBy WB (some C) := ⟨rfl, rfl, rfl, Nat.le_refl _, fun _ _ _ => rfl⟩
  obtain ⟨y1, a1', k1, e1, y10, y11, a10, a11, HC1⟩ := s8num_v C (.slice (some ⟨w.heap.size + 1 + 1, 0, none⟩) s.size cap) (sb s) 0 true WB R0 hC0 (by omega) (by omega)
  refine HC1.mono ?_
  rintro e u1 ⟨rfl, hC1, hg1⟩
  have G1 := grown_trans G0 hg1
  go_wp2_with (refine wpList_store_own rfl 34 _ _ rfl u1.heap.size (mcs (.slice none 0 0) (⟨y1, 0, 0, 0, 0, 0, 0⟩ : Mc)) rfl rfl 34 _ (heap_alloc_new _ _) Tryz.sizeMach rfl (mcs_one _ _ _ _) ?_)
  intro n1 hM1 hb1 hsx
  clear hsx
  have hB1 : Below u1.heap.size u1 n1 := ((Below.refl _ _).alloc (Nat.le_refl _) _).trans hb1
  have hC1 := hC1.below hB1
  have G1 := grown_trans G1 (grown_below hB1 (some C))
  have hMB : WB.heap.size ≤ u1.heap.size := hg1.size
  have lC : C < WB.heap.size := by omega
  obtain ⟨bm, hbm⟩ : ∃ bm, Hid (u1.heap.size = bm) := ⟨_, rfl⟩
  rw [hbm.out] at hM1 hMB ⊢
  clear hbm hB1 hb1 hg1 HC1
  obtain ⟨y2, a2', k2, e2, y20, y21, a20, a21, HC2⟩ := s8num_v C (.slice (some ⟨w.heap.size + 1 + 1, 0, none⟩) s.size cap) (sb s) a1' k1 n1 (R0.cur hC0 G1) hC1 a10 a11
  have lm2 := (Array.getElem?_eq_some_iff.1 hM1).1
  go_wp2_with fail
  refine HC2.mono ?_
  rintro e u2 ⟨rfl, hC2, hg2⟩
  have G2 := grown_trans G1 hg2
  have hM2 := (hg2.block bm lm2 (by simp; omega)).trans hM1
  have cm2 : u2.cell? ⟨bm, 5, none⟩ = some (.int .i64 0) := cell_of_row _ _ 5 _ _ _ hM2
  have fm2 : u2.frozen? ⟨bm, 5, none⟩ = false := frozen_of_row _ _ 5 _ _ hM2
  have hM2 : (u2.setCell ⟨bm, 5, none⟩ (.int .i64 y2)).heap[bm]? = some (.cells (mcs (.slice none 0 0) (⟨y1, 0, 0, 0, y2, 0, 0⟩ : Mc)) 34 (0, 0)) := heap_setCell_same u2 bm 5 _ _ (.int .i64 y2) hM2
  have hC2 : C8 (u2.setCell ⟨bm, 5, none⟩ (.int .i64 y2)) C (.slice (some ⟨w.heap.size + 1 + 1, 0, none⟩) s.size cap) a2' k2 := (heap_setCell_other u2 ⟨bm, 5, none⟩ C (.int .i64 y2) (by show C ≠ bm; omega)).trans hC2
  have G2 := grown_nw G2 hMB (grown_set u2 bm 5 (.int .i64 y2))
  clear HC2 hg2
  obtain ⟨n2, hn2⟩ : ∃ n2, u2.setCell ⟨bm, 5, none⟩ (.int .i64 y2) = n2 := ⟨_, rfl⟩
  rw [hn2] at hM2 hC2 G2
  obtain ⟨y3, a3', k3, e3, y30, y31, a30, a31, HC3⟩ := s8num_v C (.slice (some ⟨w.heap.size + 1 + 1, 0, none⟩) s.size cap) (sb s) a2' k2 n2 (R0.cur hC0 G2) hC2 a20 a21
  have lm3 := (Array.getElem?_eq_some_iff.1 hM2).1
  go_wp2_with fail
  refine HC3.mono ?_
  rintro e u3 ⟨rfl, hC3, hg3⟩
  have G3 := grown_trans G2 hg3
  have hM3 := (hg3.block bm lm3 (by simp; omega)).trans hM2
  have cm3 : u3.cell? ⟨bm, 6, none⟩ = some (.int .i64 0) := cell_of_row _ _ 6 _ _ _ hM3
  have fm3 : u3.frozen? ⟨bm, 6, none⟩ = false := frozen_of_row _ _ 6 _ _ hM3
  have hM3 : (u3.setCell ⟨bm, 6, none⟩ (.int .i64 y3)).heap[bm]? = some (.cells (mcs (.slice none 0 0) (⟨y1, 0, 0, 0, y2, y3, 0⟩ : Mc)) 34 (0, 0)) := heap_setCell_same u3 bm 6 _ _ (.int .i64 y3) hM3
  have hC3 : C8 (u3.setCell ⟨bm, 6, none⟩ (.int .i64 y3)) C (.slice (some ⟨w.heap.size + 1 + 1, 0, none⟩) s.size cap) a3' k3 := (heap_setCell_other u3 ⟨bm, 6, none⟩ C (.int .i64 y3) (by show C ≠ bm; omega)).trans hC3
  have G3 := grown_nw G3 hMB (grown_set u3 bm 6 (.int .i64 y3))
  clear HC3 hg3
  obtain ⟨n3, hn3⟩ : ∃ n3, u3.setCell ⟨bm, 6, none⟩ (.int .i64 y3) = n3 := ⟨_, rfl⟩
  rw [hn3] at hM3 hC3 G3
  obtain ⟨y4, a4', k4, e4, y40, y41, a40, a41, HC4⟩ := s8num_v C (.slice (some ⟨w.heap.size + 1 + 1, 0, none⟩) s.size cap) (sb s) a3' k3 n3 (R0.cur hC0 G3) hC3 a30 a31
  have lm4 := (Array.getElem?_eq_some_iff.1 hM3).1
  go_wp2_with fail
  refine HC4.mono ?_
  rintro e u4 ⟨rfl, hC4, hg4⟩
  have G4 := grown_trans G3 hg4
  have hM4 := (hg4.block bm lm4 (by simp; omega)).trans hM3
  have cm4 : u4.cell? ⟨bm, 2, none⟩ = some (.int .i64 0) := cell_of_row _ _ 2 _ _ _ hM4
  have fm4 : u4.frozen? ⟨bm, 2, none⟩ = false := frozen_of_row _ _ 2 _ _ hM4
  have hM4 : (u4.setCell ⟨bm, 2, none⟩ (.int .i64 y4)).heap[bm]? = some (.cells (mcs (.slice none 0 0) (⟨y1, y4, 0, 0, y2, y3, 0⟩ : Mc)) 34 (0, 0)) := heap_setCell_same u4 bm 2 _ _ (.int .i64 y4) hM4
  have hC4 : C8 (u4.setCell ⟨bm, 2, none⟩ (.int .i64 y4)) C (.slice (some ⟨w.heap.size + 1 + 1, 0, none⟩) s.size cap) a4' k4 := (heap_setCell_other u4 ⟨bm, 2, none⟩ C (.int .i64 y4) (by show C ≠ bm; omega)).trans hC4
  have G4 := grown_nw G4 hMB (grown_set u4 bm 2 (.int .i64 y4))
  clear HC4 hg4
  obtain ⟨n4, hn4⟩ : ∃ n4, u4.setCell ⟨bm, 2, none⟩ (.int .i64 y4) = n4 := ⟨_, rfl⟩
  rw [hn4] at hM4 hC4 G4
  obtain ⟨y5, a5', k5, e5, y50, y51, a50, a51, HC5⟩ := s8num_v C (.slice (some ⟨w.heap.size + 1 + 1, 0, none⟩) s.size cap) (sb s) a4' k4 n4 (R0.cur hC0 G4) hC4 a40 a41
  have lm5 := (Array.getElem?_eq_some_iff.1 hM4).1
  go_wp2_with fail
  refine HC5.mono ?_
  rintro e u5 ⟨rfl, hC5, hg5⟩
  have G5 := grown_trans G4 hg5
  have hM5 := (hg5.block bm lm5 (by simp; omega)).trans hM4
  have cm5 : u5.cell? ⟨bm, 3, none⟩ = some (.int .i64 0) := cell_of_row _ _ 3 _ _ _ hM5
  have fm5 : u5.frozen? ⟨bm, 3, none⟩ = false := frozen_of_row _ _ 3 _ _ hM5
  have hM5 : (u5.setCell ⟨bm, 3, none⟩ (.int .i64 y5)).heap[bm]? = some (.cells (mcs (.slice none 0 0) (⟨y1, y4, y5, 0, y2, y3, 0⟩ : Mc)) 34 (0, 0)) := heap_setCell_same u5 bm 3 _ _ (.int .i64 y5) hM5
  have hC5 : C8 (u5.setCell ⟨bm, 3, none⟩ (.int .i64 y5)) C (.slice (some ⟨w.heap.size + 1 + 1, 0, none⟩) s.size cap) a5' k5 := (heap_setCell_other u5 ⟨bm, 3, none⟩ C (.int .i64 y5) (by show C ≠ bm; omega)).trans hC5
  have G5 := grown_nw G5 hMB (grown_set u5 bm 3 (.int .i64 y5))
  clear HC5 hg5
  obtain ⟨n5, hn5⟩ : ∃ n5, u5.setCell ⟨bm, 3, none⟩ (.int .i64 y5) = n5 := ⟨_, rfl⟩
  rw [hn5] at hM5 hC5 G5
  obtain ⟨y6, a6', k6, e6, y60, y61, a60, a61, HC6⟩ := s8num_v C (.slice (some ⟨w.heap.size + 1 + 1, 0, none⟩) s.size cap) (sb s) a5' k5 n5 (R0.cur hC0 G5) hC5 a50 a51
  have lm6 := (Array.getElem?_eq_some_iff.1 hM5).1
  go_wp2_with fail
  refine HC6.mono ?_
  rintro e u6 ⟨rfl, hC6, hg6⟩
  have G6 := grown_trans G5 hg6
  have hM6 := (hg6.block bm lm6 (by simp; omega)).trans hM5
  have cm6 : u6.cell? ⟨bm, 4, none⟩ = some (.int .i64 0) := cell_of_row _ _ 4 _ _ _ hM6
  have fm6 : u6.frozen? ⟨bm, 4, none⟩ = false := frozen_of_row _ _ 4 _ _ hM6
  have hM6 : (u6.setCell ⟨bm, 4, none⟩ (.int .i64 y6)).heap[bm]? = some (.cells (mcs (.slice none 0 0) (⟨y1, y4, y5, y6, y2, y3, 0⟩ : Mc)) 34 (0, 0)) := heap_setCell_same u6 bm 4 _ _ (.int .i64 y6) hM6
  have hC6 : C8 (u6.setCell ⟨bm, 4, none⟩ (.int .i64 y6)) C (.slice (some ⟨w.heap.size + 1 + 1, 0, none⟩) s.size cap) a6' k6 := (heap_setCell_other u6 ⟨bm, 4, none⟩ C (.int .i64 y6) (by show C ≠ bm; omega)).trans hC6
  have G6 := grown_nw G6 hMB (grown_set u6 bm 4 (.int .i64 y6))
  clear HC6 hg6
  obtain ⟨n6, hn6⟩ : ∃ n6, u6.setCell ⟨bm, 4, none⟩ (.int .i64 y6) = n6 := ⟨_, rfl⟩
  rw [hn6] at hM6 hC6 G6
  obtain ⟨y7, a7', k7, e7, y70, y71, a70, a71, HC7⟩ := s8num_v C (.slice (some ⟨w.heap.size + 1 + 1, 0, none⟩) s.size cap) (sb s) a6' k6 n6 (R0.cur hC0 G6) hC6 a60 a61
  have lm7 := (Array.getElem?_eq_some_iff.1 hM6).1
  go_wp2_with fail
  refine HC7.mono ?_
  rintro e u7 ⟨rfl, hC7, hg7⟩
  have G7 := grown_trans G6 hg7
  have hM7 := (hg7.block bm lm7 (by simp; omega)).trans hM6
  have cm7 : u7.cell? ⟨bm, 7, none⟩ = some (.int .i64 0) := cell_of_row _ _ 7 _ _ _ hM7
  have fm7 : u7.frozen? ⟨bm, 7, none⟩ = false := frozen_of_row _ _ 7 _ _ hM7
  have hM7 : (u7.setCell ⟨bm, 7, none⟩ (.int .i64 y7)).heap[bm]? = some (.cells (mcs (.slice none 0 0) (⟨y1, y4, y5, y6, y2, y3, y7⟩ : Mc)) 34 (0, 0)) := heap_setCell_same u7 bm 7 _ _ (.int .i64 y7) hM7
  have hC7 : C8 (u7.setCell ⟨bm, 7, none⟩ (.int .i64 y7)) C (.slice (some ⟨w.heap.size + 1 + 1, 0, none⟩) s.size cap) a7' k7 := (heap_setCell_other u7 ⟨bm, 7, none⟩ C (.int .i64 y7) (by show C ≠ bm; omega)).trans hC7
  have G7 := grown_nw G7 hMB (grown_set u7 bm 7 (.int .i64 y7))
  clear HC7 hg7
  obtain ⟨n7, hn7⟩ : ∃ n7, u7.setCell ⟨bm, 7, none⟩ (.int .i64 y7) = n7 := ⟨_, rfl⟩
  rw [hn7] at hM7 hC7 G7
  have HK : Hid (num8K (sb s) 7 0 true = ([y1, y2, y3, y4, y5, y6, y7], a7', k7)) := by unfold Hid; simp only [num8K]; rw [e1]; dsimp only; rw [e2]; dsimp only; rw [e3]; dsimp only; rw [e4]; dsimp only; rw [e5]; dsimp only; rw [e6]; dsimp only; rw [e7]
  clear e1 e2 e3 e4 e5 e6 e7
  go_wp2_with fail
  have lm8 := (Array.getElem?_eq_some_iff.1 hM7).1
  have HR := s8read_any C (.slice (some ⟨w.heap.size + 1 + 1, 0, none⟩) s.size cap) (sb s) a7' k7 n7 (R0.cur hC0 G7) hC7 a70 a71
  obtain ⟨p, hp⟩ : ∃ p, Hid (sP (sb s) a7' k7 = p) := ⟨_, rfl⟩
  obtain ⟨xs, at_, kk⟩ := p
  obtain ⟨b, hb⟩ : ∃ b, Hid (sOk (sb s) a7' k7 = b) := ⟨_, rfl⟩
  have HV := mr_by (ns := ns) (is := is) (ds := ds) HK.out hp.out
  rw [hb.out, show mcOf [y1, y2, y3, y4, y5, y6, y7] = (⟨y1, y4, y5, y6, y2, y3, y7⟩ : Mc) from rfl] at HV
  rw [hp.out, hb.out] at HR
  dsimp only at HR
  refine HR.mono ?_
  rintro e n8 ⟨vs, rfl, o8, hC8, hg8, hz8⟩
  obtain ⟨av, cv, rfl⟩ := own_form o8
  have G8 := grown_trans G7 hg8
  have hM8 := (hg8.block bm lm8 (by simp; omega)).trans hM7
  have cm8 : n8.cell? ⟨bm, 0, none⟩ = some (.slice none 0 0) := cell_of_row _ _ 0 _ _ _ hM8
  have fm8 : n8.frozen? ⟨bm, 0, none⟩ = false := frozen_of_row _ _ 0 _ _ hM8
  have hM9 : (n8.setCell ⟨bm, 0, none⟩ (.slice av xs.length cv)).heap[bm]? = some (.cells #[.slice av xs.length cv, .int .i64 y1, .int .i64 y4, .int .i64 y5, .int .i64 y6, .int .i64 y2, .int .i64 y3, .int .i64 y7] 34 (0, 0)) := heap_setCell_same n8 bm 0 _ _ (.slice av xs.length cv) hM8
  have hC9 : C8 (n8.setCell ⟨bm, 0, none⟩ (.slice av xs.length cv)) C (.slice (some ⟨w.heap.size + 1 + 1, 0, none⟩) s.size cap) at_ b := (heap_setCell_other n8 ⟨bm, 0, none⟩ C (.slice av xs.length cv) (by show C ≠ bm; omega)).trans hC8
  have G9 := grown_nw G8 hMB (grown_set n8 bm 0 (.slice av xs.length cv))
  have o9 := ownsRow_setCell_below o8 (a := ⟨bm, 0, none⟩) (by show bm < n7.heap.size; exact lm8) (.slice av xs.length cv)
  have x09 := (G9.block w.heap.size (by omega) (by simp; omega)).trans x0
  have x19 := (G9.block (w.heap.size + 1) (by omega) (by simp; omega)).trans x1
  have B9 : Below w.heap.size w (n8.setCell ⟨bm, 0, none⟩ (.slice av xs.length cv)) := B03.grown G9 B03.size (fun k hk => by simp at hk; omega)
  have cok : (n8.setCell ⟨bm, 0, none⟩ (.slice av xs.length cv)).cell? ⟨C, 2, none⟩ = some (.bool b) := cell_of_row _ _ 2 _ _ _ hC9
  have hB7 : w.heap.size + 1 < n7.heap.size := by omega
  clear HR hC8 hg8 G8 hM8 o8 G9 hC9 HK hp hb hz8
  obtain ⟨n9, hn9⟩ : ∃ n9, n8.setCell ⟨bm, 0, none⟩ (.slice av xs.length cv) = n9 := ⟨_, rfl⟩
  rw [hn9] at hM9 o9 x09 x19 B9 cok
  cases b with
  | false =>
    have HA : Hid (mrR ns is ds (sb s) = none) := HV.1 rfl
    go_wp2_with (refine wpList_store_own rfl 34 _ _ rfl (w.heap.size + 1) #[.slice none 0 0, .int .i64 0, .int .i64 0, .int .i64 0, .int .i64 0, .int .i64 0, .int .i64 0, .int .i64 0] rfl rfl 34 _ x19 Tryz.sizeMach rfl (by simp [Value.oneCell']) ?_)
    intro wF hF hbF hsF
    have BF := B9.trans (hbF.mono (Nat.le_succ _))
    clear hsF
    go_wp2
    refine bodyPost_ret (results_row_tmp rfl _ _ (w.heap.size + 1) 34 _ (0, 0) _ rfl hF Tryz.underlying34 rfl Tryz.sizeMach) rfl ⟨MrAns.intro (.slice none 0 0) ?_ ?_, BF⟩
    · rw [HA.out]; rfl
    · rw [HA.out]; exact World.ownsRow_nil _ _ _ _
  | true =>
    obtain ⟨hpool, hmno, hmyes⟩ := HV.2 rfl
    have hlen := poolB_len hpool
    have R9 : NRow n9 (.slice av xs.length cv) xs := NRow.of_own o9 (by omega) (ndok_max (pool_ndok hpool))
    have HP := smpack_any _ _ _ _ ns is ds xs (⟨y1, y4, y5, y6, y2, y3, y7⟩ : Mc) n9 (R1.below B9) (R2.below B9) (R3.below B9) R9
    obtain ⟨tx, htx⟩ : ∃ tx, Hid (mpR ns is ds xs (⟨y1, y4, y5, y6, y2, y3, y7⟩ : Mc) = tx) := ⟨_, rfl⟩
    obtain ⟨tb, htb⟩ : ∃ tb, Hid (machB ns is ds xs (⟨y1, y4, y5, y6, y2, y3, y7⟩ : Mc) = tb) := ⟨_, rfl⟩
    rw [htx.out, htb.out] at HP
    rw [htx.out, htb.out] at hmyes
    rw [htb.out] at hmno
    clear HV htx htb
    go_wp2_with (first
      | (refine wpList_load_row rfl 40 _ rfl w.heap.size rfl 40 #[.slice a1 ns.length c1, .slice a2 is.length c2, .slice a3 ds.length c3] (0, 0) _ x09 Tryz.underlying40 rfl Tryz.sizeC ?_)
      | (refine wpList_load_row rfl 34 _ rfl bm rfl 34 #[.slice av xs.length cv, .int .i64 y1, .int .i64 y4, .int .i64 y5, .int .i64 y6, .int .i64 y2, .int .i64 y3, .int .i64 y7] (0, 0) _ hM9 Tryz.underlying34 rfl Tryz.sizeMach ?_))
    refine HP.mono ?_
    rintro e w10 ⟨rfl, hb10⟩
    have x10 := (hb10.block _ (Array.getElem?_eq_some_iff.1 x19).1).trans x19
    have m10 := (hb10.block _ (Array.getElem?_eq_some_iff.1 hM9).1).trans hM9
    have o10 := own_below o9 hb10
    have B10 := B9.trans (hb10.mono B9.size)
    clear HP hb10 x09 x19 hM9 o9 R9 cok
    cases tb with
    | false =>
      have HA : Hid (mrR ns is ds (sb s) = none) := hmno rfl
      go_wp2_with (refine wpList_store_own rfl 34 _ _ rfl (w.heap.size + 1) #[.slice none 0 0, .int .i64 0, .int .i64 0, .int .i64 0, .int .i64 0, .int .i64 0, .int .i64 0, .int .i64 0] rfl rfl 34 _ x10 Tryz.sizeMach rfl (by simp [Value.oneCell']) ?_)
      intro wF hF hbF hsF
      have BF := B10.trans (hbF.mono (Nat.le_succ _))
      clear hsF
      go_wp2
      refine bodyPost_ret (results_row_tmp rfl _ _ (w.heap.size + 1) 34 _ (0, 0) _ rfl hF Tryz.underlying34 rfl Tryz.sizeMach) rfl ⟨MrAns.intro (.slice none 0 0) ?_ ?_, BF⟩
      · rw [HA.out]; rfl
      · rw [HA.out]; exact World.ownsRow_nil _ _ _ _
    | true =>
      by_cases heq : tx = s
      · have HA : Hid (mrR ns is ds (sb s) = some (xs, (⟨y1, y4, y5, y6, y2, y3, y7⟩ : Mc))) := (hmyes rfl).1 heq
        go_wp2_with (first
          | (refine wpList_load_row rfl 34 _ rfl bm rfl 34 #[.slice av xs.length cv, .int .i64 y1, .int .i64 y4, .int .i64 y5, .int .i64 y6, .int .i64 y2, .int .i64 y3, .int .i64 y7] (0, 0) _ m10 Tryz.underlying34 rfl Tryz.sizeMach ?_)
          | (refine wpList_store_own2 rfl 34 _ _ rfl (w.heap.size + 1) #[.slice av xs.length cv, .int .i64 y1, .int .i64 y4, .int .i64 y5, .int .i64 y6, .int .i64 y2, .int .i64 y3, .int .i64 y7] rfl rfl 34 _ x10 Tryz.sizeMach rfl (by simp [Value.oneCell']) ?_))
        intro wF hF hbF hsF hkF
        have BF := B10.trans (hbF.mono (Nat.le_succ _))
        have oF := own_mono (own_keep o10 hB7 hkF) (by omega : w.heap.size ≤ n7.heap.size)
        clear hsF hkF
        go_wp2
        refine bodyPost_ret (results_row_tmp rfl _ _ (w.heap.size + 1) 34 _ (0, 0) _ rfl hF Tryz.underlying34 rfl Tryz.sizeMach) rfl ⟨MrAns.intro (.slice av xs.length cv) ?_ ?_, BF⟩
        · rw [HA.out]; rfl
        · rw [HA.out]; exact oF
      · have hl2 : (tx.toList == s.toList) = false := by
          rw [← Bool.not_eq_true, beq_iff_eq, ByteArray.toList_eq, ByteArray.toList_eq]
          intro h
          apply heq
          cases tx
          cases s
          congr 1
          exact Array.toList_inj.1 h
        have HA : Hid (mrR ns is ds (sb s) = none) := (hmyes rfl).2 heq
        go_wp2_with (refine wpList_store_own rfl 34 _ _ rfl (w.heap.size + 1) #[.slice none 0 0, .int .i64 0, .int .i64 0, .int .i64 0, .int .i64 0, .int .i64 0, .int .i64 0, .int .i64 0] rfl rfl 34 _ x10 Tryz.sizeMach rfl (by simp [Value.oneCell']) ?_)
        intro wF hF hbF hsF
        have BF := B10.trans (hbF.mono (Nat.le_succ _))
        clear hsF
        go_wp2
        refine bodyPost_ret (results_row_tmp rfl _ _ (w.heap.size + 1) 34 _ (0, 0) _ rfl hF Tryz.underlying34 rfl Tryz.sizeMach) rfl ⟨MrAns.intro (.slice none 0 0) ?_ ?_, BF⟩
        · rw [HA.out]; rfl
        · rw [HA.out]; exact World.ownsRow_nil _ _ _ _
end Go.Proofs.YtaojlmoppbknbaaGreatDoor
