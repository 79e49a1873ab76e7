/-
  Texts that stood by themselves, laid into one.
-/
import Derived.Test.YtgaaklpbpmbihaaGreatClsM
import Derived.Test.YtgaaklpbpmbihaaGreatMkListM
import Derived.Test.YtgaaklpbpmbihaaGreatITdM
import Derived.Test.YtgaaklpbpmbihaaGreatSTdM
import Derived.Test.YtgaaklpbpmbihaaGreatBsM
import Derived.Test.YtgaaklpbpmbihaaGreatMachRecM
/-
  What MachinePack answers, and the contracts of both MachinePack. No condition.
-/
namespace Go.Proofs.YtgaaklpbpmbihaaGreat
open Go.RowKit

def mpN (M : Mc) : List Int := [M.p, M.t, M.q, M.s, M.e, M.d, M.r]
def mpL (xs : List Nd) (m : Mc) : List Int := (mpN (tdM xs m)).flatMap encI ++ wireL (tdL xs m)
def mpR (ns : List Nd) (is : List In) (ds : List Df) (xs : List Nd) (m : Mc) : ByteArray := if machB ns is ds xs m then strOfNums (mpL xs m) else ByteArray.empty

theorem machB_parts {ns : List Nd} {is : List In} {ds : List Df} {xs : List Nd} {m : Mc} (h : machB ns is ds xs m = true) : poolB xs = true ∧ allI xs (tdR m) = true ∧ m.p ≤ 400 ∧ m.t ≤ 3 ∧ m.q ≤ 19 ∧ m.r ≤ 3000 := by
  simp only [machB, Bool.and_eq_true] at h
  obtain ⟨⟨⟨hc, hp⟩, ha⟩, hs⟩ := h
  have hl := pool_small hp
  have hi : is.length ≤ 400 := by simp only [codeB, Bool.and_eq_true, decide_eq_true_eq] at hc; exact hc.1.2.1
  refine ⟨hp, ?_⟩
  unfold stateB at hs
  split at hs
  · rename_i h0
    simp only [placeB, Bool.and_eq_true, decide_eq_true_eq] at hs
    refine ⟨?_, by omega, by omega, by omega, by omega⟩
    unfold tdR argB
    simpa [h0] using ha
  · split at hs
    · rename_i h0
      simp only [placeB, askB, hasI, Bool.and_eq_true, decide_eq_true_eq] at hs
      refine ⟨?_, by omega, by omega, by omega, by omega⟩
      unfold tdR argB
      simp only [allI, List.all_cons, List.all_nil, Bool.and_true, Bool.and_eq_true, hasI, decide_eq_true_eq] at ha
      simp [h0, allI, hasI]
      omega
    · split at hs
      · rename_i h0
        simp only [hasI, Bool.and_eq_true, decide_eq_true_eq] at hs
        refine ⟨?_, by omega, by omega, by omega, by omega⟩
        unfold tdR argB
        simp only [allI, List.all_cons, List.all_nil, Bool.and_true, Bool.and_eq_true, hasI, decide_eq_true_eq] at ha
        simp [h0, allI, hasI]
        omega
      · split at hs
        · rename_i h0
          simp only [Bool.and_eq_true, decide_eq_true_eq] at hs
          refine ⟨?_, by omega, by omega, by omega, by omega⟩
          unfold tdR argB
          simpa [h0] using ha
        · cases hs

theorem tdF_small (xs : List Nd) (m : Mc) (hp : poolB xs = true) (ha : allI xs (tdR m) = true) (r : Int) (hr : r ∈ tdR m) : tdF xs m r ≤ 3000 := by
  have hl := pool_small hp
  have hh : hasI xs r = true := by
    unfold allI at ha
    exact List.all_eq_true.1 ha r hr
  simp only [hasI, Bool.and_eq_true, decide_eq_true_eq] at hh
  have ht := reach_root xs (tdR m) r hr hh.1 hh.2
  have I := mv_all 0 xs (reachL xs (tdR m)) (fun i x h => poolB_at hp h) (reach_closed xs (tdR m) (fun i x h => poolB_at hp h))
  obtain ⟨x, hx⟩ : ∃ x, xs[r.toNat]? = some x := ⟨xs[r.toNat]'(by omega), by simp⟩
  obtain ⟨p, e1, e2, _⟩ := I.at_ r.toNat x (by omega) hx ht
  unfold tdF
  rw [e1]
  omega
theorem td_small {ns : List Nd} {is : List In} {ds : List Df} {xs : List Nd} {m : Mc} (h : machB ns is ds xs m = true) : (∀ z ∈ mpN (tdM xs m), z ≤ 9223372036854775807) ∧ (∀ x ∈ tdL xs m, NdOk x) ∧ (tdL xs m).length ≤ 3000 := by
  obtain ⟨hp, ha, h1, h2, h3, h4⟩ := machB_parts h
  have hl := pool_small hp
  have hok : tdOk xs m = true := by unfold tdOk; rw [hp, ha]; rfl
  have hm := mvN_len 0 xs (tdR m)
  refine ⟨?_, ?_, ?_⟩
  · have e1 := tdF_small xs m hp ha m.s (by unfold tdR; split <;> simp)
    have e2 := tdF_small xs m hp ha m.e (by unfold tdR; split <;> simp)
    have e3 := tdF_small xs m hp ha m.d (by unfold tdR; split <;> simp)
    have e4 : (if argB m then tdF xs m m.r else m.r) ≤ 3000 := by
      split
      · rename_i hA; exact tdF_small xs m hp ha m.r (by unfold tdR; rw [if_pos hA]; simp)
      · exact h4
    intro z hz
    unfold mpN tdM at hz
    rw [hok, if_pos rfl] at hz
    simp only [List.mem_cons, List.not_mem_nil, or_false] at hz
    rcases hz with rfl | rfl | rfl | rfl | rfl | rfl | rfl <;> omega
  · unfold tdL
    rw [hok, if_pos rfl]
    exact mv_right 0 xs (tdR m) hp (by omega)
  · unfold tdL
    rw [hok, if_pos rfl]
    omega
theorem mpN_len (M : Mc) : ((mpN M).flatMap encI).length ≤ 63 := nums_len (mpN M)

set_option maxRecDepth 100000 in
set_option maxHeartbeats 6400000 in
theorem impack_any (v1 v2 v3 v : Value) (ns : List Nd) (is : List In) (ds : List Df) (xs : List Nd) (m : Mc) (w : World) (R1 : NRow w v1 ns) (R2 : InRow w v2 is) (R3 : DfRow w v3 ds) (R : NRow w v xs) :
    Calls Tryz.prog 9 #[.agg #[v1, v2, v3], .agg #[v, .int .i64 m.p, .int .i64 m.s, .int .i64 m.e, .int .i64 m.d, .int .i64 m.t, .int .i64 m.q, .int .i64 m.r]] w fun e w' => e = .returned (.tuple #[.string (mpR ns is ds xs m), .bool (machB ns is ds xs m)]) ∧ Below w.heap.size w w' := by
  have R' := R
  obtain ⟨ao, cap, rfl, _⟩ := R'
  obtain ⟨a1, c1, rfl⟩ := R1.small
  obtain ⟨a2, c2, rfl⟩ := R2.small
  obtain ⟨a3, c3, rfl⟩ := R3.small
  obtain ⟨hB0, hk0, hx0⟩ := two_boxes w (Obj.cells #[.slice a1 ns.length c1, .slice a2 is.length c2, .slice a3 ds.length c3] 41) (Obj.cells #[.slice ao xs.length cap, .int .i64 m.p, .int .i64 m.s, .int .i64 m.e, .int .i64 m.d, .int .i64 m.t, .int .i64 m.q, .int .i64 m.r] 44)
  go_enter Tryz.func9, Tryz.ntmps9
  go_wp2_with fail
  refine (imachok_any _ _ _ _ ns is ds xs m _ (R1.below hB0) (R2.below hB0) (R3.below hB0) (R.below hB0)).mono ?_
  rintro e w1 ⟨rfl, hb1⟩
  have hB1 := hB0.trans (hb1.mono hB0.size)
  have hx1 := (hb1.block _ (Array.getElem?_eq_some_iff.1 hx0).1).trans hx0
  clear hB0 hk0 hx0 hb1
  cases hm : machB ns is ds xs m with
  | false =>
    have HR : Hid (mpR ns is ds xs m = ByteArray.empty) := by unfold Hid mpR; rw [hm]; rfl
    go_wp2
    go_ret2
    exact ⟨by rw [HR.out, hm]; rfl, hB1⟩
  | true =>
    have HR : Hid (mpR ns is ds xs m = strOfNums (mpL xs m)) := by unfold Hid mpR; rw [hm]; rfl
    have HL : Hid (mpL xs m = (mpN (tdM xs m)).flatMap encI ++ wireL (tdL xs m)) := rfl
    obtain ⟨hz, hok, hlq⟩ := td_small hm
    have hlx := pool_small (machB_parts hm).1
    have IT := fun (v : Value) (w : World) (R : NRow w v xs) => itidy_any v xs m w R (by omega)
    generalize tdL xs m = Q at *
    generalize tdM xs m = M at *
    go_wp2_with (refine wpList_load_row rfl 44 _ rfl (w.heap.size + 1) rfl 44 #[.slice ao xs.length cap, .int .i64 m.p, .int .i64 m.s, .int .i64 m.e, .int .i64 m.d, .int .i64 m.t, .int .i64 m.q, .int .i64 m.r] (0, 0) _ hx1 Tryz.underlying44 rfl Tryz.sizeMach ?_)
    refine (IT _ _ (R.below hB1)).mono ?_
    rintro e w2 ⟨v2, rfl, ho2, hb2⟩
    obtain ⟨aq, cq, rfl⟩ := own_form ho2
    have hB2 := hB1.trans (hb2.mono hB1.size)
    have hx2 := (hb2.block _ (Array.getElem?_eq_some_iff.1 hx1).1).trans hx1
    have hlt : w.heap.size + 1 < w1.heap.size := (Array.getElem?_eq_some_iff.1 hx1).1
    clear hB1 hx1 hb2
    go_wp2_with (refine wpList_store_own2 rfl 44 _ _ rfl (w.heap.size + 1) #[.slice aq Q.length cq, .int .i64 M.p, .int .i64 M.s, .int .i64 M.e, .int .i64 M.d, .int .i64 M.t, .int .i64 M.q, .int .i64 M.r] rfl rfl 44 #[.slice ao xs.length cap, .int .i64 m.p, .int .i64 m.s, .int .i64 m.e, .int .i64 m.d, .int .i64 m.t, .int .i64 m.q, .int .i64 m.r] hx2 Tryz.sizeMach rfl (by simp [Value.oneCell']) ?_)
    intro wB hvB hbB hsB hkB
    have hBB := hB2.trans (hbB.mono (by omega))
    have RQ : NRow wB (.slice aq Q.length cq) Q := nrow_same (NRow.of_own ho2 (by omega) (ndok_max hok)) (fun g hg => hkB g (fun e => own_ne ho2 hx2 (by decide) (by rw [hg, e]))) (by omega)
    have e0 : wB.cell? ⟨w.heap.size + 1, 0, none⟩ = some (.slice aq Q.length cq) := cell_of_row wB _ 0 _ _ _ hvB
    have e1 : wB.cell? ⟨w.heap.size + 1, 1, none⟩ = some (.int .i64 M.p) := cell_of_row wB _ 1 _ _ _ hvB
    have e2 : wB.cell? ⟨w.heap.size + 1, 2, none⟩ = some (.int .i64 M.s) := cell_of_row wB _ 2 _ _ _ hvB
    have e3 : wB.cell? ⟨w.heap.size + 1, 3, none⟩ = some (.int .i64 M.e) := cell_of_row wB _ 3 _ _ _ hvB
    have e4 : wB.cell? ⟨w.heap.size + 1, 4, none⟩ = some (.int .i64 M.d) := cell_of_row wB _ 4 _ _ _ hvB
    have e5 : wB.cell? ⟨w.heap.size + 1, 5, none⟩ = some (.int .i64 M.t) := cell_of_row wB _ 5 _ _ _ hvB
    have e6 : wB.cell? ⟨w.heap.size + 1, 6, none⟩ = some (.int .i64 M.q) := cell_of_row wB _ 6 _ _ _ hvB
    have e7 : wB.cell? ⟨w.heap.size + 1, 7, none⟩ = some (.int .i64 M.r) := cell_of_row wB _ 7 _ _ _ hvB
    have hltB : w.heap.size + 1 < wB.heap.size := (Array.getElem?_eq_some_iff.1 hvB).1
    clear hB2 hx2 ho2 hbB hsB hkB
    have hdl : Below wB.heap.size wB (wB.alloc (Obj.cells (iv (mpN M)).toArray 3)) := (Below.refl _ _).alloc (Nat.le_refl _) _
    have hll := mpN_len M
    go_wp2_with fail
    refine (putnums_any (.slice none 0 0) [] wB.heap.size wB.heap.size (mpN M) _ ⟨rfl, Or.inl ⟨rfl, rfl⟩⟩ hdl.size (heap_alloc_new _ _) hz (by simp [mpN]) (by simp)).mono ?_
    rintro e w5 ⟨v5, rfl, own5, bel5, st5⟩
    have own5' : OwnB w5 wB.heap.size v5 ((mpN M).flatMap encI) := by rw [List.nil_append] at own5; exact own5
    have bB5 := hdl.trans (bel5.mono (Nat.le_refl _))
    have hv5 := (bB5.block _ hltB).trans hvB
    have f0 : w5.cell? ⟨w.heap.size + 1, 0, none⟩ = some (.slice aq Q.length cq) := cell_of_row w5 _ 0 _ _ _ hv5
    clear own5 bel5 st5 hdl e0 e1 e2 e3 e4 e5 e6 e7
    go_wp2_with fail
    refine (putnodes_any wB w5 _ _ ((mpN M).flatMap encI) Q own5' bB5 RQ hok hlq (by omega)).mono ?_
    rintro e w6 ⟨v6, rfl, ho6, hb6⟩
    obtain ⟨bb, hbb⟩ : ∃ bb, Hid ((mpN M).flatMap encI ++ wireL Q = bb) := ⟨_, rfl⟩
    rw [hbb.out] at ho6
    obtain ⟨a6, k6, rfl⟩ := own_form ho6
    have hB6 := hBB.trans (hb6.mono hBB.size)
    have hT := own_text ho6
    go_wp2_with (refine wpList_bytes_text _ rfl _ 54 9 5 rfl Tryz.underlying54 Tryz.underlying9 Tryz.underlying5 a6 bb.length k6 bb rfl rfl hT ?_)
    go_ret2
    exact ⟨by rw [HR.out, HL.out, hbb.out, hm]; rfl, hB6⟩
end Go.Proofs.YtgaaklpbpmbihaaGreat

/-
  The contract of spec.MachinePack. No condition.
-/
namespace Go.Proofs.YtgaaklpbpmbihaaGreat
open Go.RowKit

set_option maxRecDepth 100000 in
set_option maxHeartbeats 6400000 in
theorem smpack_any (v1 v2 v3 v : Value) (ns : List Nd) (is : List In) (ds : List Df) (xs : List Nd) (m : Mc) (w : World) (R1 : NRow w v1 ns) (R2 : InRow w v2 is) (R3 : DfRow w v3 ds) (R : NRow w v xs) :
    Calls Tryz.prog 6 #[.agg #[v1, v2, v3], .agg #[v, .int .i64 m.p, .int .i64 m.s, .int .i64 m.e, .int .i64 m.d, .int .i64 m.t, .int .i64 m.q, .int .i64 m.r]] w fun e w' => e = .returned (.tuple #[.string (mpR ns is ds xs m), .bool (machB ns is ds xs m)]) ∧ Below w.heap.size w w' := by
  have R' := R
  obtain ⟨ao, cap, rfl, _⟩ := R'
  obtain ⟨a1, c1, rfl⟩ := R1.small
  obtain ⟨a2, c2, rfl⟩ := R2.small
  obtain ⟨a3, c3, rfl⟩ := R3.small
  obtain ⟨hB0, hk0, hx0⟩ := two_boxes w (Obj.cells #[.slice a1 ns.length c1, .slice a2 is.length c2, .slice a3 ds.length c3] 41) (Obj.cells #[.slice ao xs.length cap, .int .i64 m.p, .int .i64 m.s, .int .i64 m.e, .int .i64 m.d, .int .i64 m.t, .int .i64 m.q, .int .i64 m.r] 44)
  go_enter Tryz.func6, Tryz.ntmps6
  go_wp2_with fail
  refine (smachok_any _ _ _ _ ns is ds xs m _ (R1.below hB0) (R2.below hB0) (R3.below hB0) (R.below hB0)).mono ?_
  rintro e w1 ⟨rfl, hb1⟩
  have hB1 := hB0.trans (hb1.mono hB0.size)
  have hx1 := (hb1.block _ (Array.getElem?_eq_some_iff.1 hx0).1).trans hx0
  clear hB0 hk0 hx0 hb1
  cases hm : machB ns is ds xs m with
  | false =>
    have HR : Hid (mpR ns is ds xs m = ByteArray.empty) := by unfold Hid mpR; rw [hm]; rfl
    go_wp2
    go_ret2
    exact ⟨by rw [HR.out, hm]; rfl, hB1⟩
  | true =>
    have HR : Hid (mpR ns is ds xs m = strOfNums (mpL xs m)) := by unfold Hid mpR; rw [hm]; rfl
    have HL : Hid (mpL xs m = (mpN (tdM xs m)).flatMap encI ++ wireL (tdL xs m)) := rfl
    obtain ⟨hz, hok, hlq⟩ := td_small hm
    have hlx := pool_small (machB_parts hm).1
    have IT := fun (v : Value) (w : World) (R : NRow w v xs) => stidy_any v xs m w R (by omega)
    generalize tdL xs m = Q at *
    generalize tdM xs m = M at *
    go_wp2_with (refine wpList_load_row rfl 44 _ rfl (w.heap.size + 1) rfl 44 #[.slice ao xs.length cap, .int .i64 m.p, .int .i64 m.s, .int .i64 m.e, .int .i64 m.d, .int .i64 m.t, .int .i64 m.q, .int .i64 m.r] (0, 0) _ hx1 Tryz.underlying44 rfl Tryz.sizeMach ?_)
    refine (IT _ _ (R.below hB1)).mono ?_
    rintro e w3 ⟨v3, rfl, ho3, hb3⟩
    obtain ⟨aq, cq, rfl⟩ := own_form ho3
    have hB3 := hB1.trans (hb3.mono hB1.size)
    clear hB1 hx1 hb3
    go_wp2_with (refine wpList_store_own rfl 44 _ _ rfl w3.heap.size #[.slice aq Q.length cq, .int .i64 M.p, .int .i64 M.s, .int .i64 M.e, .int .i64 M.d, .int .i64 M.t, .int .i64 M.q, .int .i64 M.r] rfl rfl 44 _ (heap_alloc_new _ _) Tryz.sizeMach rfl (by simp [Value.oneCell']) ?_)
    intro wB hvB hbB hsB
    have hdB : Below w3.heap.size w3 wB := ((Below.refl _ _).alloc (Nat.le_refl _) _).trans hbB
    have hBB := hB3.trans (hdB.mono hB3.size)
    have RQ : NRow wB (.slice aq Q.length cq) Q := (NRow.of_own ho3 (by omega) (ndok_max hok)).below hdB
    have hltB : w3.heap.size < wB.heap.size := (Array.getElem?_eq_some_iff.1 hvB).1
    clear ho3 hbB hsB hdB hB3
    have hdE : Below wB.heap.size wB (wB.alloc (Obj.cells #[] 5)) := (Below.refl _ _).alloc (Nat.le_refl _) _
    have hvE := (hdE.block _ hltB).trans hvB
    have ownE := own_none0 wB 5 1 wB.heap.size (Nat.le_refl _)
    generalize hWE : wB.alloc (Obj.cells #[] 5) = WE at hdE hvE ownE
    have e0 : WE.cell? ⟨w3.heap.size, 0, none⟩ = some (.slice aq Q.length cq) := cell_of_row WE _ 0 _ _ _ hvE
    have e1 : WE.cell? ⟨w3.heap.size, 1, none⟩ = some (.int .i64 M.p) := cell_of_row WE _ 1 _ _ _ hvE
    have e2 : WE.cell? ⟨w3.heap.size, 2, none⟩ = some (.int .i64 M.s) := cell_of_row WE _ 2 _ _ _ hvE
    have e3 : WE.cell? ⟨w3.heap.size, 3, none⟩ = some (.int .i64 M.e) := cell_of_row WE _ 3 _ _ _ hvE
    have e4 : WE.cell? ⟨w3.heap.size, 4, none⟩ = some (.int .i64 M.d) := cell_of_row WE _ 4 _ _ _ hvE
    have e5 : WE.cell? ⟨w3.heap.size, 5, none⟩ = some (.int .i64 M.t) := cell_of_row WE _ 5 _ _ _ hvE
    have e6 : WE.cell? ⟨w3.heap.size, 6, none⟩ = some (.int .i64 M.q) := cell_of_row WE _ 6 _ _ _ hvE
    have e7 : WE.cell? ⟨w3.heap.size, 7, none⟩ = some (.int .i64 M.r) := cell_of_row WE _ 7 _ _ _ hvE
    have hltE : w3.heap.size < WE.heap.size := (Array.getElem?_eq_some_iff.1 hvE).1
    have hdl : Below WE.heap.size WE (WE.alloc (Obj.cells (iv (mpN M)).toArray 3)) := (Below.refl _ _).alloc (Nat.le_refl _) _
    have hng : (WE.alloc (Obj.cells (iv (mpN M)).toArray 3)).heap[WE.heap.size]? = some (.cells (iv (mpN M)).toArray 3 (0, 0)) := heap_alloc_new _ _
    have hll := mpN_len M
    have hl7 : (mpN M).length = 7 := rfl
    have ownL := own_below ownE hdl
    have hBL := hdE.trans (hdl.mono hdE.size)
    go_wp2_with fail
    go_loopw [7, 9] (fun vo i wr => ∃ k : Nat, k ≤ 7 ∧ i = .int .i64 k ∧ OwnB wr wB.heap.size vo (((mpN M).take k).flatMap encI) ∧ Below wB.heap.size wB wr ∧ wr.heap[WE.heap.size]? = some (.cells (iv (mpN M)).toArray 3 (0, 0))) (fun _ i _ => 7 - (intOf i).toNat)
    case atStart => exact ⟨0, by omega, rfl, ownL, hBL, hng⟩
    case round =>
      obtain ⟨k, hk, rfl, ho, hbel, hgr⟩ := hrel
      clear e0 e1 e2 e3 e4 e5 e6 e7
      by_cases hlt : k < 7
      · have hgl : WE.heap.size < wr.heap.size := (Array.getElem?_eq_some_iff.1 hgr).1
        have c0 : wr.cell? ⟨WE.heap.size, k, none⟩ = some (.int .i64 ((mpN M).getD k 0)) := by
          rw [cell_of_row wr _ k _ _ _ hgr]
          simpa using iv_get (mpN M) k (by omega)
        have hzk : (mpN M).getD k 0 ≤ 9223372036854775807 := hz _ (by simp [List.getD_eq_getElem?_getD, List.getElem?_eq_getElem (show k < (mpN M).length by omega)])
        have HT : Hid (((mpN M).take (k + 1)).flatMap encI = ((mpN M).take k).flatMap encI ++ encI ((mpN M).getD k 0)) := nums_take (mpN M) k (by omega)
        have hlb : (((mpN M).take k).flatMap encI).length ≤ 63 := by
          have := nums_len ((mpN M).take k)
          rw [List.length_take] at this
          omega
        obtain ⟨z, hzz⟩ : ∃ z, Hid ((mpN M).getD k 0 = z) := ⟨_, rfl⟩
        rw [hzz.out] at c0 hzk HT
        have hle := encI_length z
        generalize ((mpN M).take k).flatMap encI = cs at *
        go_wp2_with fail
        refine (sput_any z _ hzk).mono ?_
        rintro e wc ⟨vc, rfl, oc, bc⟩
        obtain ⟨ac, cc, rfl⟩ := own_form oc
        clear c0
        have ho2 := own_below ho bc
        go_wp2_with (at_builtin; refine wpList_put2 rfl _ _ rfl rfl ho2 (by have := hbel.size; have := bc.size; omega) rfl oc (by omega) ?_)
        intro vd wd od bd sd
        have hB2 := (hbel.trans (bc.mono hbel.size)).trans bd
        have hg2 := sd _ _ _ (by decide) ((bc.block _ hgl).trans hgr)
        rw [← HT.out] at od
        clear oc bc ho2 ho bd sd hbel hgr
        go_wp2
        go_roundw
        case rel => exact ⟨k + 1, by omega, by go_num, od, hB2, hg2⟩
        case measure => simp [intOf]; omega
      · have hke : k = 7 := by omega
        subst hke
        have eT : (mpN M).take 7 = mpN M := rfl
        rw [eT] at ho
        have hvr := (hbel.block _ hltB).trans hvB
        have f0 : wr.cell? ⟨w3.heap.size, 0, none⟩ = some (.slice aq Q.length cq) := cell_of_row wr _ 0 _ _ _ hvr
        have hwl : (wireL Q).length ≤ 90009 := by
          have := wires_len Q hok
          have := encI_length Q.length
          unfold wireL
          rw [List.length_append]
          omega
        generalize (mpN M).flatMap encI = cs at *
        go_wp2_with fail
        refine (snodes8_any _ Q _ (RQ.below hbel) hok hlq).mono ?_
        rintro e wc ⟨vc, rfl, oc, bc⟩
        obtain ⟨ac, cc, rfl⟩ := own_form oc
        have ho2 := own_below ho bc
        clear f0
        go_wp2_with (at_builtin; refine wpList_put2 rfl _ _ rfl rfl ho2 (by have := hbel.size; have := bc.size; omega) rfl oc (by omega) ?_)
        intro vd wd od bd sd
        have hB6 := hBB.trans (((hbel.trans (bc.mono hbel.size)).trans bd).mono hBB.size)
        obtain ⟨bb, hbb⟩ : ∃ bb, Hid (cs ++ wireL Q = bb) := ⟨_, rfl⟩
        rw [hbb.out] at od
        obtain ⟨a6, k6, rfl⟩ := own_form od
        have hT := own_text od
        go_wp2_with (refine wpList_bytes_text _ rfl _ 54 9 5 rfl Tryz.underlying54 Tryz.underlying9 Tryz.underlying5 a6 bb.length k6 bb rfl rfl hT ?_)
        go_ret2
        exact ⟨by rw [HR.out, HL.out, hbb.out, hm]; rfl, hB6⟩
end Go.Proofs.YtgaaklpbpmbihaaGreat

/-
  Helpers of the laws over a code and a machine. No condition.
-/
namespace Go.Proofs.YtgaaklpbpmbihaaGreat
open Go.RowKit

theorem cells11 {w w' : World} {B : Nat} {a1 a2 a3 a4 a5 a6 a7 a8 a9 a10 a11 : Addr} {u1 u2 u3 u4 u5 u6 u7 u8 u9 u10 u11 : Value} (h : w.cell? a1 = some u1 ∧ w.cell? a2 = some u2 ∧ w.cell? a3 = some u3 ∧ w.cell? a4 = some u4 ∧ w.cell? a5 = some u5 ∧ w.cell? a6 = some u6 ∧ w.cell? a7 = some u7 ∧ w.cell? a8 = some u8 ∧ w.cell? a9 = some u9 ∧ w.cell? a10 = some u10 ∧ w.cell? a11 = some u11)
    (hb : Below B w w') (h1 : a1.block < B) (h2 : a2.block < B) (h3 : a3.block < B) (h4 : a4.block < B) (h5 : a5.block < B) (h6 : a6.block < B) (h7 : a7.block < B) (h8 : a8.block < B) (h9 : a9.block < B) (h10 : a10.block < B) (h11 : a11.block < B) : w'.cell? a1 = some u1 ∧ w'.cell? a2 = some u2 ∧ w'.cell? a3 = some u3 ∧ w'.cell? a4 = some u4 ∧ w'.cell? a5 = some u5 ∧ w'.cell? a6 = some u6 ∧ w'.cell? a7 = some u7 ∧ w'.cell? a8 = some u8 ∧ w'.cell? a9 = some u9 ∧ w'.cell? a10 = some u10 ∧ w'.cell? a11 = some u11 := by
  obtain ⟨e1, e2, e3, e4, e5, e6, e7, e8, e9, e10, e11⟩ := h
  exact ⟨(hb.cell h1).trans e1, (hb.cell h2).trans e2, (hb.cell h3).trans e3, (hb.cell h4).trans e4, (hb.cell h5).trans e5, (hb.cell h6).trans e6, (hb.cell h7).trans e7, (hb.cell h8).trans e8, (hb.cell h9).trans e9, (hb.cell h10).trans e10, (hb.cell h11).trans e11⟩
theorem Tryz.sizeLM : (Tryz.prog.info? 30).map (·.size) = some 8 := by kernel_rfl
theorem Tryz.sizeLC : (Tryz.prog.info? 28).map (·.size) = some 3 := by kernel_rfl
theorem stepD {w2 w3 : World} (h : Below w2.drew.heap.size w2.drew w3) : Below w2.heap.size w2 w3 := (Below.refl _ _).drew.trans h

end Go.Proofs.YtgaaklpbpmbihaaGreat
