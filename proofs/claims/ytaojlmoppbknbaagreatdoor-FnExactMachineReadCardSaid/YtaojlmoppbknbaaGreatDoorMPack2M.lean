/-
  The contract of spec.MachinePack. No condition.
-/
import Derived.Test.YtaojlmoppbknbaaGreatDoorMPackM
import Derived.Test.YtaojlmoppbknbaaGreatDoorMkListM
namespace Go.Proofs.YtaojlmoppbknbaaGreatDoor
open Go.RowKit

set_option maxRecDepth 100000 in
set_option maxHeartbeats 6400000 in
theorem smpack_any (v1 v2 v3 v : Value) (ns : List Nd) (is : List In) (ds : List Df) (xs : List Nd) (m : Mc) (w : World) (R1 : NRow w v1 ns) (R2 : InRow w v2 is) (R3 : DfRow w v3 ds) (R : NRow w v xs) :
    Calls Tryz.prog 18 #[.agg #[v1, v2, v3], .agg #[v, .int .i64 m.p, .int .i64 m.s, .int .i64 m.e, .int .i64 m.d, .int .i64 m.t, .int .i64 m.q, .int .i64 m.r]] w fun e w' => e = .returned (.tuple #[.string (mpR ns is ds xs m), .bool (machB ns is ds xs m)]) ∧ Below w.heap.size w w' := by
  have R' := R
  obtain ⟨ao, cap, rfl, _⟩ := R'
  obtain ⟨a1, c1, rfl⟩ := R1.small
  obtain ⟨a2, c2, rfl⟩ := R2.small
  obtain ⟨a3, c3, rfl⟩ := R3.small
  obtain ⟨hB0, hk0, hx0⟩ := two_boxes w (Obj.cells #[.slice a1 ns.length c1, .slice a2 is.length c2, .slice a3 ds.length c3] 40) (Obj.cells #[.slice ao xs.length cap, .int .i64 m.p, .int .i64 m.s, .int .i64 m.e, .int .i64 m.d, .int .i64 m.t, .int .i64 m.q, .int .i64 m.r] 34)
  go_enter Tryz.func18, Tryz.ntmps18
  go_wp2_with fail
  refine (smachok_any _ _ _ _ ns is ds xs m _ (R1.below hB0) (R2.below hB0) (R3.below hB0) (R.below hB0)).mono ?_
  rintro e w1 ⟨rfl, hb1⟩
  have hB1 := hB0.trans (hb1.mono hB0.size)
  have hx1 := (hb1.block _ (Array.getElem?_eq_some_iff.1 hx0).1).trans hx0
  clear hB0 hk0 hx0 hb1
  cases hm : machB ns is ds xs m with
  | false =>
    have HR : Hid (mpR ns is ds xs m = ByteArray.empty) := by unfold Hid mpR; rw [hm]; rfl
    go_wp2
    go_ret2
    exact ⟨by rw [HR.out, hm]; rfl, hB1⟩
  | true =>
    have HR : Hid (mpR ns is ds xs m = strOfNums (mpL xs m)) := by unfold Hid mpR; rw [hm]; rfl
    have HL : Hid (mpL xs m = (mpN (tdM xs m)).flatMap encI ++ wireL (tdL xs m)) := rfl
    obtain ⟨hz, hok, hlq⟩ := td_small hm
    have hlx := pool_small (machB_parts hm).1
    have IT := fun (v : Value) (w : World) (R : NRow w v xs) => stidy_any v xs m w R (by omega)
    generalize tdL xs m = Q at *
    generalize tdM xs m = M at *
    go_wp2_with (refine wpList_load_row rfl 34 _ rfl (w.heap.size + 1) rfl 34 #[.slice ao xs.length cap, .int .i64 m.p, .int .i64 m.s, .int .i64 m.e, .int .i64 m.d, .int .i64 m.t, .int .i64 m.q, .int .i64 m.r] (0, 0) _ hx1 Tryz.underlying34 rfl Tryz.sizeMach ?_)
    refine (IT _ _ (R.below hB1)).mono ?_
    rintro e w3 ⟨v3, rfl, ho3, hb3⟩
    obtain ⟨aq, cq, rfl⟩ := own_form ho3
    have hB3 := hB1.trans (hb3.mono hB1.size)
    clear hB1 hx1 hb3
    go_wp2_with (refine wpList_store_own rfl 34 _ _ rfl w3.heap.size #[.slice aq Q.length cq, .int .i64 M.p, .int .i64 M.s, .int .i64 M.e, .int .i64 M.d, .int .i64 M.t, .int .i64 M.q, .int .i64 M.r] rfl rfl 34 _ (heap_alloc_new _ _) Tryz.sizeMach rfl (by simp [Value.oneCell']) ?_)
    intro wB hvB hbB hsB
    have hdB : Below w3.heap.size w3 wB := ((Below.refl _ _).alloc (Nat.le_refl _) _).trans hbB
    have hBB := hB3.trans (hdB.mono hB3.size)
    have RQ : NRow wB (.slice aq Q.length cq) Q := (NRow.of_own ho3 (by omega) (ndok_max hok)).below hdB
    have hltB : w3.heap.size < wB.heap.size := (Array.getElem?_eq_some_iff.1 hvB).1
    clear ho3 hbB hsB hdB hB3
    have hdE : Below wB.heap.size wB (wB.alloc (Obj.cells #[] 5)) := (Below.refl _ _).alloc (Nat.le_refl _) _
    have hvE := (hdE.block _ hltB).trans hvB
    have ownE := own_none0 wB 5 1 wB.heap.size (Nat.le_refl _)
    generalize hWE : wB.alloc (Obj.cells #[] 5) = WE at hdE hvE ownE
    have e0 : WE.cell? ⟨w3.heap.size, 0, none⟩ = some (.slice aq Q.length cq) := cell_of_row WE _ 0 _ _ _ hvE
    have e1 : WE.cell? ⟨w3.heap.size, 1, none⟩ = some (.int .i64 M.p) := cell_of_row WE _ 1 _ _ _ hvE
    have e2 : WE.cell? ⟨w3.heap.size, 2, none⟩ = some (.int .i64 M.s) := cell_of_row WE _ 2 _ _ _ hvE
    have e3 : WE.cell? ⟨w3.heap.size, 3, none⟩ = some (.int .i64 M.e) := cell_of_row WE _ 3 _ _ _ hvE
    have e4 : WE.cell? ⟨w3.heap.size, 4, none⟩ = some (.int .i64 M.d) := cell_of_row WE _ 4 _ _ _ hvE
    have e5 : WE.cell? ⟨w3.heap.size, 5, none⟩ = some (.int .i64 M.t) := cell_of_row WE _ 5 _ _ _ hvE
    have e6 : WE.cell? ⟨w3.heap.size, 6, none⟩ = some (.int .i64 M.q) := cell_of_row WE _ 6 _ _ _ hvE
    have e7 : WE.cell? ⟨w3.heap.size, 7, none⟩ = some (.int .i64 M.r) := cell_of_row WE _ 7 _ _ _ hvE
    have hltE : w3.heap.size < WE.heap.size := (Array.getElem?_eq_some_iff.1 hvE).1
    have hdl : Below WE.heap.size WE (WE.alloc (Obj.cells (iv (mpN M)).toArray 3)) := (Below.refl _ _).alloc (Nat.le_refl _) _
    have hng : (WE.alloc (Obj.cells (iv (mpN M)).toArray 3)).heap[WE.heap.size]? = some (.cells (iv (mpN M)).toArray 3 (0, 0)) := heap_alloc_new _ _
    have hll := mpN_len M
    have hl7 : (mpN M).length = 7 := rfl
    have ownL := own_below ownE hdl
    have hBL := hdE.trans (hdl.mono hdE.size)
    go_wp2_with fail
    go_loopw [7, 9] (fun vo i wr => ∃ k : Nat, k ≤ 7 ∧ i = .int .i64 k ∧ OwnB wr wB.heap.size vo (((mpN M).take k).flatMap encI) ∧ Below wB.heap.size wB wr ∧ wr.heap[WE.heap.size]? = some (.cells (iv (mpN M)).toArray 3 (0, 0))) (fun _ i _ => 7 - (intOf i).toNat)
    case atStart => exact ⟨0, by omega, rfl, ownL, hBL, hng⟩
    case round =>
      obtain ⟨k, hk, rfl, ho, hbel, hgr⟩ := hrel
      clear e0 e1 e2 e3 e4 e5 e6 e7
      by_cases hlt : k < 7
      · have hgl : WE.heap.size < wr.heap.size := (Array.getElem?_eq_some_iff.1 hgr).1
        have c0 : wr.cell? ⟨WE.heap.size, k, none⟩ = some (.int .i64 ((mpN M).getD k 0)) := by
          rw [cell_of_row wr _ k _ _ _ hgr]
          simpa using iv_get (mpN M) k (by omega)
        have hzk : (mpN M).getD k 0 ≤ 9223372036854775807 := hz _ (by simp [List.getD_eq_getElem?_getD, List.getElem?_eq_getElem (show k < (mpN M).length by omega)])
        have HT : Hid (((mpN M).take (k + 1)).flatMap encI = ((mpN M).take k).flatMap encI ++ encI ((mpN M).getD k 0)) := nums_take (mpN M) k (by omega)
        have hlb : (((mpN M).take k).flatMap encI).length ≤ 63 := by
          have := nums_len ((mpN M).take k)
          rw [List.length_take] at this
          omega
        obtain ⟨z, hzz⟩ : ∃ z, Hid ((mpN M).getD k 0 = z) := ⟨_, rfl⟩
        rw [hzz.out] at c0 hzk HT
        have hle := encI_length z
        generalize ((mpN M).take k).flatMap encI = cs at *
        go_wp2_with fail
        refine (sput_any z _ hzk).mono ?_
        rintro e wc ⟨vc, rfl, oc, bc⟩
        obtain ⟨ac, cc, rfl⟩ := own_form oc
        clear c0
        have ho2 := own_below ho bc
        go_wp2_with (at_builtin; refine wpList_put2 rfl _ _ rfl rfl ho2 (by have := hbel.size; have := bc.size; omega) rfl oc (by omega) ?_)
        intro vd wd od bd sd
        have hB2 := (hbel.trans (bc.mono hbel.size)).trans bd
        have hg2 := sd _ _ _ (by decide) ((bc.block _ hgl).trans hgr)
        rw [← HT.out] at od
        clear oc bc ho2 ho bd sd hbel hgr
        go_wp2
        go_roundw
        case rel => exact ⟨k + 1, by omega, by go_num, od, hB2, hg2⟩
        case measure => simp [intOf]; omega
      · have hke : k = 7 := by omega
        subst hke
        have eT : (mpN M).take 7 = mpN M := rfl
        rw [eT] at ho
        have hvr := (hbel.block _ hltB).trans hvB
        have f0 : wr.cell? ⟨w3.heap.size, 0, none⟩ = some (.slice aq Q.length cq) := cell_of_row wr _ 0 _ _ _ hvr
        have hwl : (wireL Q).length ≤ 90009 := by
          have := wires_len Q hok
          have := encI_length Q.length
          unfold wireL
          rw [List.length_append]
          omega
        generalize (mpN M).flatMap encI = cs at *
        go_wp2_with fail
        refine (snodes8_any _ Q _ (RQ.below hbel) hok hlq).mono ?_
        rintro e wc ⟨vc, rfl, oc, bc⟩
        obtain ⟨ac, cc, rfl⟩ := own_form oc
        have ho2 := own_below ho bc
        clear f0
        go_wp2_with (at_builtin; refine wpList_put2 rfl _ _ rfl rfl ho2 (by have := hbel.size; have := bc.size; omega) rfl oc (by omega) ?_)
        intro vd wd od bd sd
        have hB6 := hBB.trans (((hbel.trans (bc.mono hbel.size)).trans bd).mono hBB.size)
        obtain ⟨bb, hbb⟩ : ∃ bb, Hid (cs ++ wireL Q = bb) := ⟨_, rfl⟩
        rw [hbb.out] at od
        obtain ⟨a6, k6, rfl⟩ := own_form od
        have hT := own_text od
        go_wp2_with (refine wpList_bytes_text _ rfl _ 51 9 5 rfl Tryz.underlying51 Tryz.underlying9 Tryz.underlying5 a6 bb.length k6 bb rfl rfl hT ?_)
        go_ret2
        exact ⟨by rw [HR.out, HL.out, hbb.out, hm]; rfl, hB6⟩
end Go.Proofs.YtaojlmoppbknbaaGreatDoor
