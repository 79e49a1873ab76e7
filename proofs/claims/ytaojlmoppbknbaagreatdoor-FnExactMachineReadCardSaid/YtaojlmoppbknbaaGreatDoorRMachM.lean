/-
  The contract of (impl.reader).machine: a machine of a code is read from its bytes, or there is a mistake. Bounds of the form alone.
-/
import Derived.Test.YtaojlmoppbknbaaGreatDoorMRgM
import Derived.Test.YtaojlmoppbknbaaGreatDoorR8mM
namespace Go.Proofs.YtaojlmoppbknbaaGreatDoor
open Go.RowKit

def m0 : Mc := ⟨0, 0, 0, 0, 0, 0, 0⟩
theorem mcs_one (ao : Option Addr) (n c : Nat) (m : Mc) : (mcs (.slice ao n c) m).all (·.oneCell') = true := by simp [mcs, Value.oneCell']
theorem setL_mc {l : List Int} (h : l.length = 7) : setL (mcs (.slice none 0 0) m0) [1, 5, 6, 2, 3, 4, 7] l = mcs (.slice none 0 0) (mcOf l) := by
  match l, h with
  | [p, t, q, s, e, d, r], _ => rfl
theorem mr_none1 {ns : List Nd} {is : List In} {ds : List Df} {zs : List Int} (h : rdK zs 7 0 = none) : mrR ns is ds zs = none := by unfold mrR; rw [h]; rfl
theorem mr_none2 {ns : List Nd} {is : List In} {ds : List Df} {zs : List Int} {q : List Int × Int} (h : rdK zs 7 0 = some q) (h2 : rdP zs q.2 = none) : mrR ns is ds zs = none := by unfold mrR; rw [h]; simp only [Option.bind_some]; rw [h2]; rfl
theorem mr_some {ns : List Nd} {is : List In} {ds : List Df} {zs : List Int} {q : List Int × Int} {xs : List Nd} {b : Int} (h : rdK zs 7 0 = some q) (h2 : rdP zs q.2 = some (xs, b)) :
    mrR ns is ds zs = if b = zs.length ∧ machB ns is ds xs (mcOf q.1) = true ∧ allR xs (tdR (mcOf q.1)) = true then some (xs, mcOf q.1) else none := by unfold mrR; rw [h]; simp only [Option.bind_some]; rw [h2]; rfl
theorem own_same8 {w w' : World} {B k n : Nat} {e : TypeId} {v : Value} {l : List Value} (h : w.ownsRow B e k v n l) (hb : ∀ j, v.ownBlock = some j → w'.heap[j]? = w.heap[j]?) : w'.ownsRow B e k v n l := by
  refine ⟨h.1, ?_⟩
  rcases h.2 with h2 | ⟨g, cap, cur, rfl, h3, h4, h5⟩
  · exact Or.inl h2
  · exact Or.inr ⟨g, cap, cur, rfl, h3, (hb g rfl).trans h4, h5⟩
/-- What machine answers. -/
def MAns (B : Nat) (ns : List Nd) (is : List In) (ds : List Df) (zs : List Int) (e : Ending) (w' : World) : Prop :=
  (∃ xs m ao n c, mrR ns is ds zs = some (xs, m) ∧ e = .returned (.tuple #[.agg (mcs (.slice ao n c) m), .nilIface]) ∧ w'.ownsRow B 86 5 (.slice ao n c) xs.length (ncs xs)) ∨ (mrR ns is ds zs = none ∧ ∃ ao n c m p, e = .returned (.tuple #[.agg (mcs (.slice ao n c) m), badV p]))

set_option maxRecDepth 100000 in
set_option maxHeartbeats 6400000 in
theorem rmachine_any (v : Value) (zs : List Int) (W0 w : World) (P : Nat) (v1 v2 v3 : Value) (ns : List Nd) (is : List In) (ds : List Df) (R : Row W0 v zs) (hb : Below W0.heap.size W0 w) (hP : W0.heap.size ≤ P) (h1 : One w P 0) (R1 : NRow W0 v1 ns) (R2 : InRow W0 v2 is) (R3 : DfRow W0 v3 ds) :
    Calls Tryz.prog 23 #[.agg #[v, .pointer (some ⟨P, 0, none⟩)], .agg #[v1, v2, v3]] w fun e w' => w.grownBy w' (some P) ∧ MAns w.heap.size ns is ds zs e w' := by
  obtain ⟨ao, cap, rfl, _, hml, hz, _⟩ := id R
  obtain ⟨a1, c1, rfl⟩ := R1.small
  obtain ⟨a2, c2, rfl⟩ := R2.small
  obtain ⟨a3, c3, rfl⟩ := R3.small
  have hbs := hb.size
  have hPl := h1.lt
  obtain ⟨hB4, x0, x1, x2, x3, hs4⟩ := four_boxes w (Obj.cells #[Value.slice ao zs.length cap, Value.pointer (some ⟨P, 0, none⟩)] 66) (Obj.cells #[.slice a1 ns.length c1, .slice a2 is.length c2, .slice a3 ds.length c3] 40) (Obj.cells #[.slice none 0 0, .int .i64 0, .int .i64 0, .int .i64 0, .int .i64 0, .int .i64 0, .int .i64 0, .int .i64 0] 34) (Obj.cells #[.slice none 0 0, .int .i64 0, .int .i64 0, .int .i64 0, .int .i64 0, .int .i64 0, .int .i64 0, .int .i64 0] 34)
  go_enter Tryz.func23, Tryz.ntmps23
  go_wp2_with fail
  obtain ⟨W4, hW4⟩ : ∃ W4, (((w.alloc (Obj.cells #[Value.slice ao zs.length cap, Value.pointer (some ⟨P, 0, none⟩)] 66)).alloc (Obj.cells #[.slice a1 ns.length c1, .slice a2 is.length c2, .slice a3 ds.length c3] 40)).alloc (Obj.cells #[.slice none 0 0, .int .i64 0, .int .i64 0, .int .i64 0, .int .i64 0, .int .i64 0, .int .i64 0, .int .i64 0] 34)).alloc (Obj.cells #[.slice none 0 0, .int .i64 0, .int .i64 0, .int .i64 0, .int .i64 0, .int .i64 0, .int .i64 0, .int .i64 0] 34) = W4 := ⟨_, rfl⟩
  rw [hW4] at hB4 x0 x1 x2 x3 hs4 ⊢
  have hBL : Below W4.heap.size W4 (W4.alloc (Obj.cells (tgt (w.heap.size + 1 + 1 + 1) [1, 5, 6, 2, 3, 4, 7]) 64)) := (Below.refl _ _).alloc (Nat.le_refl _) _
  have hbW := hb.trans (hB4.mono hbs)
  have x3' : W4.heap[w.heap.size + 1 + 1 + 1]? = some (.cells (mcs (.slice none 0 0) m0) 34 (0, 0)) := x3
  have HC := rnums_any _ zs W0 (W4.alloc (Obj.cells (tgt (w.heap.size + 1 + 1 + 1) [1, 5, 6, 2, 3, 4, 7]) 64)) P (w.heap.size + 1 + 1 + 1) W4.heap.size 0 (mcs (.slice none 0 0) m0) 34 [1, 5, 6, 2, 3, 4, 7] R (hbW.trans (hBL.mono hbW.size)) hP (by omega) ((h1.below hB4 hPl).below hBL (by omega)) ((hBL.block _ (by omega)).trans x3') (by intro o ho; simp at ho; simp [mcs]; omega) (heap_alloc_new _ _) (by omega) (by omega) (by omega) (by simp)
  rw [hs4] at HC
  have hLl : w.heap.size + 1 + 1 + 1 + 1 ≤ (W4.alloc (Obj.cells (tgt (w.heap.size + 1 + 1 + 1) [1, 5, 6, 2, 3, 4, 7]) 64)).heap.size := by have := hBL.size; omega
  have hG : K2 P (w.heap.size + 1 + 1 + 1) w (W4.alloc (Obj.cells (tgt (w.heap.size + 1 + 1 + 1) [1, 5, 6, 2, 3, 4, 7]) 64)) := (K2.ofB hB4).trans (K2.ofB hBL)
  have x0 := (hBL.block _ (by omega)).trans x0
  have x1 := (hBL.block _ (by omega)).trans x1
  have x2 := (hBL.block _ (by omega)).trans x2
  clear hs4 x3 x3' hBL
  refine HC.mono ?_
  rintro e w1 ⟨hK, h⟩
  have x0 := (hK.block _ (by omega) (by omega) (by omega)).trans x0
  have x1 := (hK.block _ (by omega) (by omega) (by omega)).trans x1
  have x2 := (hK.block _ (by omega) (by omega) (by omega)).trans x2
  have hK := hG.trans hK
  have hG1 : w.grownBy w1 (some P) := hK.grown (by omega)
  clear hG hLl HC hB4 hbW hW4
  rcases h with ⟨q, e1, rfl, e3, e4⟩ | ⟨e1, ⟨p, rfl⟩, ⟨q, e3⟩, -⟩
  · have e1 : rdK zs 7 0 = some q := e1
    have hl7 := rdK_len e1
    rw [setL_mc hl7] at e4
    have HQ : Hid (rdK zs 7 0 = some q) := e1
    have l3 := (Array.getElem?_eq_some_iff.1 e4).1
    have c0 : w1.cell? ⟨w.heap.size, 0, none⟩ = some (.slice ao zs.length cap) := cell_of_row w1 _ 0 _ _ _ x0
    have cP : w1.cell? ⟨w.heap.size, 1, none⟩ = some (.pointer (some ⟨P, 0, none⟩)) := cell_of_row w1 _ 1 _ _ _ x0
    have hb01 : Below W0.heap.size W0 w1 := hb.grown hG1 hbs (fun k hk => by simp at hk; omega)
    clear e1 hl7
    obtain ⟨m, hmc⟩ : ∃ m, Hid (mcOf q.1 = m) := ⟨_, rfl⟩
    rw [hmc.out] at e4
    go_wp2_with fail
    refine (rnodes_any _ zs W0 w1 P q.2 R hb01 hP e3).mono ?_
    rintro e w2 ⟨hgr, hans⟩
    have hs2 := hgr.size
    have l0 := (Array.getElem?_eq_some_iff.1 x0).1
    have l2 := (Array.getElem?_eq_some_iff.1 x2).1
    have x0 := (hgr.block _ l0 (by simp; omega)).trans x0
    have x1 := (hgr.block _ (by omega) (by simp; omega)).trans x1
    have x2 := (hgr.block _ l2 (by simp; omega)).trans x2
    have e4 := (hgr.block _ l3 (by simp; omega)).trans e4
    have hG2 := grown_trans hG1 hgr
    clear c0 cP hgr hb01
    rcases hans with ⟨xs, b, vs, n1, rfl, n3, n4⟩ | ⟨n1, ⟨p, rfl⟩, b, n3⟩
    · obtain ⟨ap, cp, rfl⟩ := own_form n3
      obtain ⟨hbl, hpB⟩ := rdP_le hz n1
      have hlen := poolB_len hpB
      have HV : Hid (mrR ns is ds zs = if b = zs.length ∧ machB ns is ds xs m = true ∧ allR xs (tdR m) = true then some (xs, m) else none) := by have := mr_some (ns := ns) (is := is) (ds := ds) HQ.out n1; rw [hmc.out] at this; exact this
      have hzx := ndok_max (pool_ndok hpB)
      have BA : Below w2.heap.size w2 (w2.alloc (Obj.cells #[.slice ap xs.length cp] 32)) := (Below.refl _ _).alloc (Nat.le_refl _) _
      have l3' := (Array.getElem?_eq_some_iff.1 e4).1
      have y0 := (BA.block _ (by omega)).trans x0
      have y1 := (BA.block _ (by omega)).trans x1
      have y2 := (BA.block _ (by omega)).trans x2
      have y3 := (BA.block _ l3').trans e4
      have y8 : (w2.alloc (Obj.cells #[.slice ap xs.length cp] 32)).heap[w2.heap.size]? = some (.cells #[.slice ap xs.length cp] 32 (0, 0)) := heap_alloc_new _ _
      have yo := own_below n3 BA
      have yP := n4.below BA n4.lt
      have hG3 := grown_then hG2 BA hG2.size
      have hs3 := BA.size
      have k8 : (w2.alloc (Obj.cells #[.slice ap xs.length cp] 32)).cell? ⟨w2.heap.size, 0, none⟩ = some (.slice ap xs.length cp) := cell_of_row _ _ 0 _ _ _ y8
      have k3 : (w2.alloc (Obj.cells #[.slice ap xs.length cp] 32)).cell? ⟨w.heap.size + 1 + 1 + 1, 0, none⟩ = some (.slice none 0 0) := cell_of_row _ _ 0 _ _ _ y3
      have f3 : (w2.alloc (Obj.cells #[.slice ap xs.length cp] 32)).frozen? ⟨w.heap.size + 1 + 1 + 1, 0, none⟩ = false := frozen_of_row _ _ 0 _ _ y3
      go_wp2_with fail
      have gS := grown_set (w2.alloc (Obj.cells #[.slice ap xs.length cp] 32)) (w.heap.size + 1 + 1 + 1) 0 (.slice ap xs.length cp)
      have t3 := heap_setCell_same (w2.alloc (Obj.cells #[.slice ap xs.length cp] 32)) (w.heap.size + 1 + 1 + 1) 0 _ _ (.slice ap xs.length cp) y3
      have lA : w.heap.size + 1 + 1 + 1 < w2.heap.size := l3'
      have t0 := (gS.block _ (Array.getElem?_eq_some_iff.1 y0).1 (by simp <;> omega)).trans y0
      have t1 := (gS.block _ (Array.getElem?_eq_some_iff.1 y1).1 (by simp <;> omega)).trans y1
      have t2 := (gS.block _ (Array.getElem?_eq_some_iff.1 y2).1 (by simp <;> omega)).trans y2
      have t8 := (gS.block _ (Array.getElem?_eq_some_iff.1 y8).1 (by simp; omega)).trans y8
      have tP : One _ P b := (gS.block _ yP.lt (by simp; omega)).trans yP
      have to_ := yo.kept gS (own_off yo (by omega))
      have hGX := ((K2.ofP (M := w.heap.size + 1 + 1 + 1) hG3).trans (K2.ofM gS)).grown (by omega)
      obtain ⟨WX, hWX⟩ : ∃ WX, (w2.alloc (Obj.cells #[.slice ap xs.length cp] 32)).setCell ⟨w.heap.size + 1 + 1 + 1, 0, none⟩ (.slice ap xs.length cp) = WX := ⟨_, rfl⟩
      have hcm : (w2.setCell ⟨w.heap.size + 1 + 1 + 1, 0, none⟩ (.slice ap xs.length cp)).alloc (Obj.cells #[.slice ap xs.length cp] 32) = WX := by rw [← hWX]; exact (World.setCell_alloc_past _ _ _ _ (by omega)).symm
      rw [hcm]
      clear hcm
      rw [hWX] at gS t0 t1 t2 t3 t8 tP to_ hGX
      have sX : w2.heap.size + 1 ≤ WX.heap.size := by have := gS.size; simp at this; omega
      clear hWX gS y0 y1 y2 y3 y8 yo yP hG3 hG2 hG1 k8 k3 f3 x0 x1 x2 BA n3 n4 e3 e4 hs3 hK
      have hbX : Below W0.heap.size W0 WX := hb.grown hGX hbs (fun k hk => by simp at hk; omega)
      have RW : ∀ W, Below WX.heap.size WX W → NRow W (.slice a1 ns.length c1) ns ∧ InRow W (.slice a2 is.length c2) is ∧ DfRow W (.slice a3 ds.length c3) ds ∧ NRow W (.slice ap xs.length cp) xs := fun W hW => by
        have hbW := hbX.trans (hW.mono hbX.size)
        exact ⟨R1.below hbW, R2.below hbW, R3.below hbW, NRow.of_own (own_below to_ hW) (by omega) hzx⟩
      have l1 := (Array.getElem?_eq_some_iff.1 t1).1
      have l2' := (Array.getElem?_eq_some_iff.1 t2).1
      cases hmb : machB ns is ds xs m with
      | false =>
        have HN : Hid (mrR ns is ds zs = none) := by unfold Hid; rw [HV.out, if_neg]; rw [hmb]; intro h; exact absurd h.2.1 (by simp)
        refine mr_reg9a (w.heap.size + 1) (w.heap.size + 1 + 1 + 1) w2.heap.size xs.length cp ap _ _ _ m WX _ t1 t3 t8 (fun W hW => by obtain ⟨q1, q2, q3, q4⟩ := RW W hW; have := imachok_any _ _ _ _ ns is ds xs m W q1 q2 q3 q4; rw [hmb] at this; exact this) ?_
        intro u35 u36 u37 u38 u39 u40 u41 u42 u43 u44 wx hbx
        have hh0 := (hbx.block _ (Array.getElem?_eq_some_iff.1 t2).1).trans t2
        go_wp2_with (refine wpList_store_own rfl 34 _ _ rfl (w.heap.size + 1 + 1) (mcs (.slice none 0 0) m0) rfl rfl 34 _ hh0 Tryz.sizeMach rfl (mcs_one _ _ _ _) ?_)
        intro wz hhz hbz _
        go_wp2
        exact bodyPost_ret (results_row_tmp rfl _ _ (w.heap.size + 1 + 1) 34 _ (0, 0) _ rfl hhz Tryz.underlying34 rfl Tryz.sizeMach) rfl ⟨grown_then (grown_then hGX hbx hGX.size) hbz (by omega), Or.inr ⟨HN.out, _, _, _, _, _, rfl⟩⟩
      | true =>
        obtain ⟨_, ha, _⟩ := machB_parts hmb
        obtain ⟨kb, hkb⟩ : ∃ kb, Hid (allR xs (tdR m) = kb) := ⟨_, rfl⟩
        refine mr_reg9b (w.heap.size + 1) (w.heap.size + 1 + 1 + 1) w2.heap.size xs.length cp ap _ _ _ m WX _ t1 t3 t8 (fun W hW => by obtain ⟨q1, q2, q3, q4⟩ := RW W hW; have := imachok_any _ _ _ _ ns is ds xs m W q1 q2 q3 q4; rw [hmb] at this; exact this) kb (fun W _ => iroots_any ap xs.length cp m W) (fun W vl hW RL => by have := iskept_any _ vl xs (tdR m) W (RW W hW).2.2.2 RL hpB ha; rw [hkb.out] at this; exact this) ?_
        intro u35 u36 u37 u38 u39 u40 u41 u42 u43 u44 wx hbx
        cases kb with
        | false =>
          have HN : Hid (mrR ns is ds zs = none) := by unfold Hid; rw [HV.out, if_neg]; rw [hkb.out]; intro h; exact absurd h.2.2 (by simp)
          have hh0 := (hbx.block _ (Array.getElem?_eq_some_iff.1 t2).1).trans t2
          go_wp2_with (refine wpList_store_own rfl 34 _ _ rfl (w.heap.size + 1 + 1) (mcs (.slice none 0 0) m0) rfl rfl 34 _ hh0 Tryz.sizeMach rfl (mcs_one _ _ _ _) ?_)
          intro wz hhz hbz _
          go_wp2
          exact bodyPost_ret (results_row_tmp rfl _ _ (w.heap.size + 1 + 1) 34 _ (0, 0) _ rfl hhz Tryz.underlying34 rfl Tryz.sizeMach) rfl ⟨grown_then (grown_then hGX hbx hGX.size) hbz (by omega), Or.inr ⟨HN.out, _, _, _, _, _, rfl⟩⟩
        | true =>
          have s0 := (hbx.block _ (Array.getElem?_eq_some_iff.1 t0).1).trans t0
          have s2 := (hbx.block _ l2').trans t2
          have s3 := (hbx.block _ (Array.getElem?_eq_some_iff.1 t3).1).trans t3
          have sP := tP.below hbx tP.lt
          have hGY := grown_then hGX hbx hGX.size
          have soo := own_below to_ hbx
          go_wp2_with fail
          refine mr_reg11 w.heap.size (w.heap.size + 1 + 1) (w.heap.size + 1 + 1 + 1) xs.length cp ap (.slice ao zs.length cap) (.pointer (some ⟨P, 0, none⟩)) m _ (EndAns b zs.length) wx _ s0 s3 s2 rfl (by omega) (by omega) (fun W hW => rend_any _ zs P b W ⟨ao, cap, rfl⟩ (sP.below hW sP.lt)) ?_
          intro u49 u50 u51 r W hEA hbW hoW
          have hset := setRow_heap W (w.heap.size + 1 + 1) _ (mcs (.slice ap xs.length cp) m) _ _ hoW
          have hbs2 : Below (w.heap.size + 1 + 1) W (W.setRow (w.heap.size + 1 + 1) (mcs (.slice ap xs.length cp) m)) := below_setRow (Below.refl _ _) (Nat.le_refl _) _
          have hGZ := grown_then (grown_then hGY hbW hGY.size) hbs2 (by omega)
          have oz := own_below soo hbW
          have oZ : (W.setRow (w.heap.size + 1 + 1) (mcs (.slice ap xs.length cp) m)).ownsRow w.heap.size 86 5 (.slice ap xs.length cp) xs.length (ncs xs) := own_mono (own_same8 oz (fun j hj => setRow_other _ _ _ _ (by have := (oz.lt j hj).1; omega))) (by omega)
          have HF : Hid ((mrR ns is ds zs = some (xs, m) ∧ r = .nilIface) ∨ (mrR ns is ds zs = none ∧ ∃ p, r = badV p)) := by
            unfold Hid
            rw [HV.out]
            rcases hEA with ⟨e1, e2⟩ | ⟨e1, e2⟩
            · rw [if_neg (fun h => by have := h.1; omega)]; exact Or.inr ⟨rfl, e2⟩
            · rw [if_pos ⟨by omega, hmb, hkb.out⟩]; exact Or.inl ⟨rfl, e2⟩
          clear hEA
          go_wp2
          refine bodyPost_ret (results_row_tmp rfl _ _ (w.heap.size + 1 + 1) 34 _ (0, 0) _ rfl hset Tryz.underlying34 rfl Tryz.sizeMach) rfl ⟨hGZ, ?_⟩
          rcases HF.out with ⟨f1, f2⟩ | ⟨f1, p, f2⟩
          · exact Or.inl ⟨xs, m, _, _, _, f1, by rw [← f2]; rfl, oZ⟩
          · exact Or.inr ⟨f1, _, _, _, _, p, by rw [← f2]; rfl⟩
    · have HN : Hid (mrR ns is ds zs = none) := mr_none2 HQ.out n1
      have BA : Below w2.heap.size w2 (w2.alloc (Obj.cells #[.slice none 0 0] 32)) := (Below.refl _ _).alloc (Nat.le_refl _) _
      have y2 := (BA.block _ (Array.getElem?_eq_some_iff.1 x2).1).trans x2
      unfold badV
      go_wp2_with (refine wpList_store_own rfl 34 _ _ rfl (w.heap.size + 1 + 1) (mcs (.slice none 0 0) m0) rfl rfl 34 _ y2 Tryz.sizeMach rfl (mcs_one _ _ _ _) ?_)
      intro w3 hh3 hb3 _
      go_wp2
      exact bodyPost_ret (results_row_tmp rfl _ _ (w.heap.size + 1 + 1) 34 _ (0, 0) _ rfl hh3 Tryz.underlying34 rfl Tryz.sizeMach) rfl ⟨grown_then (grown_then hG2 BA hG2.size) hb3 (by omega), Or.inr ⟨HN.out, _, _, _, _, p, rfl⟩⟩
  · have e1 : rdK zs 7 0 = none := e1
    have HN : Hid (mrR ns is ds zs = none) := mr_none1 e1
    unfold badV
    go_wp2_with (refine wpList_store_own rfl 34 _ _ rfl (w.heap.size + 1 + 1) (mcs (.slice none 0 0) m0) rfl rfl 34 _ x2 Tryz.sizeMach rfl (mcs_one _ _ _ _) ?_)
    intro w2 hh2 hb2 _
    go_wp2
    exact bodyPost_ret (results_row_tmp rfl _ _ (w.heap.size + 1 + 1) 34 _ (0, 0) _ rfl hh2 Tryz.underlying34 rfl Tryz.sizeMach) rfl ⟨grown_then hG1 hb2 (by omega), Or.inr ⟨HN.out, _, _, _, _, p, rfl⟩⟩
end Go.Proofs.YtaojlmoppbknbaaGreatDoor
