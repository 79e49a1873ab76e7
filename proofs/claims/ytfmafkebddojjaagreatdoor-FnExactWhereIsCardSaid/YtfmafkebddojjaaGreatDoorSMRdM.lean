/-
  Texts that stood by themselves, laid into one.
-/
import Derived.Test.YtfmafkebddojjaaGreatDoorMRgM
import Derived.Test.YtfmafkebddojjaaGreatDoorMPackM
import Derived.Test.YtfmafkebddojjaaGreatDoorVMoveM
import Derived.Test.YtfmafkebddojjaaGreatDoorS8RdM
import Derived.Test.YtfmafkebddojjaaGreatDoorBsM
/-
  The contract of (impl.reader).machine: a machine of a code is read from its bytes, or there is a mistake. Bounds of the form alone.
-/
set_option maxRecDepth 100000
set_option maxHeartbeats 12800000
namespace Go.Proofs.YtfmafkebddojjaaGreatDoor
open Go.RowKit
def m0 : Mc := ⟨0, 0, 0, 0, 0, 0, 0⟩
theorem ZbK (ao : Option Addr) (n c : Nat) (m : Mc) : (mcs (.slice ao n c) m).all (·.oneCell') = true := by simp [mcs, Value.oneCell']
theorem Zk0 {l : List Int} (h : l.length = 7) : setL (mcs (.slice none 0 0) m0) [1, 5, 6, 2, 3, 4, 7] l = mcs (.slice none 0 0) (mcOf l) := by
 match l, h with
 | [p, t, q, s, e, d, r], _ => rfl
theorem Zj2 {ns : List Nd} {is : List In} {ds : List Df} {zs : List Int} (h : rdK zs 7 0 = none) : mrR ns is ds zs = none := by unfold mrR; rw [h]; rfl
theorem ZkA {ns : List Nd} {is : List In} {ds : List Df} {zs : List Int} {q : List Int × Int} (h : rdK zs 7 0 = some q) (h2 : rdP zs q.2 = none) : mrR ns is ds zs = none := by unfold mrR; rw [h]; simp only [Option.bind_some]; rw [h2]; rfl
theorem ZkX {ns : List Nd} {is : List In} {ds : List Df} {zs : List Int} {q : List Int × Int} {xs : List Nd} {b : Int} (h : rdK zs 7 0 = some q) (h2 : rdP zs q.2 = some (xs, b)) :
  mrR ns is ds zs = if b = zs.length /\ Za0 ns is ds xs (mcOf q.1) = true /\ allR xs (tdR (mcOf q.1)) = true then some (xs, mcOf q.1) else none := by unfold mrR; rw [h]; simp only [Option.bind_some]; rw [h2]; rfl
theorem ZiU {w w' : World} {B k n : Nat} {e : TypeId} {v : Value} {l : List Value} (h : w.ownsRow B e k v n l) (hb : ∀ j, v.ownBlock = some j -> w'.heap[j]? = w.heap[j]?) : w'.ownsRow B e k v n l := by
 refine ⟨h.1, ?_⟩
 rcases h.2 with h2 | ⟨g, cap, cur, rfl, h3, h4, h5⟩
 ·exact Or.inl h2
 ·exact Or.inr ⟨g, cap, cur, rfl, h3, (hb g rfl).trans h4, h5⟩
def MAns (B : Nat) (ns : List Nd) (is : List In) (ds : List Df) (zs : List Int) (e : Ending) (w' : World) : Prop :=
 (∃ xs m ao n c, mrR ns is ds zs = some (xs, m) /\ e = .returned (.tuple #[.agg (mcs (.slice ao n c) m), .nilIface]) /\ w'.ownsRow B 210 5 (.slice ao n c) xs.length (ncs xs)) \/ (mrR ns is ds zs = none /\ ∃ ao n c m p, e = .returned (.tuple #[.agg (mcs (.slice ao n c) m), badV p]))
theorem Zff (v : Value) (zs : List Int) (W0 w : World) (P : Nat) (v1 v2 v3 : Value) (ns : List Nd) (is : List In) (ds : List Df) (R : Row W0 v zs) (hb : Below W0.heap.size W0 w) (hP : W0.heap.size <= P) (h1 : One w P 0) (R1 : NRow W0 v1 ns) (R2 : InRow W0 v2 is) (R3 : DfRow W0 v3 ds) :
  Calls Tryz.prog 251 #[.agg #[v, .pointer (some ⟨P, 0, none⟩)], .agg #[v1, v2, v3]] w fun e w' => w.grownBy w' (some P) /\ MAns w.heap.size ns is ds zs e w' := by
 obtain ⟨ao, cap, rfl, _, hml, hz, _⟩ := id R
 obtain ⟨a1, c1, rfl⟩ := R1.small
 obtain ⟨a2, c2, rfl⟩ := R2.small
 obtain ⟨a3, c3, rfl⟩ := R3.small
 have hbs := hb.size
 have hPl := h1.lt
 obtain ⟨hB4, x0, x1, x2, x3, hs4⟩ := Zd0 w (Obj.cells #[Value.slice ao zs.length cap, Value.pointer (some ⟨P, 0, none⟩)] 254) (Obj.cells #[.slice a1 ns.length c1, .slice a2 is.length c2, .slice a3 ds.length c3] 44) (Obj.cells #[.slice none 0 0, .int .i64 0, .int .i64 0, .int .i64 0, .int .i64 0, .int .i64 0, .int .i64 0, .int .i64 0] 81) (Obj.cells #[.slice none 0 0, .int .i64 0, .int .i64 0, .int .i64 0, .int .i64 0, .int .i64 0, .int .i64 0, .int .i64 0] 81)
 go_enter Tryz.func251, Tryz.ntmps251
 go_wp2_with fail
 obtain ⟨W4, hW4⟩ : ∃ W4, (((w.alloc (Obj.cells #[Value.slice ao zs.length cap, Value.pointer (some ⟨P, 0, none⟩)] 254)).alloc (Obj.cells #[.slice a1 ns.length c1, .slice a2 is.length c2, .slice a3 ds.length c3] 44)).alloc (Obj.cells #[.slice none 0 0, .int .i64 0, .int .i64 0, .int .i64 0, .int .i64 0, .int .i64 0, .int .i64 0, .int .i64 0] 81)).alloc (Obj.cells #[.slice none 0 0, .int .i64 0, .int .i64 0, .int .i64 0, .int .i64 0, .int .i64 0, .int .i64 0, .int .i64 0] 81) = W4 := ⟨_, rfl⟩
 rw [hW4] at hB4 x0 x1 x2 x3 hs4 ⊢
 have hBL : Below W4.heap.size W4 (W4.alloc (Obj.cells (tgt (w.heap.size + 1 + 1 + 1) [1, 5, 6, 2, 3, 4, 7]) 252)) := (Below.refl _ _).alloc (Nat.le_refl _) _
 have hbW := hb.trans (hB4.mono hbs)
 have x3' : W4.heap[w.heap.size + 1 + 1 + 1]? = some (.cells (mcs (.slice none 0 0) m0) 81 (0, 0)) := x3
 have HC := ZcC _ zs W0 (W4.alloc (Obj.cells (tgt (w.heap.size + 1 + 1 + 1) [1, 5, 6, 2, 3, 4, 7]) 252)) P (w.heap.size + 1 + 1 + 1) W4.heap.size 0 (mcs (.slice none 0 0) m0) 81 [1, 5, 6, 2, 3, 4, 7] R (hbW.trans (hBL.mono hbW.size)) hP (by omega) ((h1.below hB4 hPl).below hBL (by omega)) ((hBL.block _ (by omega)).trans x3') (by intro o ho; simp at ho; simp [mcs]; omega) (heap_alloc_new _ _) (by omega) (by omega) (by omega) (by simp)
 rw [hs4] at HC
 have hLl : w.heap.size + 1 + 1 + 1 + 1 <= (W4.alloc (Obj.cells (tgt (w.heap.size + 1 + 1 + 1) [1, 5, 6, 2, 3, 4, 7]) 252)).heap.size := by have := hBL.size; omega
 have hG : K2 P (w.heap.size + 1 + 1 + 1) w (W4.alloc (Obj.cells (tgt (w.heap.size + 1 + 1 + 1) [1, 5, 6, 2, 3, 4, 7]) 252)) := (K2.ofB hB4).trans (K2.ofB hBL)
 have x0 := (hBL.block _ (by omega)).trans x0
 have x1 := (hBL.block _ (by omega)).trans x1
 have x2 := (hBL.block _ (by omega)).trans x2
 clear hs4 x3 x3' hBL
 refine HC.mono ?_
 rintro e w1 ⟨hK, h⟩
 have x0 := (hK.block _ (by omega) (by omega) (by omega)).trans x0
 have x1 := (hK.block _ (by omega) (by omega) (by omega)).trans x1
 have x2 := (hK.block _ (by omega) (by omega) (by omega)).trans x2
 have hK := hG.trans hK
 have hG1 : w.grownBy w1 (some P) := hK.grown (by omega)
 clear hG hLl HC hB4 hbW hW4
 rcases h with ⟨q, e1, rfl, e3, e4⟩ | ⟨e1, ⟨p, rfl⟩, ⟨q, e3⟩, -⟩
 ·have e1 : rdK zs 7 0 = some q := e1
  have hl7 := Zem e1
  rw [Zk0 hl7] at e4
  have HQ : Hid (rdK zs 7 0 = some q) := e1
  have l3 := (bl e4)
  have c0 : w1.cell? ⟨w.heap.size, 0, none⟩ = some (.slice ao zs.length cap) := cell_of_row w1 _ 0 _ _ _ x0
  have cP : w1.cell? ⟨w.heap.size, 1, none⟩ = some (.pointer (some ⟨P, 0, none⟩)) := cell_of_row w1 _ 1 _ _ _ x0
  have hb01 : Below W0.heap.size W0 w1 := hb.grown hG1 hbs (fun k hk => by simp at hk; omega)
  clear e1 hl7
  obtain ⟨m, hmc⟩ : ∃ m, Hid (mcOf q.1 = m) := ⟨_, rfl⟩
  rw [hmc.out] at e4
  go_wp2_with fail
  refine (ZdS _ zs W0 w1 P q.2 R hb01 hP e3).mono ?_
  rintro e w2 ⟨hgr, hans⟩
  have hs2 := hgr.size
  have l0 := (bl x0)
  have l2 := (bl x2)
  have x0 := (hgr.block _ l0 (by simp; omega)).trans x0
  have x1 := (hgr.block _ (by omega) (by simp; omega)).trans x1
  have x2 := (hgr.block _ l2 (by simp; omega)).trans x2
  have e4 := (hgr.block _ l3 (by simp; omega)).trans e4
  have hG2 := Zai hG1 hgr
  clear c0 cP hgr hb01
  rcases hans with ⟨xs, b, vs, n1, rfl, n3, n4⟩ | ⟨n1, ⟨p, rfl⟩, b, n3⟩
  ·obtain ⟨ap, cp, rfl⟩ := Zae n3
   obtain ⟨hbl, hpB⟩ := Zit hz n1
   have hlen := ZaD hpB
   have HV : Hid (mrR ns is ds zs = if b = zs.length /\ Za0 ns is ds xs m = true /\ allR xs (tdR m) = true then some (xs, m) else none) := by have := ZkX (ns := ns) (is := is) (ds := ds) HQ.out n1; rw [hmc.out] at this; exact this
   have hzx := Zbx (ZbC hpB)
   have BA : Below w2.heap.size w2 (w2.alloc (Obj.cells #[.slice ap xs.length cp] 40)) := (Below.refl _ _).alloc (Nat.le_refl _) _
   have l3' := (bl e4)
   have y0 := (BA.block _ (by omega)).trans x0
   have y1 := (BA.block _ (by omega)).trans x1
   have y2 := (BA.block _ (by omega)).trans x2
   have y3 := (BA.block _ l3').trans e4
   have y8 : (w2.alloc (Obj.cells #[.slice ap xs.length cp] 40)).heap[w2.heap.size]? = some (.cells #[.slice ap xs.length cp] 40 (0, 0)) := heap_alloc_new _ _
   have yo := Zad n3 BA
   have yP := n4.below BA n4.lt
   have hG3 := Zam hG2 BA hG2.size
   have hs3 := BA.size
   have k8 : (w2.alloc (Obj.cells #[.slice ap xs.length cp] 40)).cell? ⟨w2.heap.size, 0, none⟩ = some (.slice ap xs.length cp) := cell_of_row _ _ 0 _ _ _ y8
   have k3 : (w2.alloc (Obj.cells #[.slice ap xs.length cp] 40)).cell? ⟨w.heap.size + 1 + 1 + 1, 0, none⟩ = some (.slice none 0 0) := cell_of_row _ _ 0 _ _ _ y3
   have f3 : (w2.alloc (Obj.cells #[.slice ap xs.length cp] 40)).frozen? ⟨w.heap.size + 1 + 1 + 1, 0, none⟩ = false := frozen_of_row _ _ 0 _ _ y3
   go_wp2_with fail
   have gS := Zag (w2.alloc (Obj.cells #[.slice ap xs.length cp] 40)) (w.heap.size + 1 + 1 + 1) 0 (.slice ap xs.length cp)
   have t3 := heap_setCell_same (w2.alloc (Obj.cells #[.slice ap xs.length cp] 40)) (w.heap.size + 1 + 1 + 1) 0 _ _ (.slice ap xs.length cp) y3
   have lA : w.heap.size + 1 + 1 + 1 < w2.heap.size := l3'
   have t0 := (gS.block _ (bl y0) (by simp <;> omega)).trans y0
   have t1 := (gS.block _ (bl y1) (by simp <;> omega)).trans y1
   have t2 := (gS.block _ (bl y2) (by simp <;> omega)).trans y2
   have t8 := (gS.block _ (bl y8) (by simp; omega)).trans y8
   have tP : One _ P b := (gS.block _ yP.lt (by simp; omega)).trans yP
   have to_ := yo.kept gS (ZaS yo (by omega))
   have hGX := ((K2.ofP (M := w.heap.size + 1 + 1 + 1) hG3).trans (K2.ofM gS)).grown (by omega)
   obtain ⟨WX, hWX⟩ : ∃ WX, (w2.alloc (Obj.cells #[.slice ap xs.length cp] 40)).setCell ⟨w.heap.size + 1 + 1 + 1, 0, none⟩ (.slice ap xs.length cp) = WX := ⟨_, rfl⟩
   have hcm : (w2.setCell ⟨w.heap.size + 1 + 1 + 1, 0, none⟩ (.slice ap xs.length cp)).alloc (Obj.cells #[.slice ap xs.length cp] 40) = WX := by rw [<- hWX]; exact (World.setCell_alloc_past _ _ _ _ (by omega)).symm
   rw [hcm]
   clear hcm
   rw [hWX] at gS t0 t1 t2 t3 t8 tP to_ hGX
   have sX : w2.heap.size + 1 <= WX.heap.size := by have := gS.size; simp at this; omega
   clear hWX gS y0 y1 y2 y3 y8 yo yP hG3 hG2 hG1 k8 k3 f3 x0 x1 x2 BA n3 n4 e3 e4 hs3 hK
   have hbX : Below W0.heap.size W0 WX := hb.grown hGX hbs (fun k hk => by simp at hk; omega)
   have RW : ∀ W, Below WX.heap.size WX W -> NRow W (.slice a1 ns.length c1) ns /\ InRow W (.slice a2 is.length c2) is /\ DfRow W (.slice a3 ds.length c3) ds /\ NRow W (.slice ap xs.length cp) xs := fun W hW => by
    have hbW := hbX.trans (hW.mono hbX.size)
    exact ⟨R1.below hbW, R2.below hbW, R3.below hbW, NRow.of_own (Zad to_ hW) (by omega) hzx⟩
   have l1 := (bl t1)
   have l2' := (bl t2)
   cases hmb : Za0 ns is ds xs m with
   | false =>
    have HN : Hid (mrR ns is ds zs = none) := by unfold Hid; rw [HV.out, if_neg]; rw [hmb]; intro h; exact absurd h.2.1 (by simp)
    refine Zkn (w.heap.size + 1) (w.heap.size + 1 + 1 + 1) w2.heap.size xs.length cp ap _ _ _ m WX _ t1 t3 t8 (fun W hW => by obtain ⟨q1, q2, q3, q4⟩ := RW W hW; have := ZcB _ _ _ _ ns is ds xs m W q1 q2 q3 q4; rw [hmb] at this; exact this) ?_
    intro u35 u36 u37 u38 u39 u40 u41 u42 u43 u44 wx hbx
    have hh0 := (bb t2 hbx)
    go_wp2_with (refine Zah rfl 81 _ _ rfl (w.heap.size + 1 + 1) (mcs (.slice none 0 0) m0) rfl rfl 81 _ hh0 Zmc rfl (ZbK _ _ _ _) ?_)
    intro wz hhz hbz _
    go_wp2
    exact bodyPost_ret (Zab rfl _ _ (w.heap.size + 1 + 1) 81 _ (0, 0) _ rfl hhz Tryz.underlying81 rfl Zmc) rfl ⟨Zam (Zam hGX hbx hGX.size) hbz (by omega), Or.inr ⟨HN.out, _, _, _, _, _, rfl⟩⟩
   | true =>
    obtain ⟨_, ha, _⟩ := Zbt hmb
    obtain ⟨kb, hkb⟩ : ∃ kb, Hid (allR xs (tdR m) = kb) := ⟨_, rfl⟩
    refine Zkd (w.heap.size + 1) (w.heap.size + 1 + 1 + 1) w2.heap.size xs.length cp ap _ _ _ m WX _ t1 t3 t8 (fun W hW => by obtain ⟨q1, q2, q3, q4⟩ := RW W hW; have := ZcB _ _ _ _ ns is ds xs m W q1 q2 q3 q4; rw [hmb] at this; exact this) kb (fun W _ => Zhm ap xs.length cp m W) (fun W vl hW RL => by have := Zd9 _ vl xs (tdR m) W (RW W hW).2.2.2 RL hpB ha; rw [hkb.out] at this; exact this) ?_
    intro u35 u36 u37 u38 u39 u40 u41 u42 u43 u44 wx hbx
    cases kb with
    | false =>
     have HN : Hid (mrR ns is ds zs = none) := by unfold Hid; rw [HV.out, if_neg]; rw [hkb.out]; intro h; exact absurd h.2.2 (by simp)
     have hh0 := (bb t2 hbx)
     go_wp2_with (refine Zah rfl 81 _ _ rfl (w.heap.size + 1 + 1) (mcs (.slice none 0 0) m0) rfl rfl 81 _ hh0 Zmc rfl (ZbK _ _ _ _) ?_)
     intro wz hhz hbz _
     go_wp2
     exact bodyPost_ret (Zab rfl _ _ (w.heap.size + 1 + 1) 81 _ (0, 0) _ rfl hhz Tryz.underlying81 rfl Zmc) rfl ⟨Zam (Zam hGX hbx hGX.size) hbz (by omega), Or.inr ⟨HN.out, _, _, _, _, _, rfl⟩⟩
    | true =>
     have s0 := (bb t0 hbx)
     have s2 := (hbx.block _ l2').trans t2
     have s3 := (bb t3 hbx)
     have sP := tP.below hbx tP.lt
     have hGY := Zam hGX hbx hGX.size
     have soo := Zad to_ hbx
     go_wp2_with fail
     refine Zkb w.heap.size (w.heap.size + 1 + 1) (w.heap.size + 1 + 1 + 1) xs.length cp ap (.slice ao zs.length cap) (.pointer (some ⟨P, 0, none⟩)) m _ (ZgZ b zs.length) wx _ s0 s3 s2 rfl (by omega) (by omega) (fun W hW => Zc4 _ zs P b W ⟨ao, cap, rfl⟩ (sP.below hW sP.lt)) ?_
     intro u49 u50 u51 r W hEA hbW hoW
     have hset := setRow_heap W (w.heap.size + 1 + 1) _ (mcs (.slice ap xs.length cp) m) _ _ hoW
     have hbs2 : Below (w.heap.size + 1 + 1) W (W.setRow (w.heap.size + 1 + 1) (mcs (.slice ap xs.length cp) m)) := below_setRow (Below.refl _ _) (Nat.le_refl _) _
     have hGZ := Zam (Zam hGY hbW hGY.size) hbs2 (by omega)
     have oz := Zad soo hbW
     have oZ : (W.setRow (w.heap.size + 1 + 1) (mcs (.slice ap xs.length cp) m)).ownsRow w.heap.size 210 5 (.slice ap xs.length cp) xs.length (ncs xs) := Zaf (ZiU oz (fun j hj => setRow_other _ _ _ _ (by have := (oz.lt j hj).1; omega))) (by omega)
     have HF : Hid ((mrR ns is ds zs = some (xs, m) /\ r = .nilIface) \/ (mrR ns is ds zs = none /\ ∃ p, r = badV p)) := by
      unfold Hid
      rw [HV.out]
      rcases hEA with ⟨e1, e2⟩ | ⟨e1, e2⟩
      ·rw [if_neg (fun h => by have := h.1; omega)]; exact Or.inr ⟨rfl, e2⟩
      ·rw [if_pos ⟨by omega, hmb, hkb.out⟩]; exact Or.inl ⟨rfl, e2⟩
     clear hEA
     go_wp2
     refine bodyPost_ret (Zab rfl _ _ (w.heap.size + 1 + 1) 81 _ (0, 0) _ rfl hset Tryz.underlying81 rfl Zmc) rfl ⟨hGZ, ?_⟩
     rcases HF.out with ⟨f1, f2⟩ | ⟨f1, p, f2⟩
     ·exact Or.inl ⟨xs, m, _, _, _, f1, by rw [<- f2]; rfl, oZ⟩
     ·exact Or.inr ⟨f1, _, _, _, _, p, by rw [<- f2]; rfl⟩
  ·have HN : Hid (mrR ns is ds zs = none) := ZkA HQ.out n1
   have BA : Below w2.heap.size w2 (w2.alloc (Obj.cells #[.slice none 0 0] 40)) := (Below.refl _ _).alloc (Nat.le_refl _) _
   have y2 := (bb x2 BA)
   unfold badV
   go_wp2_with (refine Zah rfl 81 _ _ rfl (w.heap.size + 1 + 1) (mcs (.slice none 0 0) m0) rfl rfl 81 _ y2 Zmc rfl (ZbK _ _ _ _) ?_)
   intro w3 hh3 hb3 _
   go_wp2
   exact bodyPost_ret (Zab rfl _ _ (w.heap.size + 1 + 1) 81 _ (0, 0) _ rfl hh3 Tryz.underlying81 rfl Zmc) rfl ⟨Zam (Zam hG2 BA hG2.size) hb3 (by omega), Or.inr ⟨HN.out, _, _, _, _, p, rfl⟩⟩
 ·have e1 : rdK zs 7 0 = none := e1
  have HN : Hid (mrR ns is ds zs = none) := Zj2 e1
  unfold badV
  go_wp2_with (refine Zah rfl 81 _ _ rfl (w.heap.size + 1 + 1) (mcs (.slice none 0 0) m0) rfl rfl 81 _ x2 Zmc rfl (ZbK _ _ _ _) ?_)
  intro w2 hh2 hb2 _
  go_wp2
  exact bodyPost_ret (Zab rfl _ _ (w.heap.size + 1 + 1) 81 _ (0, 0) _ rfl hh2 Tryz.underlying81 rfl Zmc) rfl ⟨Zam hG1 hb2 (by omega), Or.inr ⟨HN.out, _, _, _, _, p, rfl⟩⟩
theorem Zhh (v1 v2 v3 v : Value) (ns : List Nd) (is : List In) (ds : List Df) (xs : List Nd) (m : Mc) (w : World) (R1 : NRow w v1 ns) (R2 : InRow w v2 is) (R3 : DfRow w v3 ds) (R : NRow w v xs) :
  Calls Tryz.prog 176 #[.agg #[v1, v2, v3], .agg #[v, .int .i64 m.p, .int .i64 m.s, .int .i64 m.e, .int .i64 m.d, .int .i64 m.t, .int .i64 m.q, .int .i64 m.r]] w fun e w' => e = .returned (.tuple #[.string (mpR ns is ds xs m), .bool (Za0 ns is ds xs m)]) /\ Below w.heap.size w w' := by
 have R' := R
 obtain ⟨ao, cap, rfl, _⟩ := R'
 obtain ⟨a1, c1, rfl⟩ := R1.small
 obtain ⟨a2, c2, rfl⟩ := R2.small
 obtain ⟨a3, c3, rfl⟩ := R3.small
 obtain ⟨hB0, hk0, hx0⟩ := Zat w (Obj.cells #[.slice a1 ns.length c1, .slice a2 is.length c2, .slice a3 ds.length c3] 44) (Obj.cells #[.slice ao xs.length cap, .int .i64 m.p, .int .i64 m.s, .int .i64 m.e, .int .i64 m.d, .int .i64 m.t, .int .i64 m.q, .int .i64 m.r] 81)
 go_enter Tryz.func176, Tryz.ntmps176
 go_wp2_with fail
 refine (Zdd _ _ _ _ ns is ds xs m _ (R1.below hB0) (R2.below hB0) (R3.below hB0) (R.below hB0)).mono ?_
 rintro e w1 ⟨rfl, hb1⟩
 have hB1 := hB0.trans (hb1.mono hB0.size)
 have hx1 := (bb hx0 hb1)
 clear hB0 hk0 hx0 hb1
 cases hm : Za0 ns is ds xs m with
 | false =>
  have HR : Hid (mpR ns is ds xs m = ByteArray.empty) := by unfold Hid mpR; rw [hm]; rfl
  go_wp2
  go_ret2
  exact ⟨by rw [HR.out, hm]; rfl, hB1⟩
 | true =>
  have HR : Hid (mpR ns is ds xs m = strOfNums (mpL xs m)) := by unfold Hid mpR; rw [hm]; rfl
  have HL : Hid (mpL xs m = (mpN (tdM xs m)).flatMap encI ++ Zbw (tdL xs m)) := rfl
  obtain ⟨hz, hok, hlq⟩ := Zgw hm
  have hlx := ZbB (Zbt hm).1
  have IT := fun (v : Value) (w : World) (R : NRow w v xs) => Zi5 v xs m w R (by omega)
  generalize tdL xs m = Q at *
  generalize tdM xs m = M at *
  go_wp2_with (refine wpList_load_row rfl 81 _ rfl (w.heap.size + 1) rfl 81 #[.slice ao xs.length cap, .int .i64 m.p, .int .i64 m.s, .int .i64 m.e, .int .i64 m.d, .int .i64 m.t, .int .i64 m.q, .int .i64 m.r] (0, 0) _ hx1 Tryz.underlying81 rfl Zmc ?_)
  refine (IT _ _ (R.below hB1)).mono ?_
  rintro e w3 ⟨v3, rfl, ho3, hb3⟩
  obtain ⟨aq, cq, rfl⟩ := Zae ho3
  have hB3 := hB1.trans (hb3.mono hB1.size)
  clear hB1 hx1 hb3
  go_wp2_with (refine Zah rfl 81 _ _ rfl w3.heap.size #[.slice aq Q.length cq, .int .i64 M.p, .int .i64 M.s, .int .i64 M.e, .int .i64 M.d, .int .i64 M.t, .int .i64 M.q, .int .i64 M.r] rfl rfl 81 _ (heap_alloc_new _ _) Zmc rfl (by simp [Value.oneCell']) ?_)
  intro wB hvB hbB hsB
  have hdB : Below w3.heap.size w3 wB := ((Below.refl _ _).alloc (Nat.le_refl _) _).trans hbB
  have hBB := hB3.trans (hdB.mono hB3.size)
  have RQ : NRow wB (.slice aq Q.length cq) Q := (NRow.of_own ho3 (by omega) (Zbx hok)).below hdB
  have hltB : w3.heap.size < wB.heap.size := (bl hvB)
  clear ho3 hbB hsB hdB hB3
  have hdE : Below wB.heap.size wB (wB.alloc (Obj.cells #[] 5)) := (Below.refl _ _).alloc (Nat.le_refl _) _
  have hvE := (hdE.block _ hltB).trans hvB
  have ownE := ZcL wB 5 1 wB.heap.size (Nat.le_refl _)
  generalize hWE : wB.alloc (Obj.cells #[] 5) = WE at hdE hvE ownE
  have e0 : WE.cell? ⟨w3.heap.size, 0, none⟩ = some (.slice aq Q.length cq) := cell_of_row WE _ 0 _ _ _ hvE
  have e1 : WE.cell? ⟨w3.heap.size, 1, none⟩ = some (.int .i64 M.p) := cell_of_row WE _ 1 _ _ _ hvE
  have e2 : WE.cell? ⟨w3.heap.size, 2, none⟩ = some (.int .i64 M.s) := cell_of_row WE _ 2 _ _ _ hvE
  have e3 : WE.cell? ⟨w3.heap.size, 3, none⟩ = some (.int .i64 M.e) := cell_of_row WE _ 3 _ _ _ hvE
  have e4 : WE.cell? ⟨w3.heap.size, 4, none⟩ = some (.int .i64 M.d) := cell_of_row WE _ 4 _ _ _ hvE
  have e5 : WE.cell? ⟨w3.heap.size, 5, none⟩ = some (.int .i64 M.t) := cell_of_row WE _ 5 _ _ _ hvE
  have e6 : WE.cell? ⟨w3.heap.size, 6, none⟩ = some (.int .i64 M.q) := cell_of_row WE _ 6 _ _ _ hvE
  have e7 : WE.cell? ⟨w3.heap.size, 7, none⟩ = some (.int .i64 M.r) := cell_of_row WE _ 7 _ _ _ hvE
  have hltE : w3.heap.size < WE.heap.size := (bl hvE)
  have hdl : Below WE.heap.size WE (WE.alloc (Obj.cells (iv (mpN M)).toArray 3)) := (Below.refl _ _).alloc (Nat.le_refl _) _
  have hng : (WE.alloc (Obj.cells (iv (mpN M)).toArray 3)).heap[WE.heap.size]? = some (.cells (iv (mpN M)).toArray 3 (0, 0)) := heap_alloc_new _ _
  have hll := Zlb M
  have hl7 : (mpN M).length = 7 := rfl
  have ownL := Zad ownE hdl
  have hBL := hdE.trans (hdl.mono hdE.size)
  go_wp2_with fail
  go_loopw [7, 9] (fun vo i wr => ∃ k : Nat, k <= 7 /\ i = .int .i64 k /\ OwnB wr wB.heap.size vo (((mpN M).take k).flatMap encI) /\ Below wB.heap.size wB wr /\ wr.heap[WE.heap.size]? = some (.cells (iv (mpN M)).toArray 3 (0, 0))) (fun _ i _ => 7 - (intOf i).toNat)
  case atStart => exact ⟨0, by omega, rfl, ownL, hBL, hng⟩
  case round =>
   obtain ⟨k, hk, rfl, ho, hbel, hgr⟩ := hrel
   clear e0 e1 e2 e3 e4 e5 e6 e7
   by_cases hlt : k < 7
   ·have hgl : WE.heap.size < wr.heap.size := (bl hgr)
    have c0 : wr.cell? ⟨WE.heap.size, k, none⟩ = some (.int .i64 ((mpN M).getD k 0)) := by
     rw [cell_of_row wr _ k _ _ _ hgr]
     simpa using ZcI (mpN M) k (by omega)
    have hzk : (mpN M).getD k 0 <= 9223372036854775807 := hz _ (by simp [List.getD_eq_getElem?_getD, List.getElem?_eq_getElem (show k < (mpN M).length by omega)])
    have HT : Hid (((mpN M).take (k + 1)).flatMap encI = ((mpN M).take k).flatMap encI ++ encI ((mpN M).getD k 0)) := ZiY (mpN M) k (by omega)
    have hlb : (((mpN M).take k).flatMap encI).length <= 63 := by
     have := Zg4 ((mpN M).take k)
     rw [List.length_take] at this
     omega
    obtain ⟨z, hzz⟩ : ∃ z, Hid ((mpN M).getD k 0 = z) := ⟨_, rfl⟩
    rw [hzz.out] at c0 hzk HT
    have hle := Zaq z
    generalize ((mpN M).take k).flatMap encI = cs at *
    go_wp2_with fail
    refine (ZaQ z _ hzk).mono ?_
    rintro e wc ⟨vc, rfl, oc, bc⟩
    obtain ⟨ac, cc, rfl⟩ := Zae oc
    clear c0
    have ho2 := Zad ho bc
    go_wp2_with (at_builtin; refine Zdx rfl _ _ rfl rfl ho2 (by have := hbel.size; have := bc.size; omega) rfl oc (by omega) ?_)
    intro vd wd od bd sd
    have hB2 := (hbel.trans (bc.mono hbel.size)).trans bd
    have hg2 := sd _ _ _ (by decide) ((bc.block _ hgl).trans hgr)
    rw [<- HT.out] at od
    clear oc bc ho2 ho bd sd hbel hgr
    go_wp2
    go_roundw
    case rel => exact ⟨k + 1, by omega, by go_num, od, hB2, hg2⟩
    case measure => simp [intOf]; omega
   ·have hke : k = 7 := by omega
    subst hke
    have eT : (mpN M).take 7 = mpN M := rfl
    rw [eT] at ho
    have hvr := (hbel.block _ hltB).trans hvB
    have f0 : wr.cell? ⟨w3.heap.size, 0, none⟩ = some (.slice aq Q.length cq) := cell_of_row wr _ 0 _ _ _ hvr
    have hwl : (Zbw Q).length <= 90009 := by
     have := Zfq Q hok
     have := Zaq Q.length
     unfold Zbw
     rw [List.length_append]
     omega
    generalize (mpN M).flatMap encI = cs at *
    go_wp2_with fail
    refine (ZdE _ Q _ (RQ.below hbel) hok hlq).mono ?_
    rintro e wc ⟨vc, rfl, oc, bc⟩
    obtain ⟨ac, cc, rfl⟩ := Zae oc
    have ho2 := Zad ho bc
    clear f0
    go_wp2_with (at_builtin; refine Zdx rfl _ _ rfl rfl ho2 (by have := hbel.size; have := bc.size; omega) rfl oc (by omega) ?_)
    intro vd wd od bd sd
    have hB6 := hBB.trans (((hbel.trans (bc.mono hbel.size)).trans bd).mono hBB.size)
    obtain ⟨bb, hbb⟩ : ∃ bb, Hid (cs ++ Zbw Q = bb) := ⟨_, rfl⟩
    rw [hbb.out] at od
    obtain ⟨a6, k6, rfl⟩ := Zae od
    have hT := Zgs od
    go_wp2_with (refine ZbG _ rfl _ 162 9 5 rfl Tryz.underlying162 Tryz.underlying9 Tryz.underlying5 a6 bb.length k6 bb rfl rfl hT ?_)
    go_ret2
    exact ⟨by rw [HR.out, HL.out, hbb.out, hm]; rfl, hB6⟩
theorem Row.cur {W w' : World} {v : Value} {zs : List Int} {C : Nat} {a : Int} {ok : Bool} (R : Row W v zs) (hC : C8 W C v a ok) (hG : W.grownBy w' (some C)) : Row w' v zs := by
 obtain ⟨ao, cap, rfl, h1, h2, h3, h4⟩ := R
 refine ⟨ao, cap, rfl, h1, h2, h3, fun hne => ?_⟩
 obtain ⟨g, o, rfl, hg, hc⟩ := h4 hne
 have n1 := Row.apart (List.length_pos_iff.2 hne) hc hC (ZkH _ _ _ _ _)
 refine ⟨g, o, rfl, Nat.lt_of_lt_of_le hg hG.size, fun i hi => ?_⟩
 rw [World.cell?_of_block (w := W) (hG.block g hg (by simpa using n1))]
 exact hc i hi
theorem ZbL {w w1 w2 : World} {P g : Nat} (h : w.grownBy w1 (some P)) (hg : w.heap.size <= g) (k : w1.grownBy w2 (some g)) : w.grownBy w2 (some P) :=
 ⟨k.os.trans h.os, k.tape.trans h.tape, k.output.trans h.output, Nat.le_trans h.size k.size, fun j hj hne => (k.block j (Nat.lt_of_lt_of_le hj h.size) (by simp; omega)).trans (h.block j hj hne)⟩
def mrL (r : Option (List Nd × Mc)) : List Nd := match r with | some p => p.1 | none => []
def mrM (r : Option (List Nd × Mc)) : Mc := match r with | some p => p.2 | none => m0
def MrAns (B : Nat) (r : Option (List Nd × Mc)) (e : Ending) (w' : World) : Prop := ∃ v', e = .returned (.tuple #[.agg #[v', .int .i64 (mrM r).p, .int .i64 (mrM r).s, .int .i64 (mrM r).e, .int .i64 (mrM r).d, .int .i64 (mrM r).t, .int .i64 (mrM r).q, .int .i64 (mrM r).r], .bool r.isSome]) /\ w'.ownsRow B 210 5 v' (mrL r).length (ncs (mrL r))
theorem MrAns.intro {B : Nat} {r : Option (List Nd × Mc)} {e : Ending} {w' : World} (v' : Value) (h : e = .returned (.tuple #[.agg #[v', .int .i64 (mrM r).p, .int .i64 (mrM r).s, .int .i64 (mrM r).e, .int .i64 (mrM r).d, .int .i64 (mrM r).t, .int .i64 (mrM r).q, .int .i64 (mrM r).r], .bool r.isSome])) (k : w'.ownsRow B 210 5 v' (mrL r).length (ncs (mrL r))) : MrAns B r e w' := ⟨v', h, k⟩
theorem Zjt {l : List Int} {s : ByteArray} (hl : ∀ z ∈ l, 0 <= z /\ z <= 255) : strOfNums l = s <-> l = sb s := by
 constructor
 ·intro h
  rw [<- h, Zi8 hl]
 ·intro h
  rw [h, ZcV]
theorem ZkC (xs : List Nd) (m : Mc) : ∀ z ∈ mpL xs m, 0 <= z /\ z <= 255 := by
 intro z hz
 unfold mpL at hz
 rcases List.mem_append.1 hz with h | h
 ·rw [List.mem_flatMap] at h
  obtain ⟨x, _, hx⟩ := h
  exact ZbO x z hx
 ·exact ZeJ _ z h
theorem ZlP {ns : List Nd} {is : List In} {ds : List Df} {s : ByteArray} {l : List Int} {a at_ : Int} {k k' : Bool} {xs : List Nd} (hl : Zdj (sb s) 7 0 true = (l, a, k)) (hs : sP (sb s) a k = (xs, at_, k')) :
  (sOk (sb s) a k = false -> mrR ns is ds (sb s) = none) /\ (sOk (sb s) a k = true -> Zap xs = true /\ (Za0 ns is ds xs (mcOf l) = false -> mrR ns is ds (sb s) = none) /\ (Za0 ns is ds xs (mcOf l) = true -> (mpR ns is ds xs (mcOf l) = s -> mrR ns is ds (sb s) = some (xs, mcOf l)) /\ (mpR ns is ds xs (mcOf l) ≠ s -> mrR ns is ds (sb s) = none))) := by
 have key := fun ys m => Zj4 (ns := ns) (is := is) (ds := ds) (Zif s) hl ys m
 rw [hs] at key
 refine ⟨fun h => ?_, fun h => ⟨?_, fun hb => ?_, fun hb => ⟨fun e => ?_, fun e => ?_⟩⟩⟩
 ·cases hv : mrR ns is ds (sb s) with
  | none => rfl
  | some p => have := ((key p.1 p.2).1 hv).1.1; rw [h] at this; cases this
 ·unfold sOk at h
  rw [hs] at h
  simp only [Bool.and_eq_true] at h
  exact h.2
 ·cases hv : mrR ns is ds (sb s) with
  | none => rfl
  | some p =>
   obtain ⟨⟨_, h2⟩, h3, h4, _⟩ := (key p.1 p.2).1 hv
   have h2 : xs = p.1 := h2
   rw [<- h2, h3, hb] at h4
   cases h4
 ·have eR : mpR ns is ds xs (mcOf l) = strOfNums (mpL xs (mcOf l)) := by unfold mpR; rw [if_pos hb]
  rw [eR, Zjt (ZkC _ _)] at e
  exact (key xs (mcOf l)).2 ⟨⟨h, rfl⟩, rfl, hb, e⟩
 ·have eR : mpR ns is ds xs (mcOf l) = strOfNums (mpL xs (mcOf l)) := by unfold mpR; rw [if_pos hb]
  cases hv : mrR ns is ds (sb s) with
  | none => rfl
  | some p =>
   obtain ⟨⟨_, h2⟩, h3, _, h5⟩ := (key p.1 p.2).1 hv
   have h2 : xs = p.1 := h2
   rw [<- h2, h3] at h5
   exact absurd (by rw [eR, Zjt (ZkC _ _)]; exact h5) e
theorem ZhA (v1 v2 v3 : Value) (ns : List Nd) (is : List In) (ds : List Df) (s : ByteArray) (w : World) (R1 : NRow w v1 ns) (R2 : InRow w v2 is) (R3 : DfRow w v3 ds) (hs : s.size <= 140737488351232) :
  Calls Tryz.prog 146 #[.agg #[v1, v2, v3], .string s] w fun e w' => MrAns w.heap.size (mrR ns is ds (sb s)) e w' /\ Below w.heap.size w w' := by
 obtain ⟨a1, c1, rfl⟩ := R1.small
 obtain ⟨a2, c2, rfl⟩ := R2.small
 obtain ⟨a3, c3, rfl⟩ := R3.small
 obtain ⟨hB2, z0, z1⟩ := Zat w (Obj.cells #[.slice a1 ns.length c1, .slice a2 is.length c2, .slice a3 ds.length c3] 44) (Obj.cells #[.slice none 0 0, .int .i64 0, .int .i64 0, .int .i64 0, .int .i64 0, .int .i64 0, .int .i64 0, .int .i64 0] 81)
 go_enter Tryz.func146, Tryz.ntmps146
 go_wp2_with (first
  | (refine Za7 _ rfl _ 9 162 5 rfl Tryz.underlying9 Tryz.underlying162 Tryz.underlying5 s rfl ?_; intro cap w2 g0 g1 g2 g3))
 obtain ⟨W2, hW2⟩ : ∃ W2, (w.alloc (Obj.cells #[.slice a1 ns.length c1, .slice a2 is.length c2, .slice a3 ds.length c3] 44)).alloc (Obj.cells #[.slice none 0 0, .int .i64 0, .int .i64 0, .int .i64 0, .int .i64 0, .int .i64 0, .int .i64 0, .int .i64 0] 81) = W2 := ⟨_, rfl⟩
 have hs2 : W2.heap.size = w.heap.size + 1 + 1 := by rw [<- hW2]; simp
 rw [hW2] at hB2 z0 z1 g1 g2 g3
 have RR := Zbj (w := W2) hs g0 g1 g3
 rw [hs2] at RR g3
 have z0 := (g2.block _ (by omega) (by simp)).trans z0
 have z1 := (g2.block _ (by omega) (by simp)).trans z1
 have B2 : Below w.heap.size w w2 := hB2.grown g2 hB2.size (fun k hk => by cases hk)
 clear hs2 g1 g2 hW2 hB2
 have B3 : Below w2.heap.size w2 (w2.alloc (Obj.cells #[.slice (some ⟨w.heap.size + 1 + 1, 0, none⟩) s.size cap, .int .i64 0, .bool true] 197)) := (Below.refl _ _).alloc (Nat.le_refl _) _
 have hC0 : C8 (w2.alloc (Obj.cells #[.slice (some ⟨w.heap.size + 1 + 1, 0, none⟩) s.size cap, .int .i64 0, .bool true] 197)) w2.heap.size (.slice (some ⟨w.heap.size + 1 + 1, 0, none⟩) s.size cap) 0 true := heap_alloc_new _ _
 have x0 := (B3.block w.heap.size (by omega)).trans z0
 have x1 := (B3.block (w.heap.size + 1) (by omega)).trans z1
 have B03 := B2.trans (B3.mono B2.size)
 have R0 := RR.below B3
 have s3 : w2.heap.size + 1 <= (w2.alloc (Obj.cells #[.slice (some ⟨w.heap.size + 1 + 1, 0, none⟩) s.size cap, .int .i64 0, .bool true] 197)).heap.size := by simp
 obtain ⟨WB, hWB⟩ : ∃ WB, w2.alloc (Obj.cells #[.slice (some ⟨w.heap.size + 1 + 1, 0, none⟩) s.size cap, .int .i64 0, .bool true] 197) = WB := ⟨_, rfl⟩
 rw [hWB] at B3 hC0 x0 x1 B03 R0 s3 ⊢
 have hwC : w.heap.size + 1 < w2.heap.size := by omega
 obtain ⟨C, hCeq⟩ : ∃ C, Hid (w2.heap.size = C) := ⟨_, rfl⟩
 rw [hCeq.out] at hC0 s3 hwC ⊢
 clear hCeq hWB B3 z0 z1 B2 RR g3
 have G0 : WB.grownBy WB (some C) := ⟨rfl, rfl, rfl, Nat.le_refl _, fun _ _ _ => rfl⟩
 obtain ⟨y1, a1', k1, e1, y10, y11, a10, a11, HC1⟩ := ZaI C (.slice (some ⟨w.heap.size + 1 + 1, 0, none⟩) s.size cap) (sb s) 0 true WB R0 hC0 (by omega) (by omega)
 refine HC1.mono ?_
 rintro e u1 ⟨rfl, hC1, hg1⟩
 have G1 := Zai G0 hg1
 go_wp2_with (refine Zah rfl 81 _ _ rfl u1.heap.size (mcs (.slice none 0 0) (⟨y1, 0, 0, 0, 0, 0, 0⟩ : Mc)) rfl rfl 81 _ (heap_alloc_new _ _) Zmc rfl (ZbK _ _ _ _) ?_)
 intro n1 hM1 hb1 hsx
 clear hsx
 have hB1 : Below u1.heap.size u1 n1 := ((Below.refl _ _).alloc (Nat.le_refl _) _).trans hb1
 have hC1 := hC1.below hB1
 have G1 := Zai G1 (Zcw hB1 (some C))
 have hMB : WB.heap.size <= u1.heap.size := hg1.size
 have lC : C < WB.heap.size := by omega
 obtain ⟨bm, hbm⟩ : ∃ bm, Hid (u1.heap.size = bm) := ⟨_, rfl⟩
 rw [hbm.out] at hM1 hMB ⊢
 clear hbm hB1 hb1 hg1 HC1
 obtain ⟨y2, a2', k2, e2, y20, y21, a20, a21, HC2⟩ := ZaI C (.slice (some ⟨w.heap.size + 1 + 1, 0, none⟩) s.size cap) (sb s) a1' k1 n1 (R0.cur hC0 G1) hC1 a10 a11
 have lm2 := (bl hM1)
 go_wp2_with fail
 refine HC2.mono ?_
 rintro e u2 ⟨rfl, hC2, hg2⟩
 have G2 := Zai G1 hg2
 have hM2 := (hg2.block bm lm2 (by simp; omega)).trans hM1
 have cm2 : u2.cell? ⟨bm, 5, none⟩ = some (.int .i64 0) := cell_of_row _ _ 5 _ _ _ hM2
 have fm2 : u2.frozen? ⟨bm, 5, none⟩ = false := frozen_of_row _ _ 5 _ _ hM2
 have hM2 : (u2.setCell ⟨bm, 5, none⟩ (.int .i64 y2)).heap[bm]? = some (.cells (mcs (.slice none 0 0) (⟨y1, 0, 0, 0, y2, 0, 0⟩ : Mc)) 81 (0, 0)) := heap_setCell_same u2 bm 5 _ _ (.int .i64 y2) hM2
 have hC2 : C8 (u2.setCell ⟨bm, 5, none⟩ (.int .i64 y2)) C (.slice (some ⟨w.heap.size + 1 + 1, 0, none⟩) s.size cap) a2' k2 := (heap_setCell_other u2 ⟨bm, 5, none⟩ C (.int .i64 y2) (by show C ≠ bm; omega)).trans hC2
 have G2 := ZbL G2 hMB (Zag u2 bm 5 (.int .i64 y2))
 clear HC2 hg2
 obtain ⟨n2, hn2⟩ : ∃ n2, u2.setCell ⟨bm, 5, none⟩ (.int .i64 y2) = n2 := ⟨_, rfl⟩
 rw [hn2] at hM2 hC2 G2
 obtain ⟨y3, a3', k3, e3, y30, y31, a30, a31, HC3⟩ := ZaI C (.slice (some ⟨w.heap.size + 1 + 1, 0, none⟩) s.size cap) (sb s) a2' k2 n2 (R0.cur hC0 G2) hC2 a20 a21
 have lm3 := (bl hM2)
 go_wp2_with fail
 refine HC3.mono ?_
 rintro e u3 ⟨rfl, hC3, hg3⟩
 have G3 := Zai G2 hg3
 have hM3 := (hg3.block bm lm3 (by simp; omega)).trans hM2
 have cm3 : u3.cell? ⟨bm, 6, none⟩ = some (.int .i64 0) := cell_of_row _ _ 6 _ _ _ hM3
 have fm3 : u3.frozen? ⟨bm, 6, none⟩ = false := frozen_of_row _ _ 6 _ _ hM3
 have hM3 : (u3.setCell ⟨bm, 6, none⟩ (.int .i64 y3)).heap[bm]? = some (.cells (mcs (.slice none 0 0) (⟨y1, 0, 0, 0, y2, y3, 0⟩ : Mc)) 81 (0, 0)) := heap_setCell_same u3 bm 6 _ _ (.int .i64 y3) hM3
 have hC3 : C8 (u3.setCell ⟨bm, 6, none⟩ (.int .i64 y3)) C (.slice (some ⟨w.heap.size + 1 + 1, 0, none⟩) s.size cap) a3' k3 := (heap_setCell_other u3 ⟨bm, 6, none⟩ C (.int .i64 y3) (by show C ≠ bm; omega)).trans hC3
 have G3 := ZbL G3 hMB (Zag u3 bm 6 (.int .i64 y3))
 clear HC3 hg3
 obtain ⟨n3, hn3⟩ : ∃ n3, u3.setCell ⟨bm, 6, none⟩ (.int .i64 y3) = n3 := ⟨_, rfl⟩
 rw [hn3] at hM3 hC3 G3
 obtain ⟨y4, a4', k4, e4, y40, y41, a40, a41, HC4⟩ := ZaI C (.slice (some ⟨w.heap.size + 1 + 1, 0, none⟩) s.size cap) (sb s) a3' k3 n3 (R0.cur hC0 G3) hC3 a30 a31
 have lm4 := (bl hM3)
 go_wp2_with fail
 refine HC4.mono ?_
 rintro e u4 ⟨rfl, hC4, hg4⟩
 have G4 := Zai G3 hg4
 have hM4 := (hg4.block bm lm4 (by simp; omega)).trans hM3
 have cm4 : u4.cell? ⟨bm, 2, none⟩ = some (.int .i64 0) := cell_of_row _ _ 2 _ _ _ hM4
 have fm4 : u4.frozen? ⟨bm, 2, none⟩ = false := frozen_of_row _ _ 2 _ _ hM4
 have hM4 : (u4.setCell ⟨bm, 2, none⟩ (.int .i64 y4)).heap[bm]? = some (.cells (mcs (.slice none 0 0) (⟨y1, y4, 0, 0, y2, y3, 0⟩ : Mc)) 81 (0, 0)) := heap_setCell_same u4 bm 2 _ _ (.int .i64 y4) hM4
 have hC4 : C8 (u4.setCell ⟨bm, 2, none⟩ (.int .i64 y4)) C (.slice (some ⟨w.heap.size + 1 + 1, 0, none⟩) s.size cap) a4' k4 := (heap_setCell_other u4 ⟨bm, 2, none⟩ C (.int .i64 y4) (by show C ≠ bm; omega)).trans hC4
 have G4 := ZbL G4 hMB (Zag u4 bm 2 (.int .i64 y4))
 clear HC4 hg4
 obtain ⟨n4, hn4⟩ : ∃ n4, u4.setCell ⟨bm, 2, none⟩ (.int .i64 y4) = n4 := ⟨_, rfl⟩
 rw [hn4] at hM4 hC4 G4
 obtain ⟨y5, a5', k5, e5, y50, y51, a50, a51, HC5⟩ := ZaI C (.slice (some ⟨w.heap.size + 1 + 1, 0, none⟩) s.size cap) (sb s) a4' k4 n4 (R0.cur hC0 G4) hC4 a40 a41
 have lm5 := (bl hM4)
 go_wp2_with fail
 refine HC5.mono ?_
 rintro e u5 ⟨rfl, hC5, hg5⟩
 have G5 := Zai G4 hg5
 have hM5 := (hg5.block bm lm5 (by simp; omega)).trans hM4
 have cm5 : u5.cell? ⟨bm, 3, none⟩ = some (.int .i64 0) := cell_of_row _ _ 3 _ _ _ hM5
 have fm5 : u5.frozen? ⟨bm, 3, none⟩ = false := frozen_of_row _ _ 3 _ _ hM5
 have hM5 : (u5.setCell ⟨bm, 3, none⟩ (.int .i64 y5)).heap[bm]? = some (.cells (mcs (.slice none 0 0) (⟨y1, y4, y5, 0, y2, y3, 0⟩ : Mc)) 81 (0, 0)) := heap_setCell_same u5 bm 3 _ _ (.int .i64 y5) hM5
 have hC5 : C8 (u5.setCell ⟨bm, 3, none⟩ (.int .i64 y5)) C (.slice (some ⟨w.heap.size + 1 + 1, 0, none⟩) s.size cap) a5' k5 := (heap_setCell_other u5 ⟨bm, 3, none⟩ C (.int .i64 y5) (by show C ≠ bm; omega)).trans hC5
 have G5 := ZbL G5 hMB (Zag u5 bm 3 (.int .i64 y5))
 clear HC5 hg5
 obtain ⟨n5, hn5⟩ : ∃ n5, u5.setCell ⟨bm, 3, none⟩ (.int .i64 y5) = n5 := ⟨_, rfl⟩
 rw [hn5] at hM5 hC5 G5
 obtain ⟨y6, a6', k6, e6, y60, y61, a60, a61, HC6⟩ := ZaI C (.slice (some ⟨w.heap.size + 1 + 1, 0, none⟩) s.size cap) (sb s) a5' k5 n5 (R0.cur hC0 G5) hC5 a50 a51
 have lm6 := (bl hM5)
 go_wp2_with fail
 refine HC6.mono ?_
 rintro e u6 ⟨rfl, hC6, hg6⟩
 have G6 := Zai G5 hg6
 have hM6 := (hg6.block bm lm6 (by simp; omega)).trans hM5
 have cm6 : u6.cell? ⟨bm, 4, none⟩ = some (.int .i64 0) := cell_of_row _ _ 4 _ _ _ hM6
 have fm6 : u6.frozen? ⟨bm, 4, none⟩ = false := frozen_of_row _ _ 4 _ _ hM6
 have hM6 : (u6.setCell ⟨bm, 4, none⟩ (.int .i64 y6)).heap[bm]? = some (.cells (mcs (.slice none 0 0) (⟨y1, y4, y5, y6, y2, y3, 0⟩ : Mc)) 81 (0, 0)) := heap_setCell_same u6 bm 4 _ _ (.int .i64 y6) hM6
 have hC6 : C8 (u6.setCell ⟨bm, 4, none⟩ (.int .i64 y6)) C (.slice (some ⟨w.heap.size + 1 + 1, 0, none⟩) s.size cap) a6' k6 := (heap_setCell_other u6 ⟨bm, 4, none⟩ C (.int .i64 y6) (by show C ≠ bm; omega)).trans hC6
 have G6 := ZbL G6 hMB (Zag u6 bm 4 (.int .i64 y6))
 clear HC6 hg6
 obtain ⟨n6, hn6⟩ : ∃ n6, u6.setCell ⟨bm, 4, none⟩ (.int .i64 y6) = n6 := ⟨_, rfl⟩
 rw [hn6] at hM6 hC6 G6
 obtain ⟨y7, a7', k7, e7, y70, y71, a70, a71, HC7⟩ := ZaI C (.slice (some ⟨w.heap.size + 1 + 1, 0, none⟩) s.size cap) (sb s) a6' k6 n6 (R0.cur hC0 G6) hC6 a60 a61
 have lm7 := (bl hM6)
 go_wp2_with fail
 refine HC7.mono ?_
 rintro e u7 ⟨rfl, hC7, hg7⟩
 have G7 := Zai G6 hg7
 have hM7 := (hg7.block bm lm7 (by simp; omega)).trans hM6
 have cm7 : u7.cell? ⟨bm, 7, none⟩ = some (.int .i64 0) := cell_of_row _ _ 7 _ _ _ hM7
 have fm7 : u7.frozen? ⟨bm, 7, none⟩ = false := frozen_of_row _ _ 7 _ _ hM7
 have hM7 : (u7.setCell ⟨bm, 7, none⟩ (.int .i64 y7)).heap[bm]? = some (.cells (mcs (.slice none 0 0) (⟨y1, y4, y5, y6, y2, y3, y7⟩ : Mc)) 81 (0, 0)) := heap_setCell_same u7 bm 7 _ _ (.int .i64 y7) hM7
 have hC7 : C8 (u7.setCell ⟨bm, 7, none⟩ (.int .i64 y7)) C (.slice (some ⟨w.heap.size + 1 + 1, 0, none⟩) s.size cap) a7' k7 := (heap_setCell_other u7 ⟨bm, 7, none⟩ C (.int .i64 y7) (by show C ≠ bm; omega)).trans hC7
 have G7 := ZbL G7 hMB (Zag u7 bm 7 (.int .i64 y7))
 clear HC7 hg7
 obtain ⟨n7, hn7⟩ : ∃ n7, u7.setCell ⟨bm, 7, none⟩ (.int .i64 y7) = n7 := ⟨_, rfl⟩
 rw [hn7] at hM7 hC7 G7
 have HK : Hid (Zdj (sb s) 7 0 true = ([y1, y2, y3, y4, y5, y6, y7], a7', k7)) := by unfold Hid; simp only [Zdj]; rw [e1]; dsimp only; rw [e2]; dsimp only; rw [e3]; dsimp only; rw [e4]; dsimp only; rw [e5]; dsimp only; rw [e6]; dsimp only; rw [e7]
 clear e1 e2 e3 e4 e5 e6 e7
 go_wp2_with fail
 have lm8 := (bl hM7)
 have HR := ZdQ C (.slice (some ⟨w.heap.size + 1 + 1, 0, none⟩) s.size cap) (sb s) a7' k7 n7 (R0.cur hC0 G7) hC7 a70 a71
 obtain ⟨p, hp⟩ : ∃ p, Hid (sP (sb s) a7' k7 = p) := ⟨_, rfl⟩
 obtain ⟨xs, at_, kk⟩ := p
 obtain ⟨b, hb⟩ : ∃ b, Hid (sOk (sb s) a7' k7 = b) := ⟨_, rfl⟩
 have HV := ZlP (ns := ns) (is := is) (ds := ds) HK.out hp.out
 rw [hb.out, show mcOf [y1, y2, y3, y4, y5, y6, y7] = (⟨y1, y4, y5, y6, y2, y3, y7⟩ : Mc) from rfl] at HV
 rw [hp.out, hb.out] at HR
 dsimp only at HR
 refine HR.mono ?_
 rintro e n8 ⟨vs, rfl, o8, hC8, hg8, hz8⟩
 obtain ⟨av, cv, rfl⟩ := Zae o8
 have G8 := Zai G7 hg8
 have hM8 := (hg8.block bm lm8 (by simp; omega)).trans hM7
 have cm8 : n8.cell? ⟨bm, 0, none⟩ = some (.slice none 0 0) := cell_of_row _ _ 0 _ _ _ hM8
 have fm8 : n8.frozen? ⟨bm, 0, none⟩ = false := frozen_of_row _ _ 0 _ _ hM8
 have hM9 : (n8.setCell ⟨bm, 0, none⟩ (.slice av xs.length cv)).heap[bm]? = some (.cells #[.slice av xs.length cv, .int .i64 y1, .int .i64 y4, .int .i64 y5, .int .i64 y6, .int .i64 y2, .int .i64 y3, .int .i64 y7] 81 (0, 0)) := heap_setCell_same n8 bm 0 _ _ (.slice av xs.length cv) hM8
 have hC9 : C8 (n8.setCell ⟨bm, 0, none⟩ (.slice av xs.length cv)) C (.slice (some ⟨w.heap.size + 1 + 1, 0, none⟩) s.size cap) at_ b := (heap_setCell_other n8 ⟨bm, 0, none⟩ C (.slice av xs.length cv) (by show C ≠ bm; omega)).trans hC8
 have G9 := ZbL G8 hMB (Zag n8 bm 0 (.slice av xs.length cv))
 have o9 := ownsRow_setCell_below o8 (a := ⟨bm, 0, none⟩) (by show bm < n7.heap.size; exact lm8) (.slice av xs.length cv)
 have x09 := (G9.block w.heap.size (by omega) (by simp; omega)).trans x0
 have x19 := (G9.block (w.heap.size + 1) (by omega) (by simp; omega)).trans x1
 have B9 : Below w.heap.size w (n8.setCell ⟨bm, 0, none⟩ (.slice av xs.length cv)) := B03.grown G9 B03.size (fun k hk => by simp at hk; omega)
 have cok : (n8.setCell ⟨bm, 0, none⟩ (.slice av xs.length cv)).cell? ⟨C, 2, none⟩ = some (.bool b) := cell_of_row _ _ 2 _ _ _ hC9
 have hB7 : w.heap.size + 1 < n7.heap.size := by omega
 clear HR hC8 hg8 G8 hM8 o8 G9 hC9 HK hp hb hz8
 obtain ⟨n9, hn9⟩ : ∃ n9, n8.setCell ⟨bm, 0, none⟩ (.slice av xs.length cv) = n9 := ⟨_, rfl⟩
 rw [hn9] at hM9 o9 x09 x19 B9 cok
 cases b with
 | false =>
  have HA : Hid (mrR ns is ds (sb s) = none) := HV.1 rfl
  go_wp2_with (refine Zah rfl 81 _ _ rfl (w.heap.size + 1) #[.slice none 0 0, .int .i64 0, .int .i64 0, .int .i64 0, .int .i64 0, .int .i64 0, .int .i64 0, .int .i64 0] rfl rfl 81 _ x19 Zmc rfl (by simp [Value.oneCell']) ?_)
  intro wF hF hbF hsF
  have BF := B9.trans (hbF.mono (Nat.le_succ _))
  clear hsF
  go_wp2
  refine bodyPost_ret (Zab rfl _ _ (w.heap.size + 1) 81 _ (0, 0) _ rfl hF Tryz.underlying81 rfl Zmc) rfl ⟨MrAns.intro (.slice none 0 0) ?_ ?_, BF⟩
  ·rw [HA.out]; rfl
  ·rw [HA.out]; exact World.ownsRow_nil _ _ _ _
 | true =>
  obtain ⟨hpool, hmno, hmyes⟩ := HV.2 rfl
  have hlen := ZaD hpool
  have R9 : NRow n9 (.slice av xs.length cv) xs := NRow.of_own o9 (by omega) (Zbx (ZbC hpool))
  have HP := Zhh _ _ _ _ ns is ds xs (⟨y1, y4, y5, y6, y2, y3, y7⟩ : Mc) n9 (R1.below B9) (R2.below B9) (R3.below B9) R9
  obtain ⟨tx, htx⟩ : ∃ tx, Hid (mpR ns is ds xs (⟨y1, y4, y5, y6, y2, y3, y7⟩ : Mc) = tx) := ⟨_, rfl⟩
  obtain ⟨tb, htb⟩ : ∃ tb, Hid (Za0 ns is ds xs (⟨y1, y4, y5, y6, y2, y3, y7⟩ : Mc) = tb) := ⟨_, rfl⟩
  rw [htx.out, htb.out] at HP
  rw [htx.out, htb.out] at hmyes
  rw [htb.out] at hmno
  clear HV htx htb
  go_wp2_with (first
   | (refine wpList_load_row rfl 44 _ rfl w.heap.size rfl 44 #[.slice a1 ns.length c1, .slice a2 is.length c2, .slice a3 ds.length c3] (0, 0) _ x09 Tryz.underlying44 rfl ZmB ?_)
   | (refine wpList_load_row rfl 81 _ rfl bm rfl 81 #[.slice av xs.length cv, .int .i64 y1, .int .i64 y4, .int .i64 y5, .int .i64 y6, .int .i64 y2, .int .i64 y3, .int .i64 y7] (0, 0) _ hM9 Tryz.underlying81 rfl Zmc ?_))
  refine HP.mono ?_
  rintro e w10 ⟨rfl, hb10⟩
  have x10 := (bb x19 hb10)
  have m10 := (bb hM9 hb10)
  have o10 := Zad o9 hb10
  have B10 := B9.trans (hb10.mono B9.size)
  clear HP hb10 x09 x19 hM9 o9 R9 cok
  cases tb with
  | false =>
   have HA : Hid (mrR ns is ds (sb s) = none) := hmno rfl
   go_wp2_with (refine Zah rfl 81 _ _ rfl (w.heap.size + 1) #[.slice none 0 0, .int .i64 0, .int .i64 0, .int .i64 0, .int .i64 0, .int .i64 0, .int .i64 0, .int .i64 0] rfl rfl 81 _ x10 Zmc rfl (by simp [Value.oneCell']) ?_)
   intro wF hF hbF hsF
   have BF := B10.trans (hbF.mono (Nat.le_succ _))
   clear hsF
   go_wp2
   refine bodyPost_ret (Zab rfl _ _ (w.heap.size + 1) 81 _ (0, 0) _ rfl hF Tryz.underlying81 rfl Zmc) rfl ⟨MrAns.intro (.slice none 0 0) ?_ ?_, BF⟩
   ·rw [HA.out]; rfl
   ·rw [HA.out]; exact World.ownsRow_nil _ _ _ _
  | true =>
   by_cases heq : tx = s
   ·have HA : Hid (mrR ns is ds (sb s) = some (xs, (⟨y1, y4, y5, y6, y2, y3, y7⟩ : Mc))) := (hmyes rfl).1 heq
    go_wp2_with (first
     | (refine wpList_load_row rfl 81 _ rfl bm rfl 81 #[.slice av xs.length cv, .int .i64 y1, .int .i64 y4, .int .i64 y5, .int .i64 y6, .int .i64 y2, .int .i64 y3, .int .i64 y7] (0, 0) _ m10 Tryz.underlying81 rfl Zmc ?_)
     | (refine Zac rfl 81 _ _ rfl (w.heap.size + 1) #[.slice av xs.length cv, .int .i64 y1, .int .i64 y4, .int .i64 y5, .int .i64 y6, .int .i64 y2, .int .i64 y3, .int .i64 y7] rfl rfl 81 _ x10 Zmc rfl (by simp [Value.oneCell']) ?_))
    intro wF hF hbF hsF hkF
    have BF := B10.trans (hbF.mono (Nat.le_succ _))
    have oF := Zaf (Zak o10 hB7 hkF) (by omega : w.heap.size <= n7.heap.size)
    clear hsF hkF
    go_wp2
    refine bodyPost_ret (Zab rfl _ _ (w.heap.size + 1) 81 _ (0, 0) _ rfl hF Tryz.underlying81 rfl Zmc) rfl ⟨MrAns.intro (.slice av xs.length cv) ?_ ?_, BF⟩
    ·rw [HA.out]; rfl
    ·rw [HA.out]; exact oF
   ·have hl2 : (tx.toList == s.toList) = false := by
     rw [<- Bool.not_eq_true, beq_iff_eq, ByteArray.toList_eq, ByteArray.toList_eq]
     intro h
     apply heq
     cases tx
     cases s
     congr 1
     exact Array.toList_inj.1 h
    have HA : Hid (mrR ns is ds (sb s) = none) := (hmyes rfl).2 heq
    go_wp2_with (refine Zah rfl 81 _ _ rfl (w.heap.size + 1) #[.slice none 0 0, .int .i64 0, .int .i64 0, .int .i64 0, .int .i64 0, .int .i64 0, .int .i64 0, .int .i64 0] rfl rfl 81 _ x10 Zmc rfl (by simp [Value.oneCell']) ?_)
    intro wF hF hbF hsF
    have BF := B10.trans (hbF.mono (Nat.le_succ _))
    clear hsF
    go_wp2
    refine bodyPost_ret (Zab rfl _ _ (w.heap.size + 1) 81 _ (0, 0) _ rfl hF Tryz.underlying81 rfl Zmc) rfl ⟨MrAns.intro (.slice none 0 0) ?_ ?_, BF⟩
    ·rw [HA.out]; rfl
    ·rw [HA.out]; exact World.ownsRow_nil _ _ _ _
end Go.Proofs.YtfmafkebddojjaaGreatDoor
