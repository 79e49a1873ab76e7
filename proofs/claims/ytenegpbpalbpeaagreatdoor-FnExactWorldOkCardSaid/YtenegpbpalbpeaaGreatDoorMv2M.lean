/-
  Texts that stood by themselves, laid into one.
-/
import Derived.Test.YtenegpbpalbpeaaGreatDoorRValM
import Derived.Deep.RegionHeld3
import Derived.RangeFuncNested
import Derived.RangeFuncBound
import Derived.RangeFuncCalls
import Derived.RangeFuncLeaves
import Derived.RangeFuncBox
import Derived.Shelf.Abstract
import Derived.Shelf.RegionOpen
import Derived.WalkKit
import Derived.OwnWalkIn
import Derived.TacticsInMore
import Derived.LoopNIn
import Derived.LoopIn
import Derived.Test.YtenegpbpalbpeaaGreatDoorRKeptM
import Derived.Test.YtenegpbpalbpeaaGreatDoorRcMath2M
import Derived.Deep.AppendLies
/-
  The contract of (impl.reader).value: a value is read from its bytes, or there is a mistake. Bounds of the form alone.
-/
namespace Go.Proofs.YtenegpbpalbpeaaGreatDoor
open Go.RowKit
theorem Lies.le {zs L : List Int} {a b : Int} (h : Lies zs a L b) (hl : L ≠ []) : b ≤ zs.length := by
  obtain ⟨h1, h2, r, h3⟩ := h
  have := congrArg List.length h3
  have hp := List.length_pos_iff.2 hl
  rw [List.length_drop, List.length_append] at this
  omega
theorem encI_ne {x : Int} (h : 0 ≤ x) : encI x ≠ [] := by
  rw [encI_pos x h]
  intro e
  rcases Int.lt_or_le x 128 with h1 | h1
  · rw [enc_last 8 x h1] at e; cases e
  · rw [enc_more 8 x (by omega)] at e; cases e
theorem rdP_le {zs : List Int} {xs : List Nd} {a b : Int} (hz : ∀ z ∈ zs, 0 ≤ z ∧ z ≤ 255) (h : rdP zs a = some (xs, b)) : b ≤ zs.length ∧ poolB xs = true := by
  unfold rdP at h
  rw [Option.bind_eq_some_iff] at h
  obtain ⟨⟨n, a1⟩, h1, h2⟩ := h
  split at h2
  · cases h2
  rw [Option.bind_eq_some_iff] at h2
  obtain ⟨⟨ys, c⟩, h3, h4⟩ := h2
  split at h4
  · rename_i hp
    cases h4
    obtain ⟨L1, hn⟩ := rd1_lies hz h1
    obtain ⟨L2, hl⟩ := rdNds_lies hz n.toNat a1 _ xs (by have := L1.1; have := L1.2.1; omega) h3
    exact ⟨(L1.append L2).le (by intro e; exact encI_ne hn (List.append_eq_nil_iff.1 e).1), hp⟩
  · cases h4
theorem vr_none {zs : List Int} (h : rdP zs 0 = none) : vrR zs = none := by unfold vrR; rw [h]; rfl
theorem vr_some {zs : List Int} {xs : List Nd} {b : Int} (h : rdP zs 0 = some (xs, b)) : vrR zs = if b = zs.length ∧ xs ≠ [] ∧ allR xs [(xs.length : Int) - 1] = true then some xs else none := by unfold vrR; rw [h]; rfl
def VAns (B : Nat) (zs : List Int) (e : Ending) (w' : World) : Prop :=
  (∃ xs vs, vrR zs = some xs ∧ e = .returned (.tuple #[.agg #[vs], .nilIface]) ∧ w'.ownsRow B 178 5 vs xs.length (ncs xs)) ∨ (vrR zs = none ∧ ∃ ao n c p, e = .returned (.tuple #[.agg #[.slice ao n c], badV p]))
set_option maxRecDepth 100000 in
set_option maxHeartbeats 3200000 in
theorem rvalue_any (v : Value) (zs : List Int) (W0 w : World) (P : Nat) (R : Row W0 v zs) (hb : Below W0.heap.size W0 w) (hP : W0.heap.size ≤ P) (h1 : One w P 0) :
    Calls Tryz.prog 183 #[.agg #[v, .pointer (some ⟨P, 0, none⟩)]] w fun e w' => w.grownBy w' (some P) ∧ VAns w.heap.size zs e w' := by
  obtain ⟨ao, cap, rfl, _, hml, hz, _⟩ := id R
  have hbs := hb.size
  have hPl := h1.lt
  obtain ⟨hB2, x0, x1⟩ := two_boxes w (Obj.cells #[Value.slice ao zs.length cap, Value.pointer (some ⟨P, 0, none⟩)] 236) (Obj.cells #[.slice none 0 0] 40)
  go_enter Tryz.func183, Tryz.ntmps183
  go_wp2_with fail
  obtain ⟨W2, hW2⟩ : ∃ W2, (w.alloc (Obj.cells #[Value.slice ao zs.length cap, Value.pointer (some ⟨P, 0, none⟩)] 236)).alloc (Obj.cells #[.slice none 0 0] 40) = W2 := ⟨_, rfl⟩
  rw [hW2] at hB2 x0 x1 ⊢
  have hl1 := (Array.getElem?_eq_some_iff.1 x1).1
  refine (rnodes_any _ zs W0 W2 P 0 R (hb.trans (hB2.mono hbs)) hP (h1.below hB2 hPl)).mono ?_
  rintro e w1 ⟨hgr, hans⟩
  have x0 := (hgr.block _ (by omega) (by simp; omega)).trans x0
  have x1 := (hgr.block _ (by omega) (by simp; omega)).trans x1
  have hG1 : w.grownBy w1 (some P) := grown_trans (grown_below hB2 _) hgr
  have hs1 := hgr.size
  rcases hans with ⟨xs, b, vs, a1, rfl, a3, a4⟩ | ⟨a1, ⟨p, rfl⟩, q, a3⟩
  · obtain ⟨hbl, hp⟩ := rdP_le hz a1
    have hlen := poolB_len hp
    obtain ⟨av, cv, rfl⟩ := own_form a3
    have HV : Hid (vrR zs = if b = zs.length ∧ xs ≠ [] ∧ allR xs [(xs.length : Int) - 1] = true then some xs else none) := vr_some a1
    clear hW2 hgr
    have hs2 : (W2.heap.size : Nat) ≤ w1.heap.size := hs1
    have B1 : Below w1.heap.size w1 (w1.alloc (Obj.cells #[.slice av xs.length cv] 40)) := (Below.refl _ _).alloc (Nat.le_refl _) _
    have y0 := (B1.block _ (by omega)).trans x0
    have y1 := (B1.block _ (by omega)).trans x1
    have r0 : (w1.alloc (Obj.cells #[.slice av xs.length cv] 40)).cell? ⟨w.heap.size + 1, 0, none⟩ = some (.slice none 0 0) := cell_of_row (w1.alloc (Obj.cells #[.slice av xs.length cv] 40)) _ 0 _ _ _ y1
    have rf : (w1.alloc (Obj.cells #[.slice av xs.length cv] 40)).frozen? ⟨w.heap.size + 1, 0, none⟩ = false := frozen_of_row (w1.alloc (Obj.cells #[.slice av xs.length cv] 40)) _ 0 _ _ y1
    have hset : ((w1.alloc (Obj.cells #[.slice av xs.length cv] 40)).setCell ⟨w.heap.size + 1, 0, none⟩ (.slice none 0 0)).heap[w.heap.size + 1]? = some (.cells #[.slice none 0 0] 40 (0, 0)) := heap_setCell_same (w1.alloc (Obj.cells #[.slice av xs.length cv] 40)) (w.heap.size + 1) 0 _ _ (.slice none 0 0) y1
    have hbset : Below (w.heap.size + 1) (w1.alloc (Obj.cells #[.slice av xs.length cv] 40)) ((w1.alloc (Obj.cells #[.slice av xs.length cv] 40)).setCell ⟨w.heap.size + 1, 0, none⟩ (.slice none 0 0)) := (Below.refl _ _).setCell (p := ⟨w.heap.size + 1, 0, none⟩) (Nat.le_refl _) _
    have y4 : (w1.alloc (Obj.cells #[.slice av xs.length cv] 40)).heap[w1.heap.size]? = some (.cells #[.slice av xs.length cv] 40 (0, 0)) := heap_alloc_new _ _
    by_cases hxe : xs = []
    · have HN : Hid (vrR zs = none) := by unfold Hid; rw [HV.out, if_neg]; intro h; exact h.2.1 hxe
      have h0 : (xs.length : Int) - 1 < 0 := by rw [hxe]; simp
      clear hxe
      go_wp2
      exact bodyPost_ret (results_row_tmp rfl _ _ (w.heap.size + 1) 40 _ (0, 0) _ rfl hset Tryz.underlying40 rfl Tryz.sizeP) rfl ⟨grown_then (grown_then hG1 B1 hG1.size) hbset (by omega), Or.inr ⟨HN.out, _, _, _, _, rfl⟩⟩
    · have hpos := List.length_pos_iff.2 hxe
      have h0 : ¬ ((xs.length : Int) - 1 < 0) := by omega
      have BI : Below (w1.alloc (Obj.cells #[.slice av xs.length cv] 40)).heap.size (w1.alloc (Obj.cells #[.slice av xs.length cv] 40)) ((w1.alloc (Obj.cells #[.slice av xs.length cv] 40)).alloc (Obj.cells #[.int .i64 ((xs.length : Int) - 1)] 3)) := (Below.refl _ _).alloc (Nat.le_refl _) _
      have hsA : (w1.alloc (Obj.cells #[.slice av xs.length cv] 40)).heap.size = w1.heap.size + 1 := by simp
      have R3 : NRow w1 (.slice av xs.length cv) xs := NRow.of_own a3 (by omega) (ndok_max (pool_ndok hp))
      have RI : IRow ((w1.alloc (Obj.cells #[.slice av xs.length cv] 40)).alloc (Obj.cells #[.int .i64 ((xs.length : Int) - 1)] 3)) (.slice (some ⟨w1.heap.size + 1, 0, none⟩) 1 1) [(xs.length : Int) - 1] := by
        rw [← hsA]
        exact irow_one (heap_alloc_new _ _)
      have HK := iskept_any _ _ xs [(xs.length : Int) - 1] ((w1.alloc (Obj.cells #[.slice av xs.length cv] 40)).alloc (Obj.cells #[.int .i64 ((xs.length : Int) - 1)] 3)) ((R3.below B1).below BI) RI hp (last_in hxe)
      obtain ⟨kb, hkb⟩ : ∃ kb, Hid (allR xs [(xs.length : Int) - 1] = kb) := ⟨_, rfl⟩
      rw [hkb.out] at HK
      clear RI hsA
      go_wp2_with fail
      refine HK.mono ?_
      rintro e w4 ⟨rfl, hb4⟩
      have B4 : Below (w1.alloc (Obj.cells #[.slice av xs.length cv] 40)).heap.size (w1.alloc (Obj.cells #[.slice av xs.length cv] 40)) w4 := BI.trans (hb4.mono BI.size)
      have B14 : Below w1.heap.size w1 w4 := B1.trans (B4.mono B1.size)
      have z0 := (B14.block _ (by omega)).trans x0
      have z1 := (B14.block _ (by omega)).trans x1
      have z4 := (B4.block _ (Array.getElem?_eq_some_iff.1 y4).1).trans y4
      have zP := a4.below B14 a4.lt
      have zo := own_below a3 B14
      have hG4 : w.grownBy w4 (some P) := grown_then hG1 B14 hG1.size
      have hs4 := B14.size
      clear HK hb4 BI B4 B14 B1 y0 y1 y4 r0 rf hset hbset
      cases kb with
      | false =>
        have HN : Hid (vrR zs = none) := by unfold Hid; rw [HV.out, if_neg]; intro h; rw [hkb.out] at h; exact absurd h.2.2 (by simp)
        have r0 : w4.cell? ⟨w.heap.size + 1, 0, none⟩ = some (.slice none 0 0) := cell_of_row w4 _ 0 _ _ _ z1
        have rf : w4.frozen? ⟨w.heap.size + 1, 0, none⟩ = false := frozen_of_row w4 _ 0 _ _ z1
        have hset : (w4.setCell ⟨w.heap.size + 1, 0, none⟩ (.slice none 0 0)).heap[w.heap.size + 1]? = some (.cells #[.slice none 0 0] 40 (0, 0)) := heap_setCell_same w4 (w.heap.size + 1) 0 _ _ (.slice none 0 0) z1
        have hbset : Below (w.heap.size + 1) w4 (w4.setCell ⟨w.heap.size + 1, 0, none⟩ (.slice none 0 0)) := (Below.refl _ _).setCell (p := ⟨w.heap.size + 1, 0, none⟩) (Nat.le_refl _) _
        go_wp2
        exact bodyPost_ret (results_row_tmp rfl _ _ (w.heap.size + 1) 40 _ (0, 0) _ rfl hset Tryz.underlying40 rfl Tryz.sizeP) rfl ⟨grown_then hG4 hbset (by omega), Or.inr ⟨HN.out, _, _, _, _, rfl⟩⟩
      | true =>
        have HE := rend_any (.slice ao zs.length cap) zs P b w4.drew ⟨ao, cap, rfl⟩ zP
        have q0 : w4.cell? ⟨w.heap.size, 0, none⟩ = some (.slice ao zs.length cap) := cell_of_row w4 _ 0 _ _ _ z0
        have q1 : w4.cell? ⟨w.heap.size, 1, none⟩ = some (.pointer (some ⟨P, 0, none⟩)) := cell_of_row w4 _ 1 _ _ _ z0
        have q4 : w4.cell? ⟨w1.heap.size, 0, none⟩ = some (.slice av xs.length cv) := cell_of_row w4 _ 0 _ _ _ z4
        have r0 : w4.cell? ⟨w.heap.size + 1, 0, none⟩ = some (.slice none 0 0) := cell_of_row w4 _ 0 _ _ _ z1
        have rf : w4.frozen? ⟨w.heap.size + 1, 0, none⟩ = false := frozen_of_row w4 _ 0 _ _ z1
        have SS : ∀ w5 : World, Below w4.heap.size w4 w5 → (w5.heap[w.heap.size + 1]? = some (.cells #[.slice none 0 0] 40 (0, 0))) ∧ (w5.cell? ⟨w1.heap.size, 0, none⟩ = some (.slice av xs.length cv) ∧ w5.cell? ⟨w.heap.size, 0, none⟩ = some (.slice ao zs.length cap) ∧ w5.cell? ⟨w.heap.size, 1, none⟩ = some (.pointer (some ⟨P, 0, none⟩))) := by
          intro w5 hb5
          have l0 := (Array.getElem?_eq_some_iff.1 z0).1
          have l1 := (Array.getElem?_eq_some_iff.1 z1).1
          have l4 := (Array.getElem?_eq_some_iff.1 z4).1
          have p0 := (hb5.block _ l0).trans z0
          have p1 := (hb5.block _ l1).trans z1
          have p4 := (hb5.block _ l4).trans z4
          exact ⟨p1, cell_of_row w5 _ 0 _ _ _ p4, cell_of_row w5 _ 0 _ _ _ p0, cell_of_row w5 _ 1 _ _ _ p0⟩
        have S6 : ∀ w5 : World, (w5.cell? ⟨w1.heap.size, 0, none⟩ = some (.slice av xs.length cv) ∧ w5.cell? ⟨w.heap.size, 0, none⟩ = some (.slice ao zs.length cap) ∧ w5.cell? ⟨w.heap.size, 1, none⟩ = some (.pointer (some ⟨P, 0, none⟩))) → ((w5.setCell ⟨w.heap.size + 1, 0, none⟩ (.slice av xs.length cv)).cell? ⟨w1.heap.size, 0, none⟩ = some (.slice av xs.length cv) ∧ (w5.setCell ⟨w.heap.size + 1, 0, none⟩ (.slice av xs.length cv)).cell? ⟨w.heap.size, 0, none⟩ = some (.slice ao zs.length cap) ∧ (w5.setCell ⟨w.heap.size + 1, 0, none⟩ (.slice av xs.length cv)).cell? ⟨w.heap.size, 1, none⟩ = some (.pointer (some ⟨P, 0, none⟩))) := by
          rintro w5 ⟨a1, a2, a3⟩
          exact ⟨(World.cell?_of_block (heap_setCell_other w5 ⟨w.heap.size + 1, 0, none⟩ _ _ (by show w1.heap.size ≠ w.heap.size + 1; omega))).trans a1, (World.cell?_of_block (heap_setCell_other w5 ⟨w.heap.size + 1, 0, none⟩ _ _ (by show w.heap.size ≠ w.heap.size + 1; omega))).trans a2, (World.cell?_of_block (heap_setCell_other w5 ⟨w.heap.size + 1, 0, none⟩ _ _ (by show w.heap.size ≠ w.heap.size + 1; omega))).trans a3⟩
        have hd4 : Below w4.heap.size w4 w4.drew := (Below.refl _ _).drew
        go_wp2_with fail
        go_region_held (fun w' => w'.cell? ⟨w1.heap.size, 0, none⟩ = some (.slice av xs.length cv) ∧ w'.cell? ⟨w.heap.size, 0, none⟩ = some (.slice ao zs.length cap) ∧ w'.cell? ⟨w.heap.size, 1, none⟩ = some (.pointer (some ⟨P, 0, none⟩))) (first | exact s5 | exact s6 | go_keep) (first
          | (go_at_call 193; refine HE.mono ?_; rintro e w5 ⟨r, rfl, hE, hb5⟩; have s5' := SS w5 (hd4.trans (hb5.mono hd4.size)); have s5 := s5'.2; have r5 : w5.cell? ⟨w.heap.size + 1, 0, none⟩ = some (.slice none 0 0) := cell_of_row w5 _ 0 _ _ _ s5'.1; have rf5 : w5.frozen? ⟨w.heap.size + 1, 0, none⟩ = false := frozen_of_row w5 _ 0 _ _ s5'.1; have s6 := S6 w5 s5))
        all_goals
          have hb45 := hd4.trans (hb5.mono hd4.size)
          have hset : (w5.setCell ⟨w.heap.size + 1, 0, none⟩ (.slice av xs.length cv)).heap[w.heap.size + 1]? = some (.cells #[.slice av xs.length cv] 40 (0, 0)) := heap_setCell_same w5 (w.heap.size + 1) 0 _ _ (.slice av xs.length cv) s5'.1
          have hbset : Below (w.heap.size + 1) w5 (w5.setCell ⟨w.heap.size + 1, 0, none⟩ (.slice av xs.length cv)) := (Below.refl _ _).setCell (p := ⟨w.heap.size + 1, 0, none⟩) (Nat.le_refl _) _
          have hGF : w.grownBy (w5.setCell ⟨w.heap.size + 1, 0, none⟩ (.slice av xs.length cv)) (some P) := grown_then (grown_then hG4 hb45 hG4.size) hbset (by omega)
          have hoF := own_mono (ownsRow_setCell_below (own_below zo hb45) (a := ⟨w.heap.size + 1, 0, none⟩) hl1 (.slice av xs.length cv)) (show w.heap.size ≤ W2.heap.size by omega)
          have HF : Hid ((vrR zs = some xs ∧ r = .nilIface) ∨ (vrR zs = none ∧ ∃ p, r = badV p)) := by
            unfold Hid
            rw [HV.out]
            rcases hE with ⟨e1, e2⟩ | ⟨e1, e2⟩
            · rw [if_neg (fun h => by have := h.1; omega)]; exact Or.inr ⟨rfl, e2⟩
            · rw [if_pos ⟨by omega, hxe, hkb.out⟩]; exact Or.inl ⟨rfl, e2⟩
          clear HE SS S6 s5 s5' s6 hE r5 rf5 q0 q1 q4 r0 rf
          go_wp2
          refine bodyPost_ret (results_row_tmp rfl _ _ (w.heap.size + 1) 40 _ (0, 0) _ rfl hset Tryz.underlying40 rfl Tryz.sizeP) rfl ⟨hGF, ?_⟩
          rcases HF.out with ⟨f1, f2⟩ | ⟨f1, p, f2⟩
          · exact Or.inl ⟨xs, _, f1, by rw [← f2]; rfl, hoF⟩
          · exact Or.inr ⟨f1, _, _, _, p, by rw [← f2]; rfl⟩
  · have HN : Hid (vrR zs = none) := vr_none a1
    have B1 : Below w1.heap.size w1 (w1.alloc (Obj.cells #[.slice none 0 0] 40)) := (Below.refl _ _).alloc (Nat.le_refl _) _
    have y1 := (B1.block _ (by omega)).trans x1
    have r0 : (w1.alloc (Obj.cells #[.slice none 0 0] 40)).cell? ⟨w.heap.size + 1, 0, none⟩ = some (.slice none 0 0) := cell_of_row (w1.alloc (Obj.cells #[.slice none 0 0] 40)) _ 0 _ _ _ y1
    have rf : (w1.alloc (Obj.cells #[.slice none 0 0] 40)).frozen? ⟨w.heap.size + 1, 0, none⟩ = false := frozen_of_row (w1.alloc (Obj.cells #[.slice none 0 0] 40)) _ 0 _ _ y1
    have hset : ((w1.alloc (Obj.cells #[.slice none 0 0] 40)).setCell ⟨w.heap.size + 1, 0, none⟩ (.slice none 0 0)).heap[w.heap.size + 1]? = some (.cells #[.slice none 0 0] 40 (0, 0)) := heap_setCell_same (w1.alloc (Obj.cells #[.slice none 0 0] 40)) (w.heap.size + 1) 0 _ _ (.slice none 0 0) y1
    have hbset : Below (w.heap.size + 1) (w1.alloc (Obj.cells #[.slice none 0 0] 40)) ((w1.alloc (Obj.cells #[.slice none 0 0] 40)).setCell ⟨w.heap.size + 1, 0, none⟩ (.slice none 0 0)) := (Below.refl _ _).setCell (p := ⟨w.heap.size + 1, 0, none⟩) (Nat.le_refl _) _
    unfold badV
    go_wp2
    exact bodyPost_ret (results_row_tmp rfl _ _ (w.heap.size + 1) 40 _ (0, 0) _ rfl hset Tryz.underlying40 rfl Tryz.sizeP) rfl ⟨grown_then (grown_then hG1 B1 hG1.size) hbset (by omega), Or.inr ⟨HN.out, _, _, _, p, rfl⟩⟩
end Go.Proofs.YtenegpbpalbpeaaGreatDoor
/-
  The contract of impl.ValueRead: the value of the bytes, or nothing. The variable errors.errorType reads as it is laid.
-/
namespace Go.Proofs.YtenegpbpalbpeaaGreatDoor
open Go.RowKit
theorem results_row_2 {P : Program} {fn : Func} {p u u' : Tmp} {ty : TypeId} (h : fn.results = #[.cell p ty, .tmp u, .tmp u']) (tmps : Array Value) (w : World) (g : Nat) (t : TypeId) (cs : Array Value) (fr : Nat × Nat) (d : TypeDesc)
    (hp : tmps.getD p undef = .pointer (some ⟨g, 0, none⟩)) (hg : w.heap[g]? = some (.cells cs t fr))
    (hu : P.underlying ty = some d) (hd : (match d with | .struct _ | .array _ _ => true | _ => false) = true) (hi : (P.info? ty).map (·.size) = some cs.size) :
    (results fn tmps).run P w = .ok (.tuple #[.agg cs, tmps.getD u undef, tmps.getD u' undef]) w := by
  have hp' : tmps[p]?.getD undef = .pointer (some ⟨g, 0, none⟩) := by simpa using hp
  simp [results, h, hp', asAddr, run_loadVar_row w g t ty cs fr d hg hu hd hi]
def vrL (zs : List Int) : List Nd := (vrR zs).getD []
def vrI (zs : List Int) : Int := match vrR zs with | some xs => (xs.length : Int) - 1 | none => 0
def vrB (zs : List Int) : Bool := (vrR zs).isSome
theorem vr_yes {zs : List Int} {xs : List Nd} (h : vrR zs = some xs) : vrL zs = xs ∧ vrI zs = (xs.length : Int) - 1 ∧ vrB zs = true := by unfold vrL vrI vrB; rw [h]; exact ⟨rfl, rfl, rfl⟩
theorem vr_no {zs : List Int} (h : vrR zs = none) : vrL zs = [] ∧ vrI zs = 0 ∧ vrB zs = false := by unfold vrL vrI vrB; rw [h]; exact ⟨rfl, rfl, rfl⟩
theorem vr_pool {zs : List Int} {xs : List Nd} (hz : ∀ z ∈ zs, 0 ≤ z ∧ z ≤ 255) (h : vrR zs = some xs) : poolB xs = true ∧ xs ≠ [] := by
  unfold vrR at h
  rw [Option.bind_eq_some_iff] at h
  obtain ⟨⟨ys, b⟩, h1, h2⟩ := h
  split at h2
  · rename_i hc
    cases h2
    exact ⟨(rdP_le hz h1).2, hc.2.1⟩
  · cases h2
def VrAns (B : Nat) (zs : List Int) (e : Ending) (w' : World) : Prop := ∃ v', e = .returned (.tuple #[.agg #[v'], .int .i64 (vrI zs), .bool (vrB zs)]) ∧ w'.ownsRow B 178 5 v' (vrL zs).length (ncs (vrL zs))
theorem VrAns.intro {B : Nat} {zs : List Int} {e : Ending} {w' : World} (v' : Value) (h : e = .returned (.tuple #[.agg #[v'], .int .i64 (vrI zs), .bool (vrB zs)])) (k : w'.ownsRow B 178 5 v' (vrL zs).length (ncs (vrL zs))) : VrAns B zs e w' := ⟨v', h, k⟩
set_option maxRecDepth 100000 in
set_option maxHeartbeats 3200000 in
theorem ivread_any (s : ByteArray) (w : World) (hs : s.size ≤ 140737488351232) (hg : ErrT w) :
    Calls Tryz.prog 172 #[.string s] w fun e w' => VrAns w.heap.size (sb s) e w' ∧ Below w.heap.size w w' := by
  have hB0 : Below w.heap.size w (w.alloc (Obj.cells #[.slice none 0 0] 40)) := (Below.refl _ _).alloc (Nat.le_refl _) _
  go_enter Tryz.func172, Tryz.ntmps172
  go_wp2_with fail
  refine (readerof_any s _ hs).mono ?_
  rintro e w1 ⟨v, W0, P, rfl, R, hbW, hb1, hP, hone⟩
  have hs0 : w.heap.size + 1 ≤ W0.heap.size := by have := hbW.size; simp at this; omega
  have B1 : Below (w.alloc (Obj.cells #[.slice none 0 0] 40)).heap.size (w.alloc (Obj.cells #[.slice none 0 0] 40)) w1 := hbW.trans (hb1.mono hbW.size)
  have x1 := (B1.block w.heap.size (by simp)).trans (heap_alloc_new w _)
  have B01 := hB0.trans (B1.mono hB0.size)
  have hs1 := hb1.size
  obtain ⟨ao, cap, rfl, _⟩ := id R
  go_wp2_with fail
  refine (rvalue_any _ (sb s) W0 w1 P R hb1 hP hone).mono ?_
  rintro e w2 ⟨hgr, hans⟩
  have x2 := (hgr.block w.heap.size (by omega) (by simp; omega)).trans x1
  have B02 : Below w.heap.size w w2 := B01.grown hgr B01.size (fun k hk => by simp at hk; omega)
  have hs2 := hgr.size
  clear hgr B1 B01 x1 hbW hb1 hone
  rcases hans with ⟨xs, vs, a1, rfl, a3⟩ | ⟨a1, av, n, c, p, rfl⟩
  · obtain ⟨e1, e2, e3⟩ := vr_yes a1
    have hlen := poolB_len (vr_pool (sb_wf s) a1).1
    have HA : Hid (vrL (sb s) = xs ∧ vrI (sb s) = (xs.length : Int) - 1 ∧ vrB (sb s) = true) := ⟨e1, e2, e3⟩
    clear e1 e2 e3 a1
    obtain ⟨av, cv, rfl⟩ := own_form a3
    have B3 : Below w2.heap.size w2 (w2.alloc (Obj.cells #[.slice av xs.length cv] 40)) := (Below.refl _ _).alloc (Nat.le_refl _) _
    have y4 : (w2.alloc (Obj.cells #[.slice av xs.length cv] 40)).heap[w2.heap.size]? = some (.cells #[.slice av xs.length cv] 40 (0, 0)) := heap_alloc_new _ _
    go_wp2_with fail
    refine (isbad_nil _).mono ?_
    rintro e w4 ⟨rfl, hb4⟩
    have B24 : Below w2.heap.size w2 w4 := B3.trans (hb4.mono B3.size)
    have y4 := (hb4.block _ (Array.getElem?_eq_some_iff.1 y4).1).trans y4
    have x4 := (B24.block _ (Array.getElem?_eq_some_iff.1 x2).1).trans x2
    have a4 := own_below a3 B24
    have B04 := B02.trans (B24.mono B02.size)
    have q0 : w4.cell? ⟨w2.heap.size, 0, none⟩ = some (.slice av xs.length cv) := cell_of_row w4 _ 0 _ _ _ y4
    have r0 : w4.cell? ⟨w.heap.size, 0, none⟩ = some (.slice none 0 0) := cell_of_row w4 _ 0 _ _ _ x4
    have rf : w4.frozen? ⟨w.heap.size, 0, none⟩ = false := frozen_of_row w4 _ 0 _ _ x4
    have hne : w2.heap.size ≠ w.heap.size := by omega
    have hset := heap_setCell_same w4 w.heap.size 0 _ _ (.slice av xs.length cv) x4
    have hBF := B04.setCell (p := ⟨w.heap.size, 0, none⟩) (Nat.le_refl _) (.slice av xs.length cv)
    have hoF := own_mono (ownsRow_setCell_below a4 (a := ⟨w.heap.size, 0, none⟩) (by show w.heap.size < w1.heap.size; omega) (.slice av xs.length cv)) (show w.heap.size ≤ w1.heap.size by omega)
    clear hb4 B3 B24 y4 x2 B02 a3 a4
    go_wp2_with fail
    go_region
    all_goals
      go_wp2
      refine bodyPost_ret (results_row_2 rfl _ _ w.heap.size 40 _ (0, 0) _ rfl hset Tryz.underlying40 rfl Tryz.sizeP) rfl ⟨VrAns.intro (.slice av xs.length cv) ?_ ?_, hBF.drew⟩
      · rw [HA.out.2.1, HA.out.2.2]; rfl
      · rw [HA.out.1]; exact hoF
  · obtain ⟨e1, e2, e3⟩ := vr_no a1
    have HA : Hid (vrL (sb s) = [] ∧ vrI (sb s) = 0 ∧ vrB (sb s) = false) := ⟨e1, e2, e3⟩
    clear e1 e2 e3 a1
    have B3 : Below w2.heap.size w2 (w2.alloc (Obj.cells #[.slice av n c] 40)) := (Below.refl _ _).alloc (Nat.le_refl _) _
    have B03 := B02.trans (B3.mono B02.size)
    go_wp2_with fail
    refine (isbad_bad p _ (hg.below B03 (Nat.le_refl _))).mono ?_
    rintro e w4 ⟨rfl, hb4⟩
    have B24 : Below w2.heap.size w2 w4 := B3.trans (hb4.mono B3.size)
    have x4 := (B24.block _ (Array.getElem?_eq_some_iff.1 x2).1).trans x2
    have B04 := B02.trans (B24.mono B02.size)
    have r0 : w4.cell? ⟨w.heap.size, 0, none⟩ = some (.slice none 0 0) := cell_of_row w4 _ 0 _ _ _ x4
    have rf : w4.frozen? ⟨w.heap.size, 0, none⟩ = false := frozen_of_row w4 _ 0 _ _ x4
    have hset := heap_setCell_same w4 w.heap.size 0 _ _ (.slice none 0 0) x4
    have hBF := B04.setCell (p := ⟨w.heap.size, 0, none⟩) (Nat.le_refl _) (.slice none 0 0)
    go_wp2
    refine bodyPost_ret (results_row_2 rfl _ _ w.heap.size 40 _ (0, 0) _ rfl hset Tryz.underlying40 rfl Tryz.sizeP) rfl ⟨VrAns.intro (.slice none 0 0) ?_ ?_, hBF⟩
    · rw [HA.out.2.1, HA.out.2.2]; rfl
    · rw [HA.out.1]; exact World.ownsRow_nil _ _ _ _
end Go.Proofs.YtenegpbpalbpeaaGreatDoor
/-
  Contracts of impl's reached: the function that it answers tells the nodes that are reached, each with its place, in their order.
-/
namespace Go.Proofs.YtenegpbpalbpeaaGreatDoor
open Go.RowKit Go.Shelf
attribute [local go_sem] Oper.semAt_some
abbrev Itm (xs : List Nd) : Type := { p : Nat × Nd // xs[p.1]? = some p.2 }
def ienc {xs : List Nd} (p : Itm xs) : Array Value := #[.int .i64 (p.1.1 : Int), .agg #[.int .i64 p.1.2.k, .int .i64 p.1.2.n, .string p.1.2.s, .int .i64 p.1.2.a, .int .i64 p.1.2.b]]
def KpZ (Z : Nat → Prop) (W W' : World) : Prop := ∀ b, Z b → W'.heap[b]? = W.heap[b]?
theorem KpZ.trans {Z : Nat → Prop} {A B C : World} (h : KpZ Z A B) (k : KpZ Z B C) : KpZ Z A C := fun b hb => (k b hb).trans (h b hb)
theorem KpZ.cell {Z : Nat → Prop} {W W' : World} (h : KpZ Z W W') {p : Addr} (hp : Z p.block) : W'.cell? p = W.cell? p := World.cell?_of_block (w := W) (h p.block hp)
theorem KpZ.lt {Z : Nat → Prop} {W W' : World} (h : KpZ Z W W') {b : Nat} (hp : Z b) (hb : b < W.heap.size) : b < W'.heap.size := by
  have := h b hp
  rw [Array.getElem?_eq_getElem hb] at this
  exact (Array.getElem?_eq_some_iff.1 this).1
theorem KpZ.alloc {Z : Nat → Prop} {W : World} (hZ : ∀ b, Z b → b < W.heap.size) (o : Obj) : KpZ Z W (W.alloc o) := fun b hb => Below.heap_alloc W o b (hZ b hb)
end Go.Proofs.YtenegpbpalbpeaaGreatDoor
/-
  One statement of impl's moved, within a round: the node with its parts where they are then is put behind the others. Conditions: its parts are told of.
-/
namespace Go.Proofs.YtenegpbpalbpeaaGreatDoor
open Go.RowKit Go.Shelf
attribute [local go_sem] Oper.semAt_some
end Go.Proofs.YtenegpbpalbpeaaGreatDoor
/-
  Contract of impl's moved: what the nodes that are reached come to behind so many others, and where the roots are then. Conditions: the pool is right, all roots are nodes of it.
-/
namespace Go.Proofs.YtenegpbpalbpeaaGreatDoor
open Go.RowKit Go.Shelf
attribute [local go_sem] Oper.semAt_some
end Go.Proofs.YtenegpbpalbpeaaGreatDoor
