/-
  Texts that stood by themselves, laid into one.
-/
import Derived.Test.YtjnhocefnfmhmaaGreatDoorRVal2M
import Derived.Deep.RegionHeld3
import Derived.Test.YtjnhocefnfmhmaaGreatDoorMvMathM
import Derived.Test.YtjnhocefnfmhmaaGreatDoorBoolsM
import Derived.Test.YtjnhocefnfmhmaaGreatDoorMv2M
import Derived.Test.YtjnhocefnfmhmaaGreatDoorSKeepM
import Derived.Test.YtjnhocefnfmhmaaGreatDoorSzGenM
import Derived.Test.YtjnhocefnfmhmaaGreatDoorBsM
import Derived.Test.YtjnhocefnfmhmaaGreatDoorS8RdM
/-
  The contract of impl.ValueRead: the value of the bytes, or nothing. The variable errors.errorType reads as it is laid.
-/
namespace Go.Proofs.YtjnhocefnfmhmaaGreatDoor
open Go.RowKit

theorem results_row_2 {P : Program} {fn : Func} {p u u' : Tmp} {ty : TypeId} (h : fn.results = #[.cell p ty, .tmp u, .tmp u']) (tmps : Array Value) (w : World) (g : Nat) (t : TypeId) (cs : Array Value) (fr : Nat × Nat) (d : TypeDesc)
    (hp : tmps.getD p undef = .pointer (some ⟨g, 0, none⟩)) (hg : w.heap[g]? = some (.cells cs t fr))
    (hu : P.underlying ty = some d) (hd : (match d with | .struct _ | .array _ _ => true | _ => false) = true) (hi : (P.info? ty).map (·.size) = some cs.size) :
    (results fn tmps).run P w = .ok (.tuple #[.agg cs, tmps.getD u undef, tmps.getD u' undef]) w := by
  have hp' : tmps[p]?.getD undef = .pointer (some ⟨g, 0, none⟩) := by simpa using hp
  simp [results, h, hp', asAddr, run_loadVar_row w g t ty cs fr d hg hu hd hi]

def vrL (zs : List Int) : List Nd := (vrR zs).getD []
def vrI (zs : List Int) : Int := match vrR zs with | some xs => (xs.length : Int) - 1 | none => 0
def vrB (zs : List Int) : Bool := (vrR zs).isSome
theorem vr_yes {zs : List Int} {xs : List Nd} (h : vrR zs = some xs) : vrL zs = xs ∧ vrI zs = (xs.length : Int) - 1 ∧ vrB zs = true := by unfold vrL vrI vrB; rw [h]; exact ⟨rfl, rfl, rfl⟩
theorem vr_no {zs : List Int} (h : vrR zs = none) : vrL zs = [] ∧ vrI zs = 0 ∧ vrB zs = false := by unfold vrL vrI vrB; rw [h]; exact ⟨rfl, rfl, rfl⟩
theorem vr_pool {zs : List Int} {xs : List Nd} (hz : ∀ z ∈ zs, 0 ≤ z ∧ z ≤ 255) (h : vrR zs = some xs) : poolB xs = true ∧ xs ≠ [] := by
  unfold vrR at h
  rw [Option.bind_eq_some_iff] at h
  obtain ⟨⟨ys, b⟩, h1, h2⟩ := h
  split at h2
  · rename_i hc
    cases h2
    exact ⟨(rdP_le hz h1).2, hc.2.1⟩
  · cases h2
/-- What ValueRead answers. -/
def VrAns (B : Nat) (zs : List Int) (e : Ending) (w' : World) : Prop := ∃ v', e = .returned (.tuple #[.agg #[v'], .int .i64 (vrI zs), .bool (vrB zs)]) ∧ w'.ownsRow B 153 5 v' (vrL zs).length (ncs (vrL zs))

theorem VrAns.intro {B : Nat} {zs : List Int} {e : Ending} {w' : World} (v' : Value) (h : e = .returned (.tuple #[.agg #[v'], .int .i64 (vrI zs), .bool (vrB zs)])) (k : w'.ownsRow B 153 5 v' (vrL zs).length (ncs (vrL zs))) : VrAns B zs e w' := ⟨v', h, k⟩

set_option maxRecDepth 100000 in
set_option maxHeartbeats 3200000 in
theorem ivread_any (s : ByteArray) (w : World) (hs : s.size ≤ 140737488351232) (hg : ErrT w) :
    Calls Tryz.prog 98 #[.string s] w fun e w' => VrAns w.heap.size (sb s) e w' ∧ Below w.heap.size w w' := by
  have hB0 : Below w.heap.size w (w.alloc (Obj.cells #[.slice none 0 0] 40)) := (Below.refl _ _).alloc (Nat.le_refl _) _
  go_enter Tryz.func98, Tryz.ntmps98
  go_wp2_with fail
  refine (readerof_any s _ hs).mono ?_
  rintro e w1 ⟨v, W0, P, rfl, R, hbW, hb1, hP, hone⟩
  have hs0 : w.heap.size + 1 ≤ W0.heap.size := by have := hbW.size; simp at this; omega
  have B1 : Below (w.alloc (Obj.cells #[.slice none 0 0] 40)).heap.size (w.alloc (Obj.cells #[.slice none 0 0] 40)) w1 := hbW.trans (hb1.mono hbW.size)
  have x1 := (B1.block w.heap.size (by simp)).trans (heap_alloc_new w _)
  have B01 := hB0.trans (B1.mono hB0.size)
  have hs1 := hb1.size
  obtain ⟨ao, cap, rfl, _⟩ := id R
  go_wp2_with fail
  refine (rvalue_any _ (sb s) W0 w1 P R hb1 hP hone).mono ?_
  rintro e w2 ⟨hgr, hans⟩
  have x2 := (hgr.block w.heap.size (by omega) (by simp; omega)).trans x1
  have B02 : Below w.heap.size w w2 := B01.grown hgr B01.size (fun k hk => by simp at hk; omega)
  have hs2 := hgr.size
  clear hgr B1 B01 x1 hbW hb1 hone
  rcases hans with ⟨xs, vs, a1, rfl, a3⟩ | ⟨a1, av, n, c, p, rfl⟩
  · obtain ⟨e1, e2, e3⟩ := vr_yes a1
    have hlen := poolB_len (vr_pool (sb_wf s) a1).1
    have HA : Hid (vrL (sb s) = xs ∧ vrI (sb s) = (xs.length : Int) - 1 ∧ vrB (sb s) = true) := ⟨e1, e2, e3⟩
    clear e1 e2 e3 a1
    obtain ⟨av, cv, rfl⟩ := own_form a3
    have B3 : Below w2.heap.size w2 (w2.alloc (Obj.cells #[.slice av xs.length cv] 40)) := (Below.refl _ _).alloc (Nat.le_refl _) _
    have y4 : (w2.alloc (Obj.cells #[.slice av xs.length cv] 40)).heap[w2.heap.size]? = some (.cells #[.slice av xs.length cv] 40 (0, 0)) := heap_alloc_new _ _
    go_wp2_with fail
    refine (isbad_nil _).mono ?_
    rintro e w4 ⟨rfl, hb4⟩
    have B24 : Below w2.heap.size w2 w4 := B3.trans (hb4.mono B3.size)
    have y4 := (hb4.block _ (Array.getElem?_eq_some_iff.1 y4).1).trans y4
    have x4 := (B24.block _ (Array.getElem?_eq_some_iff.1 x2).1).trans x2
    have a4 := own_below a3 B24
    have B04 := B02.trans (B24.mono B02.size)
    have q0 : w4.cell? ⟨w2.heap.size, 0, none⟩ = some (.slice av xs.length cv) := cell_of_row w4 _ 0 _ _ _ y4
    have r0 : w4.cell? ⟨w.heap.size, 0, none⟩ = some (.slice none 0 0) := cell_of_row w4 _ 0 _ _ _ x4
    have rf : w4.frozen? ⟨w.heap.size, 0, none⟩ = false := frozen_of_row w4 _ 0 _ _ x4
    have hne : w2.heap.size ≠ w.heap.size := by omega
    have hset := heap_setCell_same w4 w.heap.size 0 _ _ (.slice av xs.length cv) x4
    have hBF := B04.setCell (p := ⟨w.heap.size, 0, none⟩) (Nat.le_refl _) (.slice av xs.length cv)
    have hoF := own_mono (ownsRow_setCell_below a4 (a := ⟨w.heap.size, 0, none⟩) (by show w.heap.size < w1.heap.size; omega) (.slice av xs.length cv)) (show w.heap.size ≤ w1.heap.size by omega)
    clear hb4 B3 B24 y4 x2 B02 a3 a4
    go_wp2_with fail
    go_region
    all_goals
      go_wp2
      refine bodyPost_ret (results_row_2 rfl _ _ w.heap.size 40 _ (0, 0) _ rfl hset Tryz.underlying40 rfl Tryz.sizeP) rfl ⟨VrAns.intro (.slice av xs.length cv) ?_ ?_, hBF.drew⟩
      · rw [HA.out.2.1, HA.out.2.2]; rfl
      · rw [HA.out.1]; exact hoF
  · obtain ⟨e1, e2, e3⟩ := vr_no a1
    have HA : Hid (vrL (sb s) = [] ∧ vrI (sb s) = 0 ∧ vrB (sb s) = false) := ⟨e1, e2, e3⟩
    clear e1 e2 e3 a1
    have B3 : Below w2.heap.size w2 (w2.alloc (Obj.cells #[.slice av n c] 40)) := (Below.refl _ _).alloc (Nat.le_refl _) _
    have B03 := B02.trans (B3.mono B02.size)
    go_wp2_with fail
    refine (isbad_bad p _ (hg.below B03 (Nat.le_refl _))).mono ?_
    rintro e w4 ⟨rfl, hb4⟩
    have B24 : Below w2.heap.size w2 w4 := B3.trans (hb4.mono B3.size)
    have x4 := (B24.block _ (Array.getElem?_eq_some_iff.1 x2).1).trans x2
    have B04 := B02.trans (B24.mono B02.size)
    have r0 : w4.cell? ⟨w.heap.size, 0, none⟩ = some (.slice none 0 0) := cell_of_row w4 _ 0 _ _ _ x4
    have rf : w4.frozen? ⟨w.heap.size, 0, none⟩ = false := frozen_of_row w4 _ 0 _ _ x4
    have hset := heap_setCell_same w4 w.heap.size 0 _ _ (.slice none 0 0) x4
    have hBF := B04.setCell (p := ⟨w.heap.size, 0, none⟩) (Nat.le_refl _) (.slice none 0 0)
    go_wp2
    refine bodyPost_ret (results_row_2 rfl _ _ w.heap.size 40 _ (0, 0) _ rfl hset Tryz.underlying40 rfl Tryz.sizeP) rfl ⟨VrAns.intro (.slice none 0 0) ?_ ?_, hBF⟩
    · rw [HA.out.2.1, HA.out.2.2]; rfl
    · rw [HA.out.1]; exact World.ownsRow_nil _ _ _ _
end Go.Proofs.YtjnhocefnfmhmaaGreatDoor

/-
  What ValuePack answers, and the contracts of both ValuePack. No condition.
-/
namespace Go.Proofs.YtjnhocefnfmhmaaGreatDoor
open Go.RowKit

def vpB (xs : List Nd) (v : Int) : Bool := poolB xs && hasI xs v
def vpR (xs : List Nd) (v : Int) : ByteArray := if vpB xs v then strOfNums (wireL (mvN 0 xs [v])) else ByteArray.empty

set_option maxRecDepth 100000 in
set_option maxHeartbeats 3200000 in
theorem svpack_any (v : Value) (xs : List Nd) (a : Int) (w : World) (R : NRow w v xs) :
    Calls Tryz.prog 93 #[.agg #[v], .int .i64 a] w fun e w' => e = .returned (.tuple #[.string (vpR xs a), .bool (vpB xs a)]) ∧ Below w.heap.size w w' := by
  have R' := R
  obtain ⟨ao, cap, rfl, _⟩ := R'
  have hB0 : Below w.heap.size w (w.alloc (Obj.cells #[.slice ao xs.length cap] 40)) := (Below.refl _ _).alloc (Nat.le_refl _) _
  go_enter Tryz.func93, Tryz.ntmps93
  go_wp2_with fail
  refine (spool_any _ xs _ (R.below hB0)).mono ?_
  rintro e w1 ⟨rfl, hb1⟩
  have hx1 : w1.heap[w.heap.size]? = some (.cells #[.slice ao xs.length cap] 40 (0, 0)) := (hb1.block _ (by simp)).trans (heap_alloc_new _ _)
  have hB1 := hB0.trans (hb1.mono hB0.size)
  have c1 : w1.cell? ⟨w.heap.size, 0, none⟩ = some (.slice ao xs.length cap) := cell_of_row w1 _ 0 _ _ _ hx1
  clear hB0 hb1
  cases hp : poolB xs with
  | false =>
    have HB : Hid (vpB xs a = false) := by unfold Hid vpB; rw [hp]; rfl
    have HR : Hid (vpR xs a = ByteArray.empty) := by unfold Hid vpR; rw [HB.out]; rfl
    go_wp2
    go_ret2
    exact ⟨by rw [HB.out, HR.out]; rfl, hB1⟩
  | true =>
    have hlen := pool_small hp
    go_wp2_with fail
    refine (shas_any _ xs a _ (R.below hB1)).mono ?_
    rintro e w2 ⟨rfl, hb2⟩
    have hx2 := (hb2.block _ (Array.getElem?_eq_some_iff.1 hx1).1).trans hx1
    have hB2 := hB1.trans (hb2.mono hB1.size)
    have c2 : w2.cell? ⟨w.heap.size, 0, none⟩ = some (.slice ao xs.length cap) := cell_of_row w2 _ 0 _ _ _ hx2
    clear hB1 hb2 hx1 c1
    cases hh : hasI xs a with
    | false =>
      have HB : Hid (vpB xs a = false) := by unfold Hid vpB; rw [hh, Bool.and_false]
      have HR : Hid (vpR xs a = ByteArray.empty) := by unfold Hid vpR; rw [HB.out]; rfl
      go_wp2
      go_ret2
      exact ⟨by rw [HB.out, HR.out]; rfl, hB2⟩
    | true =>
      have HB : Hid (vpB xs a = true) := by unfold Hid vpB; rw [hh, hp]; rfl
      have HR : Hid (vpR xs a = strOfNums (wireL (mvN 0 xs [a]))) := by unfold Hid vpR; rw [HB.out]; rfl
      have hall : allI xs [a] = true := by simp [allI, hh]
      have hml := mvN_len 0 xs [a]
      have hok := mv_right 0 xs [a] hp (by omega)
      have hB3 : Below w2.heap.size w2 (w2.alloc (Obj.cells #[.int .i64 a] 3)) := (Below.refl _ _).alloc (Nat.le_refl _) _
      go_wp2_with fail
      refine (slkeep_any ao cap _ xs [a] _ (R.below (hB2.trans (hB3.mono hB2.size))) (irow_one (heap_alloc_new w2 _)) hp hall (by simp)).mono ?_
      rintro e w3 ⟨v1, v2, rfl, ho1, _, hb3⟩
      have hB4 := (hB2.trans (hB3.mono hB2.size)).trans (hb3.mono (hB2.trans (hB3.mono hB2.size)).size)
      clear hB2 hB3 hb3 hx2 c2
      generalize mvN 0 xs [a] = ys at *
      obtain ⟨a1, k1, rfl⟩ := own_form ho1
      have hB6 : Below w3.heap.size w3 (w3.alloc (Obj.cells #[.slice a1 ys.length k1] 40)) := (Below.refl _ _).alloc (Nat.le_refl _) _
      have R1 := NRow.of_own ho1 (by omega) (ndok_max hok)
      go_wp2_with fail
      refine (snodes8_any _ ys _ (R1.below hB6) hok (by omega)).mono ?_
      rintro e w4 ⟨v4, rfl, ho4, hb4⟩
      obtain ⟨a4, k4, rfl⟩ := own_form ho4
      have hB5 := (hB4.trans (hB6.mono hB4.size)).trans (hb4.mono (hB4.trans (hB6.mono hB4.size)).size)
      have hT := own_text ho4
      go_wp2_with (refine wpList_bytes_text _ rfl _ 66 9 5 rfl Tryz.underlying66 Tryz.underlying9 Tryz.underlying5 a4 (wireL ys).length k4 (wireL ys) rfl rfl hT ?_)
      go_ret2
      exact ⟨by rw [HB.out, HR.out]; rfl, hB5⟩
end Go.Proofs.YtjnhocefnfmhmaaGreatDoor

/-
  The contract of spec.ValueRead: the value of the bytes, or nothing. No condition but a bound on the text.
-/
namespace Go.Proofs.YtjnhocefnfmhmaaGreatDoor
open Go.RowKit

theorem Tryz.sizeC8 : (Tryz.prog.info? 83).map (·.size) = some 3 := by kernel_rfl
theorem str_eq {l : List Int} {s : ByteArray} (hl : ∀ z ∈ l, 0 ≤ z ∧ z ≤ 255) : strOfNums l = s ↔ l = sb s := by
  constructor
  · intro h
    rw [← h, sb_str hl]
  · intro h
    rw [h, strOfNums_sb]
/-- What the specification comes to, by what l8Read leaves. -/
theorem vr_by {s : ByteArray} {xs : List Nd} {at_ : Int} {k : Bool} (hs : sP (sb s) 0 true = (xs, at_, k)) : 
    (sOk (sb s) 0 true = false → vrR (sb s) = none) ∧ (xs = [] → vrR (sb s) = none) ∧ (sOk (sb s) 0 true = true → xs ≠ [] → (poolB xs = true ∧ vpB xs ((xs.length : Int) - 1) = true) ∧ (vpR xs ((xs.length : Int) - 1) = s → vrR (sb s) = some xs) ∧ (vpR xs ((xs.length : Int) - 1) ≠ s → vrR (sb s) = none)) := by
  have key := fun ys => vrR_spec (sb s) (sb_wf s) ys
  rw [hs] at key
  refine ⟨fun h => ?_, fun h => ?_, fun h hne => ?_⟩
  · cases hv : vrR (sb s) with
    | none => rfl
    | some ys => have := ((key ys).1 hv).1.1; rw [h] at this; cases this
  · cases hv : vrR (sb s) with
    | none => rfl
    | some ys => obtain ⟨⟨_, h2⟩, h3, _⟩ := (key ys).1 hv; exact absurd (h2.symm.trans h) h3
  · have hp : poolB xs = true := by
      unfold sOk at h
      rw [hs] at h
      simp only [Bool.and_eq_true] at h
      exact h.2
    have hpos := List.length_pos_iff.2 hne
    have hvp : vpB xs ((xs.length : Int) - 1) = true := by unfold vpB hasI; rw [hp]; simp; omega
    have hR : vpR xs ((xs.length : Int) - 1) = strOfNums (wireL (mvN 0 xs [(xs.length : Int) - 1])) := by unfold vpR; rw [if_pos hvp]
    refine ⟨⟨hp, hvp⟩, fun e => ?_, fun e => ?_⟩
    · rw [hR, str_eq (wireL_wf _)] at e
      exact (key xs).2 ⟨⟨h, rfl⟩, hne, e⟩
    · cases hv : vrR (sb s) with
      | none => rfl
      | some ys =>
        obtain ⟨⟨_, h2⟩, _, h4⟩ := (key ys).1 hv
        have h2 : xs = ys := h2
        subst h2
        exact absurd (by rw [hR, str_eq (wireL_wf _)]; exact h4) e

set_option maxRecDepth 100000 in
set_option maxHeartbeats 3200000 in
theorem svread_any (s : ByteArray) (w : World) (hs : s.size ≤ 140737488351232) :
    Calls Tryz.prog 61 #[.string s] w fun e w' => VrAns w.heap.size (sb s) e w' ∧ Below w.heap.size w w' := by
  have hB0 : Below w.heap.size w (w.alloc (Obj.cells #[.slice none 0 0] 40)) := (Below.refl _ _).alloc (Nat.le_refl _) _
  go_enter Tryz.func61, Tryz.ntmps61
  go_wp2_with (first
    | (refine wpList_bytes8 _ rfl _ 9 66 5 rfl Tryz.underlying9 Tryz.underlying66 Tryz.underlying5 s rfl ?_; intro cap w2 g0 g1 g2 g3))
  have e1 : (w.alloc (Obj.cells #[.slice none 0 0] 40)).heap.size = w.heap.size + 1 := by simp
  have RR := row_of_bytes (w := w.alloc (Obj.cells #[.slice none 0 0] 40)) hs g0 g1 g3
  rw [e1] at RR g3
  have x2 := (g2.block w.heap.size (by rw [e1]; omega) (by simp)).trans (heap_alloc_new w _)
  have B2 : Below w.heap.size w w2 := hB0.grown g2 hB0.size (fun k hk => by cases hk)
  clear e1 g1 g2
  have B3 : Below w2.heap.size w2 (w2.alloc (Obj.cells #[.slice (some ⟨w.heap.size + 1, 0, none⟩) s.size cap, .int .i64 0, .bool true] 83)) := (Below.refl _ _).alloc (Nat.le_refl _) _
  have hC3 : C8 (w2.alloc (Obj.cells #[.slice (some ⟨w.heap.size + 1, 0, none⟩) s.size cap, .int .i64 0, .bool true] 83)) w2.heap.size (.slice (some ⟨w.heap.size + 1, 0, none⟩) s.size cap) 0 true := heap_alloc_new _ _
  have x3 := (B3.block w.heap.size (by omega)).trans x2
  have B03 := B2.trans (B3.mono B2.size)
  have HRD := s8read_any w2.heap.size _ (sb s) 0 true _ (RR.below B3) hC3 (by omega) (by omega)
  have s3 : (w2.alloc (Obj.cells #[.slice (some ⟨w.heap.size + 1, 0, none⟩) s.size cap, .int .i64 0, .bool true] 83)).heap.size = w2.heap.size + 1 := by simp
  obtain ⟨p, hp⟩ : ∃ p, Hid (sP (sb s) 0 true = p) := ⟨_, rfl⟩
  obtain ⟨xs, at_, k⟩ := p
  obtain ⟨b, hb⟩ : ∃ b, Hid (sOk (sb s) 0 true = b) := ⟨_, rfl⟩
  have HV := vr_by hp.out
  rw [hb.out] at HV
  rw [hp.out, hb.out] at HRD
  dsimp only at HRD
  refine HRD.mono ?_
  rintro e w4 ⟨vs, rfl, o4, c4, hg4, hz4⟩
  have x4 := (hg4.block w.heap.size (by rw [s3]; omega) (by simp; omega)).trans x3
  have B04 : Below w.heap.size w w4 := B03.grown hg4 B03.size (fun k hk => by simp at hk; omega)
  have hs4 : w2.heap.size + 1 ≤ w4.heap.size := by have := hg4.size; omega
  rw [s3] at o4
  have hw2 : w.heap.size + 1 < w2.heap.size := g3
  clear HRD hg4 x3 B03 hC3 B3 s3 hB0 x2 B2 g3 RR
  obtain ⟨av, cv, rfl⟩ := own_form o4
  have B5 : Below w4.heap.size w4 (w4.alloc (Obj.cells #[.slice av xs.length cv] 40)) := (Below.refl _ _).alloc (Nat.le_refl _) _
  have x5 := (B5.block _ (by omega)).trans x4
  have c5 := c4.below B5
  have o5 := own_below o4 B5
  have B05 := B04.trans (B5.mono B04.size)
  have y5 : (w4.alloc (Obj.cells #[.slice av xs.length cv] 40)).heap[w4.heap.size]? = some (.cells #[.slice av xs.length cv] 40 (0, 0)) := heap_alloc_new _ _
  have cok : (w4.alloc (Obj.cells #[.slice av xs.length cv] 40)).cell? ⟨w2.heap.size, 2, none⟩ = some (.bool b) := cell_of_row _ _ 2 _ _ _ c5
  have cp : (w4.alloc (Obj.cells #[.slice av xs.length cv] 40)).cell? ⟨w4.heap.size, 0, none⟩ = some (.slice av xs.length cv) := cell_of_row _ _ 0 _ _ _ y5
  cases b with
  | false =>
    have hN := HV.1 rfl
    have HA : Hid (vrL (sb s) = [] ∧ vrI (sb s) = 0 ∧ vrB (sb s) = false) := vr_no hN
    clear HV hN
    have r0 : (w4.alloc (Obj.cells #[.slice av xs.length cv] 40)).cell? ⟨w.heap.size, 0, none⟩ = some (.slice none 0 0) := cell_of_row (w4.alloc (Obj.cells #[.slice av xs.length cv] 40)) _ 0 _ _ _ x5
    have rf : (w4.alloc (Obj.cells #[.slice av xs.length cv] 40)).frozen? ⟨w.heap.size, 0, none⟩ = false := frozen_of_row (w4.alloc (Obj.cells #[.slice av xs.length cv] 40)) _ 0 _ _ x5
    have hset := heap_setCell_same (w4.alloc (Obj.cells #[.slice av xs.length cv] 40)) w.heap.size 0 _ _ (.slice none 0 0) x5
    have hBF := B05.setCell (p := ⟨w.heap.size, 0, none⟩) (Nat.le_refl _) (.slice none 0 0)
    go_wp2
    refine bodyPost_ret (results_row_2 rfl _ _ w.heap.size 40 _ (0, 0) _ rfl hset Tryz.underlying40 rfl Tryz.sizeP) rfl ⟨VrAns.intro (.slice none 0 0) ?_ ?_, hBF⟩
    · rw [HA.out.2.1, HA.out.2.2]; rfl
    · rw [HA.out.1]; exact World.ownsRow_nil _ _ _ _
  | true =>
    by_cases hxe : xs = []
    · have HA : Hid (vrL (sb s) = [] ∧ vrI (sb s) = 0 ∧ vrB (sb s) = false) := vr_no (HV.2.1 hxe)
      have hl0 : (xs.length : Int) = 0 := by rw [hxe]; rfl
      clear HV hxe
      have r0 : (w4.alloc (Obj.cells #[.slice av xs.length cv] 40)).cell? ⟨w.heap.size, 0, none⟩ = some (.slice none 0 0) := cell_of_row (w4.alloc (Obj.cells #[.slice av xs.length cv] 40)) _ 0 _ _ _ x5
      have rf : (w4.alloc (Obj.cells #[.slice av xs.length cv] 40)).frozen? ⟨w.heap.size, 0, none⟩ = false := frozen_of_row (w4.alloc (Obj.cells #[.slice av xs.length cv] 40)) _ 0 _ _ x5
      have hset := heap_setCell_same (w4.alloc (Obj.cells #[.slice av xs.length cv] 40)) w.heap.size 0 _ _ (.slice none 0 0) x5
      have hBF := B05.setCell (p := ⟨w.heap.size, 0, none⟩) (Nat.le_refl _) (.slice none 0 0)
      go_wp2
      refine bodyPost_ret (results_row_2 rfl _ _ w.heap.size 40 _ (0, 0) _ rfl hset Tryz.underlying40 rfl Tryz.sizeP) rfl ⟨VrAns.intro (.slice none 0 0) ?_ ?_, hBF⟩
      · rw [HA.out.2.1, HA.out.2.2]; rfl
      · rw [HA.out.1]; exact World.ownsRow_nil _ _ _ _
    · obtain ⟨⟨hpool, hvp⟩, hyes, hno⟩ := HV.2.2 rfl hxe
      have hpos := List.length_pos_iff.2 hxe
      have hlen := poolB_len hpool
      have hl0 : ¬ (xs.length : Int) = 0 := by omega
      have R5 : NRow (w4.alloc (Obj.cells #[.slice av xs.length cv] 40)) (.slice av xs.length cv) xs := NRow.of_own o5 (by omega) (ndok_max (pool_ndok hpool))
      have HK := svpack_any _ xs ((xs.length : Int) - 1) _ R5
      obtain ⟨tx, htx⟩ : ∃ tx, Hid (vpR xs ((xs.length : Int) - 1) = tx) := ⟨_, rfl⟩
      obtain ⟨tb, htb⟩ : ∃ tb, Hid (vpB xs ((xs.length : Int) - 1) = tb) := ⟨_, rfl⟩
      rw [htx.out, htb.out] at HK
      rw [htx.out] at hyes hno
      clear HV htx htb hvp
      go_wp2_with fail
      refine HK.mono ?_
      rintro e w6 ⟨rfl, hb6⟩
      have x6 := (hb6.block _ (Array.getElem?_eq_some_iff.1 x5).1).trans x5
      have y6 := (hb6.block _ (Array.getElem?_eq_some_iff.1 y5).1).trans y5
      have o6 := own_below o5 hb6
      have B06 := B05.trans (hb6.mono B05.size)
      clear HK hb6 B05 B5 B04 x4 x5 y5 o4 o5 c4 c5 cok cp R5
      by_cases heq : tx = s
      · have HA : Hid (vrL (sb s) = xs ∧ vrI (sb s) = (xs.length : Int) - 1 ∧ vrB (sb s) = true) := vr_yes (hyes heq)
        clear hyes hno
        have q0 : w6.cell? ⟨w4.heap.size, 0, none⟩ = some (.slice av xs.length cv) := cell_of_row w6 _ 0 _ _ _ y6
        have r0 : w6.cell? ⟨w.heap.size, 0, none⟩ = some (.slice none 0 0) := cell_of_row w6 _ 0 _ _ _ x6
        have rf : w6.frozen? ⟨w.heap.size, 0, none⟩ = false := frozen_of_row w6 _ 0 _ _ x6
        have hne : w4.heap.size ≠ w.heap.size := by omega
        have hset := heap_setCell_same w6 w.heap.size 0 _ _ (.slice av xs.length cv) x6
        have hBF := B06.setCell (p := ⟨w.heap.size, 0, none⟩) (Nat.le_refl _) (.slice av xs.length cv)
        have hoF := own_mono (ownsRow_setCell_below o6 (a := ⟨w.heap.size, 0, none⟩) (by show w.heap.size < w2.heap.size + 1; omega) (.slice av xs.length cv)) (show w.heap.size ≤ w2.heap.size + 1 by omega)
        go_wp2_with fail
        go_region
        all_goals
          go_wp2
          refine bodyPost_ret (results_row_2 rfl _ _ w.heap.size 40 _ (0, 0) _ rfl hset Tryz.underlying40 rfl Tryz.sizeP) rfl ⟨VrAns.intro (.slice av xs.length cv) ?_ ?_, hBF.drew⟩
          · rw [HA.out.2.1, HA.out.2.2]; rfl
          · rw [HA.out.1]; exact hoF
      · have HA : Hid (vrL (sb s) = [] ∧ vrI (sb s) = 0 ∧ vrB (sb s) = false) := vr_no (hno heq)
        have hl2 : (tx.toList == s.toList) = false := by
          rw [← Bool.not_eq_true, beq_iff_eq, ByteArray.toList_eq, ByteArray.toList_eq]
          intro h
          apply heq
          cases tx
          cases s
          congr 1
          exact Array.toList_inj.1 h
        clear hyes hno
        have r0 : w6.cell? ⟨w.heap.size, 0, none⟩ = some (.slice none 0 0) := cell_of_row w6 _ 0 _ _ _ x6
        have rf : w6.frozen? ⟨w.heap.size, 0, none⟩ = false := frozen_of_row w6 _ 0 _ _ x6
        have hset := heap_setCell_same w6 w.heap.size 0 _ _ (.slice none 0 0) x6
        have hBF := B06.setCell (p := ⟨w.heap.size, 0, none⟩) (Nat.le_refl _) (.slice none 0 0)
        go_wp2
        refine bodyPost_ret (results_row_2 rfl _ _ w.heap.size 40 _ (0, 0) _ rfl hset Tryz.underlying40 rfl Tryz.sizeP) rfl ⟨VrAns.intro (.slice none 0 0) ?_ ?_, hBF⟩
        · rw [HA.out.2.1, HA.out.2.2]; rfl
        · rw [HA.out.1]; exact World.ownsRow_nil _ _ _ _
end Go.Proofs.YtjnhocefnfmhmaaGreatDoor
