/-
  Texts that stood by themselves, laid into one.
-/
import Derived.Test.YtbgkofinmdpmcaaDoorS8RdM
import Derived.Test.YtbgkofinmdpmcaaDoorRVal3M
import Derived.Test.YtbgkofinmdpmcaaDoorVPackM
import Derived.Test.YtbgkofinmdpmcaaDoorSizeIM
import Derived.Deep.RegionWith
/-
  The contract of spec.ValueRead: the value of the bytes, or nothing. No condition but a bound on the text.
-/
namespace Go.Proofs.YtbgkofinmdpmcaaDoor
open Go.RowKit

theorem Tryd.sizeC8 : (Tryd.prog.info? 33).map (·.size) = some 3 := by kernel_rfl
theorem str_eq {l : List Int} {s : ByteArray} (hl : ∀ z ∈ l, 0 ≤ z ∧ z ≤ 255) : strOfNums l = s ↔ l = sb s := by
  constructor
  · intro h
    rw [← h, sb_str hl]
  · intro h
    rw [h, strOfNums_sb]
/-- What the specification comes to, by what l8Read leaves. -/
theorem vr_by {s : ByteArray} {xs : List Nd} {at_ : Int} {k : Bool} (hs : sP (sb s) 0 true = (xs, at_, k)) : 
    (sOk (sb s) 0 true = false → vrR (sb s) = none) ∧ (xs = [] → vrR (sb s) = none) ∧ (sOk (sb s) 0 true = true → xs ≠ [] → (poolB xs = true ∧ vpB xs ((xs.length : Int) - 1) = true) ∧ (vpR xs ((xs.length : Int) - 1) = s → vrR (sb s) = some xs) ∧ (vpR xs ((xs.length : Int) - 1) ≠ s → vrR (sb s) = none)) := by
  have key := fun ys => vrR_spec (sb s) (sb_wf s) ys
  rw [hs] at key
  refine ⟨fun h => ?_, fun h => ?_, fun h hne => ?_⟩
  · cases hv : vrR (sb s) with
    | none => rfl
    | some ys => have := ((key ys).1 hv).1.1; rw [h] at this; cases this
  · cases hv : vrR (sb s) with
    | none => rfl
    | some ys => obtain ⟨⟨_, h2⟩, h3, _⟩ := (key ys).1 hv; exact absurd (h2.symm.trans h) h3
  · have hp : poolB xs = true := by
      unfold sOk at h
      rw [hs] at h
      simp only [Bool.and_eq_true] at h
      exact h.2
    have hpos := List.length_pos_iff.2 hne
    have hvp : vpB xs ((xs.length : Int) - 1) = true := by unfold vpB hasI; rw [hp]; simp; omega
    have hR : vpR xs ((xs.length : Int) - 1) = strOfNums (wireL (mvN 0 xs [(xs.length : Int) - 1])) := by unfold vpR; rw [if_pos hvp]
    refine ⟨⟨hp, hvp⟩, fun e => ?_, fun e => ?_⟩
    · rw [hR, str_eq (wireL_wf _)] at e
      exact (key xs).2 ⟨⟨h, rfl⟩, hne, e⟩
    · cases hv : vrR (sb s) with
      | none => rfl
      | some ys =>
        obtain ⟨⟨_, h2⟩, _, h4⟩ := (key ys).1 hv
        have h2 : xs = ys := h2
        subst h2
        exact absurd (by rw [hR, str_eq (wireL_wf _)]; exact h4) e

set_option maxRecDepth 100000 in
set_option maxHeartbeats 3200000 in
theorem svread_any (s : ByteArray) (w : World) (hs : s.size ≤ 140737488351232) :
    Calls Tryd.prog 4 #[.string s] w fun e w' => VrAns w.heap.size (sb s) e w' ∧ Below w.heap.size w w' := by
  have hB0 : Below w.heap.size w (w.alloc (Obj.cells #[.slice none 0 0] 24)) := (Below.refl _ _).alloc (Nat.le_refl _) _
  go_enter Tryd.func4, Tryd.ntmps4
  go_wp2_with (first
    | (refine wpList_bytes8 _ rfl _ 9 31 5 rfl Tryd.underlying9 Tryd.underlying31 Tryd.underlying5 s rfl ?_; intro cap w2 g0 g1 g2 g3))
  have e1 : (w.alloc (Obj.cells #[.slice none 0 0] 24)).heap.size = w.heap.size + 1 := by simp
  have RR := row_of_bytes (w := w.alloc (Obj.cells #[.slice none 0 0] 24)) hs g0 g1 g3
  rw [e1] at RR g3
  have x2 := (g2.block w.heap.size (by rw [e1]; omega) (by simp)).trans (heap_alloc_new w _)
  have B2 : Below w.heap.size w w2 := hB0.grown g2 hB0.size (fun k hk => by cases hk)
  clear e1 g1 g2
  have B3 : Below w2.heap.size w2 (w2.alloc (Obj.cells #[.slice (some ⟨w.heap.size + 1, 0, none⟩) s.size cap, .int .i64 0, .bool true] 33)) := (Below.refl _ _).alloc (Nat.le_refl _) _
  have hC3 : C8 (w2.alloc (Obj.cells #[.slice (some ⟨w.heap.size + 1, 0, none⟩) s.size cap, .int .i64 0, .bool true] 33)) w2.heap.size (.slice (some ⟨w.heap.size + 1, 0, none⟩) s.size cap) 0 true := heap_alloc_new _ _
  have x3 := (B3.block w.heap.size (by omega)).trans x2
  have B03 := B2.trans (B3.mono B2.size)
  have HRD := s8read_any w2.heap.size _ (sb s) 0 true _ (RR.below B3) hC3 (by omega) (by omega)
  have s3 : (w2.alloc (Obj.cells #[.slice (some ⟨w.heap.size + 1, 0, none⟩) s.size cap, .int .i64 0, .bool true] 33)).heap.size = w2.heap.size + 1 := by simp
  obtain ⟨p, hp⟩ : ∃ p, Hid (sP (sb s) 0 true = p) := ⟨_, rfl⟩
  obtain ⟨xs, at_, k⟩ := p
  obtain ⟨b, hb⟩ : ∃ b, Hid (sOk (sb s) 0 true = b) := ⟨_, rfl⟩
  have HV := vr_by hp.out
  rw [hb.out] at HV
  rw [hp.out, hb.out] at HRD
  dsimp only at HRD
  refine HRD.mono ?_
  rintro e w4 ⟨vs, rfl, o4, c4, hg4, hz4⟩
  have x4 := (hg4.block w.heap.size (by rw [s3]; omega) (by simp; omega)).trans x3
  have B04 : Below w.heap.size w w4 := B03.grown hg4 B03.size (fun k hk => by simp at hk; omega)
  have hs4 : w2.heap.size + 1 ≤ w4.heap.size := by have := hg4.size; omega
  rw [s3] at o4
  have hw2 : w.heap.size + 1 < w2.heap.size := g3
  clear HRD hg4 x3 B03 hC3 B3 s3 hB0 x2 B2 g3 RR
  obtain ⟨av, cv, rfl⟩ := own_form o4
  have B5 : Below w4.heap.size w4 (w4.alloc (Obj.cells #[.slice av xs.length cv] 24)) := (Below.refl _ _).alloc (Nat.le_refl _) _
  have x5 := (B5.block _ (by omega)).trans x4
  have c5 := c4.below B5
  have o5 := own_below o4 B5
  have B05 := B04.trans (B5.mono B04.size)
  have y5 : (w4.alloc (Obj.cells #[.slice av xs.length cv] 24)).heap[w4.heap.size]? = some (.cells #[.slice av xs.length cv] 24 (0, 0)) := heap_alloc_new _ _
  have cok : (w4.alloc (Obj.cells #[.slice av xs.length cv] 24)).cell? ⟨w2.heap.size, 2, none⟩ = some (.bool b) := cell_of_row _ _ 2 _ _ _ c5
  have cp : (w4.alloc (Obj.cells #[.slice av xs.length cv] 24)).cell? ⟨w4.heap.size, 0, none⟩ = some (.slice av xs.length cv) := cell_of_row _ _ 0 _ _ _ y5
  cases b with
  | false =>
    have hN := HV.1 rfl
    have HA : Hid (vrL (sb s) = [] ∧ vrI (sb s) = 0 ∧ vrB (sb s) = false) := vr_no hN
    clear HV hN
    have r0 : (w4.alloc (Obj.cells #[.slice av xs.length cv] 24)).cell? ⟨w.heap.size, 0, none⟩ = some (.slice none 0 0) := cell_of_row (w4.alloc (Obj.cells #[.slice av xs.length cv] 24)) _ 0 _ _ _ x5
    have rf : (w4.alloc (Obj.cells #[.slice av xs.length cv] 24)).frozen? ⟨w.heap.size, 0, none⟩ = false := frozen_of_row (w4.alloc (Obj.cells #[.slice av xs.length cv] 24)) _ 0 _ _ x5
    have hset := heap_setCell_same (w4.alloc (Obj.cells #[.slice av xs.length cv] 24)) w.heap.size 0 _ _ (.slice none 0 0) x5
    have hBF := B05.setCell (p := ⟨w.heap.size, 0, none⟩) (Nat.le_refl _) (.slice none 0 0)
    go_wp2
    refine bodyPost_ret (results_row_2 rfl _ _ w.heap.size 24 _ (0, 0) _ rfl hset Tryd.underlying24 rfl Tryd.sizeP) rfl ⟨VrAns.intro (.slice none 0 0) ?_ ?_, hBF⟩
    · rw [HA.out.2.1, HA.out.2.2]; rfl
    · rw [HA.out.1]; exact World.ownsRow_nil _ _ _ _
  | true =>
    by_cases hxe : xs = []
    · have HA : Hid (vrL (sb s) = [] ∧ vrI (sb s) = 0 ∧ vrB (sb s) = false) := vr_no (HV.2.1 hxe)
      have hl0 : (xs.length : Int) = 0 := by rw [hxe]; rfl
      clear HV hxe
      have r0 : (w4.alloc (Obj.cells #[.slice av xs.length cv] 24)).cell? ⟨w.heap.size, 0, none⟩ = some (.slice none 0 0) := cell_of_row (w4.alloc (Obj.cells #[.slice av xs.length cv] 24)) _ 0 _ _ _ x5
      have rf : (w4.alloc (Obj.cells #[.slice av xs.length cv] 24)).frozen? ⟨w.heap.size, 0, none⟩ = false := frozen_of_row (w4.alloc (Obj.cells #[.slice av xs.length cv] 24)) _ 0 _ _ x5
      have hset := heap_setCell_same (w4.alloc (Obj.cells #[.slice av xs.length cv] 24)) w.heap.size 0 _ _ (.slice none 0 0) x5
      have hBF := B05.setCell (p := ⟨w.heap.size, 0, none⟩) (Nat.le_refl _) (.slice none 0 0)
      go_wp2
      refine bodyPost_ret (results_row_2 rfl _ _ w.heap.size 24 _ (0, 0) _ rfl hset Tryd.underlying24 rfl Tryd.sizeP) rfl ⟨VrAns.intro (.slice none 0 0) ?_ ?_, hBF⟩
      · rw [HA.out.2.1, HA.out.2.2]; rfl
      · rw [HA.out.1]; exact World.ownsRow_nil _ _ _ _
    · obtain ⟨⟨hpool, hvp⟩, hyes, hno⟩ := HV.2.2 rfl hxe
      have hpos := List.length_pos_iff.2 hxe
      have hlen := poolB_len hpool
      have hl0 : ¬ (xs.length : Int) = 0 := by omega
      have R5 : NRow (w4.alloc (Obj.cells #[.slice av xs.length cv] 24)) (.slice av xs.length cv) xs := NRow.of_own o5 (by omega) (ndok_max (pool_ndok hpool))
      have HK := svpack_any _ xs ((xs.length : Int) - 1) _ R5
      obtain ⟨tx, htx⟩ : ∃ tx, Hid (vpR xs ((xs.length : Int) - 1) = tx) := ⟨_, rfl⟩
      obtain ⟨tb, htb⟩ : ∃ tb, Hid (vpB xs ((xs.length : Int) - 1) = tb) := ⟨_, rfl⟩
      rw [htx.out, htb.out] at HK
      rw [htx.out] at hyes hno
      clear HV htx htb hvp
      go_wp2_with fail
      refine HK.mono ?_
      rintro e w6 ⟨rfl, hb6⟩
      have x6 := (hb6.block _ (Array.getElem?_eq_some_iff.1 x5).1).trans x5
      have y6 := (hb6.block _ (Array.getElem?_eq_some_iff.1 y5).1).trans y5
      have o6 := own_below o5 hb6
      have B06 := B05.trans (hb6.mono B05.size)
      clear HK hb6 B05 B5 B04 x4 x5 y5 o4 o5 c4 c5 cok cp R5
      by_cases heq : tx = s
      · have HA : Hid (vrL (sb s) = xs ∧ vrI (sb s) = (xs.length : Int) - 1 ∧ vrB (sb s) = true) := vr_yes (hyes heq)
        clear hyes hno
        have q0 : w6.cell? ⟨w4.heap.size, 0, none⟩ = some (.slice av xs.length cv) := cell_of_row w6 _ 0 _ _ _ y6
        have r0 : w6.cell? ⟨w.heap.size, 0, none⟩ = some (.slice none 0 0) := cell_of_row w6 _ 0 _ _ _ x6
        have rf : w6.frozen? ⟨w.heap.size, 0, none⟩ = false := frozen_of_row w6 _ 0 _ _ x6
        have hne : w4.heap.size ≠ w.heap.size := by omega
        have hset := heap_setCell_same w6 w.heap.size 0 _ _ (.slice av xs.length cv) x6
        have hBF := B06.setCell (p := ⟨w.heap.size, 0, none⟩) (Nat.le_refl _) (.slice av xs.length cv)
        have hoF := own_mono (ownsRow_setCell_below o6 (a := ⟨w.heap.size, 0, none⟩) (by show w.heap.size < w2.heap.size + 1; omega) (.slice av xs.length cv)) (show w.heap.size ≤ w2.heap.size + 1 by omega)
        go_wp2_with fail
        go_region
        all_goals
          go_wp2
          refine bodyPost_ret (results_row_2 rfl _ _ w.heap.size 24 _ (0, 0) _ rfl hset Tryd.underlying24 rfl Tryd.sizeP) rfl ⟨VrAns.intro (.slice av xs.length cv) ?_ ?_, hBF.drew⟩
          · rw [HA.out.2.1, HA.out.2.2]; rfl
          · rw [HA.out.1]; exact hoF
      · have HA : Hid (vrL (sb s) = [] ∧ vrI (sb s) = 0 ∧ vrB (sb s) = false) := vr_no (hno heq)
        have hl2 : (tx.toList == s.toList) = false := by
          rw [← Bool.not_eq_true, beq_iff_eq, ByteArray.toList_eq, ByteArray.toList_eq]
          intro h
          apply heq
          cases tx
          cases s
          congr 1
          exact Array.toList_inj.1 h
        clear hyes hno
        have r0 : w6.cell? ⟨w.heap.size, 0, none⟩ = some (.slice none 0 0) := cell_of_row w6 _ 0 _ _ _ x6
        have rf : w6.frozen? ⟨w.heap.size, 0, none⟩ = false := frozen_of_row w6 _ 0 _ _ x6
        have hset := heap_setCell_same w6 w.heap.size 0 _ _ (.slice none 0 0) x6
        have hBF := B06.setCell (p := ⟨w.heap.size, 0, none⟩) (Nat.le_refl _) (.slice none 0 0)
        go_wp2
        refine bodyPost_ret (results_row_2 rfl _ _ w.heap.size 24 _ (0, 0) _ rfl hset Tryd.underlying24 rfl Tryd.sizeP) rfl ⟨VrAns.intro (.slice none 0 0) ?_ ?_, hBF⟩
        · rw [HA.out.2.1, HA.out.2.2]; rfl
        · rw [HA.out.1]; exact World.ownsRow_nil _ _ _ _
end Go.Proofs.YtbgkofinmdpmcaaDoor

/-
  Contracts of the laws' own helpers toNode, toNodeS, toPool, szNode, szNodeS, szPool, eqNode, eqNodeS, eqPool.
-/
namespace Go.Proofs.YtbgkofinmdpmcaaDoor
open Go.RowKit

/-- How much room is left behind so many bytes; -1 when there is not as much. -/
def less (l n : Int) : Int := if l < n then -1 else l - n

set_option maxHeartbeats 800000 in
theorem eqnode_any (x : Nd) (w : World) :
    Calls Tryd.prog 27 #[.agg #[.int .i64 x.k, .int .i64 x.n, .string x.s, .int .i64 x.a, .int .i64 x.b], .agg #[.int .i64 x.k, .int .i64 x.n, .string x.s, .int .i64 x.a, .int .i64 x.b]] w fun e w' => e = .returned (.bool true) ∧ Below w.heap.size w w' := by
  go_enter Tryd.func27, Tryd.ntmps27
  go_wp2
  go_ret
  exact ⟨rfl, ((Below.refl _ _).alloc (Nat.le_refl _) _).alloc (by simp) _⟩

/-- The first j of xs, and zero nodes behind them. -/
def zeroN : Nd := ⟨0, 0, ByteArray.empty, 0, 0⟩
def ncopied (xs : List Nd) (j : Nat) : List Nd := xs.take j ++ List.replicate (xs.length - j) zeroN
theorem ncopied_length (xs : List Nd) (j : Nat) (h : j ≤ xs.length) : (ncopied xs j).length = xs.length := by simp [ncopied]; omega
theorem ncopied_full (xs : List Nd) : ncopied xs xs.length = xs := by simp [ncopied]
theorem ncs_zeros (n : Nat) : ncs (List.replicate n zeroN) = (madeCells #[Value.int .i64 0, .int .i64 0, .string ByteArray.empty, .int .i64 0, .int .i64 0] (n * 5)).toList := by
  apply List.ext_getElem?
  intro j
  by_cases hj : j < n * 5
  · have hq : j / 5 < n := by omega
    rw [show j = j / 5 * 5 + j % 5 by omega, ncs_get _ (j / 5) zeroN (by simp [hq]) (j % 5) (by omega)]
    rw [show j / 5 * 5 + j % 5 = j by omega]
    have h5 : j % 5 = 0 ∨ j % 5 = 1 ∨ j % 5 = 2 ∨ j % 5 = 3 ∨ j % 5 = 4 := by omega
    rcases h5 with h5 | h5 | h5 | h5 | h5 <;> simp [madeCells, hj, h5, zeroN, Nd.cs]
  · rw [List.getElem?_eq_none (by rw [ncs_length, List.length_replicate]; omega), List.getElem?_eq_none (by simp [madeCells]; omega)]
theorem ncopied_zero (xs : List Nd) : ncs (ncopied xs 0) = (madeCells #[Value.int .i64 0, .int .i64 0, .string ByteArray.empty, .int .i64 0, .int .i64 0] (xs.length * 5)).toList := by
  rw [← ncs_zeros]; simp [ncopied]
theorem ncopied_set (xs : List Nd) (j : Nat) (h : j < xs.length) : (ncopied xs j).set j xs[j] = ncopied xs (j + 1) := by
  unfold ncopied
  rw [show xs.length - j = xs.length - (j + 1) + 1 by omega, List.replicate_succ, List.take_succ_eq_append_getElem h]
  rw [List.set_append_right _ _ (by simp; omega)]
  have e : j - (List.take j xs).length = 0 := by simp; omega
  rw [e, List.set_cons_zero, List.append_assoc]
  rfl

theorem heap_alloc3_new (w : World) (A B C : Obj) : (((w.alloc A).alloc B).alloc C).heap[w.heap.size + 1 + 1]? = some C := by
  have h := heap_alloc_new ((w.alloc A).alloc B) C
  simpa using h

set_option maxHeartbeats 800000 in
theorem eqnodes_any (va vb : Value) (xs : List Nd) (w : World) (Ra : NRow w va xs) (Rb : NRow w vb xs) :
    Calls Tryd.prog 14 #[va, vb] w fun e w' => e = .returned (.bool true) ∧ Below w.heap.size w w' := by
  obtain ⟨aa, ca, rfl, hca, hm, hz, hcella⟩ := Ra
  obtain ⟨ab, cb, rfl, hcb, _, _, hcellb⟩ := Rb
  have hn : ((xs.length : Int) != (xs.length : Int)) = false := by simp
  go_enter Tryd.func14, Tryd.ntmps14
  go_wp2
  go_loopw [5] (fun i wr => ∃ k : Nat, k ≤ xs.length ∧ i = .int .i64 k ∧ Below w.heap.size w wr) (fun i _ => xs.length - (intOf i).toNat)
  case atStart => exact ⟨0, by omega, rfl, Below.refl _ _⟩
  case round =>
    obtain ⟨k, hk, rfl, hb⟩ := hrel
    by_cases hlt : k < xs.length
    · obtain ⟨ga, oa, rfl, hga, hcella⟩ := hcella (by intro e; subst e; simp at hlt)
      obtain ⟨gb, ob, rfl, hgb, hcellb⟩ := hcellb (by intro e; subst e; simp at hlt)
      obtain ⟨x, hx⟩ : ∃ x, xs[k]? = some x := ⟨xs[k], by simp [hlt]⟩
      obtain ⟨c0, c1, c2, c3, c4⟩ := (hcella k x hx).below hb hga
      obtain ⟨d0, d1, d2, d3, d4⟩ := (hcellb k x hx).below hb hgb
      clear hcella hcellb hx
      go_wp2_with fail
      go_region_with (go_at_call 27; refine (eqnode_any x _).mono ?_; rintro e w2 ⟨rfl, hb2⟩)
      all_goals
        have hB2 : Below w.heap.size w w2 := hb.drew.trans (hb2.mono hb.size)
        clear c0 c1 c2 c3 c4 d0 d1 d2 d3 d4 hb2
        go_wp2
        go_roundw
        case rel => exact ⟨k + 1, by omega, by go_num, hB2⟩
        case measure => simp [intOf]; omega
    · go_wp2
      go_ret
      exact ⟨rfl, hb⟩

set_option maxHeartbeats 400000 in
theorem eqpool_any (va vb : Value) (xs : List Nd) (w : World) (Ra : NRow w va xs) (Rb : NRow w vb xs) :
    Calls Tryd.prog 6 #[.agg #[va], .agg #[vb]] w fun e w' => e = .returned (.bool true) ∧ Below w.heap.size w w' := by
  have Ra' := Ra
  have Rb' := Rb
  obtain ⟨aa, ca, rfl, _⟩ := Ra'
  obtain ⟨ab, cb, rfl, _⟩ := Rb'
  go_enter Tryd.func6, Tryd.ntmps6
  go_wp2_with fail
  have hbel : Below w.heap.size w ((w.alloc (Obj.cells #[.slice aa xs.length ca] 24)).alloc (Obj.cells #[.slice ab xs.length cb] 24)) :=
    ((Below.refl _ _).alloc (Nat.le_refl _) _).alloc (by simp) _
  refine (eqnodes_any _ _ xs _ (Ra.below hbel) (Rb.below hbel)).mono ?_
  rintro e w2 ⟨rfl, hb2⟩
  have hB2 := hbel.trans (hb2.mono hbel.size)
  clear hbel hb2
  go_wp2
  go_ret
  exact ⟨rfl, hB2⟩

end Go.Proofs.YtbgkofinmdpmcaaDoor
