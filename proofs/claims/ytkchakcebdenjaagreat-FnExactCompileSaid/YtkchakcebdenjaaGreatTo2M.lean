/-
  Contracts of the laws' own helpers toNode, toNodeS, toPool, szNode, szNodeS, szPool, eqNode, eqNodeS, eqPool.
-/
import Derived.Test.YtkchakcebdenjaaGreatShapeM
import Derived.Deep.RegionWith
namespace Go.Proofs.YtkchakcebdenjaaGreat
open Go.RowKit
set_option maxHeartbeats 400000 in
theorem tonode_any (x : Nd) (w : World) :
    Calls Tryz.prog 65 #[.agg #[.int .i64 x.k, .int .i64 x.n, .string x.s, .int .i64 x.a, .int .i64 x.b]] w fun e w' => e = .returned (.agg #[.int .i64 x.k, .int .i64 x.n, .string x.s, .int .i64 x.a, .int .i64 x.b]) ∧ Below w.heap.size w w' := by
  go_enter Tryz.func65, Tryz.ntmps65
  go_wp2
  exact bodyPost_ret (results_cell_row rfl _ _ (w.heap.size + 1) 92 _ (0, 0) _ rfl ((heap_alloc_old _ _ (by simp)).trans (heap_alloc2_new _ _ _)) Tryz.underlying92 rfl Tryz.sizeN) rfl
    ⟨rfl, (((Below.refl _ _).alloc (Nat.le_refl _) _).alloc (by simp) _).alloc (by simp; omega) _⟩
def less (l n : Int) : Int := if l < n then -1 else l - n
set_option maxHeartbeats 400000 in
theorem sznode_any (x : Nd) (l : Int) (w : World) (hs : x.s.size ≤ maxLen) (hl : 0 ≤ l) (hl2 : l ≤ 1048576) :
    Calls Tryz.prog 55 #[.agg #[.int .i64 x.k, .int .i64 x.n, .string x.s, .int .i64 x.a, .int .i64 x.b], .int .i64 l] w fun e w' => e = .returned (.int .i64 (less l x.s.size)) ∧ Below w.heap.size w w' := by
  unfold maxLen at hs
  go_enter Tryz.func55, Tryz.ntmps55
  by_cases h : l < x.s.size
  · have HL : Hid (less l x.s.size = -1) := by unfold Hid less; rw [if_pos h]
    go_wp2
    go_ret
    exact ⟨by rw [HL.out]; rfl, (Below.refl _ _).alloc (Nat.le_refl _) _⟩
  · have HL : Hid (less l x.s.size = l - x.s.size) := by unfold Hid less; rw [if_neg h]
    go_wp2
    go_ret
    exact ⟨by rw [HL.out]; rfl, (Below.refl _ _).alloc (Nat.le_refl _) _⟩
set_option maxHeartbeats 800000 in
theorem eqnode_any (x : Nd) (w : World) :
    Calls Tryz.prog 73 #[.agg #[.int .i64 x.k, .int .i64 x.n, .string x.s, .int .i64 x.a, .int .i64 x.b], .agg #[.int .i64 x.k, .int .i64 x.n, .string x.s, .int .i64 x.a, .int .i64 x.b]] w fun e w' => e = .returned (.bool true) ∧ Below w.heap.size w w' := by
  go_enter Tryz.func73, Tryz.ntmps73
  go_wp2
  go_ret
  exact ⟨rfl, ((Below.refl _ _).alloc (Nat.le_refl _) _).alloc (by simp) _⟩
def zeroN : Nd := ⟨0, 0, ByteArray.empty, 0, 0⟩
def ncopied (xs : List Nd) (j : Nat) : List Nd := xs.take j ++ List.replicate (xs.length - j) zeroN
theorem ncopied_length (xs : List Nd) (j : Nat) (h : j ≤ xs.length) : (ncopied xs j).length = xs.length := by simp [ncopied]; omega
theorem ncopied_full (xs : List Nd) : ncopied xs xs.length = xs := by simp [ncopied]
theorem ncs_zeros (n : Nat) : ncs (List.replicate n zeroN) = (madeCells #[Value.int .i64 0, .int .i64 0, .string ByteArray.empty, .int .i64 0, .int .i64 0] (n * 5)).toList := by
  apply List.ext_getElem?
  intro j
  by_cases hj : j < n * 5
  · have hq : j / 5 < n := by omega
    rw [show j = j / 5 * 5 + j % 5 by omega, ncs_get _ (j / 5) zeroN (by simp [hq]) (j % 5) (by omega)]
    rw [show j / 5 * 5 + j % 5 = j by omega]
    have h5 : j % 5 = 0 ∨ j % 5 = 1 ∨ j % 5 = 2 ∨ j % 5 = 3 ∨ j % 5 = 4 := by omega
    rcases h5 with h5 | h5 | h5 | h5 | h5 <;> simp [madeCells, hj, h5, zeroN, Nd.cs]
  · rw [List.getElem?_eq_none (by rw [ncs_length, List.length_replicate]; omega), List.getElem?_eq_none (by simp [madeCells]; omega)]
theorem ncopied_zero (xs : List Nd) : ncs (ncopied xs 0) = (madeCells #[Value.int .i64 0, .int .i64 0, .string ByteArray.empty, .int .i64 0, .int .i64 0] (xs.length * 5)).toList := by
  rw [← ncs_zeros]; simp [ncopied]
theorem ncopied_set (xs : List Nd) (j : Nat) (h : j < xs.length) : (ncopied xs j).set j xs[j] = ncopied xs (j + 1) := by
  unfold ncopied
  rw [show xs.length - j = xs.length - (j + 1) + 1 by omega, List.replicate_succ, List.take_succ_eq_append_getElem h]
  rw [List.set_append_right _ _ (by simp; omega)]
  have e : j - (List.take j xs).length = 0 := by simp; omega
  rw [e, List.set_cons_zero, List.append_assoc]
  rfl
set_option maxHeartbeats 800000 in
theorem tonodes_any (v : Value) (xs : List Nd) (w : World) (R : NRow w v xs) (hm : xs.length ≤ 2097152) :
    Calls Tryz.prog 27 #[v] w fun e w' => ∃ v', e = .returned v' ∧ w'.ownsRow w.heap.size 92 5 v' xs.length (ncs xs) ∧ Below w.heap.size w w' := by
  obtain ⟨ao, cap, rfl, hcap, _, hz, hcell⟩ := R
  obtain ⟨i0, hi, hz0, hz1, hz2⟩ := info_parts Tryz.infoN
  have hbytes : i0.bytes * xs.length ≤ 281474976710656 := by rw [hz2]; omega
  have hmax : xs.length ≤ maxLen := by unfold maxLen; omega
  go_enter Tryz.func27, Tryz.ntmps27
  go_wp2_with (at_make; refine wpList_make_full _ rfl _ _ 27 rfl w.heap.size 92 i0 _ 5 Tryz.underlying27 hi hz0 hz1 _ _ _ _ xs.length rfl rfl rfl rfl hbytes hmax (Nat.le_refl _) ?_)
  intro w1 hown hgrow
  have hbel : Below w.heap.size w w1 := (Below.refl _ _).grown hgrow (Nat.le_refl _) (by intro k hk; cases hk)
  clear hgrow
  go_wp2
  go_loopw [4] (fun i wr => ∃ j : Nat, j ≤ xs.length ∧ i = .int .i64 j ∧ wr.ownsRow w.heap.size 92 5 (.slice (some ⟨w.heap.size, 0, none⟩) xs.length xs.length) xs.length (ncs (ncopied xs j)) ∧ Below w.heap.size w wr) (fun i _ => xs.length - (intOf i).toNat)
  case atStart => exact ⟨0, by omega, rfl, by rw [ncopied_zero]; exact hown, hbel⟩
  case round =>
    clear hown hbel hbytes hmax
    obtain ⟨j, hj, rfl, hown, hbel⟩ := hrel
    by_cases hlt : j < xs.length
    · obtain ⟨g, o, rfl, hg, hcell⟩ := hcell (by intro e; subst e; simp at hlt)
      obtain ⟨c0, c1, c2, c3, c4⟩ := (hcell j xs[j] (by simp [hlt])).below hbel hg
      have HC := ncopied_length xs j hj
      clear hcell
      go_wp2_with fail
      refine (tonode_any xs[j] _).mono ?_
      rintro e w2 ⟨rfl, hb2⟩
      have hown2 : w2.ownsRow w.heap.size 92 5 (.slice (some ⟨w.heap.size, 0, none⟩) (ncopied xs j).length xs.length) (ncopied xs j).length (ncs (ncopied xs j)) := by
        rw [HC]; exact own_below hown hb2
      have hB2 := hbel.trans (hb2.mono hbel.size)
      clear c0 c1 c2 c3 c4 hown hb2 hbel
      go_wp2_with (refine wpList_store_node rfl _ _ rfl w.heap.size w.heap.size j xs.length (ncopied xs j) xs[j] rfl rfl (by omega) hown2 ?_)
      intro w3 hown3 hg3
      rw [ncopied_set xs j hlt] at hown3
      have hB3 : Below w.heap.size w w3 := hB2.grown hg3 hB2.size (fun k hk => by simp at hk; omega)
      clear hown2 hg3
      go_wp2
      go_roundw
      case rel => exact ⟨j + 1, by omega, by go_num, hown3, hB3⟩
      case measure => simp [intOf]; omega
    · go_wp2
      go_ret
      have : j = xs.length := by omega
      subst this
      rw [ncopied_full] at hown
      exact ⟨_, rfl, hown, hbel⟩
theorem heap_alloc3_new (w : World) (A B C : Obj) : (((w.alloc A).alloc B).alloc C).heap[w.heap.size + 1 + 1]? = some C := by
  have h := heap_alloc_new ((w.alloc A).alloc B) C
  simpa using h
set_option maxHeartbeats 400000 in
theorem topool_any (v : Value) (xs : List Nd) (w : World) (R : NRow w v xs) (hm : xs.length ≤ 2097152) :
    Calls Tryz.prog 7 #[.agg #[v]] w fun e w' => ∃ v', e = .returned (.agg #[v']) ∧ w'.ownsRow w.heap.size 92 5 v' xs.length (ncs xs) ∧ Below w.heap.size w w' := by
  have R' := R
  obtain ⟨ao, cap, rfl, _⟩ := R'
  go_enter Tryz.func7, Tryz.ntmps7
  go_wp2_with fail
  have hbel : Below w.heap.size w (((w.alloc (Obj.cells #[.slice ao xs.length cap] 24)).alloc (Obj.cells #[.slice none 0 0] 29)).alloc (Obj.cells #[.slice none 0 0] 29)) :=
    (((Below.refl _ _).alloc (Nat.le_refl _) _).alloc (by simp) _).alloc (by simp; omega) _
  refine (tonodes_any _ xs _ (R.below hbel) hm).mono ?_
  rintro e w1 ⟨v', rfl, hown, hb1⟩
  obtain ⟨ao', cap', rfl⟩ := own_form hown
  have hbox : w1.heap[w.heap.size + 1 + 1]? = some (.cells #[.slice none 0 0] 29 (0, 0)) := (hb1.block _ (by simp)).trans (heap_alloc3_new _ _ _ _)
  have hbox2 : w1.heap[w.heap.size + 1]? = some (.cells #[.slice none 0 0] 29 (0, 0)) := (hb1.block _ (by simp)).trans ((heap_alloc_old _ _ (by simp)).trans (heap_alloc2_new _ _ _))
  have c2 : w1.cell? ⟨w.heap.size + 1 + 1, 0, none⟩ = some (.slice none 0 0) := by rw [cell_of_row w1 _ 0 _ _ _ hbox]; rfl
  have c1 : w1.cell? ⟨w.heap.size + 1, 0, none⟩ = some (.slice none 0 0) := by rw [cell_of_row w1 _ 0 _ _ _ hbox2]; rfl
  have f2 : w1.frozen? ⟨w.heap.size + 1 + 1, 0, none⟩ = false := frozen_of_row w1 _ 0 _ _ hbox
  have f1 : w1.frozen? ⟨w.heap.size + 1, 0, none⟩ = false := frozen_of_row w1 _ 0 _ _ hbox2
  have hB1 := hbel.trans (hb1.mono hbel.size)
  have hown1 : w1.ownsRow (w.heap.size + 3) 92 5 (.slice ao' xs.length cap') xs.length (ncs xs) := by simpa using hown
  go_wp2
  have hb3 := heap_setCell_same (w1.setCell ⟨w.heap.size + 1 + 1, 0, none⟩ (.slice ao' xs.length cap')) (w.heap.size + 1) 0 _ _ (.slice ao' xs.length cap') ((heap_setCell_other w1 ⟨w.heap.size + 1 + 1, 0, none⟩ (w.heap.size + 1) _ (by simp)).trans hbox2)
  refine bodyPost_ret (results_cell_row rfl _ _ (w.heap.size + 1) 29 _ (0, 0) _ rfl hb3 Tryz.underlying29 rfl (by kernel_rfl)) rfl ⟨_, rfl, ?_, ?_⟩
  · exact own_mono (ownsRow_setCell_below (ownsRow_setCell_below hown1 (by simp) _) (by simp) _) (by omega)
  · exact (hB1.setCell (p := ⟨w.heap.size + 1 + 1, 0, none⟩) (by simp; omega) _).setCell (p := ⟨w.heap.size + 1, 0, none⟩) (by simp) _
set_option maxHeartbeats 800000 in
theorem sznodes_any (v : Value) (xs : List Nd) (w : World) (R : NRow w v xs) :
    Calls Tryz.prog 21 #[v, .int .i64 1048576] w fun e w' => ∃ r : Int, e = .returned (.int .i64 r) ∧ -1 ≤ r ∧ r ≤ 1048576 ∧ (0 ≤ r → xs.length ≤ 1048576 ∧ ∀ x ∈ xs, x.s.size ≤ 1048576) ∧ Below w.heap.size w w' := by
  obtain ⟨ao, cap, rfl, hcap, hm, hz, hcell⟩ := R
  by_cases hlen : xs.length ≤ 1048576
  · go_enter Tryz.func21, Tryz.ntmps21
    go_wp2
    go_loopw [1, 5] (fun l i wr => ∃ (k : Nat) (r : Int), k ≤ xs.length ∧ i = .int .i64 k ∧ l = .int .i64 r ∧ 0 ≤ r ∧ r ≤ 1048576 ∧ Hid (∀ j x, xs[j]? = some x → j < k → x.s.size ≤ 1048576) ∧ Below w.heap.size w wr) (fun _ i _ => xs.length - (intOf i).toNat)
    case atStart => exact ⟨0, _, by omega, rfl, rfl, by omega, by omega, fun j x _ h => by omega, Below.refl _ _⟩
    case round =>
      obtain ⟨k, r, hk, rfl, rfl, hr0, hr1, HA, hb⟩ := hrel
      by_cases hlt : k < xs.length
      · obtain ⟨g, o, rfl, hg, hcell⟩ := hcell (by intro e; subst e; simp at hlt)
        obtain ⟨x, hx⟩ : ∃ x, xs[k]? = some x := ⟨xs[k], by simp [hlt]⟩
        obtain ⟨c0, c1, c2, c3, c4⟩ := (hcell k x hx).below hb hg
        have hxs := hz x (List.mem_of_getElem? hx)
        have HX : Hid (xs[k]? = some x) := hx
        clear hcell hx
        go_wp2_with fail
        refine (sznode_any x _ _ hxs hr0 hr1).mono ?_
        rintro e w2 ⟨rfl, hb2⟩
        have hB2 := hb.trans (hb2.mono hb.size)
        clear c0 c1 c2 c3 c4 hb2
        by_cases hl : r < x.s.size
        · rw [less, if_pos hl]
          go_wp2
          go_ret
          exact ⟨-1, rfl, by omega, by omega, fun h => by omega, hB2⟩
        · rw [less, if_neg hl]
          go_wp2
          go_roundw
          case rel =>
            refine ⟨k + 1, _, by omega, by go_num, rfl, by omega, by omega, fun j y hy hj => ?_, hB2⟩
            by_cases e : j = k
            · subst e
              rw [HX.out] at hy
              cases hy
              omega
            · exact HA.out j y hy (by omega)
          case measure => simp [intOf]; omega
      · go_wp2
        go_ret
        refine ⟨r, rfl, by omega, by omega, fun _ => ⟨hlen, fun x hx => ?_⟩, hb⟩
        obtain ⟨j, hj, e⟩ := List.getElem_of_mem hx
        exact HA.out j x (by rw [← e]; simp [hj]) (by omega)
  · go_enter Tryz.func21, Tryz.ntmps21
    go_wp2
    go_ret
    exact ⟨-1, rfl, by omega, by omega, fun h => by omega, Below.refl _ _⟩
set_option maxHeartbeats 800000 in
theorem eqnodes_any (va vb : Value) (xs : List Nd) (w : World) (Ra : NRow w va xs) (Rb : NRow w vb xs) :
    Calls Tryz.prog 35 #[va, vb] w fun e w' => e = .returned (.bool true) ∧ Below w.heap.size w w' := by
  obtain ⟨aa, ca, rfl, hca, hm, hz, hcella⟩ := Ra
  obtain ⟨ab, cb, rfl, hcb, _, _, hcellb⟩ := Rb
  have hn : ((xs.length : Int) != (xs.length : Int)) = false := by simp
  go_enter Tryz.func35, Tryz.ntmps35
  go_wp2
  go_loopw [5] (fun i wr => ∃ k : Nat, k ≤ xs.length ∧ i = .int .i64 k ∧ Below w.heap.size w wr) (fun i _ => xs.length - (intOf i).toNat)
  case atStart => exact ⟨0, by omega, rfl, Below.refl _ _⟩
  case round =>
    obtain ⟨k, hk, rfl, hb⟩ := hrel
    by_cases hlt : k < xs.length
    · obtain ⟨ga, oa, rfl, hga, hcella⟩ := hcella (by intro e; subst e; simp at hlt)
      obtain ⟨gb, ob, rfl, hgb, hcellb⟩ := hcellb (by intro e; subst e; simp at hlt)
      obtain ⟨x, hx⟩ : ∃ x, xs[k]? = some x := ⟨xs[k], by simp [hlt]⟩
      obtain ⟨c0, c1, c2, c3, c4⟩ := (hcella k x hx).below hb hga
      obtain ⟨d0, d1, d2, d3, d4⟩ := (hcellb k x hx).below hb hgb
      clear hcella hcellb hx
      go_wp2_with fail
      go_region_with (go_at_call 73; refine (eqnode_any x _).mono ?_; rintro e w2 ⟨rfl, hb2⟩)
      all_goals
        have hB2 : Below w.heap.size w w2 := hb.drew.trans (hb2.mono hb.size)
        clear c0 c1 c2 c3 c4 d0 d1 d2 d3 d4 hb2
        go_wp2
        go_roundw
        case rel => exact ⟨k + 1, by omega, by go_num, hB2⟩
        case measure => simp [intOf]; omega
    · go_wp2
      go_ret
      exact ⟨rfl, hb⟩
set_option maxHeartbeats 400000 in
theorem eqpool_any (va vb : Value) (xs : List Nd) (w : World) (Ra : NRow w va xs) (Rb : NRow w vb xs) :
    Calls Tryz.prog 11 #[.agg #[va], .agg #[vb]] w fun e w' => e = .returned (.bool true) ∧ Below w.heap.size w w' := by
  have Ra' := Ra
  have Rb' := Rb
  obtain ⟨aa, ca, rfl, _⟩ := Ra'
  obtain ⟨ab, cb, rfl, _⟩ := Rb'
  go_enter Tryz.func11, Tryz.ntmps11
  go_wp2_with fail
  have hbel : Below w.heap.size w ((w.alloc (Obj.cells #[.slice aa xs.length ca] 29)).alloc (Obj.cells #[.slice ab xs.length cb] 29)) :=
    ((Below.refl _ _).alloc (Nat.le_refl _) _).alloc (by simp) _
  refine (eqnodes_any _ _ xs _ (Ra.below hbel) (Rb.below hbel)).mono ?_
  rintro e w2 ⟨rfl, hb2⟩
  have hB2 := hbel.trans (hb2.mono hbel.size)
  clear hbel hb2
  go_wp2
  go_ret
  exact ⟨rfl, hB2⟩
set_option maxHeartbeats 400000 in
theorem szpool_any (v : Value) (xs : List Nd) (w : World) (R : NRow w v xs) :
    Calls Tryz.prog 5 #[.agg #[v], .int .i64 1048576] w fun e w' => ∃ r : Int, e = .returned (.int .i64 r) ∧ -1 ≤ r ∧ r ≤ 1048576 ∧ (0 ≤ r → xs.length ≤ 1048576 ∧ ∀ x ∈ xs, x.s.size ≤ 1048576) ∧ Below w.heap.size w w' := by
  have R' := R
  obtain ⟨ao, cap, rfl, _⟩ := R'
  go_enter Tryz.func5, Tryz.ntmps5
  go_wp2_with fail
  have hbel : Below w.heap.size w (w.alloc (Obj.cells #[.slice ao xs.length cap] 24)) := (Below.refl _ _).alloc (Nat.le_refl _) _
  refine (sznodes_any _ xs _ (R.below hbel)).mono ?_
  rintro e w1 ⟨r, rfl, h0, h1, h2, hb1⟩
  have hB1 := hbel.trans (hb1.mono hbel.size)
  clear hbel hb1
  by_cases hr : r < 0
  · have HR : Hid (r = -1) := by unfold Hid; omega
    go_wp2
    go_ret
    exact ⟨-1, rfl, by omega, by omega, fun h => by omega, hB1⟩
  · go_wp2
    go_ret
    exact ⟨r, rfl, h0, h1, h2, hB1⟩
end Go.Proofs.YtkchakcebdenjaaGreat
