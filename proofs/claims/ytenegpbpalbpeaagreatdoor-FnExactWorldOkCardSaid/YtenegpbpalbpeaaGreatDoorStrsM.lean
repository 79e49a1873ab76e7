/-
  Texts that stood by themselves, laid into one.
-/
import Derived.Test.YtenegpbpalbpeaaGreatDoorBsM
import Derived.Test.YtenegpbpalbpeaaGreatDoorTo2M
import Derived.Test.YtenegpbpalbpeaaGreatDoorNameM
import Derived.Deep.RegionWith
/-
  Contracts of the laws' own helpers markNodeS, heldNodeS, markPool, heldPool: what is marked in a slice of the call's own is found there.
-/
namespace Go.Proofs.YtenegpbpalbpeaaGreatDoor
open Go.RowKit
def mk (k : Int) : Nd := ⟨k, k + 1, mt (k + 1 + 1), k + 1 + 1 + 1, k + 1 + 1 + 1 + 1⟩
def nmarked (k : Int) (xs : List Nd) (i : Nat) : List Nd := (List.range i).map (fun (j : Nat) => mk (k + 5 * (j : Int))) ++ xs.drop i
end Go.Proofs.YtenegpbpalbpeaaGreatDoor
/-
  Helpers: a slice of texts read as a list, and the contracts of the laws' helpers on such slices. No condition.
-/
namespace Go.Proofs.YtenegpbpalbpeaaGreatDoor
open Go.RowKit
def stv (xs : List ByteArray) : List Value := xs.map Value.string
theorem stv_get (xs : List ByteArray) (i : Nat) (x : ByteArray) (h : xs[i]? = some x) : (stv xs)[i]? = some (.string x) := by simp [stv, h]
theorem stv_set (xs : List ByteArray) (i : Nat) (x : ByteArray) : (stv xs).set i (.string x) = stv (xs.set i x) := by simp [stv, List.map_set]
theorem below_dN (w : World) (n : Nat) : Below w.heap.size w (w.drewN n) := ⟨rfl, rfl, rfl, Nat.le_refl _, fun _ _ => rfl⟩
def StRow (w : World) (v : Value) (xs : List ByteArray) : Prop :=
  ∃ ao cap, v = .slice ao xs.length cap ∧ (xs.length ≤ cap ∧ (ao = none → cap = 0)) ∧ xs.length ≤ 9223372036854775807 ∧ (∀ x ∈ xs, x.size ≤ maxLen) ∧
    (xs ≠ [] → ∃ g o, ao = some ⟨g, o, none⟩ ∧ g < w.heap.size ∧ ∀ i x, xs[i]? = some x → w.cell? ⟨g, o + i, none⟩ = some (.string x))
theorem StRow.small {w : World} {v : Value} {xs : List ByteArray} (R : StRow w v xs) : ∃ ao cap, v = .slice ao xs.length cap := by
  obtain ⟨ao, cap, rfl, _⟩ := R
  exact ⟨ao, cap, rfl⟩
theorem StRow.sz {w : World} {v : Value} {xs : List ByteArray} (R : StRow w v xs) : ∀ x ∈ xs, x.size ≤ maxLen := by obtain ⟨_, _, _, _, _, hz, _⟩ := R; exact hz
theorem StRow.le {w : World} {v : Value} {xs : List ByteArray} (R : StRow w v xs) : xs.length ≤ 9223372036854775807 := by obtain ⟨_, _, _, _, h, _⟩ := R; exact h
theorem StRow.below {w w' : World} {v : Value} {xs : List ByteArray} (h : StRow w v xs) (hb : Below w.heap.size w w') : StRow w' v xs := by
  obtain ⟨ao, cap, rfl, hc, hm, hz, hcell⟩ := h
  refine ⟨ao, cap, rfl, hc, hm, hz, fun hne => ?_⟩
  obtain ⟨g, o, rfl, hg, hcell⟩ := hcell hne
  exact ⟨g, o, rfl, Nat.lt_of_lt_of_le hg hb.size, fun i x hi => (hb.cell (p := ⟨g, o + i, none⟩) hg).trans (hcell i x hi)⟩
theorem StRow.nilcap {w : World} {ao : Option Addr} {n cap : Nat} {xs : List ByteArray} (h : StRow w (.slice ao n cap) xs) : ao = none → n = 0 ∧ cap = 0 := by
  obtain ⟨ao', cap', e, ⟨h1, h2⟩, _⟩ := h
  simp only [Value.slice.injEq] at e
  obtain ⟨rfl, rfl, rfl⟩ := e
  intro h
  have := h2 h
  omega
theorem StRow.cells {w : World} {ao : Option Addr} {n cap : Nat} {xs : List ByteArray} (h : StRow w (.slice ao n cap) xs) : ∀ ad, ao = some ad → ∀ j u, (stv xs)[j]? = some u → w.cell? (ad.add j) = some u := by
  obtain ⟨ao', cap', e, _, _, _, hc⟩ := h
  simp only [Value.slice.injEq] at e
  obtain ⟨rfl, rfl, rfl⟩ := e
  intro ad had j u hu
  simp only [stv, List.getElem?_map, Option.map_eq_some_iff] at hu
  obtain ⟨x, hx, rfl⟩ := hu
  obtain ⟨g, o, e, _, hcell⟩ := hc (by intro e; subst e; simp at hx)
  rw [had] at e
  cases e
  rw [Addr.add_lit]
  exact hcell j x hx
theorem StRow.of_own {w : World} {base : Nat} {v : Value} {xs : List ByteArray} (h : w.ownsRow base 9 1 v xs.length (stv xs)) (hm : xs.length ≤ 9223372036854775807) (hz : ∀ x ∈ xs, x.size ≤ maxLen) : StRow w v xs := by
  rcases h.2 with ⟨rfl, h0⟩ | ⟨g, cap, cur, rfl, hb, hg, hnc, hcm, hcs, htake⟩
  · have : xs = [] := List.eq_nil_of_length_eq_zero h0
    subst this
    exact ⟨none, 0, rfl, by simp, by simp, by simp, fun h => absurd rfl h⟩
  · refine ⟨_, cap, rfl, ⟨hnc, fun h => by cases h⟩, hm, hz, fun _ => ⟨g, 0, rfl, (Array.getElem?_eq_some_iff.1 hg).1, fun i x hi => ?_⟩⟩
    have hl : i < xs.length := (List.getElem?_eq_some_iff.1 hi).1
    have := h.cellAt i (by omega)
    rw [Nat.zero_add, this, stv_get xs i x hi]
theorem Tryz.infoStr : (Tryz.prog.info? 9).map (fun i => (i.zero, i.size, i.bytes)) = some (some (.string ByteArray.empty), 1, 16) := by kernel_rfl
def stcopied (xs : List ByteArray) (j : Nat) : List ByteArray := xs.take j ++ List.replicate (xs.length - j) ByteArray.empty
theorem stcopied_length (xs : List ByteArray) (j : Nat) (h : j ≤ xs.length) : (stcopied xs j).length = xs.length := by simp [stcopied]; omega
theorem stcopied_full (xs : List ByteArray) : stcopied xs xs.length = xs := by simp [stcopied]
theorem stcopied_zero (xs : List ByteArray) : stv (stcopied xs 0) = (madeCells #[.string ByteArray.empty] xs.length).toList := by
  apply List.ext_getElem?
  intro j
  by_cases hj : j < xs.length
  · simp [stcopied, stv, madeCells, hj, Nat.mod_one]
  · simp [stcopied, stv, madeCells, hj]
theorem stcopied_set (xs : List ByteArray) (j : Nat) (h : j < xs.length) : (stcopied xs j).set j xs[j] = stcopied xs (j + 1) := by
  unfold stcopied
  rw [show xs.length - j = xs.length - (j + 1) + 1 by omega, List.replicate_succ, List.take_succ_eq_append_getElem h]
  rw [List.set_append_right _ _ (by simp; omega)]
  have e : j - (List.take j xs).length = 0 := by simp; omega
  rw [e, List.set_cons_zero, List.append_assoc]
  rfl
set_option maxHeartbeats 800000 in
theorem tostrs_any (v : Value) (xs : List ByteArray) (w : World) (R : StRow w v xs) (hm : xs.length ≤ 2097152) :
    Calls Tryz.prog 88 #[v] w fun e w' => ∃ v', e = .returned v' ∧ w'.ownsRow w.heap.size 9 1 v' xs.length (stv xs) ∧ Below w.heap.size w w' := by
  obtain ⟨ao, cap, rfl, hcap, _, hz, hcell⟩ := R
  obtain ⟨i0, hi, hz0, hz1, hz2⟩ := info_parts Tryz.infoStr
  have hbytes : i0.bytes * xs.length ≤ 281474976710656 := by rw [hz2]; omega
  have hmax : xs.length ≤ maxLen := by unfold maxLen; omega
  go_enter Tryz.func88, Tryz.ntmps88
  go_wp2_with (at_make; refine wpList_make_full _ rfl _ _ 86 rfl w.heap.size 9 i0 _ 1 Tryz.underlying86 hi hz0 hz1 _ _ _ _ xs.length rfl rfl rfl rfl hbytes hmax (Nat.le_refl _) ?_)
  intro w1 hown hgrow
  have hbel : Below w.heap.size w w1 := (Below.refl _ _).grown hgrow (Nat.le_refl _) (by intro k hk; cases hk)
  clear hgrow
  go_wp2
  go_loopw [4] (fun i wr => ∃ j : Nat, j ≤ xs.length ∧ i = .int .i64 j ∧ wr.ownsRow w.heap.size 9 1 (.slice (some ⟨w.heap.size, 0, none⟩) xs.length xs.length) xs.length (stv (stcopied xs j)) ∧ Below w.heap.size w wr) (fun i _ => xs.length - (intOf i).toNat)
  case atStart => exact ⟨0, by omega, rfl, by rw [stcopied_zero]; exact hown, hbel⟩
  case round =>
    clear hown hbel hbytes hmax
    obtain ⟨j, hj, rfl, hown, hbel⟩ := hrel
    by_cases hlt : j < xs.length
    · obtain ⟨g, o, rfl, hg, hcell⟩ := hcell (by intro e; subst e; simp at hlt)
      have c0 := (hbel.cell (p := ⟨g, o + j, none⟩) hg).trans (hcell j xs[j] (by simp [hlt]))
      have d0 := hown.cellAt j (by omega)
      obtain ⟨y, hy⟩ : ∃ y, (stcopied xs j)[j]? = some y := ⟨_, List.getElem?_eq_getElem (by rw [stcopied_length _ _ hj]; exact hlt)⟩
      rw [stv_get _ j y hy] at d0
      have f0 := hown.frozenAt j
      have s0 := hown.stored j (.string xs[j])
      rw [stv_set, stcopied_set xs j hlt] at s0
      have hB3 : Below w.heap.size w (wr.setCell ⟨w.heap.size, j, none⟩ (.string xs[j])) := hbel.setCell (p := ⟨w.heap.size, j, none⟩) (by simp) _
      have S0 := s0.1
      clear hcell hown s0 hy
      generalize xs[j] = x at *
      go_wp2
      go_roundw
      case rel => exact ⟨j + 1, by omega, by go_num, S0, hB3⟩
      case measure => simp [intOf]; omega
    · go_wp2
      go_ret
      have : j = xs.length := by omega
      subst this
      rw [stcopied_full] at hown
      exact ⟨_, rfl, hown, hbel⟩
set_option maxHeartbeats 800000 in
theorem szstrs_any (v : Value) (xs : List ByteArray) (l : Int) (w : World) (R : StRow w v xs) (hl0 : 0 ≤ l) (hl1 : l ≤ 1048576) :
    Calls Tryz.prog 77 #[v, .int .i64 l] w fun e w' => ∃ r : Int, e = .returned (.int .i64 r) ∧ -1 ≤ r ∧ r ≤ 1048576 ∧ (0 ≤ r → xs.length ≤ 1048576 ∧ ∀ x ∈ xs, x.size ≤ 1048576) ∧ Below w.heap.size w w' := by
  obtain ⟨ao, cap, rfl, hcap, hm, hz, hcell⟩ := R
  by_cases hlen : (xs.length : Int) ≤ l
  · go_enter Tryz.func77, Tryz.ntmps77
    go_wp2
    go_loopw [1, 5] (fun l i wr => ∃ (k : Nat) (r : Int), k ≤ xs.length ∧ i = .int .i64 k ∧ l = .int .i64 r ∧ 0 ≤ r ∧ r ≤ 1048576 ∧ Hid (∀ j x, xs[j]? = some x → j < k → x.size ≤ 1048576) ∧ Below w.heap.size w wr) (fun _ i _ => xs.length - (intOf i).toNat)
    case atStart => exact ⟨0, _, by omega, rfl, rfl, by omega, by omega, fun j x _ h => by omega, Below.refl _ _⟩
    case round =>
      obtain ⟨k, r, hk, rfl, rfl, hr0, hr1, HA, hb⟩ := hrel
      by_cases hlt : k < xs.length
      · obtain ⟨g, o, rfl, hg, hcell⟩ := hcell (by intro e; subst e; simp at hlt)
        obtain ⟨x, hx⟩ : ∃ x, xs[k]? = some x := ⟨xs[k], by simp [hlt]⟩
        have c0 := (hb.cell (p := ⟨g, o + k, none⟩) hg).trans (hcell k x hx)
        have hxs := hz x (List.mem_of_getElem? hx)
        unfold maxLen at hxs
        have HX : Hid (xs[k]? = some x) := hx
        clear hcell hx
        by_cases hl : r < x.size
        · go_wp2
          go_ret
          exact ⟨-1, rfl, by omega, by omega, fun h => by omega, hb⟩
        · go_wp2
          go_roundw
          case rel =>
            refine ⟨k + 1, _, by omega, by go_num, rfl, by omega, by omega, fun j y hy hj => ?_, hb⟩
            by_cases e : j = k
            · subst e
              rw [HX.out] at hy
              cases hy
              omega
            · exact HA.out j y hy (by omega)
          case measure => simp [intOf]; omega
      · go_wp2
        go_ret
        refine ⟨r, rfl, by omega, by omega, fun _ => ⟨by omega, fun x hx => ?_⟩, hb⟩
        obtain ⟨j, hj, e⟩ := List.getElem_of_mem hx
        exact HA.out j x (by rw [← e]; simp [hj]) (by omega)
  · go_enter Tryz.func77, Tryz.ntmps77
    go_wp2
    go_ret
    exact ⟨-1, rfl, by omega, by omega, fun h => by omega, Below.refl _ _⟩
set_option maxHeartbeats 800000 in
theorem eqstrs_any (va vb : Value) (xs : List ByteArray) (w : World) (Ra : StRow w va xs) (Rb : StRow w vb xs) :
    Calls Tryz.prog 100 #[va, vb] w fun e w' => e = .returned (.bool true) ∧ Below w.heap.size w w' := by
  obtain ⟨aa, ca, rfl, hca, hm, hz, hcella⟩ := Ra
  obtain ⟨ab, cb, rfl, hcb, _, _, hcellb⟩ := Rb
  have hn : ((xs.length : Int) != (xs.length : Int)) = false := by simp
  go_enter Tryz.func100, Tryz.ntmps100
  go_wp2
  go_loopw [5] (fun i wr => ∃ k : Nat, k ≤ xs.length ∧ i = .int .i64 k ∧ Below w.heap.size w wr) (fun i _ => xs.length - (intOf i).toNat)
  case atStart => exact ⟨0, by omega, rfl, Below.refl _ _⟩
  case round =>
    obtain ⟨k, hk, rfl, hb⟩ := hrel
    by_cases hlt : k < xs.length
    · obtain ⟨ga, oa, rfl, hga, hcella⟩ := hcella (by intro e; subst e; simp at hlt)
      obtain ⟨gb, ob, rfl, hgb, hcellb⟩ := hcellb (by intro e; subst e; simp at hlt)
      obtain ⟨x, hx⟩ : ∃ x, xs[k]? = some x := ⟨xs[k], by simp [hlt]⟩
      have c0 := (hb.cell (p := ⟨ga, oa + k, none⟩) hga).trans (hcella k x hx)
      have d0 := (hb.cell (p := ⟨gb, ob + k, none⟩) hgb).trans (hcellb k x hx)
      clear hcella hcellb hx
      go_wp2
      go_quiet (fail)
      go_wp2
      go_roundw
      case rel => exact ⟨k + 1, by omega, by go_num, hb.trans ((below_dN wr _).mono hb.size)⟩
      case measure => simp [intOf]; omega
    · go_wp2
      go_ret
      exact ⟨rfl, hb⟩
def sm (k : Int) (n : Nat) : List ByteArray := (List.range n).map fun (j : Nat) => mt (k + (j : Int))
def smid (k : Int) (pre xs post : List ByteArray) (j : Nat) : List ByteArray := pre ++ (sm k j ++ (xs.drop j ++ post))
end Go.Proofs.YtenegpbpalbpeaaGreatDoor
