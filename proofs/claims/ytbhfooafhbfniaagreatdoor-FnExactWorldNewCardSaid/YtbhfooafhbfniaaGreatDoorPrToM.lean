/-
  Texts that stood by themselves, laid into one.
-/
import Derived.Test.YtbhfooafhbfniaaGreatDoorBsM
import Derived.Test.YtbhfooafhbfniaaGreatDoorShapeM
import Derived.Deep.RegionWith
import Derived.Test.YtbhfooafhbfniaaGreatDoorNodeFitsM
import Derived.Deep.MidRow
/-
  Contracts of the laws' own helpers markNodeS, heldNodeS, markPool, heldPool: what is marked in a slice of the call's own is found there.
-/
namespace Go.Proofs.YtbhfooafhbfniaaGreatDoor
open Go.RowKit
def mk (k : Int) : Nd := ⟨k, k + 1, mt (k + 1 + 1), k + 1 + 1 + 1, k + 1 + 1 + 1 + 1⟩
def nmarked (k : Int) (xs : List Nd) (i : Nat) : List Nd := (List.range i).map (fun (j : Nat) => mk (k + 5 * (j : Int))) ++ xs.drop i
theorem nmarked_zero (k : Int) (xs : List Nd) : nmarked k xs 0 = xs := by simp [nmarked]
theorem nmarked_length (k : Int) (xs : List Nd) (i : Nat) (h : i ≤ xs.length) : (nmarked k xs i).length = xs.length := by simp [nmarked]; omega
theorem nmarked_at (k : Int) (xs : List Nd) (i : Nat) (h : i < xs.length) : (nmarked k xs i)[i]? = some xs[i] := by
  unfold nmarked
  rw [List.getElem?_append_right (by simp)]
  simp [h]
theorem nmarked_set (k : Int) (xs : List Nd) (i : Nat) (h : i < xs.length) : (nmarked k xs i).set i (mk (k + 5 * (i : Int))) = nmarked k xs (i + 1) := by
  unfold nmarked
  rw [List.range_succ, List.map_append, List.set_append_right _ _ (by simp), List.drop_eq_getElem_cons h, List.append_assoc]
  have e : i - (List.map (fun (j : Nat) => mk (k + 5 * (j : Int))) (List.range i)).length = 0 := by simp
  rw [e]
  rfl
theorem nmarked_get (k : Int) (xs : List Nd) (i : Nat) (h : i < xs.length) : (nmarked k xs xs.length)[i]? = some (mk (k + 5 * (i : Int))) := by
  simp [nmarked, h]
theorem mtGo_size (f k : Nat) (out : ByteArray) : (mtGo f k out).size ≤ out.size + k := by
  induction f generalizing k out with
  | zero => simp [mtGo]
  | succ f ih =>
    simp only [mtGo]
    split
    · omega
    · have := ih (k / 10) (strOfNums [48 + (k : Int) % 10] ++ out)
      rw [ByteArray.size_append, digit_size] at this
      omega
theorem mt_size (k : Int) (h : k ≤ 4611686018427387904) : (mt k).size ≤ maxLen := by
  unfold mt maxLen
  split
  · decide
  · rw [ByteArray.size_append]
    have := mtGo_size k.toNat k.toNat ⟨#[]⟩
    have e : (⟨#[109]⟩ : ByteArray).size = 1 := rfl
    have e' : (⟨#[]⟩ : ByteArray).size = 0 := rfl
    rw [e'] at this
    rw [e]
    omega
set_option maxHeartbeats 1600000 in
theorem marknodes_any (v : Value) (k : Int) (base : Nat) (xs : List Nd) (w : World) (h : w.ownsRow base 130 5 v xs.length (ncs xs)) (hm : xs.length ≤ 4194304) (hk0 : 0 ≤ k) (hk : k ≤ 2305843009213693952) :
    Calls Tryz.prog 68 #[v, .int .i64 k] w fun e w' => e = .returned (.int .i64 (k + 5 * xs.length)) ∧ w'.ownsRow base 130 5 v xs.length (ncs (nmarked k xs xs.length)) ∧ w.grownBy w' v.ownBlock := by
  rcases h.2 with ⟨rfl, h0⟩ | ⟨g, cap, cur, rfl, hb, hg, hnc, hcm, hcs, htake⟩
  · have : xs = [] := List.eq_nil_of_length_eq_zero h0
    subst this
    go_enter Tryz.func68, Tryz.ntmps68
    go_wp2
    refine wp_loop_rounds 1 ?_
    rw [rounds_succ]
    go_wp2
    go_ret
    exact ⟨by simp, h, World.grownBy.refl _ _⟩
  · clear hg hcs htake
    go_enter Tryz.func68, Tryz.ntmps68
    go_wp2
    go_loopw [1, 5] (fun q i wr => ∃ j : Nat, j ≤ xs.length ∧ i = .int .i64 j ∧ q = .int .i64 (k + 5 * (j : Int)) ∧ wr.ownsRow base 130 5 (.slice (some ⟨g, 0, none⟩) xs.length cap) xs.length (ncs (nmarked k xs j)) ∧ w.grownBy wr (some g)) (fun _ i _ => xs.length - (intOf i).toNat)
    case atStart => exact ⟨0, by omega, rfl, by simp, by rw [nmarked_zero]; exact h, World.grownBy.refl _ _⟩
    case round =>
      obtain ⟨j, hj, rfl, rfl, hown, hbel⟩ := hrel
      by_cases hlt : j < xs.length
      · have hgs : g < wr.heap.size := (hown.lt g rfl).2
        have hcell : ∀ i, i < 5 → (wr.cell? ⟨g, j * 5 + i, none⟩) = xs[j].cs[i]? := fun i hi => by
          have := hown.cellAt (j * 5 + i) (by omega)
          rw [this, ncs_get _ j _ (nmarked_at k xs j hlt) i hi]
        have c0 := hcell 0 (by omega)
        have c1 := hcell 1 (by omega)
        simp only [Nd.cs, List.getElem?_cons_succ, List.getElem?_cons_zero, Nat.add_zero] at c0 c1
        have f0 := hown.frozenAt (j * 5)
        have f1 := hown.frozenAt (j * 5 + 1)
        have get : ∀ y : Nd, ((nmarked k xs j).set j y)[j]? = some y := fun y => by rw [List.getElem?_set_self (by rw [nmarked_length _ _ _ hj]; exact hlt)]
        have s0 := hown.stored (j * 5) (.int .i64 (k + 5 * (j : Int)))
        rw [ncs_set0 _ j xs[j] ⟨k + 5 * (j : Int), xs[j].n, xs[j].s, xs[j].a, xs[j].b⟩ (nmarked_at k xs j hlt) _ rfl] at s0
        have s1 := s0.1.stored (j * 5 + 1) (.int .i64 (k + 5 * (j : Int) + 1))
        rw [ncs_set ((nmarked k xs j).set j ⟨k + 5 * (j : Int), xs[j].n, xs[j].s, xs[j].a, xs[j].b⟩) j ⟨k + 5 * (j : Int), xs[j].n, xs[j].s, xs[j].a, xs[j].b⟩ ⟨k + 5 * (j : Int), k + 5 * (j : Int) + 1, xs[j].s, xs[j].a, xs[j].b⟩ (get _) 1 (by omega) _ rfl, List.set_set] at s1
        have hB1 := (hbel.trans s0.2).trans s1.2
        clear hcell
        go_wp2_with fail
        refine (marktext_any _ _ (by omega)).mono ?_
        rintro e w2 ⟨rfl, hb2⟩
        have hown2 := own_below s1.1 hb2
        have hB2 := hB1.trans (grown_below2 hb2 (some g))
        have hcell : ∀ i, i < 5 → (w2.cell? ⟨g, j * 5 + i, none⟩) = (Nd.cs ⟨k + 5 * (j : Int), k + 5 * (j : Int) + 1, xs[j].s, xs[j].a, xs[j].b⟩)[i]? := fun i hi => by
          have := hown2.cellAt (j * 5 + i) (by omega)
          rw [this, ncs_get _ j _ (get _) i hi]
        have d2 := hcell 2 (by omega)
        have d3 := hcell 3 (by omega)
        have d4 := hcell 4 (by omega)
        simp only [Nd.cs, List.getElem?_cons_succ, List.getElem?_cons_zero] at d2 d3 d4
        have e2 := hown2.frozenAt (j * 5 + 2)
        have e3 := hown2.frozenAt (j * 5 + 3)
        have e4 := hown2.frozenAt (j * 5 + 4)
        have s2 := hown2.stored (j * 5 + 2) (.string (mt (k + 5 * (j : Int) + 1 + 1)))
        rw [ncs_set ((nmarked k xs j).set j ⟨k + 5 * (j : Int), k + 5 * (j : Int) + 1, xs[j].s, xs[j].a, xs[j].b⟩) j ⟨k + 5 * (j : Int), k + 5 * (j : Int) + 1, xs[j].s, xs[j].a, xs[j].b⟩ ⟨k + 5 * (j : Int), k + 5 * (j : Int) + 1, mt (k + 5 * (j : Int) + 1 + 1), xs[j].a, xs[j].b⟩ (get _) 2 (by omega) _ rfl, List.set_set] at s2
        have s3 := s2.1.stored (j * 5 + 3) (.int .i64 (k + 5 * (j : Int) + 1 + 1 + 1))
        rw [ncs_set ((nmarked k xs j).set j ⟨k + 5 * (j : Int), k + 5 * (j : Int) + 1, mt (k + 5 * (j : Int) + 1 + 1), xs[j].a, xs[j].b⟩) j ⟨k + 5 * (j : Int), k + 5 * (j : Int) + 1, mt (k + 5 * (j : Int) + 1 + 1), xs[j].a, xs[j].b⟩ ⟨k + 5 * (j : Int), k + 5 * (j : Int) + 1, mt (k + 5 * (j : Int) + 1 + 1), k + 5 * (j : Int) + 1 + 1 + 1, xs[j].b⟩ (get _) 3 (by omega) _ rfl, List.set_set] at s3
        have s4 := s3.1.stored (j * 5 + 4) (.int .i64 (k + 5 * (j : Int) + 1 + 1 + 1 + 1))
        rw [ncs_set ((nmarked k xs j).set j ⟨k + 5 * (j : Int), k + 5 * (j : Int) + 1, mt (k + 5 * (j : Int) + 1 + 1), k + 5 * (j : Int) + 1 + 1 + 1, xs[j].b⟩) j ⟨k + 5 * (j : Int), k + 5 * (j : Int) + 1, mt (k + 5 * (j : Int) + 1 + 1), k + 5 * (j : Int) + 1 + 1 + 1, xs[j].b⟩ (mk (k + 5 * (j : Int))) (get _) 4 (by omega) (.int .i64 (k + 5 * (j : Int) + 1 + 1 + 1 + 1)) rfl, List.set_set, nmarked_set k xs j hlt] at s4
        have hB4 := ((hB2.trans s2.2).trans s3.2).trans s4.2
        have S4 := s4.1
        clear hcell s0 s1 s2 s3 s4 hown hown2 c0 c1 f0 f1 hb2 hB1 hB2 hbel get
        go_wp2
        go_roundw
        case rel => exact ⟨j + 1, by omega, by go_num, by go_num, S4, hB4⟩
        case measure => simp [intOf]; omega
      · go_wp2
        go_ret
        have : j = xs.length := by omega
        subst this
        exact ⟨rfl, hown, hbel⟩
set_option maxHeartbeats 1600000 in
theorem heldnodes_any (v : Value) (k : Int) (xs : List Nd) (w : World) (R : NRow w v (nmarked k xs xs.length)) (hm : xs.length ≤ 4194304) (hk0 : 0 ≤ k) (hk : k ≤ 2305843009213693952) :
    Calls Tryz.prog 75 #[v, .int .i64 k] w fun e w' => e = .returned (.int .i64 (k + 5 * xs.length)) ∧ Below w.heap.size w w' := by
  obtain ⟨ao, cap, rfl, hcap, _, hz, hcell⟩ := R
  rw [nmarked_length _ _ _ (Nat.le_refl _)] at hcap ⊢
  go_enter Tryz.func75, Tryz.ntmps75
  go_wp2
  go_loopw [1, 5] (fun q i wr => ∃ j : Nat, j ≤ xs.length ∧ i = .int .i64 j ∧ q = .int .i64 (k + 5 * (j : Int)) ∧ Below w.heap.size w wr) (fun _ i _ => xs.length - (intOf i).toNat)
  case atStart => exact ⟨0, by omega, rfl, by simp, Below.refl _ _⟩
  case round =>
    obtain ⟨j, hj, rfl, rfl, hbel⟩ := hrel
    by_cases hlt : j < xs.length
    · obtain ⟨g, o, rfl, hg, hcell⟩ := hcell (by intro e; have := congrArg List.length e; rw [nmarked_length _ _ _ (Nat.le_refl _)] at this; simp only [List.length_nil] at this; omega)
      obtain ⟨c0, c1, c2, c3, c4⟩ := (hcell j _ (nmarked_get k xs j hlt)).below hbel hg
      have C := (hcell j _ (nmarked_get k xs j hlt))
      clear hcell
      simp only [mk] at c0 c1 c2 c3 c4
      have m0 : ((k + 5 * (j : Int)) != (k + 5 * (j : Int))) = false := by simp
      have m1 : ((k + 5 * (j : Int) + 1) != (k + 5 * (j : Int) + 1)) = false := by simp
      go_wp2_with fail
      go_region_with (go_at_call 69; refine (marktext_any _ _ ?_).mono ?_; omega; rintro e w2 ⟨rfl, hb2⟩; have hB2 : Below w.heap.size w w2 := hbel.drew.trans (hb2.mono hbel.size); obtain ⟨d0, d1, d2, d3, d4⟩ := C.below hB2 hg; simp only [mk] at d2 d3 d4)
      all_goals
        have m2 : ((k + 5 * (j : Int) + 1 + 1 + 1) != (k + 5 * (j : Int) + 1 + 1 + 1)) = false := by simp
        have m3 : ((k + 5 * (j : Int) + 1 + 1 + 1 + 1) != (k + 5 * (j : Int) + 1 + 1 + 1 + 1)) = false := by simp
        clear c0 c1 c2 c3 c4 d2 d0 d1 m0 m1
        go_wp2
        go_roundw
        case rel => exact ⟨j + 1, by omega, by go_num, by go_num, hB2⟩
        case measure => simp [intOf]; omega
    · go_wp2
      go_ret
      have : j = xs.length := by omega
      subst this
      exact ⟨rfl, hbel⟩
set_option maxHeartbeats 400000 in
theorem markpool_any (v : Value) (k : Int) (base : Nat) (xs : List Nd) (w : World) (h : w.ownsRow base 130 5 v xs.length (ncs xs)) (hm : xs.length ≤ 4194304) (hk0 : 0 ≤ k) (hk : k ≤ 2305843009213693952) :
    Calls Tryz.prog 34 #[.agg #[v], .int .i64 k] w fun e w' => e = .returned (.int .i64 (k + 5 * xs.length)) ∧ w'.ownsRow base 130 5 v xs.length (ncs (nmarked k xs xs.length)) ∧ w.grownBy w' v.ownBlock := by
  obtain ⟨ao, cap, rfl⟩ := own_form h
  go_enter Tryz.func34, Tryz.ntmps34
  go_wp2_with fail
  refine (marknodes_any _ k base xs _ (h.alloc _) hm hk0 hk).mono ?_
  rintro e w2 ⟨rfl, ho2, hb2⟩
  have hB2 := (World.grownBy_alloc w (Obj.cells #[.slice ao xs.length cap] 32) (Value.slice ao xs.length cap).ownBlock).trans hb2
  clear hb2
  go_wp2
  go_ret
  exact ⟨rfl, ho2, hB2⟩
set_option maxHeartbeats 400000 in
theorem heldpool_any (v : Value) (k : Int) (xs : List Nd) (w : World) (R : NRow w v (nmarked k xs xs.length)) (hm : xs.length ≤ 4194304) (hk0 : 0 ≤ k) (hk : k ≤ 2305843009213693952) :
    Calls Tryz.prog 72 #[.agg #[v], .int .i64 k] w fun e w' => e = .returned (.int .i64 (k + 5 * xs.length)) ∧ Below w.heap.size w w' := by
  have R' := R
  obtain ⟨ao, cap, rfl, _⟩ := R'
  rw [nmarked_length _ _ _ (Nat.le_refl _)] at R ⊢
  go_enter Tryz.func72, Tryz.ntmps72
  go_wp2_with fail
  have hbel : Below w.heap.size w (w.alloc (Obj.cells #[.slice ao xs.length cap] 32)) := (Below.refl _ _).alloc (Nat.le_refl _) _
  refine (heldnodes_any _ k xs _ (R.below hbel) hm hk0 hk).mono ?_
  rintro e w2 ⟨rfl, hb2⟩
  have hB2 := hbel.trans (hb2.mono hbel.size)
  clear hb2 hbel
  have hpos : ¬ (k + 5 * (xs.length : Int)) < 0 := by omega
  go_wp2
  go_ret
  exact ⟨rfl, hB2⟩
end Go.Proofs.YtbhfooafhbfniaaGreatDoor
/-
  Helpers: a slice of texts read as a list, and the contracts of the laws' helpers on such slices. No condition.
-/
namespace Go.Proofs.YtbhfooafhbfniaaGreatDoor
open Go.RowKit
def stv (xs : List ByteArray) : List Value := xs.map Value.string
theorem stv_get (xs : List ByteArray) (i : Nat) (x : ByteArray) (h : xs[i]? = some x) : (stv xs)[i]? = some (.string x) := by simp [stv, h]
theorem stv_set (xs : List ByteArray) (i : Nat) (x : ByteArray) : (stv xs).set i (.string x) = stv (xs.set i x) := by simp [stv, List.map_set]
theorem below_dN (w : World) (n : Nat) : Below w.heap.size w (w.drewN n) := ⟨rfl, rfl, rfl, Nat.le_refl _, fun _ _ => rfl⟩
def StRow (w : World) (v : Value) (xs : List ByteArray) : Prop :=
  ∃ ao cap, v = .slice ao xs.length cap ∧ (xs.length ≤ cap ∧ (ao = none → cap = 0)) ∧ xs.length ≤ 9223372036854775807 ∧ (∀ x ∈ xs, x.size ≤ maxLen) ∧
    (xs ≠ [] → ∃ g o, ao = some ⟨g, o, none⟩ ∧ g < w.heap.size ∧ ∀ i x, xs[i]? = some x → w.cell? ⟨g, o + i, none⟩ = some (.string x))
theorem StRow.small {w : World} {v : Value} {xs : List ByteArray} (R : StRow w v xs) : ∃ ao cap, v = .slice ao xs.length cap := by
  obtain ⟨ao, cap, rfl, _⟩ := R
  exact ⟨ao, cap, rfl⟩
theorem StRow.sz {w : World} {v : Value} {xs : List ByteArray} (R : StRow w v xs) : ∀ x ∈ xs, x.size ≤ maxLen := by obtain ⟨_, _, _, _, _, hz, _⟩ := R; exact hz
theorem StRow.le {w : World} {v : Value} {xs : List ByteArray} (R : StRow w v xs) : xs.length ≤ 9223372036854775807 := by obtain ⟨_, _, _, _, h, _⟩ := R; exact h
theorem StRow.below {w w' : World} {v : Value} {xs : List ByteArray} (h : StRow w v xs) (hb : Below w.heap.size w w') : StRow w' v xs := by
  obtain ⟨ao, cap, rfl, hc, hm, hz, hcell⟩ := h
  refine ⟨ao, cap, rfl, hc, hm, hz, fun hne => ?_⟩
  obtain ⟨g, o, rfl, hg, hcell⟩ := hcell hne
  exact ⟨g, o, rfl, Nat.lt_of_lt_of_le hg hb.size, fun i x hi => (hb.cell (p := ⟨g, o + i, none⟩) hg).trans (hcell i x hi)⟩
theorem StRow.nilcap {w : World} {ao : Option Addr} {n cap : Nat} {xs : List ByteArray} (h : StRow w (.slice ao n cap) xs) : ao = none → n = 0 ∧ cap = 0 := by
  obtain ⟨ao', cap', e, ⟨h1, h2⟩, _⟩ := h
  simp only [Value.slice.injEq] at e
  obtain ⟨rfl, rfl, rfl⟩ := e
  intro h
  have := h2 h
  omega
theorem StRow.cells {w : World} {ao : Option Addr} {n cap : Nat} {xs : List ByteArray} (h : StRow w (.slice ao n cap) xs) : ∀ ad, ao = some ad → ∀ j u, (stv xs)[j]? = some u → w.cell? (ad.add j) = some u := by
  obtain ⟨ao', cap', e, _, _, _, hc⟩ := h
  simp only [Value.slice.injEq] at e
  obtain ⟨rfl, rfl, rfl⟩ := e
  intro ad had j u hu
  simp only [stv, List.getElem?_map, Option.map_eq_some_iff] at hu
  obtain ⟨x, hx, rfl⟩ := hu
  obtain ⟨g, o, e, _, hcell⟩ := hc (by intro e; subst e; simp at hx)
  rw [had] at e
  cases e
  rw [Addr.add_lit]
  exact hcell j x hx
theorem StRow.of_own {w : World} {base : Nat} {v : Value} {xs : List ByteArray} (h : w.ownsRow base 9 1 v xs.length (stv xs)) (hm : xs.length ≤ 9223372036854775807) (hz : ∀ x ∈ xs, x.size ≤ maxLen) : StRow w v xs := by
  rcases h.2 with ⟨rfl, h0⟩ | ⟨g, cap, cur, rfl, hb, hg, hnc, hcm, hcs, htake⟩
  · have : xs = [] := List.eq_nil_of_length_eq_zero h0
    subst this
    exact ⟨none, 0, rfl, by simp, by simp, by simp, fun h => absurd rfl h⟩
  · refine ⟨_, cap, rfl, ⟨hnc, fun h => by cases h⟩, hm, hz, fun _ => ⟨g, 0, rfl, (Array.getElem?_eq_some_iff.1 hg).1, fun i x hi => ?_⟩⟩
    have hl : i < xs.length := (List.getElem?_eq_some_iff.1 hi).1
    have := h.cellAt i (by omega)
    rw [Nat.zero_add, this, stv_get xs i x hi]
def stcopied (xs : List ByteArray) (j : Nat) : List ByteArray := xs.take j ++ List.replicate (xs.length - j) ByteArray.empty
set_option maxHeartbeats 800000 in
theorem eqstrs_any (va vb : Value) (xs : List ByteArray) (w : World) (Ra : StRow w va xs) (Rb : StRow w vb xs) :
    Calls Tryz.prog 64 #[va, vb] w fun e w' => e = .returned (.bool true) ∧ Below w.heap.size w w' := by
  obtain ⟨aa, ca, rfl, hca, hm, hz, hcella⟩ := Ra
  obtain ⟨ab, cb, rfl, hcb, _, _, hcellb⟩ := Rb
  have hn : ((xs.length : Int) != (xs.length : Int)) = false := by simp
  go_enter Tryz.func64, Tryz.ntmps64
  go_wp2
  go_loopw [5] (fun i wr => ∃ k : Nat, k ≤ xs.length ∧ i = .int .i64 k ∧ Below w.heap.size w wr) (fun i _ => xs.length - (intOf i).toNat)
  case atStart => exact ⟨0, by omega, rfl, Below.refl _ _⟩
  case round =>
    obtain ⟨k, hk, rfl, hb⟩ := hrel
    by_cases hlt : k < xs.length
    · obtain ⟨ga, oa, rfl, hga, hcella⟩ := hcella (by intro e; subst e; simp at hlt)
      obtain ⟨gb, ob, rfl, hgb, hcellb⟩ := hcellb (by intro e; subst e; simp at hlt)
      obtain ⟨x, hx⟩ : ∃ x, xs[k]? = some x := ⟨xs[k], by simp [hlt]⟩
      have c0 := (hb.cell (p := ⟨ga, oa + k, none⟩) hga).trans (hcella k x hx)
      have d0 := (hb.cell (p := ⟨gb, ob + k, none⟩) hgb).trans (hcellb k x hx)
      clear hcella hcellb hx
      go_wp2
      go_quiet (fail)
      go_wp2
      go_roundw
      case rel => exact ⟨k + 1, by omega, by go_num, hb.trans ((below_dN wr _).mono hb.size)⟩
      case measure => simp [intOf]; omega
    · go_wp2
      go_ret
      exact ⟨rfl, hb⟩
def sm (k : Int) (n : Nat) : List ByteArray := (List.range n).map fun (j : Nat) => mt (k + (j : Int))
theorem sm_length (k : Int) (n : Nat) : (sm k n).length = n := by simp [sm]
theorem sm_get (k : Int) (n i : Nat) (h : i < n) : (sm k n)[i]? = some (mt (k + (i : Int))) := by simp [sm, h]
theorem sm_succ (k : Int) (n : Nat) : sm k (n + 1) = sm k n ++ [mt (k + (n : Int))] := by simp [sm, List.range_succ]
def smid (k : Int) (pre xs post : List ByteArray) (j : Nat) : List ByteArray := pre ++ (sm k j ++ (xs.drop j ++ post))
theorem smid_zero (k : Int) (pre xs post : List ByteArray) : smid k pre xs post 0 = pre ++ (xs ++ post) := by simp [smid, sm]
theorem smid_full (k : Int) (pre xs post : List ByteArray) : smid k pre xs post xs.length = pre ++ (sm k xs.length ++ post) := by simp [smid]
theorem smid_length (k : Int) (pre xs post : List ByteArray) (j : Nat) (h : j ≤ xs.length) : (smid k pre xs post j).length = pre.length + xs.length + post.length := by
  simp [smid, sm_length]; omega
theorem smid_set (k : Int) (pre xs post : List ByteArray) (j : Nat) (h : j < xs.length) : (smid k pre xs post j).set (pre.length + j) (mt (k + (j : Int))) = smid k pre xs post (j + 1) := by
  unfold smid
  rw [List.set_append_right _ _ (by omega), show pre.length + j - pre.length = j by omega]
  rw [List.set_append_right _ _ (by rw [sm_length]; omega), sm_length, Nat.sub_self, List.drop_eq_getElem_cons h, sm_succ]
  rw [List.cons_append, List.set_cons_zero, List.append_assoc]
  rfl
set_option maxHeartbeats 1600000 in
theorem markstrs_mid (g o cap CAP N base : Nat) (k : Int) (pre xs post : List ByteArray) (w : World) (ho : o = pre.length) (hN : pre.length + xs.length + post.length = N)
    (h : w.ownsRow base 9 1 (.slice (some ⟨g, 0, none⟩) N CAP) N (stv (pre ++ (xs ++ post)))) (hm : xs.length ≤ 4194304) (hk0 : 0 ≤ k) (hk : k ≤ 2305843009213693952) :
    Calls Tryz.prog 70 #[.slice (some ⟨g, o, none⟩) xs.length cap, .int .i64 k] w fun e w' => e = .returned (.int .i64 (k + xs.length)) ∧ w'.ownsRow base 9 1 (.slice (some ⟨g, 0, none⟩) N CAP) N (stv (pre ++ (sm k xs.length ++ post))) ∧ w.grownBy w' (some g) := by
  have HN : Hid (pre.length + xs.length + post.length = N) := hN
  have hN1 : o + xs.length ≤ N := by omega
  have HO : Hid (o = pre.length) := ho
  clear hN ho
  go_enter Tryz.func70, Tryz.ntmps70
  go_wp2
  go_loopw [1, 5] (fun q i wr => ∃ j : Nat, j ≤ xs.length ∧ i = .int .i64 j ∧ q = .int .i64 (k + (j : Int)) ∧ wr.ownsRow base 9 1 (.slice (some ⟨g, 0, none⟩) N CAP) N (stv (smid k pre xs post j)) ∧ w.grownBy wr (some g)) (fun _ i _ => xs.length - (intOf i).toNat)
  case atStart => exact ⟨0, by omega, rfl, by simp, by rw [smid_zero]; exact h, World.grownBy.refl _ _⟩
  case round =>
    obtain ⟨j, hj, rfl, rfl, hown, hbel⟩ := hrel
    by_cases hlt : j < xs.length
    · have hgs : g < wr.heap.size := (hown.lt g rfl).2
      go_wp2_with fail
      refine (marktext_any _ _ (by omega)).mono ?_
      rintro e w2 ⟨rfl, hb2⟩
      have hown2 := own_below hown hb2
      have hB2 := hbel.trans (grown_below2 hb2 (some g))
      have c0 := hown2.cellAt (o + j) (by omega)
      obtain ⟨y, hy⟩ : ∃ y, (smid k pre xs post j)[o + j]? = some y := ⟨_, List.getElem?_eq_getElem (by rw [smid_length _ _ _ _ _ hj]; have := HN.out; omega)⟩
      rw [stv_get _ (o + j) y hy] at c0
      have f0 := hown2.frozenAt (o + j)
      have s0 := hown2.stored (o + j) (.string (mt (k + (j : Int))))
      rw [stv_set, HO.out, smid_set k pre xs post j hlt, ← HO.out] at s0
      have S0 := s0.1
      have hB3 := hB2.trans s0.2
      clear hy hown hown2 s0 hb2 hB2 hbel
      go_wp2
      go_roundw
      case rel => exact ⟨j + 1, by omega, by go_num, by go_num, S0, hB3⟩
      case measure => simp [intOf]; omega
    · go_wp2
      go_ret
      have : j = xs.length := by omega
      subst this
      rw [smid_full] at hown
      exact ⟨rfl, hown, hbel⟩
set_option maxHeartbeats 1600000 in
theorem heldstrs_any (v : Value) (k : Int) (n : Nat) (w : World) (R : StRow w v (sm k n)) (hm : n ≤ 4194304) (hk0 : 0 ≤ k) (hk : k ≤ 2305843009213693952) :
    Calls Tryz.prog 76 #[v, .int .i64 k] w fun e w' => e = .returned (.int .i64 (k + n)) ∧ Below w.heap.size w w' := by
  obtain ⟨ao, cap, rfl, hcap, _, hz, hcell⟩ := R
  rw [sm_length] at hcap ⊢
  go_enter Tryz.func76, Tryz.ntmps76
  go_wp2
  go_loopw [1, 5] (fun q i wr => ∃ j : Nat, j ≤ n ∧ i = .int .i64 j ∧ q = .int .i64 (k + (j : Int)) ∧ Below w.heap.size w wr) (fun _ i _ => n - (intOf i).toNat)
  case atStart => exact ⟨0, by omega, rfl, by simp, Below.refl _ _⟩
  case round =>
    obtain ⟨j, hj, rfl, rfl, hbel⟩ := hrel
    by_cases hlt : j < n
    · obtain ⟨g, o, rfl, hg, hcell⟩ := hcell (by intro e; have := congrArg List.length e; rw [sm_length] at this; simp only [List.length_nil] at this; omega)
      have C := hcell j _ (sm_get k n j hlt)
      have c0 := (hbel.cell (p := ⟨g, o + j, none⟩) hg).trans C
      clear hcell
      go_wp2_with fail
      go_region_with (go_at_call 69; refine (marktext_any _ _ ?_).mono ?_; omega; rintro e w2 ⟨rfl, hb2⟩; have hB2 : Below w.heap.size w w2 := hbel.drew.trans (hb2.mono hbel.size); have d0 := (hB2.cell (p := ⟨g, o + j, none⟩) hg).trans C)
      all_goals
        clear c0 d0
        go_wp2
        go_roundw
        case rel => exact ⟨j + 1, by omega, by go_num, by go_num, hB2⟩
        case measure => simp [intOf]; omega
    · go_wp2
      go_ret
      have : j = n := by omega
      subst this
      exact ⟨rfl, hbel⟩
end Go.Proofs.YtbhfooafhbfniaaGreatDoor
/-
  A part of a block loaded, and stored: where it lies within a struct's variable. Nothing of the program; no condition.
-/
namespace Go.Proofs.YtbhfooafhbfniaaGreatDoor
open Go.RowKit
theorem wpList_load_sub {P : Program} {ops : Array Oper} {rest : List Oper} {op : Oper} {a : Act} {w : World} {Q : Exit → Act → World → Prop} (hgd : op.guard = none) (ty : TypeId) (x : Operand) (ho : op.op = .load ty x)
    (b o : Nat) (hx : a.eval x = .pointer (some ⟨b, o, none⟩)) (C : Array Value) (t : TypeId) (cs : Array Value) (d : TypeDesc) (hb : w.heap[b]? = some (.cells C t (0, 0))) (hc : C.extract o (o + cs.size) = cs)
    (hu : P.underlying ty = some d) (hd : d.isRow = true) (hi : (P.info? ty).map (·.size) = some cs.size)
    (h : wpList P ops Q rest (a.put op.dst (.agg cs)) w) : wpList P ops Q (op :: rest) a w := by
  have hr := World.rangeAt_of_block hb o cs.size
  rw [hc] at hr
  exact wpList_load_mid hgd ty x ho b o hx cs.toList d hr hu hd (by simpa using hi) (by simpa using h)
end Go.Proofs.YtbhfooafhbfniaaGreatDoor
/-
  A process's records: how great, made of the law's, and alike. No condition.
-/
namespace Go.Proofs.YtbhfooafhbfniaaGreatDoor
open Go.RowKit
theorem Tryz.sizeProc : (Tryz.prog.info? 59).map (·.size) = some 11 := by kernel_rfl
set_option maxRecDepth 100000 in
set_option maxHeartbeats 1600000 in
theorem eqproc_any (i : Int) (va ba oa vb bb ob : Value) (xs : List Nd) (m : Mc) (bx ox : List ByteArray) (w : World) (Ra : NRow w va xs) (Ba : StRow w ba bx) (Oa : StRow w oa ox) (Rb : NRow w vb xs) (Bb : StRow w bb bx) (Ob : StRow w ob ox) :
    Calls Tryz.prog 93 #[.agg #[.int .i64 i, va, .int .i64 m.p, .int .i64 m.s, .int .i64 m.e, .int .i64 m.d, .int .i64 m.t, .int .i64 m.q, .int .i64 m.r, ba, oa], .agg #[.int .i64 i, vb, .int .i64 m.p, .int .i64 m.s, .int .i64 m.e, .int .i64 m.d, .int .i64 m.t, .int .i64 m.q, .int .i64 m.r, bb, ob]] w fun e w' => e = .returned (.bool true) ∧ Below w.heap.size w w' := by
  have Ra' := Ra
  have Rb' := Rb
  obtain ⟨aa, ca, rfl, _⟩ := Ra'
  obtain ⟨ab, cb, rfl, _⟩ := Rb'
  obtain ⟨a1, c1, rfl⟩ := Ba.small
  obtain ⟨a2, c2, rfl⟩ := Oa.small
  obtain ⟨a3, c3, rfl⟩ := Bb.small
  obtain ⟨a4, c4, rfl⟩ := Ob.small
  obtain ⟨hB0, hk0, hx0⟩ := two_boxes w (Obj.cells #[.int .i64 i, .slice aa xs.length ca, .int .i64 m.p, .int .i64 m.s, .int .i64 m.e, .int .i64 m.d, .int .i64 m.t, .int .i64 m.q, .int .i64 m.r, .slice a1 bx.length c1, .slice a2 ox.length c2] 59) (Obj.cells #[.int .i64 i, .slice ab xs.length cb, .int .i64 m.p, .int .i64 m.s, .int .i64 m.e, .int .i64 m.d, .int .i64 m.t, .int .i64 m.q, .int .i64 m.r, .slice a3 bx.length c3, .slice a4 ox.length c4] 59)
  have e1 : (i != i) = false := by simp
  go_enter Tryz.func93, Tryz.ntmps93
  go_wp2_with (first
    | (refine wpList_load_sub rfl 56 _ rfl w.heap.size 1 rfl _ 59 #[.slice aa xs.length ca, .int .i64 m.p, .int .i64 m.s, .int .i64 m.e, .int .i64 m.d, .int .i64 m.t, .int .i64 m.q, .int .i64 m.r] _ hk0 rfl Tryz.underlying56 rfl Tryz.sizeMach ?_)
    | (refine wpList_load_sub rfl 56 _ rfl (w.heap.size + 1) 1 rfl _ 59 #[.slice ab xs.length cb, .int .i64 m.p, .int .i64 m.s, .int .i64 m.e, .int .i64 m.d, .int .i64 m.t, .int .i64 m.q, .int .i64 m.r] _ hx0 rfl Tryz.underlying56 rfl Tryz.sizeMach ?_))
  refine (eqmach_any _ _ xs m _ (Ra.below hB0) (Rb.below hB0)).mono ?_
  rintro e w1 ⟨rfl, hb1⟩
  have hB1 := hB0.trans (hb1.mono hB0.size)
  have hk1 := (hb1.block _ (Array.getElem?_eq_some_iff.1 hk0).1).trans hk0
  have hx1 := (hb1.block _ (Array.getElem?_eq_some_iff.1 hx0).1).trans hx0
  clear hB0 hk0 hx0 hb1
  have l1 : w1.cell? ⟨w.heap.size, 0 + 9, none⟩ = some (.slice a1 bx.length c1) := cell_of_row w1 _ 9 _ _ _ hk1
  have k1 : w1.cell? ⟨w.heap.size + 1, 0 + 9, none⟩ = some (.slice a3 bx.length c3) := cell_of_row w1 _ 9 _ _ _ hx1
  go_wp2_with fail
  refine (eqstrs_any _ _ bx _ (Ba.below hB1) (Bb.below hB1)).mono ?_
  rintro e w2 ⟨rfl, hb2⟩
  have hB2 := hB1.trans (hb2.mono hB1.size)
  have hk2 := (hb2.block _ (Array.getElem?_eq_some_iff.1 hk1).1).trans hk1
  have hx2 := (hb2.block _ (Array.getElem?_eq_some_iff.1 hx1).1).trans hx1
  clear hB1 hk1 hx1 hb2 l1 k1
  have l1 : w2.cell? ⟨w.heap.size, 0 + 10, none⟩ = some (.slice a2 ox.length c2) := cell_of_row w2 _ 10 _ _ _ hk2
  have k1 : w2.cell? ⟨w.heap.size + 1, 0 + 10, none⟩ = some (.slice a4 ox.length c4) := cell_of_row w2 _ 10 _ _ _ hx2
  go_wp2_with fail
  refine (eqstrs_any _ _ ox _ (Oa.below hB2) (Ob.below hB2)).mono ?_
  rintro e w3 ⟨rfl, hb3⟩
  have hB3 := hB2.trans (hb3.mono hB2.size)
  clear hB2 hk2 hx2 hb3 l1 k1
  go_wp2
  go_ret
  exact ⟨rfl, hB3⟩
end Go.Proofs.YtbhfooafhbfniaaGreatDoor
/-
  A process made of the law's own: toProc. No condition.
-/
namespace Go.Proofs.YtbhfooafhbfniaaGreatDoor
open Go.RowKit
end Go.Proofs.YtbhfooafhbfniaaGreatDoor
