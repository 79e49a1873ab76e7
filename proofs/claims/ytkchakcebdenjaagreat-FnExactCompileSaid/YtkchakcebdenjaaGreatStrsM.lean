/-
  Texts that stood by themselves, laid into one.
-/
import Derived.Test.YtkchakcebdenjaaGreatBsM
import Derived.Test.YtkchakcebdenjaaGreatShapeM
import Derived.Test.YtkchakcebdenjaaGreatStore2M
import Derived.Deep.RegionWith
import Derived.Test.YtkchakcebdenjaaGreatTo2M
/-
  Contracts of the laws' own helpers markNodeS, heldNodeS, markPool, heldPool: what is marked in a slice of the call's own is found there.
-/
namespace Go.Proofs.YtkchakcebdenjaaGreat
open Go.RowKit
def mk (k : Int) : Nd := ⟨k, k + 1, mt (k + 1 + 1), k + 1 + 1 + 1, k + 1 + 1 + 1 + 1⟩
def nmarked (k : Int) (xs : List Nd) (i : Nat) : List Nd := (List.range i).map (fun (j : Nat) => mk (k + 5 * (j : Int))) ++ xs.drop i
theorem nmarked_zero (k : Int) (xs : List Nd) : nmarked k xs 0 = xs := by simp [nmarked]
theorem nmarked_length (k : Int) (xs : List Nd) (i : Nat) (h : i ≤ xs.length) : (nmarked k xs i).length = xs.length := by simp [nmarked]; omega
theorem nmarked_at (k : Int) (xs : List Nd) (i : Nat) (h : i < xs.length) : (nmarked k xs i)[i]? = some xs[i] := by
  unfold nmarked
  rw [List.getElem?_append_right (by simp)]
  simp [h]
theorem nmarked_set (k : Int) (xs : List Nd) (i : Nat) (h : i < xs.length) : (nmarked k xs i).set i (mk (k + 5 * (i : Int))) = nmarked k xs (i + 1) := by
  unfold nmarked
  rw [List.range_succ, List.map_append, List.set_append_right _ _ (by simp), List.drop_eq_getElem_cons h, List.append_assoc]
  have e : i - (List.map (fun (j : Nat) => mk (k + 5 * (j : Int))) (List.range i)).length = 0 := by simp
  rw [e]
  rfl
theorem nmarked_get (k : Int) (xs : List Nd) (i : Nat) (h : i < xs.length) : (nmarked k xs xs.length)[i]? = some (mk (k + 5 * (i : Int))) := by
  simp [nmarked, h]
theorem mtGo_size (f k : Nat) (out : ByteArray) : (mtGo f k out).size ≤ out.size + k := by
  induction f generalizing k out with
  | zero => simp [mtGo]
  | succ f ih =>
    simp only [mtGo]
    split
    · omega
    · have := ih (k / 10) (strOfNums [48 + (k : Int) % 10] ++ out)
      rw [ByteArray.size_append, digit_size] at this
      omega
theorem mt_size (k : Int) (h : k ≤ 4611686018427387904) : (mt k).size ≤ maxLen := by
  unfold mt maxLen
  split
  · decide
  · rw [ByteArray.size_append]
    have := mtGo_size k.toNat k.toNat ⟨#[]⟩
    have e : (⟨#[109]⟩ : ByteArray).size = 1 := rfl
    have e' : (⟨#[]⟩ : ByteArray).size = 0 := rfl
    rw [e'] at this
    rw [e]
    omega
set_option maxHeartbeats 1600000 in
theorem marknodes_any (v : Value) (k : Int) (base : Nat) (xs : List Nd) (w : World) (h : w.ownsRow base 92 5 v xs.length (ncs xs)) (hm : xs.length ≤ 4194304) (hk0 : 0 ≤ k) (hk : k ≤ 2305843009213693952) :
    Calls Tryz.prog 36 #[v, .int .i64 k] w fun e w' => e = .returned (.int .i64 (k + 5 * xs.length)) ∧ w'.ownsRow base 92 5 v xs.length (ncs (nmarked k xs xs.length)) ∧ w.grownBy w' v.ownBlock := by
  rcases h.2 with ⟨rfl, h0⟩ | ⟨g, cap, cur, rfl, hb, hg, hnc, hcm, hcs, htake⟩
  · have : xs = [] := List.eq_nil_of_length_eq_zero h0
    subst this
    go_enter Tryz.func36, Tryz.ntmps36
    go_wp2
    refine wp_loop_rounds 1 ?_
    rw [rounds_succ]
    go_wp2
    go_ret
    exact ⟨by simp, h, World.grownBy.refl _ _⟩
  · clear hg hcs htake
    go_enter Tryz.func36, Tryz.ntmps36
    go_wp2
    go_loopw [1, 5] (fun q i wr => ∃ j : Nat, j ≤ xs.length ∧ i = .int .i64 j ∧ q = .int .i64 (k + 5 * (j : Int)) ∧ wr.ownsRow base 92 5 (.slice (some ⟨g, 0, none⟩) xs.length cap) xs.length (ncs (nmarked k xs j)) ∧ w.grownBy wr (some g)) (fun _ i _ => xs.length - (intOf i).toNat)
    case atStart => exact ⟨0, by omega, rfl, by simp, by rw [nmarked_zero]; exact h, World.grownBy.refl _ _⟩
    case round =>
      obtain ⟨j, hj, rfl, rfl, hown, hbel⟩ := hrel
      by_cases hlt : j < xs.length
      · have hgs : g < wr.heap.size := (hown.lt g rfl).2
        have hcell : ∀ i, i < 5 → (wr.cell? ⟨g, j * 5 + i, none⟩) = xs[j].cs[i]? := fun i hi => by
          have := hown.cellAt (j * 5 + i) (by omega)
          rw [this, ncs_get _ j _ (nmarked_at k xs j hlt) i hi]
        have c0 := hcell 0 (by omega)
        have c1 := hcell 1 (by omega)
        simp only [Nd.cs, List.getElem?_cons_succ, List.getElem?_cons_zero, Nat.add_zero] at c0 c1
        have f0 := hown.frozenAt (j * 5)
        have f1 := hown.frozenAt (j * 5 + 1)
        have get : ∀ y : Nd, ((nmarked k xs j).set j y)[j]? = some y := fun y => by rw [List.getElem?_set_self (by rw [nmarked_length _ _ _ hj]; exact hlt)]
        have s0 := hown.stored (j * 5) (.int .i64 (k + 5 * (j : Int)))
        rw [ncs_set0 _ j xs[j] ⟨k + 5 * (j : Int), xs[j].n, xs[j].s, xs[j].a, xs[j].b⟩ (nmarked_at k xs j hlt) _ rfl] at s0
        have s1 := s0.1.stored (j * 5 + 1) (.int .i64 (k + 5 * (j : Int) + 1))
        rw [ncs_set ((nmarked k xs j).set j ⟨k + 5 * (j : Int), xs[j].n, xs[j].s, xs[j].a, xs[j].b⟩) j ⟨k + 5 * (j : Int), xs[j].n, xs[j].s, xs[j].a, xs[j].b⟩ ⟨k + 5 * (j : Int), k + 5 * (j : Int) + 1, xs[j].s, xs[j].a, xs[j].b⟩ (get _) 1 (by omega) _ rfl, List.set_set] at s1
        have hB1 := (hbel.trans s0.2).trans s1.2
        clear hcell
        go_wp2_with fail
        refine (marktext_any _ _ (by omega)).mono ?_
        rintro e w2 ⟨rfl, hb2⟩
        have hown2 := own_below s1.1 hb2
        have hB2 := hB1.trans (grown_below2 hb2 (some g))
        have hcell : ∀ i, i < 5 → (w2.cell? ⟨g, j * 5 + i, none⟩) = (Nd.cs ⟨k + 5 * (j : Int), k + 5 * (j : Int) + 1, xs[j].s, xs[j].a, xs[j].b⟩)[i]? := fun i hi => by
          have := hown2.cellAt (j * 5 + i) (by omega)
          rw [this, ncs_get _ j _ (get _) i hi]
        have d2 := hcell 2 (by omega)
        have d3 := hcell 3 (by omega)
        have d4 := hcell 4 (by omega)
        simp only [Nd.cs, List.getElem?_cons_succ, List.getElem?_cons_zero] at d2 d3 d4
        have e2 := hown2.frozenAt (j * 5 + 2)
        have e3 := hown2.frozenAt (j * 5 + 3)
        have e4 := hown2.frozenAt (j * 5 + 4)
        have s2 := hown2.stored (j * 5 + 2) (.string (mt (k + 5 * (j : Int) + 1 + 1)))
        rw [ncs_set ((nmarked k xs j).set j ⟨k + 5 * (j : Int), k + 5 * (j : Int) + 1, xs[j].s, xs[j].a, xs[j].b⟩) j ⟨k + 5 * (j : Int), k + 5 * (j : Int) + 1, xs[j].s, xs[j].a, xs[j].b⟩ ⟨k + 5 * (j : Int), k + 5 * (j : Int) + 1, mt (k + 5 * (j : Int) + 1 + 1), xs[j].a, xs[j].b⟩ (get _) 2 (by omega) _ rfl, List.set_set] at s2
        have s3 := s2.1.stored (j * 5 + 3) (.int .i64 (k + 5 * (j : Int) + 1 + 1 + 1))
        rw [ncs_set ((nmarked k xs j).set j ⟨k + 5 * (j : Int), k + 5 * (j : Int) + 1, mt (k + 5 * (j : Int) + 1 + 1), xs[j].a, xs[j].b⟩) j ⟨k + 5 * (j : Int), k + 5 * (j : Int) + 1, mt (k + 5 * (j : Int) + 1 + 1), xs[j].a, xs[j].b⟩ ⟨k + 5 * (j : Int), k + 5 * (j : Int) + 1, mt (k + 5 * (j : Int) + 1 + 1), k + 5 * (j : Int) + 1 + 1 + 1, xs[j].b⟩ (get _) 3 (by omega) _ rfl, List.set_set] at s3
        have s4 := s3.1.stored (j * 5 + 4) (.int .i64 (k + 5 * (j : Int) + 1 + 1 + 1 + 1))
        rw [ncs_set ((nmarked k xs j).set j ⟨k + 5 * (j : Int), k + 5 * (j : Int) + 1, mt (k + 5 * (j : Int) + 1 + 1), k + 5 * (j : Int) + 1 + 1 + 1, xs[j].b⟩) j ⟨k + 5 * (j : Int), k + 5 * (j : Int) + 1, mt (k + 5 * (j : Int) + 1 + 1), k + 5 * (j : Int) + 1 + 1 + 1, xs[j].b⟩ (mk (k + 5 * (j : Int))) (get _) 4 (by omega) (.int .i64 (k + 5 * (j : Int) + 1 + 1 + 1 + 1)) rfl, List.set_set, nmarked_set k xs j hlt] at s4
        have hB4 := ((hB2.trans s2.2).trans s3.2).trans s4.2
        have S4 := s4.1
        clear hcell s0 s1 s2 s3 s4 hown hown2 c0 c1 f0 f1 hb2 hB1 hB2 hbel get
        go_wp2
        go_roundw
        case rel => exact ⟨j + 1, by omega, by go_num, by go_num, S4, hB4⟩
        case measure => simp [intOf]; omega
      · go_wp2
        go_ret
        have : j = xs.length := by omega
        subst this
        exact ⟨rfl, hown, hbel⟩
set_option maxHeartbeats 1600000 in
theorem heldnodes_any (v : Value) (k : Int) (xs : List Nd) (w : World) (R : NRow w v (nmarked k xs xs.length)) (hm : xs.length ≤ 4194304) (hk0 : 0 ≤ k) (hk : k ≤ 2305843009213693952) :
    Calls Tryz.prog 75 #[v, .int .i64 k] w fun e w' => e = .returned (.int .i64 (k + 5 * xs.length)) ∧ Below w.heap.size w w' := by
  obtain ⟨ao, cap, rfl, hcap, _, hz, hcell⟩ := R
  rw [nmarked_length _ _ _ (Nat.le_refl _)] at hcap ⊢
  go_enter Tryz.func75, Tryz.ntmps75
  go_wp2
  go_loopw [1, 5] (fun q i wr => ∃ j : Nat, j ≤ xs.length ∧ i = .int .i64 j ∧ q = .int .i64 (k + 5 * (j : Int)) ∧ Below w.heap.size w wr) (fun _ i _ => xs.length - (intOf i).toNat)
  case atStart => exact ⟨0, by omega, rfl, by simp, Below.refl _ _⟩
  case round =>
    obtain ⟨j, hj, rfl, rfl, hbel⟩ := hrel
    by_cases hlt : j < xs.length
    · obtain ⟨g, o, rfl, hg, hcell⟩ := hcell (by intro e; have := congrArg List.length e; rw [nmarked_length _ _ _ (Nat.le_refl _)] at this; simp only [List.length_nil] at this; omega)
      obtain ⟨c0, c1, c2, c3, c4⟩ := (hcell j _ (nmarked_get k xs j hlt)).below hbel hg
      have C := (hcell j _ (nmarked_get k xs j hlt))
      clear hcell
      simp only [mk] at c0 c1 c2 c3 c4
      have m0 : ((k + 5 * (j : Int)) != (k + 5 * (j : Int))) = false := by simp
      have m1 : ((k + 5 * (j : Int) + 1) != (k + 5 * (j : Int) + 1)) = false := by simp
      go_wp2_with fail
      go_region_with (go_at_call 74; refine (marktext_any _ _ ?_).mono ?_; omega; rintro e w2 ⟨rfl, hb2⟩; have hB2 : Below w.heap.size w w2 := hbel.drew.trans (hb2.mono hbel.size); obtain ⟨d0, d1, d2, d3, d4⟩ := C.below hB2 hg; simp only [mk] at d2 d3 d4)
      all_goals
        have m2 : ((k + 5 * (j : Int) + 1 + 1 + 1) != (k + 5 * (j : Int) + 1 + 1 + 1)) = false := by simp
        have m3 : ((k + 5 * (j : Int) + 1 + 1 + 1 + 1) != (k + 5 * (j : Int) + 1 + 1 + 1 + 1)) = false := by simp
        clear c0 c1 c2 c3 c4 d2 d0 d1 m0 m1
        go_wp2
        go_roundw
        case rel => exact ⟨j + 1, by omega, by go_num, by go_num, hB2⟩
        case measure => simp [intOf]; omega
    · go_wp2
      go_ret
      have : j = xs.length := by omega
      subst this
      exact ⟨rfl, hbel⟩
set_option maxHeartbeats 400000 in
theorem markpool_any (v : Value) (k : Int) (base : Nat) (xs : List Nd) (w : World) (h : w.ownsRow base 92 5 v xs.length (ncs xs)) (hm : xs.length ≤ 4194304) (hk0 : 0 ≤ k) (hk : k ≤ 2305843009213693952) :
    Calls Tryz.prog 13 #[.agg #[v], .int .i64 k] w fun e w' => e = .returned (.int .i64 (k + 5 * xs.length)) ∧ w'.ownsRow base 92 5 v xs.length (ncs (nmarked k xs xs.length)) ∧ w.grownBy w' v.ownBlock := by
  obtain ⟨ao, cap, rfl⟩ := own_form h
  go_enter Tryz.func13, Tryz.ntmps13
  go_wp2_with fail
  refine (marknodes_any _ k base xs _ (h.alloc _) hm hk0 hk).mono ?_
  rintro e w2 ⟨rfl, ho2, hb2⟩
  have hB2 := (World.grownBy_alloc w (Obj.cells #[.slice ao xs.length cap] 29) (Value.slice ao xs.length cap).ownBlock).trans hb2
  clear hb2
  go_wp2
  go_ret
  exact ⟨rfl, ho2, hB2⟩
set_option maxHeartbeats 400000 in
theorem heldpool_any (v : Value) (k : Int) (xs : List Nd) (w : World) (R : NRow w v (nmarked k xs xs.length)) (hm : xs.length ≤ 4194304) (hk0 : 0 ≤ k) (hk : k ≤ 2305843009213693952) :
    Calls Tryz.prog 39 #[.agg #[v], .int .i64 k] w fun e w' => e = .returned (.int .i64 (k + 5 * xs.length)) ∧ Below w.heap.size w w' := by
  have R' := R
  obtain ⟨ao, cap, rfl, _⟩ := R'
  rw [nmarked_length _ _ _ (Nat.le_refl _)] at R ⊢
  go_enter Tryz.func39, Tryz.ntmps39
  go_wp2_with fail
  have hbel : Below w.heap.size w (w.alloc (Obj.cells #[.slice ao xs.length cap] 29)) := (Below.refl _ _).alloc (Nat.le_refl _) _
  refine (heldnodes_any _ k xs _ (R.below hbel) hm hk0 hk).mono ?_
  rintro e w2 ⟨rfl, hb2⟩
  have hB2 := hbel.trans (hb2.mono hbel.size)
  clear hb2 hbel
  have hpos : ¬ (k + 5 * (xs.length : Int)) < 0 := by omega
  go_wp2
  go_ret
  exact ⟨rfl, hB2⟩
end Go.Proofs.YtkchakcebdenjaaGreat
/-
  Helpers: a slice of texts read as a list, and the contracts of the laws' helpers on such slices. No condition.
-/
namespace Go.Proofs.YtkchakcebdenjaaGreat
open Go.RowKit
def stv (xs : List ByteArray) : List Value := xs.map Value.string
theorem stv_get (xs : List ByteArray) (i : Nat) (x : ByteArray) (h : xs[i]? = some x) : (stv xs)[i]? = some (.string x) := by simp [stv, h]
theorem below_dN (w : World) (n : Nat) : Below w.heap.size w (w.drewN n) := ⟨rfl, rfl, rfl, Nat.le_refl _, fun _ _ => rfl⟩
def StRow (w : World) (v : Value) (xs : List ByteArray) : Prop :=
  ∃ ao cap, v = .slice ao xs.length cap ∧ (xs.length ≤ cap ∧ (ao = none → cap = 0)) ∧ xs.length ≤ 9223372036854775807 ∧ (∀ x ∈ xs, x.size ≤ maxLen) ∧
    (xs ≠ [] → ∃ g o, ao = some ⟨g, o, none⟩ ∧ g < w.heap.size ∧ ∀ i x, xs[i]? = some x → w.cell? ⟨g, o + i, none⟩ = some (.string x))
theorem StRow.small {w : World} {v : Value} {xs : List ByteArray} (R : StRow w v xs) : ∃ ao cap, v = .slice ao xs.length cap := by
  obtain ⟨ao, cap, rfl, _⟩ := R
  exact ⟨ao, cap, rfl⟩
theorem StRow.sz {w : World} {v : Value} {xs : List ByteArray} (R : StRow w v xs) : ∀ x ∈ xs, x.size ≤ maxLen := by obtain ⟨_, _, _, _, _, hz, _⟩ := R; exact hz
theorem StRow.below {w w' : World} {v : Value} {xs : List ByteArray} (h : StRow w v xs) (hb : Below w.heap.size w w') : StRow w' v xs := by
  obtain ⟨ao, cap, rfl, hc, hm, hz, hcell⟩ := h
  refine ⟨ao, cap, rfl, hc, hm, hz, fun hne => ?_⟩
  obtain ⟨g, o, rfl, hg, hcell⟩ := hcell hne
  exact ⟨g, o, rfl, Nat.lt_of_lt_of_le hg hb.size, fun i x hi => (hb.cell (p := ⟨g, o + i, none⟩) hg).trans (hcell i x hi)⟩
theorem StRow.nilcap {w : World} {ao : Option Addr} {n cap : Nat} {xs : List ByteArray} (h : StRow w (.slice ao n cap) xs) : ao = none → n = 0 ∧ cap = 0 := by
  obtain ⟨ao', cap', e, ⟨h1, h2⟩, _⟩ := h
  simp only [Value.slice.injEq] at e
  obtain ⟨rfl, rfl, rfl⟩ := e
  intro h
  have := h2 h
  omega
theorem StRow.cells {w : World} {ao : Option Addr} {n cap : Nat} {xs : List ByteArray} (h : StRow w (.slice ao n cap) xs) : ∀ ad, ao = some ad → ∀ j u, (stv xs)[j]? = some u → w.cell? (ad.add j) = some u := by
  obtain ⟨ao', cap', e, _, _, _, hc⟩ := h
  simp only [Value.slice.injEq] at e
  obtain ⟨rfl, rfl, rfl⟩ := e
  intro ad had j u hu
  simp only [stv, List.getElem?_map, Option.map_eq_some_iff] at hu
  obtain ⟨x, hx, rfl⟩ := hu
  obtain ⟨g, o, e, _, hcell⟩ := hc (by intro e; subst e; simp at hx)
  rw [had] at e
  cases e
  rw [Addr.add_lit]
  exact hcell j x hx
theorem StRow.of_own {w : World} {base : Nat} {v : Value} {xs : List ByteArray} (h : w.ownsRow base 9 1 v xs.length (stv xs)) (hm : xs.length ≤ 9223372036854775807) (hz : ∀ x ∈ xs, x.size ≤ maxLen) : StRow w v xs := by
  rcases h.2 with ⟨rfl, h0⟩ | ⟨g, cap, cur, rfl, hb, hg, hnc, hcm, hcs, htake⟩
  · have : xs = [] := List.eq_nil_of_length_eq_zero h0
    subst this
    exact ⟨none, 0, rfl, by simp, by simp, by simp, fun h => absurd rfl h⟩
  · refine ⟨_, cap, rfl, ⟨hnc, fun h => by cases h⟩, hm, hz, fun _ => ⟨g, 0, rfl, (Array.getElem?_eq_some_iff.1 hg).1, fun i x hi => ?_⟩⟩
    have hl : i < xs.length := (List.getElem?_eq_some_iff.1 hi).1
    have := h.cellAt i (by omega)
    rw [Nat.zero_add, this, stv_get xs i x hi]
def stcopied (xs : List ByteArray) (j : Nat) : List ByteArray := xs.take j ++ List.replicate (xs.length - j) ByteArray.empty
def sm (k : Int) (n : Nat) : List ByteArray := (List.range n).map fun (j : Nat) => mt (k + (j : Int))
def smid (k : Int) (pre xs post : List ByteArray) (j : Nat) : List ByteArray := pre ++ (sm k j ++ (xs.drop j ++ post))
end Go.Proofs.YtkchakcebdenjaaGreat
