/-
  Texts that stood by themselves, laid into one.
-/
import Derived.Test.YtbhfooafhbfniaaGreatDoorNodeFitsM
import Derived.Test.YtbhfooafhbfniaaGreatDoorPrToM
import Derived.Test.YtbhfooafhbfniaaGreatDoorShapeM
/-
  Helpers: a piece as 2 cells, a slice of these read as a list, and the contracts of the laws' helpers on them. No condition.
-/
namespace Go.Proofs.YtbhfooafhbfniaaGreatDoor
open Go.RowKit
structure Pc where
  n : Int
  s : ByteArray
def Pc.cs (x : Pc) : List Value := [.int .i64 x.n, .string x.s]
def pccs (xs : List Pc) : List Value := xs.flatMap Pc.cs
theorem pccs_cons (x : Pc) (xs : List Pc) : pccs (x :: xs) = x.cs ++ pccs xs := rfl
theorem pccs_length (xs : List Pc) : (pccs xs).length = xs.length * 2 := by
  induction xs with
  | nil => rfl
  | cons x xs ih => rw [pccs_cons, List.length_append, ih, List.length_cons]; simp [Pc.cs]; omega
theorem pccs_get (xs : List Pc) (i : Nat) (x : Pc) (h : xs[i]? = some x) (j : Nat) (hj : j < 2) : (pccs xs)[i * 2 + j]? = x.cs[j]? := by
  induction xs generalizing i with
  | nil => simp at h
  | cons y ys ih =>
    rw [pccs_cons]
    cases i with
    | zero =>
      simp at h; subst h
      rw [Nat.zero_mul, Nat.zero_add, List.getElem?_append_left (by simpa [Pc.cs] using hj)]
    | succ i =>
      rw [List.getElem?_append_right (by simp [Pc.cs]; omega)]
      rw [show (i + 1) * 2 + j - y.cs.length = i * 2 + j by simp [Pc.cs]; omega]
      exact ih i (by simpa using h)
theorem pccs_set (xs : List Pc) (i : Nat) (x x' : Pc) (h : xs[i]? = some x) (j : Nat) (hj : j < 2) (u : Value) (e : x.cs.set j u = x'.cs) : (pccs xs).set (i * 2 + j) u = pccs (xs.set i x') := by
  induction xs generalizing i with
  | nil => simp at h
  | cons y ys ih =>
    rw [pccs_cons]
    cases i with
    | zero =>
      simp at h; subst h
      rw [Nat.zero_mul, Nat.zero_add, List.set_append_left _ _ (by simpa [Pc.cs] using hj), e]
      rfl
    | succ i =>
      rw [List.set_append_right _ _ (by simp [Pc.cs]; omega)]
      rw [show (i + 1) * 2 + j - y.cs.length = i * 2 + j by simp [Pc.cs]; omega, ih i (by simpa using h)]
      rfl
theorem pccs_set0 (xs : List Pc) (i : Nat) (x x' : Pc) (h : xs[i]? = some x) (u : Value) (e : x.cs.set 0 u = x'.cs) : (pccs xs).set (i * 2) u = pccs (xs.set i x') :=
  pccs_set xs i x x' h 0 (by omega) u e
theorem Pc.one (x : Pc) : ∀ u ∈ x.cs, u.oneCell' = true := by
  intro u hu
  simp only [Pc.cs, List.mem_cons, List.not_mem_nil, or_false] at hu
  rcases hu with rfl | rfl <;> rfl
def PcAt (w : World) (g o : Nat) (x : Pc) : Prop :=
  w.cell? ⟨g, o, none⟩ = some (.int .i64 x.n) ∧ w.cell? ⟨g, o + 1, none⟩ = some (.string x.s)
theorem PcAt.below {w w' : World} {g o B : Nat} {x : Pc} (h : PcAt w g o x) (hb : Below B w w') (hg : g < B) : PcAt w' g o x :=
  ⟨(hb.cell (p := ⟨g, o, none⟩) hg).trans h.1, (hb.cell (p := ⟨g, o + 1, none⟩) hg).trans h.2⟩
def PcRow (w : World) (v : Value) (xs : List Pc) : Prop :=
  ∃ ao cap, v = .slice ao xs.length cap ∧ (xs.length ≤ cap ∧ (ao = none → cap = 0)) ∧ xs.length ≤ 9223372036854775807 ∧ (∀ x ∈ xs, x.s.size ≤ maxLen) ∧
    (xs ≠ [] → ∃ g o, ao = some ⟨g, o, none⟩ ∧ g < w.heap.size ∧ ∀ i x, xs[i]? = some x → PcAt w g (o + i * 2) x)
theorem PcRow.small {w : World} {v : Value} {xs : List Pc} (R : PcRow w v xs) : ∃ ao cap, v = .slice ao xs.length cap := by
  obtain ⟨ao, cap, rfl, _⟩ := R
  exact ⟨ao, cap, rfl⟩
theorem PcRow.below {w w' : World} {v : Value} {xs : List Pc} (h : PcRow w v xs) (hb : Below w.heap.size w w') : PcRow w' v xs := by
  obtain ⟨ao, cap, rfl, hc, hm, hz, hcell⟩ := h
  refine ⟨ao, cap, rfl, hc, hm, hz, fun hne => ?_⟩
  obtain ⟨g, o, rfl, hg, hcell⟩ := hcell hne
  exact ⟨g, o, rfl, Nat.lt_of_lt_of_le hg hb.size, fun i x hi => (hcell i x hi).below hb hg⟩
theorem PcRow.of_own {w : World} {base : Nat} {v : Value} {xs : List Pc} (h : w.ownsRow base 111 2 v xs.length (pccs xs)) (hm : xs.length ≤ 9223372036854775807) (hz : ∀ x ∈ xs, x.s.size ≤ maxLen) : PcRow w v xs := by
  rcases h.2 with ⟨rfl, h0⟩ | ⟨g, cap, cur, rfl, hb, hg, hnc, hcm, hcs, htake⟩
  · have : xs = [] := List.eq_nil_of_length_eq_zero h0
    subst this
    exact ⟨none, 0, rfl, by simp, by simp, by simp, fun h => absurd rfl h⟩
  · refine ⟨_, cap, rfl, ⟨hnc, fun h => by cases h⟩, hm, hz, fun _ => ⟨g, 0, rfl, (Array.getElem?_eq_some_iff.1 hg).1, fun i x hi => ?_⟩⟩
    have hl : i < xs.length := (List.getElem?_eq_some_iff.1 hi).1
    have e : ∀ j, j < 2 → w.cell? ⟨g, 0 + i * 2 + j, none⟩ = x.cs[j]? := fun j hj => by
      have := h.cellAt (i * 2 + j) (by omega)
      rw [Nat.zero_add, this, pccs_get xs i x hi j hj]
    exact ⟨e 0 (by omega), e 1 (by omega)⟩
theorem Tryz.sizePc : (Tryz.prog.info? 111).map (·.size) = some 2 := by kernel_rfl
set_option maxHeartbeats 800000 in
theorem eqpc_any (x : Pc) (w : World) :
    Calls Tryz.prog 95 #[.agg #[.int .i64 x.n, .string x.s], .agg #[.int .i64 x.n, .string x.s]] w fun e w' => e = .returned (.bool true) ∧ Below w.heap.size w w' := by
  go_enter Tryz.func95, Tryz.ntmps95
  go_wp2
  go_ret
  exact ⟨rfl, ((Below.refl _ _).alloc (Nat.le_refl _) _).alloc (by simp) _⟩
def zeroPc : Pc := ⟨0, ByteArray.empty⟩
def pccopied (xs : List Pc) (j : Nat) : List Pc := xs.take j ++ List.replicate (xs.length - j) zeroPc
set_option maxHeartbeats 800000 in
theorem eqpcs_any (va vb : Value) (xs : List Pc) (w : World) (Ra : PcRow w va xs) (Rb : PcRow w vb xs) :
    Calls Tryz.prog 94 #[va, vb] w fun e w' => e = .returned (.bool true) ∧ Below w.heap.size w w' := by
  obtain ⟨aa, ca, rfl, hca, hm, hz, hcella⟩ := Ra
  obtain ⟨ab, cb, rfl, hcb, _, _, hcellb⟩ := Rb
  have hn : ((xs.length : Int) != (xs.length : Int)) = false := by simp
  go_enter Tryz.func94, Tryz.ntmps94
  go_wp2
  go_loopw [5] (fun i wr => ∃ k : Nat, k ≤ xs.length ∧ i = .int .i64 k ∧ Below w.heap.size w wr) (fun i _ => xs.length - (intOf i).toNat)
  case atStart => exact ⟨0, by omega, rfl, Below.refl _ _⟩
  case round =>
    obtain ⟨k, hk, rfl, hb⟩ := hrel
    by_cases hlt : k < xs.length
    · obtain ⟨ga, oa, rfl, hga, hcella⟩ := hcella (by intro e; subst e; simp at hlt)
      obtain ⟨gb, ob, rfl, hgb, hcellb⟩ := hcellb (by intro e; subst e; simp at hlt)
      obtain ⟨x, hx⟩ : ∃ x, xs[k]? = some x := ⟨xs[k], by simp [hlt]⟩
      obtain ⟨c0, c1⟩ := (hcella k x hx).below hb hga
      obtain ⟨d0, d1⟩ := (hcellb k x hx).below hb hgb
      clear hcella hcellb hx
      go_wp2_with fail
      go_region_with (go_at_call 95; refine (eqpc_any x _).mono ?_; rintro e w2 ⟨rfl, hb2⟩)
      all_goals
        have hB2 : Below w.heap.size w w2 := hb.drew.trans (hb2.mono hb.size)
        clear c0 c1 d0 d1 hb2
        go_wp2
        go_roundw
        case rel => exact ⟨k + 1, by omega, by go_num, hB2⟩
        case measure => simp [intOf]; omega
    · go_wp2
      go_ret
      exact ⟨rfl, hb⟩
end Go.Proofs.YtbhfooafhbfniaaGreatDoor
/-
  Contracts of the laws' own helpers markPieceS, heldPieceS: what is marked in a slice of the call's own is found there.
-/
namespace Go.Proofs.YtbhfooafhbfniaaGreatDoor
open Go.RowKit
theorem PcRow.sz {w : World} {v : Value} {xs : List Pc} (R : PcRow w v xs) : ∀ x ∈ xs, x.s.size ≤ maxLen := by obtain ⟨_, _, _, _, _, hz, _⟩ := R; exact hz
theorem PcRow.le {w : World} {v : Value} {xs : List Pc} (R : PcRow w v xs) : xs.length ≤ 9223372036854775807 := by obtain ⟨_, _, _, _, h, _⟩ := R; exact h
theorem PcRow.nilcap {w : World} {ao : Option Addr} {n cap : Nat} {xs : List Pc} (h : PcRow w (.slice ao n cap) xs) : ao = none → n = 0 ∧ cap = 0 := by
  obtain ⟨ao', cap', e, ⟨h1, h2⟩, _⟩ := h
  simp only [Value.slice.injEq] at e
  obtain ⟨rfl, rfl, rfl⟩ := e
  intro h
  have := h2 h
  omega
theorem PcRow.cells {w : World} {ao : Option Addr} {n cap : Nat} {xs : List Pc} (h : PcRow w (.slice ao n cap) xs) : ∀ ad, ao = some ad → ∀ j u, (pccs xs)[j]? = some u → w.cell? (ad.add j) = some u := by
  obtain ⟨ao', cap', e, _, _, _, hc⟩ := h
  simp only [Value.slice.injEq] at e
  obtain ⟨rfl, rfl, rfl⟩ := e
  intro ad had j u hu
  have hj : j < xs.length * 2 := by have := (List.getElem?_eq_some_iff.1 hu).1; rwa [pccs_length] at this
  have hq : j / 2 < xs.length := by omega
  obtain ⟨g, o, e, _, hcell⟩ := hc (by intro e; subst e; simp at hq)
  rw [had] at e
  cases e
  have hx : xs[j / 2]? = some xs[j / 2] := List.getElem?_eq_getElem hq
  obtain ⟨c0, c1⟩ := hcell (j / 2) _ hx
  have hg := pccs_get xs (j / 2) _ hx (j % 2) (by omega)
  rw [show j / 2 * 2 + j % 2 = j by omega, hu] at hg
  have h2 : j % 2 = 0 ∨ j % 2 = 1 := by omega
  rcases h2 with h2 | h2
  · rw [h2] at hg
    simp only [Pc.cs, List.getElem?_cons_zero, Option.some.injEq] at hg
    subst hg
    have : o + j = o + j / 2 * 2 := by omega
    rw [Addr.add_lit, this]
    exact c0
  · rw [h2] at hg
    simp only [Pc.cs, List.getElem?_cons_succ, List.getElem?_cons_zero, Option.some.injEq] at hg
    subst hg
    have : o + j = o + j / 2 * 2 + 1 := by omega
    rw [Addr.add_lit, this]
    exact c1
def pmk (k : Int) : Pc := ⟨k, mt (k + 1)⟩
def pmarked (k : Int) (xs : List Pc) (i : Nat) : List Pc := (List.range i).map (fun (j : Nat) => pmk (k + 2 * (j : Int))) ++ xs.drop i
theorem pmarked_zero (k : Int) (xs : List Pc) : pmarked k xs 0 = xs := by simp [pmarked]
theorem pmarked_length (k : Int) (xs : List Pc) (i : Nat) (h : i ≤ xs.length) : (pmarked k xs i).length = xs.length := by simp [pmarked]; omega
theorem pmarked_at (k : Int) (xs : List Pc) (i : Nat) (h : i < xs.length) : (pmarked k xs i)[i]? = some xs[i] := by
  unfold pmarked
  rw [List.getElem?_append_right (by simp)]
  simp [h]
theorem pmarked_set (k : Int) (xs : List Pc) (i : Nat) (h : i < xs.length) : (pmarked k xs i).set i (pmk (k + 2 * (i : Int))) = pmarked k xs (i + 1) := by
  unfold pmarked
  rw [List.range_succ, List.map_append, List.set_append_right _ _ (by simp), List.drop_eq_getElem_cons h, List.append_assoc]
  have e : i - (List.map (fun (j : Nat) => pmk (k + 2 * (j : Int))) (List.range i)).length = 0 := by simp
  rw [e]
  rfl
theorem pmarked_get (k : Int) (xs : List Pc) (i : Nat) (h : i < xs.length) : (pmarked k xs xs.length)[i]? = some (pmk (k + 2 * (i : Int))) := by
  simp [pmarked, h]
set_option maxHeartbeats 1600000 in
theorem markpieces_any (v : Value) (k : Int) (base : Nat) (xs : List Pc) (w : World) (h : w.ownsRow base 111 2 v xs.length (pccs xs)) (hm : xs.length ≤ 4194304) (hk0 : 0 ≤ k) (hk : k ≤ 2305843009213693952) :
    Calls Tryz.prog 71 #[v, .int .i64 k] w fun e w' => e = .returned (.int .i64 (k + 2 * xs.length)) ∧ w'.ownsRow base 111 2 v xs.length (pccs (pmarked k xs xs.length)) ∧ w.grownBy w' v.ownBlock := by
  rcases h.2 with ⟨rfl, h0⟩ | ⟨g, cap, cur, rfl, hb, hg, hnc, hcm, hcs, htake⟩
  · have : xs = [] := List.eq_nil_of_length_eq_zero h0
    subst this
    go_enter Tryz.func71, Tryz.ntmps71
    go_wp2
    refine wp_loop_rounds 1 ?_
    rw [rounds_succ]
    go_wp2
    go_ret
    exact ⟨by simp, h, World.grownBy.refl _ _⟩
  · clear hg hcs htake
    go_enter Tryz.func71, Tryz.ntmps71
    go_wp2
    go_loopw [1, 5] (fun q i wr => ∃ j : Nat, j ≤ xs.length ∧ i = .int .i64 j ∧ q = .int .i64 (k + 2 * (j : Int)) ∧ wr.ownsRow base 111 2 (.slice (some ⟨g, 0, none⟩) xs.length cap) xs.length (pccs (pmarked k xs j)) ∧ w.grownBy wr (some g)) (fun _ i _ => xs.length - (intOf i).toNat)
    case atStart => exact ⟨0, by omega, rfl, by simp, by rw [pmarked_zero]; exact h, World.grownBy.refl _ _⟩
    case round =>
      obtain ⟨j, hj, rfl, rfl, hown, hbel⟩ := hrel
      by_cases hlt : j < xs.length
      · have hgs : g < wr.heap.size := (hown.lt g rfl).2
        have c0 := hown.cellAt (j * 2 + 0) (by omega)
        rw [pccs_get _ j _ (pmarked_at k xs j hlt) 0 (by omega)] at c0
        simp only [Pc.cs, List.getElem?_cons_zero, Nat.add_zero] at c0
        have f0 := hown.frozenAt (j * 2)
        have get : ∀ y : Pc, ((pmarked k xs j).set j y)[j]? = some y := fun y => by rw [List.getElem?_set_self (by rw [pmarked_length _ _ _ hj]; exact hlt)]
        have s0 := hown.stored (j * 2) (.int .i64 (k + 2 * (j : Int)))
        rw [pccs_set0 _ j xs[j] ⟨k + 2 * (j : Int), xs[j].s⟩ (pmarked_at k xs j hlt) _ rfl] at s0
        have hB1 := hbel.trans s0.2
        go_wp2_with fail
        refine (marktext_any _ _ (by omega)).mono ?_
        rintro e w2 ⟨rfl, hb2⟩
        have hown2 := own_below s0.1 hb2
        have hB2 := hB1.trans (grown_below2 hb2 (some g))
        have d1 := hown2.cellAt (j * 2 + 1) (by omega)
        rw [pccs_get _ j _ (get _) 1 (by omega)] at d1
        simp only [Pc.cs, List.getElem?_cons_succ, List.getElem?_cons_zero] at d1
        have e1 := hown2.frozenAt (j * 2 + 1)
        have s1 := hown2.stored (j * 2 + 1) (.string (mt (k + 2 * (j : Int) + 1)))
        rw [pccs_set ((pmarked k xs j).set j ⟨k + 2 * (j : Int), xs[j].s⟩) j ⟨k + 2 * (j : Int), xs[j].s⟩ (pmk (k + 2 * (j : Int))) (get _) 1 (by omega) (.string (mt (k + 2 * (j : Int) + 1))) rfl, List.set_set, pmarked_set k xs j hlt] at s1
        have hB4 := hB2.trans s1.2
        have S4 := s1.1
        clear s0 s1 hown hown2 c0 f0 hb2 hB1 hB2 hbel get
        go_wp2
        go_roundw
        case rel => exact ⟨j + 1, by omega, by go_num, by go_num, S4, hB4⟩
        case measure => simp [intOf]; omega
      · go_wp2
        go_ret
        have : j = xs.length := by omega
        subst this
        exact ⟨rfl, hown, hbel⟩
set_option maxHeartbeats 1600000 in
theorem heldpieces_any (v : Value) (k : Int) (xs : List Pc) (w : World) (R : PcRow w v (pmarked k xs xs.length)) (hm : xs.length ≤ 4194304) (hk0 : 0 ≤ k) (hk : k ≤ 2305843009213693952) :
    Calls Tryz.prog 77 #[v, .int .i64 k] w fun e w' => e = .returned (.int .i64 (k + 2 * xs.length)) ∧ Below w.heap.size w w' := by
  obtain ⟨ao, cap, rfl, hcap, _, hz, hcell⟩ := R
  rw [pmarked_length _ _ _ (Nat.le_refl _)] at hcap ⊢
  go_enter Tryz.func77, Tryz.ntmps77
  go_wp2
  go_loopw [1, 5] (fun q i wr => ∃ j : Nat, j ≤ xs.length ∧ i = .int .i64 j ∧ q = .int .i64 (k + 2 * (j : Int)) ∧ Below w.heap.size w wr) (fun _ i _ => xs.length - (intOf i).toNat)
  case atStart => exact ⟨0, by omega, rfl, by simp, Below.refl _ _⟩
  case round =>
    obtain ⟨j, hj, rfl, rfl, hbel⟩ := hrel
    by_cases hlt : j < xs.length
    · obtain ⟨g, o, rfl, hg, hcell⟩ := hcell (by intro e; have := congrArg List.length e; rw [pmarked_length _ _ _ (Nat.le_refl _)] at this; simp only [List.length_nil] at this; omega)
      obtain ⟨c0, c1⟩ := (hcell j _ (pmarked_get k xs j hlt)).below hbel hg
      have C := (hcell j _ (pmarked_get k xs j hlt))
      clear hcell
      simp only [pmk] at c0 c1
      have m0 : ((k + 2 * (j : Int)) != (k + 2 * (j : Int))) = false := by simp
      go_wp2_with fail
      go_region_with (go_at_call 69; refine (marktext_any _ _ ?_).mono ?_; omega; rintro e w2 ⟨rfl, hb2⟩; have hB2 : Below w.heap.size w w2 := hbel.drew.trans (hb2.mono hbel.size); obtain ⟨d0, d1⟩ := C.below hB2 hg; simp only [pmk] at d1)
      all_goals
        clear c0 c1 d0 d1 m0
        go_wp2
        go_roundw
        case rel => exact ⟨j + 1, by omega, by go_num, by go_num, hB2⟩
        case measure => simp [intOf]; omega
    · go_wp2
      go_ret
      have : j = xs.length := by omega
      subst this
      exact ⟨rfl, hbel⟩
end Go.Proofs.YtbhfooafhbfniaaGreatDoor
/-
  Homes, grams and parked ones: what they are as cells, and the contracts of the laws' helpers on one of them. No condition.
-/
namespace Go.Proofs.YtbhfooafhbfniaaGreatDoor
open Go.RowKit
structure Hm where
  pl : Int
  i : Int
  xs : List Nd
  m : Mc
  bx : List ByteArray
  ox : List ByteArray
structure Gm where
  k : Int
  f : Int
  t : Int
  n : Int
  s : ByteArray
structure Pd where
  p : Int
  t : Int
  s : ByteArray
theorem StRow.kp {w w' : World} {v : Value} {xs : List ByteArray} {B : Nat} (R : StRow w v xs) (hf : Fr B v) (hk : Kp B w w') : StRow w' v xs := by
  obtain ⟨ao, cap, rfl, hc, hm, hz, hcell⟩ := R
  refine ⟨ao, cap, rfl, hc, hm, hz, fun hne => ?_⟩
  obtain ⟨g, o, rfl, hg, hcell⟩ := hcell hne
  have e := kp_cell hk hf rfl hg
  exact ⟨g, o, rfl, Nat.lt_of_lt_of_le hg hk.1, fun i x hi => (World.cell?_of_block e).trans (hcell i x hi)⟩
theorem PcRow.kp {w w' : World} {v : Value} {xs : List Pc} {B : Nat} (R : PcRow w v xs) (hf : Fr B v) (hk : Kp B w w') : PcRow w' v xs := by
  obtain ⟨ao, cap, rfl, hc, hm, hz, hcell⟩ := R
  refine ⟨ao, cap, rfl, hc, hm, hz, fun hne => ?_⟩
  obtain ⟨g, o, rfl, hg, hcell⟩ := hcell hne
  have e := kp_cell hk hf rfl hg
  refine ⟨g, o, rfl, Nat.lt_of_lt_of_le hg hk.1, fun i x hi => ?_⟩
  obtain ⟨c0, c1⟩ := hcell i x hi
  exact ⟨(World.cell?_of_block e).trans c0, (World.cell?_of_block e).trans c1⟩
def EH (B : Nat) (w : World) (cs : List Value) (h : Hm) : Prop := ∃ v vb vo, cs.toArray = #[.int .i64 h.pl, .int .i64 h.i, v, .int .i64 h.m.p, .int .i64 h.m.s, .int .i64 h.m.e, .int .i64 h.m.d, .int .i64 h.m.t, .int .i64 h.m.q, .int .i64 h.m.r, vb, vo] ∧ NRow w v h.xs ∧ StRow w vb h.bx ∧ StRow w vo h.ox ∧ Fr B v ∧ Fr B vb ∧ Fr B vo
def EG (_ : Nat) (_ : World) (cs : List Value) (g : Gm) : Prop := cs.toArray = #[.int .i64 g.k, .int .i64 g.f, .int .i64 g.t, .int .i64 g.n, .string g.s] ∧ g.s.size ≤ maxLen
def EP (_ : Nat) (_ : World) (cs : List Value) (p : Pd) : Prop := cs.toArray = #[.int .i64 p.p, .int .i64 p.t, .string p.s] ∧ p.s.size ≤ maxLen
theorem stbH : Stb EH := ⟨fun _ _ _ _ _ ⟨v, vb, vo, h, r1, r2, r3, f1, f2, f3⟩ hk => ⟨v, vb, vo, h, r1.kp f1 hk, r2.kp f2 hk, r3.kp f3 hk, f1, f2, f3⟩, fun _ _ _ _ _ ⟨v, vb, vo, h, r1, r2, r3, f1, f2, f3⟩ hc => ⟨v, vb, vo, h, r1, r2, r3, f1.mono hc, f2.mono hc, f3.mono hc⟩⟩
theorem stbG : Stb EG := ⟨fun _ _ _ _ _ h _ => h, fun _ _ _ _ _ h _ => h⟩
theorem stbP : Stb EP := ⟨fun _ _ _ _ _ h _ => h, fun _ _ _ _ _ h _ => h⟩
def SmH (h : Hm) : Prop := h.xs.length ≤ 1048576 ∧ h.bx.length ≤ 1048576 ∧ h.ox.length ≤ 1048576 ∧ ∀ x ∈ h.bx, x.size ≤ 1048576
def SmG (_ : Gm) : Prop := True
def SmP (_ : Pd) : Prop := True
theorem Tryz.sizeHm : (Tryz.prog.info? 65).map (·.size) = some 12 := by kernel_rfl
theorem Tryz.sizeGm : (Tryz.prog.info? 113).map (·.size) = some 5 := by kernel_rfl
theorem Tryz.sizePd : (Tryz.prog.info? 116).map (·.size) = some 3 := by kernel_rfl
set_option maxRecDepth 100000 in
set_option maxHeartbeats 1600000 in
theorem eqhome_any (h : Hm) (v vb vo u ub uo : Value) (w : World) (R : NRow w v h.xs) (Rb : StRow w vb h.bx) (Ro : StRow w vo h.ox) (S : NRow w u h.xs) (Sb : StRow w ub h.bx) (So : StRow w uo h.ox) :
    Calls Tryz.prog 60 #[.agg #[.int .i64 h.pl, .int .i64 h.i, v, .int .i64 h.m.p, .int .i64 h.m.s, .int .i64 h.m.e, .int .i64 h.m.d, .int .i64 h.m.t, .int .i64 h.m.q, .int .i64 h.m.r, vb, vo], .agg #[.int .i64 h.pl, .int .i64 h.i, u, .int .i64 h.m.p, .int .i64 h.m.s, .int .i64 h.m.e, .int .i64 h.m.d, .int .i64 h.m.t, .int .i64 h.m.q, .int .i64 h.m.r, ub, uo]] w fun e w' => e = .returned (.bool true) ∧ Below w.heap.size w w' := by
  obtain ⟨ao, cap, rfl⟩ : ∃ ao cap, v = .slice ao h.xs.length cap := by obtain ⟨ao, cap, rfl, _⟩ := R; exact ⟨ao, cap, rfl⟩
  obtain ⟨ab, cb, rfl⟩ := Rb.small
  obtain ⟨ac, cc, rfl⟩ := Ro.small
  obtain ⟨p1, q1, rfl⟩ : ∃ ao cap, u = .slice ao h.xs.length cap := by obtain ⟨ao, cap, rfl, _⟩ := S; exact ⟨ao, cap, rfl⟩
  obtain ⟨p2, q2, rfl⟩ := Sb.small
  obtain ⟨p3, q3, rfl⟩ := So.small
  obtain ⟨hB0, hx, hy⟩ := two_boxes w (Obj.cells #[.int .i64 h.pl, .int .i64 h.i, .slice ao h.xs.length cap, .int .i64 h.m.p, .int .i64 h.m.s, .int .i64 h.m.e, .int .i64 h.m.d, .int .i64 h.m.t, .int .i64 h.m.q, .int .i64 h.m.r, .slice ab h.bx.length cb, .slice ac h.ox.length cc] 65) (Obj.cells #[.int .i64 h.pl, .int .i64 h.i, .slice p1 h.xs.length q1, .int .i64 h.m.p, .int .i64 h.m.s, .int .i64 h.m.e, .int .i64 h.m.d, .int .i64 h.m.t, .int .i64 h.m.q, .int .i64 h.m.r, .slice p2 h.bx.length q2, .slice p3 h.ox.length q3] 65)
  go_enter Tryz.func60, Tryz.ntmps60
  go_wp2_with (first
    | (refine wpList_load_sub rfl 59 _ rfl w.heap.size 1 rfl _ 65 #[.int .i64 h.i, .slice ao h.xs.length cap, .int .i64 h.m.p, .int .i64 h.m.s, .int .i64 h.m.e, .int .i64 h.m.d, .int .i64 h.m.t, .int .i64 h.m.q, .int .i64 h.m.r, .slice ab h.bx.length cb, .slice ac h.ox.length cc] _ hx rfl Tryz.underlying59 rfl Tryz.sizeProc ?_)
    | (refine wpList_load_sub rfl 59 _ rfl (w.heap.size + 1) 1 rfl _ 65 #[.int .i64 h.i, .slice p1 h.xs.length q1, .int .i64 h.m.p, .int .i64 h.m.s, .int .i64 h.m.e, .int .i64 h.m.d, .int .i64 h.m.t, .int .i64 h.m.q, .int .i64 h.m.r, .slice p2 h.bx.length q2, .slice p3 h.ox.length q3] _ hy rfl Tryz.underlying59 rfl Tryz.sizeProc ?_))
  refine (eqproc_any h.i _ _ _ _ _ _ h.xs h.m h.bx h.ox _ (R.below hB0) (Rb.below hB0) (Ro.below hB0) (S.below hB0) (Sb.below hB0) (So.below hB0)).mono ?_
  rintro e w1 ⟨rfl, hb⟩
  have hB1 := hB0.trans (hb.mono hB0.size)
  clear hB0 hx hy hb
  go_wp2
  go_ret
  exact ⟨rfl, hB1⟩
set_option maxRecDepth 100000 in
set_option maxHeartbeats 1600000 in
theorem eqgram_any (g : Gm) (w : World) :
    Calls Tryz.prog 62 #[.agg #[.int .i64 g.k, .int .i64 g.f, .int .i64 g.t, .int .i64 g.n, .string g.s], .agg #[.int .i64 g.k, .int .i64 g.f, .int .i64 g.t, .int .i64 g.n, .string g.s]] w fun e w' => e = .returned (.bool true) ∧ Below w.heap.size w w' := by
  obtain ⟨hB0, hx, hy⟩ := two_boxes w (Obj.cells #[.int .i64 g.k, .int .i64 g.f, .int .i64 g.t, .int .i64 g.n, .string g.s] 113) (Obj.cells #[.int .i64 g.k, .int .i64 g.f, .int .i64 g.t, .int .i64 g.n, .string g.s] 113)
  go_enter Tryz.func62, Tryz.ntmps62
  go_wp2_with (first
    | (refine wpList_load_sub rfl 111 _ rfl w.heap.size 3 rfl _ 113 #[.int .i64 g.n, .string g.s] _ hx rfl Tryz.underlying111 rfl Tryz.sizePc ?_)
    | (refine wpList_load_sub rfl 111 _ rfl (w.heap.size + 1) 3 rfl _ 113 #[.int .i64 g.n, .string g.s] _ hy rfl Tryz.underlying111 rfl Tryz.sizePc ?_))
  refine (eqpc_any ⟨g.n, g.s⟩ _).mono ?_
  rintro e w1 ⟨rfl, hb⟩
  have hB1 := hB0.trans (hb.mono hB0.size)
  clear hB0 hx hy hb
  go_wp2
  go_ret
  exact ⟨rfl, hB1⟩
set_option maxRecDepth 100000 in
set_option maxHeartbeats 1600000 in
theorem eqparked_any (p : Pd) (w : World) :
    Calls Tryz.prog 63 #[.agg #[.int .i64 p.p, .int .i64 p.t, .string p.s], .agg #[.int .i64 p.p, .int .i64 p.t, .string p.s]] w fun e w' => e = .returned (.bool true) ∧ Below w.heap.size w w' := by
  obtain ⟨hB0, hx, hy⟩ := two_boxes w (Obj.cells #[.int .i64 p.p, .int .i64 p.t, .string p.s] 116) (Obj.cells #[.int .i64 p.p, .int .i64 p.t, .string p.s] 116)
  clear hx hy
  go_enter Tryz.func63, Tryz.ntmps63
  go_wp2
  go_ret
  exact ⟨rfl, hB0⟩
end Go.Proofs.YtbhfooafhbfniaaGreatDoor
/-
  A part of a row of texts that the call owns, and how it is marked. No condition.
-/
namespace Go.Proofs.YtbhfooafhbfniaaGreatDoor
open Go.RowKit
def SOwn (w : World) (base : Nat) (v : Value) (xs : List ByteArray) : Prop :=
  ∃ ao cap, v = .slice ao xs.length cap ∧ (xs.length ≤ cap ∧ (ao = none → cap = 0)) ∧
    (xs = [] ∨ ∃ g CAP N pre post, ao = some ⟨g, pre.length, none⟩ ∧ pre.length + xs.length + post.length = N ∧ w.ownsRow base 9 1 (.slice (some ⟨g, 0, none⟩) N CAP) N (stv (pre ++ (xs ++ post))))
theorem SOwn.form {w : World} {base : Nat} {v : Value} {xs : List ByteArray} (h : SOwn w base v xs) : ∃ ao cap, v = .slice ao xs.length cap := by
  obtain ⟨ao, cap, rfl, _⟩ := h
  exact ⟨ao, cap, rfl⟩
theorem SOwn.of_own {w : World} {base : Nat} {v : Value} {xs : List ByteArray} (h : w.ownsRow base 9 1 v xs.length (stv xs)) : SOwn w base v xs := by
  have h' := h
  rcases h.2 with ⟨rfl, h0⟩ | ⟨g, cap, cur, rfl, hb, hg, hnc, hcm, hcs, htake⟩
  · have : xs = [] := List.eq_nil_of_length_eq_zero h0
    subst this
    exact ⟨none, 0, rfl, by simp, Or.inl rfl⟩
  · exact ⟨_, cap, rfl, ⟨hnc, fun h => by cases h⟩, Or.inr ⟨g, cap, xs.length, [], [], rfl, by simp, by simpa using h'⟩⟩
theorem SOwn.row {w : World} {base : Nat} {v : Value} {xs : List ByteArray} (h : SOwn w base v xs) (hm : xs.length ≤ 9223372036854775807) (hz : ∀ x ∈ xs, x.size ≤ maxLen) : StRow w v xs := by
  obtain ⟨ao, cap, rfl, hc, h⟩ := h
  refine ⟨ao, cap, rfl, hc, hm, hz, fun hne => ?_⟩
  rcases h with h | ⟨g, CAP, N, pre, post, rfl, hN, ho⟩
  · exact absurd h hne
  · refine ⟨g, pre.length, rfl, (ho.lt g rfl).2, fun i x hi => ?_⟩
    have hil : i < xs.length := (List.getElem?_eq_some_iff.1 hi).1
    have := ho.cellAt (pre.length + i) (by omega)
    rw [this]
    apply stv_get
    rw [List.getElem?_append_right (by omega), show pre.length + i - pre.length = i by omega, List.getElem?_append_left hil]
    exact hi
theorem SOwn.below {w w' : World} {base : Nat} {v : Value} {xs : List ByteArray} (h : SOwn w base v xs) (hb : Below w.heap.size w w') : SOwn w' base v xs := by
  obtain ⟨ao, cap, rfl, hc, h⟩ := h
  refine ⟨ao, cap, rfl, hc, ?_⟩
  rcases h with h | ⟨g, CAP, N, pre, post, rfl, hN, ho⟩
  · exact Or.inl h
  · exact Or.inr ⟨g, CAP, N, pre, post, rfl, hN, own_below ho hb⟩
theorem SOwn.alloc {w : World} {base : Nat} {v : Value} {xs : List ByteArray} (h : SOwn w base v xs) (o : Obj) : SOwn (w.alloc o) base v xs := h.below ((Below.refl _ _).alloc (Nat.le_refl _) _)
theorem SOwn.blk {w : World} {base : Nat} {v : Value} {xs : List ByteArray} (h : SOwn w base v xs) (hne : xs ≠ []) : ∃ g cs, v.ownBlock = some g ∧ base ≤ g ∧ w.heap[g]? = some (.cells cs 9 (0, 0)) := by
  obtain ⟨ao, cap, rfl, hc, h⟩ := h
  rcases h with h | ⟨g, CAP, N, pre, post, rfl, hN, ho⟩
  · exact absurd h hne
  · rcases ho.2 with ⟨e, _⟩ | ⟨g', cap', cur, e, hb, hg, _⟩
    · cases e
    · cases e
      exact ⟨_, cur, rfl, hb, hg⟩
theorem SOwn.kept {w w' : World} {base : Nat} {v : Value} {xs : List ByteArray} {o : Option Nat} (h : SOwn w base v xs) (hg : w.grownBy w' o) (hne : xs = [] ∨ ∀ g, v.ownBlock = some g → o ≠ some g) : SOwn w' base v xs := by
  obtain ⟨ao, cap, rfl, hc, h⟩ := h
  refine ⟨ao, cap, rfl, hc, ?_⟩
  rcases h with h | ⟨g, CAP, N, pre, post, rfl, hN, ho⟩
  · exact Or.inl h
  · rcases hne with hne | hne
    · exact Or.inl hne
    · refine Or.inr ⟨g, CAP, N, pre, post, rfl, hN, ho.kept hg (Or.inr fun e => hne g rfl ?_)⟩
      simpa [Value.ownBlock] using e.symm
end Go.Proofs.YtbhfooafhbfniaaGreatDoor
