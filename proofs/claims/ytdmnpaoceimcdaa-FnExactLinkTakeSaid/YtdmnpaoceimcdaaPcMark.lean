/-
  Contracts of the laws' own helpers markPieceS, heldPieceS: what is marked in a slice of the call's own is found there.
-/
import Derived.Test.YtdmnpaoceimcdaaPc
import Derived.Test.YtdmnpaoceimcdaaMark2
namespace Go.Proofs.Ytdmnpaoceimcdaa
open Go.RowKit

theorem PcRow.sz {w : World} {v : Value} {xs : List Pc} (R : PcRow w v xs) : ∀ x ∈ xs, x.s.size ≤ maxLen := by obtain ⟨_, _, _, _, _, hz, _⟩ := R; exact hz
theorem PcRow.le {w : World} {v : Value} {xs : List Pc} (R : PcRow w v xs) : xs.length ≤ 9223372036854775807 := by obtain ⟨_, _, _, _, h, _⟩ := R; exact h
theorem PcRow.nilcap {w : World} {ao : Option Addr} {n cap : Nat} {xs : List Pc} (h : PcRow w (.slice ao n cap) xs) : ao = none → n = 0 ∧ cap = 0 := by
  obtain ⟨ao', cap', e, ⟨h1, h2⟩, _⟩ := h
  simp only [Value.slice.injEq] at e
  obtain ⟨rfl, rfl, rfl⟩ := e
  intro h
  have := h2 h
  omega
theorem PcRow.cells {w : World} {ao : Option Addr} {n cap : Nat} {xs : List Pc} (h : PcRow w (.slice ao n cap) xs) : ∀ ad, ao = some ad → ∀ j u, (pccs xs)[j]? = some u → w.cell? (ad.add j) = some u := by
  obtain ⟨ao', cap', e, _, _, _, hc⟩ := h
  simp only [Value.slice.injEq] at e
  obtain ⟨rfl, rfl, rfl⟩ := e
  intro ad had j u hu
  have hj : j < xs.length * 2 := by have := (List.getElem?_eq_some_iff.1 hu).1; rwa [pccs_length] at this
  have hq : j / 2 < xs.length := by omega
  obtain ⟨g, o, e, _, hcell⟩ := hc (by intro e; subst e; simp at hq)
  rw [had] at e
  cases e
  have hx : xs[j / 2]? = some xs[j / 2] := List.getElem?_eq_getElem hq
  obtain ⟨c0, c1⟩ := hcell (j / 2) _ hx
  have hg := pccs_get xs (j / 2) _ hx (j % 2) (by omega)
  rw [show j / 2 * 2 + j % 2 = j by omega, hu] at hg
  have h2 : j % 2 = 0 ∨ j % 2 = 1 := by omega
  rcases h2 with h2 | h2
  · rw [h2] at hg
    simp only [Pc.cs, List.getElem?_cons_zero, Option.some.injEq] at hg
    subst hg
    have : o + j = o + j / 2 * 2 := by omega
    rw [Addr.add_lit, this]
    exact c0
  · rw [h2] at hg
    simp only [Pc.cs, List.getElem?_cons_succ, List.getElem?_cons_zero, Option.some.injEq] at hg
    subst hg
    have : o + j = o + j / 2 * 2 + 1 := by omega
    rw [Addr.add_lit, this]
    exact c1

/-- The piece that is laid from the number k on. -/
def pmk (k : Int) : Pc := ⟨k, mt (k + 1)⟩
/-- What lies in a slice of pieces behind markPieceS from k on, when i of them are written and xs stood there. -/
def pmarked (k : Int) (xs : List Pc) (i : Nat) : List Pc := (List.range i).map (fun (j : Nat) => pmk (k + 2 * (j : Int))) ++ xs.drop i
theorem pmarked_zero (k : Int) (xs : List Pc) : pmarked k xs 0 = xs := by simp [pmarked]
theorem pmarked_length (k : Int) (xs : List Pc) (i : Nat) (h : i ≤ xs.length) : (pmarked k xs i).length = xs.length := by simp [pmarked]; omega
theorem pmarked_at (k : Int) (xs : List Pc) (i : Nat) (h : i < xs.length) : (pmarked k xs i)[i]? = some xs[i] := by
  unfold pmarked
  rw [List.getElem?_append_right (by simp)]
  simp [h]
theorem pmarked_set (k : Int) (xs : List Pc) (i : Nat) (h : i < xs.length) : (pmarked k xs i).set i (pmk (k + 2 * (i : Int))) = pmarked k xs (i + 1) := by
  unfold pmarked
  rw [List.range_succ, List.map_append, List.set_append_right _ _ (by simp), List.drop_eq_getElem_cons h, List.append_assoc]
  have e : i - (List.map (fun (j : Nat) => pmk (k + 2 * (j : Int))) (List.range i)).length = 0 := by simp
  rw [e]
  rfl
theorem pmarked_get (k : Int) (xs : List Pc) (i : Nat) (h : i < xs.length) : (pmarked k xs xs.length)[i]? = some (pmk (k + 2 * (i : Int))) := by
  simp [pmarked, h]
theorem pmarked_ok (k : Int) (L : List Pc) (hk : k ≤ 2305843009213693952) (hl : L.length ≤ 4194304) : ∀ y ∈ pmarked k L L.length, y.s.size ≤ maxLen := by
  intro y hy
  simp only [pmarked, List.drop_length, List.append_nil, List.mem_map, List.mem_range] at hy
  obtain ⟨j, hj, rfl⟩ := hy
  exact mt_size _ (by omega)

set_option maxHeartbeats 1600000 in
theorem markpieces_any (v : Value) (k : Int) (base : Nat) (xs : List Pc) (w : World) (h : w.ownsRow base 29 2 v xs.length (pccs xs)) (hm : xs.length ≤ 4194304) (hk0 : 0 ≤ k) (hk : k ≤ 2305843009213693952) :
    Calls Try.prog 47 #[v, .int .i64 k] w fun e w' => e = .returned (.int .i64 (k + 2 * xs.length)) ∧ w'.ownsRow base 29 2 v xs.length (pccs (pmarked k xs xs.length)) ∧ w.grownBy w' v.ownBlock := by
  rcases h.2 with ⟨rfl, h0⟩ | ⟨g, cap, cur, rfl, hb, hg, hnc, hcm, hcs, htake⟩
  · have : xs = [] := List.eq_nil_of_length_eq_zero h0
    subst this
    go_enter Try.func47, Try.ntmps47
    go_wp2
    refine wp_loop_rounds 1 ?_
    rw [rounds_succ]
    go_wp2
    go_ret
    exact ⟨by simp, h, World.grownBy.refl _ _⟩
  · clear hg hcs htake
    go_enter Try.func47, Try.ntmps47
    go_wp2
    go_loopw [1, 5] (fun q i wr => ∃ j : Nat, j ≤ xs.length ∧ i = .int .i64 j ∧ q = .int .i64 (k + 2 * (j : Int)) ∧ wr.ownsRow base 29 2 (.slice (some ⟨g, 0, none⟩) xs.length cap) xs.length (pccs (pmarked k xs j)) ∧ w.grownBy wr (some g)) (fun _ i _ => xs.length - (intOf i).toNat)
    case atStart => exact ⟨0, by omega, rfl, by simp, by rw [pmarked_zero]; exact h, World.grownBy.refl _ _⟩
    case round =>
      obtain ⟨j, hj, rfl, rfl, hown, hbel⟩ := hrel
      by_cases hlt : j < xs.length
      · have hgs : g < wr.heap.size := (hown.lt g rfl).2
        have c0 := hown.cellAt (j * 2 + 0) (by omega)
        rw [pccs_get _ j _ (pmarked_at k xs j hlt) 0 (by omega)] at c0
        simp only [Pc.cs, List.getElem?_cons_zero, Nat.add_zero] at c0
        have f0 := hown.frozenAt (j * 2)
        have get : ∀ y : Pc, ((pmarked k xs j).set j y)[j]? = some y := fun y => by rw [List.getElem?_set_self (by rw [pmarked_length _ _ _ hj]; exact hlt)]
        have s0 := hown.stored (j * 2) (.int .i64 (k + 2 * (j : Int)))
        rw [pccs_set0 _ j xs[j] ⟨k + 2 * (j : Int), xs[j].s⟩ (pmarked_at k xs j hlt) _ rfl] at s0
        have hB1 := hbel.trans s0.2
        go_wp2_with fail
        refine (marktext_any _ _ (by omega)).mono ?_
        rintro e w2 ⟨rfl, hb2⟩
        have hown2 := own_below s0.1 hb2
        have hB2 := hB1.trans (grown_below2 hb2 (some g))
        have d1 := hown2.cellAt (j * 2 + 1) (by omega)
        rw [pccs_get _ j _ (get _) 1 (by omega)] at d1
        simp only [Pc.cs, List.getElem?_cons_succ, List.getElem?_cons_zero] at d1
        have e1 := hown2.frozenAt (j * 2 + 1)
        have s1 := hown2.stored (j * 2 + 1) (.string (mt (k + 2 * (j : Int) + 1)))
        rw [pccs_set ((pmarked k xs j).set j ⟨k + 2 * (j : Int), xs[j].s⟩) j ⟨k + 2 * (j : Int), xs[j].s⟩ (pmk (k + 2 * (j : Int))) (get _) 1 (by omega) (.string (mt (k + 2 * (j : Int) + 1))) rfl, List.set_set, pmarked_set k xs j hlt] at s1
        have hB4 := hB2.trans s1.2
        have S4 := s1.1
        clear s0 s1 hown hown2 c0 f0 hb2 hB1 hB2 hbel get
        go_wp2
        go_roundw
        case rel => exact ⟨j + 1, by omega, by go_num, by go_num, S4, hB4⟩
        case measure => simp [intOf]; omega
      · go_wp2
        go_ret
        have : j = xs.length := by omega
        subst this
        exact ⟨rfl, hown, hbel⟩

set_option maxHeartbeats 1600000 in
theorem heldpieces_any (v : Value) (k : Int) (xs : List Pc) (w : World) (R : PcRow w v (pmarked k xs xs.length)) (hm : xs.length ≤ 4194304) (hk0 : 0 ≤ k) (hk : k ≤ 2305843009213693952) :
    Calls Try.prog 49 #[v, .int .i64 k] w fun e w' => e = .returned (.int .i64 (k + 2 * xs.length)) ∧ Below w.heap.size w w' := by
  obtain ⟨ao, cap, rfl, hcap, _, hz, hcell⟩ := R
  rw [pmarked_length _ _ _ (Nat.le_refl _)] at hcap ⊢
  go_enter Try.func49, Try.ntmps49
  go_wp2
  go_loopw [1, 5] (fun q i wr => ∃ j : Nat, j ≤ xs.length ∧ i = .int .i64 j ∧ q = .int .i64 (k + 2 * (j : Int)) ∧ Below w.heap.size w wr) (fun _ i _ => xs.length - (intOf i).toNat)
  case atStart => exact ⟨0, by omega, rfl, by simp, Below.refl _ _⟩
  case round =>
    obtain ⟨j, hj, rfl, rfl, hbel⟩ := hrel
    by_cases hlt : j < xs.length
    · obtain ⟨g, o, rfl, hg, hcell⟩ := hcell (by intro e; have := congrArg List.length e; rw [pmarked_length _ _ _ (Nat.le_refl _)] at this; simp only [List.length_nil] at this; omega)
      obtain ⟨c0, c1⟩ := (hcell j _ (pmarked_get k xs j hlt)).below hbel hg
      have C := (hcell j _ (pmarked_get k xs j hlt))
      clear hcell
      simp only [pmk] at c0 c1
      have m0 : ((k + 2 * (j : Int)) != (k + 2 * (j : Int))) = false := by simp
      go_wp2_with fail
      go_region_with (go_at_call 48; refine (marktext_any _ _ ?_).mono ?_; omega; rintro e w2 ⟨rfl, hb2⟩; have hB2 : Below w.heap.size w w2 := hbel.drew.trans (hb2.mono hbel.size); obtain ⟨d0, d1⟩ := C.below hB2 hg; simp only [pmk] at d1)
      all_goals
        clear c0 c1 d0 d1 m0
        go_wp2
        go_roundw
        case rel => exact ⟨j + 1, by omega, by go_num, by go_num, hB2⟩
        case measure => simp [intOf]; omega
    · go_wp2
      go_ret
      have : j = xs.length := by omega
      subst this
      exact ⟨rfl, hbel⟩
end Go.Proofs.Ytdmnpaoceimcdaa
