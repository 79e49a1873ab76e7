/-
  Contracts of the laws' own helpers markLeaseS, heldLeaseS: what is marked in a slice of the call's own is found there.
-/
import Derived.Test.YtdlbgdckkjhbdaaLs
import Derived.Test.YtdlbgdckkjhbdaaGrow
import Derived.Deep.RegionWith
namespace Go.Proofs.Ytdlbgdckkjhbdaa
open Go.RowKit

theorem LsRow.le {w : World} {v : Value} {xs : List Ls} (R : LsRow w v xs) : xs.length ≤ 9223372036854775807 := by obtain ⟨_, _, _, _, h, _⟩ := R; exact h
theorem LsRow.nilcap {w : World} {ao : Option Addr} {n cap : Nat} {xs : List Ls} (h : LsRow w (.slice ao n cap) xs) : ao = none → n = 0 ∧ cap = 0 := by
  obtain ⟨ao', cap', e, ⟨h1, h2⟩, _⟩ := h
  simp only [Value.slice.injEq] at e
  obtain ⟨rfl, rfl, rfl⟩ := e
  intro h
  have := h2 h
  omega
theorem LsRow.cells {w : World} {ao : Option Addr} {n cap : Nat} {xs : List Ls} (h : LsRow w (.slice ao n cap) xs) : ∀ ad, ao = some ad → ∀ j u, (lscs xs)[j]? = some u → w.cell? (ad.add j) = some u := by
  obtain ⟨ao', cap', e, _, _, hc⟩ := h
  simp only [Value.slice.injEq] at e
  obtain ⟨rfl, rfl, rfl⟩ := e
  intro ad had j u hu
  have hj : j < xs.length * 3 := by have := (List.getElem?_eq_some_iff.1 hu).1; rwa [lscs_length] at this
  have hq : j / 3 < xs.length := by omega
  obtain ⟨g, o, e, _, hcell⟩ := hc (by intro e; subst e; simp at hq)
  rw [had] at e
  cases e
  have hx : xs[j / 3]? = some xs[j / 3] := List.getElem?_eq_getElem hq
  obtain ⟨c0, c1, c2⟩ := hcell (j / 3) _ hx
  have hg := lscs_get xs (j / 3) _ hx (j % 3) (by omega)
  rw [show j / 3 * 3 + j % 3 = j by omega, hu] at hg
  have h2 : j % 3 = 0 ∨ j % 3 = 1 ∨ j % 3 = 2 := by omega
  rcases h2 with h2 | h2 | h2
  · rw [h2] at hg
    simp only [Ls.cs, List.getElem?_cons_zero, Option.some.injEq] at hg
    subst hg
    have : o + j = o + j / 3 * 3 := by omega
    rw [Addr.add_lit, this]
    exact c0
  · rw [h2] at hg
    simp only [Ls.cs, List.getElem?_cons_succ, List.getElem?_cons_zero, Option.some.injEq] at hg
    subst hg
    have : o + j = o + j / 3 * 3 + 1 := by omega
    rw [Addr.add_lit, this]
    exact c1
  · rw [h2] at hg
    simp only [Ls.cs, List.getElem?_cons_succ, List.getElem?_cons_zero, Option.some.injEq] at hg
    subst hg
    have : o + j = o + j / 3 * 3 + 2 := by omega
    rw [Addr.add_lit, this]
    exact c2
theorem LsRow.take {w : World} {ao : Option Addr} {n cap k : Nat} {xs : List Ls} (h : LsRow w (.slice ao n cap) xs) (hk : k ≤ xs.length) : LsRow w (.slice ao k cap) (xs.take k) := by
  obtain ⟨ao', cap', e, ⟨h1, h2⟩, h3, hc⟩ := h
  simp only [Value.slice.injEq] at e
  obtain ⟨rfl, rfl, rfl⟩ := e
  have hl : (xs.take k).length = k := by simp; omega
  refine ⟨ao, cap, by rw [hl], ⟨by omega, h2⟩, by omega, fun hne => ?_⟩
  obtain ⟨g, o, rfl, hg, hcell⟩ := hc (by intro e; subst e; simp at hne)
  refine ⟨g, o, rfl, hg, fun i x hi => hcell i x ?_⟩
  rw [List.getElem?_take] at hi
  split at hi
  · exact hi
  · cases hi

/-- The lease that is laid from the number k on. -/
def lmk (k : Int) : Ls := ⟨k, k + 1, k + 1 + 1⟩
/-- What lies in a slice of leases behind markLeaseS from k on, when i of them are written and xs stood there. -/
def lmarked (k : Int) (xs : List Ls) (i : Nat) : List Ls := (List.range i).map (fun (j : Nat) => lmk (k + 3 * (j : Int))) ++ xs.drop i
theorem lmarked_zero (k : Int) (xs : List Ls) : lmarked k xs 0 = xs := by simp [lmarked]
theorem lmarked_length (k : Int) (xs : List Ls) (i : Nat) (h : i ≤ xs.length) : (lmarked k xs i).length = xs.length := by simp [lmarked]; omega
theorem lmarked_at (k : Int) (xs : List Ls) (i : Nat) (h : i < xs.length) : (lmarked k xs i)[i]? = some xs[i] := by
  unfold lmarked
  rw [List.getElem?_append_right (by simp)]
  simp [h]
theorem lmarked_set (k : Int) (xs : List Ls) (i : Nat) (h : i < xs.length) : (lmarked k xs i).set i (lmk (k + 3 * (i : Int))) = lmarked k xs (i + 1) := by
  unfold lmarked
  rw [List.range_succ, List.map_append, List.set_append_right _ _ (by simp), List.drop_eq_getElem_cons h, List.append_assoc]
  have e : i - (List.map (fun (j : Nat) => lmk (k + 3 * (j : Int))) (List.range i)).length = 0 := by simp
  rw [e]
  rfl
theorem lmarked_get (k : Int) (xs : List Ls) (i : Nat) (h : i < xs.length) : (lmarked k xs xs.length)[i]? = some (lmk (k + 3 * (i : Int))) := by
  simp [lmarked, h]

set_option maxHeartbeats 1600000 in
theorem markleases_any (v : Value) (k : Int) (base : Nat) (xs : List Ls) (w : World) (h : w.ownsRow base 40 3 v xs.length (lscs xs)) (hm : xs.length ≤ 4194304) (hk0 : 0 ≤ k) (hk : k ≤ 2305843009213693952) :
    Calls Try.prog 30 #[v, .int .i64 k] w fun e w' => e = .returned (.int .i64 (k + 3 * xs.length)) ∧ w'.ownsRow base 40 3 v xs.length (lscs (lmarked k xs xs.length)) ∧ w.grownBy w' v.ownBlock := by
  rcases h.2 with ⟨rfl, h0⟩ | ⟨g, cap, cur, rfl, hb, hg, hnc, hcm, hcs, htake⟩
  · have : xs = [] := List.eq_nil_of_length_eq_zero h0
    subst this
    go_enter Try.func30, Try.ntmps30
    go_wp2
    refine wp_loop_rounds 1 ?_
    rw [rounds_succ]
    go_wp2
    go_ret
    exact ⟨by simp, h, World.grownBy.refl _ _⟩
  · clear hg hcs htake
    go_enter Try.func30, Try.ntmps30
    go_wp2
    go_loopw [1, 5] (fun q i wr => ∃ j : Nat, j ≤ xs.length ∧ i = .int .i64 j ∧ q = .int .i64 (k + 3 * (j : Int)) ∧ wr.ownsRow base 40 3 (.slice (some ⟨g, 0, none⟩) xs.length cap) xs.length (lscs (lmarked k xs j)) ∧ w.grownBy wr (some g)) (fun _ i _ => xs.length - (intOf i).toNat)
    case atStart => exact ⟨0, by omega, rfl, by simp, by rw [lmarked_zero]; exact h, World.grownBy.refl _ _⟩
    case round =>
      obtain ⟨j, hj, rfl, rfl, hown, hbel⟩ := hrel
      by_cases hlt : j < xs.length
      · have hgs : g < wr.heap.size := (hown.lt g rfl).2
        have hcell : ∀ i, i < 3 → (wr.cell? ⟨g, j * 3 + i, none⟩) = xs[j].cs[i]? := fun i hi => by
          have := hown.cellAt (j * 3 + i) (by omega)
          rw [this, lscs_get _ j _ (lmarked_at k xs j hlt) i hi]
        have c0 := hcell 0 (by omega)
        have c1 := hcell 1 (by omega)
        have c2 := hcell 2 (by omega)
        simp only [Ls.cs, List.getElem?_cons_succ, List.getElem?_cons_zero, Nat.add_zero] at c0 c1 c2
        have f0 := hown.frozenAt (j * 3)
        have f1 := hown.frozenAt (j * 3 + 1)
        have f2 := hown.frozenAt (j * 3 + 2)
        have get : ∀ y : Ls, ((lmarked k xs j).set j y)[j]? = some y := fun y => by rw [List.getElem?_set_self (by rw [lmarked_length _ _ _ hj]; exact hlt)]
        have s0 := hown.stored (j * 3) (.int .i64 (k + 3 * (j : Int)))
        rw [lscs_set0 _ j xs[j] ⟨k + 3 * (j : Int), xs[j].w, xs[j].u⟩ (lmarked_at k xs j hlt) _ rfl] at s0
        have s1 := s0.1.stored (j * 3 + 1) (.int .i64 (k + 3 * (j : Int) + 1))
        rw [lscs_set ((lmarked k xs j).set j ⟨k + 3 * (j : Int), xs[j].w, xs[j].u⟩) j ⟨k + 3 * (j : Int), xs[j].w, xs[j].u⟩ ⟨k + 3 * (j : Int), k + 3 * (j : Int) + 1, xs[j].u⟩ (get _) 1 (by omega) _ rfl, List.set_set] at s1
        have s2 := s1.1.stored (j * 3 + 2) (.int .i64 (k + 3 * (j : Int) + 1 + 1))
        rw [lscs_set ((lmarked k xs j).set j ⟨k + 3 * (j : Int), k + 3 * (j : Int) + 1, xs[j].u⟩) j ⟨k + 3 * (j : Int), k + 3 * (j : Int) + 1, xs[j].u⟩ (lmk (k + 3 * (j : Int))) (get _) 2 (by omega) (.int .i64 (k + 3 * (j : Int) + 1 + 1)) rfl, List.set_set, lmarked_set k xs j hlt] at s2
        have hB4 := ((hbel.trans s0.2).trans s1.2).trans s2.2
        have S4 := s2.1
        clear hcell s0 s1 s2 hown hbel get
        go_wp2
        go_roundw
        case rel => exact ⟨j + 1, by omega, by go_num, by go_num, S4, hB4⟩
        case measure => simp [intOf]; omega
      · go_wp2
        go_ret
        have : j = xs.length := by omega
        subst this
        exact ⟨rfl, hown, hbel⟩

set_option maxHeartbeats 1600000 in
theorem heldleases_any (v : Value) (k : Int) (xs : List Ls) (w : World) (R : LsRow w v (lmarked k xs xs.length)) (hm : xs.length ≤ 4194304) (hk0 : 0 ≤ k) (hk : k ≤ 2305843009213693952) :
    Calls Try.prog 31 #[v, .int .i64 k] w fun e w' => e = .returned (.int .i64 (k + 3 * xs.length)) ∧ w' = w := by
  obtain ⟨ao, cap, rfl, hcap, _, hcell⟩ := R
  rw [lmarked_length _ _ _ (Nat.le_refl _)] at hcap ⊢
  go_enter Try.func31, Try.ntmps31
  go_wp2
  go_loop [1, 5] (fun q i => ∃ j : Nat, j ≤ xs.length ∧ i = .int .i64 j ∧ q = .int .i64 (k + 3 * (j : Int))) (fun _ i => xs.length - (intOf i).toNat)
  case atStart => exact ⟨0, by omega, rfl, by simp⟩
  case round =>
    obtain ⟨j, hj, rfl, rfl⟩ := hrel
    by_cases hlt : j < xs.length
    · obtain ⟨g, o, rfl, hg, hcell⟩ := hcell (by intro e; have := congrArg List.length e; rw [lmarked_length _ _ _ (Nat.le_refl _)] at this; simp only [List.length_nil] at this; omega)
      obtain ⟨c0, c1, c2⟩ := (hcell j _ (lmarked_get k xs j hlt))
      clear hcell
      simp only [lmk] at c0 c1 c2
      have m0 : ((k + 3 * (j : Int)) != (k + 3 * (j : Int))) = false := by simp
      have m1 : ((k + 3 * (j : Int) + 1) != (k + 3 * (j : Int) + 1)) = false := by simp
      have m2 : ((k + 3 * (j : Int) + 1 + 1) != (k + 3 * (j : Int) + 1 + 1)) = false := by simp
      go_wp2
      go_round
      case rel => exact ⟨j + 1, by omega, by go_num, by go_num⟩
      case measure => simp [intOf]; omega
    · go_wp2
      go_ret
      have : j = xs.length := by omega
      subst this
      exact ⟨rfl, rfl⟩
end Go.Proofs.Ytdlbgdckkjhbdaa
