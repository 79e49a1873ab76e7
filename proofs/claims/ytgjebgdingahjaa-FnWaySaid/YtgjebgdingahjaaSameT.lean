/-
  Contract of the laws' sameTexts, and what is read of the first of them. No condition.
-/
import Derived.Test.YtgjebgdingahjaaStrs
namespace Go.Proofs.Ytgjebgdingahjaa
open Go.RowKit

set_option maxHeartbeats 800000 in
theorem sametexts_any (va vb : Value) (xs : List ByteArray) (w : World) (Ra : StRow w va xs) (Rb : StRow w vb xs) :
    Calls Try.prog 11 #[va, vb] w fun e w' => e = .returned (.bool true) ∧ Below w.heap.size w w' := by
  obtain ⟨aa, ca, rfl, hca, hm, hz, hcella⟩ := Ra
  obtain ⟨ab, cb, rfl, hcb, _, _, hcellb⟩ := Rb
  have hn : ((xs.length : Int) != (xs.length : Int)) = false := by simp
  go_enter Try.func11, Try.ntmps11
  go_wp2
  go_loopw [5] (fun i wr => ∃ k : Nat, k ≤ xs.length ∧ i = .int .i64 k ∧ Below w.heap.size w wr) (fun i _ => xs.length - (intOf i).toNat)
  case atStart => exact ⟨0, by omega, rfl, Below.refl _ _⟩
  case round =>
    obtain ⟨k, hk, rfl, hb⟩ := hrel
    by_cases hlt : k < xs.length
    · obtain ⟨ga, oa, rfl, hga, hcella⟩ := hcella (by intro e; subst e; simp at hlt)
      obtain ⟨gb, ob, rfl, hgb, hcellb⟩ := hcellb (by intro e; subst e; simp at hlt)
      obtain ⟨x, hx⟩ : ∃ x, xs[k]? = some x := ⟨xs[k], by simp [hlt]⟩
      have c0 := (hb.cell (p := ⟨ga, oa + k, none⟩) hga).trans (hcella k x hx)
      have d0 := (hb.cell (p := ⟨gb, ob + k, none⟩) hgb).trans (hcellb k x hx)
      clear hcella hcellb hx
      go_wp2
      go_quiet (fail)
      go_wp2
      go_roundw
      case rel => exact ⟨k + 1, by omega, by go_num, hb.trans ((below_dN wr _).mono hb.size)⟩
      case measure => simp [intOf]; omega
    · go_wp2
      go_ret
      exact ⟨rfl, hb⟩

theorem StRow.take {w : World} {ao : Option Addr} {n cap k : Nat} {xs : List ByteArray} (h : StRow w (.slice ao n cap) xs) (hk : k ≤ xs.length) : StRow w (.slice ao k cap) (xs.take k) := by
  obtain ⟨ao', cap', e, hc, hm, hz, hcell⟩ := h
  simp only [Value.slice.injEq] at e
  obtain ⟨rfl, rfl, rfl⟩ := e
  have hl : (xs.take k).length = k := by rw [List.length_take]; omega
  refine ⟨ao, cap, by rw [hl], ⟨by rw [hl]; omega, hc.2⟩, by omega, fun x hx => hz x (List.mem_of_mem_take hx), fun hne => ?_⟩
  obtain ⟨g, o, rfl, hg, hcell⟩ := hcell (fun e => hne (by rw [e]; simp))
  refine ⟨g, o, rfl, hg, fun i x hi => hcell i x ?_⟩
  rw [List.getElem?_take] at hi
  split at hi
  · exact hi
  · cases hi
end Go.Proofs.Ytgjebgdingahjaa
