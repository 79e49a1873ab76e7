/-
  Bytes of one's own: helpers. No condition.
-/
import Derived.Test.YtkoiccocgejmcaaDoorWith
import Derived.Test.YtkoiccocgejmcaaDoorStore2
import Derived.Deep.AppendLies
import Derived.Deep.RegionLawGrows
import Derived.OneCell
namespace Go.Proofs.YtkoiccocgejmcaaDoor
open Go.RowKit

theorem own_form0 {w : World} {base : Nat} {ad : Addr} {n c : Nat} {zs : List Value} (h : w.ownsRow base 5 1 (.slice (some ad) n c) n zs) (hn : 0 < n) : ∃ g, ad = ⟨g, 0, none⟩ := by
  obtain ⟨g, cap, e, _⟩ := h.form hn
  simp only [Value.slice.injEq, Option.some.injEq] at e
  exact ⟨g, e.1⟩

theorem own_none8 {w : World} {base : Nat} {ao : Option Addr} {n c : Nat} {zs : List Value} (h : w.ownsRow base 5 1 (.slice ao n c) n zs) : ao = none → n = 0 ∧ c = 0 := by
  intro e
  subst e
  rcases h.2 with ⟨h1, h2⟩ | ⟨g, cap, cur, h1, _⟩
  · simp only [Value.slice.injEq, true_and] at h1; exact h1
  · simp at h1
theorem own_news8 {w : World} {base : Nat} {ao : Option Addr} {n c : Nat} {zs : List Value} (h : w.ownsRow base 5 1 (.slice ao n c) n zs) (hl : zs.length = n) : ∀ ad, ao = some ad → ∀ (j : Nat) u, zs[j]? = some u → w.cell? (ad.add j) = some u := by
  intro ad e j u hu
  subst e
  have hj := (List.getElem?_eq_some_iff.1 hu).1
  have hf := own_form0 h (by omega)
  obtain ⟨g, rfl⟩ := hf
  have := h.cellAt j (by omega)
  have hadd : (⟨g, 0, none⟩ : Addr).add j = ⟨g, j, none⟩ := by unfold Addr.add; split <;> simp_all
  rw [hadd, this]
  exact hu

/-- The bytes of an own row are there. -/
theorem own_text {w : World} {base : Nat} {ao : Option Addr} {c : Nat} {zs : List Int} (h : w.ownsRow base 5 1 (.slice ao zs.length c) zs.length (bv zs)) : zs.length ≠ 0 → ∃ g o', ao = some ⟨g, o', none⟩ ∧ ∀ i, i < zs.length → w.cell? ⟨g, o' + i, none⟩ = some (.int .u8 (zs.getD i 0)) := by
  intro hn
  obtain ⟨g, cap, e, _⟩ := h.form (by omega)
  simp only [Value.slice.injEq] at e
  obtain ⟨rfl, _, _⟩ := e
  refine ⟨g, 0, rfl, fun i hi => ?_⟩
  have := h.cellAt i (by omega)
  rw [Nat.zero_add, this, bv_get zs i hi]
end Go.Proofs.YtkoiccocgejmcaaDoor
