/-
  Texts that stood by themselves, laid into one.
-/
import Derived.Test.YtpkpednemkagiaaR8bM
import Derived.Test.YtpkpednemkagiaaRdr8M
import Derived.Deep.AppendLies
import Derived.Deep.RegionLawGrows
import Derived.OneCell
import Derived.Test.YtpkpednemkagiaaDraw2M
/-
  Contracts of spec's l2Node and PoolOk: when a node and a pool are right.
-/
namespace Go.Proofs.Ytpkpednemkagiaa
open Go.RowKit

end Go.Proofs.Ytpkpednemkagiaa

/-
  Contracts of impl's with and Make, and of spec's l2Copy and Make: a node behind a pool.
-/
namespace Go.Proofs.Ytpkpednemkagiaa
open Go.RowKit

/-- 'append' onto a row of the call's own, whatever is appended. -/
theorem wpList_append_own_any {P : Program} (w : World) {ops : Array Oper} {rest : List Oper} {o : Oper} {a : Act} {Q : Exit → Act → World → Prop}
    (hg : o.guard = none) (s x : Operand) (t : TypeId) (hop : o.op = Op.call { callee := Callee.builtin Builtin.append, args := #[s, x], argTypes := #[t, t] })
    (base : Nat) (e : TypeId) (i : TypeInfo) (z : Value) (size bytes : Nat) (h1 : P.underlying t = some (.slice e)) (h2 : P.info? e = some i) (h3 : i.zero = some z) (h4 : i.size = size) (h5 : i.bytes = bytes) (h6 : z.cells.size = size) (h7 : 0 < size)
    (v : Value) (k : Nat) (xs : List Value) (hs : a.eval s = v) (hown : w.ownsRow base e size v k xs) (ao : Option Addr) (m c : Nat) (news : List Value) (hx : a.eval x = .slice ao m c) (hn : news.length = m * size)
    (hnone : ao = none → m = 0 ∧ c = 0) (hc : ∀ ad, ao = some ad → ∀ j u, news[j]? = some u → w.cell? (ad.add j) = some u) (h1c : ∀ u ∈ news, u.oneCell' = true) (b1 : k + m ≤ maxLen) (b2 : (k + m) * bytes ≤ 140737488355328) (b3 : base ≤ w.heap.size)
    (hK : ∀ v' w', w'.ownsRow base e size v' (k + m) (xs ++ news) → w.grownBy w' v.ownBlock → wpList P ops Q rest (a.put o.dst v') w') :
    wpList P ops Q (o :: rest) a w := by
  cases ao with
  | some ad => exact wpList_append_own w hg s x t hop base e i z size bytes h1 h2 h3 h4 h5 h6 h7 v k xs hs hown ad m c news hx hn (hc ad rfl) h1c b1 b2 b3 (fun v' w' h1 h2 _ => hK v' w' h1 h2)
  | none =>
    obtain ⟨rfl, rfl⟩ := hnone rfl
    have hnews : news = [] := List.eq_nil_of_length_eq_zero (by simpa using hn)
    subst hnews
    refine wpList_plain hg fun K hK' => ?_
    have hrun := run_append_owned_none (P := P) w base t o.type e i size h1 h2 _ k xs hown
    unfold Oper.wp
    simp [execOp, hop, resolve, invoke, builtin, hs, hx, hrun, Result.andThen]
    exact hK' _ _ (by simpa using hK v w (by simpa using hown) (World.grownBy.refl _ _))

theorem NRow.nilcap {w : World} {ao : Option Addr} {n cap : Nat} {xs : List Nd} (h : NRow w (.slice ao n cap) xs) : ao = none → n = 0 ∧ cap = 0 := by
  obtain ⟨ao', cap', e, ⟨h1, h2⟩, _⟩ := h
  simp only [Value.slice.injEq] at e
  obtain ⟨rfl, rfl, rfl⟩ := e
  intro h
  have := h2 h
  omega

end Go.Proofs.Ytpkpednemkagiaa

/-
  Bytes of one's own: helpers. No condition.
-/
namespace Go.Proofs.Ytpkpednemkagiaa
open Go.RowKit

theorem own_form0 {w : World} {base : Nat} {ad : Addr} {n c : Nat} {zs : List Value} (h : w.ownsRow base 5 1 (.slice (some ad) n c) n zs) (hn : 0 < n) : ∃ g, ad = ⟨g, 0, none⟩ := by
  obtain ⟨g, cap, e, _⟩ := h.form hn
  simp only [Value.slice.injEq, Option.some.injEq] at e
  exact ⟨g, e.1⟩

theorem own_none8 {w : World} {base : Nat} {ao : Option Addr} {n c : Nat} {zs : List Value} (h : w.ownsRow base 5 1 (.slice ao n c) n zs) : ao = none → n = 0 ∧ c = 0 := by
  intro e
  subst e
  rcases h.2 with ⟨h1, h2⟩ | ⟨g, cap, cur, h1, _⟩
  · simp only [Value.slice.injEq, true_and] at h1; exact h1
  · simp at h1
theorem own_news8 {w : World} {base : Nat} {ao : Option Addr} {n c : Nat} {zs : List Value} (h : w.ownsRow base 5 1 (.slice ao n c) n zs) (hl : zs.length = n) : ∀ ad, ao = some ad → ∀ (j : Nat) u, zs[j]? = some u → w.cell? (ad.add j) = some u := by
  intro ad e j u hu
  subst e
  have hj := (List.getElem?_eq_some_iff.1 hu).1
  have hf := own_form0 h (by omega)
  obtain ⟨g, rfl⟩ := hf
  have := h.cellAt j (by omega)
  have hadd : (⟨g, 0, none⟩ : Addr).add j = ⟨g, j, none⟩ := by unfold Addr.add; split <;> simp_all
  rw [hadd, this]
  exact hu

/-- The bytes of an own row are there. -/
theorem own_text {w : World} {base : Nat} {ao : Option Addr} {c : Nat} {zs : List Int} (h : w.ownsRow base 5 1 (.slice ao zs.length c) zs.length (bv zs)) : zs.length ≠ 0 → ∃ g o', ao = some ⟨g, o', none⟩ ∧ ∀ i, i < zs.length → w.cell? ⟨g, o' + i, none⟩ = some (.int .u8 (zs.getD i 0)) := by
  intro hn
  obtain ⟨g, cap, e, _⟩ := h.form (by omega)
  simp only [Value.slice.injEq] at e
  obtain ⟨rfl, _, _⟩ := e
  refine ⟨g, 0, rfl, fun i hi => ?_⟩
  have := h.cellAt i (by omega)
  rw [Nat.zero_add, this, bv_get zs i hi]
end Go.Proofs.Ytpkpednemkagiaa

/-
  Contract of the laws' own helper toByteS: a new slice of its own that reads as the slice that was handed in (at most 2^21 bytes).
-/
namespace Go.Proofs.Ytpkpednemkagiaa
open Go.RowKit

/-- The first j of zs, and noughts behind them. -/
def copied (zs : List Int) (j : Nat) : List Int := zs.take j ++ List.replicate (zs.length - j) 0
theorem copied_length (zs : List Int) (j : Nat) (h : j ≤ zs.length) : (copied zs j).length = zs.length := by simp [copied]; omega
theorem copied_full (zs : List Int) : copied zs zs.length = zs := by simp [copied]
theorem copied_zero (zs : List Int) : bv (copied zs 0) = (madeCells #[Value.int .u8 0] zs.length).toList := by
  rw [toList_madeCells_one]
  simp [copied, bv]
theorem copied_set (zs : List Int) (j : Nat) (h : j < zs.length) : (bv (copied zs j)).set j (.int .u8 zs[j]) = bv (copied zs (j + 1)) := by
  unfold copied bv
  rw [show zs.length - j = zs.length - (j + 1) + 1 by omega, List.replicate_succ, List.take_succ_eq_append_getElem h]
  simp only [List.map_append, List.map_cons, List.map_nil]
  rw [List.set_append_right _ _ (by simp; omega)]
  have e : j - (List.map (Value.int IntKind.u8) (List.take j zs)).length = 0 := by simp; omega
  rw [e]
  simp

end Go.Proofs.Ytpkpednemkagiaa
