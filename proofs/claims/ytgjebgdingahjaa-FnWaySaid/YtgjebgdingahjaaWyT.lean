/-
  Texts, and pieces, are appended to rows of our own: for the walk. No condition.
-/
import Derived.Test.YtgjebgdingahjaaWyA
import Derived.Maps.AppendAt
namespace Go.Proofs.Ytgjebgdingahjaa
open Go.RowKit

theorem run_txt {B C : Nat} {w : World} {v vx : Value} {xs new : List ByteArray} (ty : TypeId) (G : w.ownsRow B 9 1 v xs.length (stv xs)) (O : w.ownsRow C 9 1 vx new.length (stv new)) (hB : B ≤ w.heap.size) (hm : xs.length + new.length ≤ 1000) :
    ∃ v' w', (Builtin.append_ #[24, 24] ty #[v, vx]).run Try.prog w = .ok v' w' ∧ w'.ownsRow B 9 1 v' (xs ++ new).length (stv (xs ++ new)) ∧ w.grownBy w' v.ownBlock ∧ (v'.ownBlock = v.ownBlock ∨ v'.ownBlock = some w.heap.size) := by
  obtain ⟨i0, hi, hz0, hz1, hz2⟩ := info_parts Try.infoStr
  have hmax : xs.length + new.length ≤ maxLen := by unfold maxLen; omega
  rcases O.2 with ⟨rfl, h0⟩ | ⟨gx, cx, curx, rfl, _, hgx, _⟩
  · have hn : new = [] := List.eq_nil_of_length_eq_zero h0
    subst hn
    exact ⟨v, w, run_append_owned_none (P := Try.prog) w B 24 ty 9 i0 1 Try.underlying24 hi v xs.length (stv xs) G, by rw [List.append_nil]; exact G, World.grownBy.refl _ _, Or.inl rfl⟩
  · have hcx : ∀ j u, (stv new)[j]? = some u → w.cell? ((⟨gx, 0, none⟩ : Addr).add j) = some u := by
      intro j u hu
      have hj := (List.getElem?_eq_some_iff.1 hu).1
      rw [Addr.add_lit, Nat.zero_add]
      rw [stv_length] at hj
      exact (O.cellAt j (by omega)).trans hu
    obtain ⟨v', w', hr, r1, r2, _, r3⟩ := run_append_own_at (P := Try.prog) w B 24 ty 9 i0 _ 1 16 Try.underlying24 hi hz0 hz1 hz2 rfl (by decide) v xs.length (stv xs) G ⟨gx, 0, none⟩ new.length cx (stv new) (by rw [stv_length]; omega) hcx (stv_one new) hmax (by omega) hB
    rw [← stv_append, ← List.length_append] at r1
    exact ⟨v', w', hr, r1, r2, r3⟩

theorem wpList_run2 {P : Program} (w : World) {ops : Array Oper} {rest : List Oper} {o : Oper} {a : Act} {Q : Exit → Act → World → Prop} (hg : o.guard = none) (s x : Operand) (t : TypeId)
    (ho : o.op = .call { callee := .builtin .append, args := #[s, x], argTypes := #[t, t] }) (v u : Value) (hs : a.eval s = v) (hx : a.eval x = u) {v' : Value} {w' : World}
    (hr : (Builtin.append_ #[t, t] o.type #[v, u]).run P w = .ok v' w') (h : wpList P ops Q rest (a.put o.dst v') w') : wpList P ops Q (o :: rest) a w := by
  refine wpList_plain hg fun K hK => ?_
  unfold Oper.wp execOp
  simp only [ho, resolve, invoke, builtin, Sem.run_bind, Sem.run_pure, Result.andThen_ok, List.map_toArray, List.map_cons, List.map_nil, hs, hx, hr]
  exact hK _ _ h
end Go.Proofs.Ytgjebgdingahjaa
