/-
  Texts that stood by themselves, laid into one.
-/
import Derived.Test.YtaojlmoppbknbaaGreatDoorTo2M
import Derived.Test.YtaojlmoppbknbaaGreatDoorMcTM
import Derived.Laws.IdiomCopy
import Derived.Test.YtaojlmoppbknbaaGreatDoorMv1M
import Derived.Deep.CutRange
import Derived.Deep.DeepCutAuto
/-
  How great a pool is, whatever is left: contracts of the laws' own helpers szNodeS and szPool. Condition: what is left is no more than at the start.
-/
namespace Go.Proofs.YtaojlmoppbknbaaGreatDoor
open Go.RowKit

set_option maxHeartbeats 800000 in
theorem sznodes_gen (l0 : Int) (hl0 : 0 ≤ l0) (hl1 : l0 ≤ 1048576) (v : Value) (xs : List Nd) (w : World) (R : NRow w v xs) :
    Calls Tryz.prog 32 #[v, .int .i64 l0] w fun e w' => ∃ r : Int, e = .returned (.int .i64 r) ∧ -1 ≤ r ∧ r ≤ 1048576 ∧ (0 ≤ r → xs.length ≤ 1048576 ∧ ∀ x ∈ xs, x.s.size ≤ 1048576) ∧ Below w.heap.size w w' := by
  obtain ⟨ao, cap, rfl, hcap, hm, hz, hcell⟩ := R
  by_cases hlen : (xs.length : Int) ≤ l0
  · go_enter Tryz.func32, Tryz.ntmps32
    go_wp2
    go_loopw [1, 5] (fun l i wr => ∃ (k : Nat) (r : Int), k ≤ xs.length ∧ i = .int .i64 k ∧ l = .int .i64 r ∧ 0 ≤ r ∧ r ≤ 1048576 ∧ Hid (∀ j x, xs[j]? = some x → j < k → x.s.size ≤ 1048576) ∧ Below w.heap.size w wr) (fun _ i _ => xs.length - (intOf i).toNat)
    case atStart => exact ⟨0, _, by omega, rfl, rfl, by omega, by omega, fun j x _ h => by omega, Below.refl _ _⟩
    case round =>
      obtain ⟨k, r, hk, rfl, rfl, hr0, hr1, HA, hb⟩ := hrel
      by_cases hlt : k < xs.length
      · obtain ⟨g, o, rfl, hg, hcell⟩ := hcell (by intro e; subst e; simp at hlt)
        obtain ⟨x, hx⟩ : ∃ x, xs[k]? = some x := ⟨xs[k], by simp [hlt]⟩
        obtain ⟨c0, c1, c2, c3, c4⟩ := (hcell k x hx).below hb hg
        have hxs := hz x (List.mem_of_getElem? hx)
        have HX : Hid (xs[k]? = some x) := hx
        clear hcell hx
        go_wp2_with fail
        refine (sznode_any x _ _ hxs hr0 hr1).mono ?_
        rintro e w2 ⟨rfl, hb2⟩
        have hB2 := hb.trans (hb2.mono hb.size)
        clear c0 c1 c2 c3 c4 hb2
        by_cases hl : r < x.s.size
        · rw [less, if_pos hl]
          go_wp2
          go_ret
          exact ⟨-1, rfl, by omega, by omega, fun h => by omega, hB2⟩
        · rw [less, if_neg hl]
          go_wp2
          go_roundw
          case rel =>
            refine ⟨k + 1, _, by omega, by go_num, rfl, by omega, by omega, fun j y hy hj => ?_, hB2⟩
            by_cases e : j = k
            · subst e
              rw [HX.out] at hy
              cases hy
              omega
            · exact HA.out j y hy (by omega)
          case measure => simp [intOf]; omega
      · go_wp2
        go_ret
        refine ⟨r, rfl, by omega, by omega, fun _ => ⟨by omega, fun x hx => ?_⟩, hb⟩
        obtain ⟨j, hj, e⟩ := List.getElem_of_mem hx
        exact HA.out j x (by rw [← e]; simp [hj]) (by omega)
  · go_enter Tryz.func32, Tryz.ntmps32
    go_wp2
    go_ret
    exact ⟨-1, rfl, by omega, by omega, fun h => by omega, Below.refl _ _⟩

set_option maxHeartbeats 400000 in
theorem szpool_gen (l0 : Int) (hl0 : 0 ≤ l0) (hl1 : l0 ≤ 1048576) (v : Value) (xs : List Nd) (w : World) (R : NRow w v xs) :
    Calls Tryz.prog 13 #[.agg #[v], .int .i64 l0] w fun e w' => ∃ r : Int, e = .returned (.int .i64 r) ∧ -1 ≤ r ∧ r ≤ 1048576 ∧ (0 ≤ r → xs.length ≤ 1048576 ∧ ∀ x ∈ xs, x.s.size ≤ 1048576) ∧ Below w.heap.size w w' := by
  have R' := R
  obtain ⟨ao, cap, rfl, _⟩ := R'
  go_enter Tryz.func13, Tryz.ntmps13
  go_wp2_with fail
  have hbel : Below w.heap.size w (w.alloc (Obj.cells #[.slice ao xs.length cap] 24)) := (Below.refl _ _).alloc (Nat.le_refl _) _
  refine (sznodes_gen l0 hl0 hl1 _ xs _ (R.below hbel)).mono ?_
  rintro e w1 ⟨r, rfl, h0, h1, h2, hb1⟩
  have hB1 := hbel.trans (hb1.mono hbel.size)
  clear hbel hb1
  by_cases hr : r < 0
  · have HR : Hid (r = -1) := by unfold Hid; omega
    go_wp2
    go_ret
    exact ⟨-1, rfl, by omega, by omega, fun h => by omega, hB1⟩
  · go_wp2
    go_ret
    exact ⟨r, rfl, h0, h1, h2, hB1⟩

end Go.Proofs.YtaojlmoppbknbaaGreatDoor

/-
  A machine's records: how great, made of the law's, and alike. No condition.
-/
namespace Go.Proofs.YtaojlmoppbknbaaGreatDoor
open Go.RowKit

set_option maxRecDepth 100000 in
set_option maxHeartbeats 3200000 in
theorem eqmach_any (va vb : Value) (xs : List Nd) (m : Mc) (w : World) (Ra : NRow w va xs) (Rb : NRow w vb xs) :
    Calls Tryz.prog 8 #[.agg #[va, .int .i64 m.p, .int .i64 m.s, .int .i64 m.e, .int .i64 m.d, .int .i64 m.t, .int .i64 m.q, .int .i64 m.r], .agg #[vb, .int .i64 m.p, .int .i64 m.s, .int .i64 m.e, .int .i64 m.d, .int .i64 m.t, .int .i64 m.q, .int .i64 m.r]] w fun e w' => e = .returned (.bool true) ∧ Below w.heap.size w w' := by
  have Ra' := Ra
  have Rb' := Rb
  obtain ⟨aa, ca, rfl, _⟩ := Ra'
  obtain ⟨ab, cb, rfl, _⟩ := Rb'
  obtain ⟨hB0, hk0, hx0⟩ := two_boxes w (Obj.cells #[.slice aa xs.length ca, .int .i64 m.p, .int .i64 m.s, .int .i64 m.e, .int .i64 m.d, .int .i64 m.t, .int .i64 m.q, .int .i64 m.r] 34) (Obj.cells #[.slice ab xs.length cb, .int .i64 m.p, .int .i64 m.s, .int .i64 m.e, .int .i64 m.d, .int .i64 m.t, .int .i64 m.q, .int .i64 m.r] 34)
  go_enter Tryz.func8, Tryz.ntmps8
  go_wp2_with fail
  refine (eqpool_any _ _ xs _ (Ra.below hB0) (Rb.below hB0)).mono ?_
  rintro e w1 ⟨rfl, hb1⟩
  have hB1 := hB0.trans (hb1.mono hB0.size)
  have hk1 := (hb1.block _ (Array.getElem?_eq_some_iff.1 hk0).1).trans hk0
  have hx1 := (hb1.block _ (Array.getElem?_eq_some_iff.1 hx0).1).trans hx0
  clear hB0 hk0 hx0 hb1
  have l1 : w1.cell? ⟨w.heap.size, 0 + 1, none⟩ = some (.int .i64 m.p) := cell_of_row w1 _ 1 _ _ _ hk1
  have k1 : w1.cell? ⟨w.heap.size + 1, 0 + 1, none⟩ = some (.int .i64 m.p) := cell_of_row w1 _ 1 _ _ _ hx1
  have l2 : w1.cell? ⟨w.heap.size, 0 + 2, none⟩ = some (.int .i64 m.s) := cell_of_row w1 _ 2 _ _ _ hk1
  have k2 : w1.cell? ⟨w.heap.size + 1, 0 + 2, none⟩ = some (.int .i64 m.s) := cell_of_row w1 _ 2 _ _ _ hx1
  have l3 : w1.cell? ⟨w.heap.size, 0 + 3, none⟩ = some (.int .i64 m.e) := cell_of_row w1 _ 3 _ _ _ hk1
  have k3 : w1.cell? ⟨w.heap.size + 1, 0 + 3, none⟩ = some (.int .i64 m.e) := cell_of_row w1 _ 3 _ _ _ hx1
  have l4 : w1.cell? ⟨w.heap.size, 0 + 4, none⟩ = some (.int .i64 m.d) := cell_of_row w1 _ 4 _ _ _ hk1
  have k4 : w1.cell? ⟨w.heap.size + 1, 0 + 4, none⟩ = some (.int .i64 m.d) := cell_of_row w1 _ 4 _ _ _ hx1
  have l5 : w1.cell? ⟨w.heap.size, 0 + 5, none⟩ = some (.int .i64 m.t) := cell_of_row w1 _ 5 _ _ _ hk1
  have k5 : w1.cell? ⟨w.heap.size + 1, 0 + 5, none⟩ = some (.int .i64 m.t) := cell_of_row w1 _ 5 _ _ _ hx1
  have l6 : w1.cell? ⟨w.heap.size, 0 + 6, none⟩ = some (.int .i64 m.q) := cell_of_row w1 _ 6 _ _ _ hk1
  have k6 : w1.cell? ⟨w.heap.size + 1, 0 + 6, none⟩ = some (.int .i64 m.q) := cell_of_row w1 _ 6 _ _ _ hx1
  have l7 : w1.cell? ⟨w.heap.size, 0 + 7, none⟩ = some (.int .i64 m.r) := cell_of_row w1 _ 7 _ _ _ hk1
  have k7 : w1.cell? ⟨w.heap.size + 1, 0 + 7, none⟩ = some (.int .i64 m.r) := cell_of_row w1 _ 7 _ _ _ hx1
  clear hk1 hx1
  go_wp2
  go_ret
  exact ⟨rfl, hB1⟩

/-- One cell stored: what is known of the world behind it. -/
theorem wpList_store_at {P : Program} {ops : Array Oper} {rest : List Oper} {o : Oper} {a : Act} {w : World} {Q : Exit → Act → World → Prop} (hgd : o.guard = none) (ty : TypeId) (x y : Operand) (ho : o.op = .store ty x y)
    (g i : Nat) (v : Value) (cs : Array Value) (hx : a.eval x = .pointer (some ⟨g, i, none⟩)) (hy : a.eval y = v) (hc : v.cells = #[cs.getD 0 undef]) (hv : (cs.getD 0 undef).oneCell' = true) (t : TypeId) (old new : Array Value) (hg : w.heap[g]? = some (.cells old t (0, 0))) (hl : i < old.size) (hi : (P.info? ty).map (·.size) = some 1) (hn : new = old.setIfInBounds i (cs.getD 0 undef))
    (h : ∀ w2 : World, w2.heap[g]? = some (.cells new t (0, 0)) → Below g w w2 → w2.heap.size = w.heap.size → (∀ k, k ≠ g → w2.heap[k]? = w.heap[k]?) → wpList P ops Q rest (a.put o.dst undef) w2) : wpList P ops Q (o :: rest) a w := by
  refine wpList_plain hgd fun K hK => ?_
  generalize cs.getD 0 undef = c at hc hv hn
  have hcell : (w.cell? ⟨g, i, none⟩).isSome = true := by rw [cell_of_row w g i _ _ _ hg]; simp [hl]
  have hrun := run_storeCells_cells (P := P) g i [c] 0 w (fun j hj => by have : j = 0 := by simpa using hj
                                                                         subst this; simpa using hcell) (fun j hj => frozen_of_row w g _ _ _ hg) (fun u hu => by simp at hu; subst hu; exact hv)
  have hst : (storeVar ty ⟨g, i, none⟩ v).run P w = .ok () (w.setCell ⟨g, i, none⟩ c) := by
    cases hq : P.info? ty with
    | none => simp [hq] at hi
    | some inf =>
      have hs : inf.size = 1 := by simpa [hq] using hi
      simp only [Nat.add_zero] at hrun
      simp [storeVar, sizeOf, typeInfo, hq, hc, hs, hrun, World.setCells]
  unfold Oper.wp execOp
  simp only [ho, hx, hy, Instr.storeAt, Instr.sureAddr, Sem.run_bind, Sem.run_pure, Result.andThen_ok, hst]
  refine hK _ _ (h _ ?_ ((Below.refl g w).setCell (p := ⟨g, i, none⟩) (Nat.le_refl _) _) (by simp [World.setCell]) (fun k hk => heap_setCell_other w ⟨g, i, none⟩ k _ hk))
  rw [hn]
  exact heap_setCell_same w g i _ _ _ hg

theorem wpList_store_own2 {P : Program} {ops : Array Oper} {rest : List Oper} {o : Oper} {a : Act} {w : World} {Q : Exit → Act → World → Prop} (hgd : o.guard = none) (ty : TypeId) (x y : Operand) (ho : o.op = .store ty x y)
    (g : Nat) (cells : Array Value) (hx : a.eval x = .pointer (some ⟨g, 0, none⟩)) (hy : a.eval y = .agg cells)
    (t : TypeId) (old : Array Value) (hg : w.heap[g]? = some (.cells old t (0, 0))) (hi : (P.info? ty).map (·.size) = some cells.size)
    (hold : old.size = cells.size) (h1 : cells.all (·.oneCell') = true)
    (h : ∀ w2 : World, w2.heap[g]? = some (.cells cells t (0, 0)) → Below g w w2 → w2.heap.size = w.heap.size → (∀ k, k ≠ g → w2.heap[k]? = w.heap[k]?) → wpList P ops Q rest (a.put o.dst undef) w2) : wpList P ops Q (o :: rest) a w :=
  wpList_store_row hgd ty x y ho g cells hx hy t old hg hi hold h1 (h _ (setRow_heap w g old _ t _ hg) (below_setRow (Below.refl _ _) (Nat.le_refl _) _) (size_setRow w g cells) (fun k hk => setRow_other w g k cells hk))

theorem own_keep {w w' : World} {B k n g : Nat} {e : TypeId} {v : Value} {l : List Value} (h : w.ownsRow B e k v n l) (hg : g < B) (hb : ∀ j, j ≠ g → w'.heap[j]? = w.heap[j]?) : w'.ownsRow B e k v n l := by
  refine ⟨h.1, ?_⟩
  rcases h.2 with ⟨rfl, h0⟩ | ⟨gg, cap, cur, rfl, hB, hgg, hr⟩
  · exact Or.inl ⟨rfl, h0⟩
  · exact Or.inr ⟨gg, cap, cur, rfl, hB, (hb gg (by omega)).trans hgg, hr⟩

end Go.Proofs.YtaojlmoppbknbaaGreatDoor

/-
  Contract of impl's Tidy. No condition.
-/
namespace Go.Proofs.YtaojlmoppbknbaaGreatDoor
open Go.RowKit

/-- A machine as cells. -/
def mcs (v : Value) (m : Mc) : Array Value := #[v, .int .i64 m.p, .int .i64 m.s, .int .i64 m.e, .int .i64 m.d, .int .i64 m.t, .int .i64 m.q, .int .i64 m.r]

theorem three_set {wA : World} {B : Nat} {T : TypeId} {v p s e d t q r a b c : Value} (h : wA.heap[B]? = some (.cells #[v, p, s, e, d, t, q, r] T (0, 0))) :
    (((wA.setCell ⟨B, 2, none⟩ a).setCell ⟨B, 3, none⟩ b).setCell ⟨B, 4, none⟩ c).drew.heap[B]? = some (.cells #[v, p, a, b, c, t, q, r] T (0, 0)) ∧ (∀ k, k ≠ B → (((wA.setCell ⟨B, 2, none⟩ a).setCell ⟨B, 3, none⟩ b).setCell ⟨B, 4, none⟩ c).drew.heap[k]? = wA.heap[k]?) ∧ Below B wA (((wA.setCell ⟨B, 2, none⟩ a).setCell ⟨B, 3, none⟩ b).setCell ⟨B, 4, none⟩ c).drew := by
  have h1 := heap_setCell_same wA B 2 _ _ a h
  have h2 := heap_setCell_same _ B 3 _ _ b h1
  have h3 := heap_setCell_same _ B 4 _ _ c h2
  refine ⟨h3, fun k hk => ?_, ((((Below.refl B wA).setCell (p := ⟨B, 2, none⟩) (Nat.le_refl _) a).setCell (p := ⟨B, 3, none⟩) (Nat.le_refl _) b).setCell (p := ⟨B, 4, none⟩) (Nat.le_refl _) c).drew⟩
  show (((wA.setCell ⟨B, 2, none⟩ a).setCell ⟨B, 3, none⟩ b).setCell ⟨B, 4, none⟩ c).heap[k]? = _
  rw [Below.heap_setCell _ _ _ _ hk, Below.heap_setCell _ _ _ _ hk, Below.heap_setCell _ _ _ _ hk]

end Go.Proofs.YtaojlmoppbknbaaGreatDoor
