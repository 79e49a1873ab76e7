/-
  Texts that stood by themselves, laid into one.
-/
import Derived.Test.YtkchakcebdenjaaGreatSNodeM
import Derived.Test.YtkchakcebdenjaaGreatShapeM
import Derived.Laws.CopyOwn
/-
  Contracts of impl's with and Make, and of spec's l2Copy and Make: a node behind a pool.
-/
namespace Go.Proofs.YtkchakcebdenjaaGreat
open Go.RowKit
theorem wpList_append_own_any {P : Program} (w : World) {ops : Array Oper} {rest : List Oper} {o : Oper} {a : Act} {Q : Exit → Act → World → Prop}
    (hg : o.guard = none) (s x : Operand) (t : TypeId) (hop : o.op = Op.call { callee := Callee.builtin Builtin.append, args := #[s, x], argTypes := #[t, t] })
    (base : Nat) (e : TypeId) (i : TypeInfo) (z : Value) (size bytes : Nat) (h1 : P.underlying t = some (.slice e)) (h2 : P.info? e = some i) (h3 : i.zero = some z) (h4 : i.size = size) (h5 : i.bytes = bytes) (h6 : z.cells.size = size) (h7 : 0 < size)
    (v : Value) (k : Nat) (xs : List Value) (hs : a.eval s = v) (hown : w.ownsRow base e size v k xs) (ao : Option Addr) (m c : Nat) (news : List Value) (hx : a.eval x = .slice ao m c) (hn : news.length = m * size)
    (hnone : ao = none → m = 0 ∧ c = 0) (hc : ∀ ad, ao = some ad → ∀ j u, news[j]? = some u → w.cell? (ad.add j) = some u) (h1c : ∀ u ∈ news, u.oneCell' = true) (b1 : k + m ≤ maxLen) (b2 : (k + m) * bytes ≤ 140737488355328) (b3 : base ≤ w.heap.size)
    (hK : ∀ v' w', w'.ownsRow base e size v' (k + m) (xs ++ news) → w.grownBy w' v.ownBlock → wpList P ops Q rest (a.put o.dst v') w') :
    wpList P ops Q (o :: rest) a w := by
  cases ao with
  | some ad => exact wpList_append_own w hg s x t hop base e i z size bytes h1 h2 h3 h4 h5 h6 h7 v k xs hs hown ad m c news hx hn (hc ad rfl) h1c b1 b2 b3 (fun v' w' h1 h2 _ => hK v' w' h1 h2)
  | none =>
    obtain ⟨rfl, rfl⟩ := hnone rfl
    have hnews : news = [] := List.eq_nil_of_length_eq_zero (by simpa using hn)
    subst hnews
    refine wpList_plain hg fun K hK' => ?_
    have hrun := run_append_owned_none (P := P) w base t o.type e i size h1 h2 _ k xs hown
    unfold Oper.wp
    simp [execOp, hop, resolve, invoke, builtin, hs, hx, hrun, Result.andThen]
    exact hK' _ _ (by simpa using hK v w (by simpa using hown) (World.grownBy.refl _ _))
theorem NRow.nilcap {w : World} {ao : Option Addr} {n cap : Nat} {xs : List Nd} (h : NRow w (.slice ao n cap) xs) : ao = none → n = 0 ∧ cap = 0 := by
  obtain ⟨ao', cap', e, ⟨h1, h2⟩, _⟩ := h
  simp only [Value.slice.injEq] at e
  obtain ⟨rfl, rfl, rfl⟩ := e
  intro h
  have := h2 h
  omega
theorem Tryz.sizeP : (Tryz.prog.info? 29).map (·.size) = some 1 := by kernel_rfl
set_option maxHeartbeats 800000 in
theorem with_any (v vm : Value) (xs ys : List Nd) (w : World) (R : NRow w v xs) (Rm : NRow w vm ys) (hm : xs.length + ys.length ≤ 4194304) :
    Calls Tryz.prog 32 #[.agg #[v], vm] w fun e w' => ∃ v', e = .returned (.agg #[v']) ∧ w'.ownsRow w.heap.size 92 5 v' (xs ++ ys).length (ncs (xs ++ ys)) ∧ Below w.heap.size w w' := by
  have R' := R
  have Rm' := Rm
  obtain ⟨ao, cap, rfl, hcap, _, _, _⟩ := R'
  obtain ⟨am, capm, rfl, hcapm, _, _, _⟩ := Rm'
  obtain ⟨i0, hi, hz0, hz1, hz2⟩ := info_parts Tryz.infoN
  have hbytes : i0.bytes * (xs.length + ys.length) ≤ 281474976710656 := by rw [hz2]; omega
  have hmax : xs.length + ys.length ≤ maxLen := by unfold maxLen; omega
  go_enter Tryz.func32, Tryz.ntmps32
  go_wp2_with (at_make; refine wpList_make_own _ rfl _ _ 27 rfl (w.heap.size + 2) 92 i0 _ 5 Tryz.underlying27 hi hz0 hz1 _ _ _ (xs.length + ys.length) rfl rfl (by omega) hbytes hmax (by simp) ?_)
  intro w1 hown hgrow
  have hbel : Below (w.heap.size + 2) ((w.alloc (Obj.cells #[.slice ao xs.length cap] 29)).alloc (Obj.cells #[.slice none 0 0] 29)) w1 := (Below.refl _ _).grown hgrow (by simp) (by intro k hk; cases hk)
  have hB0 : Below w.heap.size w ((w.alloc (Obj.cells #[.slice ao xs.length cap] 29)).alloc (Obj.cells #[.slice none 0 0] 29)) := ((Below.refl _ _).alloc (Nat.le_refl _) _).alloc (by simp) _
  have hB1 : Below w.heap.size w w1 := hB0.trans (hbel.mono (by omega))
  have hx1 : w1.heap[w.heap.size]? = some (.cells #[.slice ao xs.length cap] 29 (0, 0)) := (hbel.block _ (by omega)).trans (heap_alloc2_old _ _ _)
  have hy1 : w1.heap[w.heap.size + 1]? = some (.cells #[.slice none 0 0] 29 (0, 0)) := (hbel.block _ (by omega)).trans (heap_alloc2_new _ _ _)
  have hc1 : w1.cell? ⟨w.heap.size, 0, none⟩ = some (.slice ao xs.length cap) := by rw [cell_of_row w1 _ 0 _ _ _ hx1]; rfl
  have R1 := R.below hB1
  have Rm1 := Rm.below hB1
  clear hgrow
  go_wp2_with (at_builtin; refine wpList_append_fits_any _ rfl _ _ 27 rfl (w.heap.size + 2) 92 i0 5 Tryz.underlying27 hi hz1 _ 0 _ [] rfl hown ao xs.length cap (ncs xs) rfl (by rw [ncs_length]) R1.nilcap R1.cells (ncs_one xs) (by omega) ?_)
  intro w2 hown2 hg2
  have hbel2 : Below (w.heap.size + 2) w1 w2 := (Below.refl _ _).grown hg2 (by have := hbel.size; simp at this; omega) (fun k hk => by simp at hk; omega)
  have hB2 := hB1.trans (hbel2.mono (by omega))
  have hx2 := (hbel2.block _ (by omega)).trans hx1
  have hy2 := (hbel2.block _ (by omega)).trans hy1
  have Rm2 := Rm.below hB2
  clear hg2 hown R1 Rm1 hx1 hy1 hc1 hB1 hbel
  go_wp2_with (at_builtin; refine wpList_append_fits_any _ rfl _ _ 27 rfl (w.heap.size + 2) 92 i0 5 Tryz.underlying27 hi hz1 _ _ _ _ rfl hown2 am ys.length capm (ncs ys) rfl (by rw [ncs_length]) Rm2.nilcap Rm2.cells (ncs_one ys) (by omega) ?_)
  intro w3 hown3 hg3
  have hbel3 : Below (w.heap.size + 2) w2 w3 := (Below.refl _ _).grown hg3 (by have := hB2.size; have := (Array.getElem?_eq_some_iff.1 hy2).1; omega) (fun k hk => by simp at hk; omega)
  have hB3 := hB2.trans (hbel3.mono (by omega))
  have hy3 := (hbel3.block _ (by omega)).trans hy2
  have c3 : w3.cell? ⟨w.heap.size + 1, 0, none⟩ = some (.slice none 0 0) := by rw [cell_of_row w3 _ 0 _ _ _ hy3]; rfl
  have f3 : w3.frozen? ⟨w.heap.size + 1, 0, none⟩ = false := frozen_of_row w3 _ 0 _ _ hy3
  clear hg3 hown2 hx2 hy2 Rm2 hB2 hbel2 hbel3
  go_wp2
  have hb4 := heap_setCell_same w3 (w.heap.size + 1) 0 _ _ (.slice (some ⟨w.heap.size + 1 + 1, 0, none⟩) (xs.length + ys.length) (xs.length + ys.length)) hy3
  refine bodyPost_ret (results_cell_row rfl _ _ (w.heap.size + 1) 29 _ (0, 0) _ rfl hb4 Tryz.underlying29 rfl Tryz.sizeP) rfl ⟨_, rfl, ?_, ?_⟩
  · have := own_mono (B' := w.heap.size) (ownsRow_setCell_below hown3 (a := ⟨w.heap.size + 1, 0, none⟩) (by simp) (.slice (some ⟨w.heap.size + 1 + 1, 0, none⟩) (xs.length + ys.length) (xs.length + ys.length))) (by omega)
    simpa [ncs_append] using this
  · exact hB3.setCell (p := ⟨w.heap.size + 1, 0, none⟩) (by simp) _
set_option maxHeartbeats 800000 in
theorem scopy_any (v : Value) (xs : List Nd) (w : World) (R : NRow w v xs) (hm : xs.length ≤ 4194304) :
    Calls Tryz.prog 24 #[.agg #[v]] w fun e w' => ∃ v', e = .returned (.agg #[v']) ∧ w'.ownsRow w.heap.size 92 5 v' xs.length (ncs xs) ∧ Below w.heap.size w w' := by
  have R' := R
  obtain ⟨ao, cap, rfl, hcap, _, _, _⟩ := R'
  obtain ⟨i0, hi, hz0, hz1, hz2⟩ := info_parts Tryz.infoN
  have hB0 : Below w.heap.size w (((w.alloc (Obj.cells #[.slice ao xs.length cap] 29)).alloc (Obj.cells #[.slice none 0 0] 29)).alloc (Obj.cells #[] 92)) := (((Below.refl _ _).alloc (Nat.le_refl _) _).alloc (by simp) _).alloc (by simp; omega) _
  have R1 := R.below hB0
  have own1 : (((w.alloc (Obj.cells #[.slice ao xs.length cap] 29)).alloc (Obj.cells #[.slice none 0 0] 29)).alloc (Obj.cells #[] 92)).ownsRow (w.heap.size + 2) 92 5 (.slice (some ⟨w.heap.size + 1 + 1, 0, none⟩) 0 0) 0 (ncs []) := by
    have := World.ownsRow_made (base := w.heap.size + 2) (e := 92) (size := 5) ((w.alloc (Obj.cells #[.slice ao xs.length cap] 29)).alloc (Obj.cells #[.slice none 0 0] 29)) #[] 0 (by simp) (by simp) (by simp)
    simpa [ncs_nil] using this
  go_enter Tryz.func24, Tryz.ntmps24
  go_wp2_with (at_builtin; refine wpList_append_own_any _ rfl _ _ 27 rfl (w.heap.size + 2) 92 i0 _ 5 48 Tryz.underlying27 hi hz0 hz1 hz2 rfl (by decide) _ 0 _ rfl own1 ao xs.length cap (ncs xs) rfl (by rw [ncs_length]) R1.nilcap R1.cells (ncs_one xs) (by unfold maxLen; omega) (by omega) (by simp) ?_)
  intro v2 w2 hown2 hg2
  obtain ⟨ao2, cap2, rfl⟩ := own_form hown2
  have hbel2 : Below (w.heap.size + 2) (((w.alloc (Obj.cells #[.slice ao xs.length cap] 29)).alloc (Obj.cells #[.slice none 0 0] 29)).alloc (Obj.cells #[] 92)) w2 := (Below.refl _ _).grown hg2 (by simp) (fun k hk => by simp [Value.ownBlock] at hk; omega)
  have hB2 := hB0.trans (hbel2.mono (by omega))
  have hy2 : w2.heap[w.heap.size + 1]? = some (.cells #[.slice none 0 0] 29 (0, 0)) := (hbel2.block _ (by omega)).trans ((heap_alloc_old _ _ (by simp)).trans (heap_alloc2_new _ _ _))
  have c3 : w2.cell? ⟨w.heap.size + 1, 0, none⟩ = some (.slice none 0 0) := by rw [cell_of_row w2 _ 0 _ _ _ hy2]; rfl
  have f3 : w2.frozen? ⟨w.heap.size + 1, 0, none⟩ = false := frozen_of_row w2 _ 0 _ _ hy2
  clear hg2 R1 own1 hbel2
  go_wp2
  have hb4 := heap_setCell_same w2 (w.heap.size + 1) 0 _ _ (.slice ao2 xs.length cap2) hy2
  refine bodyPost_ret (results_cell_row rfl _ _ (w.heap.size + 1) 29 _ (0, 0) _ (by simp) hb4 Tryz.underlying29 rfl Tryz.sizeP) rfl ⟨_, rfl, ?_, ?_⟩
  · have := own_mono (B' := w.heap.size) (ownsRow_setCell_below hown2 (a := ⟨w.heap.size + 1, 0, none⟩) (by simp) (.slice ao2 xs.length cap2)) (by omega)
    simpa [ncs_nil] using this
  · exact hB2.setCell (p := ⟨w.heap.size + 1, 0, none⟩) (by simp) _
end Go.Proofs.YtkchakcebdenjaaGreat
/-
  Contracts of impl.Make and spec.Make: a node behind a pool, or the pool as it was.
-/
namespace Go.Proofs.YtkchakcebdenjaaGreat
open Go.RowKit
def makeL (xs : List Nd) (x : Nd) : List Nd := if poolB xs = true then (if xs.length ≠ 3000 ∧ nodeB x xs.length = true then xs ++ [x] else xs) else []
def makeI (xs : List Nd) (x : Nd) : Int := if poolB xs = true then (if xs.length ≠ 3000 ∧ nodeB x xs.length = true then xs.length else -1) else -1
theorem NRow.nil0 (w : World) : NRow w (.slice none 0 0) [] := ⟨none, 0, rfl, by simp, by simp, by simp, fun h => absurd rfl h⟩
end Go.Proofs.YtkchakcebdenjaaGreat
/-
  What grows and turns one block alone. Nothing of the program; no condition.
-/
namespace Go.Proofs.YtkchakcebdenjaaGreat
open Go.RowKit
theorem grown_trans {w1 w2 w3 : World} {row : Option Nat} (h : w1.grownBy w2 row) (k : w2.grownBy w3 row) : w1.grownBy w3 row :=
  ⟨k.os.trans h.os, k.tape.trans h.tape, k.output.trans h.output, Nat.le_trans h.size k.size, fun i hi hne => (k.block i (Nat.lt_of_lt_of_le hi h.size) hne).trans (h.block i hi hne)⟩
theorem grown_set (w : World) (P : Nat) (j : Nat) (v : Value) : w.grownBy (w.setCell ⟨P, j, none⟩ v) (some P) :=
  ⟨rfl, rfl, rfl, by simp [World.setCell], fun k _ hk => heap_setCell_other w ⟨P, j, none⟩ k v (fun e => hk (by simp [e]))⟩
theorem grown_below2 {w w' : World} (h : Below w.heap.size w w') (row : Option Nat) : w.grownBy w' row :=
  ⟨h.os, h.tape, h.output, h.size, fun k hk _ => h.block k hk⟩
theorem wpList_store_own {P : Program} {ops : Array Oper} {rest : List Oper} {o : Oper} {a : Act} {w : World} {Q : Exit → Act → World → Prop} (hgd : o.guard = none) (ty : TypeId) (x y : Operand) (ho : o.op = .store ty x y)
    (g : Nat) (cells : Array Value) (hx : a.eval x = .pointer (some ⟨g, 0, none⟩)) (hy : a.eval y = .agg cells)
    (t : TypeId) (old : Array Value) (hg : w.heap[g]? = some (.cells old t (0, 0))) (hi : (P.info? ty).map (·.size) = some cells.size)
    (hold : old.size = cells.size) (h1 : cells.all (·.oneCell') = true)
    (h : ∀ w2 : World, w2.heap[g]? = some (.cells cells t (0, 0)) → Below g w w2 → w2.heap.size = w.heap.size → wpList P ops Q rest (a.put o.dst undef) w2) : wpList P ops Q (o :: rest) a w :=
  wpList_store_row hgd ty x y ho g cells hx hy t old hg hi hold h1 (h _ (setRow_heap w g old _ t _ hg) (below_setRow (Below.refl _ _) (Nat.le_refl _) _) (size_setRow w g cells))
end Go.Proofs.YtkchakcebdenjaaGreat
/-
  A whole struct stored, and what stays where one block alone is turned. Nothing of the program; no condition.
-/
namespace Go.Proofs.YtkchakcebdenjaaGreat
open Go.RowKit
theorem wpList_store_own2 {P : Program} {ops : Array Oper} {rest : List Oper} {o : Oper} {a : Act} {w : World} {Q : Exit → Act → World → Prop} (hgd : o.guard = none) (ty : TypeId) (x y : Operand) (ho : o.op = .store ty x y)
    (g : Nat) (cells : Array Value) (hx : a.eval x = .pointer (some ⟨g, 0, none⟩)) (hy : a.eval y = .agg cells)
    (t : TypeId) (old : Array Value) (hg : w.heap[g]? = some (.cells old t (0, 0))) (hi : (P.info? ty).map (·.size) = some cells.size)
    (hold : old.size = cells.size) (h1 : cells.all (·.oneCell') = true)
    (h : ∀ w2 : World, w2.heap[g]? = some (.cells cells t (0, 0)) → Below g w w2 → w2.heap.size = w.heap.size → (∀ k, k ≠ g → w2.heap[k]? = w.heap[k]?) → wpList P ops Q rest (a.put o.dst undef) w2) : wpList P ops Q (o :: rest) a w :=
  wpList_store_row hgd ty x y ho g cells hx hy t old hg hi hold h1 (h _ (setRow_heap w g old _ t _ hg) (below_setRow (Below.refl _ _) (Nat.le_refl _) _) (size_setRow w g cells) (fun k hk => setRow_other w g k cells hk))
theorem own_ne {w : World} {B : Nat} {e t : TypeId} {k : Nat} {v : Value} {n j : Nat} {xs : List Value} {c : Array Value} {fr : Nat × Nat} (h : w.ownsRow B e k v n xs) (hj : w.heap[j]? = some (.cells c t fr)) (hte : t ≠ e) : v.ownBlock ≠ some j := by
  rcases h.2 with ⟨rfl, _⟩ | ⟨g, cap, cur, rfl, hB, hg, _⟩
  · simp [Value.ownBlock]
  · intro e'
    simp only [Value.ownBlock, Option.some.injEq] at e'
    subst e'
    rw [hg] at hj
    cases hj
    exact hte rfl
end Go.Proofs.YtkchakcebdenjaaGreat
