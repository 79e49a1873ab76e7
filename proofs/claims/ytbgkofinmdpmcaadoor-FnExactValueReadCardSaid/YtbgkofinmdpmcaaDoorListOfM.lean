/-
  Texts that stood by themselves, laid into one.
-/
import Derived.RangeFuncNested
import Derived.RangeFuncBound
import Derived.RangeFuncCalls
import Derived.RangeFuncLeaves
import Derived.RangeFuncBox
import Derived.Shelf.Abstract
import Derived.Shelf.RegionOpen
import Derived.WalkKit
import Derived.OwnWalkIn
import Derived.TacticsInMore
import Derived.LoopNIn
import Derived.LoopIn
import Derived.Test.YtbgkofinmdpmcaaDoorEasM
import Derived.Test.YtbgkofinmdpmcaaDoorMvMathM
import Derived.Deep.AppendLies
import Derived.Test.YtbgkofinmdpmcaaDoorSizeIM
import Derived.Test.YtbgkofinmdpmcaaDoorSNodeM
/-
  Contracts of impl's reached: the function that it answers tells the nodes that are reached, each with its place, in their order.
-/
namespace Go.Proofs.YtbgkofinmdpmcaaDoor
open Go.RowKit Go.Shelf
attribute [local go_sem] Oper.semAt_some

/-- A node of xs with its place. -/
abbrev Itm (xs : List Nd) : Type := { p : Nat × Nd // xs[p.1]? = some p.2 }
def ienc {xs : List Nd} (p : Itm xs) : Array Value := #[.int .i64 (p.1.1 : Int), .agg #[.int .i64 p.1.2.k, .int .i64 p.1.2.n, .string p.1.2.s, .int .i64 p.1.2.a, .int .i64 p.1.2.b]]
/-- The blocks of Z lie as they lay. -/
def KpZ (Z : Nat → Prop) (W W' : World) : Prop := ∀ b, Z b → W'.heap[b]? = W.heap[b]?
theorem KpZ.trans {Z : Nat → Prop} {A B C : World} (h : KpZ Z A B) (k : KpZ Z B C) : KpZ Z A C := fun b hb => (k b hb).trans (h b hb)
theorem KpZ.cell {Z : Nat → Prop} {W W' : World} (h : KpZ Z W W') {p : Addr} (hp : Z p.block) : W'.cell? p = W.cell? p := World.cell?_of_block (w := W) (h p.block hp)
theorem KpZ.lt {Z : Nat → Prop} {W W' : World} (h : KpZ Z W W') {b : Nat} (hp : Z b) (hb : b < W.heap.size) : b < W'.heap.size := by
  have := h b hp
  rw [Array.getElem?_eq_getElem hb] at this
  exact (Array.getElem?_eq_some_iff.1 this).1
theorem KpZ.alloc {Z : Nat → Prop} {W : World} (hZ : ∀ b, Z b → b < W.heap.size) (o : Obj) : KpZ Z W (W.alloc o) := fun b hb => Below.heap_alloc W o b (hZ b hb)

end Go.Proofs.YtbgkofinmdpmcaaDoor

/-
  One statement of impl's moved, within a round: the node with its parts where they are then is put behind the others. Conditions: its parts are told of.
-/
namespace Go.Proofs.YtbgkofinmdpmcaaDoor
open Go.RowKit Go.Shelf
attribute [local go_sem] Oper.semAt_some

theorem upon_in {P : Program} {o : Oper} {a : Act} {K : Act → World → Prop} {Q : Exit → Act → World → Prop} (l n : Nat) (v : Value) (w' : World) (h : o.upon P a K Q (.ok (.value v) w')) : o.uponIn (Fence.wide.inRound l) n P a K Q (.ok (.value v) w') := h
/-- append onto a row of the call's own, as a step of a region that draws, within a round. -/
theorem stepIn_append {P : Program} {n : Nat} (l : Nat) (w : World) {ops : Array Oper} {o : Oper} {a : Act} {K : Act → World → Prop} {Q : Exit → Act → World → Prop} {E : Prop} (hgd : o.guard = none) (s x : Operand) (t : TypeId)
    (ho : o.op = .call { callee := .builtin .append, args := #[s, x], argTypes := #[t, t] })
    (base : Nat) (e : TypeId) (i : TypeInfo) (z : Value) (size bytes : Nat) (ht : P.underlying t = some (.slice e)) (hi : P.info? e = some i) (hz : i.zero = some z)
    (hsize : i.size = size) (hby : i.bytes = bytes) (hzs : z.cells.size = size) (hsz : 0 < size)
    (v : Value) (m0 : Nat) (xs : List Value) (hs : a.eval s = v) (hown : w.ownsRow base e size v m0 xs)
    (ad : Addr) (m c : Nat) (news : List Value) (hx : a.eval x = .slice (some ad) m c) (hl : news.length = m * size) (hnews : ∀ j u, news[j]? = some u → w.cell? (ad.add j) = some u) (h1 : ∀ u ∈ news, u.oneCell' = true)
    (hm : 0 < m) (h63 : m0 + m ≤ maxLen) (hbytes : (m0 + m) * bytes ≤ 140737488355328) (hbase : base ≤ w.heap.size) (H : Nat) (hH : w.heap.size = H)
    (h : ∀ g cap w', w'.ownsRow base e size (.slice (some ⟨g, 0, none⟩) (m0 + m) cap) (m0 + m) (xs ++ news) → w.grownBy w' v.ownBlock → (v.ownBlock = some g ∨ g = H) → g < w'.heap.size → K (a.put o.dst (.slice (some ⟨g, 0, none⟩) (m0 + m) cap)) w') :
    if Region.wanted o (yielded ops a.tmps) = true then Oper.wpIn (Fence.wide.inRound l) n P o a w K Q else E := by
  have hw : Region.wanted o (yielded ops a.tmps) = true := by simp [Region.wanted, hgd]
  rw [if_pos hw]
  refine ⟨fun _ _ => trivial, ?_⟩
  rw [Oper.semAt_eq _ _ _ (by rw [ho]; intro c hc; cases hc)]
  obtain ⟨g, cap, w', hrun, r1, r2, r3, r4⟩ := run_append_lies (P := P) w t o.type base e i z size bytes ht hi hz hsize hby hzs hsz v m0 xs hown ad m c news hl hnews h1 hm h63 hbytes hbase H hH
  simp [execOp, ho, resolve, invoke, builtin, hs, hx, hrun, Result.andThen]
  exact h g cap w' r1 r2 r3 r4

end Go.Proofs.YtbgkofinmdpmcaaDoor

/-
  Contract of impl's moved: what the nodes that are reached come to behind so many others, and where the roots are then. Conditions: the pool is right, all roots are nodes of it.
-/
namespace Go.Proofs.YtbgkofinmdpmcaaDoor
open Go.RowKit Go.Shelf
attribute [local go_sem] Oper.semAt_some

theorem wpListIn_full {F : Fence} {n : Nat} {P : Program} (w : World) {ops : Array Oper} {rest : List Oper} {o : Oper} {a : Act} {Q : Exit → Act → World → Prop}
    (hg : o.guard = none) (l c : Operand) (t : TypeId) (hop : o.op = Op.makeSlice t l c)
    (base : Nat) (e : TypeId) (i : TypeInfo) (z : Value) (size : Nat) (h1 : P.underlying t = some (.slice e)) (h2 : P.info? e = some i) (h3 : i.zero = some z) (h4 : i.size = size)
    (kl kc : IntKind) (L C : Int) (m : Nat) (hl : a.eval l = .int kl L) (hc : a.eval c = .int kc C) (hL : L = (m : Int)) (hC : C = (m : Int)) (b2 : i.bytes * m ≤ 281474976710656) (b3 : m ≤ maxLen) (b4 : base ≤ w.heap.size)
    (hK : ∀ w', w'.ownsRow base e size (.slice (some ⟨w.heap.size, 0, none⟩) m m) m (madeCells z.cells (m * size)).toList → w.grownBy w' none → wpListIn F n P ops Q rest (a.put o.dst (.slice (some ⟨w.heap.size, 0, none⟩) m m)) w') :
    wpListIn F n P ops Q (o :: rest) a w := by
  refine wpListIn_plain hg fun K hK' => ?_
  obtain ⟨w', hrun, r1, r2⟩ := run_make_full (P := P) w base t e i z size h1 h2 h3 h4 kl kc m b2 b3 b4
  subst hL
  subst hC
  unfold Oper.wpIn
  refine ⟨?_, ?_⟩
  · simp [Oper.about, hop]
  · rw [Oper.semAt_plain F _ _ (by rw [hop]; intro c hc'; cases hc')]
    simp [execOp, hop, hl, hc, hrun, Result.andThen]
    exact hK' _ _ (hK w' r1 r2)

theorem own_split7 {w : World} {B B' : Nat} {e e' : TypeId} {k k' : Nat} {v v' : Value} {n n' : Nat} {xs xs' : List Value} (h : w.ownsRow B e k v n xs) (h' : w.ownsRow B' e' k' v' n' xs') (hne : e ≠ e') : v.ownBlock = none ∨ v.ownBlock ≠ v'.ownBlock := by
  rcases h.2 with ⟨rfl, _⟩ | ⟨g, cap, cur, rfl, hB, hg, _⟩
  · exact Or.inl rfl
  · refine Or.inr fun e => ?_
    rcases h'.2 with ⟨rfl, _⟩ | ⟨g', cap', cur', rfl, hB', hg', _⟩
    · cases e
    · simp only [Value.ownBlock, Option.some.injEq] at e
      subst e
      rw [hg] at hg'
      injection hg' with h1
      injection h1 with _ h2 _
      exact hne h2
theorem own_ne7 {w : World} {B : Nat} {e t : TypeId} {k j : Nat} {v : Value} {n : Nat} {xs : List Value} {c : Array Value} (h : w.ownsRow B e k v n xs) (hj : w.heap[j]? = some (.cells c t (0, 0))) (ht : t ≠ e) : v.ownBlock ≠ some j := by
  rcases h.2 with ⟨rfl, _⟩ | ⟨g, cap, cur, rfl, hB, hg, _⟩
  · simp [Value.ownBlock]
  · intro e'
    simp only [Value.ownBlock, Option.some.injEq] at e'
    subst e'
    rw [hg] at hj
    injection hj with h1
    injection h1 with _ h2 _
    exact ht h2.symm
theorem Tryd.infoI8 : (Tryd.prog.info? 3).map (fun i => (i.zero, i.size, i.bytes)) = some (some (.int .i64 0), 1, 8) := by kernel_rfl

end Go.Proofs.YtbgkofinmdpmcaaDoor

/-
  What a list is read as, and the contracts of impl.ListOf and spec.ListOf.
-/
namespace Go.Proofs.YtbgkofinmdpmcaaDoor
open Go.RowKit

theorem Tryd.infoI2 : (Tryd.prog.info? 3).map (fun i => (i.zero, i.size, i.bytes)) = some (some (.int .i64 0), 1, 8) := by kernel_rfl

/-- The values from the node j on, behind acc; none when it does not end with a KNil. -/
def chain (xs : List Nd) : Nat → Nat → List Int → Option (List Int)
  | 0, _, _ => none
  | f + 1, j, acc => match xs[j]? with
    | none => none
    | some x => if x.k = 5 then chain xs f x.b.toNat (acc ++ [x.a]) else if x.k = 1 then some acc else none
def chainR (xs : List Nd) (v : Nat) : List Int × Bool := match chain xs (v + 1) v [] with
  | some l => (l, true)
  | none => ([], false)
/-- What ListOf answers. -/
def listR (xs : List Nd) (v : Int) : List Int × Bool := if poolB xs && hasI xs v then chainR xs v.toNat else ([], false)
theorem chain_pair (xs : List Nd) (f j : Nat) (acc : List Int) (x : Nd) (hx : xs[j]? = some x) (h5 : x.k = 5) (hf : j < f) : chain xs f j acc = chain xs (f - 1) x.b.toNat (acc ++ [x.a]) := by
  cases f with
  | zero => omega
  | succ f => simp [chain, hx, h5]
theorem chain_nil (xs : List Nd) (f j : Nat) (acc : List Int) (x : Nd) (hx : xs[j]? = some x) (h1 : x.k = 1) (hf : j < f) : chain xs f j acc = some acc := by
  cases f with
  | zero => omega
  | succ f => simp [chain, hx, h1]
theorem chain_none (xs : List Nd) (f j : Nat) (acc : List Int) (x : Nd) (hx : xs[j]? = some x) (h5 : ¬ x.k = 5) (h1 : ¬ x.k = 1) (hf : j < f) : chain xs f j acc = none := by
  cases f with
  | zero => omega
  | succ f => simp [chain, hx, h5, h1]

set_option maxHeartbeats 400000 in
theorem shas_all (v : Value) (xs : List Nd) (a : Int) (w : World) (R : NRow w v xs) :
    Calls Tryd.prog 20 #[.agg #[v], .int .i64 a] w fun e w' => e = .returned (.bool (hasI xs a)) ∧ Below w.heap.size w w' := by
  obtain ⟨ao, cap, rfl, _, hm, _⟩ := R
  go_enter Tryd.func20, Tryd.ntmps20
  go_wp2_with fail
  refine (lin_any _ _ _ _).mono ?_
  rintro e w1 ⟨rfl, rfl⟩
  go_wp2
  go_ret
  refine ⟨retB ?_, (Below.refl _ _).alloc (Nat.le_refl _) _⟩
  rw [Bool.eq_iff_iff]
  simp [hasI]
  omega

end Go.Proofs.YtbgkofinmdpmcaaDoor
