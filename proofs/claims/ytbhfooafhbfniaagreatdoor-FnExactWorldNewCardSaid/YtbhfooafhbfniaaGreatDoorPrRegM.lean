/-
  Texts that stood by themselves, laid into one.
-/
import Derived.Test.YtbhfooafhbfniaaGreatDoorPrToM
import Derived.Test.YtbhfooafhbfniaaGreatDoorSOwnM
import Derived.Test.YtbhfooafhbfniaaGreatDoorShapeM
import Derived.Deep.MidRow
import Derived.Deep.RegionHeld3
/-
  Links: what one is, and the contracts of the laws' helpers szLink, toLink, eqLink, markLink, heldLink. No condition.
-/
namespace Go.Proofs.YtbhfooafhbfniaaGreatDoor
open Go.RowKit
structure Lk where
  sent : Int
  acked : Int
  q : List ByteArray
  got : Int
  h : List Pc
theorem Tryz.sizeLk : (Tryz.prog.info? 106).map (·.size) = some 5 := by kernel_rfl
set_option maxHeartbeats 800000 in
theorem eqlink_any (v1 v2 u1 u2 : Value) (l : Lk) (w : World) (R1 : StRow w v1 l.q) (R2 : PcRow w v2 l.h) (S1 : StRow w u1 l.q) (S2 : PcRow w u2 l.h) :
    Calls Tryz.prog 61 #[.agg #[.int .i64 l.sent, .int .i64 l.acked, v1, .int .i64 l.got, v2], .agg #[.int .i64 l.sent, .int .i64 l.acked, u1, .int .i64 l.got, u2]] w fun e w' => e = .returned (.bool true) ∧ Below w.heap.size w w' := by
  obtain ⟨a1, c1, rfl⟩ := R1.small
  obtain ⟨a2, c2, rfl⟩ := R2.small
  obtain ⟨b1, d1, rfl⟩ := S1.small
  obtain ⟨b2, d2, rfl⟩ := S2.small
  go_enter Tryz.func61, Tryz.ntmps61
  go_wp2_with fail
  have hB0 : Below w.heap.size w ((w.alloc (Obj.cells #[.int .i64 l.sent, .int .i64 l.acked, .slice a1 l.q.length c1, .int .i64 l.got, .slice a2 l.h.length c2] 106)).alloc (Obj.cells #[.int .i64 l.sent, .int .i64 l.acked, .slice b1 l.q.length d1, .int .i64 l.got, .slice b2 l.h.length d2] 106)) := ((Below.refl _ _).alloc (Nat.le_refl _) _).alloc (by simp) _
  refine (eqstrs_any _ _ l.q _ (R1.below hB0) (S1.below hB0)).mono ?_
  rintro e w1 ⟨rfl, hb1⟩
  have hx1 : w1.heap[w.heap.size]? = some (.cells #[.int .i64 l.sent, .int .i64 l.acked, .slice a1 l.q.length c1, .int .i64 l.got, .slice a2 l.h.length c2] 106 (0, 0)) := (hb1.block _ (by simp; omega)).trans ((heap_alloc_old _ _ (by simp)).trans (heap_alloc_new _ _))
  have hy1 : w1.heap[w.heap.size + 1]? = some (.cells #[.int .i64 l.sent, .int .i64 l.acked, .slice b1 l.q.length d1, .int .i64 l.got, .slice b2 l.h.length d2] 106 (0, 0)) := (hb1.block _ (by simp)).trans (heap_alloc2_new _ _ _)
  have hB1 := hB0.trans (hb1.mono hB0.size)
  have hc1 : w1.cell? ⟨w.heap.size, 0 + 3, none⟩ = some (.int .i64 l.got) := by rw [cell_of_row w1 _ 3 _ _ _ hx1]; rfl
  have hd1 : w1.cell? ⟨w.heap.size + 1, 0 + 3, none⟩ = some (.int .i64 l.got) := by rw [cell_of_row w1 _ 3 _ _ _ hy1]; rfl
  have hc2 : w1.cell? ⟨w.heap.size, 0 + 4, none⟩ = some (.slice a2 l.h.length c2) := by rw [cell_of_row w1 _ 4 _ _ _ hx1]; rfl
  have hd2 : w1.cell? ⟨w.heap.size + 1, 0 + 4, none⟩ = some (.slice b2 l.h.length d2) := by rw [cell_of_row w1 _ 4 _ _ _ hy1]; rfl
  clear hB0 hb1
  go_wp2_with fail
  refine (eqpcs_any _ _ l.h _ (R2.below hB1) (S2.below hB1)).mono ?_
  rintro e w2 ⟨rfl, hb2⟩
  have hB2 := hB1.trans (hb2.mono hB1.size)
  clear hc1 hd1 hx1 hy1 hB1 hb2 hc2 hd2
  go_wp2
  go_ret
  exact ⟨rfl, hB2⟩
def VarL (w : World) (b lo hi : Nat) (v1 v2 : Value) (l : Lk) : Prop :=
  w.heap[b]? = some (.cells #[.int .i64 l.sent, .int .i64 l.acked, v1, .int .i64 l.got, v2] 106 (0, 0)) ∧ SOwn w lo v1 l.q ∧ w.ownsRow lo 111 2 v2 l.h.length (pccs l.h) ∧ (l.q ≠ [] → ∀ k, v1.ownBlock = some k → k < hi) ∧ (∀ k, v2.ownBlock = some k → k < hi) ∧ hi ≤ w.heap.size
theorem VarL.new {w5 we : World} {lo : Nat} {v1 v2 : Value} {l : Lk} (h1 : SOwn w5 lo v1 l.q) (h2 : w5.ownsRow lo 111 2 v2 l.h.length (pccs l.h)) (hd : Below w5.heap.size w5 we) (hb : we.heap[w5.heap.size]? = some (.cells #[.int .i64 l.sent, .int .i64 l.acked, v1, .int .i64 l.got, v2] 106 (0, 0))) :
    VarL we w5.heap.size lo we.heap.size v1 v2 l :=
  ⟨hb, h1.below hd, own_below h2 hd, fun hne k hk => by
    obtain ⟨g, cs, e, _, hg⟩ := (h1.below hd).blk hne
    rw [hk] at e
    cases e
    exact (Array.getElem?_eq_some_iff.1 hg).1, fun k hk => ((own_below h2 hd).lt k hk).2, Nat.le_refl _⟩
theorem VarL.below {w w' : World} {b lo hi : Nat} {v1 v2 : Value} {l : Lk} (h : VarL w b lo hi v1 v2 l) (hb : Below w.heap.size w w') : VarL w' b lo hi v1 v2 l :=
  ⟨(hb.block b (Array.getElem?_eq_some_iff.1 h.1).1).trans h.1, h.2.1.below hb, own_below h.2.2.1 hb, h.2.2.2.1, h.2.2.2.2.1, Nat.le_trans h.2.2.2.2.2 hb.size⟩
theorem VarL.lt {w : World} {b lo hi : Nat} {v1 v2 : Value} {l : Lk} (h : VarL w b lo hi v1 v2 l) : b < w.heap.size := (Array.getElem?_eq_some_iff.1 h.1).1
theorem VarL.keptBy {w w' : World} {b lo hi : Nat} {v1 v2 : Value} {l : Lk} {o : Option Nat} (h : VarL w b lo hi v1 v2 l) (hg : w.grownBy w' o) (hb : ∀ k, o = some k → k ≠ b ∧ (k < lo ∨ hi ≤ k)) : VarL w' b lo hi v1 v2 l := by
  refine ⟨(hg.block b h.lt (fun e => (hb b e.symm).1 rfl)).trans h.1, h.2.1.kept hg ?_, h.2.2.1.kept hg ?_, h.2.2.2.1, h.2.2.2.2.1, Nat.le_trans h.2.2.2.2.2 hg.size⟩
  · by_cases hq : l.q = []
    · exact Or.inl hq
    · refine Or.inr fun g e eo => ?_
      obtain ⟨g', cs, e', hlo, _⟩ := h.2.1.blk hq
      rw [e] at e'
      cases e'
      have k1 := h.2.2.2.1 hq g e
      have k3 := (hb g eo).2
      omega
  · cases hv : v2.ownBlock with
    | none => exact Or.inl rfl
    | some k =>
      refine Or.inr fun e => ?_
      have k1 := h.2.2.2.2.1 k hv
      have k2 := (h.2.2.1.lt k hv).1
      have k3 := (hb k e.symm).2
      omega
def lmk (l : Lk) : Lk := ⟨l.sent, l.acked, sm 1 l.q.length, l.got, pmarked (1 + l.q.length) l.h l.h.length⟩
def Turned (w w' : World) (lo hi : Nat) : Prop :=
  w'.os = w.os ∧ w'.tape = w.tape ∧ w'.output = w.output ∧ w.heap.size ≤ w'.heap.size ∧ ∀ k, k < w.heap.size → (k < lo ∨ hi ≤ k ∨ ∃ cs t, w.heap[k]? = some (.cells cs t (0, 0)) ∧ t ≠ 9 ∧ t ≠ 111) → w'.heap[k]? = w.heap[k]?
theorem Turned.block {w w' : World} {lo hi k : Nat} {cs : Array Value} {t : TypeId} (h : Turned w w' lo hi) (hk : w.heap[k]? = some (.cells cs t (0, 0))) (h1 : t ≠ 9) (h2 : t ≠ 111) : w'.heap[k]? = some (.cells cs t (0, 0)) :=
  (h.2.2.2.2 k (Array.getElem?_eq_some_iff.1 hk).1 (Or.inr (Or.inr ⟨cs, t, hk, h1, h2⟩))).trans hk
theorem own_turned {w w' : World} {lo hi lo' hi' k n : Nat} {e : TypeId} {v : Value} {xs : List Value} (h : Turned w w' lo hi) (ho : w.ownsRow lo' e k v n xs) (hv : ∀ g, v.ownBlock = some g → g < hi') (hd : hi' ≤ lo ∨ hi ≤ lo') : w'.ownsRow lo' e k v n xs := by
  refine ⟨ho.1, ?_⟩
  rcases ho.2 with ⟨rfl, h0⟩ | ⟨g, cap, cur, rfl, hb, hg, hr⟩
  · exact Or.inl ⟨rfl, h0⟩
  · have h1 := hv g rfl
    exact Or.inr ⟨g, cap, cur, rfl, hb, (h.2.2.2.2 g (Array.getElem?_eq_some_iff.1 hg).1 (by omega)).trans hg, hr⟩
theorem VarL.turned {w w' : World} {lo hi b lo' hi' : Nat} {v1 v2 : Value} {l : Lk} (h : Turned w w' lo hi) (V : VarL w b lo' hi' v1 v2 l) (hd : hi' ≤ lo ∨ hi ≤ lo') : VarL w' b lo' hi' v1 v2 l := by
  refine ⟨h.block V.1 (by decide) (by decide), ?_, own_turned h V.2.2.1 V.2.2.2.2.1 hd, V.2.2.2.1, V.2.2.2.2.1, Nat.le_trans V.2.2.2.2.2 h.2.2.2.1⟩
  obtain ⟨ao, cap, rfl, hc, hq⟩ := V.2.1
  refine ⟨ao, cap, rfl, hc, ?_⟩
  by_cases hne : l.q = []
  · exact Or.inl hne
  · rcases hq with hq | ⟨g, CAP, N, pre, post, rfl, hN, ho⟩
    · exact absurd hq hne
    · exact Or.inr ⟨g, CAP, N, pre, post, rfl, hN, own_turned h ho (fun g' e => V.2.2.2.1 hne g' (by simpa [Value.ownBlock] using e)) hd⟩
end Go.Proofs.YtbhfooafhbfniaaGreatDoor
/-
  Helpers for regions that draw their order and load whole structs. Nothing of the program; no condition.
-/
namespace Go.Proofs.YtbhfooafhbfniaaGreatDoor
open Go.RowKit
theorem yields_row {P : Program} {ops : Array Oper} {S : World → Prop} {op : Oper} {a : Act} (hw : Region.wanted op (yielded ops a.tmps) = true) (ty : TypeId) (x : Operand) (ho : op.op = .load ty x)
    (b : Nat) (hx : a.eval x = .pointer (some ⟨b, 0, none⟩)) (cs : Array Value) (t : TypeId) (d : TypeDesc) (hS : ∀ w, S w → w.heap[b]? = some (.cells cs t (0, 0)))
    (hu : P.underlying ty = some d) (hd : d.isRow = true) (hi : (P.info? ty).map (·.size) = some cs.size) : YieldsIf P ops S op (.agg cs) a := by
  have h := yieldsIf_load_mid (P := P) (ops := ops) (S := S) (op := op) (a := a) hw ty x ho b 0 hx cs.toList d (fun w hw' => by
    have hr := World.rangeAt_of_block (hS w hw') 0 cs.size
    simpa using hr) hu hd (by simpa using hi)
  simpa using h
theorem own_other {w w' : World} {B k n g : Nat} {e : TypeId} {v : Value} {l : List Value} (h : w.ownsRow B e k v n l) (hg : v.ownBlock ≠ some g) (hb : ∀ j, j ≠ g → w'.heap[j]? = w.heap[j]?) : w'.ownsRow B e k v n l := by
  refine ⟨h.1, ?_⟩
  rcases h.2 with ⟨rfl, h0⟩ | ⟨gg, cap, cur, rfl, hB, hgg, hr⟩
  · exact Or.inl ⟨rfl, h0⟩
  · exact Or.inr ⟨gg, cap, cur, rfl, hB, (hb gg (fun e => hg (by rw [e]; rfl))).trans hgg, hr⟩
theorem drew_bel (w : World) : Below w.heap.size w w.drew := (Below.refl _ _).drew
theorem alloc_bel (w : World) (o : Obj) : Below w.heap.size w (w.alloc o) := (Below.refl _ _).alloc (Nat.le_refl _) _
theorem blk_lt {w : World} {b : Nat} {o : Obj} (h : w.heap[b]? = some o) : b < w.heap.size := (Array.getElem?_eq_some_iff.1 h).1
theorem blk_bel {w w' : World} {b : Nat} {o : Obj} (h : w.heap[b]? = some o) (hb : Below w.heap.size w w') : w'.heap[b]? = some o := (hb.block _ (blk_lt h)).trans h
end Go.Proofs.YtbhfooafhbfniaaGreatDoor
