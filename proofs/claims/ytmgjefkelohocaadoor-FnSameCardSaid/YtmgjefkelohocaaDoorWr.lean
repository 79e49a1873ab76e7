/-
  The writer's memory (one block with the pool and the bytes so far) and the contract of its method put. No condition.
-/
import Derived.Test.YtmgjefkelohocaaDoorNd
import Derived.Test.YtmgjefkelohocaaDoorGrow
namespace Go.Proofs.YtmgjefkelohocaaDoor
open Go.RowKit

/-- The cells of bytes. -/
def cb (l : List UInt8) : List Value := l.map fun b => Value.int .u8 b.toNat
theorem cb_length (l : List UInt8) : (cb l).length = l.length := by simp [cb]
theorem cb_append (a b : List UInt8) : cb (a ++ b) = cb a ++ cb b := by simp [cb]
theorem cb_str (s : ByteArray) : Lib.strCells s = cb s.data.toList := rfl

/-- All that is there stays, but for block p and rows of bytes from lo on. -/
structure Fr (p lo : Nat) (w w' : World) : Prop where
  os : w'.os = w.os
  tape : w'.tape = w.tape
  output : w'.output = w.output
  size : w.heap.size ≤ w'.heap.size
  block : ∀ k, k < w.heap.size → k ≠ p → (k < lo ∨ ∀ cur fr, w.heap[k]? ≠ some (.cells cur 5 fr)) → w'.heap[k]? = w.heap[k]?
theorem Fr.refl (p lo : Nat) (w : World) : Fr p lo w w := ⟨rfl, rfl, rfl, Nat.le_refl _, fun _ _ _ _ => rfl⟩
theorem Fr.trans {p lo : Nat} {a b c : World} (h : Fr p lo a b) (k : Fr p lo b c) : Fr p lo a c :=
  ⟨k.os.trans h.os, k.tape.trans h.tape, k.output.trans h.output, Nat.le_trans h.size k.size, fun i hi hp hc => by
    have e := h.block i hi hp hc
    rw [k.block i (Nat.lt_of_lt_of_le hi h.size) hp (by rw [e]; exact hc), e]⟩
theorem Fr.of_below {p lo : Nat} {w w' : World} (h : Below w.heap.size w w') : Fr p lo w w' := ⟨h.os, h.tape, h.output, h.size, fun k hk _ _ => h.block k hk⟩
theorem Fr.below {p lo : Nat} {w w' : World} (h : Fr p lo w w') (hp : lo ≤ w.heap.size) (hpl : p < lo) : Below p w w' := ⟨h.os, h.tape, h.output, h.size, fun k hk => h.block k (by omega) (by omega) (Or.inl (by omega))⟩
theorem Fr.of_grown {p lo : Nat} {w w' : World} {v : Value} {n : Nat} {xs : List Value} (ho : w.ownsRow lo 5 1 v n xs) (h : w.grownBy w' v.ownBlock) : Fr p lo w w' :=
  ⟨h.os, h.tape, h.output, h.size, fun k hk _ hc => h.block k hk (fun e => by
    rcases ho.2 with ⟨rfl, _⟩ | ⟨g, cap, cur, rfl, hb, hg, _⟩
    · cases e
    · simp only [Value.ownBlock, Option.some.injEq] at e
      subst e
      rcases hc with hc | hc
      · omega
      · exact hc _ _ hg)⟩
/-- A block that is no row of bytes stays. -/
theorem Fr.keep {p lo : Nat} {w w' : World} {k : Nat} {cs : Array Value} {t : TypeId} {fr : Nat × Nat} (h : Fr p lo w w') (hk : w.heap[k]? = some (.cells cs t fr)) (hp : k ≠ p) (ht : t ≠ 5) : w'.heap[k]? = some (.cells cs t fr) := by
  rw [h.block k (Array.getElem?_eq_some_iff.1 hk).1 hp (Or.inr fun cur fr' e => by rw [hk] at e; cases e; exact ht rfl), hk]

/-- The writer: block p holds the pool and the bytes so far, which it owns. -/
def Wr (w : World) (p lo : Nat) (pv v : Value) (l : List UInt8) : Prop :=
  w.heap[p]? = some (.cells #[pv, v] 70 (0, 0)) ∧ w.ownsRow lo 5 1 v l.length (cb l)
theorem Wr.below {w w' : World} {p lo : Nat} {pv v : Value} {l : List UInt8} (h : Wr w p lo pv v l) (hb : Below w.heap.size w w') : Wr w' p lo pv v l :=
  ⟨(hb.block _ (Array.getElem?_eq_some_iff.1 h.1).1).trans h.1, own_below h.2 hb⟩

/-- What put panics with. -/
def tooLong : List PanicEntry := [{ v := .iface 76 (.agg #[.int .i64 1, .int .i64 0]), recovered := false }]

/-- How put ends where so many bytes are there then. -/
def putEnd (n : Nat) : Ending := if n ≤ 400 then .returned (.tuple #[]) else .panicked tooLong
theorem putEnd_ok {n : Nat} (h : n ≤ 400) : putEnd n = .returned (.tuple #[]) := by rw [putEnd, if_pos h]
theorem putEnd_no {n : Nat} (h : ¬ n ≤ 400) : putEnd n = .panicked tooLong := by rw [putEnd, if_neg h]

set_option maxRecDepth 100000 in
set_option maxHeartbeats 1600000 in
theorem wput_any (p lo : Nat) (ao : Option Addr) (n cap : Nat) (v : Value) (l : List UInt8) (s : ByteArray) (w : World) (W : Wr w p lo (.slice ao n cap) v l) (hp : p < lo) (hlo : lo ≤ w.heap.size) (hl : l.length ≤ 400) (hs : s.size ≤ 1048576) :
    Calls Tryd.prog 68 #[.pointer (some ⟨p, 0, none⟩), .string s] w fun e w' => Fr p lo w w' ∧ e = putEnd (l.length + s.size) ∧ ∃ v', Wr w' p lo (.slice ao n cap) v' (l ++ s.data.toList) := by
  obtain ⟨hblk, hown⟩ := W
  obtain ⟨i0, hi, hz0, hz1, hz2⟩ := info_parts Tryd.infoU8
  obtain ⟨a2, c2, rfl⟩ := own_form hown
  have hps := (Array.getElem?_eq_some_iff.1 hblk).1
  have c1 : w.cell? ⟨p, 0 + 1, none⟩ = some (.slice a2 l.length c2) := by rw [cell_of_row w _ 1 _ _ _ hblk]; rfl
  go_enter Tryd.func68, Tryd.ntmps68
  go_wp2_with (at_builtin; refine Lib.wpList_append_own_string _ rfl _ _ 22 9 rfl lo 5 i0 Tryd.underlying22 Tryd.underlying9 hi hz0 hz1 hz2 _ _ _ rfl hown s rfl (by unfold maxLen; omega) (by omega) hlo ?_)
  intro v2 w2 own2 hgrow _
  obtain ⟨m, hm⟩ : ∃ m, m = l.length + s.size := ⟨_, rfl⟩
  rw [← hm] at own2
  have hme : (l ++ s.data.toList).length = m := by rw [hm, List.length_append, Array.length_toList]; rfl
  have hne : some p ≠ (Value.slice a2 l.length c2).ownBlock := fun e => by
    have := (hown.lt p e.symm).1
    omega
  have hblk2 : w2.heap[p]? = some (.cells #[.slice ao n cap, .slice a2 l.length c2] 70 (0, 0)) := (hgrow.block p hps hne).trans hblk
  have hF : Fr p lo w w2 := Fr.of_grown hown hgrow
  obtain ⟨a3, c3, rfl⟩ := own_form own2
  have d1 : w2.cell? ⟨p, 0 + 1, none⟩ = some (.slice a2 l.length c2) := by rw [cell_of_row w2 _ 1 _ _ _ hblk2]; rfl
  have f1 : w2.frozen? ⟨p, 0 + 1, none⟩ = false := frozen_of_row w2 _ 1 _ _ hblk2
  have hblk3 := heap_setCell_same w2 p 1 _ _ (.slice a3 m c3) hblk2
  have own3 : (w2.setCell ⟨p, 1, none⟩ (.slice a3 m c3)).ownsRow lo 5 1 (.slice a3 m c3) (l ++ s.data.toList).length (cb (l ++ s.data.toList)) := by
    have := ownsRow_setCell_below own2 (a := ⟨p, 1, none⟩) (by simpa using hp) (.slice a3 m c3)
    rw [cb_append, hme]
    exact this
  have hF3 : Fr p lo w (w2.setCell ⟨p, 1, none⟩ (.slice a3 m c3)) :=
    hF.trans ⟨rfl, rfl, rfl, by simp, fun k _ hk _ => heap_setCell_other w2 ⟨p, 1, none⟩ k _ (by simpa using hk)⟩
  have HE : Hid (putEnd (l.length + s.size) = putEnd m) := by unfold Hid; rw [hm]
  clear hgrow hF c1 hown own2 hm hme
  by_cases hb : m ≤ 400
  · go_wp2
    go_end0
    exact ⟨hF3, by rw [HE.out, putEnd_ok hb], _, hblk3, own3⟩
  · go_wp2
    exact ⟨rfl, hF3, by rw [HE.out, putEnd_no hb]; rfl, _, hblk3, own3⟩
end Go.Proofs.YtmgjefkelohocaaDoor
