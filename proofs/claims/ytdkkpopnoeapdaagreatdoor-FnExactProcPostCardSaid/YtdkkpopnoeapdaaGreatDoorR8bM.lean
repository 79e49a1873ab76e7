/-
  Texts that stood by themselves, laid into one.
-/
import Derived.Test.YtdkkpopnoeapdaaGreatDoorDecM
import Derived.Lib.AppendStr
import Derived.Laws.IdiomStrings
import Derived.Test.YtdkkpopnoeapdaaGreatDoorIGetM
import Derived.Laws.BytesArg
import Derived.Test.YtdkkpopnoeapdaaGreatDoorListOfM
import Derived.Test.YtdkkpopnoeapdaaGreatDoorFormM
/-
  Plain facts on a text's bytes, and the law of a text turned into bytes. Nothing of the program; no condition.
-/
namespace Go.Proofs.YtdkkpopnoeapdaaGreatDoor
open Go.RowKit

/-- A text's bytes. -/
def sb (s : ByteArray) : List Int := s.data.toList.map fun b => (b.toNat : Int)
theorem sb_length (s : ByteArray) : (sb s).length = s.size := by rw [sb, List.length_map, Array.length_toList]; rfl
theorem sb_wf (s : ByteArray) : ∀ z ∈ sb s, 0 ≤ z ∧ z ≤ 255 := by
  intro z hz
  simp only [sb, List.mem_map] at hz
  obtain ⟨b, _, rfl⟩ := hz
  have := b.toNat_lt
  omega
theorem sb_cells (s : ByteArray) : bv (sb s) = Lib.strCells s := by
  simp [bv, sb, Lib.strCells]
/-- What PutText answers. -/
def pt (s : ByteArray) : List Int := encI s.size ++ sb s
theorem pt_length (s : ByteArray) : (pt s).length = (encI s.size).length + s.size := by rw [pt, List.length_append, sb_length]
theorem pt_wf (s : ByteArray) : ∀ z ∈ pt s, 0 ≤ z ∧ z ≤ 255 := by
  intro z hz
  simp only [pt, List.mem_append] at hz
  rcases hz with hz | hz
  · exact encI_wf _ z hz
  · exact sb_wf s z hz

theorem bytesRow_get (s : ByteArray) (cap j : Nat) (u : Value) (h : (bv (sb s))[j]? = some u) : (bytesRow s cap)[j]? = some u := by
  have hj : j < s.data.size := by
    have := (List.getElem?_eq_some_iff.1 h).1
    rw [bv_length, sb_length] at this
    exact this
  unfold bytesRow
  rw [Array.getElem?_append_left (by simpa using hj)]
  simp only [bv, sb, List.map_map, List.getElem?_map, Array.getElem?_toList] at h
  simpa using h

/-- A text turned into bytes: a new row that holds them. -/
theorem wpList_string_bytes {P : Program} (w : World) {ops : Array Oper} {rest : List Oper} {o : Oper} {a : Act} {Q : Exit → Act → World → Prop} (hg : o.guard = none) (x : Operand) (src dst e : TypeId) (ho : o.op = .convert src dst x)
    (hs : P.underlying src = some .string) (hd : P.underlying dst = some (.slice e)) (he : P.underlying e = some (.int .u8)) (s : ByteArray) (hx : a.eval x = .string s)
    (h : ∀ cap w', (∀ j u, (bv (sb s))[j]? = some u → w'.cell? ((⟨w.heap.size, 0, none⟩ : Addr).add j) = some u) → w.grownBy w' none → w.heap.size < w'.heap.size → wpList P ops Q rest (a.put o.dst (.slice (some ⟨w.heap.size, 0, none⟩) s.size cap)) w') :
    wpList P ops Q (o :: rest) a w := by
  refine wpList_plain hg fun K hK => ?_
  obtain ⟨cap, w', hrun, h1, h2, h3⟩ : ∃ cap w', (convert src dst (.string s)).run P w = .ok (.slice (some ⟨w.heap.size, 0, none⟩) s.size cap) w' ∧
      (∀ j u, (bv (sb s))[j]? = some u → w'.cell? ((⟨w.heap.size, 0, none⟩ : Addr).add j) = some u) ∧ w.grownBy w' none ∧ w.heap.size < w'.heap.size := by
    refine ⟨_, _, run_bytes_of_string w src dst e s hs hd he, ?_, ?_, ?_⟩
    · intro j u hu
      rw [Addr.add_lit, Nat.zero_add, cell_of_row _ w.heap.size j _ e _ (heap_alloc_new w.drew _)]
      exact bytesRow_get s _ j u hu
    · have hga := World.grownBy_alloc w.drew (Obj.cells (bytesRow s (grownCap w s.size 0 e)) e ((bytesRow s (grownCap w s.size 0 e)).size, (bytesRow s (grownCap w s.size 0 e)).size + 1)) none
      exact ⟨hga.os, hga.tape, hga.output, hga.size, hga.block⟩
    · show w.heap.size < (w.heap.push _).size
      simp
  unfold Oper.wp
  simp [execOp, ho, hx, hrun, Result.andThen]
  exact hK _ _ (h cap w' h1 h2 h3)

end Go.Proofs.YtdkkpopnoeapdaaGreatDoor

/-
  Plain mathematics of reading a text, and the law of a slice of bytes turned into a text. Nothing of the program; no condition.
-/
namespace Go.Proofs.YtdkkpopnoeapdaaGreatDoor
open Go.RowKit

theorem scan_bounds (f : Nat) (l bs : List Int) (h : scan f l = some bs) : bs.length ≤ f ∧ bs.length ≤ l.length := by
  induction f generalizing l bs with
  | zero => simp [scan] at h
  | succ f ih =>
    cases l with
    | nil => simp [scan] at h
    | cons b l =>
      simp only [scan] at h
      split at h
      · simp at h; subst h; simp
      · simp only [Option.map_eq_some_iff] at h
        obtain ⟨bs', h1, rfl⟩ := h
        have := ih l bs' h1
        simp only [List.length_cons]; omega

theorem gN_ok (zs : List Int) (a n next : Int) (h : gN zs a = (n, next, true)) : 0 ≤ n ∧ n ≤ 9223372036854775807 ∧ 0 ≤ next ∧ next ≤ zs.length := by
  unfold gN at h
  by_cases h0 : a < 0
  · simp [h0] at h
  · simp only [h0, if_false] at h
    cases hs : scan 9 (zs.drop a.toNat) with
    | none => simp [hs] at h
    | some bs =>
      simp only [hs] at h
      have hb := scan_bounds 9 _ bs hs
      have hv := val_bounds bs
      have hl := lim_mono hb.1
      rw [lim_nine] at hl
      by_cases h1 : 1 < bs.length ∧ bs.getLast? = some 0
      · rw [if_pos h1] at h; simp at h
      · rw [if_neg h1] at h
        simp only [Prod.mk.injEq, and_true] at h
        obtain ⟨rfl, rfl⟩ := h
        have hb2 := hb.2
        simp only [List.length_drop] at hb2
        have hpos : 0 < bs.length := by
          rcases Nat.eq_zero_or_pos bs.length with h | h
          · rw [List.eq_nil_of_length_eq_zero h] at hs
            exfalso
            cases hd : zs.drop a.toNat with
            | nil => rw [hd] at hs; simp [scan] at hs
            | cons b l =>
              rw [hd] at hs
              simp only [scan] at hs
              split at hs
              · simp at hs
              · simp at hs
          · exact h
        omega

/-- What GetText answers. -/
def gT (zs : List Int) (a : Int) : ByteArray × Int × Bool :=
  if (gN zs a).2.2 = true ∧ (gN zs a).1 ≤ (zs.length : Int) - (gN zs a).2.1 then
    (strOfNums ((zs.drop (gN zs a).2.1.toNat).take (gN zs a).1.toNat), (gN zs a).2.1 + (gN zs a).1, true)
  else (⟨#[]⟩, 0, false)
abbrev tV (r : ByteArray × Int × Bool) : Value := .tuple #[.string r.1, .int .i64 r.2.1, .bool r.2.2]
theorem gT_no (zs : List Int) (a n next : Int) (ok : Bool) (h : gN zs a = (n, next, ok)) (hn : ok = false ∨ (zs.length : Int) - next < n) : gT zs a = (⟨#[]⟩, 0, false) := by
  unfold gT
  rw [h, if_neg]
  rcases hn with rfl | hn
  · simp
  · intro h; have := h.2; simp only at this; omega
theorem gT_yes (zs : List Int) (a : Int) (n next : Nat) (h : gN zs a = ((n : Int), (next : Int), true)) (hn : (n : Int) ≤ (zs.length : Int) - next) : gT zs a = (strOfNums ((zs.drop next).take n), (next : Int) + n, true) := by
  unfold gT
  rw [h, if_pos ⟨rfl, hn⟩]
  simp

theorem gT_false (zs : List Int) (a : Int) (h : (gT zs a).2.2 = false) : gT zs a = (⟨#[]⟩, 0, false) := by
  unfold gT at h ⊢
  split at h
  · simp at h
  · rename_i h1; rw [if_neg h1]
theorem cut_cell {w : World} {g o : Nat} {zs : List Int} (hcell : ∀ i, i < zs.length → w.cell? ⟨g, o + i, none⟩ = some (.int .u8 (zs.getD i 0))) (next n : Nat) (hle : next + n ≤ zs.length) (i : Nat) (hi : i < n) :
    w.cell? ⟨g, o + next + i, none⟩ = some (.int .u8 (((zs.drop next).take n).getD i 0)) := by
  rw [Nat.add_assoc, hcell (next + i) (by omega)]
  simp only [List.getD_eq_getElem?_getD, List.getElem?_take, List.getElem?_drop]
  rw [if_pos hi]
theorem cut_length (zs : List Int) (next n : Nat) (hle : next + n ≤ zs.length) : ((zs.drop next).take n).length = n := by
  simp only [List.length_take, List.length_drop]; omega
/-- Where the bytes of a cut of a slice lie. -/
theorem cut_cells {w : World} {ao : Option Addr} {cap : Nat} {zs : List Int} (hcell : zs ≠ [] → ∃ g o, ao = some ⟨g, o, none⟩ ∧ g < w.heap.size ∧ ∀ i, i < zs.length → w.cell? ⟨g, o + i, none⟩ = some (.int .u8 (zs.getD i 0)))
    (next n : Nat) (hle : next + n ≤ zs.length) (hcap : zs.length ≤ cap) :
    n ≠ 0 → ∃ g o', (if cap = next then ao else ao.map (·.add next)) = some ⟨g, o', none⟩ ∧ ∀ i, i < n → w.cell? ⟨g, o' + i, none⟩ = some (.int .u8 (((zs.drop next).take n).getD i 0)) := by
  intro hn
  obtain ⟨g, o, rfl, _, hc⟩ := hcell (by intro e; subst e; simp at hle; omega)
  rw [if_neg (by omega)]
  exact ⟨g, o + next, by simp [Addr.add_lit], cut_cell hc next n hle⟩

/-- A slice of bytes turned into a text. -/
theorem wpList_bytes_string {P : Program} (w : World) {ops : Array Oper} {rest : List Oper} {o : Oper} {a : Act} {Q : Exit → Act → World → Prop} (hg : o.guard = none) (x : Operand) (src dst e : TypeId) (ho : o.op = .convert src dst x)
    (hs : P.underlying src = some (.slice e)) (hd : P.underlying dst = some .string) (he : P.underlying e = some (.int .u8)) (ao : Option Addr) (n c : Nat) (xs : List Int) (hx : a.eval x = .slice ao n c) (hl : xs.length = n)
    (hc : n ≠ 0 → ∃ g o', ao = some ⟨g, o', none⟩ ∧ ∀ i, i < n → w.cell? ⟨g, o' + i, none⟩ = some (.int .u8 (xs.getD i 0)))
    (h : wpList P ops Q rest (a.put o.dst (.string (strOfNums xs))) w) : wpList P ops Q (o :: rest) a w := by
  refine wpList_plain hg fun K hK => ?_
  have hrun : (convert src dst (.slice ao n c)).run P w = .ok (.string (strOfNums xs)) w := by
    by_cases h0 : n = 0
    · subst h0
      have : xs = [] := List.eq_nil_of_length_eq_zero hl
      subst this
      cases ao with
      | none => exact run_convert_bytes_nil w src e hs he 0 c dst hd
      | some ad => exact run_convert_bytes_back w src dst e ad c [] hs he hd (fun j hj => absurd hj (by simp))
    · obtain ⟨g, o', rfl, hcell⟩ := hc h0
      exact run_convert_bytes_arg w src e hs he g o' n c xs hl hcell dst hd
  unfold Oper.wp
  simp [execOp, ho, hx, hrun, Result.andThen]
  exact hK _ _ h

end Go.Proofs.YtdkkpopnoeapdaaGreatDoor

/-
  How nodes are written as bytes: plain mathematics. Nothing of the program; no condition.
-/
namespace Go.Proofs.YtdkkpopnoeapdaaGreatDoor
open Go.RowKit

/-- What is written of a node behind its kind. -/
def wireB (x : Nd) : List Int :=
  if x.k = 2 ∨ x.k = 8 ∨ x.k = 9 then encI x.n else if x.k = 3 then encI (x.n + 1000000000) else if x.k = 4 then pt x.s
  else if x.k = 5 then encI x.a ++ encI x.b else if x.k = 6 then encI x.n ++ encI x.a else if x.k = 7 then encI x.a else []
def wireN (x : Nd) : List Int := encI x.k ++ wireB x
def wireL (xs : List Nd) : List Int := encI xs.length ++ xs.flatMap wireN

/-- A node within bounds. -/
def NdOk (x : Nd) : Prop := (1 ≤ x.k ∧ x.k ≤ 9) ∧ (-1000000000 ≤ x.n ∧ x.n ≤ 1000000000) ∧ x.s.size ≤ 12 ∧ (x.a ≤ 3000 ∧ x.b ≤ 3000)
theorem ndok_of {x : Nd} {i : Int} (h : nodeB x i = true) (hle : i ≤ 3000) : NdOk x := by
  have hlo : -1000000000 ≤ lo x.k := by unfold lo; split <;> decide
  have hhi : hi x.k ≤ 1000000000 := by
    unfold hi
    split
    · decide
    · split
      · decide
      · split <;> decide
  simp only [nodeB, Bool.and_eq_true, decide_eq_true_eq] at h
  obtain ⟨⟨⟨⟨h1, h2⟩, h3⟩, h4⟩, ⟨h5, h6⟩, h7⟩ := h
  refine ⟨⟨h1, h2⟩, ⟨by omega, by omega⟩, ?_, ?_, ?_⟩
  · unfold nameFB at h5
    split at h5
    · simp only [nameB, Bool.and_eq_true, decide_eq_true_eq] at h5
      exact h5.1.2
    · have e : x.s.toList = [] := by simpa using h5
      rw [ByteArray.toList_eq] at e
      have : x.s.size = 0 := by
        rw [show x.s.size = x.s.data.toList.length by rw [Array.length_toList]; rfl, e]; rfl
      omega
  · unfold partB at h6
    split at h6
    · simp only [Bool.and_eq_true, decide_eq_true_eq] at h6; omega
    · have : x.a = 0 := by simpa using h6
      omega
  · unfold partB at h7
    split at h7
    · simp only [Bool.and_eq_true, decide_eq_true_eq] at h7; omega
    · have : x.b = 0 := by simpa using h7
      omega
theorem pool_ndok {xs : List Nd} (h : poolB xs = true) : ∀ x ∈ xs, NdOk x := by
  intro x hx
  obtain ⟨i, hi⟩ := List.getElem?_of_mem hx
  have hl : i < xs.length := (List.getElem?_eq_some_iff.1 hi).1
  have hm : xs.length ≤ 3000 := by simp only [poolB, Bool.and_eq_true, decide_eq_true_eq] at h; exact h.1
  exact ndok_of (poolB_at h hi) (by omega)

theorem wireB_len (x : Nd) (h : x.s.size ≤ 12) : (wireB x).length ≤ 21 := by
  have e := encI_length
  unfold wireB
  split
  · have := e x.n; omega
  · split
    · have := e (x.n + 1000000000); omega
    · split
      · rw [pt_length]; have := e x.s.size; omega
      · split
        · rw [List.length_append]; have := e x.a; have := e x.b; omega
        · split
          · rw [List.length_append]; have := e x.n; have := e x.a; omega
          · split
            · have := e x.a; omega
            · simp
theorem wireN_len (x : Nd) (h : x.s.size ≤ 12) : (wireN x).length ≤ 30 := by
  have := wireB_len x h
  have := encI_length x.k
  unfold wireN
  rw [List.length_append]
  omega
theorem wires_len (xs : List Nd) (h : ∀ x ∈ xs, NdOk x) : (xs.flatMap wireN).length ≤ 30 * xs.length := by
  induction xs with
  | nil => simp
  | cons x xs ih =>
    have h1 := wireN_len x (h x List.mem_cons_self).2.2.1
    have h2 := ih (fun y hy => h y (List.mem_cons_of_mem _ hy))
    rw [List.flatMap_cons, List.length_append, List.length_cons]
    omega
theorem wireB_wf (x : Nd) : ∀ z ∈ wireB x, 0 ≤ z ∧ z ≤ 255 := by
  intro z hz
  unfold wireB at hz
  split at hz
  · exact encI_wf _ z hz
  · split at hz
    · exact encI_wf _ z hz
    · split at hz
      · exact pt_wf _ z hz
      · split at hz
        · rcases List.mem_append.1 hz with h | h <;> exact encI_wf _ z h
        · split at hz
          · rcases List.mem_append.1 hz with h | h <;> exact encI_wf _ z h
          · split at hz
            · exact encI_wf _ z hz
            · simp at hz
theorem wires_wf (xs : List Nd) : ∀ z ∈ xs.flatMap wireN, 0 ≤ z ∧ z ≤ 255 := by
  intro z hz
  obtain ⟨x, _, h⟩ := List.mem_flatMap.1 hz
  unfold wireN at h
  rcases List.mem_append.1 h with h | h
  · exact encI_wf _ z h
  · exact wireB_wf x z h
theorem wireL_wf (xs : List Nd) : ∀ z ∈ wireL xs, 0 ≤ z ∧ z ≤ 255 := by
  intro z hz
  unfold wireL at hz
  rcases List.mem_append.1 hz with h | h
  · exact encI_wf _ z h
  · exact wires_wf xs z h
theorem wires_take (xs : List Nd) (k : Nat) (x : Nd) (h : xs[k]? = some x) : (xs.take (k + 1)).flatMap wireN = (xs.take k).flatMap wireN ++ wireN x := by
  rw [List.take_add_one, h]; simp
end Go.Proofs.YtdkkpopnoeapdaaGreatDoor

/-
  How nodes are read from bytes, and that what is read stands there in just the bytes that it is written in: plain mathematics. Nothing of the program; no condition.
-/
namespace Go.Proofs.YtdkkpopnoeapdaaGreatDoor
open Go.RowKit

/-- The bytes L stand from the place a on; behind them is the place b. -/
def Lies (zs : List Int) (a : Int) (L : List Int) (b : Int) : Prop := 0 ≤ a ∧ b = a + L.length ∧ ∃ rest, zs.drop a.toNat = L ++ rest
theorem Lies.append {zs L M : List Int} {a b c : Int} (h : Lies zs a L b) (k : Lies zs b M c) : Lies zs a (L ++ M) c := by
  obtain ⟨h1, h2, r, h3⟩ := h
  obtain ⟨k1, k2, t, k3⟩ := k
  refine ⟨h1, by rw [k2, h2]; simp; omega, t, ?_⟩
  have e : b.toNat = a.toNat + L.length := by omega
  rw [e, ← List.drop_drop, h3, List.drop_left] at k3
  rw [h3, k3, List.append_assoc]
theorem Lies.nil {zs : List Int} {a : Int} (h : 0 ≤ a) : Lies zs a [] a := ⟨h, by simp, _, rfl⟩
theorem sb_str {l : List Int} (h : ∀ z ∈ l, 0 ≤ z ∧ z ≤ 255) : sb (strOfNums l) = l := by
  unfold sb strOfNums
  simp only [List.map_map]
  conv => rhs; rw [← List.map_id l]
  apply List.map_congr_left
  intro z hz
  have := h z hz
  simp only [Function.comp, id]
  rw [UInt8.toNat_ofNat']
  omega
theorem gT_lies {zs : List Int} {a next : Int} {s : ByteArray} (hz : ∀ z ∈ zs, 0 ≤ z ∧ z ≤ 255) (h : gT zs a = (s, next, true)) : Lies zs a (pt s) next := by
  unfold gT at h
  split at h
  · rename_i hc
    obtain ⟨h1, h2⟩ := hc
    have hg : gN zs a = ((gN zs a).1, (gN zs a).2.1, true) := by rw [← h1]
    obtain ⟨g1, g2, g3, r, g4⟩ := gN_bytes hz hg
    generalize (gN zs a).1 = n at *
    generalize (gN zs a).2.1 = m at *
    cases h
    have hm : 0 ≤ m := by omega
    have hlen : ((zs.drop m.toNat).take n.toNat).length = n.toNat := by rw [List.length_take, List.length_drop]; omega
    have hsb : sb (strOfNums ((zs.drop m.toNat).take n.toNat)) = (zs.drop m.toNat).take n.toNat := sb_str (fun z h => hz z (List.mem_of_mem_drop (List.mem_of_mem_take h)))
    have hsz : ((strOfNums ((zs.drop m.toNat).take n.toNat)).size : Int) = n := by
      have := congrArg List.length hsb
      rw [sb_length, hlen] at this
      omega
    have L1 : Lies zs a (encI n) m := ⟨g1, g3, r, g4⟩
    have L2 : Lies zs m ((zs.drop m.toNat).take n.toNat) (m + n) := ⟨hm, by rw [hlen]; omega, (zs.drop m.toNat).drop n.toNat, (List.take_append_drop _ _).symm⟩
    have := L1.append L2
    unfold pt
    rw [hsz, hsb]
    exact this
  · cases h

/-- One number; one node's fields; one node; so many nodes. -/
def rd1 (zs : List Int) (a : Int) : Option (Int × Int) := if (gN zs a).2.2 then some ((gN zs a).1, (gN zs a).2.1) else none
def rdB (zs : List Int) (k a : Int) : Option (Nd × Int) :=
  if k = 1 then some (⟨1, 0, ByteArray.empty, 0, 0⟩, a)
  else if k = 2 ∨ k = 8 ∨ k = 9 then (rd1 zs a).map fun p => (⟨k, p.1, ByteArray.empty, 0, 0⟩, p.2)
  else if k = 3 then (rd1 zs a).map fun p => (⟨3, p.1 - 1000000000, ByteArray.empty, 0, 0⟩, p.2)
  else if k = 4 then (if (gT zs a).2.2 then some (⟨4, 0, (gT zs a).1, 0, 0⟩, (gT zs a).2.1) else none)
  else if k = 5 then (rd1 zs a).bind fun p => (rd1 zs p.2).map fun q => (⟨5, 0, ByteArray.empty, p.1, q.1⟩, q.2)
  else if k = 6 then (rd1 zs a).bind fun p => (rd1 zs p.2).map fun q => (⟨6, p.1, ByteArray.empty, q.1, 0⟩, q.2)
  else if k = 7 then (rd1 zs a).map fun p => (⟨7, 0, ByteArray.empty, p.1, 0⟩, p.2)
  else none
def rdNd (zs : List Int) (a : Int) : Option (Nd × Int) := (rd1 zs a).bind fun p => rdB zs p.1 p.2
def rdNds (zs : List Int) : Nat → Int → Option (List Nd × Int)
  | 0, a => some ([], a)
  | n + 1, a => (rdNd zs a).bind fun p => (rdNds zs n p.2).map fun q => (p.1 :: q.1, q.2)

theorem rd1_lies {zs : List Int} {a x b : Int} (hz : ∀ z ∈ zs, 0 ≤ z ∧ z ≤ 255) (h : rd1 zs a = some (x, b)) : Lies zs a (encI x) b ∧ 0 ≤ x := by
  unfold rd1 at h
  split at h
  · rename_i h1
    cases h
    have hg : gN zs a = ((gN zs a).1, (gN zs a).2.1, true) := by rw [← h1]
    obtain ⟨g1, g2, g3, g4⟩ := gN_bytes hz hg
    exact ⟨⟨g1, g3, g4⟩, g2⟩
  · cases h
theorem rdB_lies {zs : List Int} {k a b : Int} {x : Nd} (hz : ∀ z ∈ zs, 0 ≤ z ∧ z ≤ 255) (ha : 0 ≤ a) (h : rdB zs k a = some (x, b)) : Lies zs a (wireB x) b ∧ x.k = k := by
  unfold rdB at h
  split at h
  · rename_i hk; subst hk
    cases h
    exact ⟨Lies.nil ha, rfl⟩
  split at h
  · rename_i hk
    rw [Option.map_eq_some_iff] at h
    obtain ⟨⟨n, c⟩, h1, h2⟩ := h
    cases h2
    refine ⟨?_, rfl⟩
    unfold wireB
    rw [if_pos hk]
    exact (rd1_lies hz h1).1
  rename_i hk1 hk2
  split at h
  · rename_i hk; subst hk
    rw [Option.map_eq_some_iff] at h
    obtain ⟨⟨n, c⟩, h1, h2⟩ := h
    cases h2
    refine ⟨?_, rfl⟩
    show Lies zs a (encI (n - 1000000000 + 1000000000)) c
    rw [show n - 1000000000 + 1000000000 = n by omega]
    exact (rd1_lies hz h1).1
  split at h
  · rename_i hk; subst hk
    split at h
    · rename_i hg
      cases h
      refine ⟨?_, rfl⟩
      have e : gT zs a = ((gT zs a).1, (gT zs a).2.1, true) := by rw [← hg]
      exact gT_lies hz e
    · cases h
  split at h
  · rename_i hk; subst hk
    rw [Option.bind_eq_some_iff] at h
    obtain ⟨⟨n, c⟩, h1, h2⟩ := h
    rw [Option.map_eq_some_iff] at h2
    obtain ⟨⟨m, d⟩, h3, h4⟩ := h2
    cases h4
    exact ⟨(rd1_lies hz h1).1.append (rd1_lies hz h3).1, rfl⟩
  split at h
  · rename_i hk; subst hk
    rw [Option.bind_eq_some_iff] at h
    obtain ⟨⟨n, c⟩, h1, h2⟩ := h
    rw [Option.map_eq_some_iff] at h2
    obtain ⟨⟨m, d⟩, h3, h4⟩ := h2
    cases h4
    exact ⟨(rd1_lies hz h1).1.append (rd1_lies hz h3).1, rfl⟩
  split at h
  · rename_i hk; subst hk
    rw [Option.map_eq_some_iff] at h
    obtain ⟨⟨n, c⟩, h1, h2⟩ := h
    cases h2
    exact ⟨(rd1_lies hz h1).1, rfl⟩
  · cases h
theorem rdNd_lies {zs : List Int} {a b : Int} {x : Nd} (hz : ∀ z ∈ zs, 0 ≤ z ∧ z ≤ 255) (h : rdNd zs a = some (x, b)) : Lies zs a (wireN x) b := by
  unfold rdNd at h
  rw [Option.bind_eq_some_iff] at h
  obtain ⟨⟨k, c⟩, h1, h2⟩ := h
  obtain ⟨l1, _⟩ := rd1_lies hz h1
  obtain ⟨l2, hk⟩ := rdB_lies hz (by have := l1.1; have := l1.2.1; omega) h2
  unfold wireN
  rw [hk]
  exact l1.append l2
theorem rdNds_lies {zs : List Int} (hz : ∀ z ∈ zs, 0 ≤ z ∧ z ≤ 255) : ∀ (n : Nat) (a b : Int) (xs : List Nd), 0 ≤ a → rdNds zs n a = some (xs, b) → Lies zs a (xs.flatMap wireN) b ∧ xs.length = n
  | 0, a, b, xs, ha, h => by cases h; exact ⟨Lies.nil ha, rfl⟩
  | n + 1, a, b, xs, ha, h => by
    rw [rdNds, Option.bind_eq_some_iff] at h
    obtain ⟨⟨x, c⟩, h1, h2⟩ := h
    rw [Option.map_eq_some_iff] at h2
    obtain ⟨⟨ys, d⟩, h3, h4⟩ := h2
    cases h4
    have l1 := rdNd_lies hz h1
    obtain ⟨l2, hl⟩ := rdNds_lies hz n c d ys (by have := l1.1; have := l1.2.1; omega) h3
    exact ⟨l1.append l2, by simp [hl]⟩
end Go.Proofs.YtdkkpopnoeapdaaGreatDoor
