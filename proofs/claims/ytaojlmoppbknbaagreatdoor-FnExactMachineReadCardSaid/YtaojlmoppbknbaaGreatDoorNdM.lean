/-
  Texts that stood by themselves, laid into one.
-/
import Derived.Test.YtaojlmoppbknbaaGreatDoorSGetM
import Derived.Lib.AppendStr
import Derived.Laws.IdiomStrings
import Derived.Test.YtaojlmoppbknbaaGreatDoorIGetM
import Derived.Laws.BytesArg
import Derived.Laws.CopyOwn
import Derived.Below
import Derived.Deep.MidRow
/-
  Plain facts on a text's bytes, and the law of a text turned into bytes. Nothing of the program; no condition.
-/
namespace Go.Proofs.YtaojlmoppbknbaaGreatDoor
open Go.RowKit

/-- A text's bytes. -/
def sb (s : ByteArray) : List Int := s.data.toList.map fun b => (b.toNat : Int)
theorem sb_length (s : ByteArray) : (sb s).length = s.size := by rw [sb, List.length_map, Array.length_toList]; rfl
theorem sb_wf (s : ByteArray) : ∀ z ∈ sb s, 0 ≤ z ∧ z ≤ 255 := by
  intro z hz
  simp only [sb, List.mem_map] at hz
  obtain ⟨b, _, rfl⟩ := hz
  have := b.toNat_lt
  omega
theorem sb_cells (s : ByteArray) : bv (sb s) = Lib.strCells s := by
  simp [bv, sb, Lib.strCells]
/-- What PutText answers. -/
def pt (s : ByteArray) : List Int := encI s.size ++ sb s
theorem pt_length (s : ByteArray) : (pt s).length = (encI s.size).length + s.size := by rw [pt, List.length_append, sb_length]
theorem pt_wf (s : ByteArray) : ∀ z ∈ pt s, 0 ≤ z ∧ z ≤ 255 := by
  intro z hz
  simp only [pt, List.mem_append] at hz
  rcases hz with hz | hz
  · exact encI_wf _ z hz
  · exact sb_wf s z hz

theorem bytesRow_get (s : ByteArray) (cap j : Nat) (u : Value) (h : (bv (sb s))[j]? = some u) : (bytesRow s cap)[j]? = some u := by
  have hj : j < s.data.size := by
    have := (List.getElem?_eq_some_iff.1 h).1
    rw [bv_length, sb_length] at this
    exact this
  unfold bytesRow
  rw [Array.getElem?_append_left (by simpa using hj)]
  simp only [bv, sb, List.map_map, List.getElem?_map, Array.getElem?_toList] at h
  simpa using h

/-- A text turned into bytes: a new row that holds them. -/
theorem wpList_string_bytes {P : Program} (w : World) {ops : Array Oper} {rest : List Oper} {o : Oper} {a : Act} {Q : Exit → Act → World → Prop} (hg : o.guard = none) (x : Operand) (src dst e : TypeId) (ho : o.op = .convert src dst x)
    (hs : P.underlying src = some .string) (hd : P.underlying dst = some (.slice e)) (he : P.underlying e = some (.int .u8)) (s : ByteArray) (hx : a.eval x = .string s)
    (h : ∀ cap w', (∀ j u, (bv (sb s))[j]? = some u → w'.cell? ((⟨w.heap.size, 0, none⟩ : Addr).add j) = some u) → w.grownBy w' none → w.heap.size < w'.heap.size → wpList P ops Q rest (a.put o.dst (.slice (some ⟨w.heap.size, 0, none⟩) s.size cap)) w') :
    wpList P ops Q (o :: rest) a w := by
  refine wpList_plain hg fun K hK => ?_
  obtain ⟨cap, w', hrun, h1, h2, h3⟩ : ∃ cap w', (convert src dst (.string s)).run P w = .ok (.slice (some ⟨w.heap.size, 0, none⟩) s.size cap) w' ∧
      (∀ j u, (bv (sb s))[j]? = some u → w'.cell? ((⟨w.heap.size, 0, none⟩ : Addr).add j) = some u) ∧ w.grownBy w' none ∧ w.heap.size < w'.heap.size := by
    refine ⟨_, _, run_bytes_of_string w src dst e s hs hd he, ?_, ?_, ?_⟩
    · intro j u hu
      rw [Addr.add_lit, Nat.zero_add, cell_of_row _ w.heap.size j _ e _ (heap_alloc_new w.drew _)]
      exact bytesRow_get s _ j u hu
    · have hga := World.grownBy_alloc w.drew (Obj.cells (bytesRow s (grownCap w s.size 0 e)) e ((bytesRow s (grownCap w s.size 0 e)).size, (bytesRow s (grownCap w s.size 0 e)).size + 1)) none
      exact ⟨hga.os, hga.tape, hga.output, hga.size, hga.block⟩
    · show w.heap.size < (w.heap.push _).size
      simp
  unfold Oper.wp
  simp [execOp, ho, hx, hrun, Result.andThen]
  exact hK _ _ (h cap w' h1 h2 h3)

end Go.Proofs.YtaojlmoppbknbaaGreatDoor

/-
  Plain mathematics of reading a text, and the law of a slice of bytes turned into a text. Nothing of the program; no condition.
-/
namespace Go.Proofs.YtaojlmoppbknbaaGreatDoor
open Go.RowKit

theorem scan_bounds (f : Nat) (l bs : List Int) (h : scan f l = some bs) : bs.length ≤ f ∧ bs.length ≤ l.length := by
  induction f generalizing l bs with
  | zero => simp [scan] at h
  | succ f ih =>
    cases l with
    | nil => simp [scan] at h
    | cons b l =>
      simp only [scan] at h
      split at h
      · simp at h; subst h; simp
      · simp only [Option.map_eq_some_iff] at h
        obtain ⟨bs', h1, rfl⟩ := h
        have := ih l bs' h1
        simp only [List.length_cons]; omega

theorem gN_ok (zs : List Int) (a n next : Int) (h : gN zs a = (n, next, true)) : 0 ≤ n ∧ n ≤ 9223372036854775807 ∧ 0 ≤ next ∧ next ≤ zs.length := by
  unfold gN at h
  by_cases h0 : a < 0
  · simp [h0] at h
  · simp only [h0, if_false] at h
    cases hs : scan 9 (zs.drop a.toNat) with
    | none => simp [hs] at h
    | some bs =>
      simp only [hs] at h
      have hb := scan_bounds 9 _ bs hs
      have hv := val_bounds bs
      have hl := lim_mono hb.1
      rw [lim_nine] at hl
      by_cases h1 : 1 < bs.length ∧ bs.getLast? = some 0
      · rw [if_pos h1] at h; simp at h
      · rw [if_neg h1] at h
        simp only [Prod.mk.injEq, and_true] at h
        obtain ⟨rfl, rfl⟩ := h
        have hb2 := hb.2
        simp only [List.length_drop] at hb2
        have hpos : 0 < bs.length := by
          rcases Nat.eq_zero_or_pos bs.length with h | h
          · rw [List.eq_nil_of_length_eq_zero h] at hs
            exfalso
            cases hd : zs.drop a.toNat with
            | nil => rw [hd] at hs; simp [scan] at hs
            | cons b l =>
              rw [hd] at hs
              simp only [scan] at hs
              split at hs
              · simp at hs
              · simp at hs
          · exact h
        omega

/-- What GetText answers. -/
def gT (zs : List Int) (a : Int) : ByteArray × Int × Bool :=
  if (gN zs a).2.2 = true ∧ (gN zs a).1 ≤ (zs.length : Int) - (gN zs a).2.1 then
    (strOfNums ((zs.drop (gN zs a).2.1.toNat).take (gN zs a).1.toNat), (gN zs a).2.1 + (gN zs a).1, true)
  else (⟨#[]⟩, 0, false)
abbrev tV (r : ByteArray × Int × Bool) : Value := .tuple #[.string r.1, .int .i64 r.2.1, .bool r.2.2]
theorem gT_no (zs : List Int) (a n next : Int) (ok : Bool) (h : gN zs a = (n, next, ok)) (hn : ok = false ∨ (zs.length : Int) - next < n) : gT zs a = (⟨#[]⟩, 0, false) := by
  unfold gT
  rw [h, if_neg]
  rcases hn with rfl | hn
  · simp
  · intro h; have := h.2; simp only at this; omega
theorem gT_yes (zs : List Int) (a : Int) (n next : Nat) (h : gN zs a = ((n : Int), (next : Int), true)) (hn : (n : Int) ≤ (zs.length : Int) - next) : gT zs a = (strOfNums ((zs.drop next).take n), (next : Int) + n, true) := by
  unfold gT
  rw [h, if_pos ⟨rfl, hn⟩]
  simp

theorem gT_false (zs : List Int) (a : Int) (h : (gT zs a).2.2 = false) : gT zs a = (⟨#[]⟩, 0, false) := by
  unfold gT at h ⊢
  split at h
  · simp at h
  · rename_i h1; rw [if_neg h1]
theorem cut_cell {w : World} {g o : Nat} {zs : List Int} (hcell : ∀ i, i < zs.length → w.cell? ⟨g, o + i, none⟩ = some (.int .u8 (zs.getD i 0))) (next n : Nat) (hle : next + n ≤ zs.length) (i : Nat) (hi : i < n) :
    w.cell? ⟨g, o + next + i, none⟩ = some (.int .u8 (((zs.drop next).take n).getD i 0)) := by
  rw [Nat.add_assoc, hcell (next + i) (by omega)]
  simp only [List.getD_eq_getElem?_getD, List.getElem?_take, List.getElem?_drop]
  rw [if_pos hi]
theorem cut_length (zs : List Int) (next n : Nat) (hle : next + n ≤ zs.length) : ((zs.drop next).take n).length = n := by
  simp only [List.length_take, List.length_drop]; omega
/-- Where the bytes of a cut of a slice lie. -/
theorem cut_cells {w : World} {ao : Option Addr} {cap : Nat} {zs : List Int} (hcell : zs ≠ [] → ∃ g o, ao = some ⟨g, o, none⟩ ∧ g < w.heap.size ∧ ∀ i, i < zs.length → w.cell? ⟨g, o + i, none⟩ = some (.int .u8 (zs.getD i 0)))
    (next n : Nat) (hle : next + n ≤ zs.length) (hcap : zs.length ≤ cap) :
    n ≠ 0 → ∃ g o', (if cap = next then ao else ao.map (·.add next)) = some ⟨g, o', none⟩ ∧ ∀ i, i < n → w.cell? ⟨g, o' + i, none⟩ = some (.int .u8 (((zs.drop next).take n).getD i 0)) := by
  intro hn
  obtain ⟨g, o, rfl, _, hc⟩ := hcell (by intro e; subst e; simp at hle; omega)
  rw [if_neg (by omega)]
  exact ⟨g, o + next, by simp [Addr.add_lit], cut_cell hc next n hle⟩

/-- A slice of bytes turned into a text. -/
theorem wpList_bytes_string {P : Program} (w : World) {ops : Array Oper} {rest : List Oper} {o : Oper} {a : Act} {Q : Exit → Act → World → Prop} (hg : o.guard = none) (x : Operand) (src dst e : TypeId) (ho : o.op = .convert src dst x)
    (hs : P.underlying src = some (.slice e)) (hd : P.underlying dst = some .string) (he : P.underlying e = some (.int .u8)) (ao : Option Addr) (n c : Nat) (xs : List Int) (hx : a.eval x = .slice ao n c) (hl : xs.length = n)
    (hc : n ≠ 0 → ∃ g o', ao = some ⟨g, o', none⟩ ∧ ∀ i, i < n → w.cell? ⟨g, o' + i, none⟩ = some (.int .u8 (xs.getD i 0)))
    (h : wpList P ops Q rest (a.put o.dst (.string (strOfNums xs))) w) : wpList P ops Q (o :: rest) a w := by
  refine wpList_plain hg fun K hK => ?_
  have hrun : (convert src dst (.slice ao n c)).run P w = .ok (.string (strOfNums xs)) w := by
    by_cases h0 : n = 0
    · subst h0
      have : xs = [] := List.eq_nil_of_length_eq_zero hl
      subst this
      cases ao with
      | none => exact run_convert_bytes_nil w src e hs he 0 c dst hd
      | some ad => exact run_convert_bytes_back w src dst e ad c [] hs he hd (fun j hj => absurd hj (by simp))
    · obtain ⟨g, o', rfl, hcell⟩ := hc h0
      exact run_convert_bytes_arg w src e hs he g o' n c xs hl hcell dst hd
  unfold Oper.wp
  simp [execOp, ho, hx, hrun, Result.andThen]
  exact hK _ _ h

end Go.Proofs.YtaojlmoppbknbaaGreatDoor

/-
  Helpers: a node as five cells, a slice of nodes read as a list, and when a node and a pool are right. Nothing of the program is proved here; no condition.
-/
namespace Go.Proofs.YtaojlmoppbknbaaGreatDoor
open Go.RowKit

/-- A node: kind, number, name, and two parts. -/
structure Nd where
  k : Int
  n : Int
  s : ByteArray
  a : Int
  b : Int

def Nd.cs (x : Nd) : List Value := [.int .i64 x.k, .int .i64 x.n, .string x.s, .int .i64 x.a, .int .i64 x.b]
def ncs (xs : List Nd) : List Value := xs.flatMap Nd.cs

theorem ncs_nil : ncs [] = [] := rfl
theorem ncs_cons (x : Nd) (xs : List Nd) : ncs (x :: xs) = x.cs ++ ncs xs := rfl
theorem ncs_append (a b : List Nd) : ncs (a ++ b) = ncs a ++ ncs b := by simp [ncs]
theorem ncs_length (xs : List Nd) : (ncs xs).length = xs.length * 5 := by
  induction xs with
  | nil => rfl
  | cons x xs ih => rw [ncs_cons, List.length_append, ih, List.length_cons]; simp [Nd.cs]; omega
theorem ncs_get (xs : List Nd) (i : Nat) (x : Nd) (h : xs[i]? = some x) (j : Nat) (hj : j < 5) : (ncs xs)[i * 5 + j]? = x.cs[j]? := by
  induction xs generalizing i with
  | nil => simp at h
  | cons y ys ih =>
    rw [ncs_cons]
    cases i with
    | zero =>
      simp at h; subst h
      rw [Nat.zero_mul, Nat.zero_add, List.getElem?_append_left (by simpa [Nd.cs] using hj)]
    | succ i =>
      rw [List.getElem?_append_right (by simp [Nd.cs]; omega)]
      rw [show (i + 1) * 5 + j - y.cs.length = i * 5 + j by simp [Nd.cs]; omega]
      exact ih i (by simpa using h)

theorem ncs_set (xs : List Nd) (i : Nat) (x x' : Nd) (h : xs[i]? = some x) (j : Nat) (hj : j < 5) (u : Value) (e : x.cs.set j u = x'.cs) : (ncs xs).set (i * 5 + j) u = ncs (xs.set i x') := by
  induction xs generalizing i with
  | nil => simp at h
  | cons y ys ih =>
    rw [ncs_cons]
    cases i with
    | zero =>
      simp at h; subst h
      rw [Nat.zero_mul, Nat.zero_add, List.set_append_left _ _ (by simpa [Nd.cs] using hj), e]
      rfl
    | succ i =>
      rw [List.set_append_right _ _ (by simp [Nd.cs]; omega)]
      rw [show (i + 1) * 5 + j - y.cs.length = i * 5 + j by simp [Nd.cs]; omega, ih i (by simpa using h)]
      rfl
theorem ncs_set0 (xs : List Nd) (i : Nat) (x x' : Nd) (h : xs[i]? = some x) (u : Value) (e : x.cs.set 0 u = x'.cs) : (ncs xs).set (i * 5) u = ncs (xs.set i x') :=
  ncs_set xs i x x' h 0 (by omega) u e
theorem Nd.one (x : Nd) : ∀ u ∈ x.cs, u.oneCell' = true := by
  intro u hu
  simp only [Nd.cs, List.mem_cons, List.not_mem_nil, or_false] at hu
  rcases hu with rfl | rfl | rfl | rfl | rfl <;> rfl
theorem ncs_one (xs : List Nd) : ∀ u ∈ ncs xs, u.oneCell' = true := by
  intro u hu
  simp only [ncs, List.mem_flatMap] at hu
  obtain ⟨x, _, hx⟩ := hu
  exact x.one u hx

/-- The five cells of x from the place o of block g on. -/
def NAt (w : World) (g o : Nat) (x : Nd) : Prop :=
  w.cell? ⟨g, o, none⟩ = some (.int .i64 x.k) ∧ w.cell? ⟨g, o + 1, none⟩ = some (.int .i64 x.n) ∧ w.cell? ⟨g, o + 2, none⟩ = some (.string x.s) ∧
    w.cell? ⟨g, o + 3, none⟩ = some (.int .i64 x.a) ∧ w.cell? ⟨g, o + 4, none⟩ = some (.int .i64 x.b)

theorem NAt.below {w w' : World} {g o B : Nat} {x : Nd} (h : NAt w g o x) (hb : Below B w w') (hg : g < B) : NAt w' g o x :=
  ⟨(hb.cell (p := ⟨g, o, none⟩) hg).trans h.1, (hb.cell (p := ⟨g, o + 1, none⟩) hg).trans h.2.1, (hb.cell (p := ⟨g, o + 2, none⟩) hg).trans h.2.2.1,
    (hb.cell (p := ⟨g, o + 3, none⟩) hg).trans h.2.2.2.1, (hb.cell (p := ⟨g, o + 4, none⟩) hg).trans h.2.2.2.2⟩

/-- The slice value v reads in w as the nodes xs. -/
def NRow (w : World) (v : Value) (xs : List Nd) : Prop :=
  ∃ ao cap, v = .slice ao xs.length cap ∧ (xs.length ≤ cap ∧ (ao = none → cap = 0)) ∧ xs.length ≤ 9223372036854775807 ∧ (∀ x ∈ xs, x.s.size ≤ maxLen) ∧
    (xs ≠ [] → ∃ g o, ao = some ⟨g, o, none⟩ ∧ g < w.heap.size ∧ ∀ i x, xs[i]? = some x → NAt w g (o + i * 5) x)

theorem NRow.below {w w' : World} {v : Value} {xs : List Nd} (h : NRow w v xs) (hb : Below w.heap.size w w') : NRow w' v xs := by
  obtain ⟨ao, cap, rfl, hc, hm, hz, hcell⟩ := h
  refine ⟨ao, cap, rfl, hc, hm, hz, fun hne => ?_⟩
  obtain ⟨g, o, rfl, hg, hcell⟩ := hcell hne
  exact ⟨g, o, rfl, Nat.lt_of_lt_of_le hg hb.size, fun i x hi => (hcell i x hi).below hb hg⟩

/-- What the call owns reads as what it holds. -/
theorem NRow.of_own {w : World} {base : Nat} {v : Value} {xs : List Nd} (h : w.ownsRow base 86 5 v xs.length (ncs xs)) (hm : xs.length ≤ 9223372036854775807) (hz : ∀ x ∈ xs, x.s.size ≤ maxLen) : NRow w v xs := by
  rcases h.2 with ⟨rfl, h0⟩ | ⟨g, cap, cur, rfl, hb, hg, hnc, hcm, hcs, htake⟩
  · have : xs = [] := List.eq_nil_of_length_eq_zero h0
    subst this
    exact ⟨none, 0, rfl, by simp, by simp, by simp, fun h => absurd rfl h⟩
  · refine ⟨_, cap, rfl, ⟨hnc, fun h => by cases h⟩, hm, hz, fun _ => ⟨g, 0, rfl, (Array.getElem?_eq_some_iff.1 hg).1, fun i x hi => ?_⟩⟩
    have hl : i < xs.length := (List.getElem?_eq_some_iff.1 hi).1
    have e : ∀ j, j < 5 → w.cell? ⟨g, 0 + i * 5 + j, none⟩ = x.cs[j]? := fun j hj => by
      have := h.cellAt (i * 5 + j) (by omega)
      rw [Nat.zero_add, this, ncs_get xs i x hi j hj]
    exact ⟨e 0 (by omega), e 1 (by omega), e 2 (by omega), e 3 (by omega), e 4 (by omega)⟩

theorem Tryz.infoN : (Tryz.prog.info? 86).map (fun i => (i.zero, i.size, i.bytes)) = some (some (.agg #[.int .i64 0, .int .i64 0, .string ByteArray.empty, .int .i64 0, .int .i64 0]), 5, 48) := by kernel_rfl

theorem retB {p q : Bool} (h : p = q) : Ending.returned (.bool p) = .returned (.bool q) := by rw [h]

/-- The cells of a row of nodes, one behind the other. -/
theorem NRow.cells {w : World} {ao : Option Addr} {n cap : Nat} {xs : List Nd} (h : NRow w (.slice ao n cap) xs) : ∀ ad, ao = some ad → ∀ j u, (ncs xs)[j]? = some u → w.cell? (ad.add j) = some u := by
  obtain ⟨ao', cap', e, _, _, _, hcell⟩ := h
  simp only [Value.slice.injEq] at e
  obtain ⟨rfl, _, _⟩ := e
  intro ad had j u hu
  have hj : j < xs.length * 5 := by rw [← ncs_length]; exact (List.getElem?_eq_some_iff.1 hu).1
  obtain ⟨g, o, e, _, hcell⟩ := hcell (by intro h; subst h; simp at hj)
  rw [e] at had
  cases had
  have hi : j / 5 < xs.length := by omega
  have hx : xs[j / 5]? = some xs[j / 5] := List.getElem?_eq_getElem hi
  have hg := ncs_get xs (j / 5) _ hx (j % 5) (by omega)
  rw [show j / 5 * 5 + j % 5 = j by omega, hu] at hg
  obtain ⟨c0, c1, c2, c3, c4⟩ := hcell (j / 5) _ hx
  rw [Addr.add_lit]
  have h5 : j % 5 = 0 ∨ j % 5 = 1 ∨ j % 5 = 2 ∨ j % 5 = 3 ∨ j % 5 = 4 := by omega
  rcases h5 with h5 | h5 | h5 | h5 | h5
  · rw [show o + j = o + j / 5 * 5 by omega, c0, hg, h5]; rfl
  · rw [show o + j = o + j / 5 * 5 + 1 by omega, c1, hg, h5]; rfl
  · rw [show o + j = o + j / 5 * 5 + 2 by omega, c2, hg, h5]; rfl
  · rw [show o + j = o + j / 5 * 5 + 3 by omega, c3, hg, h5]; rfl
  · rw [show o + j = o + j / 5 * 5 + 4 by omega, c4, hg, h5]; rfl

theorem own_below {w w' : World} {B : Nat} {e : TypeId} {k : Nat} {v : Value} {n : Nat} {xs : List Value} (h : w.ownsRow B e k v n xs) (hb : Below w.heap.size w w') : w'.ownsRow B e k v n xs := by
  refine ⟨h.1, ?_⟩
  rcases h.2 with ⟨rfl, h0⟩ | ⟨g, cap, cur, rfl, hB, hg, hr⟩
  · exact Or.inl ⟨rfl, h0⟩
  · exact Or.inr ⟨g, cap, cur, rfl, hB, (hb.block g (Array.getElem?_eq_some_iff.1 hg).1).trans hg, hr⟩

theorem own_form {w : World} {B : Nat} {e : TypeId} {k : Nat} {v : Value} {n : Nat} {xs : List Value} (h : w.ownsRow B e k v n xs) : ∃ ao cap, v = .slice ao n cap := by
  rcases h.2 with ⟨rfl, h0⟩ | ⟨g, cap, cur, rfl, _⟩
  · exact ⟨none, 0, by rw [h0]⟩
  · exact ⟨_, _, rfl⟩

theorem own_mono {w : World} {B B' : Nat} {e : TypeId} {k : Nat} {v : Value} {n : Nat} {xs : List Value} (h : w.ownsRow B e k v n xs) (hb : B' ≤ B) : w.ownsRow B' e k v n xs := by
  refine ⟨h.1, ?_⟩
  rcases h.2 with ⟨rfl, h0⟩ | ⟨g, cap, cur, rfl, hB, hr⟩
  · exact Or.inl ⟨rfl, h0⟩
  · exact Or.inr ⟨g, cap, cur, rfl, Nat.le_trans hb hB, hr⟩

theorem Tryz.sizeN : (Tryz.prog.info? 86).map (·.size) = some 5 := by kernel_rfl

/-- A node stored whole into the call's own row of nodes. -/
theorem wpList_store_node {ops : Array Oper} {rest : List Oper} {op : Oper} {a : Act} {w : World} {Q : Exit → Act → World → Prop} (hgd : op.guard = none) (x y : Operand) (ho : op.op = .store 86 x y)
    (base g i cap : Nat) (xs : List Nd) (nd : Nd) (hx : a.eval x = .pointer (some ⟨g, i * 5, none⟩)) (hy : a.eval y = .agg #[.int .i64 nd.k, .int .i64 nd.n, .string nd.s, .int .i64 nd.a, .int .i64 nd.b])
    (hi : i < xs.length) (hown : w.ownsRow base 86 5 (.slice (some ⟨g, 0, none⟩) xs.length cap) xs.length (ncs xs))
    (h : ∀ w2 : World, w2.ownsRow base 86 5 (.slice (some ⟨g, 0, none⟩) xs.length cap) xs.length (ncs (xs.set i nd)) → w.grownBy w2 (some g) → wpList Tryz.prog ops Q rest (a.put op.dst undef) w2) : wpList Tryz.prog ops Q (op :: rest) a w := by
  have ht : w.there g (i * 5) 5 := fun j hj => by
    have := hown.cellAt (i * 5 + j) (by omega)
    refine ⟨?_, hown.frozenAt _⟩
    rw [this, List.getElem?_eq_getElem (by rw [ncs_length]; omega)]
    rfl
  refine wpList_store_mid hgd 86 x y ho g (i * 5) _ hx hy ht Tryz.sizeN (all_oneCell_toArray nd.one) ?_
  have e0 : xs[i]? = some xs[i] := List.getElem?_eq_getElem hi
  have get : ∀ y : Nd, (xs.set i y)[i]? = some y := fun y => by simp [hi]
  have s0 := hown.stored (i * 5) (.int .i64 nd.k)
  rw [ncs_set0 xs i xs[i] ⟨nd.k, xs[i].n, xs[i].s, xs[i].a, xs[i].b⟩ e0 _ rfl] at s0
  have s1 := s0.1.stored (i * 5 + 1) (.int .i64 nd.n)
  rw [ncs_set (xs.set i ⟨nd.k, xs[i].n, xs[i].s, xs[i].a, xs[i].b⟩) i ⟨nd.k, xs[i].n, xs[i].s, xs[i].a, xs[i].b⟩ ⟨nd.k, nd.n, xs[i].s, xs[i].a, xs[i].b⟩ (get _) 1 (by omega) (.int .i64 nd.n) rfl, List.set_set] at s1
  have s2 := s1.1.stored (i * 5 + 2) (.string nd.s)
  rw [ncs_set (xs.set i ⟨nd.k, nd.n, xs[i].s, xs[i].a, xs[i].b⟩) i ⟨nd.k, nd.n, xs[i].s, xs[i].a, xs[i].b⟩ ⟨nd.k, nd.n, nd.s, xs[i].a, xs[i].b⟩ (get _) 2 (by omega) (.string nd.s) rfl, List.set_set] at s2
  have s3 := s2.1.stored (i * 5 + 3) (.int .i64 nd.a)
  rw [ncs_set (xs.set i ⟨nd.k, nd.n, nd.s, xs[i].a, xs[i].b⟩) i ⟨nd.k, nd.n, nd.s, xs[i].a, xs[i].b⟩ ⟨nd.k, nd.n, nd.s, nd.a, xs[i].b⟩ (get _) 3 (by omega) (.int .i64 nd.a) rfl, List.set_set] at s3
  have s4 := s3.1.stored (i * 5 + 4) (.int .i64 nd.b)
  rw [ncs_set (xs.set i ⟨nd.k, nd.n, nd.s, nd.a, xs[i].b⟩) i ⟨nd.k, nd.n, nd.s, nd.a, xs[i].b⟩ ⟨nd.k, nd.n, nd.s, nd.a, nd.b⟩ (get _) 4 (by omega) (.int .i64 nd.b) rfl, List.set_set] at s4
  exact h _ s4.1 ((((s0.2.trans s1.2).trans s2.2).trans s3.2).trans s4.2)

/-- A byte that a name may have. -/
def nb (b : Int) : Bool := b == 43 || b == 45 || b == 42 || b == 60 || b == 61 || b == 63 || b == 33 || b == 47 || (decide (97 ≤ b) && decide (b ≤ 122))
/-- A name. -/
def nameB (s : ByteArray) : Bool := decide (1 ≤ s.size) && decide (s.size ≤ 12) && decide (∀ i : Fin s.size, nb (s[i].toNat) = true)
theorem nameB_all {s : ByteArray} (h1 : 1 ≤ s.size) (h2 : s.size ≤ 12) (h : ∀ j (hj : j < s.size), nb (s[j].toNat) = true) : nameB s = true := by
  simp only [nameB, Bool.and_eq_true, decide_eq_true_eq]
  exact ⟨⟨h1, h2⟩, fun i => h i.1 i.2⟩
theorem nameB_not {s : ByteArray} (j : Nat) (hj : j < s.size) (h : nb (s[j].toNat) = false) : nameB s = false := by
  rw [Bool.eq_false_iff]
  intro h'
  simp only [nameB, Bool.and_eq_true, decide_eq_true_eq] at h'
  have := h'.2 ⟨j, hj⟩
  simp only [Fin.getElem_fin] at this
  rw [this] at h
  cases h
theorem nameB_size {s : ByteArray} (h : ¬ (1 ≤ s.size ∧ s.size ≤ 12)) : nameB s = false := by
  rw [Bool.eq_false_iff]
  intro h'
  simp only [nameB, Bool.and_eq_true, decide_eq_true_eq] at h'
  exact h h'.1

def lo (k : Int) : Int := if k = 3 then -1000000000 else 0
def hi (k : Int) : Int := if k = 2 then 1 else if k = 3 ∨ k = 6 ∨ k = 9 then 1000000000 else if k = 8 then 99 else 0
def hasS (k : Int) : Bool := decide (k = 4)
def hasA (k : Int) : Bool := decide (k = 5 ∨ k = 6 ∨ k = 7)
def hasB (k : Int) : Bool := decide (k = 5)
def partB (p : Int) (named : Bool) (at_ : Int) : Bool := if named then decide (0 ≤ p) && decide (p < at_) else p == 0
def nameFB (s : ByteArray) (named : Bool) : Bool := if named then nameB s else s.toList == []
/-- The node x may be the one with the number at_ of a pool. -/
def nodeB (x : Nd) (at_ : Int) : Bool :=
  decide (1 ≤ x.k) && decide (x.k ≤ 9) && decide (lo x.k ≤ x.n) && decide (x.n ≤ hi x.k) && (nameFB x.s (hasS x.k) && partB x.a (hasA x.k) at_ && partB x.b (hasB x.k) at_)
/-- The nodes from the number i on are right. -/
def nodesB (xs : List Nd) (i : Nat) : Bool := match xs with
  | [] => true
  | x :: xs => nodeB x i && nodesB xs (i + 1)
def poolB (xs : List Nd) : Bool := decide (xs.length ≤ 3000) && nodesB xs 0

theorem nodesB_drop (xs : List Nd) (i : Nat) (x : Nd) (h : xs[i]? = some x) : nodesB (xs.drop i) i = (nodeB x i && nodesB (xs.drop (i + 1)) (i + 1)) := by
  obtain ⟨hl, he⟩ := List.getElem?_eq_some_iff.1 h
  rw [List.drop_eq_getElem_cons hl, he]
  rfl

end Go.Proofs.YtaojlmoppbknbaaGreatDoor
