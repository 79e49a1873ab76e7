/-
  Texts that stood by themselves, laid into one.
-/
import Derived.Test.YtfmafkebddojjaaGreatDoorSbM
import Derived.Laws.BytesArg
import Derived.Laws.CopyOwn
import Derived.Below
import Derived.Deep.MidRow
import Derived.Laws.ResultCell
/-
  Plain mathematics of reading a text, and the law of a slice of bytes turned into a text. Nothing of the program; no condition.
-/
namespace Go.Proofs.YtfmafkebddojjaaGreatDoor
open Go.RowKit
theorem ZfA (f : Nat) (l bs : List Int) (h : scan f l = some bs) : bs.length <= f /\ bs.length <= l.length := by
 induction f generalizing l bs with
 | zero => simp [scan] at h
 | succ f ih =>
  cases l with
  | nil => simp [scan] at h
  | cons b l =>
   simp only [scan] at h
   split at h
   ·simp at h; subst h; simp
   ·simp only [Option.map_eq_some_iff] at h
    obtain ⟨bs', h1, rfl⟩ := h
    have := ih l bs' h1
    simp only [List.length_cons]; omega
theorem Zjt (zs : List Int) (a n next : Int) (h : gN zs a = (n, next, true)) : 0 <= n /\ n <= 9223372036854775807 /\ 0 <= next /\ next <= zs.length := by
 unfold gN at h
 by_cases h0 : a < 0
 ·simp [h0] at h
 ·simp only [h0, if_false] at h
  cases hs : scan 9 (zs.drop a.toNat) with
  | none => simp [hs] at h
  | some bs =>
   simp only [hs] at h
   have hb := ZfA 9 _ bs hs
   have hv := Zbx bs
   have hl := Zd9 hb.1
   rw [ZdS] at hl
   by_cases h1 : 1 < bs.length /\ bs.getLast? = some 0
   ·rw [if_pos h1] at h; simp at h
   ·rw [if_neg h1] at h
    simp only [Prod.mk.injEq, and_true] at h
    obtain ⟨rfl, rfl⟩ := h
    have hb2 := hb.2
    simp only [List.length_drop] at hb2
    have hpos : 0 < bs.length := by
     rcases Nat.eq_zero_or_pos bs.length with h | h
     ·rw [List.eq_nil_of_length_eq_zero h] at hs
      exfalso
      cases hd : zs.drop a.toNat with
      | nil => rw [hd] at hs; simp [scan] at hs
      | cons b l =>
       rw [hd] at hs
       simp only [scan] at hs
       split at hs
       ·simp at hs
       ·simp at hs
     ·exact h
    omega
def gT (zs : List Int) (a : Int) : ByteArray × Int × Bool :=
 if (gN zs a).2.2 = true /\ (gN zs a).1 <= (zs.length : Int) - (gN zs a).2.1 then
  (strOfNums ((zs.drop (gN zs a).2.1.toNat).take (gN zs a).1.toNat), (gN zs a).2.1 + (gN zs a).1, true)
 else (⟨#[]⟩, 0, false)
abbrev tV (r : ByteArray × Int × Bool) : Value := .tuple #[.string r.1, .int .i64 r.2.1, .bool r.2.2]
theorem ZiK (zs : List Int) (a n next : Int) (ok : Bool) (h : gN zs a = (n, next, ok)) (hn : ok = false \/ (zs.length : Int) - next < n) : gT zs a = (⟨#[]⟩, 0, false) := by
 unfold gT
 rw [h, if_neg]
 rcases hn with rfl | hn
 ·simp
 ·intro h; have := h.2; simp only at this; omega
theorem ZjD (zs : List Int) (a : Int) (n next : Nat) (h : gN zs a = ((n : Int), (next : Int), true)) (hn : (n : Int) <= (zs.length : Int) - next) : gT zs a = (strOfNums ((zs.drop next).take n), (next : Int) + n, true) := by
 unfold gT
 rw [h, if_pos ⟨rfl, hn⟩]
 simp
theorem Zje {w : World} {g o : Nat} {zs : List Int} (hcell : ∀ i, i < zs.length -> w.cell? ⟨g, o + i, none⟩ = some (.int .u8 (zs.getD i 0))) (next n : Nat) (hle : next + n <= zs.length) (i : Nat) (hi : i < n) :
  w.cell? ⟨g, o + next + i, none⟩ = some (.int .u8 (((zs.drop next).take n).getD i 0)) := by
 rw [Nat.add_assoc, hcell (next + i) (by omega)]
 simp only [List.getD_eq_getElem?_getD, List.getElem?_take, List.getElem?_drop]
 rw [if_pos hi]
theorem ZdK (zs : List Int) (next n : Nat) (hle : next + n <= zs.length) : ((zs.drop next).take n).length = n := by
 simp only [List.length_take, List.length_drop]; omega
theorem ZeS {w : World} {ao : Option Addr} {cap : Nat} {zs : List Int} (hcell : zs ≠ [] -> ∃ g o, ao = some ⟨g, o, none⟩ /\ g < w.heap.size /\ ∀ i, i < zs.length -> w.cell? ⟨g, o + i, none⟩ = some (.int .u8 (zs.getD i 0)))
  (next n : Nat) (hle : next + n <= zs.length) (hcap : zs.length <= cap) :
  n ≠ 0 -> ∃ g o', (if cap = next then ao else ao.map (·.add next)) = some ⟨g, o', none⟩ /\ ∀ i, i < n -> w.cell? ⟨g, o' + i, none⟩ = some (.int .u8 (((zs.drop next).take n).getD i 0)) := by
 intro hn
 obtain ⟨g, o, rfl, _, hc⟩ := hcell (by intro e; subst e; simp at hle; omega)
 rw [if_neg (by omega)]
 exact ⟨g, o + next, by simp [Addr.add_lit], Zje hc next n hle⟩
theorem Zbl {P : Program} (w : World) {ops : Array Oper} {rest : List Oper} {o : Oper} {a : Act} {Q : Exit -> Act -> World -> Prop} (hg : o.guard = none) (x : Operand) (src dst e : TypeId) (ho : o.op = .convert src dst x)
  (hs : P.underlying src = some (.slice e)) (hd : P.underlying dst = some .string) (he : P.underlying e = some (.int .u8)) (ao : Option Addr) (n c : Nat) (xs : List Int) (hx : a.eval x = .slice ao n c) (hl : xs.length = n)
  (hc : n ≠ 0 -> ∃ g o', ao = some ⟨g, o', none⟩ /\ ∀ i, i < n -> w.cell? ⟨g, o' + i, none⟩ = some (.int .u8 (xs.getD i 0)))
  (h : wpList P ops Q rest (a.put o.dst (.string (strOfNums xs))) w) : wpList P ops Q (o :: rest) a w := by
 refine wpList_plain hg fun K hK => ?_
 have hrun : (convert src dst (.slice ao n c)).run P w = .ok (.string (strOfNums xs)) w := by
  by_cases h0 : n = 0
  ·subst h0
   have : xs = [] := List.eq_nil_of_length_eq_zero hl
   subst this
   cases ao with
   | none => exact run_convert_bytes_nil w src e hs he 0 c dst hd
   | some ad => exact run_convert_bytes_back w src dst e ad c [] hs he hd (fun j hj => absurd hj (by simp))
  ·obtain ⟨g, o', rfl, hcell⟩ := hc h0
   exact run_convert_bytes_arg w src e hs he g o' n c xs hl hcell dst hd
 unfold Oper.wp
 simp [execOp, ho, hx, hrun, Result.andThen]
 exact hK _ _ h
structure Nd where
 k : Int
 n : Int
 s : ByteArray
 a : Int
 b : Int
def Nd.cs (x : Nd) : List Value := [.int .i64 x.k, .int .i64 x.n, .string x.s, .int .i64 x.a, .int .i64 x.b]
def ncs (xs : List Nd) : List Value := xs.flatMap Nd.cs
theorem Zd0 (x : Nd) (xs : List Nd) : ncs (x :: xs) = x.cs ++ ncs xs := rfl
theorem Zay (a b : List Nd) : ncs (a ++ b) = ncs a ++ ncs b := by simp [ncs]
theorem Zcv (xs : List Nd) : (ncs xs).length = xs.length * 5 := by
 induction xs with
 | nil => rfl
 | cons x xs ih => rw [Zd0, List.length_append, ih, List.length_cons]; simp [Nd.cs]; omega
theorem Zfx (xs : List Nd) (i : Nat) (x : Nd) (h : xs[i]? = some x) (j : Nat) (hj : j < 5) : (ncs xs)[i * 5 + j]? = x.cs[j]? := by
 induction xs generalizing i with
 | nil => simp at h
 | cons y ys ih =>
  rw [Zd0]
  cases i with
  | zero =>
   simp at h; subst h
   rw [Nat.zero_mul, Nat.zero_add, List.getElem?_append_left (by simpa [Nd.cs] using hj)]
  | succ i =>
   rw [List.getElem?_append_right (by simp [Nd.cs]; omega)]
   rw [show (i + 1) * 5 + j - y.cs.length = i * 5 + j by simp [Nd.cs]; omega]
   exact ih i (by simpa using h)
theorem Zdk (xs : List Nd) (i : Nat) (x x' : Nd) (h : xs[i]? = some x) (j : Nat) (hj : j < 5) (u : Value) (e : x.cs.set j u = x'.cs) : (ncs xs).set (i * 5 + j) u = ncs (xs.set i x') := by
 induction xs generalizing i with
 | nil => simp at h
 | cons y ys ih =>
  rw [Zd0]
  cases i with
  | zero =>
   simp at h; subst h
   rw [Nat.zero_mul, Nat.zero_add, List.set_append_left _ _ (by simpa [Nd.cs] using hj), e]
   rfl
  | succ i =>
   rw [List.set_append_right _ _ (by simp [Nd.cs]; omega)]
   rw [show (i + 1) * 5 + j - y.cs.length = i * 5 + j by simp [Nd.cs]; omega, ih i (by simpa using h)]
   rfl
theorem Zjz (xs : List Nd) (i : Nat) (x x' : Nd) (h : xs[i]? = some x) (u : Value) (e : x.cs.set 0 u = x'.cs) : (ncs xs).set (i * 5) u = ncs (xs.set i x') :=
 Zdk xs i x x' h 0 (by omega) u e
theorem Nd.one (x : Nd) : ∀ u ∈ x.cs, u.oneCell' = true := by
 intro u hu
 simp only [Nd.cs, List.mem_cons, List.not_mem_nil, or_false] at hu
 rcases hu with rfl | rfl | rfl | rfl | rfl <;> rfl
theorem ZaZ (xs : List Nd) : ∀ u ∈ ncs xs, u.oneCell' = true := by
 intro u hu
 simp only [ncs, List.mem_flatMap] at hu
 obtain ⟨x, _, hx⟩ := hu
 exact x.one u hx
def NAt (w : World) (g o : Nat) (x : Nd) : Prop :=
 w.cell? ⟨g, o, none⟩ = some (.int .i64 x.k) /\ w.cell? ⟨g, o + 1, none⟩ = some (.int .i64 x.n) /\ w.cell? ⟨g, o + 2, none⟩ = some (.string x.s) /\
  w.cell? ⟨g, o + 3, none⟩ = some (.int .i64 x.a) /\ w.cell? ⟨g, o + 4, none⟩ = some (.int .i64 x.b)
theorem NAt.below {w w' : World} {g o B : Nat} {x : Nd} (h : NAt w g o x) (hb : Below B w w') (hg : g < B) : NAt w' g o x :=
 ⟨(hb.cell (p := ⟨g, o, none⟩) hg).trans h.1, (hb.cell (p := ⟨g, o + 1, none⟩) hg).trans h.2.1, (hb.cell (p := ⟨g, o + 2, none⟩) hg).trans h.2.2.1,
  (hb.cell (p := ⟨g, o + 3, none⟩) hg).trans h.2.2.2.1, (hb.cell (p := ⟨g, o + 4, none⟩) hg).trans h.2.2.2.2⟩
def NRow (w : World) (v : Value) (xs : List Nd) : Prop :=
 ∃ ao cap, v = .slice ao xs.length cap /\ (xs.length <= cap /\ (ao = none -> cap = 0)) /\ xs.length <= 9223372036854775807 /\ (∀ x ∈ xs, x.s.size <= maxLen) /\
  (xs ≠ [] -> ∃ g o, ao = some ⟨g, o, none⟩ /\ g < w.heap.size /\ ∀ i x, xs[i]? = some x -> NAt w g (o + i * 5) x)
theorem NRow.below {w w' : World} {v : Value} {xs : List Nd} (h : NRow w v xs) (hb : Below w.heap.size w w') : NRow w' v xs := by
 obtain ⟨ao, cap, rfl, hc, hm, hz, hcell⟩ := h
 refine ⟨ao, cap, rfl, hc, hm, hz, fun hne => ?_⟩
 obtain ⟨g, o, rfl, hg, hcell⟩ := hcell hne
 exact ⟨g, o, rfl, Nat.lt_of_lt_of_le hg hb.size, fun i x hi => (hcell i x hi).below hb hg⟩
theorem NRow.of_own {w : World} {base : Nat} {v : Value} {xs : List Nd} (h : w.ownsRow base 210 5 v xs.length (ncs xs)) (hm : xs.length <= 9223372036854775807) (hz : ∀ x ∈ xs, x.s.size <= maxLen) : NRow w v xs := by
 rcases h.2 with ⟨rfl, h0⟩ | ⟨g, cap, cur, rfl, hb, hg, hnc, hcm, hcs, htake⟩
 ·have : xs = [] := List.eq_nil_of_length_eq_zero h0
  subst this
  exact ⟨none, 0, rfl, by simp, by simp, by simp, fun h => absurd rfl h⟩
 ·refine ⟨_, cap, rfl, ⟨hnc, fun h => by cases h⟩, hm, hz, fun _ => ⟨g, 0, rfl, (bl hg), fun i x hi => ?_⟩⟩
  have hl : i < xs.length := (List.getElem?_eq_some_iff.1 hi).1
  have e : ∀ j, j < 5 -> w.cell? ⟨g, 0 + i * 5 + j, none⟩ = x.cs[j]? := fun j hj => by
   have := h.cellAt (i * 5 + j) (by omega)
   rw [Nat.zero_add, this, Zfx xs i x hi j hj]
  exact ⟨e 0 (by omega), e 1 (by omega), e 2 (by omega), e 3 (by omega), e 4 (by omega)⟩
theorem Zlv : (Tryz.prog.info? 210).map (fun i => (i.zero, i.size, i.bytes)) = some (some (.agg #[.int .i64 0, .int .i64 0, .string ByteArray.empty, .int .i64 0, .int .i64 0]), 5, 48) := by kernel_rfl
theorem retB {p q : Bool} (h : p = q) : Ending.returned (.bool p) = .returned (.bool q) := by rw [h]
theorem NRow.cells {w : World} {ao : Option Addr} {n cap : Nat} {xs : List Nd} (h : NRow w (.slice ao n cap) xs) : ∀ ad, ao = some ad -> ∀ j u, (ncs xs)[j]? = some u -> w.cell? (ad.add j) = some u := by
 obtain ⟨ao', cap', e, _, _, _, hcell⟩ := h
 simp only [Value.slice.injEq] at e
 obtain ⟨rfl, _, _⟩ := e
 intro ad had j u hu
 have hj : j < xs.length * 5 := by rw [<- Zcv]; exact (List.getElem?_eq_some_iff.1 hu).1
 obtain ⟨g, o, e, _, hcell⟩ := hcell (by intro h; subst h; simp at hj)
 rw [e] at had
 cases had
 have hi : j / 5 < xs.length := by omega
 have hx : xs[j / 5]? = some xs[j / 5] := List.getElem?_eq_getElem hi
 have hg := Zfx xs (j / 5) _ hx (j % 5) (by omega)
 rw [show j / 5 * 5 + j % 5 = j by omega, hu] at hg
 obtain ⟨c0, c1, c2, c3, c4⟩ := hcell (j / 5) _ hx
 rw [Addr.add_lit]
 have h5 : j % 5 = 0 \/ j % 5 = 1 \/ j % 5 = 2 \/ j % 5 = 3 \/ j % 5 = 4 := by omega
 rcases h5 with h5 | h5 | h5 | h5 | h5
 ·rw [show o + j = o + j / 5 * 5 by omega, c0, hg, h5]; rfl
 ·rw [show o + j = o + j / 5 * 5 + 1 by omega, c1, hg, h5]; rfl
 ·rw [show o + j = o + j / 5 * 5 + 2 by omega, c2, hg, h5]; rfl
 ·rw [show o + j = o + j / 5 * 5 + 3 by omega, c3, hg, h5]; rfl
 ·rw [show o + j = o + j / 5 * 5 + 4 by omega, c4, hg, h5]; rfl
theorem Zad {w w' : World} {B : Nat} {e : TypeId} {k : Nat} {v : Value} {n : Nat} {xs : List Value} (h : w.ownsRow B e k v n xs) (hb : Below w.heap.size w w') : w'.ownsRow B e k v n xs := by
 refine ⟨h.1, ?_⟩
 rcases h.2 with ⟨rfl, h0⟩ | ⟨g, cap, cur, rfl, hB, hg, hr⟩
 ·exact Or.inl ⟨rfl, h0⟩
 ·exact Or.inr ⟨g, cap, cur, rfl, hB, (hb.block g (bl hg)).trans hg, hr⟩
theorem Zaf {w : World} {B : Nat} {e : TypeId} {k : Nat} {v : Value} {n : Nat} {xs : List Value} (h : w.ownsRow B e k v n xs) : ∃ ao cap, v = .slice ao n cap := by
 rcases h.2 with ⟨rfl, h0⟩ | ⟨g, cap, cur, rfl, _⟩
 ·exact ⟨none, 0, by rw [h0]⟩
 ·exact ⟨_, _, rfl⟩
theorem Zal {w : World} {B B' : Nat} {e : TypeId} {k : Nat} {v : Value} {n : Nat} {xs : List Value} (h : w.ownsRow B e k v n xs) (hb : B' <= B) : w.ownsRow B' e k v n xs := by
 refine ⟨h.1, ?_⟩
 rcases h.2 with ⟨rfl, h0⟩ | ⟨g, cap, cur, rfl, hB, hr⟩
 ·exact Or.inl ⟨rfl, h0⟩
 ·exact Or.inr ⟨g, cap, cur, rfl, Nat.le_trans hb hB, hr⟩
theorem Zlw : (Tryz.prog.info? 210).map (·.size) = some 5 := by kernel_rfl
theorem Zcp {ops : Array Oper} {rest : List Oper} {op : Oper} {a : Act} {w : World} {Q : Exit -> Act -> World -> Prop} (hgd : op.guard = none) (x y : Operand) (ho : op.op = .store 210 x y)
  (base g i cap : Nat) (xs : List Nd) (nd : Nd) (hx : a.eval x = .pointer (some ⟨g, i * 5, none⟩)) (hy : a.eval y = .agg #[.int .i64 nd.k, .int .i64 nd.n, .string nd.s, .int .i64 nd.a, .int .i64 nd.b])
  (hi : i < xs.length) (hown : w.ownsRow base 210 5 (.slice (some ⟨g, 0, none⟩) xs.length cap) xs.length (ncs xs))
  (h : ∀ w2 : World, w2.ownsRow base 210 5 (.slice (some ⟨g, 0, none⟩) xs.length cap) xs.length (ncs (xs.set i nd)) -> w.grownBy w2 (some g) -> wpList Tryz.prog ops Q rest (a.put op.dst undef) w2) : wpList Tryz.prog ops Q (op :: rest) a w := by
 have ht : w.there g (i * 5) 5 := fun j hj => by
  have := hown.cellAt (i * 5 + j) (by omega)
  refine ⟨?_, hown.frozenAt _⟩
  rw [this, List.getElem?_eq_getElem (by rw [Zcv]; omega)]
  rfl
 refine wpList_store_mid hgd 210 x y ho g (i * 5) _ hx hy ht Zlw (all_oneCell_toArray nd.one) ?_
 have e0 : xs[i]? = some xs[i] := List.getElem?_eq_getElem hi
 have get : ∀ y : Nd, (xs.set i y)[i]? = some y := fun y => by simp [hi]
 have s0 := hown.stored (i * 5) (.int .i64 nd.k)
 rw [Zjz xs i xs[i] ⟨nd.k, xs[i].n, xs[i].s, xs[i].a, xs[i].b⟩ e0 _ rfl] at s0
 have s1 := s0.1.stored (i * 5 + 1) (.int .i64 nd.n)
 rw [Zdk (xs.set i ⟨nd.k, xs[i].n, xs[i].s, xs[i].a, xs[i].b⟩) i ⟨nd.k, xs[i].n, xs[i].s, xs[i].a, xs[i].b⟩ ⟨nd.k, nd.n, xs[i].s, xs[i].a, xs[i].b⟩ (get _) 1 (by omega) (.int .i64 nd.n) rfl, List.set_set] at s1
 have s2 := s1.1.stored (i * 5 + 2) (.string nd.s)
 rw [Zdk (xs.set i ⟨nd.k, nd.n, xs[i].s, xs[i].a, xs[i].b⟩) i ⟨nd.k, nd.n, xs[i].s, xs[i].a, xs[i].b⟩ ⟨nd.k, nd.n, nd.s, xs[i].a, xs[i].b⟩ (get _) 2 (by omega) (.string nd.s) rfl, List.set_set] at s2
 have s3 := s2.1.stored (i * 5 + 3) (.int .i64 nd.a)
 rw [Zdk (xs.set i ⟨nd.k, nd.n, nd.s, xs[i].a, xs[i].b⟩) i ⟨nd.k, nd.n, nd.s, xs[i].a, xs[i].b⟩ ⟨nd.k, nd.n, nd.s, nd.a, xs[i].b⟩ (get _) 3 (by omega) (.int .i64 nd.a) rfl, List.set_set] at s3
 have s4 := s3.1.stored (i * 5 + 4) (.int .i64 nd.b)
 rw [Zdk (xs.set i ⟨nd.k, nd.n, nd.s, nd.a, xs[i].b⟩) i ⟨nd.k, nd.n, nd.s, nd.a, xs[i].b⟩ ⟨nd.k, nd.n, nd.s, nd.a, nd.b⟩ (get _) 4 (by omega) (.int .i64 nd.b) rfl, List.set_set] at s4
 exact h _ s4.1 ((((s0.2.trans s1.2).trans s2.2).trans s3.2).trans s4.2)
def nb (b : Int) : Bool := b == 43 || b == 45 || b == 42 || b == 60 || b == 61 || b == 63 || b == 33 || b == 47 || (decide (97 <= b) && decide (b <= 122))
def ZbG (s : ByteArray) : Bool := decide (1 <= s.size) && decide (s.size <= 12) && decide (∀ i : Fin s.size, nb (s[i].toNat) = true)
theorem Ze9 {s : ByteArray} (h1 : 1 <= s.size) (h2 : s.size <= 12) (h : ∀ j (hj : j < s.size), nb (s[j].toNat) = true) : ZbG s = true := by
 simp only [ZbG, Bool.and_eq_true, decide_eq_true_eq]
 exact ⟨⟨h1, h2⟩, fun i => h i.1 i.2⟩
theorem Ze5 {s : ByteArray} (j : Nat) (hj : j < s.size) (h : nb (s[j].toNat) = false) : ZbG s = false := by
 rw [Bool.eq_false_iff]
 intro h'
 simp only [ZbG, Bool.and_eq_true, decide_eq_true_eq] at h'
 have := h'.2 ⟨j, hj⟩
 simp only [Fin.getElem_fin] at this
 rw [this] at h
 cases h
theorem ZdE {s : ByteArray} (h : ¬ (1 <= s.size /\ s.size <= 12)) : ZbG s = false := by
 rw [Bool.eq_false_iff]
 intro h'
 simp only [ZbG, Bool.and_eq_true, decide_eq_true_eq] at h'
 exact h h'.1
def lo (k : Int) : Int := if k = 3 then -1000000000 else 0
def hi (k : Int) : Int := if k = 2 then 1 else if k = 3 \/ k = 6 \/ k = 9 then 1000000000 else if k = 8 then 99 else 0
def hasS (k : Int) : Bool := decide (k = 4)
def hasA (k : Int) : Bool := decide (k = 5 \/ k = 6 \/ k = 7)
def hasB (k : Int) : Bool := decide (k = 5)
def Zbe (p : Int) (named : Bool) (at_ : Int) : Bool := if named then decide (0 <= p) && decide (p < at_) else p == 0
def Zbg (s : ByteArray) (named : Bool) : Bool := if named then ZbG s else s.toList == []
def Zav (x : Nd) (at_ : Int) : Bool :=
 decide (1 <= x.k) && decide (x.k <= 9) && decide (lo x.k <= x.n) && decide (x.n <= hi x.k) && (Zbg x.s (hasS x.k) && Zbe x.a (hasA x.k) at_ && Zbe x.b (hasB x.k) at_)
def ZaA (xs : List Nd) (i : Nat) : Bool := match xs with
 | [] => true
 | x :: xs => Zav x i && ZaA xs (i + 1)
def Zaq (xs : List Nd) : Bool := decide (xs.length <= 3000) && ZaA xs 0
theorem Zda (xs : List Nd) (i : Nat) (x : Nd) (h : xs[i]? = some x) : ZaA (xs.drop i) i = (Zav x i && ZaA (xs.drop (i + 1)) (i + 1)) := by
 obtain ⟨hl, he⟩ := List.getElem?_eq_some_iff.1 h
 rw [List.drop_eq_getElem_cons hl, he]
 rfl
set_option maxHeartbeats 400000 in
theorem ZjO (b : Int) (w : World) : Calls Tryz.prog 227 #[.int .u8 b] w fun e w' => e = .returned (.bool (nb b)) /\ w' = w := by
 go_enter Tryz.func227, Tryz.ntmps227
 go_wp2
 all_goals go_ret
 all_goals (refine ⟨retB ?_, rfl⟩; rw [Bool.eq_iff_iff]; simp [nb, *]; try omega)
set_option maxHeartbeats 400000 in
theorem Zj9 (b : Int) (w : World) : Calls Tryz.prog 165 #[.int .u8 b] w fun e w' => e = .returned (.bool (nb b)) /\ w' = w := by
 go_enter Tryz.func165, Tryz.ntmps165
 go_wp2
 all_goals go_ret
 all_goals (refine ⟨retB ?_, rfl⟩; rw [Bool.eq_iff_iff]; simp [nb, *]; try omega)
set_option maxHeartbeats 400000 in
theorem Zao (x l h : Int) (w : World) : Calls Tryz.prog 74 #[.int .i64 x, .int .i64 l, .int .i64 h] w fun e w' => e = .returned (.bool (decide (l <= x) && decide (x <= h))) /\ w' = w := by
 go_enter Tryz.func74, Tryz.ntmps74
 go_wp2
 all_goals go_ret
 all_goals (refine ⟨retB ?_, rfl⟩; rw [Bool.eq_iff_iff]; simp [*]; try omega)
set_option maxHeartbeats 400000 in
theorem Zdf (s : ByteArray) (w : World) (_ : s.size <= maxLen) : Calls Tryz.prog 192 #[.string s] w fun e w' => e = .returned (.bool (ZbG s)) /\ w' = w := by
 by_cases h0 : 1 <= s.size /\ s.size <= 12
 ·go_enter Tryz.func192, Tryz.ntmps192
  go_wp2
  go_loop [3] (fun i => ∃ k : Nat, k <= s.size /\ i = .int .i64 k /\ Hid (∀ j (hj : j < s.size), j < k -> nb (s[j].toNat) = true)) (fun i => s.size - (intOf i).toNat)
  case atStart => exact ⟨0, by omega, rfl, fun j hj hk => by omega⟩
  case round =>
   obtain ⟨k, hk, rfl, H⟩ := hrel
   by_cases hlt : k < s.size
   ·go_wp2_with fail
    refine (ZjO _ _).mono ?_
    rintro e w1 ⟨rfl, rfl⟩
    by_cases hn : nb (s[k].toNat) = true
    ·rw [hn]
     go_wp2
     go_round
     case rel =>
      refine ⟨k + 1, by omega, by go_num, fun j hj hk => ?_⟩
      by_cases e : j = k
      ·subst e; exact hn
      ·exact H.out j hj (by omega)
     case measure => simp [intOf]; omega
    ·have hn' : nb (s[k].toNat) = false := by simpa using hn
     have HN : Hid (ZbG s = false) := Ze5 k hlt hn'
     rw [hn']
     go_wp2
     go_ret
     exact ⟨by rw [HN.out]; rfl, rfl⟩
   ·have HN : Hid (ZbG s = true) := Ze9 h0.1 h0.2 fun j hj => H.out j hj (by omega)
    go_wp2
    go_ret
    exact ⟨by rw [HN.out]; rfl, rfl⟩
 ·have HN : Hid (ZbG s = false) := ZdE h0
  go_enter Tryz.func192, Tryz.ntmps192
  go_wp2
  all_goals go_ret
  all_goals first | exact ⟨by rw [HN.out]; rfl, rfl⟩ | (exfalso; omega)
set_option maxHeartbeats 400000 in
theorem ZaH (s : ByteArray) (w : World) (hs : s.size <= maxLen) : Calls Tryz.prog 127 #[.string s] w fun e w' => e = .returned (.bool (ZbG s)) /\ w' = w := by
 unfold maxLen at hs
 go_enter Tryz.func127, Tryz.ntmps127
 go_wp2
 go_loop [3] (fun i => ∃ k : Nat, k <= s.size /\ i = .int .i64 k /\ Hid (∀ j (hj : j < s.size), j < k -> nb (s[j].toNat) = true)) (fun i => s.size - (intOf i).toNat)
 case atStart => exact ⟨0, by omega, rfl, fun j hj hk => by omega⟩
 case round =>
  obtain ⟨k, hk, rfl, H⟩ := hrel
  by_cases hlt : k < s.size
  ·go_wp2_with fail
   refine (Zj9 _ _).mono ?_
   rintro e w1 ⟨rfl, rfl⟩
   by_cases hn : nb (s[k].toNat) = true
   ·rw [hn]
    go_wp2
    go_round
    case rel =>
     refine ⟨k + 1, by omega, by go_num, fun j hj hk => ?_⟩
     by_cases e : j = k
     ·subst e; exact hn
     ·exact H.out j hj (by omega)
    case measure => simp [intOf]; omega
   ·have hn' : nb (s[k].toNat) = false := by simpa using hn
    have HN : Hid (ZbG s = false) := Ze5 k hlt hn'
    rw [hn']
    go_wp2
    go_ret
    exact ⟨by rw [HN.out]; rfl, rfl⟩
  ·have HA : Hid (∀ j (hj : j < s.size), nb (s[j].toNat) = true) := fun j hj => H.out j hj (by omega)
   go_wp2_with fail
   refine (Zao _ _ _ _).mono ?_
   rintro e w1 ⟨rfl, rfl⟩
   go_wp2
   go_ret
   refine ⟨retB ?_, rfl⟩
   by_cases h0 : 1 <= s.size /\ s.size <= 12
   ·rw [Ze9 h0.1 h0.2 HA.out]
    simp; omega
   ·rw [ZdE h0]
    simp; omega
theorem Zah {P : Program} {fn : Func} {p u : Tmp} {ty : TypeId} (h : fn.results = #[.cell p ty, .tmp u]) (tmps : Array Value) (w : World) (g : Nat) (t : TypeId) (cs : Array Value) (fr : Nat × Nat) (d : TypeDesc)
  (hp : tmps.getD p undef = .pointer (some ⟨g, 0, none⟩)) (hg : w.heap[g]? = some (.cells cs t fr))
  (hu : P.underlying ty = some d) (hd : (match d with | .struct _ | .array _ _ => true | _ => false) = true) (hi : (P.info? ty).map (·.size) = some cs.size) :
  (results fn tmps).run P w = .ok (.tuple #[.agg cs, tmps.getD u undef]) w := by
 rw [results_cell_tmp h, hp]
 simp [asAddr, run_loadVar_row w g t ty cs fr d hg hu hd hi]
theorem Zk0 : (Tryz.prog.info? 268).map (·.size) = some 5 := by kernel_rfl
def Zel (k : Int) : Value :=
 if 1 <= k /\ k <= 9 then .tuple #[.agg #[.int .i64 (lo k), .int .i64 (hi k), .bool (hasS k), .bool (hasA k), .bool (hasB k)], .bool true]
 else .tuple #[.agg #[.int .i64 0, .int .i64 0, .bool false, .bool false, .bool false], .bool false]
set_option maxHeartbeats 1600000 in
theorem Zc2 (k : Int) (w : World) : Calls Tryz.prog 217 #[.int .i64 k] w fun e w' => e = .returned (Zel k) /\ Below w.heap.size w w' := by
 go_enter Tryz.func217, Tryz.ntmps217
 go_wp2
 all_goals refine bodyPost_ret (Zah rfl _ _ w.heap.size 268 _ (0, 0) _ rfl (heap_alloc_new _ _) Tryz.underlying268 rfl Zk0) rfl ⟨?_, (Below.refl _ _).alloc (Nat.le_refl _) _⟩
 all_goals simp only [beq_iff_eq, beq_eq_false_iff_ne] at *
 all_goals (try subst k)
 all_goals first | rfl | (rw [Zel, if_neg (by omega)]; rfl)
set_option maxHeartbeats 400000 in
theorem Zev (s : ByteArray) (b : Bool) (w : World) (hs : s.size <= maxLen) : Calls Tryz.prog 218 #[.string s, .bool b] w fun e w' => e = .returned (.bool (Zbg s b)) /\ w' = w := by
 cases b with
 | false =>
  go_enter Tryz.func218, Tryz.ntmps218
  go_wp2
  all_goals go_ret
  all_goals simp [Zbg]
 | true =>
  go_enter Tryz.func218, Tryz.ntmps218
  go_wp2_with fail
  refine (Zdf s _ hs).mono ?_
  rintro e w1 ⟨rfl, rfl⟩
  go_wp2
  go_ret
  simp [Zbg]
set_option maxHeartbeats 400000 in
theorem Zcw (p : Int) (b : Bool) (n : Int) (w : World) : Calls Tryz.prog 219 #[.int .i64 p, .bool b, .int .i64 n] w fun e w' => e = .returned (.bool (Zbe p b n)) /\ w' = w := by
 cases b with
 | false =>
  go_enter Tryz.func219, Tryz.ntmps219
  go_wp2
  all_goals go_ret
  all_goals simp [Zbe]
 | true =>
  go_enter Tryz.func219, Tryz.ntmps219
  go_wp2
  all_goals go_ret
  all_goals (refine ⟨retB ?_, rfl⟩; rw [Bool.eq_iff_iff]; simp [Zbe, *]; try omega)
set_option maxHeartbeats 1600000 in
theorem Zcz (x : Nd) (n : Int) (w : World) (hs : x.s.size <= maxLen) :
  Calls Tryz.prog 190 #[.agg #[.int .i64 x.k, .int .i64 x.n, .string x.s, .int .i64 x.a, .int .i64 x.b], .int .i64 n] w fun e w' => e = .returned (.bool (Zav x n)) /\ Below w.heap.size w w' := by
 go_enter Tryz.func190, Tryz.ntmps190
 go_wp2_with fail
 have hb0 : Below w.heap.size w (w.alloc (Obj.cells #[.int .i64 x.k, .int .i64 x.n, .string x.s, .int .i64 x.a, .int .i64 x.b] 210)) := (Below.refl _ _).alloc (Nat.le_refl _) _
 refine (Zc2 x.k _).mono ?_
 rintro e w1 ⟨rfl, hb1⟩
 have hbox := (hb1.block w.heap.size (by simp)).trans (heap_alloc_new _ _)
 have hcell : ∀ j, w1.cell? ⟨w.heap.size, j, none⟩ = #[Value.int .i64 x.k, .int .i64 x.n, .string x.s, .int .i64 x.a, .int .i64 x.b][j]? := fun j => cell_of_row w1 _ j _ _ _ hbox
 have c1 := hcell 1
 have c2 := hcell 2
 have c3 := hcell 3
 have c4 := hcell 4
 simp only [List.getElem?_toArray, List.getElem?_cons_succ, List.getElem?_cons_zero] at c1 c2 c3 c4
 have hbl : w.heap.size < w1.heap.size := (bl hbox)
 have hB1 : Below w.heap.size w w1 := hb0.trans (hb1.mono (by simp))
 clear hcell hbox hb0 hb1
 by_cases hk : 1 <= x.k /\ x.k <= 9
 ·rw [Zel, if_pos hk]
  by_cases h1 : lo x.k <= x.n /\ x.n <= hi x.k
  ·have HN : Hid (Zav x n = (Zbg x.s (hasS x.k) && Zbe x.a (hasA x.k) n && Zbe x.b (hasB x.k) n)) := by
    unfold Hid Zav; simp [hk, h1]
   obtain ⟨h1a, h1b⟩ := h1
   go_wp2_with fail
   refine (Zev _ _ _ hs).mono ?_
   rintro e w2 ⟨rfl, rfl⟩
   generalize hA : Zbg x.s (hasS x.k) = bA at HN ⊢
   clear hA
   cases bA with
   | false =>
    go_wp2
    go_ret
    exact ⟨by rw [HN.out]; rfl, hB1.alloc hB1.size _⟩
   | true =>
    go_wp2_with fail
    refine (Zcw _ _ _ _).mono ?_
    rintro e w2 ⟨rfl, rfl⟩
    generalize hA : Zbe x.a (hasA x.k) n = bA at HN ⊢
    clear hA
    cases bA with
    | false =>
     go_wp2
     go_ret
     exact ⟨by rw [HN.out]; rfl, hB1.alloc hB1.size _⟩
    | true =>
     go_wp2_with fail
     refine (Zcw _ _ _ _).mono ?_
     rintro e w2 ⟨rfl, rfl⟩
     go_wp2
     go_ret
     exact ⟨by rw [HN.out]; rfl, hB1.alloc hB1.size _⟩
  ·have HN : Hid (Zav x n = false) := by
    unfold Hid Zav
    rw [Bool.eq_false_iff]
    intro h
    simp only [Bool.and_eq_true, decide_eq_true_eq] at h
    exact h1 ⟨h.1.1.2, h.1.2⟩
   go_wp2_with fail
   all_goals go_ret
   all_goals first | exact ⟨by rw [HN.out]; rfl, hB1.alloc hB1.size _⟩ | (exfalso; omega)
 ·have HN : Hid (Zav x n = false) := by
   unfold Hid Zav
   rw [Bool.eq_false_iff]
   intro h
   simp only [Bool.and_eq_true, decide_eq_true_eq] at h
   exact hk h.1.1.1
  rw [Zel, if_neg hk]
  go_wp2_with fail
  all_goals go_ret
  all_goals exact ⟨by rw [HN.out]; rfl, hB1.alloc hB1.size _⟩
set_option maxHeartbeats 1600000 in
theorem ZeJ (v : Value) (xs : List Nd) (w : World) (R : NRow w v xs) :
  Calls Tryz.prog 152 #[.agg #[v]] w fun e w' => e = .returned (.bool (Zaq xs)) /\ Below w.heap.size w w' := by
 have R' := R
 obtain ⟨ao, cap, rfl, hcap, hm, hz, hcell⟩ := R'
 by_cases hlen : xs.length <= 3000
 ·have HP : Hid (Zaq xs = ZaA (xs.drop 0) 0) := by unfold Hid Zaq; simp [hlen]
  go_enter Tryz.func152, Tryz.ntmps152
  go_wp2_with fail
  go_loopw [12] (fun i wr => ∃ k : Nat, k <= xs.length /\ i = .int .i64 k /\ Hid (Zaq xs = ZaA (xs.drop k) k) /\ Below w.heap.size w wr) (fun i _ => xs.length - (intOf i).toNat)
  case atStart => exact ⟨0, by omega, rfl, HP.out, (Below.refl _ _).alloc (Nat.le_refl _) _⟩
  case round =>
   clear HP
   obtain ⟨k, hk, rfl, HP, hb⟩ := hrel
   by_cases hlt : k < xs.length
   ·obtain ⟨g, o, rfl, hg, hcell⟩ := hcell (by intro e; subst e; simp at hlt)
    obtain ⟨x, hx⟩ : ∃ x, xs[k]? = some x := ⟨xs[k], by simp [hlt]⟩
    obtain ⟨c0, c1, c2, c3, c4⟩ := (hcell k x hx).below hb hg
    have HS : Hid (ZaA (xs.drop k) k = (Zav x k && ZaA (xs.drop (k + 1)) (k + 1))) := Zda xs k x hx
    have hxs := hz x (List.mem_of_getElem? hx)
    clear hcell hx
    go_wp2_with fail
    refine (Zcz x _ _ hxs).mono ?_
    rintro e w2 ⟨rfl, hb2⟩
    have hB : Below w.heap.size w w2 := (hb.alloc hb.size _).trans (hb2.mono (by have := hb.size; simp; omega))
    clear c0 c1 c2 c3 c4 hb2
    have HN : Hid (Zaq xs = (Zav x k && ZaA (xs.drop (k + 1)) (k + 1))) := by unfold Hid; rw [HP.out, HS.out]
    clear HS HP
    generalize hA : Zav x k = bA at HN ⊢
    clear hA
    cases bA with
    | false =>
     go_wp2
     go_ret
     exact ⟨by rw [HN.out]; rfl, hB⟩
    | true =>
     go_wp2
     go_roundw
     case rel => exact ⟨k + 1, by omega, by go_num, HN.out, hB⟩
     case measure => simp [intOf]; omega
   ·have e : k = xs.length := by omega
    subst e
    have HT : Hid (Zaq xs = true) := by unfold Hid; rw [HP.out, List.drop_length]; rfl
    clear HP
    go_wp2
    go_ret
    exact ⟨by rw [HT.out]; rfl, hb⟩
 ·have HP : Hid (Zaq xs = false) := by unfold Hid Zaq; simp [hlen]
  go_enter Tryz.func152, Tryz.ntmps152
  go_wp2_with fail
  go_ret
  exact ⟨by rw [HP.out]; rfl, (Below.refl _ _).alloc (Nat.le_refl _) _⟩
def iv (zs : List Int) : List Value := zs.map (Value.int .i64)
theorem Zdl (zs : List Int) (i : Nat) (h : i < zs.length) : (iv zs)[i]? = some (.int .i64 (zs.getD i 0)) := by simp [iv, List.getD, h]
theorem ZkB (zs : List Int) (i : Nat) (z : Int) : (iv zs).set i (.int .i64 z) = iv (zs.set i z) := by simp [iv, List.map_set]
theorem Zh6 (a b : List Int) : iv (a ++ b) = iv a ++ iv b := by simp [iv]
def szA (acc : List Int) (x : Nd) : Int := if hasA x.k then acc.getD x.a.toNat 0 else 0
def szB (acc : List Int) (x : Nd) : Int := if hasB x.k then acc.getD x.b.toNat 0 else 0
def szN (acc : List Int) (x : Nd) : Int := min (1 + szA acc x + szB acc x) 1000000000
def Zkl : List Nd -> List Int -> List Int
 | [], acc => acc
 | x :: xs, acc => Zkl xs (acc ++ [szN acc x])
def ZiE (xs : List Nd) (k : Nat) : List Int := Zkl (xs.take k) []
theorem ZgQ (xs : List Nd) (i0 i : Nat) (x : Nd) (h : ZaA xs i0 = true) (hx : xs[i]? = some x) : Zav x (i0 + i : Nat) = true := by
 induction xs generalizing i i0 with
 | nil => simp at hx
 | cons y ys ih =>
  simp only [ZaA, Bool.and_eq_true] at h
  cases i with
  | zero => simp at hx; subst hx; exact h.1
  | succ i =>
   have := ih (i0 + 1) i h.2 (by simpa using hx)
   rwa [show i0 + 1 + i = i0 + (i + 1) by omega] at this
theorem ZbF {xs : List Nd} (h : Zaq xs = true) {i : Nat} {x : Nd} (hx : xs[i]? = some x) : Zav x i = true := by
 simp only [Zaq, Bool.and_eq_true] at h
 have := ZgQ xs 0 i x h.2 hx
 simpa using this
theorem ZgP {x : Nd} {n : Int} (h : Zav x n = true) : 1 <= x.k /\ x.k <= 9 := by
 simp only [Zav, Bool.and_eq_true, decide_eq_true_eq] at h
 exact h.1.1.1
theorem ZbM {x : Nd} {n : Int} (h : Zav x n = true) (ha : hasA x.k = true) : 0 <= x.a /\ x.a < n := by
 simp only [Zav, Bool.and_eq_true, decide_eq_true_eq] at h
 have := h.2.1.2
 rw [ha] at this
 simpa [Zbe] using this
theorem ZbQ {x : Nd} {n : Int} (h : Zav x n = true) (ha : hasB x.k = true) : 0 <= x.b /\ x.b < n := by
 simp only [Zav, Bool.and_eq_true, decide_eq_true_eq] at h
 have := h.2.2
 rw [ha] at this
 simpa [Zbe] using this
theorem Za0 {xs : List Nd} (h : Zaq xs = true) : xs.length <= 3000 := by
 simp only [Zaq, Bool.and_eq_true, decide_eq_true_eq] at h; exact h.1
def hasI (xs : List Nd) (v : Int) : Bool := decide (0 <= v) && decide (v < xs.length)
def sizeR (xs : List Nd) (v : Int) : Int := if Zaq xs && hasI xs v then (ZiE xs xs.length).getD v.toNat 0 else 0
set_option maxHeartbeats 400000 in
theorem Zfi (v : Value) (xs : List Nd) (a : Int) (w : World) (R : NRow w v xs) :
  Calls Tryz.prog 244 #[.agg #[v], .int .i64 a] w fun e w' => e = .returned (.bool (hasI xs a)) /\ Below w.heap.size w w' := by
 obtain ⟨ao, cap, rfl, _⟩ := R
 go_enter Tryz.func244, Tryz.ntmps244
 go_wp2
 all_goals go_ret
 all_goals (refine ⟨retB ?_, (Below.refl _ _).alloc (Nat.le_refl _) _⟩; rw [Bool.eq_iff_iff]; simp [hasI, *]; try omega)
def ZbE (x : Nd) : List Int :=
 if x.k = 2 \/ x.k = 8 \/ x.k = 9 then encI x.n else if x.k = 3 then encI (x.n + 1000000000) else if x.k = 4 then pt x.s
 else if x.k = 5 then encI x.a ++ encI x.b else if x.k = 6 then encI x.n ++ encI x.a else if x.k = 7 then encI x.a else []
def ZaR (x : Nd) : List Int := encI x.k ++ ZbE x
def Zb8 (xs : List Nd) : List Int := encI xs.length ++ xs.flatMap ZaR
def NdOk (x : Nd) : Prop := (1 <= x.k /\ x.k <= 9) /\ (-1000000000 <= x.n /\ x.n <= 1000000000) /\ x.s.size <= 12 /\ (x.a <= 3000 /\ x.b <= 3000)
theorem ZhT {x : Nd} {i : Int} (h : Zav x i = true) (hle : i <= 3000) : NdOk x := by
 have hlo : -1000000000 <= lo x.k := by unfold lo; split <;> decide
 have hhi : hi x.k <= 1000000000 := by
  unfold hi
  split
  ·decide
  ·split
   ·decide
   ·split <;> decide
 simp only [Zav, Bool.and_eq_true, decide_eq_true_eq] at h
 obtain ⟨⟨⟨⟨h1, h2⟩, h3⟩, h4⟩, ⟨h5, h6⟩, h7⟩ := h
 refine ⟨⟨h1, h2⟩, ⟨by omega, by omega⟩, ?_, ?_, ?_⟩
 ·unfold Zbg at h5
  split at h5
  ·simp only [ZbG, Bool.and_eq_true, decide_eq_true_eq] at h5
   exact h5.1.2
  ·have e : x.s.toList = [] := by simpa using h5
   rw [ByteArray.toList_eq] at e
   have : x.s.size = 0 := by
    rw [show x.s.size = x.s.data.toList.length by rw [Array.length_toList]; rfl, e]; rfl
   omega
 ·unfold Zbe at h6
  split at h6
  ·simp only [Bool.and_eq_true, decide_eq_true_eq] at h6; omega
  ·have : x.a = 0 := by simpa using h6
   omega
 ·unfold Zbe at h7
  split at h7
  ·simp only [Bool.and_eq_true, decide_eq_true_eq] at h7; omega
  ·have : x.b = 0 := by simpa using h7
   omega
theorem Zen {xs : List Nd} (h : Zaq xs = true) : ∀ x ∈ xs, NdOk x := by
 intro x hx
 obtain ⟨i, hi⟩ := List.getElem?_of_mem hx
 have hl : i < xs.length := (List.getElem?_eq_some_iff.1 hi).1
 have hm : xs.length <= 3000 := by simp only [Zaq, Bool.and_eq_true, decide_eq_true_eq] at h; exact h.1
 exact ZhT (ZbF h hi) (by omega)
theorem Zhp (x : Nd) (h : x.s.size <= 12) : (ZbE x).length <= 21 := by
 have e := Zar
 unfold ZbE
 split
 ·have := e x.n; omega
 ·split
  ·have := e (x.n + 1000000000); omega
  ·split
   ·rw [ZcT]; have := e x.s.size; omega
   ·split
    ·rw [List.length_append]; have := e x.a; have := e x.b; omega
    ·split
     ·rw [List.length_append]; have := e x.n; have := e x.a; omega
     ·split
      ·have := e x.a; omega
      ·simp
theorem Ziy (x : Nd) (h : x.s.size <= 12) : (ZaR x).length <= 30 := by
 have := Zhp x h
 have := Zar x.k
 unfold ZaR
 rw [List.length_append]
 omega
theorem ZiA (xs : List Nd) (h : ∀ x ∈ xs, NdOk x) : (xs.flatMap ZaR).length <= 30 * xs.length := by
 induction xs with
 | nil => simp
 | cons x xs ih =>
  have h1 := Ziy x (h x List.mem_cons_self).2.2.1
  have h2 := ih (fun y hy => h y (List.mem_cons_of_mem _ hy))
  rw [List.flatMap_cons, List.length_append, List.length_cons]
  omega
theorem Zjg (x : Nd) : ∀ z ∈ ZbE x, 0 <= z /\ z <= 255 := by
 intro z hz
 unfold ZbE at hz
 split at hz
 ·exact ZbT _ z hz
 ·split at hz
  ·exact ZbT _ z hz
  ·split at hz
   ·exact ZkJ _ z hz
   ·split at hz
    ·rcases List.mem_append.1 hz with h | h <;> exact ZbT _ z h
    ·split at hz
     ·rcases List.mem_append.1 hz with h | h <;> exact ZbT _ z h
     ·split at hz
      ·exact ZbT _ z hz
      ·simp at hz
theorem Zjf (xs : List Nd) : ∀ z ∈ xs.flatMap ZaR, 0 <= z /\ z <= 255 := by
 intro z hz
 obtain ⟨x, _, h⟩ := List.mem_flatMap.1 hz
 unfold ZaR at h
 rcases List.mem_append.1 h with h | h
 ·exact ZbT _ z h
 ·exact Zjg x z h
theorem Zgd (xs : List Nd) : ∀ z ∈ Zb8 xs, 0 <= z /\ z <= 255 := by
 intro z hz
 unfold Zb8 at hz
 rcases List.mem_append.1 hz with h | h
 ·exact ZbT _ z h
 ·exact Zjf xs z h
theorem ZgH (xs : List Nd) (k : Nat) (x : Nd) (h : xs[k]? = some x) : (xs.take (k + 1)).flatMap ZaR = (xs.take k).flatMap ZaR ++ ZaR x := by
 rw [List.take_add_one, h]; simp
def Lies (zs : List Int) (a : Int) (L : List Int) (b : Int) : Prop := 0 <= a /\ b = a + L.length /\ ∃ rest, zs.drop a.toNat = L ++ rest
theorem Lies.append {zs L M : List Int} {a b c : Int} (h : Lies zs a L b) (k : Lies zs b M c) : Lies zs a (L ++ M) c := by
 obtain ⟨h1, h2, r, h3⟩ := h
 obtain ⟨k1, k2, t, k3⟩ := k
 refine ⟨h1, by rw [k2, h2]; simp; omega, t, ?_⟩
 have e : b.toNat = a.toNat + L.length := by omega
 rw [e, <- List.drop_drop, h3, List.drop_left] at k3
 rw [h3, k3, List.append_assoc]
theorem Lies.nil {zs : List Int} {a : Int} (h : 0 <= a) : Lies zs a [] a := ⟨h, by simp, _, rfl⟩
theorem ZjH {l : List Int} (h : ∀ z ∈ l, 0 <= z /\ z <= 255) : sb (strOfNums l) = l := by
 unfold sb strOfNums
 simp only [List.map_map]
 conv => rhs; rw [<- List.map_id l]
 apply List.map_congr_left
 intro z hz
 have := h z hz
 simp only [Function.comp, id]
 rw [UInt8.toNat_ofNat']
 omega
theorem ZjV {zs : List Int} {a next : Int} {s : ByteArray} (hz : ∀ z ∈ zs, 0 <= z /\ z <= 255) (h : gT zs a = (s, next, true)) : Lies zs a (pt s) next := by
 unfold gT at h
 split at h
 ·rename_i hc
  obtain ⟨h1, h2⟩ := hc
  have hg : gN zs a = ((gN zs a).1, (gN zs a).2.1, true) := by rw [<- h1]
  obtain ⟨g1, g2, g3, r, g4⟩ := Zgh hz hg
  generalize (gN zs a).1 = n at *
  generalize (gN zs a).2.1 = m at *
  cases h
  have hm : 0 <= m := by omega
  have hlen : ((zs.drop m.toNat).take n.toNat).length = n.toNat := by rw [List.length_take, List.length_drop]; omega
  have hsb : sb (strOfNums ((zs.drop m.toNat).take n.toNat)) = (zs.drop m.toNat).take n.toNat := ZjH (fun z h => hz z (List.mem_of_mem_drop (List.mem_of_mem_take h)))
  have hsz : ((strOfNums ((zs.drop m.toNat).take n.toNat)).size : Int) = n := by
   have := congrArg List.length hsb
   rw [Zbj, hlen] at this
   omega
  have L1 : Lies zs a (encI n) m := ⟨g1, g3, r, g4⟩
  have L2 : Lies zs m ((zs.drop m.toNat).take n.toNat) (m + n) := ⟨hm, by rw [hlen]; omega, (zs.drop m.toNat).drop n.toNat, (List.take_append_drop _ _).symm⟩
  have := L1.append L2
  unfold pt
  rw [hsz, hsb]
  exact this
 ·cases h
def rd1 (zs : List Int) (a : Int) : Option (Int × Int) := if (gN zs a).2.2 then some ((gN zs a).1, (gN zs a).2.1) else none
def rdB (zs : List Int) (k a : Int) : Option (Nd × Int) :=
 if k = 1 then some (⟨1, 0, ByteArray.empty, 0, 0⟩, a)
 else if k = 2 \/ k = 8 \/ k = 9 then (rd1 zs a).map fun p => (⟨k, p.1, ByteArray.empty, 0, 0⟩, p.2)
 else if k = 3 then (rd1 zs a).map fun p => (⟨3, p.1 - 1000000000, ByteArray.empty, 0, 0⟩, p.2)
 else if k = 4 then (if (gT zs a).2.2 then some (⟨4, 0, (gT zs a).1, 0, 0⟩, (gT zs a).2.1) else none)
 else if k = 5 then (rd1 zs a).bind fun p => (rd1 zs p.2).map fun q => (⟨5, 0, ByteArray.empty, p.1, q.1⟩, q.2)
 else if k = 6 then (rd1 zs a).bind fun p => (rd1 zs p.2).map fun q => (⟨6, p.1, ByteArray.empty, q.1, 0⟩, q.2)
 else if k = 7 then (rd1 zs a).map fun p => (⟨7, 0, ByteArray.empty, p.1, 0⟩, p.2)
 else none
def rdNd (zs : List Int) (a : Int) : Option (Nd × Int) := (rd1 zs a).bind fun p => rdB zs p.1 p.2
def Zbd (zs : List Int) : Nat -> Int -> Option (List Nd × Int)
 | 0, a => some ([], a)
 | n + 1, a => (rdNd zs a).bind fun p => (Zbd zs n p.2).map fun q => (p.1 :: q.1, q.2)
theorem Za9 {zs : List Int} {a x b : Int} (hz : ∀ z ∈ zs, 0 <= z /\ z <= 255) (h : rd1 zs a = some (x, b)) : Lies zs a (encI x) b /\ 0 <= x := by
 unfold rd1 at h
 split at h
 ·rename_i h1
  cases h
  have hg : gN zs a = ((gN zs a).1, (gN zs a).2.1, true) := by rw [<- h1]
  obtain ⟨g1, g2, g3, g4⟩ := Zgh hz hg
  exact ⟨⟨g1, g3, g4⟩, g2⟩
 ·cases h
theorem ZiS {zs : List Int} {k a b : Int} {x : Nd} (hz : ∀ z ∈ zs, 0 <= z /\ z <= 255) (ha : 0 <= a) (h : rdB zs k a = some (x, b)) : Lies zs a (ZbE x) b /\ x.k = k := by
 unfold rdB at h
 split at h
 ·rename_i hk; subst hk
  cases h
  exact ⟨Lies.nil ha, rfl⟩
 split at h
 ·rename_i hk
  rw [Option.map_eq_some_iff] at h
  obtain ⟨⟨n, c⟩, h1, h2⟩ := h
  cases h2
  refine ⟨?_, rfl⟩
  unfold ZbE
  rw [if_pos hk]
  exact (Za9 hz h1).1
 rename_i hk1 hk2
 split at h
 ·rename_i hk; subst hk
  rw [Option.map_eq_some_iff] at h
  obtain ⟨⟨n, c⟩, h1, h2⟩ := h
  cases h2
  refine ⟨?_, rfl⟩
  show Lies zs a (encI (n - 1000000000 + 1000000000)) c
  rw [show n - 1000000000 + 1000000000 = n by omega]
  exact (Za9 hz h1).1
 split at h
 ·rename_i hk; subst hk
  split at h
  ·rename_i hg
   cases h
   refine ⟨?_, rfl⟩
   have e : gT zs a = ((gT zs a).1, (gT zs a).2.1, true) := by rw [<- hg]
   exact ZjV hz e
  ·cases h
 split at h
 ·rename_i hk; subst hk
  rw [Option.bind_eq_some_iff] at h
  obtain ⟨⟨n, c⟩, h1, h2⟩ := h
  rw [Option.map_eq_some_iff] at h2
  obtain ⟨⟨m, d⟩, h3, h4⟩ := h2
  cases h4
  exact ⟨(Za9 hz h1).1.append (Za9 hz h3).1, rfl⟩
 split at h
 ·rename_i hk; subst hk
  rw [Option.bind_eq_some_iff] at h
  obtain ⟨⟨n, c⟩, h1, h2⟩ := h
  rw [Option.map_eq_some_iff] at h2
  obtain ⟨⟨m, d⟩, h3, h4⟩ := h2
  cases h4
  exact ⟨(Za9 hz h1).1.append (Za9 hz h3).1, rfl⟩
 split at h
 ·rename_i hk; subst hk
  rw [Option.map_eq_some_iff] at h
  obtain ⟨⟨n, c⟩, h1, h2⟩ := h
  cases h2
  exact ⟨(Za9 hz h1).1, rfl⟩
 ·cases h
theorem ZhA {zs : List Int} {a b : Int} {x : Nd} (hz : ∀ z ∈ zs, 0 <= z /\ z <= 255) (h : rdNd zs a = some (x, b)) : Lies zs a (ZaR x) b := by
 unfold rdNd at h
 rw [Option.bind_eq_some_iff] at h
 obtain ⟨⟨k, c⟩, h1, h2⟩ := h
 obtain ⟨l1, _⟩ := Za9 hz h1
 obtain ⟨l2, hk⟩ := ZiS hz (by have := l1.1; have := l1.2.1; omega) h2
 unfold ZaR
 rw [hk]
 exact l1.append l2
theorem Zcq {zs : List Int} (hz : ∀ z ∈ zs, 0 <= z /\ z <= 255) : ∀ (n : Nat) (a b : Int) (xs : List Nd), 0 <= a -> Zbd zs n a = some (xs, b) -> Lies zs a (xs.flatMap ZaR) b /\ xs.length = n
 | 0, a, b, xs, ha, h => by cases h; exact ⟨Lies.nil ha, rfl⟩
 | n + 1, a, b, xs, ha, h => by
  rw [Zbd, Option.bind_eq_some_iff] at h
  obtain ⟨⟨x, c⟩, h1, h2⟩ := h
  rw [Option.map_eq_some_iff] at h2
  obtain ⟨⟨ys, d⟩, h3, h4⟩ := h2
  cases h4
  have l1 := ZhA hz h1
  obtain ⟨l2, hl⟩ := Zcq hz n c d ys (by have := l1.1; have := l1.2.1; omega) h3
  exact ⟨l1.append l2, by simp [hl]⟩
theorem Zgj (post : List Int) (f : Nat) (x : Int) (h0 : 0 <= x) (hl : x < lim (f + 1)) : scan (f + 1) (enc (f + 1) x ++ post) = some (enc (f + 1) x) := by
 induction f generalizing x with
 | zero =>
  have hx : x < 128 := by simpa [lim] using hl
  rw [ZaY 0 x hx]; simp [scan, hx]
 | succ f ih =>
  by_cases hx : x < 128
  ·rw [ZaY _ x hx]; simp [scan, hx]
  ·obtain ⟨f', hf, hl'⟩ := ZcK (f + 1) x (by omega) hl
   rw [ZbX _ x (by omega), List.cons_append]
   simp only [scan]
   rw [if_neg (by omega), ih (x / 128) (by omega) hl']
   rfl
theorem ZjU (f : Nat) (x : Int) (h0 : 0 <= x) (hl : x < lim (f + 1)) : val (enc (f + 1) x) = x := by
 induction f generalizing x with
 | zero =>
  have hx : x < 128 := by simpa [lim] using hl
  rw [ZaY 0 x hx]; simp only [val]; omega
 | succ f ih =>
  by_cases hx : x < 128
  ·rw [ZaY _ x hx]; simp only [val]; omega
  ·obtain ⟨f', hf, hl'⟩ := ZcK (f + 1) x (by omega) hl
   rw [ZbX _ x (by omega)]
   simp only [val]
   rw [ih (x / 128) (by omega) hl']
   omega
theorem Zjb (f : Nat) (x : Int) (h0 : 0 < x) (hl : x < lim (f + 1)) : (enc (f + 1) x).getLast? ≠ some 0 := by
 induction f generalizing x with
 | zero =>
  have hx : x < 128 := by simpa [lim] using hl
  rw [ZaY 0 x hx]; simp; omega
 | succ f ih =>
  by_cases hx : x < 128
  ·rw [ZaY _ x hx]; simp; omega
  ·obtain ⟨f', hf, hl'⟩ := ZcK (f + 1) x (by omega) hl
   rw [ZbX _ x (by omega)]
   have hne : enc (f + 1) (x / 128) ≠ [] := by
    intro e
    have := Zgj [] f (x / 128) (by omega) hl'
    rw [e] at this
    simp [scan] at this
   rw [List.getLast?_cons_of_ne_nil hne]
   exact ih (x / 128) (by omega) hl'
theorem Zd8 {x : Int} (h : x <= 9223372036854775807) : x < lim (8 + 1) := by
 rw [ZdS]; omega
theorem ZjE (pre post : List Int) (x : Int) (h0 : 0 <= x) (h1 : x <= 9223372036854775807) : gN (pre ++ (enc 9 x ++ post)) (pre.length : Int) = (x, (pre.length : Int) + (enc 9 x).length, true) := by
 have hs : scan 9 ((pre ++ (enc 9 x ++ post)).drop pre.length) = some (enc 9 x) := by
  rw [List.drop_left]
  exact Zgj post 8 x h0 (Zd8 h1)
 have hneg : ¬ (pre.length : Int) < 0 := by omega
 simp only [gN, hneg, if_false, Int.toNat_natCast, hs]
 rw [if_neg, ZjU 8 x h0 (Zd8 h1)]
 intro hbad
 rcases Int.lt_or_eq_of_le h0 with h | h
 ·exact Zjb 8 x h (Zd8 h1) hbad.2
 ·subst h
  have := hbad.1
  rw [ZaY 8 0 (by omega)] at this
  simp at this
theorem ZeE (s : ByteArray) : strOfNums (sb s) = s := by
 have e0 : ∀ l : List UInt8, (l.map fun b => (b.toNat : Int)).map (fun n => UInt8.ofNat n.toNat) = l := by
  intro l
  induction l with
  | nil => rfl
  | cons b l ih => simp only [List.map_cons, ih]; simp
 have e : (sb s).map (fun n => UInt8.ofNat n.toNat) = s.data.toList := e0 _
 unfold strOfNums
 rw [e]
def num8 (zs : List Int) (at_ : Int) (ok : Bool) : Int × Int × Bool := if ok && (gN zs at_).2.2 then ((gN zs at_).1, (gN zs at_).2.1, true) else (0, at_, false)
def rdP (zs : List Int) (a : Int) : Option (List Nd × Int) :=
 (rd1 zs a).bind fun p => if p.1 > 3000 then none else (Zbd zs p.1.toNat p.2).bind fun q => if Zaq q.1 then some q else none
def sB (zs : List Int) (k a : Int) (ok : Bool) : Nd × Int × Bool :=
 if k = 2 \/ k = 8 \/ k = 9 then (⟨k, (num8 zs a ok).1, ByteArray.empty, 0, 0⟩, (num8 zs a ok).2)
 else if k = 3 then (⟨k, (num8 zs a ok).1 - 1000000000, ByteArray.empty, 0, 0⟩, (num8 zs a ok).2)
 else if k = 4 then (⟨k, 0, (gT zs a).1, 0, 0⟩, (gT zs a).2.1, ok && (gT zs a).2.2)
 else if k = 5 then (⟨k, 0, ByteArray.empty, (num8 zs a ok).1, (num8 zs (num8 zs a ok).2.1 (num8 zs a ok).2.2).1⟩, (num8 zs (num8 zs a ok).2.1 (num8 zs a ok).2.2).2)
 else if k = 6 then (⟨k, (num8 zs a ok).1, ByteArray.empty, (num8 zs (num8 zs a ok).2.1 (num8 zs a ok).2.2).1, 0⟩, (num8 zs (num8 zs a ok).2.1 (num8 zs a ok).2.2).2)
 else if k = 7 then (⟨k, 0, ByteArray.empty, (num8 zs a ok).1, 0⟩, (num8 zs a ok).2)
 else (⟨k, 0, ByteArray.empty, 0, 0⟩, a, ok)
def sN (zs : List Int) (a : Int) : Nd × Int × Bool := sB zs (num8 zs a true).1 (num8 zs a true).2.1 (num8 zs a true).2.2
def sNs (zs : List Int) : Nat -> List Nd -> Int -> Bool -> List Nd × Int × Bool
 | 0, xs, a, ok => (xs, a, ok)
 | m + 1, xs, a, ok => if ok then sNs zs m (xs ++ [(sN zs a).1]) (sN zs a).2.1 (sN zs a).2.2 else (xs, a, false)
def Zip (zs : List Int) (a : Int) (ok : Bool) : Bool := (num8 zs a ok).2.2 && decide ((num8 zs a ok).1 <= 3000)
def sP (zs : List Int) (a : Int) (ok : Bool) : List Nd × Int × Bool := sNs zs (num8 zs a ok).1.toNat [] (num8 zs a ok).2.1 (Zip zs a ok)
def sOk (zs : List Int) (a : Int) (ok : Bool) : Bool := (sP zs a ok).2.2 && decide ((sP zs a ok).2.1 = zs.length) && Zaq (sP zs a ok).1
theorem Zbb (zs : List Int) (a : Int) : (num8 zs a true).2.2 = (rd1 zs a).isSome /\ ∀ p, rd1 zs a = some p -> num8 zs a true = (p.1, p.2, true) := by
 unfold num8 rd1
 cases (gN zs a).2.2 <;> simp
theorem Zcr (zs : List Int) (a : Int) : num8 zs a false = (0, a, false) := by simp [num8]
theorem ZaL {zs : List Int} {a : Int} (h : rd1 zs a = none) : num8 zs a true = (0, a, false) := by
 unfold num8 rd1 at *
 cases hg : (gN zs a).2.2 with
 | false => simp
 | true => rw [hg] at h; cases h
theorem Zcc {zs : List Int} {a : Int} {p : Int × Int} (h : rd1 zs a = some p) : 0 <= p.1 /\ p.1 <= 9223372036854775807 /\ 0 <= p.2 /\ p.2 <= zs.length := by
 unfold rd1 at h
 split at h
 ·rename_i hk
  cases h
  have := Zjt zs a (gN zs a).1 (gN zs a).2.1 (by rw [<- hk])
  exact this
 ·cases h
theorem Zg4 (zs : List Int) (a : Int) (ok : Bool) (h0 : 0 <= a) (h1 : a <= zs.length) : 0 <= (num8 zs a ok).1 /\ (num8 zs a ok).1 <= 9223372036854775807 /\ 0 <= (num8 zs a ok).2.1 /\ (num8 zs a ok).2.1 <= zs.length := by
 cases ok with
 | false => rw [Zcr]; exact ⟨by omega, by omega, h0, h1⟩
 | true =>
  cases hr : rd1 zs a with
  | none => rw [ZaL hr]; exact ⟨by omega, by omega, h0, h1⟩
  | some p => rw [(Zbb zs a).2 p hr]; exact Zcc hr
theorem Zkm (zs : List Int) (k a : Int) : (∀ p, rdB zs k a = some p -> sB zs k a true = (p.1, p.2, true)) /\ (rdB zs k a = none -> (sB zs k a true).2.2 = false \/ ∀ i, Zav (sB zs k a true).1 i = false) := by
 unfold rdB sB
 by_cases h1 : k = 1
 ·subst h1
  rw [if_pos rfl, if_neg (by omega), if_neg (by omega), if_neg (by omega), if_neg (by omega), if_neg (by omega), if_neg (by omega)]
  exact ⟨fun p h => by (cases h; rfl), fun h => by (cases h)⟩
 rw [if_neg h1]
 by_cases h2 : k = 2 \/ k = 8 \/ k = 9
 ·rw [if_pos h2, if_pos h2]
  cases hr : rd1 zs a with
  | none => rw [ZaL hr]; exact ⟨fun p h => by (simp at h), fun _ => .inl rfl⟩
  | some q => rw [(Zbb zs a).2 q hr]; exact ⟨fun p h => by (simp at h; subst h; rfl), fun h => by (simp at h)⟩
 rw [if_neg h2, if_neg h2]
 by_cases h3 : k = 3
 ·subst h3
  rw [if_pos rfl, if_pos rfl]
  cases hr : rd1 zs a with
  | none => rw [ZaL hr]; exact ⟨fun p h => by (simp at h), fun _ => .inl rfl⟩
  | some q => rw [(Zbb zs a).2 q hr]; exact ⟨fun p h => by (simp at h; subst h; rfl), fun h => by (simp at h)⟩
 rw [if_neg h3, if_neg h3]
 by_cases h4 : k = 4
 ·subst h4
  rw [if_pos rfl, if_pos rfl]
  cases hg : (gT zs a).2.2 with
  | false => exact ⟨fun p h => by (simp at h), fun _ => .inl (by simp)⟩
  | true => exact ⟨fun p h => by (simp at h; subst h; rfl), fun h => by (simp at h)⟩
 rw [if_neg h4, if_neg h4]
 by_cases h5 : k = 5
 ·subst h5
  rw [if_pos rfl, if_pos rfl]
  cases hr : rd1 zs a with
  | none => rw [ZaL hr]; exact ⟨fun p h => by (simp at h), fun _ => .inl (by simp only [Zcr])⟩
  | some q =>
   rw [(Zbb zs a).2 q hr]
   simp only [Option.bind_some]
   cases hr2 : rd1 zs q.2 with
   | none => rw [ZaL hr2]; exact ⟨fun p h => by (simp at h), fun _ => .inl rfl⟩
   | some t => rw [(Zbb zs q.2).2 t hr2]; exact ⟨fun p h => by (simp at h; subst h; rfl), fun h => by (simp at h)⟩
 rw [if_neg h5, if_neg h5]
 by_cases h6 : k = 6
 ·subst h6
  rw [if_pos rfl, if_pos rfl]
  cases hr : rd1 zs a with
  | none => rw [ZaL hr]; exact ⟨fun p h => by (simp at h), fun _ => .inl (by simp only [Zcr])⟩
  | some q =>
   rw [(Zbb zs a).2 q hr]
   simp only [Option.bind_some]
   cases hr2 : rd1 zs q.2 with
   | none => rw [ZaL hr2]; exact ⟨fun p h => by (simp at h), fun _ => .inl rfl⟩
   | some t => rw [(Zbb zs q.2).2 t hr2]; exact ⟨fun p h => by (simp at h; subst h; rfl), fun h => by (simp at h)⟩
 rw [if_neg h6, if_neg h6]
 by_cases h7 : k = 7
 ·subst h7
  rw [if_pos rfl, if_pos rfl]
  cases hr : rd1 zs a with
  | none => rw [ZaL hr]; exact ⟨fun p h => by (simp at h), fun _ => .inl rfl⟩
  | some q => rw [(Zbb zs a).2 q hr]; exact ⟨fun p h => by (simp at h; subst h; rfl), fun h => by (simp at h)⟩
 rw [if_neg h7, if_neg h7]
 refine ⟨fun p h => by (cases h), fun _ => Or.inr fun i => ?_⟩
 unfold Zav
 have : (decide (1 <= k) && decide (k <= 9)) = false := by
  rcases Int.lt_or_le k 1 with h | h
  ·rw [decide_eq_false (by omega)]; rfl
  ·rcases Int.lt_or_le 9 k with h' | h'
   ·rw [decide_eq_false (p := k <= 9) (by omega), Bool.and_false]
   ·omega
 show (decide (1 <= k) && decide (k <= 9) && _ && _ && _) = false
 rw [this]
 rfl
theorem ZkF (zs : List Int) (a : Int) : (∀ p, rdNd zs a = some p -> sN zs a = (p.1, p.2, true)) /\ (rdNd zs a = none -> (sN zs a).2.2 = false \/ ∀ i, Zav (sN zs a).1 i = false) := by
 unfold rdNd sN
 cases hr : rd1 zs a with
 | none =>
  rw [ZaL hr]
  refine ⟨fun p h => by (simp at h), fun _ => .inl ?_⟩
  simp [sB]
 | some q =>
  rw [(Zbb zs a).2 q hr]
  exact Zkm zs q.1 q.2
theorem ZbB (xs ys : List Nd) (i : Nat) : ZaA (xs ++ ys) i = (ZaA xs i && ZaA ys (i + xs.length)) := by
 induction xs generalizing i with
 | nil => simp [ZaA]
 | cons x xs ih => simp only [List.cons_append, ZaA, List.length_cons]; rw [ih, Bool.and_assoc, show i + 1 + xs.length = i + (xs.length + 1) by omega]
theorem ZeM (zs : List Int) : ∀ (m : Nat) (xs : List Nd) (a : Int) (ok : Bool), ∃ ys, (sNs zs m xs a ok).1 = xs ++ ys
 | 0, xs, a, ok => ⟨[], by simp [sNs]⟩
 | m + 1, xs, a, ok => by
  rw [sNs]
  split
  ·obtain ⟨ys, h⟩ := ZeM zs m (xs ++ [(sN zs a).1]) (sN zs a).2.1 (sN zs a).2.2
   exact ⟨[(sN zs a).1] ++ ys, by rw [h, List.append_assoc]⟩
  ·exact ⟨[], by simp⟩
theorem ZbR (zs : List Int) (m : Nat) (xs : List Nd) (a : Int) : sNs zs m xs a false = (xs, a, false) := by cases m <;> rfl
theorem ZjL (zs : List Int) : ∀ (m : Nat) (xs : List Nd) (a : Int),
  (∀ p, Zbd zs m a = some p -> sNs zs m xs a true = (xs ++ p.1, p.2, true)) /\ (Zbd zs m a = none -> (sNs zs m xs a true).2.2 = false \/ ZaA (sNs zs m xs a true).1 0 = false)
 | 0, xs, a => ⟨fun p h => by cases h; simp [sNs], fun h => by cases h⟩
 | m + 1, xs, a => by
  rw [Zbd, sNs, if_pos rfl]
  obtain ⟨n1, n2⟩ := ZkF zs a
  cases hr : rdNd zs a with
  | some p =>
   rw [n1 p hr]
   obtain ⟨i1, i2⟩ := ZjL zs m (xs ++ [p.1]) p.2
   simp only [Option.bind_some]
   cases hr2 : Zbd zs m p.2 with
   | some q => exact ⟨fun t h => by (simp at h; subst h; rw [i1 q hr2]; simp), fun h => by (simp at h)⟩
   | none => exact ⟨fun t h => by (simp at h), fun _ => i2 hr2⟩
  | none =>
   refine ⟨fun t h => by (simp at h), fun _ => ?_⟩
   rcases n2 hr with h | h
   ·rw [h, ZbR]; exact .inl rfl
   ·right
    obtain ⟨ys, hy⟩ := ZeM zs m (xs ++ [(sN zs a).1]) (sN zs a).2.1 (sN zs a).2.2
    rw [hy, List.append_assoc, ZbB, List.singleton_append, ZaA, h, Bool.false_and, Bool.and_false]
theorem Zki (zs : List Int) (a : Int) (xs : List Nd) : (sOk zs a true = true /\ (sP zs a true).1 = xs) <-> rdP zs a = some (xs, (zs.length : Int)) := by
 unfold sOk rdP sP Zip
 cases hr : rd1 zs a with
 | none => rw [ZaL hr]; simp [sNs]
 | some q =>
  rw [(Zbb zs a).2 q hr]
  simp only [Option.bind_some, Bool.true_and]
  by_cases hq : q.1 > 3000
  ·rw [if_pos hq, decide_eq_false (by omega), ZbR]
   simp
  ·rw [if_neg hq, decide_eq_true (by omega)]
   obtain ⟨i1, i2⟩ := ZjL zs q.1.toNat [] q.2
   cases hr2 : Zbd zs q.1.toNat q.2 with
   | some p =>
    rw [i1 p hr2]
    simp only [List.nil_append, Option.bind_some, Bool.true_and, Bool.and_eq_true, decide_eq_true_eq]
    obtain ⟨p1, p2⟩ := p
    constructor
    ·rintro ⟨⟨h1, h2⟩, h3⟩
     rw [if_pos h2]
     simp only at h1 h3
     rw [h1, h3]
    ·intro h
     split at h
     ·rename_i h2
      cases h
      exact ⟨⟨rfl, h2⟩, rfl⟩
     ·cases h
   | none =>
    simp only [Option.bind_none, reduceCtorEq, iff_false]
    rintro ⟨h, -⟩
    simp only [Bool.and_eq_true, Zaq] at h
    rcases i2 hr2 with h' | h'
    ·rw [h'] at h; simp at h
    ·rw [h'] at h; simp at h
theorem Zge {zs : List Int} {xs : List Nd} (hz : ∀ z ∈ zs, 0 <= z /\ z <= 255) (h : rdP zs 0 = some (xs, (zs.length : Int))) : Zaq xs = true /\ Zb8 xs = zs := by
 unfold rdP at h
 rw [Option.bind_eq_some_iff] at h
 obtain ⟨⟨n, a⟩, h1, h2⟩ := h
 split at h2
 ·cases h2
 rw [Option.bind_eq_some_iff] at h2
 obtain ⟨⟨ys, b⟩, h3, h4⟩ := h2
 split at h4
 ·rename_i hp
  cases h4
  obtain ⟨L1, hn⟩ := Za9 hz h1
  obtain ⟨L2, hl⟩ := Zcq hz n.toNat a _ xs (by have := L1.1; have := L1.2.1; omega) h3
  refine ⟨hp, ?_⟩
  obtain ⟨_, hlen, rest, hr⟩ := L1.append L2
  have e : (xs.length : Int) = n := by omega
  unfold Zb8
  rw [e]
  rw [Int.toNat_zero, List.drop_zero] at hr
  have hlen2 := congrArg List.length hr
  rw [List.length_append] at hlen2
  have : rest = [] := List.eq_nil_of_length_eq_zero (by omega)
  rw [this, List.append_nil] at hr
  exact hr.symm
 ·cases h4
theorem ZiD {x y : Int} {l m : List Int} (hx : 0 <= x) (hy : 0 <= y) (hx1 : x <= 9223372036854775807) (hy1 : y <= 9223372036854775807) (h : encI x ++ l = encI y ++ m) : x = y := by
 have h1 := ZjE [] l x hx hx1
 have h2 := ZjE [] m y hy hy1
 rw [Zcn x hx, Zcn y hy] at h
 rw [h, h2] at h1
 have := congrArg (fun t => t.1) h1
 exact this.symm
def rt (zs : List Int) (a : Int) : Option (ByteArray × Int) := if (gT zs a).2.2 then some ((gT zs a).1, (gT zs a).2.1) else none
def txt8 (zs : List Int) (at_ : Int) (ok : Bool) : ByteArray × Int × Bool := if ok && (gT zs at_).2.2 then ((gT zs at_).1, (gT zs at_).2.1, true) else (⟨#[]⟩, at_, false)
theorem ZfW (zs : List Int) (a : Int) : 0 <= (gT zs a).2.1 /\ (gT zs a).2.1 <= zs.length := by
 unfold gT
 split
 ·rename_i hc
  obtain ⟨h1, h2⟩ := hc
  have hg := Zjt zs a (gN zs a).1 (gN zs a).2.1 (by rw [<- h1])
  show 0 <= (gN zs a).2.1 + (gN zs a).1 /\ (gN zs a).2.1 + (gN zs a).1 <= zs.length
  omega
 ·show (0 : Int) <= 0 /\ (0 : Int) <= zs.length
  omega
structure Mc where
 p : Int
 s : Int
 e : Int
 d : Int
 t : Int
 q : Int
 r : Int
theorem Zk3 : (Tryz.prog.info? 81).map (·.size) = some 8 := by kernel_rfl
theorem ZaB (w : World) (A B : Obj) : Below w.heap.size w ((w.alloc A).alloc B) /\ ((w.alloc A).alloc B).heap[w.heap.size]? = some A /\ ((w.alloc A).alloc B).heap[w.heap.size + 1]? = some B :=
 ⟨((Below.refl _ _).alloc (Nat.le_refl _) _).alloc (by simp) _, (heap_alloc_old _ _ (by simp)).trans (heap_alloc_new _ _), heap_alloc2_new _ _ _⟩
end Go.Proofs.YtfmafkebddojjaaGreatDoor
