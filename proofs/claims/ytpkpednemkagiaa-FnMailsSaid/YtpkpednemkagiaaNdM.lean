/-
  Texts that stood by themselves, laid into one.
-/
import Derived.Test.YtpkpednemkagiaaDraw2M
import Derived.Test.YtpkpednemkagiaaGTextM
import Derived.Test.YtpkpednemkagiaaDecM
import Derived.Laws.CopyOwn
import Derived.Below
import Derived.Deep.MidRow
/-
  Contracts of what the law FnNums draws: DrawPutNum gives an int; l1DrawBytes new bytes; DrawPutText a text of at most 40 bytes.
-/
namespace Go.Proofs.Ytpkpednemkagiaa
open Go.RowKit

theorem ownNot {w w0 : World} {base : Nat} {e : TypeId} {v : Value} {n : Nat} {xs : List Value} (h : w.ownsRow base e 1 v n xs) (P : Nat) (hP : P < base) (_ : w0.heap.size ≤ P) : v.ownBlock = none ∨ v.ownBlock ≠ some P := by
  cases hv : v.ownBlock with
  | none => exact Or.inl rfl
  | some k => right; intro e; have := (h.lt k hv).1; simp at e; omega

set_option maxHeartbeats 800000 in
theorem draw_any (w0 : World) (v : Value) (zs : List Int) (w : World) (P : Nat) (most : Int) (c : Cur w0 v zs w P) (h0 : 0 ≤ most) (h1 : most ≤ 1048576) :
    Calls Try.prog 26 #[.pointer (some ⟨P, 0, none⟩), .int .i64 most] w fun e w' => ∃ (v' : Value) (acc : List Int), e = .returned v' ∧ acc.length ≤ most ∧ (∀ z ∈ acc, 0 ≤ z ∧ z ≤ 255) ∧
      w'.ownsRow w.heap.size 5 1 v' acc.length (bv acc) ∧ Cur w0 v zs w' P ∧ w.grownBy w' (some P) := by
  obtain ⟨i0, hi, hz0, hz1, hz2⟩ := info_parts Try.infoU8
  have hP := c.lt
  have hle : w0.heap.size ≤ P := c.2.2.1
  go_enter Try.func26, Try.ntmps26
  go_wp2_with fail
  have c1 : Cur w0 v zs (w.alloc (Obj.cells #[] 5)) P := c.kept ((Below.refl _ _).alloc (by omega) _)
  refine (below_any w0 v zs _ P (most + 1) c1 (by omega)).mono ?_
  rintro e w2 ⟨n, rfl, hn0, hn1, c2, g2⟩
  have hn : n ≤ most := by have := hn1 (by omega); omega
  obtain ⟨n, rfl⟩ := Int.eq_ofNat_of_zero_le hn0
  have own2 : w2.ownsRow w.heap.size 5 1 (.slice (some ⟨w.heap.size, 0, none⟩) 0 0) 0 (bv []) :=
    (World.ownsRow_made w #[] 0 (Nat.le_refl _) (by simp) (by simp)).kept g2 (by right; simp [Value.ownBlock]; omega)
  have gg2 : w.grownBy w2 (some P) := grown_trans (World.grownBy_alloc w _ _) g2
  clear c1 g2 hn1
  go_wp2_with fail
  go_loopw [5, 7] (fun s i wr => ∃ (acc : List Int), acc.length ≤ n ∧ i = .int .i64 acc.length ∧ Hid (∀ z ∈ acc, 0 ≤ z ∧ z ≤ 255) ∧ wr.ownsRow w.heap.size 5 1 s acc.length (bv acc) ∧ Cur w0 v zs wr P ∧ w.grownBy wr (some P)) (fun _ i _ => n - (intOf i).toNat)
  case atStart => exact ⟨[], by simp, rfl, by simp [Hid], own2, c2, gg2⟩
  case round =>
    clear own2 c2 gg2
    obtain ⟨acc, hacc, rfl, HZ, own, cc, gg⟩ := hrel
    by_cases hlt : acc.length < n
    · go_wp2_with fail
      refine (byte_any w0 v zs wr P cc).mono ?_
      rintro e w3 ⟨x, rfl, hx0, hx1, c3, g3⟩
      have own3 := own.kept g3 (ownNot own P hP hle)
      have gg3 := grown_trans gg g3
      have hsz := gg3.size
      clear own cc gg g3
      go_wp2_with (at_builtin; refine wpList_append_own _ rfl _ _ 25 rfl w.heap.size 5 i0 (.int .u8 0) 1 1 Try.underlying25 hi hz0 hz1 hz2 rfl (by decide) _ _ _ rfl (own3.alloc _) ⟨w3.heap.size, 0, none⟩ 1 1 [.int .u8 x] rfl rfl (cell_one_new _ _ _) (fun u hu => by simp at hu; subst hu; rfl) (by unfold maxLen; omega) (by omega) (by simp; omega) ?_)
      intro v' w4 own4 g4 _
      go_wp2_with fail
      go_roundw
      case rel =>
        have hb4 : ∀ k, k < w.heap.size → w4.heap[k]? = w3.heap[k]? := fun k hk => by
          rw [g4.block k (by simp; omega) (fun e => by have := (own3.lt k e.symm).1; omega)]
          exact Below.heap_alloc _ _ _ (by omega)
        have bel4 : Below (P + 1) w3 w4 := ⟨g4.os, g4.tape, g4.output, by have := g4.size; simp at this; omega, fun k hk => hb4 k (by omega)⟩
        refine ⟨acc ++ [x], by simp; omega, by simp, ?_, ?_, c3.kept bel4, ?_⟩
        · intro z hz; simp only [List.mem_append, List.mem_singleton] at hz
          rcases hz with hz | rfl
          · exact HZ.out z hz
          · exact ⟨hx0, hx1⟩
        · rw [bv_append]; simpa [bv] using own4
        · exact ⟨g4.os.trans gg3.os, g4.tape.trans gg3.tape, g4.output.trans gg3.output, by have := g4.size; simp at this; omega, fun k hk hne => (hb4 k hk).trans (gg3.block k hk hne)⟩
      case measure => simp [intOf]; omega
    · go_wp2_with fail
      go_ret
      exact ⟨_, acc, rfl, by omega, HZ.out, own, cc, gg⟩

end Go.Proofs.Ytpkpednemkagiaa

/-
  Contracts of what the law FnNums draws: l1PickInt one of its list; DrawPutNum an int; DrawPutText a text of at most 40 bytes; at a byte; big whether it is long.
-/
namespace Go.Proofs.Ytpkpednemkagiaa
open Go.RowKit

end Go.Proofs.Ytpkpednemkagiaa

/-
  Contracts of (impl.reader).text and impl.GetText, for every slice of bytes within the form's reach and every place.
-/
namespace Go.Proofs.Ytpkpednemkagiaa
open Go.RowKit

set_option maxRecDepth 100000 in
set_option maxHeartbeats 800000 in
theorem text_any (v : Value) (zs : List Int) (P : Nat) (a : Int) (w0 w : World) (R : Row w0 v zs) (hb : Below w0.heap.size w0 w) (hP : w0.heap.size ≤ P) (h : One w P a) :
    Calls Try.prog 19 #[.agg #[v, .pointer (some ⟨P, 0, none⟩)]] w fun e w' =>
      e = .returned (.tuple #[.string (gT zs a).1, .bool (gT zs a).2.2]) ∧ (∃ q, One w' P q ∧ ((gT zs a).2.2 = true → q = (gT zs a).2.1)) ∧ w.grownBy w' (some P) := by
  have R' := R
  obtain ⟨ao, cap, rfl, hcap, hm, hz, hcell⟩ := R'
  clear hz
  have hPs := h.lt
  go_enter Try.func19, Try.ntmps19
  go_wp2_with fail
  have hbel : Below w0.heap.size w0 (w.alloc (Obj.cells #[Value.slice ao zs.length cap, Value.pointer (some ⟨P, 0, none⟩)] 40)) := hb.alloc hb.size _
  have hone : One (w.alloc (Obj.cells #[Value.slice ao zs.length cap, Value.pointer (some ⟨P, 0, none⟩)] 40)) P a := h.kept (World.grownBy_alloc w _ none) (by simp)
  refine (num_any _ zs P a w0 _ R hbel hP hone).mono ?_
  rintro e w1 ⟨rfl, ⟨q, hone1, hq⟩, hgr⟩
  have hsz : w.heap.size < (w.alloc (Obj.cells #[Value.slice ao zs.length cap, Value.pointer (some ⟨P, 0, none⟩)] 40)).heap.size := by simp
  have hbox : w1.heap[w.heap.size]? = some (.cells #[Value.slice ao zs.length cap, Value.pointer (some ⟨P, 0, none⟩)] 40 (0, 0)) := (hgr.block _ hsz (by simp; omega)).trans (heap_alloc_new w _)
  have hb0 : w1.cell? ⟨w.heap.size, 0, none⟩ = some (.slice ao zs.length cap) := by rw [cell_of_row w1 _ 0 _ 40 (0, 0) hbox]; rfl
  have hb1 : w1.cell? ⟨w.heap.size, 1, none⟩ = some (.pointer (some ⟨P, 0, none⟩)) := by rw [cell_of_row w1 _ 1 _ 40 (0, 0) hbox]; rfl
  have hc := hone1.cell
  have hf := hone1.free
  have hgr1 : w.grownBy w1 (some P) := grown_trans (World.grownBy_alloc w _ _) hgr
  have hbel1 : Below w0.heap.size w0 w1 := hbel.grown hgr hbel.size (fun k hk => by simp at hk; omega)
  clear hbel hone hsz hbox hgr R
  generalize hg : gN zs a = r at hq ⊢
  obtain ⟨n, next, ok⟩ := r
  have HG : Hid (gN zs a = (n, next, ok)) := hg
  clear hg
  cases ok with
  | false =>
    have HT : Hid (gT zs a = (⟨#[]⟩, 0, false)) := gT_no zs a n next false HG.out (Or.inl rfl)
    clear hq
    go_wp2_with fail
    go_ret2
    exact ⟨by rw [HT.out]; rfl, ⟨q, hone1, by rw [HT.out]; intro h; cases h⟩, hgr1⟩
  | true =>
    obtain ⟨h1, h2, h3, h4⟩ := gN_ok zs a n next HG.out
    obtain ⟨n, rfl⟩ := Int.eq_ofNat_of_zero_le h1
    obtain ⟨next, rfl⟩ := Int.eq_ofNat_of_zero_le h3
    obtain rfl : q = (next : Int) := hq rfl
    clear hq
    by_cases hout : (zs.length : Int) - next < n
    · have HT : Hid (gT zs a = (⟨#[]⟩, 0, false)) := gT_no zs a _ _ true HG.out (Or.inr hout)
      go_wp2_with fail
      go_ret2
      exact ⟨by rw [HT.out]; rfl, ⟨_, hone1, by rw [HT.out]; intro h; cases h⟩, hgr1⟩
    · have HT : Hid (gT zs a = (strOfNums ((zs.drop next).take n), (next : Int) + n, true)) := gT_yes zs a n next HG.out (by omega)
      have hle : next + n ≤ zs.length := by omega
      have hcell2 : zs ≠ [] → ∃ g o, ao = some ⟨g, o, none⟩ ∧ g < (w1.setCell ⟨P, 0, none⟩ (.int .i64 ((next : Int) + n))).heap.size ∧ ∀ i, i < zs.length → (w1.setCell ⟨P, 0, none⟩ (.int .i64 ((next : Int) + n))).cell? ⟨g, o + i, none⟩ = some (.int .u8 (zs.getD i 0)) := by
        intro hne
        obtain ⟨g, o, rfl, hg, hcell⟩ := hcell hne
        have hs := hbel1.size
        refine ⟨g, o, rfl, by simp [World.setCell]; omega, fun i hi => ?_⟩
        rw [World.cell?_of_block (w := w1) (heap_setCell_other w1 ⟨P, 0, none⟩ g _ (by simp; omega)), hbel1.cell (p := ⟨g, o + i, none⟩) hg]
        exact hcell i hi
      clear hcell
      go_wp2_with (refine wpList_bytes_string _ rfl _ 25 9 5 rfl Try.underlying25 Try.underlying9 Try.underlying5 _ _ _ ((zs.drop next).take n) rfl (by rw [cut_length zs next n hle]; omega) (by rw [Nat.add_sub_cancel_left]; simpa using cut_cells hcell2 next n hle hcap) ?_)
      all_goals go_ret2
      all_goals exact ⟨by rw [HT.out]; rfl, ⟨_, hone1.set _, by rw [HT.out]; intro _; rfl⟩, grown_trans hgr1 (grown_set w1 P 0 _)⟩

end Go.Proofs.Ytpkpednemkagiaa

/-
  Helpers: a node as five cells, a slice of nodes read as a list, and when a node and a pool are right. Nothing of the program is proved here; no condition.
-/
namespace Go.Proofs.Ytpkpednemkagiaa
open Go.RowKit

/-- A node: kind, number, name, and two parts. -/
structure Nd where
  k : Int
  n : Int
  s : ByteArray
  a : Int
  b : Int

def Nd.cs (x : Nd) : List Value := [.int .i64 x.k, .int .i64 x.n, .string x.s, .int .i64 x.a, .int .i64 x.b]
def ncs (xs : List Nd) : List Value := xs.flatMap Nd.cs

theorem ncs_nil : ncs [] = [] := rfl
theorem ncs_cons (x : Nd) (xs : List Nd) : ncs (x :: xs) = x.cs ++ ncs xs := rfl
theorem ncs_append (a b : List Nd) : ncs (a ++ b) = ncs a ++ ncs b := by simp [ncs]
theorem ncs_length (xs : List Nd) : (ncs xs).length = xs.length * 5 := by
  induction xs with
  | nil => rfl
  | cons x xs ih => rw [ncs_cons, List.length_append, ih, List.length_cons]; simp [Nd.cs]; omega
theorem ncs_get (xs : List Nd) (i : Nat) (x : Nd) (h : xs[i]? = some x) (j : Nat) (hj : j < 5) : (ncs xs)[i * 5 + j]? = x.cs[j]? := by
  induction xs generalizing i with
  | nil => simp at h
  | cons y ys ih =>
    rw [ncs_cons]
    cases i with
    | zero =>
      simp at h; subst h
      rw [Nat.zero_mul, Nat.zero_add, List.getElem?_append_left (by simpa [Nd.cs] using hj)]
    | succ i =>
      rw [List.getElem?_append_right (by simp [Nd.cs]; omega)]
      rw [show (i + 1) * 5 + j - y.cs.length = i * 5 + j by simp [Nd.cs]; omega]
      exact ih i (by simpa using h)

theorem ncs_set (xs : List Nd) (i : Nat) (x x' : Nd) (h : xs[i]? = some x) (j : Nat) (hj : j < 5) (u : Value) (e : x.cs.set j u = x'.cs) : (ncs xs).set (i * 5 + j) u = ncs (xs.set i x') := by
  induction xs generalizing i with
  | nil => simp at h
  | cons y ys ih =>
    rw [ncs_cons]
    cases i with
    | zero =>
      simp at h; subst h
      rw [Nat.zero_mul, Nat.zero_add, List.set_append_left _ _ (by simpa [Nd.cs] using hj), e]
      rfl
    | succ i =>
      rw [List.set_append_right _ _ (by simp [Nd.cs]; omega)]
      rw [show (i + 1) * 5 + j - y.cs.length = i * 5 + j by simp [Nd.cs]; omega, ih i (by simpa using h)]
      rfl
theorem ncs_set0 (xs : List Nd) (i : Nat) (x x' : Nd) (h : xs[i]? = some x) (u : Value) (e : x.cs.set 0 u = x'.cs) : (ncs xs).set (i * 5) u = ncs (xs.set i x') :=
  ncs_set xs i x x' h 0 (by omega) u e
theorem Nd.one (x : Nd) : ∀ u ∈ x.cs, u.oneCell' = true := by
  intro u hu
  simp only [Nd.cs, List.mem_cons, List.not_mem_nil, or_false] at hu
  rcases hu with rfl | rfl | rfl | rfl | rfl <;> rfl
theorem ncs_one (xs : List Nd) : ∀ u ∈ ncs xs, u.oneCell' = true := by
  intro u hu
  simp only [ncs, List.mem_flatMap] at hu
  obtain ⟨x, _, hx⟩ := hu
  exact x.one u hx

/-- The five cells of x from the place o of block g on. -/
def NAt (w : World) (g o : Nat) (x : Nd) : Prop :=
  w.cell? ⟨g, o, none⟩ = some (.int .i64 x.k) ∧ w.cell? ⟨g, o + 1, none⟩ = some (.int .i64 x.n) ∧ w.cell? ⟨g, o + 2, none⟩ = some (.string x.s) ∧
    w.cell? ⟨g, o + 3, none⟩ = some (.int .i64 x.a) ∧ w.cell? ⟨g, o + 4, none⟩ = some (.int .i64 x.b)

theorem NAt.below {w w' : World} {g o B : Nat} {x : Nd} (h : NAt w g o x) (hb : Below B w w') (hg : g < B) : NAt w' g o x :=
  ⟨(hb.cell (p := ⟨g, o, none⟩) hg).trans h.1, (hb.cell (p := ⟨g, o + 1, none⟩) hg).trans h.2.1, (hb.cell (p := ⟨g, o + 2, none⟩) hg).trans h.2.2.1,
    (hb.cell (p := ⟨g, o + 3, none⟩) hg).trans h.2.2.2.1, (hb.cell (p := ⟨g, o + 4, none⟩) hg).trans h.2.2.2.2⟩

/-- The slice value v reads in w as the nodes xs. -/
def NRow (w : World) (v : Value) (xs : List Nd) : Prop :=
  ∃ ao cap, v = .slice ao xs.length cap ∧ (xs.length ≤ cap ∧ (ao = none → cap = 0)) ∧ xs.length ≤ 9223372036854775807 ∧ (∀ x ∈ xs, x.s.size ≤ maxLen) ∧
    (xs ≠ [] → ∃ g o, ao = some ⟨g, o, none⟩ ∧ g < w.heap.size ∧ ∀ i x, xs[i]? = some x → NAt w g (o + i * 5) x)

theorem NRow.below {w w' : World} {v : Value} {xs : List Nd} (h : NRow w v xs) (hb : Below w.heap.size w w') : NRow w' v xs := by
  obtain ⟨ao, cap, rfl, hc, hm, hz, hcell⟩ := h
  refine ⟨ao, cap, rfl, hc, hm, hz, fun hne => ?_⟩
  obtain ⟨g, o, rfl, hg, hcell⟩ := hcell hne
  exact ⟨g, o, rfl, Nat.lt_of_lt_of_le hg hb.size, fun i x hi => (hcell i x hi).below hb hg⟩

theorem retB {p q : Bool} (h : p = q) : Ending.returned (.bool p) = .returned (.bool q) := by rw [h]

/-- The cells of a row of nodes, one behind the other. -/
theorem NRow.cells {w : World} {ao : Option Addr} {n cap : Nat} {xs : List Nd} (h : NRow w (.slice ao n cap) xs) : ∀ ad, ao = some ad → ∀ j u, (ncs xs)[j]? = some u → w.cell? (ad.add j) = some u := by
  obtain ⟨ao', cap', e, _, _, _, hcell⟩ := h
  simp only [Value.slice.injEq] at e
  obtain ⟨rfl, _, _⟩ := e
  intro ad had j u hu
  have hj : j < xs.length * 5 := by rw [← ncs_length]; exact (List.getElem?_eq_some_iff.1 hu).1
  obtain ⟨g, o, e, _, hcell⟩ := hcell (by intro h; subst h; simp at hj)
  rw [e] at had
  cases had
  have hi : j / 5 < xs.length := by omega
  have hx : xs[j / 5]? = some xs[j / 5] := List.getElem?_eq_getElem hi
  have hg := ncs_get xs (j / 5) _ hx (j % 5) (by omega)
  rw [show j / 5 * 5 + j % 5 = j by omega, hu] at hg
  obtain ⟨c0, c1, c2, c3, c4⟩ := hcell (j / 5) _ hx
  rw [Addr.add_lit]
  have h5 : j % 5 = 0 ∨ j % 5 = 1 ∨ j % 5 = 2 ∨ j % 5 = 3 ∨ j % 5 = 4 := by omega
  rcases h5 with h5 | h5 | h5 | h5 | h5
  · rw [show o + j = o + j / 5 * 5 by omega, c0, hg, h5]; rfl
  · rw [show o + j = o + j / 5 * 5 + 1 by omega, c1, hg, h5]; rfl
  · rw [show o + j = o + j / 5 * 5 + 2 by omega, c2, hg, h5]; rfl
  · rw [show o + j = o + j / 5 * 5 + 3 by omega, c3, hg, h5]; rfl
  · rw [show o + j = o + j / 5 * 5 + 4 by omega, c4, hg, h5]; rfl

theorem own_below {w w' : World} {B : Nat} {e : TypeId} {k : Nat} {v : Value} {n : Nat} {xs : List Value} (h : w.ownsRow B e k v n xs) (hb : Below w.heap.size w w') : w'.ownsRow B e k v n xs := by
  refine ⟨h.1, ?_⟩
  rcases h.2 with ⟨rfl, h0⟩ | ⟨g, cap, cur, rfl, hB, hg, hr⟩
  · exact Or.inl ⟨rfl, h0⟩
  · exact Or.inr ⟨g, cap, cur, rfl, hB, (hb.block g (Array.getElem?_eq_some_iff.1 hg).1).trans hg, hr⟩

theorem own_form {w : World} {B : Nat} {e : TypeId} {k : Nat} {v : Value} {n : Nat} {xs : List Value} (h : w.ownsRow B e k v n xs) : ∃ ao cap, v = .slice ao n cap := by
  rcases h.2 with ⟨rfl, h0⟩ | ⟨g, cap, cur, rfl, _⟩
  · exact ⟨none, 0, by rw [h0]⟩
  · exact ⟨_, _, rfl⟩

theorem own_mono {w : World} {B B' : Nat} {e : TypeId} {k : Nat} {v : Value} {n : Nat} {xs : List Value} (h : w.ownsRow B e k v n xs) (hb : B' ≤ B) : w.ownsRow B' e k v n xs := by
  refine ⟨h.1, ?_⟩
  rcases h.2 with ⟨rfl, h0⟩ | ⟨g, cap, cur, rfl, hB, hr⟩
  · exact Or.inl ⟨rfl, h0⟩
  · exact Or.inr ⟨g, cap, cur, rfl, Nat.le_trans hb hB, hr⟩

/-- A byte that a name may have. -/
def nb (b : Int) : Bool := b == 43 || b == 45 || b == 42 || b == 60 || b == 61 || b == 63 || b == 33 || b == 47 || (decide (97 ≤ b) && decide (b ≤ 122))
/-- A name. -/
def nameB (s : ByteArray) : Bool := decide (1 ≤ s.size) && decide (s.size ≤ 12) && decide (∀ i : Fin s.size, nb (s[i].toNat) = true)
theorem nameB_all {s : ByteArray} (h1 : 1 ≤ s.size) (h2 : s.size ≤ 12) (h : ∀ j (hj : j < s.size), nb (s[j].toNat) = true) : nameB s = true := by
  simp only [nameB, Bool.and_eq_true, decide_eq_true_eq]
  exact ⟨⟨h1, h2⟩, fun i => h i.1 i.2⟩
theorem nameB_not {s : ByteArray} (j : Nat) (hj : j < s.size) (h : nb (s[j].toNat) = false) : nameB s = false := by
  rw [Bool.eq_false_iff]
  intro h'
  simp only [nameB, Bool.and_eq_true, decide_eq_true_eq] at h'
  have := h'.2 ⟨j, hj⟩
  simp only [Fin.getElem_fin] at this
  rw [this] at h
  cases h
theorem nameB_size {s : ByteArray} (h : ¬ (1 ≤ s.size ∧ s.size ≤ 12)) : nameB s = false := by
  rw [Bool.eq_false_iff]
  intro h'
  simp only [nameB, Bool.and_eq_true, decide_eq_true_eq] at h'
  exact h h'.1

def lo (k : Int) : Int := if k = 3 then -1000000000 else 0
def hi (k : Int) : Int := if k = 2 then 1 else if k = 3 ∨ k = 6 ∨ k = 9 then 1000000000 else if k = 8 then 99 else 0
def hasS (k : Int) : Bool := decide (k = 4)
def hasA (k : Int) : Bool := decide (k = 5 ∨ k = 6 ∨ k = 7)
def hasB (k : Int) : Bool := decide (k = 5)
def partB (p : Int) (named : Bool) (at_ : Int) : Bool := if named then decide (0 ≤ p) && decide (p < at_) else p == 0
def nameFB (s : ByteArray) (named : Bool) : Bool := if named then nameB s else s.toList == []
/-- The node x may be the one with the number at_ of a pool. -/
def nodeB (x : Nd) (at_ : Int) : Bool :=
  decide (1 ≤ x.k) && decide (x.k ≤ 9) && decide (lo x.k ≤ x.n) && decide (x.n ≤ hi x.k) && (nameFB x.s (hasS x.k) && partB x.a (hasA x.k) at_ && partB x.b (hasB x.k) at_)
/-- The nodes from the number i on are right. -/
def nodesB (xs : List Nd) (i : Nat) : Bool := match xs with
  | [] => true
  | x :: xs => nodeB x i && nodesB xs (i + 1)
def poolB (xs : List Nd) : Bool := decide (xs.length ≤ 3000) && nodesB xs 0

theorem nodesB_drop (xs : List Nd) (i : Nat) (x : Nd) (h : xs[i]? = some x) : nodesB (xs.drop i) i = (nodeB x i && nodesB (xs.drop (i + 1)) (i + 1)) := by
  obtain ⟨hl, he⟩ := List.getElem?_eq_some_iff.1 h
  rw [List.drop_eq_getElem_cons hl, he]
  rfl

end Go.Proofs.Ytpkpednemkagiaa
