/-
  The contract of impl.MailRead, and of the function that it defers. No condition but bounds.
-/
import Derived.Test.YtpkpednemkagiaaIMlRgM
import Derived.Defers
import Derived.Recover
namespace Go.Proofs.Ytpkpednemkagiaa
open Go.RowKit

/-- The four results: what is told, and whether it is a payload. -/
structure MX (w : World) (b : Nat) (k p : Int) (t : ByteArray) (ok : Bool) : Prop where
  c0 : w.heap[b]? = some (.cells #[.int .i64 k] 3 (0, 0))
  c1 : w.heap[b + 1]? = some (.cells #[.int .i64 p] 3 (0, 0))
  c2 : w.heap[b + 1 + 1]? = some (.cells #[.string t] 9 (0, 0))
  c3 : w.heap[b + 1 + 1 + 1]? = some (.cells #[.bool ok] 4 (0, 0))
theorem MX.lt {w : World} {b : Nat} {k p : Int} {t : ByteArray} {ok : Bool} (h : MX w b k p t ok) : b + 1 + 1 + 1 < w.heap.size := blk_lt h.c3
theorem MX.on {w w' : World} {b : Nat} {k p : Int} {t : ByteArray} {ok : Bool} (h : MX w b k p t ok) (hb : ∀ j, b ≤ j → j ≤ b + 1 + 1 + 1 → w'.heap[j]? = w.heap[j]?) : MX w' b k p t ok :=
  ⟨(hb _ (by omega) (by omega)).trans h.c0, (hb _ (by omega) (by omega)).trans h.c1, (hb _ (by omega) (by omega)).trans h.c2, (hb _ (by omega) (by omega)).trans h.c3⟩
theorem MX.below {w w' : World} {b : Nat} {k p : Int} {t : ByteArray} {ok : Bool} (h : MX w b k p t ok) (hb : Below w.heap.size w w') : MX w' b k p t ok := h.on fun j _ h2 => hb.block j (by have := h.lt; omega)
theorem MX.set0 {w : World} {b : Nat} {k p : Int} {t : ByteArray} {ok : Bool} (h : MX w b k p t ok) (k' : Int) : MX (w.setCell ⟨b, 0, none⟩ (.int .i64 k')) b k' p t ok :=
  ⟨heap_setCell_same w b 0 _ _ _ h.c0, (heap_setCell_other w ⟨b, 0, none⟩ _ _ (by show b + 1 ≠ b; omega)).trans h.c1, (heap_setCell_other w ⟨b, 0, none⟩ _ _ (by show b + 1 + 1 ≠ b; omega)).trans h.c2, (heap_setCell_other w ⟨b, 0, none⟩ _ _ (by show b + 1 + 1 + 1 ≠ b; omega)).trans h.c3⟩
theorem MX.set1 {w : World} {b : Nat} {k p : Int} {t : ByteArray} {ok : Bool} (h : MX w b k p t ok) (p' : Int) : MX (w.setCell ⟨b + 1, 0, none⟩ (.int .i64 p')) b k p' t ok :=
  ⟨(heap_setCell_other w ⟨b + 1, 0, none⟩ _ _ (by show b ≠ b + 1; omega)).trans h.c0, heap_setCell_same w (b + 1) 0 _ _ _ h.c1, (heap_setCell_other w ⟨b + 1, 0, none⟩ _ _ (by show b + 1 + 1 ≠ b + 1; omega)).trans h.c2, (heap_setCell_other w ⟨b + 1, 0, none⟩ _ _ (by show b + 1 + 1 + 1 ≠ b + 1; omega)).trans h.c3⟩
theorem MX.set2 {w : World} {b : Nat} {k p : Int} {t : ByteArray} {ok : Bool} (h : MX w b k p t ok) (t' : ByteArray) : MX (w.setCell ⟨b + 1 + 1, 0, none⟩ (.string t')) b k p t' ok :=
  ⟨(heap_setCell_other w ⟨b + 1 + 1, 0, none⟩ _ _ (by show b ≠ b + 1 + 1; omega)).trans h.c0, (heap_setCell_other w ⟨b + 1 + 1, 0, none⟩ _ _ (by show b + 1 ≠ b + 1 + 1; omega)).trans h.c1, heap_setCell_same w (b + 1 + 1) 0 _ _ _ h.c2, (heap_setCell_other w ⟨b + 1 + 1, 0, none⟩ _ _ (by show b + 1 + 1 + 1 ≠ b + 1 + 1; omega)).trans h.c3⟩
theorem MX.set3 {w : World} {b : Nat} {k p : Int} {t : ByteArray} {ok : Bool} (h : MX w b k p t ok) (ok' : Bool) : MX (w.setCell ⟨b + 1 + 1 + 1, 0, none⟩ (.bool ok')) b k p t ok' :=
  ⟨(heap_setCell_other w ⟨b + 1 + 1 + 1, 0, none⟩ _ _ (by show b ≠ b + 1 + 1 + 1; omega)).trans h.c0, (heap_setCell_other w ⟨b + 1 + 1 + 1, 0, none⟩ _ _ (by show b + 1 ≠ b + 1 + 1 + 1; omega)).trans h.c1, (heap_setCell_other w ⟨b + 1 + 1 + 1, 0, none⟩ _ _ (by show b + 1 + 1 ≠ b + 1 + 1 + 1; omega)).trans h.c2, heap_setCell_same w (b + 1 + 1 + 1) 0 _ _ _ h.c3⟩
theorem MX.cells {w : World} {b : Nat} {k p : Int} {t : ByteArray} {ok : Bool} (h : MX w b k p t ok) :
    w.cell? ⟨b, 0, none⟩ = some (.int .i64 k) ∧ w.cell? ⟨b + 1, 0, none⟩ = some (.int .i64 p) ∧ w.cell? ⟨b + 1 + 1, 0, none⟩ = some (.string t) ∧ w.cell? ⟨b + 1 + 1 + 1, 0, none⟩ = some (.bool ok) ∧
      w.frozen? ⟨b, 0, none⟩ = false ∧ w.frozen? ⟨b + 1, 0, none⟩ = false ∧ w.frozen? ⟨b + 1 + 1, 0, none⟩ = false ∧ w.frozen? ⟨b + 1 + 1 + 1, 0, none⟩ = false :=
  ⟨cell_of_row w _ 0 _ _ _ h.c0, cell_of_row w _ 0 _ _ _ h.c1, cell_of_row w _ 0 _ _ _ h.c2, cell_of_row w _ 0 _ _ _ h.c3, frozen_of_row w _ 0 _ _ h.c0, frozen_of_row w _ 0 _ _ h.c1, frozen_of_row w _ 0 _ _ h.c2, frozen_of_row w _ 0 _ _ h.c3⟩

/-- What the deferred function leaves. -/
theorem mrc_any (b : Nat) (k p : Int) (t : ByteArray) (ok : Bool) (w : World) (X : MX w b k p t ok) :
    CallsD Try.prog 16 #[.pointer (some ⟨b + 1 + 1 + 1, 0, none⟩), .pointer (some ⟨b, 0, none⟩), .pointer (some ⟨b + 1, 0, none⟩), .pointer (some ⟨b + 1 + 1, 0, none⟩)] .returning w fun e u' w' =>
      u' = .returning ∧ (e = .returned (.tuple #[]) ∧ MX w' b (if ok then k else 0) (if ok then p else 0) (if ok then t else ⟨#[]⟩) ok ∧ Below b w w') := by
  obtain ⟨c0, c1, c2, c3, f0, f1, f2, f3⟩ := X.cells
  have Y0 := X.set0 0
  have Y1 := Y0.set1 0
  have Y2 := Y1.set2 ⟨#[]⟩
  obtain ⟨_, y1, _, _, _, z1, _, _⟩ := Y0.cells
  obtain ⟨_, _, y2, _, _, _, z2, _⟩ := Y1.cells
  have hb : Below b w (((w.setCell ⟨b, 0, none⟩ (.int .i64 0)).setCell ⟨b + 1, 0, none⟩ (.int .i64 0)).setCell ⟨b + 1 + 1, 0, none⟩ (.string ⟨#[]⟩)) :=
    (((Below.refl _ _).setCell (p := ⟨b, 0, none⟩) (Nat.le_refl _) _).setCell (p := ⟨b + 1, 0, none⟩) (by show b ≤ b + 1; omega) _).setCell (p := ⟨b + 1 + 1, 0, none⟩) (by show b ≤ b + 1 + 1; omega) _
  go_enter_d Try.func16, Try.ntmps16
  cases ok with
  | true =>
    go_wp2
    go_end0
    exact ⟨rfl, X, Below.refl _ _⟩
  | false =>
    go_wp2
    go_end0
    exact ⟨rfl, Y2, hb⟩

/-- A row that is not of that variable stays. -/
theorem Row.set1 {w : World} {v : Value} {zs : List Int} {b : Nat} {x : Value} {t : TypeId} (R : Row w v zs) (h : w.heap[b]? = some (.cells #[x] t (0, 0))) (hx : ∀ z, x ≠ .int .u8 z) (y : Value) : Row (w.setCell ⟨b, 0, none⟩ y) v zs := by
  obtain ⟨ao, cap, rfl, hc, hm, hz, hcell⟩ := R
  refine ⟨ao, cap, rfl, hc, hm, hz, fun hne => ?_⟩
  obtain ⟨g, o, rfl, hg, hcl⟩ := hcell hne
  have hl : 0 < zs.length := List.length_pos_iff.2 hne
  have hgb : g ≠ b := by
    rintro rfl
    have e := hcl 0 hl
    rw [cell_of_row w g (o + 0) _ _ _ h] at e
    cases o with
    | zero => simp at e; exact hx _ e
    | succ n => simp at e
  refine ⟨g, o, rfl, by simpa using hg, fun i hi => ?_⟩
  rw [World.cell?_of_block (w := w) (heap_setCell_other w ⟨b, 0, none⟩ g y hgb)]
  exact hcl i hi
theorem below_both {V u : World} {n b : Nat} {x : Value} {t : TypeId} (h : Below n V u) (hV : V.heap[b]? = some (.cells #[x] t (0, 0))) (hb : b < n) (y : Value) : Below n (V.setCell ⟨b, 0, none⟩ y) (u.setCell ⟨b, 0, none⟩ y) := by
  have hU : u.heap[b]? = some (.cells #[x] t (0, 0)) := (h.block b hb).trans hV
  refine ⟨h.os, h.tape, h.output, by simpa using h.size, fun k hk => ?_⟩
  by_cases hkb : k = b
  · subst hkb
    rw [heap_setCell_same u k 0 _ _ y hU, heap_setCell_same V k 0 _ _ y hV]
  · rw [heap_setCell_other u ⟨b, 0, none⟩ k y hkb, heap_setCell_other V ⟨b, 0, none⟩ k y hkb]
    exact h.block k hk

/-- Where the reading stands: the four results, the reader's box, its place. -/
structure RS (w u : World) (v : Value) (zs : List Int) (P rb : Nat) (a k p : Int) (t : ByteArray) (ok : Bool) : Prop where
  sh : ∃ V, Row V v zs ∧ Below V.heap.size V u ∧ V.heap.size ≤ P ∧ MX V w.heap.size k p t ok
  box : u.heap[rb]? = some (.cells #[v, .pointer (some ⟨P, 0, none⟩)] 40 (0, 0))
  one : One u P a
  bel : Below w.heap.size w u
  ne : P < rb
theorem RS.mx {w u : World} {v : Value} {zs : List Int} {P rb : Nat} {a k p : Int} {t : ByteArray} {ok : Bool} (R : RS w u v zs P rb a k p t ok) : MX u w.heap.size k p t ok := by
  obtain ⟨V, _, h2, _, h4⟩ := R.sh
  exact h4.below h2
theorem RS.far {w u : World} {v : Value} {zs : List Int} {P rb : Nat} {a k p : Int} {t : ByteArray} {ok : Bool} (R : RS w u v zs P rb a k p t ok) : w.heap.size + 1 + 1 + 1 < P ∧ P < rb := by
  obtain ⟨V, _, _, h3, h4⟩ := R.sh
  have := h4.lt
  exact ⟨by omega, R.ne⟩
theorem RS.form {w u : World} {v : Value} {zs : List Int} {P rb : Nat} {a k p : Int} {t : ByteArray} {ok : Bool} (R : RS w u v zs P rb a k p t ok) : ∃ ao cap, v = .slice ao zs.length cap := by
  obtain ⟨V, ⟨ao, cap, h, _⟩, _⟩ := R.sh
  exact ⟨ao, cap, h⟩
theorem RS.boxes {w u : World} {v : Value} {zs : List Int} {P rb : Nat} {a k p : Int} {t : ByteArray} {ok : Bool} (R : RS w u v zs P rb a k p t ok) : u.cell? ⟨rb, 0, none⟩ = some v ∧ u.cell? ⟨rb, 1, none⟩ = some (.pointer (some ⟨P, 0, none⟩)) :=
  ⟨cell_of_row u _ 0 _ _ _ R.box, cell_of_row u _ 1 _ _ _ R.box⟩
theorem RS.grown {w u u' : World} {v : Value} {zs : List Int} {P rb : Nat} {a a' k p : Int} {t : ByteArray} {ok : Bool} (R : RS w u v zs P rb a k p t ok) (hg : u.grownBy u' (some P)) (h1 : One u' P a') : RS w u' v zs P rb a' k p t ok := by
  obtain ⟨V, h1', h2, h3, h4⟩ := R.sh
  have hf := R.far
  exact ⟨⟨V, h1', h2.grown hg h2.size (fun k hk => by cases hk; omega), h3, h4⟩, (hg.block _ (blk_lt R.box) (by simp; omega)).trans R.box, h1, R.bel.grown hg R.bel.size (fun k hk => by cases hk; omega), R.ne⟩
theorem RS.set0 {w u : World} {v : Value} {zs : List Int} {P rb : Nat} {a k p : Int} {t : ByteArray} {ok : Bool} (R : RS w u v zs P rb a k p t ok) (k' : Int) : RS w (u.setCell ⟨w.heap.size, 0, none⟩ (.int .i64 k')) v zs P rb a k' p t ok := by
  obtain ⟨V, h1, h2, h3, h4⟩ := R.sh
  have hf := R.far
  have hl := h4.lt
  exact ⟨⟨V.setCell ⟨w.heap.size, 0, none⟩ (.int .i64 k'), h1.set1 h4.c0 (by intro z h; cases h) _, by rw [World.size_setCell]; exact below_both h2 h4.c0 (by omega) _, by rw [World.size_setCell]; exact h3, h4.set0 _⟩,
    (heap_setCell_other u ⟨w.heap.size, 0, none⟩ rb _ (by show rb ≠ w.heap.size; omega)).trans R.box, (heap_setCell_other u ⟨w.heap.size, 0, none⟩ P _ (by show P ≠ w.heap.size; omega)).trans R.one, R.bel.setCell (p := ⟨w.heap.size, 0, none⟩) (by show w.heap.size ≤ w.heap.size; omega) _, R.ne⟩
theorem RS.set1 {w u : World} {v : Value} {zs : List Int} {P rb : Nat} {a k p : Int} {t : ByteArray} {ok : Bool} (R : RS w u v zs P rb a k p t ok) (p' : Int) : RS w (u.setCell ⟨w.heap.size + 1, 0, none⟩ (.int .i64 p')) v zs P rb a k p' t ok := by
  obtain ⟨V, h1, h2, h3, h4⟩ := R.sh
  have hf := R.far
  have hl := h4.lt
  exact ⟨⟨V.setCell ⟨w.heap.size + 1, 0, none⟩ (.int .i64 p'), h1.set1 h4.c1 (by intro z h; cases h) _, by rw [World.size_setCell]; exact below_both h2 h4.c1 (by omega) _, by rw [World.size_setCell]; exact h3, h4.set1 _⟩,
    (heap_setCell_other u ⟨w.heap.size + 1, 0, none⟩ rb _ (by show rb ≠ w.heap.size + 1; omega)).trans R.box, (heap_setCell_other u ⟨w.heap.size + 1, 0, none⟩ P _ (by show P ≠ w.heap.size + 1; omega)).trans R.one, R.bel.setCell (p := ⟨w.heap.size + 1, 0, none⟩) (by show w.heap.size ≤ w.heap.size + 1; omega) _, R.ne⟩
theorem RS.set2 {w u : World} {v : Value} {zs : List Int} {P rb : Nat} {a k p : Int} {t : ByteArray} {ok : Bool} (R : RS w u v zs P rb a k p t ok) (t' : ByteArray) : RS w (u.setCell ⟨w.heap.size + 1 + 1, 0, none⟩ (.string t')) v zs P rb a k p t' ok := by
  obtain ⟨V, h1, h2, h3, h4⟩ := R.sh
  have hf := R.far
  have hl := h4.lt
  exact ⟨⟨V.setCell ⟨w.heap.size + 1 + 1, 0, none⟩ (.string t'), h1.set1 h4.c2 (by intro z h; cases h) _, by rw [World.size_setCell]; exact below_both h2 h4.c2 (by omega) _, by rw [World.size_setCell]; exact h3, h4.set2 _⟩,
    (heap_setCell_other u ⟨w.heap.size + 1 + 1, 0, none⟩ rb _ (by show rb ≠ w.heap.size + 1 + 1; omega)).trans R.box, (heap_setCell_other u ⟨w.heap.size + 1 + 1, 0, none⟩ P _ (by show P ≠ w.heap.size + 1 + 1; omega)).trans R.one, R.bel.setCell (p := ⟨w.heap.size + 1 + 1, 0, none⟩) (by show w.heap.size ≤ w.heap.size + 1 + 1; omega) _, R.ne⟩
theorem RS.set3 {w u : World} {v : Value} {zs : List Int} {P rb : Nat} {a k p : Int} {t : ByteArray} {ok : Bool} (R : RS w u v zs P rb a k p t ok) (ok' : Bool) : RS w (u.setCell ⟨w.heap.size + 1 + 1 + 1, 0, none⟩ (.bool ok')) v zs P rb a k p t ok' := by
  obtain ⟨V, h1, h2, h3, h4⟩ := R.sh
  have hf := R.far
  have hl := h4.lt
  exact ⟨⟨V.setCell ⟨w.heap.size + 1 + 1 + 1, 0, none⟩ (.bool ok'), h1.set1 h4.c3 (by intro z h; cases h) _, by rw [World.size_setCell]; exact below_both h2 h4.c3 (by omega) _, by rw [World.size_setCell]; exact h3, h4.set3 _⟩,
    (heap_setCell_other u ⟨w.heap.size + 1 + 1 + 1, 0, none⟩ rb _ (by show rb ≠ w.heap.size + 1 + 1 + 1; omega)).trans R.box, (heap_setCell_other u ⟨w.heap.size + 1 + 1 + 1, 0, none⟩ P _ (by show P ≠ w.heap.size + 1 + 1 + 1; omega)).trans R.one, R.bel.setCell (p := ⟨w.heap.size + 1 + 1 + 1, 0, none⟩) (by show w.heap.size ≤ w.heap.size + 1 + 1 + 1; omega) _, R.ne⟩
theorem RS.num {w u : World} {v : Value} {zs : List Int} {P rb : Nat} {a k p : Int} {t : ByteArray} {ok : Bool} (R : RS w u v zs P rb a k p t ok) :
    Calls Try.prog 18 #[.agg #[v, .pointer (some ⟨P, 0, none⟩)]] u fun e u' => e = .returned (.tuple #[.int .i64 (gN zs a).1, .bool (gN zs a).2.2]) ∧ ∃ q, ((gN zs a).2.2 = true → q = (gN zs a).2.1) ∧ RS w u' v zs P rb q k p t ok := by
  obtain ⟨V, h1, h2, h3, h4⟩ := id R.sh
  refine (num_any v zs P a V u h1 h2 h3 R.one).mono ?_
  rintro e u' ⟨rfl, ⟨q, ho, hq⟩, hg⟩
  exact ⟨rfl, q, hq, R.grown hg ho⟩
theorem RS.text {w u : World} {v : Value} {zs : List Int} {P rb : Nat} {a k p : Int} {t : ByteArray} {ok : Bool} (R : RS w u v zs P rb a k p t ok) :
    Calls Try.prog 19 #[.agg #[v, .pointer (some ⟨P, 0, none⟩)]] u fun e u' => e = .returned (.tuple #[.string (gT zs a).1, .bool (gT zs a).2.2]) ∧ ∃ q, ((gT zs a).2.2 = true → q = (gT zs a).2.1) ∧ RS w u' v zs P rb q k p t ok := by
  obtain ⟨V, h1, h2, h3, h4⟩ := id R.sh
  refine (text_any v zs P a V u h1 h2 h3 R.one).mono ?_
  rintro e u' ⟨rfl, ⟨q, ho, hq⟩, hg⟩
  exact ⟨rfl, q, hq, R.grown hg ho⟩

set_option maxRecDepth 100000 in
set_option maxHeartbeats 12800000 in
theorem imailr_any (s : ByteArray) (w : World) (hs : s.size ≤ 1048576) :
    Calls Try.prog 6 #[.string s] w fun e w' => e = .returned (mrA (mrd (sb s))) ∧ Below w.heap.size w w' := by
  have hsl := sb_length s
  have hmf : ∀ (fn : Fn) (first cap : Array Value) (w : World), (Instr.makeFunc fn first cap).run Try.prog w = .ok (.func fn first cap) w := fun _ _ _ _ => rfl
  obtain ⟨W0, hW0⟩ : ∃ W0, Hid ((((w.alloc (Obj.cells #[.int .i64 0] 3)).alloc (Obj.cells #[.int .i64 0] 3)).alloc (Obj.cells #[.string ⟨#[]⟩] 9)).alloc (Obj.cells #[.bool false] 4) = W0) := ⟨_, rfl⟩
  have hB0 : Below w.heap.size w W0 := by
    rw [← hW0.out]
    exact ((((Below.refl _ _).alloc (Nat.le_refl _) _).alloc (by simp) _).alloc (by simp; omega) _).alloc (by simp; omega) _
  have hs0 : W0.heap.size = w.heap.size + 4 := by rw [← hW0.out]; simp
  have X0 : MX W0 w.heap.size 0 0 ⟨#[]⟩ false := by
    rw [← hW0.out]
    refine ⟨?_, ?_, ?_, ?_⟩
    · rw [heap_alloc_old _ _ (by simp; omega), heap_alloc_old _ _ (by simp; omega), heap_alloc_old _ _ (by simp)]; exact heap_alloc_new _ _
    · rw [heap_alloc_old _ _ (by simp), heap_alloc_old _ _ (by simp)]; exact (by simpa using heap_alloc_new (w.alloc (Obj.cells #[.int .i64 0] 3)) (Obj.cells #[.int .i64 0] 3))
    · rw [heap_alloc_old _ _ (by simp)]; exact (by simpa using heap_alloc_new ((w.alloc (Obj.cells #[.int .i64 0] 3)).alloc (Obj.cells #[.int .i64 0] 3)) (Obj.cells #[.string ⟨#[]⟩] 9))
    · exact (by simpa using heap_alloc_new (((w.alloc (Obj.cells #[.int .i64 0] 3)).alloc (Obj.cells #[.int .i64 0] 3)).alloc (Obj.cells #[.string ⟨#[]⟩] 9)) (Obj.cells #[.bool false] 4))
  have HM0 : Hid (mrd (sb s) = (rd1 (sb s) 0).bind fun k => if k.1 = 1 then (rd1 (sb s) k.2).bind fun p => mEnd (sb s) 1 p.1 p.2 else if k.1 = 2 then mEnd (sb s) 2 0 k.2 else none) := rfl
  go_enter_defers Try.func6, Try.ntmps6
  go_wp2_with fail
  rw [hW0.out]
  refine (readerof_any s _ (by omega)).mono ?_
  rintro e w1 ⟨v, V0, P, rfl, RR, hbV, hb1, hP, hone⟩
  obtain ⟨ao, cap, rfl⟩ : ∃ ao cap, v = .slice ao s.size cap := by obtain ⟨ao, cap, h, _⟩ := RR; exact ⟨ao, cap, by rw [← hsl]; exact h⟩
  have hbx := alloc_bel w1 (Obj.cells #[.slice ao s.size cap, .pointer (some ⟨P, 0, none⟩)] 40)
  have R : RS w (w1.alloc (Obj.cells #[.slice ao s.size cap, .pointer (some ⟨P, 0, none⟩)] 40)) (.slice ao s.size cap) (sb s) P w1.heap.size 0 0 0 ⟨#[]⟩ false := by
    exact ⟨⟨V0, RR, hb1.trans (hbx.mono hb1.size), hP, X0.below hbV⟩, heap_alloc_new _ _, hone.below hbx hone.lt, (hB0.trans (hbV.mono hB0.size)).trans ((hb1.trans (hbx.mono hb1.size)).mono (by have := hbV.size; omega)), hone.lt⟩
  clear hbx hb1 hbV hone X0 hB0 hW0 hs0 RR hP
  have HN := R.num
  obtain ⟨nn, N1⟩ : ∃ n, gN (sb s) 0 = n := ⟨_, rfl⟩
  obtain ⟨k, a1, k1⟩ := nn
  rw [N1] at HN
  simp only at HN
  have HK : Hid ((k1 = true → rd1 (sb s) 0 = some (k, a1)) ∧ (k1 = false → rd1 (sb s) 0 = none)) := by
    unfold Hid rd1
    rw [N1]
    cases k1 <;> simp
  clear N1
  go_wp2_with fail
  refine HN.mono ?_
  rintro e u2 ⟨rfl, q2, hq2, R2⟩
  clear HN R
  obtain ⟨c0, _, _, _, f0, _, _, _⟩ := R2.mx.cells
  have R3 := R2.set0 k
  obtain ⟨_, _, _, d3, _, _, _, g3⟩ := R3.mx.cells
  have R4 := R3.set3 k1
  clear R2 R3
  obtain ⟨e0, e1, e2, e3, h0, h1, h2, h3⟩ := R4.mx.cells
  cases k1 with
  | false =>
    have HE : Hid (mrd (sb s) = none) := by unfold Hid; rw [HM0.out, HK.out.2 rfl]; rfl
    clear HM0 HK hq2
    go_wp2_with fail
    refine imlr_r7 w.heap.size k 0 ⟨#[]⟩ _ _ R4.mx.c0 R4.mx.c1 R4.mx.c2 false R4.mx.c3 ?_
    intro u35 u36 u37 w9 y0 y1 y2 y3 byy
    have hbl := R4.bel
    go_wp2_with fail
    have X9 : MX _ w.heap.size k 0 ⟨#[]⟩ false := ⟨y0, y1, y2, y3⟩
    refine leaves_cons (f := 16) (args := #[.pointer (some ⟨w.heap.size + 1 + 1 + 1, 0, none⟩), .pointer (some ⟨w.heap.size, 0, none⟩), .pointer (some ⟨w.heap.size + 1, 0, none⟩), .pointer (some ⟨w.heap.size + 1 + 1, 0, none⟩)]) (by simp) (by simp [go_sem]) ?_
    refine (mrc_any w.heap.size _ _ _ _ _ X9).mono ?_
    rintro e u' wz ⟨rfl, rfl, X10, hbz⟩
    obtain ⟨x0, x1, x2, x3, _⟩ := X10.cells
    simp [Leaves, settle, results, Try.results6, go_sem, x0, x1, x2, x3, Result.andThen]
    rw [HE.out]
    exact ⟨rfl, hbl.trans (byy.trans hbz)⟩

  | true =>
    obtain rfl := hq2 rfl
    have HK1 := HK.out.1 rfl
    clear HK
    by_cases hk1 : k = 1
    · subst hk1
      have HM1 : Hid (mrd (sb s) = (rd1 (sb s) q2).bind fun p => mEnd (sb s) 1 p.1 p.2) := by unfold Hid; rw [HM0.out, HK1]; rfl
      clear HM0 HK1
      have HN := R4.num
      obtain ⟨nn, N1⟩ : ∃ n, gN (sb s) q2 = n := ⟨_, rfl⟩
      obtain ⟨p, a2, k2⟩ := nn
      rw [N1] at HN
      simp only at HN
      have HK : Hid ((k2 = true → rd1 (sb s) q2 = some (p, a2)) ∧ (k2 = false → rd1 (sb s) q2 = none)) := by
        unfold Hid rd1
        rw [N1]
        cases k2 <;> simp
      clear N1
      go_wp2_with (refine wpList_load_row rfl 40 _ rfl w1.heap.size rfl 40 #[.slice ao s.size cap, .pointer (some ⟨P, 0, none⟩)] (0, 0) _ R4.box Try.underlying40 rfl Try.sizeRd ?_)
      refine HN.mono ?_
      rintro e u3 ⟨rfl, q3, hq3, R5⟩
      clear HN c0 f0 d3 g3 e0 e1 e2 e3 h0 h1 h2 h3 R4
      obtain ⟨_, c1, _, _, _, f1, _, _⟩ := R5.mx.cells
      have R6 := R5.set1 p
      obtain ⟨_, _, _, d3, _, _, _, g3⟩ := R6.mx.cells
      have R7 := R6.set3 k2
      clear R5 R6
      obtain ⟨e0, e1, e2, e3, h0, h1, h2, h3⟩ := R7.mx.cells
      cases k2 with
      | false =>
        have HE : Hid (mrd (sb s) = none) := by unfold Hid; rw [HM1.out, HK.out.2 rfl]; rfl
        clear HM1 HK hq3
        go_wp2_with fail
        refine imlr_r7 w.heap.size 1 p ⟨#[]⟩ _ _ R7.mx.c0 R7.mx.c1 R7.mx.c2 false R7.mx.c3 ?_
        intro u35 u36 u37 w9 y0 y1 y2 y3 byy
        have hbl := R7.bel
        go_wp2_with fail
        have X9 : MX _ w.heap.size 1 p ⟨#[]⟩ false := ⟨y0, y1, y2, y3⟩
        refine leaves_cons (f := 16) (args := #[.pointer (some ⟨w.heap.size + 1 + 1 + 1, 0, none⟩), .pointer (some ⟨w.heap.size, 0, none⟩), .pointer (some ⟨w.heap.size + 1, 0, none⟩), .pointer (some ⟨w.heap.size + 1 + 1, 0, none⟩)]) (by simp) (by simp [go_sem]) ?_
        refine (mrc_any w.heap.size _ _ _ _ _ X9).mono ?_
        rintro e u' wz ⟨rfl, rfl, X10, hbz⟩
        obtain ⟨x0, x1, x2, x3, _⟩ := X10.cells
        simp [Leaves, settle, results, Try.results6, go_sem, x0, x1, x2, x3, Result.andThen]
        rw [HE.out]
        exact ⟨rfl, hbl.trans (byy.trans hbz)⟩

      | true =>
        obtain rfl := hq3 rfl
        have HM : Hid (mrd (sb s) = mEnd (sb s) 1 p q3) := by unfold Hid; rw [HM1.out, HK.out.1 rfl]; rfl
        clear HK HM1
        have R := R7
        clear R7
        have HT := R.text
        obtain ⟨tt, N3⟩ : ∃ n, gT (sb s) q3 = n := ⟨_, rfl⟩
        obtain ⟨t, a3, k3⟩ := tt
        rw [N3] at HT
        simp only at HT
        have hrg := gT_range (sb s) q3
        rw [N3] at hrg
        simp only at hrg
        have HE : Hid (mrd (sb s) = if k3 = true ∧ a3 = (sb s).length then some (1, p, t) else none) := by
          unfold Hid
          rw [HM.out]
          unfold mEnd rt
          rw [N3]
          cases k3 <;> simp
        clear N3 HM
        go_wp2_with (refine wpList_load_row rfl 40 _ rfl w1.heap.size rfl 40 #[.slice ao s.size cap, .pointer (some ⟨P, 0, none⟩)] (0, 0) _ R.box Try.underlying40 rfl Try.sizeRd ?_)
        refine HT.mono ?_
        rintro e u5 ⟨rfl, q5, hq5, R5⟩
        clear HT
        obtain ⟨c0, c1, c2, c3, f0, f1, f2, f3⟩ := R5.mx.cells
        have R6 := R5.set2 t
        obtain ⟨_, _, _, d3, _, _, _, g3⟩ := R6.mx.cells
        have R7 := R6.set3 k3
        clear R5
        go_wp2_with fail
        clear c0 c1 c2 c3 f0 f1 f2 f3 d3 g3 R6
        cases k3 with
        | false =>
          have HE2 : Hid (mrd (sb s) = none) := by unfold Hid; rw [HE.out]; simp
          refine imlr_r9n w.heap.size 1 p t _ _ R7.mx.c0 R7.mx.c1 R7.mx.c2 R7.mx.c3 ?_
          intro u43 u44 u45 u46 u47 u48 u49 u50 u51 w9 y0 y1 y2 y3 byy
          have hbl := R7.bel
          go_wp2_with fail
          have X9 : MX _ w.heap.size 1 p t false := ⟨y0, y1, y2, y3⟩
          refine leaves_cons (f := 16) (args := #[.pointer (some ⟨w.heap.size + 1 + 1 + 1, 0, none⟩), .pointer (some ⟨w.heap.size, 0, none⟩), .pointer (some ⟨w.heap.size + 1, 0, none⟩), .pointer (some ⟨w.heap.size + 1 + 1, 0, none⟩)]) (by simp) (by simp [go_sem]) ?_
          refine (mrc_any w.heap.size _ _ _ _ _ X9).mono ?_
          rintro e u' wz ⟨rfl, rfl, X10, hbz⟩
          obtain ⟨x0, x1, x2, x3, _⟩ := X10.cells
          simp [Leaves, settle, results, Try.results6, go_sem, x0, x1, x2, x3, Result.andThen]
          rw [HE2.out]
          exact ⟨rfl, hbl.trans (byy.trans hbz)⟩

        | true =>
          obtain rfl := hq5 rfl
          refine imlr_r9y w.heap.size 1 p t _ _ R7.mx.c0 R7.mx.c1 R7.mx.c2 R7.mx.c3 w1.heap.size P _ _ (sb s) R7.form R7.box R7.one (by have := R7.far; omega) ?_
          intro u43 u44 u45 u46 u47 u48 u49 u50 u51 w9 y0 y1 y2 y3 byy
          have hbl := R7.bel
          by_cases h3 : q5 = ((sb s).length : Int)
          · have HE2 : Hid (mrd (sb s) = some (1, p, t)) := by unfold Hid; rw [HE.out, if_pos ⟨rfl, h3⟩]
            have ey : decide (((sb s).length : Int) ≤ q5) = true := by simp; omega
            rw [ey] at y3
            clear ey
            go_wp2_with fail
            have X9 : MX _ w.heap.size 1 p t true := ⟨y0, y1, y2, y3⟩
            refine leaves_cons (f := 16) (args := #[.pointer (some ⟨w.heap.size + 1 + 1 + 1, 0, none⟩), .pointer (some ⟨w.heap.size, 0, none⟩), .pointer (some ⟨w.heap.size + 1, 0, none⟩), .pointer (some ⟨w.heap.size + 1 + 1, 0, none⟩)]) (by simp) (by simp [go_sem]) ?_
            refine (mrc_any w.heap.size _ _ _ _ _ X9).mono ?_
            rintro e u' wz ⟨rfl, rfl, X10, hbz⟩
            obtain ⟨x0, x1, x2, x3, _⟩ := X10.cells
            simp [Leaves, settle, results, Try.results6, go_sem, x0, x1, x2, x3, Result.andThen]
            rw [HE2.out]
            exact ⟨rfl, hbl.trans (byy.trans hbz)⟩

          · have HE2 : Hid (mrd (sb s) = none) := by unfold Hid; rw [HE.out, if_neg (fun h => h3 h.2)]
            have ey : decide (((sb s).length : Int) ≤ q5) = false := by simp; omega
            rw [ey] at y3
            clear ey
            go_wp2_with fail
            have X9 : MX _ w.heap.size 1 p t false := ⟨y0, y1, y2, y3⟩
            refine leaves_cons (f := 16) (args := #[.pointer (some ⟨w.heap.size + 1 + 1 + 1, 0, none⟩), .pointer (some ⟨w.heap.size, 0, none⟩), .pointer (some ⟨w.heap.size + 1, 0, none⟩), .pointer (some ⟨w.heap.size + 1 + 1, 0, none⟩)]) (by simp) (by simp [go_sem]) ?_
            refine (mrc_any w.heap.size _ _ _ _ _ X9).mono ?_
            rintro e u' wz ⟨rfl, rfl, X10, hbz⟩
            obtain ⟨x0, x1, x2, x3, _⟩ := X10.cells
            simp [Leaves, settle, results, Try.results6, go_sem, x0, x1, x2, x3, Result.andThen]
            rw [HE2.out]
            exact ⟨rfl, hbl.trans (byy.trans hbz)⟩

    · by_cases hk2 : k = 2
      · subst hk2
        have HM : Hid (mrd (sb s) = mEnd (sb s) 2 0 q2) := by unfold Hid; rw [HM0.out, HK1]; rfl
        clear HM0 HK1
        have R := R4
        have HT := R.text
        obtain ⟨tt, N3⟩ : ∃ n, gT (sb s) q2 = n := ⟨_, rfl⟩
        obtain ⟨t, a3, k3⟩ := tt
        rw [N3] at HT
        simp only at HT
        have hrg := gT_range (sb s) q2
        rw [N3] at hrg
        simp only at hrg
        have HE : Hid (mrd (sb s) = if k3 = true ∧ a3 = (sb s).length then some (2, 0, t) else none) := by
          unfold Hid
          rw [HM.out]
          unfold mEnd rt
          rw [N3]
          cases k3 <;> simp
        clear N3 HM
        go_wp2_with (refine wpList_load_row rfl 40 _ rfl w1.heap.size rfl 40 #[.slice ao s.size cap, .pointer (some ⟨P, 0, none⟩)] (0, 0) _ R.box Try.underlying40 rfl Try.sizeRd ?_)
        refine HT.mono ?_
        rintro e u5 ⟨rfl, q5, hq5, R5⟩
        clear HT
        obtain ⟨c0, c1, c2, c3, f0, f1, f2, f3⟩ := R5.mx.cells
        have R6 := R5.set2 t
        obtain ⟨_, _, _, d3, _, _, _, g3⟩ := R6.mx.cells
        have R7 := R6.set3 k3
        clear R5
        go_wp2_with fail
        clear c0 c1 c2 c3 f0 f1 f2 f3 d3 g3 R6
        cases k3 with
        | false =>
          have HE2 : Hid (mrd (sb s) = none) := by unfold Hid; rw [HE.out]; simp
          refine imlr_r9n w.heap.size 2 0 t _ _ R7.mx.c0 R7.mx.c1 R7.mx.c2 R7.mx.c3 ?_
          intro u43 u44 u45 u46 u47 u48 u49 u50 u51 w9 y0 y1 y2 y3 byy
          have hbl := R7.bel
          go_wp2_with fail
          have X9 : MX _ w.heap.size 2 0 t false := ⟨y0, y1, y2, y3⟩
          refine leaves_cons (f := 16) (args := #[.pointer (some ⟨w.heap.size + 1 + 1 + 1, 0, none⟩), .pointer (some ⟨w.heap.size, 0, none⟩), .pointer (some ⟨w.heap.size + 1, 0, none⟩), .pointer (some ⟨w.heap.size + 1 + 1, 0, none⟩)]) (by simp) (by simp [go_sem]) ?_
          refine (mrc_any w.heap.size _ _ _ _ _ X9).mono ?_
          rintro e u' wz ⟨rfl, rfl, X10, hbz⟩
          obtain ⟨x0, x1, x2, x3, _⟩ := X10.cells
          simp [Leaves, settle, results, Try.results6, go_sem, x0, x1, x2, x3, Result.andThen]
          rw [HE2.out]
          exact ⟨rfl, hbl.trans (byy.trans hbz)⟩

        | true =>
          obtain rfl := hq5 rfl
          refine imlr_r9y w.heap.size 2 0 t _ _ R7.mx.c0 R7.mx.c1 R7.mx.c2 R7.mx.c3 w1.heap.size P _ _ (sb s) R7.form R7.box R7.one (by have := R7.far; omega) ?_
          intro u43 u44 u45 u46 u47 u48 u49 u50 u51 w9 y0 y1 y2 y3 byy
          have hbl := R7.bel
          by_cases h3 : q5 = ((sb s).length : Int)
          · have HE2 : Hid (mrd (sb s) = some (2, 0, t)) := by unfold Hid; rw [HE.out, if_pos ⟨rfl, h3⟩]
            have ey : decide (((sb s).length : Int) ≤ q5) = true := by simp; omega
            rw [ey] at y3
            clear ey
            go_wp2_with fail
            have X9 : MX _ w.heap.size 2 0 t true := ⟨y0, y1, y2, y3⟩
            refine leaves_cons (f := 16) (args := #[.pointer (some ⟨w.heap.size + 1 + 1 + 1, 0, none⟩), .pointer (some ⟨w.heap.size, 0, none⟩), .pointer (some ⟨w.heap.size + 1, 0, none⟩), .pointer (some ⟨w.heap.size + 1 + 1, 0, none⟩)]) (by simp) (by simp [go_sem]) ?_
            refine (mrc_any w.heap.size _ _ _ _ _ X9).mono ?_
            rintro e u' wz ⟨rfl, rfl, X10, hbz⟩
            obtain ⟨x0, x1, x2, x3, _⟩ := X10.cells
            simp [Leaves, settle, results, Try.results6, go_sem, x0, x1, x2, x3, Result.andThen]
            rw [HE2.out]
            exact ⟨rfl, hbl.trans (byy.trans hbz)⟩

          · have HE2 : Hid (mrd (sb s) = none) := by unfold Hid; rw [HE.out, if_neg (fun h => h3 h.2)]
            have ey : decide (((sb s).length : Int) ≤ q5) = false := by simp; omega
            rw [ey] at y3
            clear ey
            go_wp2_with fail
            have X9 : MX _ w.heap.size 2 0 t false := ⟨y0, y1, y2, y3⟩
            refine leaves_cons (f := 16) (args := #[.pointer (some ⟨w.heap.size + 1 + 1 + 1, 0, none⟩), .pointer (some ⟨w.heap.size, 0, none⟩), .pointer (some ⟨w.heap.size + 1, 0, none⟩), .pointer (some ⟨w.heap.size + 1 + 1, 0, none⟩)]) (by simp) (by simp [go_sem]) ?_
            refine (mrc_any w.heap.size _ _ _ _ _ X9).mono ?_
            rintro e u' wz ⟨rfl, rfl, X10, hbz⟩
            obtain ⟨x0, x1, x2, x3, _⟩ := X10.cells
            simp [Leaves, settle, results, Try.results6, go_sem, x0, x1, x2, x3, Result.andThen]
            rw [HE2.out]
            exact ⟨rfl, hbl.trans (byy.trans hbz)⟩

      · have HE : Hid (mrd (sb s) = none) := by unfold Hid; rw [HM0.out, HK1]; simp [hk1, hk2]
        clear HM0 HK1
        have hb1 : (k == 1) = false := by simp [hk1]
        have hb2 : (k != 1) = true := by simp [hk1]
        have hb3 : (k != 2) = true := by simp [hk2]
        go_wp2_with fail
        refine imlr_r7 w.heap.size k 0 ⟨#[]⟩ _ _ R4.mx.c0 R4.mx.c1 R4.mx.c2 true R4.mx.c3 ?_
        intro u35 u36 u37 w9 y0 y1 y2 y3 byy
        have hbl := R4.bel
        go_wp2_with fail
        have X9 : MX _ w.heap.size k 0 ⟨#[]⟩ false := ⟨y0, y1, y2, y3⟩
        refine leaves_cons (f := 16) (args := #[.pointer (some ⟨w.heap.size + 1 + 1 + 1, 0, none⟩), .pointer (some ⟨w.heap.size, 0, none⟩), .pointer (some ⟨w.heap.size + 1, 0, none⟩), .pointer (some ⟨w.heap.size + 1 + 1, 0, none⟩)]) (by simp) (by simp [go_sem]) ?_
        refine (mrc_any w.heap.size _ _ _ _ _ X9).mono ?_
        rintro e u' wz ⟨rfl, rfl, X10, hbz⟩
        obtain ⟨x0, x1, x2, x3, _⟩ := X10.cells
        simp [Leaves, settle, results, Try.results6, go_sem, x0, x1, x2, x3, Result.andThen]
        rw [HE.out]
        exact ⟨rfl, hbl.trans (byy.trans hbz)⟩

end Go.Proofs.Ytpkpednemkagiaa
