/-
  Texts that stood by themselves, laid into one.
-/
import Derived.Test.YtfmafkebddojjaaGreatDoorPcMarkM
import Derived.Test.YtfmafkebddojjaaGreatDoorSWireM
import Derived.Test.YtfmafkebddojjaaGreatDoorMPack2M
import Derived.Defers
import Derived.Recover
import Derived.Test.YtfmafkebddojjaaGreatDoorSMlRM
import Derived.Test.YtfmafkebddojjaaGreatDoorSR8M
import Derived.Test.YtfmafkebddojjaaGreatDoorSGTextM
import Derived.Test.YtfmafkebddojjaaGreatDoorS8RdM
/-
  The regions of impl.MailRead that draw their order: what was read is told, and whether it is a payload. No condition.
-/
namespace Go.Proofs.YtfmafkebddojjaaGreatDoor
open Go.RowKit
structure MX (w : World) (b : Nat) (k p : Int) (t : ByteArray) (ok : Bool) : Prop where
 c0 : w.heap[b]? = some (.cells #[.int .i64 k] 3 (0, 0))
 c1 : w.heap[b + 1]? = some (.cells #[.int .i64 p] 3 (0, 0))
 c2 : w.heap[b + 1 + 1]? = some (.cells #[.string t] 9 (0, 0))
 c3 : w.heap[b + 1 + 1 + 1]? = some (.cells #[.bool ok] 4 (0, 0))
theorem MX.lt {w : World} {b : Nat} {k p : Int} {t : ByteArray} {ok : Bool} (h : MX w b k p t ok) : b + 1 + 1 + 1 < w.heap.size := Zbc h.c3
theorem MX.on {w w' : World} {b : Nat} {k p : Int} {t : ByteArray} {ok : Bool} (h : MX w b k p t ok) (hb : ∀ j, b <= j -> j <= b + 1 + 1 + 1 -> w'.heap[j]? = w.heap[j]?) : MX w' b k p t ok :=
 ⟨(hb _ (by omega) (by omega)).trans h.c0, (hb _ (by omega) (by omega)).trans h.c1, (hb _ (by omega) (by omega)).trans h.c2, (hb _ (by omega) (by omega)).trans h.c3⟩
theorem MX.below {w w' : World} {b : Nat} {k p : Int} {t : ByteArray} {ok : Bool} (h : MX w b k p t ok) (hb : Below w.heap.size w w') : MX w' b k p t ok := h.on fun j _ h2 => hb.block j (by have := h.lt; omega)
theorem MX.set0 {w : World} {b : Nat} {k p : Int} {t : ByteArray} {ok : Bool} (h : MX w b k p t ok) (k' : Int) : MX (w.setCell ⟨b, 0, none⟩ (.int .i64 k')) b k' p t ok :=
 ⟨heap_setCell_same w b 0 _ _ _ h.c0, (heap_setCell_other w ⟨b, 0, none⟩ _ _ (by show b + 1 ≠ b; omega)).trans h.c1, (heap_setCell_other w ⟨b, 0, none⟩ _ _ (by show b + 1 + 1 ≠ b; omega)).trans h.c2, (heap_setCell_other w ⟨b, 0, none⟩ _ _ (by show b + 1 + 1 + 1 ≠ b; omega)).trans h.c3⟩
theorem MX.set1 {w : World} {b : Nat} {k p : Int} {t : ByteArray} {ok : Bool} (h : MX w b k p t ok) (p' : Int) : MX (w.setCell ⟨b + 1, 0, none⟩ (.int .i64 p')) b k p' t ok :=
 ⟨(heap_setCell_other w ⟨b + 1, 0, none⟩ _ _ (by show b ≠ b + 1; omega)).trans h.c0, heap_setCell_same w (b + 1) 0 _ _ _ h.c1, (heap_setCell_other w ⟨b + 1, 0, none⟩ _ _ (by show b + 1 + 1 ≠ b + 1; omega)).trans h.c2, (heap_setCell_other w ⟨b + 1, 0, none⟩ _ _ (by show b + 1 + 1 + 1 ≠ b + 1; omega)).trans h.c3⟩
theorem MX.set2 {w : World} {b : Nat} {k p : Int} {t : ByteArray} {ok : Bool} (h : MX w b k p t ok) (t' : ByteArray) : MX (w.setCell ⟨b + 1 + 1, 0, none⟩ (.string t')) b k p t' ok :=
 ⟨(heap_setCell_other w ⟨b + 1 + 1, 0, none⟩ _ _ (by show b ≠ b + 1 + 1; omega)).trans h.c0, (heap_setCell_other w ⟨b + 1 + 1, 0, none⟩ _ _ (by show b + 1 ≠ b + 1 + 1; omega)).trans h.c1, heap_setCell_same w (b + 1 + 1) 0 _ _ _ h.c2, (heap_setCell_other w ⟨b + 1 + 1, 0, none⟩ _ _ (by show b + 1 + 1 + 1 ≠ b + 1 + 1; omega)).trans h.c3⟩
theorem MX.set3 {w : World} {b : Nat} {k p : Int} {t : ByteArray} {ok : Bool} (h : MX w b k p t ok) (ok' : Bool) : MX (w.setCell ⟨b + 1 + 1 + 1, 0, none⟩ (.bool ok')) b k p t ok' :=
 ⟨(heap_setCell_other w ⟨b + 1 + 1 + 1, 0, none⟩ _ _ (by show b ≠ b + 1 + 1 + 1; omega)).trans h.c0, (heap_setCell_other w ⟨b + 1 + 1 + 1, 0, none⟩ _ _ (by show b + 1 ≠ b + 1 + 1 + 1; omega)).trans h.c1, (heap_setCell_other w ⟨b + 1 + 1 + 1, 0, none⟩ _ _ (by show b + 1 + 1 ≠ b + 1 + 1 + 1; omega)).trans h.c2, heap_setCell_same w (b + 1 + 1 + 1) 0 _ _ _ h.c3⟩
theorem MX.cells {w : World} {b : Nat} {k p : Int} {t : ByteArray} {ok : Bool} (h : MX w b k p t ok) :
  w.cell? ⟨b, 0, none⟩ = some (.int .i64 k) /\ w.cell? ⟨b + 1, 0, none⟩ = some (.int .i64 p) /\ w.cell? ⟨b + 1 + 1, 0, none⟩ = some (.string t) /\ w.cell? ⟨b + 1 + 1 + 1, 0, none⟩ = some (.bool ok) /\
   w.frozen? ⟨b, 0, none⟩ = false /\ w.frozen? ⟨b + 1, 0, none⟩ = false /\ w.frozen? ⟨b + 1 + 1, 0, none⟩ = false /\ w.frozen? ⟨b + 1 + 1 + 1, 0, none⟩ = false :=
 ⟨cell_of_row w _ 0 _ _ _ h.c0, cell_of_row w _ 0 _ _ _ h.c1, cell_of_row w _ 0 _ _ _ h.c2, cell_of_row w _ 0 _ _ _ h.c3, frozen_of_row w _ 0 _ _ h.c0, frozen_of_row w _ 0 _ _ h.c1, frozen_of_row w _ 0 _ _ h.c2, frozen_of_row w _ 0 _ _ h.c3⟩
theorem Row.set1 {w : World} {v : Value} {zs : List Int} {b : Nat} {x : Value} {t : TypeId} (R : Row w v zs) (h : w.heap[b]? = some (.cells #[x] t (0, 0))) (hx : ∀ z, x ≠ .int .u8 z) (y : Value) : Row (w.setCell ⟨b, 0, none⟩ y) v zs := by
 obtain ⟨ao, cap, rfl, hc, hm, hz, hcell⟩ := R
 refine ⟨ao, cap, rfl, hc, hm, hz, fun hne => ?_⟩
 obtain ⟨g, o, rfl, hg, hcl⟩ := hcell hne
 have hl : 0 < zs.length := List.length_pos_iff.2 hne
 have hgb : g ≠ b := by
  rintro rfl
  have e := hcl 0 hl
  rw [cell_of_row w g (o + 0) _ _ _ h] at e
  cases o with
  | zero => simp at e; exact hx _ e
  | succ n => simp at e
 refine ⟨g, o, rfl, by simpa using hg, fun i hi => ?_⟩
 rw [World.cell?_of_block (w := w) (heap_setCell_other w ⟨b, 0, none⟩ g y hgb)]
 exact hcl i hi
theorem ZbY {V u : World} {n b : Nat} {x : Value} {t : TypeId} (h : Below n V u) (hV : V.heap[b]? = some (.cells #[x] t (0, 0))) (hb : b < n) (y : Value) : Below n (V.setCell ⟨b, 0, none⟩ y) (u.setCell ⟨b, 0, none⟩ y) := by
 have hU : u.heap[b]? = some (.cells #[x] t (0, 0)) := (h.block b hb).trans hV
 refine ⟨h.os, h.tape, h.output, by simpa using h.size, fun k hk => ?_⟩
 by_cases hkb : k = b
 ·subst hkb
  rw [heap_setCell_same u k 0 _ _ y hU, heap_setCell_same V k 0 _ _ y hV]
 ·rw [heap_setCell_other u ⟨b, 0, none⟩ k y hkb, heap_setCell_other V ⟨b, 0, none⟩ k y hkb]
  exact h.block k hk
structure RS (w u : World) (v : Value) (zs : List Int) (P rb : Nat) (a k p : Int) (t : ByteArray) (ok : Bool) : Prop where
 sh : ∃ V, Row V v zs /\ Below V.heap.size V u /\ V.heap.size <= P /\ MX V w.heap.size k p t ok
 box : u.heap[rb]? = some (.cells #[v, .pointer (some ⟨P, 0, none⟩)] 254 (0, 0))
 one : One u P a
 bel : Below w.heap.size w u
 ne : P < rb
theorem RS.far {w u : World} {v : Value} {zs : List Int} {P rb : Nat} {a k p : Int} {t : ByteArray} {ok : Bool} (R : RS w u v zs P rb a k p t ok) : w.heap.size + 1 + 1 + 1 < P /\ P < rb := by
 obtain ⟨V, _, _, h3, h4⟩ := R.sh
 have := h4.lt
 exact ⟨by omega, R.ne⟩
theorem RS.form {w u : World} {v : Value} {zs : List Int} {P rb : Nat} {a k p : Int} {t : ByteArray} {ok : Bool} (R : RS w u v zs P rb a k p t ok) : ∃ ao cap, v = .slice ao zs.length cap := by
 obtain ⟨V, ⟨ao, cap, h, _⟩, _⟩ := R.sh
 exact ⟨ao, cap, h⟩
theorem RS.boxes {w u : World} {v : Value} {zs : List Int} {P rb : Nat} {a k p : Int} {t : ByteArray} {ok : Bool} (R : RS w u v zs P rb a k p t ok) : u.cell? ⟨rb, 0, none⟩ = some v /\ u.cell? ⟨rb, 1, none⟩ = some (.pointer (some ⟨P, 0, none⟩)) :=
 ⟨cell_of_row u _ 0 _ _ _ R.box, cell_of_row u _ 1 _ _ _ R.box⟩
theorem RS.grown {w u u' : World} {v : Value} {zs : List Int} {P rb : Nat} {a a' k p : Int} {t : ByteArray} {ok : Bool} (R : RS w u v zs P rb a k p t ok) (hg : u.grownBy u' (some P)) (h1 : One u' P a') : RS w u' v zs P rb a' k p t ok := by
 obtain ⟨V, h1', h2, h3, h4⟩ := R.sh
 have hf := R.far
 exact ⟨⟨V, h1', h2.grown hg h2.size (fun k hk => by cases hk; omega), h3, h4⟩, (hg.block _ (Zbc R.box) (by simp; omega)).trans R.box, h1, R.bel.grown hg R.bel.size (fun k hk => by cases hk; omega), R.ne⟩
theorem RS.set0 {w u : World} {v : Value} {zs : List Int} {P rb : Nat} {a k p : Int} {t : ByteArray} {ok : Bool} (R : RS w u v zs P rb a k p t ok) (k' : Int) : RS w (u.setCell ⟨w.heap.size, 0, none⟩ (.int .i64 k')) v zs P rb a k' p t ok := by
 obtain ⟨V, h1, h2, h3, h4⟩ := R.sh
 have hf := R.far
 have hl := h4.lt
 exact ⟨⟨V.setCell ⟨w.heap.size, 0, none⟩ (.int .i64 k'), h1.set1 h4.c0 (by intro z h; cases h) _, by rw [World.size_setCell]; exact ZbY h2 h4.c0 (by omega) _, by rw [World.size_setCell]; exact h3, h4.set0 _⟩,
  (heap_setCell_other u ⟨w.heap.size, 0, none⟩ rb _ (by show rb ≠ w.heap.size; omega)).trans R.box, (heap_setCell_other u ⟨w.heap.size, 0, none⟩ P _ (by show P ≠ w.heap.size; omega)).trans R.one, R.bel.setCell (p := ⟨w.heap.size, 0, none⟩) (by show w.heap.size <= w.heap.size; omega) _, R.ne⟩
theorem RS.set1 {w u : World} {v : Value} {zs : List Int} {P rb : Nat} {a k p : Int} {t : ByteArray} {ok : Bool} (R : RS w u v zs P rb a k p t ok) (p' : Int) : RS w (u.setCell ⟨w.heap.size + 1, 0, none⟩ (.int .i64 p')) v zs P rb a k p' t ok := by
 obtain ⟨V, h1, h2, h3, h4⟩ := R.sh
 have hf := R.far
 have hl := h4.lt
 exact ⟨⟨V.setCell ⟨w.heap.size + 1, 0, none⟩ (.int .i64 p'), h1.set1 h4.c1 (by intro z h; cases h) _, by rw [World.size_setCell]; exact ZbY h2 h4.c1 (by omega) _, by rw [World.size_setCell]; exact h3, h4.set1 _⟩,
  (heap_setCell_other u ⟨w.heap.size + 1, 0, none⟩ rb _ (by show rb ≠ w.heap.size + 1; omega)).trans R.box, (heap_setCell_other u ⟨w.heap.size + 1, 0, none⟩ P _ (by show P ≠ w.heap.size + 1; omega)).trans R.one, R.bel.setCell (p := ⟨w.heap.size + 1, 0, none⟩) (by show w.heap.size <= w.heap.size + 1; omega) _, R.ne⟩
theorem RS.set2 {w u : World} {v : Value} {zs : List Int} {P rb : Nat} {a k p : Int} {t : ByteArray} {ok : Bool} (R : RS w u v zs P rb a k p t ok) (t' : ByteArray) : RS w (u.setCell ⟨w.heap.size + 1 + 1, 0, none⟩ (.string t')) v zs P rb a k p t' ok := by
 obtain ⟨V, h1, h2, h3, h4⟩ := R.sh
 have hf := R.far
 have hl := h4.lt
 exact ⟨⟨V.setCell ⟨w.heap.size + 1 + 1, 0, none⟩ (.string t'), h1.set1 h4.c2 (by intro z h; cases h) _, by rw [World.size_setCell]; exact ZbY h2 h4.c2 (by omega) _, by rw [World.size_setCell]; exact h3, h4.set2 _⟩,
  (heap_setCell_other u ⟨w.heap.size + 1 + 1, 0, none⟩ rb _ (by show rb ≠ w.heap.size + 1 + 1; omega)).trans R.box, (heap_setCell_other u ⟨w.heap.size + 1 + 1, 0, none⟩ P _ (by show P ≠ w.heap.size + 1 + 1; omega)).trans R.one, R.bel.setCell (p := ⟨w.heap.size + 1 + 1, 0, none⟩) (by show w.heap.size <= w.heap.size + 1 + 1; omega) _, R.ne⟩
theorem RS.set3 {w u : World} {v : Value} {zs : List Int} {P rb : Nat} {a k p : Int} {t : ByteArray} {ok : Bool} (R : RS w u v zs P rb a k p t ok) (ok' : Bool) : RS w (u.setCell ⟨w.heap.size + 1 + 1 + 1, 0, none⟩ (.bool ok')) v zs P rb a k p t ok' := by
 obtain ⟨V, h1, h2, h3, h4⟩ := R.sh
 have hf := R.far
 have hl := h4.lt
 exact ⟨⟨V.setCell ⟨w.heap.size + 1 + 1 + 1, 0, none⟩ (.bool ok'), h1.set1 h4.c3 (by intro z h; cases h) _, by rw [World.size_setCell]; exact ZbY h2 h4.c3 (by omega) _, by rw [World.size_setCell]; exact h3, h4.set3 _⟩,
  (heap_setCell_other u ⟨w.heap.size + 1 + 1 + 1, 0, none⟩ rb _ (by show rb ≠ w.heap.size + 1 + 1 + 1; omega)).trans R.box, (heap_setCell_other u ⟨w.heap.size + 1 + 1 + 1, 0, none⟩ P _ (by show P ≠ w.heap.size + 1 + 1 + 1; omega)).trans R.one, R.bel.setCell (p := ⟨w.heap.size + 1 + 1 + 1, 0, none⟩) (by show w.heap.size <= w.heap.size + 1 + 1 + 1; omega) _, R.ne⟩
theorem RS.num {w u : World} {v : Value} {zs : List Int} {P rb : Nat} {a k p : Int} {t : ByteArray} {ok : Bool} (R : RS w u v zs P rb a k p t ok) :
  Calls Tryz.prog 207 #[.agg #[v, .pointer (some ⟨P, 0, none⟩)]] u fun e u' => e = .returned (.tuple #[.int .i64 (gN zs a).1, .bool (gN zs a).2.2]) /\ ∃ q, ((gN zs a).2.2 = true -> q = (gN zs a).2.1) /\ RS w u' v zs P rb q k p t ok := by
 obtain ⟨V, h1, h2, h3, h4⟩ := id R.sh
 refine (Zfu v zs P a V u h1 h2 h3 R.one).mono ?_
 rintro e u' ⟨rfl, ⟨q, ho, hq⟩, hg⟩
 exact ⟨rfl, q, hq, R.grown hg ho⟩
theorem RS.text {w u : World} {v : Value} {zs : List Int} {P rb : Nat} {a k p : Int} {t : ByteArray} {ok : Bool} (R : RS w u v zs P rb a k p t ok) :
  Calls Tryz.prog 208 #[.agg #[v, .pointer (some ⟨P, 0, none⟩)]] u fun e u' => e = .returned (.tuple #[.string (gT zs a).1, .bool (gT zs a).2.2]) /\ ∃ q, ((gT zs a).2.2 = true -> q = (gT zs a).2.1) /\ RS w u' v zs P rb q k p t ok := by
 obtain ⟨V, h1, h2, h3, h4⟩ := id R.sh
 refine (ZfU v zs P a V u h1 h2 h3 R.one).mono ?_
 rintro e u' ⟨rfl, ⟨q, ho, hq⟩, hg⟩
 exact ⟨rfl, q, hq, R.grown hg ho⟩
def tsL (zs : List Int) : Nat -> List ByteArray -> Int -> Bool -> List ByteArray × Int × Bool
 | 0, xs, a, ok => (xs, a, ok)
 | m + 1, xs, a, ok => if ok then tsL zs m (xs ++ [(txt8 zs a true).1]) (txt8 zs a true).2.1 (txt8 zs a true).2.2 else (xs, a, false)
end Go.Proofs.YtfmafkebddojjaaGreatDoor
