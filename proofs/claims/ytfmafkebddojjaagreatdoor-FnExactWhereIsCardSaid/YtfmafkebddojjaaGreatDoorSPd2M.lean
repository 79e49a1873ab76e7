/-
  Texts that stood by themselves, laid into one.
-/
import Derived.Test.YtfmafkebddojjaaGreatDoorIMlRgM
import Derived.Defers
import Derived.Recover
import Derived.Test.YtfmafkebddojjaaGreatDoorSMlRM
import Derived.Test.YtfmafkebddojjaaGreatDoorSR8M
import Derived.Test.YtfmafkebddojjaaGreatDoorSGTextM
import Derived.Test.YtfmafkebddojjaaGreatDoorMRgM
import Derived.Test.YtfmafkebddojjaaGreatDoorS8RdM
/-
  The contract of impl.MailRead, and of the function that it defers. No condition but bounds.
-/
set_option maxRecDepth 100000
set_option maxHeartbeats 12800000
namespace Go.Proofs.YtfmafkebddojjaaGreatDoor
open Go.RowKit
structure MX (w : World) (b : Nat) (k p : Int) (t : ByteArray) (ok : Bool) : Prop where
 c0 : w.heap[b]? = some (.cells #[.int .i64 k] 3 (0, 0))
 c1 : w.heap[b + 1]? = some (.cells #[.int .i64 p] 3 (0, 0))
 c2 : w.heap[b + 1 + 1]? = some (.cells #[.string t] 9 (0, 0))
 c3 : w.heap[b + 1 + 1 + 1]? = some (.cells #[.bool ok] 4 (0, 0))
theorem MX.lt {w : World} {b : Nat} {k p : Int} {t : ByteArray} {ok : Bool} (h : MX w b k p t ok) : b + 1 + 1 + 1 < w.heap.size := Zao h.c3
theorem MX.on {w w' : World} {b : Nat} {k p : Int} {t : ByteArray} {ok : Bool} (h : MX w b k p t ok) (hb : ∀ j, b <= j -> j <= b + 1 + 1 + 1 -> w'.heap[j]? = w.heap[j]?) : MX w' b k p t ok :=
 ⟨(hb _ (by omega) (by omega)).trans h.c0, (hb _ (by omega) (by omega)).trans h.c1, (hb _ (by omega) (by omega)).trans h.c2, (hb _ (by omega) (by omega)).trans h.c3⟩
theorem MX.below {w w' : World} {b : Nat} {k p : Int} {t : ByteArray} {ok : Bool} (h : MX w b k p t ok) (hb : Below w.heap.size w w') : MX w' b k p t ok := h.on fun j _ h2 => hb.block j (by have := h.lt; omega)
theorem MX.set0 {w : World} {b : Nat} {k p : Int} {t : ByteArray} {ok : Bool} (h : MX w b k p t ok) (k' : Int) : MX (w.setCell ⟨b, 0, none⟩ (.int .i64 k')) b k' p t ok :=
 ⟨heap_setCell_same w b 0 _ _ _ h.c0, (heap_setCell_other w ⟨b, 0, none⟩ _ _ (by show b + 1 ≠ b; omega)).trans h.c1, (heap_setCell_other w ⟨b, 0, none⟩ _ _ (by show b + 1 + 1 ≠ b; omega)).trans h.c2, (heap_setCell_other w ⟨b, 0, none⟩ _ _ (by show b + 1 + 1 + 1 ≠ b; omega)).trans h.c3⟩
theorem MX.set1 {w : World} {b : Nat} {k p : Int} {t : ByteArray} {ok : Bool} (h : MX w b k p t ok) (p' : Int) : MX (w.setCell ⟨b + 1, 0, none⟩ (.int .i64 p')) b k p' t ok :=
 ⟨(heap_setCell_other w ⟨b + 1, 0, none⟩ _ _ (by show b ≠ b + 1; omega)).trans h.c0, heap_setCell_same w (b + 1) 0 _ _ _ h.c1, (heap_setCell_other w ⟨b + 1, 0, none⟩ _ _ (by show b + 1 + 1 ≠ b + 1; omega)).trans h.c2, (heap_setCell_other w ⟨b + 1, 0, none⟩ _ _ (by show b + 1 + 1 + 1 ≠ b + 1; omega)).trans h.c3⟩
theorem MX.set2 {w : World} {b : Nat} {k p : Int} {t : ByteArray} {ok : Bool} (h : MX w b k p t ok) (t' : ByteArray) : MX (w.setCell ⟨b + 1 + 1, 0, none⟩ (.string t')) b k p t' ok :=
 ⟨(heap_setCell_other w ⟨b + 1 + 1, 0, none⟩ _ _ (by show b ≠ b + 1 + 1; omega)).trans h.c0, (heap_setCell_other w ⟨b + 1 + 1, 0, none⟩ _ _ (by show b + 1 ≠ b + 1 + 1; omega)).trans h.c1, heap_setCell_same w (b + 1 + 1) 0 _ _ _ h.c2, (heap_setCell_other w ⟨b + 1 + 1, 0, none⟩ _ _ (by show b + 1 + 1 + 1 ≠ b + 1 + 1; omega)).trans h.c3⟩
theorem MX.set3 {w : World} {b : Nat} {k p : Int} {t : ByteArray} {ok : Bool} (h : MX w b k p t ok) (ok' : Bool) : MX (w.setCell ⟨b + 1 + 1 + 1, 0, none⟩ (.bool ok')) b k p t ok' :=
 ⟨(heap_setCell_other w ⟨b + 1 + 1 + 1, 0, none⟩ _ _ (by show b ≠ b + 1 + 1 + 1; omega)).trans h.c0, (heap_setCell_other w ⟨b + 1 + 1 + 1, 0, none⟩ _ _ (by show b + 1 ≠ b + 1 + 1 + 1; omega)).trans h.c1, (heap_setCell_other w ⟨b + 1 + 1 + 1, 0, none⟩ _ _ (by show b + 1 + 1 ≠ b + 1 + 1 + 1; omega)).trans h.c2, heap_setCell_same w (b + 1 + 1 + 1) 0 _ _ _ h.c3⟩
theorem MX.cells {w : World} {b : Nat} {k p : Int} {t : ByteArray} {ok : Bool} (h : MX w b k p t ok) :
  w.cell? ⟨b, 0, none⟩ = some (.int .i64 k) /\ w.cell? ⟨b + 1, 0, none⟩ = some (.int .i64 p) /\ w.cell? ⟨b + 1 + 1, 0, none⟩ = some (.string t) /\ w.cell? ⟨b + 1 + 1 + 1, 0, none⟩ = some (.bool ok) /\
   w.frozen? ⟨b, 0, none⟩ = false /\ w.frozen? ⟨b + 1, 0, none⟩ = false /\ w.frozen? ⟨b + 1 + 1, 0, none⟩ = false /\ w.frozen? ⟨b + 1 + 1 + 1, 0, none⟩ = false :=
 ⟨cell_of_row w _ 0 _ _ _ h.c0, cell_of_row w _ 0 _ _ _ h.c1, cell_of_row w _ 0 _ _ _ h.c2, cell_of_row w _ 0 _ _ _ h.c3, frozen_of_row w _ 0 _ _ h.c0, frozen_of_row w _ 0 _ _ h.c1, frozen_of_row w _ 0 _ _ h.c2, frozen_of_row w _ 0 _ _ h.c3⟩
theorem ZbM (b : Nat) (k p : Int) (t : ByteArray) (ok : Bool) (w : World) (X : MX w b k p t ok) :
  CallsD Tryz.prog 205 #[.pointer (some ⟨b + 1 + 1 + 1, 0, none⟩), .pointer (some ⟨b, 0, none⟩), .pointer (some ⟨b + 1, 0, none⟩), .pointer (some ⟨b + 1 + 1, 0, none⟩)] .returning w fun e u' w' =>
   u' = .returning /\ (e = .returned (.tuple #[]) /\ MX w' b (if ok then k else 0) (if ok then p else 0) (if ok then t else ⟨#[]⟩) ok /\ Below b w w') := by
 obtain ⟨c0, c1, c2, c3, f0, f1, f2, f3⟩ := X.cells
 have Y0 := X.set0 0
 have Y1 := Y0.set1 0
 have Y2 := Y1.set2 ⟨#[]⟩
 obtain ⟨_, y1, _, _, _, z1, _, _⟩ := Y0.cells
 obtain ⟨_, _, y2, _, _, _, z2, _⟩ := Y1.cells
 have hb : Below b w (((w.setCell ⟨b, 0, none⟩ (.int .i64 0)).setCell ⟨b + 1, 0, none⟩ (.int .i64 0)).setCell ⟨b + 1 + 1, 0, none⟩ (.string ⟨#[]⟩)) :=
  (((Below.refl _ _).setCell (p := ⟨b, 0, none⟩) (Nat.le_refl _) _).setCell (p := ⟨b + 1, 0, none⟩) (by show b <= b + 1; omega) _).setCell (p := ⟨b + 1 + 1, 0, none⟩) (by show b <= b + 1 + 1; omega) _
 go_enter_d Tryz.func205, Tryz.ntmps205
 cases ok with
 | true =>
  go_wp2
  go_end0
  exact ⟨rfl, X, Below.refl _ _⟩
 | false =>
  go_wp2
  go_end0
  exact ⟨rfl, Y2, hb⟩
theorem Row.set1 {w : World} {v : Value} {zs : List Int} {b : Nat} {x : Value} {t : TypeId} (R : Row w v zs) (h : w.heap[b]? = some (.cells #[x] t (0, 0))) (hx : ∀ z, x ≠ .int .u8 z) (y : Value) : Row (w.setCell ⟨b, 0, none⟩ y) v zs := by
 obtain ⟨ao, cap, rfl, hc, hm, hz, hcell⟩ := R
 refine ⟨ao, cap, rfl, hc, hm, hz, fun hne => ?_⟩
 obtain ⟨g, o, rfl, hg, hcl⟩ := hcell hne
 have hl : 0 < zs.length := List.length_pos_iff.2 hne
 have hgb : g ≠ b := by
  rintro rfl
  have e := hcl 0 hl
  rw [cell_of_row w g (o + 0) _ _ _ h] at e
  cases o with
  | zero => simp at e; exact hx _ e
  | succ n => simp at e
 refine ⟨g, o, rfl, by simpa using hg, fun i hi => ?_⟩
 rw [World.cell?_of_block (w := w) (heap_setCell_other w ⟨b, 0, none⟩ g y hgb)]
 exact hcl i hi
theorem Zcl {V u : World} {n b : Nat} {x : Value} {t : TypeId} (h : Below n V u) (hV : V.heap[b]? = some (.cells #[x] t (0, 0))) (hb : b < n) (y : Value) : Below n (V.setCell ⟨b, 0, none⟩ y) (u.setCell ⟨b, 0, none⟩ y) := by
 have hU : u.heap[b]? = some (.cells #[x] t (0, 0)) := (h.block b hb).trans hV
 refine ⟨h.os, h.tape, h.output, by simpa using h.size, fun k hk => ?_⟩
 by_cases hkb : k = b
 ·subst hkb
  rw [heap_setCell_same u k 0 _ _ y hU, heap_setCell_same V k 0 _ _ y hV]
 ·rw [heap_setCell_other u ⟨b, 0, none⟩ k y hkb, heap_setCell_other V ⟨b, 0, none⟩ k y hkb]
  exact h.block k hk
structure RS (w u : World) (v : Value) (zs : List Int) (P rb : Nat) (a k p : Int) (t : ByteArray) (ok : Bool) : Prop where
 sh : ∃ V, Row V v zs /\ Below V.heap.size V u /\ V.heap.size <= P /\ MX V w.heap.size k p t ok
 box : u.heap[rb]? = some (.cells #[v, .pointer (some ⟨P, 0, none⟩)] 254 (0, 0))
 one : One u P a
 bel : Below w.heap.size w u
 ne : P < rb
theorem RS.mx {w u : World} {v : Value} {zs : List Int} {P rb : Nat} {a k p : Int} {t : ByteArray} {ok : Bool} (R : RS w u v zs P rb a k p t ok) : MX u w.heap.size k p t ok := by
 obtain ⟨V, _, h2, _, h4⟩ := R.sh
 exact h4.below h2
theorem RS.far {w u : World} {v : Value} {zs : List Int} {P rb : Nat} {a k p : Int} {t : ByteArray} {ok : Bool} (R : RS w u v zs P rb a k p t ok) : w.heap.size + 1 + 1 + 1 < P /\ P < rb := by
 obtain ⟨V, _, _, h3, h4⟩ := R.sh
 have := h4.lt
 exact ⟨by omega, R.ne⟩
theorem RS.form {w u : World} {v : Value} {zs : List Int} {P rb : Nat} {a k p : Int} {t : ByteArray} {ok : Bool} (R : RS w u v zs P rb a k p t ok) : ∃ ao cap, v = .slice ao zs.length cap := by
 obtain ⟨V, ⟨ao, cap, h, _⟩, _⟩ := R.sh
 exact ⟨ao, cap, h⟩
theorem RS.grown {w u u' : World} {v : Value} {zs : List Int} {P rb : Nat} {a a' k p : Int} {t : ByteArray} {ok : Bool} (R : RS w u v zs P rb a k p t ok) (hg : u.grownBy u' (some P)) (h1 : One u' P a') : RS w u' v zs P rb a' k p t ok := by
 obtain ⟨V, h1', h2, h3, h4⟩ := R.sh
 have hf := R.far
 exact ⟨⟨V, h1', h2.grown hg h2.size (fun k hk => by cases hk; omega), h3, h4⟩, (hg.block _ (Zao R.box) (by simp; omega)).trans R.box, h1, R.bel.grown hg R.bel.size (fun k hk => by cases hk; omega), R.ne⟩
theorem RS.set0 {w u : World} {v : Value} {zs : List Int} {P rb : Nat} {a k p : Int} {t : ByteArray} {ok : Bool} (R : RS w u v zs P rb a k p t ok) (k' : Int) : RS w (u.setCell ⟨w.heap.size, 0, none⟩ (.int .i64 k')) v zs P rb a k' p t ok := by
 obtain ⟨V, h1, h2, h3, h4⟩ := R.sh
 have hf := R.far
 have hl := h4.lt
 exact ⟨⟨V.setCell ⟨w.heap.size, 0, none⟩ (.int .i64 k'), h1.set1 h4.c0 (by intro z h; cases h) _, by rw [World.size_setCell]; exact Zcl h2 h4.c0 (by omega) _, by rw [World.size_setCell]; exact h3, h4.set0 _⟩,
  (heap_setCell_other u ⟨w.heap.size, 0, none⟩ rb _ (by show rb ≠ w.heap.size; omega)).trans R.box, (heap_setCell_other u ⟨w.heap.size, 0, none⟩ P _ (by show P ≠ w.heap.size; omega)).trans R.one, R.bel.setCell (p := ⟨w.heap.size, 0, none⟩) (by show w.heap.size <= w.heap.size; omega) _, R.ne⟩
theorem RS.set1 {w u : World} {v : Value} {zs : List Int} {P rb : Nat} {a k p : Int} {t : ByteArray} {ok : Bool} (R : RS w u v zs P rb a k p t ok) (p' : Int) : RS w (u.setCell ⟨w.heap.size + 1, 0, none⟩ (.int .i64 p')) v zs P rb a k p' t ok := by
 obtain ⟨V, h1, h2, h3, h4⟩ := R.sh
 have hf := R.far
 have hl := h4.lt
 exact ⟨⟨V.setCell ⟨w.heap.size + 1, 0, none⟩ (.int .i64 p'), h1.set1 h4.c1 (by intro z h; cases h) _, by rw [World.size_setCell]; exact Zcl h2 h4.c1 (by omega) _, by rw [World.size_setCell]; exact h3, h4.set1 _⟩,
  (heap_setCell_other u ⟨w.heap.size + 1, 0, none⟩ rb _ (by show rb ≠ w.heap.size + 1; omega)).trans R.box, (heap_setCell_other u ⟨w.heap.size + 1, 0, none⟩ P _ (by show P ≠ w.heap.size + 1; omega)).trans R.one, R.bel.setCell (p := ⟨w.heap.size + 1, 0, none⟩) (by show w.heap.size <= w.heap.size + 1; omega) _, R.ne⟩
theorem RS.set2 {w u : World} {v : Value} {zs : List Int} {P rb : Nat} {a k p : Int} {t : ByteArray} {ok : Bool} (R : RS w u v zs P rb a k p t ok) (t' : ByteArray) : RS w (u.setCell ⟨w.heap.size + 1 + 1, 0, none⟩ (.string t')) v zs P rb a k p t' ok := by
 obtain ⟨V, h1, h2, h3, h4⟩ := R.sh
 have hf := R.far
 have hl := h4.lt
 exact ⟨⟨V.setCell ⟨w.heap.size + 1 + 1, 0, none⟩ (.string t'), h1.set1 h4.c2 (by intro z h; cases h) _, by rw [World.size_setCell]; exact Zcl h2 h4.c2 (by omega) _, by rw [World.size_setCell]; exact h3, h4.set2 _⟩,
  (heap_setCell_other u ⟨w.heap.size + 1 + 1, 0, none⟩ rb _ (by show rb ≠ w.heap.size + 1 + 1; omega)).trans R.box, (heap_setCell_other u ⟨w.heap.size + 1 + 1, 0, none⟩ P _ (by show P ≠ w.heap.size + 1 + 1; omega)).trans R.one, R.bel.setCell (p := ⟨w.heap.size + 1 + 1, 0, none⟩) (by show w.heap.size <= w.heap.size + 1 + 1; omega) _, R.ne⟩
theorem RS.set3 {w u : World} {v : Value} {zs : List Int} {P rb : Nat} {a k p : Int} {t : ByteArray} {ok : Bool} (R : RS w u v zs P rb a k p t ok) (ok' : Bool) : RS w (u.setCell ⟨w.heap.size + 1 + 1 + 1, 0, none⟩ (.bool ok')) v zs P rb a k p t ok' := by
 obtain ⟨V, h1, h2, h3, h4⟩ := R.sh
 have hf := R.far
 have hl := h4.lt
 exact ⟨⟨V.setCell ⟨w.heap.size + 1 + 1 + 1, 0, none⟩ (.bool ok'), h1.set1 h4.c3 (by intro z h; cases h) _, by rw [World.size_setCell]; exact Zcl h2 h4.c3 (by omega) _, by rw [World.size_setCell]; exact h3, h4.set3 _⟩,
  (heap_setCell_other u ⟨w.heap.size + 1 + 1 + 1, 0, none⟩ rb _ (by show rb ≠ w.heap.size + 1 + 1 + 1; omega)).trans R.box, (heap_setCell_other u ⟨w.heap.size + 1 + 1 + 1, 0, none⟩ P _ (by show P ≠ w.heap.size + 1 + 1 + 1; omega)).trans R.one, R.bel.setCell (p := ⟨w.heap.size + 1 + 1 + 1, 0, none⟩) (by show w.heap.size <= w.heap.size + 1 + 1 + 1; omega) _, R.ne⟩
theorem RS.num {w u : World} {v : Value} {zs : List Int} {P rb : Nat} {a k p : Int} {t : ByteArray} {ok : Bool} (R : RS w u v zs P rb a k p t ok) :
  Calls Tryz.prog 207 #[.agg #[v, .pointer (some ⟨P, 0, none⟩)]] u fun e u' => e = .returned (.tuple #[.int .i64 (gN zs a).1, .bool (gN zs a).2.2]) /\ ∃ q, ((gN zs a).2.2 = true -> q = (gN zs a).2.1) /\ RS w u' v zs P rb q k p t ok := by
 obtain ⟨V, h1, h2, h3, h4⟩ := id R.sh
 refine (Zdu v zs P a V u h1 h2 h3 R.one).mono ?_
 rintro e u' ⟨rfl, ⟨q, ho, hq⟩, hg⟩
 exact ⟨rfl, q, hq, R.grown hg ho⟩
theorem RS.text {w u : World} {v : Value} {zs : List Int} {P rb : Nat} {a k p : Int} {t : ByteArray} {ok : Bool} (R : RS w u v zs P rb a k p t ok) :
  Calls Tryz.prog 208 #[.agg #[v, .pointer (some ⟨P, 0, none⟩)]] u fun e u' => e = .returned (.tuple #[.string (gT zs a).1, .bool (gT zs a).2.2]) /\ ∃ q, ((gT zs a).2.2 = true -> q = (gT zs a).2.1) /\ RS w u' v zs P rb q k p t ok := by
 obtain ⟨V, h1, h2, h3, h4⟩ := id R.sh
 refine (Zc2 v zs P a V u h1 h2 h3 R.one).mono ?_
 rintro e u' ⟨rfl, ⟨q, ho, hq⟩, hg⟩
 exact ⟨rfl, q, hq, R.grown hg ho⟩
theorem ZhG (s : ByteArray) (w : World) (hs : s.size <= 1048576) :
  Calls Tryz.prog 177 #[.string s] w fun e w' => e = .returned (mrA (mrd (sb s))) /\ Below w.heap.size w w' := by
 have hsl := ZaF s
 have hmf : ∀ (fn : Fn) (first cap : Array Value) (w : World), (Instr.makeFunc fn first cap).run Tryz.prog w = .ok (.func fn first cap) w := fun _ _ _ _ => rfl
 obtain ⟨W0, hW0⟩ : ∃ W0, Hid ((((w.alloc (Obj.cells #[.int .i64 0] 3)).alloc (Obj.cells #[.int .i64 0] 3)).alloc (Obj.cells #[.string ⟨#[]⟩] 9)).alloc (Obj.cells #[.bool false] 4) = W0) := ⟨_, rfl⟩
 have hB0 : Below w.heap.size w W0 := by
  rw [<- hW0.out]
  exact ((((Below.refl _ _).alloc (Nat.le_refl _) _).alloc (by simp) _).alloc (by simp; omega) _).alloc (by simp; omega) _
 have hs0 : W0.heap.size = w.heap.size + 4 := by rw [<- hW0.out]; simp
 have X0 : MX W0 w.heap.size 0 0 ⟨#[]⟩ false := by
  rw [<- hW0.out]
  refine ⟨?_, ?_, ?_, ?_⟩
  ·rw [heap_alloc_old _ _ (by simp; omega), heap_alloc_old _ _ (by simp; omega), heap_alloc_old _ _ (by simp)]; exact heap_alloc_new _ _
  ·rw [heap_alloc_old _ _ (by simp), heap_alloc_old _ _ (by simp)]; exact (by simpa using heap_alloc_new (w.alloc (Obj.cells #[.int .i64 0] 3)) (Obj.cells #[.int .i64 0] 3))
  ·rw [heap_alloc_old _ _ (by simp)]; exact (by simpa using heap_alloc_new ((w.alloc (Obj.cells #[.int .i64 0] 3)).alloc (Obj.cells #[.int .i64 0] 3)) (Obj.cells #[.string ⟨#[]⟩] 9))
  ·exact (by simpa using heap_alloc_new (((w.alloc (Obj.cells #[.int .i64 0] 3)).alloc (Obj.cells #[.int .i64 0] 3)).alloc (Obj.cells #[.string ⟨#[]⟩] 9)) (Obj.cells #[.bool false] 4))
 have HM0 : Hid (mrd (sb s) = (rd1 (sb s) 0).bind fun k => if k.1 = 1 then (rd1 (sb s) k.2).bind fun p => mEnd (sb s) 1 p.1 p.2 else if k.1 = 2 then mEnd (sb s) 2 0 k.2 else none) := rfl
 go_enter_defers Tryz.func177, Tryz.ntmps177
 go_wp2_with fail
 rw [hW0.out]
 refine (Za1 s _ (by omega)).mono ?_
 rintro e w1 ⟨v, V0, P, rfl, RR, hbV, hb1, hP, hone⟩
 obtain ⟨ao, cap, rfl⟩ : ∃ ao cap, v = .slice ao s.size cap := by obtain ⟨ao, cap, h, _⟩ := RR; exact ⟨ao, cap, by rw [<- hsl]; exact h⟩
 have hbx := ZaE w1 (Obj.cells #[.slice ao s.size cap, .pointer (some ⟨P, 0, none⟩)] 254)
 have R : RS w (w1.alloc (Obj.cells #[.slice ao s.size cap, .pointer (some ⟨P, 0, none⟩)] 254)) (.slice ao s.size cap) (sb s) P w1.heap.size 0 0 0 ⟨#[]⟩ false := by
  exact ⟨⟨V0, RR, hb1.trans (hbx.mono hb1.size), hP, X0.below hbV⟩, heap_alloc_new _ _, hone.below hbx hone.lt, (hB0.trans (hbV.mono hB0.size)).trans ((hb1.trans (hbx.mono hb1.size)).mono (by have := hbV.size; omega)), hone.lt⟩
 clear hbx hb1 hbV hone X0 hB0 hW0 hs0 RR hP
 have HN := R.num
 obtain ⟨nn, N1⟩ : ∃ n, gN (sb s) 0 = n := ⟨_, rfl⟩
 obtain ⟨k, a1, k1⟩ := nn
 rw [N1] at HN
 simp only at HN
 have HK : Hid ((k1 = true -> rd1 (sb s) 0 = some (k, a1)) /\ (k1 = false -> rd1 (sb s) 0 = none)) := by
  unfold Hid rd1
  rw [N1]
  cases k1 <;> simp
 clear N1
 go_wp2_with fail
 refine HN.mono ?_
 rintro e u2 ⟨rfl, q2, hq2, R2⟩
 clear HN R
 obtain ⟨c0, _, _, _, f0, _, _, _⟩ := R2.mx.cells
 have R3 := R2.set0 k
 obtain ⟨_, _, _, d3, _, _, _, g3⟩ := R3.mx.cells
 have R4 := R3.set3 k1
 clear R2 R3
 obtain ⟨e0, e1, e2, e3, h0, h1, h2, h3⟩ := R4.mx.cells
 cases k1 with
 | false =>
  have HE : Hid (mrd (sb s) = none) := by unfold Hid; rw [HM0.out, HK.out.2 rfl]; rfl
  clear HM0 HK hq2
  go_wp2_with fail
  refine ZfN w.heap.size k 0 ⟨#[]⟩ _ _ R4.mx.c0 R4.mx.c1 R4.mx.c2 false R4.mx.c3 ?_
  intro u35 u36 u37 w9 y0 y1 y2 y3 byy
  have hbl := R4.bel
  go_wp2_with fail
  have X9 : MX _ w.heap.size k 0 ⟨#[]⟩ false := ⟨y0, y1, y2, y3⟩
  refine leaves_cons (f := 205) (args := #[.pointer (some ⟨w.heap.size + 1 + 1 + 1, 0, none⟩), .pointer (some ⟨w.heap.size, 0, none⟩), .pointer (some ⟨w.heap.size + 1, 0, none⟩), .pointer (some ⟨w.heap.size + 1 + 1, 0, none⟩)]) (by simp) (by simp [go_sem]) ?_
  refine (ZbM w.heap.size _ _ _ _ _ X9).mono ?_
  rintro e u' wz ⟨rfl, rfl, X10, hbz⟩
  obtain ⟨x0, x1, x2, x3, _⟩ := X10.cells
  simp [Leaves, settle, results, Tryz.results177, go_sem, x0, x1, x2, x3, Result.andThen]
  rw [HE.out]
  exact ⟨rfl, hbl.trans (byy.trans hbz)⟩
 | true =>
  obtain rfl := hq2 rfl
  have HK1 := HK.out.1 rfl
  clear HK
  by_cases hk1 : k = 1
  ·subst hk1
   have HM1 : Hid (mrd (sb s) = (rd1 (sb s) q2).bind fun p => mEnd (sb s) 1 p.1 p.2) := by unfold Hid; rw [HM0.out, HK1]; rfl
   clear HM0 HK1
   have HN := R4.num
   obtain ⟨nn, N1⟩ : ∃ n, gN (sb s) q2 = n := ⟨_, rfl⟩
   obtain ⟨p, a2, k2⟩ := nn
   rw [N1] at HN
   simp only at HN
   have HK : Hid ((k2 = true -> rd1 (sb s) q2 = some (p, a2)) /\ (k2 = false -> rd1 (sb s) q2 = none)) := by
    unfold Hid rd1
    rw [N1]
    cases k2 <;> simp
   clear N1
   go_wp2_with (refine wpList_load_row rfl 254 _ rfl w1.heap.size rfl 254 #[.slice ao s.size cap, .pointer (some ⟨P, 0, none⟩)] (0, 0) _ R4.box Tryz.underlying254 rfl Zms ?_)
   refine HN.mono ?_
   rintro e u3 ⟨rfl, q3, hq3, R5⟩
   clear HN c0 f0 d3 g3 e0 e1 e2 e3 h0 h1 h2 h3 R4
   obtain ⟨_, c1, _, _, _, f1, _, _⟩ := R5.mx.cells
   have R6 := R5.set1 p
   obtain ⟨_, _, _, d3, _, _, _, g3⟩ := R6.mx.cells
   have R7 := R6.set3 k2
   clear R5 R6
   obtain ⟨e0, e1, e2, e3, h0, h1, h2, h3⟩ := R7.mx.cells
   cases k2 with
   | false =>
    have HE : Hid (mrd (sb s) = none) := by unfold Hid; rw [HM1.out, HK.out.2 rfl]; rfl
    clear HM1 HK hq3
    go_wp2_with fail
    refine ZfN w.heap.size 1 p ⟨#[]⟩ _ _ R7.mx.c0 R7.mx.c1 R7.mx.c2 false R7.mx.c3 ?_
    intro u35 u36 u37 w9 y0 y1 y2 y3 byy
    have hbl := R7.bel
    go_wp2_with fail
    have X9 : MX _ w.heap.size 1 p ⟨#[]⟩ false := ⟨y0, y1, y2, y3⟩
    refine leaves_cons (f := 205) (args := #[.pointer (some ⟨w.heap.size + 1 + 1 + 1, 0, none⟩), .pointer (some ⟨w.heap.size, 0, none⟩), .pointer (some ⟨w.heap.size + 1, 0, none⟩), .pointer (some ⟨w.heap.size + 1 + 1, 0, none⟩)]) (by simp) (by simp [go_sem]) ?_
    refine (ZbM w.heap.size _ _ _ _ _ X9).mono ?_
    rintro e u' wz ⟨rfl, rfl, X10, hbz⟩
    obtain ⟨x0, x1, x2, x3, _⟩ := X10.cells
    simp [Leaves, settle, results, Tryz.results177, go_sem, x0, x1, x2, x3, Result.andThen]
    rw [HE.out]
    exact ⟨rfl, hbl.trans (byy.trans hbz)⟩
   | true =>
    obtain rfl := hq3 rfl
    have HM : Hid (mrd (sb s) = mEnd (sb s) 1 p q3) := by unfold Hid; rw [HM1.out, HK.out.1 rfl]; rfl
    clear HK HM1
    have R := R7
    clear R7
    have HT := R.text
    obtain ⟨tt, N3⟩ : ∃ n, gT (sb s) q3 = n := ⟨_, rfl⟩
    obtain ⟨t, a3, k3⟩ := tt
    rw [N3] at HT
    simp only at HT
    have hrg := Zcn (sb s) q3
    rw [N3] at hrg
    simp only at hrg
    have HE : Hid (mrd (sb s) = if k3 = true /\ a3 = (sb s).length then some (1, p, t) else none) := by
     unfold Hid
     rw [HM.out]
     unfold mEnd rt
     rw [N3]
     cases k3 <;> simp
    clear N3 HM
    go_wp2_with (refine wpList_load_row rfl 254 _ rfl w1.heap.size rfl 254 #[.slice ao s.size cap, .pointer (some ⟨P, 0, none⟩)] (0, 0) _ R.box Tryz.underlying254 rfl Zms ?_)
    refine HT.mono ?_
    rintro e u5 ⟨rfl, q5, hq5, R5⟩
    clear HT
    obtain ⟨c0, c1, c2, c3, f0, f1, f2, f3⟩ := R5.mx.cells
    have R6 := R5.set2 t
    obtain ⟨_, _, _, d3, _, _, _, g3⟩ := R6.mx.cells
    have R7 := R6.set3 k3
    clear R5
    go_wp2_with fail
    clear c0 c1 c2 c3 f0 f1 f2 f3 d3 g3 R6
    cases k3 with
    | false =>
     have HE2 : Hid (mrd (sb s) = none) := by unfold Hid; rw [HE.out]; simp
     refine Zgz w.heap.size 1 p t _ _ R7.mx.c0 R7.mx.c1 R7.mx.c2 R7.mx.c3 ?_
     intro u43 u44 u45 u46 u47 u48 u49 u50 u51 w9 y0 y1 y2 y3 byy
     have hbl := R7.bel
     go_wp2_with fail
     have X9 : MX _ w.heap.size 1 p t false := ⟨y0, y1, y2, y3⟩
     refine leaves_cons (f := 205) (args := #[.pointer (some ⟨w.heap.size + 1 + 1 + 1, 0, none⟩), .pointer (some ⟨w.heap.size, 0, none⟩), .pointer (some ⟨w.heap.size + 1, 0, none⟩), .pointer (some ⟨w.heap.size + 1 + 1, 0, none⟩)]) (by simp) (by simp [go_sem]) ?_
     refine (ZbM w.heap.size _ _ _ _ _ X9).mono ?_
     rintro e u' wz ⟨rfl, rfl, X10, hbz⟩
     obtain ⟨x0, x1, x2, x3, _⟩ := X10.cells
     simp [Leaves, settle, results, Tryz.results177, go_sem, x0, x1, x2, x3, Result.andThen]
     rw [HE2.out]
     exact ⟨rfl, hbl.trans (byy.trans hbz)⟩
    | true =>
     obtain rfl := hq5 rfl
     refine ZgW w.heap.size 1 p t _ _ R7.mx.c0 R7.mx.c1 R7.mx.c2 R7.mx.c3 w1.heap.size P _ _ (sb s) R7.form R7.box R7.one (by have := R7.far; omega) ?_
     intro u43 u44 u45 u46 u47 u48 u49 u50 u51 w9 y0 y1 y2 y3 byy
     have hbl := R7.bel
     by_cases h3 : q5 = ((sb s).length : Int)
     ·have HE2 : Hid (mrd (sb s) = some (1, p, t)) := by unfold Hid; rw [HE.out, if_pos ⟨rfl, h3⟩]
      have ey : decide (((sb s).length : Int) <= q5) = true := by simp; omega
      rw [ey] at y3
      clear ey
      go_wp2_with fail
      have X9 : MX _ w.heap.size 1 p t true := ⟨y0, y1, y2, y3⟩
      refine leaves_cons (f := 205) (args := #[.pointer (some ⟨w.heap.size + 1 + 1 + 1, 0, none⟩), .pointer (some ⟨w.heap.size, 0, none⟩), .pointer (some ⟨w.heap.size + 1, 0, none⟩), .pointer (some ⟨w.heap.size + 1 + 1, 0, none⟩)]) (by simp) (by simp [go_sem]) ?_
      refine (ZbM w.heap.size _ _ _ _ _ X9).mono ?_
      rintro e u' wz ⟨rfl, rfl, X10, hbz⟩
      obtain ⟨x0, x1, x2, x3, _⟩ := X10.cells
      simp [Leaves, settle, results, Tryz.results177, go_sem, x0, x1, x2, x3, Result.andThen]
      rw [HE2.out]
      exact ⟨rfl, hbl.trans (byy.trans hbz)⟩
     ·have HE2 : Hid (mrd (sb s) = none) := by unfold Hid; rw [HE.out, if_neg (fun h => h3 h.2)]
      have ey : decide (((sb s).length : Int) <= q5) = false := by simp; omega
      rw [ey] at y3
      clear ey
      go_wp2_with fail
      have X9 : MX _ w.heap.size 1 p t false := ⟨y0, y1, y2, y3⟩
      refine leaves_cons (f := 205) (args := #[.pointer (some ⟨w.heap.size + 1 + 1 + 1, 0, none⟩), .pointer (some ⟨w.heap.size, 0, none⟩), .pointer (some ⟨w.heap.size + 1, 0, none⟩), .pointer (some ⟨w.heap.size + 1 + 1, 0, none⟩)]) (by simp) (by simp [go_sem]) ?_
      refine (ZbM w.heap.size _ _ _ _ _ X9).mono ?_
      rintro e u' wz ⟨rfl, rfl, X10, hbz⟩
      obtain ⟨x0, x1, x2, x3, _⟩ := X10.cells
      simp [Leaves, settle, results, Tryz.results177, go_sem, x0, x1, x2, x3, Result.andThen]
      rw [HE2.out]
      exact ⟨rfl, hbl.trans (byy.trans hbz)⟩
  ·by_cases hk2 : k = 2
   ·subst hk2
    have HM : Hid (mrd (sb s) = mEnd (sb s) 2 0 q2) := by unfold Hid; rw [HM0.out, HK1]; rfl
    clear HM0 HK1
    have R := R4
    have HT := R.text
    obtain ⟨tt, N3⟩ : ∃ n, gT (sb s) q2 = n := ⟨_, rfl⟩
    obtain ⟨t, a3, k3⟩ := tt
    rw [N3] at HT
    simp only at HT
    have hrg := Zcn (sb s) q2
    rw [N3] at hrg
    simp only at hrg
    have HE : Hid (mrd (sb s) = if k3 = true /\ a3 = (sb s).length then some (2, 0, t) else none) := by
     unfold Hid
     rw [HM.out]
     unfold mEnd rt
     rw [N3]
     cases k3 <;> simp
    clear N3 HM
    go_wp2_with (refine wpList_load_row rfl 254 _ rfl w1.heap.size rfl 254 #[.slice ao s.size cap, .pointer (some ⟨P, 0, none⟩)] (0, 0) _ R.box Tryz.underlying254 rfl Zms ?_)
    refine HT.mono ?_
    rintro e u5 ⟨rfl, q5, hq5, R5⟩
    clear HT
    obtain ⟨c0, c1, c2, c3, f0, f1, f2, f3⟩ := R5.mx.cells
    have R6 := R5.set2 t
    obtain ⟨_, _, _, d3, _, _, _, g3⟩ := R6.mx.cells
    have R7 := R6.set3 k3
    clear R5
    go_wp2_with fail
    clear c0 c1 c2 c3 f0 f1 f2 f3 d3 g3 R6
    cases k3 with
    | false =>
     have HE2 : Hid (mrd (sb s) = none) := by unfold Hid; rw [HE.out]; simp
     refine Zgz w.heap.size 2 0 t _ _ R7.mx.c0 R7.mx.c1 R7.mx.c2 R7.mx.c3 ?_
     intro u43 u44 u45 u46 u47 u48 u49 u50 u51 w9 y0 y1 y2 y3 byy
     have hbl := R7.bel
     go_wp2_with fail
     have X9 : MX _ w.heap.size 2 0 t false := ⟨y0, y1, y2, y3⟩
     refine leaves_cons (f := 205) (args := #[.pointer (some ⟨w.heap.size + 1 + 1 + 1, 0, none⟩), .pointer (some ⟨w.heap.size, 0, none⟩), .pointer (some ⟨w.heap.size + 1, 0, none⟩), .pointer (some ⟨w.heap.size + 1 + 1, 0, none⟩)]) (by simp) (by simp [go_sem]) ?_
     refine (ZbM w.heap.size _ _ _ _ _ X9).mono ?_
     rintro e u' wz ⟨rfl, rfl, X10, hbz⟩
     obtain ⟨x0, x1, x2, x3, _⟩ := X10.cells
     simp [Leaves, settle, results, Tryz.results177, go_sem, x0, x1, x2, x3, Result.andThen]
     rw [HE2.out]
     exact ⟨rfl, hbl.trans (byy.trans hbz)⟩
    | true =>
     obtain rfl := hq5 rfl
     refine ZgW w.heap.size 2 0 t _ _ R7.mx.c0 R7.mx.c1 R7.mx.c2 R7.mx.c3 w1.heap.size P _ _ (sb s) R7.form R7.box R7.one (by have := R7.far; omega) ?_
     intro u43 u44 u45 u46 u47 u48 u49 u50 u51 w9 y0 y1 y2 y3 byy
     have hbl := R7.bel
     by_cases h3 : q5 = ((sb s).length : Int)
     ·have HE2 : Hid (mrd (sb s) = some (2, 0, t)) := by unfold Hid; rw [HE.out, if_pos ⟨rfl, h3⟩]
      have ey : decide (((sb s).length : Int) <= q5) = true := by simp; omega
      rw [ey] at y3
      clear ey
      go_wp2_with fail
      have X9 : MX _ w.heap.size 2 0 t true := ⟨y0, y1, y2, y3⟩
      refine leaves_cons (f := 205) (args := #[.pointer (some ⟨w.heap.size + 1 + 1 + 1, 0, none⟩), .pointer (some ⟨w.heap.size, 0, none⟩), .pointer (some ⟨w.heap.size + 1, 0, none⟩), .pointer (some ⟨w.heap.size + 1 + 1, 0, none⟩)]) (by simp) (by simp [go_sem]) ?_
      refine (ZbM w.heap.size _ _ _ _ _ X9).mono ?_
      rintro e u' wz ⟨rfl, rfl, X10, hbz⟩
      obtain ⟨x0, x1, x2, x3, _⟩ := X10.cells
      simp [Leaves, settle, results, Tryz.results177, go_sem, x0, x1, x2, x3, Result.andThen]
      rw [HE2.out]
      exact ⟨rfl, hbl.trans (byy.trans hbz)⟩
     ·have HE2 : Hid (mrd (sb s) = none) := by unfold Hid; rw [HE.out, if_neg (fun h => h3 h.2)]
      have ey : decide (((sb s).length : Int) <= q5) = false := by simp; omega
      rw [ey] at y3
      clear ey
      go_wp2_with fail
      have X9 : MX _ w.heap.size 2 0 t false := ⟨y0, y1, y2, y3⟩
      refine leaves_cons (f := 205) (args := #[.pointer (some ⟨w.heap.size + 1 + 1 + 1, 0, none⟩), .pointer (some ⟨w.heap.size, 0, none⟩), .pointer (some ⟨w.heap.size + 1, 0, none⟩), .pointer (some ⟨w.heap.size + 1 + 1, 0, none⟩)]) (by simp) (by simp [go_sem]) ?_
      refine (ZbM w.heap.size _ _ _ _ _ X9).mono ?_
      rintro e u' wz ⟨rfl, rfl, X10, hbz⟩
      obtain ⟨x0, x1, x2, x3, _⟩ := X10.cells
      simp [Leaves, settle, results, Tryz.results177, go_sem, x0, x1, x2, x3, Result.andThen]
      rw [HE2.out]
      exact ⟨rfl, hbl.trans (byy.trans hbz)⟩
   ·have HE : Hid (mrd (sb s) = none) := by unfold Hid; rw [HM0.out, HK1]; simp [hk1, hk2]
    clear HM0 HK1
    have hb1 : (k == 1) = false := by simp [hk1]
    have hb2 : (k != 1) = true := by simp [hk1]
    have hb3 : (k != 2) = true := by simp [hk2]
    go_wp2_with fail
    refine ZfN w.heap.size k 0 ⟨#[]⟩ _ _ R4.mx.c0 R4.mx.c1 R4.mx.c2 true R4.mx.c3 ?_
    intro u35 u36 u37 w9 y0 y1 y2 y3 byy
    have hbl := R4.bel
    go_wp2_with fail
    have X9 : MX _ w.heap.size k 0 ⟨#[]⟩ false := ⟨y0, y1, y2, y3⟩
    refine leaves_cons (f := 205) (args := #[.pointer (some ⟨w.heap.size + 1 + 1 + 1, 0, none⟩), .pointer (some ⟨w.heap.size, 0, none⟩), .pointer (some ⟨w.heap.size + 1, 0, none⟩), .pointer (some ⟨w.heap.size + 1 + 1, 0, none⟩)]) (by simp) (by simp [go_sem]) ?_
    refine (ZbM w.heap.size _ _ _ _ _ X9).mono ?_
    rintro e u' wz ⟨rfl, rfl, X10, hbz⟩
    obtain ⟨x0, x1, x2, x3, _⟩ := X10.cells
    simp [Leaves, settle, results, Tryz.results177, go_sem, x0, x1, x2, x3, Result.andThen]
    rw [HE.out]
    exact ⟨rfl, hbl.trans (byy.trans hbz)⟩
def tsL (zs : List Int) : Nat -> List ByteArray -> Int -> Bool -> List ByteArray × Int × Bool
 | 0, xs, a, ok => (xs, a, ok)
 | m + 1, xs, a, ok => if ok then tsL zs m (xs ++ [(txt8 zs a true).1]) (txt8 zs a true).2.1 (txt8 zs a true).2.2 else (xs, a, false)
theorem ZcF (zs : List Int) (xs : List ByteArray) (a : Int) : ∀ m : Nat, tsL zs m xs a false = (xs, a, false)
 | 0 => rfl
 | _ + 1 => rfl
theorem ZkJ (zs : List Int) : ∀ (m : Nat) (xs : List ByteArray) (a : Int), (∀ q, rdTs zs m a = some q -> tsL zs m xs a true = (xs ++ q.1, q.2, true)) /\ (rdTs zs m a = none -> (tsL zs m xs a true).2.2 = false)
 | 0, xs, a => ⟨fun q h => by cases h; simp [tsL], fun h => by cases h⟩
 | m + 1, xs, a => by
  rw [rdTs, tsL, if_pos rfl, Zf4]
  cases h : rt zs a with
  | none =>
   simp only [Option.bind_none]
   refine ⟨fun q hq => (by cases hq), fun _ => ?_⟩
   rw [ZcF]
  | some p =>
   simp only [Option.bind_some]
   obtain ⟨i1, i2⟩ := ZkJ zs m (xs ++ [p.1]) p.2
   cases h2 : rdTs zs m p.2 with
   | none => exact ⟨fun q hq => by (simp at hq), fun _ => i2 h2⟩
   | some t =>
    rw [i1 t h2]
    refine ⟨fun q hq => ?_, fun hq => by (simp at hq)⟩
    simp only [Option.map_some, Option.some.injEq] at hq
    subst hq
    simp
theorem Zfh (n : Nat) : 1 <= (encI (n : Int)).length := by
 rw [Zci _ (by omega), enc]
 split <;> simp
theorem Zd1 {zs : List Int} {c : Int} (hz : ∀ z ∈ zs, 0 <= z /\ z <= 255) (hc : 0 <= c) (hl : c <= zs.length) : 0 <= (txt8 zs c true).2.1 /\ (txt8 zs c true).2.1 <= zs.length /\ ((txt8 zs c true).2.2 = true -> c < (txt8 zs c true).2.1) /\ (txt8 zs c true).1.size <= zs.length := by
 unfold txt8
 cases hk : (gT zs c).2.2 with
 | false =>
  refine ⟨hc, hl, ?_, ?_⟩
  ·intro h
   cases h
  ·show ByteArray.size ⟨#[]⟩ <= _
   simp [ByteArray.size]
 | true =>
  have hr := Zcn zs c
  have hL := Zik (zs := zs) (a := c) (next := (gT zs c).2.1) (s := (gT zs c).1) hz (by rw [<- hk])
  refine ⟨hr.1, hr.2, fun _ => ?_, Zcx zs c⟩
  have h1 := hL.2.1
  rw [ZcG] at h1
  have h2 := Zfh (gT zs c).1.size
  show c < (gT zs c).2.1
  omega
theorem Zd3 {zs : List Int} {a : Int} {ok : Bool} (ha : 0 <= a) (hl : a <= zs.length) : 0 <= (num8 zs a ok).1 /\ (num8 zs a ok).1 <= 9223372036854775807 /\ 0 <= (num8 zs a ok).2.1 /\ (num8 zs a ok).2.1 <= zs.length := by
 unfold num8
 cases hk : (ok && (gN zs a).2.2) with
 | false => exact ⟨by simp, by simp, ha, hl⟩
 | true =>
  have hg : (gN zs a).2.2 = true := by cases ok <;> simp_all
  have := Za5 (zs := zs) (a := a) (p := ((gN zs a).1, (gN zs a).2.1)) (by unfold rd1; rw [hg]; rfl)
  exact this
theorem ZdW (b : Nat) (v : Value) (zs : List Int) (a : Int) (ok : Bool) (W0 w : World) (R : Row W0 v zs) (hb : Below W0.heap.size W0 w) (hbb : W0.heap.size <= b) (h : C8 w b v a ok) (ha : 0 <= a) (hl : a <= zs.length) (hz : ∀ z ∈ zs, 0 <= z /\ z <= 255) (hzl : zs.length <= 1048576) :
  Calls Tryz.prog 145 #[.pointer (some ⟨b, 0, none⟩)] w fun e w' => ∃ (v' : Value) (ts : List ByteArray) (c : Int) (k : Bool), tsL zs (num8 zs a ok).1.toNat [] (num8 zs a ok).2.1 (num8 zs a ok).2.2 = (ts, c, k) /\ e = .returned v' /\ (0 <= c /\ c <= zs.length /\ ts.length <= zs.length + 1) /\ C8 w' b v c k /\ w'.ownsRow w.heap.size 9 1 v' ts.length (stv ts) /\ w.grownBy w' (some b) := by
 have lb : b < w.heap.size := (bl h)
 obtain ⟨i0, hi, hz0, hz1, hz2⟩ := info_parts Zmh
 have hbE : Below w.heap.size w (w.alloc (Obj.cells #[] 9)) := (Below.refl _ _).alloc (Nat.le_refl _) _
 have oE := ZcL w 9 1 w.heap.size (Nat.le_refl _)
 have hE : C8 (w.alloc (Obj.cells #[] 9)) b v a ok := Zal h hbE
 have hbel := hb.trans (hbE.mono hb.size)
 have hG := World.grownBy_alloc w (Obj.cells #[] 9) (some b)
 have HN := Zb5 b v zs a ok _ (R.below hbel) hE (by omega) (by omega)
 have hm := Zd3 (zs := zs) (a := a) (ok := ok) ha hl
 obtain ⟨nn, hnn⟩ : ∃ n, Hid (num8 zs a ok = n) := ⟨_, rfl⟩
 obtain ⟨n, a1, k1⟩ := nn
 rw [hnn.out] at HN hm ⊢
 simp only at HN hm ⊢
 clear hnn
 go_enter Tryz.func145, Tryz.ntmps145
 go_wp2_with fail
 generalize w.alloc (Obj.cells #[] 9) = wE at *
 refine HN.mono ?_
 rintro e w1 ⟨rfl, h1, g1⟩
 have own1 := Zb9 oE lb g1
 replace hG := Zaz hG g1 (fun k hk => Or.inl (by cases hk; rfl))
 replace hbel := hbel.grown g1 hbel.size (fun k hk => by cases hk; exact hbb)
 clear HN g1 oE hE hbE h hb
 obtain ⟨m1, m2, m3, m4⟩ := hm
 go_wp2_with fail
 go_loopw [3, 5] (fun vo i wr => ∃ (k : Nat) (ts : List ByteArray) (c : Int) (kk : Bool), (k : Int) <= n /\ i = .int .i64 k /\ Hid (tsL zs n.toNat [] a1 k1 = tsL zs (n.toNat - k) ts c kk) /\ (kk = true -> (ts.length : Int) <= c) /\ ts.length <= zs.length + 1 /\ (0 <= c /\ c <= zs.length) /\ C8 wr b v c kk /\ wr.ownsRow w.heap.size 9 1 vo ts.length (stv ts) /\ Below W0.heap.size W0 wr /\ w.grownBy wr (some b)) (fun _ i _ => n.toNat - (intOf i).toNat)
 case atStart => exact ⟨0, [], a1, k1, by omega, rfl, rfl, fun _ => by simpa using m3, by simp, ⟨m3, m4⟩, h1, own1, hbel, hG⟩
 case round =>
  clear h1 own1 hbel hG
  obtain ⟨k, ts, c, kk, hk, rfl, HT, hc1, hc2, ⟨hc3, hc4⟩, hC, own, hbel, hGr⟩ := hrel
  have ck : wr.cell? ⟨b, 2, none⟩ = some (.bool kk) := cell_of_row _ _ 2 _ _ _ hC
  by_cases hlt : (k : Int) < n
  ·cases kk with
   | false =>
    have HF : Hid (tsL zs n.toNat [] a1 k1 = (ts, c, false)) := by unfold Hid; rw [HT.out, ZcF]
    go_wp2
    go_ret
    exact ⟨u3, ts, c, false, HF.out, rfl, ⟨hc3, hc4, hc2⟩, hC, own, hGr⟩
   | true =>
    have hc1' := hc1 rfl
    have HS : Hid (tsL zs n.toNat [] a1 k1 = tsL zs (n.toNat - (k + 1)) (ts ++ [(txt8 zs c true).1]) (txt8 zs c true).2.1 (txt8 zs c true).2.2) := by
     unfold Hid
     rw [HT.out, show n.toNat - k = (n.toNat - (k + 1)) + 1 by omega]
     rfl
    have hmv := Zd1 (zs := zs) hz hc3 hc4
    have HR := ZcH b v zs c true wr (R.below hbel) hC (by omega) (by omega)
    obtain ⟨tt, htt⟩ : ∃ t, Hid (txt8 zs c true = t) := ⟨_, rfl⟩
    obtain ⟨tx, tn, tk⟩ := tt
    rw [htt.out] at HR HS hmv
    simp only at HR HS hmv
    obtain ⟨v1, v2, v3, v4⟩ := hmv
    clear htt HT
    go_wp2_with fail
    refine HR.mono ?_
    rintro e w2 ⟨rfl, hC2, g2⟩
    have own2 := Zb9 own lb g2
    have hG2 := Zaz hGr g2 (fun j hj => Or.inl (by cases hj; rfl))
    have hbel2 := hbel.grown g2 hbel.size (fun j hj => by cases hj; exact hbb)
    have hsm : tx.size <= maxLen := by unfold maxLen; omega
    have S1 := StRow.one9 w2 tx hsm
    have hbA : Below w2.heap.size w2 (w2.alloc (Obj.cells #[.string tx] 9)) := (Below.refl _ _).alloc (Nat.le_refl _) _
    have P2 := Zad own2 hbA
    have hC3 : C8 (w2.alloc (Obj.cells #[.string tx] 9)) b v tn tk := Zal hC2 hbA
    have hG3 := Zaz hG2 (World.grownBy_alloc w2 (Obj.cells #[.string tx] 9) none) (fun j hj => by cases hj)
    have hbel3 := hbel2.trans (hbA.mono hbel2.size)
    have hle : w.heap.size <= (w2.alloc (Obj.cells #[.string tx] 9)).heap.size := hG3.size
    clear own own2 hG2 hbel2 hbel hGr g2 HR hC hC2 hbA ck hc1
    go_wp2_with (at_builtin; refine Zax _ rfl _ _ 54 rfl w.heap.size 9 i0 _ 1 16 Tryz.underlying54 hi hz0 hz1 hz2 rfl (by decide) _ ts.length _ rfl P2 (some ⟨w2.heap.size, 0, none⟩) 1 1 (stv [tx]) rfl (by simp [stv]) S1.nilcap S1.cells (Zio [tx]) (by unfold maxLen; omega) (by omega) hle ?_)
    intro v5 w5 O5 hgr5
    have hC5 : C8 w5 b v tn tk := (hgr5.block _ (Zao hC3) (fun e => ZaR P2 hC3 (by decide) e.symm)).trans hC3
    have hG5 := Zaz hG3 hgr5 (fun j hj => Or.inr (P2.lt j hj).1)
    have hbel5 := hbel3.grown hgr5 hbel3.size (fun j hj => by have := (P2.lt j hj).1; omega)
    have O6 : w5.ownsRow w.heap.size 9 1 v5 (ts ++ [tx]).length (stv (ts ++ [tx])) := by rw [Zej, List.length_append]; exact O5
    clear O5 hgr5 P2 hC3 hG3 hbel3 S1 hle
    go_wp2
    go_roundw
    case rel => exact ⟨k + 1, ts ++ [tx], tn, tk, by omega, by go_num, HS, fun h => by have := v3 h; simp; omega, by simp; omega, ⟨v1, v2⟩, hC5, O6, hbel5, hG5⟩
    case measure => simp [intOf]; omega
  ·have hke : n.toNat - k = 0 := by omega
   rw [hke] at HT
   cases kk with
   | false =>
    go_wp2
    go_ret
    first
     | exact ⟨u3, ts, c, false, HT.out, rfl, ⟨hc3, hc4, hc2⟩, hC, own, hGr⟩
     | exact ⟨u3, ts, c, Or.inl ⟨HT.out, rfl, ⟨hc3, hc4, hc2⟩, hC, own, hGr⟩⟩
   | true =>
    go_wp2
    go_ret
    first
     | exact ⟨u3, ts, c, true, HT.out, rfl, ⟨hc3, hc4, hc2⟩, hC, own, hGr⟩
     | exact ⟨u3, ts, c, Or.inr ⟨HT.out, rfl, ⟨hc3, hc4, hc2⟩, hC, own, hGr⟩⟩
end Go.Proofs.YtfmafkebddojjaaGreatDoor
