/-
  Contract of impl's LeaseGive. No condition.
-/
import Derived.Test.YtdlbgdckkjhbdaaLsGiveM
namespace Go.Proofs.Ytdlbgdckkjhbdaa
open Go.RowKit

set_option maxRecDepth 100000 in
set_option maxHeartbeats 3200000 in
theorem ileasegive_any (v : Value) (xs : List Ls) (i q n : Int) (w : World) (R : LsRow w v xs) :
    Calls Try.prog 18 #[v, .int .i64 i, .int .i64 q, .int .i64 n] w (GvAns xs i q n w) := by
  have RR := R
  obtain ⟨ao, cap, rfl, hcap, hml, hcell⟩ := R
  have OK := fun (v : Value) (w : World) (R : LsRow w v xs) => ileasesok_any v xs w R
  cases hb : lsB xs with
  | false =>
    have AA := fun (w' : World) (u : Value) (ho : w'.ownsRow w.heap.size 40 3 u 0 []) (hbl : Below w.heap.size w w') => GvAns.of (i := i) (q := q) (n := n) (gv_bad hb) ho hbl
    rw [hb] at OK
    generalize GvAns xs i q n w = PP at *
    go_enter Try.func18, Try.ntmps18
    go_wp2_with fail
    refine (OK _ _ RR).mono ?_
    rintro e w1 ⟨rfl, hb1⟩
    have own2 := own_none0 w1 40 3 w.heap.size hb1.size
    have hB2 := hb1.alloc hb1.size (Obj.cells #[] 40)
    clear OK RR hcell
    go_wp2
    exact AA _ _ own2 hB2
  | true =>
  have hl20 := lsB_len hb
  have PC := fun (v : Value) (w : World) (R : LsRow w v xs) => placeofclaim_any v xs i q w R
  have AN0 := fun (h : ¬ 0 ≤ lsIdx xs i q 0) (w' : World) (u : Value) (ho : w'.ownsRow w.heap.size 40 3 u xs.length (lscs xs)) (hbl : Below w.heap.size w w') => GvAns.of (i := i) (q := q) (n := n) (gv_none hb h) ho hbl
  have AN1 := fun (k : Nat) (x : Ls) (h : lsIdx xs i q 0 = (k : Int)) (hx : xs[k]? = some x) (hn : ¬ n ≤ x.u) (w' : World) (u : Value) (ho : w'.ownsRow w.heap.size 40 3 u xs.length (lscs xs)) (hbl : Below w.heap.size w w') => GvAns.of (i := i) (q := q) (n := n) (gv_over hb h hx hn) ho hbl
  have AY := fun (k : Nat) (x : Ls) (h : lsIdx xs i q 0 = (k : Int)) (hx : xs[k]? = some x) (hn : n ≤ x.u) (w' : World) (u : Value) (ho : w'.ownsRow w.heap.size 40 3 u (xs.eraseIdx k).length (lscs (xs.eraseIdx k))) (hbl : Below w.heap.size w w') => GvAns.of (i := i) (q := q) (n := n) (gv_yes hb h hx hn) ho hbl
  have hat := fun (k : Nat) (h : lsIdx xs i q 0 = (k : Int)) => gv_at h
  rw [hb] at OK
  generalize GvAns xs i q n w = PP at *
  generalize lsIdx xs i q 0 = p at *
  go_enter Try.func18, Try.ntmps18
  go_wp2_with fail
  refine (OK _ _ RR).mono ?_
  rintro e w1 ⟨rfl, hB1⟩
  clear OK
  go_wp2_with fail
  refine (PC _ _ (RR.below hB1)).mono ?_
  rintro e w2 ⟨rfl, hb2⟩
  have hB2 := hB1.trans (hb2.mono hB1.size)
  clear PC hb2 hB1
  by_cases hp : 0 ≤ p
  rotate_left
  · have e1 : decide (0 ≤ p) = false := by simpa using hp
    rw [e1]
    have AN' := AN0 (by omega)
    clear AN0 AN1 AY hat e1 hcell
    go_wp2_with fail
    refine (copiedleases_any _ xs _ (RR.below hB2) (by omega)).mono ?_
    rintro e w3 ⟨u3, rfl, own3, hb3⟩
    have hB3 := hB2.trans (hb3.mono hB2.size)
    have own4 := own_mono (B' := w.heap.size) own3 hB2.size
    clear own3 hb3
    go_wp2
    exact AN' _ _ own4 hB3
  obtain ⟨k, rfl⟩ : ∃ k : Nat, p = k := ⟨p.toNat, by omega⟩
  obtain ⟨x, hx⟩ := hat k rfl
  have hk : k < xs.length := (List.getElem?_eq_some_iff.1 hx).1
  have e1 : decide (0 ≤ (k : Int)) = true := by simp
  have e2 : lsPl (k : Int) = k := by unfold lsPl; rw [if_pos (by omega)]
  rw [e1, e2]
  clear e1 e2 AN0 hat
  obtain ⟨g, o, rfl, hg, hcell⟩ := hcell (by intro e; subst e; simp at hk)
  obtain ⟨d0, d1, d2⟩ := (hcell k x hx).below hB2 hg
  clear hcell
  go_wp2_with fail
  refine (lend_any x _).mono ?_
  rintro e w3 ⟨rfl, hb3⟩
  have hB3 := hB2.trans (hb3.mono hB2.size)
  clear hb3 d0 d1 d2 hB2
  go_wp2_with fail
  refine (mcovers_any x.u n _).mono ?_
  rintro e w4 ⟨rfl, hb4⟩
  have hB4 := hB3.trans (hb4.mono hB3.size)
  clear hb4 hB3
  by_cases hn : n ≤ x.u
  · rw [decide_eq_true hn]
    have AY' := AY k x rfl hx hn
    clear AY AN1 hx
    go_wp2_with fail
    refine (withoutlease_any _ xs k _ (RR.below hB4) hk hl20).mono ?_
    rintro e w5 ⟨u5, rfl, own5, hb5⟩
    have hB5 := hB4.trans (hb5.mono hB4.size)
    have own6 := own_mono (B' := w.heap.size) own5 hB4.size
    clear own5 hb5
    go_wp2
    exact AY' _ _ own6 hB5
  · rw [decide_eq_false hn]
    have AN' := AN1 k x rfl hx (by omega)
    clear AY AN1 hx
    go_wp2_with fail
    refine (copiedleases_any _ xs _ (RR.below hB4) (by omega)).mono ?_
    rintro e w5 ⟨u5, rfl, own5, hb5⟩
    have hB5 := hB4.trans (hb5.mono hB4.size)
    have own6 := own_mono (B' := w.heap.size) own5 hB4.size
    clear own5 hb5
    go_wp2
    exact AN' _ _ own6 hB5
end Go.Proofs.Ytdlbgdckkjhbdaa
