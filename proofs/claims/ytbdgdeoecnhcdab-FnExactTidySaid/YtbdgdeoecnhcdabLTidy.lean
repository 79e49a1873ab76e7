/-
  The law FnExactTidy, walked: at every argument the law returns true.
-/
import Derived.Test.YtbdgdeoecnhcdabITd
import Derived.Test.YtbdgdeoecnhcdabSTd
import Derived.Test.YtbdgdeoecnhcdabLMake
import Derived.Deep.RegionHeld
namespace Go.Proofs.Ytbdgdeoecnhcdab
open Go.RowKit

theorem Try.sizeLM8 : (Try.prog.info? 36).map (·.size) = some 8 := by kernel_rfl
theorem stepD8 {w2 w3 : World} (h : Below w2.drew.heap.size w2.drew w3) : Below w2.heap.size w2 w3 := (Below.refl _ _).drew.trans h
theorem its_ok9 (xs : List Nd) (bs : List Bool) (k : Nat) (hz : ∀ y ∈ xs, y.s.size ≤ maxLen) : ∀ p ∈ its xs bs k, p.2.s.size ≤ maxLen := by
  induction xs generalizing k with
  | nil => simp [its]
  | cons x xs ih =>
    intro p hp
    have ih := ih (k + 1) (fun y hy => hz y (List.mem_cons_of_mem _ hy))
    simp only [its] at hp
    split at hp
    · rcases List.mem_cons.1 hp with rfl | hp
      · exact hz x List.mem_cons_self
      · exact ih p hp
    · exact ih p hp
theorem fold_ok9 (a : Nat) (l : List (Nat × Nd)) (s : List Nd × List Int) (hl : ∀ p ∈ l, p.2.s.size ≤ maxLen) (hs : ∀ y ∈ s.1, y.s.size ≤ maxLen) : ∀ y ∈ (l.foldl (mvS a) s).1, y.s.size ≤ maxLen := by
  induction l generalizing s with
  | nil => exact hs
  | cons p l ih =>
    rw [List.foldl_cons]
    refine ih _ (fun q hq => hl q (List.mem_cons_of_mem _ hq)) (fun y hy => ?_)
    simp only [mvS, List.mem_append, List.mem_singleton] at hy
    rcases hy with hy | rfl
    · exact hs y hy
    · exact hl p List.mem_cons_self
theorem tdL_ok (xs : List Nd) (m : Mc) (hz : ∀ y ∈ xs, y.s.size ≤ maxLen) : ∀ y ∈ tdL xs m, y.s.size ≤ maxLen := by
  unfold tdL
  split
  · exact fold_ok9 0 _ _ (its_ok9 xs _ 0 hz) (by simp)
  · exact hz

/-- What a machine's variable holds: at block b, a machine whose row of nodes lies between lo and hi and reads as xs. -/
def VarM (w : World) (b lo hi : Nat) (v : Value) (xs : List Nd) (m : Mc) : Prop :=
  w.heap[b]? = some (.cells #[v, .int .i64 m.p, .int .i64 m.s, .int .i64 m.e, .int .i64 m.d, .int .i64 m.t, .int .i64 m.q, .int .i64 m.r] 39 (0, 0)) ∧ w.ownsRow lo 70 5 v xs.length (ncs xs) ∧ (∀ k, v.ownBlock = some k → k < hi) ∧ hi ≤ w.heap.size
theorem VarM.new {w5 we : World} {lo : Nat} {v : Value} {xs : List Nd} {m : Mc} (ho : w5.ownsRow lo 70 5 v xs.length (ncs xs)) (hd : Below w5.heap.size w5 we) (hb : we.heap[w5.heap.size]? = some (.cells #[v, .int .i64 m.p, .int .i64 m.s, .int .i64 m.e, .int .i64 m.d, .int .i64 m.t, .int .i64 m.q, .int .i64 m.r] 39 (0, 0))) :
    VarM we w5.heap.size lo we.heap.size v xs m := ⟨hb, own_below ho hd, fun k hk => ((own_below ho hd).lt k hk).2, Nat.le_refl _⟩
theorem VarM.below {w w' : World} {b lo hi : Nat} {v : Value} {xs : List Nd} {m : Mc} (h : VarM w b lo hi v xs m) (hb : Below w.heap.size w w') : VarM w' b lo hi v xs m :=
  ⟨(hb.block b (Array.getElem?_eq_some_iff.1 h.1).1).trans h.1, own_below h.2.1 hb, h.2.2.1, Nat.le_trans h.2.2.2 hb.size⟩
theorem VarM.row {w : World} {b lo hi : Nat} {v : Value} {xs : List Nd} {m : Mc} (h : VarM w b lo hi v xs m) (hm : xs.length ≤ 4194304) (hz : ∀ x ∈ xs, x.s.size ≤ maxLen) : NRow w v xs := NRow.of_own h.2.1 (by omega) hz
theorem VarM.lt {w : World} {b lo hi : Nat} {v : Value} {xs : List Nd} {m : Mc} (h : VarM w b lo hi v xs m) : b < w.heap.size := (Array.getElem?_eq_some_iff.1 h.1).1
theorem VarM.kept {w w' : World} {b lo hi lo' hi' b' : Nat} {v v' : Value} {xs xs' : List Nd} {m m' : Mc} (h : VarM w b lo hi v xs m) (h' : VarM w b' lo' hi' v' xs' m') (hg : w.grownBy w' v'.ownBlock) (hd : hi ≤ lo' ∨ hi' ≤ lo) : VarM w' b lo hi v xs m := by
  have hne : v'.ownBlock ≠ some b := own_ne h'.2.1 h.1 (by decide)
  refine ⟨(hg.block b h.lt (fun e => hne e.symm)).trans h.1, h.2.1.kept hg ?_, h.2.2.1, Nat.le_trans h.2.2.2 hg.size⟩
  cases hv : v.ownBlock with
  | none => exact Or.inl rfl
  | some k =>
    refine Or.inr fun e => ?_
    have k1 := h.2.2.1 k hv
    have k2 := (h.2.1.lt k hv).1
    have k3 := h'.2.2.1 k e.symm
    have k4 := (h'.2.1.lt k e.symm).1
    omega
theorem VarM.marked {w w' : World} {b lo hi : Nat} {v : Value} {xs ys : List Nd} {m : Mc} (h : VarM w b lo hi v xs m) (hg : w.grownBy w' v.ownBlock) (ho : w'.ownsRow lo 70 5 v ys.length (ncs ys)) : VarM w' b lo hi v ys m :=
  ⟨(hg.block b h.lt (fun e => own_ne h.2.1 h.1 (by decide) e.symm)).trans h.1, ho, h.2.2.1, Nat.le_trans h.2.2.2 hg.size⟩
theorem VarM.block {w w' : World} {b lo hi : Nat} {v : Value} {xs : List Nd} {m : Mc} (h : VarM w b lo hi v xs m) (hg : w.grownBy w' v.ownBlock) {j : Nat} {c : Array Value} {t : TypeId} (hj : w.heap[j]? = some (.cells c t (0, 0))) (hte : t ≠ 70) : w'.heap[j]? = some (.cells c t (0, 0)) :=
  (hg.block j (Array.getElem?_eq_some_iff.1 hj).1 (fun e => own_ne h.2.1 hj hte e.symm)).trans hj
theorem below_markM {w w' : World} {B b lo hi : Nat} {v : Value} {xs : List Nd} {m : Mc} {w0 : World} (h0 : Below B w0 w) (h : VarM w b lo hi v xs m) (hg : w.grownBy w' v.ownBlock) (hlo : B ≤ lo) (hB : B ≤ w.heap.size) : Below B w0 w' :=
  h0.grown hg hB (fun k hk => Nat.le_trans hlo (h.2.1.lt k hk).1)

set_option maxHeartbeats 400000 in
theorem markmach_any (v : Value) (k : Int) (base : Nat) (xs : List Nd) (m : Mc) (w : World) (h : w.ownsRow base 70 5 v xs.length (ncs xs)) (hm : xs.length ≤ 4194304) (hk0 : 0 ≤ k) (hk : k ≤ 2305843009213693952) :
    Calls Try.prog 17 #[.agg #[v, .int .i64 m.p, .int .i64 m.s, .int .i64 m.e, .int .i64 m.d, .int .i64 m.t, .int .i64 m.q, .int .i64 m.r], .int .i64 k] w fun e w' => e = .returned (.int .i64 (k + 5 * xs.length)) ∧ w'.ownsRow base 70 5 v xs.length (ncs (nmarked k xs xs.length)) ∧ w.grownBy w' v.ownBlock := by
  obtain ⟨ao, cap, rfl⟩ := own_form h
  go_enter Try.func17, Try.ntmps17
  go_wp2_with fail
  refine (markpool_any _ k base xs _ (h.alloc _) hm hk0 hk).mono ?_
  rintro e w2 ⟨rfl, ho2, hb2⟩
  have hB2 := (World.grownBy_alloc w (Obj.cells #[.slice ao xs.length cap, .int .i64 m.p, .int .i64 m.s, .int .i64 m.e, .int .i64 m.d, .int .i64 m.t, .int .i64 m.q, .int .i64 m.r] 39) (Value.slice ao xs.length cap).ownBlock).trans hb2
  clear hb2
  go_wp2
  go_ret
  exact ⟨rfl, ho2, hB2⟩

set_option maxHeartbeats 400000 in
theorem heldmach_any (v : Value) (k : Int) (xs : List Nd) (m : Mc) (w : World) (R : NRow w v (nmarked k xs xs.length)) (hm : xs.length ≤ 4194304) (hk0 : 0 ≤ k) (hk : k ≤ 2305843009213693952) :
    Calls Try.prog 18 #[.agg #[v, .int .i64 m.p, .int .i64 m.s, .int .i64 m.e, .int .i64 m.d, .int .i64 m.t, .int .i64 m.q, .int .i64 m.r], .int .i64 k] w fun e w' => e = .returned (.int .i64 (k + 5 * xs.length)) ∧ Below w.heap.size w w' := by
  have R' := R
  obtain ⟨ao, cap, rfl, _⟩ := R'
  rw [nmarked_length _ _ _ (Nat.le_refl _)] at R ⊢
  go_enter Try.func18, Try.ntmps18
  go_wp2_with fail
  have hbel : Below w.heap.size w (w.alloc (Obj.cells #[.slice ao xs.length cap, .int .i64 m.p, .int .i64 m.s, .int .i64 m.e, .int .i64 m.d, .int .i64 m.t, .int .i64 m.q, .int .i64 m.r] 39)) := (Below.refl _ _).alloc (Nat.le_refl _) _
  refine (heldpool_any _ k xs _ (R.below hbel) hm hk0 hk).mono ?_
  rintro e w2 ⟨rfl, hb2⟩
  have hB2 := hbel.trans (hb2.mono hbel.size)
  clear hb2 hbel
  have hpos : ¬ (k + 5 * (xs.length : Int)) < 0 := by omega
  go_wp2
  go_ret
  exact ⟨rfl, hB2⟩

set_option maxRecDepth 100000 in
set_option maxHeartbeats 6400000 in
theorem ltidy_any (v : Value) (xs : List Nd) (m : Mc) (w : World) (R : NRow w v xs) :
    Calls Try.prog 4 #[.agg #[v, .int .i64 m.p, .int .i64 m.s, .int .i64 m.e, .int .i64 m.d, .int .i64 m.t, .int .i64 m.q, .int .i64 m.r]] w fun e w' => e = .returned (.bool true) ∧ Below w.heap.size w w' := by
  have R' := R
  obtain ⟨ao, cap, rfl, _, _, hz, _⟩ := R'
  have hB0 : Below w.heap.size w (w.alloc (Obj.cells #[.slice ao xs.length cap, .int .i64 m.p, .int .i64 m.s, .int .i64 m.e, .int .i64 m.d, .int .i64 m.t, .int .i64 m.q, .int .i64 m.r] 36)) := (Below.refl _ _).alloc (Nat.le_refl _) _
  go_enter Try.func4, Try.ntmps4
  go_wp2_with fail
  refine (szmach_gen 1048576 (by omega) (by omega) _ xs m _ (R.below hB0)).mono ?_
  rintro e w1 ⟨r, rfl, hr0, hr1, hr2, hb1⟩
  have hx1 : w1.heap[w.heap.size]? = some (.cells #[.slice ao xs.length cap, .int .i64 m.p, .int .i64 m.s, .int .i64 m.e, .int .i64 m.d, .int .i64 m.t, .int .i64 m.q, .int .i64 m.r] 36 (0, 0)) := (hb1.block _ (by simp)).trans (heap_alloc_new _ _)
  have hB1 := hB0.trans (hb1.mono hB0.size)
  clear hB0 hb1
  by_cases hr : r < 0
  · go_wp2
    go_ret
    exact ⟨rfl, hB1⟩
  have hl := (hr2 (by omega)).1
  clear hr2
  have hzL := tdL_ok xs m hz
  have hlL := tdL_len xs m
  have IT := fun (v : Value) (w : World) (R : NRow w v xs) => itidy_any v xs m w R (by omega)
  have ST := fun (v : Value) (w : World) (R : NRow w v xs) => stidy_any v xs m w R (by omega)
  generalize tdL xs m = Q at *
  generalize tdM xs m = M at *
  have hlL' : Q.length ≤ 4194304 := by omega
  have hlm := nmarked_length 1 Q _ (Nat.le_refl _)
  go_wp2_with (refine wpList_load_row rfl 36 _ rfl w.heap.size rfl 36 #[.slice ao xs.length cap, .int .i64 m.p, .int .i64 m.s, .int .i64 m.e, .int .i64 m.d, .int .i64 m.t, .int .i64 m.q, .int .i64 m.r] (0, 0) _ hx1 Try.underlying36 rfl Try.sizeLM8 ?_)
  refine (tomach_any _ xs m _ (R.below hB1) (by omega)).mono ?_
  rintro e w2 ⟨v2, rfl, ho2, hb2⟩
  obtain ⟨ao2, cap2, rfl⟩ := own_form ho2
  have R2 := NRow.of_own ho2 (by omega) hz
  have hB2 := hB1.trans (hb2.mono hB1.size)
  have hx2 := (hb2.block _ (Array.getElem?_eq_some_iff.1 hx1).1).trans hx1
  clear hB1 hx1 hb2 ho2
  go_wp2_with fail
  refine (ST _ _ R2).mono ?_
  rintro e w3 ⟨v3, rfl, ho3, hb3⟩
  obtain ⟨ao3, cap3, rfl⟩ := own_form ho3
  have hB3 := hB2.trans (hb3.mono hB2.size)
  have hx3 := (hb3.block _ (Array.getElem?_eq_some_iff.1 hx2).1).trans hx2
  clear hB2 hx2 hb3 R2
  go_wp2_with (refine wpList_store_own rfl 39 _ _ rfl w3.heap.size #[.slice ao3 Q.length cap3, .int .i64 M.p, .int .i64 M.s, .int .i64 M.e, .int .i64 M.d, .int .i64 M.t, .int .i64 M.q, .int .i64 M.r] rfl rfl 39 _ (heap_alloc_new _ _) Try.sizeMach rfl (by simp [Value.oneCell']) ?_)
  intro w4 hnw4 hbw4 hsw4
  have hdw4 : Below w3.heap.size w3 w4 := ((Below.refl _ _).alloc (Nat.le_refl _) _).trans hbw4
  have V4 := VarM.new ho3 hdw4 hnw4
  have hBw4 := hB3.trans (hdw4.mono hB3.size)
  have hxw4 := (hdw4.block _ (Array.getElem?_eq_some_iff.1 hx3).1).trans hx3
  clear hB3 hx3 ho3 hnw4 hbw4 hsw4
  have hlo4 : w.heap.size < w4.heap.size := (Array.getElem?_eq_some_iff.1 hxw4).1
  clear hdw4
  generalize w3.heap.size = b4 at *
  generalize w2.heap.size = lo4 at *
  go_wp2_with (refine wpList_load_row rfl 36 _ rfl w.heap.size rfl 36 #[.slice ao xs.length cap, .int .i64 m.p, .int .i64 m.s, .int .i64 m.e, .int .i64 m.d, .int .i64 m.t, .int .i64 m.q, .int .i64 m.r] (0, 0) _ hxw4 Try.underlying36 rfl Try.sizeLM8 ?_)
  refine (tomach_any _ xs m _ (R.below hBw4) (by omega)).mono ?_
  rintro e w5 ⟨v5, rfl, ho5, hb5⟩
  obtain ⟨ao5, cap5, rfl⟩ := own_form ho5
  have hB5 := hBw4.trans (hb5.mono hBw4.size)
  have hx5 := (hb5.block _ (Array.getElem?_eq_some_iff.1 hxw4).1).trans hxw4
  replace V4 := V4.below hb5
  clear hBw4 hxw4 hb5
  go_wp2_with (refine wpList_store_own rfl 39 _ _ rfl w5.heap.size #[.slice ao5 xs.length cap5, .int .i64 m.p, .int .i64 m.s, .int .i64 m.e, .int .i64 m.d, .int .i64 m.t, .int .i64 m.q, .int .i64 m.r] rfl rfl 39 _ (heap_alloc_new _ _) Try.sizeMach rfl (by simp [Value.oneCell']) ?_)
  intro w6 hnw6 hbw6 hsw6
  have hdw6 : Below w5.heap.size w5 w6 := ((Below.refl _ _).alloc (Nat.le_refl _) _).trans hbw6
  have V5 := VarM.new ho5 hdw6 hnw6
  replace V4 := V4.below hdw6
  have hBw6 := hB5.trans (hdw6.mono hB5.size)
  have hxw6 := (hdw6.block _ (Array.getElem?_eq_some_iff.1 hx5).1).trans hx5
  clear hB5 hx5 ho5 hnw6 hbw6 hsw6
  clear hdw6
  have hlo6 : w4.heap.size ≤ w6.heap.size := by have := V4.2.2.2; omega
  generalize w5.heap.size = b5 at *
  go_wp2_with (refine wpList_load_row rfl 39 _ rfl b5 rfl 39 #[.slice ao5 xs.length cap5, .int .i64 m.p, .int .i64 m.s, .int .i64 m.e, .int .i64 m.d, .int .i64 m.t, .int .i64 m.q, .int .i64 m.r] (0, 0) _ V5.1 Try.underlying39 rfl Try.sizeMach ?_)
  refine (IT _ _ (V5.row (by omega) hz)).mono ?_
  rintro e w7 ⟨v7, rfl, ho7, hb7⟩
  obtain ⟨ao7, cap7, rfl⟩ := own_form ho7
  have hB7 := hBw6.trans (hb7.mono hBw6.size)
  have hx7 := (hb7.block _ (Array.getElem?_eq_some_iff.1 hxw6).1).trans hxw6
  replace V4 := V4.below hb7
  replace V5 := V5.below hb7
  clear hBw6 hxw6 hb7
  go_wp2_with (refine wpList_store_own rfl 39 _ _ rfl w7.heap.size #[.slice ao7 Q.length cap7, .int .i64 M.p, .int .i64 M.s, .int .i64 M.e, .int .i64 M.d, .int .i64 M.t, .int .i64 M.q, .int .i64 M.r] rfl rfl 39 _ (heap_alloc_new _ _) Try.sizeMach rfl (by simp [Value.oneCell']) ?_)
  intro w8 hnw8 hbw8 hsw8
  have hdw8 : Below w7.heap.size w7 w8 := ((Below.refl _ _).alloc (Nat.le_refl _) _).trans hbw8
  have V6 := VarM.new ho7 hdw8 hnw8
  replace V4 := V4.below hdw8
  replace V5 := V5.below hdw8
  have hBw8 := hB7.trans (hdw8.mono hB7.size)
  have hxw8 := (hdw8.block _ (Array.getElem?_eq_some_iff.1 hx7).1).trans hx7
  clear hB7 hx7 ho7 hnw8 hbw8 hsw8
  clear hdw8
  generalize w7.heap.size = b6 at *
  go_wp2_with (first | (refine wpList_load_row rfl 39 _ rfl b6 rfl 39 #[.slice ao7 Q.length cap7, .int .i64 M.p, .int .i64 M.s, .int .i64 M.e, .int .i64 M.d, .int .i64 M.t, .int .i64 M.q, .int .i64 M.r] (0, 0) _ V6.1 Try.underlying39 rfl Try.sizeMach ?_) | (refine wpList_load_row rfl 39 _ rfl b4 rfl 39 #[.slice ao3 Q.length cap3, .int .i64 M.p, .int .i64 M.s, .int .i64 M.e, .int .i64 M.d, .int .i64 M.t, .int .i64 M.q, .int .i64 M.r] (0, 0) _ V4.1 Try.underlying39 rfl Try.sizeMach ?_))
  refine (eqmach_any _ _ Q M _ (V6.row hlL' hzL) (V4.row hlL' hzL)).mono ?_
  rintro e w9 ⟨rfl, hb9⟩
  replace V4 := V4.below hb9
  replace V5 := V5.below hb9
  replace V6 := V6.below hb9
  have hBw9 := hBw8.trans (hb9.mono hBw8.size)
  have hxw9 := (hb9.block _ (Array.getElem?_eq_some_iff.1 hxw8).1).trans hxw8
  clear hBw8 hxw8 hb9
  have q5 := V5.lt
  have e0 : w9.cell? ⟨w.heap.size, 0, none⟩ = some (.slice ao xs.length cap) := cell_of_row w9 _ 0 _ _ _ hxw9
  have k0 : w9.cell? ⟨b5, 0, none⟩ = some (.slice ao5 xs.length cap5) := cell_of_row w9 _ 0 _ _ _ V5.1
  have e1 : w9.cell? ⟨w.heap.size, 1, none⟩ = some (.int .i64 m.p) := cell_of_row w9 _ 1 _ _ _ hxw9
  have k1 : w9.cell? ⟨b5, 1, none⟩ = some (.int .i64 m.p) := cell_of_row w9 _ 1 _ _ _ V5.1
  have e2 : w9.cell? ⟨w.heap.size, 2, none⟩ = some (.int .i64 m.s) := cell_of_row w9 _ 2 _ _ _ hxw9
  have k2 : w9.cell? ⟨b5, 2, none⟩ = some (.int .i64 m.s) := cell_of_row w9 _ 2 _ _ _ V5.1
  have e3 : w9.cell? ⟨w.heap.size, 3, none⟩ = some (.int .i64 m.e) := cell_of_row w9 _ 3 _ _ _ hxw9
  have k3 : w9.cell? ⟨b5, 3, none⟩ = some (.int .i64 m.e) := cell_of_row w9 _ 3 _ _ _ V5.1
  have e4 : w9.cell? ⟨w.heap.size, 4, none⟩ = some (.int .i64 m.d) := cell_of_row w9 _ 4 _ _ _ hxw9
  have k4 : w9.cell? ⟨b5, 4, none⟩ = some (.int .i64 m.d) := cell_of_row w9 _ 4 _ _ _ V5.1
  have e5 : w9.cell? ⟨w.heap.size, 5, none⟩ = some (.int .i64 m.t) := cell_of_row w9 _ 5 _ _ _ hxw9
  have k5 : w9.cell? ⟨b5, 5, none⟩ = some (.int .i64 m.t) := cell_of_row w9 _ 5 _ _ _ V5.1
  have e6 : w9.cell? ⟨w.heap.size, 6, none⟩ = some (.int .i64 m.q) := cell_of_row w9 _ 6 _ _ _ hxw9
  have k6 : w9.cell? ⟨b5, 6, none⟩ = some (.int .i64 m.q) := cell_of_row w9 _ 6 _ _ _ V5.1
  have e7 : w9.cell? ⟨w.heap.size, 7, none⟩ = some (.int .i64 m.r) := cell_of_row w9 _ 7 _ _ _ hxw9
  have k7 : w9.cell? ⟨b5, 7, none⟩ = some (.int .i64 m.r) := cell_of_row w9 _ 7 _ _ _ V5.1
  go_wp2_with fail
  go_region_with (first
    | (go_at_call 14; refine (tomach_any _ xs m _ ?_ ?_).mono ?_; exact R.below hBw9.drew; omega; rintro e wk ⟨vk, rfl, hok, hbk⟩; obtain ⟨ak, ck, rfl⟩ := own_form hok; have SK := NRow.of_own hok (by omega) hz; have hbk' : Below w9.heap.size w9 wk := stepD8 hbk; have UK := (V5.below hbk').row (by omega) hz; have m0 := (hbk'.cell (p := ⟨b5, 0, none⟩) q5).trans k0; have m1 := (hbk'.cell (p := ⟨b5, 1, none⟩) q5).trans k1; have m2 := (hbk'.cell (p := ⟨b5, 2, none⟩) q5).trans k2; have m3 := (hbk'.cell (p := ⟨b5, 3, none⟩) q5).trans k3; have m4 := (hbk'.cell (p := ⟨b5, 4, none⟩) q5).trans k4; have m5 := (hbk'.cell (p := ⟨b5, 5, none⟩) q5).trans k5; have m6 := (hbk'.cell (p := ⟨b5, 6, none⟩) q5).trans k6; have m7 := (hbk'.cell (p := ⟨b5, 7, none⟩) q5).trans k7)
    | (go_at_call 16; refine (eqmach_any _ _ xs m _ ?_ ?_).mono ?_; exact UK; exact SK; rintro e wl ⟨rfl, hbl⟩))
  all_goals
    have h9l : Below w9.heap.size w9 wl := hbk'.trans (hbl.mono hbk'.size)
    clear hbk hbk' hbl hok UK SK e0 k0 m0 e1 k1 m1 e2 k2 m2 e3 k3 m3 e4 k4 m4 e5 k5 m5 e6 k6 m6 e7 k7 m7
    replace V4 := V4.below h9l
    replace V5 := V5.below h9l
    replace V6 := V6.below h9l
    have hBwl := hBw9.trans (h9l.mono hBw9.size)
    have hxwl := (h9l.block _ (Array.getElem?_eq_some_iff.1 hxw9).1).trans hxw9
    clear hBw9 hxw9 h9l
    go_wp2_with (refine wpList_load_row rfl 39 _ rfl b5 rfl 39 #[.slice ao5 xs.length cap5, .int .i64 m.p, .int .i64 m.s, .int .i64 m.e, .int .i64 m.d, .int .i64 m.t, .int .i64 m.q, .int .i64 m.r] (0, 0) _ V5.1 Try.underlying39 rfl Try.sizeMach ?_)
    refine (markmach_any _ 1 w4.heap.size xs m _ V5.2.1 (by omega) (by omega) (by omega)).mono ?_
    rintro e wa ⟨rfl, _, hga⟩
    replace V4 := V4.kept V5 hga (Or.inl (Nat.le_refl _))
    replace V6 := V6.kept V5 hga (Or.inr (Nat.le_refl _))
    have hxwa := V5.block hga hxwl (by decide)
    have hBwa := below_markM hBwl V5 hga (by omega) hBwl.size
    clear V5 hga hxwl hBwl q5
    have hk1 : ¬ (1 + 5 * (xs.length : Int)) < 0 := by omega
    have e0 : wa.cell? ⟨b6, 0, none⟩ = some (.slice ao7 Q.length cap7) := cell_of_row wa _ 0 _ _ _ V6.1
    have k0 : wa.cell? ⟨b4, 0, none⟩ = some (.slice ao3 Q.length cap3) := cell_of_row wa _ 0 _ _ _ V4.1
    have e1 : wa.cell? ⟨b6, 1, none⟩ = some (.int .i64 M.p) := cell_of_row wa _ 1 _ _ _ V6.1
    have k1 : wa.cell? ⟨b4, 1, none⟩ = some (.int .i64 M.p) := cell_of_row wa _ 1 _ _ _ V4.1
    have e2 : wa.cell? ⟨b6, 2, none⟩ = some (.int .i64 M.s) := cell_of_row wa _ 2 _ _ _ V6.1
    have k2 : wa.cell? ⟨b4, 2, none⟩ = some (.int .i64 M.s) := cell_of_row wa _ 2 _ _ _ V4.1
    have e3 : wa.cell? ⟨b6, 3, none⟩ = some (.int .i64 M.e) := cell_of_row wa _ 3 _ _ _ V6.1
    have k3 : wa.cell? ⟨b4, 3, none⟩ = some (.int .i64 M.e) := cell_of_row wa _ 3 _ _ _ V4.1
    have e4 : wa.cell? ⟨b6, 4, none⟩ = some (.int .i64 M.d) := cell_of_row wa _ 4 _ _ _ V6.1
    have k4 : wa.cell? ⟨b4, 4, none⟩ = some (.int .i64 M.d) := cell_of_row wa _ 4 _ _ _ V4.1
    have e5 : wa.cell? ⟨b6, 5, none⟩ = some (.int .i64 M.t) := cell_of_row wa _ 5 _ _ _ V6.1
    have k5 : wa.cell? ⟨b4, 5, none⟩ = some (.int .i64 M.t) := cell_of_row wa _ 5 _ _ _ V4.1
    have e6 : wa.cell? ⟨b6, 6, none⟩ = some (.int .i64 M.q) := cell_of_row wa _ 6 _ _ _ V6.1
    have k6 : wa.cell? ⟨b4, 6, none⟩ = some (.int .i64 M.q) := cell_of_row wa _ 6 _ _ _ V4.1
    have e7 : wa.cell? ⟨b6, 7, none⟩ = some (.int .i64 M.r) := cell_of_row wa _ 7 _ _ _ V6.1
    have k7 : wa.cell? ⟨b4, 7, none⟩ = some (.int .i64 M.r) := cell_of_row wa _ 7 _ _ _ V4.1
    go_wp2_with fail
    refine (eqmach_any _ _ Q M _ (V6.row hlL' hzL) (V4.row hlL' hzL)).mono ?_
    rintro e wb ⟨rfl, hbb⟩
    clear e0 k0 e1 k1 e2 k2 e3 k3 e4 k4 e5 k5 e6 k6 e7 k7
    replace V4 := V4.below hbb
    replace V6 := V6.below hbb
    have hBwb := hBwa.trans (hbb.mono hBwa.size)
    have hxwb := (hbb.block _ (Array.getElem?_eq_some_iff.1 hxwa).1).trans hxwa
    clear hBwa hxwa hbb
    go_wp2_with (refine wpList_load_row rfl 39 _ rfl b6 rfl 39 #[.slice ao7 Q.length cap7, .int .i64 M.p, .int .i64 M.s, .int .i64 M.e, .int .i64 M.d, .int .i64 M.t, .int .i64 M.q, .int .i64 M.r] (0, 0) _ V6.1 Try.underlying39 rfl Try.sizeMach ?_)
    refine (markmach_any _ 1 w6.heap.size Q M _ V6.2.1 hlL' (by omega) (by omega)).mono ?_
    rintro e wc ⟨rfl, hoc, hgc⟩
    replace V4 := V4.kept V6 hgc (Or.inl hlo6)
    have hxwc := V6.block hgc hxwb (by decide)
    have hBwc := below_markM hBwb V6 hgc (by omega) hBwb.size
    have V6 := V6.marked (ys := nmarked 1 Q Q.length) hgc (by rw [hlm]; exact hoc)
    clear hgc hoc hxwb hBwb
    have hzM := nmarked_ok 1 Q (by omega) hlL'
    have hk2 : ¬ (1 + 5 * (Q.length : Int)) < 0 := by omega
    go_wp2_with (refine wpList_load_row rfl 39 _ rfl b6 rfl 39 #[.slice ao7 Q.length cap7, .int .i64 M.p, .int .i64 M.s, .int .i64 M.e, .int .i64 M.d, .int .i64 M.t, .int .i64 M.q, .int .i64 M.r] (0, 0) _ V6.1 Try.underlying39 rfl Try.sizeMach ?_)
    refine (heldmach_any _ 1 Q M _ (V6.row (by omega) hzM) hlL' (by omega) (by omega)).mono ?_
    rintro e wd ⟨rfl, hbd⟩
    replace V4 := V4.below hbd
    replace V6 := V6.below hbd
    have hBwd := hBwc.trans (hbd.mono hBwc.size)
    have hxwd := (hbd.block _ (Array.getElem?_eq_some_iff.1 hxwc).1).trans hxwc
    clear hBwc hxwc hbd
    go_wp2_with (refine wpList_load_row rfl 36 _ rfl w.heap.size rfl 36 #[.slice ao xs.length cap, .int .i64 m.p, .int .i64 m.s, .int .i64 m.e, .int .i64 m.d, .int .i64 m.t, .int .i64 m.q, .int .i64 m.r] (0, 0) _ hxwd Try.underlying36 rfl Try.sizeLM8 ?_)
    refine (tomach_any _ xs m _ (R.below hBwd) (by omega)).mono ?_
    rintro e we ⟨v9, rfl, ho9, hb9⟩
    obtain ⟨ao9, cap9, rfl⟩ := own_form ho9
    have R9 := NRow.of_own ho9 (by omega) hz
    clear ho9
    replace V4 := V4.below hb9
    replace V6 := V6.below hb9
    have hBwe := hBwd.trans (hb9.mono hBwd.size)
    have hxwe := (hb9.block _ (Array.getElem?_eq_some_iff.1 hxwd).1).trans hxwd
    clear hBwd hxwd hb9
    go_wp2_with fail
    refine (IT _ _ R9).mono ?_
    rintro e wf ⟨v10, rfl, ho10, hb10⟩
    obtain ⟨ao10, cap10, rfl⟩ := own_form ho10
    clear R9
    replace V4 := V4.below hb10
    replace V6 := V6.below hb10
    have hBwf := hBwe.trans (hb10.mono hBwe.size)
    have hxwf := (hb10.block _ (Array.getElem?_eq_some_iff.1 hxwe).1).trans hxwe
    clear hBwe hxwe hb10
    go_wp2_with (refine wpList_store_own rfl 39 _ _ rfl wf.heap.size #[.slice ao10 Q.length cap10, .int .i64 M.p, .int .i64 M.s, .int .i64 M.e, .int .i64 M.d, .int .i64 M.t, .int .i64 M.q, .int .i64 M.r] rfl rfl 39 _ (heap_alloc_new _ _) Try.sizeMach rfl (by simp [Value.oneCell']) ?_)
    intro wg hnwg hbwg hswg
    have hdwg : Below wf.heap.size wf wg := ((Below.refl _ _).alloc (Nat.le_refl _) _).trans hbwg
    have V10 := VarM.new ho10 hdwg hnwg
    replace V4 := V4.below hdwg
    replace V6 := V6.below hdwg
    have hBwg := hBwf.trans (hdwg.mono hBwf.size)
    have hxwg := (hdwg.block _ (Array.getElem?_eq_some_iff.1 hxwf).1).trans hxwf
    clear hBwf hxwf ho10 hnwg hbwg hswg
    clear hdwg
    generalize wf.heap.size = b10 at *
    go_wp2_with (first | (refine wpList_load_row rfl 39 _ rfl b10 rfl 39 #[.slice ao10 Q.length cap10, .int .i64 M.p, .int .i64 M.s, .int .i64 M.e, .int .i64 M.d, .int .i64 M.t, .int .i64 M.q, .int .i64 M.r] (0, 0) _ V10.1 Try.underlying39 rfl Try.sizeMach ?_) | (refine wpList_load_row rfl 39 _ rfl b4 rfl 39 #[.slice ao3 Q.length cap3, .int .i64 M.p, .int .i64 M.s, .int .i64 M.e, .int .i64 M.d, .int .i64 M.t, .int .i64 M.q, .int .i64 M.r] (0, 0) _ V4.1 Try.underlying39 rfl Try.sizeMach ?_))
    refine (eqmach_any _ _ Q M _ (V10.row hlL' hzL) (V4.row hlL' hzL)).mono ?_
    rintro e wh ⟨rfl, hbh⟩
    replace V6 := V6.below hbh
    have hBwh := hBwg.trans (hbh.mono hBwg.size)
    have hxwh := (hbh.block _ (Array.getElem?_eq_some_iff.1 hxwg).1).trans hxwg
    clear hBwg hxwg hbh
    go_wp2_with (refine wpList_load_row rfl 39 _ rfl b6 rfl 39 #[.slice ao7 Q.length cap7, .int .i64 M.p, .int .i64 M.s, .int .i64 M.e, .int .i64 M.d, .int .i64 M.t, .int .i64 M.q, .int .i64 M.r] (0, 0) _ V6.1 Try.underlying39 rfl Try.sizeMach ?_)
    refine (heldmach_any _ 1 Q M _ (V6.row (by omega) hzM) hlL' (by omega) (by omega)).mono ?_
    rintro e wi ⟨rfl, hbi⟩
    have hBwi := hBwh.trans (hbi.mono hBwh.size)
    clear V6 V4 V10 hbi hBwh hxwh
    go_wp2
    go_ret
    exact ⟨rfl, hBwi⟩
end Go.Proofs.Ytbdgdeoecnhcdab
