/-
  Contracts of the draws' l7DrawRoots and DrawReach.
-/
import Derived.Test.YtbdgdeoecnhcdaaDraw12
import Derived.Test.YtbdgdeoecnhcdaaInts
import Derived.Test.YtbdgdeoecnhcdaaBools
import Derived.Test.YtbdgdeoecnhcdaaListOf
namespace Go.Proofs.Ytbdgdeoecnhcdaa
open Go.RowKit

theorem Try.infoI7 : (Try.prog.info? 3).map (fun i => (i.zero, i.size, i.bytes)) = some (some (.int .i64 0), 1, 8) := by kernel_rfl
theorem grown_more {w w1 w2 : World} {P : Nat} {r : Option Nat} (g : w.grownBy w1 (some P)) (h : w1.grownBy w2 r) (hr : ∀ k, r = some k → w.heap.size ≤ k) : w.grownBy w2 (some P) :=
  ⟨h.os.trans g.os, h.tape.trans g.tape, h.output.trans g.output, Nat.le_trans g.size h.size, fun i hi hne => (h.block i (Nat.lt_of_lt_of_le hi g.size) (fun e => by have := hr i e.symm; omega)).trans (g.block i hi hne)⟩
theorem own_split {w : World} {B B' : Nat} {e e' : TypeId} {k k' : Nat} {v v' : Value} {n n' : Nat} {xs xs' : List Value} (h : w.ownsRow B e k v n xs) (h' : w.ownsRow B' e' k' v' n' xs') (hne : e ≠ e') : v.ownBlock = none ∨ v.ownBlock ≠ v'.ownBlock := by
  rcases h.2 with ⟨rfl, _⟩ | ⟨g, cap, cur, rfl, hB, hg, _⟩
  · exact Or.inl rfl
  · exact Or.inr fun e => own_ne h' hg hne e.symm

set_option maxRecDepth 100000 in
set_option maxHeartbeats 3200000 in
theorem sdroots_any (w0 : World) (v : Value) (zs : List Int) (w : World) (P : Nat) (ao : Option Addr) (n cap : Nat) (c : Cur w0 v zs w P) (hn : n ≤ 100000) :
    Calls Try.prog 26 #[.pointer (some ⟨P, 0, none⟩), .agg #[.slice ao n cap]] w fun e w' => ∃ (vl : Value) (ls : List Int), e = .returned vl ∧ ls.length ≤ 4 ∧ w'.ownsRow w.heap.size 3 1 vl ls.length (iv ls) ∧ Cur w0 v zs w' P ∧ w.grownBy w' (some P) := by
  obtain ⟨i0, hi, hz0, hz1, hz2⟩ := info_parts Try.infoI7
  have hP := c.lt
  have hbx : ((w.alloc (.cells #[.slice ao n cap] 26)).alloc (.cells #[] 3)).heap[w.heap.size]? = some (.cells #[.slice ao n cap] 26 (0, 0)) := (heap_alloc_old _ _ (by simp)).trans (heap_alloc_new _ _)
  have hi4 := own_none0 (w.alloc (.cells #[.slice ao n cap] 26)) 3 1 (w.heap.size + 1) (by simp)
  have hsw : (w.alloc (.cells #[.slice ao n cap] 26)).heap.size = w.heap.size + 1 := by simp
  rw [hsw] at hi4
  have c4 := c.kept (((Below.refl (P + 1) w).alloc (by omega) (.cells #[.slice ao n cap] 26)).alloc (by simp; omega) (.cells #[] 3))
  have g4 : w.grownBy ((w.alloc (.cells #[.slice ao n cap] 26)).alloc (.cells #[] 3)) (some P) := grown_more (World.grownBy_alloc w _ _) (World.grownBy_alloc _ _ none) (fun k hk => by cases hk)
  clear hsw
  go_enter Try.func26, Try.ntmps26
  go_wp2_with fail
  generalize hw4 : (w.alloc (Obj.cells #[Value.slice ao n cap] 26)).alloc (Obj.cells #[] 3) = w4 at hbx hi4 c4 g4 ⊢
  clear hw4
  go_loopw [5, 6] (fun s i wr => ∃ (ls : List Int), ls.length ≤ 4 ∧ i = .int .i64 ls.length ∧ wr.heap[w.heap.size]? = some (.cells #[.slice ao n cap] 26 (0, 0)) ∧ wr.ownsRow (w.heap.size + 1) 3 1 s ls.length (iv ls) ∧ Cur w0 v zs wr P ∧ w.grownBy wr (some P)) (fun _ i _ => 4 - (intOf i).toNat)
  case atStart => exact ⟨[], by simp, rfl, hbx, hi4, c4, g4⟩
  case round =>
    clear hbx hi4 c4 g4
    obtain ⟨ls, hls, rfl, hbr, hir, cr, gr⟩ := hrel
    have hlr4 := (Array.getElem?_eq_some_iff.1 hbr).1
    go_wp2_with fail
    refine (below_any w0 v zs wr P 4 cr (by omega)).mono ?_
    rintro e w5 ⟨m, rfl, hn0, hn1, c5, g5⟩
    have hm := hn1 (by omega)
    have hb5 := (g5.block w.heap.size hlr4 (by simp; omega)).trans hbr
    have hi5 := hir.kept g5 (own_not hir (by omega))
    have hl5 := (Array.getElem?_eq_some_iff.1 hb5).1
    have hc5 : w5.cell? ⟨w.heap.size, 0, none⟩ = some (.slice ao n cap) := cell_of_row w5 _ 0 _ _ _ hb5
    have gw5 := grown_trans gr g5
    clear hbr hir cr g5 hn1 hlr4 gr
    by_cases hlt : (ls.length : Int) < m
    · go_wp2_with fail
      refine (ddrawat_any w0 v zs w5 P ao n cap c5 (by omega)).mono ?_
      rintro e w6 ⟨x, rfl, hx0, hx1, c6, g6⟩
      have hb6 := (g6.block w.heap.size hl5 (by simp; omega)).trans hb5
      have hi6 := hi5.kept g6 (own_not hi5 (by omega))
      have hl6 := (Array.getElem?_eq_some_iff.1 hb6).1
      have gw6 := grown_trans gw5 g6
      obtain ⟨asl, qs, rfl⟩ := own_form hi6
      clear hb5 hi5 c5 g6 hl5 hc5 gw5
      go_wp2_with (at_builtin; refine wpList_append_own _ rfl _ _ 27 rfl (w.heap.size + 1) 3 i0 (.int .i64 0) 1 8 Try.underlying27 hi hz0 hz1 hz2 rfl (by decide) _ _ _ rfl (hi6.alloc _) ⟨w6.heap.size, 0, none⟩ 1 1 [.int .i64 x] rfl rfl (cell_one_new _ _ _) (fun u hu => by simp at hu; subst hu; rfl) (by unfold maxLen; omega) (by omega) (by simp; omega) ?_)
      intro v7 w7 hi7 hg7 _
      have hi8 : w7.ownsRow (w.heap.size + 1) 3 1 v7 (ls ++ [x]).length (iv (ls ++ [x])) := by rw [iv_append, List.length_append]; exact hi7
      have hb7 : w7.heap[w.heap.size]? = some (.cells #[.slice ao n cap] 26 (0, 0)) := (hg7.block w.heap.size (by simp; omega) (fun e => own_ne hi6 hb6 (by decide) e.symm)).trans ((heap_alloc_old _ _ hl6).trans hb6)
      have c7 := c6.kept (((Below.refl (P + 1) w6).alloc (by omega) _).grown hg7 (by simp; omega) (fun k hk => by have := (hi6.lt k hk).1; omega))
      have gw7 := grown_more (grown_more gw6 (World.grownBy_alloc w6 (Obj.cells #[.int .i64 x] 3) none) (fun k hk => by cases hk)) hg7 (fun k hk => by have := (hi6.lt k hk).1; omega)
      clear hi7 hg7 hb6 c6 hi6 gw6
      go_wp2_with fail
      go_roundw
      case rel => exact ⟨ls ++ [x], by simp; omega, by simp, hb7, hi8, c7, gw7⟩
      case measure => simp [intOf]; omega
    · obtain ⟨asl, qs, rfl⟩ := own_form hi5
      go_wp2_with fail
      go_ret
      exact ⟨_, ls, rfl, hls, own_mono hi5 (by omega), c5, gw5⟩

set_option maxRecDepth 100000 in
set_option maxHeartbeats 3200000 in
theorem sdreach_any (v : Value) (zs : List Int) (w : World) (R : Row w v zs) (hl : zs.length ≤ 1048576) :
    Calls Try.prog 7 #[v] w fun e w' => ∃ (v' vl : Value) (xs : List Nd) (ls : List Int), e = .returned (.tuple #[.agg #[v'], vl]) ∧ xs.length ≤ 3001 ∧ (∀ x ∈ xs, x.s.size ≤ 40) ∧ ls.length ≤ 4 ∧ w'.ownsRow w.heap.size 33 5 v' xs.length (ncs xs) ∧ w'.ownsRow w.heap.size 3 1 vl ls.length (iv ls) ∧ Below w.heap.size w w' := by
  have hB0 : Below w.heap.size w (w.alloc (.cells #[.slice none 0 0] 26)) := (Below.refl _ _).alloc (Nat.le_refl _) _
  have hr0 : (w.alloc (.cells #[.slice none 0 0] 26)).heap[w.heap.size]? = some (.cells #[.slice none 0 0] 26 (0, 0)) := heap_alloc_new _ _
  have R0 := R.below hB0
  go_enter Try.func7, Try.ntmps7
  go_wp2_with fail
  generalize hA : w.alloc (Obj.cells #[Value.slice none 0 0] 26) = wA at hB0 hr0 R0 ⊢
  have hlr : w.heap.size < wA.heap.size := by rw [← hA]; simp
  clear hA
  refine (new_any v zs wA R0 hl).mono ?_
  rintro e w1 ⟨rfl, c1, b1⟩
  have hP1 := c1.lt
  have hlrA := hlr
  generalize wA.heap.size = P at c1 hlr hP1 ⊢
  clear b1
  go_wp2_with fail
  refine (ddraw_any wA v zs w1 P c1).mono ?_
  rintro e w2 ⟨v2, xs, rfl, hxl, hz, ho2, c2, g2⟩
  obtain ⟨a2, q2, rfl⟩ := own_form ho2
  have hb2 := c2.lt
  have hs1 : P + 1 ≤ w1.heap.size := by omega
  have hb3 := heap_alloc_new w2 (.cells #[.slice a2 xs.length q2] 26)
  have ho3 := own_mono (B' := P + 1) (ho2.alloc (.cells #[.slice a2 xs.length q2] 26)) hs1
  have c3 := c2.kept ((Below.refl (P + 1) w2).alloc (by omega) (.cells #[.slice a2 xs.length q2] 26))
  have HZ : Hid (∀ x ∈ xs, x.s.size ≤ 40) := hz
  clear ho2 c2 g2 c1 hz
  go_wp2_with fail
  generalize hb : w2.heap.size = b at hb3 hb2 ⊢
  generalize hw3 : w2.alloc (Obj.cells #[Value.slice a2 xs.length q2] 26) = w5 at hb3 ho3 c3 ⊢
  clear hw3 hb
  have hc5 : w5.cell? ⟨b, 0, none⟩ = some (.slice a2 xs.length q2) := by rw [cell_of_row w5 _ 0 _ _ _ hb3]; rfl
  have hlt5 := (Array.getElem?_eq_some_iff.1 hb3).1
  go_region_with (go_at_call 26; refine (sdroots_any wA v zs _ P a2 xs.length q2 ?_ (by omega)).mono ?_; exact c3.kept ⟨rfl, rfl, rfl, Nat.le_refl _, fun _ _ => rfl⟩; rintro e w6 ⟨vl, ls, rfl, hls, hi6, c6, g6⟩; have g6' : w5.grownBy w6 (some P) := ⟨g6.os, g6.tape, g6.output, g6.size, g6.block⟩; have hb6 := (g6'.block b hlt5 (by simp; omega)).trans hb3; have ho6 := ho3.kept g6' (own_not ho3 (by omega)); have hc6 : w6.cell? ⟨b, 0, none⟩ = some (.slice a2 xs.length q2) := cell_of_row w6 b 0 _ _ _ hb6; have hr6 : w6.heap[w.heap.size]? = some (.cells #[.slice none 0 0] 26 (0, 0)) := (c6.2.1.block _ (by omega)).trans hr0; have hd6 : w6.cell? ⟨w.heap.size, 0, none⟩ = some (.slice none 0 0) := cell_of_row w6 _ 0 _ _ _ hr6; have hf6 : w6.frozen? ⟨w.heap.size, 0, none⟩ = false := frozen_of_row w6 _ 0 _ _ hr6)
  all_goals
    have hBA : Below w.heap.size w w6 := hB0.trans (c6.2.1.mono hB0.size)
    obtain ⟨p1, p2, p3⟩ := put_pool hr6 ho6 hBA (by omega) (Nat.le_refl _)
    have hi7 : w6.ownsRow (P + 1) 3 1 vl ls.length (iv ls) := own_mono hi6 (by show P + 1 ≤ w5.heap.size; omega)
    have p4 := own_mono (B' := w.heap.size) (ownsRow_setCell_below hi7 (a := ⟨w.heap.size, 0, none⟩) (by show w.heap.size < P + 1; omega) (.slice a2 xs.length q2)) (by omega)
    clear hd6 hf6 hc6 hc5
    go_wp2_with fail
    refine bodyPost_ret (results_row_tmp rfl _ _ w.heap.size 26 _ (0, 0) _ rfl p1 Try.underlying26 rfl Try.sizeP) rfl ⟨_, vl, xs, ls, rfl, hxl, HZ.out, hls, p2, p4, p3⟩
end Go.Proofs.Ytbdgdeoecnhcdaa
