/-
  Contract of a window's pass. No condition but small numbers.
-/
import Derived.Test.YtgjebgdingahjaaWLook
namespace Go.Proofs.Ytgjebgdingahjaa
open Go.RowKit Go.Maps

theorem own_keep2 {w w' : World} {B k n g : Nat} {e t : TypeId} {v : Value} {l : List Value} {c : Array Value} {fr : Nat × Nat} (h : w.ownsRow B e k v n l) (hte : t ≠ e) (hg : w.heap[g]? = some (.cells c t fr)) (hb : ∀ j, j ≠ g → w'.heap[j]? = w.heap[j]?) : w'.ownsRow B e k v n l := by
  refine ⟨h.1, ?_⟩
  rcases h.2 with ⟨rfl, h0⟩ | ⟨gg, cap, cur, rfl, hB, hgg, hr⟩
  · exact Or.inl ⟨rfl, h0⟩
  · refine Or.inr ⟨gg, cap, cur, rfl, hB, (hb gg ?_).trans hgg, hr⟩
    rintro rfl
    rw [hgg] at hg
    cases hg
    exact hte rfl
/-- All stays but the window's box and map, and what lies below B. -/
def Far (B bw mb : Nat) (w w' : World) : Prop := Below B w w' ∧ w.heap.size ≤ w'.heap.size ∧ ∀ k, k < w.heap.size → k ≠ bw → k ≠ mb → w'.heap[k]? = w.heap[k]?

set_option maxRecDepth 100000 in
set_option maxHeartbeats 1600000 in
theorem wpass_yes (w : World) (B bw : Nat) (next below : Int) (v : Value) (mb n : Nat) (ns : List Int) (p : Pc) (qs : List Pc) (W : WS w B bw next below v mb n ns (p :: qs)) (hp : p.n = next) (ha : Asc (p :: qs)) (h0 : 0 ≤ next) (hb : next ≤ 200000) (hB : B ≤ w.heap.size) :
    Calls Try.prog 16 #[.pointer (some ⟨bw, 0, none⟩)] w fun e w' => e = .returned (.tuple #[.agg #[.int .i64 p.n, .string p.s], .bool true]) ∧ WS w' B bw (next + 1) below v mb n ns qs ∧ Far B bw mb w w' := by
  have hbw := W.lt
  obtain ⟨D, hD, hM⟩ := W.map
  obtain ⟨pn, psx⟩ := p
  simp only at hp
  subst hp
  have hbx := (heap_alloc_old w (Obj.cells #[.int .i64 0, .string ⟨#[]⟩] 36) hbw).trans W.box
  have hbx2 := (heap_alloc_old (w.alloc (Obj.cells #[.int .i64 0, .string ⟨#[]⟩] 36)) (Obj.cells #[.int .i64 0, .string ⟨#[]⟩] 36) (by simp; omega)).trans hbx
  have hD1 := hD.alloc (Obj.cells #[.int .i64 0, .string ⟨#[]⟩] 36)
  have hD2 := hD1.alloc (Obj.cells #[.int .i64 0, .string ⟨#[]⟩] 36)
  have c0 := cell_of_row _ _ 0 _ _ _ hbx
  have c3 := cell_of_row _ _ 3 _ _ _ hbx
  have e0 := cell_of_row _ _ 0 _ _ _ hbx2
  have e3 := cell_of_row _ _ 3 _ _ _ hbx2
  simp only [List.getElem?_toArray, List.getElem?_cons_zero, List.getElem?_cons_succ] at c0 c3 e0 e3
  have hrun := look_yes hD1.drew hM (List.mem_cons_self) h0 (by simp only; omega)
  have hrun2 := look_yes hD2.drew hM (List.mem_cons_self) h0 (by simp only; omega)
  simp only at hrun hrun2
  go_enter Try.func16, Try.ntmps16
  go_wp2_with fail
  go_region
  all_goals
    have hb3 : Below w.heap.size w ((w.alloc (Obj.cells #[.int .i64 0, .string ⟨#[]⟩] 36)).alloc (Obj.cells #[.int .i64 pn, .string psx] 36)).drew := (below2 w _ _).drew
    have hx3 : ((w.alloc (Obj.cells #[.int .i64 0, .string ⟨#[]⟩] 36)).alloc (Obj.cells #[.int .i64 pn, .string psx] 36)).drew.heap[bw]? = _ := (hb3.block _ hbw).trans W.box
    have hr3 : ((w.alloc (Obj.cells #[.int .i64 0, .string ⟨#[]⟩] 36)).alloc (Obj.cells #[.int .i64 pn, .string psx] 36)).drew.heap[w.heap.size]? = some (.cells #[.int .i64 0, .string ⟨#[]⟩] 36 (0, 0)) := old2 _ _ _
    have hs3 : ((w.alloc (Obj.cells #[.int .i64 0, .string ⟨#[]⟩] 36)).alloc (Obj.cells #[.int .i64 pn, .string psx] 36)).drew.heap[w.heap.size + 1]? = some (.cells #[.int .i64 pn, .string psx] 36 (0, 0)) := heap_alloc2_new _ _ _
    have hD3 := ((hD.alloc (Obj.cells #[.int .i64 0, .string ⟨#[]⟩] 36)).alloc (Obj.cells #[.int .i64 pn, .string psx] 36)).drew
    have hrow3 := own_below W.row hb3
    have hlob := W.lob
    have hlom := W.lom
    generalize ((w.alloc (Obj.cells #[.int .i64 0, .string ⟨#[]⟩] 36)).alloc (Obj.cells #[.int .i64 pn, .string psx] 36)).drew = w3 at *
    clear hbx hbx2 hD1 hD2 c0 c3 e0 e3 hrun hrun2 W hD
    have hkey := key_int (wf_small (n := pn) h0 (by omega))
    obtain ⟨w4, hrun4, hD4, hmt⟩ := hD3.drew.drop Try.keyedInt Try.underlying47 hkey 0
    have g4 : w3.grownBy w4 (some mb) := ⟨hmt.grown.os, hmt.grown.tape, hmt.grown.output, hmt.grown.size, hmt.grown.block⟩
    have hmx : mb ≠ bw := map_ne hD3 hx3
    have hmr : mb ≠ w.heap.size := map_ne hD3 hr3
    have hms : mb ≠ w.heap.size + 1 := map_ne hD3 hs3
    have sx := (Array.getElem?_eq_some_iff.1 hx3).1
    have sr := (Array.getElem?_eq_some_iff.1 hr3).1
    have ss := (Array.getElem?_eq_some_iff.1 hs3).1
    have hx4 := (g4.block _ sx (by simp; omega)).trans hx3
    have hr4 := (g4.block _ sr (by simp; omega)).trans hr3
    have hs4 := (g4.block _ ss (by simp; omega)).trans hs3
    have hrow4 := hrow3.kept g4 (by
      rcases hrow3.2 with ⟨e1, _⟩ | ⟨g, c, cur, e1, _, hg, _⟩
      · rw [e1]; exact Or.inl rfl
      · rw [e1]
        exact Or.inr fun e => map_ne hD3 hg (by simpa [Value.ownBlock] using e.symm))
    have f3 : Far B bw mb w w4 := ⟨(hb3.mono hB).grown g4 (by have := hb3.size; omega) (fun k hk => by simp at hk; omega), Nat.le_trans hb3.size g4.size, fun k hk k1 k2 => (g4.block k (Nat.lt_of_lt_of_le hk hb3.size) (by simp; omega)).trans (hb3.block k hk)⟩
    have c0 := cell_of_row _ _ 0 _ _ _ hx3
    have c3 := cell_of_row _ _ 3 _ _ _ hx3
    simp only [List.getElem?_toArray, List.getElem?_cons_zero, List.getElem?_cons_succ] at c0 c3
    go_wp2_with fail
    go_region
    all_goals
      have k0 := cell_of_row _ _ 0 _ _ _ hx4
      simp only [List.getElem?_toArray, List.getElem?_cons_zero] at k0
      have kf := frozen_of_row w4 bw 0 _ _ hx4
      have hx5 := heap_setCell_same w4 bw 0 _ _ (.int .i64 (pn + 1)) hx4
      have hr5 := (heap_setCell_other w4 ⟨bw, 0, none⟩ w.heap.size (.int .i64 (pn + 1)) (by simp; omega)).trans hr4
      have hs5 := (heap_setCell_other w4 ⟨bw, 0, none⟩ (w.heap.size + 1) (.int .i64 (pn + 1)) (by simp; omega)).trans hs4
      have hD5 := hD4.setCell (a := ⟨bw, 0, none⟩) (map_ne hD4 hx4) (.int .i64 (pn + 1))
      have hrow5 := hrow4.kept (grown_set w4 bw 0 (.int .i64 (pn + 1))) (Or.inr (own_ne hrow4 hx4 (by decide)))
      have f5 : Far B bw mb w (w4.setCell ⟨bw, 0, none⟩ (.int .i64 (pn + 1))) := ⟨f3.1.setCell (p := ⟨bw, 0, none⟩) (by simp; omega) _, by simpa using f3.2.1, fun k hk k1 k2 => (heap_setCell_other w4 ⟨bw, 0, none⟩ k (.int .i64 (pn + 1)) (by simp; omega)).trans (f3.2.2 k hk k1 k2)⟩
      clear hx4 hr4 hs4 hD4 hrow4 f3 c0 c3 hrun4 hmt g4 hrow3 hD3 hx3 hr3 hs3 sx sr ss
      go_wp2_with (first
        | refine wpList_load_row rfl 36 _ rfl (w.heap.size + 1) rfl 36 #[.int .i64 pn, .string psx] (0, 0) _ hs5 Try.underlying36 rfl Try.sizePc ?_
        | refine wpList_store_own2 rfl 36 _ _ rfl w.heap.size #[.int .i64 pn, .string psx] rfl rfl 36 _ hr5 Try.sizePc rfl (by simp [Value.oneCell']) ?_)
      intro w6 hy6 hbg hsz hoth
      have f6 : Far B bw mb w w6 := ⟨f5.1.trans (hbg.mono hB), by rw [hsz]; simpa using f5.2.1, fun k hk k1 k2 => (hoth k (by omega)).trans (f5.2.2 k hk k1 k2)⟩
      have hx6 := (hoth bw (by omega)).trans hx5
      have hM6 : MapIs (D.del (.int .i64 pn)) qs := hM.del pn (fun y => by
        have hpq := List.pairwise_cons.1 ha
        constructor
        · intro hy
          have := hpq.1 y hy
          simp only at this
          exact ⟨List.mem_cons_of_mem _ hy, by omega⟩
        · rintro ⟨hy, hne⟩
          rcases List.mem_cons.1 hy with rfl | hy
          · exact absurd rfl hne
          · exact hy)
      have gk : (w4.setCell ⟨bw, 0, none⟩ (.int .i64 (pn + 1))).grownBy w6 (some w.heap.size) := ⟨hbg.os, hbg.tape, hbg.output, by rw [hsz]; simp, fun k hk hne => hoth k (by simpa using hne)⟩
      have hD6 := hD5.kept gk (by simp; omega)
      have hrow6 := own_keep2 hrow5 (by decide) hr5 hoth
      have W6 : WS w6 B bw (pn + 1) below v mb n ns qs := ⟨hx6, hrow6, ⟨_, hD6, hM6⟩, hlob, hlom⟩
      clear hoth hbg hx5 hr5 hs5 hD5 hrow5 gk hD6 hrow6 f5
      go_wp2
      exact bodyPost_ret (results_row_tmp rfl _ _ w.heap.size 36 _ (0, 0) _ rfl hy6 Try.underlying36 rfl Try.sizePc) rfl ⟨rfl, W6, f6⟩

set_option maxRecDepth 100000 in
set_option maxHeartbeats 1600000 in
theorem wpass_no (w : World) (B bw : Nat) (next below : Int) (v : Value) (mb n : Nat) (ns : List Int) (ps : List Pc) (W : WS w B bw next below v mb n ns ps) (hp : ∀ p ∈ ps, p.n ≠ next) (h0 : 0 ≤ next) (hb : next ≤ 200000) :
    Calls Try.prog 16 #[.pointer (some ⟨bw, 0, none⟩)] w fun e w' => e = .returned (.tuple #[.agg #[.int .i64 0, .string ⟨#[]⟩], .bool false]) ∧ Below w.heap.size w w' := by
  have hbw := W.lt
  obtain ⟨D, hD, hM⟩ := W.map
  have hbx := (heap_alloc_old w (Obj.cells #[.int .i64 0, .string ⟨#[]⟩] 36) hbw).trans W.box
  have hbx2 := (heap_alloc_old (w.alloc (Obj.cells #[.int .i64 0, .string ⟨#[]⟩] 36)) (Obj.cells #[.int .i64 0, .string ⟨#[]⟩] 36) (by simp; omega)).trans hbx
  have hD1 := hD.alloc (Obj.cells #[.int .i64 0, .string ⟨#[]⟩] 36)
  have hD2 := hD1.alloc (Obj.cells #[.int .i64 0, .string ⟨#[]⟩] 36)
  have c0 := cell_of_row _ _ 0 _ _ _ hbx
  have c3 := cell_of_row _ _ 3 _ _ _ hbx
  have e0 := cell_of_row _ _ 0 _ _ _ hbx2
  have e3 := cell_of_row _ _ 3 _ _ _ hbx2
  simp only [List.getElem?_toArray, List.getElem?_cons_zero, List.getElem?_cons_succ] at c0 c3 e0 e3
  have hrun : (Instr.lookup 47 (.map (some mb)) (.int .i64 next) true).run Try.prog (w.alloc (Obj.cells #[.int .i64 0, .string ⟨#[]⟩] 36)).drew = .ok (.tuple #[.agg #[.int .i64 0, .string ⟨#[]⟩], .bool false]) (w.alloc (Obj.cells #[.int .i64 0, .string ⟨#[]⟩] 36)).drew := look_no hD1.drew hM hp h0 (by omega)
  have hrun2 : (Instr.lookup 47 (.map (some mb)) (.int .i64 next) true).run Try.prog ((w.alloc (Obj.cells #[.int .i64 0, .string ⟨#[]⟩] 36)).alloc (Obj.cells #[.int .i64 0, .string ⟨#[]⟩] 36)).drew = .ok (.tuple #[.agg #[.int .i64 0, .string ⟨#[]⟩], .bool false]) ((w.alloc (Obj.cells #[.int .i64 0, .string ⟨#[]⟩] 36)).alloc (Obj.cells #[.int .i64 0, .string ⟨#[]⟩] 36)).drew := look_no hD2.drew hM hp h0 (by omega)
  go_enter Try.func16, Try.ntmps16
  go_wp2_with fail
  go_region
  all_goals
    have hb3 : Below w.heap.size w ((w.alloc (Obj.cells #[.int .i64 0, .string ⟨#[]⟩] 36)).alloc (Obj.cells #[.int .i64 0, .string ⟨#[]⟩] 36)).drew := (below2 w _ _).drew
    have hr3 : ((w.alloc (Obj.cells #[.int .i64 0, .string ⟨#[]⟩] 36)).alloc (Obj.cells #[.int .i64 0, .string ⟨#[]⟩] 36)).drew.heap[w.heap.size]? = some (.cells #[.int .i64 0, .string ⟨#[]⟩] 36 (0, 0)) := old2 _ _ _
    have hs3 : ((w.alloc (Obj.cells #[.int .i64 0, .string ⟨#[]⟩] 36)).alloc (Obj.cells #[.int .i64 0, .string ⟨#[]⟩] 36)).drew.heap[w.heap.size + 1]? = some (.cells #[.int .i64 0, .string ⟨#[]⟩] 36 (0, 0)) := heap_alloc2_new _ _ _
    generalize ((w.alloc (Obj.cells #[.int .i64 0, .string ⟨#[]⟩] 36)).alloc (Obj.cells #[.int .i64 0, .string ⟨#[]⟩] 36)).drew = w3 at *
    clear hbx hbx2 hD1 hD2 c0 c3 e0 e3 hrun hrun2 W hD
    go_wp2_with (first
      | refine wpList_load_row rfl 36 _ rfl (w.heap.size + 1) rfl 36 #[.int .i64 0, .string ⟨#[]⟩] (0, 0) _ hs3 Try.underlying36 rfl Try.sizePc ?_
      | refine wpList_store_own2 rfl 36 _ _ rfl w.heap.size #[.int .i64 0, .string ⟨#[]⟩] rfl rfl 36 _ hr3 Try.sizePc rfl (by simp [Value.oneCell']) ?_)
    intro w6 hy6 hbg hsz hoth
    have hb6 := hb3.trans hbg
    clear hoth hbg hr3 hs3 hb3
    go_wp2
    exact bodyPost_ret (results_row_tmp rfl _ _ w.heap.size 36 _ (0, 0) _ rfl hy6 Try.underlying36 rfl Try.sizePc) rfl ⟨rfl, hb6⟩
end Go.Proofs.Ytgjebgdingahjaa
