/-
  The contract of impl.DeedParse. The listed variables read as they are laid.
-/
import Derived.Test.YtkoiccocgejmcaaDoorIDp7
namespace Go.Proofs.YtkoiccocgejmcaaDoor
open Go.RowKit

set_option maxRecDepth 100000 in
set_option maxHeartbeats 3200000 in
theorem idp_any (l : List UInt8) (B : Nat) (a : Addr) (w : World) (hE : EnvD B a w) (hl : l.length ≤ 1048576) :
    Calls Tryd.prog 9 #[.string (tx l)] w fun e w' => ∃ (k x y : Int) (ok : Bool), e = .returned (.tuple #[.agg #[.int .i64 k, .int .i64 x, .int .i64 y], .bool ok]) ∧ PsAns l k x y ok ∧ Below w.heap.size w w' := by
  have hbA : Below w.heap.size w (w.alloc (Obj.cells #[.int .i64 0, .int .i64 0, .int .i64 0] 26)) := (Below.refl _ _).alloc (Nat.le_refl _) _
  have h2 : (w.alloc (Obj.cells #[.int .i64 0, .int .i64 0, .int .i64 0] 26)).heap[w.heap.size]? = some (.cells #[.int .i64 0, .int .i64 0, .int .i64 0] 26 (0, 0)) := heap_alloc_new _ _
  have R := readline_any l B a _ (hE.on hbA) hl
  go_enter Tryd.func9, Tryd.ntmps9
  go_wp2_with fail
  refine R.mono ?_
  rintro e w1 ⟨⟨k, x, y, ev, ok, rfl, hEr, hRS⟩, hb1⟩
  have hB1 := hbA.trans (hb1.mono hbA.size)
  have h21 := (hb1.block _ (Array.getElem?_eq_some_iff.1 h2).1).trans h2
  have HP : Hid _ := rl_ps hRS
  clear R hRS
  go_wp2_with (refine wpList_store_own2 rfl 26 _ _ rfl w1.heap.size #[.int .i64 k, .int .i64 x, .int .i64 y] rfl rfl 26 _ (heap_alloc_new _ _) Tryd.sizeDeed rfl (by simp [Value.oneCell']) ?_)
  intro w2 h4 hb2 _ _
  have hbx : Below w1.heap.size w1 w2 := ((Below.refl _ _).alloc (Nat.le_refl _) _).trans hb2
  have hB2 := hB1.trans (hbx.mono hB1.size)
  have h22 := (hbx.block _ (Array.getElem?_eq_some_iff.1 h21).1).trans h21
  have hEr2 := hEr.keep hbx.size (fun j _ hj => hbx.block j hj)
  have cg : w2.cell? ⟨1, 0, none⟩ = some (NL a) := (hE.on hB2).2.2.2.2.2
  have d0 : w2.cell? ⟨w1.heap.size, 0, none⟩ = some (.int .i64 k) := cell_of_row w2 w1.heap.size 0 _ _ _ h4
  have d1 : w2.cell? ⟨w1.heap.size, 1, none⟩ = some (.int .i64 x) := cell_of_row w2 w1.heap.size 1 _ _ _ h4
  have d2 : w2.cell? ⟨w1.heap.size, 2, none⟩ = some (.int .i64 y) := cell_of_row w2 w1.heap.size 2 _ _ _ h4
  have I := eis_any 0 a ok ev w2 hEr2
  have lt4 : w1.heap.size < w2.heap.size := (Array.getElem?_eq_some_iff.1 h4).1
  clear hEr hEr2 hb1 hb2 hbx h21 hB1 hbA h2
  cases ok with
  | false =>
    have HN : Hid (PsAns l 0 0 0 false) := HP.out
    clear HP
    simp only [Bool.not_false] at I
    go_wp2_with fail
    refine I.mono ?_
    rintro e w3 ⟨rfl, rfl⟩
    clear I
    go_wp2_with (refine wpList_store_own2 rfl 26 _ _ rfl w.heap.size #[.int .i64 0, .int .i64 0, .int .i64 0] rfl rfl 26 _ h22 Tryd.sizeDeed rfl (by simp [Value.oneCell']) ?_)
    intro w9 h9 hb9 _ _
    have hB9 := hB2.trans hb9
    clear hb9 h22
    go_wp2_with fail
    exact bodyPost_ret (results_row_tmp rfl _ _ w.heap.size 26 _ (0, 0) _ rfl h9 Tryd.underlying26 rfl Tryd.sizeDeed) rfl ⟨0, 0, 0, false, rfl, HN.out, hB9⟩
  | true =>
    have D := fun w => ideedok_any k x y w
    simp only [Bool.not_true] at I
    cases hd : dkB k x y with
    | false =>
      have HN : Hid (PsAns l 0 0 0 false) := by
        have := HP.out
        rw [hd] at this
        exact this
      rw [dok_dk, hd] at D
      clear HP
      go_wp2_with fail
      refine I.mono ?_
      rintro e w3 ⟨rfl, rfl⟩
      clear I
      go_wp2_with fail
      refine (D _).mono ?_
      rintro e w4 ⟨rfl, hb4⟩
      have h24 := (hb4.block _ (Array.getElem?_eq_some_iff.1 h22).1).trans h22
      have hB4 := hB2.trans (hb4.mono hB2.size)
      clear D hb4 h22
      go_wp2_with (refine wpList_store_own2 rfl 26 _ _ rfl w.heap.size #[.int .i64 0, .int .i64 0, .int .i64 0] rfl rfl 26 _ h24 Tryd.sizeDeed rfl (by simp [Value.oneCell']) ?_)
      intro w9 h9 hb9 _ _
      have hB9 := hB4.trans hb9
      clear hb9 h24
      go_wp2_with fail
      exact bodyPost_ret (results_row_tmp rfl _ _ w.heap.size 26 _ (0, 0) _ rfl h9 Tryd.underlying26 rfl Tryd.sizeDeed) rfl ⟨0, 0, 0, false, rfl, HN.out, hB9⟩
    | true =>
      have HN : Hid (PsAns l k x y true) := by
        have := HP.out
        rw [hd] at this
        exact this
      rw [dok_dk, hd] at D
      clear HP
      go_wp2_with fail
      refine I.mono ?_
      rintro e w3 ⟨rfl, rfl⟩
      clear I
      go_wp2_with fail
      refine (D _).mono ?_
      rintro e w4 ⟨rfl, hb4⟩
      have h24 := (hb4.block _ (Array.getElem?_eq_some_iff.1 h22).1).trans h22
      have h44 := (hb4.block _ lt4).trans h4
      have hB4 := hB2.trans (hb4.mono hB2.size)
      clear D hb4 h22 h4
      go_wp2_with (first
        | (refine wpList_load_row rfl 26 _ rfl w1.heap.size rfl 26 #[.int .i64 k, .int .i64 x, .int .i64 y] (0, 0) _ h44 Tryd.underlying26 rfl Tryd.sizeDeed ?_)
        | (refine wpList_store_own2 rfl 26 _ _ rfl w.heap.size #[.int .i64 k, .int .i64 x, .int .i64 y] rfl rfl 26 _ h24 Tryd.sizeDeed rfl (by simp [Value.oneCell']) ?_))
      intro w9 h9 hb9 _ _
      have hB9 := hB4.trans hb9
      clear hb9 h24
      go_wp2_with fail
      exact bodyPost_ret (results_row_tmp rfl _ _ w.heap.size 26 _ (0, 0) _ rfl h9 Tryd.underlying26 rfl Tryd.sizeDeed) rfl ⟨k, x, y, true, rfl, HN.out, hB9⟩
end Go.Proofs.YtkoiccocgejmcaaDoor
