/-
  The contract of impl.readLine. The listed variables read as they are laid.
-/
import Derived.Test.YtkoiccocgejmcaaDoorIDp6
namespace Go.Proofs.YtkoiccocgejmcaaDoor
open Go.RowKit

/-- The words of the phrases. -/
def wdN : Nat → List UInt8
  | 0 => dwL 1
  | 1 => dwL 2
  | 2 => dwL 3
  | 3 => dwL 4
  | 4 => dwL 5
  | 5 => [106, 117, 100, 103, 101]
  | 6 => [114, 111, 117, 110, 100]
  | 7 => [111, 117, 116]
  | 8 => [119, 104, 101, 114, 101]
  | _ => []
/-- None of the first words is there. -/
def NP (i : Nat) (l : List UInt8) : Prop := ∀ j, j < i → pre (wdN j) l = false
theorem NP.step {i : Nat} {l : List UInt8} (h : NP i l) (hp : pre (wdN i) l = false) : NP (i + 1) l := fun j hj => by
  rcases Nat.lt_or_ge j i with h1 | h1
  · exact h j h1
  · obtain rfl : j = i := by omega
    exact hp
theorem NP.end_ {l : List UInt8} (h : NP 9 l) : ∀ k : Int, 1 ≤ k ∧ k ≤ 5 → pre (dwL k) l = false := by
  intro k hk
  rcases dwL_cases hk with rfl | rfl | rfl | rfl | rfl
  · exact h 0 (by omega)
  · exact h 1 (by omega)
  · exact h 2 (by omega)
  · exact h 3 (by omega)
  · exact h 4 (by omega)

/-- What the reading of a line answers. -/
def RlAns (l : List UInt8) (a : Addr) (w : World) (e : Ending) : Prop :=
  ∃ (k x y : Int) (ev : Value) (ok : Bool), e = .returned (.tuple #[.agg #[.int .i64 k, .int .i64 x, .int .i64 y], ev]) ∧ ErrA 0 w a ok ev ∧ RlS l k x y ok

set_option maxRecDepth 100000 in
set_option maxHeartbeats 6400000 in
theorem readline_any (l : List UInt8) (B : Nat) (a : Addr) (w : World) (hE : EnvD B a w) (hl : l.length ≤ 1048576) :
    Calls Tryd.prog 20 #[.string (tx l)] w fun e w' => RlAns l a w' e ∧ Below w.heap.size w w' := by
  have hbA : Below w.heap.size w (w.alloc (Obj.cells #[.int .i64 0, .int .i64 0, .int .i64 0] 26)) := (Below.refl _ _).alloc (Nat.le_refl _) _
  have h2 : (w.alloc (Obj.cells #[.int .i64 0, .int .i64 0, .int .i64 0] 26)).heap[w.heap.size]? = some (.cells #[.int .i64 0, .int .i64 0, .int .i64 0] 26 (0, 0)) := heap_alloc_new _ _
  have P := phrases_any _ (hE.on hbA).2.2.2.1
  go_enter Tryd.func20, Tryd.ntmps20
  go_wp2_with fail
  refine P.mono ?_
  rintro e w1 ⟨g, rfl, hg, hgr, hb1⟩
  have hB1 := hbA.trans (hb1.mono hbA.size)
  have h21 := (hb1.block _ (Array.getElem?_eq_some_iff.1 h2).1).trans h2
  have ltg : g < w1.heap.size := (Array.getElem?_eq_some_iff.1 hgr).1
  have lt2 : w.heap.size < w1.heap.size := (Array.getElem?_eq_some_iff.1 h21).1
  clear P hbA h2 hb1 hg
  go_wp2_with fail
  go_loopw [13] (fun v13 wr => ∃ i : Nat, v13 = .int .i64 i ∧ i ≤ 9 ∧ Hid (NP i l) ∧ Below w1.heap.size w1 wr) (fun v13 _ => 9 - (intOf v13).toNat)
  case atStart => exact ⟨0, rfl, by omega, fun j hj => absurd hj (by omega), Below.refl _ _⟩
  case round =>
    obtain ⟨i, rfl, hi, HN, hbr⟩ := hrel
    have hB := hB1.trans (hbr.mono hB1.size)
    have hER := hE.on hB
    have hgr' := (hbr.block _ ltg).trans hgr
    have h2r := (hbr.block _ lt2).trans h21
    obtain rfl | rfl | rfl | rfl | rfl | rfl | rfl | rfl | rfl | rfl : i = 0 ∨ i = 1 ∨ i = 2 ∨ i = 3 ∨ i = 4 ∨ i = 5 ∨ i = 6 ∨ i = 7 ∨ i = 8 ∨ i = 9 := by omega
    · have d0 : wr.cell? ⟨g, 0, none⟩ = some (.string (tx (dwL 1))) := cell_of_row wr g 0 _ _ _ hgr'
      have d1 : wr.cell? ⟨g, 1, none⟩ = some (.int .i64 1) := cell_of_row wr g 1 _ _ _ hgr'
      have d2 : wr.cell? ⟨g, 2, none⟩ = some (fnV 31) := cell_of_row wr g 2 _ _ _ hgr'
      have C : ∀ w', Calls Tryd.prog 25 #[.string (tx l), .string (tx (dwL 1))] w' fun e w'' => e = .returned (.tuple #[.string (tx (if pre (dwL 1) l then l.drop 4 else l)), .bool (pre (dwL 1) l)]) ∧ w'' = w' := fun w' => cutpre_any l (dwL 1) w'
      have hld : (l.drop 4).length ≤ 1048576 := by rw [List.length_drop]; omega
      cases hp : pre (dwL 1) l with
      | false =>
        have HN' : Hid (NP (0 + 1) l) := HN.out.step hp
        rw [hp] at C
        simp only [Bool.false_eq_true, if_false] at C
        clear hgr' h2r hER
        go_wp2_with (refine wpList_store_own2 rfl 51 _ _ rfl wr.heap.size #[.string (tx (dwL 1)), .int .i64 1, fnV 31] rfl rfl 51 _ (heap_alloc_new _ _) Tryd.sizePhrase rfl (by simp [Value.oneCell']) ?_)
        intro w2 hx hb2 _ _
        have hbx : Below wr.heap.size wr w2 := ((Below.refl _ _).alloc (Nat.le_refl _) _).trans hb2
        have hbrx := hbr.trans (hbx.mono hbr.size)
        have x0 : w2.cell? ⟨wr.heap.size, 0, none⟩ = some (.string (tx (dwL 1))) := cell_of_row w2 wr.heap.size 0 _ _ _ hx
        clear hb2 hx hbx
        go_wp2_with fail
        refine (C _).mono ?_
        rintro e wc ⟨rfl, rfl⟩
        go_wp2_with fail
        go_roundw
        case rel => exact ⟨0 + 1, by go_num, by omega, HN', hbrx⟩
        case measure => simp [intOf]
      | true =>
        rw [hp] at C
        simp only [if_true] at C
        go_wp2_with (refine wpList_store_own2 rfl 51 _ _ rfl wr.heap.size #[.string (tx (dwL 1)), .int .i64 1, fnV 31] rfl rfl 51 _ (heap_alloc_new _ _) Tryd.sizePhrase rfl (by simp [Value.oneCell']) ?_)
        intro w2 hx hb2 _ _
        have hbx : Below wr.heap.size wr w2 := ((Below.refl _ _).alloc (Nat.le_refl _) _).trans hb2
        have hbrx := hbr.trans (hbx.mono hbr.size)
        have x0 : w2.cell? ⟨wr.heap.size, 0, none⟩ = some (.string (tx (dwL 1))) := cell_of_row w2 wr.heap.size 0 _ _ _ hx
        have x1 : w2.cell? ⟨wr.heap.size, 1, none⟩ = some (.int .i64 1) := cell_of_row w2 wr.heap.size 1 _ _ _ hx
        have x2 : w2.cell? ⟨wr.heap.size, 2, none⟩ = some (fnV 31) := cell_of_row w2 wr.heap.size 2 _ _ _ hx
        have h2x := (hbx.block _ (Array.getElem?_eq_some_iff.1 h2r).1).trans h2r
        have hBx := hB.trans (hbx.mono hB.size)
        have hEx := hER.on hbx
        have ltx : wr.heap.size < w2.heap.size := (Array.getElem?_eq_some_iff.1 hx).1
        clear hbr hbrx hbx hb2 hgr' h2r hER hB hx
        go_wp2_with fail
        refine (C _).mono ?_
        rintro e wc ⟨rfl, rfl⟩
        go_wp2_with fail
        refine (readtwo_any (l.drop 4) B a _ hEx hld).mono ?_
        rintro e wd ⟨⟨n, ev, hn, rfl, hEr⟩, hbd⟩
        have HR : Hid (RlS l 1 _ _ _) := rl_two (Or.inl rfl) hp hn
        generalize rnV ((l.drop 4).take n.toNat) = X at *
        generalize rnV ((l.drop 4).drop n.toNat) = Y at *
        generalize (rnB ((l.drop 4).take n.toNat) && rnB ((l.drop 4).drop n.toNat)) = ok at *
        have lt2c := (Array.getElem?_eq_some_iff.1 h2x).1
        have h2d := (hbd.block _ lt2c).trans h2x
        have y1 : wd.cell? ⟨wr.heap.size, 1, none⟩ = some (.int .i64 1) := (hbd.cell (p := ⟨wr.heap.size, 1, none⟩) ltx).trans x1
        have hBd := hBx.trans (hbd.mono hBx.size)
        clear hbd x0 x1 x2 hEx h2x hBx C d0 d1 d2
        go_wp2_with (refine wpList_store_own2 rfl 26 _ _ rfl w.heap.size #[.int .i64 1, .int .i64 X, .int .i64 Y] rfl rfl 26 _ h2d Tryd.sizeDeed rfl (by simp [Value.oneCell']) ?_)
        intro w9 h9 hb9 hs9 hk9
        have hB9 := hBd.trans hb9
        have hE9 : ErrA 0 w9 a ok ev := (hEr.keep (by omega) (fun j hj _ => hk9 j (by omega))).low
        clear hb9 hk9 h2d
        go_wp2_with fail
        exact bodyPost_ret (results_row_tmp rfl _ _ w.heap.size 26 _ (0, 0) _ rfl h9 Tryd.underlying26 rfl Tryd.sizeDeed) rfl ⟨⟨1, X, Y, ev, ok, rfl, hE9, HR.out⟩, hB9⟩
    · have d0 : wr.cell? ⟨g, 3, none⟩ = some (.string (tx (dwL 2))) := cell_of_row wr g 3 _ _ _ hgr'
      have d1 : wr.cell? ⟨g, 4, none⟩ = some (.int .i64 2) := cell_of_row wr g 4 _ _ _ hgr'
      have d2 : wr.cell? ⟨g, 5, none⟩ = some (fnV 31) := cell_of_row wr g 5 _ _ _ hgr'
      have C : ∀ w', Calls Tryd.prog 25 #[.string (tx l), .string (tx (dwL 2))] w' fun e w'' => e = .returned (.tuple #[.string (tx (if pre (dwL 2) l then l.drop 4 else l)), .bool (pre (dwL 2) l)]) ∧ w'' = w' := fun w' => cutpre_any l (dwL 2) w'
      have hld : (l.drop 4).length ≤ 1048576 := by rw [List.length_drop]; omega
      cases hp : pre (dwL 2) l with
      | false =>
        have HN' : Hid (NP (1 + 1) l) := HN.out.step hp
        rw [hp] at C
        simp only [Bool.false_eq_true, if_false] at C
        clear hgr' h2r hER
        go_wp2_with (refine wpList_store_own2 rfl 51 _ _ rfl wr.heap.size #[.string (tx (dwL 2)), .int .i64 2, fnV 31] rfl rfl 51 _ (heap_alloc_new _ _) Tryd.sizePhrase rfl (by simp [Value.oneCell']) ?_)
        intro w2 hx hb2 _ _
        have hbx : Below wr.heap.size wr w2 := ((Below.refl _ _).alloc (Nat.le_refl _) _).trans hb2
        have hbrx := hbr.trans (hbx.mono hbr.size)
        have x0 : w2.cell? ⟨wr.heap.size, 0, none⟩ = some (.string (tx (dwL 2))) := cell_of_row w2 wr.heap.size 0 _ _ _ hx
        clear hb2 hx hbx
        go_wp2_with fail
        refine (C _).mono ?_
        rintro e wc ⟨rfl, rfl⟩
        go_wp2_with fail
        go_roundw
        case rel => exact ⟨1 + 1, by go_num, by omega, HN', hbrx⟩
        case measure => simp [intOf]
      | true =>
        rw [hp] at C
        simp only [if_true] at C
        go_wp2_with (refine wpList_store_own2 rfl 51 _ _ rfl wr.heap.size #[.string (tx (dwL 2)), .int .i64 2, fnV 31] rfl rfl 51 _ (heap_alloc_new _ _) Tryd.sizePhrase rfl (by simp [Value.oneCell']) ?_)
        intro w2 hx hb2 _ _
        have hbx : Below wr.heap.size wr w2 := ((Below.refl _ _).alloc (Nat.le_refl _) _).trans hb2
        have hbrx := hbr.trans (hbx.mono hbr.size)
        have x0 : w2.cell? ⟨wr.heap.size, 0, none⟩ = some (.string (tx (dwL 2))) := cell_of_row w2 wr.heap.size 0 _ _ _ hx
        have x1 : w2.cell? ⟨wr.heap.size, 1, none⟩ = some (.int .i64 2) := cell_of_row w2 wr.heap.size 1 _ _ _ hx
        have x2 : w2.cell? ⟨wr.heap.size, 2, none⟩ = some (fnV 31) := cell_of_row w2 wr.heap.size 2 _ _ _ hx
        have h2x := (hbx.block _ (Array.getElem?_eq_some_iff.1 h2r).1).trans h2r
        have hBx := hB.trans (hbx.mono hB.size)
        have hEx := hER.on hbx
        have ltx : wr.heap.size < w2.heap.size := (Array.getElem?_eq_some_iff.1 hx).1
        clear hbr hbrx hbx hb2 hgr' h2r hER hB hx
        go_wp2_with fail
        refine (C _).mono ?_
        rintro e wc ⟨rfl, rfl⟩
        go_wp2_with fail
        refine (readtwo_any (l.drop 4) B a _ hEx hld).mono ?_
        rintro e wd ⟨⟨n, ev, hn, rfl, hEr⟩, hbd⟩
        have HR : Hid (RlS l 2 _ _ _) := rl_two (Or.inr rfl) hp hn
        generalize rnV ((l.drop 4).take n.toNat) = X at *
        generalize rnV ((l.drop 4).drop n.toNat) = Y at *
        generalize (rnB ((l.drop 4).take n.toNat) && rnB ((l.drop 4).drop n.toNat)) = ok at *
        have lt2c := (Array.getElem?_eq_some_iff.1 h2x).1
        have h2d := (hbd.block _ lt2c).trans h2x
        have y1 : wd.cell? ⟨wr.heap.size, 1, none⟩ = some (.int .i64 2) := (hbd.cell (p := ⟨wr.heap.size, 1, none⟩) ltx).trans x1
        have hBd := hBx.trans (hbd.mono hBx.size)
        clear hbd x0 x1 x2 hEx h2x hBx C d0 d1 d2
        go_wp2_with (refine wpList_store_own2 rfl 26 _ _ rfl w.heap.size #[.int .i64 2, .int .i64 X, .int .i64 Y] rfl rfl 26 _ h2d Tryd.sizeDeed rfl (by simp [Value.oneCell']) ?_)
        intro w9 h9 hb9 hs9 hk9
        have hB9 := hBd.trans hb9
        have hE9 : ErrA 0 w9 a ok ev := (hEr.keep (by omega) (fun j hj _ => hk9 j (by omega))).low
        clear hb9 hk9 h2d
        go_wp2_with fail
        exact bodyPost_ret (results_row_tmp rfl _ _ w.heap.size 26 _ (0, 0) _ rfl h9 Tryd.underlying26 rfl Tryd.sizeDeed) rfl ⟨⟨2, X, Y, ev, ok, rfl, hE9, HR.out⟩, hB9⟩
    · have d0 : wr.cell? ⟨g, 6, none⟩ = some (.string (tx (dwL 3))) := cell_of_row wr g 6 _ _ _ hgr'
      have d1 : wr.cell? ⟨g, 7, none⟩ = some (.int .i64 3) := cell_of_row wr g 7 _ _ _ hgr'
      have d2 : wr.cell? ⟨g, 8, none⟩ = some (fnV 32) := cell_of_row wr g 8 _ _ _ hgr'
      have C : ∀ w', Calls Tryd.prog 25 #[.string (tx l), .string (tx (dwL 3))] w' fun e w'' => e = .returned (.tuple #[.string (tx (if pre (dwL 3) l then l.drop 4 else l)), .bool (pre (dwL 3) l)]) ∧ w'' = w' := fun w' => cutpre_any l (dwL 3) w'
      have hld : (l.drop 4).length ≤ 1048576 := by rw [List.length_drop]; omega
      cases hp : pre (dwL 3) l with
      | false =>
        have HN' : Hid (NP (2 + 1) l) := HN.out.step hp
        rw [hp] at C
        simp only [Bool.false_eq_true, if_false] at C
        clear hgr' h2r hER
        go_wp2_with (refine wpList_store_own2 rfl 51 _ _ rfl wr.heap.size #[.string (tx (dwL 3)), .int .i64 3, fnV 32] rfl rfl 51 _ (heap_alloc_new _ _) Tryd.sizePhrase rfl (by simp [Value.oneCell']) ?_)
        intro w2 hx hb2 _ _
        have hbx : Below wr.heap.size wr w2 := ((Below.refl _ _).alloc (Nat.le_refl _) _).trans hb2
        have hbrx := hbr.trans (hbx.mono hbr.size)
        have x0 : w2.cell? ⟨wr.heap.size, 0, none⟩ = some (.string (tx (dwL 3))) := cell_of_row w2 wr.heap.size 0 _ _ _ hx
        clear hb2 hx hbx
        go_wp2_with fail
        refine (C _).mono ?_
        rintro e wc ⟨rfl, rfl⟩
        go_wp2_with fail
        go_roundw
        case rel => exact ⟨2 + 1, by go_num, by omega, HN', hbrx⟩
        case measure => simp [intOf]
      | true =>
        rw [hp] at C
        simp only [if_true] at C
        go_wp2_with (refine wpList_store_own2 rfl 51 _ _ rfl wr.heap.size #[.string (tx (dwL 3)), .int .i64 3, fnV 32] rfl rfl 51 _ (heap_alloc_new _ _) Tryd.sizePhrase rfl (by simp [Value.oneCell']) ?_)
        intro w2 hx hb2 _ _
        have hbx : Below wr.heap.size wr w2 := ((Below.refl _ _).alloc (Nat.le_refl _) _).trans hb2
        have hbrx := hbr.trans (hbx.mono hbr.size)
        have x0 : w2.cell? ⟨wr.heap.size, 0, none⟩ = some (.string (tx (dwL 3))) := cell_of_row w2 wr.heap.size 0 _ _ _ hx
        have x1 : w2.cell? ⟨wr.heap.size, 1, none⟩ = some (.int .i64 3) := cell_of_row w2 wr.heap.size 1 _ _ _ hx
        have x2 : w2.cell? ⟨wr.heap.size, 2, none⟩ = some (fnV 32) := cell_of_row w2 wr.heap.size 2 _ _ _ hx
        have h2x := (hbx.block _ (Array.getElem?_eq_some_iff.1 h2r).1).trans h2r
        have hBx := hB.trans (hbx.mono hB.size)
        have hEx := hER.on hbx
        have ltx : wr.heap.size < w2.heap.size := (Array.getElem?_eq_some_iff.1 hx).1
        clear hbr hbrx hbx hb2 hgr' h2r hER hB hx
        go_wp2_with fail
        refine (C _).mono ?_
        rintro e wc ⟨rfl, rfl⟩
        go_wp2_with fail
        refine (readone_any (l.drop 4) B a _ hEx hld).mono ?_
        rintro e wd ⟨⟨ev, rfl, hEr⟩, hbd⟩
        have HR : Hid (RlS l 3 (rnV (l.drop 4)) 0 (rnB (l.drop 4))) := rl_one (Or.inl rfl) hp
        generalize rnV (l.drop 4) = X at *
        generalize rnB (l.drop 4) = ok at *
        have lt2c := (Array.getElem?_eq_some_iff.1 h2x).1
        have h2d := (hbd.block _ lt2c).trans h2x
        have y1 : wd.cell? ⟨wr.heap.size, 1, none⟩ = some (.int .i64 3) := (hbd.cell (p := ⟨wr.heap.size, 1, none⟩) ltx).trans x1
        have hBd := hBx.trans (hbd.mono hBx.size)
        clear hbd x0 x1 x2 hEx h2x hBx C d0 d1 d2
        go_wp2_with (refine wpList_store_own2 rfl 26 _ _ rfl w.heap.size #[.int .i64 3, .int .i64 X, .int .i64 0] rfl rfl 26 _ h2d Tryd.sizeDeed rfl (by simp [Value.oneCell']) ?_)
        intro w9 h9 hb9 hs9 hk9
        have hB9 := hBd.trans hb9
        have hE9 : ErrA 0 w9 a ok ev := (hEr.keep (by omega) (fun j hj _ => hk9 j (by omega))).low
        clear hb9 hk9 h2d
        go_wp2_with fail
        exact bodyPost_ret (results_row_tmp rfl _ _ w.heap.size 26 _ (0, 0) _ rfl h9 Tryd.underlying26 rfl Tryd.sizeDeed) rfl ⟨⟨3, X, 0, ev, ok, rfl, hE9, HR.out⟩, hB9⟩
    · have d0 : wr.cell? ⟨g, 9, none⟩ = some (.string (tx (dwL 4))) := cell_of_row wr g 9 _ _ _ hgr'
      have d1 : wr.cell? ⟨g, 10, none⟩ = some (.int .i64 4) := cell_of_row wr g 10 _ _ _ hgr'
      have d2 : wr.cell? ⟨g, 11, none⟩ = some (fnV 32) := cell_of_row wr g 11 _ _ _ hgr'
      have C : ∀ w', Calls Tryd.prog 25 #[.string (tx l), .string (tx (dwL 4))] w' fun e w'' => e = .returned (.tuple #[.string (tx (if pre (dwL 4) l then l.drop 4 else l)), .bool (pre (dwL 4) l)]) ∧ w'' = w' := fun w' => cutpre_any l (dwL 4) w'
      have hld : (l.drop 4).length ≤ 1048576 := by rw [List.length_drop]; omega
      cases hp : pre (dwL 4) l with
      | false =>
        have HN' : Hid (NP (3 + 1) l) := HN.out.step hp
        rw [hp] at C
        simp only [Bool.false_eq_true, if_false] at C
        clear hgr' h2r hER
        go_wp2_with (refine wpList_store_own2 rfl 51 _ _ rfl wr.heap.size #[.string (tx (dwL 4)), .int .i64 4, fnV 32] rfl rfl 51 _ (heap_alloc_new _ _) Tryd.sizePhrase rfl (by simp [Value.oneCell']) ?_)
        intro w2 hx hb2 _ _
        have hbx : Below wr.heap.size wr w2 := ((Below.refl _ _).alloc (Nat.le_refl _) _).trans hb2
        have hbrx := hbr.trans (hbx.mono hbr.size)
        have x0 : w2.cell? ⟨wr.heap.size, 0, none⟩ = some (.string (tx (dwL 4))) := cell_of_row w2 wr.heap.size 0 _ _ _ hx
        clear hb2 hx hbx
        go_wp2_with fail
        refine (C _).mono ?_
        rintro e wc ⟨rfl, rfl⟩
        go_wp2_with fail
        go_roundw
        case rel => exact ⟨3 + 1, by go_num, by omega, HN', hbrx⟩
        case measure => simp [intOf]
      | true =>
        rw [hp] at C
        simp only [if_true] at C
        go_wp2_with (refine wpList_store_own2 rfl 51 _ _ rfl wr.heap.size #[.string (tx (dwL 4)), .int .i64 4, fnV 32] rfl rfl 51 _ (heap_alloc_new _ _) Tryd.sizePhrase rfl (by simp [Value.oneCell']) ?_)
        intro w2 hx hb2 _ _
        have hbx : Below wr.heap.size wr w2 := ((Below.refl _ _).alloc (Nat.le_refl _) _).trans hb2
        have hbrx := hbr.trans (hbx.mono hbr.size)
        have x0 : w2.cell? ⟨wr.heap.size, 0, none⟩ = some (.string (tx (dwL 4))) := cell_of_row w2 wr.heap.size 0 _ _ _ hx
        have x1 : w2.cell? ⟨wr.heap.size, 1, none⟩ = some (.int .i64 4) := cell_of_row w2 wr.heap.size 1 _ _ _ hx
        have x2 : w2.cell? ⟨wr.heap.size, 2, none⟩ = some (fnV 32) := cell_of_row w2 wr.heap.size 2 _ _ _ hx
        have h2x := (hbx.block _ (Array.getElem?_eq_some_iff.1 h2r).1).trans h2r
        have hBx := hB.trans (hbx.mono hB.size)
        have hEx := hER.on hbx
        have ltx : wr.heap.size < w2.heap.size := (Array.getElem?_eq_some_iff.1 hx).1
        clear hbr hbrx hbx hb2 hgr' h2r hER hB hx
        go_wp2_with fail
        refine (C _).mono ?_
        rintro e wc ⟨rfl, rfl⟩
        go_wp2_with fail
        refine (readone_any (l.drop 4) B a _ hEx hld).mono ?_
        rintro e wd ⟨⟨ev, rfl, hEr⟩, hbd⟩
        have HR : Hid (RlS l 4 (rnV (l.drop 4)) 0 (rnB (l.drop 4))) := rl_one (Or.inr (Or.inl rfl)) hp
        generalize rnV (l.drop 4) = X at *
        generalize rnB (l.drop 4) = ok at *
        have lt2c := (Array.getElem?_eq_some_iff.1 h2x).1
        have h2d := (hbd.block _ lt2c).trans h2x
        have y1 : wd.cell? ⟨wr.heap.size, 1, none⟩ = some (.int .i64 4) := (hbd.cell (p := ⟨wr.heap.size, 1, none⟩) ltx).trans x1
        have hBd := hBx.trans (hbd.mono hBx.size)
        clear hbd x0 x1 x2 hEx h2x hBx C d0 d1 d2
        go_wp2_with (refine wpList_store_own2 rfl 26 _ _ rfl w.heap.size #[.int .i64 4, .int .i64 X, .int .i64 0] rfl rfl 26 _ h2d Tryd.sizeDeed rfl (by simp [Value.oneCell']) ?_)
        intro w9 h9 hb9 hs9 hk9
        have hB9 := hBd.trans hb9
        have hE9 : ErrA 0 w9 a ok ev := (hEr.keep (by omega) (fun j hj _ => hk9 j (by omega))).low
        clear hb9 hk9 h2d
        go_wp2_with fail
        exact bodyPost_ret (results_row_tmp rfl _ _ w.heap.size 26 _ (0, 0) _ rfl h9 Tryd.underlying26 rfl Tryd.sizeDeed) rfl ⟨⟨4, X, 0, ev, ok, rfl, hE9, HR.out⟩, hB9⟩
    · have d0 : wr.cell? ⟨g, 12, none⟩ = some (.string (tx (dwL 5))) := cell_of_row wr g 12 _ _ _ hgr'
      have d1 : wr.cell? ⟨g, 13, none⟩ = some (.int .i64 5) := cell_of_row wr g 13 _ _ _ hgr'
      have d2 : wr.cell? ⟨g, 14, none⟩ = some (fnV 32) := cell_of_row wr g 14 _ _ _ hgr'
      have C : ∀ w', Calls Tryd.prog 25 #[.string (tx l), .string (tx (dwL 5))] w' fun e w'' => e = .returned (.tuple #[.string (tx (if pre (dwL 5) l then l.drop 4 else l)), .bool (pre (dwL 5) l)]) ∧ w'' = w' := fun w' => cutpre_any l (dwL 5) w'
      have hld : (l.drop 4).length ≤ 1048576 := by rw [List.length_drop]; omega
      cases hp : pre (dwL 5) l with
      | false =>
        have HN' : Hid (NP (4 + 1) l) := HN.out.step hp
        rw [hp] at C
        simp only [Bool.false_eq_true, if_false] at C
        clear hgr' h2r hER
        go_wp2_with (refine wpList_store_own2 rfl 51 _ _ rfl wr.heap.size #[.string (tx (dwL 5)), .int .i64 5, fnV 32] rfl rfl 51 _ (heap_alloc_new _ _) Tryd.sizePhrase rfl (by simp [Value.oneCell']) ?_)
        intro w2 hx hb2 _ _
        have hbx : Below wr.heap.size wr w2 := ((Below.refl _ _).alloc (Nat.le_refl _) _).trans hb2
        have hbrx := hbr.trans (hbx.mono hbr.size)
        have x0 : w2.cell? ⟨wr.heap.size, 0, none⟩ = some (.string (tx (dwL 5))) := cell_of_row w2 wr.heap.size 0 _ _ _ hx
        clear hb2 hx hbx
        go_wp2_with fail
        refine (C _).mono ?_
        rintro e wc ⟨rfl, rfl⟩
        go_wp2_with fail
        go_roundw
        case rel => exact ⟨4 + 1, by go_num, by omega, HN', hbrx⟩
        case measure => simp [intOf]
      | true =>
        rw [hp] at C
        simp only [if_true] at C
        go_wp2_with (refine wpList_store_own2 rfl 51 _ _ rfl wr.heap.size #[.string (tx (dwL 5)), .int .i64 5, fnV 32] rfl rfl 51 _ (heap_alloc_new _ _) Tryd.sizePhrase rfl (by simp [Value.oneCell']) ?_)
        intro w2 hx hb2 _ _
        have hbx : Below wr.heap.size wr w2 := ((Below.refl _ _).alloc (Nat.le_refl _) _).trans hb2
        have hbrx := hbr.trans (hbx.mono hbr.size)
        have x0 : w2.cell? ⟨wr.heap.size, 0, none⟩ = some (.string (tx (dwL 5))) := cell_of_row w2 wr.heap.size 0 _ _ _ hx
        have x1 : w2.cell? ⟨wr.heap.size, 1, none⟩ = some (.int .i64 5) := cell_of_row w2 wr.heap.size 1 _ _ _ hx
        have x2 : w2.cell? ⟨wr.heap.size, 2, none⟩ = some (fnV 32) := cell_of_row w2 wr.heap.size 2 _ _ _ hx
        have h2x := (hbx.block _ (Array.getElem?_eq_some_iff.1 h2r).1).trans h2r
        have hBx := hB.trans (hbx.mono hB.size)
        have hEx := hER.on hbx
        have ltx : wr.heap.size < w2.heap.size := (Array.getElem?_eq_some_iff.1 hx).1
        clear hbr hbrx hbx hb2 hgr' h2r hER hB hx
        go_wp2_with fail
        refine (C _).mono ?_
        rintro e wc ⟨rfl, rfl⟩
        go_wp2_with fail
        refine (readone_any (l.drop 4) B a _ hEx hld).mono ?_
        rintro e wd ⟨⟨ev, rfl, hEr⟩, hbd⟩
        have HR : Hid (RlS l 5 (rnV (l.drop 4)) 0 (rnB (l.drop 4))) := rl_one (Or.inr (Or.inr rfl)) hp
        generalize rnV (l.drop 4) = X at *
        generalize rnB (l.drop 4) = ok at *
        have lt2c := (Array.getElem?_eq_some_iff.1 h2x).1
        have h2d := (hbd.block _ lt2c).trans h2x
        have y1 : wd.cell? ⟨wr.heap.size, 1, none⟩ = some (.int .i64 5) := (hbd.cell (p := ⟨wr.heap.size, 1, none⟩) ltx).trans x1
        have hBd := hBx.trans (hbd.mono hBx.size)
        clear hbd x0 x1 x2 hEx h2x hBx C d0 d1 d2
        go_wp2_with (refine wpList_store_own2 rfl 26 _ _ rfl w.heap.size #[.int .i64 5, .int .i64 X, .int .i64 0] rfl rfl 26 _ h2d Tryd.sizeDeed rfl (by simp [Value.oneCell']) ?_)
        intro w9 h9 hb9 hs9 hk9
        have hB9 := hBd.trans hb9
        have hE9 : ErrA 0 w9 a ok ev := (hEr.keep (by omega) (fun j hj _ => hk9 j (by omega))).low
        clear hb9 hk9 h2d
        go_wp2_with fail
        exact bodyPost_ret (results_row_tmp rfl _ _ w.heap.size 26 _ (0, 0) _ rfl h9 Tryd.underlying26 rfl Tryd.sizeDeed) rfl ⟨⟨5, X, 0, ev, ok, rfl, hE9, HR.out⟩, hB9⟩
    · have d0 : wr.cell? ⟨g, 15, none⟩ = some (.string (tx ([106, 117, 100, 103, 101]))) := cell_of_row wr g 15 _ _ _ hgr'
      have d1 : wr.cell? ⟨g, 16, none⟩ = some (.int .i64 6) := cell_of_row wr g 16 _ _ _ hgr'
      have d2 : wr.cell? ⟨g, 17, none⟩ = some (fnV 33) := cell_of_row wr g 17 _ _ _ hgr'
      have C : ∀ w', Calls Tryd.prog 25 #[.string (tx l), .string (tx ([106, 117, 100, 103, 101]))] w' fun e w'' => e = .returned (.tuple #[.string (tx (if pre ([106, 117, 100, 103, 101]) l then l.drop 5 else l)), .bool (pre ([106, 117, 100, 103, 101]) l)]) ∧ w'' = w' := fun w' => cutpre_any l ([106, 117, 100, 103, 101]) w'
      have hld : (l.drop 5).length ≤ 1048576 := by rw [List.length_drop]; omega
      cases hp : pre ([106, 117, 100, 103, 101]) l with
      | false =>
        have HN' : Hid (NP (5 + 1) l) := HN.out.step hp
        rw [hp] at C
        simp only [Bool.false_eq_true, if_false] at C
        clear hgr' h2r hER
        go_wp2_with (refine wpList_store_own2 rfl 51 _ _ rfl wr.heap.size #[.string (tx ([106, 117, 100, 103, 101])), .int .i64 6, fnV 33] rfl rfl 51 _ (heap_alloc_new _ _) Tryd.sizePhrase rfl (by simp [Value.oneCell']) ?_)
        intro w2 hx hb2 _ _
        have hbx : Below wr.heap.size wr w2 := ((Below.refl _ _).alloc (Nat.le_refl _) _).trans hb2
        have hbrx := hbr.trans (hbx.mono hbr.size)
        have x0 : w2.cell? ⟨wr.heap.size, 0, none⟩ = some (.string (tx ([106, 117, 100, 103, 101]))) := cell_of_row w2 wr.heap.size 0 _ _ _ hx
        clear hb2 hx hbx
        go_wp2_with fail
        refine (C _).mono ?_
        rintro e wc ⟨rfl, rfl⟩
        go_wp2_with fail
        go_roundw
        case rel => exact ⟨5 + 1, by go_num, by omega, HN', hbrx⟩
        case measure => simp [intOf]
      | true =>
        rw [hp] at C
        simp only [if_true] at C
        go_wp2_with (refine wpList_store_own2 rfl 51 _ _ rfl wr.heap.size #[.string (tx ([106, 117, 100, 103, 101])), .int .i64 6, fnV 33] rfl rfl 51 _ (heap_alloc_new _ _) Tryd.sizePhrase rfl (by simp [Value.oneCell']) ?_)
        intro w2 hx hb2 _ _
        have hbx : Below wr.heap.size wr w2 := ((Below.refl _ _).alloc (Nat.le_refl _) _).trans hb2
        have hbrx := hbr.trans (hbx.mono hbr.size)
        have x0 : w2.cell? ⟨wr.heap.size, 0, none⟩ = some (.string (tx ([106, 117, 100, 103, 101]))) := cell_of_row w2 wr.heap.size 0 _ _ _ hx
        have x1 : w2.cell? ⟨wr.heap.size, 1, none⟩ = some (.int .i64 6) := cell_of_row w2 wr.heap.size 1 _ _ _ hx
        have x2 : w2.cell? ⟨wr.heap.size, 2, none⟩ = some (fnV 33) := cell_of_row w2 wr.heap.size 2 _ _ _ hx
        have h2x := (hbx.block _ (Array.getElem?_eq_some_iff.1 h2r).1).trans h2r
        have hBx := hB.trans (hbx.mono hB.size)
        have hEx := hER.on hbx
        have ltx : wr.heap.size < w2.heap.size := (Array.getElem?_eq_some_iff.1 hx).1
        clear hbr hbrx hbx hb2 hgr' h2r hER hB hx
        go_wp2_with fail
        refine (C _).mono ?_
        rintro e wc ⟨rfl, rfl⟩
        go_wp2_with fail
        refine (readnone_any (l.drop 5) B a _ hEx).mono ?_
        rintro e wd ⟨⟨ev, rfl, hEr⟩, hbd⟩
        have HR : Hid (RlS l 6 0 0 (l.drop 5 == [])) := rl_none (dk_beyond (by decide)) (no_word (by decide) hp)
        generalize (l.drop 5 == []) = ok at *
        have lt2c := (Array.getElem?_eq_some_iff.1 h2x).1
        have h2d := (hbd.block _ lt2c).trans h2x
        have y1 : wd.cell? ⟨wr.heap.size, 1, none⟩ = some (.int .i64 6) := (hbd.cell (p := ⟨wr.heap.size, 1, none⟩) ltx).trans x1
        have hBd := hBx.trans (hbd.mono hBx.size)
        clear hbd x0 x1 x2 hEx h2x hBx C d0 d1 d2
        go_wp2_with (refine wpList_store_own2 rfl 26 _ _ rfl w.heap.size #[.int .i64 6, .int .i64 0, .int .i64 0] rfl rfl 26 _ h2d Tryd.sizeDeed rfl (by simp [Value.oneCell']) ?_)
        intro w9 h9 hb9 hs9 hk9
        have hB9 := hBd.trans hb9
        have hE9 : ErrA 0 w9 a ok ev := (hEr.keep (by omega) (fun j hj _ => hk9 j (by omega))).low
        clear hb9 hk9 h2d
        go_wp2_with fail
        exact bodyPost_ret (results_row_tmp rfl _ _ w.heap.size 26 _ (0, 0) _ rfl h9 Tryd.underlying26 rfl Tryd.sizeDeed) rfl ⟨⟨6, 0, 0, ev, ok, rfl, hE9, HR.out⟩, hB9⟩
    · have d0 : wr.cell? ⟨g, 18, none⟩ = some (.string (tx ([114, 111, 117, 110, 100]))) := cell_of_row wr g 18 _ _ _ hgr'
      have d1 : wr.cell? ⟨g, 19, none⟩ = some (.int .i64 7) := cell_of_row wr g 19 _ _ _ hgr'
      have d2 : wr.cell? ⟨g, 20, none⟩ = some (fnV 33) := cell_of_row wr g 20 _ _ _ hgr'
      have C : ∀ w', Calls Tryd.prog 25 #[.string (tx l), .string (tx ([114, 111, 117, 110, 100]))] w' fun e w'' => e = .returned (.tuple #[.string (tx (if pre ([114, 111, 117, 110, 100]) l then l.drop 5 else l)), .bool (pre ([114, 111, 117, 110, 100]) l)]) ∧ w'' = w' := fun w' => cutpre_any l ([114, 111, 117, 110, 100]) w'
      have hld : (l.drop 5).length ≤ 1048576 := by rw [List.length_drop]; omega
      cases hp : pre ([114, 111, 117, 110, 100]) l with
      | false =>
        have HN' : Hid (NP (6 + 1) l) := HN.out.step hp
        rw [hp] at C
        simp only [Bool.false_eq_true, if_false] at C
        clear hgr' h2r hER
        go_wp2_with (refine wpList_store_own2 rfl 51 _ _ rfl wr.heap.size #[.string (tx ([114, 111, 117, 110, 100])), .int .i64 7, fnV 33] rfl rfl 51 _ (heap_alloc_new _ _) Tryd.sizePhrase rfl (by simp [Value.oneCell']) ?_)
        intro w2 hx hb2 _ _
        have hbx : Below wr.heap.size wr w2 := ((Below.refl _ _).alloc (Nat.le_refl _) _).trans hb2
        have hbrx := hbr.trans (hbx.mono hbr.size)
        have x0 : w2.cell? ⟨wr.heap.size, 0, none⟩ = some (.string (tx ([114, 111, 117, 110, 100]))) := cell_of_row w2 wr.heap.size 0 _ _ _ hx
        clear hb2 hx hbx
        go_wp2_with fail
        refine (C _).mono ?_
        rintro e wc ⟨rfl, rfl⟩
        go_wp2_with fail
        go_roundw
        case rel => exact ⟨6 + 1, by go_num, by omega, HN', hbrx⟩
        case measure => simp [intOf]
      | true =>
        rw [hp] at C
        simp only [if_true] at C
        go_wp2_with (refine wpList_store_own2 rfl 51 _ _ rfl wr.heap.size #[.string (tx ([114, 111, 117, 110, 100])), .int .i64 7, fnV 33] rfl rfl 51 _ (heap_alloc_new _ _) Tryd.sizePhrase rfl (by simp [Value.oneCell']) ?_)
        intro w2 hx hb2 _ _
        have hbx : Below wr.heap.size wr w2 := ((Below.refl _ _).alloc (Nat.le_refl _) _).trans hb2
        have hbrx := hbr.trans (hbx.mono hbr.size)
        have x0 : w2.cell? ⟨wr.heap.size, 0, none⟩ = some (.string (tx ([114, 111, 117, 110, 100]))) := cell_of_row w2 wr.heap.size 0 _ _ _ hx
        have x1 : w2.cell? ⟨wr.heap.size, 1, none⟩ = some (.int .i64 7) := cell_of_row w2 wr.heap.size 1 _ _ _ hx
        have x2 : w2.cell? ⟨wr.heap.size, 2, none⟩ = some (fnV 33) := cell_of_row w2 wr.heap.size 2 _ _ _ hx
        have h2x := (hbx.block _ (Array.getElem?_eq_some_iff.1 h2r).1).trans h2r
        have hBx := hB.trans (hbx.mono hB.size)
        have hEx := hER.on hbx
        have ltx : wr.heap.size < w2.heap.size := (Array.getElem?_eq_some_iff.1 hx).1
        clear hbr hbrx hbx hb2 hgr' h2r hER hB hx
        go_wp2_with fail
        refine (C _).mono ?_
        rintro e wc ⟨rfl, rfl⟩
        go_wp2_with fail
        refine (readnone_any (l.drop 5) B a _ hEx).mono ?_
        rintro e wd ⟨⟨ev, rfl, hEr⟩, hbd⟩
        have HR : Hid (RlS l 7 0 0 (l.drop 5 == [])) := rl_none (dk_beyond (by decide)) (no_word (by decide) hp)
        generalize (l.drop 5 == []) = ok at *
        have lt2c := (Array.getElem?_eq_some_iff.1 h2x).1
        have h2d := (hbd.block _ lt2c).trans h2x
        have y1 : wd.cell? ⟨wr.heap.size, 1, none⟩ = some (.int .i64 7) := (hbd.cell (p := ⟨wr.heap.size, 1, none⟩) ltx).trans x1
        have hBd := hBx.trans (hbd.mono hBx.size)
        clear hbd x0 x1 x2 hEx h2x hBx C d0 d1 d2
        go_wp2_with (refine wpList_store_own2 rfl 26 _ _ rfl w.heap.size #[.int .i64 7, .int .i64 0, .int .i64 0] rfl rfl 26 _ h2d Tryd.sizeDeed rfl (by simp [Value.oneCell']) ?_)
        intro w9 h9 hb9 hs9 hk9
        have hB9 := hBd.trans hb9
        have hE9 : ErrA 0 w9 a ok ev := (hEr.keep (by omega) (fun j hj _ => hk9 j (by omega))).low
        clear hb9 hk9 h2d
        go_wp2_with fail
        exact bodyPost_ret (results_row_tmp rfl _ _ w.heap.size 26 _ (0, 0) _ rfl h9 Tryd.underlying26 rfl Tryd.sizeDeed) rfl ⟨⟨7, 0, 0, ev, ok, rfl, hE9, HR.out⟩, hB9⟩
    · have d0 : wr.cell? ⟨g, 21, none⟩ = some (.string (tx ([111, 117, 116]))) := cell_of_row wr g 21 _ _ _ hgr'
      have d1 : wr.cell? ⟨g, 22, none⟩ = some (.int .i64 8) := cell_of_row wr g 22 _ _ _ hgr'
      have d2 : wr.cell? ⟨g, 23, none⟩ = some (fnV 32) := cell_of_row wr g 23 _ _ _ hgr'
      have C : ∀ w', Calls Tryd.prog 25 #[.string (tx l), .string (tx ([111, 117, 116]))] w' fun e w'' => e = .returned (.tuple #[.string (tx (if pre ([111, 117, 116]) l then l.drop 3 else l)), .bool (pre ([111, 117, 116]) l)]) ∧ w'' = w' := fun w' => cutpre_any l ([111, 117, 116]) w'
      have hld : (l.drop 3).length ≤ 1048576 := by rw [List.length_drop]; omega
      cases hp : pre ([111, 117, 116]) l with
      | false =>
        have HN' : Hid (NP (7 + 1) l) := HN.out.step hp
        rw [hp] at C
        simp only [Bool.false_eq_true, if_false] at C
        clear hgr' h2r hER
        go_wp2_with (refine wpList_store_own2 rfl 51 _ _ rfl wr.heap.size #[.string (tx ([111, 117, 116])), .int .i64 8, fnV 32] rfl rfl 51 _ (heap_alloc_new _ _) Tryd.sizePhrase rfl (by simp [Value.oneCell']) ?_)
        intro w2 hx hb2 _ _
        have hbx : Below wr.heap.size wr w2 := ((Below.refl _ _).alloc (Nat.le_refl _) _).trans hb2
        have hbrx := hbr.trans (hbx.mono hbr.size)
        have x0 : w2.cell? ⟨wr.heap.size, 0, none⟩ = some (.string (tx ([111, 117, 116]))) := cell_of_row w2 wr.heap.size 0 _ _ _ hx
        clear hb2 hx hbx
        go_wp2_with fail
        refine (C _).mono ?_
        rintro e wc ⟨rfl, rfl⟩
        go_wp2_with fail
        go_roundw
        case rel => exact ⟨7 + 1, by go_num, by omega, HN', hbrx⟩
        case measure => simp [intOf]
      | true =>
        rw [hp] at C
        simp only [if_true] at C
        go_wp2_with (refine wpList_store_own2 rfl 51 _ _ rfl wr.heap.size #[.string (tx ([111, 117, 116])), .int .i64 8, fnV 32] rfl rfl 51 _ (heap_alloc_new _ _) Tryd.sizePhrase rfl (by simp [Value.oneCell']) ?_)
        intro w2 hx hb2 _ _
        have hbx : Below wr.heap.size wr w2 := ((Below.refl _ _).alloc (Nat.le_refl _) _).trans hb2
        have hbrx := hbr.trans (hbx.mono hbr.size)
        have x0 : w2.cell? ⟨wr.heap.size, 0, none⟩ = some (.string (tx ([111, 117, 116]))) := cell_of_row w2 wr.heap.size 0 _ _ _ hx
        have x1 : w2.cell? ⟨wr.heap.size, 1, none⟩ = some (.int .i64 8) := cell_of_row w2 wr.heap.size 1 _ _ _ hx
        have x2 : w2.cell? ⟨wr.heap.size, 2, none⟩ = some (fnV 32) := cell_of_row w2 wr.heap.size 2 _ _ _ hx
        have h2x := (hbx.block _ (Array.getElem?_eq_some_iff.1 h2r).1).trans h2r
        have hBx := hB.trans (hbx.mono hB.size)
        have hEx := hER.on hbx
        have ltx : wr.heap.size < w2.heap.size := (Array.getElem?_eq_some_iff.1 hx).1
        clear hbr hbrx hbx hb2 hgr' h2r hER hB hx
        go_wp2_with fail
        refine (C _).mono ?_
        rintro e wc ⟨rfl, rfl⟩
        go_wp2_with fail
        refine (readone_any (l.drop 3) B a _ hEx hld).mono ?_
        rintro e wd ⟨⟨ev, rfl, hEr⟩, hbd⟩
        have HR : Hid (RlS l 8 (rnV (l.drop 3)) 0 (rnB (l.drop 3))) := rl_none (dk_beyond (by decide)) (no_word (by decide) hp)
        generalize rnV (l.drop 3) = X at *
        generalize rnB (l.drop 3) = ok at *
        have lt2c := (Array.getElem?_eq_some_iff.1 h2x).1
        have h2d := (hbd.block _ lt2c).trans h2x
        have y1 : wd.cell? ⟨wr.heap.size, 1, none⟩ = some (.int .i64 8) := (hbd.cell (p := ⟨wr.heap.size, 1, none⟩) ltx).trans x1
        have hBd := hBx.trans (hbd.mono hBx.size)
        clear hbd x0 x1 x2 hEx h2x hBx C d0 d1 d2
        go_wp2_with (refine wpList_store_own2 rfl 26 _ _ rfl w.heap.size #[.int .i64 8, .int .i64 X, .int .i64 0] rfl rfl 26 _ h2d Tryd.sizeDeed rfl (by simp [Value.oneCell']) ?_)
        intro w9 h9 hb9 hs9 hk9
        have hB9 := hBd.trans hb9
        have hE9 : ErrA 0 w9 a ok ev := (hEr.keep (by omega) (fun j hj _ => hk9 j (by omega))).low
        clear hb9 hk9 h2d
        go_wp2_with fail
        exact bodyPost_ret (results_row_tmp rfl _ _ w.heap.size 26 _ (0, 0) _ rfl h9 Tryd.underlying26 rfl Tryd.sizeDeed) rfl ⟨⟨8, X, 0, ev, ok, rfl, hE9, HR.out⟩, hB9⟩
    · have d0 : wr.cell? ⟨g, 24, none⟩ = some (.string (tx ([119, 104, 101, 114, 101]))) := cell_of_row wr g 24 _ _ _ hgr'
      have d1 : wr.cell? ⟨g, 25, none⟩ = some (.int .i64 9) := cell_of_row wr g 25 _ _ _ hgr'
      have d2 : wr.cell? ⟨g, 26, none⟩ = some (fnV 32) := cell_of_row wr g 26 _ _ _ hgr'
      have C : ∀ w', Calls Tryd.prog 25 #[.string (tx l), .string (tx ([119, 104, 101, 114, 101]))] w' fun e w'' => e = .returned (.tuple #[.string (tx (if pre ([119, 104, 101, 114, 101]) l then l.drop 5 else l)), .bool (pre ([119, 104, 101, 114, 101]) l)]) ∧ w'' = w' := fun w' => cutpre_any l ([119, 104, 101, 114, 101]) w'
      have hld : (l.drop 5).length ≤ 1048576 := by rw [List.length_drop]; omega
      cases hp : pre ([119, 104, 101, 114, 101]) l with
      | false =>
        have HN' : Hid (NP (8 + 1) l) := HN.out.step hp
        rw [hp] at C
        simp only [Bool.false_eq_true, if_false] at C
        clear hgr' h2r hER
        go_wp2_with (refine wpList_store_own2 rfl 51 _ _ rfl wr.heap.size #[.string (tx ([119, 104, 101, 114, 101])), .int .i64 9, fnV 32] rfl rfl 51 _ (heap_alloc_new _ _) Tryd.sizePhrase rfl (by simp [Value.oneCell']) ?_)
        intro w2 hx hb2 _ _
        have hbx : Below wr.heap.size wr w2 := ((Below.refl _ _).alloc (Nat.le_refl _) _).trans hb2
        have hbrx := hbr.trans (hbx.mono hbr.size)
        have x0 : w2.cell? ⟨wr.heap.size, 0, none⟩ = some (.string (tx ([119, 104, 101, 114, 101]))) := cell_of_row w2 wr.heap.size 0 _ _ _ hx
        clear hb2 hx hbx
        go_wp2_with fail
        refine (C _).mono ?_
        rintro e wc ⟨rfl, rfl⟩
        go_wp2_with fail
        go_roundw
        case rel => exact ⟨8 + 1, by go_num, by omega, HN', hbrx⟩
        case measure => simp [intOf]
      | true =>
        rw [hp] at C
        simp only [if_true] at C
        go_wp2_with (refine wpList_store_own2 rfl 51 _ _ rfl wr.heap.size #[.string (tx ([119, 104, 101, 114, 101])), .int .i64 9, fnV 32] rfl rfl 51 _ (heap_alloc_new _ _) Tryd.sizePhrase rfl (by simp [Value.oneCell']) ?_)
        intro w2 hx hb2 _ _
        have hbx : Below wr.heap.size wr w2 := ((Below.refl _ _).alloc (Nat.le_refl _) _).trans hb2
        have hbrx := hbr.trans (hbx.mono hbr.size)
        have x0 : w2.cell? ⟨wr.heap.size, 0, none⟩ = some (.string (tx ([119, 104, 101, 114, 101]))) := cell_of_row w2 wr.heap.size 0 _ _ _ hx
        have x1 : w2.cell? ⟨wr.heap.size, 1, none⟩ = some (.int .i64 9) := cell_of_row w2 wr.heap.size 1 _ _ _ hx
        have x2 : w2.cell? ⟨wr.heap.size, 2, none⟩ = some (fnV 32) := cell_of_row w2 wr.heap.size 2 _ _ _ hx
        have h2x := (hbx.block _ (Array.getElem?_eq_some_iff.1 h2r).1).trans h2r
        have hBx := hB.trans (hbx.mono hB.size)
        have hEx := hER.on hbx
        have ltx : wr.heap.size < w2.heap.size := (Array.getElem?_eq_some_iff.1 hx).1
        clear hbr hbrx hbx hb2 hgr' h2r hER hB hx
        go_wp2_with fail
        refine (C _).mono ?_
        rintro e wc ⟨rfl, rfl⟩
        go_wp2_with fail
        refine (readone_any (l.drop 5) B a _ hEx hld).mono ?_
        rintro e wd ⟨⟨ev, rfl, hEr⟩, hbd⟩
        have HR : Hid (RlS l 9 (rnV (l.drop 5)) 0 (rnB (l.drop 5))) := rl_none (dk_beyond (by decide)) (no_word (by decide) hp)
        generalize rnV (l.drop 5) = X at *
        generalize rnB (l.drop 5) = ok at *
        have lt2c := (Array.getElem?_eq_some_iff.1 h2x).1
        have h2d := (hbd.block _ lt2c).trans h2x
        have y1 : wd.cell? ⟨wr.heap.size, 1, none⟩ = some (.int .i64 9) := (hbd.cell (p := ⟨wr.heap.size, 1, none⟩) ltx).trans x1
        have hBd := hBx.trans (hbd.mono hBx.size)
        clear hbd x0 x1 x2 hEx h2x hBx C d0 d1 d2
        go_wp2_with (refine wpList_store_own2 rfl 26 _ _ rfl w.heap.size #[.int .i64 9, .int .i64 X, .int .i64 0] rfl rfl 26 _ h2d Tryd.sizeDeed rfl (by simp [Value.oneCell']) ?_)
        intro w9 h9 hb9 hs9 hk9
        have hB9 := hBd.trans hb9
        have hE9 : ErrA 0 w9 a ok ev := (hEr.keep (by omega) (fun j hj _ => hk9 j (by omega))).low
        clear hb9 hk9 h2d
        go_wp2_with fail
        exact bodyPost_ret (results_row_tmp rfl _ _ w.heap.size 26 _ (0, 0) _ rfl h9 Tryd.underlying26 rfl Tryd.sizeDeed) rfl ⟨⟨9, X, 0, ev, ok, rfl, hE9, HR.out⟩, hB9⟩
    · have hF : Hid (RlS l 0 0 0 false) := rl_none (by decide) (no_words HN.out.end_)
      have cg := hER.2.2.2.2.2
      have lg := hE.2.2.2.2.1
      have ng : 1 ≠ w.heap.size := by omega
      have ng' : w.heap.size ≠ 1 := by omega
      have e0 : wr.cell? ⟨w.heap.size, 0, none⟩ = some (.int .i64 0) := cell_of_row wr w.heap.size 0 _ _ _ h2r
      have e1 : wr.cell? ⟨w.heap.size, 1, none⟩ = some (.int .i64 0) := cell_of_row wr w.heap.size 1 _ _ _ h2r
      have e2 : wr.cell? ⟨w.heap.size, 2, none⟩ = some (.int .i64 0) := cell_of_row wr w.heap.size 2 _ _ _ h2r
      have f0 := frozen_of_row wr w.heap.size 0 _ _ h2r
      have f1 := frozen_of_row wr w.heap.size 1 _ _ h2r
      have f2 := frozen_of_row wr w.heap.size 2 _ _ h2r
      have hz : (((wr.setCell ⟨w.heap.size, 0, none⟩ (.int .i64 0)).setCell ⟨w.heap.size, 1, none⟩ (.int .i64 0)).setCell ⟨w.heap.size, 2, none⟩ (.int .i64 0)).drew.heap[w.heap.size]? = some (.cells #[.int .i64 0, .int .i64 0, .int .i64 0] 26 (0, 0)) := heap_setCell_same _ w.heap.size 2 _ _ (.int .i64 0) (heap_setCell_same _ w.heap.size 1 _ _ (.int .i64 0) (heap_setCell_same wr w.heap.size 0 _ _ (.int .i64 0) h2r))
      have hBz := (((hB.setCell (p := ⟨w.heap.size, 0, none⟩) (Nat.le_refl _) (.int .i64 0)).setCell (p := ⟨w.heap.size, 1, none⟩) (Nat.le_refl _) (.int .i64 0)).setCell (p := ⟨w.heap.size, 2, none⟩) (Nat.le_refl _) (.int .i64 0)).drew
      clear hbr hgr' hER
      go_wp2_with fail
      go_region
      all_goals
        go_wp2_with fail
        exact bodyPost_ret (results_row_tmp rfl _ _ w.heap.size 26 _ (0, 0) _ rfl hz Tryd.underlying26 rfl Tryd.sizeDeed) rfl ⟨⟨0, 0, 0, NL a, false, rfl, ErrA.no (Or.inl rfl), hF.out⟩, hBz⟩
end Go.Proofs.YtkoiccocgejmcaaDoor
