/-
  Contract of impl.Same.
-/
import Derived.Test.YtmgjefkelohocaaDoorFirsts
namespace Go.Proofs.YtmgjefkelohocaaDoor
open Go.RowKit Go.Maps

theorem cls_prefix (b ks : List Nd) (fs : List Int) (i : Nat) (h : i < fs.length) : (cls b ks fs).2.getD i 0 = fs.getD i 0 := by
  induction b generalizing ks fs with
  | nil => rfl
  | cons y b ih =>
    simp only [cls]
    rw [ih _ _ (by simp; omega)]
    simp only [List.getD_eq_getElem?_getD]
    rw [List.getElem?_append_left h]
theorem firstsTo_prefix (xs : List Nd) (k i : Nat) (hk : k ≤ xs.length) (hi : i < k) : (firstsTo xs xs.length).getD i 0 = (firstsTo xs k).getD i 0 := by
  have hl := firstsTo_length xs k hk
  have e : firstsTo xs xs.length = (cls (xs.drop k) (keysTo xs k) (firstsTo xs k)).2 := by
    unfold firstsTo keysTo
    rw [List.take_length, ← cls_append, List.take_append_drop]
  rw [e]
  exact cls_prefix _ _ _ i (by omega)
theorem firstsTo_take (xs : List Nd) (n : Nat) : firstsTo (xs.take n) (xs.take n).length = firstsTo xs n := by
  unfold firstsTo
  rw [List.take_length]
theorem NRow.take {w : World} {ao : Option Addr} {cap : Nat} {xs : List Nd} (R : NRow w (.slice ao xs.length cap) xs) (n : Nat) (h : n ≤ xs.length) : NRow w (.slice ao (xs.take n).length cap) (xs.take n) := by
  obtain ⟨ao', cap', e', ⟨h1, h2⟩, hm, hz, hcell⟩ := R
  simp only [Value.slice.injEq, true_and] at e'
  obtain ⟨rfl, rfl⟩ := e'
  have hl : (xs.take n).length = n := by simp; omega
  refine ⟨ao, cap, rfl, ⟨by omega, h2⟩, by omega, fun x hx => hz x (List.mem_of_mem_take hx), fun hne => ?_⟩
  obtain ⟨g, o, e, hg, hc⟩ := hcell (by intro e; subst e; simp at hne)
  refine ⟨g, o, e, hg, fun i x hi => hc i x ?_⟩
  rw [List.getElem?_take] at hi
  split at hi
  · exact hi
  · cases hi

/-- What Same answers. -/
noncomputable def sameR (xs : List Nd) (a b : Int) : Bool := poolB xs && hasI xs a && hasI xs b && ((firstsTo xs xs.length).getD a.toNat 0 == (firstsTo xs xs.length).getD b.toNat 0)

/-- The same of two nodes of a pool that is right. -/
noncomputable def likeR (xs : List Nd) (a b : Int) : Bool := (firstsTo xs xs.length).getD a.toNat 0 == (firstsTo xs xs.length).getD b.toNat 0
theorem sameR_like {xs : List Nd} {a b : Int} (hp : poolB xs = true) (ha : hasI xs a = true) (hb : hasI xs b = true) : sameR xs a b = likeR xs a b := by
  unfold sameR likeR
  rw [hp, ha, hb]
  simp

set_option maxRecDepth 100000 in
set_option maxHeartbeats 1600000 in
theorem psame_any (v : Value) (xs : List Nd) (a b : Int) (w : World) (R : NRow w v xs) (hp : poolB xs = true) (hia : hasI xs a = true) (hib : hasI xs b = true) :
    Calls Tryd.prog 36 #[.agg #[v], .int .i64 a, .int .i64 b] w fun e w' => e = .returned (.bool (likeR xs a b)) ∧ Below w.heap.size w w' := by
  have R' := R
  obtain ⟨ao, cap, rfl, hcap, _⟩ := R'
  have hB0 : Below w.heap.size w (w.alloc (Obj.cells #[.slice ao xs.length cap] 26)) := (Below.refl _ _).alloc (Nat.le_refl _) _
  have hlen := poolB_len hp
  simp only [hasI, Bool.and_eq_true, decide_eq_true_eq] at hia hib
  obtain ⟨na, rfl⟩ := Int.eq_ofNat_of_zero_le hia.1
  obtain ⟨nb', rfl⟩ := Int.eq_ofNat_of_zero_le hib.1
  go_enter Tryd.func36, Tryd.ntmps36
  by_cases hmx : nb' ≤ na
  · have hmx' : (nb' : Int) ≤ na := by omega
    have hM : na < xs.length := by omega
    have F := firsts_any ao cap (xs.take (na + 1)) (w.alloc (Obj.cells #[.slice ao xs.length cap] 26)) ((R.below hB0).take (na + 1) (by omega)) (fun k x hk => poolB_at hp (by rw [List.getElem?_take] at hk; split at hk; exact hk; cases hk)) (by simp; omega)
    rw [firstsTo_take, show (xs.take (na + 1)).length = na + 1 by simp; omega] at F
    have hfl := firstsTo_length xs (na + 1) (by omega)
    have HS : Hid (likeR xs na nb' = ((firstsTo xs (na + 1)).getD na 0 == (firstsTo xs (na + 1)).getD nb' 0)) := by
      unfold Hid likeR
      rw [Int.toNat_natCast, Int.toNat_natCast, firstsTo_prefix xs (na + 1) na (by omega) (by omega), firstsTo_prefix xs (na + 1) nb' (by omega) (by omega)]
    go_wp2_with fail
    refine F.mono ?_
    rintro e w4 ⟨v4, rfl, ho4, hb4⟩
    have hB4 := hB0.trans (hb4.mono hB0.size)
    rcases ho4.2 with ⟨rfl, h0⟩ | ⟨B, capB, cur, rfl, hBb, _⟩
    · omega
    have ea := ho4.cellAt na (by omega)
    rw [iv_get _ _ (by omega)] at ea
    have eb := ho4.cellAt nb' (by omega)
    rw [iv_get _ _ (by omega)] at eb
    clear F hb4 ho4 hia hib
    generalize (firstsTo xs (na + 1)).getD na 0 = fa at ea HS
    generalize (firstsTo xs (na + 1)).getD nb' 0 = fb at eb HS
    go_wp2_with fail
    go_quiet (fail)
    go_wp2
    go_ret
    exact ⟨by rw [HS.out]; rfl, ⟨hB4.os, hB4.tape, hB4.output, hB4.size, hB4.block⟩⟩
  · have hmx' : (na : Int) < nb' := by omega
    have hM : nb' < xs.length := by omega
    have F := firsts_any ao cap (xs.take (nb' + 1)) (w.alloc (Obj.cells #[.slice ao xs.length cap] 26)) ((R.below hB0).take (nb' + 1) (by omega)) (fun k x hk => poolB_at hp (by rw [List.getElem?_take] at hk; split at hk; exact hk; cases hk)) (by simp; omega)
    rw [firstsTo_take, show (xs.take (nb' + 1)).length = nb' + 1 by simp; omega] at F
    have hfl := firstsTo_length xs (nb' + 1) (by omega)
    have HS : Hid (likeR xs na nb' = ((firstsTo xs (nb' + 1)).getD na 0 == (firstsTo xs (nb' + 1)).getD nb' 0)) := by
      unfold Hid likeR
      rw [Int.toNat_natCast, Int.toNat_natCast, firstsTo_prefix xs (nb' + 1) na (by omega) (by omega), firstsTo_prefix xs (nb' + 1) nb' (by omega) (by omega)]
    go_wp2_with fail
    refine F.mono ?_
    rintro e w4 ⟨v4, rfl, ho4, hb4⟩
    have hB4 := hB0.trans (hb4.mono hB0.size)
    rcases ho4.2 with ⟨rfl, h0⟩ | ⟨B, capB, cur, rfl, hBb, _⟩
    · omega
    have ea := ho4.cellAt na (by omega)
    rw [iv_get _ _ (by omega)] at ea
    have eb := ho4.cellAt nb' (by omega)
    rw [iv_get _ _ (by omega)] at eb
    clear F hb4 ho4 hia hib
    generalize (firstsTo xs (nb' + 1)).getD na 0 = fa at ea HS
    generalize (firstsTo xs (nb' + 1)).getD nb' 0 = fb at eb HS
    go_wp2_with fail
    go_quiet (fail)
    go_wp2
    go_ret
    exact ⟨by rw [HS.out]; rfl, ⟨hB4.os, hB4.tape, hB4.output, hB4.size, hB4.block⟩⟩

set_option maxRecDepth 100000 in
set_option maxHeartbeats 1600000 in
theorem isame_any (v : Value) (xs : List Nd) (a b : Int) (w : World) (R : NRow w v xs) :
    Calls Tryd.prog 10 #[.agg #[v], .int .i64 a, .int .i64 b] w fun e w' => e = .returned (.bool (sameR xs a b)) ∧ Below w.heap.size w w' := by
  have R' := R
  obtain ⟨ao, cap, rfl, hcap, _⟩ := R'
  go_enter Tryd.func10, Tryd.ntmps10
  go_wp2_with fail
  have hB0 : Below w.heap.size w (w.alloc (Obj.cells #[.slice ao xs.length cap] 26)) := (Below.refl _ _).alloc (Nat.le_refl _) _
  refine (ipool_any _ xs _ (R.below hB0)).mono ?_
  rintro e w1 ⟨rfl, hb1⟩
  have hx1 : w1.heap[w.heap.size]? = some (.cells #[.slice ao xs.length cap] 26 (0, 0)) := (hb1.block _ (by simp)).trans (heap_alloc_new _ _)
  have hB1 := hB0.trans (hb1.mono hB0.size)
  have hc1 : w1.cell? ⟨w.heap.size, 0, none⟩ = some (.slice ao xs.length cap) := by rw [cell_of_row w1 _ 0 _ _ _ hx1]; rfl
  have hsz1 := (Array.getElem?_eq_some_iff.1 hx1).1
  clear hB0 hb1 hx1
  cases hp : poolB xs with
  | false =>
    have HS : Hid (sameR xs a b = false) := by unfold Hid sameR; rw [hp]; simp
    go_wp2_with fail
    go_ret
    exact ⟨by rw [HS.out]; rfl, hB1⟩
  | true =>
    go_wp2_with fail
    refine (has_any _ xs _ _ (R.below hB1)).mono ?_
    rintro e w2 ⟨rfl, hb2⟩
    have hB2 := hB1.trans (hb2.mono hB1.size)
    have hc2 := (hb2.cell (p := ⟨w.heap.size, 0, none⟩) hsz1).trans hc1
    have hsz2 := Nat.lt_of_lt_of_le hsz1 hb2.size
    clear hB1 hc1 hb2 hsz1
    cases hia : hasI xs a with
    | false =>
      have HS : Hid (sameR xs a b = false) := by unfold Hid sameR; rw [hp, hia]; simp
      go_wp2_with fail
      go_ret
      exact ⟨by rw [HS.out]; rfl, hB2⟩
    | true =>
      go_wp2_with fail
      refine (has_any _ xs _ _ (R.below hB2)).mono ?_
      rintro e w3 ⟨rfl, hb3⟩
      have hB3 := hB2.trans (hb3.mono hB2.size)
      have hc3 := (hb3.cell (p := ⟨w.heap.size, 0, none⟩) hsz2).trans hc2
      clear hB2 hc2 hb3 hsz2
      cases hib : hasI xs b with
      | false =>
        have HS : Hid (sameR xs a b = false) := by unfold Hid sameR; rw [hp, hia, hib]; simp
        go_wp2_with fail
        go_ret
        exact ⟨by rw [HS.out]; rfl, hB3⟩
      | true =>
        go_wp2_with fail
        refine (psame_any _ xs a b _ (R.below hB3) hp hia hib).mono ?_
        rintro e w4 ⟨rfl, hb4⟩
        have HS : Hid (sameR xs a b = likeR xs a b) := sameR_like hp hia hib
        go_wp2_with fail
        go_ret
        exact ⟨by rw [HS.out]; rfl, hB3.trans (hb4.mono hB3.size)⟩
end Go.Proofs.YtmgjefkelohocaaDoor
