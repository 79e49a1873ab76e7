/-
  The contract of spec.DrawCompile: what is drawn are some pool and some numbers, in memory of its own. No condition beyond the code's length.
-/
import Derived.Test.YtkchakcebdenjaaGreatDraw8M
import Derived.Test.YtkchakcebdenjaaGreatDReadM
import Derived.Test.YtkchakcebdenjaaGreatDRtM
import Derived.Test.YtkchakcebdenjaaGreatSList2M
import Derived.Test.YtkchakcebdenjaaGreatPrRegM
namespace Go.Proofs.YtkchakcebdenjaaGreat
open Go.RowKit
def picks8 : List ByteArray := [⟨#[40]⟩, ⟨#[41]⟩, ⟨#[32, 105, 102, 32]⟩, ⟨#[100, 101, 102, 105, 110, 101, 32]⟩, ⟨#[32, 102, 110, 32]⟩, ⟨#[120]⟩, ⟨#[32, 113, 117, 111, 116, 101, 32]⟩, ⟨#[108, 101, 116, 32]⟩]
theorem picks8_size : ∀ s ∈ picks8, s.size ≤ 10 := by decide
theorem Tryz.sizePl : (Tryz.prog.info? 29).map (·.size) = some 1 := by kernel_rfl
def DP (w0 : World) (v : Value) (zs : List Int) (P b : Nat) (s7 : Value) (w : World) : Prop := ∃ (xs : List Nd) (l : List Int), PV w b (P + 1) xs ∧ xs.length ≤ 4000 ∧ (∀ x ∈ xs, x.s.size ≤ 40) ∧ l.length ≤ 500 ∧ w.ownsRow (P + 1) 3 1 s7 l.length (iv l) ∧ Cur w0 v zs w P
set_option maxRecDepth 100000 in
set_option maxHeartbeats 6400000 in
theorem dcompile_any (v : Value) (zs : List Int) (w : World) (R : Row w v zs) (hl : zs.length ≤ 1048576) :
    Calls Tryz.prog 18 #[v] w fun e w' => ∃ (v' vl : Value) (xs : List Nd) (l : List Int), e = .returned (.tuple #[.agg #[v'], vl]) ∧ xs.length ≤ 4000 ∧ (∀ x ∈ xs, x.s.size ≤ 40) ∧ l.length ≤ 500 ∧ w'.ownsRow w.heap.size 92 5 v' xs.length (ncs xs) ∧ w'.ownsRow w.heap.size 3 1 vl l.length (iv l) ∧ Below w.heap.size w w' := by
  have hB0 : Below w.heap.size w (w.alloc (.cells #[.slice none 0 0] 29)) := (Below.refl _ _).alloc (Nat.le_refl _) _
  have hr0 : (w.alloc (.cells #[.slice none 0 0] 29)).heap[w.heap.size]? = some (.cells #[.slice none 0 0] 29 (0, 0)) := heap_alloc_new _ _
  have R0 := R.below hB0
  go_enter Tryz.func18, Tryz.ntmps18
  go_wp2_with fail
  generalize hA : w.alloc (Obj.cells #[Value.slice none 0 0] 29) = wA at hB0 hr0 R0 ⊢
  have hA1 : wA.heap.size = w.heap.size + 1 := by rw [← hA]; simp
  have HA1 : Hid (wA.heap.size = w.heap.size + 1) := hA1
  clear hA hA1
  refine (new_any v zs wA R0 hl).mono ?_
  rintro e w1 ⟨rfl, c1, b1⟩
  have hlr : w.heap.size < wA.heap.size := by rw [HA1.out]; omega
  have hP1 := c1.lt
  have hlrA := hlr
  generalize wA.heap.size = P at c1 hlr hP1 HA1 ⊢
  clear b1
  go_wp2_with fail
  refine (dprog_any wA v zs P w1 c1).mono ?_
  rintro e w2 ⟨t, rfl, ht, _, c2, g2⟩
  clear c1 g2
  go_wp2_with fail
  refine (once_any wA v zs w2 P 3 c2 (by omega)).mono ?_
  rintro e w3 ⟨bb, rfl, c3, g3⟩
  clear c2 g3
  go_upto_if 16 with fail
  go_cut [5] from 6 (fun s5 wx => ∃ s : ByteArray, s5 = .string s ∧ s.size ≤ 1600 ∧ Cur wA v zs wx P)
  case first =>
    cases bb with
    | false =>
      go_wp2_with fail
      go_meet
      case rel => exact ⟨t, rfl, by omega, c3⟩
    | true =>
      have hP3 := c3.lt
      have hB1 : Below w3.heap.size w3 (w3.alloc (Obj.cells (picks8.map Value.string).toArray 9)) := (Below.refl _ _).alloc (Nat.le_refl _) _
      go_wp2_with fail
      refine (ddent_any wA v zs _ P w3.heap.size 8 picks8 t (c3.kept (hB1.mono (by omega))) (by omega) (by decide) (by decide) (fun i hi => strs_new w3 picks8 9 i hi) picks8_size (by omega)).mono ?_
      rintro e w4 ⟨s2, rfl, hs2, c4, g4⟩
      go_wp2_with fail
      go_meet
      case rel => exact ⟨s2, rfl, by omega, c4⟩
  case rest =>
    obtain ⟨s, rfl, hs, c4⟩ := hcut
    obtain ⟨w4, hw4⟩ : ∃ w4, w4 = wc := ⟨_, rfl⟩
    subst hw4
    clear c3 ht
    have hP4 := c4.lt
    go_wp2_with fail
    refine (sread_any _ [] s w4 (NRow.nil0 _) (by unfold maxLen; omega)).mono ?_
    rintro e w5 ⟨v5, l5, rfl, o5, i5, hb5⟩
    have hpk := readR_pool s
    have hlk := readR_len s
    obtain ⟨y1, y2⟩ := pool_s2 hpk
    have y3 : ∀ x ∈ (readR [] s).1, x.s.size ≤ 40 := fun x hx => by
      obtain ⟨i, hi⟩ := List.getElem?_of_mem hx
      have := ndAt_s hpk (i : Int)
      rw [ndAt_some hi] at this
      omega
    generalize readR [] s = rr at *
    obtain ⟨xs5, is5, how5, at5⟩ := rr
    dsimp only at o5 i5 y1 y3 hlk ⊢
    obtain ⟨a5, q5, rfl⟩ := own_form o5
    obtain ⟨a6, q6, rfl⟩ := own_form i5
    have hs5 := hb5.size
    have hbA : Below w5.heap.size w5 (w5.alloc (.cells #[.slice a5 xs5.length q5] 29)) := (Below.refl _ _).alloc (Nat.le_refl _) _
    have pv5 : PV (w5.alloc (.cells #[.slice a5 xs5.length q5] 29)) w5.heap.size (P + 1) xs5 := ⟨_, heap_alloc_new _ _, own_mono (o5.alloc _) (by omega)⟩
    have ii5 : (w5.alloc (.cells #[.slice a5 xs5.length q5] 29)).ownsRow (P + 1) 3 1 (.slice a6 is5.length q6) is5.length (iv is5) := own_mono (own_below i5 hbA) (by omega)
    have c5 := (c4.kept (hb5.mono (by omega))).kept (hbA.mono (by omega))
    have hbP : P < w5.heap.size := by omega
    clear o5 i5 hb5 hpk y2 c4 hbA
    go_wp2_with fail
    generalize w5.alloc (Obj.cells #[Value.slice a5 xs5.length q5] 29) = w6 at pv5 ii5 c5 ⊢
    generalize w5.heap.size = b at pv5 hbP ⊢
    refine (below_any wA v zs w6 P 25 c5 (by omega)).mono ?_
    rintro e w7 ⟨x, rfl, hx0, hx1, c7, g7⟩
    have pv7 := pv5.turn g7 hbP
    have ii7 : w7.ownsRow (P + 1) 3 1 (.slice a6 is5.length q6) is5.length (iv is5) := ii5.kept g7 (own_not ii5 (by omega))
    clear pv5 ii5 c5 g7 hs5 hx1
    by_cases hx00 : x = 0
    · subst hx00
      obtain ⟨v7, hb7, ho7⟩ := pv7
      have hbl := (Array.getElem?_eq_some_iff.1 hb7).1
      go_wp2_with fail
      refine (ddraw_any wA v zs w7 P c7).mono ?_
      rintro e w8 ⟨v8, xs8, rfl, hx8, hz8, o8, c8, g8⟩
      obtain ⟨a8, q8, rfl⟩ := own_form o8
      have hb8 := (g8.block b hbl (by simp; omega)).trans hb7
      go_wp2_with (refine wpList_store_own2 rfl 29 _ _ rfl b #[.slice a8 xs8.length q8] rfl rfl 29 #[v7] hb8 Tryz.sizePl rfl (by simp [Value.oneCell']) ?_)
      intro w9 hh9 hbb9 hs9 hoth9
      have pv9 : PV w9 b (P + 1) xs8 := ⟨_, hh9, own_mono (own_other o8 (own_ne o8 hb8 (by decide)) hoth9) (by omega)⟩
      have c9 := c8.kept (hbb9.mono (by omega))
      have k9 : w9.cell? ⟨b, 0, none⟩ = some (.slice a8 xs8.length q8) := by rw [cell_of_row w9 b 0 _ _ _ hh9]; rfl
      clear o8 c8 g8 hb8 hh9 hbb9 hoth9 ii7 c7 hb7 ho7
      go_wp2_with fail
      refine (ddrawat_any wA v zs w9 P a8 xs8.length q8 c9 (by omega)).mono ?_
      rintro e w10 ⟨z, rfl, _, _, c10, g10⟩
      have pv10 := pv9.turn g10 hbP
      have hP10 := c10.lt
      have hbN : Below w10.heap.size w10 (w10.alloc (Obj.cells #[.int .i64 z] 3)) := (Below.refl _ _).alloc (Nat.le_refl _) _
      have pv11 := pv10.below hbN
      have c11 := c10.kept (hbN.mono (by omega))
      have ii11 : (w10.alloc (Obj.cells #[.int .i64 z] 3)).ownsRow (P + 1) 3 1 (.slice (some ⟨w10.heap.size, 0, none⟩) 1 1) ([z] : List Int).length (iv [z]) := own_lit w10 (.int .i64 z) 3 (P + 1) (by omega)
      clear pv9 c9 k9 g10 pv10 c10 hbN
      obtain ⟨v9, hb9, ho9⟩ := pv11
      obtain ⟨a9, q9, rfl⟩ := own_form ho9
      have hc9 := cell_of_row _ b 0 _ _ _ hb9
      have hc9' : (w10.alloc (Obj.cells #[.int .i64 z] 3)).cell? ⟨b, 0, none⟩ = some (.slice a9 (xs8).length q9) := hc9
      have hr9 := (c11.2.1.block w.heap.size hlrA).trans hr0
      have hd9 : (w10.alloc (Obj.cells #[.int .i64 z] 3)).cell? ⟨w.heap.size, 0, none⟩ = some (.slice none 0 0) := cell_of_row _ _ 0 _ _ _ hr9
      have hf9 : (w10.alloc (Obj.cells #[.int .i64 z] 3)).frozen? ⟨w.heap.size, 0, none⟩ = false := frozen_of_row _ _ 0 _ _ hr9
      have hBB : Below w.heap.size w (w10.alloc (Obj.cells #[.int .i64 z] 3)) := hB0.trans (c11.2.1.mono hB0.size)
      obtain ⟨p1, p2, p3⟩ := put_pool hr9 ho9 hBB (by omega) (Nat.le_refl _)
      have p4 := ownsRow_setCell_below ii11 (a := ⟨w.heap.size, 0, none⟩) (by simp; omega) (.slice a9 (xs8).length q9)
      by_cases hn1 : how5 = 0
      · have hne : (how5 != 0) = false := by simp [hn1]
        go_wp2_with fail
        exact bodyPost_ret (results_row_tmp rfl _ _ w.heap.size 29 _ (0, 0) _ rfl p1 Tryz.underlying29 rfl Tryz.sizePl) rfl ⟨_, _, xs8, [z], rfl, by omega, hz8, by simp, p2, own_mono p4 (by omega), p3⟩
      · have hne : (how5 != 0) = true := by simpa using hn1
        go_wp2_with fail
        exact bodyPost_ret (results_row_tmp rfl _ _ w.heap.size 29 _ (0, 0) _ rfl p1 Tryz.underlying29 rfl Tryz.sizePl) rfl ⟨_, _, xs8, [z], rfl, by omega, hz8, by simp, p2, own_mono p4 (by omega), p3⟩
    by_cases hx01 : x = 1
    · subst hx01
      obtain ⟨i0, hi, hz0, hz1, hz2⟩ := info_parts Tryz.infoI2
      have pv7' := pv7
      obtain ⟨v7, hb7, ho7⟩ := pv7'
      obtain ⟨a7, q7, rfl⟩ := own_form ho7
      have k7 : w7.cell? ⟨b, 0, none⟩ = some (.slice a7 xs5.length q7) := by rw [cell_of_row w7 b 0 _ _ _ hb7]; rfl
      clear hb7 ho7
      go_wp2_with fail
      refine (ddrawat_any wA v zs w7 P a7 xs5.length q7 c7 (by omega)).mono ?_
      rintro e w8 ⟨z, rfl, _, _, c8, g8⟩
      have pv8 := pv7.turn g8 hbP
      have ii8 := ii7.kept g8 (own_not ii7 (by omega))
      have hP8 := c8.lt
      have hbN : Below w8.heap.size w8 (w8.alloc (Obj.cells #[.int .i64 z] 3)) := (Below.refl _ _).alloc (Nat.le_refl _) _
      have pvN := pv8.below hbN
      have cN := c8.kept (hbN.mono (by omega))
      have iiN := own_below ii8 hbN
      clear pv7 ii7 c7 g8 k7
      go_wp2_with (at_builtin; refine wpList_append_own _ rfl _ _ 25 rfl (P + 1) 3 i0 (.int .i64 0) 1 8 Tryz.underlying25 hi hz0 hz1 hz2 rfl (by decide) _ _ _ rfl (ii8.alloc _) ⟨_, 0, none⟩ 1 1 [.int .i64 z] rfl rfl (cell_one_new _ _ _) (fun u hu => by simp at hu; subst hu; rfl) (by unfold maxLen; omega) (by omega) (by simp; omega) ?_)
      intro v9 w9 hown hgrow _
      obtain ⟨aL, qL, rfl⟩ := own_form hown
      have iiE : w9.ownsRow (P + 1) 3 1 (.slice aL (is5.length + 1) qL) (is5 ++ [z]).length (iv (is5 ++ [z])) := by
        rw [iv_append, List.length_append]
        exact hown
      have cE := cN.kept ((Below.refl (P + 1) _).grown hgrow (by simp; omega) (fun q hq => (iiN.lt q hq).1))
      have pvE : PV w9 b (P + 1) xs5 := by
        obtain ⟨vN, hbN', hoN⟩ := pvN
        exact ⟨vN, (hgrow.block b (Array.getElem?_eq_some_iff.1 hbN').1 (fun e => own_ne iiN hbN' (by decide) e.symm)).trans hbN', hoN.kept hgrow (own_apart hoN iiN (by decide))⟩
      clear pvN cN iiN ii8 c8 pv8 hbN hown hgrow
      obtain ⟨v9, hb9, ho9⟩ := pvE
      obtain ⟨a9, q9, rfl⟩ := own_form ho9
      have hc9 := cell_of_row _ b 0 _ _ _ hb9
      have hc9' : (w9).cell? ⟨b, 0, none⟩ = some (.slice a9 (xs5).length q9) := hc9
      have hr9 := (cE.2.1.block w.heap.size hlrA).trans hr0
      have hd9 : (w9).cell? ⟨w.heap.size, 0, none⟩ = some (.slice none 0 0) := cell_of_row _ _ 0 _ _ _ hr9
      have hf9 : (w9).frozen? ⟨w.heap.size, 0, none⟩ = false := frozen_of_row _ _ 0 _ _ hr9
      have hBB : Below w.heap.size w (w9) := hB0.trans (cE.2.1.mono hB0.size)
      obtain ⟨p1, p2, p3⟩ := put_pool hr9 ho9 hBB (by omega) (Nat.le_refl _)
      have p4 := ownsRow_setCell_below iiE (a := ⟨w.heap.size, 0, none⟩) (by simp; omega) (.slice a9 (xs5).length q9)
      by_cases hn1 : how5 = 0
      · have hne : (how5 != 0) = false := by simp [hn1]
        go_wp2_with fail
        exact bodyPost_ret (results_row_tmp rfl _ _ w.heap.size 29 _ (0, 0) _ rfl p1 Tryz.underlying29 rfl Tryz.sizePl) rfl ⟨_, _, xs5, is5 ++ [z], rfl, by omega, y3, by simp; omega, p2, own_mono p4 (by omega), p3⟩
      · have hne : (how5 != 0) = true := by simpa using hn1
        go_wp2_with fail
        exact bodyPost_ret (results_row_tmp rfl _ _ w.heap.size 29 _ (0, 0) _ rfl p1 Tryz.underlying29 rfl Tryz.sizePl) rfl ⟨_, _, xs5, is5 ++ [z], rfl, by omega, y3, by simp; omega, p2, own_mono p4 (by omega), p3⟩
    by_cases hx02 : x = 2
    · subst hx02
      obtain ⟨v7, hb7, ho7⟩ := pv7
      have hbl := (Array.getElem?_eq_some_iff.1 hb7).1
      have hbN : Below w7.heap.size w7 (w7.alloc (Obj.cells #[.int .i64 4, .int .i64 0, .string ⟨#[102]⟩, .int .i64 0, .int .i64 0, .int .i64 1, .int .i64 0, .string ⟨#[]⟩, .int .i64 0, .int .i64 0, .int .i64 5, .int .i64 0, .string ⟨#[]⟩, .int .i64 0, .int .i64 1] 92)) := (Below.refl _ _).alloc (Nat.le_refl _) _
      have hbM := (hbN.block b hbl).trans hb7
      have hP7 := c7.lt
      have oN : (w7.alloc (Obj.cells #[.int .i64 4, .int .i64 0, .string ⟨#[102]⟩, .int .i64 0, .int .i64 0, .int .i64 1, .int .i64 0, .string ⟨#[]⟩, .int .i64 0, .int .i64 0, .int .i64 5, .int .i64 0, .string ⟨#[]⟩, .int .i64 0, .int .i64 1] 92)).ownsRow (P + 1) 92 5 (.slice (some ⟨w7.heap.size, 0, none⟩) 3 3) 3 (ncs [⟨4, 0, ⟨#[102]⟩, 0, 0⟩, ⟨1, 0, ⟨#[]⟩, 0, 0⟩, ⟨5, 0, ⟨#[]⟩, 0, 1⟩]) := ⟨rfl, .inr ⟨w7.heap.size, 3, _, rfl, by omega, heap_alloc_new _ _, Nat.le_refl _, by unfold maxLen; omega, rfl, rfl⟩⟩
      have cN := c7.kept (hbN.mono (by omega))
      clear ii7 ho7 c7 hbN
      go_wp2_with (refine wpList_store_own2 rfl 29 _ _ rfl b #[.slice (some ⟨w7.heap.size, 0, none⟩) 3 3] rfl rfl 29 #[v7] hbM Tryz.sizePl rfl (by simp [Value.oneCell']) ?_)
      intro w9 hh9 hbb9 hs9 hoth9
      have pv9 : PV w9 b (P + 1) [⟨4, 0, ⟨#[102]⟩, 0, 0⟩, ⟨1, 0, ⟨#[]⟩, 0, 0⟩, ⟨5, 0, ⟨#[]⟩, 0, 1⟩] := ⟨_, hh9, own_other oN (own_ne oN hbM (by decide)) hoth9⟩
      have c9 := cN.kept (hbb9.mono (by omega))
      clear oN cN hh9 hbb9 hoth9 hbM hb7 hs9
      go_wp2_with fail
      go_loopw [10] (fun i wr => ∃ (k : Nat) (xs : List Nd), 2 ≤ k ∧ k ≤ 30 ∧ i = .int .i64 k ∧ xs.length = 2 * k - 1 ∧ (∀ x ∈ xs, x.s.size ≤ 40) ∧ PV wr b (P + 1) xs ∧ Cur wA v zs wr P) (fun i _ => 30 - (intOf i).toNat)
      case atStart => exact ⟨2, _, by omega, by omega, rfl, rfl, by decide, pv9, c9⟩
      case round =>
        clear pv9 c9
        obtain ⟨k, xs, hk2, hk, rfl, hxl0, hz, pvr, cr⟩ := hrel
        have hxl : Hid (xs.length = 2 * k - 1) := hxl0
        have hxb : xs.length ≤ 100 := by omega
        clear hxl0
        obtain ⟨vr, hbr, hor⟩ := pvr
        obtain ⟨ar, qr, rfl⟩ := own_form hor
        have hbl9 := (Array.getElem?_eq_some_iff.1 hbr).1
        by_cases hlt : k < 30
        · have hlt' : (k : Int) < 30 := by omega
          go_wp2_with fail
          refine (sadd_any b (P + 1) ar qr xs ⟨5, 0, ⟨#[]⟩, k, 1⟩ _ hbr hor (by omega) (by omega)).mono ?_
          rintro e wA2 ⟨v2, rfl, hb2, ho2, hB2⟩
          obtain ⟨a2, q2, rfl⟩ := own_form ho2
          have cr2 := cr.kept hB2
          have kc : wA2.cell? ⟨b, 0, none⟩ = some (.slice a2 (xs ++ [(⟨5, 0, ⟨#[]⟩, k, 1⟩ : Nd)]).length q2) := by rw [cell_of_row wA2 b 0 _ _ _ hb2]; rfl
          have hlen2 : Hid ((xs ++ [(⟨5, 0, ⟨#[]⟩, k, 1⟩ : Nd)]).length = 2 * k) := by have := hxl.out; unfold Hid; simp; omega
          have hyb : (xs ++ [(⟨5, 0, ⟨#[]⟩, k, 1⟩ : Nd)]).length ≤ 101 := by simp; omega
          have hz2 : ∀ x ∈ xs ++ [(⟨5, 0, ⟨#[]⟩, k, 1⟩ : Nd)], x.s.size ≤ 40 := fun x hx => by
            rcases List.mem_append.1 hx with h | h
            · exact hz x h
            · rw [List.mem_singleton] at h; subst h; show ByteArray.size ⟨#[]⟩ ≤ 40; decide
          clear cr hB2 hbr hor
          generalize xs ++ [(⟨5, 0, ⟨#[]⟩, k, 1⟩ : Nd)] = ys at *
          go_wp2_with fail
          refine (sadd_any b (P + 1) a2 q2 ys ⟨5, 0, ⟨#[]⟩, k, (ys.length : Int) - 1⟩ _ hb2 ho2 (by omega) (by omega)).mono ?_
          rintro e wA3 ⟨v3, rfl, hb3, ho3, hB3⟩
          have cr3 := cr2.kept hB3
          go_wp2_with fail
          go_roundw
          case rel => exact ⟨k + 1, ys ++ [(⟨5, 0, ⟨#[]⟩, k, (ys.length : Int) - 1⟩ : Nd)], by omega, by omega, by go_num, by have := hlen2.out; simp; omega, fun x hx => by
            rcases List.mem_append.1 hx with h | h
            · exact hz2 x h
            · rw [List.mem_singleton] at h; subst h; show ByteArray.size ⟨#[]⟩ ≤ 40; decide, ⟨v3, hb3, ho3⟩, cr3⟩
          case measure => simp [intOf]; omega
        · have hlt' : ¬ (k : Int) < 30 := by omega
          have kc : wr.cell? ⟨b, 0, none⟩ = some (.slice ar xs.length qr) := by rw [cell_of_row wr b 0 _ _ _ hbr]; rfl
          obtain ⟨z, hzz⟩ : ∃ z : Int, (xs.length : Int) - 1 = z := ⟨_, rfl⟩
          have hPr := cr.lt
          have hbE : Below wr.heap.size wr (wr.alloc (Obj.cells #[.int .i64 z] 3)) := (Below.refl _ _).alloc (Nat.le_refl _) _
          have pvE : PV (wr.alloc (Obj.cells #[.int .i64 z] 3)) b (P + 1) xs := PV.below ⟨_, hbr, hor⟩ hbE
          have cE := cr.kept (hbE.mono (by omega))
          have iiE : (wr.alloc (Obj.cells #[.int .i64 z] 3)).ownsRow (P + 1) 3 1 (.slice (some ⟨wr.heap.size, 0, none⟩) 1 1) ([z] : List Int).length (iv [z]) := own_lit wr (.int .i64 z) 3 (P + 1) (by omega)
          clear hbr hor cr hbE
          obtain ⟨v9, hb9, ho9⟩ := pvE
          obtain ⟨a9, q9, rfl⟩ := own_form ho9
          have hc9 := cell_of_row _ b 0 _ _ _ hb9
          have hc9' : ((wr.alloc (Obj.cells #[.int .i64 z] 3))).cell? ⟨b, 0, none⟩ = some (.slice a9 (xs).length q9) := hc9
          have hr9 := (cE.2.1.block w.heap.size hlrA).trans hr0
          have hd9 : ((wr.alloc (Obj.cells #[.int .i64 z] 3))).cell? ⟨w.heap.size, 0, none⟩ = some (.slice none 0 0) := cell_of_row _ _ 0 _ _ _ hr9
          have hf9 : ((wr.alloc (Obj.cells #[.int .i64 z] 3))).frozen? ⟨w.heap.size, 0, none⟩ = false := frozen_of_row _ _ 0 _ _ hr9
          have hBB : Below w.heap.size w ((wr.alloc (Obj.cells #[.int .i64 z] 3))) := hB0.trans (cE.2.1.mono hB0.size)
          obtain ⟨p1, p2, p3⟩ := put_pool hr9 ho9 hBB (by omega) (Nat.le_refl _)
          have p4 := ownsRow_setCell_below iiE (a := ⟨w.heap.size, 0, none⟩) (by simp; omega) (.slice a9 (xs).length q9)
          by_cases hn1 : how5 = 0
          · have hne : (how5 != 0) = false := by simp [hn1]
            go_wp2_with fail
            refine bodyPost_ret (results_row_tmp rfl _ _ w.heap.size 29 _ (0, 0) _ rfl p1 Tryz.underlying29 rfl Tryz.sizePl) rfl ?_
            exact ⟨_, _, rfl, xs, by omega, hz, [z], by simp, p2, own_mono p4 (by omega), p3⟩
          · have hne : (how5 != 0) = true := by simpa using hn1
            go_wp2_with fail
            refine bodyPost_ret (results_row_tmp rfl _ _ w.heap.size 29 _ (0, 0) _ rfl p1 Tryz.underlying29 rfl Tryz.sizePl) rfl ?_
            exact ⟨_, _, rfl, xs, by omega, hz, [z], by simp, p2, own_mono p4 (by omega), p3⟩
    · have hx3a : (x == 0) = false := by simpa using hx00
      have hx3b : (x == 1) = false := by simpa using hx01
      have hx3c : (x == 2) = false := by simpa using hx02
      by_cases hcn : how5 ≠ 0 ∧ is5.length = 0
      · obtain ⟨hn1, hn2⟩ := hcn
        have hne : (how5 != 0) = true := by simpa using hn1
        have hP7 := c7.lt
        have hbE : Below w7.heap.size w7 (w7.alloc (Obj.cells #[.int .i64 0] 3)) := (Below.refl _ _).alloc (Nat.le_refl _) _
        have pvE := pv7.below hbE
        have cE := c7.kept (hbE.mono (by omega))
        have iiE : (w7.alloc (Obj.cells #[.int .i64 0] 3)).ownsRow (P + 1) 3 1 (.slice (some ⟨w7.heap.size, 0, none⟩) 1 1) ([0] : List Int).length (iv [0]) := own_lit w7 (.int .i64 0) 3 (P + 1) (by omega)
        clear hbE ii7 pv7 c7
        obtain ⟨v9, hb9, ho9⟩ := pvE
        obtain ⟨a9, q9, rfl⟩ := own_form ho9
        have hc9 := cell_of_row _ b 0 _ _ _ hb9
        have hc9' : ((w7.alloc (Obj.cells #[.int .i64 0] 3))).cell? ⟨b, 0, none⟩ = some (.slice a9 (xs5).length q9) := hc9
        have hr9 := (cE.2.1.block w.heap.size hlrA).trans hr0
        have hd9 : ((w7.alloc (Obj.cells #[.int .i64 0] 3))).cell? ⟨w.heap.size, 0, none⟩ = some (.slice none 0 0) := cell_of_row _ _ 0 _ _ _ hr9
        have hf9 : ((w7.alloc (Obj.cells #[.int .i64 0] 3))).frozen? ⟨w.heap.size, 0, none⟩ = false := frozen_of_row _ _ 0 _ _ hr9
        have hBB : Below w.heap.size w ((w7.alloc (Obj.cells #[.int .i64 0] 3))) := hB0.trans (cE.2.1.mono hB0.size)
        obtain ⟨p1, p2, p3⟩ := put_pool hr9 ho9 hBB (by omega) (Nat.le_refl _)
        have p4 := ownsRow_setCell_below iiE (a := ⟨w.heap.size, 0, none⟩) (by simp; omega) (.slice a9 (xs5).length q9)
        go_wp2_with fail
        exact bodyPost_ret (results_row_tmp rfl _ _ w.heap.size 29 _ (0, 0) _ rfl p1 Tryz.underlying29 rfl Tryz.sizePl) rfl ⟨_, _, xs5, [0], rfl, by omega, y3, by simp, p2, own_mono p4 (by omega), p3⟩
      · by_cases hn1 : how5 = 0
        · have hne : (how5 != 0) = false := by simp [hn1]
          obtain ⟨v9, hb9, ho9⟩ := pv7
          obtain ⟨a9, q9, rfl⟩ := own_form ho9
          have hc9 := cell_of_row _ b 0 _ _ _ hb9
          have hc9' : (w7).cell? ⟨b, 0, none⟩ = some (.slice a9 (xs5).length q9) := hc9
          have hr9 := (c7.2.1.block w.heap.size hlrA).trans hr0
          have hd9 : (w7).cell? ⟨w.heap.size, 0, none⟩ = some (.slice none 0 0) := cell_of_row _ _ 0 _ _ _ hr9
          have hf9 : (w7).frozen? ⟨w.heap.size, 0, none⟩ = false := frozen_of_row _ _ 0 _ _ hr9
          have hBB : Below w.heap.size w (w7) := hB0.trans (c7.2.1.mono hB0.size)
          obtain ⟨p1, p2, p3⟩ := put_pool hr9 ho9 hBB (by omega) (Nat.le_refl _)
          have p4 := ownsRow_setCell_below ii7 (a := ⟨w.heap.size, 0, none⟩) (by simp; omega) (.slice a9 (xs5).length q9)
          go_wp2_with fail
          exact bodyPost_ret (results_row_tmp rfl _ _ w.heap.size 29 _ (0, 0) _ rfl p1 Tryz.underlying29 rfl Tryz.sizePl) rfl ⟨_, _, xs5, is5, rfl, by omega, y3, by omega, p2, own_mono p4 (by omega), p3⟩
        · have hne : (how5 != 0) = true := by simpa using hn1
          have hl5 : ¬ is5.length = 0 := fun h => hcn ⟨hn1, h⟩
          have hl6 : ¬ (is5.length : Int) = 0 := by omega
          obtain ⟨v9, hb9, ho9⟩ := pv7
          obtain ⟨a9, q9, rfl⟩ := own_form ho9
          have hc9 := cell_of_row _ b 0 _ _ _ hb9
          have hc9' : (w7).cell? ⟨b, 0, none⟩ = some (.slice a9 (xs5).length q9) := hc9
          have hr9 := (c7.2.1.block w.heap.size hlrA).trans hr0
          have hd9 : (w7).cell? ⟨w.heap.size, 0, none⟩ = some (.slice none 0 0) := cell_of_row _ _ 0 _ _ _ hr9
          have hf9 : (w7).frozen? ⟨w.heap.size, 0, none⟩ = false := frozen_of_row _ _ 0 _ _ hr9
          have hBB : Below w.heap.size w (w7) := hB0.trans (c7.2.1.mono hB0.size)
          obtain ⟨p1, p2, p3⟩ := put_pool hr9 ho9 hBB (by omega) (Nat.le_refl _)
          have p4 := ownsRow_setCell_below ii7 (a := ⟨w.heap.size, 0, none⟩) (by simp; omega) (.slice a9 (xs5).length q9)
          go_wp2_with fail
          exact bodyPost_ret (results_row_tmp rfl _ _ w.heap.size 29 _ (0, 0) _ rfl p1 Tryz.underlying29 rfl Tryz.sizePl) rfl ⟨_, _, xs5, is5, rfl, by omega, y3, by omega, p2, own_mono p4 (by omega), p3⟩
end Go.Proofs.YtkchakcebdenjaaGreat
