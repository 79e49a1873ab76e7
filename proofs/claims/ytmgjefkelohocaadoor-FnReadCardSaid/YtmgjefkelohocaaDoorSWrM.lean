/-
  Texts that stood by themselves, laid into one.
-/
import Derived.Test.YtmgjefkelohocaaDoorFirstsM
import Derived.Test.YtmgjefkelohocaaDoorDReadM
import Derived.Test.YtmgjefkelohocaaDoorTo2M
/-
  Contract of impl.Same.
-/
namespace Go.Proofs.YtmgjefkelohocaaDoor
open Go.RowKit Go.Maps

theorem cls_prefix (b ks : List Nd) (fs : List Int) (i : Nat) (h : i < fs.length) : (cls b ks fs).2.getD i 0 = fs.getD i 0 := by
  induction b generalizing ks fs with
  | nil => rfl
  | cons y b ih =>
    simp only [cls]
    rw [ih _ _ (by simp; omega)]
    simp only [List.getD_eq_getElem?_getD]
    rw [List.getElem?_append_left h]
theorem firstsTo_prefix (xs : List Nd) (k i : Nat) (hk : k ≤ xs.length) (hi : i < k) : (firstsTo xs xs.length).getD i 0 = (firstsTo xs k).getD i 0 := by
  have hl := firstsTo_length xs k hk
  have e : firstsTo xs xs.length = (cls (xs.drop k) (keysTo xs k) (firstsTo xs k)).2 := by
    unfold firstsTo keysTo
    rw [List.take_length, ← cls_append, List.take_append_drop]
  rw [e]
  exact cls_prefix _ _ _ i (by omega)
theorem firstsTo_take (xs : List Nd) (n : Nat) : firstsTo (xs.take n) (xs.take n).length = firstsTo xs n := by
  unfold firstsTo
  rw [List.take_length]
theorem NRow.take {w : World} {ao : Option Addr} {cap : Nat} {xs : List Nd} (R : NRow w (.slice ao xs.length cap) xs) (n : Nat) (h : n ≤ xs.length) : NRow w (.slice ao (xs.take n).length cap) (xs.take n) := by
  obtain ⟨ao', cap', e', ⟨h1, h2⟩, hm, hz, hcell⟩ := R
  simp only [Value.slice.injEq, true_and] at e'
  obtain ⟨rfl, rfl⟩ := e'
  have hl : (xs.take n).length = n := by simp; omega
  refine ⟨ao, cap, rfl, ⟨by omega, h2⟩, by omega, fun x hx => hz x (List.mem_of_mem_take hx), fun hne => ?_⟩
  obtain ⟨g, o, e, hg, hc⟩ := hcell (by intro e; subst e; simp at hne)
  refine ⟨g, o, e, hg, fun i x hi => hc i x ?_⟩
  rw [List.getElem?_take] at hi
  split at hi
  · exact hi
  · cases hi

/-- What Same answers. -/
noncomputable def sameR (xs : List Nd) (a b : Int) : Bool := poolB xs && hasI xs a && hasI xs b && ((firstsTo xs xs.length).getD a.toNat 0 == (firstsTo xs xs.length).getD b.toNat 0)

/-- The same of two nodes of a pool that is right. -/
noncomputable def likeR (xs : List Nd) (a b : Int) : Bool := (firstsTo xs xs.length).getD a.toNat 0 == (firstsTo xs xs.length).getD b.toNat 0
theorem sameR_like {xs : List Nd} {a b : Int} (hp : poolB xs = true) (ha : hasI xs a = true) (hb : hasI xs b = true) : sameR xs a b = likeR xs a b := by
  unfold sameR likeR
  rw [hp, ha, hb]
  simp

set_option maxRecDepth 100000 in
set_option maxHeartbeats 1600000 in
theorem psame_any (v : Value) (xs : List Nd) (a b : Int) (w : World) (R : NRow w v xs) (hp : poolB xs = true) (hia : hasI xs a = true) (hib : hasI xs b = true) :
    Calls Tryd.prog 36 #[.agg #[v], .int .i64 a, .int .i64 b] w fun e w' => e = .returned (.bool (likeR xs a b)) ∧ Below w.heap.size w w' := by
  have R' := R
  obtain ⟨ao, cap, rfl, hcap, _⟩ := R'
  have hB0 : Below w.heap.size w (w.alloc (Obj.cells #[.slice ao xs.length cap] 26)) := (Below.refl _ _).alloc (Nat.le_refl _) _
  have hlen := poolB_len hp
  simp only [hasI, Bool.and_eq_true, decide_eq_true_eq] at hia hib
  obtain ⟨na, rfl⟩ := Int.eq_ofNat_of_zero_le hia.1
  obtain ⟨nb', rfl⟩ := Int.eq_ofNat_of_zero_le hib.1
  go_enter Tryd.func36, Tryd.ntmps36
  by_cases hmx : nb' ≤ na
  · have hmx' : (nb' : Int) ≤ na := by omega
    have hM : na < xs.length := by omega
    have F := firsts_any ao cap (xs.take (na + 1)) (w.alloc (Obj.cells #[.slice ao xs.length cap] 26)) ((R.below hB0).take (na + 1) (by omega)) (fun k x hk => poolB_at hp (by rw [List.getElem?_take] at hk; split at hk; exact hk; cases hk)) (by simp; omega)
    rw [firstsTo_take, show (xs.take (na + 1)).length = na + 1 by simp; omega] at F
    have hfl := firstsTo_length xs (na + 1) (by omega)
    have HS : Hid (likeR xs na nb' = ((firstsTo xs (na + 1)).getD na 0 == (firstsTo xs (na + 1)).getD nb' 0)) := by
      unfold Hid likeR
      rw [Int.toNat_natCast, Int.toNat_natCast, firstsTo_prefix xs (na + 1) na (by omega) (by omega), firstsTo_prefix xs (na + 1) nb' (by omega) (by omega)]
    go_wp2_with fail
    refine F.mono ?_
    rintro e w4 ⟨v4, rfl, ho4, hb4⟩
    have hB4 := hB0.trans (hb4.mono hB0.size)
    rcases ho4.2 with ⟨rfl, h0⟩ | ⟨B, capB, cur, rfl, hBb, _⟩
    · omega
    have ea := ho4.cellAt na (by omega)
    rw [iv_get _ _ (by omega)] at ea
    have eb := ho4.cellAt nb' (by omega)
    rw [iv_get _ _ (by omega)] at eb
    clear F hb4 ho4 hia hib
    generalize (firstsTo xs (na + 1)).getD na 0 = fa at ea HS
    generalize (firstsTo xs (na + 1)).getD nb' 0 = fb at eb HS
    go_wp2_with fail
    go_quiet (fail)
    go_wp2
    go_ret
    exact ⟨by rw [HS.out]; rfl, ⟨hB4.os, hB4.tape, hB4.output, hB4.size, hB4.block⟩⟩
  · have hmx' : (na : Int) < nb' := by omega
    have hM : nb' < xs.length := by omega
    have F := firsts_any ao cap (xs.take (nb' + 1)) (w.alloc (Obj.cells #[.slice ao xs.length cap] 26)) ((R.below hB0).take (nb' + 1) (by omega)) (fun k x hk => poolB_at hp (by rw [List.getElem?_take] at hk; split at hk; exact hk; cases hk)) (by simp; omega)
    rw [firstsTo_take, show (xs.take (nb' + 1)).length = nb' + 1 by simp; omega] at F
    have hfl := firstsTo_length xs (nb' + 1) (by omega)
    have HS : Hid (likeR xs na nb' = ((firstsTo xs (nb' + 1)).getD na 0 == (firstsTo xs (nb' + 1)).getD nb' 0)) := by
      unfold Hid likeR
      rw [Int.toNat_natCast, Int.toNat_natCast, firstsTo_prefix xs (nb' + 1) na (by omega) (by omega), firstsTo_prefix xs (nb' + 1) nb' (by omega) (by omega)]
    go_wp2_with fail
    refine F.mono ?_
    rintro e w4 ⟨v4, rfl, ho4, hb4⟩
    have hB4 := hB0.trans (hb4.mono hB0.size)
    rcases ho4.2 with ⟨rfl, h0⟩ | ⟨B, capB, cur, rfl, hBb, _⟩
    · omega
    have ea := ho4.cellAt na (by omega)
    rw [iv_get _ _ (by omega)] at ea
    have eb := ho4.cellAt nb' (by omega)
    rw [iv_get _ _ (by omega)] at eb
    clear F hb4 ho4 hia hib
    generalize (firstsTo xs (nb' + 1)).getD na 0 = fa at ea HS
    generalize (firstsTo xs (nb' + 1)).getD nb' 0 = fb at eb HS
    go_wp2_with fail
    go_quiet (fail)
    go_wp2
    go_ret
    exact ⟨by rw [HS.out]; rfl, ⟨hB4.os, hB4.tape, hB4.output, hB4.size, hB4.block⟩⟩

set_option maxRecDepth 100000 in
set_option maxHeartbeats 1600000 in
theorem isame_any (v : Value) (xs : List Nd) (a b : Int) (w : World) (R : NRow w v xs) :
    Calls Tryd.prog 10 #[.agg #[v], .int .i64 a, .int .i64 b] w fun e w' => e = .returned (.bool (sameR xs a b)) ∧ Below w.heap.size w w' := by
  have R' := R
  obtain ⟨ao, cap, rfl, hcap, _⟩ := R'
  go_enter Tryd.func10, Tryd.ntmps10
  go_wp2_with fail
  have hB0 : Below w.heap.size w (w.alloc (Obj.cells #[.slice ao xs.length cap] 26)) := (Below.refl _ _).alloc (Nat.le_refl _) _
  refine (ipool_any _ xs _ (R.below hB0)).mono ?_
  rintro e w1 ⟨rfl, hb1⟩
  have hx1 : w1.heap[w.heap.size]? = some (.cells #[.slice ao xs.length cap] 26 (0, 0)) := (hb1.block _ (by simp)).trans (heap_alloc_new _ _)
  have hB1 := hB0.trans (hb1.mono hB0.size)
  have hc1 : w1.cell? ⟨w.heap.size, 0, none⟩ = some (.slice ao xs.length cap) := by rw [cell_of_row w1 _ 0 _ _ _ hx1]; rfl
  have hsz1 := (Array.getElem?_eq_some_iff.1 hx1).1
  clear hB0 hb1 hx1
  cases hp : poolB xs with
  | false =>
    have HS : Hid (sameR xs a b = false) := by unfold Hid sameR; rw [hp]; simp
    go_wp2_with fail
    go_ret
    exact ⟨by rw [HS.out]; rfl, hB1⟩
  | true =>
    go_wp2_with fail
    refine (has_any _ xs _ _ (R.below hB1)).mono ?_
    rintro e w2 ⟨rfl, hb2⟩
    have hB2 := hB1.trans (hb2.mono hB1.size)
    have hc2 := (hb2.cell (p := ⟨w.heap.size, 0, none⟩) hsz1).trans hc1
    have hsz2 := Nat.lt_of_lt_of_le hsz1 hb2.size
    clear hB1 hc1 hb2 hsz1
    cases hia : hasI xs a with
    | false =>
      have HS : Hid (sameR xs a b = false) := by unfold Hid sameR; rw [hp, hia]; simp
      go_wp2_with fail
      go_ret
      exact ⟨by rw [HS.out]; rfl, hB2⟩
    | true =>
      go_wp2_with fail
      refine (has_any _ xs _ _ (R.below hB2)).mono ?_
      rintro e w3 ⟨rfl, hb3⟩
      have hB3 := hB2.trans (hb3.mono hB2.size)
      have hc3 := (hb3.cell (p := ⟨w.heap.size, 0, none⟩) hsz2).trans hc2
      clear hB2 hc2 hb3 hsz2
      cases hib : hasI xs b with
      | false =>
        have HS : Hid (sameR xs a b = false) := by unfold Hid sameR; rw [hp, hia, hib]; simp
        go_wp2_with fail
        go_ret
        exact ⟨by rw [HS.out]; rfl, hB3⟩
      | true =>
        go_wp2_with fail
        refine (psame_any _ xs a b _ (R.below hB3) hp hia hib).mono ?_
        rintro e w4 ⟨rfl, hb4⟩
        have HS : Hid (sameR xs a b = likeR xs a b) := sameR_like hp hia hib
        go_wp2_with fail
        go_ret
        exact ⟨by rw [HS.out]; rfl, hB3.trans (hb4.mono hB3.size)⟩
end Go.Proofs.YtmgjefkelohocaaDoor

/-
  The contract of spec.l3Write: a value behind a text, as long as that is not too long. No condition beyond the pool's being right.
-/
namespace Go.Proofs.YtmgjefkelohocaaDoor
open Go.RowKit

theorem pool_name {xs : List Nd} (hp : poolB xs = true) {i : Nat} {x : Nd} (hx : xs[i]? = some x) : x.s.size ≤ 12 := by
  have h := pool_at hp hx
  simp only [nodeB, Bool.and_eq_true] at h
  obtain ⟨_, ⟨hs, _⟩, _⟩ := h
  unfold nameFB at hs
  split at hs
  · simp only [nameB, Bool.and_eq_true, decide_eq_true_eq] at hs
    exact hs.1.2
  · have h0 : x.s.toList = [] := by simpa using hs
    have h1 : x.s.data.toList.length = x.s.size := by rw [Array.length_toList]; rfl
    rw [ByteArray.toList_eq] at h0
    rw [h0] at h1
    simp at h1
    omega

/-- What l3Write makes of the text l and a value that is written m, in the end r; at most so many bytes. -/
def Wrote (l m r : List UInt8) (top : Nat) : Prop :=
  (400 < l.length → r = l) ∧ (l.length ≤ 400 → r.length ≤ top ∧ (l.length + m.length ≤ 400 → r = l ++ m) ∧ (400 < l.length + m.length → 400 < r.length))

theorem wrote_put {l m : List UInt8} {top : Nat} (h : l.length ≤ 400) (hm : l.length + m.length ≤ top) : Wrote l m (l ++ m) top :=
  ⟨fun h' => by omega, fun _ => ⟨by simp; omega, fun _ => rfl, fun h' => by simp; omega⟩⟩
theorem wrote_skip {l m : List UInt8} {top : Nat} (h : 400 < l.length) : Wrote l m l top := ⟨fun _ => rfl, fun h' => by omega⟩
theorem tx_of (s : ByteArray) : s = tx s.data.toList := by apply ByteArray.ext; simp [tx]

def SWrC (ao : Option Addr) (cap : Nat) (xs : List Nd) (v : Nat) : Prop :=
  ∀ (w : World) (l : List UInt8), NRow w (.slice ao xs.length cap) xs → l.length ≤ 20000 →
    Calls Tryd.prog 53 #[.agg #[.slice ao xs.length cap], .int .i64 v, .string (tx l)] w fun e w' => ∃ r, e = .returned (.string (tx r)) ∧ Wrote l (fullT xs v) r (1504 + 4 * v) ∧ Below w.heap.size w w'

set_option maxRecDepth 100000 in
set_option maxHeartbeats 1600000 in
theorem swrite_word (ao : Option Addr) (cap : Nat) (xs : List Nd) (v : Nat) (x : Nd) (hp : poolB xs = true) (hx : xs[v]? = some x) (h5 : ¬ x.k = 5) : SWrC ao cap xs v := by
  intro w l R hl
  have hv := (List.getElem?_eq_some_iff.1 hx).1
  obtain ⟨ao', cap', e', ⟨hcap, _⟩, hm, hz, hcell⟩ := R
  simp only [Value.slice.injEq, true_and] at e'
  obtain ⟨rfl, rfl⟩ := e'
  obtain ⟨g, o, rfl, hg, hcell⟩ := hcell (by intro e; subst e; simp at hv)
  obtain ⟨d0, d1, d2, d3, d4⟩ := hcell v x hx
  have hgn : ¬ g = w.heap.size := by omega
  have hvn : ((v : Int) < (xs.length : Int)) := by omega
  have hxn := pool_num hp hx
  have hxs := pool_name hp hx
  have hwl : (wordL x).length ≤ 1100 := wordL_len hxn.2 (by omega)
  have hil := itoa_len hxn.2
  have HF : Hid (fullT xs v = wordL x) := fullT_word hx h5
  have hb2 : x.k = 2 → x.n = 0 ∨ x.n = 1 := by
    intro h2
    have h := pool_at hp hx
    simp only [nodeB, Bool.and_eq_true, decide_eq_true_eq, lo, hi, h2] at h
    omega
  clear hcell hx hz
  have hBa : Below w.heap.size w (w.alloc (Obj.cells #[.slice (some ⟨g, o, none⟩) xs.length cap] 26)) := (Below.refl _ _).alloc (Nat.le_refl _) _
  obtain ⟨k, n, s, a, b⟩ := x
  dsimp only at d0 d1 d2 d3 d4 hxn hxs h5 hil hb2
  have hBb : Below w.heap.size w ((w.alloc (Obj.cells #[.slice (some ⟨g, o, none⟩) xs.length cap] 26)).alloc (Obj.cells #[.int .i64 k, .int .i64 n, .string s, .int .i64 a, .int .i64 b] 55)) := hBa.alloc hBa.size _
  by_cases h4 : 400 < l.length
  · have hl4 : ¬ (tx l).size ≤ 400 := by rw [tx_size]; omega
    have hsz : (tx l).size = l.length := tx_size l
    go_enter Tryd.func53, Tryd.ntmps53
    go_wp2_with fail
    go_ret
    exact ⟨l, rfl, wrote_skip h4, hBa⟩
  · have hsz : (tx l).size = l.length := tx_size l
    have hl4 : l.length ≤ 400 := by omega
    have HW : Hid (Wrote l (wordL ⟨k, n, s, a, b⟩) (l ++ wordL ⟨k, n, s, a, b⟩) (1504 + 4 * v)) := wrote_put hl4 (by omega)
    have hc : k = 1 ∨ k = 2 ∨ k = 3 ∨ k = 4 ∨ k = 6 ∨ k = 7 ∨ k = 8 ∨ k = 9 := by omega
    clear hwl
    rcases hc with rfl | rfl | rfl | rfl | rfl | rfl | rfl | rfl
    · have ha : ∀ w : World, (Op.stringOp .add (tx l) ⟨#[40, 41]⟩).run Tryd.prog w = .ok (.string (tx (l ++ [40, 41]))) w := fun w => addS l [40, 41] w (by simp; omega)
      go_enter Tryd.func53, Tryd.ntmps53
      go_wp2_with fail
      go_ret
      exact ⟨_, rfl, by rw [HF.out]; exact HW.out, hBb⟩
    · rcases hb2 rfl with rfl | rfl
      · have ha : ∀ w : World, (Op.stringOp .add (tx l) ⟨#[35, 102]⟩).run Tryd.prog w = .ok (.string (tx (l ++ [35, 102]))) w := fun w => addS l [35, 102] w (by simp; omega)
        go_enter Tryd.func53, Tryd.ntmps53
        go_wp2_with fail
        go_ret
        exact ⟨_, rfl, by rw [HF.out]; exact HW.out, hBb⟩
      · have ha : ∀ w : World, (Op.stringOp .add (tx l) ⟨#[35, 116]⟩).run Tryd.prog w = .ok (.string (tx (l ++ [35, 116]))) w := fun w => addS l [35, 116] w (by simp; omega)
        go_enter Tryd.func53, Tryd.ntmps53
        go_wp2_with fail
        go_ret
        exact ⟨_, rfl, by rw [HF.out]; exact HW.out, hBb⟩
    · have ha : ∀ w : World, (Op.stringOp .add (tx l) (tx (Lib.itoa n))).run Tryd.prog w = .ok (.string (tx (l ++ Lib.itoa n))) w := fun w => addS l _ w (by omega)
      go_enter Tryd.func53, Tryd.ntmps53
      go_wp2_with fail
      refine (sdigits_any n _ hxn.2).mono ?_
      rintro e w1 ⟨rfl, hb1⟩
      have hB1 := hBb.trans (hb1.mono hBb.size)
      clear hb1
      go_wp2_with fail
      go_ret
      exact ⟨_, rfl, by rw [HF.out]; exact HW.out, hB1⟩
    · have hs12 : s.data.toList.length ≤ 12 := by rw [Array.length_toList]; exact hxs
      have ha : ∀ w : World, (Op.stringOp .add (tx l) s).run Tryd.prog w = .ok (.string (tx (l ++ s.data.toList))) w := fun w => by
        have := addS l s.data.toList w (by omega)
        rw [← tx_of] at this
        exact this
      go_enter Tryd.func53, Tryd.ntmps53
      go_wp2_with fail
      go_ret
      exact ⟨_, rfl, by rw [HF.out]; exact HW.out, hBb⟩
    · have ha : ∀ w : World, (Op.stringOp .add (tx l) ⟨#[35, 102, 117, 110]⟩).run Tryd.prog w = .ok (.string (tx (l ++ [35, 102, 117, 110]))) w := fun w => addS l [35, 102, 117, 110] w (by simp; omega)
      have ha2 : ∀ w : World, (Op.stringOp .add (tx (l ++ [35, 102, 117, 110])) (tx (Lib.itoa n))).run Tryd.prog w = .ok (.string (tx (l ++ ([35, 102, 117, 110] ++ Lib.itoa n)))) w := fun w => by
        have := addS (l ++ [35, 102, 117, 110]) (Lib.itoa n) w (by simp; omega)
        rw [List.append_assoc] at this
        exact this
      go_enter Tryd.func53, Tryd.ntmps53
      go_wp2_with fail
      refine (sdigits_any n _ hxn.2).mono ?_
      rintro e w1 ⟨rfl, hb1⟩
      have hB1 := hBb.trans (hb1.mono hBb.size)
      clear hb1
      go_wp2_with fail
      go_ret
      exact ⟨_, rfl, by rw [HF.out]; exact HW.out, hB1⟩
    · have ha : ∀ w : World, (Op.stringOp .add (tx l) ⟨#[35, 107, 111, 110, 116]⟩).run Tryd.prog w = .ok (.string (tx (l ++ [35, 107, 111, 110, 116]))) w := fun w => addS l [35, 107, 111, 110, 116] w (by simp; omega)
      have ha2 : ∀ w : World, (Op.stringOp .add (tx (l ++ [35, 107, 111, 110, 116])) (tx (Lib.itoa n))).run Tryd.prog w = .ok (.string (tx (l ++ ([35, 107, 111, 110, 116] ++ Lib.itoa n)))) w := fun w => by
        have := addS (l ++ [35, 107, 111, 110, 116]) (Lib.itoa n) w (by simp; omega)
        rw [List.append_assoc] at this
        exact this
      go_enter Tryd.func53, Tryd.ntmps53
      go_wp2_with fail
      refine (sdigits_any n _ hxn.2).mono ?_
      rintro e w1 ⟨rfl, hb1⟩
      have hB1 := hBb.trans (hb1.mono hBb.size)
      clear hb1
      go_wp2_with fail
      go_ret
      exact ⟨_, rfl, by rw [HF.out]; exact HW.out, hB1⟩
    · have ha : ∀ w : World, (Op.stringOp .add (tx l) ⟨#[35, 112, 114, 105, 109]⟩).run Tryd.prog w = .ok (.string (tx (l ++ [35, 112, 114, 105, 109]))) w := fun w => addS l [35, 112, 114, 105, 109] w (by simp; omega)
      have ha2 : ∀ w : World, (Op.stringOp .add (tx (l ++ [35, 112, 114, 105, 109])) (tx (Lib.itoa n))).run Tryd.prog w = .ok (.string (tx (l ++ ([35, 112, 114, 105, 109] ++ Lib.itoa n)))) w := fun w => by
        have := addS (l ++ [35, 112, 114, 105, 109]) (Lib.itoa n) w (by simp; omega)
        rw [List.append_assoc] at this
        exact this
      go_enter Tryd.func53, Tryd.ntmps53
      go_wp2_with fail
      refine (sdigits_any n _ hxn.2).mono ?_
      rintro e w1 ⟨rfl, hb1⟩
      have hB1 := hBb.trans (hb1.mono hBb.size)
      clear hb1
      go_wp2_with fail
      go_ret
      exact ⟨_, rfl, by rw [HF.out]; exact HW.out, hB1⟩
    · have ha : ∀ w : World, (Op.stringOp .add (tx l) ⟨#[35, 112, 105, 100]⟩).run Tryd.prog w = .ok (.string (tx (l ++ [35, 112, 105, 100]))) w := fun w => addS l [35, 112, 105, 100] w (by simp; omega)
      have ha2 : ∀ w : World, (Op.stringOp .add (tx (l ++ [35, 112, 105, 100])) (tx (Lib.itoa n))).run Tryd.prog w = .ok (.string (tx (l ++ ([35, 112, 105, 100] ++ Lib.itoa n)))) w := fun w => by
        have := addS (l ++ [35, 112, 105, 100]) (Lib.itoa n) w (by simp; omega)
        rw [List.append_assoc] at this
        exact this
      go_enter Tryd.func53, Tryd.ntmps53
      go_wp2_with fail
      refine (sdigits_any n _ hxn.2).mono ?_
      rintro e w1 ⟨rfl, hb1⟩
      have hB1 := hBb.trans (hb1.mono hBb.size)
      clear hb1
      go_wp2_with fail
      go_ret
      exact ⟨_, rfl, by rw [HF.out]; exact HW.out, hB1⟩
end Go.Proofs.YtmgjefkelohocaaDoor
