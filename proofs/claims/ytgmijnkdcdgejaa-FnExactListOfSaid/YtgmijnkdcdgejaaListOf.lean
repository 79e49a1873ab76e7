/-
  What a list is read as, and the contracts of impl.ListOf and spec.ListOf.
-/
import Derived.Test.YtgmijnkdcdgejaaSizeI
import Derived.Test.YtgmijnkdcdgejaaSNode
namespace Go.Proofs.Ytgmijnkdcdgejaa
open Go.RowKit

theorem Try.infoI2 : (Try.prog.info? 3).map (fun i => (i.zero, i.size, i.bytes)) = some (some (.int .i64 0), 1, 8) := by kernel_rfl

/-- The values from the node j on, behind acc; none when it does not end with a KNil. -/
def chain (xs : List Nd) : Nat → Nat → List Int → Option (List Int)
  | 0, _, _ => none
  | f + 1, j, acc => match xs[j]? with
    | none => none
    | some x => if x.k = 5 then chain xs f x.b.toNat (acc ++ [x.a]) else if x.k = 1 then some acc else none
def chainR (xs : List Nd) (v : Nat) : List Int × Bool := match chain xs (v + 1) v [] with
  | some l => (l, true)
  | none => ([], false)
/-- What ListOf answers. -/
def listR (xs : List Nd) (v : Int) : List Int × Bool := if poolB xs && hasI xs v then chainR xs v.toNat else ([], false)
theorem chain_pair (xs : List Nd) (f j : Nat) (acc : List Int) (x : Nd) (hx : xs[j]? = some x) (h5 : x.k = 5) (hf : j < f) : chain xs f j acc = chain xs (f - 1) x.b.toNat (acc ++ [x.a]) := by
  cases f with
  | zero => omega
  | succ f => simp [chain, hx, h5]
theorem chain_nil (xs : List Nd) (f j : Nat) (acc : List Int) (x : Nd) (hx : xs[j]? = some x) (h1 : x.k = 1) (hf : j < f) : chain xs f j acc = some acc := by
  cases f with
  | zero => omega
  | succ f => simp [chain, hx, h1]
theorem chain_none (xs : List Nd) (f j : Nat) (acc : List Int) (x : Nd) (hx : xs[j]? = some x) (h5 : ¬ x.k = 5) (h1 : ¬ x.k = 1) (hf : j < f) : chain xs f j acc = none := by
  cases f with
  | zero => omega
  | succ f => simp [chain, hx, h5, h1]

set_option maxHeartbeats 400000 in
theorem shas_all (v : Value) (xs : List Nd) (a : Int) (w : World) (R : NRow w v xs) :
    Calls Try.prog 29 #[.agg #[v], .int .i64 a] w fun e w' => e = .returned (.bool (hasI xs a)) ∧ Below w.heap.size w w' := by
  obtain ⟨ao, cap, rfl, _, hm, _⟩ := R
  go_enter Try.func29, Try.ntmps29
  go_wp2_with fail
  refine (lin_any _ _ _ _).mono ?_
  rintro e w1 ⟨rfl, rfl⟩
  go_wp2
  go_ret
  refine ⟨retB ?_, (Below.refl _ _).alloc (Nat.le_refl _) _⟩
  rw [Bool.eq_iff_iff]
  simp [hasI]
  omega

set_option maxRecDepth 100000 in
set_option maxHeartbeats 1600000 in
theorem ilistof_in (ao : Option Addr) (cap : Nat) (xs : List Nd) (v : Nat) (w : World) (R : NRow w (.slice ao xs.length cap) xs) (hp : poolB xs = true) (hv : v < xs.length) :
    Calls Try.prog 33 #[.agg #[.slice ao xs.length cap], .int .i64 v] w fun e w' => ∃ v', e = .returned (.tuple #[v', .bool (chainR xs v).2]) ∧ w'.ownsRow w.heap.size 3 1 v' (chainR xs v).1.length (iv (chainR xs v).1) ∧ Below w.heap.size w w' := by
  have hlen := poolB_len hp
  have R' := R
  obtain ⟨ao', cap', e', ⟨hcap, _⟩, _, hz, hcell⟩ := R'
  simp only [Value.slice.injEq, true_and] at e'
  obtain ⟨rfl, rfl⟩ := e'
  obtain ⟨g, o, rfl, hg, hcell⟩ := hcell (by intro e; subst e; simp at hv)
  obtain ⟨i0, hi, hz0, hz1, hz2⟩ := info_parts Try.infoI2
  go_enter Try.func33, Try.ntmps33
  have hB2 : Below w.heap.size w (w.alloc (Obj.cells #[.slice (some ⟨g, o, none⟩) xs.length cap] 26)) := (Below.refl _ _).alloc (Nat.le_refl _) _
  have hc2 : (w.alloc (Obj.cells #[.slice (some ⟨g, o, none⟩) xs.length cap] 26)).cell? ⟨w.heap.size, 0, none⟩ = some (.slice (some ⟨g, o, none⟩) xs.length cap) := by simp
  have hsz2 : w.heap.size < (w.alloc (Obj.cells #[.slice (some ⟨g, o, none⟩) xs.length cap] 26)).heap.size := by simp
  have HS2 : Hid ((w.alloc (Obj.cells #[.slice (some ⟨g, o, none⟩) xs.length cap] 26)).heap.size = w.heap.size + 1) := by unfold Hid; simp
  go_wp2_with fail
  generalize w.alloc (Obj.cells #[.slice (some ⟨g, o, none⟩) xs.length cap] 26) = w2 at *
  go_loopw [1, 6] (fun q s wr => ∃ (f j : Nat) (acc : List Int), q = .int .i64 j ∧ j < f ∧ acc.length + j ≤ v ∧ Hid (chain xs f j acc = chain xs (v + 1) v []) ∧ wr.ownsRow w2.heap.size 3 1 s acc.length (iv acc) ∧ Below w2.heap.size w2 wr) (fun q _ _ => (intOf q).toNat)
  case atStart => exact ⟨v + 1, v, [], rfl, by omega, by simp, rfl, (by rw [← HS2.out]; exact World.ownsRow_made _ _ 0 (Nat.le_refl _) (by simp) (by simp)), (Below.refl _ _).alloc (Nat.le_refl _) _⟩
  case round =>
    obtain ⟨f, j, acc, rfl, hjf, hal, HC, hown, hb⟩ := hrel
    have hB := hB2.trans (hb.mono hB2.size)
    have hcr := (hb.cell (p := ⟨w.heap.size, 0, none⟩) hsz2).trans hc2
    have hbs := hb.size
    obtain ⟨x, hx⟩ : ∃ x, xs[j]? = some x := ⟨xs[j], by simp [show j < xs.length by omega]⟩
    obtain ⟨c0, c1, c2, c3, c4⟩ := (hcell j x hx).below hB hg
    have hnb := poolB_at hp hx
    clear hcell
    by_cases h5 : x.k = 5
    · have HS : Hid (chain xs f j acc = chain xs (f - 1) x.b.toNat (acc ++ [x.a])) := chain_pair xs f j acc x hx h5 hjf
      have hBB : hasB x.k = true := by unfold hasB; simp [h5]
      have hrb := nodeB_B hnb hBB
      obtain ⟨nb', hnb'⟩ := Int.eq_ofNat_of_zero_le hrb.1
      rw [hnb'] at c4 hrb HS
      have hgn : g ≠ wr.heap.size := by have := hB.size; omega
      have hgl : g < wr.heap.size := by have := hB.size; omega
      have hwl : w.heap.size < wr.heap.size := by omega
      clear hx hnb hBB
      go_wp2_with (at_builtin; refine wpList_append_own _ rfl _ _ 27 rfl w2.heap.size 3 i0 (.int .i64 0) 1 8 Try.underlying27 hi hz0 hz1 hz2 rfl (by decide) _ _ _ rfl (hown.alloc _) ⟨wr.heap.size, 0, none⟩ 1 1 [.int .i64 x.a] rfl rfl (cell_one_new _ _ _) (fun u hu => by simp at hu; subst hu; rfl) (by unfold maxLen; omega) (by omega) (by simp; omega) ?_)
      intro v' w6 hown' hgrow _
      have hown6 : w6.ownsRow w2.heap.size 3 1 v' (acc ++ [x.a]).length (iv (acc ++ [x.a])) := by
        rw [iv_append, List.length_append]
        exact hown'
      have hb6 : Below w2.heap.size w2 w6 := (hb.alloc hbs _).grown hgrow (by simp; omega) (fun j hj => (hown.lt j hj).1)
      have hcr6 := (hb6.cell (p := ⟨w.heap.size, 0, none⟩) hsz2).trans hc2
      have hg6 : w6.cell? ⟨g, o + j * 5 + 4, none⟩ = some (.int .i64 nb') := by
        have hgw2 : g < w2.heap.size := Nat.lt_of_lt_of_le hg hB2.size
        rw [hb6.cell (p := ⟨g, o + j * 5 + 4, none⟩) hgw2, ← hb.cell (p := ⟨g, o + j * 5 + 4, none⟩) hgw2]
        exact c4
      generalize hacc : acc ++ [x.a] = acc' at hown6 HS
      have hal' : acc'.length = acc.length + 1 := by rw [← hacc]; simp
      clear hown' hgrow c0 c1 c2 c3 c4 hcr hown hacc
      go_wp2
      go_roundw
      case rel => exact ⟨f - 1, nb', acc', rfl, by omega, by omega, by unfold Hid; rw [← HC.out, HS.out]; rfl, hown6, hb6⟩
      case measure => simp [intOf]; omega
    · by_cases h1 : x.k = 1
      · have HR : Hid (chainR xs v = (acc, true)) := by unfold Hid chainR; rw [← HC.out, chain_nil xs f j acc x hx h1 hjf]
        clear hx hnb h5
        go_wp2
        go_ret2
        exact ⟨_, by rw [HR.out]; rfl, by rw [HR.out]; exact own_mono hown (by omega), hB⟩
      · have HR : Hid (chainR xs v = ([], false)) := by unfold Hid chainR; rw [← HC.out, chain_none xs f j acc x hx h5 h1 hjf]
        clear hx hnb
        go_wp2
        go_ret2
        exact ⟨_, by rw [HR.out]; rfl, by rw [HR.out]; exact World.ownsRow_made _ _ 0 (by have := hB.size; omega) (by simp) (by simp), hB.alloc hB.size _⟩

set_option maxHeartbeats 400000 in
theorem ilistof_out (ao : Option Addr) (cap : Nat) (xs : List Nd) (v : Int) (w : World) (R : NRow w (.slice ao xs.length cap) xs) (h : (poolB xs && hasI xs v) = false) :
    Calls Try.prog 9 #[.agg #[.slice ao xs.length cap], .int .i64 v] w fun e w' => ∃ v', e = .returned (.tuple #[v', .bool false]) ∧ w'.ownsRow w.heap.size 3 1 v' 0 (iv []) ∧ Below w.heap.size w w' := by
  go_enter Try.func9, Try.ntmps9
  go_wp2_with fail
  have hB0 : Below w.heap.size w (w.alloc (Obj.cells #[.slice ao xs.length cap] 26)) := (Below.refl _ _).alloc (Nat.le_refl _) _
  refine (ipool_any _ xs _ (R.below hB0)).mono ?_
  rintro e w1 ⟨rfl, hb1⟩
  have hx1 : w1.heap[w.heap.size]? = some (.cells #[.slice ao xs.length cap] 26 (0, 0)) := (hb1.block _ (by simp)).trans (heap_alloc_new _ _)
  have hB1 := hB0.trans (hb1.mono hB0.size)
  have hc1 : w1.cell? ⟨w.heap.size, 0, none⟩ = some (.slice ao xs.length cap) := by rw [cell_of_row w1 _ 0 _ _ _ hx1]; rfl
  clear hB0 hb1 hx1
  cases hp : poolB xs with
  | false =>
    clear h
    go_wp2_with fail
    go_ret2
    exact ⟨_, rfl, World.ownsRow_made _ _ 0 hB1.size (by simp) (by simp), hB1.alloc hB1.size _⟩
  | true =>
    rw [hp, Bool.true_and] at h
    go_wp2_with fail
    refine (has_any _ xs _ _ (R.below hB1)).mono ?_
    rintro e w2 ⟨rfl, hb2⟩
    rw [h]
    have hB2 := hB1.trans (hb2.mono hB1.size)
    clear hc1 hb2 hB1
    go_wp2_with fail
    go_ret2
    exact ⟨_, rfl, World.ownsRow_made _ _ 0 hB2.size (by simp) (by simp), hB2.alloc hB2.size _⟩

set_option maxHeartbeats 400000 in
theorem ilistof_yes (ao : Option Addr) (cap : Nat) (xs : List Nd) (v : Nat) (w : World) (R : NRow w (.slice ao xs.length cap) xs) (hp : poolB xs = true) (hv : v < xs.length) :
    Calls Try.prog 9 #[.agg #[.slice ao xs.length cap], .int .i64 v] w fun e w' => ∃ v', e = .returned (.tuple #[v', .bool (chainR xs v).2]) ∧ w'.ownsRow w.heap.size 3 1 v' (chainR xs v).1.length (iv (chainR xs v).1) ∧ Below w.heap.size w w' := by
  have hI : Hid (hasI xs v = true) := by unfold Hid hasI; simp [hv]
  go_enter Try.func9, Try.ntmps9
  go_wp2_with fail
  have hB0 : Below w.heap.size w (w.alloc (Obj.cells #[.slice ao xs.length cap] 26)) := (Below.refl _ _).alloc (Nat.le_refl _) _
  refine (ipool_any _ xs _ (R.below hB0)).mono ?_
  rintro e w1 ⟨rfl, hb1⟩
  have hx1 : w1.heap[w.heap.size]? = some (.cells #[.slice ao xs.length cap] 26 (0, 0)) := (hb1.block _ (by simp)).trans (heap_alloc_new _ _)
  have hB1 := hB0.trans (hb1.mono hB0.size)
  have hc1 : w1.cell? ⟨w.heap.size, 0, none⟩ = some (.slice ao xs.length cap) := by rw [cell_of_row w1 _ 0 _ _ _ hx1]; rfl
  have hsz1 := (Array.getElem?_eq_some_iff.1 hx1).1
  clear hB0 hb1
  rw [hp]
  go_wp2_with fail
  refine (has_any _ xs _ _ (R.below hB1)).mono ?_
  rintro e w2 ⟨rfl, hb2⟩
  rw [hI.out]
  have hB2 := hB1.trans (hb2.mono hB1.size)
  have hc2 := (hb2.cell (p := ⟨w.heap.size, 0, none⟩) hsz1).trans hc1
  clear hB1 hb2 hc1 hx1 hsz1 hI
  go_wp2_with fail
  refine (ilistof_in ao cap xs v _ (R.below hB2) hp hv).mono ?_
  rintro e w3 ⟨v3, rfl, ho3, hb3⟩
  have hB3 := hB2.trans (hb3.mono hB2.size)
  have hs2 := hB2.size
  clear hc2 hb3 hB2
  go_wp2
  go_ret2
  exact ⟨_, rfl, own_mono ho3 hs2, hB3⟩

theorem ilistof_any (v : Value) (xs : List Nd) (a : Int) (w : World) (R : NRow w v xs) :
    Calls Try.prog 9 #[.agg #[v], .int .i64 a] w fun e w' => ∃ v', e = .returned (.tuple #[v', .bool (listR xs a).2]) ∧ w'.ownsRow w.heap.size 3 1 v' (listR xs a).1.length (iv (listR xs a).1) ∧ Below w.heap.size w w' := by
  have R' := R
  obtain ⟨ao, cap, rfl, _⟩ := R'
  unfold listR
  cases h : (poolB xs && hasI xs a) with
  | false => exact ilistof_out ao cap xs a w R h
  | true =>
    simp only [Bool.and_eq_true, hasI, decide_eq_true_eq] at h
    obtain ⟨n, rfl⟩ := Int.eq_ofNat_of_zero_le h.2.1
    rw [if_pos rfl, Int.toNat_natCast]
    exact ilistof_yes ao cap xs n w R h.1 (by omega)

set_option maxRecDepth 100000 in
set_option maxHeartbeats 1600000 in
theorem slistof_in (ao : Option Addr) (cap : Nat) (xs : List Nd) (v : Nat) (w : World) (R : NRow w (.slice ao xs.length cap) xs) (hp : poolB xs = true) (hv : v < xs.length) :
    Calls Try.prog 35 #[.agg #[.slice ao xs.length cap], .int .i64 v] w fun e w' => ∃ v', e = .returned (.tuple #[v', .bool (chainR xs v).2]) ∧ w'.ownsRow w.heap.size 3 1 v' (chainR xs v).1.length (iv (chainR xs v).1) ∧ Below w.heap.size w w' := by
  have hlen := poolB_len hp
  have R' := R
  obtain ⟨ao', cap', e', ⟨hcap, _⟩, _, hz, hcell⟩ := R'
  simp only [Value.slice.injEq, true_and] at e'
  obtain ⟨rfl, rfl⟩ := e'
  obtain ⟨g, o, rfl, hg, hcell⟩ := hcell (by intro e; subst e; simp at hv)
  obtain ⟨i0, hi, hz0, hz1, hz2⟩ := info_parts Try.infoI2
  go_enter Try.func35, Try.ntmps35
  have hB2 : Below w.heap.size w (w.alloc (Obj.cells #[.slice (some ⟨g, o, none⟩) xs.length cap] 26)) := (Below.refl _ _).alloc (Nat.le_refl _) _
  have hc2 : (w.alloc (Obj.cells #[.slice (some ⟨g, o, none⟩) xs.length cap] 26)).cell? ⟨w.heap.size, 0, none⟩ = some (.slice (some ⟨g, o, none⟩) xs.length cap) := by simp
  have hsz2 : w.heap.size < (w.alloc (Obj.cells #[.slice (some ⟨g, o, none⟩) xs.length cap] 26)).heap.size := by simp
  have HS2 : Hid ((w.alloc (Obj.cells #[.slice (some ⟨g, o, none⟩) xs.length cap] 26)).heap.size = w.heap.size + 1) := by unfold Hid; simp
  go_wp2_with fail
  generalize w.alloc (Obj.cells #[.slice (some ⟨g, o, none⟩) xs.length cap] 26) = w2 at *
  go_loopw [1, 6] (fun q s wr => ∃ (f j : Nat) (acc : List Int), q = .int .i64 j ∧ j < f ∧ acc.length + j ≤ v ∧ Hid (chain xs f j acc = chain xs (v + 1) v []) ∧ wr.ownsRow w2.heap.size 3 1 s acc.length (iv acc) ∧ Below w2.heap.size w2 wr) (fun q _ _ => (intOf q).toNat)
  case atStart => exact ⟨v + 1, v, [], rfl, by omega, by simp, rfl, (by rw [← HS2.out]; exact World.ownsRow_made _ _ 0 (Nat.le_refl _) (by simp) (by simp)), (Below.refl _ _).alloc (Nat.le_refl _) _⟩
  case round =>
    obtain ⟨f, j, acc, rfl, hjf, hal, HC, hown, hb⟩ := hrel
    have hB := hB2.trans (hb.mono hB2.size)
    have hcr := (hb.cell (p := ⟨w.heap.size, 0, none⟩) hsz2).trans hc2
    have hbs := hb.size
    obtain ⟨x, hx⟩ : ∃ x, xs[j]? = some x := ⟨xs[j], by simp [show j < xs.length by omega]⟩
    obtain ⟨c0, c1, c2, c3, c4⟩ := (hcell j x hx).below hB hg
    have hnb := poolB_at hp hx
    clear hcell
    by_cases h5 : x.k = 5
    · have HS : Hid (chain xs f j acc = chain xs (f - 1) x.b.toNat (acc ++ [x.a])) := chain_pair xs f j acc x hx h5 hjf
      have hBB : hasB x.k = true := by unfold hasB; simp [h5]
      have hrb := nodeB_B hnb hBB
      obtain ⟨nb', hnb'⟩ := Int.eq_ofNat_of_zero_le hrb.1
      rw [hnb'] at c4 hrb HS
      have hgn : g ≠ wr.heap.size := by have := hB.size; omega
      have hgl : g < wr.heap.size := by have := hB.size; omega
      have hwl : w.heap.size < wr.heap.size := by omega
      clear hx hnb hBB
      go_wp2_with (at_builtin; refine wpList_append_own _ rfl _ _ 27 rfl w2.heap.size 3 i0 (.int .i64 0) 1 8 Try.underlying27 hi hz0 hz1 hz2 rfl (by decide) _ _ _ rfl (hown.alloc _) ⟨wr.heap.size, 0, none⟩ 1 1 [.int .i64 x.a] rfl rfl (cell_one_new _ _ _) (fun u hu => by simp at hu; subst hu; rfl) (by unfold maxLen; omega) (by omega) (by simp; omega) ?_)
      intro v' w6 hown' hgrow _
      have hown6 : w6.ownsRow w2.heap.size 3 1 v' (acc ++ [x.a]).length (iv (acc ++ [x.a])) := by
        rw [iv_append, List.length_append]
        exact hown'
      have hb6 : Below w2.heap.size w2 w6 := (hb.alloc hbs _).grown hgrow (by simp; omega) (fun j hj => (hown.lt j hj).1)
      have hcr6 := (hb6.cell (p := ⟨w.heap.size, 0, none⟩) hsz2).trans hc2
      have hg6 : w6.cell? ⟨g, o + j * 5 + 4, none⟩ = some (.int .i64 nb') := by
        have hgw2 : g < w2.heap.size := Nat.lt_of_lt_of_le hg hB2.size
        rw [hb6.cell (p := ⟨g, o + j * 5 + 4, none⟩) hgw2, ← hb.cell (p := ⟨g, o + j * 5 + 4, none⟩) hgw2]
        exact c4
      generalize hacc : acc ++ [x.a] = acc' at hown6 HS
      have hal' : acc'.length = acc.length + 1 := by rw [← hacc]; simp
      clear hown' hgrow c0 c1 c2 c3 c4 hcr hown hacc
      go_wp2
      go_roundw
      case rel => exact ⟨f - 1, nb', acc', rfl, by omega, by omega, by unfold Hid; rw [← HC.out, HS.out]; rfl, hown6, hb6⟩
      case measure => simp [intOf]; omega
    · by_cases h1 : x.k = 1
      · have HR : Hid (chainR xs v = (acc, true)) := by unfold Hid chainR; rw [← HC.out, chain_nil xs f j acc x hx h1 hjf]
        clear hx hnb h5
        go_wp2
        go_ret2
        exact ⟨_, by rw [HR.out]; rfl, by rw [HR.out]; exact own_mono hown (by omega), hB⟩
      · have HR : Hid (chainR xs v = ([], false)) := by unfold Hid chainR; rw [← HC.out, chain_none xs f j acc x hx h5 h1 hjf]
        clear hx hnb
        go_wp2
        go_ret2
        exact ⟨_, by rw [HR.out]; rfl, by rw [HR.out]; exact World.ownsRow_made _ _ 0 (by have := hB.size; omega) (by simp) (by simp), hB.alloc hB.size _⟩

set_option maxHeartbeats 400000 in
theorem slistof_out (ao : Option Addr) (cap : Nat) (xs : List Nd) (v : Int) (w : World) (R : NRow w (.slice ao xs.length cap) xs) (h : (poolB xs && hasI xs v) = false) :
    Calls Try.prog 11 #[.agg #[.slice ao xs.length cap], .int .i64 v] w fun e w' => ∃ v', e = .returned (.tuple #[v', .bool false]) ∧ w'.ownsRow w.heap.size 3 1 v' 0 (iv []) ∧ Below w.heap.size w w' := by
  go_enter Try.func11, Try.ntmps11
  go_wp2_with fail
  have hB0 : Below w.heap.size w (w.alloc (Obj.cells #[.slice ao xs.length cap] 26)) := (Below.refl _ _).alloc (Nat.le_refl _) _
  refine (spool_any _ xs _ (R.below hB0)).mono ?_
  rintro e w1 ⟨rfl, hb1⟩
  have hx1 : w1.heap[w.heap.size]? = some (.cells #[.slice ao xs.length cap] 26 (0, 0)) := (hb1.block _ (by simp)).trans (heap_alloc_new _ _)
  have hB1 := hB0.trans (hb1.mono hB0.size)
  have hc1 : w1.cell? ⟨w.heap.size, 0, none⟩ = some (.slice ao xs.length cap) := by rw [cell_of_row w1 _ 0 _ _ _ hx1]; rfl
  clear hB0 hb1 hx1
  cases hp : poolB xs with
  | false =>
    clear h
    go_wp2_with fail
    go_ret2
    exact ⟨_, rfl, World.ownsRow_made _ _ 0 hB1.size (by simp) (by simp), hB1.alloc hB1.size _⟩
  | true =>
    rw [hp, Bool.true_and] at h
    go_wp2_with fail
    refine (shas_all _ xs _ _ (R.below hB1)).mono ?_
    rintro e w2 ⟨rfl, hb2⟩
    rw [h]
    have hB2 := hB1.trans (hb2.mono hB1.size)
    clear hc1 hb2 hB1
    go_wp2_with fail
    go_ret2
    exact ⟨_, rfl, World.ownsRow_made _ _ 0 hB2.size (by simp) (by simp), hB2.alloc hB2.size _⟩

set_option maxHeartbeats 400000 in
theorem slistof_yes (ao : Option Addr) (cap : Nat) (xs : List Nd) (v : Nat) (w : World) (R : NRow w (.slice ao xs.length cap) xs) (hp : poolB xs = true) (hv : v < xs.length) :
    Calls Try.prog 11 #[.agg #[.slice ao xs.length cap], .int .i64 v] w fun e w' => ∃ v', e = .returned (.tuple #[v', .bool (chainR xs v).2]) ∧ w'.ownsRow w.heap.size 3 1 v' (chainR xs v).1.length (iv (chainR xs v).1) ∧ Below w.heap.size w w' := by
  have hI : Hid (hasI xs v = true) := by unfold Hid hasI; simp [hv]
  go_enter Try.func11, Try.ntmps11
  go_wp2_with fail
  have hB0 : Below w.heap.size w (w.alloc (Obj.cells #[.slice ao xs.length cap] 26)) := (Below.refl _ _).alloc (Nat.le_refl _) _
  refine (spool_any _ xs _ (R.below hB0)).mono ?_
  rintro e w1 ⟨rfl, hb1⟩
  have hx1 : w1.heap[w.heap.size]? = some (.cells #[.slice ao xs.length cap] 26 (0, 0)) := (hb1.block _ (by simp)).trans (heap_alloc_new _ _)
  have hB1 := hB0.trans (hb1.mono hB0.size)
  have hc1 : w1.cell? ⟨w.heap.size, 0, none⟩ = some (.slice ao xs.length cap) := by rw [cell_of_row w1 _ 0 _ _ _ hx1]; rfl
  have hsz1 := (Array.getElem?_eq_some_iff.1 hx1).1
  clear hB0 hb1
  rw [hp]
  go_wp2_with fail
  refine (shas_all _ xs _ _ (R.below hB1)).mono ?_
  rintro e w2 ⟨rfl, hb2⟩
  rw [hI.out]
  have hB2 := hB1.trans (hb2.mono hB1.size)
  have hc2 := (hb2.cell (p := ⟨w.heap.size, 0, none⟩) hsz1).trans hc1
  clear hB1 hb2 hc1 hx1 hsz1 hI
  go_wp2_with fail
  refine (slistof_in ao cap xs v _ (R.below hB2) hp hv).mono ?_
  rintro e w3 ⟨v3, rfl, ho3, hb3⟩
  have hB3 := hB2.trans (hb3.mono hB2.size)
  have hs2 := hB2.size
  clear hc2 hb3 hB2
  go_wp2
  go_ret2
  exact ⟨_, rfl, own_mono ho3 hs2, hB3⟩

theorem slistof_any (v : Value) (xs : List Nd) (a : Int) (w : World) (R : NRow w v xs) :
    Calls Try.prog 11 #[.agg #[v], .int .i64 a] w fun e w' => ∃ v', e = .returned (.tuple #[v', .bool (listR xs a).2]) ∧ w'.ownsRow w.heap.size 3 1 v' (listR xs a).1.length (iv (listR xs a).1) ∧ Below w.heap.size w w' := by
  have R' := R
  obtain ⟨ao, cap, rfl, _⟩ := R'
  unfold listR
  cases h : (poolB xs && hasI xs a) with
  | false => exact slistof_out ao cap xs a w R h
  | true =>
    simp only [Bool.and_eq_true, hasI, decide_eq_true_eq] at h
    obtain ⟨n, rfl⟩ := Int.eq_ofNat_of_zero_le h.2.1
    rw [if_pos rfl, Int.toNat_natCast]
    exact slistof_yes ao cap xs n w R h.1 (by omega)
end Go.Proofs.Ytgmijnkdcdgejaa
