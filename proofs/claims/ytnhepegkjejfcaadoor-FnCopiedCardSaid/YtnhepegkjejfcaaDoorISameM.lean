/-
  Texts that stood by themselves, laid into one.
-/
import Derived.Test.YtnhepegkjejfcaaDoorKeyM
import Derived.Test.YtnhepegkjejfcaaDoorGrowM
import Derived.Test.YtnhepegkjejfcaaDoorRcMath2M
import Derived.Test.YtnhepegkjejfcaaDoorIntsM
import Derived.OneCell
/-
  Contract of impl's withParts: a node with its parts where they are told to be. Conditions: the node's kind is one, its parts are told of.
-/
namespace Go.Proofs.YtnhepegkjejfcaaDoor
open Go.RowKit

theorem Tryd.sizeNW : (Tryd.prog.info? 40).map (·.size) = some 5 := by kernel_rfl

set_option maxRecDepth 100000 in
set_option maxHeartbeats 1600000 in
theorem withparts_any (x : Nd) (B n : Nat) (l : List Int) (w : World) (hkd : 1 ≤ x.k ∧ x.k ≤ 9) (hA : hasA x.k = true → 0 ≤ x.a ∧ x.a < n) (hB : hasB x.k = true → 0 ≤ x.b ∧ x.b < n) (hl : ∀ i, i < n → w.cell? ⟨B, i, none⟩ = some (.int .i64 (l.getD i 0))) (hBw : B < w.heap.size) :
    Calls Tryd.prog 40 #[.agg #[.int .i64 x.k, .int .i64 x.n, .string x.s, .int .i64 x.a, .int .i64 x.b], .slice (some ⟨B, 0, none⟩) n n] w fun e w' => e = .returned (.agg #[.int .i64 x.k, .int .i64 x.n, .string x.s, .int .i64 (nrm l x).a, .int .i64 (nrm l x).b]) ∧ Below w.heap.size w w' := by
  go_enter Tryd.func40, Tryd.ntmps40
  go_wp2_with fail
  refine (shapeof_any x.k _).mono ?_
  rintro e w4 ⟨rfl, hb4⟩
  rw [shapeV, if_pos hkd]
  have hbox := (hb4.block w.heap.size (by simp; omega)).trans (old2 _ _ _)
  have hres := (hb4.block (w.heap.size + 1) (by simp)).trans (heap_alloc2_new _ _ _)
  have hB4 : Below w.heap.size w w4 := (below2 w _ _).trans (hb4.mono (by simp; omega))
  have hw4 : w.heap.size + 1 < w4.heap.size := (Array.getElem?_eq_some_iff.1 hres).1
  have hcellN : ∀ j, w4.cell? ⟨w.heap.size, j, none⟩ = #[Value.int .i64 x.k, .int .i64 x.n, .string x.s, .int .i64 x.a, .int .i64 x.b][j]? := fun j => cell_of_row w4 _ j _ _ _ hbox
  have hfrN : ∀ j, w4.frozen? ⟨w.heap.size, j, none⟩ = false := fun j => frozen_of_row w4 _ j _ _ hbox
  have d0 := hcellN 0
  have d1 := hcellN 1
  have d2 := hcellN 2
  have d3 := hcellN 3
  have d4 := hcellN 4
  simp only [List.getElem?_toArray, List.getElem?_cons_succ, List.getElem?_cons_zero] at d0 d1 d2 d3 d4
  have f3 := hfrN 3
  have f4 := hfrN 4
  have hne : w.heap.size ≠ w.heap.size + 1 := by omega
  have hw5 : w.heap.size < w4.heap.size := by omega
  have hBw5 : B < w4.heap.size := by omega
  have hneB : B ≠ w.heap.size := by omega
  have hl4 : ∀ i, i < n → w4.cell? ⟨B, i, none⟩ = some (.int .i64 (l.getD i 0)) := fun i hi => (hB4.cell (p := ⟨B, i, none⟩) hBw).trans (hl i hi)
  clear hcellN hfrN hb4 hl
  cases hAb : hasA x.k with
  | false =>
    have hBb : hasB x.k = false := by
      unfold hasA at hAb; unfold hasB
      simp only [decide_eq_false_iff_not] at hAb ⊢
      omega
    have HN : Hid ((nrm l x).a = x.a ∧ (nrm l x).b = x.b) := by unfold Hid nrm; rw [hAb, hBb]; exact ⟨rfl, rfl⟩
    rw [hBb]
    clear hA hB hl4
    go_wp2_with (refine wpList_store_own rfl 40 _ _ rfl (w.heap.size + 1) #[.int .i64 x.k, .int .i64 x.n, .string x.s, .int .i64 x.a, .int .i64 x.b] rfl rfl 40 _ ((heap_alloc_old _ _ hw4).trans hres) Tryd.sizeNW rfl (by simp [Value.oneCell']) ?_)
    intro w6 hh6 hb6 hs6
    have hB6 : Below w.heap.size w w6 := (hB4.alloc hB4.size _).trans (hb6.mono (by omega))
    go_wp2
    exact bodyPost_ret (results_cell_row rfl _ _ (w.heap.size + 1) 40 _ (0, 0) _ rfl hh6 Tryd.underlying40 rfl Tryd.sizeNW) rfl ⟨by rw [HN.out.1, HN.out.2], hB6⟩
  | true => 
    obtain ⟨ha1, ha2⟩ := hA hAb
    obtain ⟨na, hna⟩ := Int.eq_ofNat_of_zero_le ha1
    have HA : Hid ((nrm l x).a = l.getD na 0) := by unfold Hid nrm; rw [hAb, hna]; rfl
    rw [hna] at d3 ha2
    have ea := hl4 na (by omega)
    generalize l.getD na 0 = fa at ea HA
    cases hBb : hasB x.k with
    | false => 
      have hres1 := (Below.heap_setCell w4 ⟨w.heap.size, 3, none⟩ (.int .i64 fa) (w.heap.size + 1) (by simp)).trans hres
      have hB41 := hB4.setCell (p := ⟨w.heap.size, 3, none⟩) (by simp) (.int .i64 fa)
      have HB : Hid ((nrm l x).b = x.b) := by unfold Hid nrm; rw [hBb]; rfl
      clear hA hB hl4
      go_wp2_with (refine wpList_store_own rfl 40 _ _ rfl (w.heap.size + 1) #[.int .i64 x.k, .int .i64 x.n, .string x.s, .int .i64 fa, .int .i64 x.b] rfl rfl 40 _ ((heap_alloc_old _ _ (by simpa using hw4)).trans hres1) Tryd.sizeNW rfl (by simp [Value.oneCell']) ?_)
      intro w6 hh6 hb6 hs6
      have hB6 : Below w.heap.size w w6 := (hB41.alloc (by simpa using hB4.size) _).trans (hb6.mono (by omega))
      go_wp2
      exact bodyPost_ret (results_cell_row rfl _ _ (w.heap.size + 1) 40 _ (0, 0) _ rfl hh6 Tryd.underlying40 rfl Tryd.sizeNW) rfl ⟨by rw [HA.out, HB.out], hB6⟩
    | true => 
      obtain ⟨hb1, hb2⟩ := hB hBb
      obtain ⟨nb', hnb⟩ := Int.eq_ofNat_of_zero_le hb1
      have HB : Hid ((nrm l x).b = l.getD nb' 0) := by unfold Hid nrm; rw [hBb, hnb]; rfl
      rw [hnb] at d4 hb2
      have eb := hl4 nb' (by omega)
      generalize l.getD nb' 0 = fb at eb HB
      have hres1 := (Below.heap_setCell w4 ⟨w.heap.size, 3, none⟩ (.int .i64 fa) (w.heap.size + 1) (by simp)).trans hres
      have hres2 := (Below.heap_setCell (w4.setCell ⟨w.heap.size, 3, none⟩ (.int .i64 fa)) ⟨w.heap.size, 4, none⟩ (.int .i64 fb) (w.heap.size + 1) (by simp)).trans hres1
      have hB42 := (hB4.setCell (p := ⟨w.heap.size, 3, none⟩) (by simp) (.int .i64 fa)).setCell (p := ⟨w.heap.size, 4, none⟩) (by simp) (.int .i64 fb)
      clear hres1
      clear hA hB hl4
      go_wp2_with (refine wpList_store_own rfl 40 _ _ rfl (w.heap.size + 1) #[.int .i64 x.k, .int .i64 x.n, .string x.s, .int .i64 fa, .int .i64 fb] rfl rfl 40 _ ((heap_alloc_old _ _ (by simpa using hw4)).trans hres2) Tryd.sizeNW rfl (by simp [Value.oneCell']) ?_)
      intro w6 hh6 hb6 hs6
      have hB6 : Below w.heap.size w w6 := (hB42.alloc (by simpa using hB4.size) _).trans (hb6.mono (by omega))
      go_wp2
      exact bodyPost_ret (results_cell_row rfl _ _ (w.heap.size + 1) 40 _ (0, 0) _ rfl hh6 Tryd.underlying40 rfl Tryd.sizeNW) rfl ⟨by rw [HA.out, HB.out], hB6⟩

end Go.Proofs.YtnhepegkjejfcaaDoor

/-
  Contract of impl.firstsAlike: for each node the first one that is alike.
-/
namespace Go.Proofs.YtnhepegkjejfcaaDoor
open Go.RowKit Go.Maps

theorem Tryd.infoI4 : (Tryd.prog.info? 3).map (fun i => (i.zero, i.size, i.bytes)) = some (some (.int .i64 0), 1, 8) := by kernel_rfl
def padI (l : List Int) (n : Nat) : List Int := l ++ List.replicate (n - l.length) 0
theorem padI_length (l : List Int) (n : Nat) (h : l.length ≤ n) : (padI l n).length = n := by simp [padI]; omega
theorem padI_nil (n : Nat) : iv (padI [] n) = (madeCells #[Value.int .i64 0] n).toList := by rw [toList_madeCells_one]; simp [padI, iv]
theorem padI_get (l : List Int) (n i : Nat) (h : i < l.length) : (padI l n).getD i 0 = l.getD i 0 := by
  unfold padI
  simp only [List.getD_eq_getElem?_getD]
  rw [List.getElem?_append_left h]
theorem padI_set (l : List Int) (n k : Nat) (z : Int) (hk : l.length = k) (h : k < n) : (padI l n).set k z = padI (l ++ [z]) n := by
  subst hk
  unfold padI
  rw [show n - l.length = n - (l ++ [z]).length + 1 by simp; omega, List.replicate_succ, List.set_append_right _ _ (Nat.le_refl _), Nat.sub_self, List.set_cons_zero, List.append_assoc]
  rfl
theorem padI_full (l : List Int) : padI l l.length = l := by simp [padI]
theorem zeroI (w : World) : (zeroValue 3).run Tryd.prog w = .ok (.int .i64 0) w := by kernel_rfl

theorem fb_get {l : List Int} {k : Nat} (h : ∀ f ∈ l, 0 ≤ f ∧ f ≤ k) (i : Nat) (hi : i < l.length) : 0 ≤ l.getD i 0 ∧ l.getD i 0 ≤ k := by
  rw [List.getD_eq_getElem?_getD, List.getElem?_eq_getElem hi]
  exact h _ (List.getElem_mem _)
theorem nodeB_N {x : Nd} {n : Int} (h : nodeB x n = true) : -1000000000 ≤ x.n ∧ x.n ≤ 1000000000 := by
  simp only [nodeB, Bool.and_eq_true, decide_eq_true_eq] at h
  have h1 := h.1.1.2
  have h2 := h.1.2
  unfold lo at h1
  unfold Go.Proofs.YtnhepegkjejfcaaDoor.hi at h2
  constructor
  · split at h1 <;> omega
  · split at h2
    · omega
    · split at h2
      · omega
      · split at h2 <;> omega
theorem nodeB_A0 {x : Nd} {n : Int} (h : nodeB x n = true) (ha : hasA x.k = false) : x.a = 0 := by
  simp only [nodeB, Bool.and_eq_true, decide_eq_true_eq] at h
  have := h.2.1.2
  rw [ha] at this
  simpa [partB] using this
theorem nodeB_B0 {x : Nd} {n : Int} (h : nodeB x n = true) (ha : hasB x.k = false) : x.b = 0 := by
  simp only [nodeB, Bool.and_eq_true, decide_eq_true_eq] at h
  have := h.2.2
  rw [ha] at this
  simpa [partB] using this

end Go.Proofs.YtnhepegkjejfcaaDoor

/-
  Contract of impl.Same.
-/
namespace Go.Proofs.YtnhepegkjejfcaaDoor
open Go.RowKit Go.Maps

theorem cls_prefix (b ks : List Nd) (fs : List Int) (i : Nat) (h : i < fs.length) : (cls b ks fs).2.getD i 0 = fs.getD i 0 := by
  induction b generalizing ks fs with
  | nil => rfl
  | cons y b ih =>
    simp only [cls]
    rw [ih _ _ (by simp; omega)]
    simp only [List.getD_eq_getElem?_getD]
    rw [List.getElem?_append_left h]
theorem firstsTo_prefix (xs : List Nd) (k i : Nat) (hk : k ≤ xs.length) (hi : i < k) : (firstsTo xs xs.length).getD i 0 = (firstsTo xs k).getD i 0 := by
  have hl := firstsTo_length xs k hk
  have e : firstsTo xs xs.length = (cls (xs.drop k) (keysTo xs k) (firstsTo xs k)).2 := by
    unfold firstsTo keysTo
    rw [List.take_length, ← cls_append, List.take_append_drop]
  rw [e]
  exact cls_prefix _ _ _ i (by omega)
theorem firstsTo_take (xs : List Nd) (n : Nat) : firstsTo (xs.take n) (xs.take n).length = firstsTo xs n := by
  unfold firstsTo
  rw [List.take_length]
theorem NRow.take {w : World} {ao : Option Addr} {cap : Nat} {xs : List Nd} (R : NRow w (.slice ao xs.length cap) xs) (n : Nat) (h : n ≤ xs.length) : NRow w (.slice ao (xs.take n).length cap) (xs.take n) := by
  obtain ⟨ao', cap', e', ⟨h1, h2⟩, hm, hz, hcell⟩ := R
  simp only [Value.slice.injEq, true_and] at e'
  obtain ⟨rfl, rfl⟩ := e'
  have hl : (xs.take n).length = n := by simp; omega
  refine ⟨ao, cap, rfl, ⟨by omega, h2⟩, by omega, fun x hx => hz x (List.mem_of_mem_take hx), fun hne => ?_⟩
  obtain ⟨g, o, e, hg, hc⟩ := hcell (by intro e; subst e; simp at hne)
  refine ⟨g, o, e, hg, fun i x hi => hc i x ?_⟩
  rw [List.getElem?_take] at hi
  split at hi
  · exact hi
  · cases hi

/-- What Same answers. -/
noncomputable def sameR (xs : List Nd) (a b : Int) : Bool := poolB xs && hasI xs a && hasI xs b && ((firstsTo xs xs.length).getD a.toNat 0 == (firstsTo xs xs.length).getD b.toNat 0)

/-- The same of two nodes of a pool that is right. -/
noncomputable def likeR (xs : List Nd) (a b : Int) : Bool := (firstsTo xs xs.length).getD a.toNat 0 == (firstsTo xs xs.length).getD b.toNat 0
theorem sameR_like {xs : List Nd} {a b : Int} (hp : poolB xs = true) (ha : hasI xs a = true) (hb : hasI xs b = true) : sameR xs a b = likeR xs a b := by
  unfold sameR likeR
  rw [hp, ha, hb]
  simp

end Go.Proofs.YtnhepegkjejfcaaDoor
