/-
  Texts that stood by themselves, laid into one.
-/
import Derived.Test.YtjigbjnahndpiaaSAddM
import Derived.Test.YtjigbjnahndpiaaFirstsM
import Derived.Test.YtjigbjnahndpiaaISameM
import Derived.Test.YtjigbjnahndpiaaPrim3M
/-
  What MakeList makes, and the contracts of impl's hasAll and MakeList.
-/
namespace Go.Proofs.Ytjigbjnahndpiaa
open Go.RowKit

def nilN : Nd := ⟨1, 0, ByteArray.empty, 0, 0⟩
def pairN (z : Int) (last : Nat) : Nd := ⟨5, 0, ByteArray.empty, z, last⟩
/-- The pairs of the values, the last one first, from the node 'last' on. -/
def pairsR : List Int → Nat → List Nd
  | [], _ => []
  | z :: r, last => pairN z last :: pairsR r (last + 1)
theorem pairsR_snoc (r : List Int) (z : Int) (last : Nat) : pairsR (r ++ [z]) last = pairsR r last ++ [pairN z (last + r.length)] := by
  induction r generalizing last with
  | nil => rfl
  | cons y r ih => simp only [List.cons_append, pairsR, ih, List.length_cons]; rw [show last + 1 + r.length = last + (r.length + 1) by omega]
theorem pairsR_length (r : List Int) (last : Nat) : (pairsR r last).length = r.length := by
  induction r generalizing last with
  | nil => rfl
  | cons y r ih => simp [pairsR, ih]
theorem pairsR_ok (r : List Int) (last : Nat) : ∀ x ∈ pairsR r last, x.s.size ≤ maxLen := by
  induction r generalizing last with
  | nil => simp [pairsR]
  | cons y r ih =>
    intro x hx
    simp only [pairsR, List.mem_cons] at hx
    rcases hx with rfl | hx
    · simp [pairN]
    · exact ih _ x hx
/-- The list so far, when the values from m on stand. -/
def more (zs : List Int) (n m : Nat) : List Nd := nilN :: pairsR (zs.drop m).reverse n
theorem more_length (zs : List Int) (n m : Nat) : (more zs n m).length = zs.length - m + 1 := by simp [more, pairsR_length]
theorem more_ok (zs : List Int) (n m : Nat) : ∀ x ∈ more zs n m, x.s.size ≤ maxLen := by
  intro x hx
  simp only [more, List.mem_cons] at hx
  rcases hx with rfl | hx
  · simp [nilN]
  · exact pairsR_ok _ _ x hx
theorem more_step (zs : List Int) (n m : Nat) (h : m < zs.length) : more zs n m = more zs n (m + 1) ++ [pairN zs[m] (n + (zs.length - (m + 1)))] := by
  unfold more
  rw [List.drop_eq_getElem_cons h, List.reverse_cons, pairsR_snoc]
  simp

def allI (xs : List Nd) (zs : List Int) : Bool := zs.all (hasI xs)
/-- What MakeList leaves, and the number that it tells. -/
def mlOk (xs : List Nd) (zs : List Int) : Bool := decide (xs.length + 1 + zs.length ≤ 3000) && allI xs zs
def mlL (xs : List Nd) (zs : List Int) : List Nd := if poolB xs = true then (if mlOk xs zs = true then xs ++ more zs xs.length 0 else xs) else []
def mlI (xs : List Nd) (zs : List Int) : Int := if poolB xs = true then (if mlOk xs zs = true then ((xs.length + zs.length : Nat) : Int) else -1) else -1

theorem all_drop (p : Int → Bool) (zs : List Int) (k : Nat) (h : k < zs.length) : (zs.drop k).all p = (p (zs.getD k 0) && (zs.drop (k + 1)).all p) := by
  rw [List.drop_eq_getElem_cons h, List.all_cons, List.getD_eq_getElem?_getD, List.getElem?_eq_getElem h]
  rfl

set_option maxHeartbeats 800000 in
theorem hasall_any (v vl : Value) (xs : List Nd) (zs : List Int) (w : World) (R : NRow w v xs) (L : IRow w vl zs) :
    Calls Try.prog 31 #[.agg #[v], vl] w fun e w' => e = .returned (.bool (allI xs zs)) ∧ Below w.heap.size w w' := by
  have R' := R
  obtain ⟨ao, cap, rfl, _⟩ := R'
  obtain ⟨al, cl, rfl, hcl, hlm, hcell⟩ := L
  go_enter Try.func31, Try.ntmps31
  go_wp2_with fail
  go_loopw [9] (fun i wr => ∃ k : Nat, k ≤ zs.length ∧ i = .int .i64 k ∧ Hid (allI xs zs = (zs.drop k).all (hasI xs)) ∧ wr.cell? ⟨w.heap.size, 0, none⟩ = some (.slice ao xs.length cap) ∧ w.heap.size < wr.heap.size ∧ Below w.heap.size w wr) (fun i _ => zs.length - (intOf i).toNat)
  case atStart => exact ⟨0, by omega, rfl, by simp [Hid, allI], by simp, by simp, (Below.refl _ _).alloc (Nat.le_refl _) _⟩
  case round =>
    obtain ⟨k, hk, rfl, HA, hbox, hbl, hb⟩ := hrel
    by_cases hlt : k < zs.length
    · obtain ⟨g, o, rfl, hg, hcell⟩ := hcell (by intro e; subst e; simp at hlt)
      have c0 := (hb.cell (p := ⟨g, o + k, none⟩) hg).trans (hcell k hlt)
      have HS : Hid (allI xs zs = (hasI xs (zs.getD k 0) && (zs.drop (k + 1)).all (hasI xs))) := by unfold Hid; rw [HA.out, all_drop _ _ _ hlt]
      clear hcell HA
      generalize zs.getD k 0 = z at c0 HS
      go_wp2_with fail
      refine (has_any _ xs _ _ (R.below hb)).mono ?_
      rintro e w2 ⟨rfl, hb2⟩
      have hB2 := hb.trans (hb2.mono hb.size)
      have hbox2 := (hb2.cell (p := ⟨w.heap.size, 0, none⟩) hbl).trans hbox
      have hbl2 := Nat.lt_of_lt_of_le hbl hb2.size
      clear c0 hb2 hbox hb
      generalize hA : hasI xs z = bA at HS ⊢
      clear hA
      cases bA with
      | false =>
        go_wp2
        go_ret
        exact ⟨by rw [HS.out]; rfl, hB2⟩
      | true =>
        go_wp2
        go_roundw
        case rel => exact ⟨k + 1, by omega, by go_num, by rw [HS.out]; rfl, hbox2, hbl2, hB2⟩
        case measure => simp [intOf]; omega
    · have e : k = zs.length := by omega
      subst e
      have HT : Hid (allI xs zs = true) := by unfold Hid; rw [HA.out, List.drop_length]; rfl
      clear HA
      go_wp2
      go_ret
      exact ⟨by rw [HT.out]; rfl, hb⟩

theorem own_nil1 (w : World) (base : Nat) (hb : base ≤ w.heap.size) :
    (w.alloc (Obj.cells #[.int .i64 1, .int .i64 0, .string ⟨#[]⟩, .int .i64 0, .int .i64 0] 34)).ownsRow base 34 5 (.slice (some ⟨w.heap.size, 0, none⟩) 1 1) 1 (ncs [nilN]) :=
  own_lit1 w nilN base hb
theorem NRow.pair1 (w : World) (z : Int) (last : Nat) : NRow (w.alloc (Obj.cells #[.int .i64 5, .int .i64 0, .string ⟨#[]⟩, .int .i64 z, .int .i64 last] 34)) (.slice (some ⟨w.heap.size, 0, none⟩) 1 1) [pairN z last] :=
  NRow.lit1 w (pairN z last) (by simp [pairN])

theorem wrap_two (a b : Int) (h0 : 0 ≤ a) (h1 : a ≤ 1000000) (h2 : 0 ≤ b) (h3 : b ≤ 1000000) : IntKind.i64.wrap (IntKind.i64.wrap (a + b) - 1) = a + b - 1 := by
  rw [IntKind.wrap_i64, IntKind.wrap_i64]; omega

end Go.Proofs.Ytjigbjnahndpiaa

/-
  What values come to, on impl's side: innerOutcome. Conditions: a right pool, as many nodes of it as are taken.
-/
namespace Go.Proofs.Ytjigbjnahndpiaa
open Go.RowKit

noncomputable def innerOc (xs : List Nd) (n : Int) (zs : List Int) : Oc :=
  if n ≤ 5 then numOc n (xs.getD (zs.getD 0 0).toNat z0) (xs.getD (zs.getD 1 0).toNat z0)
  else if n = 6 then ocMade ⟨5, 0, ByteArray.empty, zs.getD 0 0, zs.getD 1 0⟩
  else if n ≤ 8 then partOc n (xs.getD (zs.getD 0 0).toNat z0)
  else if n = 9 then ocMade (boolNd (decide ((xs.getD (zs.getD 0 0).toNat z0).k = 1)))
  else if n = 10 then ocMade (boolNd (decide ((xs.getD (zs.getD 0 0).toNat z0).k = 5)))
  else if n = 11 then ocMade (boolNd (likeR xs (zs.getD 0 0) (zs.getD 1 0)))
  else ocMade (boolNd (decide ((xs.getD (zs.getD 0 0).toNat z0).k = 2) && decide ((xs.getD (zs.getD 0 0).toNat z0).n = 0)))

theorem seven {w : World} {b : Nat} {t : TypeId} {u0 u1 u2 u3 u4 u5 u6 : Value} (h : w.heap[b]? = some (.cells #[u0, u1, u2, u3, u4, u5, u6] t (0, 0))) :
    w.cell? ⟨b, 0, none⟩ = some u0 ∧ w.cell? ⟨b, 1, none⟩ = some u1 ∧ w.cell? ⟨b, 2, none⟩ = some u2 ∧ w.cell? ⟨b, 3, none⟩ = some u3 ∧ w.cell? ⟨b, 4, none⟩ = some u4 ∧ w.cell? ⟨b, 5, none⟩ = some u5 ∧ w.cell? ⟨b, 6, none⟩ = some u6 ∧
    w.frozen? ⟨b, 0, none⟩ = false ∧ w.frozen? ⟨b, 1, none⟩ = false ∧ w.frozen? ⟨b, 2, none⟩ = false ∧ w.frozen? ⟨b, 3, none⟩ = false ∧ w.frozen? ⟨b, 4, none⟩ = false ∧ w.frozen? ⟨b, 5, none⟩ = false ∧ w.frozen? ⟨b, 6, none⟩ = false :=
  ⟨cell_of_row w b 0 _ _ _ h, cell_of_row w b 1 _ _ _ h, cell_of_row w b 2 _ _ _ h, cell_of_row w b 3 _ _ _ h, cell_of_row w b 4 _ _ _ h, cell_of_row w b 5 _ _ _ h, cell_of_row w b 6 _ _ _ h,
    frozen_of_row w b 0 _ _ h, frozen_of_row w b 1 _ _ h, frozen_of_row w b 2 _ _ h, frozen_of_row w b 3 _ _ h, frozen_of_row w b 4 _ _ h, frozen_of_row w b 5 _ _ h, frozen_of_row w b 6 _ _ h⟩

theorem put7 {w : World} {b B : Nat} {t : TypeId} {u0 u1 u2 u3 u4 u5 u6 : Value} (h : w.heap[b]? = some (.cells #[u0, u1, u2, u3, u4, u5, u6] t (0, 0))) (hB : B ≤ b) (v0 v1 v2 v3 v4 v5 v6 : Value) :
    (((((((w.setCell ⟨b, 0, none⟩ v0).setCell ⟨b, 1, none⟩ v1).setCell ⟨b, 2, none⟩ v2).setCell ⟨b, 3, none⟩ v3).setCell ⟨b, 4, none⟩ v4).setCell ⟨b, 5, none⟩ v5).setCell ⟨b, 6, none⟩ v6).heap[b]? = some (.cells #[v0, v1, v2, v3, v4, v5, v6] t (0, 0)) ∧
    Below B w (((((((w.setCell ⟨b, 0, none⟩ v0).setCell ⟨b, 1, none⟩ v1).setCell ⟨b, 2, none⟩ v2).setCell ⟨b, 3, none⟩ v3).setCell ⟨b, 4, none⟩ v4).setCell ⟨b, 5, none⟩ v5).setCell ⟨b, 6, none⟩ v6) := by
  have b0 : Below B w w := Below.refl B w
  have q0 : (w.setCell ⟨b, 0, none⟩ v0).heap[b]? = some (.cells #[v0, u1, u2, u3, u4, u5, u6] t (0, 0)) := heap_setCell_same w b 0 _ _ v0 h
  have b1 : Below B w (w.setCell ⟨b, 0, none⟩ v0) := b0.setCell (p := ⟨b, 0, none⟩) hB _
  generalize w.setCell ⟨b, 0, none⟩ v0 = x0 at *
  have q1 : (x0.setCell ⟨b, 1, none⟩ v1).heap[b]? = some (.cells #[v0, v1, u2, u3, u4, u5, u6] t (0, 0)) := heap_setCell_same x0 b 1 _ _ v1 q0
  have b2 : Below B w (x0.setCell ⟨b, 1, none⟩ v1) := b1.setCell (p := ⟨b, 1, none⟩) hB _
  generalize x0.setCell ⟨b, 1, none⟩ v1 = x1 at *
  have q2 : (x1.setCell ⟨b, 2, none⟩ v2).heap[b]? = some (.cells #[v0, v1, v2, u3, u4, u5, u6] t (0, 0)) := heap_setCell_same x1 b 2 _ _ v2 q1
  have b3 : Below B w (x1.setCell ⟨b, 2, none⟩ v2) := b2.setCell (p := ⟨b, 2, none⟩) hB _
  generalize x1.setCell ⟨b, 2, none⟩ v2 = x2 at *
  have q3 : (x2.setCell ⟨b, 3, none⟩ v3).heap[b]? = some (.cells #[v0, v1, v2, v3, u4, u5, u6] t (0, 0)) := heap_setCell_same x2 b 3 _ _ v3 q2
  have b4 : Below B w (x2.setCell ⟨b, 3, none⟩ v3) := b3.setCell (p := ⟨b, 3, none⟩) hB _
  generalize x2.setCell ⟨b, 3, none⟩ v3 = x3 at *
  have q4 : (x3.setCell ⟨b, 4, none⟩ v4).heap[b]? = some (.cells #[v0, v1, v2, v3, v4, u5, u6] t (0, 0)) := heap_setCell_same x3 b 4 _ _ v4 q3
  have b5 : Below B w (x3.setCell ⟨b, 4, none⟩ v4) := b4.setCell (p := ⟨b, 4, none⟩) hB _
  generalize x3.setCell ⟨b, 4, none⟩ v4 = x4 at *
  have q5 : (x4.setCell ⟨b, 5, none⟩ v5).heap[b]? = some (.cells #[v0, v1, v2, v3, v4, v5, u6] t (0, 0)) := heap_setCell_same x4 b 5 _ _ v5 q4
  have b6 : Below B w (x4.setCell ⟨b, 5, none⟩ v5) := b5.setCell (p := ⟨b, 5, none⟩) hB _
  generalize x4.setCell ⟨b, 5, none⟩ v5 = x5 at *
  have q6 : (x5.setCell ⟨b, 6, none⟩ v6).heap[b]? = some (.cells #[v0, v1, v2, v3, v4, v5, v6] t (0, 0)) := heap_setCell_same x5 b 6 _ _ v6 q5
  have b7 : Below B w (x5.setCell ⟨b, 6, none⟩ v6) := b6.setCell (p := ⟨b, 6, none⟩) hB _
  generalize x5.setCell ⟨b, 6, none⟩ v6 = x6 at *
  exact ⟨q6, b7⟩
end Go.Proofs.Ytjigbjnahndpiaa

/-
  innerOutcome, number 1. Conditions: a right pool, as many nodes of it as are taken.
-/
namespace Go.Proofs.Ytjigbjnahndpiaa
open Go.RowKit

set_option maxRecDepth 100000 in
set_option maxHeartbeats 6400000 in
theorem iinner_num1 (v vl : Value) (xs : List Nd) (zs : List Int) (w : World) (R : NRow w v xs) (L : IRow w vl zs) (hp : poolB xs = true) (ha : allI xs zs = true) (hl : (zs.length : Int) = primArgsR 1) :
    Calls Try.prog 52 #[.agg #[v], .int .i64 1, vl] w fun e w' => e = .returned (.agg (innerOc xs 1 zs).cs) ∧ Below w.heap.size w w' := by
  have R' := R
  obtain ⟨ao, cap, rfl, hcap, hm, hz, hcell⟩ := R'
  have L' := L
  obtain ⟨al, capl, rfl, hcapl, hml, hcelll⟩ := L'
  have hz1 : 1 ≤ zs.length := by
    simp [primArgsR, prims] at hl; omega
  obtain ⟨gl, ol, rfl, hgl, hcl⟩ := hcelll (by intro e; subst e; simp at hz1)
  have hall : ∀ i, i < zs.length → hasI xs (zs.getD i 0) = true := fun i hi => by
    unfold allI at ha
    rw [List.all_eq_true] at ha
    exact ha _ (by rw [List.getD_eq_getElem?_getD, List.getElem?_eq_getElem hi]; exact List.getElem_mem hi)
  have hA0 := hall 0 (by omega)
  have hA0' := hA0
  have c0 := hcl 0 (by omega)
  simp only [hasI, Bool.and_eq_true, decide_eq_true_eq] at hA0'
  obtain ⟨a0, e0⟩ : ∃ a0 : Nat, zs.getD 0 0 = a0 := ⟨(zs.getD 0 0).toNat, by omega⟩
  rw [e0] at hA0' hA0 c0
  have hlt0 : a0 < xs.length := by omega
  obtain ⟨g, o, rfl, hg, hnode⟩ := hcell (by intro e; subst e; simp at hlt0)
  obtain ⟨x, hx⟩ : ∃ x, xs[a0]? = some x := ⟨xs[a0], by simp [hlt0]⟩
  have hn0 := hnode a0 x hx
  have hxz := hz x (List.mem_of_getElem? hx)
  have HX : Hid (xs.getD (zs.getD 0 0).toNat z0 = x) := by unfold Hid; rw [e0, List.getD_eq_getElem?_getD]; simp [hx]
  have hB0 : Below w.heap.size w ((w.alloc (Obj.cells #[.slice (some ⟨g, o, none⟩) xs.length cap] 26)).alloc (Obj.cells #[.int .i64 0, .int .i64 0, .int .i64 0, .string ⟨#[]⟩, .int .i64 0, .int .i64 0, .int .i64 0] 61)) := below2 _ _ _
  rw [Nat.add_zero] at c0
  have hbx0 := old2 w (Obj.cells #[.slice (some ⟨g, o, none⟩) xs.length cap] 26) (Obj.cells #[.int .i64 0, .int .i64 0, .int .i64 0, .string ⟨#[]⟩, .int .i64 0, .int .i64 0, .int .i64 0] 61)
  have hbx1 := heap_alloc2_new w (Obj.cells #[.slice (some ⟨g, o, none⟩) xs.length cap] 26) (Obj.cells #[.int .i64 0, .int .i64 0, .int .i64 0, .string ⟨#[]⟩, .int .i64 0, .int .i64 0, .int .i64 0] 61)
  have hc0 := (hB0.cell (p := ⟨gl, ol, none⟩) hgl).trans c0
  obtain ⟨d0, d1, d2, d3, d4⟩ := hn0.below hB0 hg
  clear hcell hcelll
  go_enter Try.func52, Try.ntmps52
  go_wp2_with fail
  generalize (w.alloc (Obj.cells #[.slice (some ⟨g, o, none⟩) xs.length cap] 26)).alloc (Obj.cells #[.int .i64 0, .int .i64 0, .int .i64 0, .string ⟨#[]⟩, .int .i64 0, .int .i64 0, .int .i64 0] 61) = w1 at *
  have hp0 : w1.cell? ⟨w.heap.size, 0, none⟩ = some (.slice (some ⟨g, o, none⟩) xs.length cap) := by rw [cell_of_row w1 _ 0 _ _ _ hbx0]; rfl
  have hs0 := (Array.getElem?_eq_some_iff.1 hbx0).1
  have hs1 := (Array.getElem?_eq_some_iff.1 hbx1).1
  have hgl1 : gl < w1.heap.size := by omega
  have hg1 : g < w1.heap.size := by omega
  go_region
  have hB2 : Below w.heap.size w (w1.alloc (Obj.cells #[.int .i64 x.k, .int .i64 x.n, .string x.s, .int .i64 x.a, .int .i64 x.b] 34)).drew := (hB0.alloc hB0.size _).drew
  have hbx2 := heap_alloc_new w1 (Obj.cells #[.int .i64 x.k, .int .i64 x.n, .string x.s, .int .i64 x.a, .int .i64 x.b] 34)
  have hr2 := (heap_alloc_old w1 (Obj.cells #[.int .i64 x.k, .int .i64 x.n, .string x.s, .int .i64 x.a, .int .i64 x.b] 34) hs1).trans hbx1
  have hp2 := (heap_alloc_old w1 (Obj.cells #[.int .i64 x.k, .int .i64 x.n, .string x.s, .int .i64 x.a, .int .i64 x.b] 34) hs0).trans hbx0
  replace hbx2 : (w1.alloc (Obj.cells #[.int .i64 x.k, .int .i64 x.n, .string x.s, .int .i64 x.a, .int .i64 x.b] 34)).drew.heap[w1.heap.size]? = _ := hbx2
  replace hr2 : (w1.alloc (Obj.cells #[.int .i64 x.k, .int .i64 x.n, .string x.s, .int .i64 x.a, .int .i64 x.b] 34)).drew.heap[w.heap.size + 1]? = _ := hr2
  replace hp2 : (w1.alloc (Obj.cells #[.int .i64 x.k, .int .i64 x.n, .string x.s, .int .i64 x.a, .int .i64 x.b] 34)).drew.heap[w.heap.size]? = _ := hp2
  clear hc0 hp0 d0 d1 d2 d3 d4 hbx0 hbx1
  generalize (w1.alloc (Obj.cells #[.int .i64 x.k, .int .i64 x.n, .string x.s, .int .i64 x.a, .int .i64 x.b] 34)).drew = w2 at *
  have R2 := R.below hB2
  have L2 := L.below hB2
  have hc0 := (hB2.cell (p := ⟨gl, ol, none⟩) hgl).trans c0
  have hp0 : w2.cell? ⟨w.heap.size, 0, none⟩ = some (.slice (some ⟨g, o, none⟩) xs.length cap) := by rw [cell_of_row w2 _ 0 _ _ _ hp2]; rfl
  have hsr := (Array.getElem?_eq_some_iff.1 hr2).1
  have hz2 : zs.length = 2 := by
    simp [primArgsR, prims] at hl; omega
  have hA1 := hall 1 (by omega)
  have hA1' := hA1
  have c1 := hcl 1 (by omega)
  simp only [hasI, Bool.and_eq_true, decide_eq_true_eq] at hA1'
  obtain ⟨a1, e1⟩ : ∃ a1 : Nat, zs.getD 1 0 = a1 := ⟨(zs.getD 1 0).toNat, by omega⟩
  rw [e1] at hA1' hA1 c1
  have hlt1 : a1 < xs.length := by omega
  have hc1 := (hB2.cell (p := ⟨gl, ol + 1, none⟩) hgl).trans c1
  obtain ⟨y, hy⟩ : ∃ y, xs[a1]? = some y := ⟨xs[a1], by simp [hlt1]⟩
  have hn1 := hnode a1 y hy
  have hyz := hz y (List.mem_of_getElem? hy)
  have HR : Hid (innerOc xs 1 zs = numOc 1 x y) := by
    unfold Hid innerOc
    rw [if_pos (by omega), HX.out, e1, List.getD_eq_getElem?_getD]
    simp [hy]
  obtain ⟨f0, f1, f2, f3, f4⟩ := hn1.below hB2 hg
  clear hnode hcl hall
  have hxn := nodeB_N (poolB_at hp hx)
  have hyn := nodeB_N (poolB_at hp hy)
  have k0 : w2.cell? ⟨w1.heap.size, 0, none⟩ = some (.int .i64 x.k) := by rw [cell_of_row w2 _ 0 _ _ _ hbx2]; rfl
  have k1 : w2.cell? ⟨w1.heap.size, 1, none⟩ = some (.int .i64 x.n) := by rw [cell_of_row w2 _ 1 _ _ _ hbx2]; rfl
  have k2 : w2.cell? ⟨w1.heap.size, 2, none⟩ = some (.string x.s) := by rw [cell_of_row w2 _ 2 _ _ _ hbx2]; rfl
  have k3 : w2.cell? ⟨w1.heap.size, 3, none⟩ = some (.int .i64 x.a) := by rw [cell_of_row w2 _ 3 _ _ _ hbx2]; rfl
  have k4 : w2.cell? ⟨w1.heap.size, 4, none⟩ = some (.int .i64 x.b) := by rw [cell_of_row w2 _ 4 _ _ _ hbx2]; rfl
  clear hp ha hl hm hz R L hx hy HX R2 L2 hA0 hA1 hn0 hn1
  go_wp2_with fail
  go_region_with (go_at_call 66; refine (inumout_any _ x y _ hxn hyn).mono ?_; rintro e w3 ⟨rfl, hb3⟩; have hb3' : Below w2.heap.size w2 w3 := (Below.refl _ _).drew.trans hb3; generalize numOc _ x y = oc at HR ⊢; simp only [Oc.cs]; have hr3 := (hb3'.block _ hsr).trans hr2; obtain ⟨y0, y1, y2, y3, y4, y5, y6, z0', z1, z2, z3, z4, z5, z6⟩ := seven hr3)
  all_goals
    obtain ⟨p1, p2⟩ := put7 hr3 (Nat.le_succ w.heap.size) (.int .i64 oc.how) (.int .i64 oc.nd.k) (.int .i64 oc.nd.n) (.string oc.nd.s) (.int .i64 oc.nd.a) (.int .i64 oc.nd.b) (.int .i64 oc.there)
    have hB3 : Below w.heap.size w w3 := hB2.trans (hb3'.mono hB2.size)
    go_wp2
    exact bodyPost_ret (results_cell_row rfl _ _ (w.heap.size + 1) 61 _ (0, 0) _ rfl p1 Try.underlying61 rfl Try.sizeOc) rfl ⟨by rw [HR.out]; rfl, hB3.trans p2⟩
end Go.Proofs.Ytjigbjnahndpiaa
