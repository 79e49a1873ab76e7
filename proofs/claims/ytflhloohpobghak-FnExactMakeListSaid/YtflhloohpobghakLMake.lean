/-
  The law FnExactMake, walked: at every argument the law returns true.
-/
import Derived.Test.YtflhloohpobghakSMake
import Derived.Test.YtflhloohpobghakTo2
import Derived.Test.YtflhloohpobghakMark2
import Derived.Deep.CutRange
import Derived.Deep.DeepCutAuto
import Derived.Deep.RegionHeld
namespace Go.Proofs.Ytflhloohpobghak
open Go.RowKit

/-- What a pool's variable holds: at block b, a slice whose row lies between lo and hi and reads as xs. -/
def Var (w : World) (b lo hi : Nat) (v : Value) (xs : List Nd) : Prop :=
  w.heap[b]? = some (.cells #[v] 30 (0, 0)) ∧ w.ownsRow lo 39 5 v xs.length (ncs xs) ∧ (∀ k, v.ownBlock = some k → k < hi) ∧ hi ≤ w.heap.size

theorem Var.put {w w2 w5 : World} {b lo n c : Nat} {ao : Option Addr} {L : List Nd} (hB2 : Below w.heap.size w w2) (h25 : Below w2.heap.size w2 w5) (q5 : w5.heap[b]? = some (.cells #[.slice none 0 0] 30 (0, 0)))
    (ho : w5.ownsRow lo 39 5 (.slice ao n c) L.length (ncs L)) (hb : w2.heap.size ≤ b) :
    Var (w5.setCell ⟨b, 0, none⟩ (.slice ao n c)) b lo (w5.setCell ⟨b, 0, none⟩ (.slice ao n c)).heap.size (.slice ao n c) L ∧ Below w.heap.size w (w5.setCell ⟨b, 0, none⟩ (.slice ao n c)) ∧ Below w2.heap.size w2 (w5.setCell ⟨b, 0, none⟩ (.slice ao n c)) := by
  have h2 := h25.setCell (p := ⟨b, 0, none⟩) hb (.slice ao n c)
  have o2 := ownsRow_setCell_other ho (a := ⟨b, 0, none⟩) (own_ne ho q5 (by decide)) (.slice ao n c)
  exact ⟨⟨heap_setCell_same w5 b 0 _ _ _ q5, o2, fun k hk => (o2.lt k hk).2, Nat.le_refl _⟩, hB2.trans (h2.mono hB2.size), h2⟩
theorem Var.new {w w2 w5 : World} {lo n c : Nat} {ao : Option Addr} {L : List Nd} (hB2 : Below w.heap.size w w2) (h25 : Below w2.heap.size w2 w5) (ho : w5.ownsRow lo 39 5 (.slice ao n c) L.length (ncs L)) :
    Var (w5.alloc (.cells #[.slice ao n c] 30)) w5.heap.size lo (w5.alloc (.cells #[.slice ao n c] 30)).heap.size (.slice ao n c) L ∧ Below w.heap.size w (w5.alloc (.cells #[.slice ao n c] 30)) ∧ Below w2.heap.size w2 (w5.alloc (.cells #[.slice ao n c] 30)) := by
  have h2 := h25.alloc h25.size (.cells #[.slice ao n c] 30)
  exact ⟨⟨heap_alloc_new _ _, ho.alloc _, fun k hk => ((ho.alloc _).lt k hk).2, Nat.le_refl _⟩, hB2.trans (h2.mono hB2.size), h2⟩
theorem Var.below {w w' : World} {b lo hi : Nat} {v : Value} {xs : List Nd} (h : Var w b lo hi v xs) (hb : Below w.heap.size w w') : Var w' b lo hi v xs :=
  ⟨(hb.block b (Array.getElem?_eq_some_iff.1 h.1).1).trans h.1, own_below h.2.1 hb, h.2.2.1, Nat.le_trans h.2.2.2 hb.size⟩
theorem Var.cell {w : World} {b lo hi : Nat} {v : Value} {xs : List Nd} (h : Var w b lo hi v xs) : w.cell? ⟨b, 0, none⟩ = some v := by rw [cell_of_row w b 0 _ _ _ h.1]; rfl
theorem Var.row {w : World} {b lo hi : Nat} {v : Value} {xs : List Nd} (h : Var w b lo hi v xs) (hm : xs.length ≤ 4194304) (hz : ∀ x ∈ xs, x.s.size ≤ maxLen) : NRow w v xs := NRow.of_own h.2.1 (by omega) hz
theorem Var.lt {w : World} {b lo hi : Nat} {v : Value} {xs : List Nd} (h : Var w b lo hi v xs) : b < w.heap.size := (Array.getElem?_eq_some_iff.1 h.1).1
/-- What another row's marking leaves. -/
theorem Var.kept {w w' : World} {b lo hi lo' hi' b' : Nat} {v v' : Value} {xs xs' : List Nd} (h : Var w b lo hi v xs) (h' : Var w b' lo' hi' v' xs') (hg : w.grownBy w' v'.ownBlock) (hd : hi ≤ lo' ∨ hi' ≤ lo) : Var w' b lo hi v xs := by
  have hne : v'.ownBlock ≠ some b := own_ne h'.2.1 h.1 (by decide)
  refine ⟨(hg.block b h.lt (fun e => hne e.symm)).trans h.1, h.2.1.kept hg ?_, h.2.2.1, Nat.le_trans h.2.2.2 hg.size⟩
  cases hv : v.ownBlock with
  | none => exact Or.inl rfl
  | some k =>
    refine Or.inr fun e => ?_
    have k1 := h.2.2.1 k hv
    have k2 := (h.2.1.lt k hv).1
    have k3 := h'.2.2.1 k e.symm
    have k4 := (h'.2.1.lt k e.symm).1
    omega
/-- The row that is marked itself. -/
theorem Var.marked {w w' : World} {b lo hi : Nat} {v : Value} {xs ys : List Nd} (h : Var w b lo hi v xs) (hg : w.grownBy w' v.ownBlock) (ho : w'.ownsRow lo 39 5 v ys.length (ncs ys)) : Var w' b lo hi v ys :=
  ⟨(hg.block b h.lt (fun e => own_ne h.2.1 h.1 (by decide) e.symm)).trans h.1, ho, h.2.2.1, Nat.le_trans h.2.2.2 hg.size⟩
/-- A block that is no row of nodes stays when one is marked. -/
theorem Var.block {w w' : World} {b lo hi : Nat} {v : Value} {xs : List Nd} (h : Var w b lo hi v xs) (hg : w.grownBy w' v.ownBlock) {j : Nat} {c : Array Value} {t : TypeId} (hj : w.heap[j]? = some (.cells c t (0, 0))) (hte : t ≠ 39) : w'.heap[j]? = some (.cells c t (0, 0)) :=
  (hg.block j (Array.getElem?_eq_some_iff.1 hj).1 (fun e => own_ne h.2.1 hj hte e.symm)).trans hj
theorem below_mark {w w' : World} {B b lo hi : Nat} {v : Value} {xs : List Nd} {w0 : World} (h0 : Below B w0 w) (h : Var w b lo hi v xs) (hg : w.grownBy w' v.ownBlock) (hlo : B ≤ lo) (hB : B ≤ w.heap.size) : Below B w0 w' :=
  h0.grown hg hB (fun k hk => Nat.le_trans hlo (h.2.1.lt k hk).1)

theorem nmarked_ok (k : Int) (L : List Nd) (hk : k ≤ 2305843009213693952) (hl : L.length ≤ 4194304) : ∀ y ∈ nmarked k L L.length, y.s.size ≤ maxLen := by
  intro y hy
  simp only [nmarked, List.drop_length, List.append_nil, List.mem_map, List.mem_range] at hy
  obtain ⟨j, hj, rfl⟩ := hy
  exact mt_size _ (by omega)
theorem makeL_ok {xs : List Nd} {x : Nd} (hz : ∀ y ∈ xs, y.s.size ≤ maxLen) (hs : x.s.size ≤ maxLen) : ∀ y ∈ makeL xs x, y.s.size ≤ maxLen := by
  intro y hy
  unfold makeL at hy
  split at hy
  · split at hy
    · simp only [List.mem_append, List.mem_singleton] at hy
      rcases hy with hy | rfl
      · exact hz y hy
      · exact hs
    · exact hz y hy
  · simp at hy
theorem makeL_len (xs : List Nd) (x : Nd) : (makeL xs x).length ≤ xs.length + 1 := by
  unfold makeL
  split
  · split <;> simp
  · simp

/-- The cells of the two arguments' boxes. -/
theorem six {w2 w3 : World} {B : Nat} {v : Value} {x : Nd} (h : w2.cell? ⟨B, 0, none⟩ = some v ∧ w2.cell? ⟨B + 1, 0, none⟩ = some (.int .i64 x.k) ∧ w2.cell? ⟨B + 1, 1, none⟩ = some (.int .i64 x.n) ∧ w2.cell? ⟨B + 1, 2, none⟩ = some (.string x.s) ∧ w2.cell? ⟨B + 1, 3, none⟩ = some (.int .i64 x.a) ∧ w2.cell? ⟨B + 1, 4, none⟩ = some (.int .i64 x.b))
    (hb : Below w2.heap.size w2 w3) (hB : B + 1 < w2.heap.size) :
    w3.cell? ⟨B, 0, none⟩ = some v ∧ w3.cell? ⟨B + 1, 0, none⟩ = some (.int .i64 x.k) ∧ w3.cell? ⟨B + 1, 1, none⟩ = some (.int .i64 x.n) ∧ w3.cell? ⟨B + 1, 2, none⟩ = some (.string x.s) ∧ w3.cell? ⟨B + 1, 3, none⟩ = some (.int .i64 x.a) ∧ w3.cell? ⟨B + 1, 4, none⟩ = some (.int .i64 x.b) :=
  ⟨(hb.cell (p := ⟨B, 0, none⟩) (by simp; omega)).trans h.1, (hb.cell (p := ⟨B + 1, 0, none⟩) hB).trans h.2.1, (hb.cell (p := ⟨B + 1, 1, none⟩) hB).trans h.2.2.1, (hb.cell (p := ⟨B + 1, 2, none⟩) hB).trans h.2.2.2.1, (hb.cell (p := ⟨B + 1, 3, none⟩) hB).trans h.2.2.2.2.1, (hb.cell (p := ⟨B + 1, 4, none⟩) hB).trans h.2.2.2.2.2⟩
theorem six_set {w2 : World} {B b : Nat} {v u : Value} {x : Nd} (h : w2.cell? ⟨B, 0, none⟩ = some v ∧ w2.cell? ⟨B + 1, 0, none⟩ = some (.int .i64 x.k) ∧ w2.cell? ⟨B + 1, 1, none⟩ = some (.int .i64 x.n) ∧ w2.cell? ⟨B + 1, 2, none⟩ = some (.string x.s) ∧ w2.cell? ⟨B + 1, 3, none⟩ = some (.int .i64 x.a) ∧ w2.cell? ⟨B + 1, 4, none⟩ = some (.int .i64 x.b)) (hb : B + 1 < b) :
    (w2.setCell ⟨b, 0, none⟩ u).cell? ⟨B, 0, none⟩ = some v ∧ (w2.setCell ⟨b, 0, none⟩ u).cell? ⟨B + 1, 0, none⟩ = some (.int .i64 x.k) ∧ (w2.setCell ⟨b, 0, none⟩ u).cell? ⟨B + 1, 1, none⟩ = some (.int .i64 x.n) ∧ (w2.setCell ⟨b, 0, none⟩ u).cell? ⟨B + 1, 2, none⟩ = some (.string x.s) ∧ (w2.setCell ⟨b, 0, none⟩ u).cell? ⟨B + 1, 3, none⟩ = some (.int .i64 x.a) ∧ (w2.setCell ⟨b, 0, none⟩ u).cell? ⟨B + 1, 4, none⟩ = some (.int .i64 x.b) := by
  have hB : Below (B + 2) w2 (w2.setCell ⟨b, 0, none⟩ u) := (Below.refl _ _).setCell (p := ⟨b, 0, none⟩) (by simp; omega) u
  exact ⟨(hB.cell (p := ⟨B, 0, none⟩) (by simp)).trans h.1, (hB.cell (p := ⟨B + 1, 0, none⟩) (by simp)).trans h.2.1, (hB.cell (p := ⟨B + 1, 1, none⟩) (by simp)).trans h.2.2.1, (hB.cell (p := ⟨B + 1, 2, none⟩) (by simp)).trans h.2.2.2.1, (hB.cell (p := ⟨B + 1, 3, none⟩) (by simp)).trans h.2.2.2.2.1, (hB.cell (p := ⟨B + 1, 4, none⟩) (by simp)).trans h.2.2.2.2.2⟩
theorem boxes {w1 : World} {B : Nat} {v : Value} {x : Nd} (hx : w1.heap[B]? = some (.cells #[v] 25 (0, 0))) (hn : w1.heap[B + 1]? = some (.cells #[.int .i64 x.k, .int .i64 x.n, .string x.s, .int .i64 x.a, .int .i64 x.b] 35 (0, 0))) :
    w1.cell? ⟨B, 0, none⟩ = some v ∧ w1.cell? ⟨B + 1, 0, none⟩ = some (.int .i64 x.k) ∧ w1.cell? ⟨B + 1, 1, none⟩ = some (.int .i64 x.n) ∧ w1.cell? ⟨B + 1, 2, none⟩ = some (.string x.s) ∧ w1.cell? ⟨B + 1, 3, none⟩ = some (.int .i64 x.a) ∧ w1.cell? ⟨B + 1, 4, none⟩ = some (.int .i64 x.b) :=
  ⟨cell_of_row w1 _ 0 _ _ _ hx, cell_of_row w1 _ 0 _ _ _ hn, cell_of_row w1 _ 1 _ _ _ hn, cell_of_row w1 _ 2 _ _ _ hn, cell_of_row w1 _ 3 _ _ _ hn, cell_of_row w1 _ 4 _ _ _ hn⟩
theorem seven_set {w2 : World} {c b : Nat} {v u : Value} (h : w2.cell? ⟨c, 0, none⟩ = some v) (hb : c < b) : (w2.setCell ⟨b, 0, none⟩ u).cell? ⟨c, 0, none⟩ = some v :=
  (((Below.refl (c + 1) w2).setCell (p := ⟨b, 0, none⟩) (by simp; omega) u).cell (p := ⟨c, 0, none⟩) (by simp)).trans h
theorem step_drew {w2 w3 : World} (h : Below w2.drew.heap.size w2.drew w3) : Below w2.heap.size w2 w3 := (Below.refl _ _).drew.trans h
theorem step_drewA {w2 w3 : World} {o : Obj} (h : Below (w2.drew.alloc o).heap.size (w2.drew.alloc o) w3) : Below w2.heap.size w2 w3 := ((Below.refl _ _).drew.alloc (Nat.le_refl _) _).trans (h.mono (by simp))
theorem step_alloc {w2 w3 : World} {o : Obj} (h : Below (w2.alloc o).heap.size (w2.alloc o) w3) : Below w2.heap.size w2 w3 := ((Below.refl _ _).alloc (Nat.le_refl _) _).trans (h.mono (by simp))
theorem block_new {w2 w3 : World} {o : Obj} (h : Below (w2.alloc o).heap.size (w2.alloc o) w3) : w3.heap[w2.heap.size]? = some o := (h.block _ (by simp)).trans (heap_alloc_new _ _)

set_option maxRecDepth 100000 in
set_option maxHeartbeats 1600000 in
theorem lmake_any (v : Value) (xs : List Nd) (x : Nd) (w : World) (R : NRow w v xs) (hs : x.s.size ≤ maxLen) :
    Calls Try.prog 5 #[.agg #[v], .agg #[.int .i64 x.k, .int .i64 x.n, .string x.s, .int .i64 x.a, .int .i64 x.b]] w fun e w' => e = .returned (.bool true) ∧ Below w.heap.size w w' := by
  have R' := R
  obtain ⟨ao, cap, rfl, _, _, hz, _⟩ := R'
  go_enter Try.func5, Try.ntmps5
  go_wp2_with fail
  have hB0 : Below w.heap.size w ((w.alloc (Obj.cells #[.slice ao xs.length cap] 25)).alloc (Obj.cells #[.int .i64 x.k, .int .i64 x.n, .string x.s, .int .i64 x.a, .int .i64 x.b] 35)) := ((Below.refl _ _).alloc (Nat.le_refl _) _).alloc (by simp) _
  refine (szpool_any _ xs _ (R.below hB0)).mono ?_
  rintro e w1 ⟨r, rfl, hr0, hr1, hr2, hb1⟩
  have hx1 : w1.heap[w.heap.size]? = some (.cells #[.slice ao xs.length cap] 25 (0, 0)) := (hb1.block _ (by simp; omega)).trans (heap_alloc2_old _ _ _)
  have hn1 : w1.heap[w.heap.size + 1]? = some (.cells #[.int .i64 x.k, .int .i64 x.n, .string x.s, .int .i64 x.a, .int .i64 x.b] 35 (0, 0)) := (hb1.block _ (by simp)).trans (heap_alloc2_new _ _ _)
  have hB1 := hB0.trans (hb1.mono hB0.size)
  have hsz1 := (Array.getElem?_eq_some_iff.1 hn1).1
  clear hB0 hb1
  by_cases hr : r < 0
  · go_wp2
    go_ret
    exact ⟨rfl, hB1⟩
  have hl := (hr2 (by omega)).1
  clear hr2
  have hcell : ∀ j, w1.cell? ⟨w.heap.size + 1, j, none⟩ = #[Value.int .i64 x.k, .int .i64 x.n, .string x.s, .int .i64 x.a, .int .i64 x.b][j]? := fun j => cell_of_row w1 _ j _ _ _ hn1
  have n0 := hcell 0
  have n1 := hcell 1
  have n2 := hcell 2
  have n3 := hcell 3
  have n4 := hcell 4
  simp only [List.getElem?_toArray, List.getElem?_cons_succ, List.getElem?_cons_zero] at n0 n1 n2 n3 n4
  clear hcell
  go_wp2_with fail
  refine (sznode_any x _ _ hs (by omega) (by omega)).mono ?_
  rintro e w2 ⟨rfl, hb2⟩
  have hx2 := (hb2.block _ (by omega)).trans hx1
  have hn2 := (hb2.block _ (by omega)).trans hn1
  have hB2 := hB1.trans (hb2.mono hB1.size)
  have hsz2 := (Array.getElem?_eq_some_iff.1 hn2).1
  clear n0 n1 n2 n3 n4 hB1 hb2 hx1 hn1
  by_cases hl2 : r < x.s.size
  · rw [less, if_pos hl2]
    go_wp2
    go_ret
    exact ⟨rfl, hB2⟩
  rw [less, if_neg hl2]
  have hc2 : w2.cell? ⟨w.heap.size, 0, none⟩ = some (.slice ao xs.length cap) := by rw [cell_of_row w2 _ 0 _ _ _ hx2]; rfl
  have hcell : ∀ j, w2.cell? ⟨w.heap.size + 1, j, none⟩ = #[Value.int .i64 x.k, .int .i64 x.n, .string x.s, .int .i64 x.a, .int .i64 x.b][j]? := fun j => cell_of_row w2 _ j _ _ _ hn2
  have n0 := hcell 0
  have n1 := hcell 1
  have n2 := hcell 2
  have n3 := hcell 3
  have n4 := hcell 4
  simp only [List.getElem?_toArray, List.getElem?_cons_succ, List.getElem?_cons_zero] at n0 n1 n2 n3 n4
  clear hcell
  go_wp2_with fail
  go_cut [6, 7] from 16 (fun s6 s7 wc => ∃ b lo hi v6, s6 = .pointer (some ⟨b, 0, none⟩) ∧ s7 = .int .i64 (makeI xs x) ∧ w.heap.size + 2 ≤ b ∧ w.heap.size + 2 ≤ lo ∧ Var wc b lo hi v6 (makeL xs x) ∧ Below w.heap.size w wc ∧
    wc.heap[w.heap.size]? = some (.cells #[.slice ao xs.length cap] 25 (0, 0)) ∧ wc.heap[w.heap.size + 1]? = some (.cells #[.int .i64 x.k, .int .i64 x.n, .string x.s, .int .i64 x.a, .int .i64 x.b] 35 (0, 0)))
  case first =>
    have sS := (⟨hc2, n0, n1, n2, n3, n4⟩ : w2.cell? ⟨w.heap.size, 0, none⟩ = some (.slice ao xs.length cap) ∧ w2.cell? ⟨w.heap.size + 1, 0, none⟩ = some (.int .i64 x.k) ∧ w2.cell? ⟨w.heap.size + 1, 1, none⟩ = some (.int .i64 x.n) ∧ w2.cell? ⟨w.heap.size + 1, 2, none⟩ = some (.string x.s) ∧ w2.cell? ⟨w.heap.size + 1, 3, none⟩ = some (.int .i64 x.a) ∧ w2.cell? ⟨w.heap.size + 1, 4, none⟩ = some (.int .i64 x.b))
    clear hc2 n0 n1 n2 n3 n4
    have hsz2' : w.heap.size < w2.heap.size := by omega
    go_region_held (fun w' => w'.cell? ⟨w.heap.size, 0, none⟩ = some (.slice ao xs.length cap) ∧ w'.cell? ⟨w.heap.size + 1, 0, none⟩ = some (.int .i64 x.k) ∧ w'.cell? ⟨w.heap.size + 1, 1, none⟩ = some (.int .i64 x.n) ∧ w'.cell? ⟨w.heap.size + 1, 2, none⟩ = some (.string x.s) ∧ w'.cell? ⟨w.heap.size + 1, 3, none⟩ = some (.int .i64 x.a) ∧ w'.cell? ⟨w.heap.size + 1, 4, none⟩ = some (.int .i64 x.b)) (first | exact s5 | exact s4 | exact s3 | exact six_set s5 (by omega) | go_keep) (first
      | (go_at_call 13; refine (topool_any _ xs _ ?_ ?_).mono ?_; (first | exact R.below hB2.drew | exact R.below (hB2.drew.alloc hB2.size _)); omega; rintro e w3 ⟨v3, rfl, ho3, hb3⟩; obtain ⟨ao3, cap3, rfl⟩ := own_form ho3
         have hb23 : Below w2.heap.size w2 w3 := (by first | exact step_drew hb3 | exact step_drewA hb3)
         have R3 := NRow.of_own ho3 (by omega) hz
         have hsz3 : w.heap.size + 1 < w3.heap.size := Nat.lt_of_lt_of_le hsz2 hb23.size
         have hsz3' : w.heap.size < w3.heap.size := Nat.lt_of_lt_of_le hsz2' hb23.size
         have s3 := six sS hb23 hsz2
         try have q3 : w3.heap[w2.heap.size]? = some (.cells #[.slice none 0 0] 30 (0, 0)) := block_new (w2 := w2.drew) hb3)
      | (go_at_call 18; refine (tonode_any x _).mono ?_; rintro e w4 ⟨rfl, hb4⟩
         have hb34 : Below w3.heap.size w3 w4 := (by first | exact hb4 | exact step_alloc hb4)
         have R4 := R3.below hb34
         have hsz4 : w.heap.size + 1 < w4.heap.size := Nat.lt_of_lt_of_le hsz3 hb34.size
         have hsz4' : w.heap.size < w4.heap.size := Nat.lt_of_lt_of_le hsz3' hb34.size
         have s4 := six s3 hb34 hsz3
         try first | have q4 := block_new hb4 | have q4 := (hb34.block _ (Array.getElem?_eq_some_iff.1 q3).1).trans q3)
      | (go_at_call 17; refine (smake_any _ xs x _ ?_ hs).mono ?_; (first | exact R4 | exact R4.below ((Below.refl _ _).alloc (Nat.le_refl _) _)); rintro e w5 ⟨v5, rfl, ho5, hb5⟩; obtain ⟨ao5, cap5, rfl⟩ := own_form ho5
         have hb45 : Below w4.heap.size w4 w5 := (by first | exact hb5 | exact step_alloc hb5)
         have hsz5 : w.heap.size + 1 < w5.heap.size := Nat.lt_of_lt_of_le hsz4 hb45.size
         have hsz5' : w.heap.size < w5.heap.size := Nat.lt_of_lt_of_le hsz4' hb45.size
         have s5 := six s4 hb45 hsz4
         try first | have q5 := block_new hb5 | have q5 := (hb45.block _ (Array.getElem?_eq_some_iff.1 q4).1).trans q4
         try have k5 : w5.cell? ⟨_, 0, none⟩ = some (.slice none 0 0) := (cell_of_row w5 _ 0 _ _ _ q5)
         try have l5 := (frozen_of_row w5 _ 0 _ _ q5)))
    all_goals
      have h25 : Below w2.heap.size w2 w5 := (hb23.trans (hb34.mono hb23.size)).trans (hb45.mono (Nat.le_trans hb23.size hb34.size))
      have z3 := hb23.size
      have z4 := hb34.size
      have z5 := hb45.size
      go_wp2_with fail
      go_meet
      case rel =>
        first
          | (obtain ⟨vr, b1, b2⟩ := Var.put hB2 h25 q5 ho5 (by omega)
             exact ⟨_, _, _, _, rfl, rfl, by omega, (by first | omega | (simp; omega)), vr, b1, (b2.block _ hsz2').trans hx2, (b2.block _ hsz2).trans hn2⟩)
          | (obtain ⟨vr, b1, b2⟩ := Var.new hB2 h25 ho5
             exact ⟨_, _, _, _, rfl, rfl, by omega, (by first | omega | (simp; omega)), vr, b1, (b2.block _ hsz2').trans hx2, (b2.block _ hsz2).trans hn2⟩)
  case rest =>
    obtain ⟨b6, lo6, hi6, v6, rfl, rfl, hb6, hlo6, V6, hBc, hxc, hnc⟩ := hcut
    clear hB2 hx2 hn2 hc2 n0 n1 n2 n3 n4 hsz2
    obtain ⟨ao6, cap6, rfl⟩ := own_form V6.2.1
    have hcc : wc.cell? ⟨w.heap.size, 0, none⟩ = some (.slice ao xs.length cap) := by rw [cell_of_row wc _ 0 _ _ _ hxc]; rfl
    go_wp2_with fail
    refine (topool_any _ xs _ (R.below hBc) (by omega)).mono ?_
    rintro e wd ⟨v8, rfl, ho8, hb8⟩
    obtain ⟨ao8, cap8, rfl⟩ := own_form ho8
    obtain ⟨V8, hBe, hce⟩ := Var.new hBc hb8 ho8
    have V6e := V6.below hce
    have hxe := (hce.block _ (Array.getElem?_eq_some_iff.1 hxc).1).trans hxc
    have hne := (hce.block _ (Array.getElem?_eq_some_iff.1 hnc).1).trans hnc
    have hd68 : hi6 ≤ wc.heap.size := V6.2.2.2
    have hszc := (Array.getElem?_eq_some_iff.1 hnc).1
    have hl88 : wc.heap.size ≤ (wd.alloc (Obj.cells #[.slice ao8 xs.length cap8] 30)).heap.size := by have := hb8.size; simp; omega
    clear V6 hBc hxc hnc hcc ho8 hb8 hce
    go_wp2_with fail
    generalize hwe : wd.alloc (Obj.cells #[.slice ao8 xs.length cap8] 30) = we at *
    generalize hlo8 : wc.heap.size = lo8 at *
    generalize hb8 : wd.heap.size = b8 at *
    generalize hhi8 : we.heap.size = hi8 at V8
    clear hwe hlo8 hb8
    have hhi8' : hi8 = we.heap.size := hhi8.symm
    clear hhi8
    have hsze := (Array.getElem?_eq_some_iff.1 hne).1
    have k8 := V8.cell
    have lt8 := V8.lt
    go_cut [9, 10] from 16 (fun s9 s10 wq => ∃ b lo hi v9, s9 = .pointer (some ⟨b, 0, none⟩) ∧ s10 = .int .i64 (makeI xs x) ∧ hi8 ≤ lo ∧ Var wq b lo hi v9 (makeL xs x) ∧ Var wq b6 lo6 hi6 (.slice ao6 (makeL xs x).length cap6) (makeL xs x) ∧ Var wq b8 lo8 hi8 (.slice ao8 xs.length cap8) xs ∧ Below w.heap.size w wq ∧
      wq.heap[w.heap.size]? = some (.cells #[.slice ao xs.length cap] 25 (0, 0)) ∧ wq.heap[w.heap.size + 1]? = some (.cells #[.int .i64 x.k, .int .i64 x.n, .string x.s, .int .i64 x.a, .int .i64 x.b] 35 (0, 0)))
    case first =>
      have sS := boxes hxe hne
      go_region_held (fun w' => w'.cell? ⟨b8, 0, none⟩ = some (.slice ao8 xs.length cap8) ∧ w'.cell? ⟨w.heap.size, 0, none⟩ = some (.slice ao xs.length cap) ∧ w'.cell? ⟨w.heap.size + 1, 0, none⟩ = some (.int .i64 x.k) ∧ w'.cell? ⟨w.heap.size + 1, 1, none⟩ = some (.int .i64 x.n) ∧ w'.cell? ⟨w.heap.size + 1, 2, none⟩ = some (.string x.s) ∧ w'.cell? ⟨w.heap.size + 1, 3, none⟩ = some (.int .i64 x.a) ∧ w'.cell? ⟨w.heap.size + 1, 4, none⟩ = some (.int .i64 x.b)) (first | exact ⟨k5, s5⟩ | exact ⟨k4, s4⟩ | exact ⟨seven_set k5 (by omega), six_set s5 (by omega)⟩ | go_keep) (first
        | (go_at_call 18; refine (tonode_any x _).mono ?_; rintro e w4 ⟨rfl, hb4⟩
           have hb34 : Below we.heap.size we w4 := (by first | exact step_drew hb4 | exact step_drewA hb4)
           have R4 := (V8.below hb34).row (by omega) hz
           have s4 := six sS hb34 hsze
           have k4 := (hb34.cell (p := ⟨b8, 0, none⟩) lt8).trans k8
           have hsz4 : w.heap.size + 1 < w4.heap.size := Nat.lt_of_lt_of_le hsze hb34.size
           have hsz4' : w.heap.size < w4.heap.size := (by omega)
           have lt4 : b8 < w4.heap.size := Nat.lt_of_lt_of_le lt8 hb34.size
           try have q4 : w4.heap[we.heap.size]? = some (.cells #[.slice none 0 0] 30 (0, 0)) := block_new (w2 := we.drew) hb4)
        | (go_at_call 19; refine (imake_any _ xs x _ ?_ hs).mono ?_; (first | exact R4 | exact R4.below ((Below.refl _ _).alloc (Nat.le_refl _) _)); rintro e w5 ⟨v5, rfl, ho5, hb5⟩; obtain ⟨ao5, cap5, rfl⟩ := own_form ho5
           have hb45 : Below w4.heap.size w4 w5 := (by first | exact hb5 | exact step_alloc hb5)
           have s5 := six s4 hb45 hsz4
           have k5 := (hb45.cell (p := ⟨b8, 0, none⟩) lt4).trans k4
           have hsz5 : w.heap.size + 1 < w5.heap.size := Nat.lt_of_lt_of_le hsz4 hb45.size
           have hsz5' : w.heap.size < w5.heap.size := (by omega)
           have lt5 : b8 < w5.heap.size := Nat.lt_of_lt_of_le lt4 hb45.size
           try first | have q5 := block_new hb5 | have q5 := (hb45.block _ (Array.getElem?_eq_some_iff.1 q4).1).trans q4
           try have j5 : w5.cell? ⟨_, 0, none⟩ = some (.slice none 0 0) := (cell_of_row w5 _ 0 _ _ _ q5)
           try have l5 := (frozen_of_row w5 _ 0 _ _ q5)))
      all_goals
        have h25 : Below we.heap.size we w5 := hb34.trans (hb45.mono hb34.size)
        have z4 := hb34.size
        have z5 := hb45.size
        go_wp2_with fail
        go_meet
        case rel =>
          first
            | (obtain ⟨vr, b1, b2⟩ := Var.put hBe h25 q5 ho5 (by omega)
               exact ⟨_, _, _, _, rfl, rfl, (by first | omega | (simp; omega)), vr, V6e.below b2, V8.below b2, b1, (b2.block _ (by omega)).trans hxe, (b2.block _ hsze).trans hne⟩)
            | (obtain ⟨vr, b1, b2⟩ := Var.new hBe h25 ho5
               exact ⟨_, _, _, _, rfl, rfl, (by first | omega | (simp; omega)), vr, V6e.below b2, V8.below b2, b1, (b2.block _ (by omega)).trans hxe, (b2.block _ hsze).trans hne⟩)
    case rest =>
      clear V8 hBe V6e hxe hne k8 lt8 hsze
      obtain ⟨b9, lo9, hi9, v9, rfl, rfl, hd89, V9, V6, V8, hB, hx, hn⟩ := hcut
      obtain ⟨ao9, cap9, rfl⟩ := own_form V9.2.1
      have hzL := makeL_ok hz hs
      have hlL := makeL_len xs x
      have hlL' : (makeL xs x).length ≤ 4194304 := by omega
      have hlm := nmarked_length 1 (makeL xs x) _ (Nat.le_refl _)
      have hd69 : hi6 ≤ lo9 := by omega
      have c9 := V9.cell
      have c6 := V6.cell
      go_wp2_with fail
      refine (eqpool_any _ _ (makeL xs x) _ (V9.row hlL' hzL) (V6.row hlL' hzL)).mono ?_
      rintro e wf ⟨rfl, hbf⟩
      have V6f := V6.below hbf
      have V8f := V8.below hbf
      have V9f := V9.below hbf
      have hBf := hB.trans (hbf.mono hB.size)
      have hxf := (hbf.block _ (Array.getElem?_eq_some_iff.1 hx).1).trans hx
      have hnf := (hbf.block _ (Array.getElem?_eq_some_iff.1 hn).1).trans hn
      have hszf := (Array.getElem?_eq_some_iff.1 hxf).1
      clear V6 V8 V9 hB hx hn hbf c9 c6
      have k8 := V8f.cell
      have lt8 := V8f.lt
      have jf := (boxes hxf hnf).1
      go_wp2_with fail
      go_region_held (fun w' => w'.cell? ⟨b8, 0, none⟩ = some (.slice ao8 xs.length cap8) ∧ w'.cell? ⟨w.heap.size, 0, none⟩ = some (.slice ao xs.length cap)) (first | exact ⟨k5, j5⟩ | exact ⟨k4, j4⟩ | go_keep) (first
        | (go_at_call 13; refine (topool_any _ xs _ ?_ ?_).mono ?_; exact R.below hBf.drew; omega; rintro e w4 ⟨v4, rfl, ho4, hb4⟩; obtain ⟨ao4, cap4, rfl⟩ := own_form ho4
           have hb34 : Below wf.heap.size wf w4 := step_drew hb4
           have k4 := (hb34.cell (p := ⟨b8, 0, none⟩) lt8).trans k8
           have j4 := (hb34.cell (p := ⟨w.heap.size, 0, none⟩) hszf).trans jf
           have R4 := NRow.of_own ho4 (by omega) hz
           have R8 := (V8f.below hb34).row (by omega) hz)
        | (go_at_call 15; refine (eqpool_any _ _ xs _ ?_ ?_).mono ?_; exact R8; exact R4; rintro e w5 ⟨rfl, hb5⟩
           have k5 := (hb5.cell (p := ⟨b8, 0, none⟩) (Nat.lt_of_lt_of_le lt8 hb34.size)).trans k4
           have j5 := (hb5.cell (p := ⟨w.heap.size, 0, none⟩) (Nat.lt_of_lt_of_le hszf hb34.size)).trans j4))
      have hbf5 := hb34.trans (hb5.mono hb34.size)
      have V6 := V6f.below hbf5
      have V8 := V8f.below hbf5
      have V9 := V9f.below hbf5
      have hB := hBf.trans (hbf5.mono hBf.size)
      have hx := (hbf5.block _ (Array.getElem?_eq_some_iff.1 hxf).1).trans hxf
      have hn := (hbf5.block _ (Array.getElem?_eq_some_iff.1 hnf).1).trans hnf
      clear V6f V8f V9f hBf hxf hnf k8 lt8 jf k4 j4 R4 R8 j5 hb34 hb4 hb5 ho4
      go_wp2_with fail
      refine (markpool_any _ 1 lo8 xs _ V8.2.1 (by omega) (by omega) (by omega)).mono ?_
      rintro e w6 ⟨rfl, ho6, hg6⟩
      have V6h := V6.kept V8 hg6 (Or.inl hd68)
      have V9h := V9.kept V8 hg6 (Or.inr hd89)
      have hxh := V8.block hg6 hx (by decide)
      have hnh := V8.block hg6 hn (by decide)
      have hBh := below_mark hB V8 hg6 (by omega) hB.size
      clear V6 V8 V9 hB hx hn ho6 hg6 k5 hbf5
      have c9 := V9h.cell
      have c6 := V6h.cell
      have hk1 : ¬ (1 + 5 * (xs.length : Int)) < 0 := by omega
      go_wp2_with fail
      refine (eqpool_any _ _ (makeL xs x) _ (V9h.row hlL' hzL) (V6h.row hlL' hzL)).mono ?_
      rintro e w7 ⟨rfl, hb7⟩
      have V6 := V6h.below hb7
      have V9 := V9h.below hb7
      have hB := hBh.trans (hb7.mono hBh.size)
      have hx := (hb7.block _ (Array.getElem?_eq_some_iff.1 hxh).1).trans hxh
      have hn := (hb7.block _ (Array.getElem?_eq_some_iff.1 hnh).1).trans hnh
      clear V6h V9h hBh hxh hnh hb7 c9 c6
      have c9 := V9.cell
      go_wp2_with fail
      refine (markpool_any _ 1 lo9 (makeL xs x) _ V9.2.1 hlL' (by omega) (by omega)).mono ?_
      rintro e w8 ⟨rfl, ho8, hg8⟩
      have V6h := V6.kept V9 hg8 (Or.inl hd69)
      have V9h := V9.marked (ys := nmarked 1 (makeL xs x) (makeL xs x).length) hg8 (by rw [hlm]; exact ho8)
      have hxh := V9.block hg8 hx (by decide)
      have hnh := V9.block hg8 hn (by decide)
      have hBh := below_mark hB V9 hg8 (by omega) hB.size
      clear V6 V9 hB hx hn ho8 hg8 c9
      have c9 := V9h.cell
      have hzM := nmarked_ok 1 (makeL xs x) (by omega) hlL'
      go_wp2_with fail
      refine (heldpool_any _ 1 (makeL xs x) _ (V9h.row (by omega) hzM) hlL' (by omega) (by omega)).mono ?_
      rintro e w9 ⟨rfl, hb9⟩
      have V6 := V6h.below hb9
      have V9 := V9h.below hb9
      have hB := hBh.trans (hb9.mono hBh.size)
      have hx := (hb9.block _ (Array.getElem?_eq_some_iff.1 hxh).1).trans hxh
      have hn := (hb9.block _ (Array.getElem?_eq_some_iff.1 hnh).1).trans hnh
      have hsz9 := (Array.getElem?_eq_some_iff.1 hn).1
      clear V6h V9h hBh hxh hnh hb9 c9
      have hk2 : ¬ (1 + 5 * ((makeL xs x).length : Int)) < 0 := by omega
      go_wp2_with fail
      go_cut [14, 15] from 16 (fun s14 s15 wq => ∃ b lo hi v14, s14 = .pointer (some ⟨b, 0, none⟩) ∧ s15 = .int .i64 (makeI xs x) ∧ Var wq b lo hi v14 (makeL xs x) ∧ Var wq b6 lo6 hi6 (.slice ao6 (makeL xs x).length cap6) (makeL xs x) ∧ Var wq b9 lo9 hi9 (.slice ao9 (makeL xs x).length cap9) (nmarked 1 (makeL xs x) (makeL xs x).length) ∧ Below w.heap.size w wq)
      case first =>
        have sS := boxes hx hn
        have hsz9' : w.heap.size < w9.heap.size := by omega
        go_region_held (fun w' => w'.cell? ⟨w.heap.size, 0, none⟩ = some (.slice ao xs.length cap) ∧ w'.cell? ⟨w.heap.size + 1, 0, none⟩ = some (.int .i64 x.k) ∧ w'.cell? ⟨w.heap.size + 1, 1, none⟩ = some (.int .i64 x.n) ∧ w'.cell? ⟨w.heap.size + 1, 2, none⟩ = some (.string x.s) ∧ w'.cell? ⟨w.heap.size + 1, 3, none⟩ = some (.int .i64 x.a) ∧ w'.cell? ⟨w.heap.size + 1, 4, none⟩ = some (.int .i64 x.b)) (first | exact s5 | exact s4 | exact s3 | exact six_set s5 (by omega) | go_keep) (first
          | (go_at_call 13; refine (topool_any _ xs _ ?_ ?_).mono ?_; (first | exact R.below hB.drew | exact R.below (hB.drew.alloc hB.size _)); omega; rintro e w3 ⟨v3, rfl, ho3, hb3⟩; obtain ⟨ao3, cap3, rfl⟩ := own_form ho3
             have hb23 : Below w9.heap.size w9 w3 := (by first | exact step_drew hb3 | exact step_drewA hb3)
             have R3 := NRow.of_own ho3 (by omega) hz
             have hsz3 : w.heap.size + 1 < w3.heap.size := Nat.lt_of_lt_of_le hsz9 hb23.size
             have hsz3' : w.heap.size < w3.heap.size := Nat.lt_of_lt_of_le hsz9' hb23.size
             have s3 := six sS hb23 hsz9
             try have q3 : w3.heap[w9.heap.size]? = some (.cells #[.slice none 0 0] 30 (0, 0)) := block_new (w2 := w9.drew) hb3)
          | (go_at_call 18; refine (tonode_any x _).mono ?_; rintro e w4 ⟨rfl, hb4⟩
             have hb34 : Below w3.heap.size w3 w4 := (by first | exact hb4 | exact step_alloc hb4)
             have R4 := R3.below hb34
             have hsz4 : w.heap.size + 1 < w4.heap.size := Nat.lt_of_lt_of_le hsz3 hb34.size
             have hsz4' : w.heap.size < w4.heap.size := Nat.lt_of_lt_of_le hsz3' hb34.size
             have s4 := six s3 hb34 hsz3
             try first | have q4 := block_new hb4 | have q4 := (hb34.block _ (Array.getElem?_eq_some_iff.1 q3).1).trans q3)
          | (go_at_call 19; refine (imake_any _ xs x _ ?_ hs).mono ?_; (first | exact R4 | exact R4.below ((Below.refl _ _).alloc (Nat.le_refl _) _)); rintro e w5 ⟨v5, rfl, ho5, hb5⟩; obtain ⟨ao5, cap5, rfl⟩ := own_form ho5
             have hb45 : Below w4.heap.size w4 w5 := (by first | exact hb5 | exact step_alloc hb5)
             have hsz5 : w.heap.size + 1 < w5.heap.size := Nat.lt_of_lt_of_le hsz4 hb45.size
             have hsz5' : w.heap.size < w5.heap.size := Nat.lt_of_lt_of_le hsz4' hb45.size
             have s5 := six s4 hb45 hsz4
             try first | have q5 := block_new hb5 | have q5 := (hb45.block _ (Array.getElem?_eq_some_iff.1 q4).1).trans q4
             try have k5 : w5.cell? ⟨_, 0, none⟩ = some (.slice none 0 0) := (cell_of_row w5 _ 0 _ _ _ q5)
             try have l5 := (frozen_of_row w5 _ 0 _ _ q5)))
        all_goals
          have h25 : Below w9.heap.size w9 w5 := (hb23.trans (hb34.mono hb23.size)).trans (hb45.mono (Nat.le_trans hb23.size hb34.size))
          have z3 := hb23.size
          have z4 := hb34.size
          have z5 := hb45.size
          go_wp2_with fail
          go_meet
          case rel =>
            first
              | (obtain ⟨vr, b1, b2⟩ := Var.put hB h25 q5 ho5 (by omega)
                 exact ⟨_, _, _, _, rfl, rfl, vr, V6.below b2, V9.below b2, b1⟩)
              | (obtain ⟨vr, b1, b2⟩ := Var.new hB h25 ho5
                 exact ⟨_, _, _, _, rfl, rfl, vr, V6.below b2, V9.below b2, b1⟩)
      case rest =>
        clear V6 V9 hB hx hn hsz9
        obtain ⟨b14, lo14, hi14, v14, rfl, rfl, V14, V6, V9, hB⟩ := hcut
        obtain ⟨ao14, cap14, rfl⟩ := own_form V14.2.1
        have c14 := V14.cell
        have c6 := V6.cell
        go_wp2_with fail
        refine (eqpool_any _ _ (makeL xs x) _ (V14.row hlL' hzL) (V6.row hlL' hzL)).mono ?_
        rintro e wg ⟨rfl, hbg⟩
        have V9g := V9.below hbg
        have hBg := hB.trans (hbg.mono hB.size)
        clear V14 V6 V9 hB c14 c6 hbg
        have c9 := V9g.cell
        go_wp2_with fail
        refine (heldpool_any _ 1 (makeL xs x) _ (V9g.row (by omega) hzM) hlL' (by omega) (by omega)).mono ?_
        rintro e wh ⟨rfl, hbh⟩
        have hBh := hBg.trans (hbh.mono hBg.size)
        clear V9g c9 hBg hbh
        go_wp2
        go_ret
        exact ⟨rfl, hBh⟩
end Go.Proofs.Ytflhloohpobghak
