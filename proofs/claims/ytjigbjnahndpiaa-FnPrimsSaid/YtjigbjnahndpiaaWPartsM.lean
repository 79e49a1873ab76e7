/-
  Texts that stood by themselves, laid into one.
-/
import Derived.Test.YtjigbjnahndpiaaDraw11M
import Derived.Test.YtjigbjnahndpiaaISizeM
import Derived.Maps.OwnSet
import Derived.DeepKeys4
import Derived.Test.YtjigbjnahndpiaaDraw2M
/-
  Contract of the draws' DrawMake.
-/
namespace Go.Proofs.Ytjigbjnahndpiaa
open Go.RowKit

theorem results_row_row {P : Program} {fn : Func} {p q : Tmp} {ty ty' : TypeId} (h : fn.results = #[.cell p ty, .cell q ty']) (tmps : Array Value) (w : World) (g : Nat) (t : TypeId) (cs : Array Value) (fr : Nat × Nat) (d : TypeDesc)
    (hp : tmps.getD p undef = .pointer (some ⟨g, 0, none⟩)) (hg : w.heap[g]? = some (.cells cs t fr)) (hu : P.underlying ty = some d) (hd : (match d with | .struct _ | .array _ _ => true | _ => false) = true) (hi : (P.info? ty).map (·.size) = some cs.size)
    (g' : Nat) (t' : TypeId) (cs' : Array Value) (fr' : Nat × Nat) (d' : TypeDesc) (hp' : tmps.getD q undef = .pointer (some ⟨g', 0, none⟩)) (hg' : w.heap[g']? = some (.cells cs' t' fr')) (hu' : P.underlying ty' = some d') (hd' : (match d' with | .struct _ | .array _ _ => true | _ => false) = true) (hi' : (P.info? ty').map (·.size) = some cs'.size) :
    (results fn tmps).run P w = .ok (.tuple #[.agg cs, .agg cs']) w := by
  have e : tmps[p]?.getD undef = .pointer (some ⟨g, 0, none⟩) := by simpa using hp
  have e' : tmps[q]?.getD undef = .pointer (some ⟨g', 0, none⟩) := by simpa using hp'
  simp [results, h, e, e', asAddr, run_loadVar_row w g t ty cs fr d hg hu hd hi, run_loadVar_row w g' t' ty' cs' fr' d' hg' hu' hd' hi']
theorem blk_drew {w : World} {g : Nat} {o : Obj} (h : w.heap[g]? = some o) : w.drew.heap[g]? = some o := h
theorem own_drew {w : World} {B k n : Nat} {e : TypeId} {v : Value} {l : List Value} (h : w.ownsRow B e k v n l) : w.drew.ownsRow B e k v n l := h
abbrev S5 (W : World) (r : Nat) (y : Nd) : World := ((((W.setCell ⟨r, 0, none⟩ (.int .i64 y.k)).setCell ⟨r, 1, none⟩ (.int .i64 y.n)).setCell ⟨r, 2, none⟩ (.string y.s)).setCell ⟨r, 3, none⟩ (.int .i64 y.a)).setCell ⟨r, 4, none⟩ (.int .i64 y.b)
theorem s5_same {W : World} {r : Nat} {z : Nd} (y : Nd) (h : W.heap[r]? = some (ndO z)) : (S5 W r y).heap[r]? = some (ndO y) :=
  heap_setCell_same _ r 4 _ _ _ (heap_setCell_same _ r 3 _ _ _ (heap_setCell_same _ r 2 _ _ _ (heap_setCell_same _ r 1 _ _ _ (heap_setCell_same _ r 0 _ _ _ h))))
theorem s5_other {W : World} {r B : Nat} {o : Obj} (y : Nd) (h : W.heap[B]? = some o) (hne : r ≠ B) : (S5 W r y).heap[B]? = some o := blk_ne (blk_ne (blk_ne (blk_ne (blk_ne h hne) hne) hne) hne) hne
theorem s5_below {W : World} {r B : Nat} (y : Nd) (h : B ≤ r) : Below B W (S5 W r y) :=
  ((((((Below.refl _ _).setCell (p := ⟨r, 0, none⟩) h _).setCell (p := ⟨r, 1, none⟩) h _).setCell (p := ⟨r, 2, none⟩) h _).setCell (p := ⟨r, 3, none⟩) h _).setCell (p := ⟨r, 4, none⟩) h _)
theorem s5_own {W : World} {r base k n : Nat} {e : TypeId} {v : Value} {l : List Value} (y : Nd) (h : W.ownsRow base e k v n l) (hr : r < base) : (S5 W r y).ownsRow base e k v n l :=
  ownsRow_setCell_below (a := ⟨r, 4, none⟩) (ownsRow_setCell_below (a := ⟨r, 3, none⟩) (ownsRow_setCell_below (a := ⟨r, 2, none⟩) (ownsRow_setCell_below (a := ⟨r, 1, none⟩) (ownsRow_setCell_below h (a := ⟨r, 0, none⟩) hr _) hr _) hr _) hr _) hr _
theorem own_upto {w w' : World} {B k n x : Nat} {e : TypeId} {v : Value} {l : List Value} (h : w.ownsRow B e k v n l) (hb : Below x w w') (hx : ∀ j, v.ownBlock = some j → j < x) : w'.ownsRow B e k v n l := by
  refine ⟨h.1, ?_⟩
  rcases h.2 with ⟨rfl, h0⟩ | ⟨g, cap, cur, rfl, hB, hg, hr⟩
  · exact Or.inl ⟨rfl, h0⟩
  · exact Or.inr ⟨g, cap, cur, rfl, hB, (hb.block g (hx g rfl)).trans hg, hr⟩
/-- A pool and a node, each into its result's variable. -/
theorem two_put {W : World} {r1 r2 base n : Nat} {u V : Value} {z : Nd} {l : List Value} (y : Nd) (h1 : W.heap[r1]? = some (.cells #[u] 26 (0, 0))) (h2 : W.heap[r2]? = some (ndO z)) (ho : W.ownsRow base 34 5 V n l) (hne : r1 < r2) (hb : r2 < base) :
    ((S5 (W.setCell ⟨r1, 0, none⟩ V) r2 y).heap[r1]? = some (.cells #[V] 26 (0, 0)) ∧ (S5 (W.setCell ⟨r1, 0, none⟩ V) r2 y).heap[r2]? = some (ndO y) ∧ (S5 (W.setCell ⟨r1, 0, none⟩ V) r2 y).ownsRow base 34 5 V n l ∧ Below r1 W (S5 (W.setCell ⟨r1, 0, none⟩ V) r2 y)) ∧
    (((S5 W r2 y).setCell ⟨r1, 0, none⟩ V).heap[r1]? = some (.cells #[V] 26 (0, 0)) ∧ ((S5 W r2 y).setCell ⟨r1, 0, none⟩ V).heap[r2]? = some (ndO y) ∧ ((S5 W r2 y).setCell ⟨r1, 0, none⟩ V).ownsRow base 34 5 V n l ∧ Below r1 W ((S5 W r2 y).setCell ⟨r1, 0, none⟩ V)) :=
  ⟨⟨s5_other y (heap_setCell_same W r1 0 _ _ V h1) (by omega), s5_same y (blk_ne h2 (by omega)), s5_own y (ownsRow_setCell_below ho (a := ⟨r1, 0, none⟩) (by show r1 < base; omega) _) hb, ((Below.refl r1 W).setCell (p := ⟨r1, 0, none⟩) (Nat.le_refl _) V).trans (s5_below y (by omega))⟩,
   ⟨heap_setCell_same _ r1 0 _ _ V (s5_other y h1 (by omega)), blk_ne (s5_same y h2) (by omega), ownsRow_setCell_below (s5_own y ho hb) (a := ⟨r1, 0, none⟩) (by show r1 < base; omega) _, (s5_below (B := r1) y (by omega)).setCell (p := ⟨r1, 0, none⟩) (Nat.le_refl _) V⟩⟩

end Go.Proofs.Ytjigbjnahndpiaa

/-
  A node as a key of a map. Nothing of the program; no condition.
-/
namespace Go.Proofs.Ytjigbjnahndpiaa
open Go.RowKit Go.Maps

theorem laidOut_true3 : laidOutB Try.prog = true := by kernel_rfl
theorem Try.keyed : Keyed Try.prog 34 := Keyed.of_law (deep_law_laid laidOut_true3 (m := 8) (by decide) (of_decide_eq_true (by kernel_rfl)) (by kernel_rfl) (by kernel_rfl))

theorem key_some (x : Nd) (hk : (Lit.int .i64 x.k).wf = true) (hn : (Lit.int .i64 x.n).wf = true) (hs : x.s.size ≤ maxLen) (ha : (Lit.int .i64 x.a).wf = true) (hb : (Lit.int .i64 x.b).wf = true) :
    ∃ l, keyOf Try.prog 34 (.agg #[.int .i64 x.k, .int .i64 x.n, .string x.s, .int .i64 x.a, .int .i64 x.b]) = some l := by
  have h1 : Try.prog.keyType 34 = true := by kernel_rfl
  have h0 : 0 < Try.prog.types.size := of_decide_eq_true (by kernel_rfl)
  have i5 : Try.prog.cellsOf 34 = 5 := by kernel_rfl
  have i1 : Try.prog.cellsOf 3 = 1 := by kernel_rfl
  have i2 : Try.prog.cellsOf 9 = 1 := by kernel_rfl
  obtain ⟨d, hd⟩ : ∃ d, Try.prog.types.size = d + 1 := ⟨Try.prog.types.size - 1, by omega⟩
  have hf : (Value.agg #[.int .i64 x.k, .int .i64 x.n, .string x.s, .int .i64 x.a, .int .i64 x.b]).formed Try.prog 34 = true := by
    simp [Value.formed, Try.underlying34, i5]
  have hl : ∃ ls, Try.prog.keyLits (Try.prog.types.size + 1) 34 (Value.agg #[.int .i64 x.k, .int .i64 x.n, .string x.s, .int .i64 x.a, .int .i64 x.b]).cells.toList = some ls := by
    rw [hd]
    simp [Program.keyLits, Try.underlying34, Try.underlying3, Try.underlying9, i5, i1, i2, hk, hn, hs, ha, hb, Value.cells]
  obtain ⟨ls, hl⟩ := hl
  refine ⟨.string (keyBytes ls), ?_⟩
  unfold keyOf
  rw [Try.underlying34]
  simp only [h1, hf, Bool.and_self, if_true, hl, Option.map_some]

end Go.Proofs.Ytjigbjnahndpiaa

/-
  For each node the first one that is alike: plain mathematics, and what a map from nodes to these numbers holds. Nothing of the program; no condition.
-/
namespace Go.Proofs.Ytjigbjnahndpiaa
open Go.RowKit Go.Maps

/-- The node x with its parts' first ones, when fs are the first ones of those ahead of it. -/
def nrm (fs : List Int) (x : Nd) : Nd := ⟨x.k, x.n, x.s, if hasA x.k then fs.getD x.a.toNat 0 else x.a, if hasB x.k then fs.getD x.b.toNat 0 else x.b⟩
open Classical in
/-- The place of y in ks; their length when it is none of them. -/
noncomputable def idx : List Nd → Nd → Nat
  | [], _ => 0
  | k :: ks, y => if k = y then 0 else idx ks y + 1
noncomputable def cls : List Nd → List Nd → List Int → List Nd × List Int
  | [], ks, fs => (ks, fs)
  | x :: xs, ks, fs => cls xs (ks ++ [nrm fs x]) (fs ++ [((idx ks (nrm fs x) : Nat) : Int)])
noncomputable def keysTo (xs : List Nd) (k : Nat) : List Nd := (cls (xs.take k) [] []).1
noncomputable def firstsTo (xs : List Nd) (k : Nat) : List Int := (cls (xs.take k) [] []).2
theorem cls_append (a b ks : List Nd) (fs : List Int) : cls (a ++ b) ks fs = cls b (cls a ks fs).1 (cls a ks fs).2 := by
  induction a generalizing ks fs with
  | nil => rfl
  | cons x a ih => exact ih _ _
theorem keysTo_succ (xs : List Nd) (k : Nat) (x : Nd) (h : xs[k]? = some x) : keysTo xs (k + 1) = keysTo xs k ++ [nrm (firstsTo xs k) x] := by
  obtain ⟨hl, he⟩ := List.getElem?_eq_some_iff.1 h
  unfold keysTo firstsTo
  rw [List.take_succ_eq_append_getElem hl, cls_append, he]
  rfl
theorem firstsTo_succ (xs : List Nd) (k : Nat) (x : Nd) (h : xs[k]? = some x) : firstsTo xs (k + 1) = firstsTo xs k ++ [((idx (keysTo xs k) (nrm (firstsTo xs k) x) : Nat) : Int)] := by
  obtain ⟨hl, he⟩ := List.getElem?_eq_some_iff.1 h
  unfold keysTo firstsTo
  rw [List.take_succ_eq_append_getElem hl, cls_append, he]
  rfl
theorem cls_length (a ks : List Nd) (fs : List Int) : (cls a ks fs).1.length = ks.length + a.length ∧ (cls a ks fs).2.length = fs.length + a.length := by
  induction a generalizing ks fs with
  | nil => simp [cls]
  | cons x a ih =>
    simp only [cls]
    have := ih (ks ++ [nrm fs x]) (fs ++ [((idx ks (nrm fs x) : Nat) : Int)])
    simp only [List.length_append, List.length_cons, List.length_nil] at this ⊢
    omega
theorem keysTo_length (xs : List Nd) (k : Nat) (h : k ≤ xs.length) : (keysTo xs k).length = k := by
  unfold keysTo; rw [(cls_length _ _ _).1]; simp; omega
theorem firstsTo_length (xs : List Nd) (k : Nat) (h : k ≤ xs.length) : (firstsTo xs k).length = k := by
  unfold firstsTo; rw [(cls_length _ _ _).2]; simp; omega
theorem idx_le (ks : List Nd) (y : Nd) : idx ks y ≤ ks.length := by
  induction ks with
  | nil => simp [idx]
  | cons k ks ih => simp only [idx, List.length_cons]; split <;> omega
theorem idx_none (ks : List Nd) (y : Nd) (h : y ∉ ks) : idx ks y = ks.length := by
  induction ks with
  | nil => rfl
  | cons k ks ih =>
    simp only [List.mem_cons, not_or] at h
    have hne : ¬ k = y := fun e => h.1 e.symm
    simp only [idx, if_neg hne, ih h.2, List.length_cons]
theorem idx_append (ks : List Nd) (z y : Nd) (h : y ∈ ks) : idx (ks ++ [z]) y = idx ks y := by
  induction ks with
  | nil => simp at h
  | cons k ks ih =>
    simp only [List.cons_append, idx]
    split
    · rfl
    · rename_i hne
      rw [ih (by simp only [List.mem_cons] at h; rcases h with rfl | h; exact absurd rfl hne; exact h)]
theorem idx_snoc (ks : List Nd) (y : Nd) (h : y ∉ ks) : idx (ks ++ [y]) y = ks.length := by
  induction ks with
  | nil => simp [idx]
  | cons k ks ih =>
    simp only [List.mem_cons, not_or] at h
    have hne : ¬ k = y := fun e => h.1 e.symm
    simp only [List.cons_append, idx, if_neg hne, ih h.2, List.length_cons]
theorem firsts_bounds (xs : List Nd) (k : Nat) (hk : k ≤ xs.length) : ∀ f ∈ firstsTo xs k, 0 ≤ f ∧ f ≤ k := by
  induction k with
  | zero => simp [firstsTo, cls]
  | succ k ih =>
    have hx : xs[k]? = some xs[k] := List.getElem?_eq_getElem (by omega)
    rw [firstsTo_succ xs k _ hx]
    intro f hf
    simp only [List.mem_append, List.mem_singleton] at hf
    rcases hf with hf | rfl
    · have := ih (by omega) f hf; omega
    · have := idx_le (keysTo xs k) (nrm (firstsTo xs k) xs[k])
      rw [keysTo_length xs k (by omega)] at this
      omega

/-- A node as a key. -/
def nkey (y : Nd) : Value := .agg #[.int .i64 y.k, .int .i64 y.n, .string y.s, .int .i64 y.a, .int .i64 y.b]
theorem nkey_inj {x y : Nd} (h : nkey x = nkey y) : x = y := by
  obtain ⟨k, n, s, a, b⟩ := x
  obtain ⟨k', n', s', a', b'⟩ := y
  simp [nkey] at h
  obtain ⟨rfl, rfl, rfl, rfl, rfl⟩ := h
  rfl
/-- The map D holds, for each of the nodes ks, the place where it stands first. -/
def Holds {H : Type} (D : DataW H) (ks : List Nd) : Prop :=
  ∀ y kl, keyOf Try.prog 34 (nkey y) = some kl → (y ∈ ks → Maps.has D kl = true ∧ D.atKey kl (.lit (.int .i64 0)) = .lit (.int .i64 (idx ks y))) ∧ (y ∉ ks → Maps.has D kl = false)
theorem Holds.start {H : Type} : Holds (H := H) (.map []) [] := fun _ _ _ => ⟨fun h => by simp at h, fun _ => rfl⟩
theorem Holds.again {H : Type} {D : DataW H} {ks : List Nd} (h : Holds D ks) (z : Nd) (hz : z ∈ ks) : Holds D (ks ++ [z]) := by
  intro y kl hy
  obtain ⟨h1, h2⟩ := h y kl hy
  refine ⟨fun hm => ?_, fun hm => h2 (fun e => hm (by simp [e]))⟩
  have hm' : y ∈ ks := by
    simp only [List.mem_append, List.mem_singleton] at hm
    rcases hm with hm | rfl
    · exact hm
    · exact hz
  rw [idx_append ks z y hm']
  exact h1 hm'
theorem Holds.put {H : Type} {D : DataW H} {ks : List Nd} (h : Holds D ks) (hD : IsMap D) (z : Nd) (hz : z ∉ ks) (kl : Lit) (hk : keyOf Try.prog 34 (nkey z) = some kl) :
    Holds (D.put kl (.lit (.int .i64 ks.length))) (ks ++ [z]) := by
  intro y kl' hy
  by_cases e : y = z
  · subst e
    rw [hk] at hy
    cases hy
    refine ⟨fun _ => ⟨has_put_same hD (Try.keyed.key hk) _, ?_⟩, fun hm => absurd (by simp) hm⟩
    rw [atKey_put_same hD (Try.keyed.key hk), idx_snoc ks y hz]
  · have hne : kl' ≠ kl := by
      intro e'
      subst e'
      exact e (nkey_inj (Try.keyed.inj hy hk))
    obtain ⟨h1, h2⟩ := h y kl' hy
    refine ⟨fun hm => ?_, fun hm => ?_⟩
    · have hm' : y ∈ ks := by
        simp only [List.mem_append, List.mem_singleton] at hm
        rcases hm with hm | hm
        · exact hm
        · exact absurd hm e
      rw [has_put_other hne, atKey_put_other hne, idx_append ks z y hm']
      exact h1 hm'
    · rw [has_put_other hne]
      exact h2 (fun e' => hm (by simp [e']))

end Go.Proofs.Ytjigbjnahndpiaa

/-
  Contract of impl's withParts: a node with its parts where they are told to be. Conditions: the node's kind is one, its parts are told of.
-/
namespace Go.Proofs.Ytjigbjnahndpiaa
open Go.RowKit

theorem Try.sizeNW : (Try.prog.info? 34).map (·.size) = some 5 := by kernel_rfl

set_option maxRecDepth 100000 in
set_option maxHeartbeats 1600000 in
theorem withparts_any (x : Nd) (B n : Nat) (l : List Int) (w : World) (hkd : 1 ≤ x.k ∧ x.k ≤ 9) (hA : hasA x.k = true → 0 ≤ x.a ∧ x.a < n) (hB : hasB x.k = true → 0 ≤ x.b ∧ x.b < n) (hl : ∀ i, i < n → w.cell? ⟨B, i, none⟩ = some (.int .i64 (l.getD i 0))) (hBw : B < w.heap.size) :
    Calls Try.prog 78 #[.agg #[.int .i64 x.k, .int .i64 x.n, .string x.s, .int .i64 x.a, .int .i64 x.b], .slice (some ⟨B, 0, none⟩) n n] w fun e w' => e = .returned (.agg #[.int .i64 x.k, .int .i64 x.n, .string x.s, .int .i64 (nrm l x).a, .int .i64 (nrm l x).b]) ∧ Below w.heap.size w w' := by
  go_enter Try.func78, Try.ntmps78
  go_wp2_with fail
  refine (shapeof_any x.k _).mono ?_
  rintro e w4 ⟨rfl, hb4⟩
  rw [shapeV, if_pos hkd]
  have hbox := (hb4.block w.heap.size (by simp; omega)).trans (old2 _ _ _)
  have hres := (hb4.block (w.heap.size + 1) (by simp)).trans (heap_alloc2_new _ _ _)
  have hB4 : Below w.heap.size w w4 := (below2 w _ _).trans (hb4.mono (by simp; omega))
  have hw4 : w.heap.size + 1 < w4.heap.size := (Array.getElem?_eq_some_iff.1 hres).1
  have hcellN : ∀ j, w4.cell? ⟨w.heap.size, j, none⟩ = #[Value.int .i64 x.k, .int .i64 x.n, .string x.s, .int .i64 x.a, .int .i64 x.b][j]? := fun j => cell_of_row w4 _ j _ _ _ hbox
  have hfrN : ∀ j, w4.frozen? ⟨w.heap.size, j, none⟩ = false := fun j => frozen_of_row w4 _ j _ _ hbox
  have d0 := hcellN 0
  have d1 := hcellN 1
  have d2 := hcellN 2
  have d3 := hcellN 3
  have d4 := hcellN 4
  simp only [List.getElem?_toArray, List.getElem?_cons_succ, List.getElem?_cons_zero] at d0 d1 d2 d3 d4
  have f3 := hfrN 3
  have f4 := hfrN 4
  have hne : w.heap.size ≠ w.heap.size + 1 := by omega
  have hw5 : w.heap.size < w4.heap.size := by omega
  have hBw5 : B < w4.heap.size := by omega
  have hneB : B ≠ w.heap.size := by omega
  have hl4 : ∀ i, i < n → w4.cell? ⟨B, i, none⟩ = some (.int .i64 (l.getD i 0)) := fun i hi => (hB4.cell (p := ⟨B, i, none⟩) hBw).trans (hl i hi)
  clear hcellN hfrN hb4 hl
  cases hAb : hasA x.k with
  | false =>
    have hBb : hasB x.k = false := by
      unfold hasA at hAb; unfold hasB
      simp only [decide_eq_false_iff_not] at hAb ⊢
      omega
    have HN : Hid ((nrm l x).a = x.a ∧ (nrm l x).b = x.b) := by unfold Hid nrm; rw [hAb, hBb]; exact ⟨rfl, rfl⟩
    rw [hBb]
    clear hA hB hl4
    go_wp2_with (refine wpList_store_own rfl 34 _ _ rfl (w.heap.size + 1) #[.int .i64 x.k, .int .i64 x.n, .string x.s, .int .i64 x.a, .int .i64 x.b] rfl rfl 34 _ ((heap_alloc_old _ _ hw4).trans hres) Try.sizeNW rfl (by simp [Value.oneCell']) ?_)
    intro w6 hh6 hb6 hs6
    have hB6 : Below w.heap.size w w6 := (hB4.alloc hB4.size _).trans (hb6.mono (by omega))
    go_wp2
    exact bodyPost_ret (results_cell_row rfl _ _ (w.heap.size + 1) 34 _ (0, 0) _ rfl hh6 Try.underlying34 rfl Try.sizeNW) rfl ⟨by rw [HN.out.1, HN.out.2], hB6⟩
  | true => 
    obtain ⟨ha1, ha2⟩ := hA hAb
    obtain ⟨na, hna⟩ := Int.eq_ofNat_of_zero_le ha1
    have HA : Hid ((nrm l x).a = l.getD na 0) := by unfold Hid nrm; rw [hAb, hna]; rfl
    rw [hna] at d3 ha2
    have ea := hl4 na (by omega)
    generalize l.getD na 0 = fa at ea HA
    cases hBb : hasB x.k with
    | false => 
      have hres1 := (Below.heap_setCell w4 ⟨w.heap.size, 3, none⟩ (.int .i64 fa) (w.heap.size + 1) (by simp)).trans hres
      have hB41 := hB4.setCell (p := ⟨w.heap.size, 3, none⟩) (by simp) (.int .i64 fa)
      have HB : Hid ((nrm l x).b = x.b) := by unfold Hid nrm; rw [hBb]; rfl
      clear hA hB hl4
      go_wp2_with (refine wpList_store_own rfl 34 _ _ rfl (w.heap.size + 1) #[.int .i64 x.k, .int .i64 x.n, .string x.s, .int .i64 fa, .int .i64 x.b] rfl rfl 34 _ ((heap_alloc_old _ _ (by simpa using hw4)).trans hres1) Try.sizeNW rfl (by simp [Value.oneCell']) ?_)
      intro w6 hh6 hb6 hs6
      have hB6 : Below w.heap.size w w6 := (hB41.alloc (by simpa using hB4.size) _).trans (hb6.mono (by omega))
      go_wp2
      exact bodyPost_ret (results_cell_row rfl _ _ (w.heap.size + 1) 34 _ (0, 0) _ rfl hh6 Try.underlying34 rfl Try.sizeNW) rfl ⟨by rw [HA.out, HB.out], hB6⟩
    | true => 
      obtain ⟨hb1, hb2⟩ := hB hBb
      obtain ⟨nb', hnb⟩ := Int.eq_ofNat_of_zero_le hb1
      have HB : Hid ((nrm l x).b = l.getD nb' 0) := by unfold Hid nrm; rw [hBb, hnb]; rfl
      rw [hnb] at d4 hb2
      have eb := hl4 nb' (by omega)
      generalize l.getD nb' 0 = fb at eb HB
      have hres1 := (Below.heap_setCell w4 ⟨w.heap.size, 3, none⟩ (.int .i64 fa) (w.heap.size + 1) (by simp)).trans hres
      have hres2 := (Below.heap_setCell (w4.setCell ⟨w.heap.size, 3, none⟩ (.int .i64 fa)) ⟨w.heap.size, 4, none⟩ (.int .i64 fb) (w.heap.size + 1) (by simp)).trans hres1
      have hB42 := (hB4.setCell (p := ⟨w.heap.size, 3, none⟩) (by simp) (.int .i64 fa)).setCell (p := ⟨w.heap.size, 4, none⟩) (by simp) (.int .i64 fb)
      clear hres1
      clear hA hB hl4
      go_wp2_with (refine wpList_store_own rfl 34 _ _ rfl (w.heap.size + 1) #[.int .i64 x.k, .int .i64 x.n, .string x.s, .int .i64 fa, .int .i64 fb] rfl rfl 34 _ ((heap_alloc_old _ _ (by simpa using hw4)).trans hres2) Try.sizeNW rfl (by simp [Value.oneCell']) ?_)
      intro w6 hh6 hb6 hs6
      have hB6 : Below w.heap.size w w6 := (hB42.alloc (by simpa using hB4.size) _).trans (hb6.mono (by omega))
      go_wp2
      exact bodyPost_ret (results_cell_row rfl _ _ (w.heap.size + 1) 34 _ (0, 0) _ rfl hh6 Try.underlying34 rfl Try.sizeNW) rfl ⟨by rw [HA.out, HB.out], hB6⟩

end Go.Proofs.Ytjigbjnahndpiaa
