/-
  Texts that stood by themselves, laid into one.
-/
import Derived.Test.YtmbomhcnmjhbnaaGreatDoorISizeM
import Derived.Maps.OwnSet
import Derived.DeepKeys4
import Derived.Test.YtmbomhcnmjhbnaaGreatDoorDraw2M
/-
  A node as a key of a map. Nothing of the program; no condition.
-/
namespace Go.Proofs.YtmbomhcnmjhbnaaGreatDoor
open Go.RowKit Go.Maps

theorem laidOut_true3 : laidOutB Tryz.prog = true := by kernel_rfl
theorem Tryz.keyed : Keyed Tryz.prog 64 := Keyed.of_law (deep_law_laid laidOut_true3 (m := 8) (by decide) (of_decide_eq_true (by kernel_rfl)) (by kernel_rfl) (by kernel_rfl))

theorem key_some (x : Nd) (hk : (Lit.int .i64 x.k).wf = true) (hn : (Lit.int .i64 x.n).wf = true) (hs : x.s.size ≤ maxLen) (ha : (Lit.int .i64 x.a).wf = true) (hb : (Lit.int .i64 x.b).wf = true) :
    ∃ l, keyOf Tryz.prog 64 (.agg #[.int .i64 x.k, .int .i64 x.n, .string x.s, .int .i64 x.a, .int .i64 x.b]) = some l := by
  have h1 : Tryz.prog.keyType 64 = true := by kernel_rfl
  have h0 : 0 < Tryz.prog.types.size := of_decide_eq_true (by kernel_rfl)
  have i5 : Tryz.prog.cellsOf 64 = 5 := by kernel_rfl
  have i1 : Tryz.prog.cellsOf 3 = 1 := by kernel_rfl
  have i2 : Tryz.prog.cellsOf 9 = 1 := by kernel_rfl
  obtain ⟨d, hd⟩ : ∃ d, Tryz.prog.types.size = d + 1 := ⟨Tryz.prog.types.size - 1, by omega⟩
  have hf : (Value.agg #[.int .i64 x.k, .int .i64 x.n, .string x.s, .int .i64 x.a, .int .i64 x.b]).formed Tryz.prog 64 = true := by
    simp [Value.formed, Tryz.underlying64, i5]
  have hl : ∃ ls, Tryz.prog.keyLits (Tryz.prog.types.size + 1) 64 (Value.agg #[.int .i64 x.k, .int .i64 x.n, .string x.s, .int .i64 x.a, .int .i64 x.b]).cells.toList = some ls := by
    rw [hd]
    simp [Program.keyLits, Tryz.underlying64, Tryz.underlying3, Tryz.underlying9, i5, i1, i2, hk, hn, hs, ha, hb, Value.cells]
  obtain ⟨ls, hl⟩ := hl
  refine ⟨.string (keyBytes ls), ?_⟩
  unfold keyOf
  rw [Tryz.underlying64]
  simp only [h1, hf, Bool.and_self, if_true, hl, Option.map_some]

end Go.Proofs.YtmbomhcnmjhbnaaGreatDoor

/-
  For each node the first one that is alike: plain mathematics, and what a map from nodes to these numbers holds. Nothing of the program; no condition.
-/
namespace Go.Proofs.YtmbomhcnmjhbnaaGreatDoor
open Go.RowKit Go.Maps

/-- The node x with its parts' first ones, when fs are the first ones of those ahead of it. -/
def nrm (fs : List Int) (x : Nd) : Nd := ⟨x.k, x.n, x.s, if hasA x.k then fs.getD x.a.toNat 0 else x.a, if hasB x.k then fs.getD x.b.toNat 0 else x.b⟩
open Classical in
/-- The place of y in ks; their length when it is none of them. -/
noncomputable def idx : List Nd → Nd → Nat
  | [], _ => 0
  | k :: ks, y => if k = y then 0 else idx ks y + 1
noncomputable def cls : List Nd → List Nd → List Int → List Nd × List Int
  | [], ks, fs => (ks, fs)
  | x :: xs, ks, fs => cls xs (ks ++ [nrm fs x]) (fs ++ [((idx ks (nrm fs x) : Nat) : Int)])
noncomputable def keysTo (xs : List Nd) (k : Nat) : List Nd := (cls (xs.take k) [] []).1
noncomputable def firstsTo (xs : List Nd) (k : Nat) : List Int := (cls (xs.take k) [] []).2
theorem cls_append (a b ks : List Nd) (fs : List Int) : cls (a ++ b) ks fs = cls b (cls a ks fs).1 (cls a ks fs).2 := by
  induction a generalizing ks fs with
  | nil => rfl
  | cons x a ih => exact ih _ _
theorem keysTo_succ (xs : List Nd) (k : Nat) (x : Nd) (h : xs[k]? = some x) : keysTo xs (k + 1) = keysTo xs k ++ [nrm (firstsTo xs k) x] := by
  obtain ⟨hl, he⟩ := List.getElem?_eq_some_iff.1 h
  unfold keysTo firstsTo
  rw [List.take_succ_eq_append_getElem hl, cls_append, he]
  rfl
theorem firstsTo_succ (xs : List Nd) (k : Nat) (x : Nd) (h : xs[k]? = some x) : firstsTo xs (k + 1) = firstsTo xs k ++ [((idx (keysTo xs k) (nrm (firstsTo xs k) x) : Nat) : Int)] := by
  obtain ⟨hl, he⟩ := List.getElem?_eq_some_iff.1 h
  unfold keysTo firstsTo
  rw [List.take_succ_eq_append_getElem hl, cls_append, he]
  rfl
theorem cls_length (a ks : List Nd) (fs : List Int) : (cls a ks fs).1.length = ks.length + a.length ∧ (cls a ks fs).2.length = fs.length + a.length := by
  induction a generalizing ks fs with
  | nil => simp [cls]
  | cons x a ih =>
    simp only [cls]
    have := ih (ks ++ [nrm fs x]) (fs ++ [((idx ks (nrm fs x) : Nat) : Int)])
    simp only [List.length_append, List.length_cons, List.length_nil] at this ⊢
    omega
theorem keysTo_length (xs : List Nd) (k : Nat) (h : k ≤ xs.length) : (keysTo xs k).length = k := by
  unfold keysTo; rw [(cls_length _ _ _).1]; simp; omega
theorem firstsTo_length (xs : List Nd) (k : Nat) (h : k ≤ xs.length) : (firstsTo xs k).length = k := by
  unfold firstsTo; rw [(cls_length _ _ _).2]; simp; omega
theorem idx_le (ks : List Nd) (y : Nd) : idx ks y ≤ ks.length := by
  induction ks with
  | nil => simp [idx]
  | cons k ks ih => simp only [idx, List.length_cons]; split <;> omega
theorem idx_none (ks : List Nd) (y : Nd) (h : y ∉ ks) : idx ks y = ks.length := by
  induction ks with
  | nil => rfl
  | cons k ks ih =>
    simp only [List.mem_cons, not_or] at h
    have hne : ¬ k = y := fun e => h.1 e.symm
    simp only [idx, if_neg hne, ih h.2, List.length_cons]
theorem idx_append (ks : List Nd) (z y : Nd) (h : y ∈ ks) : idx (ks ++ [z]) y = idx ks y := by
  induction ks with
  | nil => simp at h
  | cons k ks ih =>
    simp only [List.cons_append, idx]
    split
    · rfl
    · rename_i hne
      rw [ih (by simp only [List.mem_cons] at h; rcases h with rfl | h; exact absurd rfl hne; exact h)]
theorem idx_snoc (ks : List Nd) (y : Nd) (h : y ∉ ks) : idx (ks ++ [y]) y = ks.length := by
  induction ks with
  | nil => simp [idx]
  | cons k ks ih =>
    simp only [List.mem_cons, not_or] at h
    have hne : ¬ k = y := fun e => h.1 e.symm
    simp only [List.cons_append, idx, if_neg hne, ih h.2, List.length_cons]
theorem firsts_bounds (xs : List Nd) (k : Nat) (hk : k ≤ xs.length) : ∀ f ∈ firstsTo xs k, 0 ≤ f ∧ f ≤ k := by
  induction k with
  | zero => simp [firstsTo, cls]
  | succ k ih =>
    have hx : xs[k]? = some xs[k] := List.getElem?_eq_getElem (by omega)
    rw [firstsTo_succ xs k _ hx]
    intro f hf
    simp only [List.mem_append, List.mem_singleton] at hf
    rcases hf with hf | rfl
    · have := ih (by omega) f hf; omega
    · have := idx_le (keysTo xs k) (nrm (firstsTo xs k) xs[k])
      rw [keysTo_length xs k (by omega)] at this
      omega

/-- A node as a key. -/
def nkey (y : Nd) : Value := .agg #[.int .i64 y.k, .int .i64 y.n, .string y.s, .int .i64 y.a, .int .i64 y.b]
theorem nkey_inj {x y : Nd} (h : nkey x = nkey y) : x = y := by
  obtain ⟨k, n, s, a, b⟩ := x
  obtain ⟨k', n', s', a', b'⟩ := y
  simp [nkey] at h
  obtain ⟨rfl, rfl, rfl, rfl, rfl⟩ := h
  rfl
/-- The map D holds, for each of the nodes ks, the place where it stands first. -/
def Holds {H : Type} (D : DataW H) (ks : List Nd) : Prop :=
  ∀ y kl, keyOf Tryz.prog 64 (nkey y) = some kl → (y ∈ ks → Maps.has D kl = true ∧ D.atKey kl (.lit (.int .i64 0)) = .lit (.int .i64 (idx ks y))) ∧ (y ∉ ks → Maps.has D kl = false)
theorem Holds.start {H : Type} : Holds (H := H) (.map []) [] := fun _ _ _ => ⟨fun h => by simp at h, fun _ => rfl⟩
theorem Holds.again {H : Type} {D : DataW H} {ks : List Nd} (h : Holds D ks) (z : Nd) (hz : z ∈ ks) : Holds D (ks ++ [z]) := by
  intro y kl hy
  obtain ⟨h1, h2⟩ := h y kl hy
  refine ⟨fun hm => ?_, fun hm => h2 (fun e => hm (by simp [e]))⟩
  have hm' : y ∈ ks := by
    simp only [List.mem_append, List.mem_singleton] at hm
    rcases hm with hm | rfl
    · exact hm
    · exact hz
  rw [idx_append ks z y hm']
  exact h1 hm'
theorem Holds.put {H : Type} {D : DataW H} {ks : List Nd} (h : Holds D ks) (hD : IsMap D) (z : Nd) (hz : z ∉ ks) (kl : Lit) (hk : keyOf Tryz.prog 64 (nkey z) = some kl) :
    Holds (D.put kl (.lit (.int .i64 ks.length))) (ks ++ [z]) := by
  intro y kl' hy
  by_cases e : y = z
  · subst e
    rw [hk] at hy
    cases hy
    refine ⟨fun _ => ⟨has_put_same hD (Tryz.keyed.key hk) _, ?_⟩, fun hm => absurd (by simp) hm⟩
    rw [atKey_put_same hD (Tryz.keyed.key hk), idx_snoc ks y hz]
  · have hne : kl' ≠ kl := by
      intro e'
      subst e'
      exact e (nkey_inj (Tryz.keyed.inj hy hk))
    obtain ⟨h1, h2⟩ := h y kl' hy
    refine ⟨fun hm => ?_, fun hm => ?_⟩
    · have hm' : y ∈ ks := by
        simp only [List.mem_append, List.mem_singleton] at hm
        rcases hm with hm | hm
        · exact hm
        · exact absurd hm e
      rw [has_put_other hne, atKey_put_other hne, idx_append ks z y hm']
      exact h1 hm'
    · rw [has_put_other hne]
      exact h2 (fun e' => hm (by simp [e']))

end Go.Proofs.YtmbomhcnmjhbnaaGreatDoor

/-
  Contract of impl's withParts: a node with its parts where they are told to be. Conditions: the node's kind is one, its parts are told of.
-/
namespace Go.Proofs.YtmbomhcnmjhbnaaGreatDoor
open Go.RowKit

theorem Tryz.sizeNW : (Tryz.prog.info? 64).map (·.size) = some 5 := by kernel_rfl

end Go.Proofs.YtmbomhcnmjhbnaaGreatDoor

/-
  Contracts of the laws' own helpers eqIntS, markIntS, heldIntS.
-/
namespace Go.Proofs.YtmbomhcnmjhbnaaGreatDoor
open Go.RowKit

/-- The slice value v reads in w as the ints zs. -/
def IRow (w : World) (v : Value) (zs : List Int) : Prop :=
  ∃ ao cap, v = .slice ao zs.length cap ∧ (zs.length ≤ cap ∧ (ao = none → cap = 0)) ∧ zs.length ≤ 9223372036854775807 ∧ (zs ≠ [] → ∃ g o, ao = some ⟨g, o, none⟩ ∧ g < w.heap.size ∧ ∀ i, i < zs.length → w.cell? ⟨g, o + i, none⟩ = some (.int .i64 (zs.getD i 0)))
theorem IRow.below {w w' : World} {v : Value} {zs : List Int} (h : IRow w v zs) (hb : Below w.heap.size w w') : IRow w' v zs := by
  obtain ⟨ao, cap, rfl, hc, hm, hcell⟩ := h
  refine ⟨ao, cap, rfl, hc, hm, fun hne => ?_⟩
  obtain ⟨g, o, rfl, hg, hcell⟩ := hcell hne
  exact ⟨g, o, rfl, Nat.lt_of_lt_of_le hg hb.size, fun i hi => (hb.cell (p := ⟨g, o + i, none⟩) hg).trans (hcell i hi)⟩
theorem IRow.of_own {w : World} {base : Nat} {v : Value} {zs : List Int} (h : w.ownsRow base 3 1 v zs.length (iv zs)) (hm : zs.length ≤ 9223372036854775807) : IRow w v zs := by
  rcases h.2 with ⟨rfl, h0⟩ | ⟨g, cap, cur, rfl, hb, hg, hnc, hcm, hcs, htake⟩
  · have : zs = [] := List.eq_nil_of_length_eq_zero h0
    subst this
    exact ⟨none, 0, rfl, by simp, by simp, fun h => absurd rfl h⟩
  · refine ⟨_, cap, rfl, ⟨hnc, fun h => by cases h⟩, hm, fun _ => ⟨g, 0, rfl, (Array.getElem?_eq_some_iff.1 hg).1, fun i hi => ?_⟩⟩
    have := h.cellAt i (by omega)
    rw [Nat.zero_add, this, iv_get zs i hi]

/-- What lies in a slice of ints behind markIntS from k on, when i of them are written and zs stood there. -/
def imarked (k : Int) (zs : List Int) (i : Nat) : List Int := (List.range i).map (fun (j : Nat) => k + (j : Int)) ++ zs.drop i
theorem imarked_zero (k : Int) (zs : List Int) : imarked k zs 0 = zs := by simp [imarked]
theorem imarked_length (k : Int) (zs : List Int) (i : Nat) (h : i ≤ zs.length) : (imarked k zs i).length = zs.length := by simp [imarked]; omega
theorem imarked_set (k : Int) (zs : List Int) (i : Nat) (h : i < zs.length) : (imarked k zs i).set i (k + (i : Int)) = imarked k zs (i + 1) := by
  unfold imarked
  rw [List.range_succ, List.map_append, List.set_append_right _ _ (by simp), List.drop_eq_getElem_cons h, List.append_assoc]
  have e : i - (List.map (fun (j : Nat) => k + (j : Int)) (List.range i)).length = 0 := by simp
  rw [e]
  rfl
theorem imarked_get (k : Int) (zs : List Int) (i : Nat) (h : i < zs.length) : (imarked k zs zs.length).getD i 0 = k + (i : Int) := by
  simp [imarked, List.getD, h]

end Go.Proofs.YtmbomhcnmjhbnaaGreatDoor
