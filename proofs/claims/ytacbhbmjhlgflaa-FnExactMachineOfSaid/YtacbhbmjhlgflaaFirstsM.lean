/-
  Texts that stood by themselves, laid into one.
-/
import Derived.Test.YtacbhbmjhlgflaaMkListM
import Derived.Maps.OwnSet
import Derived.DeepKeys4
import Derived.Test.YtacbhbmjhlgflaaShapeM
import Derived.Test.YtacbhbmjhlgflaaSMakeM
import Derived.OneCell
/-
  A node as a key of a map. Nothing of the program; no condition.
-/
namespace Go.Proofs.Ytacbhbmjhlgflaa
open Go.RowKit Go.Maps

theorem laidOut_true3 : laidOutB Try.prog = true := by kernel_rfl
theorem Try.keyed : Keyed Try.prog 63 := Keyed.of_law (deep_law_laid laidOut_true3 (m := 8) (by decide) (of_decide_eq_true (by kernel_rfl)) (by kernel_rfl) (by kernel_rfl))

theorem key_some (x : Nd) (hk : (Lit.int .i64 x.k).wf = true) (hn : (Lit.int .i64 x.n).wf = true) (hs : x.s.size ≤ maxLen) (ha : (Lit.int .i64 x.a).wf = true) (hb : (Lit.int .i64 x.b).wf = true) :
    ∃ l, keyOf Try.prog 63 (.agg #[.int .i64 x.k, .int .i64 x.n, .string x.s, .int .i64 x.a, .int .i64 x.b]) = some l := by
  have h1 : Try.prog.keyType 63 = true := by kernel_rfl
  have h0 : 0 < Try.prog.types.size := of_decide_eq_true (by kernel_rfl)
  have i5 : Try.prog.cellsOf 63 = 5 := by kernel_rfl
  have i1 : Try.prog.cellsOf 3 = 1 := by kernel_rfl
  have i2 : Try.prog.cellsOf 9 = 1 := by kernel_rfl
  obtain ⟨d, hd⟩ : ∃ d, Try.prog.types.size = d + 1 := ⟨Try.prog.types.size - 1, by omega⟩
  have hf : (Value.agg #[.int .i64 x.k, .int .i64 x.n, .string x.s, .int .i64 x.a, .int .i64 x.b]).formed Try.prog 63 = true := by
    simp [Value.formed, Try.underlying63, i5]
  have hl : ∃ ls, Try.prog.keyLits (Try.prog.types.size + 1) 63 (Value.agg #[.int .i64 x.k, .int .i64 x.n, .string x.s, .int .i64 x.a, .int .i64 x.b]).cells.toList = some ls := by
    rw [hd]
    simp [Program.keyLits, Try.underlying63, Try.underlying3, Try.underlying9, i5, i1, i2, hk, hn, hs, ha, hb, Value.cells]
  obtain ⟨ls, hl⟩ := hl
  refine ⟨.string (keyBytes ls), ?_⟩
  unfold keyOf
  rw [Try.underlying63]
  simp only [h1, hf, Bool.and_self, if_true, hl, Option.map_some]

end Go.Proofs.Ytacbhbmjhlgflaa

/-
  For each node the first one that is alike: plain mathematics, and what a map from nodes to these numbers holds. Nothing of the program; no condition.
-/
namespace Go.Proofs.Ytacbhbmjhlgflaa
open Go.RowKit Go.Maps

/-- The node x with its parts' first ones, when fs are the first ones of those ahead of it. -/
def nrm (fs : List Int) (x : Nd) : Nd := ⟨x.k, x.n, x.s, if hasA x.k then fs.getD x.a.toNat 0 else x.a, if hasB x.k then fs.getD x.b.toNat 0 else x.b⟩
open Classical in
/-- The place of y in ks; their length when it is none of them. -/
noncomputable def idx : List Nd → Nd → Nat
  | [], _ => 0
  | k :: ks, y => if k = y then 0 else idx ks y + 1
noncomputable def cls : List Nd → List Nd → List Int → List Nd × List Int
  | [], ks, fs => (ks, fs)
  | x :: xs, ks, fs => cls xs (ks ++ [nrm fs x]) (fs ++ [((idx ks (nrm fs x) : Nat) : Int)])
noncomputable def keysTo (xs : List Nd) (k : Nat) : List Nd := (cls (xs.take k) [] []).1
noncomputable def firstsTo (xs : List Nd) (k : Nat) : List Int := (cls (xs.take k) [] []).2
theorem cls_append (a b ks : List Nd) (fs : List Int) : cls (a ++ b) ks fs = cls b (cls a ks fs).1 (cls a ks fs).2 := by
  induction a generalizing ks fs with
  | nil => rfl
  | cons x a ih => exact ih _ _
theorem keysTo_succ (xs : List Nd) (k : Nat) (x : Nd) (h : xs[k]? = some x) : keysTo xs (k + 1) = keysTo xs k ++ [nrm (firstsTo xs k) x] := by
  obtain ⟨hl, he⟩ := List.getElem?_eq_some_iff.1 h
  unfold keysTo firstsTo
  rw [List.take_succ_eq_append_getElem hl, cls_append, he]
  rfl
theorem firstsTo_succ (xs : List Nd) (k : Nat) (x : Nd) (h : xs[k]? = some x) : firstsTo xs (k + 1) = firstsTo xs k ++ [((idx (keysTo xs k) (nrm (firstsTo xs k) x) : Nat) : Int)] := by
  obtain ⟨hl, he⟩ := List.getElem?_eq_some_iff.1 h
  unfold keysTo firstsTo
  rw [List.take_succ_eq_append_getElem hl, cls_append, he]
  rfl
theorem cls_length (a ks : List Nd) (fs : List Int) : (cls a ks fs).1.length = ks.length + a.length ∧ (cls a ks fs).2.length = fs.length + a.length := by
  induction a generalizing ks fs with
  | nil => simp [cls]
  | cons x a ih =>
    simp only [cls]
    have := ih (ks ++ [nrm fs x]) (fs ++ [((idx ks (nrm fs x) : Nat) : Int)])
    simp only [List.length_append, List.length_cons, List.length_nil] at this ⊢
    omega
theorem keysTo_length (xs : List Nd) (k : Nat) (h : k ≤ xs.length) : (keysTo xs k).length = k := by
  unfold keysTo; rw [(cls_length _ _ _).1]; simp; omega
theorem firstsTo_length (xs : List Nd) (k : Nat) (h : k ≤ xs.length) : (firstsTo xs k).length = k := by
  unfold firstsTo; rw [(cls_length _ _ _).2]; simp; omega
theorem idx_le (ks : List Nd) (y : Nd) : idx ks y ≤ ks.length := by
  induction ks with
  | nil => simp [idx]
  | cons k ks ih => simp only [idx, List.length_cons]; split <;> omega
theorem idx_none (ks : List Nd) (y : Nd) (h : y ∉ ks) : idx ks y = ks.length := by
  induction ks with
  | nil => rfl
  | cons k ks ih =>
    simp only [List.mem_cons, not_or] at h
    have hne : ¬ k = y := fun e => h.1 e.symm
    simp only [idx, if_neg hne, ih h.2, List.length_cons]
theorem idx_append (ks : List Nd) (z y : Nd) (h : y ∈ ks) : idx (ks ++ [z]) y = idx ks y := by
  induction ks with
  | nil => simp at h
  | cons k ks ih =>
    simp only [List.cons_append, idx]
    split
    · rfl
    · rename_i hne
      rw [ih (by simp only [List.mem_cons] at h; rcases h with rfl | h; exact absurd rfl hne; exact h)]
theorem idx_snoc (ks : List Nd) (y : Nd) (h : y ∉ ks) : idx (ks ++ [y]) y = ks.length := by
  induction ks with
  | nil => simp [idx]
  | cons k ks ih =>
    simp only [List.mem_cons, not_or] at h
    have hne : ¬ k = y := fun e => h.1 e.symm
    simp only [List.cons_append, idx, if_neg hne, ih h.2, List.length_cons]
theorem firsts_bounds (xs : List Nd) (k : Nat) (hk : k ≤ xs.length) : ∀ f ∈ firstsTo xs k, 0 ≤ f ∧ f ≤ k := by
  induction k with
  | zero => simp [firstsTo, cls]
  | succ k ih =>
    have hx : xs[k]? = some xs[k] := List.getElem?_eq_getElem (by omega)
    rw [firstsTo_succ xs k _ hx]
    intro f hf
    simp only [List.mem_append, List.mem_singleton] at hf
    rcases hf with hf | rfl
    · have := ih (by omega) f hf; omega
    · have := idx_le (keysTo xs k) (nrm (firstsTo xs k) xs[k])
      rw [keysTo_length xs k (by omega)] at this
      omega

/-- A node as a key. -/
def nkey (y : Nd) : Value := .agg #[.int .i64 y.k, .int .i64 y.n, .string y.s, .int .i64 y.a, .int .i64 y.b]
theorem nkey_inj {x y : Nd} (h : nkey x = nkey y) : x = y := by
  obtain ⟨k, n, s, a, b⟩ := x
  obtain ⟨k', n', s', a', b'⟩ := y
  simp [nkey] at h
  obtain ⟨rfl, rfl, rfl, rfl, rfl⟩ := h
  rfl
/-- The map D holds, for each of the nodes ks, the place where it stands first. -/
def Holds {H : Type} (D : DataW H) (ks : List Nd) : Prop :=
  ∀ y kl, keyOf Try.prog 63 (nkey y) = some kl → (y ∈ ks → Maps.has D kl = true ∧ D.atKey kl (.lit (.int .i64 0)) = .lit (.int .i64 (idx ks y))) ∧ (y ∉ ks → Maps.has D kl = false)
theorem Holds.start {H : Type} : Holds (H := H) (.map []) [] := fun _ _ _ => ⟨fun h => by simp at h, fun _ => rfl⟩
theorem Holds.again {H : Type} {D : DataW H} {ks : List Nd} (h : Holds D ks) (z : Nd) (hz : z ∈ ks) : Holds D (ks ++ [z]) := by
  intro y kl hy
  obtain ⟨h1, h2⟩ := h y kl hy
  refine ⟨fun hm => ?_, fun hm => h2 (fun e => hm (by simp [e]))⟩
  have hm' : y ∈ ks := by
    simp only [List.mem_append, List.mem_singleton] at hm
    rcases hm with hm | rfl
    · exact hm
    · exact hz
  rw [idx_append ks z y hm']
  exact h1 hm'
theorem Holds.put {H : Type} {D : DataW H} {ks : List Nd} (h : Holds D ks) (hD : IsMap D) (z : Nd) (hz : z ∉ ks) (kl : Lit) (hk : keyOf Try.prog 63 (nkey z) = some kl) :
    Holds (D.put kl (.lit (.int .i64 ks.length))) (ks ++ [z]) := by
  intro y kl' hy
  by_cases e : y = z
  · subst e
    rw [hk] at hy
    cases hy
    refine ⟨fun _ => ⟨has_put_same hD (Try.keyed.key hk) _, ?_⟩, fun hm => absurd (by simp) hm⟩
    rw [atKey_put_same hD (Try.keyed.key hk), idx_snoc ks y hz]
  · have hne : kl' ≠ kl := by
      intro e'
      subst e'
      exact e (nkey_inj (Try.keyed.inj hy hk))
    obtain ⟨h1, h2⟩ := h y kl' hy
    refine ⟨fun hm => ?_, fun hm => ?_⟩
    · have hm' : y ∈ ks := by
        simp only [List.mem_append, List.mem_singleton] at hm
        rcases hm with hm | hm
        · exact hm
        · exact absurd hm e
      rw [has_put_other hne, atKey_put_other hne, idx_append ks z y hm']
      exact h1 hm'
    · rw [has_put_other hne]
      exact h2 (fun e' => hm (by simp [e']))

end Go.Proofs.Ytacbhbmjhlgflaa

/-
  Contract of impl's withParts: a node with its parts where they are told to be. Conditions: the node's kind is one, its parts are told of.
-/
namespace Go.Proofs.Ytacbhbmjhlgflaa
open Go.RowKit

theorem Try.sizeNW : (Try.prog.info? 63).map (·.size) = some 5 := by kernel_rfl

end Go.Proofs.Ytacbhbmjhlgflaa

/-
  Contract of impl.firstsAlike: for each node the first one that is alike.
-/
namespace Go.Proofs.Ytacbhbmjhlgflaa
open Go.RowKit Go.Maps

theorem Try.infoI4 : (Try.prog.info? 3).map (fun i => (i.zero, i.size, i.bytes)) = some (some (.int .i64 0), 1, 8) := by kernel_rfl
def padI (l : List Int) (n : Nat) : List Int := l ++ List.replicate (n - l.length) 0
theorem padI_length (l : List Int) (n : Nat) (h : l.length ≤ n) : (padI l n).length = n := by simp [padI]; omega
theorem padI_nil (n : Nat) : iv (padI [] n) = (madeCells #[Value.int .i64 0] n).toList := by rw [toList_madeCells_one]; simp [padI, iv]
theorem padI_get (l : List Int) (n i : Nat) (h : i < l.length) : (padI l n).getD i 0 = l.getD i 0 := by
  unfold padI
  simp only [List.getD_eq_getElem?_getD]
  rw [List.getElem?_append_left h]
theorem padI_set (l : List Int) (n k : Nat) (z : Int) (hk : l.length = k) (h : k < n) : (padI l n).set k z = padI (l ++ [z]) n := by
  subst hk
  unfold padI
  rw [show n - l.length = n - (l ++ [z]).length + 1 by simp; omega, List.replicate_succ, List.set_append_right _ _ (Nat.le_refl _), Nat.sub_self, List.set_cons_zero, List.append_assoc]
  rfl
theorem padI_full (l : List Int) : padI l l.length = l := by simp [padI]
theorem zeroI (w : World) : (zeroValue 3).run Try.prog w = .ok (.int .i64 0) w := by kernel_rfl

theorem fb_get {l : List Int} {k : Nat} (h : ∀ f ∈ l, 0 ≤ f ∧ f ≤ k) (i : Nat) (hi : i < l.length) : 0 ≤ l.getD i 0 ∧ l.getD i 0 ≤ k := by
  rw [List.getD_eq_getElem?_getD, List.getElem?_eq_getElem hi]
  exact h _ (List.getElem_mem _)
theorem nodeB_N {x : Nd} {n : Int} (h : nodeB x n = true) : -1000000000 ≤ x.n ∧ x.n ≤ 1000000000 := by
  simp only [nodeB, Bool.and_eq_true, decide_eq_true_eq] at h
  have h1 := h.1.1.2
  have h2 := h.1.2
  unfold lo at h1
  unfold Go.Proofs.Ytacbhbmjhlgflaa.hi at h2
  constructor
  · split at h1 <;> omega
  · split at h2
    · omega
    · split at h2
      · omega
      · split at h2 <;> omega
theorem nodeB_A0 {x : Nd} {n : Int} (h : nodeB x n = true) (ha : hasA x.k = false) : x.a = 0 := by
  simp only [nodeB, Bool.and_eq_true, decide_eq_true_eq] at h
  have := h.2.1.2
  rw [ha] at this
  simpa [partB] using this
theorem nodeB_B0 {x : Nd} {n : Int} (h : nodeB x n = true) (ha : hasB x.k = false) : x.b = 0 := by
  simp only [nodeB, Bool.and_eq_true, decide_eq_true_eq] at h
  have := h.2.2
  rw [ha] at this
  simpa [partB] using this

end Go.Proofs.Ytacbhbmjhlgflaa
