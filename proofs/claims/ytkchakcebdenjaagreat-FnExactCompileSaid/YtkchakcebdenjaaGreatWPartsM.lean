/-
  Texts that stood by themselves, laid into one.
-/
import Derived.Test.YtkchakcebdenjaaGreatStore2M
import Derived.OneCell
import Derived.Test.YtkchakcebdenjaaGreatSNodeM
import Derived.Maps.OwnSet
import Derived.DeepKeys4
import Derived.Test.YtkchakcebdenjaaGreatShapeM
/-
  Contract of spec.Make.
-/
namespace Go.Proofs.YtkchakcebdenjaaGreat
open Go.RowKit
end Go.Proofs.YtkchakcebdenjaaGreat
/-
  A node as a key of a map. Nothing of the program; no condition.
-/
namespace Go.Proofs.YtkchakcebdenjaaGreat
open Go.RowKit Go.Maps
theorem laidOut_true3 : laidOutB Tryz.prog = true := by kernel_rfl
theorem Tryz.keyed : Keyed Tryz.prog 92 := Keyed.of_law (deep_law_laid laidOut_true3 (m := 8) (by decide) (of_decide_eq_true (by kernel_rfl)) (by kernel_rfl) (by kernel_rfl))
end Go.Proofs.YtkchakcebdenjaaGreat
/-
  For each node the first one that is alike: plain mathematics, and what a map from nodes to these numbers holds. Nothing of the program; no condition.
-/
namespace Go.Proofs.YtkchakcebdenjaaGreat
open Go.RowKit Go.Maps
def nrm (fs : List Int) (x : Nd) : Nd := ⟨x.k, x.n, x.s, if hasA x.k then fs.getD x.a.toNat 0 else x.a, if hasB x.k then fs.getD x.b.toNat 0 else x.b⟩
open Classical in
noncomputable def idx : List Nd → Nd → Nat
  | [], _ => 0
  | k :: ks, y => if k = y then 0 else idx ks y + 1
noncomputable def cls : List Nd → List Nd → List Int → List Nd × List Int
  | [], ks, fs => (ks, fs)
  | x :: xs, ks, fs => cls xs (ks ++ [nrm fs x]) (fs ++ [((idx ks (nrm fs x) : Nat) : Int)])
noncomputable def keysTo (xs : List Nd) (k : Nat) : List Nd := (cls (xs.take k) [] []).1
noncomputable def firstsTo (xs : List Nd) (k : Nat) : List Int := (cls (xs.take k) [] []).2
theorem idx_append (ks : List Nd) (z y : Nd) (h : y ∈ ks) : idx (ks ++ [z]) y = idx ks y := by
  induction ks with
  | nil => simp at h
  | cons k ks ih =>
    simp only [List.cons_append, idx]
    split
    · rfl
    · rename_i hne
      rw [ih (by simp only [List.mem_cons] at h; rcases h with rfl | h; exact absurd rfl hne; exact h)]
theorem idx_snoc (ks : List Nd) (y : Nd) (h : y ∉ ks) : idx (ks ++ [y]) y = ks.length := by
  induction ks with
  | nil => simp [idx]
  | cons k ks ih =>
    simp only [List.mem_cons, not_or] at h
    have hne : ¬ k = y := fun e => h.1 e.symm
    simp only [List.cons_append, idx, if_neg hne, ih h.2, List.length_cons]
def nkey (y : Nd) : Value := .agg #[.int .i64 y.k, .int .i64 y.n, .string y.s, .int .i64 y.a, .int .i64 y.b]
theorem nkey_inj {x y : Nd} (h : nkey x = nkey y) : x = y := by
  obtain ⟨k, n, s, a, b⟩ := x
  obtain ⟨k', n', s', a', b'⟩ := y
  simp [nkey] at h
  obtain ⟨rfl, rfl, rfl, rfl, rfl⟩ := h
  rfl
def Holds {H : Type} (D : DataW H) (ks : List Nd) : Prop :=
  ∀ y kl, keyOf Tryz.prog 92 (nkey y) = some kl → (y ∈ ks → Maps.has D kl = true ∧ D.atKey kl (.lit (.int .i64 0)) = .lit (.int .i64 (idx ks y))) ∧ (y ∉ ks → Maps.has D kl = false)
theorem Holds.put {H : Type} {D : DataW H} {ks : List Nd} (h : Holds D ks) (hD : IsMap D) (z : Nd) (hz : z ∉ ks) (kl : Lit) (hk : keyOf Tryz.prog 92 (nkey z) = some kl) :
    Holds (D.put kl (.lit (.int .i64 ks.length))) (ks ++ [z]) := by
  intro y kl' hy
  by_cases e : y = z
  · subst e
    rw [hk] at hy
    cases hy
    refine ⟨fun _ => ⟨has_put_same hD (Tryz.keyed.key hk) _, ?_⟩, fun hm => absurd (by simp) hm⟩
    rw [atKey_put_same hD (Tryz.keyed.key hk), idx_snoc ks y hz]
  · have hne : kl' ≠ kl := by
      intro e'
      subst e'
      exact e (nkey_inj (Tryz.keyed.inj hy hk))
    obtain ⟨h1, h2⟩ := h y kl' hy
    refine ⟨fun hm => ?_, fun hm => ?_⟩
    · have hm' : y ∈ ks := by
        simp only [List.mem_append, List.mem_singleton] at hm
        rcases hm with hm | hm
        · exact hm
        · exact absurd hm e
      rw [has_put_other hne, atKey_put_other hne, idx_append ks z y hm']
      exact h1 hm'
    · rw [has_put_other hne]
      exact h2 (fun e' => hm (by simp [e']))
end Go.Proofs.YtkchakcebdenjaaGreat
/-
  Contract of impl's withParts: a node with its parts where they are told to be. Conditions: the node's kind is one, its parts are told of.
-/
namespace Go.Proofs.YtkchakcebdenjaaGreat
open Go.RowKit
end Go.Proofs.YtkchakcebdenjaaGreat
