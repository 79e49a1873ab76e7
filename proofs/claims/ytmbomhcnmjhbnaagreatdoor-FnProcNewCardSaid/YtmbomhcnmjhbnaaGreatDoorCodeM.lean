/-
  Texts that stood by themselves, laid into one.
-/
import Derived.Test.YtmbomhcnmjhbnaaGreatDoorTo2M
import Derived.Test.YtmbomhcnmjhbnaaGreatDoorISizeM
import Derived.Test.YtmbomhcnmjhbnaaGreatDoorInM
/-
  Helpers: a definition as 3 cells, a slice of these read as a list, and the contracts of the laws' helpers on them. No condition.
-/
namespace Go.Proofs.YtmbomhcnmjhbnaaGreatDoor
open Go.RowKit

structure Df where
  s : ByteArray
  p : Int
  m : Int

def Df.cs (x : Df) : List Value := [.string x.s, .int .i64 x.p, .int .i64 x.m]
def dfcs (xs : List Df) : List Value := xs.flatMap Df.cs

theorem dfcs_nil : dfcs [] = [] := rfl
theorem dfcs_cons (x : Df) (xs : List Df) : dfcs (x :: xs) = x.cs ++ dfcs xs := rfl
theorem dfcs_append (a b : List Df) : dfcs (a ++ b) = dfcs a ++ dfcs b := by simp [dfcs]
theorem dfcs_length (xs : List Df) : (dfcs xs).length = xs.length * 3 := by
  induction xs with
  | nil => rfl
  | cons x xs ih => rw [dfcs_cons, List.length_append, ih, List.length_cons]; simp [Df.cs]; omega
theorem dfcs_get (xs : List Df) (i : Nat) (x : Df) (h : xs[i]? = some x) (j : Nat) (hj : j < 3) : (dfcs xs)[i * 3 + j]? = x.cs[j]? := by
  induction xs generalizing i with
  | nil => simp at h
  | cons y ys ih =>
    rw [dfcs_cons]
    cases i with
    | zero =>
      simp at h; subst h
      rw [Nat.zero_mul, Nat.zero_add, List.getElem?_append_left (by simpa [Df.cs] using hj)]
    | succ i =>
      rw [List.getElem?_append_right (by simp [Df.cs]; omega)]
      rw [show (i + 1) * 3 + j - y.cs.length = i * 3 + j by simp [Df.cs]; omega]
      exact ih i (by simpa using h)

theorem dfcs_set (xs : List Df) (i : Nat) (x x' : Df) (h : xs[i]? = some x) (j : Nat) (hj : j < 3) (u : Value) (e : x.cs.set j u = x'.cs) : (dfcs xs).set (i * 3 + j) u = dfcs (xs.set i x') := by
  induction xs generalizing i with
  | nil => simp at h
  | cons y ys ih =>
    rw [dfcs_cons]
    cases i with
    | zero =>
      simp at h; subst h
      rw [Nat.zero_mul, Nat.zero_add, List.set_append_left _ _ (by simpa [Df.cs] using hj), e]
      rfl
    | succ i =>
      rw [List.set_append_right _ _ (by simp [Df.cs]; omega)]
      rw [show (i + 1) * 3 + j - y.cs.length = i * 3 + j by simp [Df.cs]; omega, ih i (by simpa using h)]
      rfl
theorem dfcs_set0 (xs : List Df) (i : Nat) (x x' : Df) (h : xs[i]? = some x) (u : Value) (e : x.cs.set 0 u = x'.cs) : (dfcs xs).set (i * 3) u = dfcs (xs.set i x') :=
  dfcs_set xs i x x' h 0 (by omega) u e
theorem Df.one (x : Df) : ∀ u ∈ x.cs, u.oneCell' = true := by
  intro u hu
  simp only [Df.cs, List.mem_cons, List.not_mem_nil, or_false] at hu
  rcases hu with rfl | rfl | rfl <;> rfl
theorem dfcs_one (xs : List Df) : ∀ u ∈ dfcs xs, u.oneCell' = true := by
  intro u hu
  simp only [dfcs, List.mem_flatMap] at hu
  obtain ⟨x, _, hx⟩ := hu
  exact x.one u hx

/-- The cells of x from the place o of block g on. -/
def DfAt (w : World) (g o : Nat) (x : Df) : Prop :=
  w.cell? ⟨g, o, none⟩ = some (.string x.s) ∧ w.cell? ⟨g, o + 1, none⟩ = some (.int .i64 x.p) ∧ w.cell? ⟨g, o + 2, none⟩ = some (.int .i64 x.m)

theorem DfAt.below {w w' : World} {g o B : Nat} {x : Df} (h : DfAt w g o x) (hb : Below B w w') (hg : g < B) : DfAt w' g o x :=
  ⟨(hb.cell (p := ⟨g, o, none⟩) hg).trans h.1, (hb.cell (p := ⟨g, o + 1, none⟩) hg).trans h.2.1, (hb.cell (p := ⟨g, o + 2, none⟩) hg).trans h.2.2⟩

/-- The slice value v reads in w as xs. -/
def DfRow (w : World) (v : Value) (xs : List Df) : Prop :=
  ∃ ao cap, v = .slice ao xs.length cap ∧ (xs.length ≤ cap ∧ (ao = none → cap = 0)) ∧ xs.length ≤ 9223372036854775807 ∧ (∀ x ∈ xs, x.s.size ≤ maxLen) ∧
    (xs ≠ [] → ∃ g o, ao = some ⟨g, o, none⟩ ∧ g < w.heap.size ∧ ∀ i x, xs[i]? = some x → DfAt w g (o + i * 3) x)

theorem DfRow.small {w : World} {v : Value} {xs : List Df} (R : DfRow w v xs) : ∃ ao cap, v = .slice ao xs.length cap := by
  obtain ⟨ao, cap, rfl, _⟩ := R
  exact ⟨ao, cap, rfl⟩

theorem DfRow.below {w w' : World} {v : Value} {xs : List Df} (h : DfRow w v xs) (hb : Below w.heap.size w w') : DfRow w' v xs := by
  obtain ⟨ao, cap, rfl, hc, hm, hz, hcell⟩ := h
  refine ⟨ao, cap, rfl, hc, hm, hz, fun hne => ?_⟩
  obtain ⟨g, o, rfl, hg, hcell⟩ := hcell hne
  exact ⟨g, o, rfl, Nat.lt_of_lt_of_le hg hb.size, fun i x hi => (hcell i x hi).below hb hg⟩

/-- What the call owns reads as what it holds. -/
theorem DfRow.of_own {w : World} {base : Nat} {v : Value} {xs : List Df} (h : w.ownsRow base 58 3 v xs.length (dfcs xs)) (hm : xs.length ≤ 9223372036854775807) (hz : ∀ x ∈ xs, x.s.size ≤ maxLen) : DfRow w v xs := by
  rcases h.2 with ⟨rfl, h0⟩ | ⟨g, cap, cur, rfl, hb, hg, hnc, hcm, hcs, htake⟩
  · have : xs = [] := List.eq_nil_of_length_eq_zero h0
    subst this
    exact ⟨none, 0, rfl, by simp, by simp, by simp, fun h => absurd rfl h⟩
  · refine ⟨_, cap, rfl, ⟨hnc, fun h => by cases h⟩, hm, hz, fun _ => ⟨g, 0, rfl, (Array.getElem?_eq_some_iff.1 hg).1, fun i x hi => ?_⟩⟩
    have hl : i < xs.length := (List.getElem?_eq_some_iff.1 hi).1
    have e : ∀ j, j < 3 → w.cell? ⟨g, 0 + i * 3 + j, none⟩ = x.cs[j]? := fun j hj => by
      have := h.cellAt (i * 3 + j) (by omega)
      rw [Nat.zero_add, this, dfcs_get xs i x hi j hj]
    exact ⟨e 0 (by omega), e 1 (by omega), e 2 (by omega)⟩

theorem Tryz.infoDf : (Tryz.prog.info? 58).map (fun i => (i.zero, i.size, i.bytes)) = some (some (.agg #[.string ByteArray.empty, .int .i64 0, .int .i64 0]), 3, 32) := by kernel_rfl
theorem Tryz.sizeDf : (Tryz.prog.info? 58).map (·.size) = some 3 := by kernel_rfl

/-- A record stored whole into the call's own row. -/
theorem wpList_store_df {ops : Array Oper} {rest : List Oper} {op : Oper} {a : Act} {w : World} {Q : Exit → Act → World → Prop} (hgd : op.guard = none) (x y : Operand) (ho : op.op = .store 58 x y)
    (base g i cap : Nat) (xs : List Df) (nd : Df) (hx : a.eval x = .pointer (some ⟨g, i * 3, none⟩)) (hy : a.eval y = .agg #[.string nd.s, .int .i64 nd.p, .int .i64 nd.m])
    (hi : i < xs.length) (hown : w.ownsRow base 58 3 (.slice (some ⟨g, 0, none⟩) xs.length cap) xs.length (dfcs xs))
    (h : ∀ w2 : World, w2.ownsRow base 58 3 (.slice (some ⟨g, 0, none⟩) xs.length cap) xs.length (dfcs (xs.set i nd)) → w.grownBy w2 (some g) → wpList Tryz.prog ops Q rest (a.put op.dst undef) w2) : wpList Tryz.prog ops Q (op :: rest) a w := by
  have ht : w.there g (i * 3) 3 := fun j hj => by
    have := hown.cellAt (i * 3 + j) (by omega)
    refine ⟨?_, hown.frozenAt _⟩
    rw [this, List.getElem?_eq_getElem (by rw [dfcs_length]; omega)]
    rfl
  refine wpList_store_mid hgd 58 x y ho g (i * 3) _ hx hy ht Tryz.sizeDf (all_oneCell_toArray nd.one) ?_
  have e0 : xs[i]? = some xs[i] := List.getElem?_eq_getElem hi
  have get : ∀ y : Df, (xs.set i y)[i]? = some y := fun y => by simp [hi]
  have s0 := hown.stored (i * 3) (.string nd.s)
  rw [dfcs_set0 xs i xs[i] ⟨nd.s, xs[i].p, xs[i].m⟩ e0 _ rfl] at s0
  have s1 := s0.1.stored (i * 3 + 1) (.int .i64 nd.p)
  rw [dfcs_set (xs.set i ⟨nd.s, xs[i].p, xs[i].m⟩) i ⟨nd.s, xs[i].p, xs[i].m⟩ ⟨nd.s, nd.p, xs[i].m⟩ (get _) 1 (by omega) (.int .i64 nd.p) rfl, List.set_set] at s1
  have s2 := s1.1.stored (i * 3 + 2) (.int .i64 nd.m)
  rw [dfcs_set (xs.set i ⟨nd.s, nd.p, xs[i].m⟩) i ⟨nd.s, nd.p, xs[i].m⟩ ⟨nd.s, nd.p, nd.m⟩ (get _) 2 (by omega) (.int .i64 nd.m) rfl, List.set_set] at s2
  exact h _ s2.1 ((s0.2.trans s1.2).trans s2.2)

/-- The first j of xs, and zero ones behind them. -/
def zeroDf : Df := ⟨ByteArray.empty, 0, 0⟩
def dfcopied (xs : List Df) (j : Nat) : List Df := xs.take j ++ List.replicate (xs.length - j) zeroDf
theorem dfcopied_length (xs : List Df) (j : Nat) (h : j ≤ xs.length) : (dfcopied xs j).length = xs.length := by simp [dfcopied]; omega
theorem dfcopied_full (xs : List Df) : dfcopied xs xs.length = xs := by simp [dfcopied]
theorem dfcs_zeros (n : Nat) : dfcs (List.replicate n zeroDf) = (madeCells #[Value.string ByteArray.empty, .int .i64 0, .int .i64 0] (n * 3)).toList := by
  apply List.ext_getElem?
  intro j
  by_cases hj : j < n * 3
  · have hq : j / 3 < n := by omega
    rw [show j = j / 3 * 3 + j % 3 by omega, dfcs_get _ (j / 3) zeroDf (by simp [hq]) (j % 3) (by omega)]
    rw [show j / 3 * 3 + j % 3 = j by omega]
    have h5 : j % 3 = 0 ∨ j % 3 = 1 ∨ j % 3 = 2 := by omega
    rcases h5 with h5 | h5 | h5 <;> simp [madeCells, hj, h5, zeroDf, Df.cs]
  · rw [List.getElem?_eq_none (by rw [dfcs_length, List.length_replicate]; omega), List.getElem?_eq_none (by simp [madeCells]; omega)]
theorem dfcopied_zero (xs : List Df) : dfcs (dfcopied xs 0) = (madeCells #[Value.string ByteArray.empty, .int .i64 0, .int .i64 0] (xs.length * 3)).toList := by
  rw [← dfcs_zeros]; simp [dfcopied]
theorem dfcopied_set (xs : List Df) (j : Nat) (h : j < xs.length) : (dfcopied xs j).set j xs[j] = dfcopied xs (j + 1) := by
  unfold dfcopied
  rw [show xs.length - j = xs.length - (j + 1) + 1 by omega, List.replicate_succ, List.take_succ_eq_append_getElem h]
  rw [List.set_append_right _ _ (by simp; omega)]
  have e : j - (List.take j xs).length = 0 := by simp; omega
  rw [e, List.set_cons_zero, List.append_assoc]
  rfl

end Go.Proofs.YtmbomhcnmjhbnaaGreatDoor

/-
  What a list is read as, and the contracts of impl.ListOf and spec.ListOf.
-/
namespace Go.Proofs.YtmbomhcnmjhbnaaGreatDoor
open Go.RowKit

theorem Tryz.infoI2 : (Tryz.prog.info? 3).map (fun i => (i.zero, i.size, i.bytes)) = some (some (.int .i64 0), 1, 8) := by kernel_rfl

/-- The values from the node j on, behind acc; none when it does not end with a KNil. -/
def chain (xs : List Nd) : Nat → Nat → List Int → Option (List Int)
  | 0, _, _ => none
  | f + 1, j, acc => match xs[j]? with
    | none => none
    | some x => if x.k = 5 then chain xs f x.b.toNat (acc ++ [x.a]) else if x.k = 1 then some acc else none
def chainR (xs : List Nd) (v : Nat) : List Int × Bool := match chain xs (v + 1) v [] with
  | some l => (l, true)
  | none => ([], false)
/-- What ListOf answers. -/
def listR (xs : List Nd) (v : Int) : List Int × Bool := if poolB xs && hasI xs v then chainR xs v.toNat else ([], false)
theorem chain_pair (xs : List Nd) (f j : Nat) (acc : List Int) (x : Nd) (hx : xs[j]? = some x) (h5 : x.k = 5) (hf : j < f) : chain xs f j acc = chain xs (f - 1) x.b.toNat (acc ++ [x.a]) := by
  cases f with
  | zero => omega
  | succ f => simp [chain, hx, h5]
theorem chain_nil (xs : List Nd) (f j : Nat) (acc : List Int) (x : Nd) (hx : xs[j]? = some x) (h1 : x.k = 1) (hf : j < f) : chain xs f j acc = some acc := by
  cases f with
  | zero => omega
  | succ f => simp [chain, hx, h1]
theorem chain_none (xs : List Nd) (f j : Nat) (acc : List Int) (x : Nd) (hx : xs[j]? = some x) (h5 : ¬ x.k = 5) (h1 : ¬ x.k = 1) (hf : j < f) : chain xs f j acc = none := by
  cases f with
  | zero => omega
  | succ f => simp [chain, hx, h5, h1]

set_option maxHeartbeats 400000 in
theorem shas_all (v : Value) (xs : List Nd) (a : Int) (w : World) (R : NRow w v xs) :
    Calls Tryz.prog 48 #[.agg #[v], .int .i64 a] w fun e w' => e = .returned (.bool (hasI xs a)) ∧ Below w.heap.size w w' := by
  obtain ⟨ao, cap, rfl, _, hm, _⟩ := R
  go_enter Tryz.func48, Tryz.ntmps48
  go_wp2_with fail
  refine (lin_any _ _ _ _).mono ?_
  rintro e w1 ⟨rfl, rfl⟩
  go_wp2
  go_ret
  refine ⟨retB ?_, (Below.refl _ _).alloc (Nat.le_refl _) _⟩
  rw [Bool.eq_iff_iff]
  simp [hasI]
  omega

set_option maxRecDepth 100000 in
set_option maxHeartbeats 1600000 in
theorem slistof_in (ao : Option Addr) (cap : Nat) (xs : List Nd) (v : Nat) (w : World) (R : NRow w (.slice ao xs.length cap) xs) (hp : poolB xs = true) (hv : v < xs.length) :
    Calls Tryz.prog 85 #[.agg #[.slice ao xs.length cap], .int .i64 v] w fun e w' => ∃ v', e = .returned (.tuple #[v', .bool (chainR xs v).2]) ∧ w'.ownsRow w.heap.size 3 1 v' (chainR xs v).1.length (iv (chainR xs v).1) ∧ Below w.heap.size w w' := by
  have hlen := poolB_len hp
  have R' := R
  obtain ⟨ao', cap', e', ⟨hcap, _⟩, _, hz, hcell⟩ := R'
  simp only [Value.slice.injEq, true_and] at e'
  obtain ⟨rfl, rfl⟩ := e'
  obtain ⟨g, o, rfl, hg, hcell⟩ := hcell (by intro e; subst e; simp at hv)
  obtain ⟨i0, hi, hz0, hz1, hz2⟩ := info_parts Tryz.infoI2
  go_enter Tryz.func85, Tryz.ntmps85
  have hB2 : Below w.heap.size w (w.alloc (Obj.cells #[.slice (some ⟨g, o, none⟩) xs.length cap] 26)) := (Below.refl _ _).alloc (Nat.le_refl _) _
  have hc2 : (w.alloc (Obj.cells #[.slice (some ⟨g, o, none⟩) xs.length cap] 26)).cell? ⟨w.heap.size, 0, none⟩ = some (.slice (some ⟨g, o, none⟩) xs.length cap) := by simp
  have hsz2 : w.heap.size < (w.alloc (Obj.cells #[.slice (some ⟨g, o, none⟩) xs.length cap] 26)).heap.size := by simp
  have HS2 : Hid ((w.alloc (Obj.cells #[.slice (some ⟨g, o, none⟩) xs.length cap] 26)).heap.size = w.heap.size + 1) := by unfold Hid; simp
  go_wp2_with fail
  generalize w.alloc (Obj.cells #[.slice (some ⟨g, o, none⟩) xs.length cap] 26) = w2 at *
  go_loopw [1, 6] (fun q s wr => ∃ (f j : Nat) (acc : List Int), q = .int .i64 j ∧ j < f ∧ acc.length + j ≤ v ∧ Hid (chain xs f j acc = chain xs (v + 1) v []) ∧ wr.ownsRow w2.heap.size 3 1 s acc.length (iv acc) ∧ Below w2.heap.size w2 wr) (fun q _ _ => (intOf q).toNat)
  case atStart => exact ⟨v + 1, v, [], rfl, by omega, by simp, rfl, (by rw [← HS2.out]; exact World.ownsRow_made _ _ 0 (Nat.le_refl _) (by simp) (by simp)), (Below.refl _ _).alloc (Nat.le_refl _) _⟩
  case round =>
    obtain ⟨f, j, acc, rfl, hjf, hal, HC, hown, hb⟩ := hrel
    have hB := hB2.trans (hb.mono hB2.size)
    have hcr := (hb.cell (p := ⟨w.heap.size, 0, none⟩) hsz2).trans hc2
    have hbs := hb.size
    obtain ⟨x, hx⟩ : ∃ x, xs[j]? = some x := ⟨xs[j], by simp [show j < xs.length by omega]⟩
    obtain ⟨c0, c1, c2, c3, c4⟩ := (hcell j x hx).below hB hg
    have hnb := poolB_at hp hx
    clear hcell
    by_cases h5 : x.k = 5
    · have HS : Hid (chain xs f j acc = chain xs (f - 1) x.b.toNat (acc ++ [x.a])) := chain_pair xs f j acc x hx h5 hjf
      have hBB : hasB x.k = true := by unfold hasB; simp [h5]
      have hrb := nodeB_B hnb hBB
      obtain ⟨nb', hnb'⟩ := Int.eq_ofNat_of_zero_le hrb.1
      rw [hnb'] at c4 hrb HS
      have hgn : g ≠ wr.heap.size := by have := hB.size; omega
      have hgl : g < wr.heap.size := by have := hB.size; omega
      have hwl : w.heap.size < wr.heap.size := by omega
      clear hx hnb hBB
      go_wp2_with (at_builtin; refine wpList_append_own _ rfl _ _ 56 rfl w2.heap.size 3 i0 (.int .i64 0) 1 8 Tryz.underlying56 hi hz0 hz1 hz2 rfl (by decide) _ _ _ rfl (hown.alloc _) ⟨wr.heap.size, 0, none⟩ 1 1 [.int .i64 x.a] rfl rfl (cell_one_new _ _ _) (fun u hu => by simp at hu; subst hu; rfl) (by unfold maxLen; omega) (by omega) (by simp; omega) ?_)
      intro v' w6 hown' hgrow _
      have hown6 : w6.ownsRow w2.heap.size 3 1 v' (acc ++ [x.a]).length (iv (acc ++ [x.a])) := by
        rw [iv_append, List.length_append]
        exact hown'
      have hb6 : Below w2.heap.size w2 w6 := (hb.alloc hbs _).grown hgrow (by simp; omega) (fun j hj => (hown.lt j hj).1)
      have hcr6 := (hb6.cell (p := ⟨w.heap.size, 0, none⟩) hsz2).trans hc2
      have hg6 : w6.cell? ⟨g, o + j * 5 + 4, none⟩ = some (.int .i64 nb') := by
        have hgw2 : g < w2.heap.size := Nat.lt_of_lt_of_le hg hB2.size
        rw [hb6.cell (p := ⟨g, o + j * 5 + 4, none⟩) hgw2, ← hb.cell (p := ⟨g, o + j * 5 + 4, none⟩) hgw2]
        exact c4
      generalize hacc : acc ++ [x.a] = acc' at hown6 HS
      have hal' : acc'.length = acc.length + 1 := by rw [← hacc]; simp
      clear hown' hgrow c0 c1 c2 c3 c4 hcr hown hacc
      go_wp2
      go_roundw
      case rel => exact ⟨f - 1, nb', acc', rfl, by omega, by omega, by unfold Hid; rw [← HC.out, HS.out]; rfl, hown6, hb6⟩
      case measure => simp [intOf]; omega
    · by_cases h1 : x.k = 1
      · have HR : Hid (chainR xs v = (acc, true)) := by unfold Hid chainR; rw [← HC.out, chain_nil xs f j acc x hx h1 hjf]
        clear hx hnb h5
        go_wp2
        go_ret2
        exact ⟨_, by rw [HR.out]; rfl, by rw [HR.out]; exact own_mono hown (by omega), hB⟩
      · have HR : Hid (chainR xs v = ([], false)) := by unfold Hid chainR; rw [← HC.out, chain_none xs f j acc x hx h5 h1 hjf]
        clear hx hnb
        go_wp2
        go_ret2
        exact ⟨_, by rw [HR.out]; rfl, by rw [HR.out]; exact World.ownsRow_made _ _ 0 (by have := hB.size; omega) (by simp) (by simp), hB.alloc hB.size _⟩

end Go.Proofs.YtmbomhcnmjhbnaaGreatDoor

/-
  The laws FnExactPoolOk and FnExactNameOk, walked: at every argument the law returns true.
-/
namespace Go.Proofs.YtmbomhcnmjhbnaaGreatDoor
open Go.RowKit

theorem NRow.small {w : World} {v : Value} {xs : List Nd} (R : NRow w v xs) : ∃ ao cap, v = .slice ao xs.length cap := by
  obtain ⟨ao, cap, rfl, _⟩ := R
  exact ⟨ao, cap, rfl⟩

end Go.Proofs.YtmbomhcnmjhbnaaGreatDoor

/-
  Contracts of the laws' helpers szCode, toCode, eqCode: a code is three slices, of nodes, of instructions and of definitions. No condition.
-/
namespace Go.Proofs.YtmbomhcnmjhbnaaGreatDoor
open Go.RowKit

theorem NRow.sz {w : World} {v : Value} {xs : List Nd} (R : NRow w v xs) : ∀ x ∈ xs, x.s.size ≤ maxLen := by obtain ⟨_, _, _, _, _, hz, _⟩ := R; exact hz
theorem InRow.sz {w : World} {v : Value} {xs : List In} (R : InRow w v xs) : ∀ x ∈ xs, x.s.size ≤ maxLen := by obtain ⟨_, _, _, _, _, hz, _⟩ := R; exact hz
theorem DfRow.sz {w : World} {v : Value} {xs : List Df} (R : DfRow w v xs) : ∀ x ∈ xs, x.s.size ≤ maxLen := by obtain ⟨_, _, _, _, _, hz, _⟩ := R; exact hz

theorem Tryz.sizeC : (Tryz.prog.info? 30).map (·.size) = some 3 := by kernel_rfl

end Go.Proofs.YtmbomhcnmjhbnaaGreatDoor
