/-
  Helpers: a lease as 3 cells, a slice of these read as a list, and the contracts of the laws' helpers on them. No condition.
-/
import Derived.Test.YtdlbgdckkjhbdaaTo2
namespace Go.Proofs.Ytdlbgdckkjhbdaa
open Go.RowKit

structure Ls where
  i : Int
  w : Int
  u : Int

def Ls.cs (x : Ls) : List Value := [.int .i64 x.i, .int .i64 x.w, .int .i64 x.u]
def lscs (xs : List Ls) : List Value := xs.flatMap Ls.cs

theorem lscs_nil : lscs [] = [] := rfl
theorem lscs_cons (x : Ls) (xs : List Ls) : lscs (x :: xs) = x.cs ++ lscs xs := rfl
theorem lscs_append (a b : List Ls) : lscs (a ++ b) = lscs a ++ lscs b := by simp [lscs]
theorem lscs_length (xs : List Ls) : (lscs xs).length = xs.length * 3 := by
  induction xs with
  | nil => rfl
  | cons x xs ih => rw [lscs_cons, List.length_append, ih, List.length_cons]; simp [Ls.cs]; omega
theorem lscs_get (xs : List Ls) (i : Nat) (x : Ls) (h : xs[i]? = some x) (j : Nat) (hj : j < 3) : (lscs xs)[i * 3 + j]? = x.cs[j]? := by
  induction xs generalizing i with
  | nil => simp at h
  | cons y ys ih =>
    rw [lscs_cons]
    cases i with
    | zero =>
      simp at h; subst h
      rw [Nat.zero_mul, Nat.zero_add, List.getElem?_append_left (by simpa [Ls.cs] using hj)]
    | succ i =>
      rw [List.getElem?_append_right (by simp [Ls.cs]; omega)]
      rw [show (i + 1) * 3 + j - y.cs.length = i * 3 + j by simp [Ls.cs]; omega]
      exact ih i (by simpa using h)

theorem lscs_set (xs : List Ls) (i : Nat) (x x' : Ls) (h : xs[i]? = some x) (j : Nat) (hj : j < 3) (u : Value) (e : x.cs.set j u = x'.cs) : (lscs xs).set (i * 3 + j) u = lscs (xs.set i x') := by
  induction xs generalizing i with
  | nil => simp at h
  | cons y ys ih =>
    rw [lscs_cons]
    cases i with
    | zero =>
      simp at h; subst h
      rw [Nat.zero_mul, Nat.zero_add, List.set_append_left _ _ (by simpa [Ls.cs] using hj), e]
      rfl
    | succ i =>
      rw [List.set_append_right _ _ (by simp [Ls.cs]; omega)]
      rw [show (i + 1) * 3 + j - y.cs.length = i * 3 + j by simp [Ls.cs]; omega, ih i (by simpa using h)]
      rfl
theorem lscs_set0 (xs : List Ls) (i : Nat) (x x' : Ls) (h : xs[i]? = some x) (u : Value) (e : x.cs.set 0 u = x'.cs) : (lscs xs).set (i * 3) u = lscs (xs.set i x') :=
  lscs_set xs i x x' h 0 (by omega) u e
theorem Ls.one (x : Ls) : ∀ u ∈ x.cs, u.oneCell' = true := by
  intro u hu
  simp only [Ls.cs, List.mem_cons, List.not_mem_nil, or_false] at hu
  rcases hu with rfl | rfl | rfl <;> rfl
theorem lscs_one (xs : List Ls) : ∀ u ∈ lscs xs, u.oneCell' = true := by
  intro u hu
  simp only [lscs, List.mem_flatMap] at hu
  obtain ⟨x, _, hx⟩ := hu
  exact x.one u hx

/-- The cells of x from the place o of block g on. -/
def LsAt (w : World) (g o : Nat) (x : Ls) : Prop :=
  w.cell? ⟨g, o, none⟩ = some (.int .i64 x.i) ∧ w.cell? ⟨g, o + 1, none⟩ = some (.int .i64 x.w) ∧ w.cell? ⟨g, o + 2, none⟩ = some (.int .i64 x.u)

theorem LsAt.below {w w' : World} {g o B : Nat} {x : Ls} (h : LsAt w g o x) (hb : Below B w w') (hg : g < B) : LsAt w' g o x :=
  ⟨(hb.cell (p := ⟨g, o, none⟩) hg).trans h.1, (hb.cell (p := ⟨g, o + 1, none⟩) hg).trans h.2.1, (hb.cell (p := ⟨g, o + 2, none⟩) hg).trans h.2.2⟩

/-- The slice value v reads in w as xs. -/
def LsRow (w : World) (v : Value) (xs : List Ls) : Prop :=
  ∃ ao cap, v = .slice ao xs.length cap ∧ (xs.length ≤ cap ∧ (ao = none → cap = 0)) ∧ xs.length ≤ 9223372036854775807 ∧
    (xs ≠ [] → ∃ g o, ao = some ⟨g, o, none⟩ ∧ g < w.heap.size ∧ ∀ i x, xs[i]? = some x → LsAt w g (o + i * 3) x)

theorem LsRow.small {w : World} {v : Value} {xs : List Ls} (R : LsRow w v xs) : ∃ ao cap, v = .slice ao xs.length cap := by
  obtain ⟨ao, cap, rfl, _⟩ := R
  exact ⟨ao, cap, rfl⟩

theorem LsRow.below {w w' : World} {v : Value} {xs : List Ls} (h : LsRow w v xs) (hb : Below w.heap.size w w') : LsRow w' v xs := by
  obtain ⟨ao, cap, rfl, hc, hm, hcell⟩ := h
  refine ⟨ao, cap, rfl, hc, hm, fun hne => ?_⟩
  obtain ⟨g, o, rfl, hg, hcell⟩ := hcell hne
  exact ⟨g, o, rfl, Nat.lt_of_lt_of_le hg hb.size, fun i x hi => (hcell i x hi).below hb hg⟩

/-- What the call owns reads as what it holds. -/
theorem LsRow.of_own {w : World} {base : Nat} {v : Value} {xs : List Ls} (h : w.ownsRow base 40 3 v xs.length (lscs xs)) (hm : xs.length ≤ 9223372036854775807) : LsRow w v xs := by
  rcases h.2 with ⟨rfl, h0⟩ | ⟨g, cap, cur, rfl, hb, hg, hnc, hcm, hcs, htake⟩
  · have : xs = [] := List.eq_nil_of_length_eq_zero h0
    subst this
    exact ⟨none, 0, rfl, by simp, by simp, fun h => absurd rfl h⟩
  · refine ⟨_, cap, rfl, ⟨hnc, fun h => by cases h⟩, hm, fun _ => ⟨g, 0, rfl, (Array.getElem?_eq_some_iff.1 hg).1, fun i x hi => ?_⟩⟩
    have hl : i < xs.length := (List.getElem?_eq_some_iff.1 hi).1
    have e : ∀ j, j < 3 → w.cell? ⟨g, 0 + i * 3 + j, none⟩ = x.cs[j]? := fun j hj => by
      have := h.cellAt (i * 3 + j) (by omega)
      rw [Nat.zero_add, this, lscs_get xs i x hi j hj]
    exact ⟨e 0 (by omega), e 1 (by omega), e 2 (by omega)⟩

theorem Try.infoLs : (Try.prog.info? 40).map (fun i => (i.zero, i.size, i.bytes)) = some (some (.agg #[.int .i64 0, .int .i64 0, .int .i64 0]), 3, 24) := by kernel_rfl
theorem Try.sizeLs : (Try.prog.info? 40).map (·.size) = some 3 := by kernel_rfl

/-- A record stored whole into the call's own row. -/
theorem wpList_store_ls {ops : Array Oper} {rest : List Oper} {op : Oper} {a : Act} {w : World} {Q : Exit → Act → World → Prop} (hgd : op.guard = none) (x y : Operand) (ho : op.op = .store 40 x y)
    (base g i cap : Nat) (xs : List Ls) (nd : Ls) (hx : a.eval x = .pointer (some ⟨g, i * 3, none⟩)) (hy : a.eval y = .agg #[.int .i64 nd.i, .int .i64 nd.w, .int .i64 nd.u])
    (hi : i < xs.length) (hown : w.ownsRow base 40 3 (.slice (some ⟨g, 0, none⟩) xs.length cap) xs.length (lscs xs))
    (h : ∀ w2 : World, w2.ownsRow base 40 3 (.slice (some ⟨g, 0, none⟩) xs.length cap) xs.length (lscs (xs.set i nd)) → w.grownBy w2 (some g) → wpList Try.prog ops Q rest (a.put op.dst undef) w2) : wpList Try.prog ops Q (op :: rest) a w := by
  have ht : w.there g (i * 3) 3 := fun j hj => by
    have := hown.cellAt (i * 3 + j) (by omega)
    refine ⟨?_, hown.frozenAt _⟩
    rw [this, List.getElem?_eq_getElem (by rw [lscs_length]; omega)]
    rfl
  refine wpList_store_mid hgd 40 x y ho g (i * 3) _ hx hy ht Try.sizeLs (all_oneCell_toArray nd.one) ?_
  have e0 : xs[i]? = some xs[i] := List.getElem?_eq_getElem hi
  have get : ∀ y : Ls, (xs.set i y)[i]? = some y := fun y => by simp [hi]
  have s0 := hown.stored (i * 3) (.int .i64 nd.i)
  rw [lscs_set0 xs i xs[i] ⟨nd.i, xs[i].w, xs[i].u⟩ e0 _ rfl] at s0
  have s1 := s0.1.stored (i * 3 + 1) (.int .i64 nd.w)
  rw [lscs_set (xs.set i ⟨nd.i, xs[i].w, xs[i].u⟩) i ⟨nd.i, xs[i].w, xs[i].u⟩ ⟨nd.i, nd.w, xs[i].u⟩ (get _) 1 (by omega) (.int .i64 nd.w) rfl, List.set_set] at s1
  have s2 := s1.1.stored (i * 3 + 2) (.int .i64 nd.u)
  rw [lscs_set (xs.set i ⟨nd.i, nd.w, xs[i].u⟩) i ⟨nd.i, nd.w, xs[i].u⟩ ⟨nd.i, nd.w, nd.u⟩ (get _) 2 (by omega) (.int .i64 nd.u) rfl, List.set_set] at s2
  exact h _ s2.1 ((s0.2.trans s1.2).trans s2.2)

set_option maxHeartbeats 400000 in
theorem tols_any (x : Ls) (w : World) :
    Calls Try.prog 50 #[.agg #[.int .i64 x.i, .int .i64 x.w, .int .i64 x.u]] w fun e w' => e = .returned (.agg #[.int .i64 x.i, .int .i64 x.w, .int .i64 x.u]) ∧ Below w.heap.size w w' := by
  go_enter Try.func50, Try.ntmps50
  go_wp2
  exact bodyPost_ret (results_cell_row rfl _ _ (w.heap.size + 1) 40 _ (0, 0) _ rfl ((heap_alloc_old _ _ (by simp)).trans (heap_alloc2_new _ _ _)) Try.underlying40 rfl Try.sizeLs) rfl
    ⟨rfl, (((Below.refl _ _).alloc (Nat.le_refl _) _).alloc (by simp) _).alloc (by simp; omega) _⟩

set_option maxHeartbeats 800000 in
theorem eqls_any (x : Ls) (w : World) :
    Calls Try.prog 51 #[.agg #[.int .i64 x.i, .int .i64 x.w, .int .i64 x.u], .agg #[.int .i64 x.i, .int .i64 x.w, .int .i64 x.u]] w fun e w' => e = .returned (.bool true) ∧ Below w.heap.size w w' := by
  go_enter Try.func51, Try.ntmps51
  go_wp2
  go_ret
  exact ⟨rfl, ((Below.refl _ _).alloc (Nat.le_refl _) _).alloc (by simp) _⟩

/-- The first j of xs, and zero ones behind them. -/
def zeroLs : Ls := ⟨0, 0, 0⟩
def lscopied (xs : List Ls) (j : Nat) : List Ls := xs.take j ++ List.replicate (xs.length - j) zeroLs
theorem lscopied_length (xs : List Ls) (j : Nat) (h : j ≤ xs.length) : (lscopied xs j).length = xs.length := by simp [lscopied]; omega
theorem lscopied_full (xs : List Ls) : lscopied xs xs.length = xs := by simp [lscopied]
theorem lscs_zeros (n : Nat) : lscs (List.replicate n zeroLs) = (madeCells #[Value.int .i64 0, .int .i64 0, .int .i64 0] (n * 3)).toList := by
  apply List.ext_getElem?
  intro j
  by_cases hj : j < n * 3
  · have hq : j / 3 < n := by omega
    rw [show j = j / 3 * 3 + j % 3 by omega, lscs_get _ (j / 3) zeroLs (by simp [hq]) (j % 3) (by omega)]
    rw [show j / 3 * 3 + j % 3 = j by omega]
    have h5 : j % 3 = 0 ∨ j % 3 = 1 ∨ j % 3 = 2 := by omega
    rcases h5 with h5 | h5 | h5 <;> simp [madeCells, hj, h5, zeroLs, Ls.cs]
  · rw [List.getElem?_eq_none (by rw [lscs_length, List.length_replicate]; omega), List.getElem?_eq_none (by simp [madeCells]; omega)]
theorem lscopied_zero (xs : List Ls) : lscs (lscopied xs 0) = (madeCells #[Value.int .i64 0, .int .i64 0, .int .i64 0] (xs.length * 3)).toList := by
  rw [← lscs_zeros]; simp [lscopied]
theorem lscopied_set (xs : List Ls) (j : Nat) (h : j < xs.length) : (lscopied xs j).set j xs[j] = lscopied xs (j + 1) := by
  unfold lscopied
  rw [show xs.length - j = xs.length - (j + 1) + 1 by omega, List.replicate_succ, List.take_succ_eq_append_getElem h]
  rw [List.set_append_right _ _ (by simp; omega)]
  have e : j - (List.take j xs).length = 0 := by simp; omega
  rw [e, List.set_cons_zero, List.append_assoc]
  rfl

set_option maxHeartbeats 800000 in
theorem tolss_any (v : Value) (xs : List Ls) (w : World) (R : LsRow w v xs) (hm : xs.length ≤ 2097152) :
    Calls Try.prog 27 #[v] w fun e w' => ∃ v', e = .returned v' ∧ w'.ownsRow w.heap.size 40 3 v' xs.length (lscs xs) ∧ Below w.heap.size w w' := by
  obtain ⟨ao, cap, rfl, hcap, _, hcell⟩ := R
  obtain ⟨i0, hi, hz0, hz1, hz2⟩ := info_parts Try.infoLs
  have hbytes : i0.bytes * xs.length ≤ 281474976710656 := by rw [hz2]; omega
  have hmax : xs.length ≤ maxLen := by unfold maxLen; omega
  go_enter Try.func27, Try.ntmps27
  go_wp2_with (at_make; refine wpList_make_full _ rfl _ _ 24 rfl w.heap.size 40 i0 _ 3 Try.underlying24 hi hz0 hz1 _ _ _ _ xs.length rfl rfl rfl rfl hbytes hmax (Nat.le_refl _) ?_)
  intro w1 hown hgrow
  have hbel : Below w.heap.size w w1 := (Below.refl _ _).grown hgrow (Nat.le_refl _) (by intro k hk; cases hk)
  clear hgrow
  go_wp2
  go_loopw [4] (fun i wr => ∃ j : Nat, j ≤ xs.length ∧ i = .int .i64 j ∧ wr.ownsRow w.heap.size 40 3 (.slice (some ⟨w.heap.size, 0, none⟩) xs.length xs.length) xs.length (lscs (lscopied xs j)) ∧ Below w.heap.size w wr) (fun i _ => xs.length - (intOf i).toNat)
  case atStart => exact ⟨0, by omega, rfl, by rw [lscopied_zero]; exact hown, hbel⟩
  case round =>
    clear hown hbel hbytes hmax
    obtain ⟨j, hj, rfl, hown, hbel⟩ := hrel
    by_cases hlt : j < xs.length
    · obtain ⟨g, o, rfl, hg, hcell⟩ := hcell (by intro e; subst e; simp at hlt)
      obtain ⟨c0, c1, c2⟩ := (hcell j xs[j] (by simp [hlt])).below hbel hg
      have HC := lscopied_length xs j hj
      clear hcell
      go_wp2_with fail
      refine (tols_any xs[j] _).mono ?_
      rintro e w2 ⟨rfl, hb2⟩
      have hown2 : w2.ownsRow w.heap.size 40 3 (.slice (some ⟨w.heap.size, 0, none⟩) (lscopied xs j).length xs.length) (lscopied xs j).length (lscs (lscopied xs j)) := by
        rw [HC]; exact own_below hown hb2
      have hB2 := hbel.trans (hb2.mono hbel.size)
      clear c0 c1 c2 hown hb2 hbel
      go_wp2_with (refine wpList_store_ls rfl _ _ rfl w.heap.size w.heap.size j xs.length (lscopied xs j) xs[j] rfl rfl (by omega) hown2 ?_)
      intro w3 hown3 hg3
      rw [lscopied_set xs j hlt] at hown3
      have hB3 : Below w.heap.size w w3 := hB2.grown hg3 hB2.size (fun k hk => by simp at hk; omega)
      clear hown2 hg3
      go_wp2
      go_roundw
      case rel => exact ⟨j + 1, by omega, by go_num, hown3, hB3⟩
      case measure => simp [intOf]; omega
    · go_wp2
      go_ret
      have : j = xs.length := by omega
      subst this
      rw [lscopied_full] at hown
      exact ⟨_, rfl, hown, hbel⟩

set_option maxHeartbeats 800000 in
theorem szlss_any (v : Value) (xs : List Ls) (l : Int) (w : World) (R : LsRow w v xs) (hl0 : 0 ≤ l) (hl1 : l ≤ 1048576) :
    Calls Try.prog 26 #[v, .int .i64 l] w fun e w' => ∃ r : Int, e = .returned (.int .i64 r) ∧ -1 ≤ r ∧ r ≤ 1048576 ∧ (0 ≤ r → xs.length ≤ 1048576) ∧ w' = w := by
  obtain ⟨ao, cap, rfl, hcap, hm, hcell⟩ := R
  by_cases hlen : (xs.length : Int) ≤ l
  · go_enter Try.func26, Try.ntmps26
    go_wp2
    go_ret
    exact ⟨_, rfl, by omega, by omega, fun h => by omega, rfl⟩
  · go_enter Try.func26, Try.ntmps26
    go_wp2
    go_ret
    exact ⟨-1, rfl, by omega, by omega, fun h => by omega, rfl⟩

set_option maxHeartbeats 800000 in
theorem eqlss_any (va vb : Value) (xs : List Ls) (w : World) (Ra : LsRow w va xs) (Rb : LsRow w vb xs) :
    Calls Try.prog 28 #[va, vb] w fun e w' => e = .returned (.bool true) ∧ Below w.heap.size w w' := by
  obtain ⟨aa, ca, rfl, hca, hm, hcella⟩ := Ra
  obtain ⟨ab, cb, rfl, hcb, _, hcellb⟩ := Rb
  have hn : ((xs.length : Int) != (xs.length : Int)) = false := by simp
  go_enter Try.func28, Try.ntmps28
  go_wp2
  go_loopw [5] (fun i wr => ∃ k : Nat, k ≤ xs.length ∧ i = .int .i64 k ∧ Below w.heap.size w wr) (fun i _ => xs.length - (intOf i).toNat)
  case atStart => exact ⟨0, by omega, rfl, Below.refl _ _⟩
  case round =>
    obtain ⟨k, hk, rfl, hb⟩ := hrel
    by_cases hlt : k < xs.length
    · obtain ⟨ga, oa, rfl, hga, hcella⟩ := hcella (by intro e; subst e; simp at hlt)
      obtain ⟨gb, ob, rfl, hgb, hcellb⟩ := hcellb (by intro e; subst e; simp at hlt)
      obtain ⟨x, hx⟩ : ∃ x, xs[k]? = some x := ⟨xs[k], by simp [hlt]⟩
      obtain ⟨c0, c1, c2⟩ := (hcella k x hx).below hb hga
      obtain ⟨d0, d1, d2⟩ := (hcellb k x hx).below hb hgb
      clear hcella hcellb hx
      go_wp2_with fail
      go_region_with (go_at_call 51; refine (eqls_any x _).mono ?_; rintro e w2 ⟨rfl, hb2⟩)
      all_goals
        have hB2 : Below w.heap.size w w2 := hb.drew.trans (hb2.mono hb.size)
        clear c0 c1 c2 d0 d1 d2 hb2
        go_wp2
        go_roundw
        case rel => exact ⟨k + 1, by omega, by go_num, hB2⟩
        case measure => simp [intOf]; omega
    · go_wp2
      go_ret
      exact ⟨rfl, hb⟩
end Go.Proofs.Ytdlbgdckkjhbdaa
