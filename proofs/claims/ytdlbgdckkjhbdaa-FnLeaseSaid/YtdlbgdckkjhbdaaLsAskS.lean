/-
  Contract of spec's LeaseAsk. No condition.
-/
import Derived.Test.YtdlbgdckkjhbdaaLsAskM
import Derived.Test.YtdlbgdckkjhbdaaVarS
import Derived.Deep.AppendLies
namespace Go.Proofs.Ytdlbgdckkjhbdaa
open Go.RowKit

theorem VarS.far {w w' : World} {lo hi g : Nat} {v : Value} {xs : List Ls} (V : VarS w lo hi v xs) (hg : w.grownBy w' (some g)) (hd : g < lo ∨ hi ≤ g) : VarS w' lo hi v xs := by
  refine ⟨V.1.kept hg ?_, V.2.1, Nat.le_trans V.2.2 hg.size⟩
  cases hv : v.ownBlock with
  | none => exact Or.inl rfl
  | some k =>
    refine Or.inr fun e => ?_
    have k1 := V.2.1 k hv
    have k2 := (V.1.lt k hv).1
    cases e
    omega
/-- A copy of a list, made by append onto an empty one of one's own. -/
theorem varS_lit (w : World) : VarS (w.alloc (Obj.cells #[] 40)) w.heap.size (w.heap.size + 1) (.slice (some ⟨w.heap.size, 0, none⟩) 0 0) [] :=
  ⟨own_none0 w 40 3 w.heap.size (Nat.le_refl _), fun k hk => by simp [Value.ownBlock] at hk; omega, by simp⟩
theorem lsIdx_hit2 {xs : List Ls} {i q : Int} {k : Nat} (h : lsIdx xs i q 0 = (k : Int)) : ∃ x, xs[k]? = some x ∧ x.i = i ∧ x.w = q := by
  rcases lsIdx_of xs i q 0 with ⟨h1, _⟩ | ⟨j, x, h1, h2, h3, h4, _⟩
  · omega
  · have : j = k := by omega
    subst this
    exact ⟨x, h2, h3, h4⟩

set_option maxRecDepth 100000 in
set_option maxHeartbeats 6400000 in
theorem sleaseask_any (v : Value) (xs : List Ls) (i q n : Int) (w : World) (R : LsRow w v xs) :
    Calls Try.prog 12 #[v, .int .i64 i, .int .i64 q, .int .i64 n] w (AkAns xs i q n w) := by
  obtain ⟨ao, cap, rfl⟩ := R.small
  have hB0 : Below w.heap.size w (w.alloc (Obj.cells #[.int .i64 0, .int .i64 0] 28)) := (Below.refl _ _).alloc (Nat.le_refl _) _
  have hx0 := heap_alloc_new w (Obj.cells #[.int .i64 0, .int .i64 0] 28)
  have hs0 : w.heap.size < (w.alloc (Obj.cells #[.int .i64 0, .int .i64 0] 28)).heap.size := by simp
  have OK := fun (v : Value) (w : World) (R : LsRow w v xs) => sleasesok_any v xs w R
  have R0 := R.below hB0
  cases hb : lsB xs with
  | false =>
    have AA := fun (w' : World) (u : Value) (ho : w'.ownsRow w.heap.size 40 3 u 0 []) (hbl : Below w.heap.size w w') => AkAns.of (i := i) (q := q) (n := n) (ak_bad hb) ho hbl
    rw [hb] at OK
    generalize AkAns xs i q n w = PP at *
    go_enter Try.func12, Try.ntmps12
    go_wp2_with fail
    refine (OK _ _ R0).mono ?_
    rintro e w1 ⟨rfl, hb1⟩
    have hx1 := (hb1.block _ hs0).trans hx0
    have hB1 := hB0.trans (hb1.mono hB0.size)
    have hs1 := (Array.getElem?_eq_some_iff.1 hx1).1
    clear R0 hb1 hx0 hs0 hB0 OK R
    have own2 := own_none0 w1 40 3 w.heap.size (Nat.le_of_lt hs1)
    have hB2 := hB1.alloc hB1.size (Obj.cells #[] 40)
    have hx2 := (heap_alloc_old w1 (Obj.cells #[] 40) hs1).trans hx1
    go_wp2_with (refine wpList_store_own2 rfl 28 _ _ rfl w.heap.size #[.int .i64 0, .int .i64 0] rfl rfl 28 _ hx2 Try.sizeGrip rfl (by simp [Value.oneCell']) ?_)
    intro w6 hy6 hbg _ hoth
    have hB6 := hB2.trans hbg
    have own6 := own_keep2 own2 (by decide) hx2 hoth
    clear own2 hoth hbg hx2 hB2 hx1 hB1
    go_wp2
    refine bodyPost_ret (results_tmp_row_tmp rfl _ _ w.heap.size 28 _ (0, 0) _ rfl hy6 Try.underlying28 rfl Try.sizeGrip) rfl ?_
    exact AA _ _ own6 hB6
  | true =>
  obtain ⟨i0, hi, hz0, hz1, hz2⟩ := info_parts Try.infoLs
  have hl20 := lsB_len hb
  have AN := fun (h : ¬ ((0 ≤ n ∧ n ≤ 1000000000) ∧ lsB (wlL xs ⟨i, q, n + 20⟩) = true)) (w' : World) (u : Value) (ho : w'.ownsRow w.heap.size 40 3 u xs.length (lscs xs)) (hbl : Below w.heap.size w w') => AkAns.of (i := i) (q := q) (n := n) (ak_no hb h) ho hbl
  have AY := fun (h1 : 0 ≤ n ∧ n ≤ 1000000000) (h2 : lsB (wlL xs ⟨i, q, n + 20⟩) = true) (w' : World) (u : Value) (ho : w'.ownsRow w.heap.size 40 3 u (wlL xs ⟨i, q, n + 20⟩).length (lscs (wlL xs ⟨i, q, n + 20⟩))) (hbl : Below w.heap.size w w') => AkAns.of (i := i) (q := q) (n := n) (ak_yes hb h1 h2) ho hbl
  have AT := fun (v : Value) (w : World) (R : LsRow w v xs) => s11at_any v xs i q w R
  have HD : Hid (wlL xs ⟨i, q, n + 20⟩ = if 0 ≤ lsIdx xs i q 0 then xs.set (lsIdx xs i q 0).toNat ⟨i, q, n + 20⟩ else xs ++ [⟨i, q, n + 20⟩]) := rfl
  have hpl := (lsIdx_lt xs i q)
  have hph : ∀ k : Nat, lsIdx xs i q 0 = (k : Int) → ∃ x, xs[k]? = some x ∧ x.i = i ∧ x.w = q := fun k h => lsIdx_hit2 h
  have hwl := wlL_len xs ⟨i, q, n + 20⟩
  rw [hb] at OK
  generalize AkAns xs i q n w = PP at *
  generalize wlL xs ⟨i, q, n + 20⟩ = Y at *
  generalize lsIdx xs i q 0 = p at *
  have LI := fun r h => lin_is n 0 1000000000 r h
  go_enter Try.func12, Try.ntmps12
  go_wp2_with fail
  refine (OK _ _ R0).mono ?_
  rintro e w1 ⟨rfl, hb1⟩
  have hx1 := (hb1.block _ hs0).trans hx0
  have hB1 := hB0.trans (hb1.mono hB0.size)
  have hs1 := (Array.getElem?_eq_some_iff.1 hx1).1
  clear R0 hb1 hx0 hs0 hB0 OK
  have hBa := hB1.alloc hB1.size (Obj.cells #[] 40)
  have S1 := R.below hBa
  have V0 := varS_lit w1
  go_wp2_with (at_builtin; refine wpList_append_own_any _ rfl _ _ 24 rfl w1.heap.size 40 i0 _ 3 24 Try.underlying24 hi hz0 hz1 hz2 rfl (by decide) _ 0 _ rfl V0.1 ao xs.length cap (lscs xs) rfl (by rw [lscs_length]) S1.nilcap S1.cells (lscs_one xs) (by unfold maxLen; omega) (by omega) (by simp) ?_)
  intro u1 w2 own2 hg2
  replace own2 : w2.ownsRow w1.heap.size 40 3 u1 xs.length (lscs xs) := by simpa [lscs_nil] using own2
  obtain ⟨b1, d1, rfl⟩ := own_form own2
  have V1 := VarS.new own2
  have l1w2 : w1.heap.size ≤ w2.heap.size := by have := hg2.size; simp at this; omega
  have hx2 := (hg2.block _ (by simp; omega) (fun e => by simp [Value.ownBlock] at e; omega)).trans ((heap_alloc_old w1 (Obj.cells #[] 40) hs1).trans hx1)
  have hB2 : Below w.heap.size w w2 := hBa.grown hg2 (by have := hB1.size; simp; omega) (fun k hk => by simp [Value.ownBlock] at hk; have := hB1.size; omega)
  have hs2 := (Array.getElem?_eq_some_iff.1 hx2).1
  clear S1 V0 hBa hg2 hx1 hB1 own2
  have hBa := hB2.alloc hB2.size (Obj.cells #[] 40)
  have S1 := R.below hBa
  have V0 := varS_lit w2
  go_wp2_with (at_builtin; refine wpList_append_own_any _ rfl _ _ 24 rfl w2.heap.size 40 i0 _ 3 24 Try.underlying24 hi hz0 hz1 hz2 rfl (by decide) _ 0 _ rfl V0.1 ao xs.length cap (lscs xs) rfl (by rw [lscs_length]) S1.nilcap S1.cells (lscs_one xs) (by unfold maxLen; omega) (by omega) (by simp) ?_)
  intro u2 w3 own3 hg3
  replace own3 : w3.ownsRow w2.heap.size 40 3 u2 xs.length (lscs xs) := by simpa [lscs_nil] using own3
  obtain ⟨b2, d2, rfl⟩ := own_form own3
  have V2 := VarS.new own3
  replace V1 := (V1.below ((Below.refl _ _).alloc (Nat.le_refl _) (Obj.cells #[] 40))).kept V0 hg3 (Or.inl (Nat.le_refl _))
  have hx3 := (hg3.block _ (by simp; omega) (fun e => by simp [Value.ownBlock] at e; omega)).trans ((heap_alloc_old w2 (Obj.cells #[] 40) hs2).trans hx2)
  have hB3 : Below w.heap.size w w3 := hBa.grown hg3 (by have := hB2.size; simp; omega) (fun k hk => by simp [Value.ownBlock] at hk; have := hB2.size; omega)
  have hs3 := (Array.getElem?_eq_some_iff.1 hx3).1
  have l12 : w.heap.size ≤ w1.heap.size := Nat.le_of_lt hs1
  have l12s : w.heap.size < w1.heap.size := hs1
  have l23 : w.heap.size ≤ w2.heap.size := Nat.le_of_lt hs2
  clear S1 V0 hBa hg3 hx2 hB2 own3 hs1 hs2
  by_cases hn : 0 ≤ n ∧ n ≤ 1000000000
  rotate_left
  · have L1 := LI false (in_no hn)
    have AN' := AN (fun h => hn h.1)
    clear AN AY LI AT
    go_wp2_with fail
    refine (L1 _).mono ?_
    rintro e w4 ⟨rfl, rfl⟩
    go_wp2_with (refine wpList_store_own2 rfl 28 _ _ rfl w.heap.size #[.int .i64 0, .int .i64 0] rfl rfl 28 _ hx3 Try.sizeGrip rfl (by simp [Value.oneCell']) ?_)
    intro w8 hy8 hbg _ hoth
    have hB8 := hB3.trans hbg
    have own8 := own_mono (B' := w.heap.size) (own_keep2 V2.1 (by decide) hx3 hoth) l23
    clear hoth hbg
    go_wp2
    refine bodyPost_ret (results_tmp_row_tmp rfl _ _ w.heap.size 28 _ (0, 0) _ rfl hy8 Try.underlying28 rfl Try.sizeGrip) rfl ?_
    exact AN' _ _ own8 hB8
  have L1 := LI true (in_yes hn)
  obtain ⟨hn0, hn1⟩ := hn
  clear LI
  go_wp2_with fail
  refine (L1 _).mono ?_
  rintro e w4 ⟨rfl, hw4⟩
  have hw5 := hw4.symm
  subst hw5
  clear hw4 L1
  go_wp2_with fail
  refine (AT _ _ (R.below hB3)).mono ?_
  rintro e w4 ⟨rfl, hw4⟩
  have hw5 := hw4.symm
  subst hw5
  clear hw4 AT
  obtain ⟨hp0, hp1⟩ := hpl
  by_cases hp : 0 ≤ p
  · obtain ⟨k, rfl⟩ : ∃ k : Nat, p = k := ⟨p.toNat, by omega⟩
    obtain ⟨x, hxk, rfl, rfl⟩ := hph k rfl
    have hk : k < xs.length := by omega
    have HE : Hid (Y = xs.set k ⟨x.i, x.w, n + 20⟩) := by unfold Hid; rw [HD.out, if_pos hp]; simp
    clear HD hph
    obtain ⟨g, cg, hgv⟩ : ∃ g cg, (Value.slice b1 xs.length d1) = .slice (some ⟨g, 0, none⟩) xs.length cg := by
      rcases V1.1.2 with ⟨e, h0⟩ | ⟨g, cg, cur, e, _⟩
      · omega
      · exact ⟨g, cg, e⟩
    simp only [Value.slice.injEq, true_and] at hgv
    obtain ⟨rfl, rfl⟩ := hgv
    have hgb : w1.heap.size ≤ g := (V1.1.lt g rfl).1
    have hgh : g < w2.heap.size := V1.2.1 g rfl
    have hgs : g < w3.heap.size := (V1.1.lt g rfl).2
    have c2 := V1.1.cellAt (k * 3 + 2) (by omega)
    rw [lscs_get _ k _ hxk 2 (by omega)] at c2
    simp only [Ls.cs, List.getElem?_cons_succ, List.getElem?_cons_zero] at c2
    have f2 := V1.1.frozenAt (k * 3 + 2)
    have s2 := V1.1.stored (k * 3 + 2) (.int .i64 (n + 20))
    rw [lscs_set xs k x ⟨x.i, x.w, n + 20⟩ hxk 2 (by omega) _ rfl, ← HE.out] at s2
    have hYl : Y.length = xs.length := by rw [HE.out, List.length_set]
    have O5 : (w3.setCell ⟨g, k * 3 + 2, none⟩ (.int .i64 (n + 20))).ownsRow w1.heap.size 40 3 (.slice (some ⟨g, 0, none⟩) Y.length d1) Y.length (lscs Y) := by rw [hYl]; exact s2.1
    have V5 := V2.far s2.2 (Or.inl hgh)
    have hx5 := (heap_setCell_other w3 ⟨g, k * 3 + 2, none⟩ w.heap.size (.int .i64 (n + 20)) (by simp; omega)).trans hx3
    have hB5 := hB3.setCell (p := ⟨g, k * 3 + 2, none⟩) (by simp; omega) (.int .i64 (n + 20))
    have HYL : Hid (xs.length = Y.length) := hYl.symm
    clear s2 V1 V2 hx3 hB3 hYl hxk
    have OY0 := sleasesok_any (.slice (some ⟨g, 0, none⟩) Y.length d1) Y _ (LsRow.of_own O5 (by omega))
    have OY : Calls Try.prog 14 #[.slice (some ⟨g, 0, none⟩) xs.length d1] (w3.setCell ⟨g, k * 3 + 2, none⟩ (.int .i64 (n + 20))) fun e w' => e = .returned (.bool (lsB Y)) ∧ Below (w3.setCell ⟨g, k * 3 + 2, none⟩ (.int .i64 (n + 20))).heap.size (w3.setCell ⟨g, k * 3 + 2, none⟩ (.int .i64 (n + 20))) w' := by rw [HYL.out]; exact OY0
    clear OY0
    replace O5 : (w3.setCell ⟨g, k * 3 + 2, none⟩ (.int .i64 (n + 20))).ownsRow w1.heap.size 40 3 (.slice (some ⟨g, 0, none⟩) xs.length d1) Y.length (lscs Y) := by rw [HYL.out]; exact O5
    cases hy : lsB Y with
    | false =>
      have AN' := AN (fun h => by rw [hy] at h; cases h.2)
      rw [hy] at OY
      clear AN AY
      go_wp2_with fail
      refine OY.mono ?_
      rintro e w7 ⟨rfl, hb7⟩
      have hx7 := (hb7.block _ (Array.getElem?_eq_some_iff.1 hx5).1).trans hx5
      have hB7 := hB5.trans (hb7.mono hB5.size)
      have V7 := V5.below hb7
      clear hb7 hx5 hB5 O5 V5
      go_wp2_with (refine wpList_store_own2 rfl 28 _ _ rfl w.heap.size #[.int .i64 0, .int .i64 0] rfl rfl 28 _ hx7 Try.sizeGrip rfl (by simp [Value.oneCell']) ?_)
      intro w8 hy8 hbg _ hoth
      have hB8 := hB7.trans hbg
      have own8 := own_mono (B' := w.heap.size) (own_keep2 V7.1 (by decide) hx7 hoth) l23
      clear hoth hbg
      go_wp2
      refine bodyPost_ret (results_tmp_row_tmp rfl _ _ w.heap.size 28 _ (0, 0) _ rfl hy8 Try.underlying28 rfl Try.sizeGrip) rfl ?_
      exact AN' _ _ own8 hB8
    | true =>
      have AY' := AY ⟨hn0, hn1⟩ hy
      rw [hy] at OY
      clear AN AY
      go_wp2_with fail
      refine OY.mono ?_
      rintro e w7 ⟨rfl, hb7⟩
      have hx7 := (hb7.block _ (Array.getElem?_eq_some_iff.1 hx5).1).trans hx5
      have hB7 := hB5.trans (hb7.mono hB5.size)
      have O7 := own_below O5 hb7
      clear hb7 hx5 hB5 O5 V5
      have W1 : IntKind.i64.wrap (n + 20) = n + 20 := by rw [IntKind.wrap_i64]; omega
      have W2 : n + 20 - 3 = n + 17 := by omega
      have W3 : IntKind.i64.wrap (n + 17) = n + 17 := by rw [IntKind.wrap_i64]; omega
      go_wp2_with (refine wpList_store_own2 rfl 28 _ _ rfl w.heap.size #[.int .i64 x.i, .int .i64 (n + 17)] rfl rfl 28 _ hx7 Try.sizeGrip rfl (by simp [Value.oneCell']) ?_)
      intro w8 hy8 hbg _ hoth
      have hB8 := hB7.trans hbg
      have own8 := own_mono (B' := w.heap.size) (own_keep2 O7 (by decide) hx7 hoth) l12
      clear hoth hbg
      go_wp2
      refine bodyPost_ret (results_tmp_row_tmp rfl _ _ w.heap.size 28 _ (0, 0) _ rfl hy8 Try.underlying28 rfl Try.sizeGrip) rfl ?_
      exact AY' _ _ own8 hB8
  · have HE : Hid (Y = xs ++ [⟨i, q, n + 20⟩]) := by unfold Hid; rw [HD.out, if_neg hp]
    clear HD hph
    have L1 := LsRow.lit1 w3 ⟨i, q, 0⟩
    have hpn : p < 0 := by omega
    obtain ⟨H4, HH4⟩ : ∃ H4, (w3.alloc (.cells #[.int .i64 i, .int .i64 q, .int .i64 0] 40)).heap.size = H4 := ⟨_, rfl⟩
    have hH4 : w3.heap.size ≤ H4 := by rw [← HH4]; simp
    go_wp2_with (at_builtin; refine wpList_append_lies _ rfl _ _ 24 rfl w1.heap.size 40 i0 _ 3 24 Try.underlying24 hi hz0 hz1 hz2 rfl (by decide) _ _ _ rfl (V1.1.alloc _) ⟨w3.heap.size, 0, none⟩ 1 1 (lscs [⟨i, q, 0⟩]) rfl rfl (L1.cells _ rfl) (lscs_one _) (by omega) (by unfold maxLen; omega) (by omega) (by have := V1.2.2; simp; omega) H4 HH4 ?_)
    intro g c4 w4 o4 hg4 hgg hgs
    have V4 := (V2.below ((Below.refl _ _).alloc (Nat.le_refl _) (Obj.cells #[.int .i64 i, .int .i64 q, .int .i64 0] 40))).kept (V1.below ((Below.refl _ _).alloc (Nat.le_refl _) (Obj.cells #[.int .i64 i, .int .i64 q, .int .i64 0] 40))) hg4 (Or.inr (Nat.le_refl _))
    have hgf : g < w2.heap.size ∨ w3.heap.size ≤ g := by
      rcases hgg with e | rfl
      · exact Or.inl (V1.2.1 g e)
      · exact Or.inr hH4
    have hx4 := (hg4.block _ (by simp; omega) (fun e => own_ne V1.1 hx3 (by decide) e.symm)).trans ((heap_alloc_old w3 (Obj.cells #[.int .i64 i, .int .i64 q, .int .i64 0] 40) hs3).trans hx3)
    have hB4 : Below w.heap.size w w4 := (hB3.alloc hB3.size _).grown hg4 (by have := hB3.size; simp; omega) (fun k hk => by have := (V1.1.lt k hk).1; omega)
    have o4' : w4.ownsRow w1.heap.size 40 3 (.slice (some ⟨g, 0, none⟩) (xs.length + 1) c4) (xs.length + 1) (lscs (xs ++ [⟨i, q, 0⟩])) := by rw [lscs_append]; exact o4
    have hgw : w1.heap.size ≤ g := (o4'.lt g rfl).1
    have hxk : (xs ++ [(⟨i, q, 0⟩ : Ls)])[xs.length]? = some ⟨i, q, 0⟩ := by simp
    have c2 := o4'.cellAt (xs.length * 3 + 2) (by omega)
    rw [lscs_get _ xs.length _ hxk 2 (by omega)] at c2
    simp only [Ls.cs, List.getElem?_cons_succ, List.getElem?_cons_zero] at c2
    have f2 := o4'.frozenAt (xs.length * 3 + 2)
    have s2 := o4'.stored (xs.length * 3 + 2) (.int .i64 (n + 20))
    rw [lscs_set _ xs.length ⟨i, q, 0⟩ ⟨i, q, n + 20⟩ hxk 2 (by omega) _ rfl] at s2
    have HYS : Hid ((xs ++ [(⟨i, q, 0⟩ : Ls)]).set xs.length ⟨i, q, n + 20⟩ = Y) := by unfold Hid; rw [HE.out]; simp
    rw [HYS.out] at s2
    have HYL : Hid (Y.length = xs.length + 1) := by unfold Hid; rw [HE.out]; simp
    have O5 : (w4.setCell ⟨g, xs.length * 3 + 2, none⟩ (.int .i64 (n + 20))).ownsRow w1.heap.size 40 3 (.slice (some ⟨g, 0, none⟩) (xs.length + 1) c4) Y.length (lscs Y) := by rw [HYL.out]; exact s2.1
    have OY : Calls Try.prog 14 #[.slice (some ⟨g, 0, none⟩) (xs.length + 1) c4] (w4.setCell ⟨g, xs.length * 3 + 2, none⟩ (.int .i64 (n + 20))) fun e w' => e = .returned (.bool (lsB Y)) ∧ Below (w4.setCell ⟨g, xs.length * 3 + 2, none⟩ (.int .i64 (n + 20))).heap.size (w4.setCell ⟨g, xs.length * 3 + 2, none⟩ (.int .i64 (n + 20))) w' := sleasesok_any _ Y _ (LsRow.of_own O5 (by omega))
    have V5 := V4.far s2.2 hgf
    have hx5 := (heap_setCell_other w4 ⟨g, xs.length * 3 + 2, none⟩ w.heap.size (.int .i64 (n + 20)) (by simp; omega)).trans hx4
    have hB5 := hB4.setCell (p := ⟨g, xs.length * 3 + 2, none⟩) (by simp; omega) (.int .i64 (n + 20))
    clear s2 V1 V2 V4 hx3 hB3 hxk hx4 hB4 o4 o4' HYS hgf hgg hg4 L1
    cases hy : lsB Y with
    | false =>
      have AN' := AN (fun h => by rw [hy] at h; cases h.2)
      rw [hy] at OY
      clear AN AY
      go_wp2_with fail
      refine OY.mono ?_
      rintro e w7 ⟨rfl, hb7⟩
      have hx7 := (hb7.block _ (Array.getElem?_eq_some_iff.1 hx5).1).trans hx5
      have hB7 := hB5.trans (hb7.mono hB5.size)
      have V7 := V5.below hb7
      clear hb7 hx5 hB5 O5 V5
      go_wp2_with (refine wpList_store_own2 rfl 28 _ _ rfl w.heap.size #[.int .i64 0, .int .i64 0] rfl rfl 28 _ hx7 Try.sizeGrip rfl (by simp [Value.oneCell']) ?_)
      intro w8 hy8 hbg _ hoth
      have hB8 := hB7.trans hbg
      have own8 := own_mono (B' := w.heap.size) (own_keep2 V7.1 (by decide) hx7 hoth) l23
      clear hoth hbg
      go_wp2
      refine bodyPost_ret (results_tmp_row_tmp rfl _ _ w.heap.size 28 _ (0, 0) _ rfl hy8 Try.underlying28 rfl Try.sizeGrip) rfl ?_
      exact AN' _ _ own8 hB8
    | true =>
      have AY' := AY ⟨hn0, hn1⟩ hy
      rw [hy] at OY
      clear AN AY
      go_wp2_with fail
      refine OY.mono ?_
      rintro e w7 ⟨rfl, hb7⟩
      have hx7 := (hb7.block _ (Array.getElem?_eq_some_iff.1 hx5).1).trans hx5
      have hB7 := hB5.trans (hb7.mono hB5.size)
      have O7 := own_below O5 hb7
      clear hb7 hx5 hB5 O5 V5
      have W1 : IntKind.i64.wrap (n + 20) = n + 20 := by rw [IntKind.wrap_i64]; omega
      have W2 : n + 20 - 3 = n + 17 := by omega
      have W3 : IntKind.i64.wrap (n + 17) = n + 17 := by rw [IntKind.wrap_i64]; omega
      go_wp2_with (refine wpList_store_own2 rfl 28 _ _ rfl w.heap.size #[.int .i64 i, .int .i64 (n + 17)] rfl rfl 28 _ hx7 Try.sizeGrip rfl (by simp [Value.oneCell']) ?_)
      intro w8 hy8 hbg _ hoth
      have hB8 := hB7.trans hbg
      have own8 := own_mono (B' := w.heap.size) (own_keep2 O7 (by decide) hx7 hoth) l12
      clear hoth hbg
      go_wp2
      refine bodyPost_ret (results_tmp_row_tmp rfl _ _ w.heap.size 28 _ (0, 0) _ rfl hy8 Try.underlying28 rfl Try.sizeGrip) rfl ?_
      exact AY' _ _ own8 hB8
end Go.Proofs.Ytdlbgdckkjhbdaa
