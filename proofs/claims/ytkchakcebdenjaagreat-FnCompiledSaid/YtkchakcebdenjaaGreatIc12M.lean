/-
  Texts that stood by themselves, laid into one.
-/
import Derived.Test.YtkchakcebdenjaaGreatIc9M
import Derived.Test.YtkchakcebdenjaaGreatSCp9M
import Derived.Test.YtkchakcebdenjaaGreatInstrM
/-
  The contract of the compiler's define. No condition beyond the compiler's memory.
-/
namespace Go.Proofs.YtkchakcebdenjaaGreat
open Go.RowKit
theorem IC.putD {xs : List Nd} {C : Nat} {w w1 : World} {num : Int} {env : Env} {pv lv dv fv dv' : Value} {L : List In} {D D' : List Df} (h : IC xs C w num env pv lv dv fv L D) (hg : w.grownBy w1 dv.ownBlock) (ho : w1.ownsRow (C + 1) 51 3 dv' D'.length (dfcs D')) : IC xs C (w1.setCell ⟨C, 2, none⟩ dv') num env pv lv dv' fv L D' ∧ IF C w (w1.setCell ⟨C, 2, none⟩ dv') := by
  have hC := h.lt
  have hF := (IF.of_grown h.defs (.inr (.inl rfl)) hC hg).trans (IF.of_set w1 2 dv')
  have hb : w1.heap[C]? = some (.cells #[pv, lv, dv, .int .i64 num, fv] 71 (0, 0)) := (hg.block C hC (fun e => own_ne h.defs h.blk (by decide) e.symm)).trans h.blk
  have ne : ∀ {e : TypeId} {m n : Nat} {v : Value} {l : List Value} {B : Nat}, w1.ownsRow B e m v n l → 71 ≠ e → (w1.setCell ⟨C, 2, none⟩ dv').ownsRow B e m v n l := fun ho he => ownsRow_setCell_other ho (a := ⟨C, 2, none⟩) (own_ne ho hb he) _
  exact ⟨⟨heap_setCell_same w1 C 2 _ _ dv' hb, h.pool.under h.out hF.below, h.out, ne (h.list.kept hg (own_apart h.list h.defs (by decide))) (by decide), ne ho (by decide), (h.frm.kept h.defs hg (by decide) (by decide)).set hb (by decide) (by decide)⟩, hF⟩
set_option maxRecDepth 100000 in
set_option maxHeartbeats 6400000 in
theorem icdefine_any (xs : List Nd) (C : Nat) (num : Int) (e : Ex) (hst : Stay e) (name : ByteArray) (vs body : List Int) (vv bv : Value) (s : CS) (w : World) (h : Ic xs C w num [] s.list s.defs) (h0 : s.how = 0) (hl : s.list.length ≤ 400) (hSm : Sm s) (hdl : s.defs.length ≤ 2097152) (TV : TRow w vv vs) (hv : InP xs vs) (h4 : vs.length ≤ 4) (ha : allVars xs vs = true) (T : TRow w bv body) (hE : ∀ z ∈ body, ICE xs C num e z ∧ 0 + 1 + z.toNat ≤ 3001) :
    Calls Tryz.prog 70 #[.pointer (some ⟨C, 0, none⟩), .agg #[.string name, vv, bv]] w fun r w' => Out xs C num [] (if namesHow xs vs = 0 then cdefine e name (nameL xs vs) body s else { s with how := namesHow xs vs }) (.tuple #[]) r w' ∧ IF C w w' := by
  obtain ⟨i0, hi, hz0, hz1, hz2⟩ := info_parts Tryz.infoDf
  obtain ⟨av, cv, rfl, _⟩ := TV.form
  obtain ⟨ab, cb, rfl, _⟩ := T.form
  have hC := h.lt
  have hB0 : Below w.heap.size w (w.alloc (Obj.cells #[.string name, .slice av vs.length cv, .slice ab body.length cb] 114)) := (Below.refl _ _).alloc (Nat.le_refl _) _
  have hx0 : (w.alloc (Obj.cells #[.string name, .slice av vs.length cv, .slice ab body.length cb] 114)).heap[w.heap.size]? = some (.cells #[.string name, .slice av vs.length cv, .slice ab body.length cb] 114 (0, 0)) := heap_alloc_new _ _
  have I0 := h.on hB0
  have F0 := IF.of_below (C := C) hB0 (by omega)
  have TV0 := TV.below hB0
  have T0 := T.below hB0
  have k0 := cell_of_row _ _ 1 _ _ _ hx0
  have HN : Hid (namesHow xs vs = if dupB (nameL xs vs) vs.length then 2 else 0) := by unfold Hid namesHow; rw [if_neg (by omega), ha]; rfl
  obtain ⟨S, hS⟩ : ∃ S, Hid ((if namesHow xs vs = 0 then cdefine e name (nameL xs vs) body s else { s with how := namesHow xs vs }) = S) := ⟨_, rfl⟩
  rw [hS.out]
  go_enter Tryz.func70, Tryz.ntmps70
  go_wp2_with fail
  generalize w.alloc (Obj.cells #[.string name, .slice av vs.length cv, .slice ab body.length cb] 114) = w0 at *
  refine (inamesc_any xs C num [] s.list s.defs _ vs _ I0 TV0 hv h4).mono ?_
  rintro r w1 ⟨hO, hB1⟩
  rcases hO.symm with ⟨hd, rfl⟩ | ⟨hd, v1, rfl, N1⟩
  · have HS : Hid (S = { s with how := 2 }) := by
      unfold Hid
      rw [← hS.out, HN.out, hd]
      rfl
    go_wp2_with fail
    exact ⟨rfl, by rw [HS.out]; exact Or.inr ⟨by simp, rfl⟩, F0.trans (IF.of_below hB1 (Nat.le_of_lt I0.lt))⟩
  have HS : Hid (S = cdefine e name (nameL xs vs) body s) := by
    unfold Hid
    rw [← hS.out, HN.out, hd]
    rfl
  have I1 := I0.on hB1
  have F1 := F0.trans (IF.of_below hB1 (Nat.le_of_lt I0.lt))
  have T1 := T0.below hB1
  have hx1 := (hB1.block _ (Array.getElem?_eq_some_iff.1 hx0).1).trans hx0
  generalize nameL xs vs = ns at *
  obtain ⟨an, cn, rfl⟩ := own_form N1
  have N1' : SRow w1 (.slice an ns.length cn) ns := own_mono N1 (Nat.zero_le _)
  obtain ⟨pv, lv, dv, fv, K1⟩ := I1
  obtain ⟨_, c1, c2, c3, _, _, f2, _⟩ := K1.cells
  obtain ⟨ad, cd, rfl⟩ := own_form K1.defs
  obtain ⟨al, ql, rfl⟩ := own_form K1.list
  have R1 : DfRow w1 (.slice ad s.defs.length cd) s.defs := DfRow.of_own K1.defs (by omega) (fun x hx => Nat.le_trans (hSm.2 x hx) (by unfold maxLen; omega))
  have k1 := cell_of_row _ _ 0 _ _ _ hx1
  obtain ⟨q, hq⟩ : ∃ q, Hid (dfIdx s.defs name 0 = q) := ⟨_, rfl⟩
  clear N1 HN hd k0 hx0 I0 T0 TV0 F0 hB0 hB1 hS
  go_wp2_with fail
  go_region_with (go_at_call 19; refine (idefof_any _ _ _ _ _ _ _ s.defs name _ (by first | exact R1.below (below_dN _ 1) | exact R1)).mono ?_; rintro r w2 ⟨rfl, hb2⟩; rw [hq.out])
  all_goals
    have hB2 : Below w1.heap.size w1 w2 := by
      first
      | exact hb2
      | exact (below_dN w1 1).trans (hb2.mono (below_dN w1 1).size)
    have K2 := K1.on hB2
    have F2 := F1.trans (IF.of_below hB2 (Nat.le_of_lt K1.lt))
    have T2 := T1.below hB2
    have N2 : SRow w2 (.slice an ns.length cn) ns := own_below N1' hB2
    have hx2 := (hB2.block _ (Array.getElem?_eq_some_iff.1 hx1).1).trans hx1
    have hs2 := hB2.size
    clear c1 c2 c3 f2 k1 hx1 N1' T1 F1 R1 hb2 hB2
    obtain ⟨_, c1, c2, c3, _, _, f2, _⟩ := K2.cells
    have k1 := cell_of_row _ _ 0 _ _ _ hx2
    by_cases hq0 : 0 ≤ q
    · have HS2 : Hid (S = { s with how := 2 }) := by unfold Hid; rw [HS.out]; unfold cdefine; rw [if_pos (by rw [hq.out]; exact hq0)]
      go_wp2_with fail
      refine (icwrong_any C 2 num _ c3).mono ?_
      rintro r w3 ⟨rfl, rfl⟩
      go_wp2_with fail
      exact ⟨rfl, by rw [HS2.out]; exact Or.inr ⟨by simp, rfl⟩, F2⟩
    obtain ⟨S2, hS2⟩ : ∃ S2, Hid ((cbody e body (ns :: []) (⟨s.list, s.defs ++ [(⟨name, s.list.length, ns.length⟩ : Df)], s.how⟩ : CS)).emit (ins 8 0 0) = S2) := ⟨_, rfl⟩
    have HS2 : Hid (S = S2) := by unfold Hid; rw [HS.out, ← hS2.out]; unfold cdefine; rw [if_neg (by rw [hq.out]; exact hq0)]
    have hC2 := K2.lt
    go_wp2_with fail
    go_region_law (refine step_append_lies _ rfl _ _ 31 rfl (C + 1) 51 i0 _ 3 32 Tryz.underlying31 hi hz0 hz1 hz2 rfl (by decide) _ _ _ rfl (K2.defs.alloc _) ⟨w2.heap.size, 0, none⟩ 1 1 (dfcs [⟨name, s.list.length, ns.length⟩]) rfl rfl (World.news_of_block (cs := #[.string name, .int .i64 s.list.length, .int .i64 ns.length]) (t := 51) (fr := (0, 0)) (heap_alloc_new w2 _)) (dfcs_one _) (by omega) (by unfold maxLen; omega) (by omega) (by simp; omega) (w2.heap.size + 1) (by simp) ?_; intro g capg w3 hown hgrow hat hgl; have hb1 : w3.heap[C]? = some (.cells #[pv, .slice al s.list.length ql, .slice ad s.defs.length cd, .int .i64 num, fv] 71 (0, 0)) := (hgrow.block C (by simp; omega) (fun e => own_ne K2.defs K2.blk (by decide) e.symm)).trans ((heap_alloc_old _ _ hC2).trans K2.blk); have kb1 : w3.cell? ⟨C, 0 + 2, none⟩ = some (.slice ad s.defs.length cd) := cell_of_row w3 C 2 _ _ _ hb1; have fb1 : w3.frozen? ⟨C, 0 + 2, none⟩ = false := frozen_of_row w3 C 2 _ _ hb1)
    all_goals
      have hown2 : w3.ownsRow (C + 1) 51 3 (.slice (some ⟨g, 0, none⟩) (s.defs.length + 1) capg) (s.defs ++ [(⟨name, s.list.length, ns.length⟩ : Df)]).length (dfcs (s.defs ++ [(⟨name, s.list.length, ns.length⟩ : Df)])) := by
        rw [dfcs_append, List.length_append]
        exact hown
      have hBx := ((Below.refl w2.heap.size w2).drew.alloc (Nat.le_refl _) (Obj.cells #[.string name, .int .i64 s.list.length, .int .i64 ns.length] 51))
      obtain ⟨K5, k5⟩ := (K2.on hBx).putD hgrow hown2
      have f5 := (IF.of_below (C := C) hBx (Nat.le_of_lt hC2)).trans k5
      have hx5 := f5.keep _ _ _ _ hx2 (by omega) (by decide) (by decide) (by decide)
      have N5 := f5.srow K2.blk N2
      have T5 := f5.trow K2.blk T2
      have hF := F2.trans f5
      have kb := cell_of_row _ _ 2 _ _ _ hx5
      clear hown hgrow hat c1 c2 c3 f2 k1 kb1 fb1 hb1 hown2 hBx k5 f5 K2 F2 hx2 T2 N2 hx5
      generalize w3.setCell ⟨C, 2, none⟩ (.slice (some ⟨g, 0, none⟩) (s.defs.length + 1) capg) = w5 at *
      go_wp2_with fail
      refine (iframec_any xs C num e hst ns _ body _ ⟨s.list, s.defs ++ [⟨name, s.list.length, ns.length⟩], s.how⟩ [] _ ⟨_, _, _, _, K5⟩ h0 hl (by simp) N5 T5 hE).mono ?_
      rintro r w6 ⟨hO, F6⟩
      rw [hS2.out] at hO
      rcases hO.symm with ⟨hn, rfl⟩ | ⟨q1, l1, rfl, I6⟩
      · go_wp2_with fail
        exact ⟨rfl, Out.bad hn HS2.out, hF.trans F6⟩
      go_wp2_with fail
      exact bodyPost_end (results_nil0 rfl _ _) rfl ⟨by rw [HS2.out]; exact Or.inl ⟨q1, l1, rfl, I6⟩, hF.trans F6⟩
end Go.Proofs.YtkchakcebdenjaaGreat
/-
  What a value outermost is compiled to, told by its form: plain mathematics. No condition beyond a right pool.
-/
namespace Go.Proofs.YtkchakcebdenjaaGreat
open Go.RowKit
theorem Tryz.zf_def : (Tryz.prog.info? 114).map (·.zero) = some (some (.agg #[.string ByteArray.empty, .slice none 0 0, .slice none 0 0])) := by kernel_rfl
theorem Tryz.szdef3 : (Tryz.prog.info? 114).map (·.size) = some 3 := by kernel_rfl
theorem ok_def (xT : TypeId) (v : Value) (w : World) : (Instr.typeAssert (.iface 114 v) xT 114 true).run Tryz.prog w = .ok (.tuple #[v, .bool true]) w := by
  simp [Instr.typeAssert, run_underlying Tryz.underlying114, go_sem, Result.andThen]
theorem ne_def (t : TypeId) (ht : ¬ t = 114) (xT : TypeId) (v : Value) (w : World) : (Instr.typeAssert (.iface t v) xT 114 true).run Tryz.prog w = .ok (.tuple #[.agg #[.string ByteArray.empty, .slice none 0 0, .slice none 0 0], .bool false]) w := by
  obtain ⟨i0, hi, hz0⟩ := info_zero Tryz.zf_def
  simp [Instr.typeAssert, run_underlying Tryz.underlying114, zeroValue, typeInfo, go_sem, Result.andThen, hi, hz0, ht]
def topF (v : Int) : Fm → ByteArray × List Int × List Int
  | .defn t vs bs => (t, vs, bs)
  | _ => (wMain, [], [v])
def topR (e : Ex) (xs : List Nd) (d : ByteArray × List Int × List Int) (s : CS) : CS :=
  if tellB xs (.defn d.1 d.2.1 d.2.2) then (if namesHow xs d.2.1 = 0 then cdefine e d.1 (nameL xs d.2.1) d.2.2 s else { s with how := namesHow xs d.2.1 }) else { s with how := 1 }
theorem tell_main (xs : List Nd) (v : Int) : tellB xs (.defn wMain [] [v]) = true := by
  have h : wMain.toList = [109, 97, 105, 110] := by rw [ByteArray.toList_eq]; rfl
  simp only [tellB, rsv, isW, h]
  rfl
theorem topR_main (e : Ex) (xs : List Nd) (v : Int) (s : CS) : topR e xs (wMain, [], [v]) s = cdefine e wMain [] [v] s := by
  unfold topR
  rw [if_pos (tell_main xs v)]
  rfl
theorem sym_name {xs : List Nd} (hp : poolB xs = true) (v : Nat) (hv : v < xs.length) : ((ndAt xs v).s.toList == []) = decide (¬ (ndAt xs v).k = 4) := by
  obtain ⟨x, hx⟩ : ∃ x, xs[v]? = some x := ⟨xs[v], List.getElem?_eq_getElem hv⟩
  rw [ndAt_some hx]
  have h1 := pool_at hp hx
  simp only [nodeB, Bool.and_eq_true] at h1
  obtain ⟨_, ⟨hn, _⟩, _⟩ := h1
  unfold nameFB at hn
  split at hn
  · rename_i hs
    unfold hasS at hs
    have h4 := of_decide_eq_true hs
    rw [h4]
    simp only [nameB, Bool.and_eq_true, decide_eq_true_eq] at hn
    have hsz := hn.1.1
    have : ¬ x.s.toList = [] := by
      intro e
      rw [ByteArray.toList_eq] at e
      have := congrArg List.length e
      rw [Array.length_toList] at this
      have h0 : x.s.size = 0 := this
      omega
    simp [this]
  · rename_i hs
    have h4 : ¬ x.k = 4 := by
      intro h
      apply hs
      unfold hasS
      exact decide_eq_true h
    have e : x.s.toList = [] := by simpa using hn
    simp [e, h4]
theorem chain_k5 {xs : List Nd} {n : Nat} {b : Int} {u : List Int} (hn : n < xs.length) (h : (chainR xs n).1 = b :: u) : (ndAt xs n).k = 5 ∧ (chainR xs n).2 = true := by
  obtain ⟨x, hx⟩ : ∃ x, xs[n]? = some x := ⟨xs[n], List.getElem?_eq_getElem hn⟩
  rw [ndAt_some hx]
  unfold chainR at h ⊢
  by_cases h5 : x.k = 5
  · refine ⟨h5, ?_⟩
    cases hc : chain xs (n + 1) n [] with
    | none => rw [hc] at h; cases h
    | some l => rfl
  · by_cases h1 : x.k = 1
    · rw [chain_nil xs (n + 1) n [] x hx h1 (by omega)] at h
      cases h
    · rw [chain_none xs (n + 1) n [] x hx h5 h1 (by omega)] at h
      cases h
theorem topF_sw (xs : List Nd) (h : ByteArray) (p l : List Int) (v : Int) (hd : isW h wDefine = false) : topF v (swF xs h p l) = (wMain, [], [v]) := by
  unfold swF
  rw [hd]
  split
  · rfl
  split
  · rfl
  split
  · cases p with
    | nil => rfl
    | cons a t =>
      unfold funF
      dsimp only
      split <;> rfl
  split
  · rfl
  split
  · unfold bindF
    split <;> rfl
  · rfl
theorem topF_no (xs : List Nd) (v : Nat) (hc : ¬ ((ndAt xs v).k = 5 ∧ (chainR xs v).2 = true ∧ isW (ndAt xs ((chainR xs v).1.getD 0 0)).s wDefine = true)) : topF v (formF xs v) = (wMain, [], [(v : Int)]) := by
  unfold formF
  dsimp only
  split
  · rfl
  split
  · rfl
  split
  · rename_i h5
    split
    · rename_i h2
      rw [listF_sw]
      refine topF_sw _ _ _ _ _ ?_
      cases hw : isW (ndAt xs ((chainR xs v).1.getD 0 0)).s wDefine with
      | false => rfl
      | true => exact absurd ⟨h5, h2, hw⟩ hc
    · rfl
  · rfl
theorem ctop_form {xs : List Nd} (hp : poolB xs = true) (v : Nat) (hv : v < xs.length) (s : CS) : ctop xs v s = topR (cexp xs xs.length) xs (topF v (formF xs v)) s := by
  obtain ⟨x, hx⟩ : ∃ x, xs[v]? = some x := ⟨xs[v], List.getElem?_eq_getElem hv⟩
  have HN := ndAt_some hx
  generalize hE : cexp xs xs.length = e
  unfold ctop
  rw [hE, Int.toNat_natCast]
  dsimp only
  by_cases hc : (ndAt xs v).k = 5 ∧ (chainR xs v).2 = true ∧ isW (ndAt xs ((chainR xs v).1.getD 0 0)).s wDefine = true
  · obtain ⟨h5, h2, hw⟩ := hc
    have hr : rsv (ndAt xs ((chainR xs v).1.getD 0 0)).s = true := by unfold rsv; rw [hw]; simp
    have h4 := rsv_k4 hp _ hr
    rw [if_pos ⟨h5, h2, h4, hw⟩]
    have hf : formF xs v = listF xs (chainR xs v).1 := by
      unfold formF
      dsimp only
      rw [h5, h2]
      rfl
    have hne := chain_ne hx (by rw [← HN]; exact h5) h2
    have hlt := LtL.chain hp (Nat.le_refl v)
    rw [hf]
    generalize (chainR xs v).1 = l at *
    cases l with
    | nil => simp at hne
    | cons a t =>
    rw [listF_sw]
    rw [show (a :: t).getD 0 0 = a from rfl] at hw ⊢
    have n1 : isW (ndAt xs a).s wQuote = false := isW_no hw (by decide)
    have n2 : isW (ndAt xs a).s wIf = false := isW_no hw (by decide)
    have n3 : isW (ndAt xs a).s wFn = false := isW_no hw (by decide)
    have n4 : isW (ndAt xs a).s wDo = false := isW_no hw (by decide)
    have n5 : isW (ndAt xs a).s wLet = false := isW_no hw (by decide)
    have hsw : swF xs (ndAt xs a).s ((a :: t).drop 1) (a :: t) = defF xs t := by
      unfold swF
      rw [n1, n2, n3, n4, n5, hw]
      rfl
    rw [hsw]
    have he0 : tellB xs (.defn ByteArray.empty [] []) = false := by
      have h : ByteArray.empty.toList = [] := by rw [ByteArray.toList_eq]; rfl
      simp only [tellB, h]
      rfl
    cases t with
    | nil =>
      rw [if_neg (by simp)]
      show _ = topR e xs (ByteArray.empty, [], []) s
      unfold topR
      rw [if_neg (by rw [he0]; simp)]
    | cons p r =>
    obtain ⟨n, rfl, hn⟩ := hlt p (by simp)
    rw [show (a :: (n : Int) :: r).getD 1 0 = (n : Int) from rfl, Int.toNat_natCast, defF_cons]
    have hlt2 := LtL.chain (v := v) hp (show n ≤ v by omega)
    have hk5 := fun b u => @chain_k5 xs n b u (by omega)
    generalize hq : (chainR xs n).1 = q at *
    cases q with
    | nil =>
      have hno : ¬ (3 ≤ (a :: (n : Int) :: r).length ∧ (ndAt xs n).k = 5 ∧ (chainR xs n).2 = true ∧ varN xs (([] : List Int).getD 0 0) = true) := by
        rintro ⟨_, k5, k2, _⟩
        obtain ⟨y, hy⟩ : ∃ y, xs[n]? = some y := ⟨xs[n]'(by omega), List.getElem?_eq_getElem (by omega)⟩
        have := chain_ne hy (by rw [← ndAt_some hy]; exact k5) k2
        rw [hq] at this
        simp at this
      rw [if_neg hno]
      show _ = topR e xs (ByteArray.empty, [], []) s
      unfold topR
      rw [if_neg (by rw [he0]; simp)]
    | cons b u =>
    obtain ⟨k5, k2⟩ := hk5 b u rfl
    obtain ⟨m, rfl, hm⟩ := hlt2 b (by simp)
    have hsn := sym_name hp m (by omega)
    show _ = topR e xs ((ndAt xs (m : Int)).s, u, r) s
    unfold topR
    dsimp only
    rw [show ((m : Int) :: u).getD 0 0 = (m : Int) from rfl, show ((m : Int) :: u).drop 1 = u from rfl, show (a :: (n : Int) :: r).drop 2 = r from rfl]
    have ht : tellB xs (.defn (ndAt xs (m : Int)).s u r) = (varN xs (m : Int) && fnB xs u r) := by
      simp only [tellB, varN]
      rw [hsn]
      by_cases q4 : (ndAt xs (m : Int)).k = 4 <;> simp [q4]
    rw [ht]
    cases hvn : varN xs (m : Int) with
    | false => rw [if_neg (by rintro ⟨_, _, _, h⟩; cases h)]; simp
    | true =>
      cases hrr : r with
      | nil => rw [if_neg (by rintro ⟨h, _⟩; simp at h)]; simp [fnB]
      | cons r0 r1 =>
        rw [if_pos ⟨by simp, k5, k2, rfl⟩]
        cases hfn : (decide (u.length ≤ 4) && allVars xs u) with
        | true =>
          have hfb : fnB xs u (r0 :: r1) = true := by unfold fnB; rw [hfn]; simp
          rw [hfb, Bool.true_and, if_pos rfl]
        | false =>
          have h1 := namesHow_fn hfn
          have hfb : fnB xs u (r0 :: r1) = false := by unfold fnB; rw [hfn]; simp
          rw [hfb, h1]
          simp
  · have hc' : ¬ ((ndAt xs v).k = 5 ∧ (chainR xs v).2 = true ∧ (ndAt xs ((chainR xs v).1.getD 0 0)).k = 4 ∧ isW (ndAt xs ((chainR xs v).1.getD 0 0)).s wDefine = true) := fun ⟨q1, q2, _, q4⟩ => hc ⟨q1, q2, q4⟩
    rw [if_neg hc', topF_no xs v hc, topR_main]
end Go.Proofs.YtkchakcebdenjaaGreat
/-
  The contract of the compiler's value. No condition beyond the compiler's memory and a right pool that has the value.
-/
namespace Go.Proofs.YtkchakcebdenjaaGreat
open Go.RowKit
theorem TRow.oth {w w' : World} {b g n cap : Nat} {l : List Int} (h : TRow w (.slice (some ⟨g, 0, none⟩) n cap) l) (ho : ∀ j, j ≠ b → w'.heap[j]? = w.heap[j]?) (hb : g ≠ b) : TRow w' (.slice (some ⟨g, 0, none⟩) n cap) l := by
  obtain ⟨ao', cap', e, h1, h2, h3⟩ := h
  simp only [Value.slice.injEq] at e
  obtain ⟨rfl, rfl, rfl⟩ := e
  refine ⟨_, _, rfl, h1, h2, fun hne => ?_⟩
  obtain ⟨g', o', cur, fr, e, hg, hc⟩ := h3 hne
  simp only [Option.some.injEq, Addr.mk.injEq, and_true] at e
  obtain ⟨rfl, rfl⟩ := e
  exact ⟨g, 0, cur, fr, rfl, (ho g hb).trans hg, hc⟩
theorem FmV.other {w : World} {f : Fm} {u : Value} (h : FmV w f u) (hn : ∀ t vs bs, f ≠ .defn t vs bs) : ∃ ty x, u = .iface ty x ∧ ¬ ty = 114 := by
  cases f
  case lit => exact ⟨_, _, h, by decide⟩
  case men => exact ⟨_, _, h, by decide⟩
  case quo => obtain ⟨x, e, r⟩ := h; exact ⟨_, _, e, by decide⟩
  case cho => obtain ⟨x, e, r⟩ := h; exact ⟨_, _, e, by decide⟩
  case seq => obtain ⟨x, e, r⟩ := h; exact ⟨_, _, e, by decide⟩
  case cal => obtain ⟨x, e, r⟩ := h; exact ⟨_, _, e, by decide⟩
  case fn => obtain ⟨x, y, e, _⟩ := h; exact ⟨_, _, e, by decide⟩
  case bin => obtain ⟨x, y, e, _⟩ := h; exact ⟨_, _, e, by decide⟩
  case defn t vs bs => exact absurd rfl (hn t vs bs)
  case stray => exact ⟨_, _, h, by decide⟩
set_option maxRecDepth 100000 in
set_option maxHeartbeats 6400000 in
theorem icvalue_any (xs : List Nd) (hp : poolB xs = true) (C : Nat) (num : Int) (v : Nat) (hv : v < xs.length) (s : CS) (w : World) (h : Ic xs C w num [] s.list s.defs) (h0 : s.how = 0) (hl : s.list.length ≤ 400) (hSm : Sm s) (hdl : s.defs.length ≤ 2097152) :
    Calls Tryz.prog 31 #[.pointer (some ⟨C, 0, none⟩), .int .i64 v] w fun r w' => Out xs C num [] (ctop xs v s) (.tuple #[]) r w' ∧ IF C w w' := by
  have hlen := (pool_s2 hp).1
  have HC0 : Hid (ctop xs v s = topR (cexp xs xs.length) xs (topF v (formF xs v)) s) := ctop_form hp v hv s
  have hlt := formF_lt hp v
  have hE0 : ∀ {l : List Int}, LtL xs.length l → ∀ z ∈ l, ICE xs C num (cexp xs xs.length) z ∧ 0 + 1 + z.toNat ≤ 3001 := fun hl z hz => by
    obtain ⟨n, rfl, hn⟩ := hl z hz
    exact ⟨iexpr_any xs hp C num n hn xs.length hn, by simp; omega⟩
  have h' := h
  obtain ⟨pv, lv, dv, fv, K⟩ := h'
  have c0 := K.cells.1
  have R := K.pool
  obtain ⟨ao, cap, rfl⟩ : ∃ ao cap, pv = .slice ao xs.length cap := by obtain ⟨ao, cap, e, _⟩ := R; exact ⟨ao, cap, e⟩
  go_enter Tryz.func31, Tryz.ntmps31
  go_wp2_with fail
  refine (iformof_any ao cap xs v _ R hp hv).mono ?_
  rintro r w1 ⟨u, rfl, hu, hb1⟩
  have I1 := h.on hb1
  have F1 := IF.of_below (C := C) hb1 (Nat.le_of_lt h.lt)
  generalize formF xs v = f at *
  clear K R c0
  by_cases hf : ∃ t vs bs, f = .defn t vs bs
  · obtain ⟨t, vs, bs, rfl⟩ := hf
    obtain ⟨x, y, rfl, Tx, Ty⟩ := hu
    have HC : Hid (ctop xs v s = topR (cexp xs xs.length) xs (t, vs, bs) s) := HC0
    have hvs : InP xs vs := hlt.1.inp (by omega)
    have hE := hE0 (l := bs) (fun z hz => by obtain ⟨n, e, hn⟩ := hlt.2 z hz; exact ⟨n, e, by omega⟩)
    obtain ⟨a1, k1, rfl, _⟩ := Tx.form
    obtain ⟨a2, k2, rfl, _⟩ := Ty.form
    have a0 := ok_def
    have hbA : Below w1.heap.size w1 (w1.alloc (Obj.cells #[.string t, .slice a1 vs.length k1, .slice a2 bs.length k2] 114)) := (Below.refl _ _).alloc (Nat.le_refl _) _
    have hbx : (w1.alloc (Obj.cells #[.string t, .slice a1 vs.length k1, .slice a2 bs.length k2] 114)).heap[w1.heap.size]? = some (.cells #[.string t, .slice a1 vs.length k1, .slice a2 bs.length k2] 114 (0, 0)) := heap_alloc_new _ _
    have IW := I1.on hbA
    have FW := F1.trans (IF.of_below hbA (Nat.le_of_lt I1.lt))
    replace Tx := Tx.below hbA
    replace Ty := Ty.below hbA
    clear HC0 hE0 hlt I1 F1 hbA
    go_wp2_with (refine wpList_load_row rfl 114 _ rfl w1.heap.size rfl 114 #[.string t, .slice a1 vs.length k1, .slice a2 bs.length k2] (0, 0) _ hbx Tryz.underlying114 rfl Tryz.szdef3 ?_)
    refine (iaskfm_any xs C num [] _ _ (.defn t vs bs) _ _ IW ⟨_, _, rfl, Tx, Ty⟩ hvs).mono ?_
    rintro r W2 ⟨hO, hb2⟩
    have IW2 := IW.on hb2
    have FW2 := FW.trans (IF.of_below hb2 (Nat.le_of_lt IW.lt))
    have Tx2 := Tx.below hb2
    have Ty2 := Ty.below hb2
    have hbx2 := (hb2.block _ (Array.getElem?_eq_some_iff.1 hbx).1).trans hbx
    rcases hO.symm with ⟨ht, rfl⟩ | ⟨ht, rfl⟩
    · have HS : Hid (ctop xs v s = { s with how := 1 }) := by unfold Hid; rw [HC.out]; unfold topR; rw [if_neg (by rw [ht]; simp)]
      go_wp2_with fail
      exact ⟨rfl, by rw [HS.out]; exact Or.inr ⟨by simp, rfl⟩, FW2⟩
    have HS : Hid (ctop xs v s = (if namesHow xs vs = 0 then cdefine (cexp xs xs.length) t (nameL xs vs) bs s else { s with how := namesHow xs vs })) := by unfold Hid; rw [HC.out]; unfold topR; rw [if_pos ht]
    simp only [tellB, fnB, Bool.and_eq_true, decide_eq_true_eq] at ht
    obtain ⟨_, _, _, hv4, hva⟩ := ht
    clear HC hbx Tx Ty IW FW hb2
    go_wp2_with (refine wpList_load_row rfl 114 _ rfl w1.heap.size rfl 114 #[.string t, .slice a1 vs.length k1, .slice a2 bs.length k2] (0, 0) _ hbx2 Tryz.underlying114 rfl Tryz.szdef3 ?_)
    refine (icdefine_any xs C num _ (cexp_stay xs _) t vs bs _ _ s _ IW2 h0 hl hSm hdl Tx2 hvs hv4 hva Ty2 hE).mono ?_
    rintro r W3 ⟨hO, F3⟩
    rw [← HS.out] at hO
    rcases hO.symm with ⟨hn, rfl⟩ | ⟨q1, l1, rfl, I3⟩
    · go_wp2_with fail
      exact ⟨rfl, Out.bad hn rfl, FW2.trans F3⟩
    go_wp2_with fail
    exact bodyPost_end (results_nil0 rfl _ _) rfl ⟨Or.inl ⟨q1, l1, rfl, I3⟩, FW2.trans F3⟩
  · have hnd : ∀ t vs bs, f ≠ .defn t vs bs := fun t vs bs e => hf ⟨t, vs, bs, e⟩
    obtain ⟨ty, xx, rfl, hty⟩ := hu.other hnd
    have HC : Hid (ctop xs v s = topR (cexp xs xs.length) xs (wMain, [], [(v : Int)]) s) := by
      unfold Hid
      rw [HC0.out]
      cases f
      case defn t vs bs => exact absurd rfl (hnd t vs bs)
      all_goals rfl
    have hvs : InP xs [] := fun z hz => by cases hz
    have hE := hE0 (l := [(v : Int)]) (fun z hz => by rw [List.mem_singleton] at hz; exact ⟨v, hz, hv⟩)
    have a0 := ne_def ty hty
    have hbA : Below w1.heap.size w1 ((w1.alloc (Obj.cells #[.string ⟨#[]⟩, .slice none 0 0, .slice none 0 0] 114)).alloc (Obj.cells #[.int .i64 v] 3)) := ((Below.refl _ _).alloc (Nat.le_refl _) _).alloc (by simp) _
    have hbx0 : ((w1.alloc (Obj.cells #[.string ⟨#[]⟩, .slice none 0 0, .slice none 0 0] 114)).alloc (Obj.cells #[.int .i64 v] 3)).heap[w1.heap.size]? = some (.cells #[.string ⟨#[]⟩, .slice none 0 0, .slice none 0 0] 114 (0, 0)) := (heap_alloc_old _ _ (by simp)).trans (heap_alloc_new _ _)
    have Ty0 : TRow ((w1.alloc (Obj.cells #[.string ⟨#[]⟩, .slice none 0 0, .slice none 0 0] 114)).alloc (Obj.cells #[.int .i64 v] 3)) (.slice (some ⟨w1.heap.size + 1, 0, none⟩) 1 1) [(v : Int)] := by
      have := TRow.of_own (l := [(v : Int)]) (own_lit (w1.alloc (Obj.cells #[.string ⟨#[]⟩, .slice none 0 0, .slice none 0 0] 114)) (.int .i64 v) 3 0 (Nat.zero_le _))
      simpa using this
    clear HC0 hE0 hlt hu
    go_wp2_with (refine wpList_store_own2 rfl 114 _ _ rfl w1.heap.size #[.string wMain, .slice none 0 0, .slice (some ⟨w1.heap.size + 1, 0, none⟩) 1 1] rfl rfl 114 #[.string ⟨#[]⟩, .slice none 0 0, .slice none 0 0] hbx0 Tryz.szdef3 rfl (by simp [Value.oneCell']) ?_)
    intro w9 hbx hb9 hs9 hoth
    have Ty := Ty0.oth hoth (by omega)
    have Tx : TRow w9 (.slice none 0 0) [] := TRow.nil _ _
    have hb19 : Below w1.heap.size w1 w9 := hbA.trans hb9
    have IW := I1.on hb19
    have FW := F1.trans (IF.of_below hb19 (Nat.le_of_lt I1.lt))
    clear hbA hbx0 Ty0 hb9 hs9 hoth hb19 I1 F1
    go_wp2_with (refine wpList_load_row rfl 114 _ rfl w1.heap.size rfl 114 #[.string wMain, .slice none 0 0, .slice (some ⟨w1.heap.size + 1, 0, none⟩) 1 1] (0, 0) _ hbx Tryz.underlying114 rfl Tryz.szdef3 ?_)
    refine (iaskfm_any xs C num [] _ _ (.defn wMain [] [(v : Int)]) _ _ IW ⟨_, _, rfl, Tx, Ty⟩ hvs).mono ?_
    rintro r W2 ⟨hO, hb2⟩
    have IW2 := IW.on hb2
    have FW2 := FW.trans (IF.of_below hb2 (Nat.le_of_lt IW.lt))
    have Tx2 := Tx.below hb2
    have Ty2 := Ty.below hb2
    have hbx2 := (hb2.block _ (Array.getElem?_eq_some_iff.1 hbx).1).trans hbx
    rcases hO.symm with ⟨ht, rfl⟩ | ⟨ht, rfl⟩
    · have HS : Hid (ctop xs v s = { s with how := 1 }) := by unfold Hid; rw [HC.out]; unfold topR; rw [if_neg (by rw [ht]; simp)]
      go_wp2_with fail
      exact ⟨rfl, by rw [HS.out]; exact Or.inr ⟨by simp, rfl⟩, FW2⟩
    have HS : Hid (ctop xs v s = (if namesHow xs [] = 0 then cdefine (cexp xs xs.length) wMain (nameL xs []) [(v : Int)] s else { s with how := namesHow xs [] })) := by unfold Hid; rw [HC.out]; unfold topR; rw [if_pos ht]
    simp only [tellB, fnB, Bool.and_eq_true, decide_eq_true_eq] at ht
    obtain ⟨_, _, _, hv4, hva⟩ := ht
    clear HC hbx Tx Ty IW FW hb2
    go_wp2_with (refine wpList_load_row rfl 114 _ rfl w1.heap.size rfl 114 #[.string wMain, .slice none 0 0, .slice (some ⟨w1.heap.size + 1, 0, none⟩) 1 1] (0, 0) _ hbx2 Tryz.underlying114 rfl Tryz.szdef3 ?_)
    refine (icdefine_any xs C num _ (cexp_stay xs _) wMain [] [(v : Int)] _ _ s _ IW2 h0 hl hSm hdl Tx2 hvs hv4 hva Ty2 hE).mono ?_
    rintro r W3 ⟨hO, F3⟩
    rw [← HS.out] at hO
    rcases hO.symm with ⟨hn, rfl⟩ | ⟨q1, l1, rfl, I3⟩
    · go_wp2_with fail
      exact ⟨rfl, Out.bad hn rfl, FW2.trans F3⟩
    go_wp2_with fail
    exact bodyPost_end (results_nil0 rfl _ _) rfl ⟨Or.inl ⟨q1, l1, rfl, I3⟩, FW2.trans F3⟩
end Go.Proofs.YtkchakcebdenjaaGreat
