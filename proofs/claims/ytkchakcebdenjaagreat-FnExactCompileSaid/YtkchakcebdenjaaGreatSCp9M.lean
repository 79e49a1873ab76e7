/-
  The contract of spec's l4Define. No condition beyond the compiler's memory, and that the values are there.
-/
import Derived.Test.YtkchakcebdenjaaGreatBsM
namespace Go.Proofs.YtkchakcebdenjaaGreat
open Go.RowKit
theorem dfIdx_none (ds : List Df) (s : ByteArray) (i : Nat) (h : ds.length ≤ i) : dfIdx (ds.drop i) s i = -1 := by
  rw [List.drop_eq_nil_of_le h]
  rfl
theorem Mk.how {xs : List Nd} {M d : Nat} {w : World} {s : CS} (h : Mk xs M d w s) (s' : CS) (h1 : s'.how = s.how) (h2 : ¬ s.how = 0) : Mk xs M d w s' := by
  obtain ⟨pv, lv, dv, L, D, h⟩ := h
  exact ⟨pv, lv, dv, L, D, h.same_how s' h1 (fun e => absurd (h1.symm.trans e) h2)⟩
theorem Mk.wide {xs : List Nd} {M d d' : Nat} {w : World} {s : CS} (h : Mk xs M d w s) (hd : d ≤ d') : Mk xs M d' w s := by
  obtain ⟨pv, lv, dv, L, D, h⟩ := h
  exact ⟨pv, lv, dv, L, D, h.blk, h.pool, h.list, h.defs, h.same, h.len, by have := h.many; omega⟩
def cdef (e : Ex) (name : ByteArray) (names : List ByteArray) (body : List Int) (s : CS) : CS := if s.how = 0 then cdefine e name names body s else s
set_option maxRecDepth 100000 in
set_option maxHeartbeats 6400000 in
theorem s4define_any (xs : List Nd) (M d : Nat) (hd : d ≤ 2097152) (e : Ex) (name : ByteArray) (names : List ByteArray) (nv : Value) (body : List Int) (bv : Value) (s : CS) (w : World) (h : Mk xs M d w s) (N : SRow w nv names) (T : TRow w bv body)
    (hE : ∀ z ∈ body, CE xs M (d + 1) e z ∧ 1 + z.toNat ≤ 3001) :
    Calls Tryz.prog 59 #[.pointer (some ⟨M, 0, none⟩), .string name, nv, bv] w fun r w' => r = .returned (.tuple #[]) ∧ Mk xs M (d + 1) w' (cdef e name names body s) ∧ CF M w w' := by
  obtain ⟨i0, hi, hz0, hz1, hz2⟩ := info_parts Tryz.infoDf
  obtain ⟨ab, cb, rfl, hbc, hcm⟩ := T.form
  obtain ⟨an, cn, rfl⟩ := N.form
  have HT : Hid (TRow w (.slice ab body.length cb) body) := T
  have HN : Hid (SRow w (.slice an names.length cn) names) := N
  have HE : Hid (∀ z ∈ body, CE xs M (d + 1) e z ∧ 1 + z.toNat ≤ 3001) := hE
  have hnl := own_max N
  clear T N hE
  go_enter Tryz.func59, Tryz.ntmps59
  go_wp2_with fail
  go_loopw [8] (fun i wr => ∃ (k : Nat) (hw : Int), k ≤ d + 1 ∧ i = .int .i64 k ∧ Mk xs M d wr ⟨s.list, s.defs, hw⟩ ∧ CF M w wr ∧ Hid ((hw = 0 ∧ s.how = 0 ∧ k ≤ s.defs.length ∧ dfIdx s.defs name 0 = dfIdx (s.defs.drop k) name k) ∨ (hw ≠ 0 ∧ hw = (if s.how = 0 then 2 else s.how) ∧ (s.how = 0 → 0 ≤ dfIdx s.defs name 0)))) (fun i _ => d + 2 - (intOf i).toNat)
  case atStart =>
    refine ⟨0, s.how, by omega, rfl, h, CF.refl _ _, ?_⟩
    by_cases h0 : s.how = 0
    · exact .inl ⟨h0, h0, by omega, rfl⟩
    · exact .inr ⟨h0, by rw [if_neg h0], fun e => absurd e h0⟩
  case round =>
    obtain ⟨k, hw, hkd, rfl, hkr, hfr, HH⟩ := hrel
    have hkr0 := hkr
    obtain ⟨pv, lv, dv, L, D, h2⟩ := hkr
    have hM := h2.lt
    have hmany := h2.many
    have hlen := h2.len
    obtain ⟨al, ql, rfl⟩ := own_form h2.list
    obtain ⟨ad, qd, rfl⟩ := own_form h2.defs
    obtain ⟨_, c1, c2, c3, _, f2, f3⟩ := h2.cells
    dsimp only at c3
    by_cases go : k < D.length ∧ hw = 0
    · obtain ⟨hkD, rfl⟩ := go
      obtain ⟨rfl, rfl⟩ := h2.same rfl
      obtain ⟨h0, hks, hix⟩ : s.how = 0 ∧ k ≤ s.defs.length ∧ dfIdx s.defs name 0 = dfIdx (s.defs.drop k) name k := by
        rcases HH.out with h | h
        · exact h.2
        · exact absurd rfl h.1
      obtain ⟨dk, hdk⟩ : ∃ x, s.defs[k]? = some x := ⟨s.defs[k], by simp [hkD]⟩
      obtain ⟨g, rfl, hg⟩ : ∃ g, ad = some ⟨g, 0, none⟩ ∧ M + 1 ≤ g := by
        rcases h2.defs.2 with ⟨_, h0⟩ | ⟨g, cap, cur, e, hB, hg, _⟩
        · have : s.defs.length = 0 := h0
          omega
        · simp only [Value.slice.injEq] at e
          exact ⟨g, e.1, hB⟩
      have hca := h2.defs.cellAt (k * 3 + 0) (by have : k < s.defs.length := hkD; omega)
      rw [dfcs_get s.defs k dk hdk 0 (by omega)] at hca
      have hcn : wr.cell? ⟨g, k * 3, none⟩ = some (.string dk.s) := hca
      have hkD' : (k : Int) < s.defs.length := by have : k < s.defs.length := hkD; omega
      clear hca
      cases he : (dk.s.toList == name.toList) with
      | true =>
        have HH2 : Hid (((2 : Int) = 0 ∧ s.how = 0 ∧ k + 1 ≤ s.defs.length ∧ dfIdx s.defs name 0 = dfIdx (s.defs.drop (k + 1)) name (k + 1)) ∨ ((2 : Int) ≠ 0 ∧ (2 : Int) = (if s.how = 0 then 2 else s.how) ∧ (s.how = 0 → 0 ≤ dfIdx s.defs name 0))) :=
          .inr ⟨by decide, by rw [if_pos h0], fun _ => by rw [hix, dfIdx_hit s.defs name k dk hdk he]; omega⟩
        obtain ⟨k1, k2⟩ := h2.wrong 2 (by decide) ⟨s.list, s.defs, 2⟩ rfl
        have f2' := hfr.trans k2
        clear HH hix hdk
        go_wp2_with fail
        go_roundw
        case rel => exact ⟨k + 1, 2, by omega, by go_num, k1, f2', HH2⟩
        case measure => simp [intOf]; omega
      | false =>
        have HH2 : Hid (((0 : Int) = 0 ∧ s.how = 0 ∧ k + 1 ≤ s.defs.length ∧ dfIdx s.defs name 0 = dfIdx (s.defs.drop (k + 1)) name (k + 1)) ∨ ((0 : Int) ≠ 0 ∧ (0 : Int) = (if s.how = 0 then 2 else s.how) ∧ (s.how = 0 → 0 ≤ dfIdx s.defs name 0))) :=
          .inl ⟨rfl, h0, hkD, by rw [hix, dfIdx_miss s.defs name k dk hdk he]⟩
        clear HH hix hdk
        go_wp2_with fail
        go_roundw
        case rel => exact ⟨k + 1, 0, by omega, by go_num, hkr0, hfr, HH2⟩
        case measure => simp [intOf]; omega
    · have HS : Hid ((hw = 0 → s.how = 0 ∧ dfIdx s.defs name 0 = -1) ∧ (hw ≠ 0 → hw = (if s.how = 0 then 2 else s.how) ∧ (s.how = 0 → 0 ≤ dfIdx s.defs name 0))) := by
        rcases HH.out with hq | hq
        · refine ⟨fun _ => ⟨hq.2.1, ?_⟩, fun e => absurd hq.1 e⟩
          have hD := (h2.same hq.1).2
          rw [hq.2.2.2]
          exact dfIdx_none s.defs name k (by
            have : ¬ k < D.length := fun hk => go ⟨hk, hq.1⟩
            rw [hD] at this
            have e : (⟨s.list, s.defs, hw⟩ : CS).defs.length = s.defs.length := rfl
            omega)
        · exact ⟨fun e => absurd e hq.1, fun _ => hq.2⟩
      have hsz : M ≠ wr.heap.size := by omega
      clear HH
      by_cases hkD : k < D.length
      case' pos =>
        have hkD' : (k : Int) < D.length := by omega
        have hw0 : ¬ hw = 0 := fun e => go ⟨hkD, e⟩
        have hwb : (hw == 0) = false := by simpa using hw0
      case' neg =>
        have hkD' : ¬ (k : Int) < D.length := by omega
      all_goals
        clear go
        go_wp2_with fail
        go_region_law (refine step_append_lies _ rfl _ _ 31 rfl (M + 1) 51 i0 _ 3 32 Tryz.underlying31 hi hz0 hz1 hz2 rfl (by decide) _ _ _ rfl (h2.defs.alloc _) ⟨wr.heap.size, 0, none⟩ 1 1 (dfcs [⟨name, L.length, names.length⟩]) rfl rfl (World.news_of_block (cs := #[.string name, .int .i64 L.length, .int .i64 names.length]) (t := 51) (fr := (0, 0)) (heap_alloc_new wr _)) (dfcs_one _) (by omega) (by unfold maxLen; omega) (by omega) (by simp; omega) (wr.heap.size + 1) (by simp) ?_; intro g capg w1 hown hgrow hat hgl; have hb1 : w1.heap[M]? = some (.cells #[pv, .slice al L.length ql, .slice ad D.length qd, .int .i64 hw] 61 (0, 0)) := (hgrow.block M (by simp; omega) (fun e => own_ne h2.defs h2.blk (by decide) e.symm)).trans ((heap_alloc_old _ _ hM).trans h2.blk); have kb1 : w1.cell? ⟨M, 0 + 2, none⟩ = some (.slice ad D.length qd) := cell_of_row w1 M 2 _ _ _ hb1; have fb1 : w1.frozen? ⟨M, 0 + 2, none⟩ = false := frozen_of_row w1 M 2 _ _ hb1)
        all_goals
          have hown2 : w1.ownsRow (M + 1) 51 3 (.slice (some ⟨g, 0, none⟩) (D.length + 1) capg) (D ++ [(⟨name, L.length, names.length⟩ : Df)]).length (dfcs (D ++ [(⟨name, L.length, names.length⟩ : Df)])) := by
            rw [dfcs_append, List.length_append]
            exact hown
          have hBx := ((Below.refl wr.heap.size wr).drew.alloc (Nat.le_refl _) (Obj.cells #[.string name, .int .i64 L.length, .int .i64 names.length] 51))
          obtain ⟨k1, k2⟩ := (h2.on hBx).putD hgrow hown2 (d' := d + 1) (by simp; omega) ⟨s.list, s.defs ++ [⟨name, s.list.length, names.length⟩], hw⟩ rfl (fun e => by
            obtain ⟨q1, q2⟩ := h2.same e
            dsimp only at q1 q2
            exact ⟨q1, by rw [q1, q2]⟩)
          have hF := hfr.trans ((CF.of_below (M := M) hBx (by omega)).trans k2)
          clear hown hgrow hat c1 c2 c3 f2 f3 kb1 fb1 hBx hb1 hown2 k2 h2 hkr0
          go_upto_region 6 with fail
          generalize w1.setCell ⟨M, 2, none⟩ (.slice (some ⟨g, 0, none⟩) (D.length + 1) capg) = w5 at *
          have hBe : Below w5.heap.size w5 (w5.alloc (Obj.cells #[.slice an names.length cn] 85)) := (Below.refl _ _).alloc (Nat.le_refl _) _
          have N5 := hF.srow' h HN.out
          have T5 := hF.trow' h HT.out
          have hl5 := own_lit w5 (.slice an names.length cn) 85 0 (Nat.zero_le _)
          have E5 : ERow (w5.alloc (Obj.cells #[.slice an names.length cn] 85)) (.slice (some ⟨w5.heap.size, 0, none⟩) 1 1) [names] := ⟨[.slice an names.length cn], hl5, fun i u hu => by
            have hi0 : i = 0 := by
              have := (List.getElem?_eq_some_iff.1 hu).1
              simp at this
              exact this
            subst hi0
            simp at hu
            subst hu
            exact ⟨rfl, own_below N5 hBe⟩⟩
          go_wp2_with fail
          refine (s4body_any xs M (d + 1) e body _ _ [names] _ _ (k1.on hBe) (T5.below hBe) E5 (fun z hz => ⟨(HE.out z hz).1, (HE.out z hz).2⟩)).mono ?_
          rintro r w6 ⟨rfl, k6, f6⟩
          go_wp2_with fail
          refine (semit_any xs M (d + 1) _ (ins 8 0 0) _ k6).mono ?_
          rintro r w7 ⟨rfl, k7, f7⟩
          go_wp2_with fail
          go_end0
          refine ⟨rfl, ?_, ((hF.trans (CF.of_below (M := M) hBe k1.lt)).trans f6).trans f7⟩
          unfold cdef
          by_cases hq : hw = 0
          · subst hq
            obtain ⟨q1, q2⟩ := HS.out.1 rfl
            rw [if_pos q1]
            unfold cdefine
            rw [q2, if_neg (by decide), q1]
            exact k7
          · obtain ⟨q1, q2⟩ := HS.out.2 hq
            unfold cbody at k7
            rw [cseq_stay e _ _ _ _ (by exact hq), emit_stay _ _ (by exact hq)] at k7
            refine Mk.how k7 _ ?_ (by exact hq)
            show _ = hw
            by_cases h0 : s.how = 0
            · rw [if_pos h0] at q1 ⊢
              unfold cdefine
              rw [if_pos (q2 h0)]
              exact q1.symm
            · rw [if_neg h0] at q1 ⊢
              exact q1.symm
end Go.Proofs.YtkchakcebdenjaaGreat
