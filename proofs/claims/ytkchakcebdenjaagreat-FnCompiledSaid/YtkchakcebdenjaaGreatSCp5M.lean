/-
  Texts that stood by themselves, laid into one.
-/
import Derived.Test.YtkchakcebdenjaaGreatTRwM
import Derived.Deep.LoopGhost
/-
  The contract of spec's l4Names. No condition beyond the compiler's memory, and that the values are there.
-/
namespace Go.Proofs.YtkchakcebdenjaaGreat
open Go.RowKit
theorem Tryz.infoStr : (Tryz.prog.info? 9).map (fun i => (i.zero, i.size, i.bytes)) = some (some (.string ByteArray.empty), 1, 16) := by kernel_rfl
theorem CF.trow {M : Nat} {w w' : World} {v : Value} {l : List Int} {c : Array Value} {fr : Nat × Nat} (h : CF M w w') (hM : w.heap[M]? = some (.cells c 61 fr)) (r : TRow w v l) : TRow w' v l := by
  obtain ⟨ao, cap, rfl, h1, h2, h3⟩ := r
  refine ⟨ao, cap, rfl, h1, h2, fun hne => ?_⟩
  obtain ⟨g, o, cur, fr', e, hg, hc⟩ := h3 hne
  refine ⟨g, o, cur, fr', e, h.keep g cur 3 fr' hg (fun q => ?_) (by decide) (by decide), hc⟩
  subst q
  rw [hM] at hg
  simp at hg
theorem nameL_snoc (xs : List Nd) (l : List Int) (k : Nat) (z : Int) (h : l[k]? = some z) : nameL xs (l.take (k + 1)) = nameL xs (l.take k) ++ [(ndAt xs z).s] := by
  rw [List.take_add_one, h]
  simp [nameL]
theorem allVars_snoc (xs : List Nd) (l : List Int) (k : Nat) (z : Int) (h : l[k]? = some z) : allVars xs (l.take (k + 1)) = (allVars xs (l.take k) && varN xs z) := by
  rw [List.take_add_one, h]
  simp [allVars]
theorem allVars_bad (xs : List Nd) (l : List Int) (k : Nat) (z : Int) (h : l[k]? = some z) (hv : varN xs z = false) : allVars xs l = false := by
  rw [Bool.eq_false_iff]
  intro e
  unfold allVars at e
  rw [List.all_eq_true] at e
  rw [e z (List.mem_of_getElem? h)] at hv
  cases hv
theorem dupB_mono {l : List ByteArray} {k m : Nat} (h : dupB l k = true) (hk : k ≤ m) : dupB l m = true := by
  induction m with
  | zero => rw [show k = 0 by omega] at h; exact h
  | succ m ih =>
    by_cases e : k = m + 1
    · rw [← e]; exact h
    · rw [dupB, ih (by omega), Bool.true_or]
theorem memB_snoc (s : ByteArray) (l : List ByteArray) (k : Nat) (t : ByteArray) (h : l[k]? = some t) : memB s (l.take (k + 1)) = (memB s (l.take k) || (t.toList == s.toList)) := by
  rw [List.take_add_one, h]
  simp [memB]
end Go.Proofs.YtkchakcebdenjaaGreat
/-
  The contract of spec's l4Names. No condition beyond the compiler's memory, and that the values are there.
-/
namespace Go.Proofs.YtkchakcebdenjaaGreat
open Go.RowKit
theorem MK.same_how {xs : List Nd} {M d : Nat} {w : World} {s : CS} {pv lv dv : Value} {L : List In} {D : List Df} (h : MK xs M d w s pv lv dv L D) (s' : CS) (h1 : s'.how = s.how) (h2 : s'.how = 0 → s'.list = s.list ∧ s'.defs = s.defs) : MK xs M d w s' pv lv dv L D :=
  ⟨by rw [h1]; exact h.blk, h.pool, h.list, h.defs, fun e => by rw [(h2 e).1, (h2 e).2]; exact h.same (h1 ▸ e), h.len, h.many⟩
theorem CF.grown_new {M n k : Nat} {e : TypeId} {w w3 w6 : World} {v : Value} {l : List Value} (h : CF M w w3) (ho : w3.ownsRow w.heap.size e k v n l) (hM : M < w.heap.size) (hg : w3.grownBy w6 v.ownBlock) : CF M w w6 := by
  have hs := h.below.size
  refine ⟨h.below.grown hg (by omega) (fun q hq => by have := (ho.lt q hq).1; omega), fun j c t fr hj h1 h2 h3 => ?_, (World.cell?_of_block (hg.block M (by omega) (fun q => by have := (ho.lt M q.symm).1; omega))).trans h.first⟩
  have hjl := (Array.getElem?_eq_some_iff.1 hj).1
  refine (hg.block j (by omega) (fun q => ?_)).trans (h.keep j c t fr hj h1 h2 h3)
  have := (ho.lt j q.symm).1
  omega
theorem MK.turnS {xs : List Nd} {M d B n k : Nat} {e : TypeId} {w w1 : World} {s : CS} {pv lv dv v : Value} {L : List In} {D : List Df} {l : List Value} (h : MK xs M d w s pv lv dv L D) (ho : w.ownsRow B e k v n l) (hg : w.grownBy w1 v.ownBlock) (h1 : 61 ≠ e) (h2 : 92 ≠ e) (h3 : 53 ≠ e) (h4 : 51 ≠ e) : MK xs M d w1 s pv lv dv L D :=
  ⟨(hg.block M h.lt (fun q => own_ne ho h.blk h1 q.symm)).trans h.blk, h.pool.kept hg (own_apart h.pool ho h2), h.list.kept hg (own_apart h.list ho h3), h.defs.kept hg (own_apart h.defs ho h4), h.same, h.len, h.many⟩
set_option maxRecDepth 100000 in
set_option maxHeartbeats 6400000 in
theorem s4names_any (xs : List Nd) (M d : Nat) (s : CS) (vl : Value) (l : List Int) (w : World) (h : Mk xs M d w s) (h0 : s.how = 0) (T : TRow w vl l) (hv : ∀ z ∈ l, ∃ n : Nat, z = n ∧ n < xs.length) :
    Calls Tryz.prog 61 #[.pointer (some ⟨M, 0, none⟩), vl] w fun e w' => ∃ (v' : Value) (ys : List ByteArray), e = .returned v' ∧ SRow w' v' ys ∧ ys.length ≤ 4 ∧ (namesHow xs l = 0 → ys = nameL xs l) ∧ Mk xs M d w' ⟨s.list, s.defs, namesHow xs l⟩ ∧ CF M w w' := by
  obtain ⟨pv, lv, dv, L, D, h⟩ := h
  have hM := h.lt
  obtain ⟨i0, hi, hz0, hz1, hz2⟩ := info_parts Tryz.infoStr
  obtain ⟨sl, sd, how⟩ := s
  dsimp only at h0
  subst h0
  have T' := T
  obtain ⟨al, cl, rfl, hlc, hcm⟩ := T'.form
  have hB0 : Below w.heap.size w (w.alloc (Obj.cells #[] 9)) := (Below.refl _ _).alloc (Nat.le_refl _) _
  have hN0 : (w.alloc (Obj.cells #[] 9)).ownsRow w.heap.size 9 1 (.slice (some ⟨w.heap.size, 0, none⟩) 0 0) ([] : List ByteArray).length (([] : List ByteArray).map Value.string) := World.ownsRow_made _ _ 0 (Nat.le_refl _) (by simp) (by simp)
  have hF0 := CF.of_below (M := M) hB0 (by omega)
  have h1 := h.on hB0
  obtain ⟨_, _, _, c3, _, _, f3⟩ := h1.cells
  dsimp only at c3
  go_enter Tryz.func61, Tryz.ntmps61
  by_cases h4 : 4 < l.length
  · have HN : Hid (namesHow xs l = 1) := by unfold Hid namesHow; rw [if_pos h4]
    have h4' : (4 : Int) < l.length := by omega
    obtain ⟨k1, k2⟩ := h.wrong 1 (by decide) ⟨sl, sd, 1⟩ rfl
    have hBk : Below (w.setCell ⟨M, 3, none⟩ (.int .i64 1)).heap.size (w.setCell ⟨M, 3, none⟩ (.int .i64 1)) ((w.setCell ⟨M, 3, none⟩ (.int .i64 1)).alloc (Obj.cells #[] 9)) := (Below.refl _ _).alloc (Nat.le_refl _) _
    obtain ⟨pv', lv', dv', L', D', h2⟩ := k1.on hBk
    have hF := k2.trans (CF.of_below (M := M) hBk (by simp; omega))
    have hN : ((w.setCell ⟨M, 3, none⟩ (.int .i64 1)).alloc (Obj.cells #[] 9)).ownsRow 0 9 1 (.slice (some ⟨w.heap.size, 0, none⟩) 0 0) 0 [] := by
      have e : (w.setCell ⟨M, 3, none⟩ (.int .i64 1)).heap.size = w.heap.size := by simp [World.setCell]
      have := World.ownsRow_made (base := 0) (e := 9) (size := 1) (w.setCell ⟨M, 3, none⟩ (.int .i64 1)) #[] 0 (Nat.zero_le _) (by simp) (by simp)
      rw [e] at this
      exact this
    obtain ⟨_, _, _, c4, _, _, f4⟩ := h2.cells
    dsimp only at c4
    clear hN0 hF0 T' T
    go_wp2_with fail
    generalize (w.setCell ⟨M, 3, none⟩ (.int .i64 1)).alloc (Obj.cells #[] 9) = w2 at *
    go_loopw [5, 6] (fun o i wr => o = .slice (some ⟨w.heap.size, 0, none⟩) 0 0 ∧ i = .int .i64 0 ∧ wr = w2) (fun _ _ _ => 0)
    case atStart => exact ⟨rfl, rfl, rfl⟩
    case round =>
      obtain ⟨rfl, rfl, rfl⟩ := hrel
      have h00 : (0 : Int) < l.length := by omega
      go_wp2_with fail
      go_loopw [9] (fun i w3 => i = .int .i64 0 ∧ w3 = wr) (fun _ _ => 0)
      case atStart => exact ⟨rfl, rfl⟩
      case round =>
        obtain ⟨rfl, rfl⟩ := hrel
        go_wp2_with fail
        go_ret
        first
          | exact ⟨_, rfl, [], hN, by simp, fun e => by (rw [HN.out] at e; cases e), by rw [HN.out]; exact ⟨_, _, _, _, _, h2⟩, hF⟩
          | exact ⟨_, [], rfl, hN, by simp, fun e => by (rw [HN.out] at e; cases e), by rw [HN.out]; exact ⟨_, _, _, _, _, h2⟩, hF⟩
  · have h4' : ¬ (4 : Int) < l.length := by omega
    go_wp2_with fail
    generalize w.alloc (Obj.cells #[] 9) = w1 at *
    go_loopw [5, 6] (fun o i wr => ∃ (ys : List ByteArray) (hw : Int), ys.length ≤ l.length ∧ i = .int .i64 ys.length ∧ wr.ownsRow w.heap.size 9 1 o ys.length (ys.map Value.string) ∧ Mk xs M d wr ⟨sl, sd, hw⟩ ∧ CF M w wr ∧ Hid ((hw = 0 ∧ allVars xs (l.take ys.length) = true ∧ ys = nameL xs (l.take ys.length)) ∨ (hw = 1 ∧ allVars xs l = false))) (fun _ i _ => l.length - (intOf i).toNat)
    case atStart => exact ⟨[], 0, by simp, rfl, hN0, ⟨_, _, _, _, _, h1⟩, hF0, .inl ⟨rfl, by simp [allVars], by simp [nameL]⟩⟩
    case round =>
      obtain ⟨ys, hw, hk, rfl, hor, hkr, hfr, HH⟩ := hrel
      clear c3 f3 h1 hF0 hN0
      by_cases hw0 : hw = 0
      · subst hw0
        have HAV : Hid (allVars xs (l.take ys.length) = true ∧ ys = nameL xs (l.take ys.length)) := by
          rcases HH.out with h | h
          · exact h.2
          · have := h.1; omega
        obtain ⟨pv2, lv2, dv2, L2, D2, h2⟩ := hkr
        obtain ⟨_, _, _, c3, _, _, f3⟩ := h2.cells
        dsimp only at c3
        have hMr := h2.lt
        by_cases hlt : ys.length < l.length
        · obtain ⟨z, hz⟩ : ∃ z, l[ys.length]? = some z := ⟨l[ys.length], by simp [hlt]⟩
          obtain ⟨n, hn, hnl⟩ := hv z (List.mem_of_getElem? hz)
          obtain ⟨x, hx⟩ : ∃ x, xs[n]? = some x := ⟨xs[n], by simp [hnl]⟩
          have Tr := hfr.trow h.blk T
          obtain ⟨g, o, rfl, hg, hc⟩ := Tr.cell ys.length hlt
          have hgd : l.getD ys.length 0 = n := by rw [List.getD_eq_getElem?_getD, hz]; exact hn
          rw [hgd] at hc
          rw [hn] at hz
          have hlt' : (ys.length : Int) < l.length := by omega
          go_wp2_with fail
          refine (s4name_any xs M d ⟨sl, sd, 0⟩ n x _ ⟨_, _, _, _, _, h2⟩ hx).mono ?_
          rintro e w3 ⟨rfl, hb3⟩
          have h3 := h2.on hb3
          have ho3 := own_below hor hb3
          have hf3 := hfr.trans (CF.of_below hb3 (by omega))
          have HXS : Hid ((ndAt xs n).s = x.s) := by unfold Hid; rw [ndAt_some hx]
          have HZ : Hid (l[ys.length]? = some (n : Int)) := hz
          clear hz hx hn hgd
          clear c3 f3 h2 hor hc
          cases hvb : varN xs n with
          | true =>
            have hsz3 : w.heap.size ≤ w3.heap.size := hf3.below.size
            go_wp2_with (at_builtin; refine wpList_append_own _ rfl _ _ 85 rfl w.heap.size 9 i0 (.string ByteArray.empty) 1 16 Tryz.underlying85 hi hz0 hz1 hz2 rfl (by decide) _ _ _ rfl (ho3.alloc _) ⟨_, 0, none⟩ 1 1 [.string x.s] rfl rfl (cell_one_new _ _ _) (fun u hu => by simp at hu; subst hu; rfl) (by unfold maxLen; omega) (by omega) (by simp; omega) ?_)
            intro v' w6 hown' hgrow _
            have hown6 : w6.ownsRow w.heap.size 9 1 v' (ys ++ [x.s]).length ((ys ++ [x.s]).map Value.string) := by
              rw [List.map_append, List.length_append]
              exact hown'
            have hBa : Below w3.heap.size w3 (w3.alloc (Obj.cells #[.string x.s] 9)) := (Below.refl _ _).alloc (Nat.le_refl _) _
            have h6 := (h3.on hBa).turnS (own_below ho3 hBa) hgrow (by decide) (by decide) (by decide) (by decide)
            have hf6 := (hf3.trans (CF.of_below hBa (by omega))).grown_new (own_below ho3 hBa) (by omega) hgrow
            have HH2 : Hid (((0 : Int) = 0 ∧ allVars xs (l.take (ys ++ [x.s]).length) = true ∧ ys ++ [x.s] = nameL xs (l.take (ys ++ [x.s]).length)) ∨ ((0 : Int) = 1 ∧ allVars xs l = false)) :=
              .inl ⟨rfl, by rw [List.length_append, List.length_singleton, allVars_snoc xs l ys.length _ HZ.out, HAV.out.1, hvb]; rfl, by rw [List.length_append, List.length_singleton, nameL_snoc xs l ys.length _ HZ.out, ← HAV.out.2, HXS.out]⟩
            clear hown' hgrow HH
            go_wp2_with fail
            go_roundw
            case rel => exact ⟨ys ++ [x.s], 0, by simp; omega, by simp, hown6, ⟨_, _, _, _, _, h6⟩, hf6, HH2⟩
            case measure => simp [intOf]; omega
          | false =>
            obtain ⟨_, _, _, c3, _, _, f3⟩ := h3.cells
            obtain ⟨k1, k2⟩ := h3.wrong 1 (by decide) ⟨sl, sd, 1⟩ rfl
            obtain ⟨pv4, lv4, dv4, L4, D4, h4w⟩ := k1
            have ho4 := ownsRow_setCell_other ho3 (a := ⟨M, 3, none⟩) (own_ne ho3 h3.blk (by decide)) (.int .i64 1)
            have hf4 := hf3.trans k2
            have hsz4 : w.heap.size ≤ (w3.setCell ⟨M, 3, none⟩ (.int .i64 1)).heap.size := hf4.below.size
            dsimp only at c3
            go_upto_region 10 with fail
            generalize w3.setCell ⟨M, 3, none⟩ (.int .i64 1) = w4 at *
            go_wp2_with (at_builtin; refine wpList_append_own _ rfl _ _ 85 rfl w.heap.size 9 i0 (.string ByteArray.empty) 1 16 Tryz.underlying85 hi hz0 hz1 hz2 rfl (by decide) _ _ _ rfl (ho4.alloc _) ⟨_, 0, none⟩ 1 1 [.string x.s] rfl rfl (cell_one_new _ _ _) (fun u hu => by simp at hu; subst hu; rfl) (by unfold maxLen; omega) (by omega) (by simp; omega) ?_)
            intro v' w6 hown' hgrow _
            have hown6 : w6.ownsRow w.heap.size 9 1 v' (ys ++ [x.s]).length ((ys ++ [x.s]).map Value.string) := by
              rw [List.map_append, List.length_append]
              exact hown'
            have hBa : Below w4.heap.size w4 (w4.alloc (Obj.cells #[.string x.s] 9)) := (Below.refl _ _).alloc (Nat.le_refl _) _
            have h6 := (h4w.on hBa).turnS (own_below ho4 hBa) hgrow (by decide) (by decide) (by decide) (by decide)
            have hf6 := (hf4.trans (CF.of_below hBa (by omega))).grown_new (own_below ho4 hBa) (by omega) hgrow
            have HH2 : Hid (((1 : Int) = 0 ∧ allVars xs (l.take (ys ++ [x.s]).length) = true ∧ ys ++ [x.s] = nameL xs (l.take (ys ++ [x.s]).length)) ∨ ((1 : Int) = 1 ∧ allVars xs l = false)) := .inr ⟨rfl, allVars_bad xs l ys.length _ HZ.out hvb⟩
            clear hown' hgrow HH
            go_wp2_with fail
            go_roundw
            case rel => exact ⟨ys ++ [x.s], 1, by simp; omega, by simp, hown6, ⟨_, _, _, _, _, h6⟩, hf6, HH2⟩
            case measure => simp [intOf]; omega
        · have HYN : Hid (ys = nameL xs l ∧ allVars xs l = true) := by
            have := HAV.out
            rw [List.take_of_length_le (by omega)] at this
            exact ⟨this.2, this.1⟩
          have hlt' : ¬ (ys.length : Int) < l.length := by omega
          have hy4 : ys.length ≤ 4 := by omega
          have HW : Hid (namesHow xs l = if dupB ys ys.length then 2 else 0) := by
            unfold Hid namesHow
            rw [if_neg h4, HYN.out.2, ← HYN.out.1, show l.length = ys.length by omega]
            rfl
          obtain ⟨ar, cr, rfl⟩ := own_form hor
          clear HAV HH
          go_wp2_with fail
          go_loopw [9] (fun i w2 => ∃ (k : Nat) (hw : Int), k ≤ ys.length ∧ i = .int .i64 k ∧ Mk xs M d w2 ⟨sl, sd, hw⟩ ∧ CF M w w2 ∧ w2.ownsRow w.heap.size 9 1 (.slice ar ys.length cr) ys.length (ys.map Value.string) ∧ Hid ((hw = 0 ∧ dupB ys k = false) ∨ (hw = 2 ∧ dupB ys ys.length = true))) (fun i _ => ys.length - (intOf i).toNat)
          case atStart => exact ⟨0, 0, by omega, rfl, ⟨_, _, _, _, _, h2⟩, hfr, hor, .inl ⟨rfl, rfl⟩⟩
          case round =>
            clear c3 f3 h2 hfr hor hMr
            obtain ⟨k, hw, hkk, rfl, ⟨pv3, lv3, dv3, L3, D3, h3⟩, hf3, ho3, HH⟩ := hrel
            obtain ⟨_, _, _, c3, _, _, f3⟩ := h3.cells
            dsimp only at c3
            by_cases hw0 : hw = 0
            · subst hw0
              have HD : Hid (dupB ys k = false) := by
                rcases HH.out with h | h
                · exact h.2
                · have := h.1; omega
              by_cases hkl : k < ys.length
              · have hkl' : (k : Int) < ys.length := by omega
                clear HH
                go_wp2_with fail
                go_loopw [10] (fun j w4 => ∃ (m : Nat) (hw : Int), m ≤ k ∧ j = .int .i64 m ∧ Mk xs M d w4 ⟨sl, sd, hw⟩ ∧ CF M w w4 ∧ w4.ownsRow w.heap.size 9 1 (.slice ar ys.length cr) ys.length (ys.map Value.string) ∧ Hid (hw = if memB (ys.getD k ByteArray.empty) (ys.take m) then 2 else 0)) (fun j _ => k - (intOf j).toNat)
                case atStart => exact ⟨0, 0, by omega, rfl, ⟨_, _, _, _, _, h3⟩, hf3, ho3, rfl⟩
                case round =>
                  clear c3 f3 h3 hf3 ho3
                  obtain ⟨m, hw, hmk, rfl, ⟨pv4, lv4, dv4, L4, D4, h4w⟩, hf4, ho4, HM⟩ := hrel
                  by_cases hml : m < k
                  · obtain ⟨tm, htm⟩ : ∃ t, ys[m]? = some t := ⟨ys[m]'(by omega), by simp [show m < ys.length by omega]⟩
                    obtain ⟨tk, htk⟩ : ∃ t, ys[k]? = some t := ⟨ys[k], by simp [hkl]⟩
                    obtain ⟨g, rfl, hg, hcm'⟩ := SRow.cell (own_mono ho4 (Nat.zero_le _)) m tm htm
                    obtain ⟨g', eg, hg', hck⟩ := SRow.cell (own_mono ho4 (Nat.zero_le _)) k tk htk
                    obtain rfl : g = g' := by simpa using eg
                    have HS := memB_snoc (ys.getD k ByteArray.empty) ys m tm htm
                    rw [show ys.getD k ByteArray.empty = tk by rw [List.getD_eq_getElem?_getD, htk]; rfl] at HS HM
                    have HTK : Hid (ys.getD k ByteArray.empty = tk) := by unfold Hid; rw [List.getD_eq_getElem?_getD, htk]; rfl
                    have hml' : (m : Int) < k := by omega
                    have hms : (m : Int) < ys.length := by omega
                    obtain ⟨_, _, _, c4, _, _, f4⟩ := h4w.cells
                    dsimp only at c4
                    cases he : (tm.toList == tk.toList) with
                    | true =>
                      have HM2 : Hid ((2 : Int) = if memB (ys.getD k ByteArray.empty) (ys.take (m + 1)) then 2 else 0) := by unfold Hid; rw [HTK.out, HS, he, Bool.or_true]; rfl
                      clear HS htm htk eg
                      go_wp2_with fail
                      go_quiet (fail)
                      have hbq : Below wr.heap.size wr (wr.drewN nq) := ⟨rfl, rfl, rfl, Nat.le_refl _, fun _ _ => rfl⟩
                      obtain ⟨k1, k2⟩ := (h4w.on hbq).wrong 2 (by decide) ⟨sl, sd, 2⟩ rfl
                      have ho5 := ownsRow_setCell_other (own_below ho4 hbq) (a := ⟨M, 3, none⟩) (own_ne (own_below ho4 hbq) (h4w.on hbq).blk (by decide)) (.int .i64 2)
                      have hf5 := (hf4.trans (CF.of_below hbq h4w.lt)).trans k2
                      go_wp2_with fail
                      go_roundw
                      case rel => exact ⟨m + 1, 2, by omega, by go_num, k1, hf5, ho5, HM2⟩
                      case measure => simp [intOf]; omega
                    | false =>
                      have HM2 : Hid (hw = if memB (ys.getD k ByteArray.empty) (ys.take (m + 1)) then 2 else 0) := by unfold Hid; rw [HTK.out, HS, he, Bool.or_false]; exact HM.out
                      clear HS htm htk eg
                      go_wp2_with fail
                      go_quiet (fail)
                      have hbq : Below wr.heap.size wr (wr.drewN nq) := ⟨rfl, rfl, rfl, Nat.le_refl _, fun _ _ => rfl⟩
                      have hf5 := hf4.trans (CF.of_below hbq h4w.lt)
                      go_wp2_with fail
                      go_roundw
                      case rel => exact ⟨m + 1, hw, by omega, by go_num, ⟨_, _, _, _, _, h4w.on hbq⟩, hf5, own_below ho4 hbq, HM2⟩
                      case measure => simp [intOf]; omega
                  · obtain rfl : m = k := by omega
                    have hml' : ¬ (m : Int) < m := by omega
                    have HH2 : Hid ((hw = 0 ∧ dupB ys (m + 1) = false) ∨ (hw = 2 ∧ dupB ys ys.length = true)) := by
                      have hm := HM.out
                      cases hq : memB (ys.getD m ByteArray.empty) (ys.take m) with
                      | true =>
                        rw [hq] at hm
                        refine .inr ⟨hm, dupB_mono (k := m + 1) ?_ (by omega)⟩
                        rw [dupB, hq, Bool.or_true]
                      | false =>
                        rw [hq] at hm
                        exact .inl ⟨hm, by rw [dupB, hq, HD.out]; rfl⟩
                    go_wp2_with fail
                    go_roundw
                    case rel => exact ⟨m + 1, hw, by omega, by go_num, ⟨_, _, _, _, _, h4w⟩, hf4, ho4, HH2⟩
                    case measure => simp [intOf]; omega
              · have hkl' : ¬ (k : Int) < ys.length := by omega
                have HW2 : Hid (namesHow xs l = 0) := by unfold Hid; rw [HW.out, show ys.length = k by omega, HD.out]; rfl
                clear HH
                go_wp2_with fail
                go_ret
                first
                  | exact ⟨_, rfl, ys, own_mono ho3 (Nat.zero_le _), hy4, fun _ => HYN.out.1, by rw [HW2.out]; exact ⟨_, _, _, _, _, h3⟩, hf3⟩
                  | exact ⟨_, ys, rfl, own_mono ho3 (Nat.zero_le _), hy4, fun _ => HYN.out.1, by rw [HW2.out]; exact ⟨_, _, _, _, _, h3⟩, hf3⟩
            · obtain ⟨hw2, hdup⟩ : hw = 2 ∧ dupB ys ys.length = true := by
                rcases HH.out with h | h
                · exact absurd h.1 hw0
                · exact h
              subst hw2
              have HW2 : Hid (namesHow xs l = 2) := by unfold Hid; rw [HW.out, hdup]; rfl
              clear HH hdup
              by_cases hkl : k < ys.length
              · have hkl' : (k : Int) < ys.length := by omega
                go_wp2_with fail
                go_ret
                first
                  | exact ⟨_, rfl, ys, own_mono ho3 (Nat.zero_le _), hy4, fun e => by (rw [HW2.out] at e; cases e), by rw [HW2.out]; exact ⟨_, _, _, _, _, h3⟩, hf3⟩
                  | exact ⟨_, ys, rfl, own_mono ho3 (Nat.zero_le _), hy4, fun e => by (rw [HW2.out] at e; cases e), by rw [HW2.out]; exact ⟨_, _, _, _, _, h3⟩, hf3⟩
              · have hkl' : ¬ (k : Int) < ys.length := by omega
                go_wp2_with fail
                go_ret
                first
                  | exact ⟨_, rfl, ys, own_mono ho3 (Nat.zero_le _), hy4, fun e => by (rw [HW2.out] at e; cases e), by rw [HW2.out]; exact ⟨_, _, _, _, _, h3⟩, hf3⟩
                  | exact ⟨_, ys, rfl, own_mono ho3 (Nat.zero_le _), hy4, fun e => by (rw [HW2.out] at e; cases e), by rw [HW2.out]; exact ⟨_, _, _, _, _, h3⟩, hf3⟩
      · obtain ⟨hw1, hbad⟩ : hw = 1 ∧ allVars xs l = false := by
          rcases HH.out with h | h
          · exact absurd h.1 hw0
          · exact h
        subst hw1
        have HW : Hid (namesHow xs l = 1) := by unfold Hid namesHow; rw [if_neg h4, hbad]; rfl
        have hy4 : ys.length ≤ 4 := by omega
        obtain ⟨ar, cr, rfl⟩ := own_form hor
        obtain ⟨pv2, lv2, dv2, L2, D2, h2⟩ := hkr
        obtain ⟨_, _, _, c3, _, _, f3⟩ := h2.cells
        dsimp only at c3
        clear HH hbad
        by_cases hlt : ys.length < l.length
        case' pos => have hlt' : (ys.length : Int) < l.length := by omega
        case' neg => have hlt' : ¬ (ys.length : Int) < l.length := by omega
        all_goals
          go_wp2_with fail
          go_loopw [9] (fun i w2 => i = .int .i64 0 ∧ w2 = wr) (fun _ _ => 0)
          case atStart => exact ⟨rfl, rfl⟩
          case round =>
            obtain ⟨rfl, rfl⟩ := hrel
            by_cases hyl : 0 < ys.length
            case' pos => have hyl' : (0 : Int) < ys.length := by omega
            case' neg => have hyl' : ¬ (0 : Int) < ys.length := by omega
            all_goals
              go_wp2_with fail
              go_ret
              first
                | exact ⟨_, rfl, ys, own_mono hor (Nat.zero_le _), hy4, fun e => by (rw [HW.out] at e; cases e), by rw [HW.out]; exact ⟨_, _, _, _, _, h2⟩, hfr⟩
                | exact ⟨_, ys, rfl, own_mono hor (Nat.zero_le _), hy4, fun e => by (rw [HW.out] at e; cases e), by rw [HW.out]; exact ⟨_, _, _, _, _, h2⟩, hfr⟩
end Go.Proofs.YtkchakcebdenjaaGreat
