/-
  Contract of spec's LeaseGive. No condition.
-/
import Derived.Test.YtdlbgdckkjhbdaaLsGiveM
namespace Go.Proofs.Ytdlbgdckkjhbdaa
open Go.RowKit

set_option maxRecDepth 100000 in
set_option maxHeartbeats 3200000 in
theorem sleasegive_any (v : Value) (xs : List Ls) (i q n : Int) (w : World) (R : LsRow w v xs) :
    Calls Try.prog 23 #[v, .int .i64 i, .int .i64 q, .int .i64 n] w (GvAns xs i q n w) := by
  have RR := R
  obtain ⟨ao, cap, rfl, hcap, hml, hcell⟩ := R
  obtain ⟨i0, hi, hz0, hz1, hz2⟩ := info_parts Try.infoLs
  have OK := fun (v : Value) (w : World) (R : LsRow w v xs) => sleasesok_any v xs w R
  cases hb : lsB xs with
  | false =>
    have AA := fun (w' : World) (u : Value) (ho : w'.ownsRow w.heap.size 40 3 u 0 []) (hbl : Below w.heap.size w w') => GvAns.of (i := i) (q := q) (n := n) (gv_bad hb) ho hbl
    rw [hb] at OK
    generalize GvAns xs i q n w = PP at *
    go_enter Try.func23, Try.ntmps23
    go_wp2_with fail
    refine (OK _ _ RR).mono ?_
    rintro e w1 ⟨rfl, hb1⟩
    have own2 := own_none0 w1 40 3 w.heap.size hb1.size
    have hB2 := hb1.alloc hb1.size (Obj.cells #[] 40)
    clear OK RR hcell
    go_wp2
    exact AA _ _ own2 hB2
  | true =>
  have hl20 := lsB_len hb
  have PC := fun (v : Value) (w : World) (R : LsRow w v xs) => s11at_any v xs i q w R
  have AN0 := fun (h : ¬ 0 ≤ lsIdx xs i q 0) (w' : World) (u : Value) (ho : w'.ownsRow w.heap.size 40 3 u xs.length (lscs xs)) (hbl : Below w.heap.size w w') => GvAns.of (i := i) (q := q) (n := n) (gv_none hb h) ho hbl
  have AN1 := fun (k : Nat) (x : Ls) (h : lsIdx xs i q 0 = (k : Int)) (hx : xs[k]? = some x) (hn : ¬ n ≤ x.u) (w' : World) (u : Value) (ho : w'.ownsRow w.heap.size 40 3 u xs.length (lscs xs)) (hbl : Below w.heap.size w w') => GvAns.of (i := i) (q := q) (n := n) (gv_over hb h hx hn) ho hbl
  have AY := fun (k : Nat) (x : Ls) (h : lsIdx xs i q 0 = (k : Int)) (hx : xs[k]? = some x) (hn : n ≤ x.u) (w' : World) (u : Value) (ho : w'.ownsRow w.heap.size 40 3 u (xs.eraseIdx k).length (lscs (xs.eraseIdx k))) (hbl : Below w.heap.size w w') => GvAns.of (i := i) (q := q) (n := n) (gv_yes hb h hx hn) ho hbl
  have hat := fun (k : Nat) (h : lsIdx xs i q 0 = (k : Int)) => gv_at h
  rw [hb] at OK
  generalize GvAns xs i q n w = PP at *
  generalize lsIdx xs i q 0 = p at *
  go_enter Try.func23, Try.ntmps23
  go_wp2_with fail
  refine (OK _ _ RR).mono ?_
  rintro e w1 ⟨rfl, hB1⟩
  clear OK
  go_wp2_with fail
  refine (PC _ _ (RR.below hB1)).mono ?_
  rintro e w2 ⟨rfl, hw⟩
  have hw2 := hw.symm
  subst hw2
  clear hw PC
  have hBa := hB1.alloc hB1.size (Obj.cells #[] 40)
  have S1 := RR.below hBa
  have own0 := own_none0 w1 40 3 w.heap.size hB1.size
  go_wp2_with (at_builtin; refine wpList_append_own_any _ rfl _ _ 24 rfl w.heap.size 40 i0 _ 3 24 Try.underlying24 hi hz0 hz1 hz2 rfl (by decide) _ 0 _ rfl own0 ao xs.length cap (lscs xs) rfl (by rw [lscs_length]) S1.nilcap S1.cells (lscs_one xs) (by unfold maxLen; omega) (by omega) (by have := hB1.size; simp; omega) ?_)
  intro u1 w2 own2 hg2
  replace own2 : w2.ownsRow w.heap.size 40 3 u1 xs.length (lscs xs) := by simpa [lscs_nil] using own2
  have hB2 : Below w.heap.size w w2 := hBa.grown hg2 (by have := hB1.size; simp; omega) (fun k hk => by simp [Value.ownBlock] at hk; have := hB1.size; omega)
  clear S1 own0 hBa hg2 hB1
  obtain ⟨b1, c1, rfl⟩ := own_form own2
  by_cases hp : 0 ≤ p
  rotate_left
  · have hp' : p < 0 := by omega
    have AN' := AN0 (by omega)
    clear AN0 AN1 AY hat hcell
    go_wp2
    exact AN' _ _ own2 hB2
  obtain ⟨k, rfl⟩ : ∃ k : Nat, p = k := ⟨p.toNat, by omega⟩
  obtain ⟨x, hx⟩ := hat k rfl
  have hk : k < xs.length := (List.getElem?_eq_some_iff.1 hx).1
  clear AN0 hat
  obtain ⟨g, o, rfl, hg, hcell⟩ := hcell (by intro e; subst e; simp at hk)
  obtain ⟨d0, d1, d2⟩ := (hcell k x hx).below hB2 hg
  clear hcell
  by_cases hn : n ≤ x.u
  rotate_left
  · have hn' : x.u < n := by omega
    have AN' := AN1 k x rfl hx (by omega)
    clear AY AN1 hx
    go_wp2
    exact AN' _ _ own2 hB2
  have AY' := AY k x rfl hx hn
  clear AY AN1 hx
  obtain ⟨gg, cg, hgv⟩ : ∃ gg cg, (Value.slice b1 xs.length c1) = .slice (some ⟨gg, 0, none⟩) xs.length cg := by
    rcases own2.2 with ⟨e, h0⟩ | ⟨gg, cg, cur, e, _⟩
    · omega
    · exact ⟨gg, cg, e⟩
  simp only [Value.slice.injEq, true_and] at hgv
  obtain ⟨rfl, rfl⟩ := hgv
  have hcl : xs.length ≤ c1 := by
    rcases own2.2 with ⟨e, h0⟩ | ⟨g', cap', cur, e, _, _, h3, _⟩
    · omega
    · simp only [Value.slice.injEq, true_and] at e
      omega
  have ownT := own_take own2 (Nat.le_of_lt hk)
  rw [lscs_take xs k (by omega)] at ownT
  have HX : Hid (lscs (xs.take k) ++ lscs (xs.drop (k + 1)) = lscs (xs.eraseIdx k)) := (lscs_erase xs k).symm
  have HL : Hid (k + (xs.length - (k + 1)) = (xs.eraseIdx k).length) := by unfold Hid; rw [List.length_eraseIdx_of_lt hk]; omega
  have hl2 : (lscs (xs.drop (k + 1))).length = (xs.length - (k + 1)) * 3 := by rw [lscs_length]; simp
  have o2 := lscs_one (xs.drop (k + 1))
  have P2 : ∀ ad, (some ⟨gg, (k + 1) * 3, none⟩ : Option Addr) = some ad → ∀ j u, (lscs (xs.drop (k + 1)))[j]? = some u → w2.drew.cell? (ad.add j) = some u := by
    intro ad e j u hu
    cases e
    rw [Addr.add_lit]
    have hj : j < (xs.length - (k + 1)) * 3 := by have := (List.getElem?_eq_some_iff.1 hu).1; omega
    have hc := own2.cellAt ((k + 1) * 3 + j) (by omega)
    have e : lscs xs = lscs (xs.take (k + 1)) ++ lscs (xs.drop (k + 1)) := by rw [← lscs_append, List.take_append_drop]
    rw [e, List.getElem?_append_right (by rw [lscs_length]; simp; omega)] at hc
    rw [show (k + 1) * 3 + j - (lscs (xs.take (k + 1))).length = j by rw [lscs_length]; simp; omega, hu] at hc
    exact hc
  have hE : xs.length = k + 1 → lscs (xs.drop (k + 1)) = [] := fun h => by rw [List.drop_eq_nil_of_le (by omega)]; rfl
  generalize lscs (xs.take k) = C1 at *
  generalize lscs (xs.drop (k + 1)) = C2 at *
  generalize xs.eraseIdx k = E at *
  have hbn : ∀ kk, (Value.slice (some (⟨gg, 0, none⟩ : Addr)) k c1).ownBlock = some kk → w.heap.size ≤ kk := fun kk hk => (ownT.lt kk hk).1
  have H2 : Hid (C2.length = (xs.length - (k + 1)) * 3) := hl2
  have ownT' : w2.drew.ownsRow w.heap.size 40 3 (.slice (some ⟨gg, 0, none⟩) k c1) k C1 := ownT
  have hi0 : (0 : Int) ≤ (k : Int) + 1 := by omega
  have hi1 : (k : Int) + 1 ≤ (xs.length : Int) := by omega
  have hkW : IntKind.i64.wrap ((k : Int) + 1) = (k : Int) + 1 := by rw [IntKind.wrap_i64]; omega
  have hkc : k ≤ c1 := by omega
  have hn' : ¬ x.u < n := by omega
  clear hl2 own2 ownT
  by_cases hcc : c1 = k + 1
  · have hC2 := hE (by omega)
    subst hC2
    have hx0 : xs.length - (k + 1) = 0 := by omega
    subst hcc
    have hik : (k : Int) ≤ (k : Int) + 1 := by omega
    have hN0 : (some (⟨gg, 0, none⟩ : Addr) : Option Addr) = none → (0 : Nat) = 0 ∧ (0 : Nat) = 0 := fun e => by cases e
    have hP0 : ∀ ad, (some (⟨gg, 0, none⟩ : Addr) : Option Addr) = some ad → ∀ j u, ([] : List Value)[j]? = some u → w2.drew.cell? (ad.add j) = some u := fun _ _ j u h => by simp at h
    clear P2 hE H2
    go_wp2_with fail
    go_region_law (refine step_append_own_any _ rfl (.tmp 37) (.tmp 41) 24 rfl w.heap.size 40 i0 _ 3 24 Try.underlying24 hi hz0 hz1 hz2 rfl (by decide) (.slice (some ⟨gg, 0, none⟩) k (k + 1)) k C1 (by go_simp) ownT' (some ⟨gg, 0, none⟩) 0 0 [] (by go_simp) rfl (fun e => nomatch e) hP0 o2 (by unfold maxLen; omega) (by omega) hB2.size ?_; intro u4 w4 o4 hg4)
    all_goals
      have hB4 : Below w.heap.size w w4 := hB2.drew.grown hg4 hB2.size hbn
      have o5 : w4.ownsRow w.heap.size 40 3 u4 E.length (lscs E) := by
        have h1 := HX.out
        have h2 := HL.out
        rw [hx0] at h2
        rw [← h1, ← h2]
        exact o4
      clear o4 hg4 ownT' hbn
      go_wp2
      refine bodyPost_ret (results_tmp2 rfl _ _ _) rfl ?_
      exact AY' _ _ o5 hB4
  · have hN0 : (some (⟨gg, (k + 1) * 3, none⟩ : Addr) : Option Addr) = none → xs.length - (k + 1) = 0 ∧ c1 - (k + 1) = 0 := fun e => by cases e
    clear hE
    go_wp2_with fail
    go_region_law (refine step_append_own_any _ rfl (.tmp 37) (.tmp 41) 24 rfl w.heap.size 40 i0 _ 3 24 Try.underlying24 hi hz0 hz1 hz2 rfl (by decide) (.slice (some ⟨gg, 0, none⟩) k c1) k C1 (by go_simp) ownT' (some ⟨gg, (k + 1) * 3, none⟩) (xs.length - (k + 1)) (c1 - (k + 1)) C2 (by go_simp) H2.out hN0 P2 o2 (by unfold maxLen; omega) (by omega) hB2.size ?_; intro u4 w4 o4 hg4)
    all_goals
      have hB4 : Below w.heap.size w w4 := hB2.drew.grown hg4 hB2.size hbn
      have o5 : w4.ownsRow w.heap.size 40 3 u4 E.length (lscs E) := by
        rw [← HX.out, ← HL.out]
        exact o4
      clear o4 hg4 ownT' hbn P2
      go_wp2
      refine bodyPost_ret (results_tmp2 rfl _ _ _) rfl ?_
      exact AY' _ _ o5 hB4
end Go.Proofs.Ytdlbgdckkjhbdaa
