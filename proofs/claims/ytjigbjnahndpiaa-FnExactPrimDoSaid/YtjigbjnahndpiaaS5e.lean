/-
  The contract of spec.PrimDo: the pool, the value and the code. Condition: not more values than a law hands in.
-/
import Derived.Test.YtjigbjnahndpiaaS5b
import Derived.Test.YtjigbjnahndpiaaS5c
import Derived.Test.YtjigbjnahndpiaaS5d
import Derived.Test.YtjigbjnahndpiaaOc5
import Derived.Test.YtjigbjnahndpiaaSMkList
namespace Go.Proofs.Ytjigbjnahndpiaa
open Go.RowKit

theorem s5do_any (b base : Nat) (ao : Option Addr) (cap : Nat) (vl : Value) (xs : List Nd) (zs : List Int) (n : Int) (w : World) (hbk : w.heap[b]? = some (.cells #[.slice ao xs.length cap] 26 (0, 0))) (ho : w.ownsRow base 34 5 (.slice ao xs.length cap) xs.length (ncs xs)) (hbb : base ≤ b)
    (hz : ∀ x ∈ xs, x.s.size ≤ maxLen) (L : IRow w vl zs) (hp : poolB xs = true) (ha : allI xs zs = true) (h1 : 1 ≤ n) (h2 : n ≤ 12) (hl : (zs.length : Int) = primArgsR n) :
    Calls Try.prog 37 #[.pointer (some ⟨b, 0, none⟩), .int .i64 n, vl] w fun e w' => S5Ans b base xs (innerOc xs n zs) w e w' := by
  have : n ≤ 5 ∨ n = 6 ∨ n = 7 ∨ n = 8 ∨ n = 9 ∨ n = 10 ∨ n = 11 ∨ n = 12 := by omega
  rcases this with h | h | h | h | h | h | h | h
  · exact s5do_num b base ao cap vl xs zs n w hbk ho hbb hz L hp ha h1 h hl
  · exact s5do_two b base ao cap vl xs zs n w hbk ho hbb hz L hp ha (Or.inl h) hl
  · exact s5do_one b base ao cap vl xs zs n w hbk ho hbb hz L hp ha (Or.inl h) hl
  · exact s5do_one b base ao cap vl xs zs n w hbk ho hbb hz L hp ha (Or.inr (Or.inl h)) hl
  · exact s5do_one b base ao cap vl xs zs n w hbk ho hbb hz L hp ha (Or.inr (Or.inr (Or.inl h))) hl
  · exact s5do_one b base ao cap vl xs zs n w hbk ho hbb hz L hp ha (Or.inr (Or.inr (Or.inr (Or.inl h)))) hl
  · exact s5do_two b base ao cap vl xs zs n w hbk ho hbb hz L hp ha (Or.inr h) hl
  · exact s5do_one b base ao cap vl xs zs n w hbk ho hbb hz L hp ha (Or.inr (Or.inr (Or.inr (Or.inr h)))) hl

set_option maxRecDepth 100000 in
set_option maxHeartbeats 6400000 in
theorem sprimdo_any (v vl : Value) (xs : List Nd) (zs : List Int) (n : Int) (w : World) (R : NRow w v xs) (L : IRow w vl zs) :
    Calls Try.prog 10 #[.agg #[v], .int .i64 n, vl] w fun e w' => PdAns w (pdL xs n zs) (pdV xs n zs) (pdC xs n zs) e w' := by
  have R' := R
  have L' := L
  obtain ⟨ao, cap, rfl, hcap, hm, hz, _⟩ := R'
  obtain ⟨al, cl, rfl, hcl, hlm, hcell⟩ := L'
  go_enter Try.func10, Try.ntmps10
  go_wp2_with fail
  have hB0 : Below w.heap.size w ((w.alloc (Obj.cells #[.slice ao xs.length cap] 26)).alloc (Obj.cells #[.slice none 0 0] 26)) := below2 _ _ _
  refine (spool_any _ xs _ (R.below hB0)).mono ?_
  rintro e w1 ⟨rfl, hb1⟩
  have hx1 : w1.heap[w.heap.size]? = some (.cells #[.slice ao xs.length cap] 26 (0, 0)) := (hb1.block _ (by simp; omega)).trans (old2 _ _ _)
  have hy1 : w1.heap[w.heap.size + 1]? = some (.cells #[.slice none 0 0] 26 (0, 0)) := (hb1.block _ (by simp)).trans (heap_alloc2_new _ _ _)
  have hB1 := hB0.trans (hb1.mono hB0.size)
  have hsz1 := (Array.getElem?_eq_some_iff.1 hy1).1
  clear hB0 hb1
  have hd1 : w1.cell? ⟨w.heap.size + 1, 0, none⟩ = some (.slice none 0 0) := by rw [cell_of_row w1 _ 0 _ _ _ hy1]; rfl
  have hf1 : w1.frozen? ⟨w.heap.size + 1, 0, none⟩ = false := frozen_of_row w1 _ 0 _ _ hy1
  have bad : ∀ (h : pdOk xs n zs = false), Hid (pdL xs n zs = []) ∧ Hid (pdV xs n zs = -1) ∧ Hid (pdC xs n zs = 1) := fun h => by
    unfold Hid pdL pdV pdC; rw [h]; simp
  by_cases hp : poolB xs = true
  · have hlen : xs.length ≤ 3000 := by simp only [poolB, Bool.and_eq_true, decide_eq_true_eq] at hp; exact hp.1
    rw [hp]
    go_wp2_with fail
    refine (sprimargs_any _ n).mono ?_
    rintro e w2 ⟨rfl, hb2⟩
    have hx2 := (hb2.block _ (by omega)).trans hx1
    have hy2 := (hb2.block _ hsz1).trans hy1
    have hB2 := hB1.trans (hb2.mono hB1.size)
    have hsz2 := (Array.getElem?_eq_some_iff.1 hy2).1
    clear hB1 hd1 hf1 hx1 hy1 hb2 hsz1
    have hc2 : w2.cell? ⟨w.heap.size, 0, none⟩ = some (.slice ao xs.length cap) := by rw [cell_of_row w2 _ 0 _ _ _ hx2]; rfl
    have hd1 : w2.cell? ⟨w.heap.size + 1, 0, none⟩ = some (.slice none 0 0) := by rw [cell_of_row w2 _ 0 _ _ _ hy2]; rfl
    have hf1 : w2.frozen? ⟨w.heap.size + 1, 0, none⟩ = false := frozen_of_row w2 _ 0 _ _ hy2
    by_cases hl : (zs.length : Int) = primArgsR n
    · obtain ⟨h1, h19⟩ := primArgs_ge hl
      have hl' := hl
      generalize primArgsR n = pa at hl' ⊢
      subst hl'
      have hw0 : w.heap.size < w2.heap.size := by omega
      clear hd1 hf1
      go_wp2_with fail
      go_loopw [9] (fun i wr => ∃ k : Nat, k ≤ zs.length ∧ i = .int .i64 k ∧ Hid (allI xs zs = (zs.drop k).all (hasI xs)) ∧ Below w2.heap.size w2 wr) (fun i _ => zs.length - (intOf i).toNat)
      case atStart => exact ⟨0, by omega, rfl, by simp [Hid, allI], Below.refl _ _⟩
      case round =>
        obtain ⟨k, hk, rfl, HA, hb⟩ := hrel
        have hB := hB2.trans (hb.mono hB2.size)
        have hcr := (hb.cell (p := ⟨w.heap.size, 0, none⟩) hw0).trans hc2
        have hyr := (hb.block _ hsz2).trans hy2
        have hszr := (Array.getElem?_eq_some_iff.1 hyr).1
        by_cases hlt : k < zs.length
        · obtain ⟨g, o, rfl, hg, hcell⟩ := hcell (by intro e; subst e; simp at hlt)
          have c0 := (hB.cell (p := ⟨g, o + k, none⟩) hg).trans (hcell k hlt)
          have HS : Hid (allI xs zs = (hasI xs (zs.getD k 0) && (zs.drop (k + 1)).all (hasI xs))) := by unfold Hid; rw [HA.out, all_drop _ _ _ hlt]
          clear hcell HA
          generalize zs.getD k 0 = z at c0 HS
          go_wp2_with fail
          go_region_with (go_at_call 35; refine (shas_all _ xs _ _ (R.below ?_)).mono ?_; exact hB.drew; rintro e w3 ⟨rfl, hb3⟩)
          all_goals
            have hb3' : Below wr.heap.size wr w3 := (Below.refl _ _).drew.trans hb3
            have hB3 := hB.trans (hb3'.mono hB.size)
            have hbb := hb.trans (hb3'.mono hb.size)
            have hyr3 := (hb3'.block _ hszr).trans hyr
            have hszr3 := (Array.getElem?_eq_some_iff.1 hyr3).1
            clear c0 hb3 hcr hyr hb3'
            cases hA : hasI xs z with
            | false =>
              rw [hA, Bool.false_and] at HS
              obtain ⟨HL, HV, HC⟩ := bad (by unfold pdOk; rw [HS.out]; simp)
              have hd3 : w3.cell? ⟨w.heap.size + 1, 0, none⟩ = some (.slice none 0 0) := by rw [cell_of_row w3 _ 0 _ _ _ hyr3]; rfl
              have hf3 : w3.frozen? ⟨w.heap.size + 1, 0, none⟩ = false := frozen_of_row w3 _ 0 _ _ hyr3
              obtain ⟨p1, p2, p3⟩ := put_pool hyr3 (World.ownsRow_nil w3 w3.heap.size 34 5) hB3 hszr3 (by omega)
              go_wp2_with fail
              refine bodyPost_ret (results_row_two rfl _ _ (w.heap.size + 1) 26 _ (0, 0) _ rfl p1 Try.underlying26 rfl Try.sizeP) rfl ⟨_, by rw [HV.out, HC.out]; rfl, ?_, p3⟩
              rw [HL.out]
              exact p2
            | true =>
              rw [hA, Bool.true_and] at HS
              go_wp2
              go_roundw
              case rel => exact ⟨k + 1, by omega, by go_num, HS, hbb⟩
              case measure => simp [intOf]; omega
        · have hal : allI xs zs = true := by rw [HA.out, List.drop_eq_nil_of_le (by omega)]; rfl
          have hok : pdOk xs n zs = true := by unfold pdOk; rw [hp, hal]; simp [hl]
          have HL0 : Hid (pdL xs n zs = if (outOc xs n zs).how = 0 ∧ (outOc xs n zs).there = -1 then xs ++ [(outOc xs n zs).nd] else xs) := by unfold Hid pdL; rw [if_pos hok]
          have HV0 : Hid (pdV xs n zs = if (outOc xs n zs).how = 0 then (if (outOc xs n zs).there = -1 then (xs.length : Int) else (outOc xs n zs).there) else -1) := by unfold Hid pdV; rw [if_pos hok]
          have HC0 : Hid (pdC xs n zs = (outOc xs n zs).how) := by unfold Hid pdC; rw [if_pos hok]
          clear HA bad hcell
          by_cases h12 : 12 < n
          · have ho : outOc xs n zs = ocOf 2 := by unfold outOc; rw [if_pos h12]
            rw [ho] at HL0 HV0 HC0
            have HL : Hid (pdL xs n zs = xs) := HL0
            have HV : Hid (pdV xs n zs = -1) := HV0
            have HC : Hid (pdC xs n zs = 2) := HC0
            go_wp2_with fail
            refine (scopy_any _ xs _ (R.below hB) (by omega)).mono ?_
            rintro e w4 ⟨vw4, rfl, how4, hbw4⟩
            obtain ⟨aow4, capw4, rfl⟩ := own_form how4
            have hyw4 := (hbw4.block _ hszr).trans hyr
            have hdw4 : w4.cell? ⟨w.heap.size + 1, 0, none⟩ = some (.slice none 0 0) := by rw [cell_of_row w4 _ 0 _ _ _ hyw4]; rfl
            have hfw4 : w4.frozen? ⟨w.heap.size + 1, 0, none⟩ = false := frozen_of_row w4 _ 0 _ _ hyw4
            have hBw4 := hB.trans (hbw4.mono hB.size)
            obtain ⟨p1, p2, p3⟩ := put_pool hyw4 how4 hBw4 hszr (by omega)
            clear hbw4
            go_wp2
            refine bodyPost_ret (results_row_two rfl _ _ (w.heap.size + 1) 26 _ (0, 0) _ rfl p1 Try.underlying26 rfl Try.sizeP) rfl ⟨_, by rw [HV.out, HC.out]; rfl, ?_, p3⟩
            rw [HL.out]
            exact p2
          · have h12' : n ≤ 12 := by omega
            have ho : outOc xs n zs = if (innerOc xs n zs).how = 0 ∧ (innerOc xs n zs).there = -1 ∧ xs.length = 3000 then ocOf 5 else innerOc xs n zs := by unfold outOc; rw [if_neg h12]
            rw [ho] at HL0 HV0 HC0
            have hos := innerOc_s xs n zs
            go_wp2_with fail
            refine (scopy_any _ xs _ (R.below hB) (by omega)).mono ?_
            rintro e w4 ⟨v4, rfl, ho4, hb4⟩
            obtain ⟨ao4, cap4, rfl⟩ := own_form ho4
            have hy4 := (hb4.block _ hszr).trans hyr
            have hB4 := hB.trans (hb4.mono hB.size)
            have hc4 := (hb4.cell (p := ⟨w.heap.size, 0, none⟩) (show w.heap.size < wr.heap.size by omega)).trans hcr
            have hsz4 := (Array.getElem?_eq_some_iff.1 hy4).1
            have hsw : wr.heap.size ≤ w4.heap.size := hb4.size
            have hBa : Below w4.heap.size w4 (w4.alloc (Obj.cells #[.slice ao4 xs.length cap4] 26)) := (Below.refl _ _).alloc (Nat.le_refl _) _
            go_wp2_with fail
            refine (s5do_any w4.heap.size wr.heap.size ao4 cap4 _ xs zs n _ (heap_alloc_new _ _) (ho4.alloc _) hsw hz ((L.below hB4).below hBa) hp hal h1 h12' hl).mono ?_
            rintro e w5 ⟨v5, he, hb5, ho5, hB5⟩
            generalize innerOc xs n zs = oc at HL0 HV0 HC0 hos he ho5
            have hBr : Below wr.heap.size wr w5 := (hb4.trans (hBa.mono hsw)).trans hB5
            have hB5w := hB.trans (hBr.mono hB.size)
            have hy5 := (hBr.block _ hszr).trans hyr
            have hsz5 := (Array.getElem?_eq_some_iff.1 hy5).1
            have hc5 := (hBr.cell (p := ⟨w.heap.size, 0, none⟩) (show w.heap.size < wr.heap.size by omega)).trans hcr
            have hd5 : w5.cell? ⟨w.heap.size + 1, 0, none⟩ = some (.slice none 0 0) := by rw [cell_of_row w5 _ 0 _ _ _ hy5]; rfl
            have hf5 : w5.frozen? ⟨w.heap.size + 1, 0, none⟩ = false := frozen_of_row w5 _ 0 _ _ hy5
            clear hB5 hBa hc4 hcr ho4
            by_cases e1 : oc.how = 0
            · by_cases e2 : oc.there = -1
              · rw [if_pos e1, if_pos e2, e1] at he
                rw [if_pos ⟨e1, e2⟩] at ho5
                subst he
                obtain ⟨ao5, cap5, rfl⟩ := own_form ho5
                have hk5 : w5.cell? ⟨w4.heap.size, 0, none⟩ = some (.slice ao5 (xs ++ [oc.nd]).length cap5) := by rw [cell_of_row w5 _ 0 _ _ _ hb5]; rfl
                have hLl : (xs ++ [oc.nd]).length = xs.length + 1 := by simp
                by_cases e3 : xs.length = 3000
                · rw [show (if oc.how = 0 ∧ oc.there = -1 ∧ xs.length = 3000 then ocOf 5 else oc) = ocOf 5 from if_pos ⟨e1, e2, e3⟩] at HL0 HV0 HC0
                  have HL : Hid (pdL xs n zs = xs) := HL0
                  have HV : Hid (pdV xs n zs = -1) := HV0
                  have HC : Hid (pdC xs n zs = 5) := HC0
                  have e4 : 3000 < (((xs ++ [oc.nd]).length : Nat) : Int) := by rw [hLl]; omega
                  clear e3 hLl
                  generalize (xs ++ [oc.nd]).length = nl at *
                  go_wp2_with fail
                  refine (scopy_any _ xs _ (R.below hB5w) (by omega)).mono ?_
                  rintro e w6 ⟨v6, rfl, ho6, hb6⟩
                  obtain ⟨ao6, cap6, rfl⟩ := own_form ho6
                  have hy6 := (hb6.block _ hsz5).trans hy5
                  have hd6 : w6.cell? ⟨w.heap.size + 1, 0, none⟩ = some (.slice none 0 0) := by rw [cell_of_row w6 _ 0 _ _ _ hy6]; rfl
                  have hf6 : w6.frozen? ⟨w.heap.size + 1, 0, none⟩ = false := frozen_of_row w6 _ 0 _ _ hy6
                  have hB6 := hB5w.trans (hb6.mono hB5w.size)
                  obtain ⟨p1, p2, p3⟩ := put_pool hy6 ho6 hB6 hsz5 (by omega)
                  clear hb6
                  go_wp2
                  refine bodyPost_ret (results_row_two rfl _ _ (w.heap.size + 1) 26 _ (0, 0) _ rfl p1 Try.underlying26 rfl Try.sizeP) rfl ⟨_, by rw [HV.out, HC.out]; rfl, ?_, p3⟩
                  rw [HL.out]
                  exact p2
                · rw [show (if oc.how = 0 ∧ oc.there = -1 ∧ xs.length = 3000 then ocOf 5 else oc) = oc from if_neg (fun h => e3 h.2.2)] at HL0 HV0 HC0
                  have HL : Hid (pdL xs n zs = xs ++ [oc.nd]) := by unfold Hid; rw [HL0.out, if_pos ⟨e1, e2⟩]
                  have HV : Hid (pdV xs n zs = xs.length) := by unfold Hid; rw [HV0.out, if_pos e1, if_pos e2]
                  have HC : Hid (pdC xs n zs = 0) := by unfold Hid; rw [HC0.out, e1]
                  have e4 : ¬ 3000 < (((xs ++ [oc.nd]).length : Nat) : Int) := by rw [hLl]; omega
                  clear hLl
                  obtain ⟨p1, p2, p3⟩ := put_pool hy5 ho5 hB5w hszr (by omega)
                  generalize xs ++ [oc.nd] = LA at *
                  go_wp2
                  refine bodyPost_ret (results_row_two rfl _ _ (w.heap.size + 1) 26 _ (0, 0) _ rfl p1 Try.underlying26 rfl Try.sizeP) rfl ⟨_, by rw [HV.out, HC.out]; rfl, ?_, p3⟩
                  rw [HL.out]
                  exact p2
              · rw [if_pos e1, if_neg e2, e1] at he
                rw [if_neg (fun h => e2 h.2)] at ho5
                subst he
                rw [show (if oc.how = 0 ∧ oc.there = -1 ∧ xs.length = 3000 then ocOf 5 else oc) = oc from if_neg (fun h => e2 h.2.1)] at HL0 HV0 HC0
                have HL : Hid (pdL xs n zs = xs) := by unfold Hid; rw [HL0.out, if_neg (fun h => e2 h.2)]
                have HV : Hid (pdV xs n zs = oc.there) := by unfold Hid; rw [HV0.out, if_pos e1, if_neg e2]
                have HC : Hid (pdC xs n zs = 0) := by unfold Hid; rw [HC0.out, e1]
                obtain ⟨ao5, cap5, rfl⟩ := own_form ho5
                have hk5 : w5.cell? ⟨w4.heap.size, 0, none⟩ = some (.slice ao5 xs.length cap5) := by rw [cell_of_row w5 _ 0 _ _ _ hb5]; rfl
                have e4 : ¬ 3000 < (xs.length : Int) := by omega
                obtain ⟨p1, p2, p3⟩ := put_pool hy5 ho5 hB5w hszr (by omega)
                go_wp2
                refine bodyPost_ret (results_row_two rfl _ _ (w.heap.size + 1) 26 _ (0, 0) _ rfl p1 Try.underlying26 rfl Try.sizeP) rfl ⟨_, by rw [HV.out, HC.out]; rfl, ?_, p3⟩
                rw [HL.out]
                exact p2
            · rw [if_neg e1] at he
              rw [if_neg (fun h => e1 h.1)] at ho5
              subst he
              rw [show (if oc.how = 0 ∧ oc.there = -1 ∧ xs.length = 3000 then ocOf 5 else oc) = oc from if_neg (fun h => e1 h.1)] at HL0 HV0 HC0
              have HL : Hid (pdL xs n zs = xs) := by unfold Hid; rw [HL0.out, if_neg (fun h => e1 h.1)]
              have HV : Hid (pdV xs n zs = -1) := by unfold Hid; rw [HV0.out, if_neg e1]
              have HC : Hid (pdC xs n zs = oc.how) := HC0
              have g1 : (oc.how == 0) = false := by simp [e1]
              have g2 : decide (oc.how = 0) = false := by simp [e1]
              go_wp2_with fail
              refine (scopy_any _ xs _ (R.below hB5w) (by omega)).mono ?_
              rintro e w6 ⟨v6, rfl, ho6, hb6⟩
              obtain ⟨ao6, cap6, rfl⟩ := own_form ho6
              have hy6 := (hb6.block _ hsz5).trans hy5
              have hd6 : w6.cell? ⟨w.heap.size + 1, 0, none⟩ = some (.slice none 0 0) := by rw [cell_of_row w6 _ 0 _ _ _ hy6]; rfl
              have hf6 : w6.frozen? ⟨w.heap.size + 1, 0, none⟩ = false := frozen_of_row w6 _ 0 _ _ hy6
              have hB6 := hB5w.trans (hb6.mono hB5w.size)
              obtain ⟨p1, p2, p3⟩ := put_pool hy6 ho6 hB6 hsz5 (by omega)
              clear hb6
              go_wp2
              refine bodyPost_ret (results_row_two rfl _ _ (w.heap.size + 1) 26 _ (0, 0) _ rfl p1 Try.underlying26 rfl Try.sizeP) rfl ⟨_, by rw [HV.out, HC.out]; rfl, ?_, p3⟩
              rw [HL.out]
              exact p2
    · obtain ⟨HL, HV, HC⟩ := bad (by unfold pdOk; rw [hp]; simp [hl])
      have ql : ¬ (zs.length : Int) = primArgsR n := hl
      have q1 : decide ((zs.length : Int) = primArgsR n) = false := by simp [hl]
      have q2 : ((zs.length : Int) == primArgsR n) = false := by simp [hl]
      generalize primArgsR n = pa at ql q1 q2 ⊢
      obtain ⟨p1, p2, p3⟩ := put_pool hy2 (World.ownsRow_nil w2 w2.heap.size 34 5) hB2 hsz2 (by omega)
      go_wp2_with fail
      refine bodyPost_ret (results_row_two rfl _ _ (w.heap.size + 1) 26 _ (0, 0) _ rfl p1 Try.underlying26 rfl Try.sizeP) rfl ⟨_, by rw [HV.out, HC.out]; rfl, ?_, p3⟩
      rw [HL.out]
      exact p2
  · obtain ⟨HL, HV, HC⟩ := bad (by unfold pdOk; simp [hp])
    rw [Bool.not_eq_true] at hp
    rw [hp]
    obtain ⟨p1, p2, p3⟩ := put_pool hy1 (World.ownsRow_nil w1 w1.heap.size 34 5) hB1 hsz1 (by omega)
    go_wp2_with fail
    refine bodyPost_ret (results_row_two rfl _ _ (w.heap.size + 1) 26 _ (0, 0) _ rfl p1 Try.underlying26 rfl Try.sizeP) rfl ⟨_, by rw [HV.out, HC.out]; rfl, ?_, p3⟩
    rw [HL.out]
    exact p2
end Go.Proofs.Ytjigbjnahndpiaa
