/-
  The contract of impl.PrimDo: the pool, the value and the code. No condition.
-/
import Derived.Test.YtjigbjnahndpiaaOc4
import Derived.Test.YtjigbjnahndpiaaPrim3
import Derived.Test.YtjigbjnahndpiaaMake
import Derived.Deep.RegionHeld
namespace Go.Proofs.Ytjigbjnahndpiaa
open Go.RowKit

theorem results_row_two {P : Program} {fn : Func} {p u u' : Tmp} {ty : TypeId} (h : fn.results = #[.cell p ty, .tmp u, .tmp u']) (tmps : Array Value) (w : World) (g : Nat) (t : TypeId) (cs : Array Value) (fr : Nat × Nat) (d : TypeDesc)
    (hp : tmps.getD p undef = .pointer (some ⟨g, 0, none⟩)) (hg : w.heap[g]? = some (.cells cs t fr))
    (hu : P.underlying ty = some d) (hd : (match d with | .struct _ | .array _ _ => true | _ => false) = true) (hi : (P.info? ty).map (·.size) = some cs.size) :
    (results fn tmps).run P w = .ok (.tuple #[.agg cs, tmps.getD u undef, tmps.getD u' undef]) w := by
  have hp' : tmps[p]?.getD undef = .pointer (some ⟨g, 0, none⟩) := by simpa using hp
  simp [results, h, hp', asAddr, run_loadVar_row w g t ty cs fr d hg hu hd hi]

theorem intOc_s (x : Int) : (intOc x).nd.s = ByteArray.empty := by unfold intOc; split <;> rfl
theorem numOc_s (n : Int) (a b : Nd) : (numOc n a b).nd.s = ByteArray.empty := by
  unfold numOc
  split
  · rfl
  split
  · exact intOc_s _
  split
  · exact intOc_s _
  split
  · exact intOc_s _
  split <;> rfl
theorem partOc_s (n : Int) (x : Nd) : (partOc n x).nd.s = ByteArray.empty := by unfold partOc; split; rfl; split <;> rfl
theorem innerOc_s (xs : List Nd) (n : Int) (zs : List Int) : (innerOc xs n zs).nd.s = ByteArray.empty := by
  unfold innerOc
  split
  · exact numOc_s _ _ _
  split
  · rfl
  split
  · exact partOc_s _ _
  split
  · rfl
  split
  · rfl
  split <;> rfl
theorem outOc_s (xs : List Nd) (n : Int) (zs : List Int) : (outOc xs n zs).nd.s = ByteArray.empty := by
  unfold outOc
  split
  · rfl
  split
  · rfl
  · exact innerOc_s _ _ _

/-- What there must be for PrimDo to be done at all. -/
def pdOk (xs : List Nd) (n : Int) (zs : List Int) : Bool := poolB xs && decide ((zs.length : Int) = primArgsR n) && allI xs zs
noncomputable def pdL (xs : List Nd) (n : Int) (zs : List Int) : List Nd :=
  if pdOk xs n zs = true then (if (outOc xs n zs).how = 0 ∧ (outOc xs n zs).there = -1 then xs ++ [(outOc xs n zs).nd] else xs) else []
noncomputable def pdV (xs : List Nd) (n : Int) (zs : List Int) : Int :=
  if pdOk xs n zs = true then (if (outOc xs n zs).how = 0 then (if (outOc xs n zs).there = -1 then (xs.length : Int) else (outOc xs n zs).there) else -1) else -1
noncomputable def pdC (xs : List Nd) (n : Int) (zs : List Int) : Int :=
  if pdOk xs n zs = true then (outOc xs n zs).how else 1

/-- What is told of a pool that is answered, with a value and a code. -/
def PdAns (w : World) (L : List Nd) (V C : Int) (e : Ending) (w' : World) : Prop :=
  ∃ v', e = .returned (.tuple #[.agg #[v'], .int .i64 V, .int .i64 C]) ∧ w'.ownsRow w.heap.size 34 5 v' L.length (ncs L) ∧ Below w.heap.size w w'

theorem primArgs_ge {n : Int} {k : Nat} (h : (k : Int) = primArgsR n) : 1 ≤ n ∧ n ≤ 19 := by
  unfold primArgsR at h
  split at h
  · assumption
  · omega

theorem six6 {w w' : World} {a b B : Nat} {u0 u1 u2 u3 u4 u5 : Value} (h : w.cell? ⟨a, 0, none⟩ = some u0 ∧ w.cell? ⟨b, 1, none⟩ = some u1 ∧ w.cell? ⟨b, 2, none⟩ = some u2 ∧ w.cell? ⟨b, 3, none⟩ = some u3 ∧ w.cell? ⟨b, 4, none⟩ = some u4 ∧ w.cell? ⟨b, 5, none⟩ = some u5)
    (hb : Below B w w') (ha : a < B) (hb' : b < B) : w'.cell? ⟨a, 0, none⟩ = some u0 ∧ w'.cell? ⟨b, 1, none⟩ = some u1 ∧ w'.cell? ⟨b, 2, none⟩ = some u2 ∧ w'.cell? ⟨b, 3, none⟩ = some u3 ∧ w'.cell? ⟨b, 4, none⟩ = some u4 ∧ w'.cell? ⟨b, 5, none⟩ = some u5 :=
  ⟨(hb.cell (p := ⟨a, 0, none⟩) ha).trans h.1, (hb.cell (p := ⟨b, 1, none⟩) hb').trans h.2.1, (hb.cell (p := ⟨b, 2, none⟩) hb').trans h.2.2.1, (hb.cell (p := ⟨b, 3, none⟩) hb').trans h.2.2.2.1, (hb.cell (p := ⟨b, 4, none⟩) hb').trans h.2.2.2.2.1, (hb.cell (p := ⟨b, 5, none⟩) hb').trans h.2.2.2.2.2⟩
theorem cell_set_ne {w : World} {a c i j : Nat} {v u : Value} (h : w.cell? ⟨a, i, none⟩ = some u) (hne : a ≠ c) : (w.setCell ⟨c, j, none⟩ v).cell? ⟨a, i, none⟩ = some u := by
  rw [World.cell?_of_block (heap_setCell_other w ⟨c, j, none⟩ a v hne)]
  exact h
theorem six6_set {w : World} {a b c j : Nat} {v u0 u1 u2 u3 u4 u5 : Value} (h : w.cell? ⟨a, 0, none⟩ = some u0 ∧ w.cell? ⟨b, 1, none⟩ = some u1 ∧ w.cell? ⟨b, 2, none⟩ = some u2 ∧ w.cell? ⟨b, 3, none⟩ = some u3 ∧ w.cell? ⟨b, 4, none⟩ = some u4 ∧ w.cell? ⟨b, 5, none⟩ = some u5)
    (ha : a ≠ c) (hb : b ≠ c) : (w.setCell ⟨c, j, none⟩ v).cell? ⟨a, 0, none⟩ = some u0 ∧ (w.setCell ⟨c, j, none⟩ v).cell? ⟨b, 1, none⟩ = some u1 ∧ (w.setCell ⟨c, j, none⟩ v).cell? ⟨b, 2, none⟩ = some u2 ∧ (w.setCell ⟨c, j, none⟩ v).cell? ⟨b, 3, none⟩ = some u3 ∧ (w.setCell ⟨c, j, none⟩ v).cell? ⟨b, 4, none⟩ = some u4 ∧ (w.setCell ⟨c, j, none⟩ v).cell? ⟨b, 5, none⟩ = some u5 :=
  ⟨cell_set_ne h.1 ha, cell_set_ne h.2.1 hb, cell_set_ne h.2.2.1 hb, cell_set_ne h.2.2.2.1 hb, cell_set_ne h.2.2.2.2.1 hb, cell_set_ne h.2.2.2.2.2 hb⟩

set_option maxRecDepth 100000 in
set_option maxHeartbeats 6400000 in
theorem iprimdo_any (v vl : Value) (xs : List Nd) (zs : List Int) (n : Int) (w : World) (R : NRow w v xs) (L : IRow w vl zs) :
    Calls Try.prog 9 #[.agg #[v], .int .i64 n, vl] w fun e w' => PdAns w (pdL xs n zs) (pdV xs n zs) (pdC xs n zs) e w' := by
  have R' := R
  have L' := L
  obtain ⟨ao, cap, rfl, hcap, hm, hz, _⟩ := R'
  obtain ⟨al, cl, rfl, hcl, hlm, _⟩ := L'
  go_enter Try.func9, Try.ntmps9
  go_wp2_with fail
  have hB0 : Below w.heap.size w ((w.alloc (Obj.cells #[.slice ao xs.length cap] 26)).alloc (Obj.cells #[.slice none 0 0] 26)) := below2 _ _ _
  refine (ipool_any _ xs _ (R.below hB0)).mono ?_
  rintro e w1 ⟨rfl, hb1⟩
  have hx1 : w1.heap[w.heap.size]? = some (.cells #[.slice ao xs.length cap] 26 (0, 0)) := (hb1.block _ (by simp; omega)).trans (old2 _ _ _)
  have hy1 : w1.heap[w.heap.size + 1]? = some (.cells #[.slice none 0 0] 26 (0, 0)) := (hb1.block _ (by simp)).trans (heap_alloc2_new _ _ _)
  have hB1 := hB0.trans (hb1.mono hB0.size)
  have hsz1 := (Array.getElem?_eq_some_iff.1 hy1).1
  clear hB0 hb1
  have hc1 : w1.cell? ⟨w.heap.size, 0, none⟩ = some (.slice ao xs.length cap) := by rw [cell_of_row w1 _ 0 _ _ _ hx1]; rfl
  have hd1 : w1.cell? ⟨w.heap.size + 1, 0, none⟩ = some (.slice none 0 0) := by rw [cell_of_row w1 _ 0 _ _ _ hy1]; rfl
  have hf1 : w1.frozen? ⟨w.heap.size + 1, 0, none⟩ = false := frozen_of_row w1 _ 0 _ _ hy1
  have bad : ∀ (h : pdOk xs n zs = false), Hid (pdL xs n zs = []) ∧ Hid (pdV xs n zs = -1) ∧ Hid (pdC xs n zs = 1) := fun h => by
    unfold Hid pdL pdV pdC; rw [h]; simp
  by_cases hp : poolB xs = true
  · rw [hp]
    go_wp2_with fail
    refine (iprimargs_any _ n).mono ?_
    rintro e w2 ⟨rfl, hb2⟩
    have hx2 := (hb2.block _ (by omega)).trans hx1
    have hy2 := (hb2.block _ hsz1).trans hy1
    have hB2 := hB1.trans (hb2.mono hB1.size)
    have hsz2 := (Array.getElem?_eq_some_iff.1 hy2).1
    clear hB1 hc1 hd1 hf1 hx1 hy1 hb2 hsz1
    have hc1 : w2.cell? ⟨w.heap.size, 0, none⟩ = some (.slice ao xs.length cap) := by rw [cell_of_row w2 _ 0 _ _ _ hx2]; rfl
    have hd1 : w2.cell? ⟨w.heap.size + 1, 0, none⟩ = some (.slice none 0 0) := by rw [cell_of_row w2 _ 0 _ _ _ hy2]; rfl
    have hf1 : w2.frozen? ⟨w.heap.size + 1, 0, none⟩ = false := frozen_of_row w2 _ 0 _ _ hy2
    by_cases hl : (zs.length : Int) = primArgsR n
    · obtain ⟨h1, h19⟩ := primArgs_ge hl
      have hl' := hl
      generalize primArgsR n = pa at hl' ⊢
      subst hl'
      go_wp2_with fail
      refine (hasall_any _ _ xs zs _ (R.below hB2) (L.below hB2)).mono ?_
      rintro e w3 ⟨rfl, hb3⟩
      have hx3 := (hb3.block _ (by omega)).trans hx2
      have hy3 := (hb3.block _ hsz2).trans hy2
      have hB3 := hB2.trans (hb3.mono hB2.size)
      have hsz3 := (Array.getElem?_eq_some_iff.1 hy3).1
      clear hB2 hc1 hd1 hf1 hx2 hy2 hb3 hsz2
      have hc1 : w3.cell? ⟨w.heap.size, 0, none⟩ = some (.slice ao xs.length cap) := by rw [cell_of_row w3 _ 0 _ _ _ hx3]; rfl
      have hd1 : w3.cell? ⟨w.heap.size + 1, 0, none⟩ = some (.slice none 0 0) := by rw [cell_of_row w3 _ 0 _ _ _ hy3]; rfl
      have hf1 : w3.frozen? ⟨w.heap.size + 1, 0, none⟩ = false := frozen_of_row w3 _ 0 _ _ hy3
      by_cases hal : allI xs zs = true
      · have hok : pdOk xs n zs = true := by unfold pdOk; rw [hp, hal]; simp [hl]
        have HL : Hid (pdL xs n zs = if (outOc xs n zs).how = 0 ∧ (outOc xs n zs).there = -1 then xs ++ [(outOc xs n zs).nd] else xs) := by unfold Hid pdL; rw [if_pos hok]
        have HV : Hid (pdV xs n zs = if (outOc xs n zs).how = 0 then (if (outOc xs n zs).there = -1 then (xs.length : Int) else (outOc xs n zs).there) else -1) := by unfold Hid pdV; rw [if_pos hok]
        have HC : Hid (pdC xs n zs = (outOc xs n zs).how) := by unfold Hid pdC; rw [if_pos hok]
        have hos := outOc_s xs n zs
        have hlen : xs.length ≤ 3000 := by simp only [poolB, Bool.and_eq_true, decide_eq_true_eq] at hp; exact hp.1
        rw [hal]
        go_wp2_with fail
        refine (ioutof_any _ _ xs zs n _ (R.below hB3) (L.below hB3) hp hal h1 hl).mono ?_
        rintro e w4 ⟨rfl, hb4⟩
        generalize outOc xs n zs = oc at HL HV HC hos ⊢
        have hx4 := (hb4.block _ (by omega)).trans hx3
        have hy4 := (hb4.block _ hsz3).trans hy3
        have hB4 := hB3.trans (hb4.mono hB3.size)
        have hsz4 := (Array.getElem?_eq_some_iff.1 hy4).1
        clear hB3 hc1 hd1 hf1 hx3 hy3 hb4 hsz3 bad
        go_wp2_with (refine wpList_store_own rfl 61 _ _ rfl w4.heap.size oc.cs rfl rfl 61 _ (heap_alloc_new _ _) Try.sizeOc rfl (Oc.one _) ?_)
        intro w5 hh5 hb5 hs5
        have hb5' : Below w4.heap.size w4 w5 := ((Below.refl _ _).alloc (Nat.le_refl _) _).trans hb5
        have hx5 := (hb5'.block _ (by omega)).trans hx4
        have hy5 := (hb5'.block _ hsz4).trans hy4
        have hB5 := hB4.trans (hb5'.mono hB4.size)
        have hsz5 := (Array.getElem?_eq_some_iff.1 hy5).1
        have hso := (Array.getElem?_eq_some_iff.1 hh5).1
        have R5 := R.below hB5
        clear hB4 hx4 hy4 hb5 hb5' hs5
        have hc1 : w5.cell? ⟨w.heap.size, 0, none⟩ = some (.slice ao xs.length cap) := by rw [cell_of_row w5 _ 0 _ _ _ hx5]; rfl
        have c0 : w5.cell? ⟨w4.heap.size, 0, none⟩ = some (.int .i64 oc.how) := by rw [cell_of_row w5 _ 0 _ _ _ hh5]; rfl
        have c6 : w5.cell? ⟨w4.heap.size, 0 + 6, none⟩ = some (.int .i64 oc.there) := by rw [cell_of_row w5 _ 6 _ _ _ hh5]; rfl
        have c6' : w5.cell? ⟨w4.heap.size, 6, none⟩ = some (.int .i64 oc.there) := c6
        by_cases e1 : oc.how = 0
        · by_cases e2 : oc.there = -1
          · replace HL : Hid (pdL xs n zs = xs ++ [oc.nd]) := by unfold Hid; rw [HL.out, if_pos ⟨e1, e2⟩]
            replace HV : Hid (pdV xs n zs = xs.length) := by unfold Hid; rw [HV.out, if_pos e1, if_pos e2]
            replace HC : Hid (pdC xs n zs = 0) := by unfold Hid; rw [HC.out, e1]
            rw [e1] at c0
            rw [e2] at c6 c6'
            have hns : oc.nd.s.size ≤ maxLen := by rw [hos]; decide
            clear hos
            have n0 : w5.cell? ⟨w4.heap.size, 1, none⟩ = some (.int .i64 oc.nd.k) := by rw [cell_of_row w5 _ 1 _ _ _ hh5]; rfl
            have n1 : w5.cell? ⟨w4.heap.size, 2, none⟩ = some (.int .i64 oc.nd.n) := by rw [cell_of_row w5 _ 2 _ _ _ hh5]; rfl
            have n2 : w5.cell? ⟨w4.heap.size, 3, none⟩ = some (.string oc.nd.s) := by rw [cell_of_row w5 _ 3 _ _ _ hh5]; rfl
            have n3 : w5.cell? ⟨w4.heap.size, 4, none⟩ = some (.int .i64 oc.nd.a) := by rw [cell_of_row w5 _ 4 _ _ _ hh5]; rfl
            have n4 : w5.cell? ⟨w4.heap.size, 5, none⟩ = some (.int .i64 oc.nd.b) := by rw [cell_of_row w5 _ 5 _ _ _ hh5]; rfl
            have hlt1 : w.heap.size < w5.heap.size := by omega
            have hne1 : ¬ w.heap.size = w5.heap.size := by omega
            have hne2 : ¬ w4.heap.size = w5.heap.size := by omega
            have sS := (⟨hc1, n0, n1, n2, n3, n4⟩ : w5.cell? ⟨w.heap.size, 0, none⟩ = some (.slice ao xs.length cap) ∧ w5.cell? ⟨w4.heap.size, 1, none⟩ = some (.int .i64 oc.nd.k) ∧ w5.cell? ⟨w4.heap.size, 2, none⟩ = some (.int .i64 oc.nd.n) ∧ w5.cell? ⟨w4.heap.size, 3, none⟩ = some (.string oc.nd.s) ∧ w5.cell? ⟨w4.heap.size, 4, none⟩ = some (.int .i64 oc.nd.a) ∧ w5.cell? ⟨w4.heap.size, 5, none⟩ = some (.int .i64 oc.nd.b))
            go_wp2_with fail
            clear hc1 n0 n1 n2 n3 n4 c0 c6 c6'
            go_region_held (fun w' => w'.cell? ⟨w.heap.size, 0, none⟩ = some (.slice ao xs.length cap) ∧ w'.cell? ⟨w4.heap.size, 1, none⟩ = some (.int .i64 oc.nd.k) ∧ w'.cell? ⟨w4.heap.size, 2, none⟩ = some (.int .i64 oc.nd.n) ∧ w'.cell? ⟨w4.heap.size, 3, none⟩ = some (.string oc.nd.s) ∧ w'.cell? ⟨w4.heap.size, 4, none⟩ = some (.int .i64 oc.nd.a) ∧ w'.cell? ⟨w4.heap.size, 5, none⟩ = some (.int .i64 oc.nd.b)) (first | exact s6 | exact six6_set s6 (by omega) (by omega) | go_keep) ((go_at_call 33; refine (with_any _ _ xs [oc.nd] _ ?_ ?_ (by simp; omega)).mono ?_; exact R5.below ((Below.refl _ _).alloc (Nat.le_refl _) _).drew; exact (NRow.lit1 w5 oc.nd hns).below (Below.refl _ _).drew; rintro e w6 ⟨v6, rfl, ho6, hb6⟩; generalize xs ++ [oc.nd] = LA at ho6 HL; obtain ⟨ao6, cap6, rfl⟩ := own_form ho6; have hb6' : Below w5.heap.size w5 w6 := ((Below.refl _ _).alloc (Nat.le_refl _) _).drew.trans (hb6.mono (by simp)); have hy6 := (hb6'.block _ hsz5).trans hy5; have hd6 : w6.cell? ⟨w.heap.size + 1, 0, none⟩ = some (.slice none 0 0) := cell_of_row w6 _ 0 _ _ _ hy6; have hf6 : w6.frozen? ⟨w.heap.size + 1, 0, none⟩ = false := frozen_of_row w6 _ 0 _ _ hy6; have s6 := six6 sS hb6' hlt1 hso))
            all_goals
              have hB6 := hB5.trans (hb6'.mono hB5.size)
              have ho6' := own_mono (B' := w5.heap.size) ho6 (by first | exact hb6z | simp)
              obtain ⟨p1, p2, p3⟩ := put_pool hy6 ho6' hB6 hsz5 (by omega)
              clear hd6 hf6 s6
              go_wp2
              refine bodyPost_ret (results_row_two rfl _ _ (w.heap.size + 1) 26 _ (0, 0) _ rfl p1 Try.underlying26 rfl Try.sizeP) rfl ⟨_, by rw [HV.out, HC.out]; rfl, ?_, p3⟩
              rw [HL.out]
              exact p2
          · replace HL : Hid (pdL xs n zs = xs) := by unfold Hid; rw [HL.out, if_neg (fun h => e2 h.2)]
            replace HV : Hid (pdV xs n zs = oc.there) := by unfold Hid; rw [HV.out, if_pos e1, if_neg e2]
            replace HC : Hid (pdC xs n zs = 0) := by unfold Hid; rw [HC.out, e1]
            rw [e1] at c0
            have q1 : decide (oc.there = -1) = false := by simp [e2]
            have q2 : (oc.there == -1) = false := by simp [e2]
            go_wp2_with fail
            go_region_with (go_at_call 33; refine (with_any _ _ xs [] _ ?_ ?_ (by simp; omega)).mono ?_; exact R5.below (Below.refl _ _).drew; exact NRow.nil0 _; rintro e w6 ⟨v6, rfl, ho6, hb6⟩; rw [List.append_nil] at ho6; obtain ⟨ao6, cap6, rfl⟩ := own_form ho6; have hb6' : Below w5.heap.size w5 w6 := (Below.refl _ _).drew.trans hb6; have hy6 := (hb6'.block _ hsz5).trans hy5; have hd6 : w6.cell? ⟨w.heap.size + 1, 0, none⟩ = some (.slice none 0 0) := cell_of_row w6 _ 0 _ _ _ hy6; have hf6 : w6.frozen? ⟨w.heap.size + 1, 0, none⟩ = false := frozen_of_row w6 _ 0 _ _ hy6; have d0 := (hb6'.cell (p := ⟨w4.heap.size, 0, none⟩) hso).trans c0; have d6 := (hb6'.cell (p := ⟨w4.heap.size, 6, none⟩) hso).trans c6'; have dp := (hb6'.cell (p := ⟨w.heap.size, 0, none⟩) (show w.heap.size < w5.heap.size by omega)).trans hc1)
            all_goals
              have hB6 := hB5.trans (hb6'.mono hB5.size)
              have ho6' := own_mono (B' := w5.heap.size) ho6 (by first | exact hb6z | simp)
              obtain ⟨p1, p2, p3⟩ := put_pool hy6 ho6' hB6 hsz5 (by omega)
              clear hd6 hf6 d0 d6 dp
              go_wp2
              refine bodyPost_ret (results_row_two rfl _ _ (w.heap.size + 1) 26 _ (0, 0) _ rfl p1 Try.underlying26 rfl Try.sizeP) rfl ⟨_, by rw [HV.out, HC.out]; rfl, ?_, p3⟩
              rw [HL.out]
              exact p2
        · replace HL : Hid (pdL xs n zs = xs) := by unfold Hid; rw [HL.out, if_neg (fun h => e1 h.1)]
          replace HV : Hid (pdV xs n zs = -1) := by unfold Hid; rw [HV.out, if_neg e1]
          have q1 : decide (oc.how = 0) = false := by simp [e1]
          have q2 : (oc.how == 0) = false := by simp [e1]
          go_wp2_with fail
          go_region_with (go_at_call 33; refine (with_any _ _ xs [] _ ?_ ?_ (by simp; omega)).mono ?_; exact R5.below (Below.refl _ _).drew; exact NRow.nil0 _; rintro e w6 ⟨v6, rfl, ho6, hb6⟩; rw [List.append_nil] at ho6; obtain ⟨ao6, cap6, rfl⟩ := own_form ho6; have hb6' : Below w5.heap.size w5 w6 := (Below.refl _ _).drew.trans hb6; have hy6 := (hb6'.block _ hsz5).trans hy5; have hd6 : w6.cell? ⟨w.heap.size + 1, 0, none⟩ = some (.slice none 0 0) := cell_of_row w6 _ 0 _ _ _ hy6; have hf6 : w6.frozen? ⟨w.heap.size + 1, 0, none⟩ = false := frozen_of_row w6 _ 0 _ _ hy6; have d0 := (hb6'.cell (p := ⟨w4.heap.size, 0, none⟩) hso).trans c0; have d6 := (hb6'.cell (p := ⟨w4.heap.size, 6, none⟩) hso).trans c6'; have dp := (hb6'.cell (p := ⟨w.heap.size, 0, none⟩) (show w.heap.size < w5.heap.size by omega)).trans hc1)
          all_goals
            have hB6 := hB5.trans (hb6'.mono hB5.size)
            have ho6' := own_mono (B' := w5.heap.size) ho6 (by first | exact hb6z | simp)
            obtain ⟨p1, p2, p3⟩ := put_pool hy6 ho6' hB6 hsz5 (by omega)
            clear hd6 hf6 d0 d6 dp
            go_wp2
            refine bodyPost_ret (results_row_two rfl _ _ (w.heap.size + 1) 26 _ (0, 0) _ rfl p1 Try.underlying26 rfl Try.sizeP) rfl ⟨_, by rw [HV.out, HC.out]; rfl, ?_, p3⟩
            rw [HL.out]
            exact p2
      · obtain ⟨HL, HV, HC⟩ := bad (by unfold pdOk; rw [hp]; simp [hal])
        rw [Bool.not_eq_true] at hal
        rw [hal]
        obtain ⟨p1, p2, p3⟩ := put_pool hy3 (World.ownsRow_nil w3 w3.heap.size 34 5) hB3 hsz3 (by omega)
        go_wp2_with fail
        refine bodyPost_ret (results_row_two rfl _ _ (w.heap.size + 1) 26 _ (0, 0) _ rfl p1 Try.underlying26 rfl Try.sizeP) rfl ⟨_, by rw [HV.out, HC.out]; rfl, ?_, p3⟩
        rw [HL.out]
        exact p2
    · obtain ⟨HL, HV, HC⟩ := bad (by unfold pdOk; rw [hp]; simp [hl])
      have ql : ¬ (zs.length : Int) = primArgsR n := hl
      have q1 : decide ((zs.length : Int) = primArgsR n) = false := by simp [hl]
      have q2 : ((zs.length : Int) == primArgsR n) = false := by simp [hl]
      generalize primArgsR n = pa at ql q1 q2 ⊢
      obtain ⟨p1, p2, p3⟩ := put_pool hy2 (World.ownsRow_nil w2 w2.heap.size 34 5) hB2 hsz2 (by omega)
      go_wp2_with fail
      refine bodyPost_ret (results_row_two rfl _ _ (w.heap.size + 1) 26 _ (0, 0) _ rfl p1 Try.underlying26 rfl Try.sizeP) rfl ⟨_, by rw [HV.out, HC.out]; rfl, ?_, p3⟩
      rw [HL.out]
      exact p2
  · obtain ⟨HL, HV, HC⟩ := bad (by unfold pdOk; simp [hp])
    rw [Bool.not_eq_true] at hp
    rw [hp]
    obtain ⟨p1, p2, p3⟩ := put_pool hy1 (World.ownsRow_nil w1 w1.heap.size 34 5) hB1 hsz1 (by omega)
    go_wp2_with fail
    refine bodyPost_ret (results_row_two rfl _ _ (w.heap.size + 1) 26 _ (0, 0) _ rfl p1 Try.underlying26 rfl Try.sizeP) rfl ⟨_, by rw [HV.out, HC.out]; rfl, ?_, p3⟩
    rw [HL.out]
    exact p2
end Go.Proofs.Ytjigbjnahndpiaa
