/-
  Marks told cell by cell: what a row holds where so many of its cells are marked, and the exact contracts of markInstrS, heldInstrS, markDefS, heldDefS, markCode, heldCode. No condition.
-/
import Derived.Test.YtkchakcebdenjaaGreatPrRegM
import Derived.Test.YtkchakcebdenjaaGreatStore2M
namespace Go.Proofs.YtkchakcebdenjaaGreat
open Go.RowKit
structure TnS (P : Nat → Prop) (w w' : World) : Prop where
  os : w'.os = w.os
  tape : w'.tape = w.tape
  output : w'.output = w.output
  size : w.heap.size ≤ w'.heap.size
  block : ∀ k, k < w.heap.size → ¬ P k → w'.heap[k]? = w.heap[k]?
theorem TnS.refl (P : Nat → Prop) (w : World) : TnS P w w := ⟨rfl, rfl, rfl, Nat.le_refl _, fun _ _ _ => rfl⟩
theorem TnS.trans {P : Nat → Prop} {a b c : World} (h : TnS P a b) (k : TnS P b c) : TnS P a c :=
  ⟨k.os.trans h.os, k.tape.trans h.tape, k.output.trans h.output, Nat.le_trans h.size k.size, fun i h1 h2 => (k.block i (Nat.lt_of_lt_of_le h1 h.size) h2).trans (h.block i h1 h2)⟩
theorem TnS.mono {P Q : Nat → Prop} {a b : World} (h : TnS P a b) (hp : ∀ k, P k → Q k) : TnS Q a b := ⟨h.os, h.tape, h.output, h.size, fun i h1 h2 => h.block i h1 (fun hpi => h2 (hp i hpi))⟩
theorem TnS.of_grown {a b : World} {o : Option Nat} (h : a.grownBy b o) : TnS (fun k => o = some k) a b := ⟨h.os, h.tape, h.output, h.size, fun i h1 h2 => h.block i h1 (fun e => h2 e.symm)⟩
theorem TnS.of_below {a b : World} (P : Nat → Prop) (h : Below a.heap.size a b) : TnS P a b := ⟨h.os, h.tape, h.output, h.size, fun i h1 _ => h.block i h1⟩
theorem TnS.bel {P : Nat → Prop} {a b w0 : World} {B : Nat} (h : TnS P a b) (h0 : Below B w0 a) (hB : B ≤ a.heap.size) (hp : ∀ k, P k → B ≤ k) : Below B w0 b :=
  ⟨h.os.trans h0.os, h.tape.trans h0.tape, h.output.trans h0.output, Nat.le_trans h0.size h.size, fun k hk => (h.block k (Nat.lt_of_lt_of_le hk hB) (fun hpk => by have := hp k hpk; omega)).trans (h0.block k hk)⟩
theorem TnS.blk {P : Nat → Prop} {a b : World} {j : Nat} {c : Obj} (h : TnS P a b) (hj : a.heap[j]? = some c) (hp : ¬ P j) : b.heap[j]? = some c := (h.block j (Array.getElem?_eq_some_iff.1 hj).1 hp).trans hj
theorem TnS.own {P : Nat → Prop} {a b : World} {B k n : Nat} {e : TypeId} {v : Value} {l : List Value} (h : TnS P a b) (ho : a.ownsRow B e k v n l) (hp : ∀ g, v.ownBlock = some g → ¬ P g) : b.ownsRow B e k v n l := by
  refine ⟨ho.1, ?_⟩
  rcases ho.2 with h0 | ⟨g, cap, cur, rfl, hb, hg, hr⟩
  · exact Or.inl h0
  · exact Or.inr ⟨g, cap, cur, rfl, hb, h.blk hg (hp g rfl), hr⟩
def mpre (m : Nat → Value) (cs : List Value) (c : Nat) : List Value := (List.range c).map m ++ cs.drop c
theorem mpre_zero (m : Nat → Value) (cs : List Value) : mpre m cs 0 = cs := by simp [mpre]
theorem mpre_len (m : Nat → Value) (cs : List Value) (c : Nat) (h : c ≤ cs.length) : (mpre m cs c).length = cs.length := by simp [mpre]; omega
theorem mpre_set (m : Nat → Value) (cs : List Value) (c : Nat) (u : Value) (h : c < cs.length) (e : m c = u) : (mpre m cs c).set c u = mpre m cs (c + 1) := by
  subst e
  unfold mpre
  rw [List.set_append_right _ _ (by simp), List.range_succ, List.map_append, List.append_assoc]
  congr 1
  simp only [List.length_map, List.length_range, Nat.sub_self, List.map_cons, List.map_nil]
  rw [List.drop_eq_getElem_cons h]
  rfl
theorem mpre_full (m : Nat → Value) (cs : List Value) : mpre m cs cs.length = (List.range cs.length).map m := by simp [mpre]
theorem mpre_at (m : Nat → Value) (N c : Nat) (h : c < N) : ((List.range N).map m)[c]? = some (m c) := by simp [h]
def inM (k : Int) (c : Nat) : Value := if c % 4 = 3 then .string (mt (k + (c : Int))) else .int .i64 (k + (c : Int))
def dfM (k : Int) (c : Nat) : Value := if c % 3 = 0 then .string (mt (k + (c : Int))) else .int .i64 (k + (c : Int))
theorem inM0 (k : Int) (j : Nat) : inM k (j * 4) = .int .i64 (k + 4 * (j : Int)) := by
  have e : (j * 4) % 4 ≠ 3 := by omega
  have e2 : k + ((j * 4 : Nat) : Int) = k + 4 * (j : Int) := by omega
  simp only [inM, e, if_false, e2]
theorem inM1 (k : Int) (j : Nat) : inM k (j * 4 + 1) = .int .i64 (k + 4 * (j : Int) + 1) := by
  have e : (j * 4 + 1) % 4 ≠ 3 := by omega
  have e2 : k + ((j * 4 + 1 : Nat) : Int) = k + 4 * (j : Int) + 1 := by omega
  simp only [inM, e, if_false, e2]
theorem inM2 (k : Int) (j : Nat) : inM k (j * 4 + 2) = .int .i64 (k + 4 * (j : Int) + 1 + 1) := by
  have e : (j * 4 + 2) % 4 ≠ 3 := by omega
  have e2 : k + ((j * 4 + 2 : Nat) : Int) = k + 4 * (j : Int) + 1 + 1 := by omega
  simp only [inM, e, if_false, e2]
theorem inM3 (k : Int) (j : Nat) : inM k (j * 4 + 3) = .string (mt (k + 4 * (j : Int) + 1 + 1 + 1)) := by
  have e : (j * 4 + 3) % 4 = 3 := by omega
  have e2 : k + ((j * 4 + 3 : Nat) : Int) = k + 4 * (j : Int) + 1 + 1 + 1 := by omega
  simp only [inM, e, if_true, e2]
theorem dfM0 (k : Int) (j : Nat) : dfM k (j * 3) = .string (mt (k + 3 * (j : Int))) := by
  have e : (j * 3) % 3 = 0 := by omega
  have e2 : k + ((j * 3 : Nat) : Int) = k + 3 * (j : Int) := by omega
  simp only [dfM, e, if_true, e2]
theorem dfM1 (k : Int) (j : Nat) : dfM k (j * 3 + 1) = .int .i64 (k + 3 * (j : Int) + 1) := by
  have e : (j * 3 + 1) % 3 ≠ 0 := by omega
  have e2 : k + ((j * 3 + 1 : Nat) : Int) = k + 3 * (j : Int) + 1 := by omega
  simp only [dfM, e, if_false, e2]
theorem dfM2 (k : Int) (j : Nat) : dfM k (j * 3 + 2) = .int .i64 (k + 3 * (j : Int) + 1 + 1) := by
  have e : (j * 3 + 2) % 3 ≠ 0 := by omega
  have e2 : k + ((j * 3 + 2 : Nat) : Int) = k + 3 * (j : Int) + 1 + 1 := by omega
  simp only [dfM, e, if_false, e2]
set_option maxHeartbeats 1600000 in
theorem markinstrs_x (v : Value) (k : Int) (base n : Nat) (cs : List Value) (w : World) (h : w.ownsRow base 53 4 v n cs) (hl : cs.length = n * 4) (hm : n ≤ 4194304) (hk0 : 0 ≤ k) (hk : k ≤ 2305843009213693952) :
    Calls Tryz.prog 37 #[v, .int .i64 k] w fun e w' => e = .returned (.int .i64 (k + 4 * n)) ∧ w'.ownsRow base 53 4 v n ((List.range (n * 4)).map (inM k)) ∧ w.grownBy w' v.ownBlock := by
  rcases h.2 with ⟨rfl, h0⟩ | ⟨g, cap, cur, rfl, hb, hg, hnc, hcm, hcs, htake⟩
  · subst h0
    obtain rfl : cs = [] := List.eq_nil_of_length_eq_zero (by omega)
    go_enter Tryz.func37, Tryz.ntmps37
    go_wp2
    refine wp_loop_rounds 1 ?_
    rw [rounds_succ]
    go_wp2
    go_ret
    exact ⟨by simp, h, World.grownBy.refl _ _⟩
  · clear hg hcs htake
    go_enter Tryz.func37, Tryz.ntmps37
    go_wp2
    go_loopw [1, 5] (fun q i wr => ∃ (j : Nat), j ≤ n ∧ i = .int .i64 j ∧ q = .int .i64 (k + 4 * (j : Int)) ∧ wr.ownsRow base 53 4 (.slice (some ⟨g, 0, none⟩) n cap) n (mpre (inM k) cs (j * 4)) ∧ w.grownBy wr (some g)) (fun _ i _ => n - (intOf i).toNat)
    case atStart => exact ⟨0, by omega, rfl, by simp, by rw [Nat.zero_mul, mpre_zero]; exact h, World.grownBy.refl _ _⟩
    case round =>
      clear h
      obtain ⟨j, hj, rfl, rfl, hown, hbel⟩ := hrel
      by_cases hlt : j < n
      · have hgs : g < wr.heap.size := (hown.lt g rfl).2
        have hll : (mpre (inM k) cs (j * 4)).length = n * 4 := (mpre_len _ _ _ (by omega)).trans hl
        have hcell : ∀ i, i < 4 → ∃ u, (wr.cell? ⟨g, j * 4 + i, none⟩) = some u := fun i hi => ⟨_, (hown.cellAt (j * 4 + i) (by omega)).trans (List.getElem?_eq_getElem (by omega))⟩
        obtain ⟨u0, c0⟩ := hcell 0 (by omega)
        obtain ⟨u1, c1⟩ := hcell 1 (by omega)
        obtain ⟨u2, c2⟩ := hcell 2 (by omega)
        simp only [Nat.add_zero] at c0
        have f0 := hown.frozenAt (j * 4)
        have f1 := hown.frozenAt (j * 4 + 1)
        have f2 := hown.frozenAt (j * 4 + 2)
        have s0 := hown.stored (j * 4) (.int .i64 (k + 4 * (j : Int)))
        rw [mpre_set _ _ _ _ (by omega) (inM0 k j)] at s0
        have s1 := s0.1.stored (j * 4 + 1) (.int .i64 (k + 4 * (j : Int) + 1))
        rw [mpre_set _ _ _ _ (by omega) (inM1 k j)] at s1
        have s2 := s1.1.stored (j * 4 + 2) (.int .i64 (k + 4 * (j : Int) + 1 + 1))
        rw [mpre_set _ _ _ _ (by omega) (inM2 k j)] at s2
        have hB1 := ((hbel.trans s0.2).trans s1.2).trans s2.2
        clear hcell
        go_wp2_with fail
        refine (marktext_any _ _ (by omega)).mono ?_
        rintro e w2 ⟨rfl, hb2⟩
        have hown2 := own_below s2.1 hb2
        have hB2 := hB1.trans (grown_below2 hb2 (some g))
        obtain ⟨u3, d3⟩ : ∃ u, (w2.cell? ⟨g, j * 4 + 3, none⟩) = some u := ⟨_, (hown2.cellAt (j * 4 + 3) (by omega)).trans (List.getElem?_eq_getElem (by rw [mpre_len _ _ _ (by omega)]; omega))⟩
        have e3 := hown2.frozenAt (j * 4 + 3)
        have s3 := hown2.stored (j * 4 + 3) (.string (mt (k + 4 * (j : Int) + 1 + 1 + 1)))
        rw [mpre_set _ _ _ _ (by omega) (inM3 k j)] at s3
        have hB4 := hB2.trans s3.2
        have S4 := s3.1
        rw [show j * 4 + 3 + 1 = (j + 1) * 4 by omega] at S4
        clear s0 s1 s2 s3 hown hown2 c0 c1 c2 f0 f1 f2 hb2 hB1 hB2 hbel hll
        go_wp2
        go_roundw
        case rel => exact ⟨j + 1, by omega, by go_num, by go_num, S4, hB4⟩
        case measure => simp [intOf]; omega
      · go_wp2
        go_ret
        have : j = n := by omega
        subst this
        rw [← hl, mpre_full, hl] at hown
        exact ⟨rfl, hown, hbel⟩
set_option maxHeartbeats 1600000 in
theorem markdefs_x (v : Value) (k : Int) (base n : Nat) (cs : List Value) (w : World) (h : w.ownsRow base 51 3 v n cs) (hl : cs.length = n * 3) (hm : n ≤ 4194304) (hk0 : 0 ≤ k) (hk : k ≤ 2305843009213693952) :
    Calls Tryz.prog 38 #[v, .int .i64 k] w fun e w' => e = .returned (.int .i64 (k + 3 * n)) ∧ w'.ownsRow base 51 3 v n ((List.range (n * 3)).map (dfM k)) ∧ w.grownBy w' v.ownBlock := by
  rcases h.2 with ⟨rfl, h0⟩ | ⟨g, cap, cur, rfl, hb, hg, hnc, hcm, hcs, htake⟩
  · subst h0
    obtain rfl : cs = [] := List.eq_nil_of_length_eq_zero (by omega)
    go_enter Tryz.func38, Tryz.ntmps38
    go_wp2
    refine wp_loop_rounds 1 ?_
    rw [rounds_succ]
    go_wp2
    go_ret
    exact ⟨by simp, h, World.grownBy.refl _ _⟩
  · clear hg hcs htake
    go_enter Tryz.func38, Tryz.ntmps38
    go_wp2
    go_loopw [1, 5] (fun q i wr => ∃ (j : Nat), j ≤ n ∧ i = .int .i64 j ∧ q = .int .i64 (k + 3 * (j : Int)) ∧ wr.ownsRow base 51 3 (.slice (some ⟨g, 0, none⟩) n cap) n (mpre (dfM k) cs (j * 3)) ∧ w.grownBy wr (some g)) (fun _ i _ => n - (intOf i).toNat)
    case atStart => exact ⟨0, by omega, rfl, by simp, by rw [Nat.zero_mul, mpre_zero]; exact h, World.grownBy.refl _ _⟩
    case round =>
      clear h
      obtain ⟨j, hj, rfl, rfl, hown, hbel⟩ := hrel
      by_cases hlt : j < n
      · have hgs : g < wr.heap.size := (hown.lt g rfl).2
        have hll : (mpre (dfM k) cs (j * 3)).length = n * 3 := (mpre_len _ _ _ (by omega)).trans hl
        go_wp2_with fail
        refine (marktext_any _ _ (by omega)).mono ?_
        rintro e w2 ⟨rfl, hb2⟩
        have hown2 := own_below hown hb2
        have hB2 := hbel.trans (grown_below2 hb2 (some g))
        have hcell : ∀ i, i < 3 → ∃ u, (w2.cell? ⟨g, j * 3 + i, none⟩) = some u := fun i hi => ⟨_, (hown2.cellAt (j * 3 + i) (by omega)).trans (List.getElem?_eq_getElem (by omega))⟩
        obtain ⟨u0, c0⟩ := hcell 0 (by omega)
        obtain ⟨u1, c1⟩ := hcell 1 (by omega)
        obtain ⟨u2, c2⟩ := hcell 2 (by omega)
        simp only [Nat.add_zero] at c0
        have f0 := hown2.frozenAt (j * 3)
        have f1 := hown2.frozenAt (j * 3 + 1)
        have f2 := hown2.frozenAt (j * 3 + 2)
        have s0 := hown2.stored (j * 3) (.string (mt (k + 3 * (j : Int))))
        rw [mpre_set _ _ _ _ (by omega) (dfM0 k j)] at s0
        have s1 := s0.1.stored (j * 3 + 1) (.int .i64 (k + 3 * (j : Int) + 1))
        rw [mpre_set _ _ _ _ (by omega) (dfM1 k j)] at s1
        have s2 := s1.1.stored (j * 3 + 2) (.int .i64 (k + 3 * (j : Int) + 1 + 1))
        rw [mpre_set _ _ _ _ (by omega) (dfM2 k j)] at s2
        have hB4 := ((hB2.trans s0.2).trans s1.2).trans s2.2
        have S4 := s2.1
        rw [show j * 3 + 2 + 1 = (j + 1) * 3 by omega] at S4
        clear hcell s0 s1 s2 hown hown2 hb2 hB2 hbel hll
        go_wp2
        go_roundw
        case rel => exact ⟨j + 1, by omega, by go_num, by go_num, S4, hB4⟩
        case measure => simp [intOf]; omega
      · go_wp2
        go_ret
        have : j = n := by omega
        subst this
        rw [← hl, mpre_full, hl] at hown
        exact ⟨rfl, hown, hbel⟩
set_option maxHeartbeats 1600000 in
theorem heldinstrs_x (v : Value) (k : Int) (base n : Nat) (w : World) (h : w.ownsRow base 53 4 v n ((List.range (n * 4)).map (inM k))) (hm : n ≤ 4194304) (hk0 : 0 ≤ k) (hk : k ≤ 2305843009213693952) :
    Calls Tryz.prog 40 #[v, .int .i64 k] w fun e w' => e = .returned (.int .i64 (k + 4 * n)) ∧ Below w.heap.size w w' := by
  rcases h.2 with ⟨rfl, h0⟩ | ⟨g, cap, cur, rfl, hb, hg, hnc, hcm, hcs, htake⟩
  · subst h0
    go_enter Tryz.func40, Tryz.ntmps40
    go_wp2
    refine wp_loop_rounds 1 ?_
    rw [rounds_succ]
    go_wp2
    go_ret
    exact ⟨by simp, Below.refl _ _⟩
  · clear hg hcs htake hb hnc hcm
    go_enter Tryz.func40, Tryz.ntmps40
    go_wp2
    go_loopw [1, 5] (fun q i wr => ∃ j : Nat, j ≤ n ∧ i = .int .i64 j ∧ q = .int .i64 (k + 4 * (j : Int)) ∧ Below w.heap.size w wr) (fun _ i _ => n - (intOf i).toNat)
    case atStart => exact ⟨0, by omega, rfl, by simp, Below.refl _ _⟩
    case round =>
      obtain ⟨j, hj, rfl, rfl, hbel⟩ := hrel
      by_cases hlt : j < n
      · have hown := own_below h hbel
        have c0 := (hown.cellAt (j * 4) (by omega)).trans ((mpre_at _ _ _ (by omega)).trans (congrArg some (inM0 k j)))
        have c1 := (hown.cellAt (j * 4 + 1) (by omega)).trans ((mpre_at _ _ _ (by omega)).trans (congrArg some (inM1 k j)))
        have c2 := (hown.cellAt (j * 4 + 2) (by omega)).trans ((mpre_at _ _ _ (by omega)).trans (congrArg some (inM2 k j)))
        have m0 : ((k + 4 * (j : Int)) != (k + 4 * (j : Int))) = false := by simp
        have m1 : ((k + 4 * (j : Int) + 1) != (k + 4 * (j : Int) + 1)) = false := by simp
        have m2 : ((k + 4 * (j : Int) + 1 + 1) != (k + 4 * (j : Int) + 1 + 1)) = false := by simp
        have hd3 : ∀ w2, Below w.heap.size w w2 → w2.cell? ⟨g, j * 4 + 3, none⟩ = some (.string (mt (k + 4 * (j : Int) + 1 + 1 + 1))) := fun w2 hB2 => ((own_below h hB2).cellAt (j * 4 + 3) (by omega)).trans ((mpre_at _ _ _ (by omega)).trans (congrArg some (inM3 k j)))
        have d3 := hd3 _ hbel
        clear hown
        go_wp2_with fail
        go_region_with (go_at_call 74; refine (marktext_any _ _ ?_).mono ?_; omega; rintro e w2 ⟨rfl, hb2⟩; have hB2 : Below w.heap.size w w2 := hbel.drew.trans (hb2.mono hbel.size); have d4 := hd3 _ hB2)
        all_goals
          clear c0 c1 c2 m0 m1 m2 d3 hd3
          go_wp2
          go_roundw
          case rel => exact ⟨j + 1, by omega, by go_num, by go_num, hB2⟩
          case measure => simp [intOf]; omega
      · go_wp2
        go_ret
        have : j = n := by omega
        subst this
        exact ⟨rfl, hbel⟩
set_option maxHeartbeats 1600000 in
theorem helddefs_x (v : Value) (k : Int) (base n : Nat) (w : World) (h : w.ownsRow base 51 3 v n ((List.range (n * 3)).map (dfM k))) (hm : n ≤ 4194304) (hk0 : 0 ≤ k) (hk : k ≤ 2305843009213693952) :
    Calls Tryz.prog 41 #[v, .int .i64 k] w fun e w' => e = .returned (.int .i64 (k + 3 * n)) ∧ Below w.heap.size w w' := by
  rcases h.2 with ⟨rfl, h0⟩ | ⟨g, cap, cur, rfl, hb, hg, hnc, hcm, hcs, htake⟩
  · subst h0
    go_enter Tryz.func41, Tryz.ntmps41
    go_wp2
    refine wp_loop_rounds 1 ?_
    rw [rounds_succ]
    go_wp2
    go_ret
    exact ⟨by simp, Below.refl _ _⟩
  · clear hg hcs htake hb hnc hcm
    go_enter Tryz.func41, Tryz.ntmps41
    go_wp2
    go_loopw [1, 5] (fun q i wr => ∃ j : Nat, j ≤ n ∧ i = .int .i64 j ∧ q = .int .i64 (k + 3 * (j : Int)) ∧ Below w.heap.size w wr) (fun _ i _ => n - (intOf i).toNat)
    case atStart => exact ⟨0, by omega, rfl, by simp, Below.refl _ _⟩
    case round =>
      obtain ⟨j, hj, rfl, rfl, hbel⟩ := hrel
      by_cases hlt : j < n
      · have hd3 : ∀ w2, Below w.heap.size w w2 → w2.cell? ⟨g, j * 3, none⟩ = some (.string (mt (k + 3 * (j : Int)))) := fun w2 hB2 => ((own_below h hB2).cellAt (j * 3) (by omega)).trans ((mpre_at _ _ _ (by omega)).trans (congrArg some (dfM0 k j)))
        have d3 := hd3 _ hbel
        have m1 : ((k + 3 * (j : Int) + 1) != (k + 3 * (j : Int) + 1)) = false := by simp
        have m2 : ((k + 3 * (j : Int) + 1 + 1) != (k + 3 * (j : Int) + 1 + 1)) = false := by simp
        go_wp2_with fail
        go_region_with (go_at_call 74; refine (marktext_any _ _ ?_).mono ?_; omega; rintro e w2 ⟨rfl, hb2⟩; have hB2 : Below w.heap.size w w2 := hbel.drew.trans (hb2.mono hbel.size); have d4 := hd3 _ hB2)
        all_goals
          have hown := own_below h hB2
          have c1 := (hown.cellAt (j * 3 + 1) (by omega)).trans ((mpre_at _ _ _ (by omega)).trans (congrArg some (dfM1 k j)))
          have c2 := (hown.cellAt (j * 3 + 2) (by omega)).trans ((mpre_at _ _ _ (by omega)).trans (congrArg some (dfM2 k j)))
          clear hown d3 hd3
          go_wp2
          go_roundw
          case rel => exact ⟨j + 1, by omega, by go_num, by go_num, hB2⟩
          case measure => simp [intOf]; omega
      · go_wp2
        go_ret
        have : j = n := by omega
        subst this
        exact ⟨rfl, hbel⟩
theorem nmarked_ok9 (k : Int) (L : List Nd) (hk : k ≤ 2305843009213693952) (hl : L.length ≤ 4194304) : ∀ y ∈ nmarked k L L.length, y.s.size ≤ maxLen := by
  intro y hy
  simp only [nmarked, List.drop_length, List.append_nil, List.mem_map, List.mem_range] at hy
  obtain ⟨j, hj, rfl⟩ := hy
  exact mt_size _ (by omega)
theorem NRow.mk9 {w : World} {base : Nat} {v : Value} {k : Int} {xs : List Nd} (o : w.ownsRow base 92 5 v xs.length (ncs (nmarked k xs xs.length))) (hm : xs.length ≤ 4194304) (hk : k ≤ 2305843009213693952) : NRow w v (nmarked k xs xs.length) :=
  NRow.of_own (by rw [nmarked_length _ _ _ (Nat.le_refl _)]; exact o) (by rw [nmarked_length _ _ _ (Nat.le_refl _)]; omega) (nmarked_ok9 k xs (by omega) hm)
set_option maxHeartbeats 1600000 in
theorem markcode_x (v1 v2 v3 : Value) (k : Int) (base : Nat) (ns : List Nd) (is : List In) (ds : List Df) (w : World) (h1 : w.ownsRow base 92 5 v1 ns.length (ncs ns)) (h2 : w.ownsRow base 53 4 v2 is.length (incs is)) (h3 : w.ownsRow base 51 3 v3 ds.length (dfcs ds)) (l1 : ns.length ≤ 4194304) (l2 : is.length ≤ 4194304) (l3 : ds.length ≤ 4194304) (hk0 : 0 ≤ k) (hk : k ≤ 1152921504606846976) :
    Calls Tryz.prog 15 #[.agg #[v1, v2, v3], .int .i64 k] w fun e w' => e = .returned (.int .i64 (k + 5 * ns.length + 4 * is.length + 3 * ds.length)) ∧ w'.ownsRow base 92 5 v1 ns.length (ncs (nmarked k ns ns.length)) ∧ w'.ownsRow base 53 4 v2 is.length ((List.range (is.length * 4)).map (inM (k + 5 * ns.length))) ∧ w'.ownsRow base 51 3 v3 ds.length ((List.range (ds.length * 3)).map (dfM (k + 5 * ns.length + 4 * is.length))) ∧ TnS (fun j => v1.ownBlock = some j ∨ v2.ownBlock = some j ∨ v3.ownBlock = some j) w w' := by
  obtain ⟨a1, c1, rfl⟩ := own_form h1
  obtain ⟨a2, c2, rfl⟩ := own_form h2
  obtain ⟨a3, c3, rfl⟩ := own_form h3
  go_enter Tryz.func15, Tryz.ntmps15
  go_wp2_with fail
  have hx0 : (w.alloc (Obj.cells #[.slice a1 ns.length c1, .slice a2 is.length c2, .slice a3 ds.length c3] 33)).heap[w.heap.size]? = some (Obj.cells #[.slice a1 ns.length c1, .slice a2 is.length c2, .slice a3 ds.length c3] 33) := heap_alloc_new _ _
  have hb0 : Below w.heap.size w (w.alloc (Obj.cells #[.slice a1 ns.length c1, .slice a2 is.length c2, .slice a3 ds.length c3] 33)) := (Below.refl _ _).alloc (Nat.le_refl _) _
  have o2 := h2.alloc (Obj.cells #[.slice a1 ns.length c1, .slice a2 is.length c2, .slice a3 ds.length c3] 33)
  have o3 := h3.alloc (Obj.cells #[.slice a1 ns.length c1, .slice a2 is.length c2, .slice a3 ds.length c3] 33)
  have o1 := h1.alloc (Obj.cells #[.slice a1 ns.length c1, .slice a2 is.length c2, .slice a3 ds.length c3] 33)
  refine (markpool_any _ k base ns _ o1 l1 hk0 (by omega)).mono ?_
  rintro e wa ⟨rfl, r1, ga⟩
  have hxa := (ga.block _ (Array.getElem?_eq_some_iff.1 hx0).1 (fun e => own_ne o1 hx0 (by decide) e.symm)).trans hx0
  have p2 := o2.kept ga (own_apart o2 o1 (by decide))
  have p3 := o3.kept ga (own_apart o3 o1 (by decide))
  have T1 := (TnS.of_below (fun j => (Value.slice a1 ns.length c1).ownBlock = some j ∨ (Value.slice a2 is.length c2).ownBlock = some j ∨ (Value.slice a3 ds.length c3).ownBlock = some j) hb0).trans ((TnS.of_grown ga).mono fun _ h => Or.inl h)
  clear o1 o2 o3 ga hx0 h1 h2 h3 hb0
  have e1 : wa.cell? ⟨w.heap.size, 0 + 1, none⟩ = some (.slice a2 is.length c2) := cell_of_row wa _ 1 _ _ _ hxa
  go_wp2_with fail
  refine (markinstrs_x _ (k + 5 * ns.length) base is.length _ _ p2 (incs_length is) l2 (by omega) (by omega)).mono ?_
  rintro e wb ⟨rfl, r2, gb⟩
  have hxb := (gb.block _ (Array.getElem?_eq_some_iff.1 hxa).1 (fun e => own_ne p2 hxa (by decide) e.symm)).trans hxa
  have q3 := p3.kept gb (own_apart p3 p2 (by decide))
  have q1 := r1.kept gb (own_apart r1 p2 (by decide))
  have T2 := T1.trans ((TnS.of_grown gb).mono fun _ h => Or.inr (Or.inl h))
  clear p2 p3 hxa e1 r1 T1 gb
  have e2 : wb.cell? ⟨w.heap.size, 0 + 2, none⟩ = some (.slice a3 ds.length c3) := cell_of_row wb _ 2 _ _ _ hxb
  go_wp2_with fail
  refine (markdefs_x _ (k + 5 * ns.length + 4 * is.length) base ds.length _ _ q3 (dfcs_length ds) l3 (by omega) (by omega)).mono ?_
  rintro e wc ⟨rfl, r3, gc⟩
  have s1 := q1.kept gc (own_apart q1 q3 (by decide))
  have s2 := r2.kept gc (own_apart r2 q3 (by decide))
  have T3 := T2.trans ((TnS.of_grown gc).mono fun _ h => Or.inr (Or.inr h))
  clear q3 hxb e2 q1 r2 gc T2
  go_wp2
  go_ret
  exact ⟨rfl, s1, s2, r3, T3⟩
set_option maxHeartbeats 1600000 in
theorem heldcode_x (v1 v2 v3 : Value) (k : Int) (base : Nat) (ns : List Nd) (is : List In) (ds : List Df) (w : World) (h1 : w.ownsRow base 92 5 v1 ns.length (ncs (nmarked k ns ns.length))) (h2 : w.ownsRow base 53 4 v2 is.length ((List.range (is.length * 4)).map (inM (k + 5 * ns.length)))) (h3 : w.ownsRow base 51 3 v3 ds.length ((List.range (ds.length * 3)).map (dfM (k + 5 * ns.length + 4 * is.length)))) (l1 : ns.length ≤ 4194304) (l2 : is.length ≤ 4194304) (l3 : ds.length ≤ 4194304) (hk0 : 0 ≤ k) (hk : k ≤ 1152921504606846976) :
    Calls Tryz.prog 16 #[.agg #[v1, v2, v3], .int .i64 k] w fun e w' => e = .returned (.int .i64 (k + 5 * ns.length + 4 * is.length + 3 * ds.length)) ∧ Below w.heap.size w w' := by
  obtain ⟨a1, c1, rfl⟩ := own_form h1
  obtain ⟨a2, c2, rfl⟩ := own_form h2
  obtain ⟨a3, c3, rfl⟩ := own_form h3
  have hx0 : (w.alloc (Obj.cells #[.slice a1 ns.length c1, .slice a2 is.length c2, .slice a3 ds.length c3] 33)).heap[w.heap.size]? = some (Obj.cells #[.slice a1 ns.length c1, .slice a2 is.length c2, .slice a3 ds.length c3] 33) := heap_alloc_new _ _
  have hb0 : Below w.heap.size w (w.alloc (Obj.cells #[.slice a1 ns.length c1, .slice a2 is.length c2, .slice a3 ds.length c3] 33)) := (Below.refl _ _).alloc (Nat.le_refl _) _
  go_enter Tryz.func16, Tryz.ntmps16
  go_wp2_with fail
  refine (heldpool_any _ k ns _ (NRow.mk9 (own_below h1 hb0) l1 (by omega)) l1 hk0 (by omega)).mono ?_
  rintro e wa ⟨rfl, hba⟩
  have hxa := blk_bel hx0 hba
  have hBa := hb0.trans (hba.mono hb0.size)
  have p1 : ¬ (k + 5 * (ns.length : Int)) < 0 := by omega
  clear hb0 hx0 hba
  have e1 : wa.cell? ⟨w.heap.size, 0 + 1, none⟩ = some (.slice a2 is.length c2) := cell_of_row wa _ 1 _ _ _ hxa
  go_wp2_with fail
  refine (heldinstrs_x _ (k + 5 * ns.length) base is.length _ (own_below h2 hBa) l2 (by omega) (by omega)).mono ?_
  rintro e wb ⟨rfl, hbb⟩
  have hxb := blk_bel hxa hbb
  have hBb := hBa.trans (hbb.mono hBa.size)
  have p2 : ¬ (k + 5 * (ns.length : Int) + 4 * (is.length : Int)) < 0 := by omega
  clear hBa hxa hbb e1
  have e2 : wb.cell? ⟨w.heap.size, 0 + 2, none⟩ = some (.slice a3 ds.length c3) := cell_of_row wb _ 2 _ _ _ hxb
  go_wp2_with fail
  refine (helddefs_x _ (k + 5 * ns.length + 4 * is.length) base ds.length _ (own_below h3 hBb) l3 (by omega) (by omega)).mono ?_
  rintro e wc ⟨rfl, hbc⟩
  have hBc := hBb.trans (hbc.mono hBb.size)
  have p3 : ¬ (k + 5 * (ns.length : Int) + 4 * (is.length : Int) + 3 * (ds.length : Int)) < 0 := by omega
  clear hBb hxb hbc e2
  go_wp2
  go_ret
  exact ⟨rfl, hBc⟩
end Go.Proofs.YtkchakcebdenjaaGreat
