/-
  Texts that stood by themselves, laid into one.
-/
import Derived.Test.YtkchakcebdenjaaGreatSCpM
import Derived.Deep.QuietTactic
import Derived.BigQuiet
import Derived.Test.YtkchakcebdenjaaGreatCodeM
import Derived.Deep.LoopGhost
/-
  The contracts of spec's l4Name and l4Var. No condition beyond the compiler's memory.
-/
namespace Go.Proofs.YtkchakcebdenjaaGreat
open Go.RowKit
theorem ndAt_some {xs : List Nd} {v : Nat} {x : Nd} (h : xs[v]? = some x) : ndAt xs v = x := by
  unfold ndAt
  rw [Int.toNat_natCast, List.getD_eq_getElem?_getD, h]
  rfl
theorem own_node {w : World} {B : Nat} {pv : Value} {xs : List Nd} (h : w.ownsRow B 92 5 pv xs.length (ncs xs)) (v : Nat) (x : Nd) (hx : xs[v]? = some x) :
    ∃ g cap, pv = .slice (some ⟨g, 0, none⟩) xs.length cap ∧ g < w.heap.size ∧ w.cell? ⟨g, v * 5, none⟩ = some (.int .i64 x.k) ∧ w.cell? ⟨g, v * 5 + 1, none⟩ = some (.int .i64 x.n) ∧ w.cell? ⟨g, v * 5 + 2, none⟩ = some (.string x.s) ∧ w.cell? ⟨g, v * 5 + 3, none⟩ = some (.int .i64 x.a) ∧ w.cell? ⟨g, v * 5 + 4, none⟩ = some (.int .i64 x.b) := by
  have hv := (List.getElem?_eq_some_iff.1 hx).1
  rcases h.2 with ⟨_, h0⟩ | ⟨g, cap, cur, rfl, hB, hg, _⟩
  · omega
  · have at_ : ∀ j, j < 5 → w.cell? ⟨g, v * 5 + j, none⟩ = x.cs[j]? := fun j hj => by rw [h.cellAt (v * 5 + j) (by omega), ncs_get xs v x hx j hj]
    exact ⟨g, cap, rfl, (Array.getElem?_eq_some_iff.1 hg).1, at_ 0 (by omega), at_ 1 (by omega), at_ 2 (by omega), at_ 3 (by omega), at_ 4 (by omega)⟩
set_option maxRecDepth 100000 in
set_option maxHeartbeats 1600000 in
theorem s4name_any (xs : List Nd) (M d : Nat) (s : CS) (v : Nat) (x : Nd) (w : World) (h : Mk xs M d w s) (hx : xs[v]? = some x) :
    Calls Tryz.prog 60 #[.pointer (some ⟨M, 0, none⟩), .int .i64 v] w fun e w' => e = .returned (.tuple #[.string x.s, .bool (varN xs v)]) ∧ Below w.heap.size w w' := by
  have HV : Hid (varN xs v = (decide (x.k = 4) && !rsv x.s)) := by unfold Hid varN; rw [ndAt_some hx]
  obtain ⟨pv, lv, dv, L, D, h⟩ := h
  have hM := h.lt
  have hv := (List.getElem?_eq_some_iff.1 hx).1
  obtain ⟨g, cap, rfl, hg, d0, d1, d2, d3, d4⟩ := own_node h.pool v x hx
  obtain ⟨c0, _⟩ := h.cells
  have hv' : (v : Int) < xs.length := by omega
  have hgn : g ≠ w.heap.size := by omega
  have hB0 : Below w.heap.size w (w.alloc (.cells #[.int .i64 x.k, .int .i64 x.n, .string x.s, .int .i64 x.a, .int .i64 x.b] 92)) := (Below.refl _ _).alloc (Nat.le_refl _) _
  have e0 : (w.alloc (.cells #[.int .i64 x.k, .int .i64 x.n, .string x.s, .int .i64 x.a, .int .i64 x.b] 92)).cell? ⟨w.heap.size, 0, none⟩ = some (.int .i64 x.k) := cell_of_row _ _ 0 _ _ _ (heap_alloc_new w _)
  have e2 : (w.alloc (.cells #[.int .i64 x.k, .int .i64 x.n, .string x.s, .int .i64 x.a, .int .i64 x.b] 92)).cell? ⟨w.heap.size, 2, none⟩ = some (.string x.s) := cell_of_row _ _ 2 _ _ _ (heap_alloc_new w _)
  go_enter Tryz.func60, Tryz.ntmps60
  by_cases h4 : x.k = 4
  · have HV2 : Hid (varN xs v = !rsv x.s) := by unfold Hid; rw [HV.out, h4]; rfl
    clear HV
    rw [h4] at hB0 e0 d0
    go_wp2_with fail
    go_quiet (first | (go_at_call 93; refine Calls.quiet_of_same (srsv_any x.s _)))
    go_wp2_with fail
    go_ret2
    exact ⟨by rw [HV2.out]; rfl, ⟨hB0.os, hB0.tape, hB0.output, hB0.size, hB0.block⟩⟩
  · have HV2 : Hid (varN xs v = false) := by unfold Hid; rw [HV.out]; simp [h4]
    have hb4 : decide (x.k = 4) = false := by simpa using h4
    have hb5 : (x.k == 4) = false := by simpa using h4
    clear HV h4
    go_wp2_with fail
    go_quiet (fail)
    go_wp2_with fail
    go_ret2
    exact ⟨by rw [HV2.out]; rfl, ⟨hB0.os, hB0.tape, hB0.output, hB0.size, hB0.block⟩⟩
end Go.Proofs.YtkchakcebdenjaaGreat
/-
  The contract of spec's l4Var. No condition beyond that the frames are there.
-/
namespace Go.Proofs.YtkchakcebdenjaaGreat
open Go.RowKit
theorem own_el {w : World} {B n c : Nat} {e : TypeId} {ao : Option Addr} {vs : List Value} (h : w.ownsRow B e 1 (.slice ao n c) n vs) (k : Nat) (hk : k < n) : ∃ g u, ao = some ⟨g, 0, none⟩ ∧ vs[k]? = some u ∧ g < w.heap.size ∧ w.cell? ⟨g, k, none⟩ = some u := by
  have hl := h.1
  rcases h.2 with ⟨e1, h0⟩ | ⟨g, cap, cur, e1, hg, hh, _⟩
  · omega
  · simp only [Value.slice.injEq, true_and] at e1
    obtain ⟨rfl, rfl⟩ := e1
    refine ⟨g, vs[k]'(by omega), rfl, List.getElem?_eq_getElem (by omega), (Array.getElem?_eq_some_iff.1 hh).1, ?_⟩
    rw [h.cellAt k (by omega), List.getElem?_eq_getElem (by omega)]
theorem SRow.cell {w : World} {ao : Option Addr} {n c : Nat} {ss : List ByteArray} (h : SRow w (.slice ao n c) ss) (k : Nat) (t : ByteArray) (hk : ss[k]? = some t) : ∃ g, ao = some ⟨g, 0, none⟩ ∧ g < w.heap.size ∧ w.cell? ⟨g, k, none⟩ = some (.string t) := by
  have hl := (List.getElem?_eq_some_iff.1 hk).1
  obtain ⟨a, c', e⟩ := own_form h
  simp only [Value.slice.injEq] at e
  obtain ⟨rfl, rfl, rfl⟩ := e
  obtain ⟨g, u, h1, h2, h3, h4⟩ := own_el h k hl
  refine ⟨g, h1, h3, ?_⟩
  rw [h4, ← h2, List.getElem?_map, hk]
  rfl
theorem SRow.form {w : World} {v : Value} {ss : List ByteArray} (h : SRow w v ss) : ∃ ao cap, v = .slice ao ss.length cap := own_form h
theorem own_max {w : World} {B n k : Nat} {e : TypeId} {v : Value} {vs : List Value} (h : w.ownsRow B e k v n vs) : n ≤ 9223372036854775807 := by
  rcases h.2 with ⟨_, h0⟩ | ⟨g, cap, cur, e1, hg, hh, h1, h2, _⟩
  · omega
  · unfold maxLen at h2
    omega
theorem idxS_drop (l : List ByteArray) (s t : ByteArray) (j : Nat) (h : l[j]? = some t) : idxS (l.drop j) s j = if t.toList == s.toList then some j else idxS (l.drop (j + 1)) s (j + 1) := by
  obtain ⟨hl, he⟩ := List.getElem?_eq_some_iff.1 h
  rw [List.drop_eq_getElem_cons hl, he, idxS]
theorem findV_drop (env : Env) (s : ByteArray) (k : Nat) (hk : k < env.length) : findV (env.drop k) s k = (match idxS (env.getD k []) s 0 with
    | some i => some (k, i)
    | none => findV (env.drop (k + 1)) s (k + 1)) := by
  rw [List.drop_eq_getElem_cons hk, findV, List.getD_eq_getElem?_getD, List.getElem?_eq_getElem hk]
  rfl
def varV (r : Option (Nat × Nat)) : Value := match r with
  | some (n, i) => .tuple #[.int .i64 n, .int .i64 i]
  | none => .tuple #[.int .i64 (-1), .int .i64 0]
set_option maxRecDepth 100000 in
set_option maxHeartbeats 1600000 in
theorem s4var_any (env : Env) (ev : Value) (s : ByteArray) (w : World) (E : ERow w ev env) :
    Calls Tryz.prog 123 #[ev, .string s] w fun e w' => e = .returned (varV (findV env s 0)) ∧ w' = w := by
  obtain ⟨vs, ho, hvs⟩ := E
  obtain ⟨ae, ce, rfl⟩ := own_form ho
  have hmax := own_max ho
  go_enter Tryz.func123, Tryz.ntmps123
  go_wp2_with fail
  go_loop [6] (fun n => ∃ k : Nat, k ≤ env.length ∧ n = .int .i64 k ∧ Hid (findV env s 0 = findV (env.drop k) s k)) (fun n => env.length - (intOf n).toNat)
  case atStart => exact ⟨0, by omega, rfl, rfl⟩
  case round =>
    obtain ⟨k, hk, rfl, HF⟩ := hrel
    by_cases hlt : k < env.length
    · obtain ⟨g, u, rfl, hu, hg, hc⟩ := own_el ho k hlt
      have hS := (hvs k u hu).2
      have HF2 : Hid (findV env s 0 = (match idxS (env.getD k []) s 0 with
        | some i => some (k, i)
        | none => findV (env.drop (k + 1)) s (k + 1))) := HF.out.trans (findV_drop env s k hlt)
      generalize env.getD k [] = l at hS HF2
      obtain ⟨au, cu, rfl⟩ := hS.form
      have hmaxl := own_max hS
      have hlt' : (k : Int) < env.length := by omega
      clear HF
      go_wp2_with fail
      go_loop [7] (fun i => ∃ j : Nat, j ≤ l.length ∧ i = .int .i64 j ∧ Hid (idxS l s 0 = idxS (l.drop j) s j)) (fun i => l.length - (intOf i).toNat)
      case atStart => exact ⟨0, by omega, rfl, rfl⟩
      case round =>
        obtain ⟨j, hj, rfl, HI⟩ := hrel
        by_cases hjl : j < l.length
        · obtain ⟨t, ht⟩ : ∃ t, l[j]? = some t := ⟨l[j], by simp [hjl]⟩
          obtain ⟨gu, rfl, hgu, hcu⟩ := hS.cell j t ht
          have HD := idxS_drop l s t j ht
          have hjl' : (j : Int) < l.length := by omega
          cases he : (t.toList == s.toList) with
          | true =>
            have HR : Hid (findV env s 0 = some (k, j)) := by unfold Hid; rw [HF2.out, HI.out, HD, he]; rfl
            clear HD
            go_wp2_with fail
            go_ret2
            exact ⟨by rw [HR.out]; rfl, rfl⟩
          | false =>
            have HI2 : Hid (idxS l s 0 = idxS (l.drop (j + 1)) s (j + 1)) := by unfold Hid; rw [HI.out, HD, he]; rfl
            clear HD
            go_wp2_with fail
            go_round
            case rel => exact ⟨j + 1, by omega, by go_num, HI2⟩
            case measure => simp [intOf]; omega
        · have HF3 : Hid (findV env s 0 = findV (env.drop (k + 1)) s (k + 1)) := by
            unfold Hid
            rw [HF2.out, HI.out, List.drop_eq_nil_of_le (by omega)]
            rfl
          have hjl' : ¬ (j : Int) < l.length := by omega
          go_wp2_with fail
          go_round
          case rel => exact ⟨k + 1, by omega, by go_num, HF3⟩
          case measure => simp [intOf]; omega
    · have HR : Hid (findV env s 0 = none) := by unfold Hid; rw [HF.out, List.drop_eq_nil_of_le (by omega)]; rfl
      have hlt' : ¬ (k : Int) < env.length := by omega
      go_wp2_with fail
      go_ret2
      exact ⟨by rw [HR.out]; rfl, rfl⟩
end Go.Proofs.YtkchakcebdenjaaGreat
/-
  Parts of a row of numbers. No condition.
-/
namespace Go.Proofs.YtkchakcebdenjaaGreat
open Go.RowKit
def TRow (w : World) (v : Value) (l : List Int) : Prop :=
  ∃ ao cap, v = .slice ao l.length cap ∧ l.length ≤ cap ∧ cap ≤ 9223372036854775807 ∧ (l ≠ [] → ∃ g o cur fr, ao = some ⟨g, o, none⟩ ∧ w.heap[g]? = some (.cells cur 3 fr) ∧ ∀ i, i < l.length → cur[o + i]? = some (.int .i64 (l.getD i 0)))
theorem TRow.below {w w' : World} {v : Value} {l : List Int} (h : TRow w v l) (hb : Below w.heap.size w w') : TRow w' v l := by
  obtain ⟨ao, cap, rfl, h1, h2, h3⟩ := h
  refine ⟨ao, cap, rfl, h1, h2, fun hne => ?_⟩
  obtain ⟨g, o, cur, fr, e, hg, hc⟩ := h3 hne
  exact ⟨g, o, cur, fr, e, (hb.block g (Array.getElem?_eq_some_iff.1 hg).1).trans hg, hc⟩
theorem TRow.cell {w : World} {ao : Option Addr} {n cap : Nat} {l : List Int} (h : TRow w (.slice ao n cap) l) (k : Nat) (hk : k < l.length) : ∃ g o, ao = some ⟨g, o, none⟩ ∧ g < w.heap.size ∧ w.cell? ⟨g, o + k, none⟩ = some (.int .i64 (l.getD k 0)) := by
  obtain ⟨ao', cap', e, h1, h2, h3⟩ := h
  simp only [Value.slice.injEq] at e
  obtain ⟨rfl, rfl, rfl⟩ := e
  obtain ⟨g, o, cur, fr, e, hg, hc⟩ := h3 (by intro e; rw [e] at hk; simp at hk)
  refine ⟨g, o, e, (Array.getElem?_eq_some_iff.1 hg).1, ?_⟩
  rw [cell_of_row w g (o + k) _ _ _ hg, hc k hk]
theorem TRow.form {w : World} {v : Value} {l : List Int} (h : TRow w v l) : ∃ ao cap, v = .slice ao l.length cap ∧ l.length ≤ cap ∧ cap ≤ 9223372036854775807 := by
  obtain ⟨ao, cap, e, h1, h2, _⟩ := h
  exact ⟨ao, cap, e, h1, h2⟩
theorem TRow.of_own {w : World} {B : Nat} {v : Value} {l : List Int} (h : w.ownsRow B 3 1 v l.length (iv l)) : TRow w v l := by
  rcases h.2 with ⟨rfl, h0⟩ | ⟨g, cap, cur, rfl, hB, hg, h1, h2, h3, h4⟩
  · exact ⟨none, 0, by rw [h0], by omega, by omega, fun hne => absurd (List.length_eq_zero_iff.1 h0) hne⟩
  · refine ⟨_, cap, rfl, h1, by unfold maxLen at h2; exact h2, fun _ => ⟨g, 0, cur, (0, 0), rfl, hg, fun i hi => ?_⟩⟩
    have e : (cur.toList.take (l.length * 1))[i]? = (iv l)[i]? := by rw [h4]
    rw [List.getElem?_take, if_pos (by omega), Array.getElem?_toList] at e
    rw [Nat.zero_add, e]
    simp [iv, List.getD_eq_getElem?_getD, hi]
theorem TRow.drop {w : World} {g o n cap : Nat} {l : List Int} (h : TRow w (.slice (some ⟨g, o, none⟩) n cap) l) (k : Nat) (hk : k ≤ l.length) : TRow w (.slice (some ⟨g, o + k, none⟩) (n - k) (cap - k)) (l.drop k) := by
  obtain ⟨ao', cap', e, h1, h2, h3⟩ := h
  simp only [Value.slice.injEq] at e
  obtain ⟨rfl, rfl, rfl⟩ := e
  refine ⟨_, _, by rw [List.length_drop], by rw [List.length_drop]; omega, by omega, fun hne => ?_⟩
  obtain ⟨g', o', cur, fr, e, hg, hc⟩ := h3 (by rintro rfl; simp at hne)
  simp only [Option.some.injEq, Addr.mk.injEq, and_true] at e
  obtain ⟨rfl, rfl⟩ := e
  refine ⟨g, o + k, cur, fr, rfl, hg, fun i hi => ?_⟩
  rw [List.length_drop] at hi
  rw [show o + k + i = o + (k + i) by omega, hc (k + i) (by omega)]
  simp [List.getD_eq_getElem?_getD, List.getElem?_drop]
end Go.Proofs.YtkchakcebdenjaaGreat
/-
  The contract of spec's l4Names. No condition beyond the compiler's memory, and that the values are there.
-/
namespace Go.Proofs.YtkchakcebdenjaaGreat
open Go.RowKit
theorem Tryz.infoStr : (Tryz.prog.info? 9).map (fun i => (i.zero, i.size, i.bytes)) = some (some (.string ByteArray.empty), 1, 16) := by kernel_rfl
theorem CF.trow {M : Nat} {w w' : World} {v : Value} {l : List Int} {c : Array Value} {fr : Nat × Nat} (h : CF M w w') (hM : w.heap[M]? = some (.cells c 61 fr)) (r : TRow w v l) : TRow w' v l := by
  obtain ⟨ao, cap, rfl, h1, h2, h3⟩ := r
  refine ⟨ao, cap, rfl, h1, h2, fun hne => ?_⟩
  obtain ⟨g, o, cur, fr', e, hg, hc⟩ := h3 hne
  refine ⟨g, o, cur, fr', e, h.keep g cur 3 fr' hg (fun q => ?_) (by decide) (by decide), hc⟩
  subst q
  rw [hM] at hg
  simp at hg
theorem nameL_snoc (xs : List Nd) (l : List Int) (k : Nat) (z : Int) (h : l[k]? = some z) : nameL xs (l.take (k + 1)) = nameL xs (l.take k) ++ [(ndAt xs z).s] := by
  rw [List.take_add_one, h]
  simp [nameL]
theorem allVars_snoc (xs : List Nd) (l : List Int) (k : Nat) (z : Int) (h : l[k]? = some z) : allVars xs (l.take (k + 1)) = (allVars xs (l.take k) && varN xs z) := by
  rw [List.take_add_one, h]
  simp [allVars]
theorem allVars_bad (xs : List Nd) (l : List Int) (k : Nat) (z : Int) (h : l[k]? = some z) (hv : varN xs z = false) : allVars xs l = false := by
  rw [Bool.eq_false_iff]
  intro e
  unfold allVars at e
  rw [List.all_eq_true] at e
  rw [e z (List.mem_of_getElem? h)] at hv
  cases hv
theorem dupB_mono {l : List ByteArray} {k m : Nat} (h : dupB l k = true) (hk : k ≤ m) : dupB l m = true := by
  induction m with
  | zero => rw [show k = 0 by omega] at h; exact h
  | succ m ih =>
    by_cases e : k = m + 1
    · rw [← e]; exact h
    · rw [dupB, ih (by omega), Bool.true_or]
theorem memB_snoc (s : ByteArray) (l : List ByteArray) (k : Nat) (t : ByteArray) (h : l[k]? = some t) : memB s (l.take (k + 1)) = (memB s (l.take k) || (t.toList == s.toList)) := by
  rw [List.take_add_one, h]
  simp [memB]
end Go.Proofs.YtkchakcebdenjaaGreat
