/-
  The contracts of PrimOf and PrimArgs, both sides. No condition.
-/
import Derived.Test.YtjigbjnahndpiaaPrim
import Derived.Test.YtjigbjnahndpiaaName
namespace Go.Proofs.Ytjigbjnahndpiaa
open Go.RowKit

/-- The number of a name that is built in, counted from i on; 0 when it is none. -/
def pmIdx : List (ByteArray × Int) → ByteArray → Nat → Int
  | [], _, _ => 0
  | d :: ds, s, i => if d.1.toList == s.toList then i + 1 else pmIdx ds s (i + 1)
def primOfR (s : ByteArray) : Int := pmIdx prims s 0
/-- How many values number n takes; -1 when there is no such number. -/
def primArgsR (n : Int) : Int := if 1 ≤ n ∧ n ≤ 19 then (prims.getD (n - 1).toNat default).2 else -1

theorem pmIdx_hit (ds : List (ByteArray × Int)) (s : ByteArray) (i : Nat) (d : ByteArray × Int) (h : ds[i]? = some d) (e : (d.1.toList == s.toList) = true) : pmIdx (ds.drop i) s i = i + 1 := by
  obtain ⟨hl, he⟩ := List.getElem?_eq_some_iff.1 h
  rw [List.drop_eq_getElem_cons hl, he, pmIdx, if_pos e]
theorem pmIdx_miss (ds : List (ByteArray × Int)) (s : ByteArray) (i : Nat) (d : ByteArray × Int) (h : ds[i]? = some d) (e : (d.1.toList == s.toList) = false) : pmIdx (ds.drop i) s i = pmIdx (ds.drop (i + 1)) s (i + 1) := by
  obtain ⟨hl, he⟩ := List.getElem?_eq_some_iff.1 h
  rw [List.drop_eq_getElem_cons hl, he, pmIdx, if_neg (by rw [e]; simp)]
theorem pmIdx_end (ds : List (ByteArray × Int)) (s : ByteArray) (i : Nat) (h : ds.length ≤ i) : pmIdx (ds.drop i) s i = 0 := by
  rw [List.drop_eq_nil_of_le h, pmIdx]

/-- The three cells of number k + 1. -/
def pmC (s : ByteArray) (t : Int) (k : Nat) : Array Value := #[.string s, .int .i64 (k + 1), .int .i64 t]

theorem prims_at (k : Nat) (h : k < 19) : ∃ s t, prims[k]? = some (s, t) ∧ primV.extract (k * 3) (k * 3 + 3) = pmC s t k ∧ s.size ≤ 6 ∧ 0 ≤ t ∧ t ≤ 2 := by
  have : k = 0 ∨ k = 1 ∨ k = 2 ∨ k = 3 ∨ k = 4 ∨ k = 5 ∨ k = 6 ∨ k = 7 ∨ k = 8 ∨ k = 9 ∨ k = 10 ∨ k = 11 ∨ k = 12 ∨ k = 13 ∨ k = 14 ∨ k = 15 ∨ k = 16 ∨ k = 17 ∨ k = 18 := by omega
  rcases this with rfl | rfl | rfl | rfl | rfl | rfl | rfl | rfl | rfl | rfl | rfl | rfl | rfl | rfl | rfl | rfl | rfl | rfl | rfl <;>
    exact ⟨_, _, rfl, rfl, by decide, by decide, by decide⟩

theorem Try.sizePm : (Try.prog.info? 72).map (·.size) = some 3 := by kernel_rfl
theorem run_index_prim (k : Nat) (hk : k < 19) (s : ByteArray) (t : Int) (hs : primV.extract (k * 3) (k * 3 + 3) = pmC s t k) (w : World) :
    (Instr.index 73 (.agg primV) (.int .i64 k)).run Try.prog w = .ok (.agg (pmC s t k)) w := by
  have h2 : (sizeOf 72).run Try.prog w = .ok 3 w := by
    have hi := Try.sizePm
    cases hq : Try.prog.info? 72 with
    | none => simp [hq] at hi
    | some i =>
      simp only [hq, Option.map_some, Option.some.injEq] at hi
      simp [sizeOf, typeInfo, hq, hi]
  simp [Instr.index, asIntOf, run_underlying Try.underlying73, part, h2, hk, hs]

theorem wpList_index_of {P : Program} {ops : Array Oper} {rest : List Oper} {o : Oper} {a : Act} {w : World} {Q : Exit → Act → World → Prop} (hgd : o.guard = none) (t : TypeId) (x y : Operand) (ho : o.op = .index t x y)
    (v i r : Value) (hx : a.eval x = v) (hy : a.eval y = i) (hr : (Instr.index t v i).run P w = .ok r w)
    (h : wpList P ops Q rest (a.put o.dst r) w) : wpList P ops Q (o :: rest) a w := by
  refine wpList_plain hgd fun K hK => ?_
  unfold Oper.wp
  simp [execOp, ho, hx, hy, hr, Result.andThen]
  exact hK _ _ h

theorem pmC_one (s : ByteArray) (t : Int) (k : Nat) : (pmC s t k).all (·.oneCell') = true := by simp [pmC, Value.oneCell']

set_option maxRecDepth 100000 in
set_option maxHeartbeats 1600000 in
theorem iprimof_any (w : World) (s : ByteArray) : Calls Try.prog 13 #[.string s] w fun e w' => e = .returned (.int .i64 (primOfR s)) ∧ Below w.heap.size w w' := by
  go_enter Try.func13, Try.ntmps13
  go_wp2_with fail
  refine (builtin_any _).mono ?_
  rintro e w1 ⟨rfl, hB1⟩
  have HV : ∃ pv, Hid (pv = primV) := ⟨_, rfl⟩
  obtain ⟨pv, HV⟩ := HV
  rw [← HV.out]
  go_wp2_with fail
  go_loopw [6] (fun i wr => ∃ k : Nat, k ≤ 19 ∧ i = .int .i64 k ∧ Hid (primOfR s = pmIdx (prims.drop k) s k) ∧ Below w1.heap.size w1 wr) (fun i _ => 19 - (intOf i).toNat)
  case atStart => exact ⟨0, by omega, rfl, rfl, Below.refl _ _⟩
  case round =>
    obtain ⟨k, hk, rfl, HK, hb⟩ := hrel
    have hB := hB1.trans (hb.mono hB1.size)
    by_cases hlt : k < 19
    · obtain ⟨nm, t, hx, hs, _, _, _⟩ := prims_at k hlt
      have HS : Hid (primV.extract (k * 3) (k * 3 + 3) = pmC nm t k) := hs
      clear hs
      cases e : (nm.toList == s.toList) with
      | true =>
        have HR : Hid (primOfR s = k + 1) := by unfold Hid; rw [HK.out, pmIdx_hit prims s k _ hx e]
        clear hx HK
        go_wp2_with (first | (refine wpList_index_of rfl 73 _ _ rfl (.agg pv) (.int .i64 k) (.agg (pmC nm t k)) rfl rfl (by rw [HV.out]; exact run_index_prim k hlt nm t HS.out _) ?_) | (refine wpList_store_own rfl 72 _ _ rfl wr.heap.size (pmC nm t k) rfl rfl 72 _ (heap_alloc_new _ _) Try.sizePm rfl (pmC_one _ _ _) ?_))
        intro w3 hh3 hb3 hs3
        have hB3 : Below w1.heap.size w1 w3 := hb.trans ((((Below.refl _ _).alloc (Nat.le_refl _) _).trans hb3).mono hb.size)
        have hc0 : w3.cell? ⟨wr.heap.size, 0, none⟩ = some (.string nm) := by rw [cell_of_row w3 _ 0 _ _ _ hh3]; rfl
        have hc1 : w3.cell? ⟨wr.heap.size, 0 + 1, none⟩ = some (.int .i64 (k + 1)) := by rw [cell_of_row w3 _ 1 _ _ _ hh3]; rfl
        clear hh3 hb3 hs3
        go_wp2
        go_ret
        exact ⟨by rw [HR.out]; rfl, hB1.trans (hB3.mono hB1.size)⟩
      | false =>
        have HR : Hid (primOfR s = pmIdx (prims.drop (k + 1)) s (k + 1)) := by unfold Hid; rw [HK.out, pmIdx_miss prims s k _ hx e]
        clear hx HK
        go_wp2_with (first | (refine wpList_index_of rfl 73 _ _ rfl (.agg pv) (.int .i64 k) (.agg (pmC nm t k)) rfl rfl (by rw [HV.out]; exact run_index_prim k hlt nm t HS.out _) ?_) | (refine wpList_store_own rfl 72 _ _ rfl wr.heap.size (pmC nm t k) rfl rfl 72 _ (heap_alloc_new _ _) Try.sizePm rfl (pmC_one _ _ _) ?_))
        intro w3 hh3 hb3 hs3
        have hB3 : Below w1.heap.size w1 w3 := hb.trans ((((Below.refl _ _).alloc (Nat.le_refl _) _).trans hb3).mono hb.size)
        have hc0 : w3.cell? ⟨wr.heap.size, 0, none⟩ = some (.string nm) := by rw [cell_of_row w3 _ 0 _ _ _ hh3]; rfl
        have hc1 : w3.cell? ⟨wr.heap.size, 0 + 1, none⟩ = some (.int .i64 (k + 1)) := by rw [cell_of_row w3 _ 1 _ _ _ hh3]; rfl
        clear hh3 hb3 hs3
        go_wp2
        go_roundw
        case rel => exact ⟨k + 1, by omega, by go_num, HR, hB3⟩
        case measure => simp [intOf]; omega
    · have HR : Hid (primOfR s = 0) := by unfold Hid; rw [HK.out, pmIdx_end prims s k (by show (19 : Nat) ≤ k; omega)]
      clear HK
      go_wp2
      go_ret
      exact ⟨by rw [HR.out]; rfl, hB⟩
end Go.Proofs.Ytjigbjnahndpiaa
