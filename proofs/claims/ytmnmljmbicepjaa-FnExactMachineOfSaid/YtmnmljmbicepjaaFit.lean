/-
  The contracts of impl.defsFit, impl.CodeOk and spec.CodeOk. No condition.
-/
import Derived.Test.YtmnmljmbicepjaaRules
namespace Go.Proofs.Ytmnmljmbicepjaa
open Go.RowKit

/-- The definition d may be the one number i of ds, in a code of n2 instructions. -/
def dfB (ds : List Df) (n2 : Nat) (d : Df) (i : Nat) : Bool :=
  nameB d.s && (dfIdx ds d.s 0 == (i : Int)) && (decide (0 ≤ d.p) && decide (d.p < n2)) && (decide (0 ≤ d.m) && decide (d.m ≤ 4))
def dfsB (all : List Df) (n2 : Nat) (ds : List Df) (i : Nat) : Bool := match ds with
  | [] => true
  | d :: ds => dfB all n2 d i && dfsB all n2 ds (i + 1)
theorem dfsB_drop (ds : List Df) (i n2 : Nat) (x : Df) (h : ds[i]? = some x) : dfsB ds n2 (ds.drop i) i = (dfB ds n2 x i && dfsB ds n2 (ds.drop (i + 1)) (i + 1)) := by
  obtain ⟨hl, he⟩ := List.getElem?_eq_some_iff.1 h
  rw [List.drop_eq_getElem_cons hl, he]
  rfl
def codeB (ns : List Nd) (is : List In) (ds : List Df) : Bool :=
  poolB ns && (decide (is.length ≤ 400) && insB is 0 ns.length is.length) && (decide (ds.length ≤ 20) && dfsB ds is.length ds 0)

set_option maxHeartbeats 400000 in
theorem argsfit_any (n : Int) (w : World) : Calls Try.prog 73 #[.int .i64 n] w fun e w' => e = .returned (.bool (decide (0 ≤ n) && decide (n ≤ 4))) ∧ w' = w := by
  go_enter Try.func73, Try.ntmps73
  go_wp2
  all_goals
    go_ret
    refine ⟨retB ?_, rfl⟩
    first | (simp [*]; done) | (simp [*]; omega)

set_option maxHeartbeats 400000 in
theorem isplace_any (a1 a2 a3 : Option Addr) (n1 n2 n3 c1 c2 c3 : Nat) (n : Int) (w : World) : Calls Try.prog 42 #[.agg #[.slice a1 n1 c1, .slice a2 n2 c2, .slice a3 n3 c3], .int .i64 n] w fun e w' => e = .returned (.bool (decide (0 ≤ n) && decide (n < n2))) ∧ Below w.heap.size w w' := by
  go_enter Try.func42, Try.ntmps42
  go_wp2
  all_goals
    go_ret
    refine ⟨retB ?_, (Below.refl _ _).alloc (Nat.le_refl _) _⟩
    first | (simp [*]; done) | (simp [*]; omega)

set_option maxRecDepth 100000 in
set_option maxHeartbeats 4000000 in
theorem defsfit_any (a1 a2 : Option Addr) (n1 c1 n2 c2 : Nat) (v3 : Value) (ds : List Df) (w : World) (R : DfRow w v3 ds) :
    Calls Try.prog 56 #[.agg #[.slice a1 n1 c1, .slice a2 n2 c2, v3]] w fun e w' => e = .returned (.bool (decide (ds.length ≤ 20) && dfsB ds n2 ds 0)) ∧ Below w.heap.size w w' := by
  have R' := R
  obtain ⟨a3, c3, rfl, hcap, hm, hz, hcell⟩ := R'
  have hB0 : Below w.heap.size w (w.alloc (Obj.cells #[.slice a1 n1 c1, .slice a2 n2 c2, .slice a3 ds.length c3] 40)) := (Below.refl _ _).alloc (Nat.le_refl _) _
  by_cases hl : ds.length ≤ 20
  · have HL : Hid (decide (ds.length ≤ 20) = true) := by unfold Hid; simp [hl]
    go_enter Try.func56, Try.ntmps56
    have hx0 := heap_alloc_new w (Obj.cells #[.slice a1 n1 c1, .slice a2 n2 c2, .slice a3 ds.length c3] 40)
    have hs0 : w.heap.size < (w.alloc (Obj.cells #[.slice a1 n1 c1, .slice a2 n2 c2, .slice a3 ds.length c3] 40)).heap.size := by simp
    go_wp2_with fail
    generalize w.alloc (Obj.cells #[.slice a1 n1 c1, .slice a2 n2 c2, .slice a3 ds.length c3] 40) = w0 at *
    go_loopw [12] (fun i wr => ∃ k : Nat, k ≤ ds.length ∧ i = .int .i64 k ∧ Hid (dfsB ds n2 ds 0 = dfsB ds n2 (ds.drop k) k) ∧ Below w0.heap.size w0 wr) (fun i _ => ds.length - (intOf i).toNat)
    case atStart => exact ⟨0, by omega, rfl, rfl, Below.refl _ _⟩
    case round =>
      obtain ⟨k, hk, rfl, HK, hb⟩ := hrel
      have hB := hB0.trans (hb.mono hB0.size)
      by_cases hlt : k < ds.length
      · obtain ⟨g, o, rfl, hg, hcell⟩ := hcell (by intro e; subst e; simp at hlt)
        obtain ⟨x, hx⟩ : ∃ x, ds[k]? = some x := ⟨ds[k], by simp [hlt]⟩
        obtain ⟨d0, d1, d2⟩ := (hcell k x hx).below hB hg
        have hxz := hz x (List.mem_of_getElem? hx)
        have HI : Hid (dfsB ds n2 ds 0 = (dfB ds n2 x k && dfsB ds n2 (ds.drop (k + 1)) (k + 1))) := by unfold Hid; rw [HK.out, dfsB_drop ds k n2 x hx]
        have hxr := (hb.block _ hs0).trans hx0
        have hs0r := Nat.lt_of_lt_of_le hs0 hb.size
        clear hcell hx HK hx0
        have q0 : wr.cell? ⟨w.heap.size, 0, none⟩ = some (.slice a1 n1 c1) := by rw [cell_of_row wr _ 0 _ _ _ hxr]; rfl
        have q1 : wr.cell? ⟨w.heap.size, 0 + 1, none⟩ = some (.slice a2 n2 c2) := by rw [cell_of_row wr _ 1 _ _ _ hxr]; rfl
        have q2 : wr.cell? ⟨w.heap.size, 0 + 2, none⟩ = some (.slice (some ⟨g, o, none⟩) ds.length c3) := by rw [cell_of_row wr _ 2 _ _ _ hxr]; rfl
        go_wp2_with fail
        refine (iname_any x.s _ hxz).mono ?_
        rintro e w1 ⟨rfl, rfl⟩
        have hB1 : Below w.heap.size w (wr.alloc (Obj.cells #[.string x.s, .int .i64 x.p, .int .i64 x.m] 58)) := hB.alloc hB.size _
        have hb1 : Below w0.heap.size w0 (wr.alloc (Obj.cells #[.string x.s, .int .i64 x.p, .int .i64 x.m] 58)) := hb.alloc hb.size _
        cases hnm : nameB x.s with
        | false =>
          have HR : Hid (dfsB ds n2 ds 0 = false) := by unfold Hid; rw [HI.out]; simp [dfB, hnm]
          go_wp2
          go_ret
          exact ⟨by rw [HL.out, HR.out]; rfl, hB1⟩
        | true =>
          go_wp2_with fail
          refine (idefof_any _ _ _ _ _ _ _ ds x.s _ (R.below hB1)).mono ?_
          rintro e w2 ⟨rfl, hb2⟩
          have hB2 := hB1.trans (hb2.mono hB1.size)
          have hbb2 := hb1.trans (hb2.mono hb1.size)
          have hx2 : w2.heap[w.heap.size]? = some (.cells #[.slice a1 n1 c1, .slice a2 n2 c2, .slice (some ⟨g, o, none⟩) ds.length c3] 40 (0, 0)) := (hb2.block _ (by simp; omega)).trans ((heap_alloc_old _ _ hs0r).trans hxr)
          have hy2 : w2.heap[wr.heap.size]? = some (.cells #[.string x.s, .int .i64 x.p, .int .i64 x.m] 58 (0, 0)) := (hb2.block _ (by simp)).trans (heap_alloc_new _ _)
          have hsx2 := (Array.getElem?_eq_some_iff.1 hx2).1
          have hsy2 := (Array.getElem?_eq_some_iff.1 hy2).1
          have r0 : w2.cell? ⟨w.heap.size, 0, none⟩ = some (.slice a1 n1 c1) := by rw [cell_of_row w2 _ 0 _ _ _ hx2]; rfl
          have r1 : w2.cell? ⟨w.heap.size, 0 + 1, none⟩ = some (.slice a2 n2 c2) := by rw [cell_of_row w2 _ 1 _ _ _ hx2]; rfl
          have r2 : w2.cell? ⟨w.heap.size, 0 + 2, none⟩ = some (.slice (some ⟨g, o, none⟩) ds.length c3) := by rw [cell_of_row w2 _ 2 _ _ _ hx2]; rfl
          have t1 : w2.cell? ⟨wr.heap.size, 0 + 1, none⟩ = some (.int .i64 x.p) := by rw [cell_of_row w2 _ 1 _ _ _ hy2]; rfl
          have t2 : w2.cell? ⟨wr.heap.size, 0 + 2, none⟩ = some (.int .i64 x.m) := by rw [cell_of_row w2 _ 2 _ _ _ hy2]; rfl
          clear hb2 hB1 hb1 q0 q1 q2
          by_cases hix : dfIdx ds x.s 0 = (k : Int)
          · rw [hix]
            go_wp2_with fail
            refine (isplace_any _ _ _ _ _ _ _ _ _ _ _).mono ?_
            rintro e w3 ⟨rfl, hb3⟩
            have hB3 := hB2.trans (hb3.mono hB2.size)
            have hbb3 := hbb2.trans (hb3.mono hbb2.size)
            have t2' := (hb3.cell (p := ⟨wr.heap.size, 0 + 2, none⟩) hsy2).trans t2
            clear r0 r1 r2 t1 t2 hb3 hB2 hbb2
            cases hpl : (decide (0 ≤ x.p) && decide (x.p < n2)) with
            | false =>
              have HR : Hid (dfsB ds n2 ds 0 = false) := by unfold Hid; rw [HI.out, dfB, hpl]; simp
              go_wp2
              go_ret
              exact ⟨by rw [HL.out, HR.out]; rfl, hB3⟩
            | true =>
              go_wp2_with fail
              refine (argsfit_any _ _).mono ?_
              rintro e w4 ⟨rfl, rfl⟩
              clear t2'
              cases hag : (decide (0 ≤ x.m) && decide (x.m ≤ 4)) with
              | false =>
                have HR : Hid (dfsB ds n2 ds 0 = false) := by unfold Hid; rw [HI.out, dfB, hag]; simp
                go_wp2
                go_ret
                exact ⟨by rw [HL.out, HR.out]; rfl, hB3⟩
              | true =>
                have HR : Hid (dfsB ds n2 ds 0 = dfsB ds n2 (ds.drop (k + 1)) (k + 1)) := by unfold Hid; rw [HI.out, dfB, hag, hpl, hnm, hix]; simp
                go_wp2
                go_roundw
                case rel => exact ⟨k + 1, by omega, by go_num, HR, hbb3⟩
                case measure => simp [intOf]; omega
          · have HR : Hid (dfsB ds n2 ds 0 = false) := by unfold Hid; rw [HI.out]; simp [dfB, hix]
            generalize dfIdx ds x.s 0 = ix at hix
            go_wp2
            go_ret
            exact ⟨by rw [HL.out, HR.out]; rfl, hB2⟩
      · have HR : Hid (dfsB ds n2 ds 0 = true) := by unfold Hid; rw [HK.out, List.drop_eq_nil_of_le (by omega)]; rfl
        clear HK hcell
        go_wp2
        go_ret
        exact ⟨by rw [HL.out, HR.out]; rfl, hB⟩
  · have HL : Hid (decide (ds.length ≤ 20) = false) := by unfold Hid; simp [hl]
    go_enter Try.func56, Try.ntmps56
    go_wp2
    go_ret
    exact ⟨by rw [HL.out]; rfl, hB0⟩
end Go.Proofs.Ytmnmljmbicepjaa
