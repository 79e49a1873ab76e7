/-
  Texts that stood by themselves, laid into one.
-/
import Derived.Test.YtkchakcebdenjaaGreatRulesM
import Derived.Test.YtkchakcebdenjaaGreatStore2M
import Derived.Test.YtkchakcebdenjaaGreatIntsM
/-
  The contracts of impl.defsFit, impl.CodeOk and spec.CodeOk. No condition.
-/
namespace Go.Proofs.YtkchakcebdenjaaGreat
open Go.RowKit
def dfB (ds : List Df) (n2 : Nat) (d : Df) (i : Nat) : Bool :=
  nameB d.s && (dfIdx ds d.s 0 == (i : Int)) && (decide (0 ≤ d.p) && decide (d.p < n2)) && (decide (0 ≤ d.m) && decide (d.m ≤ 4))
def dfsB (all : List Df) (n2 : Nat) (ds : List Df) (i : Nat) : Bool := match ds with
  | [] => true
  | d :: ds => dfB all n2 d i && dfsB all n2 ds (i + 1)
theorem dfsB_drop (ds : List Df) (i n2 : Nat) (x : Df) (h : ds[i]? = some x) : dfsB ds n2 (ds.drop i) i = (dfB ds n2 x i && dfsB ds n2 (ds.drop (i + 1)) (i + 1)) := by
  obtain ⟨hl, he⟩ := List.getElem?_eq_some_iff.1 h
  rw [List.drop_eq_getElem_cons hl, he]
  rfl
def codeB (ns : List Nd) (is : List In) (ds : List Df) : Bool :=
  poolB ns && (decide (is.length ≤ 400) && insB is 0 ns.length is.length) && (decide (ds.length ≤ 20) && dfsB ds is.length ds 0)
set_option maxHeartbeats 400000 in
theorem argsfit_any (n : Int) (w : World) : Calls Tryz.prog 90 #[.int .i64 n] w fun e w' => e = .returned (.bool (decide (0 ≤ n) && decide (n ≤ 4))) ∧ w' = w := by
  go_enter Tryz.func90, Tryz.ntmps90
  go_wp2
  all_goals
    go_ret
    refine ⟨retB ?_, rfl⟩
    first | (simp [*]; done) | (simp [*]; omega)
set_option maxHeartbeats 400000 in
theorem isplace_any (a1 a2 a3 : Option Addr) (n1 n2 n3 c1 c2 c3 : Nat) (n : Int) (w : World) : Calls Tryz.prog 89 #[.agg #[.slice a1 n1 c1, .slice a2 n2 c2, .slice a3 n3 c3], .int .i64 n] w fun e w' => e = .returned (.bool (decide (0 ≤ n) && decide (n < n2))) ∧ Below w.heap.size w w' := by
  go_enter Tryz.func89, Tryz.ntmps89
  go_wp2
  all_goals
    go_ret
    refine ⟨retB ?_, (Below.refl _ _).alloc (Nat.le_refl _) _⟩
    first | (simp [*]; done) | (simp [*]; omega)
set_option maxRecDepth 100000 in
set_option maxHeartbeats 4000000 in
theorem defsfit_any (a1 a2 : Option Addr) (n1 c1 n2 c2 : Nat) (v3 : Value) (ds : List Df) (w : World) (R : DfRow w v3 ds) :
    Calls Tryz.prog 54 #[.agg #[.slice a1 n1 c1, .slice a2 n2 c2, v3]] w fun e w' => e = .returned (.bool (decide (ds.length ≤ 20) && dfsB ds n2 ds 0)) ∧ Below w.heap.size w w' := by
  have R' := R
  obtain ⟨a3, c3, rfl, hcap, hm, hz, hcell⟩ := R'
  have hB0 : Below w.heap.size w (w.alloc (Obj.cells #[.slice a1 n1 c1, .slice a2 n2 c2, .slice a3 ds.length c3] 33)) := (Below.refl _ _).alloc (Nat.le_refl _) _
  by_cases hl : ds.length ≤ 20
  · have HL : Hid (decide (ds.length ≤ 20) = true) := by unfold Hid; simp [hl]
    go_enter Tryz.func54, Tryz.ntmps54
    have hx0 := heap_alloc_new w (Obj.cells #[.slice a1 n1 c1, .slice a2 n2 c2, .slice a3 ds.length c3] 33)
    have hs0 : w.heap.size < (w.alloc (Obj.cells #[.slice a1 n1 c1, .slice a2 n2 c2, .slice a3 ds.length c3] 33)).heap.size := by simp
    go_wp2_with fail
    generalize w.alloc (Obj.cells #[.slice a1 n1 c1, .slice a2 n2 c2, .slice a3 ds.length c3] 33) = w0 at *
    go_loopw [12] (fun i wr => ∃ k : Nat, k ≤ ds.length ∧ i = .int .i64 k ∧ Hid (dfsB ds n2 ds 0 = dfsB ds n2 (ds.drop k) k) ∧ Below w0.heap.size w0 wr) (fun i _ => ds.length - (intOf i).toNat)
    case atStart => exact ⟨0, by omega, rfl, rfl, Below.refl _ _⟩
    case round =>
      obtain ⟨k, hk, rfl, HK, hb⟩ := hrel
      have hB := hB0.trans (hb.mono hB0.size)
      by_cases hlt : k < ds.length
      · obtain ⟨g, o, rfl, hg, hcell⟩ := hcell (by intro e; subst e; simp at hlt)
        obtain ⟨x, hx⟩ : ∃ x, ds[k]? = some x := ⟨ds[k], by simp [hlt]⟩
        obtain ⟨d0, d1, d2⟩ := (hcell k x hx).below hB hg
        have hxz := hz x (List.mem_of_getElem? hx)
        have HI : Hid (dfsB ds n2 ds 0 = (dfB ds n2 x k && dfsB ds n2 (ds.drop (k + 1)) (k + 1))) := by unfold Hid; rw [HK.out, dfsB_drop ds k n2 x hx]
        have hxr := (hb.block _ hs0).trans hx0
        have hs0r := Nat.lt_of_lt_of_le hs0 hb.size
        clear hcell hx HK hx0
        have q0 : wr.cell? ⟨w.heap.size, 0, none⟩ = some (.slice a1 n1 c1) := by rw [cell_of_row wr _ 0 _ _ _ hxr]; rfl
        have q1 : wr.cell? ⟨w.heap.size, 0 + 1, none⟩ = some (.slice a2 n2 c2) := by rw [cell_of_row wr _ 1 _ _ _ hxr]; rfl
        have q2 : wr.cell? ⟨w.heap.size, 0 + 2, none⟩ = some (.slice (some ⟨g, o, none⟩) ds.length c3) := by rw [cell_of_row wr _ 2 _ _ _ hxr]; rfl
        go_wp2_with fail
        refine (iname_any x.s _ hxz).mono ?_
        rintro e w1 ⟨rfl, rfl⟩
        have hB1 : Below w.heap.size w (wr.alloc (Obj.cells #[.string x.s, .int .i64 x.p, .int .i64 x.m] 51)) := hB.alloc hB.size _
        have hb1 : Below w0.heap.size w0 (wr.alloc (Obj.cells #[.string x.s, .int .i64 x.p, .int .i64 x.m] 51)) := hb.alloc hb.size _
        cases hnm : nameB x.s with
        | false =>
          have HR : Hid (dfsB ds n2 ds 0 = false) := by unfold Hid; rw [HI.out]; simp [dfB, hnm]
          go_wp2
          go_ret
          exact ⟨by rw [HL.out, HR.out]; rfl, hB1⟩
        | true =>
          go_wp2_with fail
          refine (idefof_any _ _ _ _ _ _ _ ds x.s _ (R.below hB1)).mono ?_
          rintro e w2 ⟨rfl, hb2⟩
          have hB2 := hB1.trans (hb2.mono hB1.size)
          have hbb2 := hb1.trans (hb2.mono hb1.size)
          have hx2 : w2.heap[w.heap.size]? = some (.cells #[.slice a1 n1 c1, .slice a2 n2 c2, .slice (some ⟨g, o, none⟩) ds.length c3] 33 (0, 0)) := (hb2.block _ (by simp; omega)).trans ((heap_alloc_old _ _ hs0r).trans hxr)
          have hy2 : w2.heap[wr.heap.size]? = some (.cells #[.string x.s, .int .i64 x.p, .int .i64 x.m] 51 (0, 0)) := (hb2.block _ (by simp)).trans (heap_alloc_new _ _)
          have hsx2 := (Array.getElem?_eq_some_iff.1 hx2).1
          have hsy2 := (Array.getElem?_eq_some_iff.1 hy2).1
          have r0 : w2.cell? ⟨w.heap.size, 0, none⟩ = some (.slice a1 n1 c1) := by rw [cell_of_row w2 _ 0 _ _ _ hx2]; rfl
          have r1 : w2.cell? ⟨w.heap.size, 0 + 1, none⟩ = some (.slice a2 n2 c2) := by rw [cell_of_row w2 _ 1 _ _ _ hx2]; rfl
          have r2 : w2.cell? ⟨w.heap.size, 0 + 2, none⟩ = some (.slice (some ⟨g, o, none⟩) ds.length c3) := by rw [cell_of_row w2 _ 2 _ _ _ hx2]; rfl
          have t1 : w2.cell? ⟨wr.heap.size, 0 + 1, none⟩ = some (.int .i64 x.p) := by rw [cell_of_row w2 _ 1 _ _ _ hy2]; rfl
          have t2 : w2.cell? ⟨wr.heap.size, 0 + 2, none⟩ = some (.int .i64 x.m) := by rw [cell_of_row w2 _ 2 _ _ _ hy2]; rfl
          clear hb2 hB1 hb1 q0 q1 q2
          by_cases hix : dfIdx ds x.s 0 = (k : Int)
          · rw [hix]
            go_wp2_with fail
            refine (isplace_any _ _ _ _ _ _ _ _ _ _ _).mono ?_
            rintro e w3 ⟨rfl, hb3⟩
            have hB3 := hB2.trans (hb3.mono hB2.size)
            have hbb3 := hbb2.trans (hb3.mono hbb2.size)
            have t2' := (hb3.cell (p := ⟨wr.heap.size, 0 + 2, none⟩) hsy2).trans t2
            clear r0 r1 r2 t1 t2 hb3 hB2 hbb2
            cases hpl : (decide (0 ≤ x.p) && decide (x.p < n2)) with
            | false =>
              have HR : Hid (dfsB ds n2 ds 0 = false) := by unfold Hid; rw [HI.out, dfB, hpl]; simp
              go_wp2
              go_ret
              exact ⟨by rw [HL.out, HR.out]; rfl, hB3⟩
            | true =>
              go_wp2_with fail
              refine (argsfit_any _ _).mono ?_
              rintro e w4 ⟨rfl, rfl⟩
              clear t2'
              cases hag : (decide (0 ≤ x.m) && decide (x.m ≤ 4)) with
              | false =>
                have HR : Hid (dfsB ds n2 ds 0 = false) := by unfold Hid; rw [HI.out, dfB, hag]; simp
                go_wp2
                go_ret
                exact ⟨by rw [HL.out, HR.out]; rfl, hB3⟩
              | true =>
                have HR : Hid (dfsB ds n2 ds 0 = dfsB ds n2 (ds.drop (k + 1)) (k + 1)) := by unfold Hid; rw [HI.out, dfB, hag, hpl, hnm, hix]; simp
                go_wp2
                go_roundw
                case rel => exact ⟨k + 1, by omega, by go_num, HR, hbb3⟩
                case measure => simp [intOf]; omega
          · have HR : Hid (dfsB ds n2 ds 0 = false) := by unfold Hid; rw [HI.out]; simp [dfB, hix]
            generalize dfIdx ds x.s 0 = ix at hix
            go_wp2
            go_ret
            exact ⟨by rw [HL.out, HR.out]; rfl, hB2⟩
      · have HR : Hid (dfsB ds n2 ds 0 = true) := by unfold Hid; rw [HK.out, List.drop_eq_nil_of_le (by omega)]; rfl
        clear HK hcell
        go_wp2
        go_ret
        exact ⟨by rw [HL.out, HR.out]; rfl, hB⟩
  · have HL : Hid (decide (ds.length ≤ 20) = false) := by unfold Hid; simp [hl]
    go_enter Tryz.func54, Tryz.ntmps54
    go_wp2
    go_ret
    exact ⟨by rw [HL.out]; rfl, hB0⟩
end Go.Proofs.YtkchakcebdenjaaGreat
/-
  The contracts of impl.CodeOk and spec.CodeOk. No condition.
-/
namespace Go.Proofs.YtkchakcebdenjaaGreat
open Go.RowKit
set_option maxRecDepth 100000 in
set_option maxHeartbeats 1600000 in
theorem icodeok_any (v1 v2 v3 : Value) (ns : List Nd) (is : List In) (ds : List Df) (w : World) (R1 : NRow w v1 ns) (R2 : InRow w v2 is) (R3 : DfRow w v3 ds) :
    Calls Tryz.prog 20 #[.agg #[v1, v2, v3]] w fun e w' => e = .returned (.bool (codeB ns is ds)) ∧ Below w.heap.size w w' := by
  obtain ⟨a1, c1, rfl⟩ := R1.small
  obtain ⟨a2, c2, rfl⟩ := R2.small
  obtain ⟨a3, c3, rfl⟩ := R3.small
  have hB0 : Below w.heap.size w (w.alloc (Obj.cells #[.slice a1 ns.length c1, .slice a2 is.length c2, .slice a3 ds.length c3] 33)) := (Below.refl _ _).alloc (Nat.le_refl _) _
  go_enter Tryz.func20, Tryz.ntmps20
  go_wp2_with fail
  refine (ipool_any _ ns _ (R1.below hB0)).mono ?_
  rintro e w1 ⟨rfl, hb1⟩
  have hx1 : w1.heap[w.heap.size]? = some (.cells #[.slice a1 ns.length c1, .slice a2 is.length c2, .slice a3 ds.length c3] 33 (0, 0)) := (hb1.block _ (by simp)).trans (heap_alloc_new _ _)
  have hB1 := hB0.trans (hb1.mono hB0.size)
  have hs1 := (Array.getElem?_eq_some_iff.1 hx1).1
  have r0 : w1.cell? ⟨w.heap.size, 0, none⟩ = some (.slice a1 ns.length c1) := by rw [cell_of_row w1 _ 0 _ _ _ hx1]; rfl
  have r1 : w1.cell? ⟨w.heap.size, 0 + 1, none⟩ = some (.slice a2 is.length c2) := by rw [cell_of_row w1 _ 1 _ _ _ hx1]; rfl
  have r2 : w1.cell? ⟨w.heap.size, 0 + 2, none⟩ = some (.slice a3 ds.length c3) := by rw [cell_of_row w1 _ 2 _ _ _ hx1]; rfl
  clear hB0 hb1
  cases hp : poolB ns with
  | false =>
    have HR : Hid (codeB ns is ds = false) := by unfold Hid; simp [codeB, hp]
    go_wp2
    go_ret
    exact ⟨by rw [HR.out]; rfl, hB1⟩
  | true =>
    go_wp2_with fail
    refine (instrsfit_any _ _ _ _ _ _ _ is _ (R2.below hB1)).mono ?_
    rintro e w2 ⟨rfl, hb2⟩
    have hx2 := (hb2.block _ hs1).trans hx1
    have hB2 := hB1.trans (hb2.mono hB1.size)
    have q0 : w2.cell? ⟨w.heap.size, 0, none⟩ = some (.slice a1 ns.length c1) := by rw [cell_of_row w2 _ 0 _ _ _ hx2]; rfl
    have q1 : w2.cell? ⟨w.heap.size, 0 + 1, none⟩ = some (.slice a2 is.length c2) := by rw [cell_of_row w2 _ 1 _ _ _ hx2]; rfl
    have q2 : w2.cell? ⟨w.heap.size, 0 + 2, none⟩ = some (.slice a3 ds.length c3) := by rw [cell_of_row w2 _ 2 _ _ _ hx2]; rfl
    clear hb2 hx1 r0 r1 r2 hB1 hs1
    cases hi : (decide (is.length ≤ 400) && insB is 0 ns.length is.length) with
    | false =>
      have HR : Hid (codeB ns is ds = false) := by unfold Hid; rw [codeB, hi]; simp
      go_wp2
      go_ret
      exact ⟨by rw [HR.out]; rfl, hB2⟩
    | true =>
      have HR : Hid (codeB ns is ds = (decide (ds.length ≤ 20) && dfsB ds is.length ds 0)) := by unfold Hid; rw [codeB, hi, hp]; simp
      go_wp2_with fail
      refine (defsfit_any _ _ _ _ _ _ _ ds _ (R3.below hB2)).mono ?_
      rintro e w3 ⟨rfl, hb3⟩
      have hB3 := hB2.trans (hb3.mono hB2.size)
      clear hb3 hx2 q0 q1 q2 hB2
      rw [← HR.out]
      go_wp2
      go_ret
      exact ⟨rfl, hB3⟩
set_option maxRecDepth 100000 in
set_option maxHeartbeats 4000000 in
theorem scodeok_any (v1 v2 v3 : Value) (ns : List Nd) (is : List In) (ds : List Df) (w : World) (R1 : NRow w v1 ns) (R2 : InRow w v2 is) (R3 : DfRow w v3 ds) :
    Calls Tryz.prog 26 #[.agg #[v1, v2, v3]] w fun e w' => e = .returned (.bool (codeB ns is ds)) ∧ Below w.heap.size w w' := by
  have hn1 : ns.length ≤ 9223372036854775807 := by obtain ⟨_, _, _, _, hm, _⟩ := R1; exact hm
  have hn2 : is.length ≤ 9223372036854775807 := by obtain ⟨_, _, _, _, hm, _⟩ := R2; exact hm
  obtain ⟨a1, c1, rfl⟩ := R1.small
  obtain ⟨a2, c2, rfl⟩ := R2.small
  have R3' := R3
  obtain ⟨a3, c3, rfl, hcap, hm, hz, hcell⟩ := R3'
  have hB0 : Below w.heap.size w (w.alloc (Obj.cells #[.slice a1 ns.length c1, .slice a2 is.length c2, .slice a3 ds.length c3] 33)) := (Below.refl _ _).alloc (Nat.le_refl _) _
  go_enter Tryz.func26, Tryz.ntmps26
  go_wp2_with fail
  refine (spool_any _ ns _ (R1.below hB0)).mono ?_
  rintro e w1 ⟨rfl, hb1⟩
  have hx1 : w1.heap[w.heap.size]? = some (.cells #[.slice a1 ns.length c1, .slice a2 is.length c2, .slice a3 ds.length c3] 33 (0, 0)) := (hb1.block _ (by simp)).trans (heap_alloc_new _ _)
  have hB1 := hB0.trans (hb1.mono hB0.size)
  have hs1 := (Array.getElem?_eq_some_iff.1 hx1).1
  have r1 : w1.cell? ⟨w.heap.size, 0 + 1, none⟩ = some (.slice a2 is.length c2) := by rw [cell_of_row w1 _ 1 _ _ _ hx1]; rfl
  have r2 : w1.cell? ⟨w.heap.size, 0 + 2, none⟩ = some (.slice a3 ds.length c3) := by rw [cell_of_row w1 _ 2 _ _ _ hx1]; rfl
  clear hB0 hb1
  cases hp : poolB ns with
  | false =>
    have HR : Hid (codeB ns is ds = false) := by unfold Hid; simp [codeB, hp]
    go_wp2
    go_ret
    exact ⟨by rw [HR.out]; rfl, hB1⟩
  | true =>
    by_cases h4 : is.length ≤ 400
    · by_cases h2 : ds.length ≤ 20
      · have HC : Hid (codeB ns is ds = (insB is 0 ns.length is.length && dfsB ds is.length ds 0)) := by unfold Hid; simp [codeB, hp, h4, h2]
        go_wp2_with fail
        go_loopw [3] (fun i wr => ∃ k : Nat, k ≤ is.length ∧ i = .int .i64 k ∧ Hid (insB is 0 ns.length is.length = insB (is.drop k) k ns.length is.length) ∧ Below w1.heap.size w1 wr) (fun i _ => is.length - (intOf i).toNat)
        case atStart => exact ⟨0, by omega, rfl, rfl, Below.refl _ _⟩
        case round =>
          obtain ⟨k, hk, rfl, HK, hb⟩ := hrel
          have hB := hB1.trans (hb.mono hB1.size)
          have hxr := (hb.block _ hs1).trans hx1
          have q0 : wr.cell? ⟨w.heap.size, 0, none⟩ = some (.slice a1 ns.length c1) := by rw [cell_of_row wr _ 0 _ _ _ hxr]; rfl
          have q1 : wr.cell? ⟨w.heap.size, 0 + 1, none⟩ = some (.slice a2 is.length c2) := by rw [cell_of_row wr _ 1 _ _ _ hxr]; rfl
          have q2 : wr.cell? ⟨w.heap.size, 0 + 2, none⟩ = some (.slice a3 ds.length c3) := by rw [cell_of_row wr _ 2 _ _ _ hxr]; rfl
          by_cases hlt : k < is.length
          · obtain ⟨x, hx⟩ : ∃ x, is[k]? = some x := ⟨is[k], by simp [hlt]⟩
            have HI : Hid (insB is 0 ns.length is.length = (instrB x k ns.length is.length && insB (is.drop (k + 1)) (k + 1) ns.length is.length)) := by unfold Hid; rw [HK.out, insB_drop is k ns.length is.length x hx]
            have HX : Hid (is[k]? = some x) := hx
            clear hcell HK hx
            go_wp2_with fail
            refine (sinstr_any _ _ _ _ _ _ _ is k x _ (R2.below hB) HX.out hn1).mono ?_
            rintro e w2 ⟨rfl, hb2⟩
            have hB2 := hB.trans (hb2.mono hB.size)
            have hbb2 := hb.trans (hb2.mono hb.size)
            clear q0 q1 q2 hb2 r1 r2
            generalize instrB x k ns.length is.length = b at HI
            cases b with
            | false =>
              have HR : Hid (codeB ns is ds = false) := by unfold Hid; rw [HC.out, HI.out]; rfl
              go_wp2
              go_ret
              exact ⟨by rw [HR.out]; rfl, hB2⟩
            | true =>
              go_wp2
              go_roundw
              case rel => exact ⟨k + 1, by omega, by go_num, (by unfold Hid; rw [HI.out, Bool.true_and]), hbb2⟩
              case measure => simp [intOf]; omega
          · have HI : Hid (codeB ns is ds = dfsB ds is.length ds 0) := by unfold Hid; rw [HC.out, HK.out, List.drop_eq_nil_of_le (by omega)]; simp [insB]
            have hsr := (Array.getElem?_eq_some_iff.1 hxr).1
            clear HK HC r1 r2 hx1
            go_wp2_with fail
            go_loopw [4] (fun i wq => ∃ k : Nat, k ≤ ds.length ∧ i = .int .i64 k ∧ Hid (dfsB ds is.length ds 0 = dfsB ds is.length (ds.drop k) k) ∧ Below wr.heap.size wr wq) (fun i _ => ds.length - (intOf i).toNat)
            case atStart => exact ⟨0, by omega, rfl, rfl, Below.refl _ _⟩
            case round =>
              obtain ⟨k2, hk2, rfl, HK, hb'⟩ := hrel
              have hB' := hB.trans (hb'.mono hB.size)
              have hxq := (hb'.block _ hsr).trans hxr
              have hsq := Nat.lt_of_lt_of_le hsr hb'.size
              have p0 : wr.cell? ⟨w.heap.size, 0, none⟩ = some (.slice a1 ns.length c1) := by rw [cell_of_row wr _ 0 _ _ _ hxq]; rfl
              have p1 : wr.cell? ⟨w.heap.size, 0 + 1, none⟩ = some (.slice a2 is.length c2) := by rw [cell_of_row wr _ 1 _ _ _ hxq]; rfl
              have p2 : wr.cell? ⟨w.heap.size, 0 + 2, none⟩ = some (.slice a3 ds.length c3) := by rw [cell_of_row wr _ 2 _ _ _ hxq]; rfl
              clear q0 q1 q2 hxr
              by_cases hlt2 : k2 < ds.length
              · obtain ⟨g, o, rfl, hg, hcell⟩ := hcell (by intro e; subst e; simp at hlt2)
                obtain ⟨x, hx⟩ : ∃ x, ds[k2]? = some x := ⟨ds[k2], by simp [hlt2]⟩
                obtain ⟨d0, d1, d2⟩ := (hcell k2 x hx).below hB' hg
                have hxz := hz x (List.mem_of_getElem? hx)
                have HJ : Hid (codeB ns is ds = (dfB ds is.length x k2 && dfsB ds is.length (ds.drop (k2 + 1)) (k2 + 1))) := by unfold Hid; rw [HI.out, HK.out, dfsB_drop ds k2 is.length x hx]
                have HD : Hid (dfsB ds is.length (ds.drop k2) k2 = (dfB ds is.length x k2 && dfsB ds is.length (ds.drop (k2 + 1)) (k2 + 1))) := dfsB_drop ds k2 is.length x hx
                clear hcell hx
                go_wp2_with fail
                refine (sname_any x.s _ hxz).mono ?_
                rintro e w2 ⟨rfl, rfl⟩
                have hB2 : Below w.heap.size w (wr.alloc (Obj.cells #[.string x.s, .int .i64 x.p, .int .i64 x.m] 51)) := hB'.alloc hB'.size _
                have hb2 : Below _ _ (wr.alloc (Obj.cells #[.string x.s, .int .i64 x.p, .int .i64 x.m] 51)) := hb'.alloc hb'.size _
                cases hnm : nameB x.s with
                | false =>
                  have HR : Hid (codeB ns is ds = false) := by unfold Hid; rw [HJ.out]; simp [dfB, hnm]
                  go_wp2
                  go_ret
                  exact ⟨by rw [HR.out]; rfl, hB2⟩
                | true =>
                  go_wp2_with fail
                  refine (sdefof_any _ _ _ _ _ _ _ ds x.s _ (R3.below hB2)).mono ?_
                  rintro e w3 ⟨rfl, hb3⟩
                  have hB3 := hB2.trans (hb3.mono hB2.size)
                  have hbb3 := hb2.trans (hb3.mono hb2.size)
                  have hx3 : w3.heap[w.heap.size]? = some (.cells #[.slice a1 ns.length c1, .slice a2 is.length c2, .slice (some ⟨g, o, none⟩) ds.length c3] 33 (0, 0)) := (hb3.block _ (by simp; omega)).trans ((heap_alloc_old _ _ hsq).trans hxq)
                  have hy3 : w3.heap[wr.heap.size]? = some (.cells #[.string x.s, .int .i64 x.p, .int .i64 x.m] 51 (0, 0)) := (hb3.block _ (by simp)).trans (heap_alloc_new _ _)
                  have r1 : w3.cell? ⟨w.heap.size, 0 + 1, none⟩ = some (.slice a2 is.length c2) := by rw [cell_of_row w3 _ 1 _ _ _ hx3]; rfl
                  have t1 : w3.cell? ⟨wr.heap.size, 0 + 1, none⟩ = some (.int .i64 x.p) := by rw [cell_of_row w3 _ 1 _ _ _ hy3]; rfl
                  have t2 : w3.cell? ⟨wr.heap.size, 0 + 2, none⟩ = some (.int .i64 x.m) := by rw [cell_of_row w3 _ 2 _ _ _ hy3]; rfl
                  clear hb3 hB2 hb2 p0 p1 p2
                  by_cases hix : dfIdx ds x.s 0 = (k2 : Int)
                  · rw [hix]
                    go_wp2_with fail
                    refine (lin_any _ _ _ _).mono ?_
                    rintro e w4 ⟨rfl, rfl⟩
                    have HP : Hid ((decide (0 ≤ x.p) && decide (x.p ≤ (is.length : Int) - 1)) = (decide (0 ≤ x.p) && decide (x.p < is.length))) := by unfold Hid; rw [Bool.eq_iff_iff]; simp; omega
                    rw [HP.out]
                    clear r1 t1
                    cases hpl : (decide (0 ≤ x.p) && decide (x.p < is.length)) with
                    | false =>
                      have HR : Hid (codeB ns is ds = false) := by unfold Hid; rw [HJ.out, dfB, hpl]; simp
                      go_wp2
                      go_ret
                      exact ⟨by rw [HR.out]; rfl, hB3⟩
                    | true =>
                      go_wp2_with fail
                      refine (lin_any _ _ _ _).mono ?_
                      rintro e w4 ⟨rfl, rfl⟩
                      clear t2
                      cases hag : (decide (0 ≤ x.m) && decide (x.m ≤ 4)) with
                      | false =>
                        have HR : Hid (codeB ns is ds = false) := by unfold Hid; rw [HJ.out, dfB, hag]; simp
                        go_wp2
                        go_ret
                        exact ⟨by rw [HR.out]; rfl, hB3⟩
                      | true =>
                        have HR : Hid (dfsB ds is.length ds 0 = dfsB ds is.length (ds.drop (k2 + 1)) (k2 + 1)) := by unfold Hid; rw [HK.out, HD.out, dfB, hag, hpl, hnm, hix]; simp
                        go_wp2
                        go_roundw
                        case rel => exact ⟨k2 + 1, by omega, by go_num, HR, hbb3⟩
                        case measure => simp [intOf]; omega
                  · have HR : Hid (codeB ns is ds = false) := by unfold Hid; rw [HJ.out]; simp [dfB, hix]
                    generalize dfIdx ds x.s 0 = ix at hix
                    go_wp2
                    go_ret
                    exact ⟨by rw [HR.out]; rfl, hB3⟩
              · have HR : Hid (codeB ns is ds = true) := by unfold Hid; rw [HI.out, HK.out, List.drop_eq_nil_of_le (by omega)]; rfl
                clear HK hcell
                go_wp2
                go_ret
                exact ⟨by rw [HR.out]; rfl, hB'⟩
      · have HR : Hid (codeB ns is ds = false) := by unfold Hid; simp [codeB, h2]
        go_wp2
        go_ret
        exact ⟨by rw [HR.out]; rfl, hB1⟩
    · have HR : Hid (codeB ns is ds = false) := by unfold Hid; simp [codeB, h4]
      go_wp2
      go_ret
      exact ⟨by rw [HR.out]; rfl, hB1⟩
end Go.Proofs.YtkchakcebdenjaaGreat
/-
  What MakeList makes, and the contracts of impl's hasAll and MakeList.
-/
namespace Go.Proofs.YtkchakcebdenjaaGreat
open Go.RowKit
def nilN : Nd := ⟨1, 0, ByteArray.empty, 0, 0⟩
def pairN (z : Int) (last : Nat) : Nd := ⟨5, 0, ByteArray.empty, z, last⟩
def pairsR : List Int → Nat → List Nd
  | [], _ => []
  | z :: r, last => pairN z last :: pairsR r (last + 1)
theorem pairsR_snoc (r : List Int) (z : Int) (last : Nat) : pairsR (r ++ [z]) last = pairsR r last ++ [pairN z (last + r.length)] := by
  induction r generalizing last with
  | nil => rfl
  | cons y r ih => simp only [List.cons_append, pairsR, ih, List.length_cons]; rw [show last + 1 + r.length = last + (r.length + 1) by omega]
theorem pairsR_length (r : List Int) (last : Nat) : (pairsR r last).length = r.length := by
  induction r generalizing last with
  | nil => rfl
  | cons y r ih => simp [pairsR, ih]
theorem pairsR_ok (r : List Int) (last : Nat) : ∀ x ∈ pairsR r last, x.s.size ≤ maxLen := by
  induction r generalizing last with
  | nil => simp [pairsR]
  | cons y r ih =>
    intro x hx
    simp only [pairsR, List.mem_cons] at hx
    rcases hx with rfl | hx
    · simp [pairN]
    · exact ih _ x hx
def more (zs : List Int) (n m : Nat) : List Nd := nilN :: pairsR (zs.drop m).reverse n
theorem more_length (zs : List Int) (n m : Nat) : (more zs n m).length = zs.length - m + 1 := by simp [more, pairsR_length]
theorem more_ok (zs : List Int) (n m : Nat) : ∀ x ∈ more zs n m, x.s.size ≤ maxLen := by
  intro x hx
  simp only [more, List.mem_cons] at hx
  rcases hx with rfl | hx
  · simp [nilN]
  · exact pairsR_ok _ _ x hx
theorem more_step (zs : List Int) (n m : Nat) (h : m < zs.length) : more zs n m = more zs n (m + 1) ++ [pairN zs[m] (n + (zs.length - (m + 1)))] := by
  unfold more
  rw [List.drop_eq_getElem_cons h, List.reverse_cons, pairsR_snoc]
  simp
def allI (xs : List Nd) (zs : List Int) : Bool := zs.all (hasI xs)
def mlOk (xs : List Nd) (zs : List Int) : Bool := decide (xs.length + 1 + zs.length ≤ 3000) && allI xs zs
def mlL (xs : List Nd) (zs : List Int) : List Nd := if poolB xs = true then (if mlOk xs zs = true then xs ++ more zs xs.length 0 else xs) else []
def mlI (xs : List Nd) (zs : List Int) : Int := if poolB xs = true then (if mlOk xs zs = true then ((xs.length + zs.length : Nat) : Int) else -1) else -1
theorem all_drop (p : Int → Bool) (zs : List Int) (k : Nat) (h : k < zs.length) : (zs.drop k).all p = (p (zs.getD k 0) && (zs.drop (k + 1)).all p) := by
  rw [List.drop_eq_getElem_cons h, List.all_cons, List.getD_eq_getElem?_getD, List.getElem?_eq_getElem h]
  rfl
set_option maxHeartbeats 800000 in
theorem hasall_any (v vl : Value) (xs : List Nd) (zs : List Int) (w : World) (R : NRow w v xs) (L : IRow w vl zs) :
    Calls Tryz.prog 29 #[.agg #[v], vl] w fun e w' => e = .returned (.bool (allI xs zs)) ∧ Below w.heap.size w w' := by
  have R' := R
  obtain ⟨ao, cap, rfl, _⟩ := R'
  obtain ⟨al, cl, rfl, hcl, hlm, hcell⟩ := L
  go_enter Tryz.func29, Tryz.ntmps29
  go_wp2_with fail
  go_loopw [9] (fun i wr => ∃ k : Nat, k ≤ zs.length ∧ i = .int .i64 k ∧ Hid (allI xs zs = (zs.drop k).all (hasI xs)) ∧ wr.cell? ⟨w.heap.size, 0, none⟩ = some (.slice ao xs.length cap) ∧ w.heap.size < wr.heap.size ∧ Below w.heap.size w wr) (fun i _ => zs.length - (intOf i).toNat)
  case atStart => exact ⟨0, by omega, rfl, by simp [Hid, allI], by simp, by simp, (Below.refl _ _).alloc (Nat.le_refl _) _⟩
  case round =>
    obtain ⟨k, hk, rfl, HA, hbox, hbl, hb⟩ := hrel
    by_cases hlt : k < zs.length
    · obtain ⟨g, o, rfl, hg, hcell⟩ := hcell (by intro e; subst e; simp at hlt)
      have c0 := (hb.cell (p := ⟨g, o + k, none⟩) hg).trans (hcell k hlt)
      have HS : Hid (allI xs zs = (hasI xs (zs.getD k 0) && (zs.drop (k + 1)).all (hasI xs))) := by unfold Hid; rw [HA.out, all_drop _ _ _ hlt]
      clear hcell HA
      generalize zs.getD k 0 = z at c0 HS
      go_wp2_with fail
      refine (has_any _ xs _ _ (R.below hb)).mono ?_
      rintro e w2 ⟨rfl, hb2⟩
      have hB2 := hb.trans (hb2.mono hb.size)
      have hbox2 := (hb2.cell (p := ⟨w.heap.size, 0, none⟩) hbl).trans hbox
      have hbl2 := Nat.lt_of_lt_of_le hbl hb2.size
      clear c0 hb2 hbox hb
      generalize hA : hasI xs z = bA at HS ⊢
      clear hA
      cases bA with
      | false =>
        go_wp2
        go_ret
        exact ⟨by rw [HS.out]; rfl, hB2⟩
      | true =>
        go_wp2
        go_roundw
        case rel => exact ⟨k + 1, by omega, by go_num, by rw [HS.out]; rfl, hbox2, hbl2, hB2⟩
        case measure => simp [intOf]; omega
    · have e : k = zs.length := by omega
      subst e
      have HT : Hid (allI xs zs = true) := by unfold Hid; rw [HA.out, List.drop_length]; rfl
      clear HA
      go_wp2
      go_ret
      exact ⟨by rw [HT.out]; rfl, hb⟩
end Go.Proofs.YtkchakcebdenjaaGreat
