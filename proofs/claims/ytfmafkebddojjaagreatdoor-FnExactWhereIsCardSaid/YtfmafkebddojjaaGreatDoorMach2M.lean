/-
  Texts that stood by themselves, laid into one.
-/
import Derived.Test.YtfmafkebddojjaaGreatDoorRulesM
import Derived.Test.YtfmafkebddojjaaGreatDoorBsM
import Derived.Test.YtfmafkebddojjaaGreatDoorMcTM
/-
  The contracts of impl.defsFit, impl.CodeOk and spec.CodeOk. No condition.
-/
set_option maxRecDepth 100000
set_option maxHeartbeats 4000000
namespace Go.Proofs.YtfmafkebddojjaaGreatDoor
open Go.RowKit
def dfB (ds : List Df) (n2 : Nat) (d : Df) (i : Nat) : Bool :=
 ZbQ d.s && (Zbe ds d.s 0 == (i : Int)) && (decide (0 <= d.p) && decide (d.p < n2)) && (decide (0 <= d.m) && decide (d.m <= 4))
def dfsB (all : List Df) (n2 : Nat) (ds : List Df) (i : Nat) : Bool := match ds with
 | [] => true
 | d :: ds => dfB all n2 d i && dfsB all n2 ds (i + 1)
theorem Zc9 (ds : List Df) (i n2 : Nat) (x : Df) (h : ds[i]? = some x) : dfsB ds n2 (ds.drop i) i = (dfB ds n2 x i && dfsB ds n2 (ds.drop (i + 1)) (i + 1)) := by
 obtain ⟨hl, he⟩ := List.getElem?_eq_some_iff.1 h
 rw [List.drop_eq_getElem_cons hl, he]
 rfl
def Za3 (ns : List Nd) (is : List In) (ds : List Df) : Bool :=
 Zap ns && (decide (is.length <= 400) && insB is 0 ns.length is.length) && (decide (ds.length <= 20) && dfsB ds is.length ds 0)
theorem ZfV (n : Int) (w : World) : Calls Tryz.prog 195 #[.int .i64 n] w fun e w' => e = .returned (.bool (decide (0 <= n) && decide (n <= 4))) /\ w' = w := by
 go_enter Tryz.func195, Tryz.ntmps195
 go_wp2
 all_goals
  go_ret
  refine ⟨retB ?_, rfl⟩
  first | (simp [*]; done) | (simp [*]; omega)
theorem Zcu (a1 a2 a3 : Option Addr) (n1 n2 n3 c1 c2 c3 : Nat) (n : Int) (w : World) : Calls Tryz.prog 194 #[.agg #[.slice a1 n1 c1, .slice a2 n2 c2, .slice a3 n3 c3], .int .i64 n] w fun e w' => e = .returned (.bool (decide (0 <= n) && decide (n < n2))) /\ Below w.heap.size w w' := by
 go_enter Tryz.func194, Tryz.ntmps194
 go_wp2
 all_goals
  go_ret
  refine ⟨retB ?_, (Below.refl _ _).alloc (Nat.le_refl _) _⟩
  first | (simp [*]; done) | (simp [*]; omega)
theorem ZfP (a1 a2 : Option Addr) (n1 c1 n2 c2 : Nat) (v3 : Value) (ds : List Df) (w : World) (R : DfRow w v3 ds) :
  Calls Tryz.prog 154 #[.agg #[.slice a1 n1 c1, .slice a2 n2 c2, v3]] w fun e w' => e = .returned (.bool (decide (ds.length <= 20) && dfsB ds n2 ds 0)) /\ Below w.heap.size w w' := by
 have R' := R
 obtain ⟨a3, c3, rfl, hcap, hm, hz, hcell⟩ := R'
 have hB0 : Below w.heap.size w (w.alloc (Obj.cells #[.slice a1 n1 c1, .slice a2 n2 c2, .slice a3 ds.length c3] 44)) := (Below.refl _ _).alloc (Nat.le_refl _) _
 by_cases hl : ds.length <= 20
 ·have HL : Hid (decide (ds.length <= 20) = true) := by unfold Hid; simp [hl]
  go_enter Tryz.func154, Tryz.ntmps154
  have hx0 := heap_alloc_new w (Obj.cells #[.slice a1 n1 c1, .slice a2 n2 c2, .slice a3 ds.length c3] 44)
  have hs0 : w.heap.size < (w.alloc (Obj.cells #[.slice a1 n1 c1, .slice a2 n2 c2, .slice a3 ds.length c3] 44)).heap.size := by simp
  go_wp2_with fail
  generalize w.alloc (Obj.cells #[.slice a1 n1 c1, .slice a2 n2 c2, .slice a3 ds.length c3] 44) = w0 at *
  go_loopw [12] (fun i wr => ∃ k : Nat, k <= ds.length /\ i = .int .i64 k /\ Hid (dfsB ds n2 ds 0 = dfsB ds n2 (ds.drop k) k) /\ Below w0.heap.size w0 wr) (fun i _ => ds.length - (intOf i).toNat)
  case atStart => exact ⟨0, by omega, rfl, rfl, Below.refl _ _⟩
  case round =>
   obtain ⟨k, hk, rfl, HK, hb⟩ := hrel
   have hB := hB0.trans (hb.mono hB0.size)
   by_cases hlt : k < ds.length
   ·obtain ⟨g, o, rfl, hg, hcell⟩ := hcell (by intro e; subst e; simp at hlt)
    obtain ⟨x, hx⟩ : ∃ x, ds[k]? = some x := ⟨ds[k], by simp [hlt]⟩
    obtain ⟨d0, d1, d2⟩ := (hcell k x hx).below hB hg
    have hxz := hz x (List.mem_of_getElem? hx)
    have HI : Hid (dfsB ds n2 ds 0 = (dfB ds n2 x k && dfsB ds n2 (ds.drop (k + 1)) (k + 1))) := by unfold Hid; rw [HK.out, Zc9 ds k n2 x hx]
    have hxr := (hb.block _ hs0).trans hx0
    have hs0r := Nat.lt_of_lt_of_le hs0 hb.size
    clear hcell hx HK hx0
    have q0 : wr.cell? ⟨w.heap.size, 0, none⟩ = some (.slice a1 n1 c1) := by rw [cell_of_row wr _ 0 _ _ _ hxr]; rfl
    have q1 : wr.cell? ⟨w.heap.size, 0 + 1, none⟩ = some (.slice a2 n2 c2) := by rw [cell_of_row wr _ 1 _ _ _ hxr]; rfl
    have q2 : wr.cell? ⟨w.heap.size, 0 + 2, none⟩ = some (.slice (some ⟨g, o, none⟩) ds.length c3) := by rw [cell_of_row wr _ 2 _ _ _ hxr]; rfl
    go_wp2_with fail
    refine (Zdo x.s _ hxz).mono ?_
    rintro e w1 ⟨rfl, rfl⟩
    have hB1 : Below w.heap.size w (wr.alloc (Obj.cells #[.string x.s, .int .i64 x.p, .int .i64 x.m] 177)) := hB.alloc hB.size _
    have hb1 : Below w0.heap.size w0 (wr.alloc (Obj.cells #[.string x.s, .int .i64 x.p, .int .i64 x.m] 177)) := hb.alloc hb.size _
    cases hnm : ZbQ x.s with
    | false =>
     have HR : Hid (dfsB ds n2 ds 0 = false) := by unfold Hid; rw [HI.out]; simp [dfB, hnm]
     go_wp2
     go_ret
     exact ⟨by rw [HL.out, HR.out]; rfl, hB1⟩
    | true =>
     go_wp2_with fail
     refine (ZhR _ _ _ _ _ _ _ ds x.s _ (R.below hB1)).mono ?_
     rintro e w2 ⟨rfl, hb2⟩
     have hB2 := hB1.trans (hb2.mono hB1.size)
     have hbb2 := hb1.trans (hb2.mono hb1.size)
     have hx2 : w2.heap[w.heap.size]? = some (.cells #[.slice a1 n1 c1, .slice a2 n2 c2, .slice (some ⟨g, o, none⟩) ds.length c3] 44 (0, 0)) := (hb2.block _ (by simp; omega)).trans ((heap_alloc_old _ _ hs0r).trans hxr)
     have hy2 : w2.heap[wr.heap.size]? = some (.cells #[.string x.s, .int .i64 x.p, .int .i64 x.m] 177 (0, 0)) := (hb2.block _ (by simp)).trans (heap_alloc_new _ _)
     have hsx2 := (bl hx2)
     have hsy2 := (bl hy2)
     have r0 : w2.cell? ⟨w.heap.size, 0, none⟩ = some (.slice a1 n1 c1) := by rw [cell_of_row w2 _ 0 _ _ _ hx2]; rfl
     have r1 : w2.cell? ⟨w.heap.size, 0 + 1, none⟩ = some (.slice a2 n2 c2) := by rw [cell_of_row w2 _ 1 _ _ _ hx2]; rfl
     have r2 : w2.cell? ⟨w.heap.size, 0 + 2, none⟩ = some (.slice (some ⟨g, o, none⟩) ds.length c3) := by rw [cell_of_row w2 _ 2 _ _ _ hx2]; rfl
     have t1 : w2.cell? ⟨wr.heap.size, 0 + 1, none⟩ = some (.int .i64 x.p) := by rw [cell_of_row w2 _ 1 _ _ _ hy2]; rfl
     have t2 : w2.cell? ⟨wr.heap.size, 0 + 2, none⟩ = some (.int .i64 x.m) := by rw [cell_of_row w2 _ 2 _ _ _ hy2]; rfl
     clear hb2 hB1 hb1 q0 q1 q2
     by_cases hix : Zbe ds x.s 0 = (k : Int)
     ·rw [hix]
      go_wp2_with fail
      refine (Zcu _ _ _ _ _ _ _ _ _ _ _).mono ?_
      rintro e w3 ⟨rfl, hb3⟩
      have hB3 := hB2.trans (hb3.mono hB2.size)
      have hbb3 := hbb2.trans (hb3.mono hbb2.size)
      have t2' := (hb3.cell (p := ⟨wr.heap.size, 0 + 2, none⟩) hsy2).trans t2
      clear r0 r1 r2 t1 t2 hb3 hB2 hbb2
      cases hpl : (decide (0 <= x.p) && decide (x.p < n2)) with
      | false =>
       have HR : Hid (dfsB ds n2 ds 0 = false) := by unfold Hid; rw [HI.out, dfB, hpl]; simp
       go_wp2
       go_ret
       exact ⟨by rw [HL.out, HR.out]; rfl, hB3⟩
      | true =>
       go_wp2_with fail
       refine (ZfV _ _).mono ?_
       rintro e w4 ⟨rfl, rfl⟩
       clear t2'
       cases hag : (decide (0 <= x.m) && decide (x.m <= 4)) with
       | false =>
        have HR : Hid (dfsB ds n2 ds 0 = false) := by unfold Hid; rw [HI.out, dfB, hag]; simp
        go_wp2
        go_ret
        exact ⟨by rw [HL.out, HR.out]; rfl, hB3⟩
       | true =>
        have HR : Hid (dfsB ds n2 ds 0 = dfsB ds n2 (ds.drop (k + 1)) (k + 1)) := by unfold Hid; rw [HI.out, dfB, hag, hpl, hnm, hix]; simp
        go_wp2
        go_roundw
        case rel => exact ⟨k + 1, by omega, by go_num, HR, hbb3⟩
        case measure => simp [intOf]; omega
     ·have HR : Hid (dfsB ds n2 ds 0 = false) := by unfold Hid; rw [HI.out]; simp [dfB, hix]
      generalize Zbe ds x.s 0 = ix at hix
      go_wp2
      go_ret
      exact ⟨by rw [HL.out, HR.out]; rfl, hB2⟩
   ·have HR : Hid (dfsB ds n2 ds 0 = true) := by unfold Hid; rw [HK.out, List.drop_eq_nil_of_le (by omega)]; rfl
    clear HK hcell
    go_wp2
    go_ret
    exact ⟨by rw [HL.out, HR.out]; rfl, hB⟩
 ·have HL : Hid (decide (ds.length <= 20) = false) := by unfold Hid; simp [hl]
  go_enter Tryz.func154, Tryz.ntmps154
  go_wp2
  go_ret
  exact ⟨by rw [HL.out]; rfl, hB0⟩
theorem Zgk (v1 v2 v3 : Value) (ns : List Nd) (is : List In) (ds : List Df) (w : World) (R1 : NRow w v1 ns) (R2 : InRow w v2 is) (R3 : DfRow w v3 ds) :
  Calls Tryz.prog 105 #[.agg #[v1, v2, v3]] w fun e w' => e = .returned (.bool (Za3 ns is ds)) /\ Below w.heap.size w w' := by
 obtain ⟨a1, c1, rfl⟩ := R1.small
 obtain ⟨a2, c2, rfl⟩ := R2.small
 obtain ⟨a3, c3, rfl⟩ := R3.small
 have hB0 : Below w.heap.size w (w.alloc (Obj.cells #[.slice a1 ns.length c1, .slice a2 is.length c2, .slice a3 ds.length c3] 44)) := (Below.refl _ _).alloc (Nat.le_refl _) _
 go_enter Tryz.func105, Tryz.ntmps105
 go_wp2_with fail
 refine (Zfy _ ns _ (R1.below hB0)).mono ?_
 rintro e w1 ⟨rfl, hb1⟩
 have hx1 : w1.heap[w.heap.size]? = some (.cells #[.slice a1 ns.length c1, .slice a2 is.length c2, .slice a3 ds.length c3] 44 (0, 0)) := (hb1.block _ (by simp)).trans (heap_alloc_new _ _)
 have hB1 := hB0.trans (hb1.mono hB0.size)
 have hs1 := (bl hx1)
 have r0 : w1.cell? ⟨w.heap.size, 0, none⟩ = some (.slice a1 ns.length c1) := by rw [cell_of_row w1 _ 0 _ _ _ hx1]; rfl
 have r1 : w1.cell? ⟨w.heap.size, 0 + 1, none⟩ = some (.slice a2 is.length c2) := by rw [cell_of_row w1 _ 1 _ _ _ hx1]; rfl
 have r2 : w1.cell? ⟨w.heap.size, 0 + 2, none⟩ = some (.slice a3 ds.length c3) := by rw [cell_of_row w1 _ 2 _ _ _ hx1]; rfl
 clear hB0 hb1
 cases hp : Zap ns with
 | false =>
  have HR : Hid (Za3 ns is ds = false) := by unfold Hid; simp [Za3, hp]
  go_wp2
  go_ret
  exact ⟨by rw [HR.out]; rfl, hB1⟩
 | true =>
  go_wp2_with fail
  refine (ZeM _ _ _ _ _ _ _ is _ (R2.below hB1)).mono ?_
  rintro e w2 ⟨rfl, hb2⟩
  have hx2 := (hb2.block _ hs1).trans hx1
  have hB2 := hB1.trans (hb2.mono hB1.size)
  have q0 : w2.cell? ⟨w.heap.size, 0, none⟩ = some (.slice a1 ns.length c1) := by rw [cell_of_row w2 _ 0 _ _ _ hx2]; rfl
  have q1 : w2.cell? ⟨w.heap.size, 0 + 1, none⟩ = some (.slice a2 is.length c2) := by rw [cell_of_row w2 _ 1 _ _ _ hx2]; rfl
  have q2 : w2.cell? ⟨w.heap.size, 0 + 2, none⟩ = some (.slice a3 ds.length c3) := by rw [cell_of_row w2 _ 2 _ _ _ hx2]; rfl
  clear hb2 hx1 r0 r1 r2 hB1 hs1
  cases hi : (decide (is.length <= 400) && insB is 0 ns.length is.length) with
  | false =>
   have HR : Hid (Za3 ns is ds = false) := by unfold Hid; rw [Za3, hi]; simp
   go_wp2
   go_ret
   exact ⟨by rw [HR.out]; rfl, hB2⟩
  | true =>
   have HR : Hid (Za3 ns is ds = (decide (ds.length <= 20) && dfsB ds is.length ds 0)) := by unfold Hid; rw [Za3, hi, hp]; simp
   go_wp2_with fail
   refine (ZfP _ _ _ _ _ _ _ ds _ (R3.below hB2)).mono ?_
   rintro e w3 ⟨rfl, hb3⟩
   have hB3 := hB2.trans (hb3.mono hB2.size)
   clear hb3 hx2 q0 q1 q2 hB2
   rw [<- HR.out]
   go_wp2
   go_ret
   exact ⟨rfl, hB3⟩
theorem Zga (v1 v2 v3 : Value) (ns : List Nd) (is : List In) (ds : List Df) (w : World) (R1 : NRow w v1 ns) (R2 : InRow w v2 is) (R3 : DfRow w v3 ds) :
  Calls Tryz.prog 75 #[.agg #[v1, v2, v3]] w fun e w' => e = .returned (.bool (Za3 ns is ds)) /\ Below w.heap.size w w' := by
 have hn1 : ns.length <= 9223372036854775807 := by obtain ⟨_, _, _, _, hm, _⟩ := R1; exact hm
 have hn2 : is.length <= 9223372036854775807 := by obtain ⟨_, _, _, _, hm, _⟩ := R2; exact hm
 obtain ⟨a1, c1, rfl⟩ := R1.small
 obtain ⟨a2, c2, rfl⟩ := R2.small
 have R3' := R3
 obtain ⟨a3, c3, rfl, hcap, hm, hz, hcell⟩ := R3'
 have hB0 : Below w.heap.size w (w.alloc (Obj.cells #[.slice a1 ns.length c1, .slice a2 is.length c2, .slice a3 ds.length c3] 44)) := (Below.refl _ _).alloc (Nat.le_refl _) _
 go_enter Tryz.func75, Tryz.ntmps75
 go_wp2_with fail
 refine (Zb8 _ ns _ (R1.below hB0)).mono ?_
 rintro e w1 ⟨rfl, hb1⟩
 have hx1 : w1.heap[w.heap.size]? = some (.cells #[.slice a1 ns.length c1, .slice a2 is.length c2, .slice a3 ds.length c3] 44 (0, 0)) := (hb1.block _ (by simp)).trans (heap_alloc_new _ _)
 have hB1 := hB0.trans (hb1.mono hB0.size)
 have hs1 := (bl hx1)
 have r1 : w1.cell? ⟨w.heap.size, 0 + 1, none⟩ = some (.slice a2 is.length c2) := by rw [cell_of_row w1 _ 1 _ _ _ hx1]; rfl
 have r2 : w1.cell? ⟨w.heap.size, 0 + 2, none⟩ = some (.slice a3 ds.length c3) := by rw [cell_of_row w1 _ 2 _ _ _ hx1]; rfl
 clear hB0 hb1
 cases hp : Zap ns with
 | false =>
  have HR : Hid (Za3 ns is ds = false) := by unfold Hid; simp [Za3, hp]
  go_wp2
  go_ret
  exact ⟨by rw [HR.out]; rfl, hB1⟩
 | true =>
  by_cases h4 : is.length <= 400
  ·by_cases h2 : ds.length <= 20
   ·have HC : Hid (Za3 ns is ds = (insB is 0 ns.length is.length && dfsB ds is.length ds 0)) := by unfold Hid; simp [Za3, hp, h4, h2]
    go_wp2_with fail
    go_loopw [3] (fun i wr => ∃ k : Nat, k <= is.length /\ i = .int .i64 k /\ Hid (insB is 0 ns.length is.length = insB (is.drop k) k ns.length is.length) /\ Below w1.heap.size w1 wr) (fun i _ => is.length - (intOf i).toNat)
    case atStart => exact ⟨0, by omega, rfl, rfl, Below.refl _ _⟩
    case round =>
     obtain ⟨k, hk, rfl, HK, hb⟩ := hrel
     have hB := hB1.trans (hb.mono hB1.size)
     have hxr := (hb.block _ hs1).trans hx1
     have q0 : wr.cell? ⟨w.heap.size, 0, none⟩ = some (.slice a1 ns.length c1) := by rw [cell_of_row wr _ 0 _ _ _ hxr]; rfl
     have q1 : wr.cell? ⟨w.heap.size, 0 + 1, none⟩ = some (.slice a2 is.length c2) := by rw [cell_of_row wr _ 1 _ _ _ hxr]; rfl
     have q2 : wr.cell? ⟨w.heap.size, 0 + 2, none⟩ = some (.slice a3 ds.length c3) := by rw [cell_of_row wr _ 2 _ _ _ hxr]; rfl
     by_cases hlt : k < is.length
     ·obtain ⟨x, hx⟩ : ∃ x, is[k]? = some x := ⟨is[k], by simp [hlt]⟩
      have HI : Hid (insB is 0 ns.length is.length = (Zav x k ns.length is.length && insB (is.drop (k + 1)) (k + 1) ns.length is.length)) := by unfold Hid; rw [HK.out, Zfj is k ns.length is.length x hx]
      have HX : Hid (is[k]? = some x) := hx
      clear hcell HK hx
      go_wp2_with fail
      refine (Zhy _ _ _ _ _ _ _ is k x _ (R2.below hB) HX.out hn1).mono ?_
      rintro e w2 ⟨rfl, hb2⟩
      have hB2 := hB.trans (hb2.mono hB.size)
      have hbb2 := hb.trans (hb2.mono hb.size)
      clear q0 q1 q2 hb2 r1 r2
      generalize Zav x k ns.length is.length = b at HI
      cases b with
      | false =>
       have HR : Hid (Za3 ns is ds = false) := by unfold Hid; rw [HC.out, HI.out]; rfl
       go_wp2
       go_ret
       exact ⟨by rw [HR.out]; rfl, hB2⟩
      | true =>
       go_wp2
       go_roundw
       case rel => exact ⟨k + 1, by omega, by go_num, (by unfold Hid; rw [HI.out, Bool.true_and]), hbb2⟩
       case measure => simp [intOf]; omega
     ·have HI : Hid (Za3 ns is ds = dfsB ds is.length ds 0) := by unfold Hid; rw [HC.out, HK.out, List.drop_eq_nil_of_le (by omega)]; simp [insB]
      have hsr := (bl hxr)
      clear HK HC r1 r2 hx1
      go_wp2_with fail
      go_loopw [4] (fun i wq => ∃ k : Nat, k <= ds.length /\ i = .int .i64 k /\ Hid (dfsB ds is.length ds 0 = dfsB ds is.length (ds.drop k) k) /\ Below wr.heap.size wr wq) (fun i _ => ds.length - (intOf i).toNat)
      case atStart => exact ⟨0, by omega, rfl, rfl, Below.refl _ _⟩
      case round =>
       obtain ⟨k2, hk2, rfl, HK, hb'⟩ := hrel
       have hB' := hB.trans (hb'.mono hB.size)
       have hxq := (hb'.block _ hsr).trans hxr
       have hsq := Nat.lt_of_lt_of_le hsr hb'.size
       have p0 : wr.cell? ⟨w.heap.size, 0, none⟩ = some (.slice a1 ns.length c1) := by rw [cell_of_row wr _ 0 _ _ _ hxq]; rfl
       have p1 : wr.cell? ⟨w.heap.size, 0 + 1, none⟩ = some (.slice a2 is.length c2) := by rw [cell_of_row wr _ 1 _ _ _ hxq]; rfl
       have p2 : wr.cell? ⟨w.heap.size, 0 + 2, none⟩ = some (.slice a3 ds.length c3) := by rw [cell_of_row wr _ 2 _ _ _ hxq]; rfl
       clear q0 q1 q2 hxr
       by_cases hlt2 : k2 < ds.length
       ·obtain ⟨g, o, rfl, hg, hcell⟩ := hcell (by intro e; subst e; simp at hlt2)
        obtain ⟨x, hx⟩ : ∃ x, ds[k2]? = some x := ⟨ds[k2], by simp [hlt2]⟩
        obtain ⟨d0, d1, d2⟩ := (hcell k2 x hx).below hB' hg
        have hxz := hz x (List.mem_of_getElem? hx)
        have HJ : Hid (Za3 ns is ds = (dfB ds is.length x k2 && dfsB ds is.length (ds.drop (k2 + 1)) (k2 + 1))) := by unfold Hid; rw [HI.out, HK.out, Zc9 ds k2 is.length x hx]
        have HD : Hid (dfsB ds is.length (ds.drop k2) k2 = (dfB ds is.length x k2 && dfsB ds is.length (ds.drop (k2 + 1)) (k2 + 1))) := Zc9 ds k2 is.length x hx
        clear hcell hx
        go_wp2_with fail
        refine (ZaN x.s _ hxz).mono ?_
        rintro e w2 ⟨rfl, rfl⟩
        have hB2 : Below w.heap.size w (wr.alloc (Obj.cells #[.string x.s, .int .i64 x.p, .int .i64 x.m] 177)) := hB'.alloc hB'.size _
        have hb2 : Below _ _ (wr.alloc (Obj.cells #[.string x.s, .int .i64 x.p, .int .i64 x.m] 177)) := hb'.alloc hb'.size _
        cases hnm : ZbQ x.s with
        | false =>
         have HR : Hid (Za3 ns is ds = false) := by unfold Hid; rw [HJ.out]; simp [dfB, hnm]
         go_wp2
         go_ret
         exact ⟨by rw [HR.out]; rfl, hB2⟩
        | true =>
         go_wp2_with fail
         refine (Zhx _ _ _ _ _ _ _ ds x.s _ (R3.below hB2)).mono ?_
         rintro e w3 ⟨rfl, hb3⟩
         have hB3 := hB2.trans (hb3.mono hB2.size)
         have hbb3 := hb2.trans (hb3.mono hb2.size)
         have hx3 : w3.heap[w.heap.size]? = some (.cells #[.slice a1 ns.length c1, .slice a2 is.length c2, .slice (some ⟨g, o, none⟩) ds.length c3] 44 (0, 0)) := (hb3.block _ (by simp; omega)).trans ((heap_alloc_old _ _ hsq).trans hxq)
         have hy3 : w3.heap[wr.heap.size]? = some (.cells #[.string x.s, .int .i64 x.p, .int .i64 x.m] 177 (0, 0)) := (hb3.block _ (by simp)).trans (heap_alloc_new _ _)
         have r1 : w3.cell? ⟨w.heap.size, 0 + 1, none⟩ = some (.slice a2 is.length c2) := by rw [cell_of_row w3 _ 1 _ _ _ hx3]; rfl
         have t1 : w3.cell? ⟨wr.heap.size, 0 + 1, none⟩ = some (.int .i64 x.p) := by rw [cell_of_row w3 _ 1 _ _ _ hy3]; rfl
         have t2 : w3.cell? ⟨wr.heap.size, 0 + 2, none⟩ = some (.int .i64 x.m) := by rw [cell_of_row w3 _ 2 _ _ _ hy3]; rfl
         clear hb3 hB2 hb2 p0 p1 p2
         by_cases hix : Zbe ds x.s 0 = (k2 : Int)
         ·rw [hix]
          go_wp2_with fail
          refine (Zau _ _ _ _).mono ?_
          rintro e w4 ⟨rfl, rfl⟩
          have HP : Hid ((decide (0 <= x.p) && decide (x.p <= (is.length : Int) - 1)) = (decide (0 <= x.p) && decide (x.p < is.length))) := by unfold Hid; rw [Bool.eq_iff_iff]; simp; omega
          rw [HP.out]
          clear r1 t1
          cases hpl : (decide (0 <= x.p) && decide (x.p < is.length)) with
          | false =>
           have HR : Hid (Za3 ns is ds = false) := by unfold Hid; rw [HJ.out, dfB, hpl]; simp
           go_wp2
           go_ret
           exact ⟨by rw [HR.out]; rfl, hB3⟩
          | true =>
           go_wp2_with fail
           refine (Zau _ _ _ _).mono ?_
           rintro e w4 ⟨rfl, rfl⟩
           clear t2
           cases hag : (decide (0 <= x.m) && decide (x.m <= 4)) with
           | false =>
            have HR : Hid (Za3 ns is ds = false) := by unfold Hid; rw [HJ.out, dfB, hag]; simp
            go_wp2
            go_ret
            exact ⟨by rw [HR.out]; rfl, hB3⟩
           | true =>
            have HR : Hid (dfsB ds is.length ds 0 = dfsB ds is.length (ds.drop (k2 + 1)) (k2 + 1)) := by unfold Hid; rw [HK.out, HD.out, dfB, hag, hpl, hnm, hix]; simp
            go_wp2
            go_roundw
            case rel => exact ⟨k2 + 1, by omega, by go_num, HR, hbb3⟩
            case measure => simp [intOf]; omega
         ·have HR : Hid (Za3 ns is ds = false) := by unfold Hid; rw [HJ.out]; simp [dfB, hix]
          generalize Zbe ds x.s 0 = ix at hix
          go_wp2
          go_ret
          exact ⟨by rw [HR.out]; rfl, hB3⟩
       ·have HR : Hid (Za3 ns is ds = true) := by unfold Hid; rw [HI.out, HK.out, List.drop_eq_nil_of_le (by omega)]; rfl
        clear HK hcell
        go_wp2
        go_ret
        exact ⟨by rw [HR.out]; rfl, hB'⟩
   ·have HR : Hid (Za3 ns is ds = false) := by unfold Hid; simp [Za3, h2]
    go_wp2
    go_ret
    exact ⟨by rw [HR.out]; rfl, hB1⟩
  ·have HR : Hid (Za3 ns is ds = false) := by unfold Hid; simp [Za3, h4]
   go_wp2
   go_ret
   exact ⟨by rw [HR.out]; rfl, hB1⟩
theorem Zax {P : Program} (w : World) {ops : Array Oper} {rest : List Oper} {o : Oper} {a : Act} {Q : Exit -> Act -> World -> Prop}
  (hg : o.guard = none) (s x : Operand) (t : TypeId) (hop : o.op = Op.call { callee := Callee.builtin Builtin.append, args := #[s, x], argTypes := #[t, t] })
  (base : Nat) (e : TypeId) (i : TypeInfo) (z : Value) (size bytes : Nat) (h1 : P.underlying t = some (.slice e)) (h2 : P.info? e = some i) (h3 : i.zero = some z) (h4 : i.size = size) (h5 : i.bytes = bytes) (h6 : z.cells.size = size) (h7 : 0 < size)
  (v : Value) (k : Nat) (xs : List Value) (hs : a.eval s = v) (hown : w.ownsRow base e size v k xs) (ao : Option Addr) (m c : Nat) (news : List Value) (hx : a.eval x = .slice ao m c) (hn : news.length = m * size)
  (hnone : ao = none -> m = 0 /\ c = 0) (hc : ∀ ad, ao = some ad -> ∀ j u, news[j]? = some u -> w.cell? (ad.add j) = some u) (h1c : ∀ u ∈ news, u.oneCell' = true) (b1 : k + m <= maxLen) (b2 : (k + m) * bytes <= 140737488355328) (b3 : base <= w.heap.size)
  (hK : ∀ v' w', w'.ownsRow base e size v' (k + m) (xs ++ news) -> w.grownBy w' v.ownBlock -> wpList P ops Q rest (a.put o.dst v') w') :
  wpList P ops Q (o :: rest) a w := by
 cases ao with
 | some ad => exact wpList_append_own w hg s x t hop base e i z size bytes h1 h2 h3 h4 h5 h6 h7 v k xs hs hown ad m c news hx hn (hc ad rfl) h1c b1 b2 b3 (fun v' w' h1 h2 _ => hK v' w' h1 h2)
 | none =>
  obtain ⟨rfl, rfl⟩ := hnone rfl
  have hnews : news = [] := List.eq_nil_of_length_eq_zero (by simpa using hn)
  subst hnews
  refine wpList_plain hg fun K hK' => ?_
  have hrun := run_append_owned_none (P := P) w base t o.type e i size h1 h2 _ k xs hown
  unfold Oper.wp
  simp [execOp, hop, resolve, invoke, builtin, hs, hx, hrun, Result.andThen]
  exact hK' _ _ (by simpa using hK v w (by simpa using hown) (World.grownBy.refl _ _))
theorem NRow.nilcap {w : World} {ao : Option Addr} {n cap : Nat} {xs : List Nd} (h : NRow w (.slice ao n cap) xs) : ao = none -> n = 0 /\ cap = 0 := by
 obtain ⟨ao', cap', e, ⟨h1, h2⟩, _⟩ := h
 simp only [Value.slice.injEq] at e
 obtain ⟨rfl, rfl, rfl⟩ := e
 intro h
 have := h2 h
 omega
theorem ZmA : (Tryz.prog.info? 40).map (·.size) = some 1 := by kernel_rfl
theorem Zjl (v : Value) (xs : List Nd) (w : World) (R : NRow w v xs) (hm : xs.length <= 4194304) :
  Calls Tryz.prog 250 #[.agg #[v]] w fun e w' => ∃ v', e = .returned (.agg #[v']) /\ w'.ownsRow w.heap.size 210 5 v' xs.length (ncs xs) /\ Below w.heap.size w w' := by
 have R' := R
 obtain ⟨ao, cap, rfl, hcap, _, _, _⟩ := R'
 obtain ⟨i0, hi, hz0, hz1, hz2⟩ := info_parts ZmD
 have hB0 : Below w.heap.size w (((w.alloc (Obj.cells #[.slice ao xs.length cap] 40)).alloc (Obj.cells #[.slice none 0 0] 40)).alloc (Obj.cells #[] 210)) := (((Below.refl _ _).alloc (Nat.le_refl _) _).alloc (by simp) _).alloc (by simp; omega) _
 have R1 := R.below hB0
 have own1 : (((w.alloc (Obj.cells #[.slice ao xs.length cap] 40)).alloc (Obj.cells #[.slice none 0 0] 40)).alloc (Obj.cells #[] 210)).ownsRow (w.heap.size + 2) 210 5 (.slice (some ⟨w.heap.size + 1 + 1, 0, none⟩) 0 0) 0 (ncs []) := by
  have := World.ownsRow_made (base := w.heap.size + 2) (e := 210) (size := 5) ((w.alloc (Obj.cells #[.slice ao xs.length cap] 40)).alloc (Obj.cells #[.slice none 0 0] 40)) #[] 0 (by simp) (by simp) (by simp)
  simpa [Zjh] using this
 go_enter Tryz.func250, Tryz.ntmps250
 go_wp2_with (at_builtin; refine Zax _ rfl _ _ 38 rfl (w.heap.size + 2) 210 i0 _ 5 48 Tryz.underlying38 hi hz0 hz1 hz2 rfl (by decide) _ 0 _ rfl own1 ao xs.length cap (ncs xs) rfl (by rw [Zcd]) R1.nilcap R1.cells (ZaZ xs) (by unfold maxLen; omega) (by omega) (by simp) ?_)
 intro v2 w2 hown2 hg2
 obtain ⟨ao2, cap2, rfl⟩ := Zae hown2
 have hbel2 : Below (w.heap.size + 2) (((w.alloc (Obj.cells #[.slice ao xs.length cap] 40)).alloc (Obj.cells #[.slice none 0 0] 40)).alloc (Obj.cells #[] 210)) w2 := (Below.refl _ _).grown hg2 (by simp) (fun k hk => by simp [Value.ownBlock] at hk; omega)
 have hB2 := hB0.trans (hbel2.mono (by omega))
 have hy2 : w2.heap[w.heap.size + 1]? = some (.cells #[.slice none 0 0] 40 (0, 0)) := (hbel2.block _ (by omega)).trans ((heap_alloc_old _ _ (by simp)).trans (heap_alloc2_new _ _ _))
 have c3 : w2.cell? ⟨w.heap.size + 1, 0, none⟩ = some (.slice none 0 0) := by rw [cell_of_row w2 _ 0 _ _ _ hy2]; rfl
 have f3 : w2.frozen? ⟨w.heap.size + 1, 0, none⟩ = false := frozen_of_row w2 _ 0 _ _ hy2
 clear hg2 R1 own1 hbel2
 go_wp2
 have hb4 := heap_setCell_same w2 (w.heap.size + 1) 0 _ _ (.slice ao2 xs.length cap2) hy2
 refine bodyPost_ret (results_cell_row rfl _ _ (w.heap.size + 1) 40 _ (0, 0) _ (by simp) hb4 Tryz.underlying40 rfl ZmA) rfl ⟨_, rfl, ?_, ?_⟩
 ·have := Zaf (B' := w.heap.size) (ownsRow_setCell_below hown2 (a := ⟨w.heap.size + 1, 0, none⟩) (by simp) (.slice ao2 xs.length cap2)) (by omega)
  simpa [Zjh] using this
 ·exact hB2.setCell (p := ⟨w.heap.size + 1, 0, none⟩) (by simp) _
def ZlZ (xs : List Nd) (x : Nd) : List Nd := if Zap xs = true then (if xs.length ≠ 3000 /\ Zaw x xs.length = true then xs ++ [x] else xs) else []
def Zl1 (xs : List Nd) (x : Nd) : Int := if Zap xs = true then (if xs.length ≠ 3000 /\ Zaw x xs.length = true then xs.length else -1) else -1
theorem ZjI {B base0 base1 n cap : Nat} {w0 w2 : World} {ao : Option Addr} {xs : List Value} (hy : w2.heap[B]? = some (.cells #[.slice none 0 0] 40 (0, 0))) (ho : w2.ownsRow base1 210 5 (.slice ao n cap) n xs)
  (hB : Below base0 w0 w2) (h1 : B < base1) (h2 : base0 <= B) :
  (w2.setCell ⟨B, 0, none⟩ (.slice ao n cap)).heap[B]? = some (.cells #[.slice ao n cap] 40 (0, 0)) /\ (w2.setCell ⟨B, 0, none⟩ (.slice ao n cap)).ownsRow base0 210 5 (.slice ao n cap) n xs /\ Below base0 w0 (w2.setCell ⟨B, 0, none⟩ (.slice ao n cap)) :=
 ⟨heap_setCell_same w2 B 0 _ _ _ hy, Zaf (ownsRow_setCell_below ho (a := ⟨B, 0, none⟩) h1 _) (by omega), hB.setCell (p := ⟨B, 0, none⟩) h2 _⟩
def IRow (w : World) (v : Value) (zs : List Int) : Prop :=
 ∃ ao cap, v = .slice ao zs.length cap /\ (zs.length <= cap /\ (ao = none -> cap = 0)) /\ zs.length <= 9223372036854775807 /\ (zs ≠ [] -> ∃ g o, ao = some ⟨g, o, none⟩ /\ g < w.heap.size /\ ∀ i, i < zs.length -> w.cell? ⟨g, o + i, none⟩ = some (.int .i64 (zs.getD i 0)))
theorem IRow.below {w w' : World} {v : Value} {zs : List Int} (h : IRow w v zs) (hb : Below w.heap.size w w') : IRow w' v zs := by
 obtain ⟨ao, cap, rfl, hc, hm, hcell⟩ := h
 refine ⟨ao, cap, rfl, hc, hm, fun hne => ?_⟩
 obtain ⟨g, o, rfl, hg, hcell⟩ := hcell hne
 exact ⟨g, o, rfl, Nat.lt_of_lt_of_le hg hb.size, fun i hi => (hb.cell (p := ⟨g, o + i, none⟩) hg).trans (hcell i hi)⟩
theorem IRow.of_own {w : World} {base : Nat} {v : Value} {zs : List Int} (h : w.ownsRow base 3 1 v zs.length (iv zs)) (hm : zs.length <= 9223372036854775807) : IRow w v zs := by
 rcases h.2 with ⟨rfl, h0⟩ | ⟨g, cap, cur, rfl, hb, hg, hnc, hcm, hcs, htake⟩
 ·have : zs = [] := List.eq_nil_of_length_eq_zero h0
  subst this
  exact ⟨none, 0, rfl, by simp, by simp, fun h => absurd rfl h⟩
 ·refine ⟨_, cap, rfl, ⟨hnc, fun h => by cases h⟩, hm, fun _ => ⟨g, 0, rfl, (bl hg), fun i hi => ?_⟩⟩
  have := h.cellAt i (by omega)
  rw [Nat.zero_add, this, ZcI zs i hi]
def ZlE (k : Int) (zs : List Int) (i : Nat) : List Int := (List.range i).map (fun (j : Nat) => k + (j : Int)) ++ zs.drop i
def nilN : Nd := ⟨1, 0, ByteArray.empty, 0, 0⟩
def ZlL (z : Int) (last : Nat) : Nd := ⟨5, 0, ByteArray.empty, z, last⟩
def ZkL : List Int -> Nat -> List Nd
 | [], _ => []
 | z :: r, last => ZlL z last :: ZkL r (last + 1)
def more (zs : List Int) (n m : Nat) : List Nd := nilN :: ZkL (zs.drop m).reverse n
def allI (xs : List Nd) (zs : List Int) : Bool := zs.all (hasI xs)
def mlOk (xs : List Nd) (zs : List Int) : Bool := decide (xs.length + 1 + zs.length <= 3000) && allI xs zs
def mlL (xs : List Nd) (zs : List Int) : List Nd := if Zap xs = true then (if mlOk xs zs = true then xs ++ more zs xs.length 0 else xs) else []
def mlI (xs : List Nd) (zs : List Int) : Int := if Zap xs = true then (if mlOk xs zs = true then ((xs.length + zs.length : Nat) : Int) else -1) else -1
theorem ZgE (p : Int -> Bool) (zs : List Int) (k : Nat) (h : k < zs.length) : (zs.drop k).all p = (p (zs.getD k 0) && (zs.drop (k + 1)).all p) := by
 rw [List.drop_eq_getElem_cons h, List.all_cons, List.getD_eq_getElem?_getD, List.getElem?_eq_getElem h]
 rfl
theorem ZhF (v vl : Value) (xs : List Nd) (zs : List Int) (w : World) (R : NRow w v xs) (L : IRow w vl zs) :
  Calls Tryz.prog 231 #[.agg #[v], vl] w fun e w' => e = .returned (.bool (allI xs zs)) /\ Below w.heap.size w w' := by
 have R' := R
 obtain ⟨ao, cap, rfl, _⟩ := R'
 obtain ⟨al, cl, rfl, hcl, hlm, hcell⟩ := L
 go_enter Tryz.func231, Tryz.ntmps231
 go_wp2_with fail
 go_loopw [9] (fun i wr => ∃ k : Nat, k <= zs.length /\ i = .int .i64 k /\ Hid (allI xs zs = (zs.drop k).all (hasI xs)) /\ wr.cell? ⟨w.heap.size, 0, none⟩ = some (.slice ao xs.length cap) /\ w.heap.size < wr.heap.size /\ Below w.heap.size w wr) (fun i _ => zs.length - (intOf i).toNat)
 case atStart => exact ⟨0, by omega, rfl, by simp [Hid, allI], by simp, by simp, (Below.refl _ _).alloc (Nat.le_refl _) _⟩
 case round =>
  obtain ⟨k, hk, rfl, HA, hbox, hbl, hb⟩ := hrel
  by_cases hlt : k < zs.length
  ·obtain ⟨g, o, rfl, hg, hcell⟩ := hcell (by intro e; subst e; simp at hlt)
   have c0 := (hb.cell (p := ⟨g, o + k, none⟩) hg).trans (hcell k hlt)
   have HS : Hid (allI xs zs = (hasI xs (zs.getD k 0) && (zs.drop (k + 1)).all (hasI xs))) := by unfold Hid; rw [HA.out, ZgE _ _ _ hlt]
   clear hcell HA
   generalize zs.getD k 0 = z at c0 HS
   go_wp2_with fail
   refine (Zf7 _ xs _ _ (R.below hb)).mono ?_
   rintro e w2 ⟨rfl, hb2⟩
   have hB2 := hb.trans (hb2.mono hb.size)
   have hbox2 := (hb2.cell (p := ⟨w.heap.size, 0, none⟩) hbl).trans hbox
   have hbl2 := Nat.lt_of_lt_of_le hbl hb2.size
   clear c0 hb2 hbox hb
   generalize hA : hasI xs z = bA at HS ⊢
   clear hA
   cases bA with
   | false =>
    go_wp2
    go_ret
    exact ⟨by rw [HS.out]; rfl, hB2⟩
   | true =>
    go_wp2
    go_roundw
    case rel => exact ⟨k + 1, by omega, by go_num, by rw [HS.out]; rfl, hbox2, hbl2, hB2⟩
    case measure => simp [intOf]; omega
  ·have e : k = zs.length := by omega
   subst e
   have HT : Hid (allI xs zs = true) := by unfold Hid; rw [HA.out, List.drop_length]; rfl
   clear HA
   go_wp2
   go_ret
   exact ⟨by rw [HT.out]; rfl, hb⟩
def Zb1 (n : Nat) (p : Int) : Bool := decide (0 <= p) && decide (p < n)
def askB (q : Int) : Bool := decide (12 < q) && decide (q <= 19) && decide (q ≠ 18)
def Zby (n : Nat) (xs : List Nd) (m : Mc) : Bool :=
  if m.t = 0 then Zb1 n m.p && decide (m.q = 0) && decide (m.r = 0)
  else if m.t = 1 then Zb1 n m.p && askB m.q && hasI xs m.r
  else if m.t = 2 then decide (m.p = 0) && decide (m.q = 0) && hasI xs m.r
  else if m.t = 3 then decide (m.p = 0) && decide (1 <= m.q) && decide (m.q <= 7) && decide (m.r = 0)
  else false
theorem ZfO (q : Int) (w : World) : Calls Tryz.prog 247 #[.int .i64 q] w fun e w' => e = .returned (.bool (askB q)) /\ w' = w := by
  go_enter Tryz.func247, Tryz.ntmps247
  by_cases h1 : 12 < q
  · by_cases h2 : q <= 19
    · by_cases h3 : q = 18
      · subst h3
        go_wp2
        go_ret
        exact ⟨rfl, rfl⟩
      · have q1 : (q == 18) = false := by simp [h3]
        have q2 : decide (q = 18) = false := by simp [h3]
        go_wp2
        go_ret
        exact ⟨by simp [askB, h1, h2, h3], rfl⟩
    · go_wp2
      go_ret
      exact ⟨by simp [askB]; omega, rfl⟩
  · go_wp2
    go_ret
    exact ⟨by simp [askB]; omega, rfl⟩
theorem ZdL (a1 a2 a3 : Option Addr) (n1 n2 n3 c1 c2 c3 : Nat) (v : Value) (xs : List Nd) (m : Mc) (w : World) (R : NRow w v xs) :
    Calls Tryz.prog 232 #[.agg #[.slice a1 n1 c1, .slice a2 n2 c2, .slice a3 n3 c3], .agg #[v, .int .i64 m.p, .int .i64 m.s, .int .i64 m.e, .int .i64 m.d, .int .i64 m.t, .int .i64 m.q, .int .i64 m.r]] w fun e w' => e = .returned (.bool (Zby n2 xs m)) /\ Below w.heap.size w w' := by
  have R' := R
  obtain ⟨ao, cap, rfl, _⟩ := R'
  obtain ⟨mp, ms, me, md, mt, mq, mr⟩ := m
  have hB0 : Below w.heap.size w ((w.alloc (Obj.cells #[.slice a1 n1 c1, .slice a2 n2 c2, .slice a3 n3 c3] 44)).alloc (Obj.cells #[.slice ao xs.length cap, .int .i64 mp, .int .i64 ms, .int .i64 me, .int .i64 md, .int .i64 mt, .int .i64 mq, .int .i64 mr] 81)) := ((Below.refl _ _).alloc (Nat.le_refl _) _).alloc (by simp) _
  have hx0 := heap_alloc2_new w (Obj.cells #[.slice a1 n1 c1, .slice a2 n2 c2, .slice a3 n3 c3] 44) (Obj.cells #[.slice ao xs.length cap, .int .i64 mp, .int .i64 ms, .int .i64 me, .int .i64 md, .int .i64 mt, .int .i64 mq, .int .i64 mr] 81)
  have R0 := R.below hB0
  have hs0 := (bl hx0)
  go_enter Tryz.func232, Tryz.ntmps232
  by_cases t0 : mt = 0
  · subst t0
    go_wp2_with fail
    refine (Zcu _ _ _ _ _ _ _ _ _ mp _).mono ?_
    rintro e w1 ⟨rfl, hb1⟩
    have hB1 := hB0.trans (hb1.mono hB0.size)
    have hx1 := (hb1.block _ hs0).trans hx0
    have k6 : w1.cell? ⟨w.heap.size + 1, 0 + 6, none⟩ = some (.int .i64 mq) := by rw [cell_of_row w1 _ 6 _ _ _ hx1]; rfl
    have k7 : w1.cell? ⟨w.heap.size + 1, 0 + 7, none⟩ = some (.int .i64 mr) := by rw [cell_of_row w1 _ 7 _ _ _ hx1]; rfl
    have HS : Hid (Zby n2 xs ⟨mp, ms, me, md, 0, mq, mr⟩ = ((decide (0 <= mp) && decide (mp < n2)) && decide (mq = 0) && decide (mr = 0))) := rfl
    generalize (decide (0 <= mp) && decide (mp < n2)) = bb at HS ⊢
    clear hx0 hx1 hb1 hB0 R0
    cases bb with
    | true =>
      go_wp2
      all_goals
        go_ret
        refine ⟨retB ?_, hB1⟩
        rw [HS.out]
        first | (simp [*]; done) | (simp [*]; rfl)
    | false =>
      go_wp2
      go_ret
      exact ⟨retB (by rw [HS.out]; rfl), hB1⟩
  · by_cases t1 : mt = 1
    · subst t1
      go_wp2_with fail
      refine (Zcu _ _ _ _ _ _ _ _ _ mp _).mono ?_
      rintro e w1 ⟨rfl, hb1⟩
      have hB1 := hB0.trans (hb1.mono hB0.size)
      have hx1 := (hb1.block _ hs0).trans hx0
      have k0 : w1.cell? ⟨w.heap.size + 1, 0, none⟩ = some (.slice ao xs.length cap) := by rw [cell_of_row w1 _ 0 _ _ _ hx1]; rfl
      have k6 : w1.cell? ⟨w.heap.size + 1, 0 + 6, none⟩ = some (.int .i64 mq) := by rw [cell_of_row w1 _ 6 _ _ _ hx1]; rfl
      have k7 : w1.cell? ⟨w.heap.size + 1, 0 + 7, none⟩ = some (.int .i64 mr) := by rw [cell_of_row w1 _ 7 _ _ _ hx1]; rfl
      have HS : Hid (Zby n2 xs ⟨mp, ms, me, md, 1, mq, mr⟩ = ((decide (0 <= mp) && decide (mp < n2)) && askB mq && hasI xs mr)) := rfl
      generalize (decide (0 <= mp) && decide (mp < n2)) = bb at HS ⊢
      clear hx0 hx1 hb1 hB0 R0
      cases bb with
      | true =>
        go_wp2_with fail
        refine (ZfO mq _).mono ?_
        rintro e w2 ⟨rfl, rfl⟩
        generalize askB mq = b2 at HS ⊢
        cases b2 with
        | true =>
          go_wp2_with fail
          refine (Zf7 _ xs mr _ (R.below hB1)).mono ?_
          rintro e w3 ⟨rfl, hb3⟩
          have hB3 := hB1.trans (hb3.mono hB1.size)
          generalize hasI xs mr = b3 at HS ⊢
          clear k0 k6 k7
          cases b3 <;>
            (go_wp2
             go_ret
             exact ⟨retB (by rw [HS.out]; rfl), hB3⟩)
        | false =>
          go_wp2
          go_ret
          exact ⟨retB (by rw [HS.out]; rfl), hB1⟩
      | false =>
        go_wp2
        go_ret
        exact ⟨retB (by rw [HS.out]; rfl), hB1⟩
    · by_cases t2 : mt = 2
      · subst t2
        have HS : Hid (Zby n2 xs ⟨mp, ms, me, md, 2, mq, mr⟩ = (decide (mp = 0) && decide (mq = 0) && hasI xs mr)) := rfl
        by_cases p0 : mp = 0
        · subst p0
          by_cases q0 : mq = 0
          · subst q0
            go_wp2_with fail
            refine (Zf7 _ xs mr _ R0).mono ?_
            rintro e w3 ⟨rfl, hb3⟩
            have hB3 := hB0.trans (hb3.mono hB0.size)
            generalize hasI xs mr = b3 at HS ⊢
            cases b3 <;>
              (go_wp2
               go_ret
               exact ⟨retB (by rw [HS.out]; rfl), hB3⟩)
          · have g1 : (mq == 0) = false := by simp [q0]
            have g2 : decide (mq = 0) = false := by simp [q0]
            go_wp2
            go_ret
            exact ⟨retB (by rw [HS.out, g2]; rfl), hB0⟩
        · have g1 : (mp == 0) = false := by simp [p0]
          have g2 : decide (mp = 0) = false := by simp [p0]
          go_wp2
          go_ret
          exact ⟨retB (by rw [HS.out, g2]; rfl), hB0⟩
      · by_cases t3 : mt = 3
        · subst t3
          have HS : Hid (Zby n2 xs ⟨mp, ms, me, md, 3, mq, mr⟩ = (decide (mp = 0) && decide (1 <= mq) && decide (mq <= 7) && decide (mr = 0))) := rfl
          by_cases p0 : mp = 0
          · subst p0
            by_cases q1 : 1 <= mq
            · by_cases q7 : mq <= 7
              · by_cases r0 : mr = 0
                · subst r0
                  go_wp2
                  go_ret
                  exact ⟨retB (by rw [HS.out]; simp [q1, q7]), hB0⟩
                · have g1 : (mr == 0) = false := by simp [r0]
                  have g2 : decide (mr = 0) = false := by simp [r0]
                  go_wp2
                  go_ret
                  exact ⟨retB (by rw [HS.out, g2]; simp), hB0⟩
              · go_wp2
                go_ret
                exact ⟨retB (by rw [HS.out]; simp; omega), hB0⟩
            · go_wp2
              go_ret
              exact ⟨retB (by rw [HS.out]; simp; omega), hB0⟩
          · have g1 : (mp == 0) = false := by simp [p0]
            have g2 : decide (mp = 0) = false := by simp [p0]
            go_wp2
            go_ret
            exact ⟨retB (by rw [HS.out, g2]; rfl), hB0⟩
        · have HS : Hid (Zby n2 xs ⟨mp, ms, me, md, mt, mq, mr⟩ = false) := by unfold Hid Zby; simp [t0, t1, t2, t3]
          have g0 : (mt == 0) = false := by simp [t0]
          have g1 : (mt == 1) = false := by simp [t1]
          have g2 : (mt == 2) = false := by simp [t2]
          have g3 : (mt == 3) = false := by simp [t3]
          have f0 : decide (mt = 0) = false := by simp [t0]
          have f1 : decide (mt = 1) = false := by simp [t1]
          have f2 : decide (mt = 2) = false := by simp [t2]
          have f3 : decide (mt = 3) = false := by simp [t3]
          go_wp2
          go_ret
          exact ⟨retB (by rw [HS.out]), hB0⟩
def Za0 (ns : List Nd) (is : List In) (ds : List Df) (xs : List Nd) (m : Mc) : Bool := Za3 ns is ds && Zap xs && allI xs [m.s, m.e, m.d] && Zby is.length xs m
theorem Zl9 : (Tryz.prog.info? 44).map (·.size) = some 3 := by kernel_rfl
theorem IRow.lit3 (w : World) (a b c : Int) : IRow (w.alloc (Obj.cells #[.int .i64 a, .int .i64 b, .int .i64 c] 3)) (.slice (some ⟨w.heap.size, 0, none⟩) 3 3) [a, b, c] := by
  refine ⟨_, 3, rfl, ⟨by simp, fun h => by cases h⟩, by simp, fun _ => ⟨_, 0, rfl, by simp, fun i hi => ?_⟩⟩
  rw [cell_of_row _ w.heap.size (0 + i) _ 3 (0, 0) (heap_alloc_new w _)]
  have : i = 0 \/ i = 1 \/ i = 2 := by simp at hi; omega
  rcases this with rfl | rfl | rfl <;> rfl
theorem ZcB (v1 v2 v3 v : Value) (ns : List Nd) (is : List In) (ds : List Df) (xs : List Nd) (m : Mc) (w : World) (R1 : NRow w v1 ns) (R2 : InRow w v2 is) (R3 : DfRow w v3 ds) (R : NRow w v xs) :
    Calls Tryz.prog 198 #[.agg #[v1, v2, v3], .agg #[v, .int .i64 m.p, .int .i64 m.s, .int .i64 m.e, .int .i64 m.d, .int .i64 m.t, .int .i64 m.q, .int .i64 m.r]] w fun e w' => e = .returned (.bool (Za0 ns is ds xs m)) /\ Below w.heap.size w w' := by
  have R' := R
  obtain ⟨ao, cap, rfl, _⟩ := R'
  obtain ⟨a1, c1, rfl⟩ := R1.small
  obtain ⟨a2, c2, rfl⟩ := R2.small
  obtain ⟨a3, c3, rfl⟩ := R3.small
  obtain ⟨hB0, hk0, hx0⟩ := Zat w (Obj.cells #[.slice a1 ns.length c1, .slice a2 is.length c2, .slice a3 ds.length c3] 44) (Obj.cells #[.slice ao xs.length cap, .int .i64 m.p, .int .i64 m.s, .int .i64 m.e, .int .i64 m.d, .int .i64 m.t, .int .i64 m.q, .int .i64 m.r] 81)
  go_enter Tryz.func198, Tryz.ntmps198
  go_wp2_with fail
  refine (Zgk _ _ _ ns is ds _ (R1.below hB0) (R2.below hB0) (R3.below hB0)).mono ?_
  rintro e w1 ⟨rfl, hb1⟩
  have hB1 := hB0.trans (hb1.mono hB0.size)
  have hk1 := (bb hk0 hb1)
  have hx1 := (bb hx0 hb1)
  clear hB0 hk0 hx0 hb1
  have HM : Hid (Za0 ns is ds xs m = (Za3 ns is ds && Zap xs && allI xs [m.s, m.e, m.d] && Zby is.length xs m)) := rfl
  have k0 : w1.cell? ⟨w.heap.size + 1, 0, none⟩ = some (.slice ao xs.length cap) := by rw [cell_of_row w1 _ 0 _ _ _ hx1]; rfl
  generalize Za3 ns is ds = b1 at HM ⊢
  cases b1 with
  | false =>
    go_wp2
    go_ret
    exact ⟨retB (by rw [HM.out]; rfl), hB1⟩
  | true =>
    go_wp2_with fail
    refine (Zfy _ xs _ (R.below hB1)).mono ?_
    rintro e w2 ⟨rfl, hb2⟩
    have hB2 := hB1.trans (hb2.mono hB1.size)
    have hk2 := (bb hk1 hb2)
    have hx2 := (bb hx1 hb2)
    clear hB1 hk1 hx1 hb2 k0
    have k0 : w2.cell? ⟨w.heap.size + 1, 0, none⟩ = some (.slice ao xs.length cap) := by rw [cell_of_row w2 _ 0 _ _ _ hx2]; rfl
    have k2 : w2.cell? ⟨w.heap.size + 1, 0 + 2, none⟩ = some (.int .i64 m.s) := by rw [cell_of_row w2 _ 2 _ _ _ hx2]; rfl
    have k3 : w2.cell? ⟨w.heap.size + 1, 0 + 3, none⟩ = some (.int .i64 m.e) := by rw [cell_of_row w2 _ 3 _ _ _ hx2]; rfl
    have k4 : w2.cell? ⟨w.heap.size + 1, 0 + 4, none⟩ = some (.int .i64 m.d) := by rw [cell_of_row w2 _ 4 _ _ _ hx2]; rfl
    generalize Zap xs = b2 at HM ⊢
    cases b2 with
    | false =>
      go_wp2
      go_ret
      exact ⟨retB (by rw [HM.out]; rfl), hB2⟩
    | true =>
      have hBa : Below w2.heap.size w2 (w2.alloc (Obj.cells #[.int .i64 m.s, .int .i64 m.e, .int .i64 m.d] 3)) := (Below.refl _ _).alloc (Nat.le_refl _) _
      go_wp2_with fail
      refine (ZhF _ _ xs [m.s, m.e, m.d] _ (R.below (hB2.trans (hBa.mono hB2.size))) (IRow.lit3 w2 m.s m.e m.d)).mono ?_
      rintro e w3 ⟨rfl, hb3⟩
      have hb23 := hBa.trans (hb3.mono hBa.size)
      have hB3 := hB2.trans (hb23.mono hB2.size)
      have hk3 := (bb hk2 hb23)
      have hx3 := (bb hx2 hb23)
      clear hB2 hk2 hx2 hb3 hb23 hBa k0 k2 k3 k4
      generalize allI xs [m.s, m.e, m.d] = b3 at HM ⊢
      cases b3 with
      | false =>
        go_wp2
        go_ret
        exact ⟨retB (by rw [HM.out]; rfl), hB3⟩
      | true =>
        have l0 : w3.cell? ⟨w.heap.size, 0, none⟩ = some (.slice a1 ns.length c1) := cell_of_row w3 _ 0 _ _ _ hk3
        have l1 : w3.cell? ⟨w.heap.size, 1, none⟩ = some (.slice a2 is.length c2) := cell_of_row w3 _ 1 _ _ _ hk3
        have l2 : w3.cell? ⟨w.heap.size, 2, none⟩ = some (.slice a3 ds.length c3) := cell_of_row w3 _ 2 _ _ _ hk3
        have k0 : w3.cell? ⟨w.heap.size + 1, 0, none⟩ = some (.slice ao xs.length cap) := cell_of_row w3 _ 0 _ _ _ hx3
        have k1 : w3.cell? ⟨w.heap.size + 1, 1, none⟩ = some (.int .i64 m.p) := cell_of_row w3 _ 1 _ _ _ hx3
        have k2 : w3.cell? ⟨w.heap.size + 1, 2, none⟩ = some (.int .i64 m.s) := cell_of_row w3 _ 2 _ _ _ hx3
        have k3 : w3.cell? ⟨w.heap.size + 1, 3, none⟩ = some (.int .i64 m.e) := cell_of_row w3 _ 3 _ _ _ hx3
        have k4 : w3.cell? ⟨w.heap.size + 1, 4, none⟩ = some (.int .i64 m.d) := cell_of_row w3 _ 4 _ _ _ hx3
        have k5 : w3.cell? ⟨w.heap.size + 1, 5, none⟩ = some (.int .i64 m.t) := cell_of_row w3 _ 5 _ _ _ hx3
        have k6 : w3.cell? ⟨w.heap.size + 1, 6, none⟩ = some (.int .i64 m.q) := cell_of_row w3 _ 6 _ _ _ hx3
        have k7 : w3.cell? ⟨w.heap.size + 1, 7, none⟩ = some (.int .i64 m.r) := cell_of_row w3 _ 7 _ _ _ hx3
        go_wp2_with fail
        refine (ZdL _ _ _ _ _ _ _ _ _ _ xs m _ (R.below hB3)).mono ?_
        rintro e w4 ⟨rfl, hb4⟩
        have hB4 := hB3.trans (hb4.mono hB3.size)
        generalize Zby is.length xs m = b4 at HM ⊢
        cases b4 <;>
          (go_wp2
           go_ret
           exact ⟨retB (by rw [HM.out]; rfl), hB4⟩)
end Go.Proofs.YtfmafkebddojjaaGreatDoor
