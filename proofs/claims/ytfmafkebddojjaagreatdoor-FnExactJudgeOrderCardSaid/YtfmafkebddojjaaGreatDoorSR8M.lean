/-
  Texts that stood by themselves, laid into one.
-/
import Derived.Test.YtfmafkebddojjaaGreatDoorRulesM
import Derived.Test.YtfmafkebddojjaaGreatDoorSubM
import Derived.Test.YtfmafkebddojjaaGreatDoorMcTM
import Derived.Test.YtfmafkebddojjaaGreatDoorSbM
import Derived.Deep.RegionHeld3
/-
  The contracts of impl.defsFit, impl.CodeOk and spec.CodeOk. No condition.
-/
namespace Go.Proofs.YtfmafkebddojjaaGreatDoor
open Go.RowKit
def dfB (ds : List Df) (n2 : Nat) (d : Df) (i : Nat) : Bool :=
 ZbG d.s && (Za4 ds d.s 0 == (i : Int)) && (decide (0 <= d.p) && decide (d.p < n2)) && (decide (0 <= d.m) && decide (d.m <= 4))
def dfsB (all : List Df) (n2 : Nat) (ds : List Df) (i : Nat) : Bool := match ds with
 | [] => true
 | d :: ds => dfB all n2 d i && dfsB all n2 ds (i + 1)
theorem ZcV (ds : List Df) (i n2 : Nat) (x : Df) (h : ds[i]? = some x) : dfsB ds n2 (ds.drop i) i = (dfB ds n2 x i && dfsB ds n2 (ds.drop (i + 1)) (i + 1)) := by
 obtain ⟨hl, he⟩ := List.getElem?_eq_some_iff.1 h
 rw [List.drop_eq_getElem_cons hl, he]
 rfl
def ZaM (ns : List Nd) (is : List In) (ds : List Df) : Bool :=
 Zaq ns && (decide (is.length <= 400) && insB is 0 ns.length is.length) && (decide (ds.length <= 20) && dfsB ds is.length ds 0)
set_option maxHeartbeats 400000 in
theorem ZfL (n : Int) (w : World) : Calls Tryz.prog 195 #[.int .i64 n] w fun e w' => e = .returned (.bool (decide (0 <= n) && decide (n <= 4))) /\ w' = w := by
 go_enter Tryz.func195, Tryz.ntmps195
 go_wp2
 all_goals
  go_ret
  refine ⟨retB ?_, rfl⟩
  first | (simp [*]; done) | (simp [*]; omega)
set_option maxHeartbeats 400000 in
theorem Zb6 (a1 a2 a3 : Option Addr) (n1 n2 n3 c1 c2 c3 : Nat) (n : Int) (w : World) : Calls Tryz.prog 194 #[.agg #[.slice a1 n1 c1, .slice a2 n2 c2, .slice a3 n3 c3], .int .i64 n] w fun e w' => e = .returned (.bool (decide (0 <= n) && decide (n < n2))) /\ Below w.heap.size w w' := by
 go_enter Tryz.func194, Tryz.ntmps194
 go_wp2
 all_goals
  go_ret
  refine ⟨retB ?_, (Below.refl _ _).alloc (Nat.le_refl _) _⟩
  first | (simp [*]; done) | (simp [*]; omega)
set_option maxRecDepth 100000 in
set_option maxHeartbeats 4000000 in
theorem Zfk (a1 a2 : Option Addr) (n1 c1 n2 c2 : Nat) (v3 : Value) (ds : List Df) (w : World) (R : DfRow w v3 ds) :
  Calls Tryz.prog 154 #[.agg #[.slice a1 n1 c1, .slice a2 n2 c2, v3]] w fun e w' => e = .returned (.bool (decide (ds.length <= 20) && dfsB ds n2 ds 0)) /\ Below w.heap.size w w' := by
 have R' := R
 obtain ⟨a3, c3, rfl, hcap, hm, hz, hcell⟩ := R'
 have hB0 : Below w.heap.size w (w.alloc (Obj.cells #[.slice a1 n1 c1, .slice a2 n2 c2, .slice a3 ds.length c3] 44)) := (Below.refl _ _).alloc (Nat.le_refl _) _
 by_cases hl : ds.length <= 20
 ·have HL : Hid (decide (ds.length <= 20) = true) := by unfold Hid; simp [hl]
  go_enter Tryz.func154, Tryz.ntmps154
  have hx0 := heap_alloc_new w (Obj.cells #[.slice a1 n1 c1, .slice a2 n2 c2, .slice a3 ds.length c3] 44)
  have hs0 : w.heap.size < (w.alloc (Obj.cells #[.slice a1 n1 c1, .slice a2 n2 c2, .slice a3 ds.length c3] 44)).heap.size := by simp
  go_wp2_with fail
  generalize w.alloc (Obj.cells #[.slice a1 n1 c1, .slice a2 n2 c2, .slice a3 ds.length c3] 44) = w0 at *
  go_loopw [12] (fun i wr => ∃ k : Nat, k <= ds.length /\ i = .int .i64 k /\ Hid (dfsB ds n2 ds 0 = dfsB ds n2 (ds.drop k) k) /\ Below w0.heap.size w0 wr) (fun i _ => ds.length - (intOf i).toNat)
  case atStart => exact ⟨0, by omega, rfl, rfl, Below.refl _ _⟩
  case round =>
   obtain ⟨k, hk, rfl, HK, hb⟩ := hrel
   have hB := hB0.trans (hb.mono hB0.size)
   by_cases hlt : k < ds.length
   ·obtain ⟨g, o, rfl, hg, hcell⟩ := hcell (by intro e; subst e; simp at hlt)
    obtain ⟨x, hx⟩ : ∃ x, ds[k]? = some x := ⟨ds[k], by simp [hlt]⟩
    obtain ⟨d0, d1, d2⟩ := (hcell k x hx).below hB hg
    have hxz := hz x (List.mem_of_getElem? hx)
    have HI : Hid (dfsB ds n2 ds 0 = (dfB ds n2 x k && dfsB ds n2 (ds.drop (k + 1)) (k + 1))) := by unfold Hid; rw [HK.out, ZcV ds k n2 x hx]
    have hxr := (hb.block _ hs0).trans hx0
    have hs0r := Nat.lt_of_lt_of_le hs0 hb.size
    clear hcell hx HK hx0
    have q0 : wr.cell? ⟨w.heap.size, 0, none⟩ = some (.slice a1 n1 c1) := by rw [cell_of_row wr _ 0 _ _ _ hxr]; rfl
    have q1 : wr.cell? ⟨w.heap.size, 0 + 1, none⟩ = some (.slice a2 n2 c2) := by rw [cell_of_row wr _ 1 _ _ _ hxr]; rfl
    have q2 : wr.cell? ⟨w.heap.size, 0 + 2, none⟩ = some (.slice (some ⟨g, o, none⟩) ds.length c3) := by rw [cell_of_row wr _ 2 _ _ _ hxr]; rfl
    go_wp2_with fail
    refine (Zdf x.s _ hxz).mono ?_
    rintro e w1 ⟨rfl, rfl⟩
    have hB1 : Below w.heap.size w (wr.alloc (Obj.cells #[.string x.s, .int .i64 x.p, .int .i64 x.m] 177)) := hB.alloc hB.size _
    have hb1 : Below w0.heap.size w0 (wr.alloc (Obj.cells #[.string x.s, .int .i64 x.p, .int .i64 x.m] 177)) := hb.alloc hb.size _
    cases hnm : ZbG x.s with
    | false =>
     have HR : Hid (dfsB ds n2 ds 0 = false) := by unfold Hid; rw [HI.out]; simp [dfB, hnm]
     go_wp2
     go_ret
     exact ⟨by rw [HL.out, HR.out]; rfl, hB1⟩
    | true =>
     go_wp2_with fail
     refine (Zgv _ _ _ _ _ _ _ ds x.s _ (R.below hB1)).mono ?_
     rintro e w2 ⟨rfl, hb2⟩
     have hB2 := hB1.trans (hb2.mono hB1.size)
     have hbb2 := hb1.trans (hb2.mono hb1.size)
     have hx2 : w2.heap[w.heap.size]? = some (.cells #[.slice a1 n1 c1, .slice a2 n2 c2, .slice (some ⟨g, o, none⟩) ds.length c3] 44 (0, 0)) := (hb2.block _ (by simp; omega)).trans ((heap_alloc_old _ _ hs0r).trans hxr)
     have hy2 : w2.heap[wr.heap.size]? = some (.cells #[.string x.s, .int .i64 x.p, .int .i64 x.m] 177 (0, 0)) := (hb2.block _ (by simp)).trans (heap_alloc_new _ _)
     have hsx2 := (bl hx2)
     have hsy2 := (bl hy2)
     have r0 : w2.cell? ⟨w.heap.size, 0, none⟩ = some (.slice a1 n1 c1) := by rw [cell_of_row w2 _ 0 _ _ _ hx2]; rfl
     have r1 : w2.cell? ⟨w.heap.size, 0 + 1, none⟩ = some (.slice a2 n2 c2) := by rw [cell_of_row w2 _ 1 _ _ _ hx2]; rfl
     have r2 : w2.cell? ⟨w.heap.size, 0 + 2, none⟩ = some (.slice (some ⟨g, o, none⟩) ds.length c3) := by rw [cell_of_row w2 _ 2 _ _ _ hx2]; rfl
     have t1 : w2.cell? ⟨wr.heap.size, 0 + 1, none⟩ = some (.int .i64 x.p) := by rw [cell_of_row w2 _ 1 _ _ _ hy2]; rfl
     have t2 : w2.cell? ⟨wr.heap.size, 0 + 2, none⟩ = some (.int .i64 x.m) := by rw [cell_of_row w2 _ 2 _ _ _ hy2]; rfl
     clear hb2 hB1 hb1 q0 q1 q2
     by_cases hix : Za4 ds x.s 0 = (k : Int)
     ·rw [hix]
      go_wp2_with fail
      refine (Zb6 _ _ _ _ _ _ _ _ _ _ _).mono ?_
      rintro e w3 ⟨rfl, hb3⟩
      have hB3 := hB2.trans (hb3.mono hB2.size)
      have hbb3 := hbb2.trans (hb3.mono hbb2.size)
      have t2' := (hb3.cell (p := ⟨wr.heap.size, 0 + 2, none⟩) hsy2).trans t2
      clear r0 r1 r2 t1 t2 hb3 hB2 hbb2
      cases hpl : (decide (0 <= x.p) && decide (x.p < n2)) with
      | false =>
       have HR : Hid (dfsB ds n2 ds 0 = false) := by unfold Hid; rw [HI.out, dfB, hpl]; simp
       go_wp2
       go_ret
       exact ⟨by rw [HL.out, HR.out]; rfl, hB3⟩
      | true =>
       go_wp2_with fail
       refine (ZfL _ _).mono ?_
       rintro e w4 ⟨rfl, rfl⟩
       clear t2'
       cases hag : (decide (0 <= x.m) && decide (x.m <= 4)) with
       | false =>
        have HR : Hid (dfsB ds n2 ds 0 = false) := by unfold Hid; rw [HI.out, dfB, hag]; simp
        go_wp2
        go_ret
        exact ⟨by rw [HL.out, HR.out]; rfl, hB3⟩
       | true =>
        have HR : Hid (dfsB ds n2 ds 0 = dfsB ds n2 (ds.drop (k + 1)) (k + 1)) := by unfold Hid; rw [HI.out, dfB, hag, hpl, hnm, hix]; simp
        go_wp2
        go_roundw
        case rel => exact ⟨k + 1, by omega, by go_num, HR, hbb3⟩
        case measure => simp [intOf]; omega
     ·have HR : Hid (dfsB ds n2 ds 0 = false) := by unfold Hid; rw [HI.out]; simp [dfB, hix]
      generalize Za4 ds x.s 0 = ix at hix
      go_wp2
      go_ret
      exact ⟨by rw [HL.out, HR.out]; rfl, hB2⟩
   ·have HR : Hid (dfsB ds n2 ds 0 = true) := by unfold Hid; rw [HK.out, List.drop_eq_nil_of_le (by omega)]; rfl
    clear HK hcell
    go_wp2
    go_ret
    exact ⟨by rw [HL.out, HR.out]; rfl, hB⟩
 ·have HL : Hid (decide (ds.length <= 20) = false) := by unfold Hid; simp [hl]
  go_enter Tryz.func154, Tryz.ntmps154
  go_wp2
  go_ret
  exact ⟨by rw [HL.out]; rfl, hB0⟩
set_option maxRecDepth 100000 in
set_option maxHeartbeats 1600000 in
theorem Zc1 (v1 v2 v3 : Value) (ns : List Nd) (is : List In) (ds : List Df) (w : World) (R1 : NRow w v1 ns) (R2 : InRow w v2 is) (R3 : DfRow w v3 ds) :
  Calls Tryz.prog 105 #[.agg #[v1, v2, v3]] w fun e w' => e = .returned (.bool (ZaM ns is ds)) /\ Below w.heap.size w w' := by
 obtain ⟨a1, c1, rfl⟩ := R1.small
 obtain ⟨a2, c2, rfl⟩ := R2.small
 obtain ⟨a3, c3, rfl⟩ := R3.small
 have hB0 : Below w.heap.size w (w.alloc (Obj.cells #[.slice a1 ns.length c1, .slice a2 is.length c2, .slice a3 ds.length c3] 44)) := (Below.refl _ _).alloc (Nat.le_refl _) _
 go_enter Tryz.func105, Tryz.ntmps105
 go_wp2_with fail
 refine (ZeJ _ ns _ (R1.below hB0)).mono ?_
 rintro e w1 ⟨rfl, hb1⟩
 have hx1 : w1.heap[w.heap.size]? = some (.cells #[.slice a1 ns.length c1, .slice a2 is.length c2, .slice a3 ds.length c3] 44 (0, 0)) := (hb1.block _ (by simp)).trans (heap_alloc_new _ _)
 have hB1 := hB0.trans (hb1.mono hB0.size)
 have hs1 := (bl hx1)
 have r0 : w1.cell? ⟨w.heap.size, 0, none⟩ = some (.slice a1 ns.length c1) := by rw [cell_of_row w1 _ 0 _ _ _ hx1]; rfl
 have r1 : w1.cell? ⟨w.heap.size, 0 + 1, none⟩ = some (.slice a2 is.length c2) := by rw [cell_of_row w1 _ 1 _ _ _ hx1]; rfl
 have r2 : w1.cell? ⟨w.heap.size, 0 + 2, none⟩ = some (.slice a3 ds.length c3) := by rw [cell_of_row w1 _ 2 _ _ _ hx1]; rfl
 clear hB0 hb1
 cases hp : Zaq ns with
 | false =>
  have HR : Hid (ZaM ns is ds = false) := by unfold Hid; simp [ZaM, hp]
  go_wp2
  go_ret
  exact ⟨by rw [HR.out]; rfl, hB1⟩
 | true =>
  go_wp2_with fail
  refine (Zee _ _ _ _ _ _ _ is _ (R2.below hB1)).mono ?_
  rintro e w2 ⟨rfl, hb2⟩
  have hx2 := (hb2.block _ hs1).trans hx1
  have hB2 := hB1.trans (hb2.mono hB1.size)
  have q0 : w2.cell? ⟨w.heap.size, 0, none⟩ = some (.slice a1 ns.length c1) := by rw [cell_of_row w2 _ 0 _ _ _ hx2]; rfl
  have q1 : w2.cell? ⟨w.heap.size, 0 + 1, none⟩ = some (.slice a2 is.length c2) := by rw [cell_of_row w2 _ 1 _ _ _ hx2]; rfl
  have q2 : w2.cell? ⟨w.heap.size, 0 + 2, none⟩ = some (.slice a3 ds.length c3) := by rw [cell_of_row w2 _ 2 _ _ _ hx2]; rfl
  clear hb2 hx1 r0 r1 r2 hB1 hs1
  cases hi : (decide (is.length <= 400) && insB is 0 ns.length is.length) with
  | false =>
   have HR : Hid (ZaM ns is ds = false) := by unfold Hid; rw [ZaM, hi]; simp
   go_wp2
   go_ret
   exact ⟨by rw [HR.out]; rfl, hB2⟩
  | true =>
   have HR : Hid (ZaM ns is ds = (decide (ds.length <= 20) && dfsB ds is.length ds 0)) := by unfold Hid; rw [ZaM, hi, hp]; simp
   go_wp2_with fail
   refine (Zfk _ _ _ _ _ _ _ ds _ (R3.below hB2)).mono ?_
   rintro e w3 ⟨rfl, hb3⟩
   have hB3 := hB2.trans (hb3.mono hB2.size)
   clear hb3 hx2 q0 q1 q2 hB2
   rw [<- HR.out]
   go_wp2
   go_ret
   exact ⟨rfl, hB3⟩
set_option maxRecDepth 100000 in
set_option maxHeartbeats 4000000 in
theorem ZcZ (v1 v2 v3 : Value) (ns : List Nd) (is : List In) (ds : List Df) (w : World) (R1 : NRow w v1 ns) (R2 : InRow w v2 is) (R3 : DfRow w v3 ds) :
  Calls Tryz.prog 75 #[.agg #[v1, v2, v3]] w fun e w' => e = .returned (.bool (ZaM ns is ds)) /\ Below w.heap.size w w' := by
 have hn1 : ns.length <= 9223372036854775807 := by obtain ⟨_, _, _, _, hm, _⟩ := R1; exact hm
 have hn2 : is.length <= 9223372036854775807 := by obtain ⟨_, _, _, _, hm, _⟩ := R2; exact hm
 obtain ⟨a1, c1, rfl⟩ := R1.small
 obtain ⟨a2, c2, rfl⟩ := R2.small
 have R3' := R3
 obtain ⟨a3, c3, rfl, hcap, hm, hz, hcell⟩ := R3'
 have hB0 : Below w.heap.size w (w.alloc (Obj.cells #[.slice a1 ns.length c1, .slice a2 is.length c2, .slice a3 ds.length c3] 44)) := (Below.refl _ _).alloc (Nat.le_refl _) _
 go_enter Tryz.func75, Tryz.ntmps75
 go_wp2_with fail
 refine (Zco _ ns _ (R1.below hB0)).mono ?_
 rintro e w1 ⟨rfl, hb1⟩
 have hx1 : w1.heap[w.heap.size]? = some (.cells #[.slice a1 ns.length c1, .slice a2 is.length c2, .slice a3 ds.length c3] 44 (0, 0)) := (hb1.block _ (by simp)).trans (heap_alloc_new _ _)
 have hB1 := hB0.trans (hb1.mono hB0.size)
 have hs1 := (bl hx1)
 have r1 : w1.cell? ⟨w.heap.size, 0 + 1, none⟩ = some (.slice a2 is.length c2) := by rw [cell_of_row w1 _ 1 _ _ _ hx1]; rfl
 have r2 : w1.cell? ⟨w.heap.size, 0 + 2, none⟩ = some (.slice a3 ds.length c3) := by rw [cell_of_row w1 _ 2 _ _ _ hx1]; rfl
 clear hB0 hb1
 cases hp : Zaq ns with
 | false =>
  have HR : Hid (ZaM ns is ds = false) := by unfold Hid; simp [ZaM, hp]
  go_wp2
  go_ret
  exact ⟨by rw [HR.out]; rfl, hB1⟩
 | true =>
  by_cases h4 : is.length <= 400
  ·by_cases h2 : ds.length <= 20
   ·have HC : Hid (ZaM ns is ds = (insB is 0 ns.length is.length && dfsB ds is.length ds 0)) := by unfold Hid; simp [ZaM, hp, h4, h2]
    go_wp2_with fail
    go_loopw [3] (fun i wr => ∃ k : Nat, k <= is.length /\ i = .int .i64 k /\ Hid (insB is 0 ns.length is.length = insB (is.drop k) k ns.length is.length) /\ Below w1.heap.size w1 wr) (fun i _ => is.length - (intOf i).toNat)
    case atStart => exact ⟨0, by omega, rfl, rfl, Below.refl _ _⟩
    case round =>
     obtain ⟨k, hk, rfl, HK, hb⟩ := hrel
     have hB := hB1.trans (hb.mono hB1.size)
     have hxr := (hb.block _ hs1).trans hx1
     have q0 : wr.cell? ⟨w.heap.size, 0, none⟩ = some (.slice a1 ns.length c1) := by rw [cell_of_row wr _ 0 _ _ _ hxr]; rfl
     have q1 : wr.cell? ⟨w.heap.size, 0 + 1, none⟩ = some (.slice a2 is.length c2) := by rw [cell_of_row wr _ 1 _ _ _ hxr]; rfl
     have q2 : wr.cell? ⟨w.heap.size, 0 + 2, none⟩ = some (.slice a3 ds.length c3) := by rw [cell_of_row wr _ 2 _ _ _ hxr]; rfl
     by_cases hlt : k < is.length
     ·obtain ⟨x, hx⟩ : ∃ x, is[k]? = some x := ⟨is[k], by simp [hlt]⟩
      have HI : Hid (insB is 0 ns.length is.length = (Zau x k ns.length is.length && insB (is.drop (k + 1)) (k + 1) ns.length is.length)) := by unfold Hid; rw [HK.out, ZeY is k ns.length is.length x hx]
      have HX : Hid (is[k]? = some x) := hx
      clear hcell HK hx
      go_wp2_with fail
      refine (ZgR _ _ _ _ _ _ _ is k x _ (R2.below hB) HX.out hn1).mono ?_
      rintro e w2 ⟨rfl, hb2⟩
      have hB2 := hB.trans (hb2.mono hB.size)
      have hbb2 := hb.trans (hb2.mono hb.size)
      clear q0 q1 q2 hb2 r1 r2
      generalize Zau x k ns.length is.length = b at HI
      cases b with
      | false =>
       have HR : Hid (ZaM ns is ds = false) := by unfold Hid; rw [HC.out, HI.out]; rfl
       go_wp2
       go_ret
       exact ⟨by rw [HR.out]; rfl, hB2⟩
      | true =>
       go_wp2
       go_roundw
       case rel => exact ⟨k + 1, by omega, by go_num, (by unfold Hid; rw [HI.out, Bool.true_and]), hbb2⟩
       case measure => simp [intOf]; omega
     ·have HI : Hid (ZaM ns is ds = dfsB ds is.length ds 0) := by unfold Hid; rw [HC.out, HK.out, List.drop_eq_nil_of_le (by omega)]; simp [insB]
      have hsr := (bl hxr)
      clear HK HC r1 r2 hx1
      go_wp2_with fail
      go_loopw [4] (fun i wq => ∃ k : Nat, k <= ds.length /\ i = .int .i64 k /\ Hid (dfsB ds is.length ds 0 = dfsB ds is.length (ds.drop k) k) /\ Below wr.heap.size wr wq) (fun i _ => ds.length - (intOf i).toNat)
      case atStart => exact ⟨0, by omega, rfl, rfl, Below.refl _ _⟩
      case round =>
       obtain ⟨k2, hk2, rfl, HK, hb'⟩ := hrel
       have hB' := hB.trans (hb'.mono hB.size)
       have hxq := (hb'.block _ hsr).trans hxr
       have hsq := Nat.lt_of_lt_of_le hsr hb'.size
       have p0 : wr.cell? ⟨w.heap.size, 0, none⟩ = some (.slice a1 ns.length c1) := by rw [cell_of_row wr _ 0 _ _ _ hxq]; rfl
       have p1 : wr.cell? ⟨w.heap.size, 0 + 1, none⟩ = some (.slice a2 is.length c2) := by rw [cell_of_row wr _ 1 _ _ _ hxq]; rfl
       have p2 : wr.cell? ⟨w.heap.size, 0 + 2, none⟩ = some (.slice a3 ds.length c3) := by rw [cell_of_row wr _ 2 _ _ _ hxq]; rfl
       clear q0 q1 q2 hxr
       by_cases hlt2 : k2 < ds.length
       ·obtain ⟨g, o, rfl, hg, hcell⟩ := hcell (by intro e; subst e; simp at hlt2)
        obtain ⟨x, hx⟩ : ∃ x, ds[k2]? = some x := ⟨ds[k2], by simp [hlt2]⟩
        obtain ⟨d0, d1, d2⟩ := (hcell k2 x hx).below hB' hg
        have hxz := hz x (List.mem_of_getElem? hx)
        have HJ : Hid (ZaM ns is ds = (dfB ds is.length x k2 && dfsB ds is.length (ds.drop (k2 + 1)) (k2 + 1))) := by unfold Hid; rw [HI.out, HK.out, ZcV ds k2 is.length x hx]
        have HD : Hid (dfsB ds is.length (ds.drop k2) k2 = (dfB ds is.length x k2 && dfsB ds is.length (ds.drop (k2 + 1)) (k2 + 1))) := ZcV ds k2 is.length x hx
        clear hcell hx
        go_wp2_with fail
        refine (ZaH x.s _ hxz).mono ?_
        rintro e w2 ⟨rfl, rfl⟩
        have hB2 : Below w.heap.size w (wr.alloc (Obj.cells #[.string x.s, .int .i64 x.p, .int .i64 x.m] 177)) := hB'.alloc hB'.size _
        have hb2 : Below _ _ (wr.alloc (Obj.cells #[.string x.s, .int .i64 x.p, .int .i64 x.m] 177)) := hb'.alloc hb'.size _
        cases hnm : ZbG x.s with
        | false =>
         have HR : Hid (ZaM ns is ds = false) := by unfold Hid; rw [HJ.out]; simp [dfB, hnm]
         go_wp2
         go_ret
         exact ⟨by rw [HR.out]; rfl, hB2⟩
        | true =>
         go_wp2_with fail
         refine (ZgL _ _ _ _ _ _ _ ds x.s _ (R3.below hB2)).mono ?_
         rintro e w3 ⟨rfl, hb3⟩
         have hB3 := hB2.trans (hb3.mono hB2.size)
         have hbb3 := hb2.trans (hb3.mono hb2.size)
         have hx3 : w3.heap[w.heap.size]? = some (.cells #[.slice a1 ns.length c1, .slice a2 is.length c2, .slice (some ⟨g, o, none⟩) ds.length c3] 44 (0, 0)) := (hb3.block _ (by simp; omega)).trans ((heap_alloc_old _ _ hsq).trans hxq)
         have hy3 : w3.heap[wr.heap.size]? = some (.cells #[.string x.s, .int .i64 x.p, .int .i64 x.m] 177 (0, 0)) := (hb3.block _ (by simp)).trans (heap_alloc_new _ _)
         have r1 : w3.cell? ⟨w.heap.size, 0 + 1, none⟩ = some (.slice a2 is.length c2) := by rw [cell_of_row w3 _ 1 _ _ _ hx3]; rfl
         have t1 : w3.cell? ⟨wr.heap.size, 0 + 1, none⟩ = some (.int .i64 x.p) := by rw [cell_of_row w3 _ 1 _ _ _ hy3]; rfl
         have t2 : w3.cell? ⟨wr.heap.size, 0 + 2, none⟩ = some (.int .i64 x.m) := by rw [cell_of_row w3 _ 2 _ _ _ hy3]; rfl
         clear hb3 hB2 hb2 p0 p1 p2
         by_cases hix : Za4 ds x.s 0 = (k2 : Int)
         ·rw [hix]
          go_wp2_with fail
          refine (Zao _ _ _ _).mono ?_
          rintro e w4 ⟨rfl, rfl⟩
          have HP : Hid ((decide (0 <= x.p) && decide (x.p <= (is.length : Int) - 1)) = (decide (0 <= x.p) && decide (x.p < is.length))) := by unfold Hid; rw [Bool.eq_iff_iff]; simp; omega
          rw [HP.out]
          clear r1 t1
          cases hpl : (decide (0 <= x.p) && decide (x.p < is.length)) with
          | false =>
           have HR : Hid (ZaM ns is ds = false) := by unfold Hid; rw [HJ.out, dfB, hpl]; simp
           go_wp2
           go_ret
           exact ⟨by rw [HR.out]; rfl, hB3⟩
          | true =>
           go_wp2_with fail
           refine (Zao _ _ _ _).mono ?_
           rintro e w4 ⟨rfl, rfl⟩
           clear t2
           cases hag : (decide (0 <= x.m) && decide (x.m <= 4)) with
           | false =>
            have HR : Hid (ZaM ns is ds = false) := by unfold Hid; rw [HJ.out, dfB, hag]; simp
            go_wp2
            go_ret
            exact ⟨by rw [HR.out]; rfl, hB3⟩
           | true =>
            have HR : Hid (dfsB ds is.length ds 0 = dfsB ds is.length (ds.drop (k2 + 1)) (k2 + 1)) := by unfold Hid; rw [HK.out, HD.out, dfB, hag, hpl, hnm, hix]; simp
            go_wp2
            go_roundw
            case rel => exact ⟨k2 + 1, by omega, by go_num, HR, hbb3⟩
            case measure => simp [intOf]; omega
         ·have HR : Hid (ZaM ns is ds = false) := by unfold Hid; rw [HJ.out]; simp [dfB, hix]
          generalize Za4 ds x.s 0 = ix at hix
          go_wp2
          go_ret
          exact ⟨by rw [HR.out]; rfl, hB3⟩
       ·have HR : Hid (ZaM ns is ds = true) := by unfold Hid; rw [HI.out, HK.out, List.drop_eq_nil_of_le (by omega)]; rfl
        clear HK hcell
        go_wp2
        go_ret
        exact ⟨by rw [HR.out]; rfl, hB'⟩
   ·have HR : Hid (ZaM ns is ds = false) := by unfold Hid; simp [ZaM, h2]
    go_wp2
    go_ret
    exact ⟨by rw [HR.out]; rfl, hB1⟩
  ·have HR : Hid (ZaM ns is ds = false) := by unfold Hid; simp [ZaM, h4]
   go_wp2
   go_ret
   exact ⟨by rw [HR.out]; rfl, hB1⟩
theorem ZbN {P : Program} (w : World) {ops : Array Oper} {rest : List Oper} {o : Oper} {a : Act} {Q : Exit -> Act -> World -> Prop}
  (hg : o.guard = none) (s x : Operand) (t : TypeId) (hop : o.op = Op.call { callee := Callee.builtin Builtin.append, args := #[s, x], argTypes := #[t, t] })
  (base : Nat) (e : TypeId) (i : TypeInfo) (z : Value) (size bytes : Nat) (h1 : P.underlying t = some (.slice e)) (h2 : P.info? e = some i) (h3 : i.zero = some z) (h4 : i.size = size) (h5 : i.bytes = bytes) (h6 : z.cells.size = size) (h7 : 0 < size)
  (v : Value) (k : Nat) (xs : List Value) (hs : a.eval s = v) (hown : w.ownsRow base e size v k xs) (ao : Option Addr) (m c : Nat) (news : List Value) (hx : a.eval x = .slice ao m c) (hn : news.length = m * size)
  (hnone : ao = none -> m = 0 /\ c = 0) (hc : ∀ ad, ao = some ad -> ∀ j u, news[j]? = some u -> w.cell? (ad.add j) = some u) (h1c : ∀ u ∈ news, u.oneCell' = true) (b1 : k + m <= maxLen) (b2 : (k + m) * bytes <= 140737488355328) (b3 : base <= w.heap.size)
  (hK : ∀ v' w', w'.ownsRow base e size v' (k + m) (xs ++ news) -> w.grownBy w' v.ownBlock -> wpList P ops Q rest (a.put o.dst v') w') :
  wpList P ops Q (o :: rest) a w := by
 cases ao with
 | some ad => exact wpList_append_own w hg s x t hop base e i z size bytes h1 h2 h3 h4 h5 h6 h7 v k xs hs hown ad m c news hx hn (hc ad rfl) h1c b1 b2 b3 (fun v' w' h1 h2 _ => hK v' w' h1 h2)
 | none =>
  obtain ⟨rfl, rfl⟩ := hnone rfl
  have hnews : news = [] := List.eq_nil_of_length_eq_zero (by simpa using hn)
  subst hnews
  refine wpList_plain hg fun K hK' => ?_
  have hrun := run_append_owned_none (P := P) w base t o.type e i size h1 h2 _ k xs hown
  unfold Oper.wp
  simp [execOp, hop, resolve, invoke, builtin, hs, hx, hrun, Result.andThen]
  exact hK' _ _ (by simpa using hK v w (by simpa using hown) (World.grownBy.refl _ _))
theorem NRow.nilcap {w : World} {ao : Option Addr} {n cap : Nat} {xs : List Nd} (h : NRow w (.slice ao n cap) xs) : ao = none -> n = 0 /\ cap = 0 := by
 obtain ⟨ao', cap', e, ⟨h1, h2⟩, _⟩ := h
 simp only [Value.slice.injEq] at e
 obtain ⟨rfl, rfl, rfl⟩ := e
 intro h
 have := h2 h
 omega
theorem Zlx : (Tryz.prog.info? 40).map (·.size) = some 1 := by kernel_rfl
def ZkT (xs : List Nd) (x : Nd) : List Nd := if Zaq xs = true then (if xs.length ≠ 3000 /\ Zav x xs.length = true then xs ++ [x] else xs) else []
def ZkW (xs : List Nd) (x : Nd) : Int := if Zaq xs = true then (if xs.length ≠ 3000 /\ Zav x xs.length = true then xs.length else -1) else -1
theorem Zjq {B base0 base1 n cap : Nat} {w0 w2 : World} {ao : Option Addr} {xs : List Value} (hy : w2.heap[B]? = some (.cells #[.slice none 0 0] 40 (0, 0))) (ho : w2.ownsRow base1 210 5 (.slice ao n cap) n xs)
  (hB : Below base0 w0 w2) (h1 : B < base1) (h2 : base0 <= B) :
  (w2.setCell ⟨B, 0, none⟩ (.slice ao n cap)).heap[B]? = some (.cells #[.slice ao n cap] 40 (0, 0)) /\ (w2.setCell ⟨B, 0, none⟩ (.slice ao n cap)).ownsRow base0 210 5 (.slice ao n cap) n xs /\ Below base0 w0 (w2.setCell ⟨B, 0, none⟩ (.slice ao n cap)) :=
 ⟨heap_setCell_same w2 B 0 _ _ _ hy, Zal (ownsRow_setCell_below ho (a := ⟨B, 0, none⟩) h1 _) (by omega), hB.setCell (p := ⟨B, 0, none⟩) h2 _⟩
def IRow (w : World) (v : Value) (zs : List Int) : Prop :=
 ∃ ao cap, v = .slice ao zs.length cap /\ (zs.length <= cap /\ (ao = none -> cap = 0)) /\ zs.length <= 9223372036854775807 /\ (zs ≠ [] -> ∃ g o, ao = some ⟨g, o, none⟩ /\ g < w.heap.size /\ ∀ i, i < zs.length -> w.cell? ⟨g, o + i, none⟩ = some (.int .i64 (zs.getD i 0)))
theorem IRow.below {w w' : World} {v : Value} {zs : List Int} (h : IRow w v zs) (hb : Below w.heap.size w w') : IRow w' v zs := by
 obtain ⟨ao, cap, rfl, hc, hm, hcell⟩ := h
 refine ⟨ao, cap, rfl, hc, hm, fun hne => ?_⟩
 obtain ⟨g, o, rfl, hg, hcell⟩ := hcell hne
 exact ⟨g, o, rfl, Nat.lt_of_lt_of_le hg hb.size, fun i hi => (hb.cell (p := ⟨g, o + i, none⟩) hg).trans (hcell i hi)⟩
theorem IRow.of_own {w : World} {base : Nat} {v : Value} {zs : List Int} (h : w.ownsRow base 3 1 v zs.length (iv zs)) (hm : zs.length <= 9223372036854775807) : IRow w v zs := by
 rcases h.2 with ⟨rfl, h0⟩ | ⟨g, cap, cur, rfl, hb, hg, hnc, hcm, hcs, htake⟩
 ·have : zs = [] := List.eq_nil_of_length_eq_zero h0
  subst this
  exact ⟨none, 0, rfl, by simp, by simp, fun h => absurd rfl h⟩
 ·refine ⟨_, cap, rfl, ⟨hnc, fun h => by cases h⟩, hm, fun _ => ⟨g, 0, rfl, (bl hg), fun i hi => ?_⟩⟩
  have := h.cellAt i (by omega)
  rw [Nat.zero_add, this, Zdl zs i hi]
def ZkG (k : Int) (zs : List Int) (i : Nat) : List Int := (List.range i).map (fun (j : Nat) => k + (j : Int)) ++ zs.drop i
def nilN : Nd := ⟨1, 0, ByteArray.empty, 0, 0⟩
def ZkN (z : Int) (last : Nat) : Nd := ⟨5, 0, ByteArray.empty, z, last⟩
def ZjM : List Int -> Nat -> List Nd
 | [], _ => []
 | z :: r, last => ZkN z last :: ZjM r (last + 1)
def more (zs : List Int) (n m : Nat) : List Nd := nilN :: ZjM (zs.drop m).reverse n
def allI (xs : List Nd) (zs : List Int) : Bool := zs.all (hasI xs)
def mlOk (xs : List Nd) (zs : List Int) : Bool := decide (xs.length + 1 + zs.length <= 3000) && allI xs zs
def mlL (xs : List Nd) (zs : List Int) : List Nd := if Zaq xs = true then (if mlOk xs zs = true then xs ++ more zs xs.length 0 else xs) else []
def mlI (xs : List Nd) (zs : List Int) : Int := if Zaq xs = true then (if mlOk xs zs = true then ((xs.length + zs.length : Nat) : Int) else -1) else -1
theorem Zi0 (p : Int -> Bool) (zs : List Int) (k : Nat) (h : k < zs.length) : (zs.drop k).all p = (p (zs.getD k 0) && (zs.drop (k + 1)).all p) := by
 rw [List.drop_eq_getElem_cons h, List.all_cons, List.getD_eq_getElem?_getD, List.getElem?_eq_getElem h]
 rfl
set_option maxHeartbeats 800000 in
theorem Zg2 (v vl : Value) (xs : List Nd) (zs : List Int) (w : World) (R : NRow w v xs) (L : IRow w vl zs) :
  Calls Tryz.prog 231 #[.agg #[v], vl] w fun e w' => e = .returned (.bool (allI xs zs)) /\ Below w.heap.size w w' := by
 have R' := R
 obtain ⟨ao, cap, rfl, _⟩ := R'
 obtain ⟨al, cl, rfl, hcl, hlm, hcell⟩ := L
 go_enter Tryz.func231, Tryz.ntmps231
 go_wp2_with fail
 go_loopw [9] (fun i wr => ∃ k : Nat, k <= zs.length /\ i = .int .i64 k /\ Hid (allI xs zs = (zs.drop k).all (hasI xs)) /\ wr.cell? ⟨w.heap.size, 0, none⟩ = some (.slice ao xs.length cap) /\ w.heap.size < wr.heap.size /\ Below w.heap.size w wr) (fun i _ => zs.length - (intOf i).toNat)
 case atStart => exact ⟨0, by omega, rfl, by simp [Hid, allI], by simp, by simp, (Below.refl _ _).alloc (Nat.le_refl _) _⟩
 case round =>
  obtain ⟨k, hk, rfl, HA, hbox, hbl, hb⟩ := hrel
  by_cases hlt : k < zs.length
  ·obtain ⟨g, o, rfl, hg, hcell⟩ := hcell (by intro e; subst e; simp at hlt)
   have c0 := (hb.cell (p := ⟨g, o + k, none⟩) hg).trans (hcell k hlt)
   have HS : Hid (allI xs zs = (hasI xs (zs.getD k 0) && (zs.drop (k + 1)).all (hasI xs))) := by unfold Hid; rw [HA.out, Zi0 _ _ _ hlt]
   clear hcell HA
   generalize zs.getD k 0 = z at c0 HS
   go_wp2_with fail
   refine (Zfi _ xs _ _ (R.below hb)).mono ?_
   rintro e w2 ⟨rfl, hb2⟩
   have hB2 := hb.trans (hb2.mono hb.size)
   have hbox2 := (hb2.cell (p := ⟨w.heap.size, 0, none⟩) hbl).trans hbox
   have hbl2 := Nat.lt_of_lt_of_le hbl hb2.size
   clear c0 hb2 hbox hb
   generalize hA : hasI xs z = bA at HS ⊢
   clear hA
   cases bA with
   | false =>
    go_wp2
    go_ret
    exact ⟨by rw [HS.out]; rfl, hB2⟩
   | true =>
    go_wp2
    go_roundw
    case rel => exact ⟨k + 1, by omega, by go_num, by rw [HS.out]; rfl, hbox2, hbl2, hB2⟩
    case measure => simp [intOf]; omega
  ·have e : k = zs.length := by omega
   subst e
   have HT : Hid (allI xs zs = true) := by unfold Hid; rw [HA.out, List.drop_length]; rfl
   clear HA
   go_wp2
   go_ret
   exact ⟨by rw [HT.out]; rfl, hb⟩
def Zcm (n : Nat) (p : Int) : Bool := decide (0 <= p) && decide (p < n)
def askB (q : Int) : Bool := decide (12 < q) && decide (q <= 19) && decide (q ≠ 18)
def Zby (n : Nat) (xs : List Nd) (m : Mc) : Bool :=
  if m.t = 0 then Zcm n m.p && decide (m.q = 0) && decide (m.r = 0)
  else if m.t = 1 then Zcm n m.p && askB m.q && hasI xs m.r
  else if m.t = 2 then decide (m.p = 0) && decide (m.q = 0) && hasI xs m.r
  else if m.t = 3 then decide (m.p = 0) && decide (1 <= m.q) && decide (m.q <= 7) && decide (m.r = 0)
  else false
theorem Zfy (q : Int) (w : World) : Calls Tryz.prog 247 #[.int .i64 q] w fun e w' => e = .returned (.bool (askB q)) /\ w' = w := by
  go_enter Tryz.func247, Tryz.ntmps247
  by_cases h1 : 12 < q
  · by_cases h2 : q <= 19
    · by_cases h3 : q = 18
      · subst h3
        go_wp2
        go_ret
        exact ⟨rfl, rfl⟩
      · have q1 : (q == 18) = false := by simp [h3]
        have q2 : decide (q = 18) = false := by simp [h3]
        go_wp2
        go_ret
        exact ⟨by simp [askB, h1, h2, h3], rfl⟩
    · go_wp2
      go_ret
      exact ⟨by simp [askB]; omega, rfl⟩
  · go_wp2
    go_ret
    exact ⟨by simp [askB]; omega, rfl⟩
set_option maxRecDepth 100000 in
set_option maxHeartbeats 3200000 in
theorem Zdn (a1 a2 a3 : Option Addr) (n1 n2 n3 c1 c2 c3 : Nat) (v : Value) (xs : List Nd) (m : Mc) (w : World) (R : NRow w v xs) :
    Calls Tryz.prog 232 #[.agg #[.slice a1 n1 c1, .slice a2 n2 c2, .slice a3 n3 c3], .agg #[v, .int .i64 m.p, .int .i64 m.s, .int .i64 m.e, .int .i64 m.d, .int .i64 m.t, .int .i64 m.q, .int .i64 m.r]] w fun e w' => e = .returned (.bool (Zby n2 xs m)) /\ Below w.heap.size w w' := by
  have R' := R
  obtain ⟨ao, cap, rfl, _⟩ := R'
  obtain ⟨mp, ms, me, md, mt, mq, mr⟩ := m
  have hB0 : Below w.heap.size w ((w.alloc (Obj.cells #[.slice a1 n1 c1, .slice a2 n2 c2, .slice a3 n3 c3] 44)).alloc (Obj.cells #[.slice ao xs.length cap, .int .i64 mp, .int .i64 ms, .int .i64 me, .int .i64 md, .int .i64 mt, .int .i64 mq, .int .i64 mr] 81)) := ((Below.refl _ _).alloc (Nat.le_refl _) _).alloc (by simp) _
  have hx0 := heap_alloc2_new w (Obj.cells #[.slice a1 n1 c1, .slice a2 n2 c2, .slice a3 n3 c3] 44) (Obj.cells #[.slice ao xs.length cap, .int .i64 mp, .int .i64 ms, .int .i64 me, .int .i64 md, .int .i64 mt, .int .i64 mq, .int .i64 mr] 81)
  have R0 := R.below hB0
  have hs0 := (bl hx0)
  go_enter Tryz.func232, Tryz.ntmps232
  by_cases t0 : mt = 0
  · subst t0
    go_wp2_with fail
    refine (Zb6 _ _ _ _ _ _ _ _ _ mp _).mono ?_
    rintro e w1 ⟨rfl, hb1⟩
    have hB1 := hB0.trans (hb1.mono hB0.size)
    have hx1 := (hb1.block _ hs0).trans hx0
    have k6 : w1.cell? ⟨w.heap.size + 1, 0 + 6, none⟩ = some (.int .i64 mq) := by rw [cell_of_row w1 _ 6 _ _ _ hx1]; rfl
    have k7 : w1.cell? ⟨w.heap.size + 1, 0 + 7, none⟩ = some (.int .i64 mr) := by rw [cell_of_row w1 _ 7 _ _ _ hx1]; rfl
    have HS : Hid (Zby n2 xs ⟨mp, ms, me, md, 0, mq, mr⟩ = ((decide (0 <= mp) && decide (mp < n2)) && decide (mq = 0) && decide (mr = 0))) := rfl
    generalize (decide (0 <= mp) && decide (mp < n2)) = bb at HS ⊢
    clear hx0 hx1 hb1 hB0 R0
    cases bb with
    | true =>
      go_wp2
      all_goals
        go_ret
        refine ⟨retB ?_, hB1⟩
        rw [HS.out]
        first | (simp [*]; done) | (simp [*]; rfl)
    | false =>
      go_wp2
      go_ret
      exact ⟨retB (by rw [HS.out]; rfl), hB1⟩
  · by_cases t1 : mt = 1
    · subst t1
      go_wp2_with fail
      refine (Zb6 _ _ _ _ _ _ _ _ _ mp _).mono ?_
      rintro e w1 ⟨rfl, hb1⟩
      have hB1 := hB0.trans (hb1.mono hB0.size)
      have hx1 := (hb1.block _ hs0).trans hx0
      have k0 : w1.cell? ⟨w.heap.size + 1, 0, none⟩ = some (.slice ao xs.length cap) := by rw [cell_of_row w1 _ 0 _ _ _ hx1]; rfl
      have k6 : w1.cell? ⟨w.heap.size + 1, 0 + 6, none⟩ = some (.int .i64 mq) := by rw [cell_of_row w1 _ 6 _ _ _ hx1]; rfl
      have k7 : w1.cell? ⟨w.heap.size + 1, 0 + 7, none⟩ = some (.int .i64 mr) := by rw [cell_of_row w1 _ 7 _ _ _ hx1]; rfl
      have HS : Hid (Zby n2 xs ⟨mp, ms, me, md, 1, mq, mr⟩ = ((decide (0 <= mp) && decide (mp < n2)) && askB mq && hasI xs mr)) := rfl
      generalize (decide (0 <= mp) && decide (mp < n2)) = bb at HS ⊢
      clear hx0 hx1 hb1 hB0 R0
      cases bb with
      | true =>
        go_wp2_with fail
        refine (Zfy mq _).mono ?_
        rintro e w2 ⟨rfl, rfl⟩
        generalize askB mq = b2 at HS ⊢
        cases b2 with
        | true =>
          go_wp2_with fail
          refine (Zfi _ xs mr _ (R.below hB1)).mono ?_
          rintro e w3 ⟨rfl, hb3⟩
          have hB3 := hB1.trans (hb3.mono hB1.size)
          generalize hasI xs mr = b3 at HS ⊢
          clear k0 k6 k7
          cases b3 <;>
            (go_wp2
             go_ret
             exact ⟨retB (by rw [HS.out]; rfl), hB3⟩)
        | false =>
          go_wp2
          go_ret
          exact ⟨retB (by rw [HS.out]; rfl), hB1⟩
      | false =>
        go_wp2
        go_ret
        exact ⟨retB (by rw [HS.out]; rfl), hB1⟩
    · by_cases t2 : mt = 2
      · subst t2
        have HS : Hid (Zby n2 xs ⟨mp, ms, me, md, 2, mq, mr⟩ = (decide (mp = 0) && decide (mq = 0) && hasI xs mr)) := rfl
        by_cases p0 : mp = 0
        · subst p0
          by_cases q0 : mq = 0
          · subst q0
            go_wp2_with fail
            refine (Zfi _ xs mr _ R0).mono ?_
            rintro e w3 ⟨rfl, hb3⟩
            have hB3 := hB0.trans (hb3.mono hB0.size)
            generalize hasI xs mr = b3 at HS ⊢
            cases b3 <;>
              (go_wp2
               go_ret
               exact ⟨retB (by rw [HS.out]; rfl), hB3⟩)
          · have g1 : (mq == 0) = false := by simp [q0]
            have g2 : decide (mq = 0) = false := by simp [q0]
            go_wp2
            go_ret
            exact ⟨retB (by rw [HS.out, g2]; rfl), hB0⟩
        · have g1 : (mp == 0) = false := by simp [p0]
          have g2 : decide (mp = 0) = false := by simp [p0]
          go_wp2
          go_ret
          exact ⟨retB (by rw [HS.out, g2]; rfl), hB0⟩
      · by_cases t3 : mt = 3
        · subst t3
          have HS : Hid (Zby n2 xs ⟨mp, ms, me, md, 3, mq, mr⟩ = (decide (mp = 0) && decide (1 <= mq) && decide (mq <= 7) && decide (mr = 0))) := rfl
          by_cases p0 : mp = 0
          · subst p0
            by_cases q1 : 1 <= mq
            · by_cases q7 : mq <= 7
              · by_cases r0 : mr = 0
                · subst r0
                  go_wp2
                  go_ret
                  exact ⟨retB (by rw [HS.out]; simp [q1, q7]), hB0⟩
                · have g1 : (mr == 0) = false := by simp [r0]
                  have g2 : decide (mr = 0) = false := by simp [r0]
                  go_wp2
                  go_ret
                  exact ⟨retB (by rw [HS.out, g2]; simp), hB0⟩
              · go_wp2
                go_ret
                exact ⟨retB (by rw [HS.out]; simp; omega), hB0⟩
            · go_wp2
              go_ret
              exact ⟨retB (by rw [HS.out]; simp; omega), hB0⟩
          · have g1 : (mp == 0) = false := by simp [p0]
            have g2 : decide (mp = 0) = false := by simp [p0]
            go_wp2
            go_ret
            exact ⟨retB (by rw [HS.out, g2]; rfl), hB0⟩
        · have HS : Hid (Zby n2 xs ⟨mp, ms, me, md, mt, mq, mr⟩ = false) := by unfold Hid Zby; simp [t0, t1, t2, t3]
          have g0 : (mt == 0) = false := by simp [t0]
          have g1 : (mt == 1) = false := by simp [t1]
          have g2 : (mt == 2) = false := by simp [t2]
          have g3 : (mt == 3) = false := by simp [t3]
          have f0 : decide (mt = 0) = false := by simp [t0]
          have f1 : decide (mt = 1) = false := by simp [t1]
          have f2 : decide (mt = 2) = false := by simp [t2]
          have f3 : decide (mt = 3) = false := by simp [t3]
          go_wp2
          go_ret
          exact ⟨retB (by rw [HS.out]), hB0⟩
def ZbH (ns : List Nd) (is : List In) (ds : List Df) (xs : List Nd) (m : Mc) : Bool := ZaM ns is ds && Zaq xs && allI xs [m.s, m.e, m.d] && Zby is.length xs m
theorem IRow.lit3 (w : World) (a b c : Int) : IRow (w.alloc (Obj.cells #[.int .i64 a, .int .i64 b, .int .i64 c] 3)) (.slice (some ⟨w.heap.size, 0, none⟩) 3 3) [a, b, c] := by
  refine ⟨_, 3, rfl, ⟨by simp, fun h => by cases h⟩, by simp, fun _ => ⟨_, 0, rfl, by simp, fun i hi => ?_⟩⟩
  rw [cell_of_row _ w.heap.size (0 + i) _ 3 (0, 0) (heap_alloc_new w _)]
  have : i = 0 \/ i = 1 \/ i = 2 := by simp at hi; omega
  rcases this with rfl | rfl | rfl <;> rfl
set_option maxRecDepth 100000 in
set_option maxHeartbeats 3200000 in
theorem Zfv (v1 v2 v3 v : Value) (ns : List Nd) (is : List In) (ds : List Df) (xs : List Nd) (m : Mc) (w : World) (R1 : NRow w v1 ns) (R2 : InRow w v2 is) (R3 : DfRow w v3 ds) (R : NRow w v xs) :
    Calls Tryz.prog 198 #[.agg #[v1, v2, v3], .agg #[v, .int .i64 m.p, .int .i64 m.s, .int .i64 m.e, .int .i64 m.d, .int .i64 m.t, .int .i64 m.q, .int .i64 m.r]] w fun e w' => e = .returned (.bool (ZbH ns is ds xs m)) /\ Below w.heap.size w w' := by
  have R' := R
  obtain ⟨ao, cap, rfl, _⟩ := R'
  obtain ⟨a1, c1, rfl⟩ := R1.small
  obtain ⟨a2, c2, rfl⟩ := R2.small
  obtain ⟨a3, c3, rfl⟩ := R3.small
  obtain ⟨hB0, hk0, hx0⟩ := ZaB w (Obj.cells #[.slice a1 ns.length c1, .slice a2 is.length c2, .slice a3 ds.length c3] 44) (Obj.cells #[.slice ao xs.length cap, .int .i64 m.p, .int .i64 m.s, .int .i64 m.e, .int .i64 m.d, .int .i64 m.t, .int .i64 m.q, .int .i64 m.r] 81)
  go_enter Tryz.func198, Tryz.ntmps198
  go_wp2_with fail
  refine (Zc1 _ _ _ ns is ds _ (R1.below hB0) (R2.below hB0) (R3.below hB0)).mono ?_
  rintro e w1 ⟨rfl, hb1⟩
  have hB1 := hB0.trans (hb1.mono hB0.size)
  have hk1 := (bb hk0 hb1)
  have hx1 := (bb hx0 hb1)
  clear hB0 hk0 hx0 hb1
  have HM : Hid (ZbH ns is ds xs m = (ZaM ns is ds && Zaq xs && allI xs [m.s, m.e, m.d] && Zby is.length xs m)) := rfl
  have k0 : w1.cell? ⟨w.heap.size + 1, 0, none⟩ = some (.slice ao xs.length cap) := by rw [cell_of_row w1 _ 0 _ _ _ hx1]; rfl
  generalize ZaM ns is ds = b1 at HM ⊢
  cases b1 with
  | false =>
    go_wp2
    go_ret
    exact ⟨retB (by rw [HM.out]; rfl), hB1⟩
  | true =>
    go_wp2_with fail
    refine (ZeJ _ xs _ (R.below hB1)).mono ?_
    rintro e w2 ⟨rfl, hb2⟩
    have hB2 := hB1.trans (hb2.mono hB1.size)
    have hk2 := (bb hk1 hb2)
    have hx2 := (bb hx1 hb2)
    clear hB1 hk1 hx1 hb2 k0
    have k0 : w2.cell? ⟨w.heap.size + 1, 0, none⟩ = some (.slice ao xs.length cap) := by rw [cell_of_row w2 _ 0 _ _ _ hx2]; rfl
    have k2 : w2.cell? ⟨w.heap.size + 1, 0 + 2, none⟩ = some (.int .i64 m.s) := by rw [cell_of_row w2 _ 2 _ _ _ hx2]; rfl
    have k3 : w2.cell? ⟨w.heap.size + 1, 0 + 3, none⟩ = some (.int .i64 m.e) := by rw [cell_of_row w2 _ 3 _ _ _ hx2]; rfl
    have k4 : w2.cell? ⟨w.heap.size + 1, 0 + 4, none⟩ = some (.int .i64 m.d) := by rw [cell_of_row w2 _ 4 _ _ _ hx2]; rfl
    generalize Zaq xs = b2 at HM ⊢
    cases b2 with
    | false =>
      go_wp2
      go_ret
      exact ⟨retB (by rw [HM.out]; rfl), hB2⟩
    | true =>
      have hBa : Below w2.heap.size w2 (w2.alloc (Obj.cells #[.int .i64 m.s, .int .i64 m.e, .int .i64 m.d] 3)) := (Below.refl _ _).alloc (Nat.le_refl _) _
      go_wp2_with fail
      refine (Zg2 _ _ xs [m.s, m.e, m.d] _ (R.below (hB2.trans (hBa.mono hB2.size))) (IRow.lit3 w2 m.s m.e m.d)).mono ?_
      rintro e w3 ⟨rfl, hb3⟩
      have hb23 := hBa.trans (hb3.mono hBa.size)
      have hB3 := hB2.trans (hb23.mono hB2.size)
      have hk3 := (bb hk2 hb23)
      have hx3 := (bb hx2 hb23)
      clear hB2 hk2 hx2 hb3 hb23 hBa k0 k2 k3 k4
      generalize allI xs [m.s, m.e, m.d] = b3 at HM ⊢
      cases b3 with
      | false =>
        go_wp2
        go_ret
        exact ⟨retB (by rw [HM.out]; rfl), hB3⟩
      | true =>
        have l0 : w3.cell? ⟨w.heap.size, 0, none⟩ = some (.slice a1 ns.length c1) := cell_of_row w3 _ 0 _ _ _ hk3
        have l1 : w3.cell? ⟨w.heap.size, 1, none⟩ = some (.slice a2 is.length c2) := cell_of_row w3 _ 1 _ _ _ hk3
        have l2 : w3.cell? ⟨w.heap.size, 2, none⟩ = some (.slice a3 ds.length c3) := cell_of_row w3 _ 2 _ _ _ hk3
        have k0 : w3.cell? ⟨w.heap.size + 1, 0, none⟩ = some (.slice ao xs.length cap) := cell_of_row w3 _ 0 _ _ _ hx3
        have k1 : w3.cell? ⟨w.heap.size + 1, 1, none⟩ = some (.int .i64 m.p) := cell_of_row w3 _ 1 _ _ _ hx3
        have k2 : w3.cell? ⟨w.heap.size + 1, 2, none⟩ = some (.int .i64 m.s) := cell_of_row w3 _ 2 _ _ _ hx3
        have k3 : w3.cell? ⟨w.heap.size + 1, 3, none⟩ = some (.int .i64 m.e) := cell_of_row w3 _ 3 _ _ _ hx3
        have k4 : w3.cell? ⟨w.heap.size + 1, 4, none⟩ = some (.int .i64 m.d) := cell_of_row w3 _ 4 _ _ _ hx3
        have k5 : w3.cell? ⟨w.heap.size + 1, 5, none⟩ = some (.int .i64 m.t) := cell_of_row w3 _ 5 _ _ _ hx3
        have k6 : w3.cell? ⟨w.heap.size + 1, 6, none⟩ = some (.int .i64 m.q) := cell_of_row w3 _ 6 _ _ _ hx3
        have k7 : w3.cell? ⟨w.heap.size + 1, 7, none⟩ = some (.int .i64 m.r) := cell_of_row w3 _ 7 _ _ _ hx3
        go_wp2_with fail
        refine (Zdn _ _ _ _ _ _ _ _ _ _ xs m _ (R.below hB3)).mono ?_
        rintro e w4 ⟨rfl, hb4⟩
        have hB4 := hB3.trans (hb4.mono hB3.size)
        generalize Zby is.length xs m = b4 at HM ⊢
        cases b4 <;>
          (go_wp2
           go_ret
           exact ⟨retB (by rw [HM.out]; rfl), hB4⟩)
structure MBox (w : World) (b : Nat) (cc mc : Array Value) : Prop where
  code : w.heap[b]? = some (.cells cc 44 (0, 0))
  mach : w.heap[b + 1]? = some (.cells mc 81 (0, 0))
theorem MBox.below {w w' : World} {b : Nat} {cc mc : Array Value} (h : MBox w b cc mc) (hb : Below w.heap.size w w') : MBox w' b cc mc :=
  ⟨(hb.block _ (Array.getElem?_eq_some_iff.1 h.code).1).trans h.code, (hb.block _ (Array.getElem?_eq_some_iff.1 h.mach).1).trans h.mach⟩
set_option maxRecDepth 100000 in
set_option maxHeartbeats 6400000 in
theorem ZfB (v1 v2 v3 v : Value) (ns : List Nd) (is : List In) (ds : List Df) (xs : List Nd) (m : Mc) (w : World) (R1 : NRow w v1 ns) (R2 : InRow w v2 is) (R3 : DfRow w v3 ds) (R : NRow w v xs) :
    Calls Tryz.prog 166 #[.agg #[v1, v2, v3], .agg #[v, .int .i64 m.p, .int .i64 m.s, .int .i64 m.e, .int .i64 m.d, .int .i64 m.t, .int .i64 m.q, .int .i64 m.r]] w fun e w' => e = .returned (.bool (ZbH ns is ds xs m)) /\ Below w.heap.size w w' := by
  have hn2 : is.length <= 9223372036854775807 := by obtain ⟨_, _, _, _, hm, _⟩ := R2; exact hm
  have R' := R
  obtain ⟨ao, cap, rfl, _⟩ := R'
  obtain ⟨a1, c1, rfl⟩ := R1.small
  obtain ⟨a2, c2, rfl⟩ := R2.small
  obtain ⟨a3, c3, rfl⟩ := R3.small
  obtain ⟨mp, ms, me, md, mt, mq, mr⟩ := m
  obtain ⟨hB0, hk0, hx0⟩ := ZaB w (Obj.cells #[.slice a1 ns.length c1, .slice a2 is.length c2, .slice a3 ds.length c3] 44) (Obj.cells #[.slice ao xs.length cap, .int .i64 mp, .int .i64 ms, .int .i64 me, .int .i64 md, .int .i64 mt, .int .i64 mq, .int .i64 mr] 81)
  have X0 : MBox _ w.heap.size #[.slice a1 ns.length c1, .slice a2 is.length c2, .slice a3 ds.length c3] #[.slice ao xs.length cap, .int .i64 mp, .int .i64 ms, .int .i64 me, .int .i64 md, .int .i64 mt, .int .i64 mq, .int .i64 mr] := ⟨hk0, hx0⟩
  go_enter Tryz.func166, Tryz.ntmps166
  go_wp2_with fail
  refine (ZcZ _ _ _ ns is ds _ (R1.below hB0) (R2.below hB0) (R3.below hB0)).mono ?_
  rintro e w1 ⟨rfl, hb1⟩
  have hB1 := hB0.trans (hb1.mono hB0.size)
  have X1 := X0.below hb1
  clear hB0 hk0 hx0 hb1 X0
  have HM : Hid (ZbH ns is ds xs ⟨mp, ms, me, md, mt, mq, mr⟩ = (ZaM ns is ds && Zaq xs && (hasI xs ms && (hasI xs me && (hasI xs md && true))) && Zby is.length xs ⟨mp, ms, me, md, mt, mq, mr⟩)) := rfl
  have k0 : w1.cell? ⟨w.heap.size + 1, 0, none⟩ = some (.slice ao xs.length cap) := cell_of_row w1 _ 0 _ _ _ X1.mach
  generalize ZaM ns is ds = b1 at HM ⊢
  cases b1 with
  | false =>
    go_wp2
    go_ret
    exact ⟨retB (by rw [HM.out]; rfl), hB1⟩
  | true =>
    go_wp2_with fail
    refine (Zco _ xs _ (R.below hB1)).mono ?_
    rintro e w2 ⟨rfl, hb2⟩
    have hB2 := hB1.trans (hb2.mono hB1.size)
    have X2 := X1.below hb2
    clear hB1 X1 hb2 k0
    have k0 : w2.cell? ⟨w.heap.size + 1, 0, none⟩ = some (.slice ao xs.length cap) := cell_of_row w2 _ 0 _ _ _ X2.mach
    have k2 : w2.cell? ⟨w.heap.size + 1, 0 + 2, none⟩ = some (.int .i64 ms) := cell_of_row w2 _ 2 _ _ _ X2.mach
    generalize Zaq xs = b2 at HM ⊢
    cases b2 with
    | false =>
      go_wp2
      go_ret
      exact ⟨retB (by rw [HM.out]; rfl), hB2⟩
    | true =>
      go_wp2_with fail
      refine (Zcg _ xs _ _ (R.below hB2)).mono ?_
      rintro e w3 ⟨rfl, hb3⟩
      have hB3 := hB2.trans (hb3.mono hB2.size)
      have X3 := X2.below hb3
      clear hB2 X2 hb3 k0 k2
      have k0 : w3.cell? ⟨w.heap.size + 1, 0, none⟩ = some (.slice ao xs.length cap) := cell_of_row w3 _ 0 _ _ _ X3.mach
      have k3 : w3.cell? ⟨w.heap.size + 1, 0 + 3, none⟩ = some (.int .i64 me) := cell_of_row w3 _ 3 _ _ _ X3.mach
      generalize hasI xs ms = b3 at HM ⊢
      cases b3 with
      | false =>
        go_wp2
        go_ret
        exact ⟨retB (by rw [HM.out]; simp), hB3⟩
      | true =>
        go_wp2_with fail
        refine (Zcg _ xs _ _ (R.below hB3)).mono ?_
        rintro e w4 ⟨rfl, hb4⟩
        have hB4 := hB3.trans (hb4.mono hB3.size)
        have X4 := X3.below hb4
        clear hB3 X3 hb4 k0 k3
        have k0 : w4.cell? ⟨w.heap.size + 1, 0, none⟩ = some (.slice ao xs.length cap) := cell_of_row w4 _ 0 _ _ _ X4.mach
        have k4 : w4.cell? ⟨w.heap.size + 1, 0 + 4, none⟩ = some (.int .i64 md) := cell_of_row w4 _ 4 _ _ _ X4.mach
        generalize hasI xs me = b4 at HM ⊢
        cases b4 with
        | false =>
          go_wp2
          go_ret
          exact ⟨retB (by rw [HM.out]; simp), hB4⟩
        | true =>
          go_wp2_with fail
          refine (Zcg _ xs _ _ (R.below hB4)).mono ?_
          rintro e w5 ⟨rfl, hb5⟩
          have hB5 := hB4.trans (hb5.mono hB4.size)
          have X5 := X4.below hb5
          clear hB4 X4 hb5 k0 k4
          have k0 : w5.cell? ⟨w.heap.size + 1, 0, none⟩ = some (.slice ao xs.length cap) := cell_of_row w5 _ 0 _ _ _ X5.mach
          generalize hasI xs md = b5 at HM ⊢
          cases b5 with
          | false =>
            go_wp2
            go_ret
            exact ⟨retB (by rw [HM.out]; simp), hB5⟩
          | true =>
            have HS : Hid (ZbH ns is ds xs ⟨mp, ms, me, md, mt, mq, mr⟩ = Zby is.length xs ⟨mp, ms, me, md, mt, mq, mr⟩) := by unfold Hid; rw [HM.out]; simp
            clear HM
            have hBx := hB5
            have k1 : w5.cell? ⟨w.heap.size + 1, 0 + 1, none⟩ = some (.int .i64 mp) := cell_of_row w5 _ 1 _ _ _ X5.mach
            have k5 : w5.cell? ⟨w.heap.size + 1, 0 + 5, none⟩ = some (.int .i64 mt) := cell_of_row w5 _ 5 _ _ _ X5.mach
            have k6 : w5.cell? ⟨w.heap.size + 1, 0 + 6, none⟩ = some (.int .i64 mq) := cell_of_row w5 _ 6 _ _ _ X5.mach
            have k7 : w5.cell? ⟨w.heap.size + 1, 0 + 7, none⟩ = some (.int .i64 mr) := cell_of_row w5 _ 7 _ _ _ X5.mach
            have l1 : w5.cell? ⟨w.heap.size, 0 + 1, none⟩ = some (.slice a2 is.length c2) := cell_of_row w5 _ 1 _ _ _ X5.code
            have R5 := R.below hB5
            clear X5
            go_wp2_with fail
            refine (Zao mp 0 ((is.length : Int) - 1) _).mono ?_
            rintro e w6 ⟨rfl, rfl⟩
            have hpl : (decide (0 <= mp) && decide (mp <= (is.length : Int) - 1)) = Zcm is.length mp := by
              unfold Zcm
              congr 1
              rw [decide_eq_decide]
              omega
            rw [hpl]
            by_cases t0 : mt = 0
            · subst t0
              replace HS : Hid (ZbH ns is ds xs ⟨mp, ms, me, md, 0, mq, mr⟩ = (Zcm is.length mp && decide (mq = 0) && decide (mr = 0))) := HS
              generalize Zcm is.length mp = bb at HS ⊢
              cases bb with
              | true =>
                by_cases q0 : mq = 0
                · subst q0
                  by_cases r0 : mr = 0
                  · subst r0
                    go_wp2
                    go_ret
                    exact ⟨retB (by rw [HS.out]; rfl), hBx⟩
                  · have g1 : (mr == 0) = false := by simp [r0]
                    have g2 : decide (mr = 0) = false := by simp [r0]
                    go_wp2
                    go_ret
                    exact ⟨retB (by rw [HS.out, g2]; rfl), hBx⟩
                · have g1 : (mq == 0) = false := by simp [q0]
                  have g2 : decide (mq = 0) = false := by simp [q0]
                  go_wp2
                  go_ret
                  exact ⟨retB (by rw [HS.out, g2]; rfl), hBx⟩
              | false =>
                go_wp2
                go_ret
                exact ⟨retB (by rw [HS.out]; rfl), hBx⟩
            · by_cases t1 : mt = 1
              · subst t1
                replace HS : Hid (ZbH ns is ds xs ⟨mp, ms, me, md, 1, mq, mr⟩ = (Zcm is.length mp && askB mq && hasI xs mr)) := HS
                generalize Zcm is.length mp = bb at HS ⊢
                cases bb with
                | true =>
                  go_wp2_with fail
                  refine (Zao mq 13 19 _).mono ?_
                  rintro e w7 ⟨rfl, rfl⟩
                  have hask : askB mq = ((decide (13 <= mq) && decide (mq <= 19)) && decide (mq ≠ 18)) := by
                    unfold askB
                    congr 2
                  rw [hask] at HS
                  generalize (decide (13 <= mq) && decide (mq <= 19)) = b7 at HS ⊢
                  cases b7 with
                  | true =>
                    by_cases q18 : mq = 18
                    · subst q18
                      go_wp2
                      go_ret
                      exact ⟨retB (by rw [HS.out]; rfl), hBx⟩
                    · have g1 : (mq == 18) = false := by simp [q18]
                      have g2 : decide (mq = 18) = false := by simp [q18]
                      have g3 : decide (mq ≠ 18) = true := by simp [q18]
                      go_wp2_with fail
                      refine (Zcg _ xs _ _ R5).mono ?_
                      rintro e w8 ⟨rfl, hb8⟩
                      have hB8 := hBx.trans (hb8.mono hBx.size)
                      generalize hasI xs mr = b8 at HS ⊢
                      cases b8 <;>
                        (go_wp2
                         go_ret
                         exact ⟨retB (by rw [HS.out, g3]; first | rfl | simp [q18]), hB8⟩)
                  | false =>
                    go_wp2
                    go_ret
                    exact ⟨retB (by rw [HS.out]; rfl), hBx⟩
                | false =>
                  go_wp2
                  go_ret
                  exact ⟨retB (by rw [HS.out]; rfl), hBx⟩
              · generalize Zcm is.length mp = bb
                by_cases t2 : mt = 2
                · subst t2
                  replace HS : Hid (ZbH ns is ds xs ⟨mp, ms, me, md, 2, mq, mr⟩ = (decide (mp = 0) && decide (mq = 0) && hasI xs mr)) := HS
                  by_cases p0 : mp = 0
                  · subst p0
                    by_cases q0 : mq = 0
                    · subst q0
                      go_wp2_with fail
                      refine (Zcg _ xs _ _ R5).mono ?_
                      rintro e w8 ⟨rfl, hb8⟩
                      have hB8 := hBx.trans (hb8.mono hBx.size)
                      generalize hasI xs mr = b8 at HS ⊢
                      cases b8 <;>
                        (go_wp2
                         go_ret
                         exact ⟨retB (by rw [HS.out]; rfl), hB8⟩)
                    · have g1 : (mq == 0) = false := by simp [q0]
                      have g2 : decide (mq = 0) = false := by simp [q0]
                      go_wp2
                      go_ret
                      exact ⟨retB (by rw [HS.out, g2]; rfl), hBx⟩
                  · have g1 : (mp == 0) = false := by simp [p0]
                    have g2 : decide (mp = 0) = false := by simp [p0]
                    go_wp2
                    go_ret
                    exact ⟨retB (by rw [HS.out, g2]; rfl), hBx⟩
                · by_cases t3 : mt = 3
                  · subst t3
                    replace HS : Hid (ZbH ns is ds xs ⟨mp, ms, me, md, 3, mq, mr⟩ = (decide (mp = 0) && decide (1 <= mq) && decide (mq <= 7) && decide (mr = 0))) := HS
                    by_cases p0 : mp = 0
                    · subst p0
                      go_wp2_with fail
                      refine (Zao mq 1 7 _).mono ?_
                      rintro e w7 ⟨rfl, rfl⟩
                      replace HS : Hid (ZbH ns is ds xs ⟨0, ms, me, md, 3, mq, mr⟩ = ((decide (1 <= mq) && decide (mq <= 7)) && decide (mr = 0))) := by unfold Hid; rw [HS.out]; simp
                      generalize (decide (1 <= mq) && decide (mq <= 7)) = b7 at HS ⊢
                      cases b7 with
                      | true =>
                        by_cases r0 : mr = 0
                        · subst r0
                          go_wp2
                          go_ret
                          exact ⟨retB (by rw [HS.out]; rfl), hBx⟩
                        · have g1 : (mr == 0) = false := by simp [r0]
                          have g2 : decide (mr = 0) = false := by simp [r0]
                          go_wp2
                          go_ret
                          exact ⟨retB (by rw [HS.out, g2]; rfl), hBx⟩
                      | false =>
                        go_wp2
                        go_ret
                        exact ⟨retB (by rw [HS.out]; rfl), hBx⟩
                    · have g1 : (mp == 0) = false := by simp [p0]
                      have g2 : decide (mp = 0) = false := by simp [p0]
                      go_wp2
                      go_ret
                      exact ⟨retB (by rw [HS.out, g2]; rfl), hBx⟩
                  · replace HS : Hid (ZbH ns is ds xs ⟨mp, ms, me, md, mt, mq, mr⟩ = false) := by unfold Hid; rw [HS.out]; unfold Zby; simp [t0, t1, t2, t3]
                    have g0 : (mt == 0) = false := by simp [t0]
                    have g1 : (mt == 1) = false := by simp [t1]
                    have g2 : (mt == 2) = false := by simp [t2]
                    have g3 : (mt == 3) = false := by simp [t3]
                    have f0 : decide (mt = 0) = false := by simp [t0]
                    have f1 : decide (mt = 1) = false := by simp [t1]
                    have f2 : decide (mt = 2) = false := by simp [t2]
                    have f3 : decide (mt = 3) = false := by simp [t3]
                    go_wp2
                    go_ret
                    exact ⟨retB (by rw [HS.out]), hBx⟩
theorem Zim (k : Nat) (h : k + 1 < 9) : wrap64 (lim k * 128) = lim (k + 1) := by
 have h1 := ZfG k
 have h2 := Zc0 (show k <= 8 by omega)
 have h3 := ZhV (show k <= 7 by omega)
 rw [IntWalk.wrap64_in _ ⟨by omega, by omega⟩]
 simp only [lim]
 omega
set_option maxHeartbeats 800000 in
theorem Zf3 (v : Value) (zs : List Int) (a : Int) (w : World) (h : Row w v zs) (hlo : -9223372036854775808 <= a) (hhi : a <= 9223372036854775807) :
  Calls Tryz.prog 173 #[v, .int .i64 a] w fun e w' => e = .returned (gV (gN zs a)) /\ w' = w := by
 obtain ⟨ao, cap, rfl, hcap, hm, hz, hcell⟩ := h
 by_cases hneg : a < 0
 ·rw [ZjN zs a hneg]
  go_enter Tryz.func173, Tryz.ntmps173
  go_wp2
  go_ret3
  exact ⟨rfl, rfl⟩
 by_cases hout : (zs.length : Int) <= a
 ·obtain ⟨n, rfl⟩ := Int.eq_ofNat_of_zero_le (show 0 <= a by omega)
  rw [Zct zs n ((Sc.start zs n).out (Or.inr (by omega)))]
  go_enter Tryz.func173, Tryz.ntmps173
  go_wp2
  go_ret3
  exact ⟨rfl, rfl⟩
 obtain ⟨n, rfl⟩ := Int.eq_ofNat_of_zero_le (show 0 <= a by omega)
 obtain ⟨g, o, rfl, hg, hcell⟩ := hcell (by intro e; subst e; simp at hout)
 have hn : n < zs.length := by omega
 clear hneg hout hlo hhi
 go_enter Tryz.func173, Tryz.ntmps173
 go_wp2
 go_loop [7, 8, 9] (fun x u i => ∃ (k : Nat) (U : Int) (acc : List Int), k <= 9 /\ n + k <= zs.length /\ i = .int .i64 k /\ u = .int .i64 U /\ x = .int .i64 (val acc) /\ Hid (k < 9 -> U = lim k) /\ Hid (Sc zs n k acc)) (fun _ _ i => 9 - (intOf i).toNat)
 case atStart => exact ⟨0, 1, [], by omega, by omega, rfl, rfl, rfl, fun _ => rfl, Sc.start zs n⟩
 case round =>
  obtain ⟨k, U, acc, hk, hkl, rfl, rfl, rfl, HU, HS⟩ := hrel
  by_cases h9 : k < 9
  ·by_cases hlt : n + k < zs.length
   ·have hc := hcell (n + k) hlt
    have hU := HU.out h9
    have hvb := Zbx acc
    rw [HS.out.1] at hvb
    subst hU
    clear HU
    have hml := Zj1 zs[n + k] k
    have hl8 := Zc0 (show k <= 8 by omega)
    have hb := hz zs[n + k] (List.getElem_mem _)
    clear hcell hz
    by_cases hb128 : zs[n + k] < 128
    ·have hlast := HS.out.last h9 hlt hb128
     have hal := HS.out.1
     by_cases hz0 : zs[n + k] = 0
     ·by_cases hk0 : 0 < k
      ·have Hv : Hid (gN zs (n : Int) = (0, 0, false)) := Zj7 zs n acc (by rw [hlast, hz0]) (by omega)
       clear hlast hal
       go_wp2
       go_ret3
       exact ⟨by rw [Hv.out]; rfl, rfl⟩
      ·have Hv : Hid (gN zs (n : Int) = (val acc, (n : Int) + k + 1, true)) := by
        have := ZhP zs n acc zs[n + k] hlast (by omega)
        rw [hal, hz0] at this
        simpa [Hid] using this
       clear hlast hal
       go_wp2
       go_ret3
       exact ⟨by rw [Hv.out]; rfl, rfl⟩
     ·have Hv : Hid (gN zs (n : Int) = (val acc + zs[n + k] % 128 * lim k, (n : Int) + k + 1, true)) := by
       have := ZhP zs n acc zs[n + k] hlast (by omega)
       rw [hal] at this; exact this
      clear hlast hal
      go_wp2
      go_ret3
      exact ⟨by rw [Hv.out]; rfl, rfl⟩
    ·go_wp2
     refine ⟨⟨_, _, _, _, _, _, ⟨k + 1, by omega, by omega, ?ra, wrap64 (lim k * 128), ?rb, acc ++ [zs[n + k]], ?rc, ?rd, HS.out.more h9 hlt (by omega)⟩, rfl, rfl, rfl, rfl, rfl, rfl⟩, by simp [intOf]; omega⟩
     case ra => go_num
     case rb => rfl
     case rc => rw [Zf6, HS.out.1]
     case rd => exact fun h => Zim k h
   ·have Hv : Hid (gN zs (n : Int) = (0, 0, false)) := Zct zs n (HS.out.out (Or.inr (by omega)))
    go_wp2
    go_ret3
    exact ⟨by rw [Hv.out]; rfl, rfl⟩
  ·have Hv : Hid (gN zs (n : Int) = (0, 0, false)) := Zct zs n (HS.out.out (Or.inl (by omega)))
   go_wp2
   go_ret3
   exact ⟨by rw [Hv.out]; rfl, rfl⟩
def C8 (w : World) (b : Nat) (v : Value) (at_ : Int) (ok : Bool) : Prop := w.heap[b]? = some (.cells #[v, .int .i64 at_, .bool ok] 197 (0, 0))
set_option maxRecDepth 100000 in
set_option maxHeartbeats 3200000 in
theorem Zii (b : Nat) (v : Value) (zs : List Int) (at_ : Int) (ok : Bool) (w : World) (R : Row w v zs) (h : C8 w b v at_ ok) (hlo : -9223372036854775808 <= at_) (hhi : at_ <= 9223372036854775807) :
  Calls Tryz.prog 143 #[.pointer (some ⟨b, 0, none⟩)] w fun e w' => e = .returned (.int .i64 (num8 zs at_ ok).1) /\ C8 w' b v (num8 zs at_ ok).2.1 (num8 zs at_ ok).2.2 /\ w.grownBy w' (some b) := by
 have R' := R
 obtain ⟨ao, cap, rfl, _⟩ := R'
 unfold C8 at h
 have c0 : w.cell? ⟨b, 0, none⟩ = some (.slice ao zs.length cap) := cell_of_row _ _ 0 _ _ _ h
 have c1 : w.cell? ⟨b, 1, none⟩ = some (.int .i64 at_) := cell_of_row _ _ 1 _ _ _ h
 have c2 : w.cell? ⟨b, 2, none⟩ = some (.bool ok) := cell_of_row _ _ 2 _ _ _ h
 have f1 : w.frozen? ⟨b, 1, none⟩ = false := frozen_of_row _ _ 1 _ _ h
 have f2 : w.frozen? ⟨b, 2, none⟩ = false := frozen_of_row _ _ 2 _ _ h
 obtain ⟨g, hg⟩ : ∃ g, Hid (gN zs at_ = g) := ⟨_, rfl⟩
 obtain ⟨gx, gn, gk⟩ := g
 have HG : ∀ W : World, Row W (.slice ao zs.length cap) zs -> Calls Tryz.prog 173 #[.slice ao zs.length cap, .int .i64 at_] W fun e w' => e = .returned (.tuple #[.int .i64 gx, .int .i64 gn, .bool gk]) /\ w' = W := fun W RW => by
  have := Zf3 _ zs at_ W RW hlo hhi
  rw [hg.out] at this
  exact this
 have HN : Hid (num8 zs at_ ok = if ok && gk then (gx, gn, true) else (0, at_, false)) := by unfold Hid num8; rw [hg.out]
 have hd : ∀ m, Below w.heap.size w (w.drewN m) := fun m => ⟨rfl, rfl, rfl, Nat.le_refl _, fun _ _ => rfl⟩
 go_enter Tryz.func143, Tryz.ntmps143
 go_wp2_with fail
 go_quiet (first | (go_at_call 173; refine Calls.quiet_of_same (HG _ R)))
 all_goals
  have lt := (bl h)
  have h2 := ((hd nq).block _ lt).trans h
  have g2 : w.grownBy (w.drewN nq) (some b) := ⟨rfl, rfl, rfl, Nat.le_refl _, fun _ _ _ => rfl⟩
  clear c0 c1 c2 f1 f2 hd HG
  generalize w.drewN nq = w2 at *
  have c1 : w2.cell? ⟨b, 1, none⟩ = some (.int .i64 at_) := cell_of_row _ _ 1 _ _ _ h2
  have c2 : w2.cell? ⟨b, 2, none⟩ = some (.bool ok) := cell_of_row _ _ 2 _ _ _ h2
  have f1 : w2.frozen? ⟨b, 1, none⟩ = false := frozen_of_row _ _ 1 _ _ h2
  have f2 : w2.frozen? ⟨b, 2, none⟩ = false := frozen_of_row _ _ 2 _ _ h2
  cases gk with
  | false =>
   have HN2 : Hid (num8 zs at_ ok = (0, at_, false)) := by unfold Hid; rw [HN.out, Bool.and_false]; rfl
   clear HN hg
   go_wp2
   go_ret
   rw [HN2.out]
   exact ⟨rfl, heap_setCell_same w2 b 2 _ _ (.bool false) h2, Zai g2 (Zae w2 b 2 _)⟩
  | true =>
   cases ok with
   | false =>
    have HN2 : Hid (num8 zs at_ false = (0, at_, false)) := HN.out
    clear HN hg
    go_wp2
    go_ret
    rw [HN2.out]
    exact ⟨rfl, heap_setCell_same w2 b 2 _ _ (.bool false) h2, Zai g2 (Zae w2 b 2 _)⟩
   | true =>
    have HN2 : Hid (num8 zs at_ true = (gx, gn, true)) := HN.out
    clear HN hg
    go_wp2
    go_ret
    rw [HN2.out]
    exact ⟨rfl, heap_setCell_same w2 b 1 _ _ (.int .i64 gn) h2, Zai g2 (Zae w2 b 1 _)⟩
end Go.Proofs.YtfmafkebddojjaaGreatDoor
