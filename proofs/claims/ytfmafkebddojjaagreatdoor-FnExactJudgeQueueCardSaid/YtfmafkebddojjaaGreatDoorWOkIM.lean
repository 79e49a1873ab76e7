/-
  Texts that stood by themselves, laid into one.
-/
import Derived.Test.YtfmafkebddojjaaGreatDoorLinkM
import Derived.Test.YtfmafkebddojjaaGreatDoorS8ValM
import Derived.Test.YtfmafkebddojjaaGreatDoorWOkRM
import Derived.Test.YtfmafkebddojjaaGreatDoorWOkMM
import Derived.Test.YtfmafkebddojjaaGreatDoorR8mM
/-
  Contracts of impl's windowEnd, heldFits and LinkOk, and of spec's LinkOk: which links are right. No condition.
-/
namespace Go.Proofs.YtfmafkebddojjaaGreatDoor
open Go.RowKit
def Zbq (e : Int) : Int -> List Pc -> Bool
 | _, [] => true
 | last, p :: ps => decide (last < p.n) && (decide (p.n < e) && Zbq e p.n ps)
def lend (l : Lk) : Int := if l.got + 4 <= l.sent then l.got + 4 else l.sent
def ZaN (l : Lk) : Bool :=
 decide (0 <= l.acked /\ l.acked <= l.got /\ l.got <= l.sent /\ l.sent <= 100000 /\ (l.q.length : Int) = l.sent - l.acked /\ l.q.length <= 30) && Zbq (lend l) l.got l.h
theorem Za6 {l : Lk} (h : ZaN l = true) : 0 <= l.acked /\ l.acked <= l.got /\ l.got <= l.sent /\ l.sent <= 100000 /\ (l.q.length : Int) = l.sent - l.acked /\ l.q.length <= 30 := by
 unfold ZaN at h
 simp only [Bool.and_eq_true, decide_eq_true_eq] at h
 exact h.1
theorem ZaG {l : Lk} (h : ¬ (0 <= l.acked /\ l.acked <= l.got /\ l.got <= l.sent /\ l.sent <= 100000 /\ (l.q.length : Int) = l.sent - l.acked /\ l.q.length <= 30)) : ZaN l = false := by
 unfold ZaN
 rw [decide_eq_false h]
 rfl
theorem ZdB {l : Lk} (h : 0 <= l.acked /\ l.acked <= l.got /\ l.got <= l.sent /\ l.sent <= 100000 /\ (l.q.length : Int) = l.sent - l.acked /\ l.q.length <= 30) : ZaN l = Zbq (lend l) l.got l.h := by
 unfold ZaN
 rw [decide_eq_true h]
 rfl
set_option maxHeartbeats 400000 in
theorem Zfm (v1 v2 : Value) (l : Lk) (w : World) (h0 : 0 <= l.got) (h1 : l.got <= l.sent) (h2 : l.sent <= 100000) (a1 : Option Addr) (n1 c1 : Nat) (e1 : v1 = .slice a1 n1 c1) (a2 : Option Addr) (n2 c2 : Nat) (e2 : v2 = .slice a2 n2 c2) :
  Calls Tryz.prog 233 #[.agg #[.int .i64 l.sent, .int .i64 l.acked, v1, .int .i64 l.got, v2]] w fun e w' => e = .returned (.int .i64 (lend l)) /\ Below w.heap.size w w' := by
 subst e1 e2
 have hB0 : Below w.heap.size w (w.alloc (Obj.cells #[.int .i64 l.sent, .int .i64 l.acked, .slice a1 n1 c1, .int .i64 l.got, .slice a2 n2 c2] 88)) := (Below.refl _ _).alloc (Nat.le_refl _) _
 by_cases hle : l.got + 4 <= l.sent
 ·have HL : Hid (lend l = l.got + 4) := by unfold Hid lend; rw [if_pos hle]
  go_enter Tryz.func233, Tryz.ntmps233
  go_wp2
  go_ret
  exact ⟨by rw [HL.out]; rfl, hB0⟩
 ·have HL : Hid (lend l = l.sent) := by unfold Hid lend; rw [if_neg hle]
  go_enter Tryz.func233, Tryz.ntmps233
  go_wp2
  go_ret
  exact ⟨by rw [HL.out]; rfl, hB0⟩
theorem ZdA {e z : Int} {h : List Pc} {j : Nat} {x : Pc} (hx : h[j]? = some x) : Zbq e z (h.drop j) = (decide (z < x.n) && (decide (x.n < e) && Zbq e x.n (h.drop (j + 1)))) := by
 obtain ⟨hl, rfl⟩ := List.getElem?_eq_some_iff.1 hx
 rw [List.drop_eq_getElem_cons hl]
 rfl
theorem ZeZ {e z : Int} {h : List Pc} : Zbq e z (h.drop h.length) = true := by rw [List.drop_length]; rfl
set_option maxHeartbeats 800000 in
theorem Zd5 (v1 v2 : Value) (l : Lk) (w : World) (h0 : 0 <= l.got) (h1 : l.got <= l.sent) (h2 : l.sent <= 100000) (a1 : Option Addr) (n1 c1 : Nat) (e1 : v1 = .slice a1 n1 c1) (R : PcRow w v2 l.h) :
  Calls Tryz.prog 199 #[.agg #[.int .i64 l.sent, .int .i64 l.acked, v1, .int .i64 l.got, v2]] w fun e w' => e = .returned (.bool (Zbq (lend l) l.got l.h)) /\ Below w.heap.size w w' := by
 subst e1
 obtain ⟨a2, c2, rfl, hcap, hm, hz, hcell⟩ := R
 have hB0 : Below w.heap.size w (w.alloc (Obj.cells #[.int .i64 l.sent, .int .i64 l.acked, .slice a1 n1 c1, .int .i64 l.got, .slice a2 l.h.length c2] 88)) := (Below.refl _ _).alloc (Nat.le_refl _) _
 have LW := fun w => Zfm (.slice a1 n1 c1) (.slice a2 l.h.length c2) l w h0 h1 h2 a1 n1 c1 rfl a2 l.h.length c2 rfl
 obtain ⟨r, hr⟩ : ∃ r, Zbq (lend l) l.got l.h = r := ⟨_, rfl⟩
 rw [hr]
 generalize lend l = E at LW hr
 have HR : Hid (Zbq E l.got l.h = r) := hr
 clear hr
 go_enter Tryz.func199, Tryz.ntmps199
 go_wp2_with fail
 go_region_with (go_at_call 233; refine (LW _).mono ?_; rintro e w1 ⟨rfl, hb1⟩; have hx1 : w1.heap[w.heap.size]? = some (.cells #[.int .i64 l.sent, .int .i64 l.acked, .slice a1 n1 c1, .int .i64 l.got, .slice a2 l.h.length c2] 88 (0, 0)) := (hb1.block _ (by simp)).trans (heap_alloc_new _ _); have cx3 : w1.cell? ⟨w.heap.size, 0 + 3, none⟩ = some (.int .i64 l.got) := by rw [cell_of_row w1 _ 3 _ _ _ hx1]; rfl)
 all_goals
  have hB1 : Below w.heap.size w w1 := hB0.drew.trans (hb1.mono (by simp))
  have cx4 : w1.cell? ⟨w.heap.size, 0 + 4, none⟩ = some (.slice a2 l.h.length c2) := by rw [cell_of_row w1 _ 4 _ _ _ hx1]; rfl
  clear hb1
  go_wp2
  go_loopw [3, 14] (fun q i wr => ∃ (j : Nat) (z : Int), j <= l.h.length /\ i = .int .i64 j /\ q = .int .i64 z /\ Hid (Zbq E l.got l.h = Zbq E z (l.h.drop j)) /\ Below w.heap.size w wr) (fun _ i _ => l.h.length - (intOf i).toNat)
  case atStart => exact ⟨0, l.got, by omega, rfl, rfl, rfl, hB1⟩
  case round =>
   clear hx1 cx3 cx4 hB1 hB0
   obtain ⟨j, z, hj, rfl, rfl, HA, hb⟩ := hrel
   by_cases hlt : j < l.h.length
   ·obtain ⟨g, o, rfl, hg, hcell⟩ := hcell (by intro e; rw [e] at hlt; simp at hlt)
    obtain ⟨x, hx⟩ : ∃ x, l.h[j]? = some x := ⟨l.h[j], by simp [hlt]⟩
    obtain ⟨k0, k1⟩ := (hcell j x hx).below hb hg
    have HC : Hid (Zbq E l.got l.h = (decide (z < x.n) && (decide (x.n < E) && Zbq E x.n (l.h.drop (j + 1))))) := by unfold Hid; rw [HA.out, ZdA hx]
    clear hcell HA hx
    have hBn := hb.alloc hb.size (Obj.cells #[.int .i64 x.n, .string x.s] 91)
    by_cases hz1 : x.n <= z
    ·go_wp2
     go_ret
     exact ⟨retB (by rw [<- HR.out, HC.out, decide_eq_false (p := z < x.n) (by omega)]; rfl), hBn⟩
    ·by_cases hz2 : E <= x.n
     ·go_wp2
      go_ret
      exact ⟨retB (by rw [<- HR.out, HC.out, decide_eq_false (p := x.n < E) (by omega), Bool.false_and, Bool.and_false]), hBn⟩
     ·go_wp2
      go_roundw
      case rel => exact ⟨j + 1, x.n, by omega, by go_num, rfl, by unfold Hid; rw [HC.out, decide_eq_true (p := z < x.n) (by omega), decide_eq_true (p := x.n < E) (by omega), Bool.true_and, Bool.true_and], hBn⟩
      case measure => simp [intOf]; omega
   ·go_wp2
    go_ret
    have : j = l.h.length := by omega
    subst this
    exact ⟨retB (by rw [<- HR.out, HA.out, ZeZ]), hb⟩
set_option maxHeartbeats 800000 in
theorem ZbD (v1 v2 : Value) (l : Lk) (w : World) (R1 : StRow w v1 l.q) (R2 : PcRow w v2 l.h) :
  Calls Tryz.prog 157 #[.agg #[.int .i64 l.sent, .int .i64 l.acked, v1, .int .i64 l.got, v2]] w fun e w' => e = .returned (.bool (ZaN l)) /\ Below w.heap.size w w' := by
 obtain ⟨a1, c1, rfl⟩ := R1.small
 obtain ⟨a2, c2, rfl⟩ := R2.small
 have hq := R1.le
 have hB0 : Below w.heap.size w (w.alloc (Obj.cells #[.int .i64 l.sent, .int .i64 l.acked, .slice a1 l.q.length c1, .int .i64 l.got, .slice a2 l.h.length c2] 88)) := (Below.refl _ _).alloc (Nat.le_refl _) _
 by_cases i1 : 0 <= l.acked
 rotate_left
 ·have HF : Hid (ZaN l = false) := ZaG (by omega)
  go_enter Tryz.func157, Tryz.ntmps157
  go_wp2
  go_ret
  exact ⟨retB HF.out.symm, hB0⟩
 by_cases i2 : l.acked <= l.got
 rotate_left
 ·have HF : Hid (ZaN l = false) := ZaG (by omega)
  go_enter Tryz.func157, Tryz.ntmps157
  go_wp2
  go_ret
  exact ⟨retB HF.out.symm, hB0⟩
 by_cases i3 : l.got <= l.sent
 rotate_left
 ·have HF : Hid (ZaN l = false) := ZaG (by omega)
  go_enter Tryz.func157, Tryz.ntmps157
  go_wp2
  go_ret
  exact ⟨retB HF.out.symm, hB0⟩
 by_cases i4 : l.sent <= 100000
 rotate_left
 ·have HF : Hid (ZaN l = false) := ZaG (by omega)
  go_enter Tryz.func157, Tryz.ntmps157
  go_wp2
  go_ret
  exact ⟨retB HF.out.symm, hB0⟩
 by_cases i5 : (l.q.length : Int) = l.sent - l.acked
 rotate_left
 ·have HF : Hid (ZaN l = false) := ZaG (by omega)
  have c5 : ((l.q.length : Int) == l.sent - l.acked) = false := by simpa using i5
  go_enter Tryz.func157, Tryz.ntmps157
  go_wp2
  go_ret
  exact ⟨retB HF.out.symm, hB0⟩
 have c5 : ((l.q.length : Int) == l.sent - l.acked) = true := by simpa using i5
 by_cases i6 : l.q.length <= 30
 rotate_left
 ·have HF : Hid (ZaN l = false) := ZaG (by omega)
  have i6' : ¬ (l.q.length : Int) <= 30 := by omega
  have I5 : Hid ((l.q.length : Int) = l.sent - l.acked) := i5
  clear i5
  go_enter Tryz.func157, Tryz.ntmps157
  go_wp2
  go_ret
  exact ⟨retB HF.out.symm, hB0⟩
 have HF : Hid (ZaN l = Zbq (lend l) l.got l.h) := ZdB ⟨i1, i2, i3, i4, i5, i6⟩
 have i6' : (l.q.length : Int) <= 30 := by omega
 clear i5
 go_enter Tryz.func157, Tryz.ntmps157
 go_wp2_with fail
 refine (Zd5 _ _ l _ (by omega) i3 i4 a1 l.q.length c1 rfl (R2.below hB0)).mono ?_
 rintro e w1 ⟨rfl, hb1⟩
 have hB1 := hB0.trans (hb1.mono hB0.size)
 generalize Zbq (lend l) l.got l.h = r at *
 clear hb1 hB0
 cases r
 all_goals
  go_wp2
  go_ret
  exact ⟨retB HF.out.symm, hB1⟩
theorem Zia (l : Lk) (w : World) : Calls Tryz.prog 168 #[.int .i64 (l.got + 4), .int .i64 l.sent] w fun e w' => e = .returned (.int .i64 (lend l)) /\ w' = w := by
 refine (ZiW _ _ _).mono ?_
 rintro e w' ⟨rfl, rfl⟩
 refine ⟨?_, rfl⟩
 have : min (l.got + 4) l.sent = lend l := by unfold lend; split <;> omega
 rw [this]
theorem ZcD (x a b : Int) (r : Bool) (h : (decide (a <= x) && decide (x <= b)) = r) (w : World) : Calls Tryz.prog 74 #[.int .i64 x, .int .i64 a, .int .i64 b] w fun e w' => e = .returned (.bool r) /\ w' = w := by
 rw [<- h]
 exact Zao x a b w
theorem ZfR {x a b : Int} (h : a <= x /\ x <= b) : (decide (a <= x) && decide (x <= b)) = true := by simp [h.1, h.2]
theorem Zjj {x a b : Int} (h : ¬ (a <= x /\ x <= b)) : (decide (a <= x) && decide (x <= b)) = false := by
 rw [Bool.eq_false_iff]
 intro e
 simp only [Bool.and_eq_true, decide_eq_true_eq] at e
 exact h e
set_option maxRecDepth 100000 in
set_option maxHeartbeats 6400000 in
theorem ZbC (v1 v2 : Value) (l : Lk) (w : World) (R1 : StRow w v1 l.q) (R2 : PcRow w v2 l.h) :
  Calls Tryz.prog 130 #[.agg #[.int .i64 l.sent, .int .i64 l.acked, v1, .int .i64 l.got, v2]] w fun e w' => e = .returned (.bool (ZaN l)) /\ Below w.heap.size w w' := by
 obtain ⟨a1, c1, rfl⟩ := R1.small
 have hq := R1.le
 obtain ⟨a2, c2, rfl, hcap, hm, hz, hcell⟩ := R2
 have hB0 : Below w.heap.size w (w.alloc (Obj.cells #[.int .i64 l.sent, .int .i64 l.acked, .slice a1 l.q.length c1, .int .i64 l.got, .slice a2 l.h.length c2] 88)) := (Below.refl _ _).alloc (Nat.le_refl _) _
 by_cases i1 : 0 <= l.sent /\ l.sent <= 100000
 rotate_left
 ·have HF : Hid (ZaN l = false) := ZaG (by omega)
  have L1 := ZcD l.sent 0 100000 false (Zjj i1)
  go_enter Tryz.func130, Tryz.ntmps130
  go_wp2_with fail
  refine (L1 _).mono ?_
  rintro e w1 ⟨rfl, rfl⟩
  go_wp2
  go_ret
  exact ⟨retB HF.out.symm, hB0⟩
 have L1 := ZcD l.sent 0 100000 true (ZfR i1)
 by_cases i2 : 0 <= l.got /\ l.got <= l.sent
 rotate_left
 ·have HF : Hid (ZaN l = false) := ZaG (by omega)
  have L2 := ZcD l.got 0 l.sent false (Zjj i2)
  go_enter Tryz.func130, Tryz.ntmps130
  go_wp2_with fail
  refine (L1 _).mono ?_
  rintro e w1 ⟨rfl, rfl⟩
  go_wp2_with fail
  refine (L2 _).mono ?_
  rintro e w1 ⟨rfl, rfl⟩
  go_wp2
  go_ret
  exact ⟨retB HF.out.symm, hB0⟩
 have L2 := ZcD l.got 0 l.sent true (ZfR i2)
 by_cases i3 : 0 <= l.acked /\ l.acked <= l.got
 rotate_left
 ·have HF : Hid (ZaN l = false) := ZaG (by omega)
  have L3 := ZcD l.acked 0 l.got false (Zjj i3)
  go_enter Tryz.func130, Tryz.ntmps130
  go_wp2_with fail
  refine (L1 _).mono ?_
  rintro e w1 ⟨rfl, rfl⟩
  go_wp2_with fail
  refine (L2 _).mono ?_
  rintro e w1 ⟨rfl, rfl⟩
  go_wp2_with fail
  refine (L3 _).mono ?_
  rintro e w1 ⟨rfl, rfl⟩
  go_wp2
  go_ret
  exact ⟨retB HF.out.symm, hB0⟩
 have L3 := ZcD l.acked 0 l.got true (ZfR i3)
 by_cases i5 : (l.q.length : Int) = l.sent - l.acked
 rotate_left
 ·have HF : Hid (ZaN l = false) := ZaG (by omega)
  have c5 : ((l.q.length : Int) != l.sent - l.acked) = true := by simpa using i5
  go_enter Tryz.func130, Tryz.ntmps130
  go_wp2_with fail
  refine (L1 _).mono ?_
  rintro e w1 ⟨rfl, rfl⟩
  go_wp2_with fail
  refine (L2 _).mono ?_
  rintro e w1 ⟨rfl, rfl⟩
  go_wp2_with fail
  refine (L3 _).mono ?_
  rintro e w1 ⟨rfl, rfl⟩
  obtain ⟨i11, i12⟩ := i1
  obtain ⟨i21, i22⟩ := i2
  obtain ⟨i31, i32⟩ := i3
  go_wp2
  go_ret
  exact ⟨retB HF.out.symm, hB0⟩
 have c5 : ((l.q.length : Int) != l.sent - l.acked) = false := by simpa using i5
 by_cases i6 : l.q.length <= 30
 rotate_left
 ·have HF : Hid (ZaN l = false) := ZaG (by omega)
  have i6' : 30 < (l.q.length : Int) := by omega
  clear i5
  go_enter Tryz.func130, Tryz.ntmps130
  go_wp2_with fail
  refine (L1 _).mono ?_
  rintro e w1 ⟨rfl, rfl⟩
  go_wp2_with fail
  refine (L2 _).mono ?_
  rintro e w1 ⟨rfl, rfl⟩
  go_wp2_with fail
  refine (L3 _).mono ?_
  rintro e w1 ⟨rfl, rfl⟩
  obtain ⟨i11, i12⟩ := i1
  obtain ⟨i21, i22⟩ := i2
  obtain ⟨i31, i32⟩ := i3
  go_wp2
  go_ret
  exact ⟨retB HF.out.symm, hB0⟩
 have HF : Hid (ZaN l = Zbq (lend l) l.got l.h) := ZdB ⟨i3.1, i3.2, i2.2, i1.2, i5, i6⟩
 have i6' : ¬ 30 < (l.q.length : Int) := by omega
 clear i5
 obtain ⟨i11, i12⟩ := i1
 obtain ⟨i21, i22⟩ := i2
 obtain ⟨i31, i32⟩ := i3
 have LM := Zia l
 have hE : 0 <= lend l /\ lend l <= 100000 := by unfold lend; split <;> omega
 obtain ⟨r, hr⟩ : ∃ r, ZaN l = r := ⟨_, rfl⟩
 rw [hr]
 rw [hr] at HF
 clear hr
 generalize lend l = E at LM HF hE
 obtain ⟨hE0, hE1⟩ := hE
 have W1 : IntKind.i64.wrap (l.got + 4) = l.got + 4 := by rw [IntKind.wrap_i64]; omega
 have W2 : IntKind.i64.wrap (l.got + 1) = l.got + 1 := by rw [IntKind.wrap_i64]; omega
 have W3 : IntKind.i64.wrap (E - 1) = E - 1 := by rw [IntKind.wrap_i64]; omega
 go_enter Tryz.func130, Tryz.ntmps130
 go_wp2_with fail
 refine (L1 _).mono ?_
 rintro e w1 ⟨rfl, rfl⟩
 go_wp2_with fail
 refine (L2 _).mono ?_
 rintro e w1 ⟨rfl, rfl⟩
 go_wp2_with fail
 refine (L3 _).mono ?_
 rintro e w1 ⟨rfl, rfl⟩
 have hx0 := heap_alloc_new w (Obj.cells #[.int .i64 l.sent, .int .i64 l.acked, .slice a1 l.q.length c1, .int .i64 l.got, .slice a2 l.h.length c2] 88)
 generalize hw0 : w.alloc (Obj.cells #[.int .i64 l.sent, .int .i64 l.acked, .slice a1 l.q.length c1, .int .i64 l.got, .slice a2 l.h.length c2] 88) = w0 at *
 have cx0 : w0.cell? ⟨w.heap.size, 0, none⟩ = some (.int .i64 l.sent) := by rw [cell_of_row w0 _ 0 _ _ _ hx0]; rfl
 have cx1 : w0.cell? ⟨w.heap.size, 0 + 1, none⟩ = some (.int .i64 l.acked) := by rw [cell_of_row w0 _ 1 _ _ _ hx0]; rfl
 have cx2 : w0.cell? ⟨w.heap.size, 0 + 2, none⟩ = some (.slice a1 l.q.length c1) := by rw [cell_of_row w0 _ 2 _ _ _ hx0]; rfl
 have cx3 : w0.cell? ⟨w.heap.size, 0 + 3, none⟩ = some (.int .i64 l.got) := by rw [cell_of_row w0 _ 3 _ _ _ hx0]; rfl
 have cx4 : w0.cell? ⟨w.heap.size, 0 + 4, none⟩ = some (.slice a2 l.h.length c2) := by rw [cell_of_row w0 _ 4 _ _ _ hx0]; rfl
 have HW : Hid (w0.heap.size = w.heap.size + 1) := by unfold Hid; rw [<- hw0]; simp
 clear hx0 hw0 L1 L2 L3
 go_wp2
 go_loopw [3] (fun i wr => ∃ (j : Nat) (z : Int), j <= l.h.length /\ i = .int .i64 j /\ l.got <= z /\ (j = 0 -> z = l.got) /\ Hid (∀ j', j = j' + 1 -> ∃ x, l.h[j']? = some x /\ x.n = z) /\ Hid (Zbq E l.got l.h = Zbq E z (l.h.drop j)) /\ Below w0.heap.size w0 wr) (fun i _ => l.h.length - (intOf i).toNat)
 case atStart => exact ⟨0, l.got, by omega, rfl, by omega, fun _ => rfl, fun j' e => by omega, rfl, Below.refl _ _⟩
 case round =>
  obtain ⟨j, z, hj, rfl, hgz, hz0, HJ, HA, hb0⟩ := hrel
  have hw1 : w.heap.size < w0.heap.size := by have := HW.out; omega
  have hBn : Below w.heap.size w wr := hB0.trans (hb0.mono hB0.size)
  replace cx0 := (hb0.cell (p := ⟨w.heap.size, 0, none⟩) hw1).trans cx0
  replace cx3 := (hb0.cell (p := ⟨w.heap.size, 0 + 3, none⟩) hw1).trans cx3
  replace cx4 := (hb0.cell (p := ⟨w.heap.size, 0 + 4, none⟩) hw1).trans cx4
  clear cx1 cx2
  have dn : ∀ m, Below w0.heap.size w0 (wr.drewN m) := fun m => hb0.trans ⟨rfl, rfl, rfl, Nat.le_refl _, fun _ _ => rfl⟩
  have dN : ∀ m, Below w.heap.size w (wr.drewN m) := fun m => hBn.trans ⟨rfl, rfl, rfl, Nat.le_refl _, fun _ _ => rfl⟩
  clear hw1
  by_cases hlt : j < l.h.length
  ·obtain ⟨g, o, rfl, hg, hcell⟩ := hcell (by intro e; rw [e] at hlt; simp at hlt)
   obtain ⟨x, hx⟩ : ∃ x, l.h[j]? = some x := ⟨l.h[j], by simp [hlt]⟩
   obtain ⟨k0, _⟩ := (hcell j x hx).below hBn hg
   have HC : Hid (Zbq E l.got l.h = (decide (z < x.n) && (decide (x.n < E) && Zbq E x.n (l.h.drop (j + 1))))) := by unfold Hid; rw [HA.out, ZdA hx]
   have HX : Hid (l.h[j]? = some x) := hx
   by_cases hin : l.got + 1 <= x.n /\ x.n <= E - 1
   ·have LI := ZcD x.n (l.got + 1) (E - 1) true (ZfR hin)
    by_cases hj0 : j = 0
    ·have hzz := hz0 hj0
     subst hj0
     clear hcell HA hx
     simp only [Nat.zero_mul, Nat.add_zero] at k0
     have g0 : (decide ((0 : Int) < 0)) = false := by decide
     go_wp2
     go_quiet (first | (go_at_call 168; refine Calls.quiet_of_same (LM _)) | (go_at_call 74; refine Calls.quiet_of_same (LI _)))
     go_wp2
     go_roundw
     case rel => exact ⟨1, x.n, by omega, by go_num, by omega, fun e => by omega, fun j' e => ⟨x, by rw [<- HX.out]; congr 1; omega, rfl⟩, by unfold Hid; rw [HC.out, decide_eq_true (p := z < x.n) (by omega), decide_eq_true (p := x.n < E) (by omega), Bool.true_and, Bool.true_and], dn _⟩
     case measure => simp [intOf]; omega
    ·obtain ⟨j', hj'⟩ : ∃ j', j = j' + 1 := ⟨j - 1, by omega⟩
     obtain ⟨x', hx', hxz⟩ := HJ.out j' hj'
     obtain ⟨d0, _⟩ := (hcell j' x' hx').below hBn hg
     rw [hxz] at d0
     have hj1 : (j : Int) - 1 = (j' : Int) := by omega
     have hj2 : j' < l.h.length := by omega
     have hj3 : (0 : Int) < (j : Int) := by omega
     have hj4 : decide ((0 : Int) < (j : Int)) = true := by simpa using hj3
     have hj5 : 0 < j := by omega
     have W4 : IntKind.i64.wrap ((j : Int) - 1) = (j' : Int) := by rw [hj1, IntKind.wrap_i64]; omega
     clear hcell HA hx HJ hz0 hx' hxz hj'
     by_cases hlast : x.n <= z
     ·go_wp2
      go_quiet (first | (go_at_call 168; refine Calls.quiet_of_same (LM _)) | (go_at_call 74; refine Calls.quiet_of_same (LI _)))
      go_wp2
      go_ret
      exact ⟨retB (by rw [HF.out, HC.out, decide_eq_false (p := z < x.n) (by omega)]; rfl), dN _⟩
     ·go_wp2
      go_quiet (first | (go_at_call 168; refine Calls.quiet_of_same (LM _)) | (go_at_call 74; refine Calls.quiet_of_same (LI _)))
      go_wp2
      go_roundw
      case rel => exact ⟨j + 1, x.n, by omega, by go_num, by omega, fun e => by omega, fun j' e => ⟨x, by rw [<- HX.out]; congr 1; omega, rfl⟩, by unfold Hid; rw [HC.out, decide_eq_true (p := z < x.n) (by omega), decide_eq_true (p := x.n < E) (by omega), Bool.true_and, Bool.true_and], dn _⟩
      case measure => simp [intOf]; omega
   ·have LI := ZcD x.n (l.got + 1) (E - 1) false (Zjj hin)
    clear hcell HA hx HJ hz0
    go_wp2
    go_quiet (first | (go_at_call 168; refine Calls.quiet_of_same (LM _)) | (go_at_call 74; refine Calls.quiet_of_same (LI _)))
    go_wp2
    go_ret
    refine ⟨retB ?_, dN _⟩
    rw [HF.out, HC.out]
    by_cases hzx : z < x.n
    ·rw [decide_eq_false (p := x.n < E) (by omega), Bool.false_and, Bool.and_false]
    ·rw [decide_eq_false hzx, Bool.false_and]
  ·go_wp2
   go_ret
   have : j = l.h.length := by omega
   subst this
   exact ⟨retB (by rw [HF.out, HA.out, ZeZ]), hBn⟩
def lkB (ga tk : List (List ByteArray)) (p : Lk × Nat) : Bool := ZaN p.1 && (decide (((ga.getD p.2 []).length : Int) = p.1.sent) && decide (((tk.getD p.2 []).length : Int) = p.1.got))
def lksB (d : Wd) : Bool := (decide ((d.ls.length : Int) = d.pl * d.pl) && (decide ((d.ga.length : Int) = d.pl * d.pl) && decide ((d.tk.length : Int) = d.pl * d.pl))) && d.ls.zipIdx.all (lkB d.ga d.tk)
theorem ZhM {α : Type} {xs : List α} {k : Nat} {x : α} (h : xs[k]? = some x) : xs.zipIdx[k]? = some (x, k) := by
 rw [List.getElem?_zipIdx, h]
 simp
theorem Zix {α : Type} (xs : List α) : xs.zipIdx.length = xs.length := by simp
set_option maxRecDepth 100000 in
set_option maxHeartbeats 6400000 in
theorem ZeW (vn vi vf vh vl vg vp va vt : Value) (d : Wd) (B : Nat) (w : World) (R : WR B w vn vi vf vh vl vg vp va vt d) (hp1 : 1 <= d.pl) (hp2 : d.pl <= 3) :
  Calls Tryz.prog 108 #[.agg #[vn, vi, vf, .int .i64 d.pl, vh, vl, vg, vp, .int .i64 d.nx, va, vt]] w fun e w' => e = .returned (.bool (lksB d)) /\ Below w.heap.size w w' := by
 have R0 := R
 obtain ⟨⟨aan, ccn, rfl⟩, ⟨aai, cci, rfl⟩, ⟨aaf, ccf, rfl⟩, ⟨aah, cch, rfl⟩, ⟨aal, ccl, rfl⟩, ⟨aag, ccg, rfl⟩, ⟨aap, ccp, rfl⟩, ⟨aaa, cca, rfl⟩, ⟨aat, cct, rfl⟩⟩ := R.form
 have hB0 := Zam w (Obj.cells #[.slice aan d.ns.length ccn, .slice aai d.is.length cci, .slice aaf d.ds.length ccf, .int .i64 d.pl, .slice aah d.hs.length cch, .slice aal d.ls.length ccl, .slice aag d.gs.length ccg, .slice aap d.ps.length ccp, .int .i64 d.nx, .slice aaa d.ga.length cca, .slice aat d.tk.length cct] 50)
 have hx0 := heap_alloc_new w (Obj.cells #[.slice aan d.ns.length ccn, .slice aai d.is.length cci, .slice aaf d.ds.length ccf, .int .i64 d.pl, .slice aah d.hs.length cch, .slice aal d.ls.length ccl, .slice aag d.gs.length ccg, .slice aap d.ps.length ccp, .int .i64 d.nx, .slice aaa d.ga.length cca, .slice aat d.tk.length cct] 50)
 obtain ⟨q, hq⟩ : ∃ q : Nat, (q : Int) = d.pl * d.pl := by
  have h3 : d.pl = 1 \/ d.pl = 2 \/ d.pl = 3 := by omega
  rcases h3 with h | h | h
  ·exact ⟨1, by rw [h]; rfl⟩
  ·exact ⟨4, by rw [h]; rfl⟩
  ·exact ⟨9, by rw [h]; rfl⟩
 have hq9 : q <= 9 := by
  have h3 : d.pl = 1 \/ d.pl = 2 \/ d.pl = 3 := by omega
  rcases h3 with h | h | h <;> rw [h] at hq <;> omega
 have hq' : d.pl * d.pl = (q : Int) := hq.symm
 have HL : Hid (lksB d = ((decide ((d.ls.length : Int) = (q : Int)) && (decide ((d.ga.length : Int) = (q : Int)) && decide ((d.tk.length : Int) = (q : Int)))) && d.ls.zipIdx.all (lkB d.ga d.tk))) := by unfold Hid lksB; rw [hq']
 clear hq
 have c3 : (w.alloc (Obj.cells #[.slice aan d.ns.length ccn, .slice aai d.is.length cci, .slice aaf d.ds.length ccf, .int .i64 d.pl, .slice aah d.hs.length cch, .slice aal d.ls.length ccl, .slice aag d.gs.length ccg, .slice aap d.ps.length ccp, .int .i64 d.nx, .slice aaa d.ga.length cca, .slice aat d.tk.length cct] 50)).cell? ⟨w.heap.size, 0 + 3, none⟩ = some (.int .i64 d.pl) := cell_of_row _ _ 3 _ _ _ hx0
 go_enter Tryz.func108, Tryz.ntmps108
 by_cases h1 : d.ls.length = q
 ·by_cases h2 : d.ga.length = q
  ·by_cases h3 : d.tk.length = q
   ·have HM : Hid (lksB d = d.ls.zipIdx.all (lkB d.ga d.tk)) := by unfold Hid; rw [HL.out]; simp [h1, h2, h3]
    have n1 : ((d.ls.length : Int) != (q : Int)) = false := by simp [h1]
    have n2 : ((d.ga.length : Int) != (q : Int)) = false := by simp [h2]
    have n3 : ((d.tk.length : Int) != (q : Int)) = false := by simp [h3]
    replace h1 : Hid (d.ls.length = q) := h1
    replace h2 : Hid (d.ga.length = q) := h2
    replace h3 : Hid (d.tk.length = q) := h3
    clear HL
    go_wp2_with fail
    generalize w.alloc (Obj.cells #[.slice aan d.ns.length ccn, .slice aai d.is.length cci, .slice aaf d.ds.length ccf, .int .i64 d.pl, .slice aah d.hs.length cch, .slice aal d.ls.length ccl, .slice aag d.gs.length ccg, .slice aap d.ps.length ccp, .int .i64 d.nx, .slice aaa d.ga.length cca, .slice aat d.tk.length cct] 50) = w0 at *
    have hs0 := Zbc hx0
    obtain ⟨aol, capl, hhl, _, _, hcelll⟩ := R0.rl
    obtain ⟨aoa, capa, hha, _, _, hcella⟩ := R0.ra
    obtain ⟨aot, capt, hht, _, _, hcellt⟩ := R0.rt
    simp only [Value.slice.injEq] at hhl hha hht
    obtain ⟨rfl, _, rfl⟩ := hhl
    obtain ⟨rfl, _, rfl⟩ := hha
    obtain ⟨rfl, _, rfl⟩ := hht
    go_loopw [33] (fun i wr => ∃ k : Nat, k <= q /\ i = .int .i64 k /\ Hid ((d.ls.zipIdx.take k).all (lkB d.ga d.tk) = true) /\ Below w0.heap.size w0 wr) (fun i _ => q - (intOf i).toNat)
    case atStart => exact ⟨0, by omega, rfl, by simp [Hid], Below.refl _ _⟩
    case round =>
     obtain ⟨k, hk, rfl, HK, hb⟩ := hrel
     have hB := hB0.trans (hb.mono hB0.size)
     have hx := Zab hx0 hb
     by_cases hlt : k < q
     ·have hl1 : k < d.ls.length := by rw [h1.out]; exact hlt
      have hl2 : k < d.ga.length := by rw [h2.out]; exact hlt
      have hl3 : k < d.tk.length := by rw [h3.out]; exact hlt
      obtain ⟨gl, ol, rfl, _, hgl, hcelll⟩ := hcelll (by intro e; have hh := h1.out; rw [e] at hh; simp at hh; omega)
      obtain ⟨ga, oa, rfl, _, hga, hcella⟩ := hcella (by intro e; have hh := h2.out; rw [e] at hh; simp at hh; omega)
      obtain ⟨gt, ot, rfl, _, hgt, hcellt⟩ := hcellt (by intro e; have hh := h3.out; rw [e] at hh; simp at hh; omega)
      obtain ⟨l, hl⟩ : ∃ x, d.ls[k]? = some x := ⟨d.ls[k]'(by rw [h1.out]; exact hlt), List.getElem?_eq_getElem _⟩
      obtain ⟨ta, hta⟩ : ∃ x, d.ga[k]? = some x := ⟨d.ga[k]'(by rw [h2.out]; exact hlt), List.getElem?_eq_getElem _⟩
      obtain ⟨tt, htt⟩ : ∃ x, d.tk[k]? = some x := ⟨d.tk[k]'(by rw [h3.out]; exact hlt), List.getElem?_eq_getElem _⟩
      obtain ⟨cs, hcs, hr, vq, vh, hc, L1, L2, _, _⟩ := hcelll k l hl
      obtain ⟨ca, _, hra, ua, rfl, A1, _⟩ := hcella k ta hta
      obtain ⟨ct, _, hrt, ut, rfl, T1, _⟩ := hcellt k tt htt
      obtain ⟨pq, qq, rfl⟩ := L1.small
      obtain ⟨ph, qh, rfl⟩ := L2.small
      obtain ⟨pa, qa, rfl⟩ := A1.small
      obtain ⟨pt, qt, rfl⟩ := T1.small
      obtain rfl : cs = (#[.int .i64 l.sent, .int .i64 l.acked, .slice pq l.q.length qq, .int .i64 l.got, .slice ph l.h.length qh] : Array Value).toList := congrArg Array.toList hc
      have HZ : Hid (d.ls.zipIdx[k]? = some (l, k)) := ZhM hl
      have HF0 : Hid (lkB d.ga d.tk (l, k) = (ZaN l && (decide ((ta.length : Int) = l.sent) && decide ((tt.length : Int) = l.got)))) := by
       unfold Hid lkB
       simp [List.getD_eq_getElem?_getD, hta, htt]
      have hgl' := Nat.lt_of_lt_of_le hgl hB.size
      have hga' := Nat.lt_of_lt_of_le hga hB.size
      have hgt' := Nat.lt_of_lt_of_le hgt hB.size
      replace hr := Zaa hr hB hgl
      have ka := ZaC (Zaa hra hB hga)
      have kt := ZaC (Zaa hrt hB hgt)
      rw [Nat.mul_one] at ka kt
      clear hcelll hcella hcellt hl hta htt hc hcs hra hrt
      have hb3 := Zam wr (Obj.cells #[.int .i64 l.sent, .int .i64 l.acked, .slice pq l.q.length qq, .int .i64 l.got, .slice ph l.h.length qh] 88)
      have hh3 : (wr.alloc (Obj.cells #[.int .i64 l.sent, .int .i64 l.acked, .slice pq l.q.length qq, .int .i64 l.got, .slice ph l.h.length qh] 88)).heap[wr.heap.size]? = some (Obj.cells #[.int .i64 l.sent, .int .i64 l.acked, .slice pq l.q.length qq, .int .i64 l.got, .slice ph l.h.length qh] 88) := heap_alloc_new _ _
      have hx3 := Zab hx hb3
      have hB3 := hB.trans (hb3.mono hB.size)
      have hbR := hb.trans (hb3.mono hb.size)
      have ka3 := (hb3.cell (p := ⟨ga, oa + k, none⟩) hga').trans ka
      have kt3 := (hb3.cell (p := ⟨gt, ot + k, none⟩) hgt').trans kt
      have hs3 := hb3.size
      obtain ⟨W3, hW3⟩ : ∃ W3, Hid (wr.alloc (Obj.cells #[.int .i64 l.sent, .int .i64 l.acked, .slice pq l.q.length qq, .int .i64 l.got, .slice ph l.h.length qh] 88) = W3) := ⟨_, rfl⟩
      go_wp2_with (refine wpList_load_mid rfl 88 _ rfl gl (ol + k * 5) rfl _ _ hr Tryz.underlying88 rfl (by kernel_rfl) ?_)
      rw [hW3.out] at hb3 hh3 hx3 hB3 hbR ka3 kt3 hs3 ⊢
      clear hW3 hr hb3 ka kt
      cases hlk : ZaN l with
      | false =>
       have HF : lkB d.ga d.tk (l, k) = false := by rw [HF0.out, hlk]; rfl
       refine Zj6 w.heap.size wr.heap.size ga oa gt ot k ta.length tt.length pa pt qa qt aan aai aaf aah (some ⟨gl, ol, none⟩) aag aap ccn cci ccf cch ccl ccg ccp cca cct d l _ _ W3 _ hx3 hh3 (by omega) (by omega) ka3 kt3 hl2 hl3 (fun W hW => by have h := ZbD _ _ l W (L1.below (hB3.trans (hW.mono hB3.size))) (L2.below (hB3.trans (hW.mono hB3.size))); rw [hlk] at h; exact h) ?_
       intro u38 u39 u40 u41 u42 u43 u44 u45 u46 u47 u48 u49 u50 u51 u52 u53 u54 u55 u56 u57 u58 u59 u60 u61 W hW
       have HR : Hid (d.ls.zipIdx.all (lkB d.ga d.tk) = false) := Zas HZ.out HF
       clear HK HZ HF0
       go_wp2
       go_ret
       exact ⟨by rw [HM.out, HR.out]; rfl, hB3.trans (hW.mono hB3.size)⟩
      | true =>
       cases e1 : ((ta.length : Int) != l.sent) with
       | true =>
        have HF : lkB d.ga d.tk (l, k) = false := by rw [HF0.out, hlk]; simp at e1; simp [e1]
        refine Zj4 w.heap.size wr.heap.size ga oa gt ot k ta.length tt.length pa pt qa qt aan aai aaf aah (some ⟨gl, ol, none⟩) aag aap ccn cci ccf cch ccl ccg ccp cca cct d l _ _ W3 _ hx3 hh3 (by omega) (by omega) ka3 kt3 hl2 hl3 (fun W hW => by have h := ZbD _ _ l W (L1.below (hB3.trans (hW.mono hB3.size))) (L2.below (hB3.trans (hW.mono hB3.size))); rw [hlk] at h; exact h) e1 ?_
        intro u38 u39 u40 u41 u42 u43 u44 u45 u46 u47 u48 u49 u50 u51 u52 u53 u54 u55 u56 u57 u58 u59 u60 u61 W hW
        have HR : Hid (d.ls.zipIdx.all (lkB d.ga d.tk) = false) := Zas HZ.out HF
        clear HK HZ HF0
        go_wp2
        go_ret
        exact ⟨by rw [HM.out, HR.out]; rfl, hB3.trans (hW.mono hB3.size)⟩
       | false =>
        cases e2 : ((tt.length : Int) != l.got) with
        | true =>
         have HF : lkB d.ga d.tk (l, k) = false := by rw [HF0.out, hlk]; simp at e2; simp [e2]
         refine Zhs w.heap.size wr.heap.size ga oa gt ot k ta.length tt.length pa pt qa qt aan aai aaf aah (some ⟨gl, ol, none⟩) aag aap ccn cci ccf cch ccl ccg ccp cca cct d l _ _ W3 _ hx3 hh3 (by omega) (by omega) ka3 kt3 hl2 hl3 (fun W hW => by have h := ZbD _ _ l W (L1.below (hB3.trans (hW.mono hB3.size))) (L2.below (hB3.trans (hW.mono hB3.size))); rw [hlk] at h; exact h) true e1 e2 ?_
         intro u38 u39 u40 u41 u42 u43 u44 u45 u46 u47 u48 u49 u50 u51 u52 u53 u54 u55 u56 u57 u58 u59 u60 u61 W hW
         have HR : Hid (d.ls.zipIdx.all (lkB d.ga d.tk) = false) := Zas HZ.out HF
         clear HK HZ HF0
         go_wp2
         go_ret
         exact ⟨by rw [HM.out, HR.out]; rfl, hB3.trans (hW.mono hB3.size)⟩
        | false =>
         have HF : lkB d.ga d.tk (l, k) = true := by rw [HF0.out, hlk]; simp at e1 e2; simp [e1, e2]
         refine Zhs w.heap.size wr.heap.size ga oa gt ot k ta.length tt.length pa pt qa qt aan aai aaf aah (some ⟨gl, ol, none⟩) aag aap ccn cci ccf cch ccl ccg ccp cca cct d l _ _ W3 _ hx3 hh3 (by omega) (by omega) ka3 kt3 hl2 hl3 (fun W hW => by have h := ZbD _ _ l W (L1.below (hB3.trans (hW.mono hB3.size))) (L2.below (hB3.trans (hW.mono hB3.size))); rw [hlk] at h; exact h) false e1 e2 ?_
         intro u38 u39 u40 u41 u42 u43 u44 u45 u46 u47 u48 u49 u50 u51 u52 u53 u54 u55 u56 u57 u58 u59 u60 u61 W hW
         have HK2 : Hid ((d.ls.zipIdx.take (k + 1)).all (lkB d.ga d.tk) = true) := ZaX HK.out HZ.out HF
         have hbW := hbR.trans (hW.mono hbR.size)
         clear HK HZ HF0
         go_wp2
         go_roundw
         case rel => first | exact ⟨k + 1, by omega, by go_num, HK2, hbW⟩ | exact ⟨_, ⟨k + 1, by omega, by go_num, HK2, hbW⟩, rfl⟩ | exact ⟨_, _, ⟨k + 1, by omega, by go_num, HK2, hbW⟩, rfl, rfl⟩
         case measure => simp [intOf]; omega
     ·have HR : Hid (d.ls.zipIdx.all (lkB d.ga d.tk) = true) := Zbs HK.out (by rw [Zix, h1.out]; omega)
      have hle : ¬ k < d.ls.length := by rw [h1.out]; exact hlt
      clear HK hcelll hcella hcellt
      go_wp2
      go_ret
      exact ⟨by rw [HM.out, HR.out]; rfl, hB⟩
   ·have HM : Hid (lksB d = false) := by unfold Hid; rw [HL.out]; simp [show ¬ ((d.tk.length : Int) = (q : Int)) by omega]
    have n1 : ((d.ls.length : Int) != (q : Int)) = false := by simp [h1]
    have n2 : ((d.ga.length : Int) != (q : Int)) = false := by simp [h2]
    have n3 : ((d.tk.length : Int) != (q : Int)) = true := by simp; omega
    clear HL h1 h2 h3
    go_wp2
    go_ret
    exact ⟨by rw [HM.out]; rfl, hB0⟩
  ·have HM : Hid (lksB d = false) := by unfold Hid; rw [HL.out]; simp [show ¬ ((d.ga.length : Int) = (q : Int)) by omega]
   have n1 : ((d.ls.length : Int) != (q : Int)) = false := by simp [h1]
   have n2 : ((d.ga.length : Int) != (q : Int)) = true := by simp; omega
   clear HL h1 h2
   go_wp2
   go_ret
   exact ⟨by rw [HM.out]; rfl, hB0⟩
 ·have HM : Hid (lksB d = false) := by unfold Hid; rw [HL.out]; simp [show ¬ ((d.ls.length : Int) = (q : Int)) by omega]
  have n1 : ((d.ls.length : Int) != (q : Int)) = true := by simp; omega
  clear HL h1
  go_wp2
  go_ret
  exact ⟨by rw [HM.out]; rfl, hB0⟩
set_option maxRecDepth 100000 in
set_option maxHeartbeats 6400000 in
theorem ZeN (vn vi vf vh vl vg vp va vt : Value) (d : Wd) (B : Nat) (w : World) (R : WR B w vn vi vf vh vl vg vp va vt d) (hp1 : 1 <= d.pl) (hp2 : d.pl <= 3) :
  Calls Tryz.prog 77 #[.agg #[vn, vi, vf, .int .i64 d.pl, vh, vl, vg, vp, .int .i64 d.nx, va, vt]] w fun e w' => e = .returned (.bool (lksB d)) /\ Below w.heap.size w w' := by
 have R0 := R
 obtain ⟨⟨aan, ccn, rfl⟩, ⟨aai, cci, rfl⟩, ⟨aaf, ccf, rfl⟩, ⟨aah, cch, rfl⟩, ⟨aal, ccl, rfl⟩, ⟨aag, ccg, rfl⟩, ⟨aap, ccp, rfl⟩, ⟨aaa, cca, rfl⟩, ⟨aat, cct, rfl⟩⟩ := R.form
 have hB0 := Zam w (Obj.cells #[.slice aan d.ns.length ccn, .slice aai d.is.length cci, .slice aaf d.ds.length ccf, .int .i64 d.pl, .slice aah d.hs.length cch, .slice aal d.ls.length ccl, .slice aag d.gs.length ccg, .slice aap d.ps.length ccp, .int .i64 d.nx, .slice aaa d.ga.length cca, .slice aat d.tk.length cct] 50)
 have hx0 := heap_alloc_new w (Obj.cells #[.slice aan d.ns.length ccn, .slice aai d.is.length cci, .slice aaf d.ds.length ccf, .int .i64 d.pl, .slice aah d.hs.length cch, .slice aal d.ls.length ccl, .slice aag d.gs.length ccg, .slice aap d.ps.length ccp, .int .i64 d.nx, .slice aaa d.ga.length cca, .slice aat d.tk.length cct] 50)
 obtain ⟨q, hq⟩ : ∃ q : Nat, (q : Int) = d.pl * d.pl := by
  have h3 : d.pl = 1 \/ d.pl = 2 \/ d.pl = 3 := by omega
  rcases h3 with h | h | h
  ·exact ⟨1, by rw [h]; rfl⟩
  ·exact ⟨4, by rw [h]; rfl⟩
  ·exact ⟨9, by rw [h]; rfl⟩
 have hq9 : q <= 9 := by
  have h3 : d.pl = 1 \/ d.pl = 2 \/ d.pl = 3 := by omega
  rcases h3 with h | h | h <;> rw [h] at hq <;> omega
 have hq' : d.pl * d.pl = (q : Int) := hq.symm
 have HL : Hid (lksB d = ((decide ((d.ls.length : Int) = (q : Int)) && (decide ((d.ga.length : Int) = (q : Int)) && decide ((d.tk.length : Int) = (q : Int)))) && d.ls.zipIdx.all (lkB d.ga d.tk))) := by unfold Hid lksB; rw [hq']
 clear hq
 have c3 : (w.alloc (Obj.cells #[.slice aan d.ns.length ccn, .slice aai d.is.length cci, .slice aaf d.ds.length ccf, .int .i64 d.pl, .slice aah d.hs.length cch, .slice aal d.ls.length ccl, .slice aag d.gs.length ccg, .slice aap d.ps.length ccp, .int .i64 d.nx, .slice aaa d.ga.length cca, .slice aat d.tk.length cct] 50)).cell? ⟨w.heap.size, 0 + 3, none⟩ = some (.int .i64 d.pl) := cell_of_row _ _ 3 _ _ _ hx0
 go_enter Tryz.func77, Tryz.ntmps77
 by_cases h1 : d.ls.length = q
 ·by_cases h2 : d.ga.length = q
  ·by_cases h3 : d.tk.length = q
   ·have HM : Hid (lksB d = d.ls.zipIdx.all (lkB d.ga d.tk)) := by unfold Hid; rw [HL.out]; simp [h1, h2, h3]
    have n1 : ((d.ls.length : Int) != (q : Int)) = false := by simp [h1]
    have n2 : ((d.ga.length : Int) != (q : Int)) = false := by simp [h2]
    have n3 : ((d.tk.length : Int) != (q : Int)) = false := by simp [h3]
    replace h1 : Hid (d.ls.length = q) := h1
    replace h2 : Hid (d.ga.length = q) := h2
    replace h3 : Hid (d.tk.length = q) := h3
    clear HL
    go_wp2_with fail
    generalize w.alloc (Obj.cells #[.slice aan d.ns.length ccn, .slice aai d.is.length cci, .slice aaf d.ds.length ccf, .int .i64 d.pl, .slice aah d.hs.length cch, .slice aal d.ls.length ccl, .slice aag d.gs.length ccg, .slice aap d.ps.length ccp, .int .i64 d.nx, .slice aaa d.ga.length cca, .slice aat d.tk.length cct] 50) = w0 at *
    have hs0 := Zbc hx0
    obtain ⟨aol, capl, hhl, _, _, hcelll⟩ := R0.rl
    obtain ⟨aoa, capa, hha, _, _, hcella⟩ := R0.ra
    obtain ⟨aot, capt, hht, _, _, hcellt⟩ := R0.rt
    simp only [Value.slice.injEq] at hhl hha hht
    obtain ⟨rfl, _, rfl⟩ := hhl
    obtain ⟨rfl, _, rfl⟩ := hha
    obtain ⟨rfl, _, rfl⟩ := hht
    go_loopw [4] (fun i wr => ∃ k : Nat, k <= q /\ i = .int .i64 k /\ Hid ((d.ls.zipIdx.take k).all (lkB d.ga d.tk) = true) /\ Below w0.heap.size w0 wr) (fun i _ => q - (intOf i).toNat)
    case atStart => exact ⟨0, by omega, rfl, by simp [Hid], Below.refl _ _⟩
    case round =>
     obtain ⟨k, hk, rfl, HK, hb⟩ := hrel
     have hB := hB0.trans (hb.mono hB0.size)
     have hx := Zab hx0 hb
     by_cases hlt : k < q
     ·have hl1 : k < d.ls.length := by rw [h1.out]; exact hlt
      have hl2 : k < d.ga.length := by rw [h2.out]; exact hlt
      have hl3 : k < d.tk.length := by rw [h3.out]; exact hlt
      obtain ⟨gl, ol, rfl, _, hgl, hcelll⟩ := hcelll (by intro e; have hh := h1.out; rw [e] at hh; simp at hh; omega)
      obtain ⟨ga, oa, rfl, _, hga, hcella⟩ := hcella (by intro e; have hh := h2.out; rw [e] at hh; simp at hh; omega)
      obtain ⟨gt, ot, rfl, _, hgt, hcellt⟩ := hcellt (by intro e; have hh := h3.out; rw [e] at hh; simp at hh; omega)
      obtain ⟨l, hl⟩ : ∃ x, d.ls[k]? = some x := ⟨d.ls[k]'(by rw [h1.out]; exact hlt), List.getElem?_eq_getElem _⟩
      obtain ⟨ta, hta⟩ : ∃ x, d.ga[k]? = some x := ⟨d.ga[k]'(by rw [h2.out]; exact hlt), List.getElem?_eq_getElem _⟩
      obtain ⟨tt, htt⟩ : ∃ x, d.tk[k]? = some x := ⟨d.tk[k]'(by rw [h3.out]; exact hlt), List.getElem?_eq_getElem _⟩
      obtain ⟨cs, hcs, hr, vq, vh, hc, L1, L2, _, _⟩ := hcelll k l hl
      obtain ⟨ca, _, hra, ua, rfl, A1, _⟩ := hcella k ta hta
      obtain ⟨ct, _, hrt, ut, rfl, T1, _⟩ := hcellt k tt htt
      obtain ⟨pq, qq, rfl⟩ := L1.small
      obtain ⟨ph, qh, rfl⟩ := L2.small
      obtain ⟨pa, qa, rfl⟩ := A1.small
      obtain ⟨pt, qt, rfl⟩ := T1.small
      obtain rfl : cs = (#[.int .i64 l.sent, .int .i64 l.acked, .slice pq l.q.length qq, .int .i64 l.got, .slice ph l.h.length qh] : Array Value).toList := congrArg Array.toList hc
      have HZ : Hid (d.ls.zipIdx[k]? = some (l, k)) := ZhM hl
      have HF0 : Hid (lkB d.ga d.tk (l, k) = (ZaN l && (decide ((ta.length : Int) = l.sent) && decide ((tt.length : Int) = l.got)))) := by
       unfold Hid lkB
       simp [List.getD_eq_getElem?_getD, hta, htt]
      have hgl' := Nat.lt_of_lt_of_le hgl hB.size
      have hga' := Nat.lt_of_lt_of_le hga hB.size
      have hgt' := Nat.lt_of_lt_of_le hgt hB.size
      replace hr := Zaa hr hB hgl
      have ka := ZaC (Zaa hra hB hga)
      have kt := ZaC (Zaa hrt hB hgt)
      rw [Nat.mul_one] at ka kt
      clear hcelll hcella hcellt hl hta htt hc hcs hra hrt
      have hbR := hb
      have hB3 := hB
      go_wp2_with fail
      cases hlk : ZaN l with
      | false =>
       have HF : lkB d.ga d.tk (l, k) = false := by rw [HF0.out, hlk]; rfl
       refine Zjl w.heap.size gl ol ga oa gt ot k ta.length tt.length pa pt qa qt aan aai aaf aah aag aap ccn cci ccf cch ccl ccg ccp cca cct d l _ _ wr _ hx hr hgl' hl1 hga' hgt' ka kt hl2 hl3 (fun W hW => by have h := ZbC _ _ l W (L1.below (hB3.trans (hW.mono hB3.size))) (L2.below (hB3.trans (hW.mono hB3.size))); rw [hlk] at h; exact h) ?_
       intro u34 u35 u36 u37 u38 u39 u40 u41 u42 u43 u44 u45 u46 u47 u48 u49 u50 u51 u52 u53 u54 u55 u56 u57 u58 u59 u60 u61 u62 u63 u64 u65 u66 u67 u68 u69 W hW
       have HR : Hid (d.ls.zipIdx.all (lkB d.ga d.tk) = false) := Zas HZ.out HF
       clear HK HZ HF0
       go_wp2
       go_ret
       exact ⟨by rw [HM.out, HR.out]; rfl, hB3.trans (hW.mono hB3.size)⟩
      | true =>
       cases e1 : ((ta.length : Int) != l.sent) with
       | true =>
        have HF : lkB d.ga d.tk (l, k) = false := by rw [HF0.out, hlk]; simp at e1; simp [e1]
        refine Zja w.heap.size gl ol ga oa gt ot k ta.length tt.length pa pt qa qt aan aai aaf aah aag aap ccn cci ccf cch ccl ccg ccp cca cct d l _ _ wr _ hx hr hgl' hl1 hga' hgt' ka kt hl2 hl3 (fun W hW => by have h := ZbC _ _ l W (L1.below (hB3.trans (hW.mono hB3.size))) (L2.below (hB3.trans (hW.mono hB3.size))); rw [hlk] at h; exact h) e1 ?_
        intro u34 u35 u36 u37 u38 u39 u40 u41 u42 u43 u44 u45 u46 u47 u48 u49 u50 u51 u52 u53 u54 u55 u56 u57 u58 u59 u60 u61 u62 u63 u64 u65 u66 u67 u68 u69 W hW
        have HR : Hid (d.ls.zipIdx.all (lkB d.ga d.tk) = false) := Zas HZ.out HF
        clear HK HZ HF0
        go_wp2
        go_ret
        exact ⟨by rw [HM.out, HR.out]; rfl, hB3.trans (hW.mono hB3.size)⟩
       | false =>
        cases e2 : ((tt.length : Int) != l.got) with
        | true =>
         have HF : lkB d.ga d.tk (l, k) = false := by rw [HF0.out, hlk]; simp at e2; simp [e2]
         refine Zf0 w.heap.size gl ol ga oa gt ot k ta.length tt.length pa pt qa qt aan aai aaf aah aag aap ccn cci ccf cch ccl ccg ccp cca cct d l _ _ wr _ hx hr hgl' hl1 hga' hgt' ka kt hl2 hl3 (fun W hW => by have h := ZbC _ _ l W (L1.below (hB3.trans (hW.mono hB3.size))) (L2.below (hB3.trans (hW.mono hB3.size))); rw [hlk] at h; exact h) true e1 e2 ?_
         intro u34 u35 u36 u37 u38 u39 u40 u41 u42 u43 u44 u45 u46 u47 u48 u49 u50 u51 u52 u53 u54 u55 u56 u57 u58 u59 u60 u61 u62 u63 u64 u65 u66 u67 u68 u69 W hW
         have HR : Hid (d.ls.zipIdx.all (lkB d.ga d.tk) = false) := Zas HZ.out HF
         clear HK HZ HF0
         go_wp2
         go_ret
         exact ⟨by rw [HM.out, HR.out]; rfl, hB3.trans (hW.mono hB3.size)⟩
        | false =>
         have HF : lkB d.ga d.tk (l, k) = true := by rw [HF0.out, hlk]; simp at e1 e2; simp [e1, e2]
         refine Zf0 w.heap.size gl ol ga oa gt ot k ta.length tt.length pa pt qa qt aan aai aaf aah aag aap ccn cci ccf cch ccl ccg ccp cca cct d l _ _ wr _ hx hr hgl' hl1 hga' hgt' ka kt hl2 hl3 (fun W hW => by have h := ZbC _ _ l W (L1.below (hB3.trans (hW.mono hB3.size))) (L2.below (hB3.trans (hW.mono hB3.size))); rw [hlk] at h; exact h) false e1 e2 ?_
         intro u34 u35 u36 u37 u38 u39 u40 u41 u42 u43 u44 u45 u46 u47 u48 u49 u50 u51 u52 u53 u54 u55 u56 u57 u58 u59 u60 u61 u62 u63 u64 u65 u66 u67 u68 u69 W hW
         have HK2 : Hid ((d.ls.zipIdx.take (k + 1)).all (lkB d.ga d.tk) = true) := ZaX HK.out HZ.out HF
         have hbW := hbR.trans (hW.mono hbR.size)
         clear HK HZ HF0
         go_wp2
         go_roundw
         case rel => first | exact ⟨k + 1, by omega, by go_num, HK2, hbW⟩ | exact ⟨_, ⟨k + 1, by omega, by go_num, HK2, hbW⟩, rfl⟩ | exact ⟨_, _, ⟨k + 1, by omega, by go_num, HK2, hbW⟩, rfl, rfl⟩
         case measure => simp [intOf]; omega
     ·have HR : Hid (d.ls.zipIdx.all (lkB d.ga d.tk) = true) := Zbs HK.out (by rw [Zix, h1.out]; omega)
      have hle : ¬ k < d.ls.length := by rw [h1.out]; exact hlt
      clear HK hcelll hcella hcellt
      go_wp2
      go_ret
      exact ⟨by rw [HM.out, HR.out]; rfl, hB⟩
   ·have HM : Hid (lksB d = false) := by unfold Hid; rw [HL.out]; simp [show ¬ ((d.tk.length : Int) = (q : Int)) by omega]
    have n1 : ((d.ls.length : Int) != (q : Int)) = false := by simp [h1]
    have n2 : ((d.ga.length : Int) != (q : Int)) = false := by simp [h2]
    have n3 : ((d.tk.length : Int) != (q : Int)) = true := by simp; omega
    clear HL h1 h2 h3
    go_wp2
    go_ret
    exact ⟨by rw [HM.out]; rfl, hB0⟩
  ·have HM : Hid (lksB d = false) := by unfold Hid; rw [HL.out]; simp [show ¬ ((d.ga.length : Int) = (q : Int)) by omega]
   have n1 : ((d.ls.length : Int) != (q : Int)) = false := by simp [h1]
   have n2 : ((d.ga.length : Int) != (q : Int)) = true := by simp; omega
   clear HL h1 h2
   go_wp2
   go_ret
   exact ⟨by rw [HM.out]; rfl, hB0⟩
 ·have HM : Hid (lksB d = false) := by unfold Hid; rw [HL.out]; simp [show ¬ ((d.ls.length : Int) = (q : Int)) by omega]
  have n1 : ((d.ls.length : Int) != (q : Int)) = true := by simp; omega
  clear HL h1
  go_wp2
  go_ret
  exact ⟨by rw [HM.out]; rfl, hB0⟩
def hmB (ns : List Nd) (is : List In) (ds : List Df) (pl : Int) (h : Hm) : Bool := hasP pl h.pl && Zdq ns is ds h.i h.xs h.m h.bx h.ox
set_option maxRecDepth 100000 in
set_option maxHeartbeats 6400000 in
theorem Zdo (vn vi vf vh vl vg vp va vt : Value) (d : Wd) (B : Nat) (w : World) (R : WR B w vn vi vf vh vl vg vp va vt d) :
  Calls Tryz.prog 110 #[.agg #[vn, vi, vf, .int .i64 d.pl, vh, vl, vg, vp, .int .i64 d.nx, va, vt]] w fun e w' => e = .returned (.bool (decide (d.ps.length <= 20) && d.ps.all (pdB d.pl))) /\ Below w.heap.size w w' := by
 have R0 := R
 obtain ⟨⟨aan, ccn, rfl⟩, ⟨aai, cci, rfl⟩, ⟨aaf, ccf, rfl⟩, ⟨aah, cch, rfl⟩, ⟨aal, ccl, rfl⟩, ⟨aag, ccg, rfl⟩, ⟨aap, ccp, rfl⟩, ⟨aaa, cca, rfl⟩, ⟨aat, cct, rfl⟩⟩ := R.form
 have hB0 := Zam w (Obj.cells #[.slice aan d.ns.length ccn, .slice aai d.is.length cci, .slice aaf d.ds.length ccf, .int .i64 d.pl, .slice aah d.hs.length cch, .slice aal d.ls.length ccl, .slice aag d.gs.length ccg, .slice aap d.ps.length ccp, .int .i64 d.nx, .slice aaa d.ga.length cca, .slice aat d.tk.length cct] 50)
 have hx0 := heap_alloc_new w (Obj.cells #[.slice aan d.ns.length ccn, .slice aai d.is.length cci, .slice aaf d.ds.length ccf, .int .i64 d.pl, .slice aah d.hs.length cch, .slice aal d.ls.length ccl, .slice aag d.gs.length ccg, .slice aap d.ps.length ccp, .int .i64 d.nx, .slice aaa d.ga.length cca, .slice aat d.tk.length cct] 50)
 go_enter Tryz.func110, Tryz.ntmps110
 by_cases hmost : d.ps.length <= 20
 ·have HM : Hid ((decide (d.ps.length <= 20) && d.ps.all (pdB d.pl)) = d.ps.all (pdB d.pl)) := by unfold Hid; simp [hmost]
  go_wp2_with fail
  generalize w.alloc (Obj.cells #[.slice aan d.ns.length ccn, .slice aai d.is.length cci, .slice aaf d.ds.length ccf, .int .i64 d.pl, .slice aah d.hs.length cch, .slice aal d.ls.length ccl, .slice aag d.gs.length ccg, .slice aap d.ps.length ccp, .int .i64 d.nx, .slice aaa d.ga.length cca, .slice aat d.tk.length cct] 50) = w0 at *
  have hs0 := Zbc hx0
  have R4 := R0.rp
  obtain ⟨ao, cap, hh, hcap, hm, hcell⟩ := R4
  simp only [Value.slice.injEq] at hh
  obtain ⟨rfl, _, rfl⟩ := hh
  go_loopw [12] (fun i wr => ∃ k : Nat, k <= d.ps.length /\ i = .int .i64 k /\ Hid ((d.ps.take k).all (pdB d.pl) = true) /\ Below w0.heap.size w0 wr) (fun i _ => d.ps.length - (intOf i).toNat)
  case atStart => exact ⟨0, by omega, rfl, by simp [Hid], Below.refl _ _⟩
  case round =>
   obtain ⟨k, hk, rfl, HK, hb⟩ := hrel
   have hB := hB0.trans (hb.mono hB0.size)
   have hx := Zab hx0 hb
   by_cases hlt : k < d.ps.length
   ·obtain ⟨g, o, rfl, _, hg, hcell⟩ := hcell (by intro e; rw [e] at hlt; simp at hlt)
    obtain ⟨x, hx'⟩ : ∃ x, d.ps[k]? = some x := ⟨d.ps[k], by simp [hlt]⟩
    obtain ⟨cs, hcs, hr, hE⟩ := hcell k x hx'
    have HX' : Hid (d.ps[k]? = some x) := hx'
    replace hr := Zaa hr hB hg
    obtain ⟨hc, _⟩ := hE
    obtain rfl : cs = (#[.int .i64 x.p, .int .i64 x.t, .string x.s] : Array Value).toList := congrArg Array.toList hc
    clear hc
    clear hcell hx' hcs
    have hb3 := Zam wr (Obj.cells #[.int .i64 x.p, .int .i64 x.t, .string x.s] 133)
    have hh3 : (wr.alloc (Obj.cells #[.int .i64 x.p, .int .i64 x.t, .string x.s] 133)).heap[wr.heap.size]? = some (Obj.cells #[.int .i64 x.p, .int .i64 x.t, .string x.s] 133) := heap_alloc_new _ _
    have hx3 := Zab hx hb3
    have hB3 := hB.trans (hb3.mono hB.size)
    have hb3' := hb.trans (hb3.mono hb.size)
    obtain ⟨W3, hW3⟩ : ∃ W3, wr.alloc (Obj.cells #[.int .i64 x.p, .int .i64 x.t, .string x.s] 133) = W3 := ⟨_, rfl⟩
    rw [hW3] at hb3 hh3 hx3 hB3 hb3'
    have kk3 : W3.cell? ⟨wr.heap.size, 0, none⟩ = some (.int .i64 x.p) := cell_of_row W3 _ 0 _ _ _ hh3
    have kk4 : W3.cell? ⟨wr.heap.size, 0 + 0, none⟩ = some (.int .i64 x.p) := by rw [Nat.zero_add]; exact kk3
    have kw0 : W3.cell? ⟨w.heap.size, 0, none⟩ = some (.slice aan d.ns.length ccn) := cell_of_row W3 _ 0 _ _ _ hx3
    have kw1 : W3.cell? ⟨w.heap.size, 1, none⟩ = some (.slice aai d.is.length cci) := cell_of_row W3 _ 1 _ _ _ hx3
    have kw2 : W3.cell? ⟨w.heap.size, 2, none⟩ = some (.slice aaf d.ds.length ccf) := cell_of_row W3 _ 2 _ _ _ hx3
    have kw3 : W3.cell? ⟨w.heap.size, 3, none⟩ = some (.int .i64 d.pl) := cell_of_row W3 _ 3 _ _ _ hx3
    have kw4 : W3.cell? ⟨w.heap.size, 4, none⟩ = some (.slice aah d.hs.length cch) := cell_of_row W3 _ 4 _ _ _ hx3
    have kw5 : W3.cell? ⟨w.heap.size, 5, none⟩ = some (.slice aal d.ls.length ccl) := cell_of_row W3 _ 5 _ _ _ hx3
    have kw6 : W3.cell? ⟨w.heap.size, 6, none⟩ = some (.slice aag d.gs.length ccg) := cell_of_row W3 _ 6 _ _ _ hx3
    have kw7 : W3.cell? ⟨w.heap.size, 7, none⟩ = some (.slice (some ⟨g, o, none⟩) d.ps.length ccp) := cell_of_row W3 _ 7 _ _ _ hx3
    have kw8 : W3.cell? ⟨w.heap.size, 8, none⟩ = some (.int .i64 d.nx) := cell_of_row W3 _ 8 _ _ _ hx3
    have kw9 : W3.cell? ⟨w.heap.size, 9, none⟩ = some (.slice aaa d.ga.length cca) := cell_of_row W3 _ 9 _ _ _ hx3
    have kw10 : W3.cell? ⟨w.heap.size, 10, none⟩ = some (.slice aat d.tk.length cct) := cell_of_row W3 _ 10 _ _ _ hx3
    go_wp2_with (refine wpList_load_mid rfl 133 _ rfl g (o + k * 3) rfl _ _ hr Tryz.underlying133 rfl (by kernel_rfl) ?_)
    clear hW3 hr hb3 kk3 kk4 kw0 kw1 kw2 kw3 kw4 kw5 kw6 kw7 kw8 kw9 kw10
    refine (Zbr _ _ _ _ _ _ _ _ _ d x.p _).mono ?_
    rintro e w4 ⟨rfl, hb4⟩
    have hBQ := hB3.trans (hb4.mono hB3.size)
    have hBR := hb3'.trans (hb4.mono hb3'.size)
    clear hb4 hh3 hx3 hB3 hb3' hx
    have HF0 : Hid (pdB d.pl x = hasP d.pl x.p) := rfl
    cases hp : hasP d.pl x.p with
    | false =>
     have HF : pdB d.pl x = false := by rw [HF0.out, hp]
     have HR : Hid (d.ps.all (pdB d.pl) = false) := Zas HX'.out HF
     clear HK HX'
     go_wp2
     go_ret
     exact ⟨by rw [HM.out, HR.out]; rfl, hBQ⟩
    | true =>
     have HF : pdB d.pl x = true := by rw [HF0.out, hp]
     have HK2 : Hid ((d.ps.take (k + 1)).all (pdB d.pl) = true) := ZaX HK.out HX'.out HF
     clear HK HX'
     go_wp2
     go_roundw
     case rel => exact ⟨k + 1, by omega, by go_num, HK2, hBR⟩
     case measure => simp [intOf]; omega
   ·have HR : Hid (d.ps.all (pdB d.pl) = true) := Zbs HK.out (by omega)
    clear HK hcell
    go_wp2
    go_ret
    exact ⟨by rw [HM.out, HR.out]; rfl, hB⟩
 ·have HM : Hid ((decide (d.ps.length <= 20) && d.ps.all (pdB d.pl)) = false) := by unfold Hid; simp [hmost]
  go_wp2
  go_ret
  exact ⟨by rw [HM.out]; rfl, hB0⟩
set_option maxRecDepth 100000 in
set_option maxHeartbeats 6400000 in
theorem ZeQ (vn vi vf vh vl vg vp va vt : Value) (d : Wd) (B : Nat) (w : World) (R : WR B w vn vi vf vh vl vg vp va vt d) :
  Calls Tryz.prog 109 #[.agg #[vn, vi, vf, .int .i64 d.pl, vh, vl, vg, vp, .int .i64 d.nx, va, vt]] w fun e w' => e = .returned (.bool (decide (d.gs.length <= 12) && d.gs.all (gmB d.pl))) /\ Below w.heap.size w w' := by
 have R0 := R
 obtain ⟨⟨aan, ccn, rfl⟩, ⟨aai, cci, rfl⟩, ⟨aaf, ccf, rfl⟩, ⟨aah, cch, rfl⟩, ⟨aal, ccl, rfl⟩, ⟨aag, ccg, rfl⟩, ⟨aap, ccp, rfl⟩, ⟨aaa, cca, rfl⟩, ⟨aat, cct, rfl⟩⟩ := R.form
 have hB0 := Zam w (Obj.cells #[.slice aan d.ns.length ccn, .slice aai d.is.length cci, .slice aaf d.ds.length ccf, .int .i64 d.pl, .slice aah d.hs.length cch, .slice aal d.ls.length ccl, .slice aag d.gs.length ccg, .slice aap d.ps.length ccp, .int .i64 d.nx, .slice aaa d.ga.length cca, .slice aat d.tk.length cct] 50)
 have hx0 := heap_alloc_new w (Obj.cells #[.slice aan d.ns.length ccn, .slice aai d.is.length cci, .slice aaf d.ds.length ccf, .int .i64 d.pl, .slice aah d.hs.length cch, .slice aal d.ls.length ccl, .slice aag d.gs.length ccg, .slice aap d.ps.length ccp, .int .i64 d.nx, .slice aaa d.ga.length cca, .slice aat d.tk.length cct] 50)
 go_enter Tryz.func109, Tryz.ntmps109
 by_cases hmost : d.gs.length <= 12
 ·have HM : Hid ((decide (d.gs.length <= 12) && d.gs.all (gmB d.pl)) = d.gs.all (gmB d.pl)) := by unfold Hid; simp [hmost]
  go_wp2_with fail
  generalize w.alloc (Obj.cells #[.slice aan d.ns.length ccn, .slice aai d.is.length cci, .slice aaf d.ds.length ccf, .int .i64 d.pl, .slice aah d.hs.length cch, .slice aal d.ls.length ccl, .slice aag d.gs.length ccg, .slice aap d.ps.length ccp, .int .i64 d.nx, .slice aaa d.ga.length cca, .slice aat d.tk.length cct] 50) = w0 at *
  have hs0 := Zbc hx0
  have R4 := R0.rg
  obtain ⟨ao, cap, hh, hcap, hm, hcell⟩ := R4
  simp only [Value.slice.injEq] at hh
  obtain ⟨rfl, _, rfl⟩ := hh
  go_loopw [12] (fun i wr => ∃ k : Nat, k <= d.gs.length /\ i = .int .i64 k /\ Hid ((d.gs.take k).all (gmB d.pl) = true) /\ Below w0.heap.size w0 wr) (fun i _ => d.gs.length - (intOf i).toNat)
  case atStart => exact ⟨0, by omega, rfl, by simp [Hid], Below.refl _ _⟩
  case round =>
   obtain ⟨k, hk, rfl, HK, hb⟩ := hrel
   have hB := hB0.trans (hb.mono hB0.size)
   have hx := Zab hx0 hb
   by_cases hlt : k < d.gs.length
   ·obtain ⟨g, o, rfl, _, hg, hcell⟩ := hcell (by intro e; rw [e] at hlt; simp at hlt)
    obtain ⟨x, hx'⟩ : ∃ x, d.gs[k]? = some x := ⟨d.gs[k], by simp [hlt]⟩
    obtain ⟨cs, hcs, hr, hE⟩ := hcell k x hx'
    have HX' : Hid (d.gs[k]? = some x) := hx'
    replace hr := Zaa hr hB hg
    obtain ⟨hc, _⟩ := hE
    obtain rfl : cs = (#[.int .i64 x.k, .int .i64 x.f, .int .i64 x.t, .int .i64 x.n, .string x.s] : Array Value).toList := congrArg Array.toList hc
    clear hc
    clear hcell hx' hcs
    have hb3 := Zam wr (Obj.cells #[.int .i64 x.k, .int .i64 x.f, .int .i64 x.t, .int .i64 x.n, .string x.s] 131)
    have hh3 : (wr.alloc (Obj.cells #[.int .i64 x.k, .int .i64 x.f, .int .i64 x.t, .int .i64 x.n, .string x.s] 131)).heap[wr.heap.size]? = some (Obj.cells #[.int .i64 x.k, .int .i64 x.f, .int .i64 x.t, .int .i64 x.n, .string x.s] 131) := heap_alloc_new _ _
    have hx3 := Zab hx hb3
    have hB3 := hB.trans (hb3.mono hB.size)
    have hb3' := hb.trans (hb3.mono hb.size)
    obtain ⟨W3, hW3⟩ : ∃ W3, wr.alloc (Obj.cells #[.int .i64 x.k, .int .i64 x.f, .int .i64 x.t, .int .i64 x.n, .string x.s] 131) = W3 := ⟨_, rfl⟩
    rw [hW3] at hb3 hh3 hx3 hB3 hb3'
    have kk3 : W3.cell? ⟨wr.heap.size, 1, none⟩ = some (.int .i64 x.f) := cell_of_row W3 _ 1 _ _ _ hh3
    have kk4 : W3.cell? ⟨wr.heap.size, 0 + 1, none⟩ = some (.int .i64 x.f) := by rw [Nat.zero_add]; exact kk3
    have kw0 : W3.cell? ⟨w.heap.size, 0, none⟩ = some (.slice aan d.ns.length ccn) := cell_of_row W3 _ 0 _ _ _ hx3
    have kw1 : W3.cell? ⟨w.heap.size, 1, none⟩ = some (.slice aai d.is.length cci) := cell_of_row W3 _ 1 _ _ _ hx3
    have kw2 : W3.cell? ⟨w.heap.size, 2, none⟩ = some (.slice aaf d.ds.length ccf) := cell_of_row W3 _ 2 _ _ _ hx3
    have kw3 : W3.cell? ⟨w.heap.size, 3, none⟩ = some (.int .i64 d.pl) := cell_of_row W3 _ 3 _ _ _ hx3
    have kw4 : W3.cell? ⟨w.heap.size, 4, none⟩ = some (.slice aah d.hs.length cch) := cell_of_row W3 _ 4 _ _ _ hx3
    have kw5 : W3.cell? ⟨w.heap.size, 5, none⟩ = some (.slice aal d.ls.length ccl) := cell_of_row W3 _ 5 _ _ _ hx3
    have kw6 : W3.cell? ⟨w.heap.size, 6, none⟩ = some (.slice (some ⟨g, o, none⟩) d.gs.length ccg) := cell_of_row W3 _ 6 _ _ _ hx3
    have kw7 : W3.cell? ⟨w.heap.size, 7, none⟩ = some (.slice aap d.ps.length ccp) := cell_of_row W3 _ 7 _ _ _ hx3
    have kw8 : W3.cell? ⟨w.heap.size, 8, none⟩ = some (.int .i64 d.nx) := cell_of_row W3 _ 8 _ _ _ hx3
    have kw9 : W3.cell? ⟨w.heap.size, 9, none⟩ = some (.slice aaa d.ga.length cca) := cell_of_row W3 _ 9 _ _ _ hx3
    have kw10 : W3.cell? ⟨w.heap.size, 10, none⟩ = some (.slice aat d.tk.length cct) := cell_of_row W3 _ 10 _ _ _ hx3
    go_wp2_with (refine wpList_load_mid rfl 131 _ rfl g (o + k * 5) rfl _ _ hr Tryz.underlying131 rfl (by kernel_rfl) ?_)
    clear hW3 hr hb3 kk3 kk4 kw0 kw1 kw2 kw3 kw4 kw5 kw6 kw7 kw8 kw9 kw10
    refine (Zbr _ _ _ _ _ _ _ _ _ d x.f _).mono ?_
    rintro e w4 ⟨rfl, hb4⟩
    replace hh3 := Zab hh3 hb4
    replace hx3 := Zab hx3 hb4
    replace hB3 := hB3.trans (hb4.mono hB3.size)
    replace hb3' := hb3'.trans (hb4.mono hb3'.size)
    clear hb4
    cases h1 : hasP d.pl x.f with
    | false =>
     have HF : gmB d.pl x = false := by unfold gmB; rw [h1]; rfl
     have HR : Hid (d.gs.all (gmB d.pl) = false) := Zas HX'.out HF
     clear HK HX'
     go_wp2
     go_ret
     exact ⟨by rw [HM.out, HR.out]; rfl, hB3⟩
    | true =>
     have kc : w4.cell? ⟨wr.heap.size, 0 + 2, none⟩ = some (.int .i64 x.t) := cell_of_row _ _ 2 _ _ _ hh3
     have kw0 : w4.cell? ⟨w.heap.size, 0, none⟩ = some (.slice aan d.ns.length ccn) := cell_of_row w4 _ 0 _ _ _ hx3
     have kw1 : w4.cell? ⟨w.heap.size, 1, none⟩ = some (.slice aai d.is.length cci) := cell_of_row w4 _ 1 _ _ _ hx3
     have kw2 : w4.cell? ⟨w.heap.size, 2, none⟩ = some (.slice aaf d.ds.length ccf) := cell_of_row w4 _ 2 _ _ _ hx3
     have kw3 : w4.cell? ⟨w.heap.size, 3, none⟩ = some (.int .i64 d.pl) := cell_of_row w4 _ 3 _ _ _ hx3
     have kw4 : w4.cell? ⟨w.heap.size, 4, none⟩ = some (.slice aah d.hs.length cch) := cell_of_row w4 _ 4 _ _ _ hx3
     have kw5 : w4.cell? ⟨w.heap.size, 5, none⟩ = some (.slice aal d.ls.length ccl) := cell_of_row w4 _ 5 _ _ _ hx3
     have kw6 : w4.cell? ⟨w.heap.size, 6, none⟩ = some (.slice (some ⟨g, o, none⟩) d.gs.length ccg) := cell_of_row w4 _ 6 _ _ _ hx3
     have kw7 : w4.cell? ⟨w.heap.size, 7, none⟩ = some (.slice aap d.ps.length ccp) := cell_of_row w4 _ 7 _ _ _ hx3
     have kw8 : w4.cell? ⟨w.heap.size, 8, none⟩ = some (.int .i64 d.nx) := cell_of_row w4 _ 8 _ _ _ hx3
     have kw9 : w4.cell? ⟨w.heap.size, 9, none⟩ = some (.slice aaa d.ga.length cca) := cell_of_row w4 _ 9 _ _ _ hx3
     have kw10 : w4.cell? ⟨w.heap.size, 10, none⟩ = some (.slice aat d.tk.length cct) := cell_of_row w4 _ 10 _ _ _ hx3
     go_wp2_with fail
     clear kc kw0 kw1 kw2 kw3 kw4 kw5 kw6 kw7 kw8 kw9 kw10
     refine (Zbr _ _ _ _ _ _ _ _ _ d x.t _).mono ?_
     rintro e w5 ⟨rfl, hb5⟩
     replace hh3 := Zab hh3 hb5
     replace hx3 := Zab hx3 hb5
     replace hB3 := hB3.trans (hb5.mono hB3.size)
     replace hb3' := hb3'.trans (hb5.mono hb3'.size)
     clear hb5
     cases h2 : hasP d.pl x.t with
     | false =>
      have HF : gmB d.pl x = false := by unfold gmB; rw [h1, h2]; rfl
      have HR : Hid (d.gs.all (gmB d.pl) = false) := Zas HX'.out HF
      clear HK HX'
      go_wp2
      go_ret
      exact ⟨by rw [HM.out, HR.out]; rfl, hB3⟩
     | true =>
      have kg0 : w5.cell? ⟨wr.heap.size, 0, none⟩ = some (.int .i64 x.k) := cell_of_row w5 _ 0 _ _ _ hh3
      have kg1 : w5.cell? ⟨wr.heap.size, 1, none⟩ = some (.int .i64 x.f) := cell_of_row w5 _ 1 _ _ _ hh3
      have kg2 : w5.cell? ⟨wr.heap.size, 2, none⟩ = some (.int .i64 x.t) := cell_of_row w5 _ 2 _ _ _ hh3
      have kg3 : w5.cell? ⟨wr.heap.size, 3, none⟩ = some (.int .i64 x.n) := cell_of_row w5 _ 3 _ _ _ hh3
      have kg4 : w5.cell? ⟨wr.heap.size, 4, none⟩ = some (.string x.s) := cell_of_row w5 _ 4 _ _ _ hh3
      go_wp2_with fail
      clear kg0 kg1 kg2 kg3 kg4
      refine (ZfI x _).mono ?_
      rintro e w6 ⟨rfl, hb6⟩
      replace hh3 := Zab hh3 hb6
      replace hx3 := Zab hx3 hb6
      replace hB3 := hB3.trans (hb6.mono hB3.size)
      replace hb3' := hb3'.trans (hb6.mono hb3'.size)
      clear hb6
      have HF0 : Hid (gmB d.pl x = knB x) := by unfold Hid gmB; rw [h1, h2]; simp
      obtain ⟨kb, hkb⟩ : ∃ b, Hid (knB x = b) := ⟨_, rfl⟩
      rw [hkb.out] at HF0 ⊢
      clear hkb
      cases kb with
      | false =>
       have HF : gmB d.pl x = false := HF0.out
       have HR : Hid (d.gs.all (gmB d.pl) = false) := Zas HX'.out HF
       clear HK HX'
       go_wp2
       go_ret
       exact ⟨by rw [HM.out, HR.out]; rfl, hB3⟩
      | true =>
       have HF : gmB d.pl x = true := HF0.out
       have HK2 : Hid ((d.gs.take (k + 1)).all (gmB d.pl) = true) := ZaX HK.out HX'.out HF
       clear HK HX'
       go_wp2
       go_roundw
       case rel => exact ⟨k + 1, by omega, by go_num, HK2, hb3'⟩
       case measure => simp [intOf]; omega
   ·have HR : Hid (d.gs.all (gmB d.pl) = true) := Zbs HK.out (by omega)
    clear HK hcell
    go_wp2
    go_ret
    exact ⟨by rw [HM.out, HR.out]; rfl, hB⟩
 ·have HM : Hid ((decide (d.gs.length <= 12) && d.gs.all (gmB d.pl)) = false) := by unfold Hid; simp [hmost]
  go_wp2
  go_ret
  exact ⟨by rw [HM.out]; rfl, hB0⟩
set_option maxRecDepth 100000 in
set_option maxHeartbeats 6400000 in
theorem Zeq (vn vi vf vh vl vg vp va vt : Value) (d : Wd) (B : Nat) (w : World) (R : WR B w vn vi vf vh vl vg vp va vt d) (hsm : ∀ x ∈ d.hs, SmH x) (hgE : ErrT w) :
  Calls Tryz.prog 107 #[.agg #[vn, vi, vf, .int .i64 d.pl, vh, vl, vg, vp, .int .i64 d.nx, va, vt]] w fun e w' => e = .returned (.bool (decide (d.hs.length <= 8) && d.hs.all (hmB d.ns d.is d.ds d.pl))) /\ Below w.heap.size w w' := by
 have R0 := R
 obtain ⟨⟨aan, ccn, rfl⟩, ⟨aai, cci, rfl⟩, ⟨aaf, ccf, rfl⟩, ⟨aah, cch, rfl⟩, ⟨aal, ccl, rfl⟩, ⟨aag, ccg, rfl⟩, ⟨aap, ccp, rfl⟩, ⟨aaa, cca, rfl⟩, ⟨aat, cct, rfl⟩⟩ := R.form
 have hB0 := Zam w (Obj.cells #[.slice aan d.ns.length ccn, .slice aai d.is.length cci, .slice aaf d.ds.length ccf, .int .i64 d.pl, .slice aah d.hs.length cch, .slice aal d.ls.length ccl, .slice aag d.gs.length ccg, .slice aap d.ps.length ccp, .int .i64 d.nx, .slice aaa d.ga.length cca, .slice aat d.tk.length cct] 50)
 have hx0 := heap_alloc_new w (Obj.cells #[.slice aan d.ns.length ccn, .slice aai d.is.length cci, .slice aaf d.ds.length ccf, .int .i64 d.pl, .slice aah d.hs.length cch, .slice aal d.ls.length ccl, .slice aag d.gs.length ccg, .slice aap d.ps.length ccp, .int .i64 d.nx, .slice aaa d.ga.length cca, .slice aat d.tk.length cct] 50)
 go_enter Tryz.func107, Tryz.ntmps107
 by_cases hmost : d.hs.length <= 8
 ·have HM : Hid ((decide (d.hs.length <= 8) && d.hs.all (hmB d.ns d.is d.ds d.pl)) = d.hs.all (hmB d.ns d.is d.ds d.pl)) := by unfold Hid; simp [hmost]
  go_wp2_with fail
  generalize w.alloc (Obj.cells #[.slice aan d.ns.length ccn, .slice aai d.is.length cci, .slice aaf d.ds.length ccf, .int .i64 d.pl, .slice aah d.hs.length cch, .slice aal d.ls.length ccl, .slice aag d.gs.length ccg, .slice aap d.ps.length ccp, .int .i64 d.nx, .slice aaa d.ga.length cca, .slice aat d.tk.length cct] 50) = w0 at *
  have hs0 := Zbc hx0
  have R4 := R0.rh
  obtain ⟨ao, cap, hh, hcap, hm, hcell⟩ := R4
  simp only [Value.slice.injEq] at hh
  obtain ⟨rfl, _, rfl⟩ := hh
  go_loopw [12] (fun i wr => ∃ k : Nat, k <= d.hs.length /\ i = .int .i64 k /\ Hid ((d.hs.take k).all (hmB d.ns d.is d.ds d.pl) = true) /\ Below w0.heap.size w0 wr) (fun i _ => d.hs.length - (intOf i).toNat)
  case atStart => exact ⟨0, by omega, rfl, by simp [Hid], Below.refl _ _⟩
  case round =>
   obtain ⟨k, hk, rfl, HK, hb⟩ := hrel
   have hB := hB0.trans (hb.mono hB0.size)
   have hx := Zab hx0 hb
   by_cases hlt : k < d.hs.length
   ·obtain ⟨g, o, rfl, _, hg, hcell⟩ := hcell (by intro e; rw [e] at hlt; simp at hlt)
    obtain ⟨x, hx'⟩ : ∃ x, d.hs[k]? = some x := ⟨d.hs[k], by simp [hlt]⟩
    obtain ⟨cs, hcs, hr, hE⟩ := hcell k x hx'
    have HX' : Hid (d.hs[k]? = some x) := hx'
    replace hr := Zaa hr hB hg
    obtain ⟨v1, v2, v3, hc, P1, P2, P3, _, _, _⟩ := hE
    obtain ⟨p1, q1, rfl⟩ := P1.small8
    obtain ⟨p2, q2, rfl⟩ := P2.small
    obtain ⟨p3, q3, rfl⟩ := P3.small
    obtain rfl : cs = (#[.int .i64 x.pl, .int .i64 x.i, .slice p1 x.xs.length q1, .int .i64 x.m.p, .int .i64 x.m.s, .int .i64 x.m.e, .int .i64 x.m.d, .int .i64 x.m.t, .int .i64 x.m.q, .int .i64 x.m.r, .slice p2 x.bx.length q2, .slice p3 x.ox.length q3] : Array Value).toList := congrArg Array.toList hc
    have hzx : ∀ y ∈ x.bx, y.size <= 140737488351232 := fun y hy => Nat.le_trans ((hsm x (List.mem_of_getElem? hx')).2.2.2 y hy) (by decide)
    clear hc
    clear hcell hx' hcs
    have hb3 := Zam wr (Obj.cells #[.int .i64 x.pl, .int .i64 x.i, .slice p1 x.xs.length q1, .int .i64 x.m.p, .int .i64 x.m.s, .int .i64 x.m.e, .int .i64 x.m.d, .int .i64 x.m.t, .int .i64 x.m.q, .int .i64 x.m.r, .slice p2 x.bx.length q2, .slice p3 x.ox.length q3] 85)
    have hh3 : (wr.alloc (Obj.cells #[.int .i64 x.pl, .int .i64 x.i, .slice p1 x.xs.length q1, .int .i64 x.m.p, .int .i64 x.m.s, .int .i64 x.m.e, .int .i64 x.m.d, .int .i64 x.m.t, .int .i64 x.m.q, .int .i64 x.m.r, .slice p2 x.bx.length q2, .slice p3 x.ox.length q3] 85)).heap[wr.heap.size]? = some (Obj.cells #[.int .i64 x.pl, .int .i64 x.i, .slice p1 x.xs.length q1, .int .i64 x.m.p, .int .i64 x.m.s, .int .i64 x.m.e, .int .i64 x.m.d, .int .i64 x.m.t, .int .i64 x.m.q, .int .i64 x.m.r, .slice p2 x.bx.length q2, .slice p3 x.ox.length q3] 85) := heap_alloc_new _ _
    have hx3 := Zab hx hb3
    have hB3 := hB.trans (hb3.mono hB.size)
    have hb3' := hb.trans (hb3.mono hb.size)
    obtain ⟨W3, hW3⟩ : ∃ W3, wr.alloc (Obj.cells #[.int .i64 x.pl, .int .i64 x.i, .slice p1 x.xs.length q1, .int .i64 x.m.p, .int .i64 x.m.s, .int .i64 x.m.e, .int .i64 x.m.d, .int .i64 x.m.t, .int .i64 x.m.q, .int .i64 x.m.r, .slice p2 x.bx.length q2, .slice p3 x.ox.length q3] 85) = W3 := ⟨_, rfl⟩
    rw [hW3] at hb3 hh3 hx3 hB3 hb3'
    have kk3 : W3.cell? ⟨wr.heap.size, 0, none⟩ = some (.int .i64 x.pl) := cell_of_row W3 _ 0 _ _ _ hh3
    have kk4 : W3.cell? ⟨wr.heap.size, 0 + 0, none⟩ = some (.int .i64 x.pl) := by rw [Nat.zero_add]; exact kk3
    have kw0 : W3.cell? ⟨w.heap.size, 0, none⟩ = some (.slice aan d.ns.length ccn) := cell_of_row W3 _ 0 _ _ _ hx3
    have kw1 : W3.cell? ⟨w.heap.size, 1, none⟩ = some (.slice aai d.is.length cci) := cell_of_row W3 _ 1 _ _ _ hx3
    have kw2 : W3.cell? ⟨w.heap.size, 2, none⟩ = some (.slice aaf d.ds.length ccf) := cell_of_row W3 _ 2 _ _ _ hx3
    have kw3 : W3.cell? ⟨w.heap.size, 3, none⟩ = some (.int .i64 d.pl) := cell_of_row W3 _ 3 _ _ _ hx3
    have kw4 : W3.cell? ⟨w.heap.size, 4, none⟩ = some (.slice (some ⟨g, o, none⟩) d.hs.length cch) := cell_of_row W3 _ 4 _ _ _ hx3
    have kw5 : W3.cell? ⟨w.heap.size, 5, none⟩ = some (.slice aal d.ls.length ccl) := cell_of_row W3 _ 5 _ _ _ hx3
    have kw6 : W3.cell? ⟨w.heap.size, 6, none⟩ = some (.slice aag d.gs.length ccg) := cell_of_row W3 _ 6 _ _ _ hx3
    have kw7 : W3.cell? ⟨w.heap.size, 7, none⟩ = some (.slice aap d.ps.length ccp) := cell_of_row W3 _ 7 _ _ _ hx3
    have kw8 : W3.cell? ⟨w.heap.size, 8, none⟩ = some (.int .i64 d.nx) := cell_of_row W3 _ 8 _ _ _ hx3
    have kw9 : W3.cell? ⟨w.heap.size, 9, none⟩ = some (.slice aaa d.ga.length cca) := cell_of_row W3 _ 9 _ _ _ hx3
    have kw10 : W3.cell? ⟨w.heap.size, 10, none⟩ = some (.slice aat d.tk.length cct) := cell_of_row W3 _ 10 _ _ _ hx3
    go_wp2_with (refine wpList_load_mid rfl 85 _ rfl g (o + k * 12) rfl _ _ hr Tryz.underlying85 rfl (by kernel_rfl) ?_)
    clear hW3 hr hb3 kk3 kk4 kw0 kw1 kw2 kw3 kw4 kw5 kw6 kw7 kw8 kw9 kw10
    refine (Zbr _ _ _ _ _ _ _ _ _ d x.pl _).mono ?_
    rintro e w4 ⟨rfl, hb4⟩
    replace hh3 := Zab hh3 hb4
    replace hx3 := Zab hx3 hb4
    replace hB3 := hB3.trans (hb4.mono hB3.size)
    replace hb3' := hb3'.trans (hb4.mono hb3'.size)
    clear hb4
    cases h1 : hasP d.pl x.pl with
    | false =>
     have HF : hmB d.ns d.is d.ds d.pl x = false := by unfold hmB; rw [h1]; rfl
     have HR : Hid (d.hs.all (hmB d.ns d.is d.ds d.pl) = false) := Zas HX'.out HF
     clear HK HX'
     go_wp2
     go_ret
     exact ⟨by rw [HM.out, HR.out]; rfl, hB3⟩
    | true =>
     have hg4 : ErrT w4 := hgE.below hB3 (Nat.le_refl _)
     have kw0 : w4.cell? ⟨w.heap.size, 0, none⟩ = some (.slice aan d.ns.length ccn) := cell_of_row w4 _ 0 _ _ _ hx3
     have kw1 : w4.cell? ⟨w.heap.size, 1, none⟩ = some (.slice aai d.is.length cci) := cell_of_row w4 _ 1 _ _ _ hx3
     have kw2 : w4.cell? ⟨w.heap.size, 2, none⟩ = some (.slice aaf d.ds.length ccf) := cell_of_row w4 _ 2 _ _ _ hx3
     have kh0 : w4.cell? ⟨wr.heap.size, 1, none⟩ = some (.int .i64 x.i) := cell_of_row w4 _ 1 _ _ _ hh3
     have kh1 : w4.cell? ⟨wr.heap.size, 2, none⟩ = some (.slice p1 x.xs.length q1) := cell_of_row w4 _ 2 _ _ _ hh3
     have kh2 : w4.cell? ⟨wr.heap.size, 3, none⟩ = some (.int .i64 x.m.p) := cell_of_row w4 _ 3 _ _ _ hh3
     have kh3 : w4.cell? ⟨wr.heap.size, 4, none⟩ = some (.int .i64 x.m.s) := cell_of_row w4 _ 4 _ _ _ hh3
     have kh4 : w4.cell? ⟨wr.heap.size, 5, none⟩ = some (.int .i64 x.m.e) := cell_of_row w4 _ 5 _ _ _ hh3
     have kh5 : w4.cell? ⟨wr.heap.size, 6, none⟩ = some (.int .i64 x.m.d) := cell_of_row w4 _ 6 _ _ _ hh3
     have kh6 : w4.cell? ⟨wr.heap.size, 7, none⟩ = some (.int .i64 x.m.t) := cell_of_row w4 _ 7 _ _ _ hh3
     have kh7 : w4.cell? ⟨wr.heap.size, 8, none⟩ = some (.int .i64 x.m.q) := cell_of_row w4 _ 8 _ _ _ hh3
     have kh8 : w4.cell? ⟨wr.heap.size, 9, none⟩ = some (.int .i64 x.m.r) := cell_of_row w4 _ 9 _ _ _ hh3
     have kh9 : w4.cell? ⟨wr.heap.size, 10, none⟩ = some (.slice p2 x.bx.length q2) := cell_of_row w4 _ 10 _ _ _ hh3
     have kh10 : w4.cell? ⟨wr.heap.size, 11, none⟩ = some (.slice p3 x.ox.length q3) := cell_of_row w4 _ 11 _ _ _ hh3
     go_wp2_with fail
     clear kw0 kw1 kw2 kh0 kh1 kh2 kh3 kh4 kh5 kh6 kh7 kh8 kh9 kh10
     refine (Zfj _ _ _ _ _ _ d.ns d.is d.ds x.i x.xs x.m x.bx x.ox _ (R0.rn.below hB3) (R0.ri.below hB3) (R0.rf.below hB3) (P1.below hB3) (P2.below hB3) (P3.below hB3) hzx hg4).mono ?_
     rintro e w5 ⟨rfl, hb5⟩
     replace hh3 := Zab hh3 hb5
     replace hx3 := Zab hx3 hb5
     replace hB3 := hB3.trans (hb5.mono hB3.size)
     replace hb3' := hb3'.trans (hb5.mono hb3'.size)
     clear hb5
     have HF0 : Hid (hmB d.ns d.is d.ds d.pl x = Zdq d.ns d.is d.ds x.i x.xs x.m x.bx x.ox) := by unfold Hid hmB; rw [h1]; simp
     obtain ⟨kb, hkb⟩ : ∃ b, Hid (Zdq d.ns d.is d.ds x.i x.xs x.m x.bx x.ox = b) := ⟨_, rfl⟩
     rw [hkb.out] at HF0 ⊢
     clear hkb
     cases kb with
     | false =>
      have HF : hmB d.ns d.is d.ds d.pl x = false := HF0.out
      have HR : Hid (d.hs.all (hmB d.ns d.is d.ds d.pl) = false) := Zas HX'.out HF
      clear HK HX'
      go_wp2
      go_ret
      exact ⟨by rw [HM.out, HR.out]; rfl, hB3⟩
     | true =>
      have HF : hmB d.ns d.is d.ds d.pl x = true := HF0.out
      have HK2 : Hid ((d.hs.take (k + 1)).all (hmB d.ns d.is d.ds d.pl) = true) := ZaX HK.out HX'.out HF
      clear HK HX'
      go_wp2
      go_roundw
      case rel => exact ⟨k + 1, by omega, by go_num, HK2, hb3'⟩
      case measure => simp [intOf]; omega
   ·have HR : Hid (d.hs.all (hmB d.ns d.is d.ds d.pl) = true) := Zbs HK.out (by omega)
    clear HK hcell
    go_wp2
    go_ret
    exact ⟨by rw [HM.out, HR.out]; rfl, hB⟩
 ·have HM : Hid ((decide (d.hs.length <= 8) && d.hs.all (hmB d.ns d.is d.ds d.pl)) = false) := by unfold Hid; simp [hmost]
  go_wp2
  go_ret
  exact ⟨by rw [HM.out]; rfl, hB0⟩
end Go.Proofs.YtfmafkebddojjaaGreatDoor
