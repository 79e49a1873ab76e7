/-
  Texts that stood by themselves, laid into one.
-/
import Derived.Test.YtbljoclnaeimoaaGreatDoorCodeM
import Derived.Test.YtbljoclnaeimoaaGreatDoorBsM
/-
  The place of the first definition of a name, and the contracts of spec.DefOf and impl.DefOf. No condition.
-/
namespace Go.Proofs.YtbljoclnaeimoaaGreatDoor
open Go.RowKit
def Zbe : List Df -> ByteArray -> Nat -> Int
 | [], _, _ => -1
 | d :: ds, s, i => if d.s.toList == s.toList then i else Zbe ds s (i + 1)
theorem ZfK (ds : List Df) (s : ByteArray) (i : Nat) (d : Df) (h : ds[i]? = some d) (e : (d.s.toList == s.toList) = true) : Zbe (ds.drop i) s i = i := by
 obtain ⟨hl, he⟩ := List.getElem?_eq_some_iff.1 h
 rw [List.drop_eq_getElem_cons hl, he, Zbe, if_pos e]
theorem ZdW (ds : List Df) (s : ByteArray) (i : Nat) (d : Df) (h : ds[i]? = some d) (e : (d.s.toList == s.toList) = false) : Zbe (ds.drop i) s i = Zbe (ds.drop (i + 1)) s (i + 1) := by
 obtain ⟨hl, he⟩ := List.getElem?_eq_some_iff.1 h
 rw [List.drop_eq_getElem_cons hl, he, Zbe, if_neg (by rw [e]; simp)]
theorem ZeY (ds : List Df) (s : ByteArray) (i : Nat) (h : ds.length <= i) : Zbe (ds.drop i) s i = -1 := by
 rw [List.drop_eq_nil_of_le h, Zbe]
set_option maxHeartbeats 800000 in
theorem Zh4 (a1 a2 : Option Addr) (n1 c1 n2 c2 : Nat) (v3 : Value) (ds : List Df) (s : ByteArray) (w : World) (R : DfRow w v3 ds) :
  Calls Tryz.prog 131 #[.agg #[.slice a1 n1 c1, .slice a2 n2 c2, v3], .string s] w fun e w' => e = .returned (.int .i64 (Zbe ds s 0)) /\ Below w.heap.size w w' := by
 obtain ⟨ao, cap, rfl, hcap, hm, hz, hcell⟩ := R
 go_enter Tryz.func131, Tryz.ntmps131
 have hB0 : Below w.heap.size w (w.alloc (Obj.cells #[.slice a1 n1 c1, .slice a2 n2 c2, .slice ao ds.length cap] 44)) := (Below.refl _ _).alloc (Nat.le_refl _) _
 have hx0 := heap_alloc_new w (Obj.cells #[.slice a1 n1 c1, .slice a2 n2 c2, .slice ao ds.length cap] 44)
 go_wp2_with fail
 generalize w.alloc (Obj.cells #[.slice a1 n1 c1, .slice a2 n2 c2, .slice ao ds.length cap] 44) = w0 at *
 have hc0 : w0.cell? ⟨w.heap.size, 0 + 2, none⟩ = some (.slice ao ds.length cap) := by rw [cell_of_row w0 _ 2 _ _ _ hx0]; rfl
 have hs0 := (bl hx0)
 go_loopw [5] (fun i wr => ∃ k : Nat, k <= ds.length /\ i = .int .i64 k /\ Hid (Zbe ds s 0 = Zbe (ds.drop k) s k) /\ Below w0.heap.size w0 wr) (fun i _ => ds.length - (intOf i).toNat)
 case atStart => exact ⟨0, by omega, rfl, rfl, Below.refl _ _⟩
 case round =>
  obtain ⟨k, hk, rfl, HK, hb⟩ := hrel
  have hB := hB0.trans (hb.mono hB0.size)
  have hcr := (hb.cell (p := ⟨w.heap.size, 0 + 2, none⟩) hs0).trans hc0
  by_cases hlt : k < ds.length
  ·obtain ⟨g, o, rfl, hg, hcell⟩ := hcell (by intro e; subst e; simp at hlt)
   obtain ⟨x, hx⟩ : ∃ x, ds[k]? = some x := ⟨ds[k], by simp [hlt]⟩
   obtain ⟨d0, d1, d2⟩ := (hcell k x hx).below hB hg
   clear hcell
   cases e : (x.s.toList == s.toList) with
   | true =>
    have HR : Hid (Zbe ds s 0 = k) := by unfold Hid; rw [HK.out, ZfK ds s k x hx e]
    clear hx HK
    go_wp2
    go_ret
    exact ⟨by rw [HR.out]; rfl, hB⟩
   | false =>
    have HR : Hid (Zbe ds s 0 = Zbe (ds.drop (k + 1)) s (k + 1)) := by unfold Hid; rw [HK.out, ZdW ds s k x hx e]
    clear hx HK
    go_wp2
    go_roundw
    case rel => exact ⟨k + 1, by omega, by go_num, HR, hb⟩
    case measure => simp [intOf]; omega
  ·have HR : Hid (Zbe ds s 0 = -1) := by unfold Hid; rw [HK.out, ZeY ds s k (by omega)]
   clear HK hcell
   go_wp2
   go_ret
   exact ⟨by rw [HR.out]; rfl, hB⟩
set_option maxHeartbeats 400000 in
theorem ZdQ (d : Df) (s : ByteArray) (q : Nat) (w : World) (hq : w.cell? ⟨q, 0, none⟩ = some (.string s)) (hl : q < w.heap.size) :
  Calls Tryz.prog 165 #[.agg #[.string d.s, .int .i64 d.p, .int .i64 d.m], .pointer (some ⟨q, 0, none⟩)] w fun e w' => e = .returned (.bool (d.s.toList == s.toList)) /\ Below w.heap.size w w' := by
 have hne : ¬ q = w.heap.size := by omega
 go_enter Tryz.func165, Tryz.ntmps165
 go_wp2
 go_ret
 exact ⟨rfl, (Below.refl _ _).alloc (Nat.le_refl _) _⟩
set_option maxHeartbeats 800000 in
theorem ZeA (v3 : Value) (ds : List Df) (s : ByteArray) (q : Nat) (w : World) (R : DfRow w v3 ds) (hq : w.cell? ⟨q, 0, none⟩ = some (.string s)) (hl : q < w.heap.size) :
  Calls Tryz.prog 164 #[v3, .func (.func 165) #[] #[.pointer (some ⟨q, 0, none⟩)]] w fun e w' => e = .returned (.int .i64 (Zbe ds s 0)) /\ Below w.heap.size w w' := by
 obtain ⟨ao, cap, rfl, hcap, hm, hz, hcell⟩ := R
 go_enter Tryz.func164, Tryz.ntmps164
 go_wp2_with fail
 go_loopw [8] (fun i wr => ∃ k : Nat, k <= ds.length /\ i = .int .i64 k /\ Hid (Zbe ds s 0 = Zbe (ds.drop k) s k) /\ Below w.heap.size w wr) (fun i _ => ds.length - (intOf i).toNat)
 case atStart => exact ⟨0, by omega, rfl, rfl, Below.refl _ _⟩
 case round =>
  obtain ⟨k, hk, rfl, HK, hb⟩ := hrel
  have hcr := (hb.cell (p := ⟨q, 0, none⟩) hl).trans hq
  have hlr := Nat.lt_of_lt_of_le hl hb.size
  by_cases hlt : k < ds.length
  ·obtain ⟨g, o, rfl, hg, hcell⟩ := hcell (by intro e; subst e; simp at hlt)
   obtain ⟨x, hx⟩ : ∃ x, ds[k]? = some x := ⟨ds[k], by simp [hlt]⟩
   obtain ⟨d0, d1, d2⟩ := (hcell k x hx).below hb hg
   clear hcell
   cases e : (x.s.toList == s.toList) with
   | true =>
    have HR : Hid (Zbe ds s 0 = k) := by unfold Hid; rw [HK.out, ZfK ds s k x hx e]
    clear hx HK
    go_wp2_with fail
    refine (ZdQ x s q _ hcr hlr).mono ?_
    rintro e' w2 ⟨rfl, hb2⟩
    rw [e]
    have hB2 := hb.trans (hb2.mono hb.size)
    clear d0 d1 d2 hcr hb2
    go_wp2
    go_ret
    exact ⟨by rw [HR.out]; rfl, hB2⟩
   | false =>
    have HR : Hid (Zbe ds s 0 = Zbe (ds.drop (k + 1)) s (k + 1)) := by unfold Hid; rw [HK.out, ZdW ds s k x hx e]
    clear hx HK
    go_wp2_with fail
    refine (ZdQ x s q _ hcr hlr).mono ?_
    rintro e' w2 ⟨rfl, hb2⟩
    rw [e]
    have hB2 := hb.trans (hb2.mono hb.size)
    clear d0 d1 d2 hcr hb2
    go_wp2
    go_roundw
    case rel => exact ⟨k + 1, by omega, by go_num, HR, hB2⟩
    case measure => simp [intOf]; omega
  ·have HR : Hid (Zbe ds s 0 = -1) := by unfold Hid; rw [HK.out, ZeY ds s k (by omega)]
   clear HK hcell
   go_wp2
   go_ret
   exact ⟨by rw [HR.out]; rfl, hb⟩
set_option maxHeartbeats 800000 in
theorem ZhV (a1 a2 : Option Addr) (n1 c1 n2 c2 : Nat) (v3 : Value) (ds : List Df) (s : ByteArray) (w : World) (R : DfRow w v3 ds) :
  Calls Tryz.prog 140 #[.agg #[.slice a1 n1 c1, .slice a2 n2 c2, v3], .string s] w fun e w' => e = .returned (.int .i64 (Zbe ds s 0)) /\ Below w.heap.size w w' := by
 have hmf : ∀ (fn : Fn) (first cap : Array Value) (w : World), (Instr.makeFunc fn first cap).run Tryz.prog w = .ok (.func fn first cap) w := fun _ _ _ _ => rfl
 obtain ⟨a3, c3, rfl⟩ := R.small
 go_enter Tryz.func140, Tryz.ntmps140
 go_wp2_with fail
 have hB0 : Below w.heap.size w ((w.alloc (Obj.cells #[.slice a1 n1 c1, .slice a2 n2 c2, .slice a3 ds.length c3] 44)).alloc (Obj.cells #[.string s] 9)) := ((Below.refl _ _).alloc (Nat.le_refl _) _).alloc (by simp) _
 refine (ZeA _ ds s (w.heap.size + 1) _ (R.below hB0) ?_ ?_).mono ?_
 ·rw [cell_of_row _ _ 0 _ _ _ (heap_alloc2_new _ _ _)]; rfl
 ·simp
 rintro e w1 ⟨rfl, hb1⟩
 have hB1 := hB0.trans (hb1.mono hB0.size)
 clear hB0 hb1
 go_wp2
 go_ret
 exact ⟨rfl, hB1⟩
def ZbZ (x : In) : Bool := x.n == 0 && x.i == 0 && x.s.toList == []
def litB (x : In) (n1 : Nat) : Bool := x.i == 0 && x.s.toList == [] && decide (0 <= x.n) && decide (x.n < n1)
def varB (x : In) : Bool := x.s.toList == [] && decide (0 <= x.n) && decide (x.n <= 20) && decide (0 <= x.i) && decide (x.i < 4)
def Za7 (x : In) : Bool := x.n == 0 && x.i == 0 && ZbQ x.s
def wayB (x : In) (i : Int) (n2 : Nat) : Bool := x.i == 0 && x.s.toList == [] && decide (i < x.n) && decide (x.n <= n2)
def funB (x : In) (i : Int) (n2 : Nat) : Bool := x.s.toList == [] && decide (i < x.n) && decide (x.n < n2) && decide (0 <= x.i) && decide (x.i <= 4)
def ZcL (x : In) : Bool := x.n == 0 && x.s.toList == [] && decide (0 <= x.i) && decide (x.i <= 4)
set_option maxHeartbeats 1600000 in
theorem ZdU (x : In) (a1 a2 a3 : Option Addr) (n1 n2 n3 c1 c2 c3 : Nat) (i : Int) (w : World) :
  Calls Tryz.prog 209 #[.agg #[.int .i64 x.o, .int .i64 x.n, .int .i64 x.i, .string x.s], .agg #[.slice a1 n1 c1, .slice a2 n2 c2, .slice a3 n3 c3], .int .i64 i] w fun e w' => e = .returned (.bool (ZbZ x)) /\ Below w.heap.size w w' := by
 go_enter Tryz.func209, Tryz.ntmps209
 go_wp2
 all_goals
  go_ret
  refine ⟨retB ?_, ?_⟩
  ·unfold ZbZ
   first
    | (simp [*]; done)
    | (simp [*]; omega)
    | (rw [Bool.eq_iff_iff]; simp [*]; omega)
  ·first
    | exact ((Below.refl _ _).alloc (Nat.le_refl _) _).alloc (by simp) _
    | exact (((Below.refl _ _).alloc (Nat.le_refl _) _).alloc (by simp) _).alloc (by simp; omega) _
set_option maxHeartbeats 1600000 in
theorem ZiJ (x : In) (a1 a2 a3 : Option Addr) (n1 n2 n3 c1 c2 c3 : Nat) (i : Int) (w : World) :
  Calls Tryz.prog 203 #[.agg #[.int .i64 x.o, .int .i64 x.n, .int .i64 x.i, .string x.s], .agg #[.slice a1 n1 c1, .slice a2 n2 c2, .slice a3 n3 c3], .int .i64 i] w fun e w' => e = .returned (.bool (litB x n1)) /\ Below w.heap.size w w' := by
 go_enter Tryz.func203, Tryz.ntmps203
 go_wp2
 all_goals
  go_ret
  refine ⟨retB ?_, ?_⟩
  ·unfold litB
   first
    | (simp [*]; done)
    | (simp [*]; omega)
    | (rw [Bool.eq_iff_iff]; simp [*]; omega)
  ·first
    | exact ((Below.refl _ _).alloc (Nat.le_refl _) _).alloc (by simp) _
    | exact (((Below.refl _ _).alloc (Nat.le_refl _) _).alloc (by simp) _).alloc (by simp; omega) _
set_option maxHeartbeats 1600000 in
theorem Zio (x : In) (a1 a2 a3 : Option Addr) (n1 n2 n3 c1 c2 c3 : Nat) (i : Int) (w : World) :
  Calls Tryz.prog 204 #[.agg #[.int .i64 x.o, .int .i64 x.n, .int .i64 x.i, .string x.s], .agg #[.slice a1 n1 c1, .slice a2 n2 c2, .slice a3 n3 c3], .int .i64 i] w fun e w' => e = .returned (.bool (varB x)) /\ Below w.heap.size w w' := by
 go_enter Tryz.func204, Tryz.ntmps204
 go_wp2
 all_goals
  go_ret
  refine ⟨retB ?_, ?_⟩
  ·unfold varB
   first
    | (simp [*]; done)
    | (simp [*]; omega)
    | (rw [Bool.eq_iff_iff]; simp [*]; omega)
  ·first
    | exact ((Below.refl _ _).alloc (Nat.le_refl _) _).alloc (by simp) _
    | exact (((Below.refl _ _).alloc (Nat.le_refl _) _).alloc (by simp) _).alloc (by simp; omega) _
set_option maxHeartbeats 1600000 in
theorem Zfp (x : In) (a1 a2 a3 : Option Addr) (n1 n2 n3 c1 c2 c3 : Nat) (i : Int) (w : World) (hs : x.s.size <= maxLen) :
  Calls Tryz.prog 205 #[.agg #[.int .i64 x.o, .int .i64 x.n, .int .i64 x.i, .string x.s], .agg #[.slice a1 n1 c1, .slice a2 n2 c2, .slice a3 n3 c3], .int .i64 i] w fun e w' => e = .returned (.bool (Za7 x)) /\ Below w.heap.size w w' := by
 go_enter Tryz.func205, Tryz.ntmps205
 go_wp2_with (go_at_call 183; refine (Zde x.s _ hs).mono ?_; rintro e w1 ⟨rfl, rfl⟩)
 all_goals
  go_ret
  refine ⟨retB ?_, ?_⟩
  ·unfold Za7
   first
    | (simp [*]; done)
    | (simp [*]; omega)
    | (rw [Bool.eq_iff_iff]; simp [*]; omega)
  ·first
    | exact ((Below.refl _ _).alloc (Nat.le_refl _) _).alloc (by simp) _
    | exact (((Below.refl _ _).alloc (Nat.le_refl _) _).alloc (by simp) _).alloc (by simp; omega) _
set_option maxHeartbeats 1600000 in
theorem Ze3 (x : In) (a1 a2 a3 : Option Addr) (n1 n2 n3 c1 c2 c3 : Nat) (i : Int) (w : World) :
  Calls Tryz.prog 206 #[.agg #[.int .i64 x.o, .int .i64 x.n, .int .i64 x.i, .string x.s], .agg #[.slice a1 n1 c1, .slice a2 n2 c2, .slice a3 n3 c3], .int .i64 i] w fun e w' => e = .returned (.bool (wayB x i n2)) /\ Below w.heap.size w w' := by
 go_enter Tryz.func206, Tryz.ntmps206
 go_wp2
 all_goals
  go_ret
  refine ⟨retB ?_, ?_⟩
  ·unfold wayB
   first
    | (simp [*]; done)
    | (simp [*]; omega)
    | (rw [Bool.eq_iff_iff]; simp [*]; omega)
  ·first
    | exact ((Below.refl _ _).alloc (Nat.le_refl _) _).alloc (by simp) _
    | exact (((Below.refl _ _).alloc (Nat.le_refl _) _).alloc (by simp) _).alloc (by simp; omega) _
set_option maxHeartbeats 1600000 in
theorem ZiB (x : In) (a1 a2 a3 : Option Addr) (n1 n2 n3 c1 c2 c3 : Nat) (i : Int) (w : World) :
  Calls Tryz.prog 207 #[.agg #[.int .i64 x.o, .int .i64 x.n, .int .i64 x.i, .string x.s], .agg #[.slice a1 n1 c1, .slice a2 n2 c2, .slice a3 n3 c3], .int .i64 i] w fun e w' => e = .returned (.bool (funB x i n2)) /\ Below w.heap.size w w' := by
 go_enter Tryz.func207, Tryz.ntmps207
 go_wp2
 all_goals
  go_ret
  refine ⟨retB ?_, ?_⟩
  ·unfold funB
   first
    | (simp [*]; done)
    | (simp [*]; omega)
    | (rw [Bool.eq_iff_iff]; simp [*]; omega)
  ·first
    | exact ((Below.refl _ _).alloc (Nat.le_refl _) _).alloc (by simp) _
    | exact (((Below.refl _ _).alloc (Nat.le_refl _) _).alloc (by simp) _).alloc (by simp; omega) _
set_option maxHeartbeats 1600000 in
theorem Zhe (x : In) (a1 a2 a3 : Option Addr) (n1 n2 n3 c1 c2 c3 : Nat) (i : Int) (w : World) :
  Calls Tryz.prog 208 #[.agg #[.int .i64 x.o, .int .i64 x.n, .int .i64 x.i, .string x.s], .agg #[.slice a1 n1 c1, .slice a2 n2 c2, .slice a3 n3 c3], .int .i64 i] w fun e w' => e = .returned (.bool (ZcL x)) /\ Below w.heap.size w w' := by
 go_enter Tryz.func208, Tryz.ntmps208
 go_wp2
 all_goals
  go_ret
  refine ⟨retB ?_, ?_⟩
  ·unfold ZcL
   first
    | (simp [*]; done)
    | (simp [*]; omega)
    | (rw [Bool.eq_iff_iff]; simp [*]; omega)
  ·first
    | exact ((Below.refl _ _).alloc (Nat.le_refl _) _).alloc (by simp) _
    | exact (((Below.refl _ _).alloc (Nat.le_refl _) _).alloc (by simp) _).alloc (by simp; omega) _
def Zav (x : In) (i : Int) (n1 n2 : Nat) : Bool :=
 if x.o = 1 then litB x n1 else if x.o = 2 then varB x else if x.o = 3 then Za7 x else if x.o = 4 then wayB x i n2 else if x.o = 5 then wayB x i n2
 else if x.o = 6 then funB x i n2 else if x.o = 7 then ZcL x else if x.o = 8 then ZbZ x else if x.o = 9 then ZbZ x else false
set_option maxHeartbeats 400000 in
theorem Zbp (ao : Option Addr) (n cap : Nat) (a : Int) (w : World) (hn : n <= 9223372036854775807) :
  Calls Tryz.prog 159 #[.agg #[.slice ao n cap], .int .i64 a] w fun e w' => e = .returned (.bool (decide (0 <= a) && decide (a < n))) /\ Below w.heap.size w w' := by
 go_enter Tryz.func159, Tryz.ntmps159
 go_wp2_with fail
 refine (Zau _ _ _ _).mono ?_
 rintro e w1 ⟨rfl, rfl⟩
 go_wp2
 go_ret
 refine ⟨retB ?_, (Below.refl _ _).alloc (Nat.le_refl _) _⟩
 rw [Bool.eq_iff_iff]
 simp
 omega
set_option maxRecDepth 100000 in
set_option maxHeartbeats 4000000 in
theorem Zhw (a1 a3 : Option Addr) (n1 c1 n3 c3 : Nat) (v2 : Value) (is : List In) (k : Nat) (x : In) (w : World) (R : InRow w v2 is) (hx : is[k]? = some x) (hn1 : n1 <= 9223372036854775807) :
  Calls Tryz.prog 157 #[.agg #[.slice a1 n1 c1, v2, .slice a3 n3 c3], .int .i64 k] w fun e w' => e = .returned (.bool (Zav x k n1 is.length)) /\ Below w.heap.size w w' := by
 obtain ⟨a2, c2, rfl, hcap, hm, hz, hcell⟩ := R
 have hlt : k < is.length := (List.getElem?_eq_some_iff.1 hx).1
 obtain ⟨g, o, rfl, hg, hcell⟩ := hcell (by intro e; subst e; simp at hlt)
 obtain ⟨d0, d1, d2, d3⟩ := hcell k x hx
 have hxz := hz x (List.mem_of_getElem? hx)
 have hgn : ¬ g = w.heap.size := by omega
 clear hcell hx hz
 have hBa : Below w.heap.size w (w.alloc (Obj.cells #[.slice a1 n1 c1, .slice (some ⟨g, o, none⟩) is.length c2, .slice a3 n3 c3] 44)) := (Below.refl _ _).alloc (Nat.le_refl _) _
 obtain ⟨xo, xn, xi, xs⟩ := x
 dsimp only at d0 d1 d2 d3 hxz
 have hc : (xo < 1 \/ 9 < xo) \/ xo = 1 \/ xo = 2 \/ xo = 3 \/ xo = 4 \/ xo = 5 \/ xo = 6 \/ xo = 7 \/ xo = 8 \/ xo = 9 := by omega
 rcases hc with hc | rfl | rfl | rfl | rfl | rfl | rfl | rfl | rfl | rfl
 ·have HR : Hid (Zav ⟨xo, xn, xi, xs⟩ k n1 is.length = false) := by unfold Hid; simp [Zav, show ¬ xo = 1 by omega, show ¬ xo = 2 by omega, show ¬ xo = 3 by omega, show ¬ xo = 4 by omega, show ¬ xo = 5 by omega, show ¬ xo = 6 by omega, show ¬ xo = 7 by omega, show ¬ xo = 8 by omega, show ¬ xo = 9 by omega]
  have h1 : ¬ xo = 1 := by omega
  have h2 : ¬ xo = 2 := by omega
  have h3 : ¬ xo = 3 := by omega
  have h4 : ¬ xo = 4 := by omega
  have h5 : ¬ xo = 5 := by omega
  have h6 : ¬ xo = 6 := by omega
  have h7 : ¬ xo = 7 := by omega
  have h8 : ¬ xo = 8 := by omega
  have h9 : ¬ xo = 9 := by omega
  go_enter Tryz.func157, Tryz.ntmps157
  go_wp2
  go_ret
  exact ⟨by rw [HR.out]; rfl, (hBa.alloc hBa.size _).alloc (by have := hBa.size; simp; omega) _⟩
 ·go_enter Tryz.func157, Tryz.ntmps157
  go_wp2_with (first
   | (go_at_call 159; refine (Zbp _ _ _ _ _ hn1).mono ?_; rintro e w1 ⟨rfl, hb1⟩)
   | (go_at_call 158; refine (ZaO xs _ hxz).mono ?_; rintro e w1 ⟨rfl, rfl⟩)
   | (go_at_call 42; refine (Zau _ _ _ _).mono ?_; rintro e w1 ⟨rfl, rfl⟩))
  all_goals
   go_ret
   refine ⟨retB ?_, ?_⟩
   ·simp only [Zav, litB, varB, Za7, wayB, funB, ZcL, ZbZ]
    first
     | (simp [*]; done)
     | (simp [*]; omega)
     | (rw [Bool.eq_iff_iff]; simp [*]; omega)
   ·first
     | exact (hBa.alloc hBa.size _).alloc (by have := hBa.size; simp; omega) _
     | exact ((hBa.alloc hBa.size _).alloc (by have := hBa.size; simp; omega) _).trans (hb1.mono (by simp; omega))
 ·go_enter Tryz.func157, Tryz.ntmps157
  go_wp2_with (first
   | (go_at_call 159; refine (Zbp _ _ _ _ _ hn1).mono ?_; rintro e w1 ⟨rfl, hb1⟩)
   | (go_at_call 158; refine (ZaO xs _ hxz).mono ?_; rintro e w1 ⟨rfl, rfl⟩)
   | (go_at_call 42; refine (Zau _ _ _ _).mono ?_; rintro e w1 ⟨rfl, rfl⟩))
  all_goals
   go_ret
   refine ⟨retB ?_, ?_⟩
   ·simp only [Zav, litB, varB, Za7, wayB, funB, ZcL, ZbZ]
    first
     | (simp [*]; done)
     | (simp [*]; omega)
     | (rw [Bool.eq_iff_iff]; simp [*]; omega)
   ·first
     | exact (hBa.alloc hBa.size _).alloc (by have := hBa.size; simp; omega) _
     | exact ((hBa.alloc hBa.size _).alloc (by have := hBa.size; simp; omega) _).trans (hb1.mono (by simp; omega))
 ·go_enter Tryz.func157, Tryz.ntmps157
  go_wp2_with (first
   | (go_at_call 159; refine (Zbp _ _ _ _ _ hn1).mono ?_; rintro e w1 ⟨rfl, hb1⟩)
   | (go_at_call 158; refine (ZaO xs _ hxz).mono ?_; rintro e w1 ⟨rfl, rfl⟩)
   | (go_at_call 42; refine (Zau _ _ _ _).mono ?_; rintro e w1 ⟨rfl, rfl⟩))
  all_goals
   go_ret
   refine ⟨retB ?_, ?_⟩
   ·simp only [Zav, litB, varB, Za7, wayB, funB, ZcL, ZbZ]
    first
     | (simp [*]; done)
     | (simp [*]; omega)
     | (rw [Bool.eq_iff_iff]; simp [*]; omega)
   ·first
     | exact (hBa.alloc hBa.size _).alloc (by have := hBa.size; simp; omega) _
     | exact ((hBa.alloc hBa.size _).alloc (by have := hBa.size; simp; omega) _).trans (hb1.mono (by simp; omega))
 ·go_enter Tryz.func157, Tryz.ntmps157
  go_wp2_with (first
   | (go_at_call 159; refine (Zbp _ _ _ _ _ hn1).mono ?_; rintro e w1 ⟨rfl, hb1⟩)
   | (go_at_call 158; refine (ZaO xs _ hxz).mono ?_; rintro e w1 ⟨rfl, rfl⟩)
   | (go_at_call 42; refine (Zau _ _ _ _).mono ?_; rintro e w1 ⟨rfl, rfl⟩))
  all_goals
   go_ret
   refine ⟨retB ?_, ?_⟩
   ·simp only [Zav, litB, varB, Za7, wayB, funB, ZcL, ZbZ]
    first
     | (simp [*]; done)
     | (simp [*]; omega)
     | (rw [Bool.eq_iff_iff]; simp [*]; omega)
   ·first
     | exact (hBa.alloc hBa.size _).alloc (by have := hBa.size; simp; omega) _
     | exact ((hBa.alloc hBa.size _).alloc (by have := hBa.size; simp; omega) _).trans (hb1.mono (by simp; omega))
 ·go_enter Tryz.func157, Tryz.ntmps157
  go_wp2_with (first
   | (go_at_call 159; refine (Zbp _ _ _ _ _ hn1).mono ?_; rintro e w1 ⟨rfl, hb1⟩)
   | (go_at_call 158; refine (ZaO xs _ hxz).mono ?_; rintro e w1 ⟨rfl, rfl⟩)
   | (go_at_call 42; refine (Zau _ _ _ _).mono ?_; rintro e w1 ⟨rfl, rfl⟩))
  all_goals
   go_ret
   refine ⟨retB ?_, ?_⟩
   ·simp only [Zav, litB, varB, Za7, wayB, funB, ZcL, ZbZ]
    first
     | (simp [*]; done)
     | (simp [*]; omega)
     | (rw [Bool.eq_iff_iff]; simp [*]; omega)
   ·first
     | exact (hBa.alloc hBa.size _).alloc (by have := hBa.size; simp; omega) _
     | exact ((hBa.alloc hBa.size _).alloc (by have := hBa.size; simp; omega) _).trans (hb1.mono (by simp; omega))
 ·go_enter Tryz.func157, Tryz.ntmps157
  go_wp2_with (first
   | (go_at_call 159; refine (Zbp _ _ _ _ _ hn1).mono ?_; rintro e w1 ⟨rfl, hb1⟩)
   | (go_at_call 158; refine (ZaO xs _ hxz).mono ?_; rintro e w1 ⟨rfl, rfl⟩)
   | (go_at_call 42; refine (Zau _ _ _ _).mono ?_; rintro e w1 ⟨rfl, rfl⟩))
  all_goals
   go_ret
   refine ⟨retB ?_, ?_⟩
   ·simp only [Zav, litB, varB, Za7, wayB, funB, ZcL, ZbZ]
    first
     | (simp [*]; done)
     | (simp [*]; omega)
     | (rw [Bool.eq_iff_iff]; simp [*]; omega)
   ·first
     | exact (hBa.alloc hBa.size _).alloc (by have := hBa.size; simp; omega) _
     | exact ((hBa.alloc hBa.size _).alloc (by have := hBa.size; simp; omega) _).trans (hb1.mono (by simp; omega))
 ·go_enter Tryz.func157, Tryz.ntmps157
  go_wp2_with (first
   | (go_at_call 159; refine (Zbp _ _ _ _ _ hn1).mono ?_; rintro e w1 ⟨rfl, hb1⟩)
   | (go_at_call 158; refine (ZaO xs _ hxz).mono ?_; rintro e w1 ⟨rfl, rfl⟩)
   | (go_at_call 42; refine (Zau _ _ _ _).mono ?_; rintro e w1 ⟨rfl, rfl⟩))
  all_goals
   go_ret
   refine ⟨retB ?_, ?_⟩
   ·simp only [Zav, litB, varB, Za7, wayB, funB, ZcL, ZbZ]
    first
     | (simp [*]; done)
     | (simp [*]; omega)
     | (rw [Bool.eq_iff_iff]; simp [*]; omega)
   ·first
     | exact (hBa.alloc hBa.size _).alloc (by have := hBa.size; simp; omega) _
     | exact ((hBa.alloc hBa.size _).alloc (by have := hBa.size; simp; omega) _).trans (hb1.mono (by simp; omega))
 ·go_enter Tryz.func157, Tryz.ntmps157
  go_wp2_with (first
   | (go_at_call 159; refine (Zbp _ _ _ _ _ hn1).mono ?_; rintro e w1 ⟨rfl, hb1⟩)
   | (go_at_call 158; refine (ZaO xs _ hxz).mono ?_; rintro e w1 ⟨rfl, rfl⟩)
   | (go_at_call 42; refine (Zau _ _ _ _).mono ?_; rintro e w1 ⟨rfl, rfl⟩))
  all_goals
   go_ret
   refine ⟨retB ?_, ?_⟩
   ·simp only [Zav, litB, varB, Za7, wayB, funB, ZcL, ZbZ]
    first
     | (simp [*]; done)
     | (simp [*]; omega)
     | (rw [Bool.eq_iff_iff]; simp [*]; omega)
   ·first
     | exact (hBa.alloc hBa.size _).alloc (by have := hBa.size; simp; omega) _
     | exact ((hBa.alloc hBa.size _).alloc (by have := hBa.size; simp; omega) _).trans (hb1.mono (by simp; omega))
 ·go_enter Tryz.func157, Tryz.ntmps157
  go_wp2_with (first
   | (go_at_call 159; refine (Zbp _ _ _ _ _ hn1).mono ?_; rintro e w1 ⟨rfl, hb1⟩)
   | (go_at_call 158; refine (ZaO xs _ hxz).mono ?_; rintro e w1 ⟨rfl, rfl⟩)
   | (go_at_call 42; refine (Zau _ _ _ _).mono ?_; rintro e w1 ⟨rfl, rfl⟩))
  all_goals
   go_ret
   refine ⟨retB ?_, ?_⟩
   ·simp only [Zav, litB, varB, Za7, wayB, funB, ZcL, ZbZ]
    first
     | (simp [*]; done)
     | (simp [*]; omega)
     | (rw [Bool.eq_iff_iff]; simp [*]; omega)
   ·first
     | exact (hBa.alloc hBa.size _).alloc (by have := hBa.size; simp; omega) _
     | exact ((hBa.alloc hBa.size _).alloc (by have := hBa.size; simp; omega) _).trans (hb1.mono (by simp; omega))
end Go.Proofs.YtbljoclnaeimoaaGreatDoor
