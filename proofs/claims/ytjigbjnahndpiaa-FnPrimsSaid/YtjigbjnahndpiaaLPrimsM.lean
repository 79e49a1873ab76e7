/-
  The law FnPrims, walked: at every argument it returns true.
-/
import Derived.Test.YtjigbjnahndpiaaBackM
import Derived.Test.YtjigbjnahndpiaaPdMathM
import Derived.Test.YtjigbjnahndpiaaBsM
import Derived.Test.YtjigbjnahndpiaaLPrimDoM
namespace Go.Proofs.Ytjigbjnahndpiaa
open Go.RowKit

set_option maxRecDepth 100000 in
set_option maxHeartbeats 400000 in
theorem fprims_big (ao : Option Addr) (len cap : Nat) (w : World) (hl : 1048576 < len) (hm : len ≤ 9223372036854775807) :
    Calls Try.prog 3 #[.slice ao len cap] w fun e w' => e = .returned (.bool true) ∧ Below w.heap.size w w' := by
  go_enter Try.func3, Try.ntmps3
  go_wp2_with (go_at_call 7; go_in)
  go_ret
  exact ⟨rfl, Below.refl _ _⟩

theorem IRow.lit1 (w : World) (a : Int) : IRow (w.alloc (Obj.cells #[.int .i64 a] 3)) (.slice (some ⟨w.heap.size, 0, none⟩) 1 1) [a] := by
  refine ⟨_, 1, rfl, ⟨by simp, fun h => by cases h⟩, by simp, fun _ => ⟨_, 0, rfl, by simp, fun i hi => ?_⟩⟩
  rw [cell_of_row _ w.heap.size (0 + i) _ 3 (0, 0) (heap_alloc_new w _)]
  have : i = 0 := by simp at hi; omega
  subst this
  rfl
theorem IRow.lit2 (w : World) (a b : Int) : IRow (w.alloc (Obj.cells #[.int .i64 a, .int .i64 b] 3)) (.slice (some ⟨w.heap.size, 0, none⟩) 2 2) [a, b] := by
  refine ⟨_, 2, rfl, ⟨by simp, fun h => by cases h⟩, by simp, fun _ => ⟨_, 0, rfl, by simp, fun i hi => ?_⟩⟩
  rw [cell_of_row _ w.heap.size (0 + i) _ 3 (0, 0) (heap_alloc_new w _)]
  have : i = 0 ∨ i = 1 := by simp at hi; omega
  rcases this with rfl | rfl <;> rfl

theorem IRow.lit2n (w : World) (a b : Int) : IRow ((w.alloc (Obj.cells #[.slice none 0 0] 26)).alloc (Obj.cells #[.int .i64 a, .int .i64 b] 3)).drew (.slice (some ⟨w.heap.size + 1, 0, none⟩) 2 2) [a, b] := by
  have h := (IRow.lit2 (w.alloc (Obj.cells #[.slice none 0 0] 26)) a b).below (Below.refl _ _).drew
  simpa using h
theorem two8 {w w' : World} {a b o : Nat} {u v : Value} (h : w.cell? ⟨a, 0, none⟩ = some u ∧ w.cell? ⟨b, o, none⟩ = some v) (hb : Below w.heap.size w w') (ha : a < w.heap.size) (hb' : b < w.heap.size) : w'.cell? ⟨a, 0, none⟩ = some u ∧ w'.cell? ⟨b, o, none⟩ = some v :=
  ⟨(hb.cell (p := ⟨a, 0, none⟩) ha).trans h.1, (hb.cell (p := ⟨b, o, none⟩) hb').trans h.2⟩
theorem two8set {w : World} {a b o c : Nat} {u v x : Value} (h : w.cell? ⟨a, 0, none⟩ = some u ∧ w.cell? ⟨b, o, none⟩ = some v) (ha : a ≠ c) (hb : b ≠ c) : (w.setCell ⟨c, 0, none⟩ x).cell? ⟨a, 0, none⟩ = some u ∧ (w.setCell ⟨c, 0, none⟩ x).cell? ⟨b, o, none⟩ = some v :=
  ⟨cell_set_ne h.1 ha, cell_set_ne h.2 hb⟩
theorem var1 {w w' : World} {o : Obj} (h : Below ((w.alloc (Obj.cells #[.slice none 0 0] 26)).alloc o).drew.heap.size ((w.alloc (Obj.cells #[.slice none 0 0] 26)).alloc o).drew w') : w'.heap[w.heap.size]? = some (.cells #[.slice none 0 0] 26 (0, 0)) :=
  (h.block _ (by simp; omega)).trans ((heap_alloc_old _ _ (by simp)).trans (heap_alloc_new _ _))
theorem var2 {w w' : World} {o : Obj} (h : Below ((w.alloc o).alloc (Obj.cells #[.slice none 0 0] 26)).drew.heap.size ((w.alloc o).alloc (Obj.cells #[.slice none 0 0] 26)).drew w') : w'.heap[w.heap.size + 1]? = some (.cells #[.slice none 0 0] 26 (0, 0)) :=
  (h.block _ (by simp)).trans (heap_alloc2_new _ _ _)

/-- A variable that holds a pool, to be read. -/
def RV (w : World) (b : Nat) (v : Value) (xs : List Nd) : Prop := w.heap[b]? = some (.cells #[v] 26 (0, 0)) ∧ NRow w v xs
theorem RV.below {w w' : World} {b : Nat} {v : Value} {xs : List Nd} (h : RV w b v xs) (hb : Below w.heap.size w w') : RV w' b v xs :=
  ⟨(hb.block _ (Array.getElem?_eq_some_iff.1 h.1).1).trans h.1, h.2.below hb⟩
theorem RV.new {w : World} {v : Value} {xs : List Nd} (h : NRow w v xs) : RV (w.alloc (.cells #[v] 26)) w.heap.size v xs :=
  ⟨heap_alloc_new _ _, h.below ((Below.refl _ _).alloc (Nat.le_refl _) _)⟩
theorem RV.cell {w : World} {b : Nat} {v : Value} {xs : List Nd} (h : RV w b v xs) : w.cell? ⟨b, 0, none⟩ = some v := by rw [cell_of_row w _ 0 _ _ _ h.1]; rfl

set_option maxRecDepth 100000 in
set_option maxHeartbeats 6400000 in
theorem fprims_small (ao : Option Addr) (cap : Nat) (zs : List Int) (w : World) (R : Row w (.slice ao zs.length cap) zs) (hl : zs.length ≤ 1048576) :
    Calls Try.prog 3 #[.slice ao zs.length cap] w fun e w' => e = .returned (.bool true) ∧ Below w.heap.size w w' := by
  go_enter Try.func3, Try.ntmps3
  go_wp2_with (go_at_call 7; go_in)
  refine (dprimdo_any _ zs w R hl).mono ?_
  rintro e w1 ⟨v1, vl, xs, n, ls, rfl, hxl, hz, hls, ho1, hi1, b1⟩
  have hzm : ∀ x ∈ xs, x.s.size ≤ maxLen := fun x hx => Nat.le_trans (hz x hx) (by unfold maxLen; omega)
  have R1 := NRow.of_own ho1 (by omega) hzm
  have L1 := IRow.of_own hi1 (by omega)
  obtain ⟨a1, q1, rfl⟩ := own_form ho1
  obtain ⟨al, ql, rfl⟩ := own_form hi1
  have V1 := RV.new R1
  have bA : Below w1.heap.size w1 (w1.alloc (.cells #[.slice a1 xs.length q1] 26)) := (Below.refl _ _).alloc (Nat.le_refl _) _
  have L2 := L1.below bA
  have B2 := b1.trans (bA.mono b1.size)
  clear ho1 hi1 b1 hz bA L1 R1
  go_wp2_with fail
  generalize w1.alloc (Obj.cells #[.slice a1 xs.length q1] 26) = w2 at *
  generalize w1.heap.size = p0 at *
  refine (iprimdo_any _ _ xs ls n _ V1.2 L2).mono ?_
  rintro e w3 ⟨v3, rfl, ho3, b3⟩
  obtain ⟨a3, q3, rfl⟩ := own_form ho3
  have hzL := pdL_ok (n := n) (zs := ls) hzm
  have hlL := pdL_len xs n ls
  have R3 := NRow.of_own ho3 (by omega) hzL
  have V3 := RV.new R3
  have bA : Below w3.heap.size w3 (w3.alloc (.cells #[.slice a3 (pdL xs n ls).length q3] 26)) := (Below.refl _ _).alloc (Nat.le_refl _) _
  have b4 := b3.trans (bA.mono b3.size)
  have V1' := V1.below b4
  have L4 := L2.below b4
  have B4 := B2.trans (b4.mono B2.size)
  have k3 : w3.cell? ⟨p0, 0, none⟩ = some (.slice a1 xs.length q1) := (V1.below b3).cell
  have hp3 : p0 < w3.heap.size := (Array.getElem?_eq_some_iff.1 (V1.below b3).1).1
  clear V1 L2 B2 ho3 b3 b4 bA R3
  go_wp2_with fail
  generalize w3.alloc (Obj.cells #[.slice a3 (pdL xs n ls).length q3] 26) = w4 at *
  generalize w3.heap.size = p1 at *
  clear k3
  refine (sprimdo_any _ _ xs ls n _ V1'.2 L4).mono ?_
  rintro e w5 ⟨v5, rfl, ho5, b5⟩
  obtain ⟨a5, q5, rfl⟩ := own_form ho5
  have bA : Below w5.heap.size w5 (w5.alloc (.cells #[.slice a5 (pdL xs n ls).length q5] 26)) := (Below.refl _ _).alloc (Nat.le_refl _) _
  have b6 := b5.trans (bA.mono b5.size)
  have V0 := V1'.below b6
  have VL := V3.below b6
  have L6 := L4.below b6
  have B6 := B4.trans (b6.mono B4.size)
  have kA : w5.cell? ⟨p1, 0, none⟩ = some (.slice a3 (pdL xs n ls).length q3) := (V3.below b5).cell
  have kB : w5.cell? ⟨p0, 0, none⟩ = some (.slice a1 xs.length q1) := (V1'.below b5).cell
  have hpA : p1 < w5.heap.size := (Array.getElem?_eq_some_iff.1 (V3.below b5).1).1
  have hpB : p0 < w5.heap.size := (Array.getElem?_eq_some_iff.1 (V1'.below b5).1).1
  clear V1' V3 L4 B4 ho5 b5 b6 bA
  by_cases hC : pdC xs n ls = 0
  · obtain ⟨hV0, hV1, hPL⟩ := pd_good hC
    have h6 := fun (e : n = 6) => pd_cons (xs := xs) (zs := ls) (by rw [← e]; exact hC)
    have h1 := fun (e : n = 1) => pd_sum (xs := xs) (zs := ls) (by rw [← e]; exact hC)
    have hN := fun (e : n = 12) => pd_not (xs := xs) (zs := ls) (by rw [← e]; exact hC)
    go_upto_region 6 with fail
    generalize w5.alloc (Obj.cells #[.slice a5 (pdL xs n ls).length q5] 26) = w6 at *
    clear kA kB hpA hpB
    have kL := VL.cell
    have k0 := V0.cell
    go_wp2_with fail
    refine (ipool_any _ (pdL xs n ls) _ VL.2).mono ?_
    rintro e w7 ⟨rfl, b7⟩
    rw [hPL]
    replace VL := VL.below b7
    replace L6 := L6.below b7
    replace B6 := B6.trans (b7.mono B6.size)
    clear V0 k0 kL b7
    have kL := VL.cell
    have hpL := (Array.getElem?_eq_some_iff.1 VL.1).1
    have hlL3 := hlL
    by_cases n6 : n = 6
    · obtain ⟨hz2, C7, C8, E7, E8⟩ := h6 n6
      subst n6
      clear h6 h1 hN
      obtain ⟨aL', cL', eL', _, _, hcL⟩ := L6
      simp only [Value.slice.injEq, true_and] at eL'
      obtain ⟨rfl, rfl⟩ := eL'
      obtain ⟨gl, ol, rfl, hgl, hcl⟩ := hcL (by intro e; subst e; simp at hz2)
      have c0 := hcl 0 (by omega)
      have c1 := hcl 1 (by omega)
      rw [Nat.add_zero] at c0
      clear hcL hcl
      generalize ls.getD 0 0 = y0 at E7 c0
      generalize ls.getD 1 0 = y1 at E8 c1
      generalize pdL xs 6 ls = LL at *
      generalize pdV xs 6 ls = VV at *
      have bB : Below w7.heap.size w7 (w7.alloc (Obj.cells #[.int .i64 VV] 3)) := (Below.refl _ _).alloc (Nat.le_refl _) _
      go_wp2_with fail
      refine (iprimdo_any _ _ LL [VV] 7 _ (VL.2.below bB) (IRow.lit1 w7 VV)).mono ?_
      rintro e w8 ⟨v8, he, ho8, b8⟩
      rw [C7, E7] at he
      subst he
      obtain ⟨a8, q8, rfl⟩ := own_form ho8
      have b78 := bB.trans (b8.mono bB.size)
      have bC : Below w8.heap.size w8 (w8.alloc (Obj.cells #[.slice a8 (pdL LL 7 [VV]).length q8] 26)) := (Below.refl _ _).alloc (Nat.le_refl _) _
      have b79 := b78.trans (bC.mono b78.size)
      have VL9 := VL.below b79
      have B9 := B6.trans (b79.mono B6.size)
      have d0 := (b79.cell (p := ⟨gl, ol, none⟩) hgl).trans c0
      have d1 := (b79.cell (p := ⟨gl, ol + 1, none⟩) hgl).trans c1
      have hg9 : gl < (w8.alloc (Obj.cells #[.slice a8 (pdL LL 7 [VV]).length q8] 26)).heap.size := Nat.lt_of_lt_of_le hgl b79.size
      clear kL c0 c1 b8 bB b78 bC VL B6 b79 hgl ho8
      go_upto_region 15 with fail
      generalize w8.alloc (Obj.cells #[.slice a8 (pdL LL 7 [VV]).length q8] 26) = w9 at *
      have kL := VL9.cell
      have bB : Below w9.heap.size w9 (w9.alloc (Obj.cells #[.int .i64 VV] 3)) := (Below.refl _ _).alloc (Nat.le_refl _) _
      go_wp2_with fail
      refine (iprimdo_any _ _ LL [VV] 8 _ (VL9.2.below bB) (IRow.lit1 w9 VV)).mono ?_
      rintro e w10 ⟨v10, he, ho10, b10⟩
      rw [C8, E8] at he
      subst he
      obtain ⟨a10, q10, rfl⟩ := own_form ho10
      have b910 := bB.trans (b10.mono bB.size)
      have bC : Below w10.heap.size w10 (w10.alloc (Obj.cells #[.slice a10 (pdL LL 8 [VV]).length q10] 26)) := (Below.refl _ _).alloc (Nat.le_refl _) _
      have b911 := b910.trans (bC.mono b910.size)
      have B11 := B9.trans (b911.mono B9.size)
      have f0 := (b911.cell (p := ⟨gl, ol, none⟩) hg9).trans d0
      have f1 := (b911.cell (p := ⟨gl, ol + 1, none⟩) hg9).trans d1
      clear kL d0 d1 b10 bB b910 bC VL9 B9 b911 ho10
      go_upto_region 16 with fail
      generalize w10.alloc (Obj.cells #[.slice a10 (pdL LL 8 [VV]).length q10] 26) = w11 at *
      go_wp2
      go_ret
      exact ⟨rfl, B11⟩
    · have g6 : (n == 6) = false := by simp [n6]
      have g6' : decide (n = 6) = false := by simp [n6]
      clear h6
      by_cases n1 : n = 1
      · obtain ⟨hz2, a1', y, e1', hy, hres⟩ := h1 n1
        subst n1
        clear h1 hN
        have HY : Hid ((pdL xs 1 ls)[a1']? = some y) := hy
        have HRS : Hid (_ ∨ _) := hres
        clear hy hres hPL hC
        obtain ⟨aL', cL', eL', _, _, hcL⟩ := L6
        simp only [Value.slice.injEq, true_and] at eL'
        obtain ⟨rfl, rfl⟩ := eL'
        obtain ⟨gl, ol, rfl, hgl, hcl⟩ := hcL (by intro e; subst e; simp at hz2)
        have c0 := hcl 0 (by omega)
        have c1 := hcl 1 (by omega)
        rw [Nat.add_zero] at c0
        rw [e1'] at c1
        clear hcL hcl
        generalize ls.getD 0 0 = y0 at *
        generalize pdL xs 1 ls = LL at *
        generalize pdV xs 1 ls = VV at *
        have sS := (⟨kL, c0⟩ : w7.cell? ⟨p1, 0, none⟩ = some (.slice a3 LL.length q3) ∧ w7.cell? ⟨gl, ol, none⟩ = some (.int .i64 y0))
        go_upto_region 18 with fail
        rcases HRS.out with C5 | ⟨C0, E0, L0⟩
        · clear HRS kL c0
          go_region_held (fun w' => w'.cell? ⟨p1, 0, none⟩ = some (.slice a3 LL.length q3) ∧ w'.cell? ⟨gl, ol, none⟩ = some (.int .i64 y0)) (first | exact s8 | exact two8set s8 (by omega) (by omega) | go_keep) ((go_at_call 9; refine (iprimdo_any _ _ LL [VV, y0] 2 _ ?_ ?_).mono ?_; (first | exact VL.2.below ((Below.refl _ _).alloc (Nat.le_refl _) _).drew | exact VL.2.below (((Below.refl _ _).alloc (Nat.le_refl _) _).alloc (by simp) _).drew); (first | exact (IRow.lit2 w7 VV y0).below (Below.refl _ _).drew | exact ((IRow.lit2 w7 VV y0).below ((Below.refl _ _).alloc (Nat.le_refl _) _)).below (Below.refl _ _).drew | exact IRow.lit2n w7 VV y0); rintro e w8 ⟨v8, he, ho8, b8⟩; obtain ⟨a8, q8, rfl⟩ := own_form ho8; have b78 : Below w7.heap.size w7 w8 := (by first | exact ((Below.refl _ _).alloc (Nat.le_refl _) _).drew.trans (b8.mono (by simp)) | exact (((Below.refl _ _).alloc (Nat.le_refl _) _).alloc (by simp) _).drew.trans (b8.mono (by simp; omega))); have s8 := two8 sS b78 hpL hgl; rw [C5] at he; subst he; (try (have qv := var1 b8; have kv := cell_of_row w8 _ 0 _ _ _ qv; have fv := frozen_of_row w8 _ 0 _ _ qv)); (try (have qv := var2 b8; have kv := cell_of_row w8 _ 0 _ _ _ qv; have fv := frozen_of_row w8 _ 0 _ _ qv))))
          · have bF : Below w7.heap.size w7 (w8.alloc (Obj.cells #[.slice a8 (pdL LL 2 [VV, y0]).length q8] 26)) := b78.alloc b78.size _
            have BF := B6.trans (bF.mono B6.size)
            clear s8 sS bF
            generalize w8.alloc (Obj.cells #[.slice a8 (pdL LL 2 [VV, y0]).length q8] 26) = w9 at *
            generalize pdV LL 2 [VV, y0] = vv
            go_wp2_with fail
            go_quiet (fail)
            go_wp2
            go_ret
            exact ⟨rfl, ⟨BF.os, BF.tape, BF.output, BF.size, BF.block⟩⟩
          · have bF : Below w7.heap.size w7 (w8.setCell ⟨w7.heap.size + 1, 0, none⟩ (.slice a8 (pdL LL 2 [VV, y0]).length q8)) := b78.setCell (p := ⟨w7.heap.size + 1, 0, none⟩) (by simp) _
            have BF := B6.trans (bF.mono B6.size)
            clear s8 sS bF
            generalize w8.setCell ⟨w7.heap.size + 1, 0, none⟩ (.slice a8 (pdL LL 2 [VV, y0]).length q8) = w9 at *
            generalize pdV LL 2 [VV, y0] = vv
            go_wp2_with fail
            go_quiet (fail)
            go_wp2
            go_ret
            exact ⟨rfl, ⟨BF.os, BF.tape, BF.output, BF.size, BF.block⟩⟩
          · have bF : Below w7.heap.size w7 (w8.setCell ⟨w7.heap.size, 0, none⟩ (.slice a8 (pdL LL 2 [VV, y0]).length q8)) := b78.setCell (p := ⟨w7.heap.size, 0, none⟩) (Nat.le_refl _) _
            have BF := B6.trans (bF.mono B6.size)
            clear s8 sS bF
            generalize w8.setCell ⟨w7.heap.size, 0, none⟩ (.slice a8 (pdL LL 2 [VV, y0]).length q8) = w9 at *
            generalize pdV LL 2 [VV, y0] = vv
            go_wp2_with fail
            go_quiet (fail)
            go_wp2
            go_ret
            exact ⟨rfl, ⟨BF.os, BF.tape, BF.output, BF.size, BF.block⟩⟩
        · clear HRS kL c0
          have hz8 : ∀ x ∈ (LL ++ [(⟨3, y.n, ByteArray.empty, 0, 0⟩ : Nd)] : List Nd), x.s.size ≤ maxLen := fun x hx => by
            simp only [List.mem_append, List.mem_singleton] at hx
            rcases hx with hx | rfl
            · exact hzL x hx
            · show ByteArray.empty.size ≤ maxLen; decide
          have hl8 : (LL ++ [(⟨3, y.n, ByteArray.empty, 0, 0⟩ : Nd)] : List Nd).length ≤ 9223372036854775807 := by simp; omega
          have HL8 : Hid ((LL ++ [(⟨3, y.n, ByteArray.empty, 0, 0⟩ : Nd)] : List Nd)[LL.length]? = some (⟨3, y.n, ByteArray.empty, 0, 0⟩ : Nd)) := by unfold Hid; simp
          have Hl8 : Hid ((LL ++ [(⟨3, y.n, ByteArray.empty, 0, 0⟩ : Nd)] : List Nd).length = LL.length + 1) := by unfold Hid; simp
          go_region_held (fun w' => w'.cell? ⟨p1, 0, none⟩ = some (.slice a3 LL.length q3) ∧ w'.cell? ⟨gl, ol, none⟩ = some (.int .i64 y0)) (first | exact s8 | exact two8set s8 (by omega) (by omega) | go_keep) ((go_at_call 9; refine (iprimdo_any _ _ LL [VV, y0] 2 _ ?_ ?_).mono ?_; (first | exact VL.2.below ((Below.refl _ _).alloc (Nat.le_refl _) _).drew | exact VL.2.below (((Below.refl _ _).alloc (Nat.le_refl _) _).alloc (by simp) _).drew); (first | exact (IRow.lit2 w7 VV y0).below (Below.refl _ _).drew | exact ((IRow.lit2 w7 VV y0).below ((Below.refl _ _).alloc (Nat.le_refl _) _)).below (Below.refl _ _).drew | exact IRow.lit2n w7 VV y0); rintro e w8 ⟨v8, he, ho8, b8⟩; rw [L0] at ho8; rw [C0, E0] at he; subst he; generalize LL ++ [(⟨3, y.n, ByteArray.empty, 0, 0⟩ : Nd)] = L8 at ho8 HL8 Hl8 hz8 hl8; obtain ⟨a8, q8, rfl⟩ := own_form ho8; have b78 : Below w7.heap.size w7 w8 := (by first | exact ((Below.refl _ _).alloc (Nat.le_refl _) _).drew.trans (b8.mono (by simp)) | exact (((Below.refl _ _).alloc (Nat.le_refl _) _).alloc (by simp) _).drew.trans (b8.mono (by simp; omega))); have s8 := two8 sS b78 hpL hgl; (try (have qv := var1 b8; have kv := cell_of_row w8 _ 0 _ _ _ qv; have fv := frozen_of_row w8 _ 0 _ _ qv)); (try (have qv := var2 b8; have kv := cell_of_row w8 _ 0 _ _ _ qv; have fv := frozen_of_row w8 _ 0 _ _ qv))))
          · have bF : Below w7.heap.size w7 (w8.alloc (Obj.cells #[.slice a8 L8.length q8] 26)) := b78.alloc b78.size _
            have RF : NRow (w8.alloc (Obj.cells #[.slice a8 L8.length q8] 26)) (.slice a8 L8.length q8) L8 := (NRow.of_own ho8 hl8 hz8).below ((Below.refl _ _).alloc (Nat.le_refl _) _)
            have kF : (w8.alloc (Obj.cells #[.slice a8 L8.length q8] 26)).cell? ⟨w8.heap.size, 0, none⟩ = some (.slice a8 L8.length q8) := cell_of_row _ _ 0 _ _ _ (heap_alloc_new w8 _)
            have BF := B6.trans (bF.mono B6.size)
            have VF := VL.below bF
            have d1 := (bF.cell (p := ⟨gl, ol + 1, none⟩) hgl).trans c1
            clear s8 sS bF ho8 b8 b78 hz8 hl8
            generalize w8.alloc (Obj.cells #[.slice a8 L8.length q8] 26) = w9 at *
            have kL := VF.cell
            have hLL := HY.out
            have hLL8 := HL8.out
            obtain ⟨ar, cr, er, hcr, _, _, hcellr⟩ := RF
            simp only [Value.slice.injEq, true_and] at er
            obtain ⟨rfl, rfl⟩ := er
            obtain ⟨gr, or', rfl, hgr, hnr⟩ := hcellr (by intro e; rw [e] at hLL8; simp at hLL8)
            obtain ⟨aq, cq, eq, hcq, _, _, hcellq⟩ := VF.2
            simp only [Value.slice.injEq, true_and] at eq
            obtain ⟨rfl, rfl⟩ := eq
            obtain ⟨gq, oq, rfl, hgq, hnq⟩ := hcellq (by intro e; rw [e] at hLL; simp at hLL)
            have n1 := (hnr _ _ hLL8).2.1
            have n2 := (hnq _ _ hLL).2.1
            dsimp only at n1
            have hi1 : LL.length < L8.length := by have := Hl8.out; omega
            have hi2 : a1' < LL.length := (List.getElem?_eq_some_iff.1 hLL).1
            clear hcellr hcellq hnr hnq hLL hLL8
            go_wp2_with fail
            go_quiet (fail)
            go_wp2
            go_ret
            exact ⟨rfl, ⟨BF.os, BF.tape, BF.output, BF.size, BF.block⟩⟩
          · have bF : Below w7.heap.size w7 (w8.setCell ⟨w7.heap.size + 1, 0, none⟩ (.slice a8 L8.length q8)) := b78.setCell (p := ⟨w7.heap.size + 1, 0, none⟩) (by simp) _
            have RF : NRow (w8.setCell ⟨w7.heap.size + 1, 0, none⟩ (.slice a8 L8.length q8)) (.slice a8 L8.length q8) L8 := NRow.of_own (ownsRow_setCell_below ho8 (a := ⟨w7.heap.size + 1, 0, none⟩) (by first | (simp; done) | (simp; omega)) _) hl8 hz8
            have kF : (w8.setCell ⟨w7.heap.size + 1, 0, none⟩ (.slice a8 L8.length q8)).cell? ⟨w7.heap.size + 1, 0, none⟩ = some (.slice a8 L8.length q8) := cell_of_row _ _ 0 _ _ _ (heap_setCell_same w8 (w7.heap.size + 1) 0 _ _ _ qv)
            have BF := B6.trans (bF.mono B6.size)
            have VF := VL.below bF
            have d1 := (bF.cell (p := ⟨gl, ol + 1, none⟩) hgl).trans c1
            clear s8 sS bF ho8 b8 b78 hz8 hl8
            generalize w8.setCell ⟨w7.heap.size + 1, 0, none⟩ (.slice a8 L8.length q8) = w9 at *
            have kL := VF.cell
            have hLL := HY.out
            have hLL8 := HL8.out
            obtain ⟨ar, cr, er, hcr, _, _, hcellr⟩ := RF
            simp only [Value.slice.injEq, true_and] at er
            obtain ⟨rfl, rfl⟩ := er
            obtain ⟨gr, or', rfl, hgr, hnr⟩ := hcellr (by intro e; rw [e] at hLL8; simp at hLL8)
            obtain ⟨aq, cq, eq, hcq, _, _, hcellq⟩ := VF.2
            simp only [Value.slice.injEq, true_and] at eq
            obtain ⟨rfl, rfl⟩ := eq
            obtain ⟨gq, oq, rfl, hgq, hnq⟩ := hcellq (by intro e; rw [e] at hLL; simp at hLL)
            have n1 := (hnr _ _ hLL8).2.1
            have n2 := (hnq _ _ hLL).2.1
            dsimp only at n1
            have hi1 : LL.length < L8.length := by have := Hl8.out; omega
            have hi2 : a1' < LL.length := (List.getElem?_eq_some_iff.1 hLL).1
            clear hcellr hcellq hnr hnq hLL hLL8
            go_wp2_with fail
            go_quiet (fail)
            go_wp2
            go_ret
            exact ⟨rfl, ⟨BF.os, BF.tape, BF.output, BF.size, BF.block⟩⟩
          · have bF : Below w7.heap.size w7 (w8.setCell ⟨w7.heap.size, 0, none⟩ (.slice a8 L8.length q8)) := b78.setCell (p := ⟨w7.heap.size, 0, none⟩) (Nat.le_refl _) _
            have RF : NRow (w8.setCell ⟨w7.heap.size, 0, none⟩ (.slice a8 L8.length q8)) (.slice a8 L8.length q8) L8 := NRow.of_own (ownsRow_setCell_below ho8 (a := ⟨w7.heap.size, 0, none⟩) (by first | (simp; done) | (simp; omega)) _) hl8 hz8
            have kF : (w8.setCell ⟨w7.heap.size, 0, none⟩ (.slice a8 L8.length q8)).cell? ⟨w7.heap.size, 0, none⟩ = some (.slice a8 L8.length q8) := cell_of_row _ _ 0 _ _ _ (heap_setCell_same w8 (w7.heap.size) 0 _ _ _ qv)
            have BF := B6.trans (bF.mono B6.size)
            have VF := VL.below bF
            have d1 := (bF.cell (p := ⟨gl, ol + 1, none⟩) hgl).trans c1
            clear s8 sS bF ho8 b8 b78 hz8 hl8
            generalize w8.setCell ⟨w7.heap.size, 0, none⟩ (.slice a8 L8.length q8) = w9 at *
            have kL := VF.cell
            have hLL := HY.out
            have hLL8 := HL8.out
            obtain ⟨ar, cr, er, hcr, _, _, hcellr⟩ := RF
            simp only [Value.slice.injEq, true_and] at er
            obtain ⟨rfl, rfl⟩ := er
            obtain ⟨gr, or', rfl, hgr, hnr⟩ := hcellr (by intro e; rw [e] at hLL8; simp at hLL8)
            obtain ⟨aq, cq, eq, hcq, _, _, hcellq⟩ := VF.2
            simp only [Value.slice.injEq, true_and] at eq
            obtain ⟨rfl, rfl⟩ := eq
            obtain ⟨gq, oq, rfl, hgq, hnq⟩ := hcellq (by intro e; rw [e] at hLL; simp at hLL)
            have n1 := (hnr _ _ hLL8).2.1
            have n2 := (hnq _ _ hLL).2.1
            dsimp only at n1
            have hi1 : LL.length < L8.length := by have := Hl8.out; omega
            have hi2 : a1' < LL.length := (List.getElem?_eq_some_iff.1 hLL).1
            clear hcellr hcellq hnr hnq hLL hLL8
            go_wp2_with fail
            go_quiet (fail)
            go_wp2
            go_ret
            exact ⟨rfl, ⟨BF.os, BF.tape, BF.output, BF.size, BF.block⟩⟩
      · have g1 : (n == 1) = false := by simp [n1]
        have g1' : decide (n = 1) = false := by simp [n1]
        clear h1
        by_cases n12 : n = 12
        · obtain ⟨eV, bb, eL, hres⟩ := hN n12
          subst n12
          clear hN
          have HLL : Hid ((pdL xs 12 ls)[xs.length]? = some (boolNd bb)) := by unfold Hid; rw [eL]; simp
          have HLl : Hid ((pdL xs 12 ls).length = xs.length + 1) := by unfold Hid; rw [eL]; simp
          have HRS : Hid (_ ∨ _) := hres
          clear eL hres hPL hC
          generalize pdL xs 12 ls = LL at *
          generalize pdV xs 12 ls = VV at *
          subst eV
          have bB : Below w7.heap.size w7 (w7.alloc (Obj.cells #[.int .i64 xs.length] 3)) := (Below.refl _ _).alloc (Nat.le_refl _) _
          go_wp2_with fail
          refine (iprimdo_any _ _ LL [(xs.length : Int)] 12 _ (VL.2.below bB) (IRow.lit1 w7 xs.length)).mono ?_
          rintro e w8 ⟨v8, he, ho8, b8⟩
          obtain ⟨a8, q8, rfl⟩ := own_form ho8
          have b78 := bB.trans (b8.mono bB.size)
          have bC : Below w8.heap.size w8 (w8.alloc (Obj.cells #[.slice a8 (pdL LL 12 [(xs.length : Int)]).length q8] 26)) := (Below.refl _ _).alloc (Nat.le_refl _) _
          have b79 := b78.trans (bC.mono b78.size)
          have B9 := B6.trans (b79.mono B6.size)
          rcases HRS.out with C5 | ⟨C0, E0, L0⟩
          · rw [C5] at he
            subst he
            generalize pdV LL 12 [(xs.length : Int)] = vv
            generalize (pdL LL 12 [(xs.length : Int)]).length = nl at *
            clear kL VL B6 b79 b8 bB b78 bC ho8
            go_upto_region 22 with fail
            generalize w8.alloc (Obj.cells #[.slice a8 nl q8] 26) = w9 at *
            go_wp2_with fail
            go_quiet (fail)
            go_wp2
            go_ret
            exact ⟨rfl, ⟨B9.os, B9.tape, B9.output, B9.size, B9.block⟩⟩
          · rw [C0, E0] at he
            subst he
            rw [L0] at ho8
            have hz8 : ∀ x ∈ LL ++ [boolNd (!bb)], x.s.size ≤ maxLen := fun x hx => by
              simp only [List.mem_append, List.mem_singleton] at hx
              rcases hx with hx | rfl
              · exact hzL x hx
              · show ByteArray.empty.size ≤ maxLen; decide
            have R8 := NRow.of_own ho8 (by have := HLl.out; simp; omega) hz8
            have HLL8 : Hid ((LL ++ [boolNd (!bb)])[LL.length]? = some (boolNd (!bb))) := by unfold Hid; simp
            rw [L0] at bC b79 B9 ⊢
            have R9 := R8.below bC
            have V9 := RV.new R8
            have VL9 := VL.below b79
            have Hl8 : Hid ((LL ++ [boolNd (!bb)]).length = LL.length + 1) := by unfold Hid; simp
            clear L0
            generalize LL ++ [boolNd (!bb)] = L8 at *
            clear kL VL B6 b79 b8 bB b78 bC ho8 R8 R9
            go_upto_region 22 with fail
            generalize w8.alloc (Obj.cells #[.slice a8 L8.length q8] 26) = w9 at *
            generalize w8.heap.size = p9 at *
            have kL := VL9.cell
            have k9 := V9.cell
            have hLL := HLL.out
            have hLL8 := HLL8.out
            obtain ⟨ar, cr, er, hcr, _, _, hcellr⟩ := V9.2
            simp only [Value.slice.injEq, true_and] at er
            obtain ⟨rfl, rfl⟩ := er
            obtain ⟨gr, or', rfl, hgr, hnr⟩ := hcellr (by intro e; rw [e] at hLL8; simp at hLL8)
            obtain ⟨aq, cq, eq, hcq, _, _, hcellq⟩ := VL9.2
            simp only [Value.slice.injEq, true_and] at eq
            obtain ⟨rfl, rfl⟩ := eq
            obtain ⟨gq, oq, rfl, hgq, hnq⟩ := hcellq (by intro e; rw [e] at hLL; simp at hLL)
            have n1 := (hnr _ _ hLL8).2.1
            have n2 := (hnq _ _ hLL).2.1
            have hi1 : LL.length < L8.length := by have := Hl8.out; omega
            have hi2 : xs.length < LL.length := by have := HLl.out; omega
            clear hcellr hcellq hnr hnq hLL hLL8
            cases bb with
            | true =>
              simp only [boolNd, Bool.not_true, Bool.false_eq_true, if_false, if_true] at n1 n2
              go_wp2_with fail
              go_quiet (fail)
              go_wp2
              go_ret
              exact ⟨rfl, ⟨B9.os, B9.tape, B9.output, B9.size, B9.block⟩⟩
            | false =>
              simp only [boolNd, Bool.not_false, Bool.false_eq_true, if_false, if_true] at n1 n2
              go_wp2_with fail
              go_quiet (fail)
              go_wp2
              go_ret
              exact ⟨rfl, ⟨B9.os, B9.tape, B9.output, B9.size, B9.block⟩⟩
        · have g12 : (n == 12) = false := by simp [n12]
          have g12' : decide (n = 12) = false := by simp [n12]
          clear hN
          go_wp2
          go_ret
          exact ⟨rfl, B6⟩
  · obtain ⟨eV, eL⟩ := pd_fail hC
    have q1 : (pdC xs n ls == 0) = false := by simp [hC]
    have q2 : decide (pdC xs n ls = 0) = false := by simp [hC]
    generalize pdC xs n ls = cc at *
    generalize pdV xs n ls = vv at *
    subst eV
    rcases eL with eL | eL
    · generalize pdL xs n ls = LL at *
      subst eL
      go_wp2
      go_ret
      exact ⟨rfl, B6⟩
    · generalize pdL xs n ls = LL at *
      subst eL
      go_wp2
      all_goals
        go_ret
        exact ⟨by first | rfl | (simp [*]; done), B6⟩
end Go.Proofs.Ytjigbjnahndpiaa
