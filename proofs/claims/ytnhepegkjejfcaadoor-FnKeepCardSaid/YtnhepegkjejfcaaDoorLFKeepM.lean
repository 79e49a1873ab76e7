/-
  Texts that stood by themselves, laid into one.
-/
import Derived.Test.YtnhepegkjejfcaaDoorTo2M
import Derived.Test.YtnhepegkjejfcaaDoorIntsM
import Derived.Test.YtnhepegkjejfcaaDoorValM
import Derived.Test.YtnhepegkjejfcaaDoorDRootsM
import Derived.Defers
import Derived.Recover
import Derived.Test.YtnhepegkjejfcaaDoorDraw2M
import Derived.Test.YtnhepegkjejfcaaDoorSClsM
import Derived.Test.YtnhepegkjejfcaaDoorWrM
import Derived.Deep.RegionHeld
/-
  The laws FnExactPoolOk and FnExactNameOk, walked: at every argument the law returns true.
-/
namespace Go.Proofs.YtnhepegkjejfcaaDoor
open Go.RowKit

theorem NRow.small {w : World} {v : Value} {xs : List Nd} (R : NRow w v xs) : ∃ ao cap, v = .slice ao xs.length cap := by
  obtain ⟨ao, cap, rfl, _⟩ := R
  exact ⟨ao, cap, rfl⟩

end Go.Proofs.YtnhepegkjejfcaaDoor

/-
  The contracts of spec.Write and impl.Write. The table of powers of ten reads as it is laid.
-/
namespace Go.Proofs.YtnhepegkjejfcaaDoor
open Go.RowKit

theorem Pow.mono {B B' : Nat} {w : World} (h : Pow B w) (hB : B ≤ B') : Pow B' w := fun w' hb => h w' (hb.mono hB)
theorem nums_tx (l : List UInt8) : strOfNums (l.map fun b => (b.toNat : Int)) = tx l := by
  apply ByteArray.ext
  simp [strOfNums, tx]
  exact (List.map_congr_left (fun b _ => by simp)).trans (List.map_id l)
theorem writeR_out {xs : List Nd} {a : Int} (h : (poolB xs && hasI xs a) = false) : writeR xs a = [] := by unfold writeR; rw [h]; rfl
theorem writeR_in {xs : List Nd} {a : Nat} (hp : poolB xs = true) (ha : a < xs.length) : writeR xs a = if (fullT xs a).length ≤ 400 then fullT xs a else [] := by
  unfold writeR
  rw [hp, Bool.true_and, if_pos (by simp [hasI, ha])]
  rfl

theorem catch_panicking (p : Addr) (x : ByteArray) (u : TypeId) (pv : Value) (older : List PanicEntry) (w : World) (hc : w.cell? p = some (.string x)) (hz : w.frozen? p = false) :
    CallsD Tryd.prog 24 #[.pointer (some p)] (.panicking ({ v := .iface u pv, recovered := false } :: older)) w fun e u' w' =>
      e = .returned (.tuple #[]) ∧ u' = .panicking ({ v := .iface u pv, recovered := true } :: older) ∧ w' = w.setCell p (.string ⟨#[]⟩) := by
  refine callsD_of_wpS Tryd.func24 rfl fun c₀ cs hu => ?_
  apply wpS_seq
  apply wpS_region
  simp [wpOpsS, go_sem, recoverD, hu, Tryd.ntmps24, Exit.thenS]
  refine wpS_cond (t := true) (by simp [Act.eval, Array.replicate]) ?_
  simp only [if_true]
  apply wpS_region
  simp [wpOpsS, go_sem, hc, hz, bodyPostS, results, Tryd.results24]

theorem catch_idle (p : Addr) (w : World) :
    CallsD Tryd.prog 24 #[.pointer (some p)] .returning w fun e u' w' => e = .returned (.tuple #[]) ∧ u' = .returning ∧ w' = w := by
  refine callsD_of_wpS Tryd.func24 rfl fun c₀ cs hu => ?_
  apply wpS_seq
  apply wpS_region
  simp [wpOpsS, go_sem, recoverD, hu, Tryd.ntmps24, Exit.thenS]
  refine wpS_cond (t := false) (by simp [Act.eval, Array.replicate]) ?_
  simp only [Bool.false_eq_true, if_false]
  refine wpS_of_wp (wp_skip ?_)
  cases c₀
  simp_all [bodyPostS, results, Tryd.results24]

set_option maxRecDepth 100000 in
set_option maxHeartbeats 1600000 in
theorem iwrite_any (v : Value) (xs : List Nd) (a : Int) (w : World) (R : NRow w v xs) (hT : Pow w.heap.size w) :
    Calls Tryd.prog 10 #[.agg #[v], .int .i64 a] w fun e w' => e = .returned (.string (tx (writeR xs a))) ∧ Below w.heap.size w w' := by
  have hmf : ∀ (fn : Fn) (first cap : Array Value) (w : World), (Instr.makeFunc fn first cap).run Tryd.prog w = .ok (.func fn first cap) w := fun _ _ _ _ => rfl
  obtain ⟨ao, cap, rfl⟩ := R.small
  have hB0 : Below w.heap.size w ((w.alloc (Obj.cells #[.slice ao xs.length cap] 26)).alloc (Obj.cells #[.string ⟨#[]⟩] 9)) := ((Below.refl _ _).alloc (Nat.le_refl _) _).alloc (by simp) _
  go_enter_defers Tryd.func10, Tryd.ntmps10
  go_wp2_with fail
  refine (ipool_any _ xs _ (R.below hB0)).mono ?_
  rintro e w1 ⟨rfl, hb1⟩
  have hx1 : w1.heap[w.heap.size]? = some (.cells #[.slice ao xs.length cap] 26 (0, 0)) := (hb1.block _ (by simp; omega)).trans ((heap_alloc_old _ _ (by simp)).trans (heap_alloc_new _ _))
  have hy1 : w1.heap[w.heap.size + 1]? = some (.cells #[.string ⟨#[]⟩] 9 (0, 0)) := (hb1.block _ (by simp)).trans (heap_alloc2_new _ _ _)
  have hB1 := hB0.trans (hb1.mono hB0.size)
  have c1 : w1.cell? ⟨w.heap.size, 0, none⟩ = some (.slice ao xs.length cap) := by rw [cell_of_row w1 _ 0 _ _ _ hx1]; rfl
  have t1 : w1.cell? ⟨w.heap.size + 1, 0, none⟩ = some (.string ⟨#[]⟩) := by rw [cell_of_row w1 _ 0 _ _ _ hy1]; rfl
  have f1 : w1.frozen? ⟨w.heap.size + 1, 0, none⟩ = false := frozen_of_row w1 _ 0 _ _ hy1
  clear hB0 hb1
  cases hp : poolB xs with
  | false =>
    have HR : Hid (tx (writeR xs a) = ⟨#[]⟩) := by unfold Hid; rw [writeR_out (by rw [hp]; rfl)]; rfl
    go_wp2_with fail
    have hy2 := heap_setCell_same w1 (w.heap.size + 1) 0 _ _ (.string ⟨#[]⟩) hy1
    have hc2 : (w1.setCell ⟨w.heap.size + 1, 0, none⟩ (.string ⟨#[]⟩)).cell? ⟨w.heap.size + 1, 0, none⟩ = some (.string ⟨#[]⟩) := by rw [cell_of_row _ _ 0 _ _ _ hy2]; rfl
    have hB2 := hB1.setCell (p := ⟨w.heap.size + 1, 0, none⟩) (by simp) (.string ⟨#[]⟩)
    simp [bodyPostD, Leaves, results, Tryd.results10, go_sem, hc2]
    exact ⟨by rw [HR.out], hB2⟩
  | true =>
    go_wp2_with fail
    refine (has_any _ xs _ _ (R.below hB1)).mono ?_
    rintro e w2 ⟨rfl, hb2⟩
    have hx2 := (hb2.block _ (Array.getElem?_eq_some_iff.1 hx1).1).trans hx1
    have hy2 := (hb2.block _ (Array.getElem?_eq_some_iff.1 hy1).1).trans hy1
    have hB2 := hB1.trans (hb2.mono hB1.size)
    have c2 : w2.cell? ⟨w.heap.size, 0, none⟩ = some (.slice ao xs.length cap) := by rw [cell_of_row w2 _ 0 _ _ _ hx2]; rfl
    have t2 : w2.cell? ⟨w.heap.size + 1, 0, none⟩ = some (.string ⟨#[]⟩) := by rw [cell_of_row w2 _ 0 _ _ _ hy2]; rfl
    have f2 : w2.frozen? ⟨w.heap.size + 1, 0, none⟩ = false := frozen_of_row w2 _ 0 _ _ hy2
    clear hB1 hb2 hx1 hy1 c1 t1 f1
    cases ha : hasI xs a with
    | false =>
      have HR : Hid (tx (writeR xs a) = ⟨#[]⟩) := by unfold Hid; rw [writeR_out (by rw [hp, ha]; rfl)]; rfl
      go_wp2_with fail
      have hy3 := heap_setCell_same w2 (w.heap.size + 1) 0 _ _ (.string ⟨#[]⟩) hy2
      have hc3 : (w2.setCell ⟨w.heap.size + 1, 0, none⟩ (.string ⟨#[]⟩)).cell? ⟨w.heap.size + 1, 0, none⟩ = some (.string ⟨#[]⟩) := by rw [cell_of_row _ _ 0 _ _ _ hy3]; rfl
      have hB3 := hB2.setCell (p := ⟨w.heap.size + 1, 0, none⟩) (by simp) (.string ⟨#[]⟩)
      simp [bodyPostD, Leaves, results, Tryd.results10, go_sem, hc3]
      exact ⟨by rw [HR.out], hB3⟩
    | true =>
      simp only [hasI, Bool.and_eq_true, decide_eq_true_eq] at ha
      obtain ⟨n, rfl⟩ := Int.eq_ofNat_of_zero_le ha.1
      have hn : n < xs.length := by omega
      have HR := writeR_in hp hn
      have hB3 : Below w2.heap.size w2 (w2.alloc (Obj.cells #[.slice ao xs.length cap, .slice none 0 0] 52)) := (Below.refl _ _).alloc (Nat.le_refl _) _
      have hBB3 := hB2.trans (hB3.mono hB2.size)
      have hs2 : w.heap.size + 1 < w2.heap.size := (Array.getElem?_eq_some_iff.1 hy2).1
      have S : WS w2.heap.size (w2.heap.size + 1) ao cap xs (w2.alloc (Obj.cells #[.slice ao xs.length cap, .slice none 0 0] 52)) (.slice none 0 0) [] :=
        ⟨⟨heap_alloc_new _ _, ⟨rfl, Or.inl ⟨rfl, rfl⟩⟩⟩, ⟨w, R, by omega, hBB3⟩, (hT.on hBB3).mono (by omega), by simp⟩
      go_wp2_with fail
      refine (wvalue_any w2.heap.size (w2.heap.size + 1) ao cap xs (by omega) hp n hn _ (.slice none 0 0) [] S (by simp)).mono ?_
      rintro e w3 ⟨hF, rfl, hW⟩
      have hy3 := hF.keep (k := w.heap.size + 1) ((heap_alloc_old _ _ hs2).trans hy2) (by omega) (by decide)
      have hBB4 : Below w.heap.size w w3 := hBB3.trans ((hF.below (by simp) (by omega)).mono (by omega))
      have t3 : w3.cell? ⟨w.heap.size + 1, 0, none⟩ = some (.string ⟨#[]⟩) := by rw [cell_of_row w3 _ 0 _ _ _ hy3]; rfl
      have f3 : w3.frozen? ⟨w.heap.size + 1, 0, none⟩ = false := frozen_of_row w3 _ 0 _ _ hy3
      rw [show ([] : List UInt8).length + (fullT xs n).length = (fullT xs n).length by simp] at hW ⊢
      clear S hBB3 hB3 hF c2 t2 f2 hy2 hx2
      by_cases h4 : (fullT xs n).length ≤ 400
      · rw [putEnd_ok h4]
        rw [if_pos h4] at HR
        obtain ⟨b3, hblk, hown⟩ := hW h4
        simp only [List.nil_append] at hown
        obtain ⟨a3, c3, rfl⟩ := own_form hown
        have k1 : w3.cell? ⟨w2.heap.size, 0 + 1, none⟩ = some (.slice a3 (fullT xs n).length c3) := by rw [cell_of_row w3 _ 1 _ _ _ hblk]; rfl
        clear hW
        go_wp2_with (refine wpList_bytes_text _ rfl _ 22 9 5 rfl Tryd.underlying22 Tryd.underlying9 Tryd.underlying5 a3 (fullT xs n).length c3 ((fullT xs n).map fun b => (b.toNat : Int)) rfl (by simp) ?_ ?_)
        · intro hne
          rcases hown.2 with ⟨_, h0⟩ | ⟨g3, cap3, cur3, e3, _⟩
          · exact absurd h0 hne
          · simp only [Value.slice.injEq, true_and] at e3
            obtain ⟨rfl, rfl⟩ := e3
            refine ⟨g3, 0, rfl, fun i hi => ?_⟩
            have := hown.cellAt i (by omega)
            rw [Nat.zero_add, this]
            simp [cb, List.getD, hi]
        · rw [nums_tx]
          have hy4 := heap_setCell_same w3 (w.heap.size + 1) 0 _ _ (.string (tx (fullT xs n))) hy3
          have hc4 : (w3.setCell ⟨w.heap.size + 1, 0, none⟩ (.string (tx (fullT xs n)))).cell? ⟨w.heap.size + 1, 0, none⟩ = some (.string (tx (fullT xs n))) := by rw [cell_of_row _ _ 0 _ _ _ hy4]; rfl
          have hB4 := hBB4.setCell (p := ⟨w.heap.size + 1, 0, none⟩) (by simp) (.string (tx (fullT xs n)))
          refine leaves_cons (f := 24) (args := #[.pointer (some ⟨w.heap.size + 1, 0, none⟩)]) (by simp) (by simp [go_sem]) ?_
          refine (catch_idle ⟨w.heap.size + 1, 0, none⟩ _).mono ?_
          rintro e u' w4 ⟨rfl, rfl, rfl⟩
          simp [Leaves, settle, results, Tryd.results10, go_sem, hc4]
          exact ⟨by rw [HR], hB4⟩
      · rw [putEnd_no h4]
        rw [if_neg h4] at HR
        go_wp2_with fail
        refine leaves_cons (f := 24) (args := #[.pointer (some ⟨w.heap.size + 1, 0, none⟩)]) (by simp) (by simp [go_sem]) ?_
        refine (catch_panicking ⟨w.heap.size + 1, 0, none⟩ _ 94 _ [] _ t3 f3).mono ?_
        rintro e u' w4 ⟨rfl, rfl, rfl⟩
        have hy4 := heap_setCell_same w3 (w.heap.size + 1) 0 _ _ (.string ⟨#[]⟩) hy3
        have hc4 : (w3.setCell ⟨w.heap.size + 1, 0, none⟩ (.string ⟨#[]⟩)).cell? ⟨w.heap.size + 1, 0, none⟩ = some (.string ⟨#[]⟩) := by rw [cell_of_row _ _ 0 _ _ _ hy4]; rfl
        have hB4 := hBB4.setCell (p := ⟨w.heap.size + 1, 0, none⟩) (by simp) (.string ⟨#[]⟩)
        simp [Leaves, settle, results, Tryd.results10, go_sem, hc4]
        exact ⟨by rw [HR]; rfl, hB4⟩
end Go.Proofs.YtnhepegkjejfcaaDoor

/-
  The law FnKeep, walked: at every argument it returns true. The table of powers of ten reads as it is laid.
-/
namespace Go.Proofs.YtnhepegkjejfcaaDoor
open Go.RowKit

set_option maxRecDepth 100000 in
set_option maxHeartbeats 400000 in
theorem fkeep_big (ao : Option Addr) (len cap : Nat) (w : World) (hl : 1048576 < len) (hm : len ≤ 9223372036854775807) :
    Calls Tryd.prog 3 #[.slice ao len cap] w fun e w' => e = .returned (.bool true) ∧ Below w.heap.size w w' := by
  go_enter Tryd.func3, Tryd.ntmps3
  go_wp2_with (go_at_call 5; go_in)
  go_ret
  exact ⟨rfl, Below.refl _ _⟩

theorem box8 {w : World} (v : Value) : Below w.heap.size w (w.alloc (Obj.cells #[v] 26)) ∧ (w.alloc (Obj.cells #[v] 26)).heap[w.heap.size]? = some (.cells #[v] 26 (0, 0)) := ⟨(Below.refl _ _).alloc (Nat.le_refl _) _, heap_alloc_new _ _⟩
theorem stepK {w2 w3 : World} (h : Below w2.drew.heap.size w2.drew w3) : Below w2.heap.size w2 w3 := (Below.refl _ _).drew.trans h
theorem four8 {w w' : World} {b1 b2 g1 g2 o1 o2 : Nat} {u1 u2 u3 u4 : Value} (h : w.cell? ⟨b1, 0, none⟩ = some u1 ∧ w.cell? ⟨b2, 0, none⟩ = some u2 ∧ w.cell? ⟨g1, o1, none⟩ = some u3 ∧ w.cell? ⟨g2, o2, none⟩ = some u4) (hb : Below w.heap.size w w') (h1 : b1 < w.heap.size) (h2 : b2 < w.heap.size) (h3 : g1 < w.heap.size) (h4 : g2 < w.heap.size) :
    w'.cell? ⟨b1, 0, none⟩ = some u1 ∧ w'.cell? ⟨b2, 0, none⟩ = some u2 ∧ w'.cell? ⟨g1, o1, none⟩ = some u3 ∧ w'.cell? ⟨g2, o2, none⟩ = some u4 :=
  ⟨(hb.cell (p := ⟨b1, 0, none⟩) h1).trans h.1, (hb.cell (p := ⟨b2, 0, none⟩) h2).trans h.2.1, (hb.cell (p := ⟨g1, o1, none⟩) h3).trans h.2.2.1, (hb.cell (p := ⟨g2, o2, none⟩) h4).trans h.2.2.2⟩

set_option maxRecDepth 100000 in
set_option maxHeartbeats 6400000 in
theorem fkeep_small (ao : Option Addr) (cap : Nat) (zs : List Int) (w : World) (R : Row w (.slice ao zs.length cap) zs) (hl : zs.length ≤ 1048576) (hT : Pow w.heap.size w) :
    Calls Tryd.prog 3 #[.slice ao zs.length cap] w fun e w' => e = .returned (.bool true) ∧ Below w.heap.size w w' := by
  go_enter Tryd.func3, Tryd.ntmps3
  go_wp2_with (go_at_call 5; go_in)
  refine (sdkeep_any _ zs w R hl).mono ?_
  rintro e w1 ⟨v1, vl, xs, ls, rfl, hxl, hz, hls, ho1, hi1, b1⟩
  have R1 := NRow.of_own ho1 (by omega) (fun x hx => Nat.le_trans (hz x hx) (by unfold maxLen; omega))
  have L1 := IRow.of_own hi1 (by omega)
  obtain ⟨a1, q1, rfl⟩ := own_form ho1
  obtain ⟨al, ql, rfl⟩ := own_form hi1
  obtain ⟨hB1, hx1⟩ := box8 (w := w1) (.slice a1 xs.length q1)
  clear ho1 hz hi1 R
  go_wp2_with fail
  refine (ikeep_any _ _ xs ls _ (R1.below hB1) (L1.below hB1) (by omega)).mono ?_
  rintro e w2 ⟨v2, vn, rfl, ho2, hn2, hb2⟩
  have hKl := keepL_len xs ls
  have hKr := keepR_len xs ls
  obtain ⟨a2, q2, rfl⟩ := own_form ho2
  obtain ⟨an, qn, rfl⟩ := own_form hn2
  have hx2 := (hb2.block _ (Array.getElem?_eq_some_iff.1 hx1).1).trans hx1
  have hB2 := hB1.trans (hb2.mono hB1.size)
  obtain ⟨hB3, hy3⟩ := box8 (w := w2) (.slice a2 (keepL xs ls).length q2)
  have hzQ : ∀ x ∈ keepL xs ls, x.s.size ≤ maxLen := keepL_max xs ls (by obtain ⟨_, _, _, _, _, hz, _⟩ := R1; exact hz)
  have RQ2 := NRow.of_own ho2 (by omega) hzQ
  have N2 := IRow.of_own hn2 (by omega)
  have hx3 := (hB3.block _ (Array.getElem?_eq_some_iff.1 hx2).1).trans hx2
  have hB13 := hB2.trans (hB3.mono hB2.size)
  generalize hW3 : w2.alloc (Obj.cells #[.slice a2 (keepL xs ls).length q2] 26) = W3 at hB3 hy3 hx3 hB13
  have cx3 : W3.cell? ⟨w1.heap.size, 0, none⟩ = some (.slice a1 xs.length q1) := cell_of_row W3 _ 0 _ _ _ hx3
  have RQ3 := RQ2.below hB3
  have N3 := N2.below hB3
  have R3 := R1.below hB13
  have L3 := L1.below hB13
  have hbw3 := b1.trans (hB13.mono b1.size)
  clear hB1 hx1 hb2 hx2 hB2 hB3 ho2 hn2 RQ2 N2 R1 L1 hB13 b1
  go_wp2_with fail
  refine (skeep_any _ _ xs ls _ R3 L3 (by omega)).mono ?_
  rintro e w4 ⟨v4, vm, rfl, ho4, hm4, hb4⟩
  obtain ⟨a4, q4, rfl⟩ := own_form ho4
  obtain ⟨am, qm, rfl⟩ := own_form hm4
  have M4 := IRow.of_own hm4 (by omega)
  obtain ⟨hB5, _⟩ := box8 (w := w4) (.slice a4 (keepL xs ls).length q4)
  have hB35 := hb4.trans (hB5.mono hb4.size)
  generalize hW5 : w4.alloc (Obj.cells #[.slice a4 (keepL xs ls).length q4] 26) = W5 at hB5 hB35
  have M5 := M4.below hB5
  have RQ5 := RQ3.below hB35
  have N5 := N3.below hB35
  have R5 := R3.below hB35
  have L5 := L3.below hB35
  have hx5 := (hB35.block _ (Array.getElem?_eq_some_iff.1 hx3).1).trans hx3
  have hy5 := (hB35.block _ (Array.getElem?_eq_some_iff.1 hy3).1).trans hy3
  have hbw5 := hbw3.trans (hB35.mono hbw3.size)
  clear hb4 hB35 ho4 hm4 M4 RQ3 N3 R3 L3 hx3 hy3 hbw3 cx3 hB5
  go_wp2_with fail
  refine (sameints_any _ _ (keepR xs ls) _ N5 M5).mono ?_
  rintro e w6 ⟨rfl, hb6⟩
  replace RQ5 := RQ5.below hb6
  replace N5 := N5.below hb6
  replace R5 := R5.below hb6
  replace L5 := L5.below hb6
  have hx6 := (hb6.block _ (Array.getElem?_eq_some_iff.1 hx5).1).trans hx5
  have hy6 := (hb6.block _ (Array.getElem?_eq_some_iff.1 hy5).1).trans hy5
  have hbw6 := hbw5.trans (hb6.mono hbw5.size)
  have hT6 : Pow w6.heap.size w6 := (hT.on hbw6).mono hbw6.size
  clear M5 hx5 hy5 hbw5 hb6 hT
  generalize w2.heap.size = bq at *
  generalize w1.heap.size = bp at *
  have cq6 : w6.cell? ⟨bq, 0, none⟩ = some (.slice a2 (keepL xs ls).length q2) := cell_of_row w6 _ 0 _ _ _ hy6
  have hpl := (Array.getElem?_eq_some_iff.1 hx6).1
  have hql := (Array.getElem?_eq_some_iff.1 hy6).1
  by_cases hlen : (keepR xs ls).length = ls.length
  · obtain ⟨hF, hpQ, hLQ, hRQ⟩ := keep_law xs ls hlen
    have IK := fun (v vl : Value) (w : World) (R : NRow w v (keepL xs ls)) (L : IRow w vl (keepR xs ls)) => ikeep_any v vl (keepL xs ls) (keepR xs ls) w R L (by omega)
    have IP := fun (v : Value) (w : World) (R : NRow w v (keepL xs ls)) => ipool_any v (keepL xs ls) w R
    rw [hLQ, hRQ] at IK
    rw [hpQ] at IP
    generalize keepL (keepL xs ls) (keepR xs ls) = QQ at *
    generalize keepL xs ls = Q at *
    generalize keepR xs ls = N at *
    clear hpQ hRQ
    have hNl : N.length ≤ 4 := by omega
    have HLen : Hid (N.length = ls.length) := hlen
    rw [hlen] at N5 ⊢
    clear hlen
    have N5' := N5
    obtain ⟨_, _, eN, hcaN, hmN, hcellN⟩ := N5'
    simp only [Value.slice.injEq] at eN
    obtain ⟨rfl, hxx, rfl⟩ := eN
    clear hxx
    obtain ⟨_, _, eL, hcaL, hmL, hcellL⟩ := L5
    simp only [Value.slice.injEq, true_and] at eL
    obtain ⟨rfl, rfl⟩ := eL
    have cp6 : w6.cell? ⟨bp, 0, none⟩ = some (.slice a1 xs.length q1) := cell_of_row w6 _ 0 _ _ _ hx6
    go_wp2_with fail
    go_loopw [9] (fun i wr => ∃ k : Nat, k ≤ ls.length ∧ i = .int .i64 k ∧ Below w6.heap.size w6 wr) (fun i _ => ls.length - (intOf i).toNat)
    case atStart => exact ⟨0, by omega, rfl, Below.refl _ _⟩
    case round =>
      obtain ⟨k, hk, rfl, hB⟩ := hrel
      have hBr := hbw6.trans (hB.mono hbw6.size)
      have hsz := hB.size
      by_cases hlt : k < ls.length
      · obtain ⟨gn, on, rfl, hgn, hcn⟩ := hcellN (by intro e; have := HLen.out; rw [e] at this; simp at this; omega)
        obtain ⟨gl, ol, rfl, hgl, hcl⟩ := hcellL (by intro e; subst e; simp at hlt)
        obtain ⟨hW, hZ⟩ := hF k (by omega)
        have hS6 : w6.cell? ⟨bp, 0, none⟩ = some (.slice a1 xs.length q1) ∧ w6.cell? ⟨bq, 0, none⟩ = some (.slice a2 Q.length q2) ∧ w6.cell? ⟨gn, on + k, none⟩ = some (.int .i64 (N.getD k 0)) ∧ w6.cell? ⟨gl, ol + k, none⟩ = some (.int .i64 (ls.getD k 0)) := ⟨cp6, cq6, hcn k (by have := HLen.out; omega), hcl k hlt⟩
        generalize N.getD k 0 = z at *
        generalize ls.getD k 0 = y at *
        have HW : Hid (writeR Q z = writeR xs y) := hW
        have HZ : Hid (sizeR Q z = sizeR xs y) := hZ
        have hS := four8 hS6 hB hpl hql hgn hgl
        have Rr := R5.below hB
        have RQr := RQ5.below hB
        have hTr : Pow wr.heap.size wr := (hT6.on hB).mono hB.size
        have l1 : bp < wr.heap.size := by omega
        have l2 : bq < wr.heap.size := by omega
        have l3 : gn < wr.heap.size := by omega
        have l4 : gl < wr.heap.size := by omega
        have tD : Below wr.heap.size wr wr.drew := (Below.refl _ _).drew
        clear hcn hcl hF hW hZ hS6 cp6 cq6 hcellN hcellL
        obtain ⟨h1, h2, h3, h4⟩ := id hS
        go_wp2_with fail
        go_region_held (fun w' => w'.cell? ⟨bp, 0, none⟩ = some (.slice a1 xs.length q1) ∧ w'.cell? ⟨bq, 0, none⟩ = some (.slice a2 Q.length q2) ∧ w'.cell? ⟨gn, on + k, none⟩ = some (.int .i64 z) ∧ w'.cell? ⟨gl, ol + k, none⟩ = some (.int .i64 y)) (first | exact s10 | exact s9 | exact s8 | exact s7 | go_keep) (first
          | (go_at_call_of 10 (Value.int IntKind.i64 z); refine (iwrite_any _ Q z _ ?_ ?_).mono ?_; exact RQr.below tD; exact (hTr.on tD).mono tD.size; rintro e w7 ⟨rfl, hb7⟩; rw [HW.out]; have t7 : Below wr.heap.size wr w7 := stepK hb7; have s7 := four8 hS t7 l1 l2 l3 l4)
          | (go_at_call_of 10 (Value.int IntKind.i64 y); refine (iwrite_any _ xs y _ ?_ ?_).mono ?_; exact Rr.below t7; exact (hTr.on t7).mono t7.size; rintro e w8 ⟨rfl, hb8⟩; have t8 : Below wr.heap.size wr w8 := t7.trans (hb8.mono t7.size); have s8 := four8 hS t8 l1 l2 l3 l4)
          | (go_at_call_of 11 (Value.int IntKind.i64 z); refine (isize_any _ Q z _ ?_).mono ?_; exact RQr.below t8; rintro e w9 ⟨rfl, hb9⟩; rw [HZ.out]; have t9 : Below wr.heap.size wr w9 := t8.trans (hb9.mono t8.size); have s9 := four8 hS t9 l1 l2 l3 l4)
          | (go_at_call_of 11 (Value.int IntKind.i64 y); refine (isize_any _ xs y _ ?_).mono ?_; exact Rr.below t9; rintro e w10 ⟨rfl, hb10⟩; have t10 : Below wr.heap.size wr w10 := t9.trans (hb10.mono t9.size); have s10 := four8 hS t10 l1 l2 l3 l4))
        all_goals
          have hBe := hB.trans (t10.mono hB.size)
          clear s7 s8 s9 s10 h1 h2 h3 h4 t7 t8 t9 t10 hS hb7 hb8 hb9 hb10 tD
          go_wp2
          go_roundw
          case rel => exact ⟨k + 1, by omega, by go_num, hBe⟩
          case measure => simp [intOf]; omega
      · have hke : k = ls.length := by omega
        subst hke
        have c1 := (hB.cell (p := ⟨bp, 0, none⟩) hpl).trans cp6
        have c2 := (hB.cell (p := ⟨bq, 0, none⟩) hql).trans cq6
        have RQr := RQ5.below hB
        have Nr : IRow wr (.slice an ls.length qn) N := N5.below hB
        clear hcellN hcellL hF
        go_wp2_with fail
        with_reducible refine (IK _ _ _ RQr Nr).mono ?_
        rintro e w7 ⟨v7, vr, rfl, ho7, hr7, hb7⟩
        obtain ⟨a7, q7, rfl⟩ := own_form ho7
        have Ng := IRow.of_own hr7 (by omega)
        rw [HLen.out] at hr7
        obtain ⟨ar, qr, rfl⟩ := own_form hr7
        obtain ⟨hB8, hy8⟩ := box8 (w := w7) (.slice a7 Q.length q7)
        have hB78 := hb7.trans (hB8.mono hb7.size)
        generalize hW8 : w7.alloc (Obj.cells #[.slice a7 Q.length q7] 26) = W8 at hB8 hy8 hB78
        have d1 := (hB78.cell (p := ⟨bp, 0, none⟩) (by show bp < _; omega)).trans c1
        have d2 := (hB78.cell (p := ⟨bq, 0, none⟩) (by show bq < _; omega)).trans c2
        have d3 : W8.cell? ⟨w7.heap.size, 0, none⟩ = some (.slice a7 Q.length q7) := cell_of_row W8 _ 0 _ _ _ hy8
        have RQ8 := RQr.below hB78
        have Ng8 := Ng.below hB8
        have Nr8 := Nr.below hB78
        have hB9 := hBr.trans (hB78.mono hBr.size)
        have s1 := hB78.size
        have hl8 : w7.heap.size < W8.heap.size := (Array.getElem?_eq_some_iff.1 hy8).1
        clear c1 c2 ho7 hr7 hb7 Ng Nr RQr hB8 hB78
        go_wp2_with fail
        with_reducible refine (IP _ _ RQ8).mono ?_
        rintro e w9 ⟨rfl, hb9⟩
        have e2 := (hb9.cell (p := ⟨bq, 0, none⟩) (by show bq < _; omega)).trans d2
        have e3 := (hb9.cell (p := ⟨w7.heap.size, 0, none⟩) hl8).trans d3
        have hB10 := hB9.trans (hb9.mono hB9.size)
        clear d1 d2 d3
        go_wp2_with fail
        with_reducible refine (sameints_any _ _ N _ (Ng8.below hb9) (Nr8.below hb9)).mono ?_
        rintro e w10 ⟨rfl, hb10⟩
        have hB11 := hB10.trans (hb10.mono hB10.size)
        go_wp2
        go_ret
        exact ⟨rfl, hB11⟩
  · obtain ⟨e1, e2⟩ := keep_no xs ls hlen
    rw [e2] at hlen
    have hne : ¬ (0 : Int) = ls.length := by simp at hlen; omega
    rw [e1] at cq6
    rw [e2]
    go_wp2_with fail
    go_ret
    exact ⟨rfl, hbw6⟩
end Go.Proofs.YtnhepegkjejfcaaDoor
