/-
  Texts that stood by themselves, laid into one.
-/
import Derived.Test.YtnhepegkjejfcaaDoorTo2M
import Derived.Test.YtnhepegkjejfcaaDoorIntsM
import Derived.Test.YtnhepegkjejfcaaDoorValM
import Derived.Test.YtnhepegkjejfcaaDoorDRootsM
import Derived.Defers
import Derived.Recover
import Derived.Test.YtnhepegkjejfcaaDoorDrawM
import Derived.Test.YtnhepegkjejfcaaDoorICopy7M
import Derived.Test.YtnhepegkjejfcaaDoorICopy8M
import Derived.Test.YtnhepegkjejfcaaDoorShelfM
import Derived.Test.YtnhepegkjejfcaaDoorISizeM
import Derived.Deep.RegionHeld
/-
  The laws FnExactPoolOk and FnExactNameOk, walked: at every argument the law returns true.
-/
namespace Go.Proofs.YtnhepegkjejfcaaDoor
open Go.RowKit

theorem NRow.small {w : World} {v : Value} {xs : List Nd} (R : NRow w v xs) : ∃ ao cap, v = .slice ao xs.length cap := by
  obtain ⟨ao, cap, rfl, _⟩ := R
  exact ⟨ao, cap, rfl⟩

end Go.Proofs.YtnhepegkjejfcaaDoor

/-
  The contracts of spec.Write and impl.Write. The table of powers of ten reads as it is laid.
-/
namespace Go.Proofs.YtnhepegkjejfcaaDoor
open Go.RowKit

theorem Pow.mono {B B' : Nat} {w : World} (h : Pow B w) (hB : B ≤ B') : Pow B' w := fun w' hb => h w' (hb.mono hB)
theorem nums_tx (l : List UInt8) : strOfNums (l.map fun b => (b.toNat : Int)) = tx l := by
  apply ByteArray.ext
  simp [strOfNums, tx]
  exact (List.map_congr_left (fun b _ => by simp)).trans (List.map_id l)
theorem writeR_out {xs : List Nd} {a : Int} (h : (poolB xs && hasI xs a) = false) : writeR xs a = [] := by unfold writeR; rw [h]; rfl
theorem writeR_in {xs : List Nd} {a : Nat} (hp : poolB xs = true) (ha : a < xs.length) : writeR xs a = if (fullT xs a).length ≤ 400 then fullT xs a else [] := by
  unfold writeR
  rw [hp, Bool.true_and, if_pos (by simp [hasI, ha])]
  rfl

theorem catch_panicking (p : Addr) (x : ByteArray) (u : TypeId) (pv : Value) (older : List PanicEntry) (w : World) (hc : w.cell? p = some (.string x)) (hz : w.frozen? p = false) :
    CallsD Tryd.prog 24 #[.pointer (some p)] (.panicking ({ v := .iface u pv, recovered := false } :: older)) w fun e u' w' =>
      e = .returned (.tuple #[]) ∧ u' = .panicking ({ v := .iface u pv, recovered := true } :: older) ∧ w' = w.setCell p (.string ⟨#[]⟩) := by
  refine callsD_of_wpS Tryd.func24 rfl fun c₀ cs hu => ?_
  apply wpS_seq
  apply wpS_region
  simp [wpOpsS, go_sem, recoverD, hu, Tryd.ntmps24, Exit.thenS]
  refine wpS_cond (t := true) (by simp [Act.eval, Array.replicate]) ?_
  simp only [if_true]
  apply wpS_region
  simp [wpOpsS, go_sem, hc, hz, bodyPostS, results, Tryd.results24]

theorem catch_idle (p : Addr) (w : World) :
    CallsD Tryd.prog 24 #[.pointer (some p)] .returning w fun e u' w' => e = .returned (.tuple #[]) ∧ u' = .returning ∧ w' = w := by
  refine callsD_of_wpS Tryd.func24 rfl fun c₀ cs hu => ?_
  apply wpS_seq
  apply wpS_region
  simp [wpOpsS, go_sem, recoverD, hu, Tryd.ntmps24, Exit.thenS]
  refine wpS_cond (t := false) (by simp [Act.eval, Array.replicate]) ?_
  simp only [Bool.false_eq_true, if_false]
  refine wpS_of_wp (wp_skip ?_)
  cases c₀
  simp_all [bodyPostS, results, Tryd.results24]

set_option maxRecDepth 100000 in
set_option maxHeartbeats 1600000 in
theorem iwrite_any (v : Value) (xs : List Nd) (a : Int) (w : World) (R : NRow w v xs) (hT : Pow w.heap.size w) :
    Calls Tryd.prog 10 #[.agg #[v], .int .i64 a] w fun e w' => e = .returned (.string (tx (writeR xs a))) ∧ Below w.heap.size w w' := by
  have hmf : ∀ (fn : Fn) (first cap : Array Value) (w : World), (Instr.makeFunc fn first cap).run Tryd.prog w = .ok (.func fn first cap) w := fun _ _ _ _ => rfl
  obtain ⟨ao, cap, rfl⟩ := R.small
  have hB0 : Below w.heap.size w ((w.alloc (Obj.cells #[.slice ao xs.length cap] 26)).alloc (Obj.cells #[.string ⟨#[]⟩] 9)) := ((Below.refl _ _).alloc (Nat.le_refl _) _).alloc (by simp) _
  go_enter_defers Tryd.func10, Tryd.ntmps10
  go_wp2_with fail
  refine (ipool_any _ xs _ (R.below hB0)).mono ?_
  rintro e w1 ⟨rfl, hb1⟩
  have hx1 : w1.heap[w.heap.size]? = some (.cells #[.slice ao xs.length cap] 26 (0, 0)) := (hb1.block _ (by simp; omega)).trans ((heap_alloc_old _ _ (by simp)).trans (heap_alloc_new _ _))
  have hy1 : w1.heap[w.heap.size + 1]? = some (.cells #[.string ⟨#[]⟩] 9 (0, 0)) := (hb1.block _ (by simp)).trans (heap_alloc2_new _ _ _)
  have hB1 := hB0.trans (hb1.mono hB0.size)
  have c1 : w1.cell? ⟨w.heap.size, 0, none⟩ = some (.slice ao xs.length cap) := by rw [cell_of_row w1 _ 0 _ _ _ hx1]; rfl
  have t1 : w1.cell? ⟨w.heap.size + 1, 0, none⟩ = some (.string ⟨#[]⟩) := by rw [cell_of_row w1 _ 0 _ _ _ hy1]; rfl
  have f1 : w1.frozen? ⟨w.heap.size + 1, 0, none⟩ = false := frozen_of_row w1 _ 0 _ _ hy1
  clear hB0 hb1
  cases hp : poolB xs with
  | false =>
    have HR : Hid (tx (writeR xs a) = ⟨#[]⟩) := by unfold Hid; rw [writeR_out (by rw [hp]; rfl)]; rfl
    go_wp2_with fail
    have hy2 := heap_setCell_same w1 (w.heap.size + 1) 0 _ _ (.string ⟨#[]⟩) hy1
    have hc2 : (w1.setCell ⟨w.heap.size + 1, 0, none⟩ (.string ⟨#[]⟩)).cell? ⟨w.heap.size + 1, 0, none⟩ = some (.string ⟨#[]⟩) := by rw [cell_of_row _ _ 0 _ _ _ hy2]; rfl
    have hB2 := hB1.setCell (p := ⟨w.heap.size + 1, 0, none⟩) (by simp) (.string ⟨#[]⟩)
    simp [bodyPostD, Leaves, results, Tryd.results10, go_sem, hc2]
    exact ⟨by rw [HR.out], hB2⟩
  | true =>
    go_wp2_with fail
    refine (has_any _ xs _ _ (R.below hB1)).mono ?_
    rintro e w2 ⟨rfl, hb2⟩
    have hx2 := (hb2.block _ (Array.getElem?_eq_some_iff.1 hx1).1).trans hx1
    have hy2 := (hb2.block _ (Array.getElem?_eq_some_iff.1 hy1).1).trans hy1
    have hB2 := hB1.trans (hb2.mono hB1.size)
    have c2 : w2.cell? ⟨w.heap.size, 0, none⟩ = some (.slice ao xs.length cap) := by rw [cell_of_row w2 _ 0 _ _ _ hx2]; rfl
    have t2 : w2.cell? ⟨w.heap.size + 1, 0, none⟩ = some (.string ⟨#[]⟩) := by rw [cell_of_row w2 _ 0 _ _ _ hy2]; rfl
    have f2 : w2.frozen? ⟨w.heap.size + 1, 0, none⟩ = false := frozen_of_row w2 _ 0 _ _ hy2
    clear hB1 hb2 hx1 hy1 c1 t1 f1
    cases ha : hasI xs a with
    | false =>
      have HR : Hid (tx (writeR xs a) = ⟨#[]⟩) := by unfold Hid; rw [writeR_out (by rw [hp, ha]; rfl)]; rfl
      go_wp2_with fail
      have hy3 := heap_setCell_same w2 (w.heap.size + 1) 0 _ _ (.string ⟨#[]⟩) hy2
      have hc3 : (w2.setCell ⟨w.heap.size + 1, 0, none⟩ (.string ⟨#[]⟩)).cell? ⟨w.heap.size + 1, 0, none⟩ = some (.string ⟨#[]⟩) := by rw [cell_of_row _ _ 0 _ _ _ hy3]; rfl
      have hB3 := hB2.setCell (p := ⟨w.heap.size + 1, 0, none⟩) (by simp) (.string ⟨#[]⟩)
      simp [bodyPostD, Leaves, results, Tryd.results10, go_sem, hc3]
      exact ⟨by rw [HR.out], hB3⟩
    | true =>
      simp only [hasI, Bool.and_eq_true, decide_eq_true_eq] at ha
      obtain ⟨n, rfl⟩ := Int.eq_ofNat_of_zero_le ha.1
      have hn : n < xs.length := by omega
      have HR := writeR_in hp hn
      have hB3 : Below w2.heap.size w2 (w2.alloc (Obj.cells #[.slice ao xs.length cap, .slice none 0 0] 52)) := (Below.refl _ _).alloc (Nat.le_refl _) _
      have hBB3 := hB2.trans (hB3.mono hB2.size)
      have hs2 : w.heap.size + 1 < w2.heap.size := (Array.getElem?_eq_some_iff.1 hy2).1
      have S : WS w2.heap.size (w2.heap.size + 1) ao cap xs (w2.alloc (Obj.cells #[.slice ao xs.length cap, .slice none 0 0] 52)) (.slice none 0 0) [] :=
        ⟨⟨heap_alloc_new _ _, ⟨rfl, Or.inl ⟨rfl, rfl⟩⟩⟩, ⟨w, R, by omega, hBB3⟩, (hT.on hBB3).mono (by omega), by simp⟩
      go_wp2_with fail
      refine (wvalue_any w2.heap.size (w2.heap.size + 1) ao cap xs (by omega) hp n hn _ (.slice none 0 0) [] S (by simp)).mono ?_
      rintro e w3 ⟨hF, rfl, hW⟩
      have hy3 := hF.keep (k := w.heap.size + 1) ((heap_alloc_old _ _ hs2).trans hy2) (by omega) (by decide)
      have hBB4 : Below w.heap.size w w3 := hBB3.trans ((hF.below (by simp) (by omega)).mono (by omega))
      have t3 : w3.cell? ⟨w.heap.size + 1, 0, none⟩ = some (.string ⟨#[]⟩) := by rw [cell_of_row w3 _ 0 _ _ _ hy3]; rfl
      have f3 : w3.frozen? ⟨w.heap.size + 1, 0, none⟩ = false := frozen_of_row w3 _ 0 _ _ hy3
      rw [show ([] : List UInt8).length + (fullT xs n).length = (fullT xs n).length by simp] at hW ⊢
      clear S hBB3 hB3 hF c2 t2 f2 hy2 hx2
      by_cases h4 : (fullT xs n).length ≤ 400
      · rw [putEnd_ok h4]
        rw [if_pos h4] at HR
        obtain ⟨b3, hblk, hown⟩ := hW h4
        simp only [List.nil_append] at hown
        obtain ⟨a3, c3, rfl⟩ := own_form hown
        have k1 : w3.cell? ⟨w2.heap.size, 0 + 1, none⟩ = some (.slice a3 (fullT xs n).length c3) := by rw [cell_of_row w3 _ 1 _ _ _ hblk]; rfl
        clear hW
        go_wp2_with (refine wpList_bytes_text _ rfl _ 22 9 5 rfl Tryd.underlying22 Tryd.underlying9 Tryd.underlying5 a3 (fullT xs n).length c3 ((fullT xs n).map fun b => (b.toNat : Int)) rfl (by simp) ?_ ?_)
        · intro hne
          rcases hown.2 with ⟨_, h0⟩ | ⟨g3, cap3, cur3, e3, _⟩
          · exact absurd h0 hne
          · simp only [Value.slice.injEq, true_and] at e3
            obtain ⟨rfl, rfl⟩ := e3
            refine ⟨g3, 0, rfl, fun i hi => ?_⟩
            have := hown.cellAt i (by omega)
            rw [Nat.zero_add, this]
            simp [cb, List.getD, hi]
        · rw [nums_tx]
          have hy4 := heap_setCell_same w3 (w.heap.size + 1) 0 _ _ (.string (tx (fullT xs n))) hy3
          have hc4 : (w3.setCell ⟨w.heap.size + 1, 0, none⟩ (.string (tx (fullT xs n)))).cell? ⟨w.heap.size + 1, 0, none⟩ = some (.string (tx (fullT xs n))) := by rw [cell_of_row _ _ 0 _ _ _ hy4]; rfl
          have hB4 := hBB4.setCell (p := ⟨w.heap.size + 1, 0, none⟩) (by simp) (.string (tx (fullT xs n)))
          refine leaves_cons (f := 24) (args := #[.pointer (some ⟨w.heap.size + 1, 0, none⟩)]) (by simp) (by simp [go_sem]) ?_
          refine (catch_idle ⟨w.heap.size + 1, 0, none⟩ _).mono ?_
          rintro e u' w4 ⟨rfl, rfl, rfl⟩
          simp [Leaves, settle, results, Tryd.results10, go_sem, hc4]
          exact ⟨by rw [HR], hB4⟩
      · rw [putEnd_no h4]
        rw [if_neg h4] at HR
        go_wp2_with fail
        refine leaves_cons (f := 24) (args := #[.pointer (some ⟨w.heap.size + 1, 0, none⟩)]) (by simp) (by simp [go_sem]) ?_
        refine (catch_panicking ⟨w.heap.size + 1, 0, none⟩ _ 94 _ [] _ t3 f3).mono ?_
        rintro e u' w4 ⟨rfl, rfl, rfl⟩
        have hy4 := heap_setCell_same w3 (w.heap.size + 1) 0 _ _ (.string ⟨#[]⟩) hy3
        have hc4 : (w3.setCell ⟨w.heap.size + 1, 0, none⟩ (.string ⟨#[]⟩)).cell? ⟨w.heap.size + 1, 0, none⟩ = some (.string ⟨#[]⟩) := by rw [cell_of_row _ _ 0 _ _ _ hy4]; rfl
        have hB4 := hBB4.setCell (p := ⟨w.heap.size + 1, 0, none⟩) (by simp) (.string ⟨#[]⟩)
        simp [Leaves, settle, results, Tryd.results10, go_sem, hc4]
        exact ⟨by rw [HR]; rfl, hB4⟩
end Go.Proofs.YtnhepegkjejfcaaDoor

/-
  The law FnCopied, walked: at every argument it returns true. The table of powers of ten reads as it is laid.
-/
namespace Go.Proofs.YtnhepegkjejfcaaDoor
open Go.RowKit

set_option maxRecDepth 100000 in
set_option maxHeartbeats 400000 in
theorem fcopied_big (ao : Option Addr) (len cap : Nat) (w : World) (hl : 1048576 < len) (hm : len ≤ 9223372036854775807) :
    Calls Tryd.prog 4 #[.slice ao len cap] w fun e w' => e = .returned (.bool true) ∧ Below w.heap.size w w' := by
  go_enter Tryd.func4, Tryd.ntmps4
  go_wp2_with (go_at_call 5; go_in)
  go_ret
  exact ⟨rfl, Below.refl _ _⟩

theorem node_nneqC (y : Nd) (w : World) : (binOp .neq 40 (.agg #[.int .i64 y.k, .int .i64 y.n, .string y.s, .int .i64 y.a, .int .i64 y.b]) (.agg #[.int .i64 y.k, .int .i64 y.n, .string y.s, .int .i64 y.a, .int .i64 y.b])).run Tryd.prog w = .ok (.bool false) w := by
  simp [go_sem]
theorem boxC {w : World} (v : Value) : Below w.heap.size w (w.alloc (Obj.cells #[v] 26)) ∧ (w.alloc (Obj.cells #[v] 26)).heap[w.heap.size]? = some (.cells #[v] 26 (0, 0)) := ⟨(Below.refl _ _).alloc (Nat.le_refl _) _, heap_alloc_new _ _⟩
theorem stepC {w2 w3 : World} (h : Below w2.drew.heap.size w2.drew w3) : Below w2.heap.size w2 w3 := (Below.refl _ _).drew.trans h
theorem belowC {B : Nat} {w0 w : World} (h : Below B w0 w) (n : Nat) : Below B w0 (w.drewN n) := h.trans ⟨rfl, rfl, rfl, Nat.le_refl _, fun _ _ => rfl⟩

set_option maxRecDepth 100000 in
set_option maxHeartbeats 6400000 in
theorem fcopied_small (ao : Option Addr) (cap : Nat) (zs : List Int) (w : World) (R : Row w (.slice ao zs.length cap) zs) (hl : zs.length ≤ 1048576) (hT : Pow w.heap.size w) :
    Calls Tryd.prog 4 #[.slice ao zs.length cap] w fun e w' => e = .returned (.bool true) ∧ Below w.heap.size w w' := by
  go_enter Tryd.func4, Tryd.ntmps4
  go_wp2_with (go_at_call 5; go_in)
  refine (sdcopy_any _ zs w R hl).mono ?_
  rintro e w1 ⟨v1, v2, ps, xs, a, rfl, hpl, hzp, hxl, hzx, ⟨ha0, ha1⟩, ho1, ho2, b1⟩
  have RP1 := NRow.of_own ho1 (by omega) (fun x hx => Nat.le_trans (hzp x hx) (by unfold maxLen; omega))
  have RX1 := NRow.of_own ho2 (by omega) (fun x hx => Nat.le_trans (hzx x hx) (by unfold maxLen; omega))
  obtain ⟨a1, q1, rfl⟩ := own_form ho1
  obtain ⟨a2, q2, rfl⟩ := own_form ho2
  clear ho1 ho2 R
  have hB1 : Below w1.heap.size w1 ((w1.alloc (Obj.cells #[.slice a1 ps.length q1] 26)).alloc (Obj.cells #[.slice a2 xs.length q2] 26)) := below2 w1 _ _
  have hp1 : ((w1.alloc (Obj.cells #[.slice a1 ps.length q1] 26)).alloc (Obj.cells #[.slice a2 xs.length q2] 26)).heap[w1.heap.size]? = some (.cells #[.slice a1 ps.length q1] 26 (0, 0)) := old2 w1 _ _
  have hx1 : ((w1.alloc (Obj.cells #[.slice a1 ps.length q1] 26)).alloc (Obj.cells #[.slice a2 xs.length q2] 26)).heap[w1.heap.size + 1]? = some (.cells #[.slice a2 xs.length q2] 26 (0, 0)) := heap_alloc2_new _ _ _
  have hzL : ∀ y ∈ cyL ps xs a, y.s.size ≤ maxLen := cyL_max ps xs a (fun x hx => Nat.le_trans (hzp x hx) (by unfold maxLen; omega)) (fun x hx => Nat.le_trans (hzx x hx) (by unfold maxLen; omega))
  have hlL : (cyL ps xs a).length ≤ 10000 := by
    have := mvN_len ps.length xs [a]
    unfold cyL
    split
    · split
      · rw [List.length_append]; omega
      · omega
    · simp
  have HLaw : Hid (0 ≤ cyI ps xs a → (∀ i, i < ps.length → (cyL ps xs a)[i]? = ps[i]?) ∧ ps.length ≤ (cyL ps xs a).length ∧ poolB (cyL ps xs a) = true ∧ writeR (cyL ps xs a) (cyI ps xs a) = writeR xs a ∧ sizeR (cyL ps xs a) (cyI ps xs a) = sizeR xs a) := copy_law ps xs a
  have HNo : Hid (cyI ps xs a < 0 → (cyL ps xs a).length = ps.length ∨ (cyL ps xs a).length = 0) := copy_no ps xs a
  have IC := fun (vp vq : Value) (w : World) (RP : NRow w vp ps) (RX : NRow w vq xs) => icopy7_any vp vq ps xs a w RP RX
  have SC := fun (vp vq : Value) (w : World) (RP : NRow w vp ps) (RX : NRow w vq xs) => scopy7_any vp vq ps xs a w RP RX
  generalize cyL ps xs a = L at *
  generalize cyI ps xs a = ii at *
  clear hzp hzx
  go_wp2_with fail
  generalize hW1 : (w1.alloc (Obj.cells #[Value.slice a1 ps.length q1] 26)).alloc (Obj.cells #[Value.slice a2 xs.length q2] 26) = W1 at hB1 hp1 hx1 ⊢
  have RP := RP1.below hB1
  have RX := RX1.below hB1
  have hbw := b1.trans (hB1.mono b1.size)
  generalize hbp : w1.heap.size = bp at hp1 hx1 ⊢
  clear RP1 RX1 hB1 b1 hW1
  with_reducible refine (IC _ _ _ RP RX).mono ?_
  rintro e w2 ⟨v3, rfl, ho3, hb2⟩
  obtain ⟨a3, q3, rfl⟩ := own_form ho3
  obtain ⟨hB3, hr3⟩ := boxC (w := w2) (.slice a3 L.length q3)
  have RL := (NRow.of_own ho3 (by omega) hzL).below hB3
  have hB23 := hb2.trans (hB3.mono hb2.size)
  generalize hW3 : w2.alloc (Obj.cells #[.slice a3 L.length q3] 26) = W3 at hB3 hr3 RL hB23
  have hp3 := (hB23.block _ (Array.getElem?_eq_some_iff.1 hp1).1).trans hp1
  have hx3 := (hB23.block _ (Array.getElem?_eq_some_iff.1 hx1).1).trans hx1
  replace RP := RP.below hB23
  replace RX := RX.below hB23
  have hbw3 := hbw.trans (hB23.mono hbw.size)
  have cp3 : W3.cell? ⟨bp, 0, none⟩ = some (.slice a1 ps.length q1) := cell_of_row W3 _ 0 _ _ _ hp3
  have cx3 : W3.cell? ⟨bp + 1, 0, none⟩ = some (.slice a2 xs.length q2) := cell_of_row W3 _ 0 _ _ _ hx3
  clear ho3 hb2 hB3 hB23 hp1 hx1 hbw
  go_wp2_with fail
  with_reducible refine (SC _ _ _ RP RX).mono ?_
  rintro e w4 ⟨v5, rfl, ho5, hb4⟩
  obtain ⟨a5, q5, rfl⟩ := own_form ho5
  obtain ⟨hB5, _⟩ := boxC (w := w4) (.slice a5 L.length q5)
  have hB45 := hb4.trans (hB5.mono hb4.size)
  generalize hW5 : w4.alloc (Obj.cells #[.slice a5 L.length q5] 26) = W5 at hB5 hB45
  have hp5 := (hB45.block _ (Array.getElem?_eq_some_iff.1 hp3).1).trans hp3
  have hx5 := (hB45.block _ (Array.getElem?_eq_some_iff.1 hx3).1).trans hx3
  have hr5 := (hB45.block _ (Array.getElem?_eq_some_iff.1 hr3).1).trans hr3
  replace RP := RP.below hB45
  replace RX := RX.below hB45
  replace RL := RL.below hB45
  have hbw5 := hbw3.trans (hB45.mono hbw3.size)
  have cp5 : W5.cell? ⟨bp, 0, none⟩ = some (.slice a1 ps.length q1) := cell_of_row W5 _ 0 _ _ _ hp5
  have cx5 : W5.cell? ⟨bp + 1, 0, none⟩ = some (.slice a2 xs.length q2) := cell_of_row W5 _ 0 _ _ _ hx5
  generalize w2.heap.size = br at *
  have cr5 : W5.cell? ⟨br, 0, none⟩ = some (.slice a3 L.length q3) := cell_of_row W5 _ 0 _ _ _ hr5
  have lp := (Array.getElem?_eq_some_iff.1 hp5).1
  have lx := (Array.getElem?_eq_some_iff.1 hx5).1
  have lr := (Array.getElem?_eq_some_iff.1 hr5).1
  have hT5 : Pow W5.heap.size W5 := (hT.on hbw5).mono hbw5.size
  clear ho5 hb4 hB5 hB45 hp3 hx3 hr3 hbw3 cp3 cx3 IC SC hT
  by_cases hii : ii < 0
  · have h2 := HNo.out hii
    clear HLaw HNo
    rcases h2 with h2 | h2
    · rw [h2] at cr5 hW5
      go_wp2
      go_ret
      exact ⟨rfl, hbw5⟩
    · rw [h2] at cr5 hW5
      by_cases h0 : (0 : Int) = ps.length
      · go_wp2
        go_ret
        exact ⟨rfl, hbw5⟩
      · go_wp2
        go_ret
        exact ⟨rfl, hbw5⟩
  · obtain ⟨hsame, hple, hpL, hW, hZ⟩ := HLaw.out (by omega)
    have HW : Hid (writeR L ii = writeR xs a) := hW
    have HZ : Hid (sizeR L ii = sizeR xs a) := hZ
    have IP := fun (v : Value) (w : World) (R : NRow w v L) => ipool_any v L w R
    rw [hpL] at IP
    clear HLaw HNo hW hZ hpL
    have RP' := RP
    have RL' := RL
    obtain ⟨_, _, e', _, _, _, hcellP⟩ := RP'
    simp only [Value.slice.injEq, true_and] at e'
    obtain ⟨rfl, rfl⟩ := e'
    obtain ⟨_, _, e', _, _, _, hcellL⟩ := RL'
    simp only [Value.slice.injEq, true_and] at e'
    obtain ⟨rfl, rfl⟩ := e'
    go_wp2_with fail
    go_loopw [10] (fun i wr => ∃ (k m : Nat), k ≤ ps.length ∧ i = .int .i64 k ∧ wr = W5.drewN m) (fun i _ => ps.length - (intOf i).toNat)
    case atStart => exact ⟨0, 0, by omega, rfl, rfl⟩
    case round =>
      obtain ⟨k, m, hk, rfl, rfl⟩ := hrel
      by_cases hlt : k < ps.length
      · obtain ⟨y, hy⟩ : ∃ y, ps[k]? = some y := ⟨ps[k], by simp [hlt]⟩
        obtain ⟨gp, op, rfl, hgp, hcellP⟩ := hcellP (by intro e; subst e; simp at hlt)
        obtain ⟨gl, ol, rfl, hgl, hcellL⟩ := hcellL (by intro e; have h9 := congrArg List.length e; rw [List.length_nil] at h9; omega)
        obtain ⟨c0, c1, c2, c3, c4⟩ := hcellP k y hy
        obtain ⟨e0, e1, e2, e3, e4⟩ := hcellL k y ((hsame k hlt).trans hy)
        have hq := node_nneqC y
        have hkL : k < L.length := by omega
        clear hy hsame hcellP hcellL IP
        go_wp2_with fail
        go_quiet (fail)
        go_wp2_with fail
        go_roundw
        case rel => exact ⟨k + 1, _, by omega, by go_num, rfl⟩
        case measure => simp [intOf]; omega
      · have hkx : k = ps.length := by omega
        subst hkx
        clear hcellP hcellL hsame hlt
        generalize hw6 : W5.drewN m = w6
        have hB56 : Below W5.heap.size W5 w6 := by rw [← hw6]; exact belowC (Below.refl _ _) m
        clear hw6
        have hBw6 := hbw5.trans (hB56.mono hbw5.size)
        have RL6 := RL.below hB56
        have RX6 := RX.below hB56
        have hs6 := hB56.size
        have hT6 : Pow w6.heap.size w6 := (hT5.on hB56).mono hB56.size
        have hS : ∀ W' : World, Below w6.heap.size w6 W' → (W'.cell? ⟨bp + 1, 0, none⟩ = some (.slice a2 xs.length q2) ∧ W'.cell? ⟨br, 0, none⟩ = some (.slice a3 L.length q3)) := fun W' hb => ⟨(hb.cell (p := ⟨bp + 1, 0, none⟩) (by show bp + 1 < _; omega)).trans ((hB56.cell (p := ⟨bp + 1, 0, none⟩) lx).trans cx5), (hb.cell (p := ⟨br, 0, none⟩) (by show br < _; omega)).trans ((hB56.cell (p := ⟨br, 0, none⟩) lr).trans cr5)⟩
        obtain ⟨s0, s1⟩ := hS _ (Below.refl _ _)
        have s2 := (hB56.cell (p := ⟨bp, 0, none⟩) lp).trans cp5
        clear cp5 cx5 cr5 hp5 hx5 hr5
        go_wp2_with fail
        go_region_held (fun W' => W'.cell? ⟨bp + 1, 0, none⟩ = some (.slice a2 xs.length q2) ∧ W'.cell? ⟨br, 0, none⟩ = some (.slice a3 L.length q3)) (first | exact S11 | exact S10 | exact S9 | exact S8 | exact S7 | go_keep) (first
          | (go_at_call 12; refine (IP _ _ ?_).mono ?_; exact RL6.below (Below.refl _ _).drew; rintro e w7 ⟨rfl, hb7⟩; have t7 := stepC hb7; have S7 := hS _ t7)
          | (go_at_call_of 10 (Value.int IntKind.i64 ii); refine (iwrite_any _ L ii _ ?_ ?_).mono ?_; exact RL6.below t7; exact (hT6.on t7).mono t7.size; rintro e w8 ⟨rfl, hb8⟩; rw [HW.out]; have t8 := t7.trans (hb8.mono t7.size); have S8 := hS _ t8)
          | (go_at_call_of 10 (Value.int IntKind.i64 a); refine (iwrite_any _ xs a _ ?_ ?_).mono ?_; exact RX6.below t8; exact (hT6.on t8).mono t8.size; rintro e w9 ⟨rfl, hb9⟩; have t9 := t8.trans (hb9.mono t8.size); have S9 := hS _ t9)
          | (go_at_call_of 11 (Value.int IntKind.i64 ii); refine (isize_any _ L ii _ ?_).mono ?_; exact RL6.below t9; rintro e w10 ⟨rfl, hb10⟩; rw [HZ.out]; have t10 := t9.trans (hb10.mono t9.size); have S10 := hS _ t10)
          | (go_at_call_of 11 (Value.int IntKind.i64 a); refine (isize_any _ xs a _ ?_).mono ?_; exact RX6.below t10; rintro e w11 ⟨rfl, hb11⟩; have t11 := t10.trans (hb11.mono t10.size); have S11 := hS _ t11))
        all_goals
          have hBe := hBw6.trans (t11.mono hBw6.size)
          clear hS S7 S8 S9 S10 S11 IP RL6 RX6 t7 t8 t9 t10 t11 hb7 hb8 hb9 hb10 hb11
          go_wp2_with fail
          go_ret
          exact ⟨by simp, hBe⟩
end Go.Proofs.YtnhepegkjejfcaaDoor
