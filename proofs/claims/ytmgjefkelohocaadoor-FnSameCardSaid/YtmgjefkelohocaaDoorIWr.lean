/-
  The contracts of spec.Write and impl.Write. The table of powers of ten reads as it is laid.
-/
import Derived.Test.YtmgjefkelohocaaDoorVal
import Derived.Test.YtmgjefkelohocaaDoorListOf
import Derived.Test.YtmgjefkelohocaaDoorLPoolOk
import Derived.Test.YtmgjefkelohocaaDoorBs
import Derived.Defers
import Derived.Recover
namespace Go.Proofs.YtmgjefkelohocaaDoor
open Go.RowKit

theorem Pow.mono {B B' : Nat} {w : World} (h : Pow B w) (hB : B ≤ B') : Pow B' w := fun w' hb => h w' (hb.mono hB)
theorem nums_tx (l : List UInt8) : strOfNums (l.map fun b => (b.toNat : Int)) = tx l := by
  apply ByteArray.ext
  simp [strOfNums, tx]
  exact (List.map_congr_left (fun b _ => by simp)).trans (List.map_id l)
theorem writeR_out {xs : List Nd} {a : Int} (h : (poolB xs && hasI xs a) = false) : writeR xs a = [] := by unfold writeR; rw [h]; rfl
theorem writeR_in {xs : List Nd} {a : Nat} (hp : poolB xs = true) (ha : a < xs.length) : writeR xs a = if (fullT xs a).length ≤ 400 then fullT xs a else [] := by
  unfold writeR
  rw [hp, Bool.true_and, if_pos (by simp [hasI, ha])]
  rfl

set_option maxRecDepth 100000 in
set_option maxHeartbeats 1600000 in
theorem swrite_any (v : Value) (xs : List Nd) (a : Int) (w : World) (R : NRow w v xs) :
    Calls Tryd.prog 19 #[.agg #[v], .int .i64 a] w fun e w' => e = .returned (.string (tx (writeR xs a))) ∧ Below w.heap.size w w' := by
  obtain ⟨ao, cap, rfl⟩ := R.small
  have hB0 : Below w.heap.size w (w.alloc (Obj.cells #[.slice ao xs.length cap] 26)) := (Below.refl _ _).alloc (Nat.le_refl _) _
  go_enter Tryd.func19, Tryd.ntmps19
  go_wp2_with fail
  refine (spool_any _ xs _ (R.below hB0)).mono ?_
  rintro e w1 ⟨rfl, hb1⟩
  have hx1 : w1.heap[w.heap.size]? = some (.cells #[.slice ao xs.length cap] 26 (0, 0)) := (hb1.block _ (by simp)).trans (heap_alloc_new _ _)
  have hB1 := hB0.trans (hb1.mono hB0.size)
  have c1 : w1.cell? ⟨w.heap.size, 0, none⟩ = some (.slice ao xs.length cap) := by rw [cell_of_row w1 _ 0 _ _ _ hx1]; rfl
  clear hB0 hb1
  cases hp : poolB xs with
  | false =>
    have HR : Hid (tx (writeR xs a) = ⟨#[]⟩) := by unfold Hid; rw [writeR_out (by rw [hp]; rfl)]; rfl
    go_wp2_with fail
    go_ret
    exact ⟨by rw [HR.out]; rfl, hB1⟩
  | true =>
    go_wp2_with fail
    refine (shas_all _ xs _ _ (R.below hB1)).mono ?_
    rintro e w2 ⟨rfl, hb2⟩
    have hx2 := (hb2.block _ (Array.getElem?_eq_some_iff.1 hx1).1).trans hx1
    have hB2 := hB1.trans (hb2.mono hB1.size)
    have c2 : w2.cell? ⟨w.heap.size, 0, none⟩ = some (.slice ao xs.length cap) := by rw [cell_of_row w2 _ 0 _ _ _ hx2]; rfl
    clear hB1 hb2 hx1 c1
    cases ha : hasI xs a with
    | false =>
      have HR : Hid (tx (writeR xs a) = ⟨#[]⟩) := by unfold Hid; rw [writeR_out (by rw [hp, ha]; rfl)]; rfl
      go_wp2_with fail
      go_ret
      exact ⟨by rw [HR.out]; rfl, hB2⟩
    | true =>
      simp only [hasI, Bool.and_eq_true, decide_eq_true_eq] at ha
      obtain ⟨n, rfl⟩ := Int.eq_ofNat_of_zero_le ha.1
      have hn : n < xs.length := by omega
      have HR := writeR_in hp hn
      have hlen3 : xs.length ≤ 3000 := by simp only [poolB, Bool.and_eq_true, decide_eq_true_eq] at hp; exact hp.1
      go_wp2_with fail
      refine (swrite3_any ao cap xs hp n hn w2 [] (R.below hB2) (by simp)).mono ?_
      rintro e w3 ⟨r, rfl, hW, hb3⟩
      have hB3 := hB2.trans (hb3.mono hB2.size)
      clear hb3 hB2 c2
      obtain ⟨_, h1, h2⟩ := hW.2 (by simp)
      have hsz : (tx r).size = r.length := tx_size r
      by_cases h4 : (fullT xs n).length ≤ 400
      · have e := h1 (by simpa using h4)
        simp at e
        subst e
        have HR' : Hid (writeR xs n = fullT xs n) := by unfold Hid; rw [HR, if_pos h4]
        clear HR h1 h2
        go_wp2_with fail
        go_ret
        exact ⟨by rw [HR'.out]; rfl, hB3⟩
      · have h := h2 (by simp; omega)
        have HR' : Hid (tx (writeR xs n) = ⟨#[]⟩) := by unfold Hid; rw [HR, if_neg h4]; rfl
        clear HR h1 h2
        go_wp2_with fail
        go_ret
        exact ⟨by rw [HR'.out]; rfl, hB3⟩

theorem catch_panicking (p : Addr) (x : ByteArray) (u : TypeId) (pv : Value) (older : List PanicEntry) (w : World) (hc : w.cell? p = some (.string x)) (hz : w.frozen? p = false) :
    CallsD Tryd.prog 40 #[.pointer (some p)] (.panicking ({ v := .iface u pv, recovered := false } :: older)) w fun e u' w' =>
      e = .returned (.tuple #[]) ∧ u' = .panicking ({ v := .iface u pv, recovered := true } :: older) ∧ w' = w.setCell p (.string ⟨#[]⟩) := by
  refine callsD_of_wpS Tryd.func40 rfl fun c₀ cs hu => ?_
  apply wpS_seq
  apply wpS_region
  simp [wpOpsS, go_sem, recoverD, hu, Tryd.ntmps40, Exit.thenS]
  refine wpS_cond (t := true) (by simp [Act.eval, Array.replicate]) ?_
  simp only [if_true]
  apply wpS_region
  simp [wpOpsS, go_sem, hc, hz, bodyPostS, results, Tryd.results40]

theorem catch_idle (p : Addr) (w : World) :
    CallsD Tryd.prog 40 #[.pointer (some p)] .returning w fun e u' w' => e = .returned (.tuple #[]) ∧ u' = .returning ∧ w' = w := by
  refine callsD_of_wpS Tryd.func40 rfl fun c₀ cs hu => ?_
  apply wpS_seq
  apply wpS_region
  simp [wpOpsS, go_sem, recoverD, hu, Tryd.ntmps40, Exit.thenS]
  refine wpS_cond (t := false) (by simp [Act.eval, Array.replicate]) ?_
  simp only [Bool.false_eq_true, if_false]
  refine wpS_of_wp (wp_skip ?_)
  cases c₀
  simp_all [bodyPostS, results, Tryd.results40]

set_option maxRecDepth 100000 in
set_option maxHeartbeats 1600000 in
theorem iwrite_any (v : Value) (xs : List Nd) (a : Int) (w : World) (R : NRow w v xs) (hT : Pow w.heap.size w) :
    Calls Tryd.prog 13 #[.agg #[v], .int .i64 a] w fun e w' => e = .returned (.string (tx (writeR xs a))) ∧ Below w.heap.size w w' := by
  have hmf : ∀ (fn : Fn) (first cap : Array Value) (w : World), (Instr.makeFunc fn first cap).run Tryd.prog w = .ok (.func fn first cap) w := fun _ _ _ _ => rfl
  obtain ⟨ao, cap, rfl⟩ := R.small
  have hB0 : Below w.heap.size w ((w.alloc (Obj.cells #[.slice ao xs.length cap] 26)).alloc (Obj.cells #[.string ⟨#[]⟩] 9)) := ((Below.refl _ _).alloc (Nat.le_refl _) _).alloc (by simp) _
  go_enter_defers Tryd.func13, Tryd.ntmps13
  go_wp2_with fail
  refine (ipool_any _ xs _ (R.below hB0)).mono ?_
  rintro e w1 ⟨rfl, hb1⟩
  have hx1 : w1.heap[w.heap.size]? = some (.cells #[.slice ao xs.length cap] 26 (0, 0)) := (hb1.block _ (by simp; omega)).trans ((heap_alloc_old _ _ (by simp)).trans (heap_alloc_new _ _))
  have hy1 : w1.heap[w.heap.size + 1]? = some (.cells #[.string ⟨#[]⟩] 9 (0, 0)) := (hb1.block _ (by simp)).trans (heap_alloc2_new _ _ _)
  have hB1 := hB0.trans (hb1.mono hB0.size)
  have c1 : w1.cell? ⟨w.heap.size, 0, none⟩ = some (.slice ao xs.length cap) := by rw [cell_of_row w1 _ 0 _ _ _ hx1]; rfl
  have t1 : w1.cell? ⟨w.heap.size + 1, 0, none⟩ = some (.string ⟨#[]⟩) := by rw [cell_of_row w1 _ 0 _ _ _ hy1]; rfl
  have f1 : w1.frozen? ⟨w.heap.size + 1, 0, none⟩ = false := frozen_of_row w1 _ 0 _ _ hy1
  clear hB0 hb1
  cases hp : poolB xs with
  | false =>
    have HR : Hid (tx (writeR xs a) = ⟨#[]⟩) := by unfold Hid; rw [writeR_out (by rw [hp]; rfl)]; rfl
    go_wp2_with fail
    have hy2 := heap_setCell_same w1 (w.heap.size + 1) 0 _ _ (.string ⟨#[]⟩) hy1
    have hc2 : (w1.setCell ⟨w.heap.size + 1, 0, none⟩ (.string ⟨#[]⟩)).cell? ⟨w.heap.size + 1, 0, none⟩ = some (.string ⟨#[]⟩) := by rw [cell_of_row _ _ 0 _ _ _ hy2]; rfl
    have hB2 := hB1.setCell (p := ⟨w.heap.size + 1, 0, none⟩) (by simp) (.string ⟨#[]⟩)
    simp [bodyPostD, Leaves, results, Tryd.results13, go_sem, hc2]
    exact ⟨by rw [HR.out], hB2⟩
  | true =>
    go_wp2_with fail
    refine (has_any _ xs _ _ (R.below hB1)).mono ?_
    rintro e w2 ⟨rfl, hb2⟩
    have hx2 := (hb2.block _ (Array.getElem?_eq_some_iff.1 hx1).1).trans hx1
    have hy2 := (hb2.block _ (Array.getElem?_eq_some_iff.1 hy1).1).trans hy1
    have hB2 := hB1.trans (hb2.mono hB1.size)
    have c2 : w2.cell? ⟨w.heap.size, 0, none⟩ = some (.slice ao xs.length cap) := by rw [cell_of_row w2 _ 0 _ _ _ hx2]; rfl
    have t2 : w2.cell? ⟨w.heap.size + 1, 0, none⟩ = some (.string ⟨#[]⟩) := by rw [cell_of_row w2 _ 0 _ _ _ hy2]; rfl
    have f2 : w2.frozen? ⟨w.heap.size + 1, 0, none⟩ = false := frozen_of_row w2 _ 0 _ _ hy2
    clear hB1 hb2 hx1 hy1 c1 t1 f1
    cases ha : hasI xs a with
    | false =>
      have HR : Hid (tx (writeR xs a) = ⟨#[]⟩) := by unfold Hid; rw [writeR_out (by rw [hp, ha]; rfl)]; rfl
      go_wp2_with fail
      have hy3 := heap_setCell_same w2 (w.heap.size + 1) 0 _ _ (.string ⟨#[]⟩) hy2
      have hc3 : (w2.setCell ⟨w.heap.size + 1, 0, none⟩ (.string ⟨#[]⟩)).cell? ⟨w.heap.size + 1, 0, none⟩ = some (.string ⟨#[]⟩) := by rw [cell_of_row _ _ 0 _ _ _ hy3]; rfl
      have hB3 := hB2.setCell (p := ⟨w.heap.size + 1, 0, none⟩) (by simp) (.string ⟨#[]⟩)
      simp [bodyPostD, Leaves, results, Tryd.results13, go_sem, hc3]
      exact ⟨by rw [HR.out], hB3⟩
    | true =>
      simp only [hasI, Bool.and_eq_true, decide_eq_true_eq] at ha
      obtain ⟨n, rfl⟩ := Int.eq_ofNat_of_zero_le ha.1
      have hn : n < xs.length := by omega
      have HR := writeR_in hp hn
      have hB3 : Below w2.heap.size w2 (w2.alloc (Obj.cells #[.slice ao xs.length cap, .slice none 0 0] 70)) := (Below.refl _ _).alloc (Nat.le_refl _) _
      have hBB3 := hB2.trans (hB3.mono hB2.size)
      have hs2 : w.heap.size + 1 < w2.heap.size := (Array.getElem?_eq_some_iff.1 hy2).1
      have S : WS w2.heap.size (w2.heap.size + 1) ao cap xs (w2.alloc (Obj.cells #[.slice ao xs.length cap, .slice none 0 0] 70)) (.slice none 0 0) [] :=
        ⟨⟨heap_alloc_new _ _, ⟨rfl, Or.inl ⟨rfl, rfl⟩⟩⟩, ⟨w, R, by omega, hBB3⟩, (hT.on hBB3).mono (by omega), by simp⟩
      go_wp2_with fail
      refine (wvalue_any w2.heap.size (w2.heap.size + 1) ao cap xs (by omega) hp n hn _ (.slice none 0 0) [] S (by simp)).mono ?_
      rintro e w3 ⟨hF, rfl, hW⟩
      have hy3 := hF.keep (k := w.heap.size + 1) ((heap_alloc_old _ _ hs2).trans hy2) (by omega) (by decide)
      have hBB4 : Below w.heap.size w w3 := hBB3.trans ((hF.below (by simp) (by omega)).mono (by omega))
      have t3 : w3.cell? ⟨w.heap.size + 1, 0, none⟩ = some (.string ⟨#[]⟩) := by rw [cell_of_row w3 _ 0 _ _ _ hy3]; rfl
      have f3 : w3.frozen? ⟨w.heap.size + 1, 0, none⟩ = false := frozen_of_row w3 _ 0 _ _ hy3
      rw [show ([] : List UInt8).length + (fullT xs n).length = (fullT xs n).length by simp] at hW ⊢
      clear S hBB3 hB3 hF c2 t2 f2 hy2 hx2
      by_cases h4 : (fullT xs n).length ≤ 400
      · rw [putEnd_ok h4]
        rw [if_pos h4] at HR
        obtain ⟨b3, hblk, hown⟩ := hW h4
        simp only [List.nil_append] at hown
        obtain ⟨a3, c3, rfl⟩ := own_form hown
        have k1 : w3.cell? ⟨w2.heap.size, 0 + 1, none⟩ = some (.slice a3 (fullT xs n).length c3) := by rw [cell_of_row w3 _ 1 _ _ _ hblk]; rfl
        clear hW
        go_wp2_with (refine wpList_bytes_text _ rfl _ 22 9 5 rfl Tryd.underlying22 Tryd.underlying9 Tryd.underlying5 a3 (fullT xs n).length c3 ((fullT xs n).map fun b => (b.toNat : Int)) rfl (by simp) ?_ ?_)
        · intro hne
          rcases hown.2 with ⟨_, h0⟩ | ⟨g3, cap3, cur3, e3, _⟩
          · exact absurd h0 hne
          · simp only [Value.slice.injEq, true_and] at e3
            obtain ⟨rfl, rfl⟩ := e3
            refine ⟨g3, 0, rfl, fun i hi => ?_⟩
            have := hown.cellAt i (by omega)
            rw [Nat.zero_add, this]
            simp [cb, List.getD, hi]
        · rw [nums_tx]
          have hy4 := heap_setCell_same w3 (w.heap.size + 1) 0 _ _ (.string (tx (fullT xs n))) hy3
          have hc4 : (w3.setCell ⟨w.heap.size + 1, 0, none⟩ (.string (tx (fullT xs n)))).cell? ⟨w.heap.size + 1, 0, none⟩ = some (.string (tx (fullT xs n))) := by rw [cell_of_row _ _ 0 _ _ _ hy4]; rfl
          have hB4 := hBB4.setCell (p := ⟨w.heap.size + 1, 0, none⟩) (by simp) (.string (tx (fullT xs n)))
          refine leaves_cons (f := 40) (args := #[.pointer (some ⟨w.heap.size + 1, 0, none⟩)]) (by simp) (by simp [go_sem]) ?_
          refine (catch_idle ⟨w.heap.size + 1, 0, none⟩ _).mono ?_
          rintro e u' w4 ⟨rfl, rfl, rfl⟩
          simp [Leaves, settle, results, Tryd.results13, go_sem, hc4]
          exact ⟨by rw [HR], hB4⟩
      · rw [putEnd_no h4]
        rw [if_neg h4] at HR
        go_wp2_with fail
        refine leaves_cons (f := 40) (args := #[.pointer (some ⟨w.heap.size + 1, 0, none⟩)]) (by simp) (by simp [go_sem]) ?_
        refine (catch_panicking ⟨w.heap.size + 1, 0, none⟩ _ 76 _ [] _ t3 f3).mono ?_
        rintro e u' w4 ⟨rfl, rfl, rfl⟩
        have hy4 := heap_setCell_same w3 (w.heap.size + 1) 0 _ _ (.string ⟨#[]⟩) hy3
        have hc4 : (w3.setCell ⟨w.heap.size + 1, 0, none⟩ (.string ⟨#[]⟩)).cell? ⟨w.heap.size + 1, 0, none⟩ = some (.string ⟨#[]⟩) := by rw [cell_of_row _ _ 0 _ _ _ hy4]; rfl
        have hB4 := hBB4.setCell (p := ⟨w.heap.size + 1, 0, none⟩) (by simp) (.string ⟨#[]⟩)
        simp [Leaves, settle, results, Tryd.results13, go_sem, hc4]
        exact ⟨by rw [HR]; rfl, hB4⟩
end Go.Proofs.YtmgjefkelohocaaDoor
