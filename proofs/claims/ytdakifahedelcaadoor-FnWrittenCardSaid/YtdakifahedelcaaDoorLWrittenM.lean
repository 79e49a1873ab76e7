/-
  Texts that stood by themselves, laid into one.
-/
import Derived.Test.YtdakifahedelcaaDoorTo2M
import Derived.Test.YtdakifahedelcaaDoorSSizeM
import Derived.Test.YtdakifahedelcaaDoorValM
import Derived.Test.YtdakifahedelcaaDoorListOfM
import Derived.Test.YtdakifahedelcaaDoorBsM
import Derived.Defers
import Derived.Recover
import Derived.Test.YtdakifahedelcaaDoorDWriteM
import Derived.Test.YtdakifahedelcaaDoorWrM
/-
  The laws FnExactPoolOk and FnExactNameOk, walked: at every argument the law returns true.
-/
namespace Go.Proofs.YtdakifahedelcaaDoor
open Go.RowKit

theorem NRow.small {w : World} {v : Value} {xs : List Nd} (R : NRow w v xs) : ∃ ao cap, v = .slice ao xs.length cap := by
  obtain ⟨ao, cap, rfl, _⟩ := R
  exact ⟨ao, cap, rfl⟩

end Go.Proofs.YtdakifahedelcaaDoor

/-
  The contracts of spec.Write and impl.Write. The table of powers of ten reads as it is laid.
-/
namespace Go.Proofs.YtdakifahedelcaaDoor
open Go.RowKit

theorem Pow.mono {B B' : Nat} {w : World} (h : Pow B w) (hB : B ≤ B') : Pow B' w := fun w' hb => h w' (hb.mono hB)
theorem nums_tx (l : List UInt8) : strOfNums (l.map fun b => (b.toNat : Int)) = tx l := by
  apply ByteArray.ext
  simp [strOfNums, tx]
  exact (List.map_congr_left (fun b _ => by simp)).trans (List.map_id l)
theorem writeR_out {xs : List Nd} {a : Int} (h : (poolB xs && hasI xs a) = false) : writeR xs a = [] := by unfold writeR; rw [h]; rfl
theorem writeR_in {xs : List Nd} {a : Nat} (hp : poolB xs = true) (ha : a < xs.length) : writeR xs a = if (fullT xs a).length ≤ 400 then fullT xs a else [] := by
  unfold writeR
  rw [hp, Bool.true_and, if_pos (by simp [hasI, ha])]
  rfl

set_option maxRecDepth 100000 in
set_option maxHeartbeats 1600000 in
theorem swrite_any (v : Value) (xs : List Nd) (a : Int) (w : World) (R : NRow w v xs) :
    Calls Tryd.prog 19 #[.agg #[v], .int .i64 a] w fun e w' => e = .returned (.string (tx (writeR xs a))) ∧ Below w.heap.size w w' := by
  obtain ⟨ao, cap, rfl⟩ := R.small
  have hB0 : Below w.heap.size w (w.alloc (Obj.cells #[.slice ao xs.length cap] 26)) := (Below.refl _ _).alloc (Nat.le_refl _) _
  go_enter Tryd.func19, Tryd.ntmps19
  go_wp2_with fail
  refine (spool_any _ xs _ (R.below hB0)).mono ?_
  rintro e w1 ⟨rfl, hb1⟩
  have hx1 : w1.heap[w.heap.size]? = some (.cells #[.slice ao xs.length cap] 26 (0, 0)) := (hb1.block _ (by simp)).trans (heap_alloc_new _ _)
  have hB1 := hB0.trans (hb1.mono hB0.size)
  have c1 : w1.cell? ⟨w.heap.size, 0, none⟩ = some (.slice ao xs.length cap) := by rw [cell_of_row w1 _ 0 _ _ _ hx1]; rfl
  clear hB0 hb1
  cases hp : poolB xs with
  | false =>
    have HR : Hid (tx (writeR xs a) = ⟨#[]⟩) := by unfold Hid; rw [writeR_out (by rw [hp]; rfl)]; rfl
    go_wp2_with fail
    go_ret
    exact ⟨by rw [HR.out]; rfl, hB1⟩
  | true =>
    go_wp2_with fail
    refine (shas_all _ xs _ _ (R.below hB1)).mono ?_
    rintro e w2 ⟨rfl, hb2⟩
    have hx2 := (hb2.block _ (Array.getElem?_eq_some_iff.1 hx1).1).trans hx1
    have hB2 := hB1.trans (hb2.mono hB1.size)
    have c2 : w2.cell? ⟨w.heap.size, 0, none⟩ = some (.slice ao xs.length cap) := by rw [cell_of_row w2 _ 0 _ _ _ hx2]; rfl
    clear hB1 hb2 hx1 c1
    cases ha : hasI xs a with
    | false =>
      have HR : Hid (tx (writeR xs a) = ⟨#[]⟩) := by unfold Hid; rw [writeR_out (by rw [hp, ha]; rfl)]; rfl
      go_wp2_with fail
      go_ret
      exact ⟨by rw [HR.out]; rfl, hB2⟩
    | true =>
      simp only [hasI, Bool.and_eq_true, decide_eq_true_eq] at ha
      obtain ⟨n, rfl⟩ := Int.eq_ofNat_of_zero_le ha.1
      have hn : n < xs.length := by omega
      have HR := writeR_in hp hn
      have hlen3 : xs.length ≤ 3000 := by simp only [poolB, Bool.and_eq_true, decide_eq_true_eq] at hp; exact hp.1
      go_wp2_with fail
      refine (swrite3_any ao cap xs hp n hn w2 [] (R.below hB2) (by simp)).mono ?_
      rintro e w3 ⟨r, rfl, hW, hb3⟩
      have hB3 := hB2.trans (hb3.mono hB2.size)
      clear hb3 hB2 c2
      obtain ⟨_, h1, h2⟩ := hW.2 (by simp)
      have hsz : (tx r).size = r.length := tx_size r
      by_cases h4 : (fullT xs n).length ≤ 400
      · have e := h1 (by simpa using h4)
        simp at e
        subst e
        have HR' : Hid (writeR xs n = fullT xs n) := by unfold Hid; rw [HR, if_pos h4]
        clear HR h1 h2
        go_wp2_with fail
        go_ret
        exact ⟨by rw [HR'.out]; rfl, hB3⟩
      · have h := h2 (by simp; omega)
        have HR' : Hid (tx (writeR xs n) = ⟨#[]⟩) := by unfold Hid; rw [HR, if_neg h4]; rfl
        clear HR h1 h2
        go_wp2_with fail
        go_ret
        exact ⟨by rw [HR'.out]; rfl, hB3⟩

theorem catch_panicking (p : Addr) (x : ByteArray) (u : TypeId) (pv : Value) (older : List PanicEntry) (w : World) (hc : w.cell? p = some (.string x)) (hz : w.frozen? p = false) :
    CallsD Tryd.prog 40 #[.pointer (some p)] (.panicking ({ v := .iface u pv, recovered := false } :: older)) w fun e u' w' =>
      e = .returned (.tuple #[]) ∧ u' = .panicking ({ v := .iface u pv, recovered := true } :: older) ∧ w' = w.setCell p (.string ⟨#[]⟩) := by
  refine callsD_of_wpS Tryd.func40 rfl fun c₀ cs hu => ?_
  apply wpS_seq
  apply wpS_region
  simp [wpOpsS, go_sem, recoverD, hu, Tryd.ntmps40, Exit.thenS]
  refine wpS_cond (t := true) (by simp [Act.eval, Array.replicate]) ?_
  simp only [if_true]
  apply wpS_region
  simp [wpOpsS, go_sem, hc, hz, bodyPostS, results, Tryd.results40]

theorem catch_idle (p : Addr) (w : World) :
    CallsD Tryd.prog 40 #[.pointer (some p)] .returning w fun e u' w' => e = .returned (.tuple #[]) ∧ u' = .returning ∧ w' = w := by
  refine callsD_of_wpS Tryd.func40 rfl fun c₀ cs hu => ?_
  apply wpS_seq
  apply wpS_region
  simp [wpOpsS, go_sem, recoverD, hu, Tryd.ntmps40, Exit.thenS]
  refine wpS_cond (t := false) (by simp [Act.eval, Array.replicate]) ?_
  simp only [Bool.false_eq_true, if_false]
  refine wpS_of_wp (wp_skip ?_)
  cases c₀
  simp_all [bodyPostS, results, Tryd.results40]

set_option maxRecDepth 100000 in
set_option maxHeartbeats 1600000 in
theorem iwrite_any (v : Value) (xs : List Nd) (a : Int) (w : World) (R : NRow w v xs) (hT : Pow w.heap.size w) :
    Calls Tryd.prog 13 #[.agg #[v], .int .i64 a] w fun e w' => e = .returned (.string (tx (writeR xs a))) ∧ Below w.heap.size w w' := by
  have hmf : ∀ (fn : Fn) (first cap : Array Value) (w : World), (Instr.makeFunc fn first cap).run Tryd.prog w = .ok (.func fn first cap) w := fun _ _ _ _ => rfl
  obtain ⟨ao, cap, rfl⟩ := R.small
  have hB0 : Below w.heap.size w ((w.alloc (Obj.cells #[.slice ao xs.length cap] 26)).alloc (Obj.cells #[.string ⟨#[]⟩] 9)) := ((Below.refl _ _).alloc (Nat.le_refl _) _).alloc (by simp) _
  go_enter_defers Tryd.func13, Tryd.ntmps13
  go_wp2_with fail
  refine (ipool_any _ xs _ (R.below hB0)).mono ?_
  rintro e w1 ⟨rfl, hb1⟩
  have hx1 : w1.heap[w.heap.size]? = some (.cells #[.slice ao xs.length cap] 26 (0, 0)) := (hb1.block _ (by simp; omega)).trans ((heap_alloc_old _ _ (by simp)).trans (heap_alloc_new _ _))
  have hy1 : w1.heap[w.heap.size + 1]? = some (.cells #[.string ⟨#[]⟩] 9 (0, 0)) := (hb1.block _ (by simp)).trans (heap_alloc2_new _ _ _)
  have hB1 := hB0.trans (hb1.mono hB0.size)
  have c1 : w1.cell? ⟨w.heap.size, 0, none⟩ = some (.slice ao xs.length cap) := by rw [cell_of_row w1 _ 0 _ _ _ hx1]; rfl
  have t1 : w1.cell? ⟨w.heap.size + 1, 0, none⟩ = some (.string ⟨#[]⟩) := by rw [cell_of_row w1 _ 0 _ _ _ hy1]; rfl
  have f1 : w1.frozen? ⟨w.heap.size + 1, 0, none⟩ = false := frozen_of_row w1 _ 0 _ _ hy1
  clear hB0 hb1
  cases hp : poolB xs with
  | false =>
    have HR : Hid (tx (writeR xs a) = ⟨#[]⟩) := by unfold Hid; rw [writeR_out (by rw [hp]; rfl)]; rfl
    go_wp2_with fail
    have hy2 := heap_setCell_same w1 (w.heap.size + 1) 0 _ _ (.string ⟨#[]⟩) hy1
    have hc2 : (w1.setCell ⟨w.heap.size + 1, 0, none⟩ (.string ⟨#[]⟩)).cell? ⟨w.heap.size + 1, 0, none⟩ = some (.string ⟨#[]⟩) := by rw [cell_of_row _ _ 0 _ _ _ hy2]; rfl
    have hB2 := hB1.setCell (p := ⟨w.heap.size + 1, 0, none⟩) (by simp) (.string ⟨#[]⟩)
    simp [bodyPostD, Leaves, results, Tryd.results13, go_sem, hc2]
    exact ⟨by rw [HR.out], hB2⟩
  | true =>
    go_wp2_with fail
    refine (has_any _ xs _ _ (R.below hB1)).mono ?_
    rintro e w2 ⟨rfl, hb2⟩
    have hx2 := (hb2.block _ (Array.getElem?_eq_some_iff.1 hx1).1).trans hx1
    have hy2 := (hb2.block _ (Array.getElem?_eq_some_iff.1 hy1).1).trans hy1
    have hB2 := hB1.trans (hb2.mono hB1.size)
    have c2 : w2.cell? ⟨w.heap.size, 0, none⟩ = some (.slice ao xs.length cap) := by rw [cell_of_row w2 _ 0 _ _ _ hx2]; rfl
    have t2 : w2.cell? ⟨w.heap.size + 1, 0, none⟩ = some (.string ⟨#[]⟩) := by rw [cell_of_row w2 _ 0 _ _ _ hy2]; rfl
    have f2 : w2.frozen? ⟨w.heap.size + 1, 0, none⟩ = false := frozen_of_row w2 _ 0 _ _ hy2
    clear hB1 hb2 hx1 hy1 c1 t1 f1
    cases ha : hasI xs a with
    | false =>
      have HR : Hid (tx (writeR xs a) = ⟨#[]⟩) := by unfold Hid; rw [writeR_out (by rw [hp, ha]; rfl)]; rfl
      go_wp2_with fail
      have hy3 := heap_setCell_same w2 (w.heap.size + 1) 0 _ _ (.string ⟨#[]⟩) hy2
      have hc3 : (w2.setCell ⟨w.heap.size + 1, 0, none⟩ (.string ⟨#[]⟩)).cell? ⟨w.heap.size + 1, 0, none⟩ = some (.string ⟨#[]⟩) := by rw [cell_of_row _ _ 0 _ _ _ hy3]; rfl
      have hB3 := hB2.setCell (p := ⟨w.heap.size + 1, 0, none⟩) (by simp) (.string ⟨#[]⟩)
      simp [bodyPostD, Leaves, results, Tryd.results13, go_sem, hc3]
      exact ⟨by rw [HR.out], hB3⟩
    | true =>
      simp only [hasI, Bool.and_eq_true, decide_eq_true_eq] at ha
      obtain ⟨n, rfl⟩ := Int.eq_ofNat_of_zero_le ha.1
      have hn : n < xs.length := by omega
      have HR := writeR_in hp hn
      have hB3 : Below w2.heap.size w2 (w2.alloc (Obj.cells #[.slice ao xs.length cap, .slice none 0 0] 70)) := (Below.refl _ _).alloc (Nat.le_refl _) _
      have hBB3 := hB2.trans (hB3.mono hB2.size)
      have hs2 : w.heap.size + 1 < w2.heap.size := (Array.getElem?_eq_some_iff.1 hy2).1
      have S : WS w2.heap.size (w2.heap.size + 1) ao cap xs (w2.alloc (Obj.cells #[.slice ao xs.length cap, .slice none 0 0] 70)) (.slice none 0 0) [] :=
        ⟨⟨heap_alloc_new _ _, ⟨rfl, Or.inl ⟨rfl, rfl⟩⟩⟩, ⟨w, R, by omega, hBB3⟩, (hT.on hBB3).mono (by omega), by simp⟩
      go_wp2_with fail
      refine (wvalue_any w2.heap.size (w2.heap.size + 1) ao cap xs (by omega) hp n hn _ (.slice none 0 0) [] S (by simp)).mono ?_
      rintro e w3 ⟨hF, rfl, hW⟩
      have hy3 := hF.keep (k := w.heap.size + 1) ((heap_alloc_old _ _ hs2).trans hy2) (by omega) (by decide)
      have hBB4 : Below w.heap.size w w3 := hBB3.trans ((hF.below (by simp) (by omega)).mono (by omega))
      have t3 : w3.cell? ⟨w.heap.size + 1, 0, none⟩ = some (.string ⟨#[]⟩) := by rw [cell_of_row w3 _ 0 _ _ _ hy3]; rfl
      have f3 : w3.frozen? ⟨w.heap.size + 1, 0, none⟩ = false := frozen_of_row w3 _ 0 _ _ hy3
      rw [show ([] : List UInt8).length + (fullT xs n).length = (fullT xs n).length by simp] at hW ⊢
      clear S hBB3 hB3 hF c2 t2 f2 hy2 hx2
      by_cases h4 : (fullT xs n).length ≤ 400
      · rw [putEnd_ok h4]
        rw [if_pos h4] at HR
        obtain ⟨b3, hblk, hown⟩ := hW h4
        simp only [List.nil_append] at hown
        obtain ⟨a3, c3, rfl⟩ := own_form hown
        have k1 : w3.cell? ⟨w2.heap.size, 0 + 1, none⟩ = some (.slice a3 (fullT xs n).length c3) := by rw [cell_of_row w3 _ 1 _ _ _ hblk]; rfl
        clear hW
        go_wp2_with (refine wpList_bytes_text _ rfl _ 22 9 5 rfl Tryd.underlying22 Tryd.underlying9 Tryd.underlying5 a3 (fullT xs n).length c3 ((fullT xs n).map fun b => (b.toNat : Int)) rfl (by simp) ?_ ?_)
        · intro hne
          rcases hown.2 with ⟨_, h0⟩ | ⟨g3, cap3, cur3, e3, _⟩
          · exact absurd h0 hne
          · simp only [Value.slice.injEq, true_and] at e3
            obtain ⟨rfl, rfl⟩ := e3
            refine ⟨g3, 0, rfl, fun i hi => ?_⟩
            have := hown.cellAt i (by omega)
            rw [Nat.zero_add, this]
            simp [cb, List.getD, hi]
        · rw [nums_tx]
          have hy4 := heap_setCell_same w3 (w.heap.size + 1) 0 _ _ (.string (tx (fullT xs n))) hy3
          have hc4 : (w3.setCell ⟨w.heap.size + 1, 0, none⟩ (.string (tx (fullT xs n)))).cell? ⟨w.heap.size + 1, 0, none⟩ = some (.string (tx (fullT xs n))) := by rw [cell_of_row _ _ 0 _ _ _ hy4]; rfl
          have hB4 := hBB4.setCell (p := ⟨w.heap.size + 1, 0, none⟩) (by simp) (.string (tx (fullT xs n)))
          refine leaves_cons (f := 40) (args := #[.pointer (some ⟨w.heap.size + 1, 0, none⟩)]) (by simp) (by simp [go_sem]) ?_
          refine (catch_idle ⟨w.heap.size + 1, 0, none⟩ _).mono ?_
          rintro e u' w4 ⟨rfl, rfl, rfl⟩
          simp [Leaves, settle, results, Tryd.results13, go_sem, hc4]
          exact ⟨by rw [HR], hB4⟩
      · rw [putEnd_no h4]
        rw [if_neg h4] at HR
        go_wp2_with fail
        refine leaves_cons (f := 40) (args := #[.pointer (some ⟨w.heap.size + 1, 0, none⟩)]) (by simp) (by simp [go_sem]) ?_
        refine (catch_panicking ⟨w.heap.size + 1, 0, none⟩ _ 76 _ [] _ t3 f3).mono ?_
        rintro e u' w4 ⟨rfl, rfl, rfl⟩
        have hy4 := heap_setCell_same w3 (w.heap.size + 1) 0 _ _ (.string ⟨#[]⟩) hy3
        have hc4 : (w3.setCell ⟨w.heap.size + 1, 0, none⟩ (.string ⟨#[]⟩)).cell? ⟨w.heap.size + 1, 0, none⟩ = some (.string ⟨#[]⟩) := by rw [cell_of_row _ _ 0 _ _ _ hy4]; rfl
        have hB4 := hBB4.setCell (p := ⟨w.heap.size + 1, 0, none⟩) (by simp) (.string ⟨#[]⟩)
        simp [Leaves, settle, results, Tryd.results13, go_sem, hc4]
        exact ⟨by rw [HR]; rfl, hB4⟩
end Go.Proofs.YtdakifahedelcaaDoor

/-
  The law FnWritten, walked: for every list of bytes it returns true. The table of powers of ten reads as it is laid.
-/
namespace Go.Proofs.YtdakifahedelcaaDoor
open Go.RowKit

theorem written_neat (xs : List Nd) (a : Int) : Neat (writeR xs a) ∧ (writeR xs a).length ≤ 400 := by
  have e0 : Neat [] := ⟨fun k => by simp [dep], rfl, fun i h => by simp at h⟩
  unfold writeR
  split
  · rename_i h
    simp only [Bool.and_eq_true, hasI, decide_eq_true_eq] at h
    obtain ⟨hp, h0, h1⟩ := h
    split
    · rename_i h4
      obtain ⟨⟨B, k⟩, _⟩ := written_ok hp a.toNat (by omega)
      refine ⟨⟨(B 0 (Int.le_refl _)).1, (B 0 (Int.le_refl _)).2, fun i hi => ?_⟩, h4⟩
      have hk := k true []
      rw [List.append_nil] at hk
      have := bk_at (b := true) (l := fullT xs a.toNat) (by rw [hk]; rfl) i hi
      exact ⟨fun e => (Bool.noConfusion (this.1 e)), this.2⟩
    · exact ⟨e0, by simp⟩
  · exact ⟨e0, by simp⟩
theorem dep_bound (l : List UInt8) : ∀ o, o - l.length ≤ dep o l ∧ dep o l ≤ o + l.length := by
  induction l with
  | nil => intro o; simp [dep]
  | cons c l ih =>
    intro o
    have := ih (stepW o c)
    have hs : o - 1 ≤ stepW o c ∧ stepW o c ≤ o + 1 := by
      unfold stepW
      split
      · omega
      · split <;> omega
    simp only [dep, List.length_cons]
    omega
theorem tx_at (l : List UInt8) (k : Nat) (h : k < (tx l).size) : l[k]? = some (tx l)[k] := by
  have hk : k < l.length := by rw [tx_size] at h; exact h
  rw [List.getElem?_eq_getElem hk]
  congr 1

theorem fwritten_big (ao : Option Addr) (len cap : Nat) (w : World) (hl : 1048576 < len) (hm : len ≤ 9223372036854775807) :
    Calls Tryd.prog 5 #[.slice ao len cap] w fun e w' => e = .returned (.bool true) ∧ Below w.heap.size w w' := by
  go_enter Tryd.func5, Tryd.ntmps5
  go_wp2_with (go_at_call 8; go_in)
  go_ret
  exact ⟨rfl, Below.refl _ _⟩

set_option maxRecDepth 100000 in
set_option maxHeartbeats 6400000 in
theorem fwritten_small (ao : Option Addr) (cap : Nat) (zs : List Int) (w : World) (R : Row w (.slice ao zs.length cap) zs) (hl : zs.length ≤ 1048576) (hT : Pow w.heap.size w) :
    Calls Tryd.prog 5 #[.slice ao zs.length cap] w fun e w' => e = .returned (.bool true) ∧ Below w.heap.size w w' := by
  go_enter Tryd.func5, Tryd.ntmps5
  go_wp2_with (go_at_call 8; go_in)
  refine (dwrite_any _ zs w R hl).mono ?_
  rintro e w1 ⟨v1, xs, a, rfl, hxl, hz, ho1, b1⟩
  have R1 := NRow.of_own ho1 (by omega) (fun x hx => Nat.le_trans (hz x hx) (by unfold maxLen; omega))
  obtain ⟨a1, q1, rfl⟩ := own_form ho1
  have hB2 : Below w1.heap.size w1 (w1.alloc (Obj.cells #[.slice a1 xs.length q1] 26)) := (Below.refl _ _).alloc (Nat.le_refl _) _
  have R2 := R1.below hB2
  have hq2 : (w1.alloc (Obj.cells #[.slice a1 xs.length q1] 26)).heap[w1.heap.size]? = some (.cells #[.slice a1 xs.length q1] 26 (0, 0)) := heap_alloc_new _ _
  have hBB2 := b1.trans (hB2.mono b1.size)
  clear ho1 R1 hz b1 hB2
  go_wp2_with fail
  generalize w1.alloc (Obj.cells #[.slice a1 xs.length q1] 26) = w2 at *
  generalize w1.heap.size = q at *
  have hql := (Array.getElem?_eq_some_iff.1 hq2).1
  refine (iwrite_any _ xs a _ R2 ((hT.on hBB2).mono hBB2.size)).mono ?_
  rintro e w3 ⟨rfl, hb3⟩
  have hq3 := (hb3.block _ hql).trans hq2
  have c3 : w3.cell? ⟨q, 0, none⟩ = some (.slice a1 xs.length q1) := cell_of_row w3 _ 0 _ _ _ hq3
  have R3 := R2.below hb3
  have hBB3 := hBB2.trans (hb3.mono hBB2.size)
  clear hq2 R2 hb3 hBB2
  go_wp2_with fail
  refine (swrite_any _ xs a _ R3).mono ?_
  rintro e w4 ⟨rfl, hb4⟩
  have hBB4 := hBB3.trans (hb4.mono hBB3.size)
  clear hq3 R3 hb4 hBB3 c3 hT R
  obtain ⟨hN, hlen⟩ := written_neat xs a
  generalize writeR xs a = l at *
  have hsz : (tx l).size = l.length := tx_size l
  have HA : Hid (∀ k (h : k < (tx l).size), l[k]? = some (tx l)[k]) := tx_at l
  generalize tx l = s at *
  have hs4 : s.size ≤ 400 := by omega
  have HN : Hid (Neat l) := hN
  have HL : Hid (s.size = l.length) := hsz
  clear hN hsz hlen
  go_wp2_with fail
  go_loopw [6, 7] (fun o i wr => ∃ k : Nat, k ≤ s.size ∧ i = .int .i64 k ∧ o = .int .i64 (dep 0 (l.take k)) ∧ wr = w4) (fun _ i _ => s.size - (intOf i).toNat)
  case atStart => exact ⟨0, by omega, rfl, by simp [dep], rfl⟩
  case round =>
    obtain ⟨k, hk, rfl, rfl, rfl⟩ := hrel
    have hd0 := HN.out.open_ k
    have hd1 := (dep_bound (l.take k) 0).2
    have hd2 : (l.take k).length ≤ k := by simp; omega
    by_cases hlt : k < s.size
    · have hat := HA.out k hlt
      have HS : Hid (dep 0 (l.take (k + 1)) = stepW (dep 0 (l.take k)) s[k]) := dep_take hat
      have hn0 := HN.out.open_ (k + 1)
      rw [HS.out] at hn0
      generalize dep 0 (l.take k) = d at *
      have hd4 : d ≤ 400 := by omega
      clear hd1 hd2
      by_cases h40 : s[k] = 40
      · have e40 : (s[k].toNat : Int) = 40 := by rw [h40]; rfl
        have HS2 : Hid (dep 0 (l.take (k + 1)) = d + 1) := by unfold Hid; rw [HS.out, h40]; rfl
        have hd5 : ¬ d + 1 < 0 := by omega
        clear hat HS hn0 h40
        go_wp2_with fail
        go_roundw
        case rel => exact ⟨k + 1, by omega, by go_num, by rw [HS2.out], trivial⟩
        case measure => simp [intOf]; omega
      · have e40 : ¬ (s[k].toNat : Int) = 40 := fun e => h40 (UInt8.toNat_inj.1 (by show _ = 40; omega))
        by_cases h41 : s[k] = 41
        · have e41 : (s[k].toNat : Int) = 41 := by rw [h41]; rfl
          have HS2 : Hid (dep 0 (l.take (k + 1)) = d - 1) := by unfold Hid; rw [HS.out, h41]; rfl
          rw [h41] at hn0
          have hd5 : ¬ d - 1 < 0 := by have : stepW d 41 = d - 1 := rfl; omega
          clear hat HS hn0 h41 h40 e40
          go_wp2_with fail
          go_roundw
          case rel => exact ⟨k + 1, by omega, by go_num, by rw [HS2.out], trivial⟩
          case measure => simp [intOf]; omega
        · have e41 : ¬ (s[k].toNat : Int) = 41 := fun e => h41 (UInt8.toNat_inj.1 (by show _ = 41; omega))
          have HS2 : Hid (dep 0 (l.take (k + 1)) = d) := by unfold Hid; rw [HS.out]; simp [stepW, h40, h41]
          have hd5 : ¬ d < 0 := by omega
          by_cases h32 : s[k] = 32
          · have e32 : (s[k].toNat : Int) = 32 := by rw [h32]; rfl
            rw [h32] at hat
            obtain ⟨hk0, c, hc, hc32⟩ := HN.out.blank k hat
            have hk1 : k + 1 < s.size := by have := (List.getElem?_eq_some_iff.1 hc).1; have := HL.out; omega
            have hcc := HA.out (k + 1) hk1
            rw [hc] at hcc
            have e33 : ¬ (s[k + 1].toNat : Int) = 32 := fun e => hc32 (by rw [Option.some.inj hcc]; exact UInt8.toNat_inj.1 (by show _ = 32; omega))
            have hk0' : ¬ (k : Int) = 0 := by omega
            have hk1' : ¬ (k : Int) + 1 = s.size := by omega
            have b1 : ((k : Int) == 0) = false := by simpa using hk0'
            have b2 : ((k : Int) + 1 == (s.size : Int)) = false := by simpa using hk1'
            have b3 : ((s[k + 1].toNat : Int) == 32) = false := by simpa using e33
            clear hat HS hn0 h41 h40 e40 e41 h32 hc hcc hc32
            go_wp2_with fail
            go_roundw
            case rel => exact ⟨k + 1, by omega, by go_num, by rw [HS2.out], trivial⟩
            case measure => simp [intOf]; omega
          · have e32 : ¬ (s[k].toNat : Int) = 32 := fun e => h32 (UInt8.toNat_inj.1 (by show _ = 32; omega))
            clear hat HS hn0 h41 h40 h32
            go_wp2_with fail
            go_roundw
            case rel => exact ⟨k + 1, by omega, by go_num, by rw [HS2.out], trivial⟩
            case measure => simp [intOf]; omega
    · have hd : dep 0 (l.take k) = 0 := by
        rw [List.take_of_length_le (by have := HL.out; omega)]
        exact HN.out.done
      rw [hd]
      go_wp2_with fail
      go_ret
      exact ⟨by simp; omega, hBB4⟩
end Go.Proofs.YtdakifahedelcaaDoor
