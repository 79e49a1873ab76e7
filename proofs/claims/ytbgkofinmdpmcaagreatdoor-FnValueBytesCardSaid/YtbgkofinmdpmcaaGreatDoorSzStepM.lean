/-
  Texts that stood by themselves, laid into one.
-/
import Derived.Test.YtbgkofinmdpmcaaGreatDoorTo2M
import Derived.Test.YtbgkofinmdpmcaaGreatDoorSNodeM
import Derived.Test.YtbgkofinmdpmcaaGreatDoorValM
import Derived.Test.YtbgkofinmdpmcaaGreatDoorFirstsM
import Derived.Test.YtbgkofinmdpmcaaGreatDoorDVrM
import Derived.Defers
import Derived.Recover
import Derived.Test.YtbgkofinmdpmcaaGreatDoorSWr2M
/-
  The laws FnExactPoolOk and FnExactNameOk, walked: at every argument the law returns true.
-/
namespace Go.Proofs.YtbgkofinmdpmcaaGreatDoor
open Go.RowKit

theorem NRow.small {w : World} {v : Value} {xs : List Nd} (R : NRow w v xs) : ∃ ao cap, v = .slice ao xs.length cap := by
  obtain ⟨ao, cap, rfl, _⟩ := R
  exact ⟨ao, cap, rfl⟩

end Go.Proofs.YtbgkofinmdpmcaaGreatDoor

/-
  The contracts of spec.Write and impl.Write. The table of powers of ten reads as it is laid.
-/
namespace Go.Proofs.YtbgkofinmdpmcaaGreatDoor
open Go.RowKit

theorem Pow.mono {B B' : Nat} {w : World} (h : Pow B w) (hB : B ≤ B') : Pow B' w := fun w' hb => h w' (hb.mono hB)
theorem nums_tx (l : List UInt8) : strOfNums (l.map fun b => (b.toNat : Int)) = tx l := by
  apply ByteArray.ext
  simp [strOfNums, tx]
  exact (List.map_congr_left (fun b _ => by simp)).trans (List.map_id l)
theorem writeR_out {xs : List Nd} {a : Int} (h : (poolB xs && hasI xs a) = false) : writeR xs a = [] := by unfold writeR; rw [h]; rfl
theorem writeR_in {xs : List Nd} {a : Nat} (hp : poolB xs = true) (ha : a < xs.length) : writeR xs a = if (fullT xs a).length ≤ 400 then fullT xs a else [] := by
  unfold writeR
  rw [hp, Bool.true_and, if_pos (by simp [hasI, ha])]
  rfl

theorem catch_panicking (p : Addr) (x : ByteArray) (u : TypeId) (pv : Value) (older : List PanicEntry) (w : World) (hc : w.cell? p = some (.string x)) (hz : w.frozen? p = false) :
    CallsD Tryz.prog 27 #[.pointer (some p)] (.panicking ({ v := .iface u pv, recovered := false } :: older)) w fun e u' w' =>
      e = .returned (.tuple #[]) ∧ u' = .panicking ({ v := .iface u pv, recovered := true } :: older) ∧ w' = w.setCell p (.string ⟨#[]⟩) := by
  refine callsD_of_wpS Tryz.func27 rfl fun c₀ cs hu => ?_
  apply wpS_seq
  apply wpS_region
  simp [wpOpsS, go_sem, recoverD, hu, Tryz.ntmps27, Exit.thenS]
  refine wpS_cond (t := true) (by simp [Act.eval, Array.replicate]) ?_
  simp only [if_true]
  apply wpS_region
  simp [wpOpsS, go_sem, hc, hz, bodyPostS, results, Tryz.results27]

theorem catch_idle (p : Addr) (w : World) :
    CallsD Tryz.prog 27 #[.pointer (some p)] .returning w fun e u' w' => e = .returned (.tuple #[]) ∧ u' = .returning ∧ w' = w := by
  refine callsD_of_wpS Tryz.func27 rfl fun c₀ cs hu => ?_
  apply wpS_seq
  apply wpS_region
  simp [wpOpsS, go_sem, recoverD, hu, Tryz.ntmps27, Exit.thenS]
  refine wpS_cond (t := false) (by simp [Act.eval, Array.replicate]) ?_
  simp only [Bool.false_eq_true, if_false]
  refine wpS_of_wp (wp_skip ?_)
  cases c₀
  simp_all [bodyPostS, results, Tryz.results27]

set_option maxRecDepth 100000 in
set_option maxHeartbeats 1600000 in
theorem iwrite_any (v : Value) (xs : List Nd) (a : Int) (w : World) (R : NRow w v xs) (hT : Pow w.heap.size w) :
    Calls Tryz.prog 9 #[.agg #[v], .int .i64 a] w fun e w' => e = .returned (.string (tx (writeR xs a))) ∧ Below w.heap.size w w' := by
  have hmf : ∀ (fn : Fn) (first cap : Array Value) (w : World), (Instr.makeFunc fn first cap).run Tryz.prog w = .ok (.func fn first cap) w := fun _ _ _ _ => rfl
  obtain ⟨ao, cap, rfl⟩ := R.small
  have hB0 : Below w.heap.size w ((w.alloc (Obj.cells #[.slice ao xs.length cap] 26)).alloc (Obj.cells #[.string ⟨#[]⟩] 9)) := ((Below.refl _ _).alloc (Nat.le_refl _) _).alloc (by simp) _
  go_enter_defers Tryz.func9, Tryz.ntmps9
  go_wp2_with fail
  refine (ipool_any _ xs _ (R.below hB0)).mono ?_
  rintro e w1 ⟨rfl, hb1⟩
  have hx1 : w1.heap[w.heap.size]? = some (.cells #[.slice ao xs.length cap] 26 (0, 0)) := (hb1.block _ (by simp; omega)).trans ((heap_alloc_old _ _ (by simp)).trans (heap_alloc_new _ _))
  have hy1 : w1.heap[w.heap.size + 1]? = some (.cells #[.string ⟨#[]⟩] 9 (0, 0)) := (hb1.block _ (by simp)).trans (heap_alloc2_new _ _ _)
  have hB1 := hB0.trans (hb1.mono hB0.size)
  have c1 : w1.cell? ⟨w.heap.size, 0, none⟩ = some (.slice ao xs.length cap) := by rw [cell_of_row w1 _ 0 _ _ _ hx1]; rfl
  have t1 : w1.cell? ⟨w.heap.size + 1, 0, none⟩ = some (.string ⟨#[]⟩) := by rw [cell_of_row w1 _ 0 _ _ _ hy1]; rfl
  have f1 : w1.frozen? ⟨w.heap.size + 1, 0, none⟩ = false := frozen_of_row w1 _ 0 _ _ hy1
  clear hB0 hb1
  cases hp : poolB xs with
  | false =>
    have HR : Hid (tx (writeR xs a) = ⟨#[]⟩) := by unfold Hid; rw [writeR_out (by rw [hp]; rfl)]; rfl
    go_wp2_with fail
    have hy2 := heap_setCell_same w1 (w.heap.size + 1) 0 _ _ (.string ⟨#[]⟩) hy1
    have hc2 : (w1.setCell ⟨w.heap.size + 1, 0, none⟩ (.string ⟨#[]⟩)).cell? ⟨w.heap.size + 1, 0, none⟩ = some (.string ⟨#[]⟩) := by rw [cell_of_row _ _ 0 _ _ _ hy2]; rfl
    have hB2 := hB1.setCell (p := ⟨w.heap.size + 1, 0, none⟩) (by simp) (.string ⟨#[]⟩)
    simp [bodyPostD, Leaves, results, Tryz.results9, go_sem, hc2]
    exact ⟨by rw [HR.out], hB2⟩
  | true =>
    go_wp2_with fail
    refine (has_any _ xs _ _ (R.below hB1)).mono ?_
    rintro e w2 ⟨rfl, hb2⟩
    have hx2 := (hb2.block _ (Array.getElem?_eq_some_iff.1 hx1).1).trans hx1
    have hy2 := (hb2.block _ (Array.getElem?_eq_some_iff.1 hy1).1).trans hy1
    have hB2 := hB1.trans (hb2.mono hB1.size)
    have c2 : w2.cell? ⟨w.heap.size, 0, none⟩ = some (.slice ao xs.length cap) := by rw [cell_of_row w2 _ 0 _ _ _ hx2]; rfl
    have t2 : w2.cell? ⟨w.heap.size + 1, 0, none⟩ = some (.string ⟨#[]⟩) := by rw [cell_of_row w2 _ 0 _ _ _ hy2]; rfl
    have f2 : w2.frozen? ⟨w.heap.size + 1, 0, none⟩ = false := frozen_of_row w2 _ 0 _ _ hy2
    clear hB1 hb2 hx1 hy1 c1 t1 f1
    cases ha : hasI xs a with
    | false =>
      have HR : Hid (tx (writeR xs a) = ⟨#[]⟩) := by unfold Hid; rw [writeR_out (by rw [hp, ha]; rfl)]; rfl
      go_wp2_with fail
      have hy3 := heap_setCell_same w2 (w.heap.size + 1) 0 _ _ (.string ⟨#[]⟩) hy2
      have hc3 : (w2.setCell ⟨w.heap.size + 1, 0, none⟩ (.string ⟨#[]⟩)).cell? ⟨w.heap.size + 1, 0, none⟩ = some (.string ⟨#[]⟩) := by rw [cell_of_row _ _ 0 _ _ _ hy3]; rfl
      have hB3 := hB2.setCell (p := ⟨w.heap.size + 1, 0, none⟩) (by simp) (.string ⟨#[]⟩)
      simp [bodyPostD, Leaves, results, Tryz.results9, go_sem, hc3]
      exact ⟨by rw [HR.out], hB3⟩
    | true =>
      simp only [hasI, Bool.and_eq_true, decide_eq_true_eq] at ha
      obtain ⟨n, rfl⟩ := Int.eq_ofNat_of_zero_le ha.1
      have hn : n < xs.length := by omega
      have HR := writeR_in hp hn
      have hB3 : Below w2.heap.size w2 (w2.alloc (Obj.cells #[.slice ao xs.length cap, .slice none 0 0] 61)) := (Below.refl _ _).alloc (Nat.le_refl _) _
      have hBB3 := hB2.trans (hB3.mono hB2.size)
      have hs2 : w.heap.size + 1 < w2.heap.size := (Array.getElem?_eq_some_iff.1 hy2).1
      have S : WS w2.heap.size (w2.heap.size + 1) ao cap xs (w2.alloc (Obj.cells #[.slice ao xs.length cap, .slice none 0 0] 61)) (.slice none 0 0) [] :=
        ⟨⟨heap_alloc_new _ _, ⟨rfl, Or.inl ⟨rfl, rfl⟩⟩⟩, ⟨w, R, by omega, hBB3⟩, (hT.on hBB3).mono (by omega), by simp⟩
      go_wp2_with fail
      refine (wvalue_any w2.heap.size (w2.heap.size + 1) ao cap xs (by omega) hp n hn _ (.slice none 0 0) [] S (by simp)).mono ?_
      rintro e w3 ⟨hF, rfl, hW⟩
      have hy3 := hF.keep (k := w.heap.size + 1) ((heap_alloc_old _ _ hs2).trans hy2) (by omega) (by decide)
      have hBB4 : Below w.heap.size w w3 := hBB3.trans ((hF.below (by simp) (by omega)).mono (by omega))
      have t3 : w3.cell? ⟨w.heap.size + 1, 0, none⟩ = some (.string ⟨#[]⟩) := by rw [cell_of_row w3 _ 0 _ _ _ hy3]; rfl
      have f3 : w3.frozen? ⟨w.heap.size + 1, 0, none⟩ = false := frozen_of_row w3 _ 0 _ _ hy3
      rw [show ([] : List UInt8).length + (fullT xs n).length = (fullT xs n).length by simp] at hW ⊢
      clear S hBB3 hB3 hF c2 t2 f2 hy2 hx2
      by_cases h4 : (fullT xs n).length ≤ 400
      · rw [putEnd_ok h4]
        rw [if_pos h4] at HR
        obtain ⟨b3, hblk, hown⟩ := hW h4
        simp only [List.nil_append] at hown
        obtain ⟨a3, c3, rfl⟩ := own_form hown
        have k1 : w3.cell? ⟨w2.heap.size, 0 + 1, none⟩ = some (.slice a3 (fullT xs n).length c3) := by rw [cell_of_row w3 _ 1 _ _ _ hblk]; rfl
        clear hW
        go_wp2_with (refine wpList_bytes_text _ rfl _ 22 9 5 rfl Tryz.underlying22 Tryz.underlying9 Tryz.underlying5 a3 (fullT xs n).length c3 ((fullT xs n).map fun b => (b.toNat : Int)) rfl (by simp) ?_ ?_)
        · intro hne
          rcases hown.2 with ⟨_, h0⟩ | ⟨g3, cap3, cur3, e3, _⟩
          · exact absurd h0 hne
          · simp only [Value.slice.injEq, true_and] at e3
            obtain ⟨rfl, rfl⟩ := e3
            refine ⟨g3, 0, rfl, fun i hi => ?_⟩
            have := hown.cellAt i (by omega)
            rw [Nat.zero_add, this]
            simp [cb, List.getD, hi]
        · rw [nums_tx]
          have hy4 := heap_setCell_same w3 (w.heap.size + 1) 0 _ _ (.string (tx (fullT xs n))) hy3
          have hc4 : (w3.setCell ⟨w.heap.size + 1, 0, none⟩ (.string (tx (fullT xs n)))).cell? ⟨w.heap.size + 1, 0, none⟩ = some (.string (tx (fullT xs n))) := by rw [cell_of_row _ _ 0 _ _ _ hy4]; rfl
          have hB4 := hBB4.setCell (p := ⟨w.heap.size + 1, 0, none⟩) (by simp) (.string (tx (fullT xs n)))
          refine leaves_cons (f := 27) (args := #[.pointer (some ⟨w.heap.size + 1, 0, none⟩)]) (by simp) (by simp [go_sem]) ?_
          refine (catch_idle ⟨w.heap.size + 1, 0, none⟩ _).mono ?_
          rintro e u' w4 ⟨rfl, rfl, rfl⟩
          simp [Leaves, settle, results, Tryz.results9, go_sem, hc4]
          exact ⟨by rw [HR], hB4⟩
      · rw [putEnd_no h4]
        rw [if_neg h4] at HR
        go_wp2_with fail
        refine leaves_cons (f := 27) (args := #[.pointer (some ⟨w.heap.size + 1, 0, none⟩)]) (by simp) (by simp [go_sem]) ?_
        refine (catch_panicking ⟨w.heap.size + 1, 0, none⟩ _ 140 _ [] _ t3 f3).mono ?_
        rintro e u' w4 ⟨rfl, rfl, rfl⟩
        have hy4 := heap_setCell_same w3 (w.heap.size + 1) 0 _ _ (.string ⟨#[]⟩) hy3
        have hc4 : (w3.setCell ⟨w.heap.size + 1, 0, none⟩ (.string ⟨#[]⟩)).cell? ⟨w.heap.size + 1, 0, none⟩ = some (.string ⟨#[]⟩) := by rw [cell_of_row _ _ 0 _ _ _ hy4]; rfl
        have hB4 := hBB4.setCell (p := ⟨w.heap.size + 1, 0, none⟩) (by simp) (.string ⟨#[]⟩)
        simp [Leaves, settle, results, Tryz.results9, go_sem, hc4]
        exact ⟨by rw [HR]; rfl, hB4⟩
end Go.Proofs.YtbgkofinmdpmcaaGreatDoor

/-
  Contract of impl.Same.
-/
namespace Go.Proofs.YtbgkofinmdpmcaaGreatDoor
open Go.RowKit Go.Maps

theorem cls_prefix (b ks : List Nd) (fs : List Int) (i : Nat) (h : i < fs.length) : (cls b ks fs).2.getD i 0 = fs.getD i 0 := by
  induction b generalizing ks fs with
  | nil => rfl
  | cons y b ih =>
    simp only [cls]
    rw [ih _ _ (by simp; omega)]
    simp only [List.getD_eq_getElem?_getD]
    rw [List.getElem?_append_left h]
theorem firstsTo_prefix (xs : List Nd) (k i : Nat) (hk : k ≤ xs.length) (hi : i < k) : (firstsTo xs xs.length).getD i 0 = (firstsTo xs k).getD i 0 := by
  have hl := firstsTo_length xs k hk
  have e : firstsTo xs xs.length = (cls (xs.drop k) (keysTo xs k) (firstsTo xs k)).2 := by
    unfold firstsTo keysTo
    rw [List.take_length, ← cls_append, List.take_append_drop]
  rw [e]
  exact cls_prefix _ _ _ i (by omega)
theorem firstsTo_take (xs : List Nd) (n : Nat) : firstsTo (xs.take n) (xs.take n).length = firstsTo xs n := by
  unfold firstsTo
  rw [List.take_length]
theorem NRow.take {w : World} {ao : Option Addr} {cap : Nat} {xs : List Nd} (R : NRow w (.slice ao xs.length cap) xs) (n : Nat) (h : n ≤ xs.length) : NRow w (.slice ao (xs.take n).length cap) (xs.take n) := by
  obtain ⟨ao', cap', e', ⟨h1, h2⟩, hm, hz, hcell⟩ := R
  simp only [Value.slice.injEq, true_and] at e'
  obtain ⟨rfl, rfl⟩ := e'
  have hl : (xs.take n).length = n := by simp; omega
  refine ⟨ao, cap, rfl, ⟨by omega, h2⟩, by omega, fun x hx => hz x (List.mem_of_mem_take hx), fun hne => ?_⟩
  obtain ⟨g, o, e, hg, hc⟩ := hcell (by intro e; subst e; simp at hne)
  refine ⟨g, o, e, hg, fun i x hi => hc i x ?_⟩
  rw [List.getElem?_take] at hi
  split at hi
  · exact hi
  · cases hi

/-- What Same answers. -/
noncomputable def sameR (xs : List Nd) (a b : Int) : Bool := poolB xs && hasI xs a && hasI xs b && ((firstsTo xs xs.length).getD a.toNat 0 == (firstsTo xs xs.length).getD b.toNat 0)

/-- The same of two nodes of a pool that is right. -/
noncomputable def likeR (xs : List Nd) (a b : Int) : Bool := (firstsTo xs xs.length).getD a.toNat 0 == (firstsTo xs xs.length).getD b.toNat 0
theorem sameR_like {xs : List Nd} {a b : Int} (hp : poolB xs = true) (ha : hasI xs a = true) (hb : hasI xs b = true) : sameR xs a b = likeR xs a b := by
  unfold sameR likeR
  rw [hp, ha, hb]
  simp

end Go.Proofs.YtbgkofinmdpmcaaGreatDoor

/-
  What is alike is as great, and written alike: plain mathematics. Nothing of the program; no condition.
-/
namespace Go.Proofs.YtbgkofinmdpmcaaGreatDoor
open Go.RowKit

theorem sizeR_bounds (xs : List Nd) (a : Int) : 0 ≤ sizeR xs a ∧ sizeR xs a ≤ 1000000000 := by
  unfold sizeR
  split
  · exact getD_mem_bounds _ _ (sizesTo_bounds xs xs.length)
  · omega
theorem sizeR_step (xs : List Nd) (a : Nat) (x : Nd) (hp : poolB xs = true) (hx : xs[a]? = some x) :
    sizeR xs a = min (1 + (if hasA x.k then sizeR xs x.a else 0) + (if hasB x.k then sizeR xs x.b else 0)) 1000000000 := by
  have hl : a < xs.length := (List.getElem?_eq_some_iff.1 hx).1
  have hnb := poolB_at hp hx
  have e : sizeR xs a = szN (sizesTo xs a) x := by
    unfold sizeR
    rw [hp, show hasI xs a = true by unfold hasI; simp [hl], Bool.and_self, if_pos rfl, Int.toNat_natCast, sizesTo_prefix xs (a + 1) a (by omega) (by omega), sizesTo_succ xs a x hx]
    have := sizesTo_length xs a (by omega)
    simp only [List.getD_eq_getElem?_getD]
    rw [List.getElem?_append_right (by omega), this]
    simp
  rw [e]
  unfold szN szA szB
  have part : ∀ q : Int, 0 ≤ q → q < a → sizeR xs q = (sizesTo xs a).getD q.toNat 0 := fun q h0 h1 => by
    obtain ⟨m, rfl⟩ := Int.eq_ofNat_of_zero_le h0
    unfold sizeR
    rw [hp, show hasI xs (m : Nat) = true by unfold hasI; simp; omega, Bool.and_self, if_pos rfl, Int.toNat_natCast, sizesTo_prefix xs a m (by omega) (by omega)]
  cases hA : hasA x.k with
  | false =>
    cases hB : hasB x.k with
    | false => rfl
    | true => have := nodeB_B hnb hB; rw [part x.b this.1 this.2]; rfl
  | true =>
    have h1 := nodeB_A hnb hA
    rw [part x.a h1.1 h1.2]
    cases hB : hasB x.k with
    | false => rfl
    | true => have := nodeB_B hnb hB; rw [part x.b this.1 this.2]


noncomputable def fst (xs : List Nd) (a : Nat) : Int := (firstsTo xs xs.length).getD a 0
/-- The node a with its parts' first ones. -/
noncomputable def keyAt (xs : List Nd) (a : Nat) : Nd := (keysTo xs xs.length).getD a ⟨0, 0, ByteArray.empty, 0, 0⟩

theorem keysTo_prefix (xs : List Nd) (k i : Nat) (hk : k ≤ xs.length) (hi : i < k) : (keysTo xs xs.length)[i]? = (keysTo xs k)[i]? := by
  induction h : xs.length - k generalizing k with
  | zero => rw [show k = xs.length by omega]
  | succ m ih =>
    have hx : xs[k]? = some xs[k] := List.getElem?_eq_getElem (by omega)
    rw [ih (k + 1) (by omega) (by omega) (by omega), keysTo_succ xs k _ hx, List.getElem?_append_left (by rw [keysTo_length xs k hk]; exact hi)]
theorem firsts_at (xs : List Nd) (a : Nat) (x : Nd) (hx : xs[a]? = some x) : fst xs a = ((idx (keysTo xs a) (nrm (firstsTo xs a) x) : Nat) : Int) := by
  have hl := (List.getElem?_eq_some_iff.1 hx).1
  unfold fst
  rw [firstsTo_prefix xs (a + 1) a (by omega) (by omega), firstsTo_succ xs a x hx]
  have := firstsTo_length xs a (by omega)
  simp only [List.getD_eq_getElem?_getD]
  rw [List.getElem?_append_right (by omega), this]
  simp
theorem idx_get (ks : List Nd) (y : Nd) (h : idx ks y < ks.length) : ks[idx ks y]? = some y := by
  induction ks with
  | nil => simp at h
  | cons k ks ih =>
    simp only [idx] at h ⊢
    split
    · rename_i e; simp [e]
    · rename_i e
      rw [if_neg e] at h
      simp only [List.length_cons] at h
      simpa using ih (by omega)
/-- The node's own key stands at its first one's place. -/
theorem key_first (xs : List Nd) (a : Nat) (x : Nd) (hx : xs[a]? = some x) : (keysTo xs xs.length)[(fst xs a).toNat]? = some (nrm (firstsTo xs a) x) := by
  have hl := (List.getElem?_eq_some_iff.1 hx).1
  have hk := keysTo_length xs a (by omega)
  rw [firsts_at xs a x hx, Int.toNat_natCast]
  by_cases h : idx (keysTo xs a) (nrm (firstsTo xs a) x) < a
  · rw [keysTo_prefix xs a _ (by omega) h]
    exact idx_get _ _ (by omega)
  · have e : idx (keysTo xs a) (nrm (firstsTo xs a) x) = a := by have := idx_le (keysTo xs a) (nrm (firstsTo xs a) x); omega
    rw [e, keysTo_prefix xs (a + 1) a (by omega) (by omega), keysTo_succ xs a x hx, List.getElem?_append_right (by omega), hk]
    simp
theorem first_eq (xs : List Nd) (a b : Nat) (x y : Nd) (hx : xs[a]? = some x) (hy : xs[b]? = some y) (h : fst xs a = fst xs b) : nrm (firstsTo xs a) x = nrm (firstsTo xs b) y := by
  have h1 := key_first xs a x hx
  have h2 := key_first xs b y hy
  rw [h, h2] at h1
  exact (Option.some.inj h1).symm
theorem part_first (xs : List Nd) (a q : Nat) (ha : a ≤ xs.length) (hq : q < a) : (firstsTo xs a).getD q 0 = fst xs q := by
  unfold fst
  rw [firstsTo_prefix xs a q ha hq]

/-- What is alike is written alike, and as great. -/
theorem alike_text (xs : List Nd) (hp : poolB xs = true) : ∀ (a b : Nat), a < xs.length → b < xs.length → fst xs a = fst xs b → fullT xs a = fullT xs b ∧ restT xs a = restT xs b ∧ sizeR xs a = sizeR xs b := by
  intro a
  induction a using Nat.strongRecOn with
  | _ a ih =>
    intro b ha hb h
    obtain ⟨x, hx⟩ : ∃ x, xs[a]? = some x := ⟨xs[a], by simp [ha]⟩
    obtain ⟨y, hy⟩ : ∃ y, xs[b]? = some y := ⟨xs[b], by simp [hb]⟩
    have hk := first_eq xs a b x y hx hy h
    have hnx := poolB_at hp hx
    have hny := poolB_at hp hy
    obtain ⟨xk, xn, xs', xa, xb⟩ := x
    obtain ⟨yk, yn, ys, ya, yb⟩ := y
    simp only [nrm, Nd.mk.injEq] at hk
    obtain ⟨rfl, rfl, rfl, hA, hB⟩ := hk
    have pa : hasA xk = true → ∃ m n : Nat, xa = m ∧ ya = n ∧ m < a ∧ n < b ∧ fst xs m = fst xs n := fun hh => by
      have h1 := nodeB_A hnx hh
      have h2 := nodeB_A hny hh
      dsimp only at h1 h2
      obtain ⟨m, rfl⟩ := Int.eq_ofNat_of_zero_le h1.1
      obtain ⟨n, rfl⟩ := Int.eq_ofNat_of_zero_le h2.1
      rw [if_pos hh, if_pos hh, Int.toNat_natCast, Int.toNat_natCast, part_first xs a m (by omega) (by omega), part_first xs b n (by omega) (by omega)] at hA
      exact ⟨m, n, rfl, rfl, by omega, by omega, hA⟩
    have pb : hasB xk = true → ∃ m n : Nat, xb = m ∧ yb = n ∧ m < a ∧ n < b ∧ fst xs m = fst xs n := fun hh => by
      have h1 := nodeB_B hnx hh
      have h2 := nodeB_B hny hh
      dsimp only at h1 h2
      obtain ⟨m, rfl⟩ := Int.eq_ofNat_of_zero_le h1.1
      obtain ⟨n, rfl⟩ := Int.eq_ofNat_of_zero_le h2.1
      rw [if_pos hh, if_pos hh, Int.toNat_natCast, Int.toNat_natCast, part_first xs a m (by omega) (by omega), part_first xs b n (by omega) (by omega)] at hB
      exact ⟨m, n, rfl, rfl, by omega, by omega, hB⟩
    have hsize : sizeR xs a = sizeR xs b := by
      rw [sizeR_step xs a _ hp hx, sizeR_step xs b _ hp hy]
      dsimp only
      have eA : (if hasA xk then sizeR xs xa else 0) = (if hasA xk then sizeR xs ya else 0) := by
        cases hh : hasA xk with
        | false => rfl
        | true =>
          obtain ⟨m, n, rfl, rfl, hm, hn, he⟩ := pa hh
          rw [(ih m hm n (by omega) (by omega) he).2.2]
      have eB : (if hasB xk then sizeR xs xb else 0) = (if hasB xk then sizeR xs yb else 0) := by
        cases hh : hasB xk with
        | false => rfl
        | true =>
          obtain ⟨m, n, rfl, rfl, hm, hn, he⟩ := pb hh
          rw [(ih m hm n (by omega) (by omega) he).2.2]
      rw [eA, eB]
    by_cases h5 : xk = 5
    · subst h5
      obtain ⟨m, n, rfl, rfl, hm, hn, he⟩ := pa rfl
      obtain ⟨m', n', rfl, rfl, hm', hn', he'⟩ := pb rfl
      obtain ⟨f1, _, _⟩ := ih m hm n (by omega) (by omega) he
      obtain ⟨_, r1, _⟩ := ih m' hm' n' (by omega) (by omega) he'
      refine ⟨?_, ?_, hsize⟩
      · rw [fullT_pair hp hx rfl rfl rfl hm hm', fullT_pair hp hy rfl rfl rfl hn hn', f1, r1]
      · rw [restT_pair hp hx rfl rfl rfl hm hm', restT_pair hp hy rfl rfl rfl hn hn', f1, r1]
    · have hw : wordL ⟨xk, xn, xs', xa, xb⟩ = wordL ⟨xk, xn, xs', ya, yb⟩ := rfl
      refine ⟨?_, ?_, hsize⟩
      · rw [fullT_word hx h5, fullT_word hy h5, hw]
      · by_cases h1 : xk = 1
        · rw [restT_nil hx h1, restT_nil hy h1]
        · rw [restT_word hx h5 h1, restT_word hy h5 h1, hw]

theorem sameR_comm (xs : List Nd) (a b : Int) : sameR xs a b = sameR xs b a := by
  unfold sameR
  rw [Bool.eq_iff_iff]
  simp only [Bool.and_eq_true, beq_iff_eq]
  constructor
  · rintro ⟨⟨⟨h1, h2⟩, h3⟩, h4⟩; exact ⟨⟨⟨h1, h3⟩, h2⟩, h4.symm⟩
  · rintro ⟨⟨⟨h1, h2⟩, h3⟩, h4⟩; exact ⟨⟨⟨h1, h3⟩, h2⟩, h4.symm⟩
theorem sameR_self {xs : List Nd} {a b : Int} (h : sameR xs a b = true) : sameR xs a a = true := by
  unfold sameR at *
  simp only [Bool.and_eq_true, beq_iff_eq] at *
  obtain ⟨⟨⟨h1, h2⟩, _⟩, _⟩ := h
  exact ⟨⟨⟨h1, h2⟩, h2⟩, trivial⟩
theorem same_text {xs : List Nd} {a b : Int} (h : sameR xs a b = true) : sizeR xs a = sizeR xs b ∧ writeR xs a = writeR xs b := by
  unfold sameR at h
  simp only [Bool.and_eq_true, beq_iff_eq] at h
  obtain ⟨⟨⟨hp, ha⟩, hb⟩, he⟩ := h
  have ha' := ha
  have hb' := hb
  simp only [hasI, Bool.and_eq_true, decide_eq_true_eq] at ha hb
  obtain ⟨m, rfl⟩ := Int.eq_ofNat_of_zero_le ha.1
  obtain ⟨n, rfl⟩ := Int.eq_ofNat_of_zero_le hb.1
  rw [Int.toNat_natCast, Int.toNat_natCast] at he
  obtain ⟨h1, _, h3⟩ := alike_text xs hp m n (by omega) (by omega) he
  refine ⟨h3, ?_⟩
  unfold writeR
  rw [hp, ha', hb', Int.toNat_natCast, Int.toNat_natCast, h1]
end Go.Proofs.YtbgkofinmdpmcaaGreatDoor
