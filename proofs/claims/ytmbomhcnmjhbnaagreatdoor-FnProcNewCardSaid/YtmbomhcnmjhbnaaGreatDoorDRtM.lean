/-
  Texts that stood by themselves, laid into one.
-/
import Derived.Test.YtmbomhcnmjhbnaaGreatDoorCpNeM
import Derived.Test.YtmbomhcnmjhbnaaGreatDoorDProgM
import Derived.Test.YtmbomhcnmjhbnaaGreatDoorSCp12M
/-
  What the text "(print 1)" is read as and compiled to: plain mathematics. Nothing of the program; no condition.
-/
namespace Go.Proofs.YtmbomhcnmjhbnaaGreatDoor
open Go.RowKit

def tF : ByteArray := ⟨#[40, 112, 114, 105, 110, 116, 32, 49, 41]⟩
def xsF : List Nd := [⟨4, 0, ⟨#[112, 114, 105, 110, 116]⟩, 0, 0⟩, ⟨3, 1, ByteArray.empty, 0, 0⟩, ⟨1, 0, ByteArray.empty, 0, 0⟩, ⟨5, 0, ByteArray.empty, 1, 2⟩, ⟨5, 0, ByteArray.empty, 0, 3⟩]
theorem num_print : numB [112, 114, 105, 110, 116] = false := by
  cases h : numB [112, 114, 105, 110, 116] with
  | false => rfl
  | true =>
    have hb := (numB_body h).1 112 (by decide)
    revert hb
    decide
theorem num_one : numB [49] = true := (numB_iff _).2 ⟨1, by omega, by kernel_rfl⟩
theorem word_print : wordNd ⟨#[112, 114, 105, 110, 116]⟩ = ⟨4, 0, ⟨#[112, 114, 105, 110, 116]⟩, 0, 0⟩ := by
  unfold wordNd
  rw [if_neg (by decide +kernel), if_neg (by decide +kernel), if_neg (by rw [show (ByteArray.mk #[112, 114, 105, 110, 116]).data.toList = [112, 114, 105, 110, 116] from rfl, num_print]; decide)]
theorem word_one : wordNd ⟨#[49]⟩ = ⟨3, 1, ByteArray.empty, 0, 0⟩ := by
  unfold wordNd
  rw [if_neg (by decide +kernel), if_neg (by decide +kernel), if_pos (by rw [show (ByteArray.mk #[49]).data.toList = [49] from rfl]; exact num_one)]
  rfl
theorem ok_print : wordOk ⟨#[112, 114, 105, 110, 116]⟩ = true := by
  unfold wordOk
  rw [show nameB ⟨#[112, 114, 105, 110, 116]⟩ = true by decide +kernel, Bool.or_true]
theorem ok_one : wordOk ⟨#[49]⟩ = true := by
  unfold wordOk
  rw [show (ByteArray.mk #[49]).data.toList = [49] from rfl, num_one]
  simp
theorem rd_fall : rd tF 0 0 ⟨[], [], 0, []⟩ = .ok ⟨xsF, [], 0, [4]⟩ := by
  rw [rd_mark (by decide) (by decide)]
  show rd tF 1 1 ⟨[], [(0, [])], 0, []⟩ = _
  rw [rd_skip 6 1 (by omega) (by decide) (by decide), rd_end (by omega) (by decide) (by decide)]
  unfold rdWord
  rw [show tF.extract 1 6 = ⟨#[112, 114, 105, 110, 116]⟩ by kernel_rfl, if_pos ok_print, word_print]
  show rd tF 6 6 ⟨[⟨4, 0, ⟨#[112, 114, 105, 110, 116]⟩, 0, 0⟩], [(0, [])], 0, [0]⟩ = _
  rw [rd_mark (by decide) (by decide)]
  show rd tF 7 7 ⟨[⟨4, 0, ⟨#[112, 114, 105, 110, 116]⟩, 0, 0⟩], [(0, [])], 0, [0]⟩ = _
  rw [rd_skip 8 7 (by omega) (by decide) (by decide), rd_end (by omega) (by decide) (by decide)]
  unfold rdWord
  rw [show tF.extract 7 8 = ⟨#[49]⟩ by kernel_rfl, if_pos ok_one, word_one]
  show rd tF 8 8 ⟨[⟨4, 0, ⟨#[112, 114, 105, 110, 116]⟩, 0, 0⟩, ⟨3, 1, ByteArray.empty, 0, 0⟩], [(0, [])], 0, [0, 1]⟩ = _
  rw [rd_mark (by decide) (by decide)]
  show rd tF 9 9 ⟨xsF, [], 0, [4]⟩ = _
  exact rd_done tF _
theorem readR_fall : readR [] tF = (xsF, [4], 0, 9) := by
  unfold readR
  rw [if_pos (by decide), if_pos (by decide), rd_fall]
  show (if poolB xsF = true then _ else _) = _
  rw [if_pos (by decide +kernel)]
  rfl
theorem compR_fall : (compR xsF [4]).2.1 = 0 := by decide +kernel
end Go.Proofs.YtmbomhcnmjhbnaaGreatDoor

/-
  The contract of spec.l4DrawRight: code that is right, and not empty, in rows of the call's own; nothing else is turned but the cursor. No condition.
-/
namespace Go.Proofs.YtmbomhcnmjhbnaaGreatDoor
open Go.RowKit

theorem NRow.none (w : World) : NRow w (.slice none 0 0) [] := ⟨Option.none, 0, rfl, by simp, by simp, by simp, fun h => absurd rfl h⟩
theorem Fits.wordQ {n f i : Nat} {s s1 : RS} {t : ByteArray} {a : Int} (F : Fits n f s) (hf : f ≤ i) (ht : t.size ≤ 1048576) (hs : t.size = 0 ∨ f < i) (e : Go.Proofs.YtmbomhcnmjhbnaaGreatDoor.wordQ t a s = .ok s1) : Fits n i s1 := by
  unfold Go.Proofs.YtmbomhcnmjhbnaaGreatDoor.wordQ at e
  split at e
  · cases e; exact F.mono hf
  split at e
  · cases e
    rename_i h0 _
    refine (F.word _ ?_).mono (by omega)
    exact Nat.le_trans (wordNd_size t) (by unfold maxLen; omega)
  · cases e
theorem rd_fits4 {t : ByteArray} (n f i : Nat) (s s' : RS) (h4 : t.size ≤ 400) (hf : f ≤ i) (hi : i ≤ t.size) (h : Fits n f s) (e : rd t f i s = .ok s') : Fits n t.size s' := by
  induction hk : t.size - i generalizing f i s with
  | zero =>
    have hie : i = t.size := by omega
    subst hie
    rw [rd_stop2 hf] at e
    exact h.wordQ hf (by rw [ByteArray.size_extract]; omega) (by rw [ByteArray.size_extract]; omega) e
  | succ k ih =>
    have hlt : i < t.size := by omega
    cases hw : wb (t[i].toNat : Int) with
    | true =>
      rw [rd_in hlt hw] at e
      exact ih f (i + 1) s (by omega) (by omega) h e (by omega)
    | false =>
      rw [rd_at2 hlt hw hf] at e
      cases h1 : wordQ (t.extract f i) f s with
      | bad a b => rw [h1] at e; cases e
      | ok s1 =>
        rw [h1] at e
        change ((rdMark (t[i].toNat : Int) i s1).andThen fun s2 => rd t (i + 1) (i + 1) s2) = _ at e
        cases h2 : rdMark (t[i].toNat : Int) i s1 with
        | bad a b => rw [h2] at e; cases e
        | ok s2 =>
          rw [h2] at e
          have F1 : Fits n i s1 := h.wordQ hf (by rw [ByteArray.size_extract]; omega) (by rw [ByteArray.size_extract]; omega) h1
          exact ih (i + 1) (i + 1) s2 (Nat.le_refl _) (by omega) (F1.mark (by omega) h2) e (by omega)
theorem readR_len (t : ByteArray) : (readR [] t).2.1.length ≤ 400 := by
  unfold readR
  split
  · split
    · rename_i h4
      cases hr : rd t 0 0 ⟨[], [], 0, []⟩ with
      | bad h p => simp
      | ok s =>
        have F := rd_fits4 0 0 0 _ s h4 (Nat.le_refl _) (Nat.zero_le _) ⟨by simp, by simp, by simp, by simp, by simp⟩ hr
        have f2 := F.vs
        simp only
        split
        · split
          · simp only; omega
          · simp
        · simp
    · simp
  · simp
theorem readR_pool (t : ByteArray) : poolB (readR [] t).1 = true := by
  unfold readR
  split
  · split
    · cases hr : rd t 0 0 ⟨[], [], 0, []⟩ with
      | bad h p => rfl
      | ok s =>
        simp only
        split
        · split
          · assumption
          · rfl
        · rfl
    · rfl
  · rfl
theorem poolB_sz {xs : List Nd} (h : poolB xs = true) : ∀ x ∈ xs, x.s.size ≤ maxLen := by
  intro x hx
  obtain ⟨i, hi, e⟩ := List.mem_iff_getElem.1 hx
  have h1 := ndAt_s h (i : Int)
  have h2 : ndAt xs (i : Int) = x := ndAt_some (by rw [List.getElem?_eq_getElem hi, e])
  rw [h2] at h1
  unfold maxLen
  omega
theorem compR_good {xs : List Nd} {l : List Int} (h : (compR xs l).2.1 = 0) (hl : l ≠ []) : codeB (compR xs l).1.1 (compR xs l).1.2.1 (compR xs l).1.2.2 = true ∧ (compR xs l).1.2.1 ≠ [] := by
  unfold compR at h ⊢
  split
  · rename_i h1
    rw [if_pos h1] at h
    split
    · rename_i h2
      rw [if_pos h2] at h
      split
      · rename_i h3
        refine ⟨h3, ?_⟩
        cases l with
        | nil => exact absurd rfl hl
        | cons v l =>
          have := ctops_ne xs v l 0 _ h2
          intro e
          simp only at e
          rw [e] at this
          simp at this
      · rename_i h3
        rw [if_neg h3] at h
        simp at h
    · rename_i h2
      rw [if_neg h2] at h
      split
      · rename_i h3; rw [if_pos h3] at h; simp at h
      · rename_i h3; rw [if_neg h3] at h; exact absurd h h2
  · rename_i h1
    rw [if_neg h1] at h
    simp at h

/-- Code of the call's own: its three rows. -/
def Own3 (w : World) (B : Nat) (v1 v2 v3 : Value) (ns : List Nd) (is : List In) (ds : List Df) : Prop :=
  w.ownsRow B 64 5 v1 ns.length (ncs ns) ∧ w.ownsRow B 54 4 v2 is.length (incs is) ∧ w.ownsRow B 58 3 v3 ds.length (dfcs ds)

theorem Own3.below {w w' : World} {B : Nat} {v1 v2 v3 : Value} {ns : List Nd} {is : List In} {ds : List Df} (h : Own3 w B v1 v2 v3 ns is ds) (hb : Below w.heap.size w w') : Own3 w' B v1 v2 v3 ns is ds := ⟨own_below h.1 hb, own_below h.2.1 hb, own_below h.2.2 hb⟩
theorem Own3.mono {w : World} {B B' : Nat} {v1 v2 v3 : Value} {ns : List Nd} {is : List In} {ds : List Df} (h : Own3 w B v1 v2 v3 ns is ds) (hb : B' ≤ B) : Own3 w B' v1 v2 v3 ns is ds := ⟨own_mono h.1 hb, own_mono h.2.1 hb, own_mono h.2.2 hb⟩
theorem own3_put {w0 w W : World} {B b P : Nat} {v v1 v2 v3 u1 u2 u3 x1 x2 x3 : Value} {zs : List Int} {ns : List Nd} {is : List In} {ds : List Df} (hr : W.heap[b]? = some (.cells #[x1, x2, x3] 30 (0, 0))) (o : Own3 W B v1 v2 v3 ns is ds) (c : Cur w0 v zs W P) (hg : w.grownBy W (some P)) (hP : P < w.heap.size) (hb : w.heap.size ≤ b) :
    let W' := ((W.setCell ⟨b, 0, none⟩ u1).setCell ⟨b, 1, none⟩ u2).setCell ⟨b, 2, none⟩ u3
    W'.heap[b]? = some (.cells #[u1, u2, u3] 30 (0, 0)) ∧ Own3 W' B v1 v2 v3 ns is ds ∧ Cur w0 v zs W' P ∧ w.grownBy W' (some P) := by
  have n1 := own_ne o.1 hr (by decide)
  have n2 := own_ne o.2.1 hr (by decide)
  have n3 := own_ne o.2.2 hr (by decide)
  have hB : Below w.heap.size W (((W.setCell ⟨b, 0, none⟩ u1).setCell ⟨b, 1, none⟩ u2).setCell ⟨b, 2, none⟩ u3) := (((Below.refl _ _).setCell (p := ⟨b, 0, none⟩) hb u1).setCell (p := ⟨b, 1, none⟩) hb u2).setCell (p := ⟨b, 2, none⟩) hb u3
  obtain ⟨c', g'⟩ := draw_done c hg hB hP
  exact ⟨store3 hr u1 u2 u3, ⟨ownsRow_setCell_other (ownsRow_setCell_other (ownsRow_setCell_other o.1 (a := ⟨b, 0, none⟩) n1 u1) (a := ⟨b, 1, none⟩) n1 u2) (a := ⟨b, 2, none⟩) n1 u3, ownsRow_setCell_other (ownsRow_setCell_other (ownsRow_setCell_other o.2.1 (a := ⟨b, 0, none⟩) n2 u1) (a := ⟨b, 1, none⟩) n2 u2) (a := ⟨b, 2, none⟩) n2 u3, ownsRow_setCell_other (ownsRow_setCell_other (ownsRow_setCell_other o.2.2 (a := ⟨b, 0, none⟩) n3 u1) (a := ⟨b, 1, none⟩) n3 u2) (a := ⟨b, 2, none⟩) n3 u3⟩, c', g'⟩

set_option maxRecDepth 100000 in
set_option maxHeartbeats 6400000 in
theorem d4right_any (w0 : World) (v : Value) (zs : List Int) (P : Nat) (w : World) (c : Cur w0 v zs w P) :
    Calls Tryz.prog 20 #[.pointer (some ⟨P, 0, none⟩)] w fun e w' => ∃ v1 v2 v3 ns is ds, e = .returned (.agg #[v1, v2, v3]) ∧ codeB ns is ds = true ∧ is ≠ [] ∧ Own3 w' w.heap.size v1 v2 v3 ns is ds ∧ Cur w0 v zs w' P ∧ w.grownBy w' (some P) := by
  have hP := c.lt
  have hB0 : Below w.heap.size w (w.alloc (Obj.cells #[.slice none 0 0, .slice none 0 0, .slice none 0 0] 30)) := (Below.refl _ _).alloc (Nat.le_refl _) _
  have c0 := c.kept (hB0.mono (show P + 1 ≤ w.heap.size by omega))
  have hr0 := heap_alloc_new w (Obj.cells #[.slice none 0 0, .slice none 0 0, .slice none 0 0] 30)
  have g0 : w.grownBy (w.alloc (Obj.cells #[.slice none 0 0, .slice none 0 0, .slice none 0 0] 30)) (some P) := World.grownBy_alloc _ _ _
  go_enter Tryz.func20, Tryz.ntmps20
  go_wp2_with fail
  generalize w.alloc (Obj.cells #[.slice none 0 0, .slice none 0 0, .slice none 0 0] 30) = w1 at *
  go_loopw [3] (fun i wr => ∃ k : Nat, k ≤ 4 ∧ i = .int .i64 k ∧ wr.heap[w.heap.size]? = some (.cells #[.slice none 0 0, .slice none 0 0, .slice none 0 0] 30 (0, 0)) ∧ Cur w0 v zs wr P ∧ w.grownBy wr (some P)) (fun i _ => 4 - (intOf i).toNat)
  case atStart => exact ⟨0, by omega, rfl, hr0, c0, g0⟩
  case round =>
    clear hr0 c0 g0 hB0
    obtain ⟨k, hk, rfl, hr, cc, gg⟩ := hrel
    by_cases hlt : k < 4
    · have hlt' : (k : Int) < 4 := by omega
      go_wp2_with fail
      refine (dprog_any w0 v zs P wr cc).mono ?_
      rintro e w3 ⟨s, rfl, hs, hd, c3, g3⟩
      have hr3 := (g3.block _ (Array.getElem?_eq_some_iff.1 hr).1 (by simp; omega)).trans hr
      have gg3 := grown_trans gg g3
      clear hr cc gg g3
      go_wp2_with fail
      refine (sread_any (.slice none 0 0) [] s w3 (NRow.none _) (by unfold maxLen; omega)).mono ?_
      rintro e w4 ⟨vp, vl, rfl, hop, hol, hb4⟩
      have hpool := readR_pool s
      have hlen := readR_len s
      have hne := readR_some [] s hd.notBlank
      generalize readR [] s = r at *
      obtain ⟨xs, ls, how, pl⟩ := r
      simp only at hpool hlen hne hop hol
      obtain ⟨a4, q4, rfl⟩ := own_form hop
      obtain ⟨a5, q5, rfl⟩ := own_form hol
      have hP3 := c3.lt
      have hsw : w.heap.size ≤ w3.heap.size := gg3.size
      obtain ⟨c4, g4⟩ := draw_done c3 gg3 (hb4.mono hsw) hP
      have hr4 := (hb4.block _ (Array.getElem?_eq_some_iff.1 hr3).1).trans hr3
      clear hr3 c3 gg3 hd hs
      have hs4 := hb4.size
      have hBa : Below w4.heap.size w4 (w4.alloc (Obj.cells #[.slice a4 xs.length q4] 26)) := (Below.refl _ _).alloc (Nat.le_refl _) _
      go_wp2_with fail
      generalize w4.alloc (Obj.cells #[.slice a4 xs.length q4] 26) = w5 at *
      have R5 := NRow.of_own (own_below hop hBa) (by have := poolB_len hpool; omega) (poolB_sz hpool)
      have T5 := TRow.of_own (own_below hol hBa)
      refine (scompile_any _ xs _ ls _ R5 T5 (by omega) (by have := poolB_len hpool; omega)).mono ?_
      rintro e w6 ⟨v1, v2, v3, rfl, o1, o2, o3, hb6⟩
      have hgood := @compR_good xs ls
      generalize compR xs ls = cr at *
      obtain ⟨⟨ns, is, ds⟩, fine, cp⟩ := cr
      simp only at hgood o1 o2 o3
      obtain ⟨a1, q1, rfl⟩ := own_form o1
      obtain ⟨a2, q2, rfl⟩ := own_form o2
      obtain ⟨a3, q3, rfl⟩ := own_form o3
      have hb46 := hBa.trans (hb6.mono hBa.size)
      obtain ⟨c6, g6⟩ := draw_done c4 g4 (hb46.mono (by omega)) hP
      have hr6 := (hb46.block _ (Array.getElem?_eq_some_iff.1 hr4).1).trans hr4
      have hs5 := hBa.size
      have hs6 := hb6.size
      clear hr4 c4 g4 hBa R5 T5 hop hol
      have hBc : Below w6.heap.size w6 (w6.alloc (Obj.cells #[.slice a1 ns.length q1, .slice a2 is.length q2, .slice a3 ds.length q3] 30)) := (Below.refl _ _).alloc (Nat.le_refl _) _
      have hcn := heap_alloc_new w6 (Obj.cells #[.slice a1 ns.length q1, .slice a2 is.length q2, .slice a3 ds.length q3] 30)
      have hr7 := (hBc.block _ (Array.getElem?_eq_some_iff.1 hr6).1).trans hr6
      obtain ⟨c7, g7⟩ := draw_done c6 g6 (hBc.mono (show w.heap.size ≤ w6.heap.size by omega)) hP
      have O7 := (Own3.below ⟨o1, o2, o3⟩ hBc).mono (show w.heap.size ≤ w5.heap.size by omega)
      clear o1 o2 o3 c6 g6 hr6 hBc hb46 hb4 hb6
      by_cases hh : how = 0
      · subst hh
        by_cases hf : fine = 0
        · subst hf
          obtain ⟨hcb, hin⟩ := hgood rfl (hne rfl)
          obtain ⟨r0, r1, r2, z0, z1, z2⟩ := cells3 hr7
          obtain ⟨y0, y1, y2, _, _, _⟩ := cells3 hcn
          go_wp2_with fail
          generalize w6.alloc (Obj.cells #[.slice a1 ns.length q1, .slice a2 is.length q2, .slice a3 ds.length q3] 30) = w7 at *
          obtain ⟨h8, O8, c8, g8⟩ := own3_put (u1 := .slice a1 ns.length q1) (u2 := .slice a2 is.length q2) (u3 := .slice a3 ds.length q3) hr7 O7 c7 g7 hP (Nat.le_refl _)
          exact bodyPost_ret (results_cell_row rfl _ _ w.heap.size 30 _ (0, 0) _ rfl h8 Tryz.underlying30 rfl Tryz.sizeC) rfl ⟨_, _, _, ns, is, ds, rfl, hcb, hin, O8, c8, g8⟩
        · go_wp2_with fail
          generalize w6.alloc (Obj.cells #[.slice a1 ns.length q1, .slice a2 is.length q2, .slice a3 ds.length q3] 30) = w7 at *
          go_roundw
          case rel => exact ⟨k + 1, by omega, by go_num, hr7, c7, g7⟩
          case measure => simp [intOf]; omega
      · go_wp2_with fail
        generalize w6.alloc (Obj.cells #[.slice a1 ns.length q1, .slice a2 is.length q2, .slice a3 ds.length q3] 30) = w7 at *
        go_roundw
        case rel => exact ⟨k + 1, by omega, by go_num, hr7, c7, g7⟩
        case measure => simp [intOf]; omega
    · have hlt' : ¬ (k : Int) < 4 := by omega
      have hSR := sread_any (.slice none 0 0) [] tF wr (NRow.none _) (by decide)
      rw [readR_fall] at hSR
      go_wp2_with fail
      refine hSR.mono ?_
      rintro e w4 ⟨vp, vl, rfl, hop, hol, hb4⟩
      obtain ⟨xs, hxs⟩ : ∃ xs, Hid (xsF = xs) := ⟨_, rfl⟩
      obtain ⟨ls, hls⟩ : ∃ ls : List Int, Hid ([4] = ls) := ⟨_, rfl⟩
      have hpool : poolB xs = true := by rw [← hxs.out]; decide +kernel
      have hlen : ls.length ≤ 400 := by rw [← hls.out]; decide
      have hcr := compR_fall
      have hgood := @compR_good xsF [4] compR_fall (by simp)
      simp only [hxs.out, hls.out] at hop hol hcr hgood
      obtain ⟨a4, q4, rfl⟩ := own_form hop
      obtain ⟨a5, q5, rfl⟩ := own_form hol
      have hsw : w.heap.size ≤ wr.heap.size := gg.size
      obtain ⟨c4, g4⟩ := draw_done cc gg (hb4.mono hsw) hP
      have hr4 := (hb4.block _ (Array.getElem?_eq_some_iff.1 hr).1).trans hr
      clear hr cc gg hSR
      have hs4 := hb4.size
      have hBa : Below w4.heap.size w4 (w4.alloc (Obj.cells #[.slice a4 xs.length q4] 26)) := (Below.refl _ _).alloc (Nat.le_refl _) _
      go_wp2_with fail
      generalize w4.alloc (Obj.cells #[.slice a4 xs.length q4] 26) = w5 at *
      have R5 := NRow.of_own (own_below hop hBa) (by have := poolB_len hpool; omega) (poolB_sz hpool)
      have T5 := TRow.of_own (own_below hol hBa)
      refine (scompile_any _ xs _ ls _ R5 T5 (by omega) (by have := poolB_len hpool; omega)).mono ?_
      rintro e w6 ⟨v1, v2, v3, rfl, o1, o2, o3, hb6⟩
      generalize compR xs ls = cr at *
      obtain ⟨⟨ns, is, ds⟩, fine, cp⟩ := cr
      simp only at hgood o1 o2 o3
      obtain ⟨a1, q1, rfl⟩ := own_form o1
      obtain ⟨a2, q2, rfl⟩ := own_form o2
      obtain ⟨a3, q3, rfl⟩ := own_form o3
      have hb46 := hBa.trans (hb6.mono hBa.size)
      obtain ⟨c6, g6⟩ := draw_done c4 g4 (hb46.mono (by omega)) hP
      have hr6 := (hb46.block _ (Array.getElem?_eq_some_iff.1 hr4).1).trans hr4
      have hs5 := hBa.size
      have hs6 := hb6.size
      clear hr4 c4 g4 hBa R5 T5 hop hol
      have hBc : Below w6.heap.size w6 (w6.alloc (Obj.cells #[.slice a1 ns.length q1, .slice a2 is.length q2, .slice a3 ds.length q3] 30)) := (Below.refl _ _).alloc (Nat.le_refl _) _
      have hcn := heap_alloc_new w6 (Obj.cells #[.slice a1 ns.length q1, .slice a2 is.length q2, .slice a3 ds.length q3] 30)
      have hr7 := (hBc.block _ (Array.getElem?_eq_some_iff.1 hr6).1).trans hr6
      obtain ⟨c7, g7⟩ := draw_done c6 g6 (hBc.mono (show w.heap.size ≤ w6.heap.size by omega)) hP
      have O7 := (Own3.below ⟨o1, o2, o3⟩ hBc).mono (show w.heap.size ≤ w5.heap.size by omega)
      clear o1 o2 o3 c6 g6 hr6 hBc hb46 hb4 hb6
      obtain ⟨hcb, hin⟩ := hgood
      obtain ⟨r0, r1, r2, z0, z1, z2⟩ := cells3 hr7
      obtain ⟨y0, y1, y2, _, _, _⟩ := cells3 hcn
      go_wp2_with fail
      generalize w6.alloc (Obj.cells #[.slice a1 ns.length q1, .slice a2 is.length q2, .slice a3 ds.length q3] 30) = w7 at *
      obtain ⟨h8, O8, c8, g8⟩ := own3_put (u1 := .slice a1 ns.length q1) (u2 := .slice a2 is.length q2) (u3 := .slice a3 ds.length q3) hr7 O7 c7 g7 hP (Nat.le_refl _)
      exact bodyPost_ret (results_cell_row rfl _ _ w.heap.size 30 _ (0, 0) _ rfl h8 Tryz.underlying30 rfl Tryz.sizeC) rfl ⟨_, _, _, ns, is, ds, rfl, hcb, hin, O8, c8, g8⟩
end Go.Proofs.YtmbomhcnmjhbnaaGreatDoor
