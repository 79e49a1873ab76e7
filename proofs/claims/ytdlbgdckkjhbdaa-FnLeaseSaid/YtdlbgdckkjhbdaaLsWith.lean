/-
  Contract of impl's withLease: the list with a lease in the place of the one of its claim. No condition.
-/
import Derived.Test.YtdlbgdckkjhbdaaCopyK
import Derived.Test.YtdlbgdckkjhbdaaLsDrop
namespace Go.Proofs.Ytdlbgdckkjhbdaa
open Go.RowKit

/-- The list with the lease l in the place of the one of its claim, or behind all. -/
def wlL (xs : List Ls) (l : Ls) : List Ls := if 0 ≤ lsIdx xs l.i l.w 0 then xs.set (lsIdx xs l.i l.w 0).toNat l else xs ++ [l]
theorem wlL_len (xs : List Ls) (l : Ls) : (wlL xs l).length ≤ xs.length + 1 := by
  unfold wlL
  split
  · simp
  · simp

theorem Try.sizeGrip3 : (Try.prog.info? 40).map (·.size) = some 3 := Try.sizeLs

set_option maxHeartbeats 1600000 in
theorem withlease_any (v : Value) (xs : List Ls) (l : Ls) (w : World) (R : LsRow w v xs) (hm : xs.length ≤ 20) :
    Calls Try.prog 39 #[v, .agg #[.int .i64 l.i, .int .i64 l.w, .int .i64 l.u]] w fun e w' => ∃ u, e = .returned u ∧ w'.ownsRow w.heap.size 40 3 u (wlL xs l).length (lscs (wlL xs l)) ∧ Below w.heap.size w w' := by
  obtain ⟨ao, cap, rfl⟩ := R.small
  obtain ⟨i0, hi, hz0, hz1, hz2⟩ := info_parts Try.infoLs
  have hB0 : Below w.heap.size w (w.alloc (Obj.cells #[.int .i64 l.i, .int .i64 l.w, .int .i64 l.u] 40)) := (Below.refl _ _).alloc (Nat.le_refl _) _
  have hx0 := heap_alloc_new w (Obj.cells #[.int .i64 l.i, .int .i64 l.w, .int .i64 l.u] 40)
  have hs0 : w.heap.size < (w.alloc (Obj.cells #[.int .i64 l.i, .int .i64 l.w, .int .i64 l.u] 40)).heap.size := by simp
  have R0 := R.below hB0
  have PC := fun (v : Value) (w : World) (R : LsRow w v xs) => placeofclaim_any v xs l.i l.w w R
  have HD : Hid (wlL xs l = if 0 ≤ lsIdx xs l.i l.w 0 then xs.set (lsIdx xs l.i l.w 0).toNat l else xs ++ [l]) := rfl
  have hpl := (lsIdx_lt xs l.i l.w).2
  generalize lsIdx xs l.i l.w 0 = p at *
  generalize wlL xs l = D at *
  go_enter Try.func39, Try.ntmps39
  go_wp2_with fail
  refine (copiedleases_any _ xs _ R0 (by omega)).mono ?_
  rintro e w1 ⟨u1, rfl, own1, hb1⟩
  obtain ⟨a1, c1, rfl⟩ := own_form own1
  have hx1 := (hb1.block _ hs0).trans hx0
  have hB1 := hB0.trans (hb1.mono hB0.size)
  have own1' := own_mono (B' := w.heap.size + 1) own1 (by simp)
  have c0 : w1.cell? ⟨w.heap.size, 0, none⟩ = some (.int .i64 l.i) := by rw [cell_of_row w1 _ 0 _ _ _ hx1]; rfl
  have c1' : w1.cell? ⟨w.heap.size, 0 + 1, none⟩ = some (.int .i64 l.w) := by rw [cell_of_row w1 _ 1 _ _ _ hx1]; rfl
  have c2 : w1.cell? ⟨w.heap.size, 0 + 2, none⟩ = some (.int .i64 l.u) := by rw [cell_of_row w1 _ 2 _ _ _ hx1]; rfl
  have hs1 := (Array.getElem?_eq_some_iff.1 hx1).1
  clear R0 hb1 hx0 hs0 hB0 own1 R
  go_wp2_with fail
  refine (lclaim_any l _).mono ?_
  rintro e w2 ⟨rfl, hb2⟩
  have own2 := own_below own1' hb2
  have hB2 := hB1.trans (hb2.mono hB1.size)
  have hx2 := (hb2.block _ hs1).trans hx1
  clear own1' hB1 hx1 hb2 c0 c1' c2 hs1
  go_wp2_with fail
  refine (PC _ _ (LsRow.of_own own2 (by omega))).mono ?_
  rintro e w3 ⟨rfl, hb3⟩
  have own3 := own_below own2 hb3
  have hB3 := hB2.trans (hb3.mono hB2.size)
  have hx3 := (hb3.block _ (Array.getElem?_eq_some_iff.1 hx2).1).trans hx2
  clear own2 hB2 hx2 hb3 PC
  have c0 : w3.cell? ⟨w.heap.size, 0, none⟩ = some (.int .i64 l.i) := by rw [cell_of_row w3 _ 0 _ _ _ hx3]; rfl
  have c1' : w3.cell? ⟨w.heap.size, 0 + 1, none⟩ = some (.int .i64 l.w) := by rw [cell_of_row w3 _ 1 _ _ _ hx3]; rfl
  have c2 : w3.cell? ⟨w.heap.size, 0 + 2, none⟩ = some (.int .i64 l.u) := by rw [cell_of_row w3 _ 2 _ _ _ hx3]; rfl
  have hs3 := (Array.getElem?_eq_some_iff.1 hx3).1
  by_cases hp : 0 ≤ p
  · obtain ⟨k, rfl⟩ : ∃ k : Nat, p = k := ⟨p.toNat, by omega⟩
    have HE : Hid (D = xs.set k l) := by unfold Hid; rw [HD.out, if_pos hp]; simp
    have e1 : decide (0 ≤ (k : Int)) = true := by simp
    have e2 : lsPl (k : Int) = k := by unfold lsPl; rw [if_pos (by omega)]
    rw [e1, e2]
    clear HD e1 e2
    have hk : k < xs.length := by omega
    obtain ⟨g, cg, hgv⟩ : ∃ g cg, (Value.slice a1 xs.length c1) = .slice (some ⟨g, 0, none⟩) xs.length cg := by
      rcases own3.2 with ⟨e, h0⟩ | ⟨g, cg, cur, e, _⟩
      · omega
      · exact ⟨g, cg, e⟩
    simp only [Value.slice.injEq, true_and] at hgv
    obtain ⟨rfl, rfl⟩ := hgv
    have hgb : w.heap.size + 1 ≤ g := (own3.lt g rfl).1
    go_wp2_with (refine wpList_store_ls rfl _ _ rfl (w.heap.size + 1) g k c1 xs l rfl rfl hk own3 ?_)
    intro w4 own4 hg4
    have hB4 : Below w.heap.size w w4 := hB3.grown hg4 hB3.size (fun k hk => by simp at hk; omega)
    have own5 : w4.ownsRow w.heap.size 40 3 (.slice (some ⟨g, 0, none⟩) xs.length c1) D.length (lscs D) := by
      rw [HE.out, List.length_set]
      exact own_mono own4 (by omega)
    clear own4 hg4 own3 hB3 c0 c1' c2 hx3
    go_wp2
    go_ret
    exact ⟨_, rfl, own5, hB4⟩
  · have HE : Hid (D = xs ++ [l]) := by unfold Hid; rw [HD.out, if_neg hp]
    have e1 : decide (0 ≤ p) = false := by simpa using hp
    rw [e1]
    clear HD e1
    have L1 := LsRow.lit1 w3 l
    go_wp2_with (at_builtin; refine wpList_append_own_any _ rfl _ _ 24 rfl (w.heap.size + 1) 40 i0 _ 3 24 Try.underlying24 hi hz0 hz1 hz2 rfl (by decide) _ _ _ rfl (own3.alloc _) (some ⟨w3.heap.size, 0, none⟩) 1 1 (lscs [l]) rfl rfl L1.nilcap L1.cells (lscs_one _) (by unfold maxLen; omega) (by omega) (by simp; omega) ?_)
    intro u4 w4 o4 hg4
    have hB4 : Below w.heap.size w w4 := (hB3.alloc hB3.size _).grown hg4 (by simp; omega) (fun k hk => by have := (own3.lt k hk).1; omega)
    have o4' : w4.ownsRow w.heap.size 40 3 u4 D.length (lscs D) := by rw [HE.out, lscs_append, List.length_append]; exact own_mono o4 (by omega)
    clear hg4 o4 own3 hB3 L1 c0 c1' c2 hx3
    go_wp2
    go_ret
    exact ⟨_, rfl, o4', hB4⟩
end Go.Proofs.Ytdlbgdckkjhbdaa
