/-
  Contracts of impl's copied and spec's l10Copy: a link in memory of its own. No condition.
-/
import Derived.Test.YtgjebgdingahjaaLink
import Derived.Test.YtgjebgdingahjaaWith
namespace Go.Proofs.Ytgjebgdingahjaa
open Go.RowKit

set_option maxHeartbeats 1600000 in
theorem lcopied_any (v1 v2 : Value) (l : Lk) (w : World) (R1 : StRow w v1 l.q) (R2 : PcRow w v2 l.h) (h1 : l.q.length ≤ 2097152) (h2 : l.h.length ≤ 2097152) :
    Calls Try.prog 13 #[.agg #[.int .i64 l.sent, .int .i64 l.acked, v1, .int .i64 l.got, v2]] w fun e w' => ∃ u1 u2, e = .returned (.agg #[.int .i64 l.sent, .int .i64 l.acked, u1, .int .i64 l.got, u2]) ∧ w'.ownsRow w.heap.size 9 1 u1 l.q.length (stv l.q) ∧ w'.ownsRow w.heap.size 36 2 u2 l.h.length (pccs l.h) ∧ Below w.heap.size w w' := by
  obtain ⟨a1, c1, rfl⟩ := R1.small
  obtain ⟨a2, c2, rfl⟩ := R2.small
  obtain ⟨i0, hi, hz0, hz1, hz2⟩ := info_parts Try.infoStr
  obtain ⟨j0, hj, jz0, jz1, jz2⟩ := info_parts Try.infoPc
  have hB0 : Below w.heap.size w (((w.alloc (Obj.cells #[.int .i64 l.sent, .int .i64 l.acked, .slice a1 l.q.length c1, .int .i64 l.got, .slice a2 l.h.length c2] 27)).alloc (Obj.cells #[.int .i64 0, .int .i64 0, .slice none 0 0, .int .i64 0, .slice none 0 0] 27)).alloc (Obj.cells #[] 9)) := (((Below.refl _ _).alloc (Nat.le_refl _) _).alloc (by simp) _).alloc (by simp; omega) _
  have S1 := R1.below hB0
  have own1 : (((w.alloc (Obj.cells #[.int .i64 l.sent, .int .i64 l.acked, .slice a1 l.q.length c1, .int .i64 l.got, .slice a2 l.h.length c2] 27)).alloc (Obj.cells #[.int .i64 0, .int .i64 0, .slice none 0 0, .int .i64 0, .slice none 0 0] 27)).alloc (Obj.cells #[] 9)).ownsRow (w.heap.size + 2) 9 1 (.slice (some ⟨w.heap.size + 1 + 1, 0, none⟩) 0 0) 0 [] := by
    have := own_none0 ((w.alloc (Obj.cells #[.int .i64 l.sent, .int .i64 l.acked, .slice a1 l.q.length c1, .int .i64 l.got, .slice a2 l.h.length c2] 27)).alloc (Obj.cells #[.int .i64 0, .int .i64 0, .slice none 0 0, .int .i64 0, .slice none 0 0] 27)) 9 1 (w.heap.size + 2) (by simp)
    simpa using this
  go_enter Try.func13, Try.ntmps13
  go_wp2_with (at_builtin; refine wpList_append_own_any _ rfl _ _ 24 rfl (w.heap.size + 2) 9 i0 _ 1 16 Try.underlying24 hi hz0 hz1 hz2 rfl (by decide) _ 0 _ rfl own1 a1 l.q.length c1 (stv l.q) rfl (by rw [stv_length]; omega) S1.nilcap S1.cells (stv_one l.q) (by unfold maxLen; omega) (by omega) (by simp) ?_)
  intro u1 w2 hown2 hg2
  have hbel2 : Below (w.heap.size + 2) (((w.alloc (Obj.cells #[.int .i64 l.sent, .int .i64 l.acked, .slice a1 l.q.length c1, .int .i64 l.got, .slice a2 l.h.length c2] 27)).alloc (Obj.cells #[.int .i64 0, .int .i64 0, .slice none 0 0, .int .i64 0, .slice none 0 0] 27)).alloc (Obj.cells #[] 9)) w2 := (Below.refl _ _).grown hg2 (by simp) (fun k hk => by simp [Value.ownBlock] at hk; omega)
  have hB2 := hB0.trans (hbel2.mono (by omega))
  obtain ⟨b1, d1, rfl⟩ := own_form hown2
  have hx2 : w2.heap[w.heap.size]? = some (.cells #[.int .i64 l.sent, .int .i64 l.acked, .slice a1 l.q.length c1, .int .i64 l.got, .slice a2 l.h.length c2] 27 (0, 0)) := (hbel2.block _ (by omega)).trans ((heap_alloc_old _ _ (by simp; omega)).trans ((heap_alloc_old _ _ (by simp)).trans (heap_alloc_new _ _)))
  have hy2 : w2.heap[w.heap.size + 1]? = some (.cells #[.int .i64 0, .int .i64 0, .slice none 0 0, .int .i64 0, .slice none 0 0] 27 (0, 0)) := (hbel2.block _ (by omega)).trans ((heap_alloc_old _ _ (by simp)).trans (heap_alloc2_new _ _ _))
  have cx2 : w2.cell? ⟨w.heap.size, 0 + 2, none⟩ = some (.slice a1 l.q.length c1) := by rw [cell_of_row w2 _ 2 _ _ _ hx2]; rfl
  have fx2 : w2.frozen? ⟨w.heap.size, 0 + 2, none⟩ = false := frozen_of_row w2 _ 2 _ _ hx2
  have cx4 : w2.cell? ⟨w.heap.size, 0 + 4, none⟩ = some (.slice a2 l.h.length c2) := by rw [cell_of_row w2 _ 4 _ _ _ hx2]; rfl
  have fx4 : w2.frozen? ⟨w.heap.size, 0 + 4, none⟩ = false := frozen_of_row w2 _ 4 _ _ hx2
  have hsz2 : w.heap.size + 2 ≤ w2.heap.size := by have := hbel2.size; simp at this; omega
  have hx3 := heap_setCell_same w2 w.heap.size 2 _ _ (.slice b1 l.q.length d1) hx2
  have hy3 := (heap_setCell_other w2 ⟨w.heap.size, 2, none⟩ (w.heap.size + 1) (.slice b1 l.q.length d1) (by simp)).trans hy2
  have ho3 := ownsRow_setCell_below hown2 (a := ⟨w.heap.size, 2, none⟩) (by simp) (.slice b1 l.q.length d1)
  have hb3 : Below w2.heap.size w (w2.setCell ⟨w.heap.size, 2, none⟩ (.slice b1 l.q.length d1)) ∨ True := Or.inr trivial
  have hR3 : ∀ o : Obj, PcRow ((w2.setCell ⟨w.heap.size, 2, none⟩ (.slice b1 l.q.length d1)).alloc o) (.slice a2 l.h.length c2) l.h := fun o => R2.below ((hB2.setCell (p := ⟨w.heap.size, 2, none⟩) (by simp) _).alloc (by simpa using hB2.size) _)
  have own3 : ((w2.setCell ⟨w.heap.size, 2, none⟩ (.slice b1 l.q.length d1)).alloc (Obj.cells #[] 36)).ownsRow (w.heap.size + 2) 36 2 (.slice (some ⟨w2.heap.size, 0, none⟩) 0 0) 0 [] := by
    have := own_none0 (w2.setCell ⟨w.heap.size, 2, none⟩ (.slice b1 l.q.length d1)) 36 2 (w.heap.size + 2) (by simpa using hsz2)
    simpa using this
  have S3 := hR3 (Obj.cells #[] 36)
  have hBs := hB2.setCell (p := ⟨w.heap.size, 2, none⟩) (by simp) (.slice b1 l.q.length d1)
  have hx3' := (heap_alloc_old (w2.setCell ⟨w.heap.size, 2, none⟩ (.slice b1 l.q.length d1)) (Obj.cells #[] 36) (r := w.heap.size) (by simp; omega)).trans hx3
  have cx3 : ((w2.setCell ⟨w.heap.size, 2, none⟩ (.slice b1 l.q.length d1)).alloc (Obj.cells #[] 36)).cell? ⟨w.heap.size, 4, none⟩ = some (.slice a2 l.h.length c2) := by rw [cell_of_row _ _ 4 _ _ _ hx3']; rfl
  clear hg2 own1 hbel2 S1 hown2 hb3 cx4 fx4
  go_wp2_with (at_builtin; refine wpList_append_own_any _ rfl _ _ 25 rfl (w.heap.size + 2) 36 j0 _ 2 24 Try.underlying25 hj jz0 jz1 jz2 rfl (by decide) _ 0 _ rfl own3 a2 l.h.length c2 (pccs l.h) rfl (by rw [pccs_length]) S3.nilcap S3.cells (pccs_one l.h) (by unfold maxLen; omega) (by omega) (Nat.le_trans hsz2 (by simp)) ?_)
  intro u2 w4 hown4 hg4
  obtain ⟨b2, d2, rfl⟩ := own_form hown4
  have hbel4 : Below w2.heap.size ((w2.setCell ⟨w.heap.size, 2, none⟩ (.slice b1 l.q.length d1)).alloc (Obj.cells #[] 36)) w4 := (Below.refl _ _).grown hg4 (by simp) (fun k hk => by simp [Value.ownBlock] at hk; omega)
  have hB4 := (hBs.alloc hBs.size (Obj.cells #[] 36)).trans (hbel4.mono (by omega))
  have hx4 := (hbel4.block w.heap.size (by omega)).trans ((heap_alloc_old _ _ (by simp; omega)).trans hx3)
  have hy4 := (hbel4.block (w.heap.size + 1) (by omega)).trans ((heap_alloc_old _ _ (by simp; omega)).trans hy3)
  have ho4 : w4.ownsRow (w.heap.size + 2) 9 1 (.slice b1 l.q.length d1) l.q.length (stv l.q) := (ho3.alloc _).kept hg4 (by
    cases hv : (Value.slice b1 l.q.length d1).ownBlock with
    | none => exact Or.inl rfl
    | some k => 
      refine Or.inr fun e => ?_
      simp only [Value.ownBlock, Option.some.injEq] at e
      have := (ho3.lt k hv).2
      simp at this
      omega)
  have cx5 : w4.cell? ⟨w.heap.size, 0 + 4, none⟩ = some (.slice a2 l.h.length c2) := by rw [cell_of_row w4 _ 4 _ _ _ hx4]; rfl
  have fx5 : w4.frozen? ⟨w.heap.size, 0 + 4, none⟩ = false := frozen_of_row w4 _ 4 _ _ hx4
  have hx5 := heap_setCell_same w4 w.heap.size 4 _ _ (.slice b2 l.h.length d2) hx4
  have hy5 := (heap_setCell_other w4 ⟨w.heap.size, 4, none⟩ (w.heap.size + 1) (.slice b2 l.h.length d2) (by simp)).trans hy4
  have q1 := ownsRow_setCell_below ho4 (a := ⟨w.heap.size, 4, none⟩) (by simp) (.slice b2 l.h.length d2)
  have q2 := ownsRow_setCell_below hown4 (a := ⟨w.heap.size, 4, none⟩) (by simp) (.slice b2 l.h.length d2)
  have hB5 := hB4.setCell (p := ⟨w.heap.size, 4, none⟩) (by simp) (.slice b2 l.h.length d2)
  clear hg4 own3 hbel4 hown4 ho4 ho3 hx3 hy3 hx4 hy4 cx2 fx2 hx2 cx3 hx3' hy2 hB4 hB2 hBs
  go_wp2_with (first
    | refine wpList_load_row rfl 27 _ rfl w.heap.size rfl 27 #[.int .i64 l.sent, .int .i64 l.acked, .slice b1 l.q.length d1, .int .i64 l.got, .slice b2 l.h.length d2] (0, 0) _ hx5 Try.underlying27 rfl Try.sizeLk ?_
    | refine wpList_store_own2 rfl 27 _ _ rfl (w.heap.size + 1) #[.int .i64 l.sent, .int .i64 l.acked, .slice b1 l.q.length d1, .int .i64 l.got, .slice b2 l.h.length d2] rfl rfl 27 _ hy5 Try.sizeLk rfl (by simp [Value.oneCell']) ?_)
  intro w6 hy6 hbg _ hoth
  have hB6 := hB5.trans (hbg.mono (by omega))
  have p1 := own_mono (B' := w.heap.size) (own_keep q1 (g := w.heap.size + 1) (by omega) hoth) (by omega)
  have p2 := own_mono (B' := w.heap.size) (own_keep q2 (g := w.heap.size + 1) (by omega) hoth) (by omega)
  clear q1 q2 hoth hbg cx5 fx5
  go_wp2
  exact bodyPost_ret (results_cell_row rfl _ _ (w.heap.size + 1) 27 _ (0, 0) _ rfl hy6 Try.underlying27 rfl Try.sizeLk) rfl ⟨_, _, rfl, p1, p2, hB6⟩

end Go.Proofs.Ytgjebgdingahjaa
