/-
  Texts that stood by themselves, laid into one.
-/
import Derived.Test.YtfmafkebddojjaaGreatDoorITdM
import Derived.Test.YtfmafkebddojjaaGreatDoorBsM
import Derived.Test.YtfmafkebddojjaaGreatDoorIWire2M
import Derived.Test.YtfmafkebddojjaaGreatDoorVMoveM
import Derived.Test.YtfmafkebddojjaaGreatDoorSR8M
/-
  Contracts of spec's l6Copy and Tidy. No condition but that the pool is no greater than a law's.
-/
set_option maxRecDepth 100000
set_option maxHeartbeats 3200000
namespace Go.Proofs.YtfmafkebddojjaaGreatDoor
open Go.RowKit
theorem Zcy (ao : Option Addr) (cap : Nat) (xs : List Nd) (m : Mc) (w : World) (R : NRow w (.slice ao xs.length cap) xs) (hlen : xs.length <= 2097152) :
  Calls Tryz.prog 236 #[.agg #[.slice ao xs.length cap, .int .i64 m.p, .int .i64 m.s, .int .i64 m.e, .int .i64 m.d, .int .i64 m.t, .int .i64 m.q, .int .i64 m.r]] w fun e w' => ∃ a9 q9, e = .returned (.agg #[.slice a9 xs.length q9, .int .i64 m.p, .int .i64 m.s, .int .i64 m.e, .int .i64 m.d, .int .i64 m.t, .int .i64 m.q, .int .i64 m.r]) /\ w'.ownsRow w.heap.size 210 5 (.slice a9 xs.length q9) xs.length (ncs xs) /\ Below w.heap.size w w' := by
 obtain ⟨hB0, hx0, hy0⟩ := Zat w (Obj.cells #[.slice ao xs.length cap, .int .i64 m.p, .int .i64 m.s, .int .i64 m.e, .int .i64 m.d, .int .i64 m.t, .int .i64 m.q, .int .i64 m.r] 81) (Obj.cells #[.slice none 0 0, .int .i64 0, .int .i64 0, .int .i64 0, .int .i64 0, .int .i64 0, .int .i64 0, .int .i64 0] 81)
 go_enter Tryz.func236, Tryz.ntmps236
 go_wp2_with fail
 have hs0 : ((w.alloc (Obj.cells #[.slice ao xs.length cap, .int .i64 m.p, .int .i64 m.s, .int .i64 m.e, .int .i64 m.d, .int .i64 m.t, .int .i64 m.q, .int .i64 m.r] 81)).alloc (Obj.cells #[.slice none 0 0, .int .i64 0, .int .i64 0, .int .i64 0, .int .i64 0, .int .i64 0, .int .i64 0, .int .i64 0] 81)).heap.size = w.heap.size + 1 + 1 := by simp
 generalize (w.alloc (Obj.cells #[.slice ao xs.length cap, .int .i64 m.p, .int .i64 m.s, .int .i64 m.e, .int .i64 m.d, .int .i64 m.t, .int .i64 m.q, .int .i64 m.r] 81)).alloc (Obj.cells #[.slice none 0 0, .int .i64 0, .int .i64 0, .int .i64 0, .int .i64 0, .int .i64 0, .int .i64 0, .int .i64 0] 81) = W0 at *
 refine (Zjl _ xs _ (R.below hB0) (by omega)).mono ?_
 rintro e w9 ⟨v9, rfl, ho9, hb9⟩
 obtain ⟨a9, q9, rfl⟩ := Zae ho9
 have hB9 := hB0.trans (hb9.mono hB0.size)
 have hx9 := (hb9.block _ (by omega)).trans hx0
 have hy9 := (hb9.block _ (by omega)).trans hy0
 go_wp2_with (refine Zaa rfl 40 _ _ rfl w.heap.size 0 (.agg #[.slice a9 xs.length q9]) #[.slice a9 xs.length q9] rfl rfl rfl rfl 81 #[.slice ao xs.length cap, .int .i64 m.p, .int .i64 m.s, .int .i64 m.e, .int .i64 m.d, .int .i64 m.t, .int .i64 m.q, .int .i64 m.r] #[.slice a9 xs.length q9, .int .i64 m.p, .int .i64 m.s, .int .i64 m.e, .int .i64 m.d, .int .i64 m.t, .int .i64 m.q, .int .i64 m.r] hx9 (by simp) (by kernel_rfl) rfl ?_)
 intro wA hvA hbA hsA hkA
 have hyA := (hkA _ (by omega)).trans hy9
 go_wp2_with (first
  | (refine wpList_load_row rfl 81 _ rfl w.heap.size rfl 81 #[.slice a9 xs.length q9, .int .i64 m.p, .int .i64 m.s, .int .i64 m.e, .int .i64 m.d, .int .i64 m.t, .int .i64 m.q, .int .i64 m.r] (0, 0) _ hvA Tryz.underlying81 rfl Zmc ?_)
  | (refine Zac rfl 81 _ _ rfl (w.heap.size + 1) #[.slice a9 xs.length q9, .int .i64 m.p, .int .i64 m.s, .int .i64 m.e, .int .i64 m.d, .int .i64 m.t, .int .i64 m.q, .int .i64 m.r] rfl rfl 81 #[.slice none 0 0, .int .i64 0, .int .i64 0, .int .i64 0, .int .i64 0, .int .i64 0, .int .i64 0, .int .i64 0] hyA Zmc rfl (by simp [Value.oneCell']) ?_))
 intro wB hvB hbB hsB hkB
 go_wp2
 refine bodyPost_ret (results_cell_row rfl _ _ (w.heap.size + 1) 81 _ (0, 0) _ rfl hvB Tryz.underlying81 rfl Zmc) rfl ⟨a9, q9, rfl, ?_, (hB9.trans hbA).trans (hbB.mono (by omega))⟩
 exact Zaf (Zak (Zak ho9 (by omega) hkA) (by omega) hkB) (by omega)
theorem Zkt (w : World) (a b c : Int) : (w.alloc (Obj.cells #[.int .i64 a, .int .i64 b, .int .i64 c] 3)).ownsRow w.heap.size 3 1 (.slice (some ⟨w.heap.size, 0, none⟩) 3 3) 3 (iv [a, b, c]) :=
 ⟨by simp [iv], .inr ⟨w.heap.size, 3, #[.int .i64 a, .int .i64 b, .int .i64 c], rfl, Nat.le_refl _, heap_alloc_new w _, Nat.le_refl _, by unfold maxLen; omega, by simp, by simp [iv]⟩⟩
theorem Zi5 (v : Value) (xs : List Nd) (m : Mc) (w : World) (R : NRow w v xs) (hlen : xs.length <= 2097152) :
  Calls Tryz.prog 202 #[.agg #[v, .int .i64 m.p, .int .i64 m.s, .int .i64 m.e, .int .i64 m.d, .int .i64 m.t, .int .i64 m.q, .int .i64 m.r]] w fun e w' => ∃ v', e = .returned (.agg #[v', .int .i64 (tdM xs m).p, .int .i64 (tdM xs m).s, .int .i64 (tdM xs m).e, .int .i64 (tdM xs m).d, .int .i64 (tdM xs m).t, .int .i64 (tdM xs m).q, .int .i64 (tdM xs m).r]) /\ w'.ownsRow w.heap.size 210 5 v' (tdL xs m).length (ncs (tdL xs m)) /\ Below w.heap.size w w' := by
 have R' := R
 obtain ⟨ao, cap, rfl, _⟩ := R'
 obtain ⟨i0, hi, hz0, hz1, hz2⟩ := info_parts Zmu
 obtain ⟨hB0, hx0, hy0⟩ := Zat w (Obj.cells #[.slice ao xs.length cap, .int .i64 m.p, .int .i64 m.s, .int .i64 m.e, .int .i64 m.d, .int .i64 m.t, .int .i64 m.q, .int .i64 m.r] 81) (Obj.cells #[.slice none 0 0, .int .i64 0, .int .i64 0, .int .i64 0, .int .i64 0, .int .i64 0, .int .i64 0, .int .i64 0] 81)
 have HT : Hid (tdR m = if argB m then [m.s, m.e, m.d, m.r] else [m.s, m.e, m.d]) := rfl
 have hs0 : ((w.alloc (Obj.cells #[.slice ao xs.length cap, .int .i64 m.p, .int .i64 m.s, .int .i64 m.e, .int .i64 m.d, .int .i64 m.t, .int .i64 m.q, .int .i64 m.r] 81)).alloc (Obj.cells #[.slice none 0 0, .int .i64 0, .int .i64 0, .int .i64 0, .int .i64 0, .int .i64 0, .int .i64 0, .int .i64 0] 81)).heap.size = w.heap.size + 1 + 1 := by simp
 obtain ⟨W0, hW0⟩ : ∃ W0, (w.alloc (Obj.cells #[.slice ao xs.length cap, .int .i64 m.p, .int .i64 m.s, .int .i64 m.e, .int .i64 m.d, .int .i64 m.t, .int .i64 m.q, .int .i64 m.r] 81)).alloc (Obj.cells #[.slice none 0 0, .int .i64 0, .int .i64 0, .int .i64 0, .int .i64 0, .int .i64 0, .int .i64 0, .int .i64 0] 81) = W0 := ⟨_, rfl⟩
 have hO3 := Zkt W0 m.s m.e m.d
 have hBL := (Below.refl W0.heap.size W0).alloc (Nat.le_refl _) (Obj.cells #[.int .i64 m.s, .int .i64 m.e, .int .i64 m.d] 3)
 rw [hW0] at hB0 hx0 hy0 hs0
 rw [hs0] at hO3
 have HW0 : Hid ((w.alloc (Obj.cells #[.slice ao xs.length cap, .int .i64 m.p, .int .i64 m.s, .int .i64 m.e, .int .i64 m.d, .int .i64 m.t, .int .i64 m.q, .int .i64 m.r] 81)).alloc (Obj.cells #[.slice none 0 0, .int .i64 0, .int .i64 0, .int .i64 0, .int .i64 0, .int .i64 0, .int .i64 0, .int .i64 0] 81) = W0) := hW0
 clear hW0
 have hlW : w.heap.size + 1 < W0.heap.size := by omega
 have hsz3 : (W0.alloc (Obj.cells #[.int .i64 m.s, .int .i64 m.e, .int .i64 m.d] 3)).heap.size = w.heap.size + 1 + 1 + 1 := by simp; omega
 have hcase : (m.t = 1 /\ argB m = true) \/ (¬ m.t = 1 /\ m.t = 2 /\ argB m = true) \/ (¬ m.t = 1 /\ ¬ m.t = 2 /\ argB m = false) := by
  by_cases h1 : m.t = 1
  ·exact Or.inl ⟨h1, by unfold argB; simp [h1]⟩
  ·by_cases h2 : m.t = 2
   ·exact Or.inr (Or.inl ⟨h1, h2, by unfold argB; simp [h2]⟩)
   ·exact Or.inr (Or.inr ⟨h1, h2, by unfold argB; simp [h1, h2]⟩)
 rcases hcase with ⟨h1, hA⟩ | ⟨h1, h2, hA⟩ | ⟨h1, h2, hA⟩
 ·have hb1 : (m.t == 1) = true := by simp [h1]
  clear h1
  rw [hA] at HT
  go_enter Tryz.func202, Tryz.ntmps202
  go_wp2_with (at_builtin; rw [HW0.out]; refine wpList_append_own _ rfl _ _ 148 rfl (w.heap.size + 1 + 1) 3 i0 (.int .i64 0) 1 8 Tryz.underlying148 hi hz0 hz1 hz2 rfl (by decide) _ _ _ rfl (hO3.alloc _) ⟨w.heap.size + 1 + 1 + 1, 0, none⟩ 1 1 [.int .i64 m.r] rfl rfl (by rw [<- hsz3]; exact cell_one_new _ _ _) (by simp [Value.oneCell']) (by unfold maxLen; omega) (by omega) (by simp; omega) ?_)
  intro vr w1 hr1 hg1 _
  have hb1 : Below W0.heap.size W0 w1 := ((hBL.alloc (by simp) (Obj.cells #[.int .i64 m.r] 3)).grown hg1 (by simp; omega) (fun k hk => by simp only [Value.ownBlock, Option.some.injEq] at hk; omega))
  have L1 : IRow w1 vr (tdR m) := by
   rw [HT.out]
   have hr1' : w1.ownsRow (w.heap.size + 1 + 1) 3 1 vr [m.s, m.e, m.d, m.r].length (iv [m.s, m.e, m.d, m.r]) := hr1
   exact IRow.of_own hr1' (by simp)
  obtain ⟨avr, qvr, rfl⟩ := Zae hr1
  clear hr1 hg1
  have hB1 := hB0.trans (hb1.mono hB0.size)
  have hx1 := (hb1.block _ (by omega)).trans hx0
  have hy1 := (hb1.block _ (by omega)).trans hy0
  have hl1 := (bl hy1)
  have cx1 : w1.cell? ⟨w.heap.size, 0, none⟩ = some (.slice ao xs.length cap) := cell_of_row w1 _ 0 _ _ _ hx1
  clear hO3 hBL HW0 hsz3 hb1 hB0 hx0 hy0
  go_wp2_with fail
  refine (ZcA _ _ xs (tdR m) _ (R.below hB1) L1).mono ?_
  rintro e w2 ⟨rfl, hb2⟩
  have hB2 := hB1.trans (hb2.mono hB1.size)
  have hx2 := (hb2.block _ (by omega)).trans hx1
  have hy2 := (hb2.block _ hl1).trans hy1
  have hl2 := (bl hy2)
  have L2 := L1.below hb2
  have cx2 : w2.cell? ⟨w.heap.size, 0, none⟩ = some (.slice ao xs.length cap) := cell_of_row w2 _ 0 _ _ _ hx2
  clear hB1 hb2 hx1 hy1 hl1 L1 cx1
  cases hal : (allI xs (tdR m) && Zap xs) with
  | false =>
   have hno : tdOk xs m = false := by unfold tdOk; rw [Bool.and_comm]; exact hal
   have HL : Hid (tdL xs m = xs) := by unfold Hid tdL; rw [hno]; rfl
   have HM : Hid (tdM xs m = m) := by unfold Hid tdM; rw [hno]; rfl
   go_wp2_with (refine wpList_load_row rfl 81 _ rfl w.heap.size rfl 81 #[.slice ao xs.length cap, .int .i64 m.p, .int .i64 m.s, .int .i64 m.e, .int .i64 m.d, .int .i64 m.t, .int .i64 m.q, .int .i64 m.r] (0, 0) _ hx2 Tryz.underlying81 rfl Zmc ?_)
   refine (Zcy ao cap xs m _ (R.below hB2) hlen).mono ?_
   rintro e w9 ⟨a9, q9, rfl, ho9, hb9⟩
   have hy9 := (hb9.block _ hl2).trans hy2
   have hB9 := hB2.trans (hb9.mono hB2.size)
   go_wp2_with (refine Zac rfl 81 _ _ rfl (w.heap.size + 1) #[.slice a9 xs.length q9, .int .i64 m.p, .int .i64 m.s, .int .i64 m.e, .int .i64 m.d, .int .i64 m.t, .int .i64 m.q, .int .i64 m.r] rfl rfl 81 #[.slice none 0 0, .int .i64 0, .int .i64 0, .int .i64 0, .int .i64 0, .int .i64 0, .int .i64 0, .int .i64 0] hy9 Zmc rfl (by simp [Value.oneCell']) ?_)
   intro wB hvB hbB hsB hkB
   go_wp2
   refine bodyPost_ret (results_cell_row rfl _ _ (w.heap.size + 1) 81 _ (0, 0) _ rfl hvB Tryz.underlying81 rfl Zmc) rfl ⟨.slice a9 xs.length q9, by rw [HM.out], ?_, hB9.trans (hbB.mono (by omega))⟩
   rw [HL.out]
   exact Zaf (Zak ho9 hl2 hkB) (by omega)
  | true =>
   have hal2 := hal
   simp only [Bool.and_eq_true] at hal2
   have hok : tdOk xs m = true := by unfold tdOk; rw [Bool.and_comm]; exact hal
   have HL : Hid (tdL xs m = mvN 0 xs (tdR m)) := by unfold Hid tdL; rw [hok]; rfl
   have HM : Hid (tdM xs m = ⟨m.p, tdF xs m m.s, tdF xs m m.e, tdF xs m m.d, m.t, m.q, tdF xs m m.r⟩) := by unfold Hid tdM; rw [hok, hA]; rfl
   have hlR : (tdR m).length = 4 := by rw [Zgr, hA]; rfl
   have HR : Hid (mvR 0 xs (tdR m) (tdR m) = (tdR m).map (tdF xs m)) := rfl
   have hx5 := (Below.heap_alloc w2 (Obj.cells #[.slice ao xs.length cap, .int .i64 m.p, .int .i64 m.s, .int .i64 m.e, .int .i64 m.d, .int .i64 m.t, .int .i64 m.q, .int .i64 m.r] 81) w.heap.size (by omega)).trans hx2
   have hX := heap_alloc_new w2 (Obj.cells #[.slice ao xs.length cap, .int .i64 m.p, .int .i64 m.s, .int .i64 m.e, .int .i64 m.d, .int .i64 m.t, .int .i64 m.q, .int .i64 m.r] 81)
   have hB5 := hB2.alloc hB2.size (Obj.cells #[.slice ao xs.length cap, .int .i64 m.p, .int .i64 m.s, .int .i64 m.e, .int .i64 m.d, .int .i64 m.t, .int .i64 m.q, .int .i64 m.r] 81)
   have h25 : Below w2.heap.size w2 (w2.alloc (Obj.cells #[.slice ao xs.length cap, .int .i64 m.p, .int .i64 m.s, .int .i64 m.e, .int .i64 m.d, .int .i64 m.t, .int .i64 m.q, .int .i64 m.r] 81)) := (Below.refl _ _).alloc (Nat.le_refl _) _
   have hlw2 : w.heap.size < w2.heap.size := by omega
   have hs5 : (w2.alloc (Obj.cells #[.slice ao xs.length cap, .int .i64 m.p, .int .i64 m.s, .int .i64 m.e, .int .i64 m.d, .int .i64 m.t, .int .i64 m.q, .int .i64 m.r] 81)).heap.size = w2.heap.size + 1 := by simp
   go_wp2_with (first
    | (refine wpList_load_row rfl 81 _ rfl w.heap.size rfl 81 #[.slice ao xs.length cap, .int .i64 m.p, .int .i64 m.s, .int .i64 m.e, .int .i64 m.d, .int .i64 m.t, .int .i64 m.q, .int .i64 m.r] (0, 0) _ hx2 Tryz.underlying81 rfl Zmc ?_)
    | fail)
   refine (Zcp ao cap _ xs (tdR m) _ (R.below hB5) (L2.below h25) hal2.2 hal2.1 (by omega)).mono ?_
   rintro e w4 ⟨v1, v2, rfl, ho1, ho2, hb4⟩
   rw [HR.out] at ho2
   rw [hs5] at ho1 ho2
   obtain ⟨a1, q1, rfl⟩ := Zae ho1
   have hl30 : 0 < (tdR m).length := by omega
   rcases ho2.2 with ⟨_, hn0⟩ | ⟨g2, q2, cur2, e2, hg2, _, _⟩
   ·omega
   subst e2
   have hB4 := hB5.trans (hb4.mono hB5.size)
   have hX4 := (hb4.block _ (by omega)).trans hX
   have hy4 := (hb4.block _ (by omega)).trans ((Below.heap_alloc w2 _ _ hl2).trans hy2)
   have y0 : w4.cell? ⟨g2, 0, none⟩ = some (.int .i64 (tdF xs m m.s)) := (ho2.cellAt 0 (by omega)).trans (by unfold tdR; rw [hA]; rfl)
   have y1 : w4.cell? ⟨g2, 1, none⟩ = some (.int .i64 (tdF xs m m.e)) := (ho2.cellAt 1 (by omega)).trans (by unfold tdR; rw [hA]; rfl)
   have y2 : w4.cell? ⟨g2, 2, none⟩ = some (.int .i64 (tdF xs m m.d)) := (ho2.cellAt 2 (by omega)).trans (by unfold tdR; rw [hA]; rfl)
   have y3 : w4.cell? ⟨g2, 3, none⟩ = some (.int .i64 (tdF xs m m.r)) := (ho2.cellAt 3 (by omega)).trans (by unfold tdR; rw [hA]; rfl)
   have hgl : g2 < w4.heap.size := World.block_lt_of_cell? _ _ y0
   have hXl : w2.heap.size < w4.heap.size := (bl hX4)
   have hyl : w.heap.size + 1 < w4.heap.size := (bl hy4)
   generalize tdF xs m m.s = fs at *
   generalize tdF xs m m.e = fe at *
   generalize tdF xs m m.d = fd at *
   generalize tdF xs m m.r = fr at *
   have hB5' := hB4.alloc hB4.size (Obj.cells #[.slice a1 (mvN 0 xs (tdR m)).length q1] 40)
   have hX5 := (Below.heap_alloc w4 (Obj.cells #[.slice a1 (mvN 0 xs (tdR m)).length q1] 40) _ hXl).trans hX4
   have hy5 := (Below.heap_alloc w4 (Obj.cells #[.slice a1 (mvN 0 xs (tdR m)).length q1] 40) _ hyl).trans hy4
   have ho5 := ho1.alloc (Obj.cells #[.slice a1 (mvN 0 xs (tdR m)).length q1] 40)
   have keep : ∀ (i : Nat), (w4.alloc (Obj.cells #[.slice a1 (mvN 0 xs (tdR m)).length q1] 40)).cell? ⟨g2, i, none⟩ = w4.cell? ⟨g2, i, none⟩ := fun i => World.cell?_of_block (w := w4) (Below.heap_alloc w4 _ g2 hgl)
   have yy0 := (keep 0).trans y0
   have yy1 := (keep 1).trans y1
   have yy2 := (keep 2).trans y2
   have yy3 := (keep 3).trans y3
   rw [hlR]
   clear keep cx2 hx2 hy2 hx5 hX hB5 h25 hb4 ho2 ho1 hB4 hX4 hy4 hlR hl30 L2 hB2 y0 y1 y2 y3
   go_wp2_with (refine Zaa rfl 40 _ _ rfl w2.heap.size 0 (.agg #[.slice a1 (mvN 0 xs (tdR m)).length q1]) #[.slice a1 (mvN 0 xs (tdR m)).length q1] rfl rfl rfl rfl 81 #[.slice ao xs.length cap, .int .i64 m.p, .int .i64 m.s, .int .i64 m.e, .int .i64 m.d, .int .i64 m.t, .int .i64 m.q, .int .i64 m.r] #[.slice a1 (mvN 0 xs (tdR m)).length q1, .int .i64 m.p, .int .i64 m.s, .int .i64 m.e, .int .i64 m.d, .int .i64 m.t, .int .i64 m.q, .int .i64 m.r] hX5 (by simp) (by kernel_rfl) rfl ?_)
   intro wA hvwA hbwA hswA hkwA
   have hywA := (hkwA _ (by omega)).trans hy5
   have hBwA := hB5'.trans (hbwA.mono (by omega))
   have howA := Zak ho5 (by omega) hkwA
   have cwA0 := (World.cell?_of_block (a := ⟨g2, 0, none⟩) (hkwA g2 (by omega))).trans yy0
   have cwA1 := (World.cell?_of_block (a := ⟨g2, 1, none⟩) (hkwA g2 (by omega))).trans yy1
   have cwA2 := (World.cell?_of_block (a := ⟨g2, 2, none⟩) (hkwA g2 (by omega))).trans yy2
   have cwA3 := (World.cell?_of_block (a := ⟨g2, 3, none⟩) (hkwA g2 (by omega))).trans yy3
   clear hy5 ho5 yy0 yy1 yy2 yy3 hX5 hkwA hbwA hB5'
   go_wp2_with (refine Zaa rfl 3 _ _ rfl w2.heap.size 2 (.int .i64 fs) #[.int .i64 fs] rfl rfl rfl rfl 81 #[.slice a1 (mvN 0 xs (tdR m)).length q1, .int .i64 m.p, .int .i64 m.s, .int .i64 m.e, .int .i64 m.d, .int .i64 m.t, .int .i64 m.q, .int .i64 m.r] #[.slice a1 (mvN 0 xs (tdR m)).length q1, .int .i64 m.p, .int .i64 fs, .int .i64 m.e, .int .i64 m.d, .int .i64 m.t, .int .i64 m.q, .int .i64 m.r] hvwA (by simp) (by kernel_rfl) rfl ?_)
   intro wA0 hvwA0 hbwA0 hswA0 hkwA0
   have hywA0 := (hkwA0 _ (by omega)).trans hywA
   have hBwA0 := hBwA.trans (hbwA0.mono (by omega))
   have howA0 := Zak howA (by omega) hkwA0
   have cwA00 := (World.cell?_of_block (a := ⟨g2, 0, none⟩) (hkwA0 g2 (by omega))).trans cwA0
   have cwA01 := (World.cell?_of_block (a := ⟨g2, 1, none⟩) (hkwA0 g2 (by omega))).trans cwA1
   have cwA02 := (World.cell?_of_block (a := ⟨g2, 2, none⟩) (hkwA0 g2 (by omega))).trans cwA2
   have cwA03 := (World.cell?_of_block (a := ⟨g2, 3, none⟩) (hkwA0 g2 (by omega))).trans cwA3
   clear hywA howA cwA0 cwA1 cwA2 cwA3 hvwA hBwA hbwA0 hkwA0
   go_wp2_with (refine Zaa rfl 3 _ _ rfl w2.heap.size 3 (.int .i64 fe) #[.int .i64 fe] rfl rfl rfl rfl 81 #[.slice a1 (mvN 0 xs (tdR m)).length q1, .int .i64 m.p, .int .i64 fs, .int .i64 m.e, .int .i64 m.d, .int .i64 m.t, .int .i64 m.q, .int .i64 m.r] #[.slice a1 (mvN 0 xs (tdR m)).length q1, .int .i64 m.p, .int .i64 fs, .int .i64 fe, .int .i64 m.d, .int .i64 m.t, .int .i64 m.q, .int .i64 m.r] hvwA0 (by simp) (by kernel_rfl) rfl ?_)
   intro wA1 hvwA1 hbwA1 hswA1 hkwA1
   have hywA1 := (hkwA1 _ (by omega)).trans hywA0
   have hBwA1 := hBwA0.trans (hbwA1.mono (by omega))
   have howA1 := Zak howA0 (by omega) hkwA1
   have cwA10 := (World.cell?_of_block (a := ⟨g2, 0, none⟩) (hkwA1 g2 (by omega))).trans cwA00
   have cwA11 := (World.cell?_of_block (a := ⟨g2, 1, none⟩) (hkwA1 g2 (by omega))).trans cwA01
   have cwA12 := (World.cell?_of_block (a := ⟨g2, 2, none⟩) (hkwA1 g2 (by omega))).trans cwA02
   have cwA13 := (World.cell?_of_block (a := ⟨g2, 3, none⟩) (hkwA1 g2 (by omega))).trans cwA03
   clear hywA0 howA0 cwA00 cwA01 cwA02 cwA03 hvwA0 hBwA0 hbwA1 hkwA1
   go_wp2_with (refine Zaa rfl 3 _ _ rfl w2.heap.size 4 (.int .i64 fd) #[.int .i64 fd] rfl rfl rfl rfl 81 #[.slice a1 (mvN 0 xs (tdR m)).length q1, .int .i64 m.p, .int .i64 fs, .int .i64 fe, .int .i64 m.d, .int .i64 m.t, .int .i64 m.q, .int .i64 m.r] #[.slice a1 (mvN 0 xs (tdR m)).length q1, .int .i64 m.p, .int .i64 fs, .int .i64 fe, .int .i64 fd, .int .i64 m.t, .int .i64 m.q, .int .i64 m.r] hvwA1 (by simp) (by kernel_rfl) rfl ?_)
   intro wA2 hvwA2 hbwA2 hswA2 hkwA2
   have hywA2 := (hkwA2 _ (by omega)).trans hywA1
   have hBwA2 := hBwA1.trans (hbwA2.mono (by omega))
   have howA2 := Zak howA1 (by omega) hkwA2
   have cwA20 := (World.cell?_of_block (a := ⟨g2, 0, none⟩) (hkwA2 g2 (by omega))).trans cwA10
   have cwA21 := (World.cell?_of_block (a := ⟨g2, 1, none⟩) (hkwA2 g2 (by omega))).trans cwA11
   have cwA22 := (World.cell?_of_block (a := ⟨g2, 2, none⟩) (hkwA2 g2 (by omega))).trans cwA12
   have cwA23 := (World.cell?_of_block (a := ⟨g2, 3, none⟩) (hkwA2 g2 (by omega))).trans cwA13
   clear hywA1 howA1 cwA10 cwA11 cwA12 cwA13 hvwA1 hBwA1 hbwA2 hkwA2
   go_wp2_with (refine Zaa rfl 3 _ _ rfl w2.heap.size 7 (.int .i64 fr) #[.int .i64 fr] rfl rfl rfl rfl 81 #[.slice a1 (mvN 0 xs (tdR m)).length q1, .int .i64 m.p, .int .i64 fs, .int .i64 fe, .int .i64 fd, .int .i64 m.t, .int .i64 m.q, .int .i64 m.r] #[.slice a1 (mvN 0 xs (tdR m)).length q1, .int .i64 m.p, .int .i64 fs, .int .i64 fe, .int .i64 fd, .int .i64 m.t, .int .i64 m.q, .int .i64 fr] hvwA2 (by simp) (by kernel_rfl) rfl ?_)
   intro wA3 hvwA3 hbwA3 hswA3 hkwA3
   have hywA3 := (hkwA3 _ (by omega)).trans hywA2
   have hBwA3 := hBwA2.trans (hbwA3.mono (by omega))
   have howA3 := Zak howA2 (by omega) hkwA3
   have cwA30 := (World.cell?_of_block (a := ⟨g2, 0, none⟩) (hkwA3 g2 (by omega))).trans cwA20
   have cwA31 := (World.cell?_of_block (a := ⟨g2, 1, none⟩) (hkwA3 g2 (by omega))).trans cwA21
   have cwA32 := (World.cell?_of_block (a := ⟨g2, 2, none⟩) (hkwA3 g2 (by omega))).trans cwA22
   have cwA33 := (World.cell?_of_block (a := ⟨g2, 3, none⟩) (hkwA3 g2 (by omega))).trans cwA23
   clear hywA2 howA2 cwA20 cwA21 cwA22 cwA23 hvwA2 hBwA2 hbwA3 hkwA3
   go_wp2_with (first
    | (refine wpList_load_row rfl 81 _ rfl w2.heap.size rfl 81 #[.slice a1 (mvN 0 xs (tdR m)).length q1, .int .i64 m.p, .int .i64 fs, .int .i64 fe, .int .i64 fd, .int .i64 m.t, .int .i64 m.q, .int .i64 fr] (0, 0) _ hvwA3 Tryz.underlying81 rfl Zmc ?_)
    | (refine Zac rfl 81 _ _ rfl (w.heap.size + 1) #[.slice a1 (mvN 0 xs (tdR m)).length q1, .int .i64 m.p, .int .i64 fs, .int .i64 fe, .int .i64 fd, .int .i64 m.t, .int .i64 m.q, .int .i64 fr] rfl rfl 81 #[.slice none 0 0, .int .i64 0, .int .i64 0, .int .i64 0, .int .i64 0, .int .i64 0, .int .i64 0, .int .i64 0] hywA3 Zmc rfl (by simp [Value.oneCell']) ?_))
   intro wB hvB hbB hsB hkB
   go_wp2
   refine bodyPost_ret (results_cell_row rfl _ _ (w.heap.size + 1) 81 _ (0, 0) _ rfl hvB Tryz.underlying81 rfl Zmc) rfl ⟨.slice a1 (mvN 0 xs (tdR m)).length q1, by rw [HM.out], ?_, hBwA3.trans (hbB.mono (by omega))⟩
   rw [HL.out]
   exact Zaf (Zak howA3 (by omega) hkB) (by omega)
 ·have hb1 : (m.t == 1) = false := by simp [h1]
  have hb2 : (m.t == 2) = true := by simp [h2]
  clear h1 h2
  rw [hA] at HT
  go_enter Tryz.func202, Tryz.ntmps202
  go_wp2_with (at_builtin; rw [HW0.out]; refine wpList_append_own _ rfl _ _ 148 rfl (w.heap.size + 1 + 1) 3 i0 (.int .i64 0) 1 8 Tryz.underlying148 hi hz0 hz1 hz2 rfl (by decide) _ _ _ rfl (hO3.alloc _) ⟨w.heap.size + 1 + 1 + 1, 0, none⟩ 1 1 [.int .i64 m.r] rfl rfl (by rw [<- hsz3]; exact cell_one_new _ _ _) (by simp [Value.oneCell']) (by unfold maxLen; omega) (by omega) (by simp; omega) ?_)
  intro vr w1 hr1 hg1 _
  have hb1 : Below W0.heap.size W0 w1 := ((hBL.alloc (by simp) (Obj.cells #[.int .i64 m.r] 3)).grown hg1 (by simp; omega) (fun k hk => by simp only [Value.ownBlock, Option.some.injEq] at hk; omega))
  have L1 : IRow w1 vr (tdR m) := by
   rw [HT.out]
   have hr1' : w1.ownsRow (w.heap.size + 1 + 1) 3 1 vr [m.s, m.e, m.d, m.r].length (iv [m.s, m.e, m.d, m.r]) := hr1
   exact IRow.of_own hr1' (by simp)
  obtain ⟨avr, qvr, rfl⟩ := Zae hr1
  clear hr1 hg1
  have hB1 := hB0.trans (hb1.mono hB0.size)
  have hx1 := (hb1.block _ (by omega)).trans hx0
  have hy1 := (hb1.block _ (by omega)).trans hy0
  have hl1 := (bl hy1)
  have cx1 : w1.cell? ⟨w.heap.size, 0, none⟩ = some (.slice ao xs.length cap) := cell_of_row w1 _ 0 _ _ _ hx1
  clear hO3 hBL HW0 hsz3 hb1 hB0 hx0 hy0
  go_wp2_with fail
  refine (ZcA _ _ xs (tdR m) _ (R.below hB1) L1).mono ?_
  rintro e w2 ⟨rfl, hb2⟩
  have hB2 := hB1.trans (hb2.mono hB1.size)
  have hx2 := (hb2.block _ (by omega)).trans hx1
  have hy2 := (hb2.block _ hl1).trans hy1
  have hl2 := (bl hy2)
  have L2 := L1.below hb2
  have cx2 : w2.cell? ⟨w.heap.size, 0, none⟩ = some (.slice ao xs.length cap) := cell_of_row w2 _ 0 _ _ _ hx2
  clear hB1 hb2 hx1 hy1 hl1 L1 cx1
  cases hal : (allI xs (tdR m) && Zap xs) with
  | false =>
   have hno : tdOk xs m = false := by unfold tdOk; rw [Bool.and_comm]; exact hal
   have HL : Hid (tdL xs m = xs) := by unfold Hid tdL; rw [hno]; rfl
   have HM : Hid (tdM xs m = m) := by unfold Hid tdM; rw [hno]; rfl
   go_wp2_with (refine wpList_load_row rfl 81 _ rfl w.heap.size rfl 81 #[.slice ao xs.length cap, .int .i64 m.p, .int .i64 m.s, .int .i64 m.e, .int .i64 m.d, .int .i64 m.t, .int .i64 m.q, .int .i64 m.r] (0, 0) _ hx2 Tryz.underlying81 rfl Zmc ?_)
   refine (Zcy ao cap xs m _ (R.below hB2) hlen).mono ?_
   rintro e w9 ⟨a9, q9, rfl, ho9, hb9⟩
   have hy9 := (hb9.block _ hl2).trans hy2
   have hB9 := hB2.trans (hb9.mono hB2.size)
   go_wp2_with (refine Zac rfl 81 _ _ rfl (w.heap.size + 1) #[.slice a9 xs.length q9, .int .i64 m.p, .int .i64 m.s, .int .i64 m.e, .int .i64 m.d, .int .i64 m.t, .int .i64 m.q, .int .i64 m.r] rfl rfl 81 #[.slice none 0 0, .int .i64 0, .int .i64 0, .int .i64 0, .int .i64 0, .int .i64 0, .int .i64 0, .int .i64 0] hy9 Zmc rfl (by simp [Value.oneCell']) ?_)
   intro wB hvB hbB hsB hkB
   go_wp2
   refine bodyPost_ret (results_cell_row rfl _ _ (w.heap.size + 1) 81 _ (0, 0) _ rfl hvB Tryz.underlying81 rfl Zmc) rfl ⟨.slice a9 xs.length q9, by rw [HM.out], ?_, hB9.trans (hbB.mono (by omega))⟩
   rw [HL.out]
   exact Zaf (Zak ho9 hl2 hkB) (by omega)
  | true =>
   have hal2 := hal
   simp only [Bool.and_eq_true] at hal2
   have hok : tdOk xs m = true := by unfold tdOk; rw [Bool.and_comm]; exact hal
   have HL : Hid (tdL xs m = mvN 0 xs (tdR m)) := by unfold Hid tdL; rw [hok]; rfl
   have HM : Hid (tdM xs m = ⟨m.p, tdF xs m m.s, tdF xs m m.e, tdF xs m m.d, m.t, m.q, tdF xs m m.r⟩) := by unfold Hid tdM; rw [hok, hA]; rfl
   have hlR : (tdR m).length = 4 := by rw [Zgr, hA]; rfl
   have HR : Hid (mvR 0 xs (tdR m) (tdR m) = (tdR m).map (tdF xs m)) := rfl
   have hx5 := (Below.heap_alloc w2 (Obj.cells #[.slice ao xs.length cap, .int .i64 m.p, .int .i64 m.s, .int .i64 m.e, .int .i64 m.d, .int .i64 m.t, .int .i64 m.q, .int .i64 m.r] 81) w.heap.size (by omega)).trans hx2
   have hX := heap_alloc_new w2 (Obj.cells #[.slice ao xs.length cap, .int .i64 m.p, .int .i64 m.s, .int .i64 m.e, .int .i64 m.d, .int .i64 m.t, .int .i64 m.q, .int .i64 m.r] 81)
   have hB5 := hB2.alloc hB2.size (Obj.cells #[.slice ao xs.length cap, .int .i64 m.p, .int .i64 m.s, .int .i64 m.e, .int .i64 m.d, .int .i64 m.t, .int .i64 m.q, .int .i64 m.r] 81)
   have h25 : Below w2.heap.size w2 (w2.alloc (Obj.cells #[.slice ao xs.length cap, .int .i64 m.p, .int .i64 m.s, .int .i64 m.e, .int .i64 m.d, .int .i64 m.t, .int .i64 m.q, .int .i64 m.r] 81)) := (Below.refl _ _).alloc (Nat.le_refl _) _
   have hlw2 : w.heap.size < w2.heap.size := by omega
   have hs5 : (w2.alloc (Obj.cells #[.slice ao xs.length cap, .int .i64 m.p, .int .i64 m.s, .int .i64 m.e, .int .i64 m.d, .int .i64 m.t, .int .i64 m.q, .int .i64 m.r] 81)).heap.size = w2.heap.size + 1 := by simp
   go_wp2_with (first
    | (refine wpList_load_row rfl 81 _ rfl w.heap.size rfl 81 #[.slice ao xs.length cap, .int .i64 m.p, .int .i64 m.s, .int .i64 m.e, .int .i64 m.d, .int .i64 m.t, .int .i64 m.q, .int .i64 m.r] (0, 0) _ hx2 Tryz.underlying81 rfl Zmc ?_)
    | fail)
   refine (Zcp ao cap _ xs (tdR m) _ (R.below hB5) (L2.below h25) hal2.2 hal2.1 (by omega)).mono ?_
   rintro e w4 ⟨v1, v2, rfl, ho1, ho2, hb4⟩
   rw [HR.out] at ho2
   rw [hs5] at ho1 ho2
   obtain ⟨a1, q1, rfl⟩ := Zae ho1
   have hl30 : 0 < (tdR m).length := by omega
   rcases ho2.2 with ⟨_, hn0⟩ | ⟨g2, q2, cur2, e2, hg2, _, _⟩
   ·omega
   subst e2
   have hB4 := hB5.trans (hb4.mono hB5.size)
   have hX4 := (hb4.block _ (by omega)).trans hX
   have hy4 := (hb4.block _ (by omega)).trans ((Below.heap_alloc w2 _ _ hl2).trans hy2)
   have y0 : w4.cell? ⟨g2, 0, none⟩ = some (.int .i64 (tdF xs m m.s)) := (ho2.cellAt 0 (by omega)).trans (by unfold tdR; rw [hA]; rfl)
   have y1 : w4.cell? ⟨g2, 1, none⟩ = some (.int .i64 (tdF xs m m.e)) := (ho2.cellAt 1 (by omega)).trans (by unfold tdR; rw [hA]; rfl)
   have y2 : w4.cell? ⟨g2, 2, none⟩ = some (.int .i64 (tdF xs m m.d)) := (ho2.cellAt 2 (by omega)).trans (by unfold tdR; rw [hA]; rfl)
   have y3 : w4.cell? ⟨g2, 3, none⟩ = some (.int .i64 (tdF xs m m.r)) := (ho2.cellAt 3 (by omega)).trans (by unfold tdR; rw [hA]; rfl)
   have hgl : g2 < w4.heap.size := World.block_lt_of_cell? _ _ y0
   have hXl : w2.heap.size < w4.heap.size := (bl hX4)
   have hyl : w.heap.size + 1 < w4.heap.size := (bl hy4)
   generalize tdF xs m m.s = fs at *
   generalize tdF xs m m.e = fe at *
   generalize tdF xs m m.d = fd at *
   generalize tdF xs m m.r = fr at *
   have hB5' := hB4.alloc hB4.size (Obj.cells #[.slice a1 (mvN 0 xs (tdR m)).length q1] 40)
   have hX5 := (Below.heap_alloc w4 (Obj.cells #[.slice a1 (mvN 0 xs (tdR m)).length q1] 40) _ hXl).trans hX4
   have hy5 := (Below.heap_alloc w4 (Obj.cells #[.slice a1 (mvN 0 xs (tdR m)).length q1] 40) _ hyl).trans hy4
   have ho5 := ho1.alloc (Obj.cells #[.slice a1 (mvN 0 xs (tdR m)).length q1] 40)
   have keep : ∀ (i : Nat), (w4.alloc (Obj.cells #[.slice a1 (mvN 0 xs (tdR m)).length q1] 40)).cell? ⟨g2, i, none⟩ = w4.cell? ⟨g2, i, none⟩ := fun i => World.cell?_of_block (w := w4) (Below.heap_alloc w4 _ g2 hgl)
   have yy0 := (keep 0).trans y0
   have yy1 := (keep 1).trans y1
   have yy2 := (keep 2).trans y2
   have yy3 := (keep 3).trans y3
   rw [hlR]
   clear keep cx2 hx2 hy2 hx5 hX hB5 h25 hb4 ho2 ho1 hB4 hX4 hy4 hlR hl30 L2 hB2 y0 y1 y2 y3
   go_wp2_with (refine Zaa rfl 40 _ _ rfl w2.heap.size 0 (.agg #[.slice a1 (mvN 0 xs (tdR m)).length q1]) #[.slice a1 (mvN 0 xs (tdR m)).length q1] rfl rfl rfl rfl 81 #[.slice ao xs.length cap, .int .i64 m.p, .int .i64 m.s, .int .i64 m.e, .int .i64 m.d, .int .i64 m.t, .int .i64 m.q, .int .i64 m.r] #[.slice a1 (mvN 0 xs (tdR m)).length q1, .int .i64 m.p, .int .i64 m.s, .int .i64 m.e, .int .i64 m.d, .int .i64 m.t, .int .i64 m.q, .int .i64 m.r] hX5 (by simp) (by kernel_rfl) rfl ?_)
   intro wA hvwA hbwA hswA hkwA
   have hywA := (hkwA _ (by omega)).trans hy5
   have hBwA := hB5'.trans (hbwA.mono (by omega))
   have howA := Zak ho5 (by omega) hkwA
   have cwA0 := (World.cell?_of_block (a := ⟨g2, 0, none⟩) (hkwA g2 (by omega))).trans yy0
   have cwA1 := (World.cell?_of_block (a := ⟨g2, 1, none⟩) (hkwA g2 (by omega))).trans yy1
   have cwA2 := (World.cell?_of_block (a := ⟨g2, 2, none⟩) (hkwA g2 (by omega))).trans yy2
   have cwA3 := (World.cell?_of_block (a := ⟨g2, 3, none⟩) (hkwA g2 (by omega))).trans yy3
   clear hy5 ho5 yy0 yy1 yy2 yy3 hX5 hkwA hbwA hB5'
   go_wp2_with (refine Zaa rfl 3 _ _ rfl w2.heap.size 2 (.int .i64 fs) #[.int .i64 fs] rfl rfl rfl rfl 81 #[.slice a1 (mvN 0 xs (tdR m)).length q1, .int .i64 m.p, .int .i64 m.s, .int .i64 m.e, .int .i64 m.d, .int .i64 m.t, .int .i64 m.q, .int .i64 m.r] #[.slice a1 (mvN 0 xs (tdR m)).length q1, .int .i64 m.p, .int .i64 fs, .int .i64 m.e, .int .i64 m.d, .int .i64 m.t, .int .i64 m.q, .int .i64 m.r] hvwA (by simp) (by kernel_rfl) rfl ?_)
   intro wA0 hvwA0 hbwA0 hswA0 hkwA0
   have hywA0 := (hkwA0 _ (by omega)).trans hywA
   have hBwA0 := hBwA.trans (hbwA0.mono (by omega))
   have howA0 := Zak howA (by omega) hkwA0
   have cwA00 := (World.cell?_of_block (a := ⟨g2, 0, none⟩) (hkwA0 g2 (by omega))).trans cwA0
   have cwA01 := (World.cell?_of_block (a := ⟨g2, 1, none⟩) (hkwA0 g2 (by omega))).trans cwA1
   have cwA02 := (World.cell?_of_block (a := ⟨g2, 2, none⟩) (hkwA0 g2 (by omega))).trans cwA2
   have cwA03 := (World.cell?_of_block (a := ⟨g2, 3, none⟩) (hkwA0 g2 (by omega))).trans cwA3
   clear hywA howA cwA0 cwA1 cwA2 cwA3 hvwA hBwA hbwA0 hkwA0
   go_wp2_with (refine Zaa rfl 3 _ _ rfl w2.heap.size 3 (.int .i64 fe) #[.int .i64 fe] rfl rfl rfl rfl 81 #[.slice a1 (mvN 0 xs (tdR m)).length q1, .int .i64 m.p, .int .i64 fs, .int .i64 m.e, .int .i64 m.d, .int .i64 m.t, .int .i64 m.q, .int .i64 m.r] #[.slice a1 (mvN 0 xs (tdR m)).length q1, .int .i64 m.p, .int .i64 fs, .int .i64 fe, .int .i64 m.d, .int .i64 m.t, .int .i64 m.q, .int .i64 m.r] hvwA0 (by simp) (by kernel_rfl) rfl ?_)
   intro wA1 hvwA1 hbwA1 hswA1 hkwA1
   have hywA1 := (hkwA1 _ (by omega)).trans hywA0
   have hBwA1 := hBwA0.trans (hbwA1.mono (by omega))
   have howA1 := Zak howA0 (by omega) hkwA1
   have cwA10 := (World.cell?_of_block (a := ⟨g2, 0, none⟩) (hkwA1 g2 (by omega))).trans cwA00
   have cwA11 := (World.cell?_of_block (a := ⟨g2, 1, none⟩) (hkwA1 g2 (by omega))).trans cwA01
   have cwA12 := (World.cell?_of_block (a := ⟨g2, 2, none⟩) (hkwA1 g2 (by omega))).trans cwA02
   have cwA13 := (World.cell?_of_block (a := ⟨g2, 3, none⟩) (hkwA1 g2 (by omega))).trans cwA03
   clear hywA0 howA0 cwA00 cwA01 cwA02 cwA03 hvwA0 hBwA0 hbwA1 hkwA1
   go_wp2_with (refine Zaa rfl 3 _ _ rfl w2.heap.size 4 (.int .i64 fd) #[.int .i64 fd] rfl rfl rfl rfl 81 #[.slice a1 (mvN 0 xs (tdR m)).length q1, .int .i64 m.p, .int .i64 fs, .int .i64 fe, .int .i64 m.d, .int .i64 m.t, .int .i64 m.q, .int .i64 m.r] #[.slice a1 (mvN 0 xs (tdR m)).length q1, .int .i64 m.p, .int .i64 fs, .int .i64 fe, .int .i64 fd, .int .i64 m.t, .int .i64 m.q, .int .i64 m.r] hvwA1 (by simp) (by kernel_rfl) rfl ?_)
   intro wA2 hvwA2 hbwA2 hswA2 hkwA2
   have hywA2 := (hkwA2 _ (by omega)).trans hywA1
   have hBwA2 := hBwA1.trans (hbwA2.mono (by omega))
   have howA2 := Zak howA1 (by omega) hkwA2
   have cwA20 := (World.cell?_of_block (a := ⟨g2, 0, none⟩) (hkwA2 g2 (by omega))).trans cwA10
   have cwA21 := (World.cell?_of_block (a := ⟨g2, 1, none⟩) (hkwA2 g2 (by omega))).trans cwA11
   have cwA22 := (World.cell?_of_block (a := ⟨g2, 2, none⟩) (hkwA2 g2 (by omega))).trans cwA12
   have cwA23 := (World.cell?_of_block (a := ⟨g2, 3, none⟩) (hkwA2 g2 (by omega))).trans cwA13
   clear hywA1 howA1 cwA10 cwA11 cwA12 cwA13 hvwA1 hBwA1 hbwA2 hkwA2
   go_wp2_with (refine Zaa rfl 3 _ _ rfl w2.heap.size 7 (.int .i64 fr) #[.int .i64 fr] rfl rfl rfl rfl 81 #[.slice a1 (mvN 0 xs (tdR m)).length q1, .int .i64 m.p, .int .i64 fs, .int .i64 fe, .int .i64 fd, .int .i64 m.t, .int .i64 m.q, .int .i64 m.r] #[.slice a1 (mvN 0 xs (tdR m)).length q1, .int .i64 m.p, .int .i64 fs, .int .i64 fe, .int .i64 fd, .int .i64 m.t, .int .i64 m.q, .int .i64 fr] hvwA2 (by simp) (by kernel_rfl) rfl ?_)
   intro wA3 hvwA3 hbwA3 hswA3 hkwA3
   have hywA3 := (hkwA3 _ (by omega)).trans hywA2
   have hBwA3 := hBwA2.trans (hbwA3.mono (by omega))
   have howA3 := Zak howA2 (by omega) hkwA3
   have cwA30 := (World.cell?_of_block (a := ⟨g2, 0, none⟩) (hkwA3 g2 (by omega))).trans cwA20
   have cwA31 := (World.cell?_of_block (a := ⟨g2, 1, none⟩) (hkwA3 g2 (by omega))).trans cwA21
   have cwA32 := (World.cell?_of_block (a := ⟨g2, 2, none⟩) (hkwA3 g2 (by omega))).trans cwA22
   have cwA33 := (World.cell?_of_block (a := ⟨g2, 3, none⟩) (hkwA3 g2 (by omega))).trans cwA23
   clear hywA2 howA2 cwA20 cwA21 cwA22 cwA23 hvwA2 hBwA2 hbwA3 hkwA3
   go_wp2_with (first
    | (refine wpList_load_row rfl 81 _ rfl w2.heap.size rfl 81 #[.slice a1 (mvN 0 xs (tdR m)).length q1, .int .i64 m.p, .int .i64 fs, .int .i64 fe, .int .i64 fd, .int .i64 m.t, .int .i64 m.q, .int .i64 fr] (0, 0) _ hvwA3 Tryz.underlying81 rfl Zmc ?_)
    | (refine Zac rfl 81 _ _ rfl (w.heap.size + 1) #[.slice a1 (mvN 0 xs (tdR m)).length q1, .int .i64 m.p, .int .i64 fs, .int .i64 fe, .int .i64 fd, .int .i64 m.t, .int .i64 m.q, .int .i64 fr] rfl rfl 81 #[.slice none 0 0, .int .i64 0, .int .i64 0, .int .i64 0, .int .i64 0, .int .i64 0, .int .i64 0, .int .i64 0] hywA3 Zmc rfl (by simp [Value.oneCell']) ?_))
   intro wB hvB hbB hsB hkB
   go_wp2
   refine bodyPost_ret (results_cell_row rfl _ _ (w.heap.size + 1) 81 _ (0, 0) _ rfl hvB Tryz.underlying81 rfl Zmc) rfl ⟨.slice a1 (mvN 0 xs (tdR m)).length q1, by rw [HM.out], ?_, hBwA3.trans (hbB.mono (by omega))⟩
   rw [HL.out]
   exact Zaf (Zak howA3 (by omega) hkB) (by omega)
 ·have hb1 : (m.t == 1) = false := by simp [h1]
  have hb2 : (m.t == 2) = false := by simp [h2]
  clear h1 h2
  rw [hA] at HT
  go_enter Tryz.func202, Tryz.ntmps202
  have L1 : IRow (W0.alloc (Obj.cells #[.int .i64 m.s, .int .i64 m.e, .int .i64 m.d] 3)) (.slice (some ⟨w.heap.size + 1 + 1, 0, none⟩) 3 3) (tdR m) := by
   rw [HT.out]
   exact IRow.of_own (zs := [m.s, m.e, m.d]) hO3 (by simp)
  have hb1 := hBL
  go_wp2_with fail
  rw [HW0.out]
  generalize W0.alloc (Obj.cells #[.int .i64 m.s, .int .i64 m.e, .int .i64 m.d] 3) = w1 at *
  have hB1 := hB0.trans (hb1.mono hB0.size)
  have hx1 := (hb1.block _ (by omega)).trans hx0
  have hy1 := (hb1.block _ (by omega)).trans hy0
  have hl1 := (bl hy1)
  have cx1 : w1.cell? ⟨w.heap.size, 0, none⟩ = some (.slice ao xs.length cap) := cell_of_row w1 _ 0 _ _ _ hx1
  clear hO3 hBL HW0 hsz3 hb1 hB0 hx0 hy0
  refine (ZcA _ _ xs (tdR m) _ (R.below hB1) L1).mono ?_
  rintro e w2 ⟨rfl, hb2⟩
  have hB2 := hB1.trans (hb2.mono hB1.size)
  have hx2 := (hb2.block _ (by omega)).trans hx1
  have hy2 := (hb2.block _ hl1).trans hy1
  have hl2 := (bl hy2)
  have L2 := L1.below hb2
  have cx2 : w2.cell? ⟨w.heap.size, 0, none⟩ = some (.slice ao xs.length cap) := cell_of_row w2 _ 0 _ _ _ hx2
  clear hB1 hb2 hx1 hy1 hl1 L1 cx1
  cases hal : (allI xs (tdR m) && Zap xs) with
  | false =>
   have hno : tdOk xs m = false := by unfold tdOk; rw [Bool.and_comm]; exact hal
   have HL : Hid (tdL xs m = xs) := by unfold Hid tdL; rw [hno]; rfl
   have HM : Hid (tdM xs m = m) := by unfold Hid tdM; rw [hno]; rfl
   go_wp2_with (refine wpList_load_row rfl 81 _ rfl w.heap.size rfl 81 #[.slice ao xs.length cap, .int .i64 m.p, .int .i64 m.s, .int .i64 m.e, .int .i64 m.d, .int .i64 m.t, .int .i64 m.q, .int .i64 m.r] (0, 0) _ hx2 Tryz.underlying81 rfl Zmc ?_)
   refine (Zcy ao cap xs m _ (R.below hB2) hlen).mono ?_
   rintro e w9 ⟨a9, q9, rfl, ho9, hb9⟩
   have hy9 := (hb9.block _ hl2).trans hy2
   have hB9 := hB2.trans (hb9.mono hB2.size)
   go_wp2_with (refine Zac rfl 81 _ _ rfl (w.heap.size + 1) #[.slice a9 xs.length q9, .int .i64 m.p, .int .i64 m.s, .int .i64 m.e, .int .i64 m.d, .int .i64 m.t, .int .i64 m.q, .int .i64 m.r] rfl rfl 81 #[.slice none 0 0, .int .i64 0, .int .i64 0, .int .i64 0, .int .i64 0, .int .i64 0, .int .i64 0, .int .i64 0] hy9 Zmc rfl (by simp [Value.oneCell']) ?_)
   intro wB hvB hbB hsB hkB
   go_wp2
   refine bodyPost_ret (results_cell_row rfl _ _ (w.heap.size + 1) 81 _ (0, 0) _ rfl hvB Tryz.underlying81 rfl Zmc) rfl ⟨.slice a9 xs.length q9, by rw [HM.out], ?_, hB9.trans (hbB.mono (by omega))⟩
   rw [HL.out]
   exact Zaf (Zak ho9 hl2 hkB) (by omega)
  | true =>
   have hal2 := hal
   simp only [Bool.and_eq_true] at hal2
   have hok : tdOk xs m = true := by unfold tdOk; rw [Bool.and_comm]; exact hal
   have HL : Hid (tdL xs m = mvN 0 xs (tdR m)) := by unfold Hid tdL; rw [hok]; rfl
   have HM : Hid (tdM xs m = ⟨m.p, tdF xs m m.s, tdF xs m m.e, tdF xs m m.d, m.t, m.q, m.r⟩) := by unfold Hid tdM; rw [hok, hA]; rfl
   have hlR : (tdR m).length = 3 := by rw [Zgr, hA]; rfl
   have HR : Hid (mvR 0 xs (tdR m) (tdR m) = (tdR m).map (tdF xs m)) := rfl
   have hx5 := (Below.heap_alloc w2 (Obj.cells #[.slice ao xs.length cap, .int .i64 m.p, .int .i64 m.s, .int .i64 m.e, .int .i64 m.d, .int .i64 m.t, .int .i64 m.q, .int .i64 m.r] 81) w.heap.size (by omega)).trans hx2
   have hX := heap_alloc_new w2 (Obj.cells #[.slice ao xs.length cap, .int .i64 m.p, .int .i64 m.s, .int .i64 m.e, .int .i64 m.d, .int .i64 m.t, .int .i64 m.q, .int .i64 m.r] 81)
   have hB5 := hB2.alloc hB2.size (Obj.cells #[.slice ao xs.length cap, .int .i64 m.p, .int .i64 m.s, .int .i64 m.e, .int .i64 m.d, .int .i64 m.t, .int .i64 m.q, .int .i64 m.r] 81)
   have h25 : Below w2.heap.size w2 (w2.alloc (Obj.cells #[.slice ao xs.length cap, .int .i64 m.p, .int .i64 m.s, .int .i64 m.e, .int .i64 m.d, .int .i64 m.t, .int .i64 m.q, .int .i64 m.r] 81)) := (Below.refl _ _).alloc (Nat.le_refl _) _
   have hlw2 : w.heap.size < w2.heap.size := by omega
   have hs5 : (w2.alloc (Obj.cells #[.slice ao xs.length cap, .int .i64 m.p, .int .i64 m.s, .int .i64 m.e, .int .i64 m.d, .int .i64 m.t, .int .i64 m.q, .int .i64 m.r] 81)).heap.size = w2.heap.size + 1 := by simp
   go_wp2_with (first
    | (refine wpList_load_row rfl 81 _ rfl w.heap.size rfl 81 #[.slice ao xs.length cap, .int .i64 m.p, .int .i64 m.s, .int .i64 m.e, .int .i64 m.d, .int .i64 m.t, .int .i64 m.q, .int .i64 m.r] (0, 0) _ hx2 Tryz.underlying81 rfl Zmc ?_)
    | fail)
   refine (Zcp ao cap _ xs (tdR m) _ (R.below hB5) (L2.below h25) hal2.2 hal2.1 (by omega)).mono ?_
   rintro e w4 ⟨v1, v2, rfl, ho1, ho2, hb4⟩
   rw [HR.out] at ho2
   rw [hs5] at ho1 ho2
   obtain ⟨a1, q1, rfl⟩ := Zae ho1
   have hl30 : 0 < (tdR m).length := by omega
   rcases ho2.2 with ⟨_, hn0⟩ | ⟨g2, q2, cur2, e2, hg2, _, _⟩
   ·omega
   subst e2
   have hB4 := hB5.trans (hb4.mono hB5.size)
   have hX4 := (hb4.block _ (by omega)).trans hX
   have hy4 := (hb4.block _ (by omega)).trans ((Below.heap_alloc w2 _ _ hl2).trans hy2)
   have y0 : w4.cell? ⟨g2, 0, none⟩ = some (.int .i64 (tdF xs m m.s)) := (ho2.cellAt 0 (by omega)).trans (by unfold tdR; rw [hA]; rfl)
   have y1 : w4.cell? ⟨g2, 1, none⟩ = some (.int .i64 (tdF xs m m.e)) := (ho2.cellAt 1 (by omega)).trans (by unfold tdR; rw [hA]; rfl)
   have y2 : w4.cell? ⟨g2, 2, none⟩ = some (.int .i64 (tdF xs m m.d)) := (ho2.cellAt 2 (by omega)).trans (by unfold tdR; rw [hA]; rfl)
   have hgl : g2 < w4.heap.size := World.block_lt_of_cell? _ _ y0
   have hXl : w2.heap.size < w4.heap.size := (bl hX4)
   have hyl : w.heap.size + 1 < w4.heap.size := (bl hy4)
   generalize tdF xs m m.s = fs at *
   generalize tdF xs m m.e = fe at *
   generalize tdF xs m m.d = fd at *
   have hB5' := hB4.alloc hB4.size (Obj.cells #[.slice a1 (mvN 0 xs (tdR m)).length q1] 40)
   have hX5 := (Below.heap_alloc w4 (Obj.cells #[.slice a1 (mvN 0 xs (tdR m)).length q1] 40) _ hXl).trans hX4
   have hy5 := (Below.heap_alloc w4 (Obj.cells #[.slice a1 (mvN 0 xs (tdR m)).length q1] 40) _ hyl).trans hy4
   have ho5 := ho1.alloc (Obj.cells #[.slice a1 (mvN 0 xs (tdR m)).length q1] 40)
   have keep : ∀ (i : Nat), (w4.alloc (Obj.cells #[.slice a1 (mvN 0 xs (tdR m)).length q1] 40)).cell? ⟨g2, i, none⟩ = w4.cell? ⟨g2, i, none⟩ := fun i => World.cell?_of_block (w := w4) (Below.heap_alloc w4 _ g2 hgl)
   have yy0 := (keep 0).trans y0
   have yy1 := (keep 1).trans y1
   have yy2 := (keep 2).trans y2
   rw [hlR]
   clear keep cx2 hx2 hy2 hx5 hX hB5 h25 hb4 ho2 ho1 hB4 hX4 hy4 hlR hl30 L2 hB2 y0 y1 y2
   go_wp2_with (refine Zaa rfl 40 _ _ rfl w2.heap.size 0 (.agg #[.slice a1 (mvN 0 xs (tdR m)).length q1]) #[.slice a1 (mvN 0 xs (tdR m)).length q1] rfl rfl rfl rfl 81 #[.slice ao xs.length cap, .int .i64 m.p, .int .i64 m.s, .int .i64 m.e, .int .i64 m.d, .int .i64 m.t, .int .i64 m.q, .int .i64 m.r] #[.slice a1 (mvN 0 xs (tdR m)).length q1, .int .i64 m.p, .int .i64 m.s, .int .i64 m.e, .int .i64 m.d, .int .i64 m.t, .int .i64 m.q, .int .i64 m.r] hX5 (by simp) (by kernel_rfl) rfl ?_)
   intro wA hvwA hbwA hswA hkwA
   have hywA := (hkwA _ (by omega)).trans hy5
   have hBwA := hB5'.trans (hbwA.mono (by omega))
   have howA := Zak ho5 (by omega) hkwA
   have cwA0 := (World.cell?_of_block (a := ⟨g2, 0, none⟩) (hkwA g2 (by omega))).trans yy0
   have cwA1 := (World.cell?_of_block (a := ⟨g2, 1, none⟩) (hkwA g2 (by omega))).trans yy1
   have cwA2 := (World.cell?_of_block (a := ⟨g2, 2, none⟩) (hkwA g2 (by omega))).trans yy2
   clear hy5 ho5 yy0 yy1 yy2 hX5 hkwA hbwA hB5'
   go_wp2_with (refine Zaa rfl 3 _ _ rfl w2.heap.size 2 (.int .i64 fs) #[.int .i64 fs] rfl rfl rfl rfl 81 #[.slice a1 (mvN 0 xs (tdR m)).length q1, .int .i64 m.p, .int .i64 m.s, .int .i64 m.e, .int .i64 m.d, .int .i64 m.t, .int .i64 m.q, .int .i64 m.r] #[.slice a1 (mvN 0 xs (tdR m)).length q1, .int .i64 m.p, .int .i64 fs, .int .i64 m.e, .int .i64 m.d, .int .i64 m.t, .int .i64 m.q, .int .i64 m.r] hvwA (by simp) (by kernel_rfl) rfl ?_)
   intro wA0 hvwA0 hbwA0 hswA0 hkwA0
   have hywA0 := (hkwA0 _ (by omega)).trans hywA
   have hBwA0 := hBwA.trans (hbwA0.mono (by omega))
   have howA0 := Zak howA (by omega) hkwA0
   have cwA00 := (World.cell?_of_block (a := ⟨g2, 0, none⟩) (hkwA0 g2 (by omega))).trans cwA0
   have cwA01 := (World.cell?_of_block (a := ⟨g2, 1, none⟩) (hkwA0 g2 (by omega))).trans cwA1
   have cwA02 := (World.cell?_of_block (a := ⟨g2, 2, none⟩) (hkwA0 g2 (by omega))).trans cwA2
   clear hywA howA cwA0 cwA1 cwA2 hvwA hBwA hbwA0 hkwA0
   go_wp2_with (refine Zaa rfl 3 _ _ rfl w2.heap.size 3 (.int .i64 fe) #[.int .i64 fe] rfl rfl rfl rfl 81 #[.slice a1 (mvN 0 xs (tdR m)).length q1, .int .i64 m.p, .int .i64 fs, .int .i64 m.e, .int .i64 m.d, .int .i64 m.t, .int .i64 m.q, .int .i64 m.r] #[.slice a1 (mvN 0 xs (tdR m)).length q1, .int .i64 m.p, .int .i64 fs, .int .i64 fe, .int .i64 m.d, .int .i64 m.t, .int .i64 m.q, .int .i64 m.r] hvwA0 (by simp) (by kernel_rfl) rfl ?_)
   intro wA1 hvwA1 hbwA1 hswA1 hkwA1
   have hywA1 := (hkwA1 _ (by omega)).trans hywA0
   have hBwA1 := hBwA0.trans (hbwA1.mono (by omega))
   have howA1 := Zak howA0 (by omega) hkwA1
   have cwA10 := (World.cell?_of_block (a := ⟨g2, 0, none⟩) (hkwA1 g2 (by omega))).trans cwA00
   have cwA11 := (World.cell?_of_block (a := ⟨g2, 1, none⟩) (hkwA1 g2 (by omega))).trans cwA01
   have cwA12 := (World.cell?_of_block (a := ⟨g2, 2, none⟩) (hkwA1 g2 (by omega))).trans cwA02
   clear hywA0 howA0 cwA00 cwA01 cwA02 hvwA0 hBwA0 hbwA1 hkwA1
   go_wp2_with (refine Zaa rfl 3 _ _ rfl w2.heap.size 4 (.int .i64 fd) #[.int .i64 fd] rfl rfl rfl rfl 81 #[.slice a1 (mvN 0 xs (tdR m)).length q1, .int .i64 m.p, .int .i64 fs, .int .i64 fe, .int .i64 m.d, .int .i64 m.t, .int .i64 m.q, .int .i64 m.r] #[.slice a1 (mvN 0 xs (tdR m)).length q1, .int .i64 m.p, .int .i64 fs, .int .i64 fe, .int .i64 fd, .int .i64 m.t, .int .i64 m.q, .int .i64 m.r] hvwA1 (by simp) (by kernel_rfl) rfl ?_)
   intro wA2 hvwA2 hbwA2 hswA2 hkwA2
   have hywA2 := (hkwA2 _ (by omega)).trans hywA1
   have hBwA2 := hBwA1.trans (hbwA2.mono (by omega))
   have howA2 := Zak howA1 (by omega) hkwA2
   have cwA20 := (World.cell?_of_block (a := ⟨g2, 0, none⟩) (hkwA2 g2 (by omega))).trans cwA10
   have cwA21 := (World.cell?_of_block (a := ⟨g2, 1, none⟩) (hkwA2 g2 (by omega))).trans cwA11
   have cwA22 := (World.cell?_of_block (a := ⟨g2, 2, none⟩) (hkwA2 g2 (by omega))).trans cwA12
   clear hywA1 howA1 cwA10 cwA11 cwA12 hvwA1 hBwA1 hbwA2 hkwA2
   go_wp2_with (first
    | (refine wpList_load_row rfl 81 _ rfl w2.heap.size rfl 81 #[.slice a1 (mvN 0 xs (tdR m)).length q1, .int .i64 m.p, .int .i64 fs, .int .i64 fe, .int .i64 fd, .int .i64 m.t, .int .i64 m.q, .int .i64 m.r] (0, 0) _ hvwA2 Tryz.underlying81 rfl Zmc ?_)
    | (refine Zac rfl 81 _ _ rfl (w.heap.size + 1) #[.slice a1 (mvN 0 xs (tdR m)).length q1, .int .i64 m.p, .int .i64 fs, .int .i64 fe, .int .i64 fd, .int .i64 m.t, .int .i64 m.q, .int .i64 m.r] rfl rfl 81 #[.slice none 0 0, .int .i64 0, .int .i64 0, .int .i64 0, .int .i64 0, .int .i64 0, .int .i64 0, .int .i64 0] hywA2 Zmc rfl (by simp [Value.oneCell']) ?_))
   intro wB hvB hbB hsB hkB
   go_wp2
   refine bodyPost_ret (results_cell_row rfl _ _ (w.heap.size + 1) 81 _ (0, 0) _ rfl hvB Tryz.underlying81 rfl Zmc) rfl ⟨.slice a1 (mvN 0 xs (tdR m)).length q1, by rw [HM.out], ?_, hBwA2.trans (hbB.mono (by omega))⟩
   rw [HL.out]
   exact Zaf (Zak howA2 (by omega) hkB) (by omega)
def mpN (M : Mc) : List Int := [M.p, M.t, M.q, M.s, M.e, M.d, M.r]
def mpL (xs : List Nd) (m : Mc) : List Int := (mpN (tdM xs m)).flatMap encI ++ Zbw (tdL xs m)
def mpR (ns : List Nd) (is : List In) (ds : List Df) (xs : List Nd) (m : Mc) : ByteArray := if Za0 ns is ds xs m then strOfNums (mpL xs m) else ByteArray.empty
theorem Zbt {ns : List Nd} {is : List In} {ds : List Df} {xs : List Nd} {m : Mc} (h : Za0 ns is ds xs m = true) : Zap xs = true /\ allI xs (tdR m) = true /\ m.p <= 400 /\ m.t <= 3 /\ m.q <= 19 /\ m.r <= 3000 := by
 simp only [Za0, Bool.and_eq_true] at h
 obtain ⟨⟨⟨hc, hp⟩, ha⟩, hs⟩ := h
 have hl := ZbB hp
 have hi : is.length <= 400 := by simp only [Za3, Bool.and_eq_true, decide_eq_true_eq] at hc; exact hc.1.2.1
 refine ⟨hp, ?_⟩
 unfold Zby at hs
 split at hs
 ·rename_i h0
  simp only [Zb1, Bool.and_eq_true, decide_eq_true_eq] at hs
  refine ⟨?_, by omega, by omega, by omega, by omega⟩
  unfold tdR argB
  simpa [h0] using ha
 ·split at hs
  ·rename_i h0
   simp only [Zb1, askB, hasI, Bool.and_eq_true, decide_eq_true_eq] at hs
   refine ⟨?_, by omega, by omega, by omega, by omega⟩
   unfold tdR argB
   simp only [allI, List.all_cons, List.all_nil, Bool.and_true, Bool.and_eq_true, hasI, decide_eq_true_eq] at ha
   simp [h0, allI, hasI]
   omega
  ·split at hs
   ·rename_i h0
    simp only [hasI, Bool.and_eq_true, decide_eq_true_eq] at hs
    refine ⟨?_, by omega, by omega, by omega, by omega⟩
    unfold tdR argB
    simp only [allI, List.all_cons, List.all_nil, Bool.and_true, Bool.and_eq_true, hasI, decide_eq_true_eq] at ha
    simp [h0, allI, hasI]
    omega
   ·split at hs
    ·rename_i h0
     simp only [Bool.and_eq_true, decide_eq_true_eq] at hs
     refine ⟨?_, by omega, by omega, by omega, by omega⟩
     unfold tdR argB
     simpa [h0] using ha
    ·cases hs
theorem ZcE (xs : List Nd) (m : Mc) (hp : Zap xs = true) (ha : allI xs (tdR m) = true) (r : Int) (hr : r ∈ tdR m) : tdF xs m r <= 3000 := by
 have hl := ZbB hp
 have hh : hasI xs r = true := by
  unfold allI at ha
  exact List.all_eq_true.1 ha r hr
 simp only [hasI, Bool.and_eq_true, decide_eq_true_eq] at hh
 have ht := Zei xs (tdR m) r hr hh.1 hh.2
 have I := Zjg 0 xs (Zas xs (tdR m)) (fun i x h => Za9 hp h) (ZbU xs (tdR m) (fun i x h => Za9 hp h))
 obtain ⟨x, hx⟩ : ∃ x, xs[r.toNat]? = some x := ⟨xs[r.toNat]'(by omega), by simp⟩
 obtain ⟨p, e1, e2, _⟩ := I.at_ r.toNat x (by omega) hx ht
 unfold tdF
 rw [e1]
 omega
theorem Zgw {ns : List Nd} {is : List In} {ds : List Df} {xs : List Nd} {m : Mc} (h : Za0 ns is ds xs m = true) : (∀ z ∈ mpN (tdM xs m), z <= 9223372036854775807) /\ (∀ x ∈ tdL xs m, NdOk x) /\ (tdL xs m).length <= 3000 := by
 obtain ⟨hp, ha, h1, h2, h3, h4⟩ := Zbt h
 have hl := ZbB hp
 have hok : tdOk xs m = true := by unfold tdOk; rw [hp, ha]; rfl
 have hm := Zf8 0 xs (tdR m)
 refine ⟨?_, ?_, ?_⟩
 ·have e1 := ZcE xs m hp ha m.s (by unfold tdR; split <;> simp)
  have e2 := ZcE xs m hp ha m.e (by unfold tdR; split <;> simp)
  have e3 := ZcE xs m hp ha m.d (by unfold tdR; split <;> simp)
  have e4 : (if argB m then tdF xs m m.r else m.r) <= 3000 := by
   split
   ·rename_i hA; exact ZcE xs m hp ha m.r (by unfold tdR; rw [if_pos hA]; simp)
   ·exact h4
  intro z hz
  unfold mpN tdM at hz
  rw [hok, if_pos rfl] at hz
  simp only [List.mem_cons, List.not_mem_nil, or_false] at hz
  rcases hz with rfl | rfl | rfl | rfl | rfl | rfl | rfl <;> omega
 ·unfold tdL
  rw [hok, if_pos rfl]
  exact ZgT 0 xs (tdR m) hp (by omega)
 ·unfold tdL
  rw [hok, if_pos rfl]
  omega
theorem Zlb (M : Mc) : ((mpN M).flatMap encI).length <= 63 := Zg4 (mpN M)
end Go.Proofs.YtfmafkebddojjaaGreatDoor
