/-
  Texts that stood by themselves, laid into one.
-/
import Derived.Test.YtkchakcebdenjaaGreatLMakeM
import Derived.Test.YtkchakcebdenjaaGreatCodeM
import Derived.Test.YtkchakcebdenjaaGreatLminM
import Derived.Test.YtkchakcebdenjaaGreatSCpM
import Derived.Test.YtkchakcebdenjaaGreatStrsM
import Derived.Test.YtkchakcebdenjaaGreatStore2M
import Derived.Deep.MidRow
import Derived.Deep.RegionHeld3
/-
  The law FnExactListOf, walked: at every argument the law returns true.
-/
namespace Go.Proofs.YtkchakcebdenjaaGreat
open Go.RowKit
def OwnI (w : World) (lo hi : Nat) (v : Value) (zs : List Int) : Prop := w.ownsRow lo 3 1 v zs.length (iv zs) ∧ (∀ k, v.ownBlock = some k → k < hi)
theorem OwnI.mk' {w : World} {lo : Nat} {v : Value} {zs : List Int} (h : w.ownsRow lo 3 1 v zs.length (iv zs)) : OwnI w lo w.heap.size v zs := ⟨h, fun k hk => (h.lt k hk).2⟩
theorem OwnI.below {w w' : World} {lo hi : Nat} {v : Value} {zs : List Int} (h : OwnI w lo hi v zs) (hb : Below w.heap.size w w') : OwnI w' lo hi v zs := ⟨own_below h.1 hb, h.2⟩
theorem OwnI.row {w : World} {lo hi : Nat} {v : Value} {zs : List Int} (h : OwnI w lo hi v zs) (hm : zs.length ≤ 4194304) : IRow w v zs := IRow.of_own h.1 (by omega)
theorem own_two {w : World} {B B' : Nat} {e e' : TypeId} {k k' : Nat} {v v' : Value} {n n' : Nat} {xs xs' : List Value} (h : w.ownsRow B e k v n xs) (h' : w.ownsRow B' e' k' v' n' xs') (hne : e ≠ e') : v.ownBlock = none ∨ v.ownBlock ≠ v'.ownBlock := by
  rcases h.2 with ⟨rfl, _⟩ | ⟨g, cap, cur, rfl, hB, hg, _⟩
  · exact Or.inl rfl
  · exact Or.inr fun e => own_ne h' hg hne e.symm
theorem OwnI.keptN {w w' : World} {lo hi lo' hi' b' : Nat} {v v' : Value} {zs : List Int} {xs' : List Nd} (h : OwnI w lo hi v zs) (V : Var w b' lo' hi' v' xs') (hg : w.grownBy w' v'.ownBlock) : OwnI w' lo hi v zs :=
  ⟨h.1.kept hg (own_two h.1 V.2.1 (by decide)), h.2⟩
theorem OwnI.kept {w w' : World} {lo hi lo' hi' : Nat} {v v' : Value} {zs zs' : List Int} (h : OwnI w lo hi v zs) (h' : OwnI w lo' hi' v' zs') (hg : w.grownBy w' v'.ownBlock) (hd : hi ≤ lo' ∨ hi' ≤ lo) : OwnI w' lo hi v zs := by
  refine ⟨h.1.kept hg ?_, h.2⟩
  cases hv : v.ownBlock with
  | none => exact Or.inl rfl
  | some k =>
    refine Or.inr fun e => ?_
    have k1 := h.2 k hv
    have k2 := (h.1.lt k hv).1
    have k3 := h'.2 k e.symm
    have k4 := (h'.1.lt k e.symm).1
    omega
theorem OwnI.block {w w' : World} {lo hi : Nat} {v : Value} {zs : List Int} (h : OwnI w lo hi v zs) (hg : w.grownBy w' v.ownBlock) {j : Nat} {c : Array Value} {t : TypeId} (hj : w.heap[j]? = some (.cells c t (0, 0))) (hte : t ≠ 3) : w'.heap[j]? = some (.cells c t (0, 0)) :=
  (hg.block j (Array.getElem?_eq_some_iff.1 hj).1 (fun e => own_ne h.1 hj hte e.symm)).trans hj
theorem below_markI {w w' w0 : World} {B lo hi : Nat} {v : Value} {zs : List Int} (h0 : Below B w0 w) (h : OwnI w lo hi v zs) (hg : w.grownBy w' v.ownBlock) (hlo : B ≤ lo) (hB : B ≤ w.heap.size) : Below B w0 w' :=
  h0.grown hg hB (fun k hk => Nat.le_trans hlo (h.1.lt k hk).1)
end Go.Proofs.YtkchakcebdenjaaGreat
/-
  Contract of the laws' own helper toIntS.
-/
namespace Go.Proofs.YtkchakcebdenjaaGreat
open Go.RowKit
theorem Tryz.infoI3 : (Tryz.prog.info? 3).map (fun i => (i.zero, i.size, i.bytes)) = some (some (.int .i64 0), 1, 8) := by kernel_rfl
def icopied (zs : List Int) (j : Nat) : List Int := zs.take j ++ List.replicate (zs.length - j) 0
theorem icopied_length (zs : List Int) (j : Nat) (h : j ≤ zs.length) : (icopied zs j).length = zs.length := by simp [icopied]; omega
theorem icopied_full (zs : List Int) : icopied zs zs.length = zs := by simp [icopied]
theorem icopied_zero (zs : List Int) : iv (icopied zs 0) = (madeCells #[Value.int .i64 0] zs.length).toList := by
  rw [toList_madeCells_one]
  simp [icopied, iv]
theorem icopied_set (zs : List Int) (j : Nat) (h : j < zs.length) : (icopied zs j).set j zs[j] = icopied zs (j + 1) := by
  unfold icopied
  rw [show zs.length - j = zs.length - (j + 1) + 1 by omega, List.replicate_succ, List.take_succ_eq_append_getElem h, List.set_append_right _ _ (by simp; omega)]
  have e : j - (List.take j zs).length = 0 := by simp; omega
  rw [e, List.set_cons_zero, List.append_assoc]
  rfl
set_option maxHeartbeats 400000 in
theorem toints_any (v : Value) (zs : List Int) (w : World) (h : IRow w v zs) (hm : zs.length ≤ 2097152) :
    Calls Tryz.prog 8 #[v] w fun e w' => ∃ v', e = .returned v' ∧ w'.ownsRow w.heap.size 3 1 v' zs.length (iv zs) ∧ Below w.heap.size w w' := by
  obtain ⟨ao, cap, rfl, hcap, _, hcell⟩ := h
  obtain ⟨i0, hi, hz0, hz1, hz2⟩ := info_parts Tryz.infoI3
  have hbytes : i0.bytes * zs.length ≤ 281474976710656 := by rw [hz2]; omega
  have hmax : zs.length ≤ maxLen := by unfold maxLen; omega
  go_enter Tryz.func8, Tryz.ntmps8
  go_wp2_with (at_make; refine wpList_make_full _ rfl _ _ 25 rfl w.heap.size 3 i0 (.int .i64 0) 1 Tryz.underlying25 hi hz0 hz1 _ _ _ _ zs.length rfl rfl rfl rfl hbytes hmax (Nat.le_refl _) ?_)
  intro w1 hown hgrow
  have hbel : Below w.heap.size w w1 := (Below.refl _ _).grown hgrow (Nat.le_refl _) (by intro k hk; cases hk)
  clear hgrow
  go_wp2
  go_loopw [4] (fun i wr => ∃ j : Nat, j ≤ zs.length ∧ i = .int .i64 j ∧ wr.ownsRow w.heap.size 3 1 (.slice (some ⟨w.heap.size, 0, none⟩) zs.length zs.length) zs.length (iv (icopied zs j)) ∧ Below w.heap.size w wr) (fun i _ => zs.length - (intOf i).toNat)
  case atStart => exact ⟨0, by omega, rfl, by rw [icopied_zero]; exact hown, hbel⟩
  case round =>
    clear hown hbel hbytes hmax
    obtain ⟨j, hj, rfl, hown, hbel⟩ := hrel
    by_cases hlt : j < zs.length
    · obtain ⟨g, o, hao, hg, hcell⟩ := hcell (by intro e; subst e; simp at hlt)
      have hc0 : wr.cell? ⟨g, o + j, none⟩ = some (.int .i64 (zs.getD j 0)) := (hbel.cell (p := ⟨g, o + j, none⟩) hg).trans (hcell j hlt)
      have hc := hown.cellAt j (by omega)
      rw [iv_get _ _ (by rw [icopied_length _ _ hj]; exact hlt)] at hc
      have hf := hown.frozenAt j
      have hs := (hown.stored j (.int .i64 zs[j])).1
      rw [iv_set, icopied_set zs j hlt] at hs
      clear hcell
      go_wp2
      go_roundw
      case rel =>
        refine ⟨j + 1, by omega, by go_num, ?_, hbel.setCell (Nat.le_refl _) _⟩
        exact hs
      case measure => simp [intOf]; omega
    · go_wp2
      go_ret
      have : j = zs.length := by omega
      subst this
      rw [icopied_full] at hown
      exact ⟨_, rfl, hown, hbel⟩
end Go.Proofs.YtkchakcebdenjaaGreat
/-
  Contracts of the laws' helpers markInstrS, markDefS, markCode: what is marked is turned, and nothing else. No condition.
-/
namespace Go.Proofs.YtkchakcebdenjaaGreat
open Go.RowKit
end Go.Proofs.YtkchakcebdenjaaGreat
/-
  Helpers for regions that draw their order and load whole structs. Nothing of the program; no condition.
-/
namespace Go.Proofs.YtkchakcebdenjaaGreat
open Go.RowKit
theorem blk_lt {w : World} {b : Nat} {o : Obj} (h : w.heap[b]? = some o) : b < w.heap.size := (Array.getElem?_eq_some_iff.1 h).1
theorem blk_bel {w w' : World} {b : Nat} {o : Obj} (h : w.heap[b]? = some o) (hb : Below w.heap.size w w') : w'.heap[b]? = some o := (hb.block _ (blk_lt h)).trans h
end Go.Proofs.YtkchakcebdenjaaGreat
