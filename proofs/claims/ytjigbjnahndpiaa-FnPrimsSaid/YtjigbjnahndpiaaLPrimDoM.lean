/-
  Texts that stood by themselves, laid into one.
-/
import Derived.Test.YtjigbjnahndpiaaLMakeM
import Derived.Test.YtjigbjnahndpiaaBackM
import Derived.Test.YtjigbjnahndpiaaFirstsM
import Derived.Test.YtjigbjnahndpiaaBsM
/-
  The law FnExactListOf, walked: at every argument the law returns true.
-/
namespace Go.Proofs.Ytjigbjnahndpiaa
open Go.RowKit

/-- A slice of ints of the call's own, its row between lo and hi. -/
def OwnI (w : World) (lo hi : Nat) (v : Value) (zs : List Int) : Prop := w.ownsRow lo 3 1 v zs.length (iv zs) ∧ (∀ k, v.ownBlock = some k → k < hi)
theorem OwnI.mk' {w : World} {lo : Nat} {v : Value} {zs : List Int} (h : w.ownsRow lo 3 1 v zs.length (iv zs)) : OwnI w lo w.heap.size v zs := ⟨h, fun k hk => (h.lt k hk).2⟩
theorem OwnI.below {w w' : World} {lo hi : Nat} {v : Value} {zs : List Int} (h : OwnI w lo hi v zs) (hb : Below w.heap.size w w') : OwnI w' lo hi v zs := ⟨own_below h.1 hb, h.2⟩
theorem OwnI.row {w : World} {lo hi : Nat} {v : Value} {zs : List Int} (h : OwnI w lo hi v zs) (hm : zs.length ≤ 4194304) : IRow w v zs := IRow.of_own h.1 (by omega)
theorem own_two {w : World} {B B' : Nat} {e e' : TypeId} {k k' : Nat} {v v' : Value} {n n' : Nat} {xs xs' : List Value} (h : w.ownsRow B e k v n xs) (h' : w.ownsRow B' e' k' v' n' xs') (hne : e ≠ e') : v.ownBlock = none ∨ v.ownBlock ≠ v'.ownBlock := by
  rcases h.2 with ⟨rfl, _⟩ | ⟨g, cap, cur, rfl, hB, hg, _⟩
  · exact Or.inl rfl
  · exact Or.inr fun e => own_ne h' hg hne e.symm
theorem OwnI.keptN {w w' : World} {lo hi lo' hi' b' : Nat} {v v' : Value} {zs : List Int} {xs' : List Nd} (h : OwnI w lo hi v zs) (V : Var w b' lo' hi' v' xs') (hg : w.grownBy w' v'.ownBlock) : OwnI w' lo hi v zs :=
  ⟨h.1.kept hg (own_two h.1 V.2.1 (by decide)), h.2⟩
theorem OwnI.kept {w w' : World} {lo hi lo' hi' : Nat} {v v' : Value} {zs zs' : List Int} (h : OwnI w lo hi v zs) (h' : OwnI w lo' hi' v' zs') (hg : w.grownBy w' v'.ownBlock) (hd : hi ≤ lo' ∨ hi' ≤ lo) : OwnI w' lo hi v zs := by
  refine ⟨h.1.kept hg ?_, h.2⟩
  cases hv : v.ownBlock with
  | none => exact Or.inl rfl
  | some k =>
    refine Or.inr fun e => ?_
    have k1 := h.2 k hv
    have k2 := (h.1.lt k hv).1
    have k3 := h'.2 k e.symm
    have k4 := (h'.1.lt k e.symm).1
    omega
theorem OwnI.block {w w' : World} {lo hi : Nat} {v : Value} {zs : List Int} (h : OwnI w lo hi v zs) (hg : w.grownBy w' v.ownBlock) {j : Nat} {c : Array Value} {t : TypeId} (hj : w.heap[j]? = some (.cells c t (0, 0))) (hte : t ≠ 3) : w'.heap[j]? = some (.cells c t (0, 0)) :=
  (hg.block j (Array.getElem?_eq_some_iff.1 hj).1 (fun e => own_ne h.1 hj hte e.symm)).trans hj
theorem below_markI {w w' w0 : World} {B lo hi : Nat} {v : Value} {zs : List Int} (h0 : Below B w0 w) (h : OwnI w lo hi v zs) (hg : w.grownBy w' v.ownBlock) (hlo : B ≤ lo) (hB : B ≤ w.heap.size) : Below B w0 w' :=
  h0.grown hg hB (fun k hk => Nat.le_trans hlo (h.1.lt k hk).1)
theorem chain_len (xs : List Nd) (f j : Nat) (acc l : List Int) (h : chain xs f j acc = some l) : l.length ≤ acc.length + f := by
  induction f generalizing j acc with
  | zero => simp [chain] at h
  | succ f ih =>
    simp only [chain] at h
    split at h
    · cases h
    · split at h
      · have := ih _ _ h
        simp at this
        omega
      · split at h
        · cases h; omega
        · cases h
theorem listR_len (xs : List Nd) (a : Int) : (listR xs a).1.length ≤ xs.length := by
  unfold listR
  cases h : (poolB xs && hasI xs a) with
  | false => simp
  | true =>
    simp only [Bool.and_eq_true, hasI, decide_eq_true_eq] at h
    rw [if_pos rfl]
    unfold chainR
    split
    · rename_i l hl
      have := chain_len xs _ _ _ _ hl
      show l.length ≤ xs.length
      simp only [List.length_nil] at this
      omega
    · simp

end Go.Proofs.Ytjigbjnahndpiaa

/-
  Contract of the laws' own helper toIntS.
-/
namespace Go.Proofs.Ytjigbjnahndpiaa
open Go.RowKit

theorem Try.infoI3 : (Try.prog.info? 3).map (fun i => (i.zero, i.size, i.bytes)) = some (some (.int .i64 0), 1, 8) := by kernel_rfl
def icopied (zs : List Int) (j : Nat) : List Int := zs.take j ++ List.replicate (zs.length - j) 0
theorem icopied_length (zs : List Int) (j : Nat) (h : j ≤ zs.length) : (icopied zs j).length = zs.length := by simp [icopied]; omega
theorem icopied_full (zs : List Int) : icopied zs zs.length = zs := by simp [icopied]
theorem icopied_zero (zs : List Int) : iv (icopied zs 0) = (madeCells #[Value.int .i64 0] zs.length).toList := by
  rw [toList_madeCells_one]
  simp [icopied, iv]
theorem icopied_set (zs : List Int) (j : Nat) (h : j < zs.length) : (icopied zs j).set j zs[j] = icopied zs (j + 1) := by
  unfold icopied
  rw [show zs.length - j = zs.length - (j + 1) + 1 by omega, List.replicate_succ, List.take_succ_eq_append_getElem h, List.set_append_right _ _ (by simp; omega)]
  have e : j - (List.take j zs).length = 0 := by simp; omega
  rw [e, List.set_cons_zero, List.append_assoc]
  rfl

set_option maxHeartbeats 400000 in
theorem toints_any (v : Value) (zs : List Int) (w : World) (h : IRow w v zs) (hm : zs.length ≤ 2097152) :
    Calls Try.prog 18 #[v] w fun e w' => ∃ v', e = .returned v' ∧ w'.ownsRow w.heap.size 3 1 v' zs.length (iv zs) ∧ Below w.heap.size w w' := by
  obtain ⟨ao, cap, rfl, hcap, _, hcell⟩ := h
  obtain ⟨i0, hi, hz0, hz1, hz2⟩ := info_parts Try.infoI3
  have hbytes : i0.bytes * zs.length ≤ 281474976710656 := by rw [hz2]; omega
  have hmax : zs.length ≤ maxLen := by unfold maxLen; omega
  go_enter Try.func18, Try.ntmps18
  go_wp2_with (at_make; refine wpList_make_full _ rfl _ _ 27 rfl w.heap.size 3 i0 (.int .i64 0) 1 Try.underlying27 hi hz0 hz1 _ _ _ _ zs.length rfl rfl rfl rfl hbytes hmax (Nat.le_refl _) ?_)
  intro w1 hown hgrow
  have hbel : Below w.heap.size w w1 := (Below.refl _ _).grown hgrow (Nat.le_refl _) (by intro k hk; cases hk)
  clear hgrow
  go_wp2
  go_loopw [4] (fun i wr => ∃ j : Nat, j ≤ zs.length ∧ i = .int .i64 j ∧ wr.ownsRow w.heap.size 3 1 (.slice (some ⟨w.heap.size, 0, none⟩) zs.length zs.length) zs.length (iv (icopied zs j)) ∧ Below w.heap.size w wr) (fun i _ => zs.length - (intOf i).toNat)
  case atStart => exact ⟨0, by omega, rfl, by rw [icopied_zero]; exact hown, hbel⟩
  case round =>
    clear hown hbel hbytes hmax
    obtain ⟨j, hj, rfl, hown, hbel⟩ := hrel
    by_cases hlt : j < zs.length
    · obtain ⟨g, o, hao, hg, hcell⟩ := hcell (by intro e; subst e; simp at hlt)
      have hc0 : wr.cell? ⟨g, o + j, none⟩ = some (.int .i64 (zs.getD j 0)) := (hbel.cell (p := ⟨g, o + j, none⟩) hg).trans (hcell j hlt)
      have hc := hown.cellAt j (by omega)
      rw [iv_get _ _ (by rw [icopied_length _ _ hj]; exact hlt)] at hc
      have hf := hown.frozenAt j
      have hs := (hown.stored j (.int .i64 zs[j])).1
      rw [iv_set, icopied_set zs j hlt] at hs
      clear hcell
      go_wp2
      go_roundw
      case rel =>
        refine ⟨j + 1, by omega, by go_num, ?_, hbel.setCell (Nat.le_refl _) _⟩
        exact hs
      case measure => simp [intOf]; omega
    · go_wp2
      go_ret
      have : j = zs.length := by omega
      subst this
      rw [icopied_full] at hown
      exact ⟨_, rfl, hown, hbel⟩

end Go.Proofs.Ytjigbjnahndpiaa

/-
  The law FnExactPrimDo, walked: at every argument the law returns true.
-/
namespace Go.Proofs.Ytjigbjnahndpiaa
open Go.RowKit

theorem Var.keptI {w w' : World} {b lo hi lo' hi' : Nat} {v v' : Value} {xs : List Nd} {zs : List Int} (h : Var w b lo hi v xs) (h' : OwnI w lo' hi' v' zs) (hg : w.grownBy w' v'.ownBlock) : Var w' b lo hi v xs :=
  ⟨h'.block hg h.1 (by decide), h.2.1.kept hg (own_two h.2.1 h'.1 (by decide)), h.2.2.1, Nat.le_trans h.2.2.2 hg.size⟩
theorem pdL_ok {xs : List Nd} {n : Int} {zs : List Int} (hz : ∀ y ∈ xs, y.s.size ≤ maxLen) : ∀ y ∈ pdL xs n zs, y.s.size ≤ maxLen := by
  intro y hy
  unfold pdL at hy
  split at hy
  · split at hy
    · simp only [List.mem_append, List.mem_singleton] at hy
      rcases hy with hy | hy
      · exact hz y hy
      · subst hy; rw [outOc_s]; decide
    · exact hz y hy
  · simp at hy
theorem pdL_len (xs : List Nd) (n : Int) (zs : List Int) : (pdL xs n zs).length ≤ xs.length + 1 := by
  unfold pdL
  split
  · split
    · rw [List.length_append]; simp
    · omega
  · simp

set_option maxRecDepth 100000 in
set_option maxHeartbeats 1600000 in
theorem lprimdo_any (v vl : Value) (xs : List Nd) (zs : List Int) (n : Int) (w : World) (R : NRow w v xs) (L : IRow w vl zs) :
    Calls Try.prog 6 #[.agg #[v], .int .i64 n, vl] w fun e w' => e = .returned (.bool true) ∧ Below w.heap.size w w' := by
  have R' := R
  obtain ⟨ao, cap, rfl, _, _, hz, _⟩ := R'
  have L' := L
  obtain ⟨al, cl, rfl, _, hzm, _⟩ := L'
  have hB0 : Below w.heap.size w (w.alloc (Obj.cells #[.slice ao xs.length cap] 41)) := (Below.refl _ _).alloc (Nat.le_refl _) _
  by_cases hbig : 1048576 < zs.length
  · go_enter Try.func6, Try.ntmps6
    go_wp2
    go_ret
    exact ⟨rfl, hB0⟩
  go_enter Try.func6, Try.ntmps6
  go_wp2_with fail
  refine (szpool_any _ xs _ (R.below hB0)).mono ?_
  rintro e w1 ⟨r, rfl, hr0, hr1, hr2, hb1⟩
  have hx1 : w1.heap[w.heap.size]? = some (.cells #[.slice ao xs.length cap] 41 (0, 0)) := (hb1.block _ (by simp)).trans (heap_alloc_new _ _)
  have hB1 := hB0.trans (hb1.mono hB0.size)
  have hsz1 := (Array.getElem?_eq_some_iff.1 hx1).1
  clear hB0 hb1
  by_cases hr : r < 0
  · go_wp2
    go_ret
    exact ⟨rfl, hB1⟩
  have hl := (hr2 (by omega)).1
  clear hr2
  have hzl : zs.length ≤ 1048576 := by omega
  have hzL := pdL_ok (n := n) (zs := zs) hz
  have hlL0 := pdL_len xs n zs
  have hlL' : (pdL xs n zs).length ≤ 4194304 := by omega
  have hlm := nmarked_length 1 (pdL xs n zs) _ (Nat.le_refl _)
  have hc1 : w1.cell? ⟨w.heap.size, 0, none⟩ = some (.slice ao xs.length cap) := by rw [cell_of_row w1 _ 0 _ _ _ hx1]; rfl
  go_wp2_with fail
  refine (topool_any _ xs _ (R.below hB1) (by omega)).mono ?_
  rintro e w2 ⟨v2, rfl, ho2, hb2⟩
  obtain ⟨ao2, cap2, rfl⟩ := own_form ho2
  have R2 := NRow.of_own ho2 (by omega) hz
  have hB2 := hB1.trans (hb2.mono hB1.size)
  have hx2 := (hb2.block _ hsz1).trans hx1
  have hsz2 := (Array.getElem?_eq_some_iff.1 hx2).1
  clear hB1 hx1 hc1 hb2 hsz1 ho2
  go_wp2_with fail
  refine (toints_any _ zs _ (L.below hB2) (by omega)).mono ?_
  rintro e w3 ⟨v3, rfl, ho3, hb3⟩
  have L3 := IRow.of_own ho3 (by omega)
  have R3 := R2.below hb3
  obtain ⟨ao3, cap3, rfl⟩ := own_form ho3
  have hB3 := hB2.trans (hb3.mono hB2.size)
  have hx3 := (hb3.block _ hsz2).trans hx2
  have hsz3 := (Array.getElem?_eq_some_iff.1 hx3).1
  clear hB2 hx2 hb3 R2 ho3 hsz2
  go_wp2_with fail
  refine (sprimdo_any _ _ xs zs n _ R3 L3).mono ?_
  rintro e w4 ⟨v6, rfl, ho6, hb4⟩
  obtain ⟨ao6, cap6, rfl⟩ := own_form ho6
  obtain ⟨V6, hBc, hcc⟩ := Var.new hB3 hb4 ho6
  have hxc := (hcc.block _ hsz3).trans hx3
  have hk4 : w4.cell? ⟨w.heap.size, 0, none⟩ = some (.slice ao xs.length cap) := by rw [cell_of_row w4 _ 0 _ _ _ ((hb4.block _ hsz3).trans hx3)]; rfl
  have hw4 : w.heap.size < w4.heap.size := Nat.lt_of_lt_of_le hsz3 hb4.size
  have hlo6 : w.heap.size ≤ w3.heap.size := by omega
  clear hB3 hx3 hb4 R3 L3 ho6 hcc hsz3
  go_wp2_with fail
  generalize w4.alloc (Obj.cells #[.slice ao6 (pdL xs n zs).length cap6] 26) = wc at *
  generalize w4.heap.size = b6 at *
  generalize w3.heap.size = lo6 at *
  clear hk4 hw4
  have hszc := (Array.getElem?_eq_some_iff.1 hxc).1
  refine (topool_any _ xs _ (R.below hBc) (by omega)).mono ?_
  rintro e wd ⟨v8, rfl, ho8, hb8⟩
  obtain ⟨ao8, cap8, rfl⟩ := own_form ho8
  obtain ⟨V8, hBe, hce⟩ := Var.new hBc hb8 ho8
  have V6e := V6.below hce
  have hxe := (hce.block _ hszc).trans hxc
  have hs8 : wc.heap.size ≤ wd.heap.size := hb8.size
  clear V6 hBc hxc ho8 hb8 hce
  go_wp2_with fail
  have hle8 : wd.heap.size ≤ (wd.alloc (Obj.cells #[.slice ao8 xs.length cap8] 26)).heap.size := by simp
  generalize wd.alloc (Obj.cells #[.slice ao8 xs.length cap8] 26) = we at *
  refine (toints_any _ zs _ (L.below hBe) (by omega)).mono ?_
  rintro e wf ⟨v9, rfl, ho9, hb9⟩
  obtain ⟨ao9, cap9, rfl⟩ := own_form ho9
  have O9 := OwnI.mk' ho9
  have V6f := V6e.below hb9
  have V8f := V8.below hb9
  have hBf := hBe.trans (hb9.mono hBe.size)
  have hxf := (hb9.block _ (Array.getElem?_eq_some_iff.1 hxe).1).trans hxe
  have hs9 : we.heap.size ≤ wf.heap.size := hb9.size
  have hlo9 : w.heap.size ≤ we.heap.size := hBe.size
  clear V6e V8 hBe hxe ho9 hb9
  have k8 := V8f.cell
  go_wp2_with fail
  refine (iprimdo_any _ _ xs zs n _ (V8f.row (by omega) hz) (O9.row (by omega))).mono ?_
  rintro e wg ⟨v10, rfl, ho10, hb10⟩
  obtain ⟨ao10, cap10, rfl⟩ := own_form ho10
  obtain ⟨V10, hBh, hch⟩ := Var.new hBf hb10 ho10
  have O9h := O9.below hch
  have V6h := V6f.below hch
  have V8h := V8f.below hch
  have hxh := (hch.block _ (Array.getElem?_eq_some_iff.1 hxf).1).trans hxf
  have hl8 : wd.heap.size < wg.heap.size := Nat.lt_of_lt_of_le V8f.lt hb10.size
  have hl6 : b6 < wg.heap.size := Nat.lt_of_lt_of_le V6f.lt hb10.size
  have c6g : wg.cell? ⟨b6, 0, none⟩ = some (.slice ao6 (pdL xs n zs).length cap6) := (V6f.below hb10).cell
  clear O9 V6f V8f hBf hxf k8 ho10 hb10 hch
  go_wp2_with fail
  generalize wg.alloc (Obj.cells #[.slice ao10 (pdL xs n zs).length cap10] 26) = wh at *
  generalize wg.heap.size = b10 at *
  clear c6g
  refine (eqpool_any _ _ (pdL xs n zs) _ (V10.row hlL' hzL) (V6h.row hlL' hzL)).mono ?_
  rintro e wi ⟨rfl, hbi⟩
  have O9 := O9h.below hbi
  have V6f := V6h.below hbi
  have V8f := V8h.below hbi
  have V10f := V10.below hbi
  have hBf := hBh.trans (hbi.mono hBh.size)
  have hxf := (hbi.block _ (Array.getElem?_eq_some_iff.1 hxh).1).trans hxh
  have hszf := (Array.getElem?_eq_some_iff.1 hxf).1
  clear O9h V6h V8h V10 hBh hxh hbi
  have k8 := V8f.cell
  have lt8 := V8f.lt
  have jf : wi.cell? ⟨w.heap.size, 0, none⟩ = some (.slice ao xs.length cap) := by rw [cell_of_row wi _ 0 _ _ _ hxf]; rfl
  go_wp2_with fail
  go_region_held (fun w' => w'.cell? ⟨wd.heap.size, 0, none⟩ = some (.slice ao8 xs.length cap8) ∧ w'.cell? ⟨w.heap.size, 0, none⟩ = some (.slice ao xs.length cap)) (first | exact ⟨k5, j5⟩ | exact ⟨k4, j4⟩ | go_keep) (first
    | (go_at_call 17; refine (topool_any _ xs _ ?_ ?_).mono ?_; exact R.below hBf.drew; omega; rintro e wk ⟨vk, rfl, hok, hbk⟩; obtain ⟨aok, capk, rfl⟩ := own_form hok
       have hb34 : Below wi.heap.size wi wk := step_drew hbk
       have k4 := (hb34.cell (p := ⟨wd.heap.size, 0, none⟩) lt8).trans k8
       have j4 := (hb34.cell (p := ⟨w.heap.size, 0, none⟩) hszf).trans jf
       have R4 := NRow.of_own hok (by omega) hz
       have R8 := (V8f.below hb34).row (by omega) hz)
    | (go_at_call 19; refine (eqpool_any _ _ xs _ ?_ ?_).mono ?_; exact R8; exact R4; rintro e w5' ⟨rfl, hb5⟩
       have k5 := (hb5.cell (p := ⟨wd.heap.size, 0, none⟩) (Nat.lt_of_lt_of_le lt8 hb34.size)).trans k4
       have j5 := (hb5.cell (p := ⟨w.heap.size, 0, none⟩) (Nat.lt_of_lt_of_le hszf hb34.size)).trans j4))
  have hbf5 := hb34.trans (hb5.mono hb34.size)
  have O9g := O9.below hbf5
  have V6 := V6f.below hbf5
  have V8 := V8f.below hbf5
  have V10 := V10f.below hbf5
  have hB := hBf.trans (hbf5.mono hBf.size)
  have hx := (hbf5.block _ (Array.getElem?_eq_some_iff.1 hxf).1).trans hxf
  clear O9 V6f V8f V10f hBf hxf k8 lt8 jf k4 j4 R4 R8 j5 hb34 hbk hb5 hok hbf5
  go_wp2_with fail
  refine (toints_any _ zs _ (L.below hB) (by omega)).mono ?_
  rintro e w6 ⟨v6', rfl, ho6, hb6⟩
  have L6 := IRow.of_own ho6 (by omega)
  obtain ⟨aoq, capq, rfl⟩ := own_form ho6
  have O9h := O9g.below hb6
  have V6h := V6.below hb6
  have V8h := V8.below hb6
  have V10h := V10.below hb6
  have hBh := hB.trans (hb6.mono hB.size)
  have hxh := (hb6.block _ (Array.getElem?_eq_some_iff.1 hx).1).trans hx
  clear O9g V6 V8 V10 hB hx ho6 hb6 k5
  go_wp2_with fail
  refine (eqints_any _ _ zs _ (O9h.row (by omega)) L6).mono ?_
  rintro e w7 ⟨rfl, hb7⟩
  have O9 := O9h.below hb7
  have V6 := V6h.below hb7
  have V8 := V8h.below hb7
  have V10 := V10h.below hb7
  have hB := hBh.trans (hb7.mono hBh.size)
  have hx := (hb7.block _ (Array.getElem?_eq_some_iff.1 hxh).1).trans hxh
  clear O9h V6h V8h V10h hBh hxh hb7 L6
  have k8 := V8.cell
  go_wp2_with fail
  refine (markpool_any _ 1 wc.heap.size xs _ V8.2.1 (by omega) (by omega) (by omega)).mono ?_
  rintro e w8 ⟨rfl, _, hg8⟩
  have O9h := O9.keptN V8 hg8
  have V6h := V6.kept V8 hg8 (Or.inl (Nat.le_refl _))
  have V10h := V10.kept V8 hg8 (Or.inr hs9)
  have hxh := V8.block hg8 hx (by decide)
  have hBh := below_mark hB V8 hg8 (by omega) hB.size
  clear O9 V6 V8 V10 hB hx hg8 k8
  have hkb : (1 : Int) + 5 * xs.length ≤ 2305843009213693952 := by omega
  have hkb0 : (0 : Int) ≤ 1 + 5 * xs.length := by omega
  go_wp2_with fail
  refine (markints_any _ _ we.heap.size zs _ O9h.1 (by omega) hkb0 hkb).mono ?_
  rintro e w9 ⟨rfl, _, hg9⟩
  have V6 := V6h.keptI O9h hg9
  have V10 := V10h.keptI O9h hg9
  have hx := O9h.block hg9 hxh (by decide)
  have hB := below_markI hBh O9h hg9 hlo9 hBh.size
  clear O9h V6h V10h hBh hxh hg9
  have c10 := V10.cell
  have c6 := V6.cell
  have hk1 : ¬ (1 + 5 * (xs.length : Int) + zs.length) < 0 := by omega
  go_wp2_with fail
  refine (eqpool_any _ _ (pdL xs n zs) _ (V10.row hlL' hzL) (V6.row hlL' hzL)).mono ?_
  rintro e wa ⟨rfl, hba⟩
  have V6h := V6.below hba
  have V10h := V10.below hba
  have hBh := hB.trans (hba.mono hB.size)
  have hxh := (hba.block _ (Array.getElem?_eq_some_iff.1 hx).1).trans hx
  clear V6 V10 hB hx hba c10 c6
  have c10 := V10h.cell
  go_wp2_with fail
  refine (markpool_any _ 1 wf.heap.size (pdL xs n zs) _ V10h.2.1 hlL' (by omega) (by omega)).mono ?_
  rintro e wb ⟨rfl, hob, hgb⟩
  have V6 := V6h.kept V10h hgb (Or.inl (by omega))
  have V10 := V10h.marked (ys := nmarked 1 (pdL xs n zs) (pdL xs n zs).length) hgb (by rw [hlm]; exact hob)
  have hx := V10h.block hgb hxh (by decide)
  have hB := below_mark hBh V10h hgb (by omega) hBh.size
  clear V6h V10h hBh hxh hob hgb c10
  have c10 := V10.cell
  have hzM := nmarked_ok 1 (pdL xs n zs) (by omega) hlL'
  go_wp2_with fail
  refine (heldpool_any _ 1 (pdL xs n zs) _ (V10.row (by omega) hzM) hlL' (by omega) (by omega)).mono ?_
  rintro e wc2 ⟨rfl, hbc2⟩
  have V6h := V6.below hbc2
  have V10h := V10.below hbc2
  have hBh := hB.trans (hbc2.mono hB.size)
  have hxh := (hbc2.block _ (Array.getElem?_eq_some_iff.1 hx).1).trans hx
  have hszh := (Array.getElem?_eq_some_iff.1 hxh).1
  clear V6 V10 hB hx hbc2 c10
  have hk2 : ¬ (1 + 5 * ((pdL xs n zs).length : Int)) < 0 := by omega
  have hch : wc2.cell? ⟨w.heap.size, 0, none⟩ = some (.slice ao xs.length cap) := by rw [cell_of_row wc2 _ 0 _ _ _ hxh]; rfl
  go_wp2_with fail
  refine (topool_any _ xs _ (R.below hBh) (by omega)).mono ?_
  rintro e wj ⟨vj, rfl, hoj, hbj⟩
  obtain ⟨aoj, capj, rfl⟩ := own_form hoj
  have Rj := NRow.of_own hoj (by omega) hz
  have V6 := V6h.below hbj
  have V10 := V10h.below hbj
  have hB := hBh.trans (hbj.mono hBh.size)
  clear V6h V10h hBh hxh hch hoj hbj
  go_wp2_with fail
  refine (toints_any _ zs _ (L.below hB) (by omega)).mono ?_
  rintro e wl ⟨vl', rfl, hol, hbl⟩
  have Ll := IRow.of_own hol (by omega)
  obtain ⟨aol, capl, rfl⟩ := own_form hol
  have Rl := Rj.below hbl
  have V6h := V6.below hbl
  have V10h := V10.below hbl
  have hBh := hB.trans (hbl.mono hB.size)
  clear V6 V10 hB Rj hol hbl
  go_wp2_with fail
  refine (iprimdo_any _ _ xs zs n _ Rl Ll).mono ?_
  rintro e wm ⟨vm, rfl, hom, hbm⟩
  obtain ⟨aom, capm, rfl⟩ := own_form hom
  obtain ⟨V15, hBn, hcn⟩ := Var.new hBh hbm hom
  have V6n := V6h.below hcn
  have V10n := V10h.below hcn
  have c6m : wm.cell? ⟨b6, 0, none⟩ = some (.slice ao6 (pdL xs n zs).length cap6) := (V6h.below hbm).cell
  have hl6m : b6 < wm.heap.size := Nat.lt_of_lt_of_le V6h.lt hbm.size
  clear V6h V10h hBh Rl Ll hom hbm hcn
  go_wp2_with fail
  refine (eqpool_any _ _ (pdL xs n zs) _ (V15.row hlL' hzL) (V6n.row hlL' hzL)).mono ?_
  rintro e wn ⟨rfl, hbn⟩
  have V10 := V10n.below hbn
  have hB := hBn.trans (hbn.mono hBn.size)
  clear V15 V6n V10n hBn hbn c6m
  have c10 := V10.cell
  go_wp2_with fail
  refine (heldpool_any _ 1 (pdL xs n zs) _ (V10.row (by omega) hzM) hlL' (by omega) (by omega)).mono ?_
  rintro e wo ⟨rfl, hbo⟩
  have hBo := hB.trans (hbo.mono hB.size)
  clear V10 c10 hB hbo
  go_wp2
  go_ret
  exact ⟨rfl, hBo⟩
end Go.Proofs.Ytjigbjnahndpiaa
