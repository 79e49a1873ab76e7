/-
  Region 1 of impl.MachineRead, which draws its order: the two calls, and the box that may be made ahead of, between or behind them.
-/
import Derived.Test.YtaojlmoppbknbaaGreatDoorSMRdM
import Derived.Test.YtaojlmoppbknbaaGreatDoorRVal2M
import Derived.Deep.RegionHeld3
namespace Go.Proofs.YtaojlmoppbknbaaGreatDoor
open Go.RowKit

def MFin (B : Nat) (ns : List Nd) (is : List In) (ds : List Df) (zs : List Int) (ao : Option Addr) (n c : Nat) (m : Mc) (r : Value) (W : World) : Prop :=
  (∃ xs, mrR ns is ds zs = some (xs, m) ∧ r = .nilIface ∧ W.ownsRow B 86 5 (.slice ao n c) xs.length (ncs xs)) ∨ (mrR ns is ds zs = none ∧ ∃ p, r = badV p)
theorem mans_fin {B : Nat} {ns : List Nd} {is : List In} {ds : List Df} {zs : List Int} {e : Ending} {W : World} (h : MAns B ns is ds zs e W) : ∃ ao n c m r, e = .returned (.tuple #[.agg (mcs (.slice ao n c) m), r]) ∧ MFin B ns is ds zs ao n c m r W := by
  rcases h with ⟨xs, m, ao, n, c, h1, h2, h3⟩ | ⟨h1, ao, n, c, m, p, h2⟩
  · exact ⟨ao, n, c, m, _, h2, Or.inl ⟨xs, h1, rfl, h3⟩⟩
  · exact ⟨ao, n, c, m, _, h2, Or.inr ⟨h1, p, rfl⟩⟩
theorem MFin.keep {B B' : Nat} {ns : List Nd} {is : List In} {ds : List Df} {zs : List Int} {ao : Option Addr} {n c : Nat} {m : Mc} {r : Value} {W W' : World} (h : MFin B ns is ds zs ao n c m r W) (k : ∀ v n l, W.ownsRow B 86 5 v n l → W'.ownsRow B' 86 5 v n l) : MFin B' ns is ds zs ao n c m r W' := by
  rcases h with ⟨xs, h1, h2, h3⟩ | h
  · exact Or.inl ⟨xs, h1, h2, k _ _ _ h3⟩
  · exact Or.inr h
theorem rm_here (v : Value) (zs : List Int) (W0 w : World) (P : Nat) (v1 v2 v3 : Value) (ns : List Nd) (is : List In) (ds : List Df) (R : Row W0 v zs) (hb : Below W0.heap.size W0 w) (hP : W0.heap.size ≤ P) (h1 : One w P 0) (R1 : NRow W0 v1 ns) (R2 : InRow W0 v2 is) (R3 : DfRow W0 v3 ds) :
    Calls Tryz.prog 23 #[.agg #[v, .pointer (some ⟨P, 0, none⟩)], .agg #[v1, v2, v3]] w fun e w' => w.grownBy w' (some P) ∧ ∃ ao n c m r, e = .returned (.tuple #[.agg (mcs (.slice ao n c) m), r]) ∧ MFin w.heap.size ns is ds zs ao n c m r w' :=
  (rmachine_any v zs W0 w P v1 v2 v3 ns is ds R hb hP h1 R1 R2 R3).mono fun _ _ h => ⟨h.1, mans_fin h.2⟩

set_option maxRecDepth 100000 in
set_option maxHeartbeats 6400000 in
theorem imr_reg1 {t0 t3 t4 t5 t6 t7 t8 t9 t10 t11 t12 t13 t14 t15 t16 t17 t18 : Value} {fs : List Deferred} (bc : Nat) (v1 v2 v3 : Value) (ns : List Nd) (is : List In) (ds : List Df) (s : ByteArray) (w : World) (Q : Exit → Act → World → Prop)
    (hc : w.heap[bc]? = some (.cells #[v1, v2, v3] 40 (0, 0))) (R1 : NRow w v1 ns) (R2 : InRow w v2 is) (R3 : DfRow w v3 ds) (hs : s.size ≤ 140737488351232)
    (hQ : ∀ u8 u9 u10 u11 u12 u13 u14 bx ao n c m r (W : World), w.heap.size ≤ bx → Below w.heap.size w W → W.heap[bx]? = some (.cells (mcs (.slice ao n c) m) 34 (0, 0)) → MFin w.heap.size ns is ds (sb s) ao n c m r W → Q .normal ⟨#[t0, .string s, .pointer (some ⟨bc, 0, none⟩), t3, t4, t5, .pointer (some ⟨bx, 0, none⟩), r, u8, u9, u10, u11, u12, u13, u14, t15, t16, t17, t18], fs⟩ W) :
    (Code.region 1 (List.toArray (({ dst := some 9, op := Op.move (Operand.tmp 1), type := 9, pos := "l08_wire.go:47", after := #[], guard := none } : Oper) :: ({ dst := some 10, op := Op.call { callee := Callee.value (Operand.func 22), args := #[Operand.tmp 9], argTypes := #[9] }, type := 66, pos := "l08_wire.go:47", after := #[{ on := 0, ground := Ground.data }], guard := none } : Oper) :: ({ dst := some 11, op := Op.load 40 (Operand.tmp 2), type := 40, pos := "l08_wire.go:47", after := #[], guard := none } : Oper) :: ({ dst := some 12, op := Op.call { callee := Callee.value (Operand.func 23), args := #[Operand.tmp 10, Operand.tmp 11], argTypes := #[66, 40] }, type := 63, pos := "l08_wire.go:47", after := #[{ on := 1, ground := Ground.data }, { on := 2, ground := Ground.data }, { on := 1, ground := Ground.chain }], guard := none } : Oper) :: ({ dst := some 8, op := Op.move (Operand.tmp 12), type := 63, pos := "l08_wire.go:47", after := #[{ on := 3, ground := Ground.data }], guard := none } : Oper) :: ({ dst := some 13, op := Op.extract (Operand.tmp 8) 0, type := 34, pos := "l08_wire.go:47", after := #[{ on := 4, ground := Ground.data }], guard := none } : Oper) :: ({ dst := some 14, op := Op.extract (Operand.tmp 8) 1, type := 62, pos := "l08_wire.go:47", after := #[{ on := 4, ground := Ground.data }, { on := 8, ground := Ground.gcOnly Departure.lateStores }], guard := none } : Oper) :: ({ dst := some 6, op := Op.alloc 34, type := 0, pos := "l08_wire.go:47", after := #[], guard := none } : Oper) :: ({ dst := none, op := Op.store 34 (Operand.tmp 6) (Operand.tmp 13), type := 0, pos := "l08_wire.go:47", after := #[{ on := 7, ground := Ground.data }, { on := 5, ground := Ground.data }, { on := 3, ground := Ground.chain }, { on := 0, ground := Ground.phase }, { on := 1, ground := Ground.phase }, { on := 2, ground := Ground.phase }, { on := 3, ground := Ground.phase }, { on := 4, ground := Ground.phase }, { on := 5, ground := Ground.phase }, { on := 6, ground := Ground.textOnly Departure.lateStores }, { on := 7, ground := Ground.phase }], guard := none } : Oper) :: ({ dst := some 7, op := Op.assign (Operand.tmp 14), type := 62, pos := "l08_wire.go:47", after := #[{ on := 6, ground := Ground.data }, { on := 8, ground := Ground.chain }, { on := 0, ground := Ground.phase }, { on := 1, ground := Ground.phase }, { on := 2, ground := Ground.phase }, { on := 3, ground := Ground.phase }, { on := 4, ground := Ground.phase }, { on := 5, ground := Ground.phase }, { on := 6, ground := Ground.phase }, { on := 7, ground := Ground.phase }, { on := 8, ground := Ground.phase }], guard := none } : Oper) :: [])) true).wp Tryz.prog Q ⟨#[t0, .string s, .pointer (some ⟨bc, 0, none⟩), t3, t4, t5, t6, t7, t8, t9, t10, t11, t12, t13, t14, t15, t16, t17, t18], fs⟩ w := by
  have lc := (Array.getElem?_eq_some_iff.1 hc).1
  have hS : ∀ w', Below w.heap.size w w' → (w'.cell? ⟨bc, 0, none⟩ = some v1 ∧ w'.cell? ⟨bc, 1, none⟩ = some v2 ∧ w'.cell? ⟨bc, 2, none⟩ = some v3) := fun w' hb => by
    have g1 := (hb.block _ lc).trans hc
    exact ⟨cell_of_row w' _ 0 _ _ _ g1, cell_of_row w' _ 1 _ _ _ g1, cell_of_row w' _ 2 _ _ _ g1⟩
  have b0 : Below w.heap.size w w.drew := (Below.refl _ _).drew
  have s0 := hS _ b0
  have hd : w.heap.size ≤ w.drew.heap.size := Nat.le_refl _
  refine wp_region_noPanic ?_
  refine wp_region_held_drew (S := fun w' => w'.cell? ⟨bc, 0, none⟩ = some v1 ∧ w'.cell? ⟨bc, 1, none⟩ = some v2 ∧ w'.cell? ⟨bc, 2, none⟩ = some v3) (by kernel_rfl) s0 (fun hHeld => ?_)
  refine wpAnyH_take (i := 0) (oi := ({ dst := some 9, op := Op.move (Operand.tmp 1), type := 9, pos := "l08_wire.go:47", after := #[], guard := none } : Oper)) (v := .string s) rfl (by kernel_rfl) (by kernel_rfl) (by kernel_rfl) (fun _ _ _ h => h) (Or.inl ⟨by rfl, by intro w hSw; (try dsimp only at hSw); go_simp⟩) (by assumption) ?_
  simp only [Act.put, List.setIfInBounds_toArray, List.set_cons_zero, List.set_cons_succ]
  refine wpAnyH_take (i := 2) (oi := ({ dst := some 11, op := Op.load 40 (Operand.tmp 2), type := 40, pos := "l08_wire.go:47", after := #[], guard := none } : Oper)) (v := .agg #[v1, v2, v3]) rfl (by kernel_rfl) (by kernel_rfl) (by kernel_rfl) (fun _ _ _ h => h) (Or.inl ⟨by rfl, by intro w hSw; (try dsimp only at hSw); go_simp⟩) (by assumption) ?_
  simp only [Act.put, List.setIfInBounds_toArray, List.set_cons_zero, List.set_cons_succ]
  refine wpAnyH_ready (rs := [1, 7]) (by kernel_rfl) (by simp) ?_
  refine AllReadyH.cons rfl (fun K hK => ?_) (AllReadyH.cons rfl (fun K hK => ?_) AllReadyH.nil)
  · go_simp
    go_wp2_with (go_at_call 22; with_reducible refine (readerof_any s _ hs).mono ?_; rintro e w1 ⟨v, W0, P, rfl, RR, hbW, hb1, hP, hone⟩)
    have bW := b0.trans (hbW.mono b0.size)
    have b1 := bW.trans (hb1.mono bW.size)
    have hszW := hbW.size
    have hsz1 := hb1.size
    have hPl := hone.lt
    refine hK.out _ _ (hS _ b1) (fun hHeld1 => ?_)
    clear hK
    refine wpAnyH_ready (rs := [3, 7]) (by kernel_rfl) (by simp) ?_
    refine AllReadyH.cons rfl (fun K hK => ?_) (AllReadyH.cons rfl (fun K hK => ?_) AllReadyH.nil)
    · go_simp
      go_wp2_with (go_at_call 23; with_reducible refine (rm_here v (sb s) W0 w1 P v1 v2 v3 ns is ds RR hb1 hP hone (R1.below bW) (R2.below bW) (R3.below bW)).mono ?_; rintro e w2 ⟨hgr, ao, n, c, m, r, rfl, hF⟩)
      have b2 : Below w.heap.size w w2 := b1.grown hgr b1.size (fun k hk => by simp at hk; have := bW.size; omega)
      have hsz2 := hgr.size
      refine hK.out _ _ (hS _ b2) (fun hHeld2 => ?_)
      clear hK
      refine wpAnyH_take (i := 4) (oi := ({ dst := some 8, op := Op.move (Operand.tmp 12), type := 63, pos := "l08_wire.go:47", after := #[{ on := 3, ground := Ground.data }], guard := none } : Oper)) (v := .tuple #[.agg (mcs (.slice ao n c) m), r]) rfl (by kernel_rfl) (by kernel_rfl) (by kernel_rfl) (fun _ _ _ h => h) (Or.inl ⟨by rfl, by intro w hSw; (try dsimp only at hSw); go_simp⟩) (by assumption) ?_
      simp only [Act.put, List.setIfInBounds_toArray, List.set_cons_zero, List.set_cons_succ]
      refine wpAnyH_take (i := 5) (oi := ({ dst := some 13, op := Op.extract (Operand.tmp 8) 0, type := 34, pos := "l08_wire.go:47", after := #[{ on := 4, ground := Ground.data }], guard := none } : Oper)) (v := .agg (mcs (.slice ao n c) m)) rfl (by kernel_rfl) (by kernel_rfl) (by kernel_rfl) (fun _ _ _ h => h) (Or.inl ⟨by rfl, by intro w hSw; (try dsimp only at hSw); go_simp⟩) (by assumption) ?_
      simp only [Act.put, List.setIfInBounds_toArray, List.set_cons_zero, List.set_cons_succ]
      refine wpAnyH_take (i := 6) (oi := ({ dst := some 14, op := Op.extract (Operand.tmp 8) 1, type := 62, pos := "l08_wire.go:47", after := #[{ on := 4, ground := Ground.data }, { on := 8, ground := Ground.gcOnly Departure.lateStores }], guard := none } : Oper)) (v := r) rfl (by kernel_rfl) (by kernel_rfl) (by kernel_rfl) (fun _ _ _ h => h) (Or.inl ⟨by rfl, by intro w hSw; (try dsimp only at hSw); go_simp⟩) (by assumption) ?_
      simp only [Act.put, List.setIfInBounds_toArray, List.set_cons_zero, List.set_cons_succ]
      refine wpAnyH_ready (rs := [7]) (by kernel_rfl) (by simp) ?_
      refine AllReadyH.cons rfl (fun K hK => ?_) AllReadyH.nil
      go_simp
      go_wp2_with fail
      have bA : Below w.heap.size w (w2.alloc (Obj.cells #[.slice none 0 0, .int .i64 0, .int .i64 0, .int .i64 0, .int .i64 0, .int .i64 0, .int .i64 0, .int .i64 0] 34)) := b2.alloc b2.size _
      have hszA : (w2.alloc (Obj.cells #[.slice none 0 0, .int .i64 0, .int .i64 0, .int .i64 0, .int .i64 0, .int .i64 0, .int .i64 0, .int .i64 0] 34)).heap.size = w2.heap.size + 1 := by simp
      have xA : (w2.alloc (Obj.cells #[.slice none 0 0, .int .i64 0, .int .i64 0, .int .i64 0, .int .i64 0, .int .i64 0, .int .i64 0, .int .i64 0] 34)).heap[w2.heap.size]? = some (Obj.cells #[.slice none 0 0, .int .i64 0, .int .i64 0, .int .i64 0, .int .i64 0, .int .i64 0, .int .i64 0, .int .i64 0] 34) := heap_alloc_new _ _
      refine hK.out _ _ (hS _ bA) (fun hHeldA => ?_)
      clear hK
      refine wpAnyH_ready (rs := [8]) (by kernel_rfl) (by simp) ?_
      refine AllReadyH.cons rfl (fun K hK => ?_) AllReadyH.nil
      rw [if_pos (by rfl)]
      refine wp_store_row 34 _ _ rfl (w2.heap.size) (mcs (.slice ao n c) m) rfl rfl 34 #[.slice none 0 0, .int .i64 0, .int .i64 0, .int .i64 0, .int .i64 0, .int .i64 0, .int .i64 0, .int .i64 0] xA Tryz.sizeMach rfl (mcs_one _ _ _ _) ?_
      have bF := below_setRow bA (g := w2.heap.size) (by omega) (mcs (.slice ao n c) m)
      refine hK.out _ _ (hS _ bF) (fun hHeldF => ?_)
      clear hK
      simp only [Act.put]
      refine wpAnyH_take (i := 9) (oi := ({ dst := some 7, op := Op.assign (Operand.tmp 14), type := 62, pos := "l08_wire.go:47", after := #[{ on := 6, ground := Ground.data }, { on := 8, ground := Ground.chain }, { on := 0, ground := Ground.phase }, { on := 1, ground := Ground.phase }, { on := 2, ground := Ground.phase }, { on := 3, ground := Ground.phase }, { on := 4, ground := Ground.phase }, { on := 5, ground := Ground.phase }, { on := 6, ground := Ground.phase }, { on := 7, ground := Ground.phase }, { on := 8, ground := Ground.phase }], guard := none } : Oper)) (v := r) rfl (by kernel_rfl) (by kernel_rfl) (by kernel_rfl) (fun _ _ _ h => h) (Or.inl ⟨by rfl, by intro w hSw; (try dsimp only at hSw); go_simp⟩) (by assumption) ?_
      simp only [Act.put]
      refine wpAnyH_done (by kernel_rfl) ?_ _
      exact NoPanic.normal <| hQ _ _ _ _ _ _ _ (w2.heap.size) ao n c m r _ (by omega) bF (setRow_heap _ _ _ _ _ _ xA) (hF.keep fun _ _ _ o => own_mono (own_below o (below_setRow ((Below.refl _ _).alloc (Nat.le_refl _) _) (Nat.le_refl _) _)) (by omega))
    · go_simp
      go_wp2_with fail
      have bA : Below w.heap.size w (w1.alloc (Obj.cells #[.slice none 0 0, .int .i64 0, .int .i64 0, .int .i64 0, .int .i64 0, .int .i64 0, .int .i64 0, .int .i64 0] 34)) := b1.alloc b1.size _
      have hszA : (w1.alloc (Obj.cells #[.slice none 0 0, .int .i64 0, .int .i64 0, .int .i64 0, .int .i64 0, .int .i64 0, .int .i64 0, .int .i64 0] 34)).heap.size = w1.heap.size + 1 := by simp
      have xA : (w1.alloc (Obj.cells #[.slice none 0 0, .int .i64 0, .int .i64 0, .int .i64 0, .int .i64 0, .int .i64 0, .int .i64 0, .int .i64 0] 34)).heap[w1.heap.size]? = some (Obj.cells #[.slice none 0 0, .int .i64 0, .int .i64 0, .int .i64 0, .int .i64 0, .int .i64 0, .int .i64 0, .int .i64 0] 34) := heap_alloc_new _ _
      refine hK.out _ _ (hS _ bA) (fun hHeldA => ?_)
      clear hK
      refine wpAnyH_ready (rs := [3]) (by kernel_rfl) (by simp) ?_
      refine AllReadyH.cons rfl (fun K hK => ?_) AllReadyH.nil
      go_simp
      go_wp2_with (go_at_call 23; with_reducible refine (rm_here v (sb s) W0 (w1.alloc (Obj.cells #[.slice none 0 0, .int .i64 0, .int .i64 0, .int .i64 0, .int .i64 0, .int .i64 0, .int .i64 0, .int .i64 0] 34)) P v1 v2 v3 ns is ds RR (hb1.alloc hb1.size _) hP (hone.below ((Below.refl _ _).alloc (Nat.le_refl _) _) hone.lt) (R1.below bW) (R2.below bW) (R3.below bW)).mono ?_; rintro e w2 ⟨hgr, ao, n, c, m, r, rfl, hF⟩)
      have b2 : Below w.heap.size w w2 := bA.grown hgr bA.size (fun k hk => by simp at hk; have := bW.size; omega)
      have hsz2 := hgr.size
      refine hK.out _ _ (hS _ b2) (fun hHeld2 => ?_)
      clear hK
      have x2 := (hgr.block w1.heap.size (by omega) (by simp; omega)).trans xA
      refine wpAnyH_take (i := 4) (oi := ({ dst := some 8, op := Op.move (Operand.tmp 12), type := 63, pos := "l08_wire.go:47", after := #[{ on := 3, ground := Ground.data }], guard := none } : Oper)) (v := .tuple #[.agg (mcs (.slice ao n c) m), r]) rfl (by kernel_rfl) (by kernel_rfl) (by kernel_rfl) (fun _ _ _ h => h) (Or.inl ⟨by rfl, by intro w hSw; (try dsimp only at hSw); go_simp⟩) (by assumption) ?_
      simp only [Act.put, List.setIfInBounds_toArray, List.set_cons_zero, List.set_cons_succ]
      refine wpAnyH_take (i := 5) (oi := ({ dst := some 13, op := Op.extract (Operand.tmp 8) 0, type := 34, pos := "l08_wire.go:47", after := #[{ on := 4, ground := Ground.data }], guard := none } : Oper)) (v := .agg (mcs (.slice ao n c) m)) rfl (by kernel_rfl) (by kernel_rfl) (by kernel_rfl) (fun _ _ _ h => h) (Or.inl ⟨by rfl, by intro w hSw; (try dsimp only at hSw); go_simp⟩) (by assumption) ?_
      simp only [Act.put, List.setIfInBounds_toArray, List.set_cons_zero, List.set_cons_succ]
      refine wpAnyH_take (i := 6) (oi := ({ dst := some 14, op := Op.extract (Operand.tmp 8) 1, type := 62, pos := "l08_wire.go:47", after := #[{ on := 4, ground := Ground.data }, { on := 8, ground := Ground.gcOnly Departure.lateStores }], guard := none } : Oper)) (v := r) rfl (by kernel_rfl) (by kernel_rfl) (by kernel_rfl) (fun _ _ _ h => h) (Or.inl ⟨by rfl, by intro w hSw; (try dsimp only at hSw); go_simp⟩) (by assumption) ?_
      simp only [Act.put, List.setIfInBounds_toArray, List.set_cons_zero, List.set_cons_succ]
      refine wpAnyH_ready (rs := [8]) (by kernel_rfl) (by simp) ?_
      refine AllReadyH.cons rfl (fun K hK => ?_) AllReadyH.nil
      rw [if_pos (by rfl)]
      refine wp_store_row 34 _ _ rfl (w1.heap.size) (mcs (.slice ao n c) m) rfl rfl 34 #[.slice none 0 0, .int .i64 0, .int .i64 0, .int .i64 0, .int .i64 0, .int .i64 0, .int .i64 0, .int .i64 0] x2 Tryz.sizeMach rfl (mcs_one _ _ _ _) ?_
      have bF := below_setRow b2 (g := w1.heap.size) (by omega) (mcs (.slice ao n c) m)
      refine hK.out _ _ (hS _ bF) (fun hHeldF => ?_)
      clear hK
      simp only [Act.put]
      refine wpAnyH_take (i := 9) (oi := ({ dst := some 7, op := Op.assign (Operand.tmp 14), type := 62, pos := "l08_wire.go:47", after := #[{ on := 6, ground := Ground.data }, { on := 8, ground := Ground.chain }, { on := 0, ground := Ground.phase }, { on := 1, ground := Ground.phase }, { on := 2, ground := Ground.phase }, { on := 3, ground := Ground.phase }, { on := 4, ground := Ground.phase }, { on := 5, ground := Ground.phase }, { on := 6, ground := Ground.phase }, { on := 7, ground := Ground.phase }, { on := 8, ground := Ground.phase }], guard := none } : Oper)) (v := r) rfl (by kernel_rfl) (by kernel_rfl) (by kernel_rfl) (fun _ _ _ h => h) (Or.inl ⟨by rfl, by intro w hSw; (try dsimp only at hSw); go_simp⟩) (by assumption) ?_
      simp only [Act.put]
      refine wpAnyH_done (by kernel_rfl) ?_ _
      exact NoPanic.normal <| hQ _ _ _ _ _ _ _ (w1.heap.size) ao n c m r _ (by omega) bF (setRow_heap _ _ _ _ _ _ x2) (hF.keep fun _ _ _ o => own_mono (own_keep o (by omega) (fun k hk => setRow_other _ _ k _ hk)) (by omega))
  · go_simp
    go_wp2_with fail
    have bA : Below w.heap.size w (w.drew.alloc (Obj.cells #[.slice none 0 0, .int .i64 0, .int .i64 0, .int .i64 0, .int .i64 0, .int .i64 0, .int .i64 0, .int .i64 0] 34)) := b0.alloc b0.size _
    have hszA : (w.drew.alloc (Obj.cells #[.slice none 0 0, .int .i64 0, .int .i64 0, .int .i64 0, .int .i64 0, .int .i64 0, .int .i64 0, .int .i64 0] 34)).heap.size = w.drew.heap.size + 1 := by simp
    have xA : (w.drew.alloc (Obj.cells #[.slice none 0 0, .int .i64 0, .int .i64 0, .int .i64 0, .int .i64 0, .int .i64 0, .int .i64 0, .int .i64 0] 34)).heap[w.drew.heap.size]? = some (Obj.cells #[.slice none 0 0, .int .i64 0, .int .i64 0, .int .i64 0, .int .i64 0, .int .i64 0, .int .i64 0, .int .i64 0] 34) := heap_alloc_new _ _
    refine hK.out _ _ (hS _ bA) (fun hHeldA => ?_)
    clear hK
    refine wpAnyH_ready (rs := [1]) (by kernel_rfl) (by simp) ?_
    refine AllReadyH.cons rfl (fun K hK => ?_) AllReadyH.nil
    go_simp
    go_wp2_with (go_at_call 22; with_reducible refine (readerof_any s _ hs).mono ?_; rintro e w1 ⟨v, W0, P, rfl, RR, hbW, hb1, hP, hone⟩)
    have bW := bA.trans (hbW.mono bA.size)
    have b1 := bW.trans (hb1.mono bW.size)
    have hszW := hbW.size
    have hsz1 := hb1.size
    have hPl := hone.lt
    refine hK.out _ _ (hS _ b1) (fun hHeld1 => ?_)
    clear hK
    refine wpAnyH_ready (rs := [3]) (by kernel_rfl) (by simp) ?_
    refine AllReadyH.cons rfl (fun K hK => ?_) AllReadyH.nil
    go_simp
    go_wp2_with (go_at_call 23; with_reducible refine (rm_here v (sb s) W0 w1 P v1 v2 v3 ns is ds RR hb1 hP hone (R1.below bW) (R2.below bW) (R3.below bW)).mono ?_; rintro e w2 ⟨hgr, ao, n, c, m, r, rfl, hF⟩)
    have b2 : Below w.heap.size w w2 := b1.grown hgr b1.size (fun k hk => by simp at hk; have := bW.size; omega)
    have hsz2 := hgr.size
    refine hK.out _ _ (hS _ b2) (fun hHeld2 => ?_)
    clear hK
    have hszW' : w.heap.size + 1 ≤ W0.heap.size := by simpa using hszW
    have x2 := (hgr.block w.heap.size (by omega) (by simp; omega)).trans ((hb1.block _ (by omega)).trans ((hbW.block w.heap.size (by simp)).trans (heap_alloc_new w _)))
    refine wpAnyH_take (i := 4) (oi := ({ dst := some 8, op := Op.move (Operand.tmp 12), type := 63, pos := "l08_wire.go:47", after := #[{ on := 3, ground := Ground.data }], guard := none } : Oper)) (v := .tuple #[.agg (mcs (.slice ao n c) m), r]) rfl (by kernel_rfl) (by kernel_rfl) (by kernel_rfl) (fun _ _ _ h => h) (Or.inl ⟨by rfl, by intro w hSw; (try dsimp only at hSw); go_simp⟩) (by assumption) ?_
    simp only [Act.put, List.setIfInBounds_toArray, List.set_cons_zero, List.set_cons_succ]
    refine wpAnyH_take (i := 5) (oi := ({ dst := some 13, op := Op.extract (Operand.tmp 8) 0, type := 34, pos := "l08_wire.go:47", after := #[{ on := 4, ground := Ground.data }], guard := none } : Oper)) (v := .agg (mcs (.slice ao n c) m)) rfl (by kernel_rfl) (by kernel_rfl) (by kernel_rfl) (fun _ _ _ h => h) (Or.inl ⟨by rfl, by intro w hSw; (try dsimp only at hSw); go_simp⟩) (by assumption) ?_
    simp only [Act.put, List.setIfInBounds_toArray, List.set_cons_zero, List.set_cons_succ]
    refine wpAnyH_take (i := 6) (oi := ({ dst := some 14, op := Op.extract (Operand.tmp 8) 1, type := 62, pos := "l08_wire.go:47", after := #[{ on := 4, ground := Ground.data }, { on := 8, ground := Ground.gcOnly Departure.lateStores }], guard := none } : Oper)) (v := r) rfl (by kernel_rfl) (by kernel_rfl) (by kernel_rfl) (fun _ _ _ h => h) (Or.inl ⟨by rfl, by intro w hSw; (try dsimp only at hSw); go_simp⟩) (by assumption) ?_
    simp only [Act.put, List.setIfInBounds_toArray, List.set_cons_zero, List.set_cons_succ]
    refine wpAnyH_ready (rs := [8]) (by kernel_rfl) (by simp) ?_
    refine AllReadyH.cons rfl (fun K hK => ?_) AllReadyH.nil
    rw [if_pos (by rfl)]
    refine wp_store_row 34 _ _ rfl (w.heap.size) (mcs (.slice ao n c) m) rfl rfl 34 #[.slice none 0 0, .int .i64 0, .int .i64 0, .int .i64 0, .int .i64 0, .int .i64 0, .int .i64 0, .int .i64 0] x2 Tryz.sizeMach rfl (mcs_one _ _ _ _) ?_
    have bF := below_setRow b2 (g := w.heap.size) (by omega) (mcs (.slice ao n c) m)
    refine hK.out _ _ (hS _ bF) (fun hHeldF => ?_)
    clear hK
    simp only [Act.put]
    refine wpAnyH_take (i := 9) (oi := ({ dst := some 7, op := Op.assign (Operand.tmp 14), type := 62, pos := "l08_wire.go:47", after := #[{ on := 6, ground := Ground.data }, { on := 8, ground := Ground.chain }, { on := 0, ground := Ground.phase }, { on := 1, ground := Ground.phase }, { on := 2, ground := Ground.phase }, { on := 3, ground := Ground.phase }, { on := 4, ground := Ground.phase }, { on := 5, ground := Ground.phase }, { on := 6, ground := Ground.phase }, { on := 7, ground := Ground.phase }, { on := 8, ground := Ground.phase }], guard := none } : Oper)) (v := r) rfl (by kernel_rfl) (by kernel_rfl) (by kernel_rfl) (fun _ _ _ h => h) (Or.inl ⟨by rfl, by intro w hSw; (try dsimp only at hSw); go_simp⟩) (by assumption) ?_
    simp only [Act.put]
    refine wpAnyH_done (by kernel_rfl) ?_ _
    exact NoPanic.normal <| hQ _ _ _ _ _ _ _ (w.heap.size) ao n c m r _ (by omega) bF (setRow_heap _ _ _ _ _ _ x2) (hF.keep fun _ _ _ o => own_mono (own_keep o (by omega) (fun k hk => setRow_other _ _ k _ hk)) (by omega))
end Go.Proofs.YtaojlmoppbknbaaGreatDoor
