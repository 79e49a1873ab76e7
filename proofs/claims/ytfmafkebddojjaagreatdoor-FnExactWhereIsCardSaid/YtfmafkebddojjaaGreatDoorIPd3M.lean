/-
  Texts that stood by themselves, laid into one.
-/
import Derived.Test.YtfmafkebddojjaaGreatDoorSMRdM
import Derived.Test.YtfmafkebddojjaaGreatDoorSAddM
import Derived.Deep.RegionHeld3
import Derived.Test.YtfmafkebddojjaaGreatDoorVMoveM
import Derived.Test.YtfmafkebddojjaaGreatDoorMRgM
import Derived.Test.YtfmafkebddojjaaGreatDoorInM
import Derived.Test.YtfmafkebddojjaaGreatDoorS8RdM
/-
  Region 1 of impl.MachineRead, which draws its order: the two calls, and the box that may be made ahead of, between or behind them.
-/
set_option maxRecDepth 100000
set_option maxHeartbeats 12800000
namespace Go.Proofs.YtfmafkebddojjaaGreatDoor
open Go.RowKit
def MFin (B : Nat) (ns : List Nd) (is : List In) (ds : List Df) (zs : List Int) (ao : Option Addr) (n c : Nat) (m : Mc) (r : Value) (W : World) : Prop :=
 (∃ xs, mrR ns is ds zs = some (xs, m) /\ r = .nilIface /\ W.ownsRow B 210 5 (.slice ao n c) xs.length (ncs xs)) \/ (mrR ns is ds zs = none /\ ∃ p, r = badV p)
theorem ZjN {B : Nat} {ns : List Nd} {is : List In} {ds : List Df} {zs : List Int} {e : Ending} {W : World} (h : MAns B ns is ds zs e W) : ∃ ao n c m r, e = .returned (.tuple #[.agg (mcs (.slice ao n c) m), r]) /\ MFin B ns is ds zs ao n c m r W := by
 rcases h with ⟨xs, m, ao, n, c, h1, h2, h3⟩ | ⟨h1, ao, n, c, m, p, h2⟩
 ·exact ⟨ao, n, c, m, _, h2, Or.inl ⟨xs, h1, rfl, h3⟩⟩
 ·exact ⟨ao, n, c, m, _, h2, Or.inr ⟨h1, p, rfl⟩⟩
theorem MFin.keep {B B' : Nat} {ns : List Nd} {is : List In} {ds : List Df} {zs : List Int} {ao : Option Addr} {n c : Nat} {m : Mc} {r : Value} {W W' : World} (h : MFin B ns is ds zs ao n c m r W) (k : ∀ v n l, W.ownsRow B 210 5 v n l -> W'.ownsRow B' 210 5 v n l) : MFin B' ns is ds zs ao n c m r W' := by
 rcases h with ⟨xs, h1, h2, h3⟩ | h
 ·exact Or.inl ⟨xs, h1, h2, k _ _ _ h3⟩
 ·exact Or.inr h
theorem Zf5 (v : Value) (zs : List Int) (W0 w : World) (P : Nat) (v1 v2 v3 : Value) (ns : List Nd) (is : List In) (ds : List Df) (R : Row W0 v zs) (hb : Below W0.heap.size W0 w) (hP : W0.heap.size <= P) (h1 : One w P 0) (R1 : NRow W0 v1 ns) (R2 : InRow W0 v2 is) (R3 : DfRow W0 v3 ds) :
  Calls Tryz.prog 251 #[.agg #[v, .pointer (some ⟨P, 0, none⟩)], .agg #[v1, v2, v3]] w fun e w' => w.grownBy w' (some P) /\ ∃ ao n c m r, e = .returned (.tuple #[.agg (mcs (.slice ao n c) m), r]) /\ MFin w.heap.size ns is ds zs ao n c m r w' :=
 (Zff v zs W0 w P v1 v2 v3 ns is ds R hb hP h1 R1 R2 R3).mono fun _ _ h => ⟨h.1, ZjN h.2⟩
theorem Zkh {t0 t3 t4 t5 t6 t7 t8 t9 t10 t11 t12 t13 t14 t15 t16 t17 t18 : Value} {fs : List Deferred} (bc : Nat) (v1 v2 v3 : Value) (ns : List Nd) (is : List In) (ds : List Df) (s : ByteArray) (w : World) (Q : Exit -> Act -> World -> Prop)
  (hc : w.heap[bc]? = some (.cells #[v1, v2, v3] 44 (0, 0))) (R1 : NRow w v1 ns) (R2 : InRow w v2 is) (R3 : DfRow w v3 ds) (hs : s.size <= 140737488351232)
  (hQ : ∀ u8 u9 u10 u11 u12 u13 u14 bx ao n c m r (W : World), w.heap.size <= bx -> Below w.heap.size w W -> W.heap[bx]? = some (.cells (mcs (.slice ao n c) m) 81 (0, 0)) -> MFin w.heap.size ns is ds (sb s) ao n c m r W -> Q .normal ⟨#[t0, .string s, .pointer (some ⟨bc, 0, none⟩), t3, t4, t5, .pointer (some ⟨bx, 0, none⟩), r, u8, u9, u10, u11, u12, u13, u14, t15, t16, t17, t18], fs⟩ W) :
  (Code.region 1 (List.toArray (⟨some 9, .move (.tmp 1), 9, "l08_wire.go:47", #[], none⟩ :: ⟨some 10, .call { callee := .value (.func 206), args := #[.tmp 9], argTypes := #[9] }, 254, "l08_wire.go:47", #[⟨0, .data⟩], none⟩ :: ⟨some 11, .load 44 (.tmp 2), 44, "l08_wire.go:47", #[], none⟩ :: ⟨some 12, .call { callee := .value (.func 251), args := #[.tmp 10, .tmp 11], argTypes := #[254, 44] }, 304, "l08_wire.go:47", #[⟨1, .data⟩, ⟨2, .data⟩, ⟨1, .chain⟩], none⟩ :: ⟨some 8, .move (.tmp 12), 304, "l08_wire.go:47", #[⟨3, .data⟩], none⟩ :: ⟨some 13, .extract (.tmp 8) 0, 81, "l08_wire.go:47", #[⟨4, .data⟩], none⟩ :: ⟨some 14, .extract (.tmp 8) 1, 259, "l08_wire.go:47", #[⟨4, .data⟩, { on := 8, ground := Ground.gcOnly Departure.lateStores }], none⟩ :: ⟨some 6, .alloc 81, 0, "l08_wire.go:47", #[], none⟩ :: ⟨none, .store 81 (.tmp 6) (.tmp 13), 0, "l08_wire.go:47", #[⟨7, .data⟩, ⟨5, .data⟩, ⟨3, .chain⟩, ⟨0, .phase⟩, ⟨1, .phase⟩, ⟨2, .phase⟩, ⟨3, .phase⟩, ⟨4, .phase⟩, ⟨5, .phase⟩, { on := 6, ground := Ground.textOnly Departure.lateStores }, ⟨7, .phase⟩], none⟩ :: ⟨some 7, .assign (.tmp 14), 259, "l08_wire.go:47", #[⟨6, .data⟩, ⟨8, .chain⟩, ⟨0, .phase⟩, ⟨1, .phase⟩, ⟨2, .phase⟩, ⟨3, .phase⟩, ⟨4, .phase⟩, ⟨5, .phase⟩, ⟨6, .phase⟩, ⟨7, .phase⟩, ⟨8, .phase⟩], none⟩ :: [])) true).wp Tryz.prog Q ⟨#[t0, .string s, .pointer (some ⟨bc, 0, none⟩), t3, t4, t5, t6, t7, t8, t9, t10, t11, t12, t13, t14, t15, t16, t17, t18], fs⟩ w := by
 have lc := (bl hc)
 have hS : ∀ w', Below w.heap.size w w' -> (w'.cell? ⟨bc, 0, none⟩ = some v1 /\ w'.cell? ⟨bc, 1, none⟩ = some v2 /\ w'.cell? ⟨bc, 2, none⟩ = some v3) := fun w' hb => by
  have g1 := (hb.block _ lc).trans hc
  exact ⟨cell_of_row w' _ 0 _ _ _ g1, cell_of_row w' _ 1 _ _ _ g1, cell_of_row w' _ 2 _ _ _ g1⟩
 have b0 : Below w.heap.size w w.drew := (Below.refl _ _).drew
 have s0 := hS _ b0
 have hd : w.heap.size <= w.drew.heap.size := Nat.le_refl _
 refine wp_region_noPanic ?_
 refine wp_region_held_drew (S := fun w' => w'.cell? ⟨bc, 0, none⟩ = some v1 /\ w'.cell? ⟨bc, 1, none⟩ = some v2 /\ w'.cell? ⟨bc, 2, none⟩ = some v3) (by kernel_rfl) s0 (fun hHeld => ?_)
 refine wpAnyH_take (i := 0) (oi := ⟨some 9, .move (.tmp 1), 9, "l08_wire.go:47", #[], none⟩) (v := .string s) rfl (by kernel_rfl) (by kernel_rfl) (by kernel_rfl) (fun _ _ _ h => h) (Or.inl ⟨by rfl, by intro w hSw; (try dsimp only at hSw); go_simp⟩) (by assumption) ?_
 simp only [Act.put, sit, sc0, scs]
 refine wpAnyH_take (i := 2) (oi := ⟨some 11, .load 44 (.tmp 2), 44, "l08_wire.go:47", #[], none⟩) (v := .agg #[v1, v2, v3]) rfl (by kernel_rfl) (by kernel_rfl) (by kernel_rfl) (fun _ _ _ h => h) (Or.inl ⟨by rfl, by intro w hSw; (try dsimp only at hSw); go_simp⟩) (by assumption) ?_
 simp only [Act.put, sit, sc0, scs]
 refine wpAnyH_ready (rs := [1, 7]) (by kernel_rfl) (by simp) ?_
 refine AllReadyH.cons rfl (fun K hK => ?_) (AllReadyH.cons rfl (fun K hK => ?_) AllReadyH.nil)
 ·go_simp
  go_wp2_with (go_at_call 206; with_reducible refine (Za1 s _ hs).mono ?_; rintro e w1 ⟨v, W0, P, rfl, RR, hbW, hb1, hP, hone⟩)
  have bW := b0.trans (hbW.mono b0.size)
  have b1 := bW.trans (hb1.mono bW.size)
  have hszW := hbW.size
  have hsz1 := hb1.size
  have hPl := hone.lt
  refine hK.out _ _ (hS _ b1) (fun hHeld1 => ?_)
  clear hK
  refine wpAnyH_ready (rs := [3, 7]) (by kernel_rfl) (by simp) ?_
  refine AllReadyH.cons rfl (fun K hK => ?_) (AllReadyH.cons rfl (fun K hK => ?_) AllReadyH.nil)
  ·go_simp
   go_wp2_with (go_at_call 251; with_reducible refine (Zf5 v (sb s) W0 w1 P v1 v2 v3 ns is ds RR hb1 hP hone (R1.below bW) (R2.below bW) (R3.below bW)).mono ?_; rintro e w2 ⟨hgr, ao, n, c, m, r, rfl, hF⟩)
   have b2 : Below w.heap.size w w2 := b1.grown hgr b1.size (fun k hk => by simp at hk; have := bW.size; omega)
   have hsz2 := hgr.size
   refine hK.out _ _ (hS _ b2) (fun hHeld2 => ?_)
   clear hK
   refine wpAnyH_take (i := 4) (oi := ⟨some 8, .move (.tmp 12), 304, "l08_wire.go:47", #[⟨3, .data⟩], none⟩) (v := .tuple #[.agg (mcs (.slice ao n c) m), r]) rfl (by kernel_rfl) (by kernel_rfl) (by kernel_rfl) (fun _ _ _ h => h) (Or.inl ⟨by rfl, by intro w hSw; (try dsimp only at hSw); go_simp⟩) (by assumption) ?_
   simp only [Act.put, sit, sc0, scs]
   refine wpAnyH_take (i := 5) (oi := ⟨some 13, .extract (.tmp 8) 0, 81, "l08_wire.go:47", #[⟨4, .data⟩], none⟩) (v := .agg (mcs (.slice ao n c) m)) rfl (by kernel_rfl) (by kernel_rfl) (by kernel_rfl) (fun _ _ _ h => h) (Or.inl ⟨by rfl, by intro w hSw; (try dsimp only at hSw); go_simp⟩) (by assumption) ?_
   simp only [Act.put, sit, sc0, scs]
   refine wpAnyH_take (i := 6) (oi := ⟨some 14, .extract (.tmp 8) 1, 259, "l08_wire.go:47", #[⟨4, .data⟩, { on := 8, ground := Ground.gcOnly Departure.lateStores }], none⟩) (v := r) rfl (by kernel_rfl) (by kernel_rfl) (by kernel_rfl) (fun _ _ _ h => h) (Or.inl ⟨by rfl, by intro w hSw; (try dsimp only at hSw); go_simp⟩) (by assumption) ?_
   simp only [Act.put, sit, sc0, scs]
   refine wpAnyH_ready (rs := [7]) (by kernel_rfl) (by simp) ?_
   refine AllReadyH.cons rfl (fun K hK => ?_) AllReadyH.nil
   go_simp
   go_wp2_with fail
   have bA : Below w.heap.size w (w2.alloc (Obj.cells #[.slice none 0 0, .int .i64 0, .int .i64 0, .int .i64 0, .int .i64 0, .int .i64 0, .int .i64 0, .int .i64 0] 81)) := b2.alloc b2.size _
   have hszA : (w2.alloc (Obj.cells #[.slice none 0 0, .int .i64 0, .int .i64 0, .int .i64 0, .int .i64 0, .int .i64 0, .int .i64 0, .int .i64 0] 81)).heap.size = w2.heap.size + 1 := by simp
   have xA : (w2.alloc (Obj.cells #[.slice none 0 0, .int .i64 0, .int .i64 0, .int .i64 0, .int .i64 0, .int .i64 0, .int .i64 0, .int .i64 0] 81)).heap[w2.heap.size]? = some (Obj.cells #[.slice none 0 0, .int .i64 0, .int .i64 0, .int .i64 0, .int .i64 0, .int .i64 0, .int .i64 0, .int .i64 0] 81) := heap_alloc_new _ _
   refine hK.out _ _ (hS _ bA) (fun hHeldA => ?_)
   clear hK
   refine wpAnyH_ready (rs := [8]) (by kernel_rfl) (by simp) ?_
   refine AllReadyH.cons rfl (fun K hK => ?_) AllReadyH.nil
   rw [if_pos (by rfl)]
   refine wp_store_row 81 _ _ rfl (w2.heap.size) (mcs (.slice ao n c) m) rfl rfl 81 #[.slice none 0 0, .int .i64 0, .int .i64 0, .int .i64 0, .int .i64 0, .int .i64 0, .int .i64 0, .int .i64 0] xA Zmc rfl (ZbK _ _ _ _) ?_
   have bF := below_setRow bA (g := w2.heap.size) (by omega) (mcs (.slice ao n c) m)
   refine hK.out _ _ (hS _ bF) (fun hHeldF => ?_)
   clear hK
   simp only [Act.put]
   refine wpAnyH_take (i := 9) (oi := ⟨some 7, .assign (.tmp 14), 259, "l08_wire.go:47", #[⟨6, .data⟩, ⟨8, .chain⟩, ⟨0, .phase⟩, ⟨1, .phase⟩, ⟨2, .phase⟩, ⟨3, .phase⟩, ⟨4, .phase⟩, ⟨5, .phase⟩, ⟨6, .phase⟩, ⟨7, .phase⟩, ⟨8, .phase⟩], none⟩) (v := r) rfl (by kernel_rfl) (by kernel_rfl) (by kernel_rfl) (fun _ _ _ h => h) (Or.inl ⟨by rfl, by intro w hSw; (try dsimp only at hSw); go_simp⟩) (by assumption) ?_
   simp only [Act.put]
   refine wpAnyH_done (by kernel_rfl) ?_ _
   exact NoPanic.normal <| hQ _ _ _ _ _ _ _ (w2.heap.size) ao n c m r _ (by omega) bF (setRow_heap _ _ _ _ _ _ xA) (hF.keep fun _ _ _ o => Zaf (Zad o (below_setRow ((Below.refl _ _).alloc (Nat.le_refl _) _) (Nat.le_refl _) _)) (by omega))
  ·go_simp
   go_wp2_with fail
   have bA : Below w.heap.size w (w1.alloc (Obj.cells #[.slice none 0 0, .int .i64 0, .int .i64 0, .int .i64 0, .int .i64 0, .int .i64 0, .int .i64 0, .int .i64 0] 81)) := b1.alloc b1.size _
   have hszA : (w1.alloc (Obj.cells #[.slice none 0 0, .int .i64 0, .int .i64 0, .int .i64 0, .int .i64 0, .int .i64 0, .int .i64 0, .int .i64 0] 81)).heap.size = w1.heap.size + 1 := by simp
   have xA : (w1.alloc (Obj.cells #[.slice none 0 0, .int .i64 0, .int .i64 0, .int .i64 0, .int .i64 0, .int .i64 0, .int .i64 0, .int .i64 0] 81)).heap[w1.heap.size]? = some (Obj.cells #[.slice none 0 0, .int .i64 0, .int .i64 0, .int .i64 0, .int .i64 0, .int .i64 0, .int .i64 0, .int .i64 0] 81) := heap_alloc_new _ _
   refine hK.out _ _ (hS _ bA) (fun hHeldA => ?_)
   clear hK
   refine wpAnyH_ready (rs := [3]) (by kernel_rfl) (by simp) ?_
   refine AllReadyH.cons rfl (fun K hK => ?_) AllReadyH.nil
   go_simp
   go_wp2_with (go_at_call 251; with_reducible refine (Zf5 v (sb s) W0 (w1.alloc (Obj.cells #[.slice none 0 0, .int .i64 0, .int .i64 0, .int .i64 0, .int .i64 0, .int .i64 0, .int .i64 0, .int .i64 0] 81)) P v1 v2 v3 ns is ds RR (hb1.alloc hb1.size _) hP (hone.below ((Below.refl _ _).alloc (Nat.le_refl _) _) hone.lt) (R1.below bW) (R2.below bW) (R3.below bW)).mono ?_; rintro e w2 ⟨hgr, ao, n, c, m, r, rfl, hF⟩)
   have b2 : Below w.heap.size w w2 := bA.grown hgr bA.size (fun k hk => by simp at hk; have := bW.size; omega)
   have hsz2 := hgr.size
   refine hK.out _ _ (hS _ b2) (fun hHeld2 => ?_)
   clear hK
   have x2 := (hgr.block w1.heap.size (by omega) (by simp; omega)).trans xA
   refine wpAnyH_take (i := 4) (oi := ⟨some 8, .move (.tmp 12), 304, "l08_wire.go:47", #[⟨3, .data⟩], none⟩) (v := .tuple #[.agg (mcs (.slice ao n c) m), r]) rfl (by kernel_rfl) (by kernel_rfl) (by kernel_rfl) (fun _ _ _ h => h) (Or.inl ⟨by rfl, by intro w hSw; (try dsimp only at hSw); go_simp⟩) (by assumption) ?_
   simp only [Act.put, sit, sc0, scs]
   refine wpAnyH_take (i := 5) (oi := ⟨some 13, .extract (.tmp 8) 0, 81, "l08_wire.go:47", #[⟨4, .data⟩], none⟩) (v := .agg (mcs (.slice ao n c) m)) rfl (by kernel_rfl) (by kernel_rfl) (by kernel_rfl) (fun _ _ _ h => h) (Or.inl ⟨by rfl, by intro w hSw; (try dsimp only at hSw); go_simp⟩) (by assumption) ?_
   simp only [Act.put, sit, sc0, scs]
   refine wpAnyH_take (i := 6) (oi := ⟨some 14, .extract (.tmp 8) 1, 259, "l08_wire.go:47", #[⟨4, .data⟩, { on := 8, ground := Ground.gcOnly Departure.lateStores }], none⟩) (v := r) rfl (by kernel_rfl) (by kernel_rfl) (by kernel_rfl) (fun _ _ _ h => h) (Or.inl ⟨by rfl, by intro w hSw; (try dsimp only at hSw); go_simp⟩) (by assumption) ?_
   simp only [Act.put, sit, sc0, scs]
   refine wpAnyH_ready (rs := [8]) (by kernel_rfl) (by simp) ?_
   refine AllReadyH.cons rfl (fun K hK => ?_) AllReadyH.nil
   rw [if_pos (by rfl)]
   refine wp_store_row 81 _ _ rfl (w1.heap.size) (mcs (.slice ao n c) m) rfl rfl 81 #[.slice none 0 0, .int .i64 0, .int .i64 0, .int .i64 0, .int .i64 0, .int .i64 0, .int .i64 0, .int .i64 0] x2 Zmc rfl (ZbK _ _ _ _) ?_
   have bF := below_setRow b2 (g := w1.heap.size) (by omega) (mcs (.slice ao n c) m)
   refine hK.out _ _ (hS _ bF) (fun hHeldF => ?_)
   clear hK
   simp only [Act.put]
   refine wpAnyH_take (i := 9) (oi := ⟨some 7, .assign (.tmp 14), 259, "l08_wire.go:47", #[⟨6, .data⟩, ⟨8, .chain⟩, ⟨0, .phase⟩, ⟨1, .phase⟩, ⟨2, .phase⟩, ⟨3, .phase⟩, ⟨4, .phase⟩, ⟨5, .phase⟩, ⟨6, .phase⟩, ⟨7, .phase⟩, ⟨8, .phase⟩], none⟩) (v := r) rfl (by kernel_rfl) (by kernel_rfl) (by kernel_rfl) (fun _ _ _ h => h) (Or.inl ⟨by rfl, by intro w hSw; (try dsimp only at hSw); go_simp⟩) (by assumption) ?_
   simp only [Act.put]
   refine wpAnyH_done (by kernel_rfl) ?_ _
   exact NoPanic.normal <| hQ _ _ _ _ _ _ _ (w1.heap.size) ao n c m r _ (by omega) bF (setRow_heap _ _ _ _ _ _ x2) (hF.keep fun _ _ _ o => Zaf (Zak o (by omega) (fun k hk => setRow_other _ _ k _ hk)) (by omega))
 ·go_simp
  go_wp2_with fail
  have bA : Below w.heap.size w (w.drew.alloc (Obj.cells #[.slice none 0 0, .int .i64 0, .int .i64 0, .int .i64 0, .int .i64 0, .int .i64 0, .int .i64 0, .int .i64 0] 81)) := b0.alloc b0.size _
  have hszA : (w.drew.alloc (Obj.cells #[.slice none 0 0, .int .i64 0, .int .i64 0, .int .i64 0, .int .i64 0, .int .i64 0, .int .i64 0, .int .i64 0] 81)).heap.size = w.drew.heap.size + 1 := by simp
  have xA : (w.drew.alloc (Obj.cells #[.slice none 0 0, .int .i64 0, .int .i64 0, .int .i64 0, .int .i64 0, .int .i64 0, .int .i64 0, .int .i64 0] 81)).heap[w.drew.heap.size]? = some (Obj.cells #[.slice none 0 0, .int .i64 0, .int .i64 0, .int .i64 0, .int .i64 0, .int .i64 0, .int .i64 0, .int .i64 0] 81) := heap_alloc_new _ _
  refine hK.out _ _ (hS _ bA) (fun hHeldA => ?_)
  clear hK
  refine wpAnyH_ready (rs := [1]) (by kernel_rfl) (by simp) ?_
  refine AllReadyH.cons rfl (fun K hK => ?_) AllReadyH.nil
  go_simp
  go_wp2_with (go_at_call 206; with_reducible refine (Za1 s _ hs).mono ?_; rintro e w1 ⟨v, W0, P, rfl, RR, hbW, hb1, hP, hone⟩)
  have bW := bA.trans (hbW.mono bA.size)
  have b1 := bW.trans (hb1.mono bW.size)
  have hszW := hbW.size
  have hsz1 := hb1.size
  have hPl := hone.lt
  refine hK.out _ _ (hS _ b1) (fun hHeld1 => ?_)
  clear hK
  refine wpAnyH_ready (rs := [3]) (by kernel_rfl) (by simp) ?_
  refine AllReadyH.cons rfl (fun K hK => ?_) AllReadyH.nil
  go_simp
  go_wp2_with (go_at_call 251; with_reducible refine (Zf5 v (sb s) W0 w1 P v1 v2 v3 ns is ds RR hb1 hP hone (R1.below bW) (R2.below bW) (R3.below bW)).mono ?_; rintro e w2 ⟨hgr, ao, n, c, m, r, rfl, hF⟩)
  have b2 : Below w.heap.size w w2 := b1.grown hgr b1.size (fun k hk => by simp at hk; have := bW.size; omega)
  have hsz2 := hgr.size
  refine hK.out _ _ (hS _ b2) (fun hHeld2 => ?_)
  clear hK
  have hszW' : w.heap.size + 1 <= W0.heap.size := by simpa using hszW
  have x2 := (hgr.block w.heap.size (by omega) (by simp; omega)).trans ((hb1.block _ (by omega)).trans ((hbW.block w.heap.size (by simp)).trans (heap_alloc_new w _)))
  refine wpAnyH_take (i := 4) (oi := ⟨some 8, .move (.tmp 12), 304, "l08_wire.go:47", #[⟨3, .data⟩], none⟩) (v := .tuple #[.agg (mcs (.slice ao n c) m), r]) rfl (by kernel_rfl) (by kernel_rfl) (by kernel_rfl) (fun _ _ _ h => h) (Or.inl ⟨by rfl, by intro w hSw; (try dsimp only at hSw); go_simp⟩) (by assumption) ?_
  simp only [Act.put, sit, sc0, scs]
  refine wpAnyH_take (i := 5) (oi := ⟨some 13, .extract (.tmp 8) 0, 81, "l08_wire.go:47", #[⟨4, .data⟩], none⟩) (v := .agg (mcs (.slice ao n c) m)) rfl (by kernel_rfl) (by kernel_rfl) (by kernel_rfl) (fun _ _ _ h => h) (Or.inl ⟨by rfl, by intro w hSw; (try dsimp only at hSw); go_simp⟩) (by assumption) ?_
  simp only [Act.put, sit, sc0, scs]
  refine wpAnyH_take (i := 6) (oi := ⟨some 14, .extract (.tmp 8) 1, 259, "l08_wire.go:47", #[⟨4, .data⟩, { on := 8, ground := Ground.gcOnly Departure.lateStores }], none⟩) (v := r) rfl (by kernel_rfl) (by kernel_rfl) (by kernel_rfl) (fun _ _ _ h => h) (Or.inl ⟨by rfl, by intro w hSw; (try dsimp only at hSw); go_simp⟩) (by assumption) ?_
  simp only [Act.put, sit, sc0, scs]
  refine wpAnyH_ready (rs := [8]) (by kernel_rfl) (by simp) ?_
  refine AllReadyH.cons rfl (fun K hK => ?_) AllReadyH.nil
  rw [if_pos (by rfl)]
  refine wp_store_row 81 _ _ rfl (w.heap.size) (mcs (.slice ao n c) m) rfl rfl 81 #[.slice none 0 0, .int .i64 0, .int .i64 0, .int .i64 0, .int .i64 0, .int .i64 0, .int .i64 0, .int .i64 0] x2 Zmc rfl (ZbK _ _ _ _) ?_
  have bF := below_setRow b2 (g := w.heap.size) (by omega) (mcs (.slice ao n c) m)
  refine hK.out _ _ (hS _ bF) (fun hHeldF => ?_)
  clear hK
  simp only [Act.put]
  refine wpAnyH_take (i := 9) (oi := ⟨some 7, .assign (.tmp 14), 259, "l08_wire.go:47", #[⟨6, .data⟩, ⟨8, .chain⟩, ⟨0, .phase⟩, ⟨1, .phase⟩, ⟨2, .phase⟩, ⟨3, .phase⟩, ⟨4, .phase⟩, ⟨5, .phase⟩, ⟨6, .phase⟩, ⟨7, .phase⟩, ⟨8, .phase⟩], none⟩) (v := r) rfl (by kernel_rfl) (by kernel_rfl) (by kernel_rfl) (fun _ _ _ h => h) (Or.inl ⟨by rfl, by intro w hSw; (try dsimp only at hSw); go_simp⟩) (by assumption) ?_
  simp only [Act.put]
  refine wpAnyH_done (by kernel_rfl) ?_ _
  exact NoPanic.normal <| hQ _ _ _ _ _ _ _ (w.heap.size) ao n c m r _ (by omega) bF (setRow_heap _ _ _ _ _ _ x2) (hF.keep fun _ _ _ o => Zaf (Zak o (by omega) (fun k hk => setRow_other _ _ k _ hk)) (by omega))
theorem Zhl (v1 v2 v3 : Value) (ns : List Nd) (is : List In) (ds : List Df) (s : ByteArray) (w : World) (R1 : NRow w v1 ns) (R2 : InRow w v2 is) (R3 : DfRow w v3 ds) (hs : s.size <= 140737488351232) (hg : ErrT w) :
  Calls Tryz.prog 242 #[.agg #[v1, v2, v3], .string s] w fun e w' => MrAns w.heap.size (mrR ns is ds (sb s)) e w' /\ Below w.heap.size w w' := by
 obtain ⟨a1, c1, rfl⟩ := R1.small
 obtain ⟨a2, c2, rfl⟩ := R2.small
 obtain ⟨a3, c3, rfl⟩ := R3.small
 obtain ⟨hB2, z0, z1⟩ := Zat w (Obj.cells #[.slice a1 ns.length c1, .slice a2 is.length c2, .slice a3 ds.length c3] 44) (Obj.cells #[.slice none 0 0, .int .i64 0, .int .i64 0, .int .i64 0, .int .i64 0, .int .i64 0, .int .i64 0, .int .i64 0] 81)
 go_enter Tryz.func242, Tryz.ntmps242
 go_wp2_with fail
 obtain ⟨W2, hW2⟩ : ∃ W2, (w.alloc (Obj.cells #[.slice a1 ns.length c1, .slice a2 is.length c2, .slice a3 ds.length c3] 44)).alloc (Obj.cells #[.slice none 0 0, .int .i64 0, .int .i64 0, .int .i64 0, .int .i64 0, .int .i64 0, .int .i64 0, .int .i64 0] 81) = W2 := ⟨_, rfl⟩
 rw [hW2] at hB2 z0 z1 ⊢
 have hs2 : w.heap.size + 1 < W2.heap.size := by rw [<- hW2]; simp
 clear hW2
 refine Zkh w.heap.size _ _ _ ns is ds s W2 _ z0 (R1.below hB2) (R2.below hB2) (R3.below hB2) hs ?_
 intro u8 u9 u10 u11 u12 u13 u14 bx ao n c m r W hbx hbW xb hF
 have x1 := (hbW.block _ hs2).trans z1
 have BW := hB2.trans (hbW.mono hB2.size)
 have lb := (bl xb)
 have hsW := hbW.size
 clear z0 z1
 rcases hF with ⟨xs, h1, rfl, h3⟩ | ⟨h1, p, rfl⟩
 ·have HA : Hid (mrR ns is ds (sb s) = some (xs, m)) := h1
  clear h1
  go_wp2_with fail
  refine (Ze6 _).mono ?_
  rintro e w4 ⟨rfl, hb4⟩
  have x4 := (bb x1 hb4)
  have m4 := (hb4.block _ lb).trans xb
  have o4 := Zad h3 hb4
  have B4 := BW.trans (hb4.mono BW.size)
  go_wp2_with (first
   | (refine wpList_load_row rfl 81 _ rfl bx rfl 81 (mcs (.slice ao n c) m) (0, 0) _ m4 Tryz.underlying81 rfl Zmc ?_)
   | (refine Zac rfl 81 _ _ rfl (w.heap.size + 1) (mcs (.slice ao n c) m) rfl rfl 81 _ x4 Zmc rfl (ZbK _ _ _ _) ?_))
  intro wF hF hbF hsF hkF
  have BF := B4.trans (hbF.mono (Nat.le_succ _))
  have oF := Zaf (Zak o4 hs2 hkF) (by omega : w.heap.size <= W2.heap.size)
  clear hsF hkF
  go_wp2
  refine bodyPost_ret (Zab rfl _ _ (w.heap.size + 1) 81 _ (0, 0) _ rfl hF Tryz.underlying81 rfl Zmc) rfl ⟨MrAns.intro (.slice ao n c) ?_ ?_, BF⟩
  ·rw [HA.out]; rfl
  ·rw [HA.out]; exact oF
 ·have HA : Hid (mrR ns is ds (sb s) = none) := h1
  clear h1
  go_wp2_with fail
  refine (Ze8 p _ (hg.below BW (Nat.le_refl _))).mono ?_
  rintro e w4 ⟨rfl, hb4⟩
  have x4 := (bb x1 hb4)
  have B4 := BW.trans (hb4.mono BW.size)
  go_wp2_with (refine Zah rfl 81 _ _ rfl (w.heap.size + 1) #[.slice none 0 0, .int .i64 0, .int .i64 0, .int .i64 0, .int .i64 0, .int .i64 0, .int .i64 0, .int .i64 0] rfl rfl 81 _ x4 Zmc rfl (by simp [Value.oneCell']) ?_)
  intro wF hF hbF hsF
  have BF := B4.trans (hbF.mono (Nat.le_succ _))
  clear hsF
  go_wp2
  refine bodyPost_ret (Zab rfl _ _ (w.heap.size + 1) 81 _ (0, 0) _ rfl hF Tryz.underlying81 rfl Zmc) rfl ⟨MrAns.intro (.slice none 0 0) ?_ ?_, BF⟩
  ·rw [HA.out]; rfl
  ·rw [HA.out]; exact World.ownsRow_nil _ _ _ _
def ZbW (zs : List Int) : Option (Int × ByteArray × List ByteArray × List ByteArray) :=
 (rd1 zs 0).bind fun p => (rt zs p.2).bind fun t => (rdTB zs 20 t.2).bind fun b => (rdTB zs 40 b.2).bind fun o => if o.2 = zs.length then some (p.1, t.1, b.1, o.1) else none
def paT (ns : List Nd) (is : List In) (ds : List Df) (r : Option (Int × ByteArray × List ByteArray × List ByteArray)) : Int × List Nd × Mc × List ByteArray × List ByteArray × Bool :=
 match r with
 | none => (0, [], ⟨0, 0, 0, 0, 0, 0, 0⟩, [], [], false)
 | some (i, t, b, o) => (i, mrL (mrR ns is ds (sb t)), mrM (mrR ns is ds (sb t)), b, o, (mrR ns is ds (sb t)).isSome)
theorem Zk2 (ns : List Nd) (is : List In) (ds : List Df) (zs : List Int) : pdR ns is ds zs = (ZbW zs).bind fun a => (mrR ns is ds (sb a.2.1)).bind fun r => if ZbJ ns is ds a.1 r.1 r.2 a.2.2.1 a.2.2.2 then some (a.1, r, a.2.2.1, a.2.2.2) else none := by
 rw [ZjS]
 unfold ZbW
 cases rd1 zs 0 with
 | none => rfl
 | some p =>
  simp only [Option.bind_some]
  cases rt zs p.2 with
  | none => rfl
  | some t =>
   simp only [Option.bind_some]
   cases rdTB zs 20 t.2 with
   | none => rfl
   | some b =>
    simp only [Option.bind_some]
    cases rdTB zs 40 b.2 with
    | none => rfl
    | some o =>
     simp only [Option.bind_some]
     split <;> rfl
theorem Zdp (v : Value) (zs : List Int) (W0 w : World) (P : Nat) (a : Int) (most : Nat) (R : Row W0 v zs) (hb : Below W0.heap.size W0 w) (hP : W0.heap.size <= P) (h1 : One w P a) (hmost : most <= 40) (hzl : zs.length <= 140737488351232) :
  Calls Tryz.prog 241 #[.agg #[v, .pointer (some ⟨P, 0, none⟩)], .int .i64 most] w fun e w' => ∃ (v' : Value) (ts : List ByteArray) (k : Bool) (q : Int), e = .returned (.tuple #[v', .bool k]) /\ One w' P q /\ w'.ownsRow w.heap.size 9 1 v' ts.length (stv ts) /\ rdTB zs most a = (if k then some (ts, q) else none) /\ w.grownBy w' (some P) :=
 (Zhz v zs W0 w P a most R hb hP h1 hmost hzl).mono fun _ _ h => by
  rcases h with ⟨hg, ⟨q, v', h1, h2, h3, h4⟩ | ⟨h1, h2, q, h3⟩⟩
  ·exact ⟨v', q.1, true, q.2, h2, h3, h4, h1, hg⟩
  ·exact ⟨.slice none 0 0, [], false, q, h2, h3, ⟨by simp [stv], Or.inl ⟨rfl, rfl⟩⟩, h1, hg⟩
theorem Zer {zs : List Int} : ∀ {n : Nat} {a : Int} {q : List ByteArray × Int}, a <= zs.length -> rdTs zs n a = some q -> q.2 <= zs.length /\ ∀ x ∈ q.1, x.size <= zs.length
 | 0, a, q, ha, h => by cases h; exact ⟨ha, by simp⟩
 | n + 1, a, q, ha, h => by
  rw [rdTs, Option.bind_eq_some_iff] at h
  obtain ⟨p, h1, h2⟩ := h
  rw [Option.map_eq_some_iff] at h2
  obtain ⟨t, h3, rfl⟩ := h2
  unfold rt at h1
  split at h1
  ·cases h1
   have hr := (Zcn zs a).2
   obtain ⟨e1, e2⟩ := Zer hr h3
   refine ⟨e1, fun x hx => ?_⟩
   rcases List.mem_cons.1 hx with rfl | hx
   ·exact Zcx zs a
   ·exact e2 x hx
  ·cases h1
theorem Zes {zs : List Int} {most : Nat} {a : Int} {q : List ByteArray × Int} (h : rdTB zs most a = some q) : q.2 <= zs.length /\ ∀ x ∈ q.1, x.size <= zs.length := by
 obtain ⟨h1, _⟩ := ZcO h
 unfold rdTL at h1
 rw [Option.bind_eq_some_iff] at h1
 obtain ⟨p, h2, h3⟩ := h1
 exact Zer (Za5 h2).2.2.2 h3
def PaAns (B : Nat) (T : Int × List Nd × Mc × List ByteArray × List ByteArray × Bool) (e : Ending) (w' : World) : Prop :=
 ∃ (I : Int) (X : List Nd) (M : Mc) (BX OX : List ByteArray) (ok : Bool) (y1 y2 y3 : Value), T = (I, X, M, BX, OX, ok) /\ e = .returned (.tuple #[.agg #[.int .i64 I, y1, .int .i64 M.p, .int .i64 M.s, .int .i64 M.e, .int .i64 M.d, .int .i64 M.t, .int .i64 M.q, .int .i64 M.r, y2, y3], .bool ok]) /\ w'.ownsRow B 210 5 y1 X.length (ncs X) /\ w'.ownsRow B 9 1 y2 BX.length (stv BX) /\ w'.ownsRow B 9 1 y3 OX.length (stv OX) /\ ∀ g, y3.ownBlock = some g -> y2.ownBlock ≠ some g
theorem PaAns.zero {B : Nat} {ns : List Nd} {is : List In} {ds : List Df} {r : Option (Int × ByteArray × List ByteArray × List ByteArray)} {w' : World} (h : r = none) : PaAns B (paT ns is ds r) (.returned (.tuple #[.agg #[.int .i64 0, .slice none 0 0, .int .i64 0, .int .i64 0, .int .i64 0, .int .i64 0, .int .i64 0, .int .i64 0, .int .i64 0, .slice none 0 0, .slice none 0 0], .bool false])) w' := by
 subst h
 exact ⟨0, [], ⟨0, 0, 0, 0, 0, 0, 0⟩, [], [], false, .slice none 0 0, .slice none 0 0, .slice none 0 0, rfl, rfl, ⟨by simp [ncs], Or.inl ⟨rfl, rfl⟩⟩, ⟨by simp [stv], Or.inl ⟨rfl, rfl⟩⟩, ⟨by simp [stv], Or.inl ⟨rfl, rfl⟩⟩, fun g h => by cases h⟩
theorem Zcm {w a b : World} {P g : Nat} (h : w.grownBy a (some P)) (hb : Below g a b) (hs : b.heap.size = a.heap.size) (hk : ∀ k, k ≠ g -> b.heap[k]? = a.heap[k]?) (hg : w.heap.size <= g) : w.grownBy b (some P) :=
 ⟨hb.os.trans h.os, hb.tape.trans h.tape, hb.output.trans h.output, by rw [hs]; exact h.size, fun k hk' hne => (hk k (by omega)).trans (h.block k hk' hne)⟩
theorem Zjx (v : Value) (zs : List Int) (W0 w : World) (P : Nat) (v1 v2 v3 : Value) (ns : List Nd) (is : List In) (ds : List Df) (R : Row W0 v zs) (hb : Below W0.heap.size W0 w) (hP : W0.heap.size <= P) (h1 : One w P 0) (R1 : NRow W0 v1 ns) (R2 : InRow W0 v2 is) (R3 : DfRow W0 v3 ds) (hg : ErrT W0) (hzl : zs.length <= 140737488351232) :
  Calls Tryz.prog 210 #[.agg #[v, .pointer (some ⟨P, 0, none⟩)], .agg #[v1, v2, v3]] w fun e w' => PaAns w.heap.size (paT ns is ds (ZbW zs)) e w' /\ w.grownBy w' (some P) := by
 have R' := R
 obtain ⟨ao, cap, rfl, _⟩ := R'
 obtain ⟨a1, c1, rfl⟩ := R1.small
 obtain ⟨a2, c2, rfl⟩ := R2.small
 obtain ⟨a3, c3, rfl⟩ := R3.small
 have hPl := h1.lt
 have hbs := hb.size
 obtain ⟨A, hA⟩ : ∃ A, A = w.alloc (Obj.cells #[Value.slice ao zs.length cap, Value.pointer (some ⟨P, 0, none⟩)] 254) := ⟨_, rfl⟩
 have hB3 : Below w.heap.size w (((w.alloc (Obj.cells #[Value.slice ao zs.length cap, Value.pointer (some ⟨P, 0, none⟩)] 254)).alloc (Obj.cells #[.slice a1 ns.length c1, .slice a2 is.length c2, .slice a3 ds.length c3] 44)).alloc (Obj.cells #[.int .i64 0, .slice none 0 0, .int .i64 0, .int .i64 0, .int .i64 0, .int .i64 0, .int .i64 0, .int .i64 0, .int .i64 0, .slice none 0 0, .slice none 0 0] 83)) := (((Below.refl _ _).alloc (Nat.le_refl _) _).alloc (by simp) _).alloc (by simp; omega) _
 have hr : (((w.alloc (Obj.cells #[Value.slice ao zs.length cap, Value.pointer (some ⟨P, 0, none⟩)] 254)).alloc (Obj.cells #[.slice a1 ns.length c1, .slice a2 is.length c2, .slice a3 ds.length c3] 44)).alloc (Obj.cells #[.int .i64 0, .slice none 0 0, .int .i64 0, .int .i64 0, .int .i64 0, .int .i64 0, .int .i64 0, .int .i64 0, .int .i64 0, .slice none 0 0, .slice none 0 0] 83)).heap[w.heap.size]? = some (.cells #[Value.slice ao zs.length cap, Value.pointer (some ⟨P, 0, none⟩)] 254 (0, 0)) := (heap_alloc_old _ _ (by simp; omega)).trans ((heap_alloc_old _ _ (by simp)).trans (heap_alloc_new _ _))
 have hk : (((w.alloc (Obj.cells #[Value.slice ao zs.length cap, Value.pointer (some ⟨P, 0, none⟩)] 254)).alloc (Obj.cells #[.slice a1 ns.length c1, .slice a2 is.length c2, .slice a3 ds.length c3] 44)).alloc (Obj.cells #[.int .i64 0, .slice none 0 0, .int .i64 0, .int .i64 0, .int .i64 0, .int .i64 0, .int .i64 0, .int .i64 0, .int .i64 0, .slice none 0 0, .slice none 0 0] 83)).heap[w.heap.size + 1]? = some (.cells #[.slice a1 ns.length c1, .slice a2 is.length c2, .slice a3 ds.length c3] 44 (0, 0)) := (heap_alloc_old _ _ (by simp)).trans (heap_alloc2_new _ _ _)
 have hy : (((w.alloc (Obj.cells #[Value.slice ao zs.length cap, Value.pointer (some ⟨P, 0, none⟩)] 254)).alloc (Obj.cells #[.slice a1 ns.length c1, .slice a2 is.length c2, .slice a3 ds.length c3] 44)).alloc (Obj.cells #[.int .i64 0, .slice none 0 0, .int .i64 0, .int .i64 0, .int .i64 0, .int .i64 0, .int .i64 0, .int .i64 0, .int .i64 0, .slice none 0 0, .slice none 0 0] 83)).heap[w.heap.size + 2]? = some (.cells #[.int .i64 0, .slice none 0 0, .int .i64 0, .int .i64 0, .int .i64 0, .int .i64 0, .int .i64 0, .int .i64 0, .int .i64 0, .slice none 0 0, .slice none 0 0] 83 (0, 0)) := by
  have h := heap_alloc_new ((w.alloc (Obj.cells #[Value.slice ao zs.length cap, Value.pointer (some ⟨P, 0, none⟩)] 254)).alloc (Obj.cells #[.slice a1 ns.length c1, .slice a2 is.length c2, .slice a3 ds.length c3] 44)) (Obj.cells #[.int .i64 0, .slice none 0 0, .int .i64 0, .int .i64 0, .int .i64 0, .int .i64 0, .int .i64 0, .int .i64 0, .int .i64 0, .slice none 0 0, .slice none 0 0] 83)
  simpa using h
 clear hA A
 have hone := h1.below hB3 hPl
 have hbel := hb.trans (hB3.mono hbs)
 have hG : w.grownBy (((w.alloc (Obj.cells #[Value.slice ao zs.length cap, Value.pointer (some ⟨P, 0, none⟩)] 254)).alloc (Obj.cells #[.slice a1 ns.length c1, .slice a2 is.length c2, .slice a3 ds.length c3] 44)).alloc (Obj.cells #[.int .i64 0, .slice none 0 0, .int .i64 0, .int .i64 0, .int .i64 0, .int .i64 0, .int .i64 0, .int .i64 0, .int .i64 0, .slice none 0 0, .slice none 0 0] 83)) (some P) := ⟨hB3.os, hB3.tape, hB3.output, hB3.size, fun k hk _ => hB3.block k hk⟩
 have HN := Zdu _ zs P 0 W0 _ R hbel hP hone
 have E1 : ∀ gx gn gk q, gN zs 0 = (gx, gn, gk) -> (gk = true -> q = gn) -> rd1 zs 0 = if gk then some (gx, q) else none := fun gx gn gk q h1 h2 => by
  unfold rd1
  rw [h1]
  cases gk with
  | false => rfl
  | true => simp [h2 rfl]
 have E2 : ∀ a tx tn tk q, gT zs a = (tx, tn, tk) -> (tk = true -> q = tn) -> rt zs a = if tk then some (tx, q) else none := fun a tx tn tk q h1 h2 => by
  unfold rt
  rw [h1]
  cases tk with
  | false => rfl
  | true => simp [h2 rfl]
 obtain ⟨gg, hgg⟩ : ∃ g, gN zs 0 = g := ⟨_, rfl⟩
 obtain ⟨gx, gn, gk⟩ := gg
 rw [hgg] at HN
 simp only at HN
 replace E1 := fun q => E1 gx gn gk q hgg
 clear hgg hB3
 go_enter Tryz.func210, Tryz.ntmps210
 go_wp2_with fail
 refine HN.mono ?_
 rintro e w1 ⟨rfl, ⟨q1, hone1, hq1⟩, g1⟩
 have A1 : Hid (rd1 zs 0 = if gk then some (gx, q1) else none) := E1 q1 hq1
 replace hr := (g1.block _ (Zao hr) (by simp; omega)).trans hr
 replace hk := (g1.block _ (Zao hk) (by simp; omega)).trans hk
 replace hy := (g1.block _ (Zao hy) (by simp; omega)).trans hy
 replace hG := Zaz hG g1 (fun k hk => Or.inl (by cases hk; rfl))
 replace hbel := hbel.grown g1 hbel.size (fun k hk => by cases hk; exact hP)
 clear g1
 clear HN E1 hq1 hone h1
 have c0 : w1.cell? ⟨w.heap.size, 0, none⟩ = some (.slice ao zs.length cap) := cell_of_row w1 _ 0 _ _ _ hr
 have c1' : w1.cell? ⟨w.heap.size, 0 + 1, none⟩ = some (.pointer (some ⟨P, 0, none⟩)) := cell_of_row w1 _ 1 _ _ _ hr
 have HT := Zc2 _ zs P q1 W0 w1 R hbel hP hone1
 have hts := Zcx zs q1
 obtain ⟨gg, hgg⟩ : ∃ g, gT zs q1 = g := ⟨_, rfl⟩
 obtain ⟨tx, tn, tk⟩ := gg
 rw [hgg] at HT hts
 simp only at HT hts
 replace E2 := fun q => E2 q1 tx tn tk q hgg
 clear hgg
 go_wp2_with fail
 refine HT.mono ?_
 rintro e w2 ⟨rfl, ⟨q2, hone2, hq2⟩, g2⟩
 have A2 : Hid (rt zs q1 = if tk then some (tx, q2) else none) := E2 q2 hq2
 clear c0 c1'
 replace hr := (g2.block _ (Zao hr) (by simp; omega)).trans hr
 replace hk := (g2.block _ (Zao hk) (by simp; omega)).trans hk
 replace hy := (g2.block _ (Zao hy) (by simp; omega)).trans hy
 replace hG := Zaz hG g2 (fun k hk => Or.inl (by cases hk; rfl))
 replace hbel := hbel.grown g2 hbel.size (fun k hk => by cases hk; exact hP)
 clear g2
 clear HT E2 hq2 hone1
 have c0 : w2.cell? ⟨w.heap.size, 0, none⟩ = some (.slice ao zs.length cap) := cell_of_row w2 _ 0 _ _ _ hr
 have c1' : w2.cell? ⟨w.heap.size, 0 + 1, none⟩ = some (.pointer (some ⟨P, 0, none⟩)) := cell_of_row w2 _ 1 _ _ _ hr
 go_wp2_with fail
 refine (Zdp _ zs W0 w2 P q2 20 R hbel hP hone2 (by omega) hzl).mono ?_
 rintro e w3 ⟨vb, bs, bk, q3, rfl, hone3, O2, A3, g3⟩
 replace A3 : Hid (rdTB zs 20 q2 = if bk then some (bs, q3) else none) := A3
 replace O2 := Zaf (B' := w.heap.size + 3) O2 (by have := Zao hy; omega)
 have hlt2 : ∀ g, vb.ownBlock = some g -> g < w3.heap.size := fun g hg => (O2.lt g hg).2
 clear c0 c1'
 replace hr := (g3.block _ (Zao hr) (by simp; omega)).trans hr
 replace hk := (g3.block _ (Zao hk) (by simp; omega)).trans hk
 replace hy := (g3.block _ (Zao hy) (by simp; omega)).trans hy
 replace hG := Zaz hG g3 (fun k hk => Or.inl (by cases hk; rfl))
 replace hbel := hbel.grown g3 hbel.size (fun k hk => by cases hk; exact hP)
 clear g3
 clear hone2
 have c0 : w3.cell? ⟨w.heap.size, 0, none⟩ = some (.slice ao zs.length cap) := cell_of_row w3 _ 0 _ _ _ hr
 have c1' : w3.cell? ⟨w.heap.size, 0 + 1, none⟩ = some (.pointer (some ⟨P, 0, none⟩)) := cell_of_row w3 _ 1 _ _ _ hr
 go_wp2_with fail
 refine (Zdp _ zs W0 w3 P q3 40 R hbel hP hone3 (by omega) hzl).mono ?_
 rintro e w4 ⟨vo, os, ok, q4, rfl, hone4, O3, A4, g4⟩
 replace A4 : Hid (rdTB zs 40 q3 = if ok then some (os, q4) else none) := A4
 have hap : ∀ g, vo.ownBlock = some g -> vb.ownBlock ≠ some g := fun g h3 h2 => by
  have k1 := (O3.lt g h3).1
  have k2 := hlt2 g h2
  omega
 replace O3 := Zaf (B' := w.heap.size + 3) O3 (by have := Zao hy; omega)
 clear c0 c1' hlt2
 replace hr := (g4.block _ (Zao hr) (by simp; omega)).trans hr
 replace hk := (g4.block _ (Zao hk) (by simp; omega)).trans hk
 replace hy := (g4.block _ (Zao hy) (by simp; omega)).trans hy
 replace O2 := Zb9 O2 (by omega) g4
 replace hG := Zaz hG g4 (fun k hk => Or.inl (by cases hk; rfl))
 replace hbel := hbel.grown g4 hbel.size (fun k hk => by cases hk; exact hP)
 clear g4
 clear hone3
 have HA : Hid (ZbW zs = if gk && (tk && (bk && (ok && decide (q4 = zs.length)))) then some (gx, tx, bs, os) else none) := by
  unfold Hid ZbW
  rw [A1.out]
  cases gk with
  | false => rfl
  | true =>
   simp only [if_true, Option.bind_some]
   rw [A2.out]
   cases tk with
   | false => rfl
   | true =>
    simp only [if_true, Option.bind_some]
    rw [A3.out]
    cases bk with
    | false => rfl
    | true =>
     simp only [if_true, Option.bind_some]
     rw [A4.out]
     cases ok with
     | false => rfl
     | true =>
      simp only [if_true, Option.bind_some, Bool.true_and, decide_eq_true_eq]
 have hq4 : ok = true -> q4 <= zs.length := fun h => (Zes (q := (os, q4)) (by rw [A4.out, h]; rfl)).1
 clear A1 A2 A3 A4
 have ly := Zao hy
 obtain ⟨ab, cb, rfl⟩ := Zae O2
 obtain ⟨ac, cc, rfl⟩ := Zae O3
 cases gk with
 | false =>
  replace HA : Hid (ZbW zs = none) := HA.out
  go_wp2_with (refine Zac rfl 83 _ _ rfl (w.heap.size + 2) #[.int .i64 0, .slice none 0 0, .int .i64 0, .int .i64 0, .int .i64 0, .int .i64 0, .int .i64 0, .int .i64 0, .int .i64 0, .slice none 0 0, .slice none 0 0] rfl rfl 83 #[.int .i64 0, .slice none 0 0, .int .i64 0, .int .i64 0, .int .i64 0, .int .i64 0, .int .i64 0, .int .i64 0, .int .i64 0, .slice none 0 0, .slice none 0 0] hy Zma rfl (by simp [Value.oneCell']) ?_)
  intro wB hvB hbB hsB hkB
  have gB : w.grownBy wB (some P) := Zcm hG hbB hsB hkB (by omega)
  go_wp2
  exact bodyPost_ret (Zab rfl _ _ (w.heap.size + 2) 83 _ (0, 0) _ rfl hvB Tryz.underlying83 rfl Zma) rfl ⟨PaAns.zero HA.out, gB⟩
 | true =>
  cases tk with
  | false =>
   replace HA : Hid (ZbW zs = none) := HA.out
   go_wp2_with (refine Zac rfl 83 _ _ rfl (w.heap.size + 2) #[.int .i64 0, .slice none 0 0, .int .i64 0, .int .i64 0, .int .i64 0, .int .i64 0, .int .i64 0, .int .i64 0, .int .i64 0, .slice none 0 0, .slice none 0 0] rfl rfl 83 #[.int .i64 0, .slice none 0 0, .int .i64 0, .int .i64 0, .int .i64 0, .int .i64 0, .int .i64 0, .int .i64 0, .int .i64 0, .slice none 0 0, .slice none 0 0] hy Zma rfl (by simp [Value.oneCell']) ?_)
   intro wB hvB hbB hsB hkB
   have gB : w.grownBy wB (some P) := Zcm hG hbB hsB hkB (by omega)
   go_wp2
   exact bodyPost_ret (Zab rfl _ _ (w.heap.size + 2) 83 _ (0, 0) _ rfl hvB Tryz.underlying83 rfl Zma) rfl ⟨PaAns.zero HA.out, gB⟩
  | true =>
   cases bk with
   | false =>
    replace HA : Hid (ZbW zs = none) := HA.out
    go_wp2_with (refine Zac rfl 83 _ _ rfl (w.heap.size + 2) #[.int .i64 0, .slice none 0 0, .int .i64 0, .int .i64 0, .int .i64 0, .int .i64 0, .int .i64 0, .int .i64 0, .int .i64 0, .slice none 0 0, .slice none 0 0] rfl rfl 83 #[.int .i64 0, .slice none 0 0, .int .i64 0, .int .i64 0, .int .i64 0, .int .i64 0, .int .i64 0, .int .i64 0, .int .i64 0, .slice none 0 0, .slice none 0 0] hy Zma rfl (by simp [Value.oneCell']) ?_)
    intro wB hvB hbB hsB hkB
    have gB : w.grownBy wB (some P) := Zcm hG hbB hsB hkB (by omega)
    go_wp2
    exact bodyPost_ret (Zab rfl _ _ (w.heap.size + 2) 83 _ (0, 0) _ rfl hvB Tryz.underlying83 rfl Zma) rfl ⟨PaAns.zero HA.out, gB⟩
   | true =>
    cases ok with
    | false =>
     replace HA : Hid (ZbW zs = none) := HA.out
     go_wp2_with (refine Zac rfl 83 _ _ rfl (w.heap.size + 2) #[.int .i64 0, .slice none 0 0, .int .i64 0, .int .i64 0, .int .i64 0, .int .i64 0, .int .i64 0, .int .i64 0, .int .i64 0, .slice none 0 0, .slice none 0 0] rfl rfl 83 #[.int .i64 0, .slice none 0 0, .int .i64 0, .int .i64 0, .int .i64 0, .int .i64 0, .int .i64 0, .int .i64 0, .int .i64 0, .slice none 0 0, .slice none 0 0] hy Zma rfl (by simp [Value.oneCell']) ?_)
     intro wB hvB hbB hsB hkB
     have gB : w.grownBy wB (some P) := Zcm hG hbB hsB hkB (by omega)
     go_wp2
     exact bodyPost_ret (Zab rfl _ _ (w.heap.size + 2) 83 _ (0, 0) _ rfl hvB Tryz.underlying83 rfl Zma) rfl ⟨PaAns.zero HA.out, gB⟩
    | true =>
     have hq := hq4 rfl
     have c0 : w4.cell? ⟨w.heap.size, 0, none⟩ = some (.slice ao zs.length cap) := cell_of_row w4 _ 0 _ _ _ hr
     have c1' : w4.cell? ⟨w.heap.size, 0 + 1, none⟩ = some (.pointer (some ⟨P, 0, none⟩)) := cell_of_row w4 _ 1 _ _ _ hr
     go_wp2_with fail
     refine (Zc4 _ zs P q4 _ ⟨ao, cap, rfl⟩ hone4).mono ?_
     rintro e w5 ⟨re, rfl, hE, hb5⟩
     replace hk := Zal hk hb5
     replace hy := Zal hy hb5
     replace O2 := Zad O2 hb5
     replace O3 := Zad O3 hb5
     replace hbel := hbel.trans (hb5.mono hbel.size)
     replace hG := Zaz hG (Zb4 hb5 none) (fun k hk => by cases hk)
     clear hb5 c0 c1' hone4 hr
     replace ly := Zao hy
     rcases hE with ⟨h4, p, rfl⟩ | ⟨h4, rfl⟩
     ·replace HA : Hid (ZbW zs = none) := by
       unfold Hid
       rw [HA.out]
       have : decide (q4 = zs.length) = false := by simp; omega
       rw [this]
       rfl
      unfold badV
      go_wp2_with (refine Zac rfl 83 _ _ rfl (w.heap.size + 2) #[.int .i64 0, .slice none 0 0, .int .i64 0, .int .i64 0, .int .i64 0, .int .i64 0, .int .i64 0, .int .i64 0, .int .i64 0, .slice none 0 0, .slice none 0 0] rfl rfl 83 #[.int .i64 0, .slice none 0 0, .int .i64 0, .int .i64 0, .int .i64 0, .int .i64 0, .int .i64 0, .int .i64 0, .int .i64 0, .slice none 0 0, .slice none 0 0] hy Zma rfl (by simp [Value.oneCell']) ?_)
      intro wB hvB hbB hsB hkB
      have gB : w.grownBy wB (some P) := Zcm hG hbB hsB hkB (by omega)
      go_wp2
      exact bodyPost_ret (Zab rfl _ _ (w.heap.size + 2) 83 _ (0, 0) _ rfl hvB Tryz.underlying83 rfl Zma) rfl ⟨PaAns.zero HA.out, gB⟩
     ·replace HA : Hid (ZbW zs = some (gx, tx, bs, os)) := by
       unfold Hid
       rw [HA.out]
       have : decide (q4 = zs.length) = true := by simp; omega
       rw [this]
       rfl
      have HI := Zhl _ _ _ ns is ds tx w5 (R1.below hbel) (R2.below hbel) (R3.below hbel) (by omega) (hg.below hbel (Nat.le_refl _))
      unfold MrAns at HI
      have HP : Hid (paT ns is ds (ZbW zs) = (gx, mrL (mrR ns is ds (sb tx)), mrM (mrR ns is ds (sb tx)), bs, os, (mrR ns is ds (sb tx)).isSome)) := by unfold Hid; rw [HA.out]; rfl
      generalize mrL (mrR ns is ds (sb tx)) = X at HI HP
      generalize mrM (mrR ns is ds (sb tx)) = M at HI HP
      generalize (mrR ns is ds (sb tx)).isSome = mk at HI HP
      go_wp2_with (refine wpList_load_row rfl 44 _ rfl (w.heap.size + 1) rfl 44 #[.slice a1 ns.length c1, .slice a2 is.length c2, .slice a3 ds.length c3] (0, 0) _ hk Tryz.underlying44 rfl Zl9 ?_)
      refine HI.mono ?_
      rintro e w6 ⟨⟨v6, rfl, O1⟩, hb6⟩
      obtain ⟨a6, c6, rfl⟩ := Zae O1
      replace O1 := Zaf (B' := w.heap.size + 3) O1 (by omega)
      replace hy := Zal hy hb6
      replace O2 := Zad O2 hb6
      replace O3 := Zad O3 hb6
      replace hG := Zaz hG (Zb4 hb6 none) (fun k hk => by cases hk)
      clear hb6 HI hk
      replace ly := Zao hy
      go_wp2_with (refine Zac rfl 81 _ _ rfl w6.heap.size #[.slice a6 X.length c6, .int .i64 M.p, .int .i64 M.s, .int .i64 M.e, .int .i64 M.d, .int .i64 M.t, .int .i64 M.q, .int .i64 M.r] rfl rfl 81 #[.slice none 0 0, .int .i64 0, .int .i64 0, .int .i64 0, .int .i64 0, .int .i64 0, .int .i64 0, .int .i64 0] (heap_alloc_new _ _) Zmc rfl (by simp [Value.oneCell']) ?_)
      intro w7 hm7 hb7 hs7 hk7
      have hb : Below w6.heap.size w6 w7 := ((Below.refl _ _).alloc (Nat.le_refl _) _).trans hb7
      replace hy := Zal hy hb
      replace O1 := Zad O1 hb
      replace O2 := Zad O2 hb
      replace O3 := Zad O3 hb
      replace hG := Zaz hG (Zb4 hb none) (fun k hk => by cases hk)
      clear hb hb7 hs7 hk7
      generalize w6.heap.size = bm at *
      replace ly := Zao hy
      go_wp2_with (first
       | (refine wpList_load_row rfl 81 _ rfl bm rfl 81 #[.slice a6 X.length c6, .int .i64 M.p, .int .i64 M.s, .int .i64 M.e, .int .i64 M.d, .int .i64 M.t, .int .i64 M.q, .int .i64 M.r] (0, 0) _ hm7 Tryz.underlying81 rfl Zmc ?_)
       | (refine Zac rfl 83 _ _ rfl (w.heap.size + 2) #[.int .i64 gx, .slice a6 X.length c6, .int .i64 M.p, .int .i64 M.s, .int .i64 M.e, .int .i64 M.d, .int .i64 M.t, .int .i64 M.q, .int .i64 M.r, .slice ab bs.length cb, .slice ac os.length cc] rfl rfl 83 #[.int .i64 0, .slice none 0 0, .int .i64 0, .int .i64 0, .int .i64 0, .int .i64 0, .int .i64 0, .int .i64 0, .int .i64 0, .slice none 0 0, .slice none 0 0] hy Zma rfl (by simp [Value.oneCell']) ?_))
      intro wB hvB hbB hsB hkB
      have gB : w.grownBy wB (some P) := Zcm hG hbB hsB hkB (by omega)
      replace O1 := Zaf (B' := w.heap.size) (Zak O1 (by omega) hkB) (by omega)
      replace O2 := Zaf (B' := w.heap.size) (Zak O2 (by omega) hkB) (by omega)
      replace O3 := Zaf (B' := w.heap.size) (Zak O3 (by omega) hkB) (by omega)
      go_wp2
      exact bodyPost_ret (Zab rfl _ _ (w.heap.size + 2) 83 _ (0, 0) _ rfl hvB Tryz.underlying83 rfl Zma) rfl ⟨⟨gx, X, M, bs, os, mk, _, _, _, HP.out, rfl, O1, O2, O3, hap⟩, gB⟩
end Go.Proofs.YtfmafkebddojjaaGreatDoor
