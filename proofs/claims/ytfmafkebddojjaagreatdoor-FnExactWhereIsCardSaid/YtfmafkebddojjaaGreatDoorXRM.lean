/-
  Texts that stood by themselves, laid into one.
-/
import Derived.Test.YtfmafkebddojjaaGreatDoorIPd3M
import Derived.Test.YtfmafkebddojjaaGreatDoorMRgM
import Derived.Test.YtfmafkebddojjaaGreatDoorMcTM
import Derived.Test.YtfmafkebddojjaaGreatDoorBsM
import Derived.Deep.MidRow
import Derived.Deep.AppendLies
import Derived.Deep.RegionLawGrows
import Derived.OneCell
/-
  The contract of impl.ProcRead. The variable errors.errorType reads as it is laid.
-/
set_option maxRecDepth 100000
set_option maxHeartbeats 6400000
namespace Go.Proofs.YtfmafkebddojjaaGreatDoor
open Go.RowKit
theorem Zk5 {t0 t3 t4 t5 t6 t7 t8 t9 t10 t11 t12 t13 t14 t15 t16 t17 t18 t19 t20 t21 t22 t23 t24 : Value} {fs : List Deferred} (bc : Nat) (v1 v2 v3 : Value) (s : ByteArray) (T : Int × List Nd × Mc × List ByteArray × List ByteArray × Bool) (w : World) (Q : Exit -> Act -> World -> Prop)
  (hk : w.heap[bc]? = some (.cells #[v1, v2, v3] 44 (0, 0))) (hs : s.size <= 140737488351232)
  (HC : ∀ (vr : Value) (W0 : World) (P : Nat) (W : World), Row W0 vr (sb s) -> Below w.heap.size w W0 -> Below W0.heap.size W0 W -> W0.heap.size <= P -> One W P 0 -> Calls Tryz.prog 210 #[.agg #[vr, .pointer (some ⟨P, 0, none⟩)], .agg #[v1, v2, v3]] W fun e w' => PaAns W.heap.size T e w' /\ W.grownBy w' (some P))
  (hQ : ∀ u9 u10 u11 u12 u8 u13 u14 (b : Nat) (I : Int) (NX : List Nd) (M : Mc) (BX OX : List ByteArray) (ok : Bool) (m1 m2 m3 : Option Addr) (e1 e2 e3 : Nat) (W : World), w.heap.size <= b -> Below w.heap.size w W -> W.heap[b]? = some (.cells #[.int .i64 I, .slice m1 NX.length e1, .int .i64 M.p, .int .i64 M.s, .int .i64 M.e, .int .i64 M.d, .int .i64 M.t, .int .i64 M.q, .int .i64 M.r, .slice m2 BX.length e2, .slice m3 OX.length e3] 83 (0, 0)) -> T = (I, NX, M, BX, OX, ok) -> W.ownsRow w.heap.size 210 5 (.slice m1 NX.length e1) NX.length (ncs NX) -> W.ownsRow w.heap.size 9 1 (.slice m2 BX.length e2) BX.length (stv BX) -> W.ownsRow w.heap.size 9 1 (.slice m3 OX.length e3) OX.length (stv OX) -> (∀ g, (Value.slice m3 OX.length e3).ownBlock = some g -> (Value.slice m2 BX.length e2).ownBlock ≠ some g) -> Q .normal ⟨#[t0, .string s, .pointer (some ⟨bc, 0, none⟩), t3, t4, t5, .pointer (some ⟨b, 0, none⟩), .bool ok, u8, u9, u10, u11, u12, u13, u14, t15, t16, t17, t18, t19, t20, t21, t22, t23, t24], fs⟩ W) :
  (Code.region 1 (List.toArray (⟨some 9, .move (.tmp 1), 9, "l12_proc.go:92", #[], none⟩ :: ⟨some 10, .call { callee := .value (.func 206), args := #[.tmp 9], argTypes := #[9] }, 254, "l12_proc.go:92", #[⟨0, .data⟩], none⟩ :: ⟨some 11, .load 44 (.tmp 2), 44, "l12_proc.go:92", #[], none⟩ :: ⟨some 12, .call { callee := .value (.func 210), args := #[.tmp 10, .tmp 11], argTypes := #[254, 44] }, 146, "l12_proc.go:92", #[⟨1, .data⟩, ⟨2, .data⟩, ⟨1, .chain⟩], none⟩ :: ⟨some 8, .move (.tmp 12), 146, "l12_proc.go:92", #[⟨3, .data⟩], none⟩ :: ⟨some 13, .extract (.tmp 8) 0, 83, "l12_proc.go:92", #[⟨4, .data⟩], none⟩ :: ⟨some 14, .extract (.tmp 8) 1, 4, "l12_proc.go:92", #[⟨4, .data⟩, { on := 8, ground := Ground.gcOnly Departure.lateStores }], none⟩ :: ⟨some 6, .alloc 83, 0, "l12_proc.go:92", #[], none⟩ :: ⟨none, .store 83 (.tmp 6) (.tmp 13), 0, "l12_proc.go:92", #[⟨7, .data⟩, ⟨5, .data⟩, ⟨3, .chain⟩, ⟨0, .phase⟩, ⟨1, .phase⟩, ⟨2, .phase⟩, ⟨3, .phase⟩, ⟨4, .phase⟩, ⟨5, .phase⟩, { on := 6, ground := Ground.textOnly Departure.lateStores }, ⟨7, .phase⟩], none⟩ :: ⟨some 7, .assign (.tmp 14), 4, "l12_proc.go:92", #[⟨6, .data⟩, ⟨8, .chain⟩, ⟨0, .phase⟩, ⟨1, .phase⟩, ⟨2, .phase⟩, ⟨3, .phase⟩, ⟨4, .phase⟩, ⟨5, .phase⟩, ⟨6, .phase⟩, ⟨7, .phase⟩, ⟨8, .phase⟩], none⟩ :: [])) true).wp Tryz.prog Q ⟨#[t0, .string s, .pointer (some ⟨bc, 0, none⟩), t3, t4, t5, t6, t7, t8, t9, t10, t11, t12, t13, t14, t15, t16, t17, t18, t19, t20, t21, t22, t23, t24], fs⟩ w := by
 unfold PaAns at HC
 have hS : ∀ w', Below w.heap.size w w' -> (w'.heap[bc]? = some (.cells #[v1, v2, v3] 44 (0, 0))) := fun w' hb => Zal hk hb
 have B : Below w.heap.size w w.drew := ZaX w
 refine wp_region_noPanic ?_
 refine wp_region_held_drew (S := fun w' => w'.heap[bc]? = some (.cells #[v1, v2, v3] 44 (0, 0))) (by kernel_rfl) (hS _ B) (fun hHeld => ?_)
 refine wpAnyH_take (i := 0) (oi := ⟨some 9, .move (.tmp 1), 9, "l12_proc.go:92", #[], none⟩) (v := .string s) rfl (by kernel_rfl) (by kernel_rfl) (by kernel_rfl) (fun _ _ _ h => h) (Or.inl ⟨by rfl, by intro w hSw; go_simp⟩) (by assumption) ?_
 simp only [Act.put, sit, sc0, scs]
 refine wpAnyH_take (i := 2) (oi := ⟨some 11, .load 44 (.tmp 2), 44, "l12_proc.go:92", #[], none⟩) (v := .agg #[v1, v2, v3]) rfl (by kernel_rfl) (by kernel_rfl) (by kernel_rfl) (fun _ _ _ h => h) (ZbD (by rfl) 44 _ rfl bc rfl #[v1, v2, v3] 44 _ (fun _ h => h) Tryz.underlying44 rfl Zl9) (by assumption) ?_
 simp only [Act.put, sit, sc0, scs]
 refine wpAnyH_ready (rs := [1, 7]) (by kernel_rfl) (by simp) ?_
 refine AllReadyH.cons rfl (fun K hK => ?_) (AllReadyH.cons rfl (fun K hK => ?_) AllReadyH.nil)
 ·go_simp
  go_wp2_with (go_at_call 206; with_reducible refine (Za1 s _ hs).mono ?_; rintro e wR ⟨vr, W0, P, rfl, RR, hbW, hbR, hPW, hone⟩)
  have BW := B.trans (hbW.mono B.size)
  replace B := BW.trans (hbR.mono BW.size)
  clear hbW
  refine hK.out _ _ (hS _ B) (fun hHeld => ?_)
  clear hK
  refine wpAnyH_ready (rs := [3, 7]) (by kernel_rfl) (by simp) ?_
  refine AllReadyH.cons rfl (fun K hK => ?_) (AllReadyH.cons rfl (fun K hK => ?_) AllReadyH.nil)
  ·go_simp
   go_wp2_with (go_at_call 210; with_reducible refine (HC vr W0 P _ RR BW hbR hPW hone).mono ?_; rintro e wQ ⟨⟨I, NX, M, BX, OX, ok, y1, y2, y3, eT, rfl, O1, O2, O3, AP⟩, hg3⟩)
   obtain ⟨m1, e1, rfl⟩ := Zae O1
   obtain ⟨m2, e2, rfl⟩ := Zae O2
   obtain ⟨m3, e3, rfl⟩ := Zae O3
   replace O1 := Zaf (B' := w.heap.size) O1 B.size
   replace O2 := Zaf (B' := w.heap.size) O2 B.size
   replace O3 := Zaf (B' := w.heap.size) O3 B.size
   replace B := B.grown hg3 B.size (fun k hk => by cases hk; exact Nat.le_trans BW.size hPW)
   clear hg3
   refine hK.out _ _ (hS _ B) (fun hHeld => ?_)
   clear hK
   refine wpAnyH_take (i := 4) (oi := ⟨some 8, .move (.tmp 12), 146, "l12_proc.go:92", #[⟨3, .data⟩], none⟩) (v := .tuple #[.agg #[.int .i64 I, .slice m1 NX.length e1, .int .i64 M.p, .int .i64 M.s, .int .i64 M.e, .int .i64 M.d, .int .i64 M.t, .int .i64 M.q, .int .i64 M.r, .slice m2 BX.length e2, .slice m3 OX.length e3], .bool ok]) rfl (by kernel_rfl) (by kernel_rfl) (by kernel_rfl) (fun _ _ _ h => h) (Or.inl ⟨by rfl, by intro w hSw; go_simp⟩) (by assumption) ?_
   simp only [Act.put, sit, sc0, scs]
   refine wpAnyH_take (i := 5) (oi := ⟨some 13, .extract (.tmp 8) 0, 83, "l12_proc.go:92", #[⟨4, .data⟩], none⟩) (v := .agg #[.int .i64 I, .slice m1 NX.length e1, .int .i64 M.p, .int .i64 M.s, .int .i64 M.e, .int .i64 M.d, .int .i64 M.t, .int .i64 M.q, .int .i64 M.r, .slice m2 BX.length e2, .slice m3 OX.length e3]) rfl (by kernel_rfl) (by kernel_rfl) (by kernel_rfl) (fun _ _ _ h => h) (Or.inl ⟨by rfl, by intro w hSw; go_simp⟩) (by assumption) ?_
   simp only [Act.put, sit, sc0, scs]
   refine wpAnyH_take (i := 6) (oi := ⟨some 14, .extract (.tmp 8) 1, 4, "l12_proc.go:92", #[⟨4, .data⟩, { on := 8, ground := Ground.gcOnly Departure.lateStores }], none⟩) (v := .bool ok) rfl (by kernel_rfl) (by kernel_rfl) (by kernel_rfl) (fun _ _ _ h => h) (Or.inl ⟨by rfl, by intro w hSw; go_simp⟩) (by assumption) ?_
   simp only [Act.put, sit, sc0, scs]
   refine wpAnyH_ready (rs := [7]) (by kernel_rfl) (by simp) ?_
   refine AllReadyH.cons rfl (fun K hK => ?_) AllReadyH.nil
   go_simp
   go_wp2_with fail
   have hb := ZaE wQ (Obj.cells #[.int .i64 0, .slice none 0 0, .int .i64 0, .int .i64 0, .int .i64 0, .int .i64 0, .int .i64 0, .int .i64 0, .int .i64 0, .slice none 0 0, .slice none 0 0] 83)
   have XB : w.heap.size <= wQ.heap.size := B.size
   have X : (wQ.alloc (Obj.cells #[.int .i64 0, .slice none 0 0, .int .i64 0, .int .i64 0, .int .i64 0, .int .i64 0, .int .i64 0, .int .i64 0, .int .i64 0, .slice none 0 0, .slice none 0 0] 83)).heap[wQ.heap.size]? = some (Obj.cells #[.int .i64 0, .slice none 0 0, .int .i64 0, .int .i64 0, .int .i64 0, .int .i64 0, .int .i64 0, .int .i64 0, .int .i64 0, .slice none 0 0, .slice none 0 0] 83) := heap_alloc_new _ _
   generalize wQ.alloc (Obj.cells #[.int .i64 0, .slice none 0 0, .int .i64 0, .int .i64 0, .int .i64 0, .int .i64 0, .int .i64 0, .int .i64 0, .int .i64 0, .slice none 0 0, .slice none 0 0] 83) = wL at hb X ⊢
   replace O1 := Zad O1 hb
   replace O2 := Zad O2 hb
   replace O3 := Zad O3 hb
   replace B := B.trans (hb.mono B.size)
   refine hK.out _ _ (hS _ B) (fun hHeld => ?_)
   clear hK
   refine wpAnyH_ready (rs := [8]) (by kernel_rfl) (by simp) ?_
   refine AllReadyH.cons rfl (fun K hK => ?_) AllReadyH.nil
   rw [if_pos (by rfl)]
   have n1 := ZaR O1 X (by decide)
   have n2 := ZaR O2 X (by decide)
   have n3 := ZaR O3 X (by decide)
   refine wp_store_row 83 _ _ rfl (wQ.heap.size) #[.int .i64 I, .slice m1 NX.length e1, .int .i64 M.p, .int .i64 M.s, .int .i64 M.e, .int .i64 M.d, .int .i64 M.t, .int .i64 M.q, .int .i64 M.r, .slice m2 BX.length e2, .slice m3 OX.length e3] rfl rfl 83 #[.int .i64 0, .slice none 0 0, .int .i64 0, .int .i64 0, .int .i64 0, .int .i64 0, .int .i64 0, .int .i64 0, .int .i64 0, .slice none 0 0, .slice none 0 0] X Zma rfl (by simp [Value.oneCell']) ?_
   replace B := below_setRow B (g := wQ.heap.size) XB #[.int .i64 I, .slice m1 NX.length e1, .int .i64 M.p, .int .i64 M.s, .int .i64 M.e, .int .i64 M.d, .int .i64 M.t, .int .i64 M.q, .int .i64 M.r, .slice m2 BX.length e2, .slice m3 OX.length e3]
   replace O1 := ZaC O1 n1 (fun j hj => setRow_other _ _ j #[.int .i64 I, .slice m1 NX.length e1, .int .i64 M.p, .int .i64 M.s, .int .i64 M.e, .int .i64 M.d, .int .i64 M.t, .int .i64 M.q, .int .i64 M.r, .slice m2 BX.length e2, .slice m3 OX.length e3] hj)
   replace O2 := ZaC O2 n2 (fun j hj => setRow_other _ _ j #[.int .i64 I, .slice m1 NX.length e1, .int .i64 M.p, .int .i64 M.s, .int .i64 M.e, .int .i64 M.d, .int .i64 M.t, .int .i64 M.q, .int .i64 M.r, .slice m2 BX.length e2, .slice m3 OX.length e3] hj)
   replace O3 := ZaC O3 n3 (fun j hj => setRow_other _ _ j #[.int .i64 I, .slice m1 NX.length e1, .int .i64 M.p, .int .i64 M.s, .int .i64 M.e, .int .i64 M.d, .int .i64 M.t, .int .i64 M.q, .int .i64 M.r, .slice m2 BX.length e2, .slice m3 OX.length e3] hj)
   replace X := setRow_heap _ _ _ #[.int .i64 I, .slice m1 NX.length e1, .int .i64 M.p, .int .i64 M.s, .int .i64 M.e, .int .i64 M.d, .int .i64 M.t, .int .i64 M.q, .int .i64 M.r, .slice m2 BX.length e2, .slice m3 OX.length e3] _ _ X
   refine hK.out _ _ (hS _ B) (fun hHeld => ?_)
   clear hK
   simp only [Act.put]
   refine wpAnyH_take (i := 9) (oi := ⟨some 7, .assign (.tmp 14), 4, "l12_proc.go:92", #[⟨6, .data⟩, ⟨8, .chain⟩, ⟨0, .phase⟩, ⟨1, .phase⟩, ⟨2, .phase⟩, ⟨3, .phase⟩, ⟨4, .phase⟩, ⟨5, .phase⟩, ⟨6, .phase⟩, ⟨7, .phase⟩, ⟨8, .phase⟩], none⟩) (v := .bool ok) rfl (by kernel_rfl) (by kernel_rfl) (by kernel_rfl) (fun _ _ _ h => h) (Or.inl ⟨by rfl, by intro w hSw; go_simp⟩) (by assumption) ?_
   simp only [Act.put]
   refine wpAnyH_done (by kernel_rfl) ?_ _
   exact NoPanic.normal (hQ _ _ _ _ _ _ _ (wQ.heap.size) I NX M BX OX ok m1 m2 m3 e1 e2 e3 _ XB B X eT O1 O2 O3 AP)
  ·have hbR0 := hbR
   have hone0 := hone
   go_simp
   go_wp2_with fail
   have hb := ZaE wR (Obj.cells #[.int .i64 0, .slice none 0 0, .int .i64 0, .int .i64 0, .int .i64 0, .int .i64 0, .int .i64 0, .int .i64 0, .int .i64 0, .slice none 0 0, .slice none 0 0] 83)
   have XB : w.heap.size <= wR.heap.size := B.size
   have X : (wR.alloc (Obj.cells #[.int .i64 0, .slice none 0 0, .int .i64 0, .int .i64 0, .int .i64 0, .int .i64 0, .int .i64 0, .int .i64 0, .int .i64 0, .slice none 0 0, .slice none 0 0] 83)).heap[wR.heap.size]? = some (Obj.cells #[.int .i64 0, .slice none 0 0, .int .i64 0, .int .i64 0, .int .i64 0, .int .i64 0, .int .i64 0, .int .i64 0, .int .i64 0, .slice none 0 0, .slice none 0 0] 83) := heap_alloc_new _ _
   replace hone := hone.below hb hone.lt
   replace hbR := hbR.trans (hb.mono hbR.size)
   generalize wR.alloc (Obj.cells #[.int .i64 0, .slice none 0 0, .int .i64 0, .int .i64 0, .int .i64 0, .int .i64 0, .int .i64 0, .int .i64 0, .int .i64 0, .slice none 0 0, .slice none 0 0] 83) = wL at hb X hone hbR ⊢
   replace B := B.trans (hb.mono B.size)
   refine hK.out _ _ (hS _ B) (fun hHeld => ?_)
   clear hK
   refine wpAnyH_ready (rs := [3]) (by kernel_rfl) (by simp) ?_
   refine AllReadyH.cons rfl (fun K hK => ?_) AllReadyH.nil
   go_simp
   go_wp2_with (go_at_call 210; with_reducible refine (HC vr W0 P _ RR BW hbR hPW hone).mono ?_; rintro e wQ ⟨⟨I, NX, M, BX, OX, ok, y1, y2, y3, eT, rfl, O1, O2, O3, AP⟩, hg3⟩)
   obtain ⟨m1, e1, rfl⟩ := Zae O1
   obtain ⟨m2, e2, rfl⟩ := Zae O2
   obtain ⟨m3, e3, rfl⟩ := Zae O3
   replace O1 := Zaf (B' := w.heap.size) O1 B.size
   replace O2 := Zaf (B' := w.heap.size) O2 B.size
   replace O3 := Zaf (B' := w.heap.size) O3 B.size
   replace X := (hg3.block _ (Zao X) (by simp; have := hone0.lt; omega)).trans X
   replace B := B.grown hg3 B.size (fun k hk => by cases hk; exact Nat.le_trans BW.size hPW)
   clear hg3
   refine hK.out _ _ (hS _ B) (fun hHeld => ?_)
   clear hK
   refine wpAnyH_take (i := 4) (oi := ⟨some 8, .move (.tmp 12), 146, "l12_proc.go:92", #[⟨3, .data⟩], none⟩) (v := .tuple #[.agg #[.int .i64 I, .slice m1 NX.length e1, .int .i64 M.p, .int .i64 M.s, .int .i64 M.e, .int .i64 M.d, .int .i64 M.t, .int .i64 M.q, .int .i64 M.r, .slice m2 BX.length e2, .slice m3 OX.length e3], .bool ok]) rfl (by kernel_rfl) (by kernel_rfl) (by kernel_rfl) (fun _ _ _ h => h) (Or.inl ⟨by rfl, by intro w hSw; go_simp⟩) (by assumption) ?_
   simp only [Act.put, sit, sc0, scs]
   refine wpAnyH_take (i := 5) (oi := ⟨some 13, .extract (.tmp 8) 0, 83, "l12_proc.go:92", #[⟨4, .data⟩], none⟩) (v := .agg #[.int .i64 I, .slice m1 NX.length e1, .int .i64 M.p, .int .i64 M.s, .int .i64 M.e, .int .i64 M.d, .int .i64 M.t, .int .i64 M.q, .int .i64 M.r, .slice m2 BX.length e2, .slice m3 OX.length e3]) rfl (by kernel_rfl) (by kernel_rfl) (by kernel_rfl) (fun _ _ _ h => h) (Or.inl ⟨by rfl, by intro w hSw; go_simp⟩) (by assumption) ?_
   simp only [Act.put, sit, sc0, scs]
   refine wpAnyH_take (i := 6) (oi := ⟨some 14, .extract (.tmp 8) 1, 4, "l12_proc.go:92", #[⟨4, .data⟩, { on := 8, ground := Ground.gcOnly Departure.lateStores }], none⟩) (v := .bool ok) rfl (by kernel_rfl) (by kernel_rfl) (by kernel_rfl) (fun _ _ _ h => h) (Or.inl ⟨by rfl, by intro w hSw; go_simp⟩) (by assumption) ?_
   simp only [Act.put, sit, sc0, scs]
   refine wpAnyH_ready (rs := [8]) (by kernel_rfl) (by simp) ?_
   refine AllReadyH.cons rfl (fun K hK => ?_) AllReadyH.nil
   rw [if_pos (by rfl)]
   have n1 := ZaR O1 X (by decide)
   have n2 := ZaR O2 X (by decide)
   have n3 := ZaR O3 X (by decide)
   refine wp_store_row 83 _ _ rfl (wR.heap.size) #[.int .i64 I, .slice m1 NX.length e1, .int .i64 M.p, .int .i64 M.s, .int .i64 M.e, .int .i64 M.d, .int .i64 M.t, .int .i64 M.q, .int .i64 M.r, .slice m2 BX.length e2, .slice m3 OX.length e3] rfl rfl 83 #[.int .i64 0, .slice none 0 0, .int .i64 0, .int .i64 0, .int .i64 0, .int .i64 0, .int .i64 0, .int .i64 0, .int .i64 0, .slice none 0 0, .slice none 0 0] X Zma rfl (by simp [Value.oneCell']) ?_
   replace B := below_setRow B (g := wR.heap.size) XB #[.int .i64 I, .slice m1 NX.length e1, .int .i64 M.p, .int .i64 M.s, .int .i64 M.e, .int .i64 M.d, .int .i64 M.t, .int .i64 M.q, .int .i64 M.r, .slice m2 BX.length e2, .slice m3 OX.length e3]
   replace O1 := ZaC O1 n1 (fun j hj => setRow_other _ _ j #[.int .i64 I, .slice m1 NX.length e1, .int .i64 M.p, .int .i64 M.s, .int .i64 M.e, .int .i64 M.d, .int .i64 M.t, .int .i64 M.q, .int .i64 M.r, .slice m2 BX.length e2, .slice m3 OX.length e3] hj)
   replace O2 := ZaC O2 n2 (fun j hj => setRow_other _ _ j #[.int .i64 I, .slice m1 NX.length e1, .int .i64 M.p, .int .i64 M.s, .int .i64 M.e, .int .i64 M.d, .int .i64 M.t, .int .i64 M.q, .int .i64 M.r, .slice m2 BX.length e2, .slice m3 OX.length e3] hj)
   replace O3 := ZaC O3 n3 (fun j hj => setRow_other _ _ j #[.int .i64 I, .slice m1 NX.length e1, .int .i64 M.p, .int .i64 M.s, .int .i64 M.e, .int .i64 M.d, .int .i64 M.t, .int .i64 M.q, .int .i64 M.r, .slice m2 BX.length e2, .slice m3 OX.length e3] hj)
   replace X := setRow_heap _ _ _ #[.int .i64 I, .slice m1 NX.length e1, .int .i64 M.p, .int .i64 M.s, .int .i64 M.e, .int .i64 M.d, .int .i64 M.t, .int .i64 M.q, .int .i64 M.r, .slice m2 BX.length e2, .slice m3 OX.length e3] _ _ X
   refine hK.out _ _ (hS _ B) (fun hHeld => ?_)
   clear hK
   simp only [Act.put]
   refine wpAnyH_take (i := 9) (oi := ⟨some 7, .assign (.tmp 14), 4, "l12_proc.go:92", #[⟨6, .data⟩, ⟨8, .chain⟩, ⟨0, .phase⟩, ⟨1, .phase⟩, ⟨2, .phase⟩, ⟨3, .phase⟩, ⟨4, .phase⟩, ⟨5, .phase⟩, ⟨6, .phase⟩, ⟨7, .phase⟩, ⟨8, .phase⟩], none⟩) (v := .bool ok) rfl (by kernel_rfl) (by kernel_rfl) (by kernel_rfl) (fun _ _ _ h => h) (Or.inl ⟨by rfl, by intro w hSw; go_simp⟩) (by assumption) ?_
   simp only [Act.put]
   refine wpAnyH_done (by kernel_rfl) ?_ _
   exact NoPanic.normal (hQ _ _ _ _ _ _ _ (wR.heap.size) I NX M BX OX ok m1 m2 m3 e1 e2 e3 _ XB B X eT O1 O2 O3 AP)
 ·go_simp
  go_wp2_with fail
  have XB : w.heap.size <= w.heap.size := Nat.le_refl _
  have hb : Below w.heap.size w (w.alloc (Obj.cells #[.int .i64 0, .slice none 0 0, .int .i64 0, .int .i64 0, .int .i64 0, .int .i64 0, .int .i64 0, .int .i64 0, .int .i64 0, .slice none 0 0, .slice none 0 0] 83)).drew := ((Below.refl _ _).alloc (Nat.le_refl _) _).drew
  have X : (w.alloc (Obj.cells #[.int .i64 0, .slice none 0 0, .int .i64 0, .int .i64 0, .int .i64 0, .int .i64 0, .int .i64 0, .int .i64 0, .int .i64 0, .slice none 0 0, .slice none 0 0] 83)).drew.heap[w.heap.size]? = some (Obj.cells #[.int .i64 0, .slice none 0 0, .int .i64 0, .int .i64 0, .int .i64 0, .int .i64 0, .int .i64 0, .int .i64 0, .int .i64 0, .slice none 0 0, .slice none 0 0] 83) := heap_alloc_new w _
  generalize (w.alloc (Obj.cells #[.int .i64 0, .slice none 0 0, .int .i64 0, .int .i64 0, .int .i64 0, .int .i64 0, .int .i64 0, .int .i64 0, .int .i64 0, .slice none 0 0, .slice none 0 0] 83)).drew = wL at hb X ⊢
  replace B := hb
  clear hb
  refine hK.out _ _ (hS _ B) (fun hHeld => ?_)
  clear hK
  have hXl := Zao X
  refine wpAnyH_ready (rs := [1]) (by kernel_rfl) (by simp) ?_
  refine AllReadyH.cons rfl (fun K hK => ?_) AllReadyH.nil
  go_simp
  go_wp2_with (go_at_call 206; with_reducible refine (Za1 s _ hs).mono ?_; rintro e wR ⟨vr, W0, P, rfl, RR, hbW, hbR, hPW, hone⟩)
  have BW := B.trans (hbW.mono B.size)
  replace B := BW.trans (hbR.mono BW.size)
  replace X := Zal X (hbW.trans (hbR.mono hbW.size))
  have XP : w.heap.size < W0.heap.size := Nat.lt_of_lt_of_le hXl hbW.size
  clear hbW
  refine hK.out _ _ (hS _ B) (fun hHeld => ?_)
  clear hK
  refine wpAnyH_ready (rs := [3]) (by kernel_rfl) (by simp) ?_
  refine AllReadyH.cons rfl (fun K hK => ?_) AllReadyH.nil
  go_simp
  go_wp2_with (go_at_call 210; with_reducible refine (HC vr W0 P _ RR BW hbR hPW hone).mono ?_; rintro e wQ ⟨⟨I, NX, M, BX, OX, ok, y1, y2, y3, eT, rfl, O1, O2, O3, AP⟩, hg3⟩)
  obtain ⟨m1, e1, rfl⟩ := Zae O1
  obtain ⟨m2, e2, rfl⟩ := Zae O2
  obtain ⟨m3, e3, rfl⟩ := Zae O3
  replace O1 := Zaf (B' := w.heap.size) O1 B.size
  replace O2 := Zaf (B' := w.heap.size) O2 B.size
  replace O3 := Zaf (B' := w.heap.size) O3 B.size
  replace X := (hg3.block _ (Zao X) (by simp; omega)).trans X
  replace B := B.grown hg3 B.size (fun k hk => by cases hk; exact Nat.le_trans BW.size hPW)
  clear hg3
  refine hK.out _ _ (hS _ B) (fun hHeld => ?_)
  clear hK
  refine wpAnyH_take (i := 4) (oi := ⟨some 8, .move (.tmp 12), 146, "l12_proc.go:92", #[⟨3, .data⟩], none⟩) (v := .tuple #[.agg #[.int .i64 I, .slice m1 NX.length e1, .int .i64 M.p, .int .i64 M.s, .int .i64 M.e, .int .i64 M.d, .int .i64 M.t, .int .i64 M.q, .int .i64 M.r, .slice m2 BX.length e2, .slice m3 OX.length e3], .bool ok]) rfl (by kernel_rfl) (by kernel_rfl) (by kernel_rfl) (fun _ _ _ h => h) (Or.inl ⟨by rfl, by intro w hSw; go_simp⟩) (by assumption) ?_
  simp only [Act.put, sit, sc0, scs]
  refine wpAnyH_take (i := 5) (oi := ⟨some 13, .extract (.tmp 8) 0, 83, "l12_proc.go:92", #[⟨4, .data⟩], none⟩) (v := .agg #[.int .i64 I, .slice m1 NX.length e1, .int .i64 M.p, .int .i64 M.s, .int .i64 M.e, .int .i64 M.d, .int .i64 M.t, .int .i64 M.q, .int .i64 M.r, .slice m2 BX.length e2, .slice m3 OX.length e3]) rfl (by kernel_rfl) (by kernel_rfl) (by kernel_rfl) (fun _ _ _ h => h) (Or.inl ⟨by rfl, by intro w hSw; go_simp⟩) (by assumption) ?_
  simp only [Act.put, sit, sc0, scs]
  refine wpAnyH_take (i := 6) (oi := ⟨some 14, .extract (.tmp 8) 1, 4, "l12_proc.go:92", #[⟨4, .data⟩, { on := 8, ground := Ground.gcOnly Departure.lateStores }], none⟩) (v := .bool ok) rfl (by kernel_rfl) (by kernel_rfl) (by kernel_rfl) (fun _ _ _ h => h) (Or.inl ⟨by rfl, by intro w hSw; go_simp⟩) (by assumption) ?_
  simp only [Act.put, sit, sc0, scs]
  refine wpAnyH_ready (rs := [8]) (by kernel_rfl) (by simp) ?_
  refine AllReadyH.cons rfl (fun K hK => ?_) AllReadyH.nil
  rw [if_pos (by rfl)]
  have n1 := ZaR O1 X (by decide)
  have n2 := ZaR O2 X (by decide)
  have n3 := ZaR O3 X (by decide)
  refine wp_store_row 83 _ _ rfl (w.heap.size) #[.int .i64 I, .slice m1 NX.length e1, .int .i64 M.p, .int .i64 M.s, .int .i64 M.e, .int .i64 M.d, .int .i64 M.t, .int .i64 M.q, .int .i64 M.r, .slice m2 BX.length e2, .slice m3 OX.length e3] rfl rfl 83 #[.int .i64 0, .slice none 0 0, .int .i64 0, .int .i64 0, .int .i64 0, .int .i64 0, .int .i64 0, .int .i64 0, .int .i64 0, .slice none 0 0, .slice none 0 0] X Zma rfl (by simp [Value.oneCell']) ?_
  replace B := below_setRow B (g := w.heap.size) XB #[.int .i64 I, .slice m1 NX.length e1, .int .i64 M.p, .int .i64 M.s, .int .i64 M.e, .int .i64 M.d, .int .i64 M.t, .int .i64 M.q, .int .i64 M.r, .slice m2 BX.length e2, .slice m3 OX.length e3]
  replace O1 := ZaC O1 n1 (fun j hj => setRow_other _ _ j #[.int .i64 I, .slice m1 NX.length e1, .int .i64 M.p, .int .i64 M.s, .int .i64 M.e, .int .i64 M.d, .int .i64 M.t, .int .i64 M.q, .int .i64 M.r, .slice m2 BX.length e2, .slice m3 OX.length e3] hj)
  replace O2 := ZaC O2 n2 (fun j hj => setRow_other _ _ j #[.int .i64 I, .slice m1 NX.length e1, .int .i64 M.p, .int .i64 M.s, .int .i64 M.e, .int .i64 M.d, .int .i64 M.t, .int .i64 M.q, .int .i64 M.r, .slice m2 BX.length e2, .slice m3 OX.length e3] hj)
  replace O3 := ZaC O3 n3 (fun j hj => setRow_other _ _ j #[.int .i64 I, .slice m1 NX.length e1, .int .i64 M.p, .int .i64 M.s, .int .i64 M.e, .int .i64 M.d, .int .i64 M.t, .int .i64 M.q, .int .i64 M.r, .slice m2 BX.length e2, .slice m3 OX.length e3] hj)
  replace X := setRow_heap _ _ _ #[.int .i64 I, .slice m1 NX.length e1, .int .i64 M.p, .int .i64 M.s, .int .i64 M.e, .int .i64 M.d, .int .i64 M.t, .int .i64 M.q, .int .i64 M.r, .slice m2 BX.length e2, .slice m3 OX.length e3] _ _ X
  refine hK.out _ _ (hS _ B) (fun hHeld => ?_)
  clear hK
  simp only [Act.put]
  refine wpAnyH_take (i := 9) (oi := ⟨some 7, .assign (.tmp 14), 4, "l12_proc.go:92", #[⟨6, .data⟩, ⟨8, .chain⟩, ⟨0, .phase⟩, ⟨1, .phase⟩, ⟨2, .phase⟩, ⟨3, .phase⟩, ⟨4, .phase⟩, ⟨5, .phase⟩, ⟨6, .phase⟩, ⟨7, .phase⟩, ⟨8, .phase⟩], none⟩) (v := .bool ok) rfl (by kernel_rfl) (by kernel_rfl) (by kernel_rfl) (fun _ _ _ h => h) (Or.inl ⟨by rfl, by intro w hSw; go_simp⟩) (by assumption) ?_
  simp only [Act.put]
  refine wpAnyH_done (by kernel_rfl) ?_ _
  exact NoPanic.normal (hQ _ _ _ _ _ _ _ (w.heap.size) I NX M BX OX ok m1 m2 m3 e1 e2 e3 _ XB B X eT O1 O2 O3 AP)
def PdT := Int × List Nd × Mc × List ByteArray × List ByteArray × Bool
def pdT (r : Option (Int × (List Nd × Mc) × List ByteArray × List ByteArray)) : Int × List Nd × Mc × List ByteArray × List ByteArray × Bool :=
 match r with
 | none => (0, [], ⟨0, 0, 0, 0, 0, 0, 0⟩, [], [], false)
 | some (i, m, b, o) => (i, m.1, m.2, b, o, true)
theorem PaAns.zero2 {B : Nat} {r : Option (Int × (List Nd × Mc) × List ByteArray × List ByteArray)} {w' : World} (h : r = none) : PaAns B (pdT r) (.returned (.tuple #[.agg #[.int .i64 0, .slice none 0 0, .int .i64 0, .int .i64 0, .int .i64 0, .int .i64 0, .int .i64 0, .int .i64 0, .int .i64 0, .slice none 0 0, .slice none 0 0], .bool false])) w' := by
 subst h
 exact ⟨0, [], ⟨0, 0, 0, 0, 0, 0, 0⟩, [], [], false, .slice none 0 0, .slice none 0 0, .slice none 0 0, rfl, rfl, ⟨by simp [ncs], Or.inl ⟨rfl, rfl⟩⟩, ⟨by simp [stv], Or.inl ⟨rfl, rfl⟩⟩, ⟨by simp [stv], Or.inl ⟨rfl, rfl⟩⟩, fun g h => by cases h⟩
theorem Zju {zs : List Int} {i : Int} {t : ByteArray} {b o : List ByteArray} (h : ZbW zs = some (i, t, b, o)) : (∀ x ∈ b, x.size <= zs.length) /\ (∀ x ∈ o, x.size <= zs.length) /\ b.length <= 20 /\ o.length <= 40 := by
 unfold ZbW at h
 rw [Option.bind_eq_some_iff] at h
 obtain ⟨p, _, h⟩ := h
 rw [Option.bind_eq_some_iff] at h
 obtain ⟨t', _, h⟩ := h
 rw [Option.bind_eq_some_iff] at h
 obtain ⟨b', hb, h⟩ := h
 rw [Option.bind_eq_some_iff] at h
 obtain ⟨o', ho, h⟩ := h
 split at h
 ·simp only [Option.some.injEq, Prod.mk.injEq] at h
  obtain ⟨_, _, rfl, rfl⟩ := h
  exact ⟨(Zes hb).2, (Zes ho).2, (ZcO hb).2, (ZcO ho).2⟩
 ·cases h
theorem Zi3 {ns : List Nd} {is : List In} {ds : List Df} {zs : List Int} {xs : List Nd} {m : Mc} (h : mrR ns is ds zs = some (xs, m)) : Zap xs = true := by
 unfold mrR at h
 rw [Option.bind_eq_some_iff] at h
 obtain ⟨q, _, h⟩ := h
 rw [Option.bind_eq_some_iff] at h
 obtain ⟨r, _, h⟩ := h
 split at h
 ·rename_i hc
  simp only [Option.some.injEq, Prod.mk.injEq] at h
  obtain ⟨rfl, _⟩ := h
  exact (Zbt hc.2.1).1
 ·cases h
theorem ZlG {ns : List Nd} {is : List In} {ds : List Df} {zs : List Int} {I : Int} {X : List Nd} {M : Mc} {BX OX : List ByteArray} {ok : Bool} (h : paT ns is ds (ZbW zs) = (I, X, M, BX, OX, ok)) :
  (ok = false -> pdR ns is ds zs = none) /\ (ok = true -> pdR ns is ds zs = if ZbJ ns is ds I X M BX OX then some (I, (X, M), BX, OX) else none) /\ (∀ x ∈ BX, x.size <= zs.length) /\ (∀ x ∈ OX, x.size <= zs.length) /\ (X.length <= 3000 /\ ∀ x ∈ X, x.s.size <= maxLen) /\ BX.length <= 20 /\ OX.length <= 40 := by
 rw [Zk2]
 cases ha : ZbW zs with
 | none =>
  rw [ha] at h
  simp only [paT, Prod.mk.injEq] at h
  obtain ⟨rfl, rfl, rfl, rfl, rfl, rfl⟩ := h
  refine ⟨fun _ => rfl, ?_, by simp, by simp, ⟨by simp, by simp⟩, by simp, by simp⟩
  intro h
  cases h
 | some q =>
  obtain ⟨i, t, b, o⟩ := q
  obtain ⟨s1, s2, s3, s4⟩ := Zju ha
  rw [ha] at h
  simp only [paT, Prod.mk.injEq] at h
  obtain ⟨rfl, h2, h3, rfl, rfl, h6⟩ := h
  simp only [Option.bind_some]
  cases hm : mrR ns is ds (sb t) with
  | none =>
   rw [hm] at h2 h3 h6
   simp only [mrL, mrM, Option.isSome_none] at h2 h3 h6
   subst h2 h6
   refine ⟨fun _ => rfl, ?_, s1, s2, ⟨by simp, by simp⟩, s3, s4⟩
   intro h
   cases h
  | some r =>
   obtain ⟨xs, m⟩ := r
   have hp := Zi3 hm
   rw [hm] at h2 h3 h6
   simp only [mrL, mrM, Option.isSome_some] at h2 h3 h6
   subst h2 h3 h6
   refine ⟨?_, fun _ => rfl, s1, s2, ⟨ZaD hp, Zbx (ZbC hp)⟩, s3, s4⟩
   intro h
   cases h
def mEnd (zs : List Int) (k p a : Int) : Option (Int × Int × ByteArray) := (rt zs a).bind fun t => if t.2 = zs.length then some (k, p, t.1) else none
def mrd (zs : List Int) : Option (Int × Int × ByteArray) :=
 (rd1 zs 0).bind fun k => if k.1 = 1 then (rd1 zs k.2).bind fun p => mEnd zs 1 p.1 p.2 else if k.1 = 2 then mEnd zs 2 0 k.2 else none
def mrA : Option (Int × Int × ByteArray) -> Value
 | none => .tuple #[.int .i64 0, .int .i64 0, .string ⟨#[]⟩, .bool false]
 | some (k, p, t) => .tuple #[.int .i64 k, .int .i64 p, .string t, .bool true]
theorem ZaM {fn : Func} {t u v x : Tmp} (h : fn.results = #[.tmp t, .tmp u, .tmp v, .tmp x]) (tmps : Array Value) (P : Program) (w : World) :
  (results fn tmps).run P w = .ok (.tuple #[tmps.getD t undef, tmps.getD u undef, tmps.getD v undef, tmps.getD x undef]) w := by
 simp [results, h]
theorem ZdR (zs : List Int) (a : Int) : txt8 zs a false = (⟨#[]⟩, a, false) := by simp [txt8]
theorem Zaj {w w' : World} {g o B : Nat} {cs : List Value} (h : w.rangeAt g o cs) (hb : Below B w w') (hg : g < B) : w'.rangeAt g o cs :=
 fun j v hj => (hb.cell (p := ⟨g, o + j, none⟩) hg).trans (h j v hj)
def Kp (B : Nat) (w w' : World) : Prop := w.heap.size <= w'.heap.size /\ ∀ k, B <= k -> k < w.heap.size -> w'.heap[k]? = w.heap[k]?
theorem Kp.of_below {B : Nat} {w w' : World} (h : Below w.heap.size w w') : Kp B w w' := ⟨h.size, fun k _ hk => h.block k hk⟩
theorem Kp.of_grown {B g : Nat} {w w' : World} (h : w.grownBy w' (some g)) (hg : g < B) : Kp B w w' := ⟨h.size, fun k h1 h2 => h.block k h2 (by simp; omega)⟩
theorem Kp.of_set {B g o : Nat} {w : World} {u : Value} (hg : g < B) : Kp B w (w.setCell ⟨g, o, none⟩ u) := ⟨by simp, fun k h1 _ => heap_setCell_other w ⟨g, o, none⟩ k u (by show k ≠ g; omega)⟩
theorem Kp.of_oth {B g : Nat} {w w' : World} (hs : w.heap.size <= w'.heap.size) (h : ∀ j, j ≠ g -> w'.heap[j]? = w.heap[j]?) (hg : g < B) : Kp B w w' := ⟨hs, fun k h1 _ => h k (by omega)⟩
theorem Zkq {w w' : World} {g o B : Nat} {cs : List Value} (h : w.rangeAt g o cs) (hk : Kp B w w') (hB : B <= g) (hg : g < w.heap.size) : w'.rangeAt g o cs :=
 fun j v hj => (World.cell?_of_block (w := w) (hk.2 g hB hg)).trans (h j v hj)
def Stb {α : Type} (E : Nat -> World -> List Value -> α -> Prop) : Prop := (∀ B w w' cs x, E B w cs x -> Kp B w w' -> E B w' cs x) /\ ∀ B C w cs x, E B w cs x -> C <= B -> E C w cs x
def XRow {α : Type} (B k : Nat) (E : Nat -> World -> List Value -> α -> Prop) (w : World) (v : Value) (xs : List α) : Prop :=
 ∃ ao cap, v = .slice ao xs.length cap /\ (xs.length <= cap /\ (ao = none -> cap = 0)) /\ xs.length <= 9223372036854775807 /\
  (xs ≠ [] -> ∃ g o, ao = some ⟨g, o, none⟩ /\ B <= g /\ g < w.heap.size /\ ∀ i x, xs[i]? = some x -> ∃ cs, cs.length = k /\ w.rangeAt g (o + i * k) cs /\ E B w cs x)
theorem XRow.small {α : Type} {B k : Nat} {E : Nat -> World -> List Value -> α -> Prop} {w : World} {v : Value} {xs : List α} (R : XRow B k E w v xs) : ∃ ao cap, v = .slice ao xs.length cap := by
 obtain ⟨ao, cap, rfl, _⟩ := R
 exact ⟨ao, cap, rfl⟩
theorem XRow.kp {α : Type} {B k : Nat} {E : Nat -> World -> List Value -> α -> Prop} {w w' : World} {v : Value} {xs : List α} (h : XRow B k E w v xs) (hE : Stb E) (hb : Kp B w w') : XRow B k E w' v xs := by
 obtain ⟨ao, cap, rfl, hc, hm, hcell⟩ := h
 refine ⟨ao, cap, rfl, hc, hm, fun hne => ?_⟩
 obtain ⟨g, o, rfl, hB, hg, hcell⟩ := hcell hne
 refine ⟨g, o, rfl, hB, Nat.lt_of_lt_of_le hg hb.1, fun i x hi => ?_⟩
 obtain ⟨cs, h1, h2, h3⟩ := hcell i x hi
 exact ⟨cs, h1, Zkq h2 hb hB hg, hE.1 _ _ _ _ _ h3 hb⟩
theorem XRow.below {α : Type} {B k : Nat} {E : Nat -> World -> List Value -> α -> Prop} {w w' : World} {v : Value} {xs : List α} (h : XRow B k E w v xs) (hE : Stb E) (hb : Below w.heap.size w w') : XRow B k E w' v xs := h.kp hE (Kp.of_below hb)
theorem XRow.mono {α : Type} {B C k : Nat} {E : Nat -> World -> List Value -> α -> Prop} {w : World} {v : Value} {xs : List α} (h : XRow B k E w v xs) (hE : Stb E) (hc : C <= B) : XRow C k E w v xs := by
 obtain ⟨ao, cap, rfl, hc', hm, hcell⟩ := h
 refine ⟨ao, cap, rfl, hc', hm, fun hne => ?_⟩
 obtain ⟨g, o, rfl, hB, hg, hcell⟩ := hcell hne
 refine ⟨g, o, rfl, Nat.le_trans hc hB, hg, fun i x hi => ?_⟩
 obtain ⟨cs, h1, h2, h3⟩ := hcell i x hi
 exact ⟨cs, h1, h2, hE.2 _ _ _ _ _ h3 hc⟩
theorem Zc8 {k : Nat} : ∀ {css : List (List Value)}, (∀ c ∈ css, c.length = k) -> css.flatten.length = css.length * k
 | [], _ => by simp
 | c :: css, h => by
  rw [List.flatten_cons, List.length_append, Zc8 (fun d hd => h d (List.mem_cons_of_mem _ hd)), h c (List.mem_cons_self ..), List.length_cons, Nat.succ_mul]
  omega
theorem Zcc {k : Nat} : ∀ {css : List (List Value)} {i : Nat} {c : List Value}, (∀ c ∈ css, c.length = k) -> css[i]? = some c -> ∀ j, j < k -> css.flatten[i * k + j]? = c[j]?
 | [], _, _, _, h, _, _ => by simp at h
 | d :: css, 0, c, hl, h, j, hj => by
  simp at h
  subst h
  rw [List.flatten_cons, Nat.zero_mul, Nat.zero_add, List.getElem?_append_left (by rw [hl d (List.mem_cons_self ..)]; exact hj)]
 | d :: css, i + 1, c, hl, h, j, hj => by
  have hd := hl d (List.mem_cons_self ..)
  rw [List.flatten_cons, List.getElem?_append_right (by rw [hd, Nat.succ_mul]; omega), hd, show (i + 1) * k + j - k = i * k + j by rw [Nat.succ_mul]; omega]
  exact Zcc (fun e he => hl e (List.mem_cons_of_mem _ he)) (by simpa using h) j hj
theorem XRow.of_own {α : Type} {k : Nat} {E : Nat -> World -> List Value -> α -> Prop} {w : World} {base : Nat} {v : Value} {t : TypeId} {xs : List α} {css : List (List Value)} (h : w.ownsRow base t k v xs.length css.flatten) (hl : css.length = xs.length) (hk : ∀ c ∈ css, c.length = k) (hm : xs.length <= 9223372036854775807)
  (hE : ∀ (i : Nat) c x, css[i]? = some c -> xs[i]? = some x -> E base w c x) : XRow base k E w v xs := by
 rcases h.2 with ⟨rfl, h0⟩ | ⟨g, cap, cur, rfl, hb, hg, hnc, hcm, hcs, htake⟩
 ·have : xs = [] := List.eq_nil_of_length_eq_zero h0
  subst this
  exact ⟨none, 0, rfl, by simp, by simp, fun h => absurd rfl h⟩
 ·refine ⟨_, cap, rfl, ⟨hnc, fun h => by cases h⟩, hm, fun _ => ⟨g, 0, rfl, hb, (bl hg), fun i x hi => ?_⟩⟩
  have hil : i < xs.length := (List.getElem?_eq_some_iff.1 hi).1
  have hc : css[i]? = some css[i] := List.getElem?_eq_getElem (by omega)
  have hkc := hk css[i] (List.getElem_mem _)
  refine ⟨css[i], hkc, fun j u hj => ?_, hE i _ x hc hi⟩
  have hjk : j < k := by have := (List.getElem?_eq_some_iff.1 hj).1; omega
  have hlt : i * k + j < xs.length * k := by
   have : (i + 1) * k <= xs.length * k := Nat.mul_le_mul_right k hil
   rw [Nat.succ_mul] at this
   omega
  have := h.cellAt (i * k + j) hlt
  rw [Nat.zero_add, this, Zcc hk hc j hjk]
  exact hj
theorem ZdU {base g n cap size : Nat} {e : TypeId} : ∀ (cs : List Value) (o : Nat) (w : World) (xs : List Value), w.ownsRow base e size (.slice (some ⟨g, 0, none⟩) n cap) n xs ->
  ∃ ys, (w.setCells g o cs).ownsRow base e size (.slice (some ⟨g, 0, none⟩) n cap) n ys /\ w.grownBy (w.setCells g o cs) (some g) /\ ys.length = xs.length /\ (∀ j, j < o \/ o + cs.length <= j -> ys[j]? = xs[j]?) /\ (∀ j u, cs[j]? = some u -> o + j < xs.length -> ys[o + j]? = some u)
 | [], o, w, xs, h => ⟨xs, h, World.grownBy.refl _ _, rfl, fun _ _ => rfl, fun j u h => by simp at h⟩
 | c :: cs, o, w, xs, h => by
  obtain ⟨h1, g1⟩ := h.stored o c
  obtain ⟨ys, h2, g2, h3, h4, h5⟩ := ZdU cs (o + 1) _ _ h1
  refine ⟨ys, h2, g1.trans g2, by rw [h3, List.length_set], fun j hj => ?_, fun j u hj hlt => ?_⟩
  ·rw [List.length_cons] at hj
   rw [h4 j (by omega), List.getElem?_set_ne (by omega)]
  ·cases j with
   | zero =>
    simp at hj
    subst hj
    rw [h4 (o + 0) (by omega)]
    simp only [Nat.add_zero] at hlt ⊢
    rw [List.getElem?_set_self hlt]
   | succ j =>
    have := h5 j u (by simpa using hj) (by rw [List.length_set]; omega)
    rw [show o + (j + 1) = o + 1 + j by omega]
    exact this
theorem Zbh {P : Program} {ops : Array Oper} {rest : List Oper} {op : Oper} {a : Act} {w : World} {Q : Exit -> Act -> World -> Prop} (hgd : op.guard = none) (ty : TypeId) (x y : Operand) (ho : op.op = .store ty x y)
  (base g i cap k n : Nat) (css : List (List Value)) (cs : List Value) (hx : a.eval x = .pointer (some ⟨g, i * k, none⟩)) (hy : a.eval y = .agg cs.toArray) (hk : cs.length = k) (hall : ∀ c ∈ css, c.length = k) (hn : css.length = n) (hi : i < n)
  (h1 : ∀ v ∈ cs, v.oneCell' = true) (hsz : (P.info? ty).map (·.size) = some k) (hown : w.ownsRow base ty k (.slice (some ⟨g, 0, none⟩) n cap) n css.flatten)
  (h : ∀ w2 : World, w2.ownsRow base ty k (.slice (some ⟨g, 0, none⟩) n cap) n (css.set i cs).flatten -> w.grownBy w2 (some g) -> wpList P ops Q rest (a.put op.dst undef) w2) : wpList P ops Q (op :: rest) a w := by
 have hin : (i + 1) * k <= n * k := Nat.mul_le_mul_right k hi
 rw [Nat.succ_mul] at hin
 have hfl := Zc8 hall
 rw [hn] at hfl
 have ht : w.there g (i * k) cs.toArray.size := fun j hj => by
  simp at hj
  have := hown.cellAt (i * k + j) (by omega)
  refine ⟨?_, hown.frozenAt _⟩
  rw [this, List.getElem?_eq_getElem (by omega)]
  rfl
 refine wpList_store_mid hgd ty x y ho g (i * k) _ hx hy ht (by simpa [hk] using hsz) (all_oneCell_toArray h1) ?_
 obtain ⟨ys, h2, g2, h3, h4, h5⟩ := ZdU cs (i * k) w css.flatten hown
 have hset : ∀ c ∈ css.set i cs, c.length = k := fun c hc => by
  rcases List.mem_or_eq_of_mem_set hc with h | h
  ·exact hall c h
  ·rw [h]; exact hk
 have hys : ys = (css.set i cs).flatten := by
  apply List.ext_getElem?
  intro j
  have hfl2 := Zc8 hset
  rw [List.length_set, hn] at hfl2
  by_cases hj : j < n * k
  ·have hk0 : 0 < k := by rcases Nat.eq_zero_or_pos k with h0 | h0; subst h0; simp at hj; exact h0
   have hq : j / k < n := Nat.div_lt_of_lt_mul (by rw [Nat.mul_comm]; exact hj)
   have hr : j % k < k := Nat.mod_lt _ hk0
   have hjd : j / k * k + j % k = j := by rw [Nat.mul_comm]; exact Nat.div_add_mod j k
   by_cases hq2 : j / k = i
   ·have e1 := Zcc (css := css.set i cs) (i := i) (c := cs) hset (by rw [List.getElem?_set_self (by omega)]) (j % k) hr
    rw [hq2] at hjd
    rw [<- hjd, e1]
    obtain ⟨u, hu⟩ : ∃ u, cs[j % k]? = some u := ⟨_, List.getElem?_eq_getElem (by omega)⟩
    rw [hu]
    exact h5 _ u hu (by omega)
   ·have e1 := Zcc (css := css.set i cs) (i := j / k) (c := css[j / k]'(by omega)) hset (by rw [List.getElem?_set_ne (by omega)]; exact List.getElem?_eq_getElem _) (j % k) hr
    have e2 := Zcc (css := css) (i := j / k) (c := css[j / k]'(by omega)) hall (List.getElem?_eq_getElem _) (j % k) hr
    rw [hjd] at e1 e2
    rw [e1, <- e2]
    refine h4 j ?_
    rw [hk]
    rcases Nat.lt_or_gt_of_ne hq2 with hlt | hgt
    ·left
     have : (j / k + 1) * k <= i * k := Nat.mul_le_mul_right k hlt
     rw [Nat.succ_mul] at this
     omega
    ·right
     have : (i + 1) * k <= j / k * k := Nat.mul_le_mul_right k hgt
     rw [Nat.succ_mul] at this
     omega
  ·rw [List.getElem?_eq_none (by omega), List.getElem?_eq_none (by omega)]
 rw [hys] at h2
 exact h _ h2 g2
theorem ZcN {z : Array Value} {k : Nat} (hz : z.size = k) (hk : 0 < k) (n : Nat) : (madeCells z (n * k)).toList = (List.replicate n z.toList).flatten := by
 have hall : ∀ c ∈ List.replicate n z.toList, c.length = k := fun c hc => by rw [List.eq_of_mem_replicate hc]; simpa using hz
 have hfl := Zc8 hall
 rw [List.length_replicate] at hfl
 apply List.ext_getElem?
 intro j
 by_cases hj : j < n * k
 ·have hq : j / k < n := Nat.div_lt_of_lt_mul (by rw [Nat.mul_comm]; exact hj)
  have hr : j % k < k := Nat.mod_lt _ hk
  have hjd : j / k * k + j % k = j := by rw [Nat.mul_comm]; exact Nat.div_add_mod j k
  have e := Zcc (css := List.replicate n z.toList) (i := j / k) (c := z.toList) hall (by simp [hq]) (j % k) hr
  rw [hjd] at e
  rw [e]
  simp [madeCells, hj, hz]
  have hlt : j % k < z.size := by omega
  rw [getElem!_pos z (j % k) hlt, Array.getElem?_eq_getElem hlt]
 ·rw [List.getElem?_eq_none (by simp [madeCells]; omega), List.getElem?_eq_none (by omega)]
def Fr (B : Nat) (v : Value) : Prop := ∀ g, v.ownBlock = some g -> B <= g
theorem Fr.of_own {w : World} {base : Nat} {e : TypeId} {k n : Nat} {v : Value} {l : List Value} (h : w.ownsRow base e k v n l) : Fr base v := fun g hg => (h.lt g hg).1
theorem Fr.mono {B C : Nat} {v : Value} (h : Fr B v) (hc : C <= B) : Fr C v := fun g hg => Nat.le_trans hc (h g hg)
theorem Fr.zero (v : Value) : Fr 0 v := fun _ _ => Nat.zero_le _
theorem Zdl {w w' : World} {B : Nat} {ao : Option Addr} {n cap g o : Nat} (hk : Kp B w w') (hf : Fr B (.slice ao n cap)) (he : ao = some ⟨g, o, none⟩) (hg : g < w.heap.size) : w'.heap[g]? = w.heap[g]? := by
 subst he
 exact hk.2 g (hf g rfl) hg
theorem NRow.kp {w w' : World} {v : Value} {xs : List Nd} {B : Nat} (R : NRow w v xs) (hf : Fr B v) (hk : Kp B w w') : NRow w' v xs := by
 obtain ⟨ao, cap, rfl, hc, hm, hz, hcell⟩ := R
 refine ⟨ao, cap, rfl, hc, hm, hz, fun hne => ?_⟩
 obtain ⟨g, o, rfl, hg, hcell⟩ := hcell hne
 have e := Zdl hk hf rfl hg
 refine ⟨g, o, rfl, Nat.lt_of_lt_of_le hg hk.1, fun i x hi => ?_⟩
 obtain ⟨c0, c1, c2, c3, c4⟩ := hcell i x hi
 exact ⟨(World.cell?_of_block e).trans c0, (World.cell?_of_block e).trans c1, (World.cell?_of_block e).trans c2, (World.cell?_of_block e).trans c3, (World.cell?_of_block e).trans c4⟩
end Go.Proofs.YtfmafkebddojjaaGreatDoor
