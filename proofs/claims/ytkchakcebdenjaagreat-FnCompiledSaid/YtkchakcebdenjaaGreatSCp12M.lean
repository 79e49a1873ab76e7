/-
  Texts that stood by themselves, laid into one.
-/
import Derived.Test.YtkchakcebdenjaaGreatIc1M
import Derived.Defers
import Derived.Recover
import Derived.Test.YtkchakcebdenjaaGreatIc8M
/-
  The contract of impl.Compile's deferred closure. No condition beyond the boxes that are said.
-/
namespace Go.Proofs.YtkchakcebdenjaaGreat
open Go.RowKit
theorem Tryz.mistakeZ : (Tryz.prog.info? 66).map (fun i => (i.zero, i.size, i.bytes)) = some (some (.agg #[.int .i64 0, .int .i64 0]), 2, 16) := by kernel_rfl
theorem tac_nil (xT : TypeId) (w : World) : (Instr.typeAssert .nilIface xT 66 true).run Tryz.prog w = .ok (.tuple #[.agg #[.int .i64 0, .int .i64 0], .bool false]) w := by
  obtain ⟨i0, hi, hz0, hz1, hz2⟩ := info_parts Tryz.mistakeZ
  simp [Instr.typeAssert, run_underlying Tryz.underlying66, zeroValue, typeInfo, go_sem, Result.andThen, hi, hz0]
theorem tac_ok (xT : TypeId) (v : Value) (w : World) : (Instr.typeAssert (.iface 66 v) xT 66 true).run Tryz.prog w = .ok (.tuple #[v, .bool true]) w := by
  simp [Instr.typeAssert, run_underlying Tryz.underlying66, go_sem, Result.andThen]
structure CBox (q : Nat) (w : World) (v a b c h p : Value) : Prop where
  arg : w.heap[q]? = some (.cells #[v] 29 (0, 0))
  code : w.heap[q + 1]? = some (.cells #[a, b, c] 33 (0, 0))
  how : w.heap[q + 1 + 1]? = some (.cells #[h] 3 (0, 0))
  place : w.heap[q + 1 + 1 + 1]? = some (.cells #[p] 3 (0, 0))
theorem CBox.lt {q : Nat} {w : World} {v a b c h p : Value} (X : CBox q w v a b c h p) : q + 1 + 1 + 1 < w.heap.size := (Array.getElem?_eq_some_iff.1 X.place).1
theorem CBox.on {q : Nat} {w w' : World} {v a b c h p : Value} (X : CBox q w v a b c h p) (hb : Below (q + 4) w w') : CBox q w' v a b c h p :=
  ⟨(hb.block _ (by omega)).trans X.arg, (hb.block _ (by omega)).trans X.code, (hb.block _ (by omega)).trans X.how, (hb.block _ (by omega)).trans X.place⟩
theorem setb (u : World) (i o j : Nat) (z : Value) (h : j ≠ i) : (u.setCell ⟨i, o, none⟩ z).heap[j]? = u.heap[j]? := heap_setCell_other u ⟨i, o, none⟩ j z h
theorem CBox.code3 {q : Nat} {w : World} {v a b c h p : Value} (X : CBox q w v a b c h p) (a' b' c' : Value) : CBox q (((w.setCell ⟨q + 1, 0, none⟩ a').setCell ⟨q + 1, 1, none⟩ b').setCell ⟨q + 1, 2, none⟩ c') v a' b' c' h p := by
  refine ⟨?_, ?_, ?_, ?_⟩
  · rw [setb _ _ _ _ _ (by omega), setb _ _ _ _ _ (by omega), setb _ _ _ _ _ (by omega)]; exact X.arg
  · have h0 := heap_setCell_same w (q + 1) 0 _ _ a' X.code
    have h1 := heap_setCell_same _ (q + 1) 1 _ _ b' h0
    exact heap_setCell_same _ (q + 1) 2 _ _ c' h1
  · rw [setb _ _ _ _ _ (by omega), setb _ _ _ _ _ (by omega), setb _ _ _ _ _ (by omega)]; exact X.how
  · rw [setb _ _ _ _ _ (by omega), setb _ _ _ _ _ (by omega), setb _ _ _ _ _ (by omega)]; exact X.place
theorem CBox.set2 {q : Nat} {w : World} {v a b c h p : Value} (X : CBox q w v a b c h p) (z : Value) : CBox q (w.setCell ⟨q + 1 + 1, 0, none⟩ z) v a b c z p :=
  ⟨(setb w _ _ _ z (by omega)).trans X.arg, (setb w _ _ _ z (by omega)).trans X.code, heap_setCell_same w (q + 1 + 1) 0 _ _ z X.how, (setb w _ _ _ z (by omega)).trans X.place⟩
theorem CBox.set3 {q : Nat} {w : World} {v a b c h p : Value} (X : CBox q w v a b c h p) (z : Value) : CBox q (w.setCell ⟨q + 1 + 1 + 1, 0, none⟩ z) v a b c h z :=
  ⟨(setb w _ _ _ z (by omega)).trans X.arg, (setb w _ _ _ z (by omega)).trans X.code, (setb w _ _ _ z (by omega)).trans X.how, heap_setCell_same w (q + 1 + 1 + 1) 0 _ _ z X.place⟩
theorem CBox.cells {q : Nat} {w : World} {v a b c h p : Value} (X : CBox q w v a b c h p) : w.cell? ⟨q, 0, none⟩ = some v ∧ w.cell? ⟨q + 1, 0, none⟩ = some a ∧ w.cell? ⟨q + 1, 1, none⟩ = some b ∧ w.cell? ⟨q + 1, 2, none⟩ = some c ∧ w.cell? ⟨q + 1 + 1, 0, none⟩ = some h ∧ w.cell? ⟨q + 1 + 1 + 1, 0, none⟩ = some p ∧
    w.frozen? ⟨q + 1, 0, none⟩ = false ∧ w.frozen? ⟨q + 1, 1, none⟩ = false ∧ w.frozen? ⟨q + 1, 2, none⟩ = false ∧ w.frozen? ⟨q + 1 + 1, 0, none⟩ = false ∧ w.frozen? ⟨q + 1 + 1 + 1, 0, none⟩ = false := by
  refine ⟨?_, cell_of_row w _ 0 _ _ _ X.code, cell_of_row w _ 1 _ _ _ X.code, cell_of_row w _ 2 _ _ _ X.code, ?_, ?_, frozen_of_row w _ 0 _ _ X.code, frozen_of_row w _ 1 _ _ X.code, frozen_of_row w _ 2 _ _ X.code, frozen_of_row w _ 0 _ _ X.how, frozen_of_row w _ 0 _ _ X.place⟩
  · rw [cell_of_row w _ 0 _ _ _ X.arg]; rfl
  · rw [cell_of_row w _ 0 _ _ _ X.how]; rfl
  · rw [cell_of_row w _ 0 _ _ _ X.place]; rfl
theorem catchc_idle (p0 p1 p2 : Addr) (w : World) :
    CallsD Tryz.prog 30 #[.pointer (some p0), .pointer (some p1), .pointer (some p2)] .returning w fun e u' w' => e = .returned (.tuple #[]) ∧ u' = .returning ∧ Below w.heap.size w w' := by
  refine callsD_of_wpS Tryz.func30 rfl fun c₀ cs hu => ?_
  apply wpS_seq
  apply wpS_region
  simp [wpOpsS, go_sem, recoverD, hu, Tryz.ntmps30, Exit.thenS, tac_nil, Array.replicate]
  refine wpS_of_wp ?_
  go_wp2_with fail
  cases c₀
  simp_all [bodyPostS, results, Tryz.results30]
  exact (Below.refl _ _).alloc (Nat.le_refl _) _
set_option maxHeartbeats 12800000 in
theorem catchc_panicking (q : Nat) (v a b c d f : Value) (h p : Int) (older : List PanicEntry) (w : World) (X : CBox q w v a b c d f) :
    CallsD Tryz.prog 30 #[.pointer (some ⟨q + 1, 0, none⟩), .pointer (some ⟨q + 1 + 1, 0, none⟩), .pointer (some ⟨q + 1 + 1 + 1, 0, none⟩)] (.panicking ({ v := .iface 66 (.agg #[.int .i64 h, .int .i64 p]), recovered := false } :: older)) w fun e u' w' => e = .returned (.tuple #[]) ∧ u' = .panicking ({ v := .iface 66 (.agg #[.int .i64 h, .int .i64 p]), recovered := true } :: older) ∧
      CBox q w' v (.slice none 0 0) (.slice none 0 0) (.slice none 0 0) (.int .i64 h) (.int .i64 p) ∧ Below q w w' := by
  refine callsD_of_wpS Tryz.func30 rfl fun c₀ cs hu => ?_
  apply wpS_seq
  apply wpS_region
  simp [wpOpsS, go_sem, recoverD, hu, Tryz.ntmps30, Exit.thenS, tac_ok, Array.replicate]
  refine wpS_of_wp ?_
  have hq := X.lt
  have hb1 : Below w.heap.size w (w.alloc (Obj.cells #[.int .i64 h, .int .i64 p] 66)) := (Below.refl _ _).alloc (Nat.le_refl _) _
  have hm1 : (w.alloc (Obj.cells #[.int .i64 h, .int .i64 p] 66)).heap[w.heap.size]? = some (.cells #[.int .i64 h, .int .i64 p] 66 (0, 0)) := heap_alloc_new _ _
  obtain ⟨k, hk⟩ : ∃ k, Hid (w.heap.size = k) := ⟨_, rfl⟩
  rw [hk.out] at hm1
  have hqk : q + 3 < k := by have := hk.out; omega
  go_wp2_with fail
  rw [hk.out]
  generalize w.alloc (Obj.cells #[.int .i64 h, .int .i64 p] 66) = w1 at hb1 hm1 ⊢
  have X1 := X.on (hb1.mono (by omega))
  obtain ⟨c0, c1, c2, c3, c4, c5, r1, r2, r3, r4, r5⟩ := X1.cells
  have m0 : w1.cell? ⟨k, 0, none⟩ = some (.int .i64 h) := by rw [cell_of_row w1 _ 0 _ _ _ hm1]; rfl
  have m1 : w1.cell? ⟨k, 1, none⟩ = some (.int .i64 p) := by rw [cell_of_row w1 _ 1 _ _ _ hm1]; rfl
  have hkl : k < w1.heap.size := (Array.getElem?_eq_some_iff.1 hm1).1
  have hX := ((X1.code3 (.slice none 0 0) (.slice none 0 0) (.slice none 0 0)).set2 (.int .i64 h)).set3 (.int .i64 p)
  try rw [show q + 1 + 1 = q + 2 from rfl] at *
  try rw [show q + 2 + 1 = q + 3 from rfl] at *
  have j3 : ¬ q + 1 = k := by omega
  have j4 : ¬ k = q + 1 := by omega
  have j5 : ¬ q + 2 = k := by omega
  have j6 : ¬ k = q + 2 := by omega
  have j7 : ¬ q + 3 = k := by omega
  have j8 : ¬ k = q + 3 := by omega
  go_region
  refine ⟨rfl, .panicking ({ v := .iface 66 (.agg #[.int .i64 h, .int .i64 p]), recovered := true } :: older), rfl, .tuple #[], results_nil0 rfl _ _, rfl, rfl, ?_⟩
  exact ⟨⟨hX.arg, hX.code, hX.how, hX.place⟩, ((((((hb1.mono (by omega)).setCell (p := ⟨q + 1, 0, none⟩) (by simp) _).setCell (p := ⟨q + 1, 1, none⟩) (by simp) _).setCell (p := ⟨q + 1, 2, none⟩) (by simp) _).setCell (p := ⟨q + 2, 0, none⟩) (by simp) _).setCell (p := ⟨q + 3, 0, none⟩) (by simp) _).drew⟩
end Go.Proofs.YtkchakcebdenjaaGreat
/-
  The contract of spec.Compile. No condition beyond the pool's and the list's length.
-/
namespace Go.Proofs.YtkchakcebdenjaaGreat
open Go.RowKit
theorem results_code {P : Program} {fn : Func} {p u u' : Tmp} {ty : TypeId} (h : fn.results = #[.cell p ty, .tmp u, .tmp u']) (tmps : Array Value) (w : World) (g : Nat) (t : TypeId) (cs : Array Value) (fr : Nat × Nat) (d : TypeDesc)
    (hp : tmps.getD p undef = .pointer (some ⟨g, 0, none⟩)) (hg : w.heap[g]? = some (.cells cs t fr))
    (hu : P.underlying ty = some d) (hd : (match d with | .struct _ | .array _ _ => true | _ => false) = true) (hi : (P.info? ty).map (·.size) = some cs.size) :
    (results fn tmps).run P w = .ok (.tuple #[.agg cs, tmps.getD u undef, tmps.getD u' undef]) w := by
  have hp' : tmps[p]?.getD undef = .pointer (some ⟨g, 0, none⟩) := by simpa using hp
  simp [results, h, hp', asAddr, run_loadVar_row w g t ty cs fr d hg hu hd hi]
def CompAns (w : World) (r : (List Nd × List In × List Df) × Int × Int) (e : Ending) (w' : World) : Prop :=
  ∃ v1 v2 v3 : Value, e = .returned (.tuple #[.agg #[v1, v2, v3], .int .i64 r.2.1, .int .i64 r.2.2]) ∧ w'.ownsRow w.heap.size 92 5 v1 r.1.1.length (ncs r.1.1) ∧ w'.ownsRow w.heap.size 53 4 v2 r.1.2.1.length (incs r.1.2.1) ∧ w'.ownsRow w.heap.size 51 3 v3 r.1.2.2.length (dfcs r.1.2.2) ∧ Below w.heap.size w w'
theorem grown_set3 (W : World) (b : Nat) (x y z : Value) : W.grownBy (((W.setCell ⟨b, 0, none⟩ x).setCell ⟨b, 1, none⟩ y).setCell ⟨b, 2, none⟩ z) (some b) :=
  grown_trans (grown_trans (grown_set W b 0 x) (grown_set _ b 1 y)) (grown_set _ b 2 z)
theorem store3 {W : World} {b : Nat} {a a' a'' : Value} (h : W.heap[b]? = some (.cells #[a, a', a''] 33 (0, 0))) (x y z : Value) : (((W.setCell ⟨b, 0, none⟩ x).setCell ⟨b, 1, none⟩ y).setCell ⟨b, 2, none⟩ z).heap[b]? = some (.cells #[x, y, z] 33 (0, 0)) :=
  heap_setCell_same _ b 2 _ _ z (heap_setCell_same _ b 1 _ _ y (heap_setCell_same W b 0 _ _ x h))
theorem cells3 {W : World} {b : Nat} {a a' a'' : Value} (h : W.heap[b]? = some (.cells #[a, a', a''] 33 (0, 0))) : W.cell? ⟨b, 0, none⟩ = some a ∧ W.cell? ⟨b, 1, none⟩ = some a' ∧ W.cell? ⟨b, 2, none⟩ = some a'' ∧ W.frozen? ⟨b, 0, none⟩ = false ∧ W.frozen? ⟨b, 1, none⟩ = false ∧ W.frozen? ⟨b, 2, none⟩ = false :=
  ⟨cell_of_row W b 0 _ _ _ h, cell_of_row W b 1 _ _ _ h, cell_of_row W b 2 _ _ _ h, frozen_of_row W b 0 _ _ h, frozen_of_row W b 1 _ _ h, frozen_of_row W b 2 _ _ h⟩
theorem none_ans {w W W' : World} (hB : Below w.heap.size w W) (hg : W.grownBy W' (some (w.heap.size + 1))) (h p : Int) : CompAns w (([], [], []), h, p) (.returned (.tuple #[.agg #[.slice none 0 0, .slice none 0 0, .slice none 0 0], .int .i64 h, .int .i64 p])) W' :=
  ⟨_, _, _, rfl, ⟨rfl, .inl ⟨rfl, rfl⟩⟩, ⟨rfl, .inl ⟨rfl, rfl⟩⟩, ⟨rfl, .inl ⟨rfl, rfl⟩⟩, hB.grown hg hB.size (fun k hk => by simp at hk; omega)⟩
set_option maxRecDepth 100000 in
set_option maxHeartbeats 6400000 in
theorem scompile_any (v : Value) (xs : List Nd) (vl : Value) (l : List Int) (w : World) (R : NRow w v xs) (T : TRow w vl l) (hlen : l.length ≤ 1048576) (hxl : xs.length ≤ 4194304) :
    Calls Tryz.prog 6 #[.agg #[v], vl] w fun e w' => CompAns w (compR xs l) e w' := by
  obtain ⟨ao, cap, rfl⟩ := R.small
  obtain ⟨al, cl, rfl, hlc, hcm⟩ := T.form
  have hB0 : Below w.heap.size w ((w.alloc (Obj.cells #[.slice ao xs.length cap] 29)).alloc (Obj.cells #[.slice none 0 0, .slice none 0 0, .slice none 0 0] 33)) := ((Below.refl _ _).alloc (Nat.le_refl _) _).alloc (by simp) _
  have ha0 : ((w.alloc (Obj.cells #[.slice ao xs.length cap] 29)).alloc (Obj.cells #[.slice none 0 0, .slice none 0 0, .slice none 0 0] 33)).heap[w.heap.size]? = some (.cells #[.slice ao xs.length cap] 29 (0, 0)) := (heap_alloc_old _ _ (by simp)).trans (heap_alloc_new _ _)
  have hr0 : ((w.alloc (Obj.cells #[.slice ao xs.length cap] 29)).alloc (Obj.cells #[.slice none 0 0, .slice none 0 0, .slice none 0 0] 33)).heap[w.heap.size + 1]? = some (.cells #[.slice none 0 0, .slice none 0 0, .slice none 0 0] 33 (0, 0)) := heap_alloc2_new _ _ _
  go_enter Tryz.func6, Tryz.ntmps6
  go_wp2_with fail
  generalize (w.alloc (Obj.cells #[.slice ao xs.length cap] 29)).alloc (Obj.cells #[.slice none 0 0, .slice none 0 0, .slice none 0 0] 33) = w0 at *
  refine (spool_any _ xs _ (R.below hB0)).mono ?_
  rintro e w1 ⟨rfl, hb1⟩
  have hlt0 := (Array.getElem?_eq_some_iff.1 hr0).1
  have ha1 := (hb1.block _ (by omega)).trans ha0
  have hr1 := (hb1.block _ hlt0).trans hr0
  have hB1 := hB0.trans (hb1.mono hB0.size)
  cases hp : poolB xs with
  | false =>
    have HR : Hid (compR xs l = (([], [], []), 3, 0)) := by unfold Hid compR; rw [hp]; rfl
    obtain ⟨r0, r1, r2, z0, z1, z2⟩ := cells3 hr1
    have hS := store3 hr1 (.slice none 0 0) (.slice none 0 0) (.slice none 0 0)
    go_wp2_with fail
    exact bodyPost_ret (results_code rfl _ _ (w.heap.size + 1) 33 _ (0, 0) _ rfl hS Tryz.underlying33 rfl Tryz.sizeC) rfl (by rw [HR.out]; exact none_ans hB1 (grown_set3 _ _ _ _ _) _ _)
  | true =>
    have HT : Hid (TRow w1 (.slice al l.length cl) l) := T.below hB1
    have c1 : w1.cell? ⟨w.heap.size, 0, none⟩ = some (.slice ao xs.length cap) := cell_of_row w1 _ 0 _ _ _ ha1
    have R1 := R.below hB1
    have hlt1 := (Array.getElem?_eq_some_iff.1 hr1).1
    clear hb1 hr0 ha0 hB0 R T
    go_wp2_with fail
    go_loopw [7] (fun i wr => ∃ k : Nat, k ≤ l.length ∧ i = .int .i64 k ∧ Below w1.heap.size w1 wr ∧ Hid (allI xs l = (l.drop k).all (hasI xs))) (fun i _ => l.length - (intOf i).toNat)
    case atStart => exact ⟨0, by omega, rfl, Below.refl _ _, rfl⟩
    case round =>
      obtain ⟨k, hk, rfl, hbr, HA⟩ := hrel
      have hrr := (hbr.block _ hlt1).trans hr1
      have cr := (hbr.cell (p := ⟨w.heap.size, 0, none⟩) (show w.heap.size < w1.heap.size by omega)).trans c1
      have Rr := R1.below hbr
      have hBr := hB1.trans (hbr.mono hB1.size)
      by_cases hlt : k < l.length
      · obtain ⟨g, o, rfl, hg, hc⟩ := (HT.out.below hbr).cell k hlt
        obtain ⟨z, hz⟩ : ∃ z, Hid (l.getD k 0 = z) := ⟨_, rfl⟩
        rw [hz.out] at hc
        have HA2 : Hid (allI xs l = (hasI xs z && (l.drop (k + 1)).all (hasI xs))) := by unfold Hid; rw [HA.out, all_drop _ _ _ hlt, hz.out]
        have hlt' : (k : Int) < l.length := by omega
        have hltr : w.heap.size < wr.heap.size := by have := hbr.size; omega
        clear c1 HA
        go_wp2_with fail
        go_region_held (fun w' => w'.cell? ⟨w.heap.size, 0, none⟩ = some (.slice ao xs.length cap) ∧ w'.cell? ⟨g, o + k, none⟩ = some (.int .i64 z)) (first | exact ⟨s0, s1⟩ | go_keep) (first
          | (go_at_call 23; refine (shas_all _ xs z _ ?_).mono ?_; exact Rr.below (Below.refl _ _).drew; rintro e w2 ⟨rfl, hb2⟩; have hb02 : Below wr.heap.size wr w2 := (Below.refl _ _).drew.trans hb2; have s0 := (hb02.cell (p := ⟨w.heap.size, 0, none⟩) hltr).trans cr; have s1 := (hb02.cell (p := ⟨g, o + k, none⟩) hg).trans hc))
        have hb12 := hbr.trans (hb02.mono hbr.size)
        have hr2 := (hb12.block _ hlt1).trans hr1
        have hB2 := hB1.trans (hb12.mono hB1.size)
        clear s0 s1 cr hc hrr
        cases hh : hasI xs z with
        | false =>
          have HR : Hid (compR xs l = (([], [], []), 3, 0)) := by unfold Hid compR; rw [HA2.out, hh, hp]; rfl
          clear HA2
          obtain ⟨r0, r1, r2, z0, z1, z2⟩ := cells3 hr2
          have hS := store3 hr2 (.slice none 0 0) (.slice none 0 0) (.slice none 0 0)
          go_wp2_with fail
          exact bodyPost_ret (results_code rfl _ _ (w.heap.size + 1) 33 _ (0, 0) _ rfl hS Tryz.underlying33 rfl Tryz.sizeC) rfl (by rw [HR.out]; exact none_ans hB2 (grown_set3 _ _ _ _ _) _ _)
        | true =>
          have HA3 : Hid (allI xs l = (l.drop (k + 1)).all (hasI xs)) := by unfold Hid; rw [HA2.out, hh, Bool.true_and]
          clear HA2
          go_wp2_with fail
          go_roundw
          case rel => exact ⟨k + 1, by omega, by go_num, hb12, HA3⟩
          case measure => simp [intOf]; omega
      · have HA2 : Hid (allI xs l = true) := by unfold Hid; rw [HA.out, List.drop_eq_nil_of_le (by omega)]; rfl
        have hlt' : ¬ (k : Int) < l.length := by omega
        clear HA
        go_wp2_with fail
        refine (scopy_any _ xs _ Rr (by omega)).mono ?_
        rintro e w2 ⟨v2, rfl, ho2, hb2⟩
        obtain ⟨a2, q2, rfl⟩ := own_form ho2
        have hb12 := hbr.trans (hb2.mono hbr.size)
        have hr2 := (hb12.block _ hlt1).trans hr1
        have hB2 := hB1.trans (hb12.mono hB1.size)
        have hBM := (Array.getElem?_eq_some_iff.1 hr2).1
        have hB3 : Below w2.heap.size w2 (w2.alloc (Obj.cells #[.slice a2 xs.length q2, .slice none 0 0, .slice none 0 0, .int .i64 0] 61)) := (Below.refl _ _).alloc (Nat.le_refl _) _
        have K0 : Mk xs w2.heap.size 0 (w2.alloc (Obj.cells #[.slice a2 xs.length q2, .slice none 0 0, .slice none 0 0, .int .i64 0] 61)) ⟨[], [], 0⟩ :=
          ⟨_, _, _, [], [], heap_alloc_new _ _, own_mono (own_below ho2 hB3) (Nat.zero_le _), ⟨rfl, .inl ⟨rfl, rfl⟩⟩, ⟨rfl, .inl ⟨rfl, rfl⟩⟩, fun _ => ⟨rfl, rfl⟩, by simp, by simp⟩
        have cM : (w2.alloc (Obj.cells #[.slice a2 xs.length q2, .slice none 0 0, .slice none 0 0, .int .i64 0] 61)).cell? ⟨w2.heap.size, 0, none⟩ = some (.slice a2 xs.length q2) := cell_of_row _ _ 0 _ _ _ (heap_alloc_new w2 _)
        have bM : (w2.alloc (Obj.cells #[.slice a2 xs.length q2, .slice none 0 0, .slice none 0 0, .int .i64 0] 61)).heap[w2.heap.size]? = some (.cells #[.slice a2 xs.length q2, .slice none 0 0, .slice none 0 0, .int .i64 0] 61 (0, 0)) := heap_alloc_new w2 _
        have hb13 := hb12.trans (hB3.mono hb12.size)
        have HT3 : Hid (TRow (w2.alloc (Obj.cells #[.slice a2 xs.length q2, .slice none 0 0, .slice none 0 0, .int .i64 0] 61)) (.slice al l.length cl) l) := HT.out.below hb13
        have hr3 := (hB3.block _ hBM).trans hr2
        have hB3' := hB2.trans (hB3.mono hB2.size)
        have ho3 := own_mono (own_below ho2 hB3) (show w.heap.size ≤ wr.heap.size by have := hbr.size; omega)
        have HIn : Hid (∀ k, k < l.length → ∃ n : Nat, l.getD k 0 = n ∧ n < xs.length) := fun k hk => by
          have h1 := HA2.out
          unfold allI at h1
          rw [List.all_eq_true] at h1
          have h2 := h1 (l.getD k 0) (by rw [List.getD_eq_getElem?_getD, List.getElem?_eq_getElem hk]; exact List.getElem_mem _)
          simp only [hasI, Bool.and_eq_true, decide_eq_true_eq] at h2
          exact ⟨(l.getD k 0).toNat, by omega, by omega⟩
        have HCR : Hid (compR xs l = (if (ctops xs l 0 ⟨[], [], 0⟩).1.how = 0 then
      (if codeB xs (ctops xs l 0 ⟨[], [], 0⟩).1.list (ctops xs l 0 ⟨[], [], 0⟩).1.defs then ((xs, (ctops xs l 0 ⟨[], [], 0⟩).1.list, (ctops xs l 0 ⟨[], [], 0⟩).1.defs), 0, (l.length : Int)) else (([], [], []), 3, 0))
     else if (ctops xs l 0 ⟨[], [], 0⟩).1.how = 3 then (([], [], []), 3, 0) else (([], [], []), (ctops xs l 0 ⟨[], [], 0⟩).1.how, ((ctops xs l 0 ⟨[], [], 0⟩).2 : Int)))) := by
          unfold Hid compR
          rw [hp, HA2.out]
          rfl
        clear HA2 hb2 ho2 cr c1 hrr Rr hBr hb12 hr2 hB2 hb13 hbr
        go_wp2_with fail
        generalize w2.alloc (Obj.cells #[.slice a2 xs.length q2, .slice none 0 0, .slice none 0 0, .int .i64 0] 61) = w3 at *
        generalize w2.heap.size = M at *
        go_loopw [9] (fun i wr => ∃ (k : Nat) (sk : CS), k ≤ l.length ∧ i = .int .i64 k ∧ Mk xs M k wr sk ∧ CF M w3 wr ∧ Hid (sk.how = 0 ∧ Sm sk ∧ ctops xs l 0 ⟨[], [], 0⟩ = ctops xs (l.drop k) k sk)) (fun i _ => l.length - (intOf i).toNat)
        case atStart => exact ⟨0, ⟨[], [], 0⟩, by omega, rfl, K0, CF.refl _ _, ⟨rfl, ⟨by simp, by simp⟩, rfl⟩⟩
        case round =>
          obtain ⟨k, sk, hkl, rfl, kr, fr, HK⟩ := hrel
          have hrr := fr.keep _ _ _ _ hr3 (by omega) (by decide) (by decide)
          have hBr := hB3'.trans (fr.below.mono (by omega))
          by_cases hlt : k < l.length
          · obtain ⟨n, hn, hnl⟩ := HIn.out k hlt
            obtain ⟨g, o, rfl, hg, hc⟩ := (fr.trow' K0 HT3.out).cell k hlt
            rw [hn] at hc
            have hlt' : (k : Int) < l.length := by omega
            have HK2 : Hid (ctops xs l 0 ⟨[], [], 0⟩ = if (ctop xs n sk).how = 0 then ctops xs (l.drop (k + 1)) (k + 1) (ctop xs n sk) else (ctop xs n sk, k)) := by
              unfold Hid
              rw [HK.out.2.2, List.drop_eq_getElem_cons hlt, show l[k] = (n : Int) by rw [← hn, List.getD_eq_getElem?_getD, List.getElem?_eq_getElem hlt]; rfl, ctops]
            have HS2 : Hid (Sm (ctop xs n sk)) := ctop_sm xs (ndAt_s hp) n sk HK.out.2.1
            clear hn
            go_wp2_with fail
            refine (s4top_any xs hp M k (by omega) n hnl sk wr kr HK.out.1).mono ?_
            rintro r w4 ⟨rfl, k4, f4⟩
            generalize ctop xs n sk = s4 at *
            have fr4 := fr.trans f4
            have hr4 := fr4.keep _ _ _ _ hr3 (by omega) (by decide) (by decide)
            have hB4 := hB3'.trans (fr4.below.mono (by omega))
            have k4' := k4
            obtain ⟨pv, lv, dv, L, D, h4⟩ := k4
            have c43 := h4.cells.2.2.2.1
            clear hc HK
            by_cases h3 : s4.how = 3
            · have HR : Hid (compR xs l = (([], [], []), 3, 0)) := by
                unfold Hid
                rw [HCR.out, HK2.out, if_neg (by omega : ¬ s4.how = 0)]
                dsimp only
                rw [if_neg (by omega), if_pos h3]
              rw [h3] at c43
              clear HCR HK2
              obtain ⟨r0, r1, r2, z0, z1, z2⟩ := cells3 hr4
              have hS := store3 hr4 (.slice none 0 0) (.slice none 0 0) (.slice none 0 0)
              go_wp2_with fail
              exact bodyPost_ret (results_code rfl _ _ (w.heap.size + 1) 33 _ (0, 0) _ rfl hS Tryz.underlying33 rfl Tryz.sizeC) rfl (by rw [HR.out]; exact none_ans hB4 (grown_set3 _ _ _ _ _) _ _)
            · by_cases h0 : s4.how = 0
              · have HK3 : Hid (s4.how = 0 ∧ Sm s4 ∧ ctops xs l 0 ⟨[], [], 0⟩ = ctops xs (l.drop (k + 1)) (k + 1) s4) := ⟨h0, HS2.out, by rw [HK2.out, if_pos h0]⟩
                rw [h0] at c43
                clear HCR HK2
                go_wp2_with fail
                go_roundw
                case rel => exact ⟨k + 1, s4, by omega, by go_num, k4', fr4, HK3⟩
                case measure => simp [intOf]; omega
              · have HR : Hid (compR xs l = (([], [], []), s4.how, (k : Int))) := by
                  unfold Hid
                  rw [HCR.out, HK2.out, if_neg h0]
                  dsimp only
                  rw [if_neg h0, if_neg h3]
                have b3 : (s4.how == 3) = false := by simpa using h3
                have b0 : (s4.how == 0) = false := by simpa using h0
                obtain ⟨r0, r1, r2, z0, z1, z2⟩ := cells3 hr4
                have m1 : ¬ w.heap.size + 1 = M := by omega
                have m2 : ¬ M = w.heap.size + 1 := by omega
                clear HCR HK2
                go_wp2_with fail
                go_region_held (fun w' => w'.cell? ⟨M, 3, none⟩ = some (.int .i64 s4.how)) (go_keep) (fail)
                have hS := store3 hr4 (.slice none 0 0) (.slice none 0 0) (.slice none 0 0)
                go_wp2_with fail
                exact bodyPost_ret (results_code rfl _ _ (w.heap.size + 1) 33 _ (0, 0) _ rfl hS Tryz.underlying33 rfl Tryz.sizeC) rfl (by rw [HR.out]; exact none_ans hB4 (by have gg := grown_set3 w4 (w.heap.size + 1) (.slice none 0 0) (.slice none 0 0) (.slice none 0 0); exact ⟨gg.os, gg.tape, gg.output, gg.size, gg.block⟩) _ _)
          · have HK2 : Hid (ctops xs l 0 ⟨[], [], 0⟩ = (sk, k)) := by unfold Hid; rw [HK.out.2.2, List.drop_eq_nil_of_le (by omega)]; rfl
            have hlt' : ¬ (k : Int) < l.length := by omega
            obtain ⟨pv, lv, dv, L, D, h4⟩ := kr
            obtain ⟨rfl, rfl⟩ := h4.same HK.out.1
            obtain ⟨c0, c1, c2, _⟩ := h4.cells
            have hpv : pv = .slice a2 xs.length q2 := by
              have := c0.symm.trans (fr.first.trans cM)
              exact Option.some.inj this
            subst hpv
            obtain ⟨al2, ql2, rfl⟩ := own_form h4.list
            obtain ⟨ad2, qd2, rfl⟩ := own_form h4.defs
            have op := fr.own ho3 bM (by decide) (by decide) (by decide)
            have ol := own_mono h4.list (show w.heap.size ≤ M + 1 by omega)
            have od := own_mono h4.defs (show w.heap.size ≤ M + 1 by omega)
            have HSm : Hid (Sm sk) := HK.out.2.1
            have h0 := HK.out.1
            have hM := h4.lt
            have hL4 := h4.len
            have hD4 := h4.many
            clear HK h4
            go_wp2_with fail
            go_region_held (fun w' => w'.cell? ⟨M, 0, none⟩ = some (.slice a2 xs.length q2) ∧ w'.cell? ⟨M, 1, none⟩ = some (.slice al2 sk.list.length ql2) ∧ w'.cell? ⟨M, 2, none⟩ = some (.slice ad2 sk.defs.length qd2)) (go_keep) (fail)
            have hB5 : Below wr.heap.size wr (wr.alloc (Obj.cells #[.slice a2 xs.length q2, .slice al2 sk.list.length ql2, .slice ad2 sk.defs.length qd2] 33)).drew := ((Below.refl _ _).alloc (Nat.le_refl _) _).drew
            have hbx : (wr.alloc (Obj.cells #[.slice a2 xs.length q2, .slice al2 sk.list.length ql2, .slice ad2 sk.defs.length qd2] 33)).drew.heap[wr.heap.size]? = some (.cells #[.slice a2 xs.length q2, .slice al2 sk.list.length ql2, .slice ad2 sk.defs.length qd2] 33 (0, 0)) := heap_alloc_new wr _
            go_upto_region 18 with fail
            generalize (wr.alloc (Obj.cells #[.slice a2 xs.length q2, .slice al2 sk.list.length ql2, .slice ad2 sk.defs.length qd2] 33)).drew = w5 at hB5 hbx ⊢
            have hr5 := (hB5.block _ (Array.getElem?_eq_some_iff.1 hrr).1).trans hrr
            have op5 := own_below op hB5
            have ol5 := own_below ol hB5
            have od5 := own_below od hB5
            have hBB5 := hBr.trans (hB5.mono hBr.size)
            have HPS := pool_s2 hp
            obtain ⟨x0, x1, x2, _⟩ := cells3 hbx
            have hx5 := (Array.getElem?_eq_some_iff.1 hbx).1
            clear c0 c1 c2 op ol od hrr
            go_wp2_with fail
            refine (scodeok_any _ _ _ xs sk.list sk.defs _ (NRow.of_own op5 (by omega) HPS.2) (InRow.of_own ol5 (by omega) (fun x hx => Nat.le_trans (HSm.out.1 x hx) (by unfold maxLen; omega))) (DfRow.of_own od5 (by omega) (fun x hx => Nat.le_trans (HSm.out.2 x hx) (by unfold maxLen; omega)))).mono ?_
            rintro e w6 ⟨rfl, hb6⟩
            have hr6 := (hb6.block _ (Array.getElem?_eq_some_iff.1 hr5).1).trans hr5
            have hbx6 := (hb6.block _ hx5).trans hbx
            have op6 := own_below op5 hb6
            have ol6 := own_below ol5 hb6
            have od6 := own_below od5 hb6
            have hBB6 := hBB5.trans (hb6.mono hBB5.size)
            clear x0 x1 x2 op5 ol5 od5 hr5 hbx
            cases hcb : codeB xs sk.list sk.defs with
            | false =>
              have HR : Hid (compR xs l = (([], [], []), 3, 0)) := by
                unfold Hid
                rw [HCR.out, HK2.out]
                dsimp only
                rw [if_pos h0, hcb]
                rfl
              clear HCR HK2
              obtain ⟨r0, r1, r2, z0, z1, z2⟩ := cells3 hr6
              have hS := store3 hr6 (.slice none 0 0) (.slice none 0 0) (.slice none 0 0)
              go_wp2_with fail
              exact bodyPost_ret (results_code rfl _ _ (w.heap.size + 1) 33 _ (0, 0) _ rfl hS Tryz.underlying33 rfl Tryz.sizeC) rfl (by rw [HR.out]; exact none_ans hBB6 (grown_set3 _ _ _ _ _) _ _)
            | true =>
              have HR : Hid (compR xs l = ((xs, sk.list, sk.defs), 0, (l.length : Int))) := by
                unfold Hid
                rw [HCR.out, HK2.out]
                dsimp only
                rw [if_pos h0, hcb]
                rfl
              obtain ⟨r0, r1, r2, z0, z1, z2⟩ := cells3 hr6
              obtain ⟨x0, x1, x2, _⟩ := cells3 hbx6
              have hS := store3 hr6 (.slice a2 xs.length q2) (.slice al2 sk.list.length ql2) (.slice ad2 sk.defs.length qd2)
              have gg := grown_set3 w6 (w.heap.size + 1) (.slice a2 xs.length q2) (.slice al2 sk.list.length ql2) (.slice ad2 sk.defs.length qd2)
              have op7 := op6.kept gg (.inr (own_ne op6 hr6 (by decide)))
              have ol7 := ol6.kept gg (.inr (own_ne ol6 hr6 (by decide)))
              have od7 := od6.kept gg (.inr (own_ne od6 hr6 (by decide)))
              have hBB7 := hBB6.grown gg hBB6.size (fun k hk => by simp at hk; omega)
              clear HCR HK2
              go_wp2_with fail
              exact bodyPost_ret (results_code rfl _ _ (w.heap.size + 1) 33 _ (0, 0) _ rfl hS Tryz.underlying33 rfl Tryz.sizeC) rfl (by rw [HR.out]; exact ⟨_, _, _, rfl, op7, ol7, od7, hBB7⟩)
end Go.Proofs.YtkchakcebdenjaaGreat
