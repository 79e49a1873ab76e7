/-
  Texts that stood by themselves, laid into one.
-/
import Derived.Test.YtkchakcebdenjaaGreatIc11M
import Derived.Test.YtkchakcebdenjaaGreatIcMM
import Derived.Defers
import Derived.Recover
/-
  The contract of the compiler's value. No condition beyond the compiler's memory and a right pool that has the value.
-/
namespace Go.Proofs.YtkchakcebdenjaaGreat
open Go.RowKit
theorem TRow.oth {w w' : World} {b g n cap : Nat} {l : List Int} (h : TRow w (.slice (some ⟨g, 0, none⟩) n cap) l) (ho : ∀ j, j ≠ b → w'.heap[j]? = w.heap[j]?) (hb : g ≠ b) : TRow w' (.slice (some ⟨g, 0, none⟩) n cap) l := by
  obtain ⟨ao', cap', e, h1, h2, h3⟩ := h
  simp only [Value.slice.injEq] at e
  obtain ⟨rfl, rfl, rfl⟩ := e
  refine ⟨_, _, rfl, h1, h2, fun hne => ?_⟩
  obtain ⟨g', o', cur, fr, e, hg, hc⟩ := h3 hne
  simp only [Option.some.injEq, Addr.mk.injEq, and_true] at e
  obtain ⟨rfl, rfl⟩ := e
  exact ⟨g, 0, cur, fr, rfl, (ho g hb).trans hg, hc⟩
theorem FmV.other {w : World} {f : Fm} {u : Value} (h : FmV w f u) (hn : ∀ t vs bs, f ≠ .defn t vs bs) : ∃ ty x, u = .iface ty x ∧ ¬ ty = 114 := by
  cases f
  case lit => exact ⟨_, _, h, by decide⟩
  case men => exact ⟨_, _, h, by decide⟩
  case quo => obtain ⟨x, e, r⟩ := h; exact ⟨_, _, e, by decide⟩
  case cho => obtain ⟨x, e, r⟩ := h; exact ⟨_, _, e, by decide⟩
  case seq => obtain ⟨x, e, r⟩ := h; exact ⟨_, _, e, by decide⟩
  case cal => obtain ⟨x, e, r⟩ := h; exact ⟨_, _, e, by decide⟩
  case fn => obtain ⟨x, y, e, _⟩ := h; exact ⟨_, _, e, by decide⟩
  case bin => obtain ⟨x, y, e, _⟩ := h; exact ⟨_, _, e, by decide⟩
  case defn t vs bs => exact absurd rfl (hn t vs bs)
  case stray => exact ⟨_, _, h, by decide⟩
set_option maxRecDepth 100000 in
set_option maxHeartbeats 6400000 in
theorem icvalue_any (xs : List Nd) (hp : poolB xs = true) (C : Nat) (num : Int) (v : Nat) (hv : v < xs.length) (s : CS) (w : World) (h : Ic xs C w num [] s.list s.defs) (h0 : s.how = 0) (hl : s.list.length ≤ 400) (hSm : Sm s) (hdl : s.defs.length ≤ 2097152) :
    Calls Tryz.prog 31 #[.pointer (some ⟨C, 0, none⟩), .int .i64 v] w fun r w' => Out xs C num [] (ctop xs v s) (.tuple #[]) r w' ∧ IF C w w' := by
  have hlen := (pool_s2 hp).1
  have HC0 : Hid (ctop xs v s = topR (cexp xs xs.length) xs (topF v (formF xs v)) s) := ctop_form hp v hv s
  have hlt := formF_lt hp v
  have hE0 : ∀ {l : List Int}, LtL xs.length l → ∀ z ∈ l, ICE xs C num (cexp xs xs.length) z ∧ 0 + 1 + z.toNat ≤ 3001 := fun hl z hz => by
    obtain ⟨n, rfl, hn⟩ := hl z hz
    exact ⟨iexpr_any xs hp C num n hn xs.length hn, by simp; omega⟩
  have h' := h
  obtain ⟨pv, lv, dv, fv, K⟩ := h'
  have c0 := K.cells.1
  have R := K.pool
  obtain ⟨ao, cap, rfl⟩ : ∃ ao cap, pv = .slice ao xs.length cap := by obtain ⟨ao, cap, e, _⟩ := R; exact ⟨ao, cap, e⟩
  go_enter Tryz.func31, Tryz.ntmps31
  go_wp2_with fail
  refine (iformof_any ao cap xs v _ R hp hv).mono ?_
  rintro r w1 ⟨u, rfl, hu, hb1⟩
  have I1 := h.on hb1
  have F1 := IF.of_below (C := C) hb1 (Nat.le_of_lt h.lt)
  generalize formF xs v = f at *
  clear K R c0
  by_cases hf : ∃ t vs bs, f = .defn t vs bs
  · obtain ⟨t, vs, bs, rfl⟩ := hf
    obtain ⟨x, y, rfl, Tx, Ty⟩ := hu
    have HC : Hid (ctop xs v s = topR (cexp xs xs.length) xs (t, vs, bs) s) := HC0
    have hvs : InP xs vs := hlt.1.inp (by omega)
    have hE := hE0 (l := bs) (fun z hz => by obtain ⟨n, e, hn⟩ := hlt.2 z hz; exact ⟨n, e, by omega⟩)
    obtain ⟨a1, k1, rfl, _⟩ := Tx.form
    obtain ⟨a2, k2, rfl, _⟩ := Ty.form
    have a0 := ok_def
    have hbA : Below w1.heap.size w1 (w1.alloc (Obj.cells #[.string t, .slice a1 vs.length k1, .slice a2 bs.length k2] 114)) := (Below.refl _ _).alloc (Nat.le_refl _) _
    have hbx : (w1.alloc (Obj.cells #[.string t, .slice a1 vs.length k1, .slice a2 bs.length k2] 114)).heap[w1.heap.size]? = some (.cells #[.string t, .slice a1 vs.length k1, .slice a2 bs.length k2] 114 (0, 0)) := heap_alloc_new _ _
    have IW := I1.on hbA
    have FW := F1.trans (IF.of_below hbA (Nat.le_of_lt I1.lt))
    replace Tx := Tx.below hbA
    replace Ty := Ty.below hbA
    clear HC0 hE0 hlt I1 F1 hbA
    go_wp2_with (refine wpList_load_row rfl 114 _ rfl w1.heap.size rfl 114 #[.string t, .slice a1 vs.length k1, .slice a2 bs.length k2] (0, 0) _ hbx Tryz.underlying114 rfl Tryz.szdef3 ?_)
    refine (iaskfm_any xs C num [] _ _ (.defn t vs bs) _ _ IW ⟨_, _, rfl, Tx, Ty⟩ hvs).mono ?_
    rintro r W2 ⟨hO, hb2⟩
    have IW2 := IW.on hb2
    have FW2 := FW.trans (IF.of_below hb2 (Nat.le_of_lt IW.lt))
    have Tx2 := Tx.below hb2
    have Ty2 := Ty.below hb2
    have hbx2 := (hb2.block _ (Array.getElem?_eq_some_iff.1 hbx).1).trans hbx
    rcases hO.symm with ⟨ht, rfl⟩ | ⟨ht, rfl⟩
    · have HS : Hid (ctop xs v s = { s with how := 1 }) := by unfold Hid; rw [HC.out]; unfold topR; rw [if_neg (by rw [ht]; simp)]
      go_wp2_with fail
      exact ⟨rfl, by rw [HS.out]; exact Or.inr ⟨by simp, rfl⟩, FW2⟩
    have HS : Hid (ctop xs v s = (if namesHow xs vs = 0 then cdefine (cexp xs xs.length) t (nameL xs vs) bs s else { s with how := namesHow xs vs })) := by unfold Hid; rw [HC.out]; unfold topR; rw [if_pos ht]
    simp only [tellB, fnB, Bool.and_eq_true, decide_eq_true_eq] at ht
    obtain ⟨_, _, _, hv4, hva⟩ := ht
    clear HC hbx Tx Ty IW FW hb2
    go_wp2_with (refine wpList_load_row rfl 114 _ rfl w1.heap.size rfl 114 #[.string t, .slice a1 vs.length k1, .slice a2 bs.length k2] (0, 0) _ hbx2 Tryz.underlying114 rfl Tryz.szdef3 ?_)
    refine (icdefine_any xs C num _ (cexp_stay xs _) t vs bs _ _ s _ IW2 h0 hl hSm hdl Tx2 hvs hv4 hva Ty2 hE).mono ?_
    rintro r W3 ⟨hO, F3⟩
    rw [← HS.out] at hO
    rcases hO.symm with ⟨hn, rfl⟩ | ⟨q1, l1, rfl, I3⟩
    · go_wp2_with fail
      exact ⟨rfl, Out.bad hn rfl, FW2.trans F3⟩
    go_wp2_with fail
    exact bodyPost_end (results_nil0 rfl _ _) rfl ⟨Or.inl ⟨q1, l1, rfl, I3⟩, FW2.trans F3⟩
  · have hnd : ∀ t vs bs, f ≠ .defn t vs bs := fun t vs bs e => hf ⟨t, vs, bs, e⟩
    obtain ⟨ty, xx, rfl, hty⟩ := hu.other hnd
    have HC : Hid (ctop xs v s = topR (cexp xs xs.length) xs (wMain, [], [(v : Int)]) s) := by
      unfold Hid
      rw [HC0.out]
      cases f
      case defn t vs bs => exact absurd rfl (hnd t vs bs)
      all_goals rfl
    have hvs : InP xs [] := fun z hz => by cases hz
    have hE := hE0 (l := [(v : Int)]) (fun z hz => by rw [List.mem_singleton] at hz; exact ⟨v, hz, hv⟩)
    have a0 := ne_def ty hty
    have hbA : Below w1.heap.size w1 ((w1.alloc (Obj.cells #[.string ⟨#[]⟩, .slice none 0 0, .slice none 0 0] 114)).alloc (Obj.cells #[.int .i64 v] 3)) := ((Below.refl _ _).alloc (Nat.le_refl _) _).alloc (by simp) _
    have hbx0 : ((w1.alloc (Obj.cells #[.string ⟨#[]⟩, .slice none 0 0, .slice none 0 0] 114)).alloc (Obj.cells #[.int .i64 v] 3)).heap[w1.heap.size]? = some (.cells #[.string ⟨#[]⟩, .slice none 0 0, .slice none 0 0] 114 (0, 0)) := (heap_alloc_old _ _ (by simp)).trans (heap_alloc_new _ _)
    have Ty0 : TRow ((w1.alloc (Obj.cells #[.string ⟨#[]⟩, .slice none 0 0, .slice none 0 0] 114)).alloc (Obj.cells #[.int .i64 v] 3)) (.slice (some ⟨w1.heap.size + 1, 0, none⟩) 1 1) [(v : Int)] := by
      have := TRow.of_own (l := [(v : Int)]) (own_lit (w1.alloc (Obj.cells #[.string ⟨#[]⟩, .slice none 0 0, .slice none 0 0] 114)) (.int .i64 v) 3 0 (Nat.zero_le _))
      simpa using this
    clear HC0 hE0 hlt hu
    go_wp2_with (refine wpList_store_own2 rfl 114 _ _ rfl w1.heap.size #[.string wMain, .slice none 0 0, .slice (some ⟨w1.heap.size + 1, 0, none⟩) 1 1] rfl rfl 114 #[.string ⟨#[]⟩, .slice none 0 0, .slice none 0 0] hbx0 Tryz.szdef3 rfl (by simp [Value.oneCell']) ?_)
    intro w9 hbx hb9 hs9 hoth
    have Ty := Ty0.oth hoth (by omega)
    have Tx : TRow w9 (.slice none 0 0) [] := TRow.nil _ _
    have hb19 : Below w1.heap.size w1 w9 := hbA.trans hb9
    have IW := I1.on hb19
    have FW := F1.trans (IF.of_below hb19 (Nat.le_of_lt I1.lt))
    clear hbA hbx0 Ty0 hb9 hs9 hoth hb19 I1 F1
    go_wp2_with (refine wpList_load_row rfl 114 _ rfl w1.heap.size rfl 114 #[.string wMain, .slice none 0 0, .slice (some ⟨w1.heap.size + 1, 0, none⟩) 1 1] (0, 0) _ hbx Tryz.underlying114 rfl Tryz.szdef3 ?_)
    refine (iaskfm_any xs C num [] _ _ (.defn wMain [] [(v : Int)]) _ _ IW ⟨_, _, rfl, Tx, Ty⟩ hvs).mono ?_
    rintro r W2 ⟨hO, hb2⟩
    have IW2 := IW.on hb2
    have FW2 := FW.trans (IF.of_below hb2 (Nat.le_of_lt IW.lt))
    have Tx2 := Tx.below hb2
    have Ty2 := Ty.below hb2
    have hbx2 := (hb2.block _ (Array.getElem?_eq_some_iff.1 hbx).1).trans hbx
    rcases hO.symm with ⟨ht, rfl⟩ | ⟨ht, rfl⟩
    · have HS : Hid (ctop xs v s = { s with how := 1 }) := by unfold Hid; rw [HC.out]; unfold topR; rw [if_neg (by rw [ht]; simp)]
      go_wp2_with fail
      exact ⟨rfl, by rw [HS.out]; exact Or.inr ⟨by simp, rfl⟩, FW2⟩
    have HS : Hid (ctop xs v s = (if namesHow xs [] = 0 then cdefine (cexp xs xs.length) wMain (nameL xs []) [(v : Int)] s else { s with how := namesHow xs [] })) := by unfold Hid; rw [HC.out]; unfold topR; rw [if_pos ht]
    simp only [tellB, fnB, Bool.and_eq_true, decide_eq_true_eq] at ht
    obtain ⟨_, _, _, hv4, hva⟩ := ht
    clear HC hbx Tx Ty IW FW hb2
    go_wp2_with (refine wpList_load_row rfl 114 _ rfl w1.heap.size rfl 114 #[.string wMain, .slice none 0 0, .slice (some ⟨w1.heap.size + 1, 0, none⟩) 1 1] (0, 0) _ hbx2 Tryz.underlying114 rfl Tryz.szdef3 ?_)
    refine (icdefine_any xs C num _ (cexp_stay xs _) wMain [] [(v : Int)] _ _ s _ IW2 h0 hl hSm hdl Tx2 hvs hv4 hva Ty2 hE).mono ?_
    rintro r W3 ⟨hO, F3⟩
    rw [← HS.out] at hO
    rcases hO.symm with ⟨hn, rfl⟩ | ⟨q1, l1, rfl, I3⟩
    · go_wp2_with fail
      exact ⟨rfl, Out.bad hn rfl, FW2.trans F3⟩
    go_wp2_with fail
    exact bodyPost_end (results_nil0 rfl _ _) rfl ⟨Or.inl ⟨q1, l1, rfl, I3⟩, FW2.trans F3⟩
end Go.Proofs.YtkchakcebdenjaaGreat
/-
  The contract of impl.Compile's deferred closure. No condition beyond the boxes that are said.
-/
namespace Go.Proofs.YtkchakcebdenjaaGreat
open Go.RowKit
theorem Tryz.mistakeZ : (Tryz.prog.info? 66).map (fun i => (i.zero, i.size, i.bytes)) = some (some (.agg #[.int .i64 0, .int .i64 0]), 2, 16) := by kernel_rfl
theorem tac_nil (xT : TypeId) (w : World) : (Instr.typeAssert .nilIface xT 66 true).run Tryz.prog w = .ok (.tuple #[.agg #[.int .i64 0, .int .i64 0], .bool false]) w := by
  obtain ⟨i0, hi, hz0, hz1, hz2⟩ := info_parts Tryz.mistakeZ
  simp [Instr.typeAssert, run_underlying Tryz.underlying66, zeroValue, typeInfo, go_sem, Result.andThen, hi, hz0]
theorem tac_ok (xT : TypeId) (v : Value) (w : World) : (Instr.typeAssert (.iface 66 v) xT 66 true).run Tryz.prog w = .ok (.tuple #[v, .bool true]) w := by
  simp [Instr.typeAssert, run_underlying Tryz.underlying66, go_sem, Result.andThen]
structure CBox (q : Nat) (w : World) (v a b c h p : Value) : Prop where
  arg : w.heap[q]? = some (.cells #[v] 29 (0, 0))
  code : w.heap[q + 1]? = some (.cells #[a, b, c] 33 (0, 0))
  how : w.heap[q + 1 + 1]? = some (.cells #[h] 3 (0, 0))
  place : w.heap[q + 1 + 1 + 1]? = some (.cells #[p] 3 (0, 0))
theorem CBox.lt {q : Nat} {w : World} {v a b c h p : Value} (X : CBox q w v a b c h p) : q + 1 + 1 + 1 < w.heap.size := (Array.getElem?_eq_some_iff.1 X.place).1
theorem CBox.on {q : Nat} {w w' : World} {v a b c h p : Value} (X : CBox q w v a b c h p) (hb : Below (q + 4) w w') : CBox q w' v a b c h p :=
  ⟨(hb.block _ (by omega)).trans X.arg, (hb.block _ (by omega)).trans X.code, (hb.block _ (by omega)).trans X.how, (hb.block _ (by omega)).trans X.place⟩
theorem setb (u : World) (i o j : Nat) (z : Value) (h : j ≠ i) : (u.setCell ⟨i, o, none⟩ z).heap[j]? = u.heap[j]? := heap_setCell_other u ⟨i, o, none⟩ j z h
theorem CBox.code3 {q : Nat} {w : World} {v a b c h p : Value} (X : CBox q w v a b c h p) (a' b' c' : Value) : CBox q (((w.setCell ⟨q + 1, 0, none⟩ a').setCell ⟨q + 1, 1, none⟩ b').setCell ⟨q + 1, 2, none⟩ c') v a' b' c' h p := by
  refine ⟨?_, ?_, ?_, ?_⟩
  · rw [setb _ _ _ _ _ (by omega), setb _ _ _ _ _ (by omega), setb _ _ _ _ _ (by omega)]; exact X.arg
  · have h0 := heap_setCell_same w (q + 1) 0 _ _ a' X.code
    have h1 := heap_setCell_same _ (q + 1) 1 _ _ b' h0
    exact heap_setCell_same _ (q + 1) 2 _ _ c' h1
  · rw [setb _ _ _ _ _ (by omega), setb _ _ _ _ _ (by omega), setb _ _ _ _ _ (by omega)]; exact X.how
  · rw [setb _ _ _ _ _ (by omega), setb _ _ _ _ _ (by omega), setb _ _ _ _ _ (by omega)]; exact X.place
theorem CBox.set2 {q : Nat} {w : World} {v a b c h p : Value} (X : CBox q w v a b c h p) (z : Value) : CBox q (w.setCell ⟨q + 1 + 1, 0, none⟩ z) v a b c z p :=
  ⟨(setb w _ _ _ z (by omega)).trans X.arg, (setb w _ _ _ z (by omega)).trans X.code, heap_setCell_same w (q + 1 + 1) 0 _ _ z X.how, (setb w _ _ _ z (by omega)).trans X.place⟩
theorem CBox.set3 {q : Nat} {w : World} {v a b c h p : Value} (X : CBox q w v a b c h p) (z : Value) : CBox q (w.setCell ⟨q + 1 + 1 + 1, 0, none⟩ z) v a b c h z :=
  ⟨(setb w _ _ _ z (by omega)).trans X.arg, (setb w _ _ _ z (by omega)).trans X.code, (setb w _ _ _ z (by omega)).trans X.how, heap_setCell_same w (q + 1 + 1 + 1) 0 _ _ z X.place⟩
theorem CBox.cells {q : Nat} {w : World} {v a b c h p : Value} (X : CBox q w v a b c h p) : w.cell? ⟨q, 0, none⟩ = some v ∧ w.cell? ⟨q + 1, 0, none⟩ = some a ∧ w.cell? ⟨q + 1, 1, none⟩ = some b ∧ w.cell? ⟨q + 1, 2, none⟩ = some c ∧ w.cell? ⟨q + 1 + 1, 0, none⟩ = some h ∧ w.cell? ⟨q + 1 + 1 + 1, 0, none⟩ = some p ∧
    w.frozen? ⟨q + 1, 0, none⟩ = false ∧ w.frozen? ⟨q + 1, 1, none⟩ = false ∧ w.frozen? ⟨q + 1, 2, none⟩ = false ∧ w.frozen? ⟨q + 1 + 1, 0, none⟩ = false ∧ w.frozen? ⟨q + 1 + 1 + 1, 0, none⟩ = false := by
  refine ⟨?_, cell_of_row w _ 0 _ _ _ X.code, cell_of_row w _ 1 _ _ _ X.code, cell_of_row w _ 2 _ _ _ X.code, ?_, ?_, frozen_of_row w _ 0 _ _ X.code, frozen_of_row w _ 1 _ _ X.code, frozen_of_row w _ 2 _ _ X.code, frozen_of_row w _ 0 _ _ X.how, frozen_of_row w _ 0 _ _ X.place⟩
  · rw [cell_of_row w _ 0 _ _ _ X.arg]; rfl
  · rw [cell_of_row w _ 0 _ _ _ X.how]; rfl
  · rw [cell_of_row w _ 0 _ _ _ X.place]; rfl
theorem catchc_idle (p0 p1 p2 : Addr) (w : World) :
    CallsD Tryz.prog 30 #[.pointer (some p0), .pointer (some p1), .pointer (some p2)] .returning w fun e u' w' => e = .returned (.tuple #[]) ∧ u' = .returning ∧ Below w.heap.size w w' := by
  refine callsD_of_wpS Tryz.func30 rfl fun c₀ cs hu => ?_
  apply wpS_seq
  apply wpS_region
  simp [wpOpsS, go_sem, recoverD, hu, Tryz.ntmps30, Exit.thenS, tac_nil, Array.replicate]
  refine wpS_of_wp ?_
  go_wp2_with fail
  cases c₀
  simp_all [bodyPostS, results, Tryz.results30]
  exact (Below.refl _ _).alloc (Nat.le_refl _) _
set_option maxHeartbeats 12800000 in
theorem catchc_panicking (q : Nat) (v a b c d f : Value) (h p : Int) (older : List PanicEntry) (w : World) (X : CBox q w v a b c d f) :
    CallsD Tryz.prog 30 #[.pointer (some ⟨q + 1, 0, none⟩), .pointer (some ⟨q + 1 + 1, 0, none⟩), .pointer (some ⟨q + 1 + 1 + 1, 0, none⟩)] (.panicking ({ v := .iface 66 (.agg #[.int .i64 h, .int .i64 p]), recovered := false } :: older)) w fun e u' w' => e = .returned (.tuple #[]) ∧ u' = .panicking ({ v := .iface 66 (.agg #[.int .i64 h, .int .i64 p]), recovered := true } :: older) ∧
      CBox q w' v (.slice none 0 0) (.slice none 0 0) (.slice none 0 0) (.int .i64 h) (.int .i64 p) ∧ Below q w w' := by
  refine callsD_of_wpS Tryz.func30 rfl fun c₀ cs hu => ?_
  apply wpS_seq
  apply wpS_region
  simp [wpOpsS, go_sem, recoverD, hu, Tryz.ntmps30, Exit.thenS, tac_ok, Array.replicate]
  refine wpS_of_wp ?_
  have hq := X.lt
  have hb1 : Below w.heap.size w (w.alloc (Obj.cells #[.int .i64 h, .int .i64 p] 66)) := (Below.refl _ _).alloc (Nat.le_refl _) _
  have hm1 : (w.alloc (Obj.cells #[.int .i64 h, .int .i64 p] 66)).heap[w.heap.size]? = some (.cells #[.int .i64 h, .int .i64 p] 66 (0, 0)) := heap_alloc_new _ _
  obtain ⟨k, hk⟩ : ∃ k, Hid (w.heap.size = k) := ⟨_, rfl⟩
  rw [hk.out] at hm1
  have hqk : q + 3 < k := by have := hk.out; omega
  go_wp2_with fail
  rw [hk.out]
  generalize w.alloc (Obj.cells #[.int .i64 h, .int .i64 p] 66) = w1 at hb1 hm1 ⊢
  have X1 := X.on (hb1.mono (by omega))
  obtain ⟨c0, c1, c2, c3, c4, c5, r1, r2, r3, r4, r5⟩ := X1.cells
  have m0 : w1.cell? ⟨k, 0, none⟩ = some (.int .i64 h) := by rw [cell_of_row w1 _ 0 _ _ _ hm1]; rfl
  have m1 : w1.cell? ⟨k, 1, none⟩ = some (.int .i64 p) := by rw [cell_of_row w1 _ 1 _ _ _ hm1]; rfl
  have hkl : k < w1.heap.size := (Array.getElem?_eq_some_iff.1 hm1).1
  have hX := ((X1.code3 (.slice none 0 0) (.slice none 0 0) (.slice none 0 0)).set2 (.int .i64 h)).set3 (.int .i64 p)
  try rw [show q + 1 + 1 = q + 2 from rfl] at *
  try rw [show q + 2 + 1 = q + 3 from rfl] at *
  have j3 : ¬ q + 1 = k := by omega
  have j4 : ¬ k = q + 1 := by omega
  have j5 : ¬ q + 2 = k := by omega
  have j6 : ¬ k = q + 2 := by omega
  have j7 : ¬ q + 3 = k := by omega
  have j8 : ¬ k = q + 3 := by omega
  go_region
  refine ⟨rfl, .panicking ({ v := .iface 66 (.agg #[.int .i64 h, .int .i64 p]), recovered := true } :: older), rfl, .tuple #[], results_nil0 rfl _ _, rfl, rfl, ?_⟩
  exact ⟨⟨hX.arg, hX.code, hX.how, hX.place⟩, ((((((hb1.mono (by omega)).setCell (p := ⟨q + 1, 0, none⟩) (by simp) _).setCell (p := ⟨q + 1, 1, none⟩) (by simp) _).setCell (p := ⟨q + 1, 2, none⟩) (by simp) _).setCell (p := ⟨q + 2, 0, none⟩) (by simp) _).setCell (p := ⟨q + 3, 0, none⟩) (by simp) _).drew⟩
end Go.Proofs.YtkchakcebdenjaaGreat
