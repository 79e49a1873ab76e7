/-
  Texts that stood by themselves, laid into one.
-/
import Derived.Test.YtjnhocefnfmhmaaGreatDoorEasM
import Derived.Test.YtjnhocefnfmhmaaGreatDoorSbM
import Derived.Test.YtjnhocefnfmhmaaGreatDoorBoolsM
/-
  errors.As at an error that is an impl.badBytes: true; and the contract of impl.isBadBytes. The variable errors.errorType reads as it is laid.
-/
namespace Go.Proofs.YtjnhocefnfmhmaaGreatDoor
open Go.RowKit Go.Extern.Stop Go.Stop Go.Extern

/-- The one cell of errors.errorType. -/
def ErrT (w : World) : Prop := w.cell? ⟨0, 0, none⟩ = some (.iface 231 (.agg #[.pointer (some ⟨1, 139, none⟩)]))
theorem ErrT.below {w w' : World} {B : Nat} (h : ErrT w) (hb : Below B w w') (hB : w.heap.size ≤ B) : ErrT w' := by
  have hl := World.block_lt_of_cell? _ _ h
  unfold ErrT
  rw [hb.cell (p := ⟨0, 0, none⟩) (Nat.lt_of_lt_of_le hl hB)]
  exact h

set_option maxRecDepth 100000 in
theorem Tryz.asSet (tb b : Nat) (p q : Int) (W : World) (hb : W.heap[b]? = some (.cells #[.int .i64 p] 173 (0, 0))) (ht : W.heap[tb]? = some (.cells #[.int .i64 q] 173 (0, 0))) :
    (ReflectliteValue.set #[.agg #[.pointer (some ⟨1, 173, none⟩), .pointer (some ⟨tb, 0, none⟩), .int .u64 409], .agg #[.pointer (some ⟨1, 173, none⟩), .pointer (some ⟨b, 0, none⟩), .int .u64 153]]).run Tryz.prog W
      = .ok (.tuple #[]) (W.setCell ⟨tb, 0, none⟩ (.int .i64 p)) := by
  have c0 : W.cell? ⟨b, 0, none⟩ = some (.int .i64 p) := cell_of_row _ _ 0 _ _ _ hb
  have c1 : W.cell? ⟨tb, 0, none⟩ = some (.int .i64 q) := cell_of_row _ _ 0 _ _ _ ht
  have f1 : W.frozen? ⟨tb, 0, none⟩ = false := frozen_of_row _ _ 0 _ _ ht
  show (ReflectliteValue.parts _ >>= _).run Tryz.prog W = _
  simp only [Sem.run_bind, Array.getLit, List.getElem_toArray, List.getElem_cons_zero, List.getElem_cons_succ, Tryz.asPartsA, Tryz.asPartsT, Result.andThen]
  simp [ReflectliteValue.flagAddr, loadVar, isAgg, underlying, Tryz.underlying173, Result.andThen, Tryz.asDirect, storeVar, Value.cells, storeCells, Addr.add]
  have hl : (loadCells ⟨b, 0, none⟩ 1).run Tryz.prog W = .ok #[.int .i64 p] W := run_loadCells_list (P := Tryz.prog) W ⟨b, 0, none⟩ [.int .i64 p] (fun j v hj => by
    cases j with
    | zero => cases hj; exact c0
    | succ j => simp at hj)
  rw [hl]
  simp [storeCells, Addr.add]
  rw [run_store Tryz.prog W ⟨tb, 0, none⟩ _ _ (by rfl)]
  simp [c1, f1]

set_option maxRecDepth 100000 in
set_option maxHeartbeats 4000000 in
theorem as_hit (p q : Int) (t : Nat) (w : World) (hg : ErrT w) (ht : w.heap[t]? = some (.cells #[.int .i64 q] 173 (0, 0))) :
    Calls Tryz.prog 148 #[.iface 173 (.agg #[.int .i64 p]), .iface 195 (.pointer (some ⟨t, 0, none⟩))] w fun ev w' => ev = .returned (.bool true) ∧ w.grownBy w' (some t) := by
  have h6 := @run_callFunc_extern Tryz.prog 162 _ (fun args => ReflectliteValue.unpack (args.getD 0 (.tuple #[]))) Tryz.func162 (by kernel_rfl) (by kernel_rfl) (by kernel_rfl) (by kernel_rfl)
  have h7 := @run_callFunc_extern Tryz.prog 163 _ (ReflectliteValue.methodAny (ReflectliteValue.valueError "reflectlite.Value.Type" 0) (fun t _ _ _ => ReflectliteType.toType t)) Tryz.func163 (by kernel_rfl) (by kernel_rfl) (by kernel_rfl) (by kernel_rfl)
  have h8 := @run_callFunc_extern Tryz.prog 164 _ (ReflectliteValue.method (ReflectliteValue.valueError "reflectlite.Value.IsNil" 0) ReflectliteValue.isNil) Tryz.func164 (by kernel_rfl) (by kernel_rfl) (by kernel_rfl) (by kernel_rfl)
  have h27 := @run_callFunc_extern Tryz.prog 194 _ (ReflectliteType.abiMethod fun t => do pure (.int .u8 (← Rtype.kind t))) Tryz.func194 (by kernel_rfl) (by kernel_rfl) (by kernel_rfl) (by kernel_rfl)
  have h37 := @run_callFunc_extern Tryz.prog 206 _ (ReflectliteType.method ReflectliteType.elem) Tryz.func206 (by kernel_rfl) (by kernel_rfl) (by kernel_rfl) (by kernel_rfl)
  have h38 := @run_callFunc_extern Tryz.prog 207 _ (ReflectliteType.relation "Implements" ReflectliteType.implements_) Tryz.func207 (by kernel_rfl) (by kernel_rfl) (by kernel_rfl) (by kernel_rfl)
  have h10 := @run_callFunc_extern Tryz.prog 177 _ ReflectliteType.typeOf Tryz.func177 (by kernel_rfl) (by kernel_rfl) (by kernel_rfl) (by kernel_rfl)
  have h35 := @run_callFunc_extern Tryz.prog 204 _ (ReflectliteType.relation "AssignableTo" ReflectliteType.assignableTo) Tryz.func204 (by kernel_rfl) (by kernel_rfl) (by kernel_rfl) (by kernel_rfl)
  have h11 := @run_callFunc_extern Tryz.prog 178 _ (ReflectliteValue.method (ReflectliteValue.valueError "reflectlite.Value.Elem" 0) ReflectliteValue.elem) Tryz.func178 (by kernel_rfl) (by kernel_rfl) (by kernel_rfl) (by kernel_rfl)
  have h12 := @run_callFunc_extern Tryz.prog 179 _ ReflectliteValue.set Tryz.func179 (by kernel_rfl) (by kernel_rfl) (by kernel_rfl) (by kernel_rfl)
  have tO := Tryz.asTypeOfT
  have mA := Tryz.asMethodAssignableTo
  have a25 := Tryz.asAssignableT
  have v25 := Tryz.asValueOfT
  have f6 := Tryz.asValueOfP
  have f7 := Tryz.asTypeP
  have mK := Tryz.asMethodKind
  have mE := Tryz.asMethodElem
  have mI := Tryz.asMethodImplements
  have k27 := Tryz.asKindP
  have k25 := Tryz.asKindT
  have e27 := Tryz.asElemP
  have i25 := Tryz.asImplementsT
  obtain ⟨t', ht'⟩ : ∃ t' : Addr, t' = ⟨t, 0, none⟩ := ⟨_, rfl⟩
  have n8 := Tryz.asIsNilP ⟨w.heap.size, 0, none⟩ ⟨t, 0, none⟩ ((w.alloc (.cells #[.pointer (some ⟨t, 0, none⟩)] 195)).alloc (.cells #[.pointer (some ⟨1, 195, none⟩), .pointer (some ⟨w.heap.size, 0, none⟩), .int .u64 150] 218)) (by simp)
  have hlt : 0 < w.heap.size := World.block_lt_of_cell? _ _ hg
  have hg2 : ((w.alloc (.cells #[.pointer (some ⟨t, 0, none⟩)] 195)).alloc (.cells #[.pointer (some ⟨1, 195, none⟩), .pointer (some ⟨w.heap.size, 0, none⟩), .int .u64 150] 218)).cell? ⟨0, 0, none⟩ = some (.iface 231 (.agg #[.pointer (some ⟨1, 139, none⟩)])) := by
    rw [World.cell?_alloc_lt _ _ ⟨0, 0, none⟩ (by simp <;> omega), World.cell?_alloc_lt _ _ ⟨0, 0, none⟩ hlt]; exact hg
  have htl : t < w.heap.size := (Array.getElem?_eq_some_iff.1 ht).1
  have el := Tryz.asElemV ⟨w.heap.size, 0, none⟩ ⟨t, 0, none⟩ (((w.alloc (.cells #[.pointer (some ⟨t, 0, none⟩)] 195)).alloc (.cells #[.pointer (some ⟨1, 195, none⟩), .pointer (some ⟨w.heap.size, 0, none⟩), .int .u64 150] 218)).alloc (.cells #[.pointer (some ⟨1, 195, none⟩), .pointer (some ⟨w.heap.size, 0, none⟩), .int .u64 150] 218)) (by rw [World.cell?_alloc_lt _ _ ⟨w.heap.size, 0, none⟩ (by simp <;> omega)]; simp)
  have st := Tryz.asSet t (w.heap.size + 1 + 1 + 1) p q ((((w.alloc (.cells #[.pointer (some ⟨t, 0, none⟩)] 195)).alloc (.cells #[.pointer (some ⟨1, 195, none⟩), .pointer (some ⟨w.heap.size, 0, none⟩), .int .u64 150] 218)).alloc (.cells #[.pointer (some ⟨1, 195, none⟩), .pointer (some ⟨w.heap.size, 0, none⟩), .int .u64 150] 218)).alloc (.cells #[.int .i64 p] 173))
    (by have := heap_alloc_new (((w.alloc (.cells #[.pointer (some ⟨t, 0, none⟩)] 195)).alloc (.cells #[.pointer (some ⟨1, 195, none⟩), .pointer (some ⟨w.heap.size, 0, none⟩), .int .u64 150] 218)).alloc (.cells #[.pointer (some ⟨1, 195, none⟩), .pointer (some ⟨w.heap.size, 0, none⟩), .int .u64 150] 218)) (.cells #[.int .i64 p] 173); simpa using this)
    (by rw [heap_alloc_old _ _ (by simp <;> omega), heap_alloc_old _ _ (by simp <;> omega), heap_alloc_old _ _ (by simp <;> omega), heap_alloc_old _ _ htl]; exact ht)
  have hG : w.grownBy (((((w.alloc (.cells #[.pointer (some ⟨t, 0, none⟩)] 195)).alloc (.cells #[.pointer (some ⟨1, 195, none⟩), .pointer (some ⟨w.heap.size, 0, none⟩), .int .u64 150] 218)).alloc (.cells #[.pointer (some ⟨1, 195, none⟩), .pointer (some ⟨w.heap.size, 0, none⟩), .int .u64 150] 218)).alloc (.cells #[.int .i64 p] 173)).setCell ⟨t, 0, none⟩ (.int .i64 p)) (some t) :=
    grown_trans (grown_trans (grown_trans (grown_trans (World.grownBy_alloc w _ _) (World.grownBy_alloc _ _ _)) (World.grownBy_alloc _ _ _)) (World.grownBy_alloc _ _ _)) (grown_set _ t 0 _)
  clear ht' t' hlt htl ht hg
  go_enter Tryz.func148, Tryz.ntmps148
  go_wp2
  refine wp_loop_rounds 1 ?_
  rw [rounds_succ]
  go_wp2
  go_ret
  exact ⟨rfl, hG⟩
set_option maxHeartbeats 800000 in
theorem isbad_nil (w : World) : Calls Tryz.prog 113 #[.nilIface] w fun e w' => e = .returned (.bool false) ∧ Below w.heap.size w w' := by
  go_enter Tryz.func113, Tryz.ntmps113
  go_wp2_with fail
  refine (as_nil _ _).mono ?_
  rintro e w1 ⟨rfl, rfl⟩
  go_wp2
  go_ret
  exact ⟨rfl, (Below.refl _ _).alloc (Nat.le_refl _) _⟩
set_option maxHeartbeats 800000 in
theorem isbad_bad (p : Int) (w : World) (hg : ErrT w) : Calls Tryz.prog 113 #[.iface 173 (.agg #[.int .i64 p])] w fun e w' => e = .returned (.bool true) ∧ Below w.heap.size w w' := by
  go_enter Tryz.func113, Tryz.ntmps113
  go_wp2_with fail
  have hB : Below w.heap.size w (w.alloc (Obj.cells #[.int .i64 0] 173)) := (Below.refl _ _).alloc (Nat.le_refl _) _
  refine (as_hit p 0 w.heap.size _ (hg.below hB (Nat.le_refl _)) (heap_alloc_new _ _)).mono ?_
  rintro e w1 ⟨rfl, hgr⟩
  go_wp2
  go_ret
  exact ⟨rfl, hB.grown hgr hB.size (fun k hk => by simp at hk; omega)⟩
end Go.Proofs.YtjnhocefnfmhmaaGreatDoor

/-
  Contracts of impl.readerOf, (impl.reader).value and impl.ValueRead: a value is read from its bytes, or nothing. The variable errors.errorType reads as it is laid.
-/
namespace Go.Proofs.YtjnhocefnfmhmaaGreatDoor
open Go.RowKit

theorem wpList_bytes8 {P : Program} (w : World) {ops : Array Oper} {rest : List Oper} {o : Oper} {a : Act} {Q : Exit → Act → World → Prop} (hg : o.guard = none) (x : Operand) (src dst e : TypeId) (ho : o.op = .convert src dst x)
    (hs : P.underlying src = some .string) (hd : P.underlying dst = some (.slice e)) (he : P.underlying e = some (.int .u8)) (s : ByteArray) (hx : a.eval x = .string s)
    (h : ∀ cap w', s.size ≤ cap → (∀ j u, (bv (sb s))[j]? = some u → w'.cell? ((⟨w.heap.size, 0, none⟩ : Addr).add j) = some u) → w.grownBy w' none → w.heap.size < w'.heap.size → wpList P ops Q rest (a.put o.dst (.slice (some ⟨w.heap.size, 0, none⟩) s.size cap)) w') :
    wpList P ops Q (o :: rest) a w := by
  refine wpList_plain hg fun K hK => ?_
  obtain ⟨cap, w', hrun, h0, h1, h2, h3⟩ : ∃ cap w', (convert src dst (.string s)).run P w = .ok (.slice (some ⟨w.heap.size, 0, none⟩) s.size cap) w' ∧ s.size ≤ cap ∧
      (∀ j u, (bv (sb s))[j]? = some u → w'.cell? ((⟨w.heap.size, 0, none⟩ : Addr).add j) = some u) ∧ w.grownBy w' none ∧ w.heap.size < w'.heap.size := by
    refine ⟨_, _, run_bytes_of_string w src dst e s hs hd he, ?_, ?_, ?_, ?_⟩
    · exact grownCap_ge _ _ _ _
    · intro j u hu
      rw [Addr.add_lit, Nat.zero_add, cell_of_row _ w.heap.size j _ e _ (heap_alloc_new w.drew _)]
      exact bytesRow_get s _ j u hu
    · have hga := World.grownBy_alloc w.drew (Obj.cells (bytesRow s (grownCap w s.size 0 e)) e ((bytesRow s (grownCap w s.size 0 e)).size, (bytesRow s (grownCap w s.size 0 e)).size + 1)) none
      exact ⟨hga.os, hga.tape, hga.output, hga.size, hga.block⟩
    · show w.heap.size < (w.heap.push _).size
      simp
  unfold Oper.wp
  simp [execOp, ho, hx, hrun, Result.andThen]
  exact hK _ _ (h cap w' h0 h1 h2 h3)
theorem Tryz.sizeRd : (Tryz.prog.info? 91).map (·.size) = some 2 := by kernel_rfl
/-- The bytes of a text that were laid are a row. -/
theorem row_of_bytes {w w' : World} {s : ByteArray} {cap : Nat} (hs : s.size ≤ 140737488351232) (h0 : s.size ≤ cap) (h1 : ∀ j u, (bv (sb s))[j]? = some u → w'.cell? ((⟨w.heap.size, 0, none⟩ : Addr).add j) = some u) (h3 : w.heap.size < w'.heap.size) : Row w' (.slice (some ⟨w.heap.size, 0, none⟩) s.size cap) (sb s) := by
  refine ⟨some ⟨w.heap.size, 0, none⟩, cap, by rw [sb_length], by rw [sb_length]; exact h0, by rw [sb_length]; exact hs, sb_wf s, fun _ => ⟨w.heap.size, 0, rfl, h3, fun i hi => ?_⟩⟩
  have := h1 i (.int .u8 ((sb s).getD i 0)) (by rw [bv_get (sb s) i hi])
  rwa [Addr.add_lit] at this

set_option maxRecDepth 100000 in
set_option maxHeartbeats 1600000 in
theorem readerof_any (s : ByteArray) (w : World) (hs : s.size ≤ 140737488351232) :
    Calls Tryz.prog 47 #[.string s] w fun e w' => ∃ v W0 P, e = .returned (.agg #[v, .pointer (some ⟨P, 0, none⟩)]) ∧ Row W0 v (sb s) ∧ Below w.heap.size w W0 ∧ Below W0.heap.size W0 w' ∧ W0.heap.size ≤ P ∧ One w' P 0 := by
  go_enter Tryz.func47, Tryz.ntmps47
  go_wp2_with (first
    | (refine wpList_bytes8 _ rfl _ 9 66 5 rfl Tryz.underlying9 Tryz.underlying66 Tryz.underlying5 s rfl ?_; intro cap w2 h0 h1 h2 h3; have x2 := (h2.block w.heap.size (by simp) (by simp)).trans (heap_alloc_new w _); have hbx := (heap_alloc_old w2 (Obj.cells #[Value.int .i64 0] 3) (Array.getElem?_eq_some_iff.1 x2).1).trans x2)
    | (refine wpList_store_row rfl 91 _ _ rfl w.heap.size #[.slice (some ⟨w.heap.size + 1, 0, none⟩) s.size cap, .pointer (some ⟨w2.heap.size, 0, none⟩)] rfl rfl 91 _ hbx Tryz.sizeRd rfl (by simp [Value.oneCell']) ?_))
  have e1 : (w.alloc (Obj.cells #[Value.slice none 0 0, Value.pointer none] 91)).heap.size = w.heap.size + 1 := by simp
  have RR := row_of_bytes (w := w.alloc (Obj.cells #[Value.slice none 0 0, Value.pointer none] 91)) hs h0 h1 h3
  rw [e1] at RR h3
  have hx2 := setRow_heap w2 w.heap.size _ #[.slice (some ⟨w.heap.size + 1, 0, none⟩) s.size cap, .pointer (some ⟨w2.heap.size, 0, none⟩)] _ _ x2
  have hx3 := setRow_heap (w2.alloc (Obj.cells #[Value.int .i64 0] 3)) w.heap.size _ #[.slice (some ⟨w.heap.size + 1, 0, none⟩) s.size cap, .pointer (some ⟨w2.heap.size, 0, none⟩)] _ _ hbx
  have hRow : Row (w2.setRow w.heap.size #[.slice (some ⟨w.heap.size + 1, 0, none⟩) s.size cap, .pointer (some ⟨w2.heap.size, 0, none⟩)]) (.slice (some ⟨w.heap.size + 1, 0, none⟩) s.size cap) (sb s) := by
    obtain ⟨ao, c, q1, q2, q3, q4, q5⟩ := RR
    refine ⟨ao, c, q1, q2, q3, q4, fun hne => ?_⟩
    obtain ⟨g, o, rfl, hg, hc⟩ := q5 hne
    obtain ⟨rfl, rfl⟩ : g = w.heap.size + 1 ∧ o = 0 := by
      simp only [Value.slice.injEq, Option.some.injEq, Addr.mk.injEq] at q1
      exact ⟨q1.1.1.symm, q1.1.2.1.symm⟩
    refine ⟨_, _, rfl, by rw [size_setRow]; exact hg, fun i hi => ?_⟩
    rw [World.cell?_of_block (w := w2) (setRow_other w2 w.heap.size (w.heap.size + 1) _ (by omega))]
    exact hc i hi
  have hBW : Below w.heap.size w (w2.setRow w.heap.size #[.slice (some ⟨w.heap.size + 1, 0, none⟩) s.size cap, .pointer (some ⟨w2.heap.size, 0, none⟩)]) := by
    have hB0 : Below w.heap.size w (w.alloc (Obj.cells #[Value.slice none 0 0, Value.pointer none] 91)) := (Below.refl _ _).alloc (Nat.le_refl _) _
    have hB2 : Below w.heap.size w w2 := hB0.grown h2 hB0.size (fun k hk => by cases hk)
    exact below_setRow hB2 (Nat.le_refl _) _
  have hBF : Below w2.heap.size (w2.setRow w.heap.size #[.slice (some ⟨w.heap.size + 1, 0, none⟩) s.size cap, .pointer (some ⟨w2.heap.size, 0, none⟩)]) ((w2.alloc (Obj.cells #[Value.int .i64 0] 3)).setRow w.heap.size #[.slice (some ⟨w.heap.size + 1, 0, none⟩) s.size cap, .pointer (some ⟨w2.heap.size, 0, none⟩)]) := by
    refine ⟨rfl, rfl, rfl, by simp, fun k hk => ?_⟩
    by_cases hkk : k = w.heap.size
    · subst hkk
      rw [hx2, hx3]
    · rw [setRow_other _ _ _ _ hkk, setRow_other _ _ _ _ hkk]
      exact heap_alloc_old w2 _ hk
  have hOne : One ((w2.alloc (Obj.cells #[Value.int .i64 0] 3)).setRow w.heap.size #[.slice (some ⟨w.heap.size + 1, 0, none⟩) s.size cap, .pointer (some ⟨w2.heap.size, 0, none⟩)]) w2.heap.size 0 := (setRow_other _ _ _ _ (by omega)).trans (heap_alloc_new w2 _)
  clear hbx h1 h2 e1
  go_wp2
  exact bodyPost_ret (results_cell_row rfl _ _ w.heap.size 91 _ (0, 0) _ rfl hx3 Tryz.underlying91 rfl Tryz.sizeRd) rfl ⟨_, _, _, rfl, hRow, hBW, by rw [size_setRow]; exact hBF, by rw [size_setRow]; exact Nat.le_refl _, hOne⟩
end Go.Proofs.YtjnhocefnfmhmaaGreatDoor

/-
  The contract of (impl.reader).value: a value is read from its bytes, or there is a mistake. Bounds of the form alone.
-/
namespace Go.Proofs.YtjnhocefnfmhmaaGreatDoor
open Go.RowKit

theorem Lies.le {zs L : List Int} {a b : Int} (h : Lies zs a L b) (hl : L ≠ []) : b ≤ zs.length := by
  obtain ⟨h1, h2, r, h3⟩ := h
  have := congrArg List.length h3
  have hp := List.length_pos_iff.2 hl
  rw [List.length_drop, List.length_append] at this
  omega
theorem encI_ne {x : Int} (h : 0 ≤ x) : encI x ≠ [] := by
  rw [encI_pos x h]
  intro e
  rcases Int.lt_or_le x 128 with h1 | h1
  · rw [enc_last 8 x h1] at e; cases e
  · rw [enc_more 8 x (by omega)] at e; cases e
theorem rdP_le {zs : List Int} {xs : List Nd} {a b : Int} (hz : ∀ z ∈ zs, 0 ≤ z ∧ z ≤ 255) (h : rdP zs a = some (xs, b)) : b ≤ zs.length ∧ poolB xs = true := by
  unfold rdP at h
  rw [Option.bind_eq_some_iff] at h
  obtain ⟨⟨n, a1⟩, h1, h2⟩ := h
  split at h2
  · cases h2
  rw [Option.bind_eq_some_iff] at h2
  obtain ⟨⟨ys, c⟩, h3, h4⟩ := h2
  split at h4
  · rename_i hp
    cases h4
    obtain ⟨L1, hn⟩ := rd1_lies hz h1
    obtain ⟨L2, hl⟩ := rdNds_lies hz n.toNat a1 _ xs (by have := L1.1; have := L1.2.1; omega) h3
    exact ⟨(L1.append L2).le (by intro e; exact encI_ne hn (List.append_eq_nil_iff.1 e).1), hp⟩
  · cases h4
theorem vr_none {zs : List Int} (h : rdP zs 0 = none) : vrR zs = none := by unfold vrR; rw [h]; rfl
theorem vr_some {zs : List Int} {xs : List Nd} {b : Int} (h : rdP zs 0 = some (xs, b)) : vrR zs = if b = zs.length ∧ xs ≠ [] ∧ allR xs [(xs.length : Int) - 1] = true then some xs else none := by unfold vrR; rw [h]; rfl

/-- What value answers. -/
def VAns (B : Nat) (zs : List Int) (e : Ending) (w' : World) : Prop :=
  (∃ xs vs, vrR zs = some xs ∧ e = .returned (.tuple #[.agg #[vs], .nilIface]) ∧ w'.ownsRow B 153 5 vs xs.length (ncs xs)) ∨ (vrR zs = none ∧ ∃ ao n c p, e = .returned (.tuple #[.agg #[.slice ao n c], badV p]))

set_option maxRecDepth 100000 in
set_option maxHeartbeats 3200000 in
theorem rvalue_any (v : Value) (zs : List Int) (W0 w : World) (P : Nat) (R : Row W0 v zs) (hb : Below W0.heap.size W0 w) (hP : W0.heap.size ≤ P) (h1 : One w P 0) :
    Calls Tryz.prog 122 #[.agg #[v, .pointer (some ⟨P, 0, none⟩)]] w fun e w' => w.grownBy w' (some P) ∧ VAns w.heap.size zs e w' := by
  obtain ⟨ao, cap, rfl, _, hml, hz, _⟩ := id R
  have hbs := hb.size
  have hPl := h1.lt
  obtain ⟨hB2, x0, x1⟩ := two_boxes w (Obj.cells #[Value.slice ao zs.length cap, Value.pointer (some ⟨P, 0, none⟩)] 91) (Obj.cells #[.slice none 0 0] 40)
  go_enter Tryz.func122, Tryz.ntmps122
  go_wp2_with fail
  obtain ⟨W2, hW2⟩ : ∃ W2, (w.alloc (Obj.cells #[Value.slice ao zs.length cap, Value.pointer (some ⟨P, 0, none⟩)] 91)).alloc (Obj.cells #[.slice none 0 0] 40) = W2 := ⟨_, rfl⟩
  rw [hW2] at hB2 x0 x1 ⊢
  have hl1 := (Array.getElem?_eq_some_iff.1 x1).1
  refine (rnodes_any _ zs W0 W2 P 0 R (hb.trans (hB2.mono hbs)) hP (h1.below hB2 hPl)).mono ?_
  rintro e w1 ⟨hgr, hans⟩
  have x0 := (hgr.block _ (by omega) (by simp; omega)).trans x0
  have x1 := (hgr.block _ (by omega) (by simp; omega)).trans x1
  have hG1 : w.grownBy w1 (some P) := grown_trans (grown_below hB2 _) hgr
  have hs1 := hgr.size
  rcases hans with ⟨xs, b, vs, a1, rfl, a3, a4⟩ | ⟨a1, ⟨p, rfl⟩, q, a3⟩
  · obtain ⟨hbl, hp⟩ := rdP_le hz a1
    have hlen := poolB_len hp
    obtain ⟨av, cv, rfl⟩ := own_form a3
    have HV : Hid (vrR zs = if b = zs.length ∧ xs ≠ [] ∧ allR xs [(xs.length : Int) - 1] = true then some xs else none) := vr_some a1
    clear hW2 hgr
    have hs2 : (W2.heap.size : Nat) ≤ w1.heap.size := hs1
    have B1 : Below w1.heap.size w1 (w1.alloc (Obj.cells #[.slice av xs.length cv] 40)) := (Below.refl _ _).alloc (Nat.le_refl _) _
    have y0 := (B1.block _ (by omega)).trans x0
    have y1 := (B1.block _ (by omega)).trans x1
    have r0 : (w1.alloc (Obj.cells #[.slice av xs.length cv] 40)).cell? ⟨w.heap.size + 1, 0, none⟩ = some (.slice none 0 0) := cell_of_row (w1.alloc (Obj.cells #[.slice av xs.length cv] 40)) _ 0 _ _ _ y1
    have rf : (w1.alloc (Obj.cells #[.slice av xs.length cv] 40)).frozen? ⟨w.heap.size + 1, 0, none⟩ = false := frozen_of_row (w1.alloc (Obj.cells #[.slice av xs.length cv] 40)) _ 0 _ _ y1
    have hset : ((w1.alloc (Obj.cells #[.slice av xs.length cv] 40)).setCell ⟨w.heap.size + 1, 0, none⟩ (.slice none 0 0)).heap[w.heap.size + 1]? = some (.cells #[.slice none 0 0] 40 (0, 0)) := heap_setCell_same (w1.alloc (Obj.cells #[.slice av xs.length cv] 40)) (w.heap.size + 1) 0 _ _ (.slice none 0 0) y1
    have hbset : Below (w.heap.size + 1) (w1.alloc (Obj.cells #[.slice av xs.length cv] 40)) ((w1.alloc (Obj.cells #[.slice av xs.length cv] 40)).setCell ⟨w.heap.size + 1, 0, none⟩ (.slice none 0 0)) := (Below.refl _ _).setCell (p := ⟨w.heap.size + 1, 0, none⟩) (Nat.le_refl _) _
    have y4 : (w1.alloc (Obj.cells #[.slice av xs.length cv] 40)).heap[w1.heap.size]? = some (.cells #[.slice av xs.length cv] 40 (0, 0)) := heap_alloc_new _ _
    by_cases hxe : xs = []
    · have HN : Hid (vrR zs = none) := by unfold Hid; rw [HV.out, if_neg]; intro h; exact h.2.1 hxe
      have h0 : (xs.length : Int) - 1 < 0 := by rw [hxe]; simp
      clear hxe
      go_wp2
      exact bodyPost_ret (results_row_tmp rfl _ _ (w.heap.size + 1) 40 _ (0, 0) _ rfl hset Tryz.underlying40 rfl Tryz.sizeP) rfl ⟨grown_then (grown_then hG1 B1 hG1.size) hbset (by omega), Or.inr ⟨HN.out, _, _, _, _, rfl⟩⟩
    · have hpos := List.length_pos_iff.2 hxe
      have h0 : ¬ ((xs.length : Int) - 1 < 0) := by omega
      have BI : Below (w1.alloc (Obj.cells #[.slice av xs.length cv] 40)).heap.size (w1.alloc (Obj.cells #[.slice av xs.length cv] 40)) ((w1.alloc (Obj.cells #[.slice av xs.length cv] 40)).alloc (Obj.cells #[.int .i64 ((xs.length : Int) - 1)] 3)) := (Below.refl _ _).alloc (Nat.le_refl _) _
      have hsA : (w1.alloc (Obj.cells #[.slice av xs.length cv] 40)).heap.size = w1.heap.size + 1 := by simp
      have R3 : NRow w1 (.slice av xs.length cv) xs := NRow.of_own a3 (by omega) (ndok_max (pool_ndok hp))
      have RI : IRow ((w1.alloc (Obj.cells #[.slice av xs.length cv] 40)).alloc (Obj.cells #[.int .i64 ((xs.length : Int) - 1)] 3)) (.slice (some ⟨w1.heap.size + 1, 0, none⟩) 1 1) [(xs.length : Int) - 1] := by
        rw [← hsA]
        exact irow_one (heap_alloc_new _ _)
      have HK := iskept_any _ _ xs [(xs.length : Int) - 1] ((w1.alloc (Obj.cells #[.slice av xs.length cv] 40)).alloc (Obj.cells #[.int .i64 ((xs.length : Int) - 1)] 3)) ((R3.below B1).below BI) RI hp (last_in hxe)
      obtain ⟨kb, hkb⟩ : ∃ kb, Hid (allR xs [(xs.length : Int) - 1] = kb) := ⟨_, rfl⟩
      rw [hkb.out] at HK
      clear RI hsA
      go_wp2_with fail
      refine HK.mono ?_
      rintro e w4 ⟨rfl, hb4⟩
      have B4 : Below (w1.alloc (Obj.cells #[.slice av xs.length cv] 40)).heap.size (w1.alloc (Obj.cells #[.slice av xs.length cv] 40)) w4 := BI.trans (hb4.mono BI.size)
      have B14 : Below w1.heap.size w1 w4 := B1.trans (B4.mono B1.size)
      have z0 := (B14.block _ (by omega)).trans x0
      have z1 := (B14.block _ (by omega)).trans x1
      have z4 := (B4.block _ (Array.getElem?_eq_some_iff.1 y4).1).trans y4
      have zP := a4.below B14 a4.lt
      have zo := own_below a3 B14
      have hG4 : w.grownBy w4 (some P) := grown_then hG1 B14 hG1.size
      have hs4 := B14.size
      clear HK hb4 BI B4 B14 B1 y0 y1 y4 r0 rf hset hbset
      cases kb with
      | false =>
        have HN : Hid (vrR zs = none) := by unfold Hid; rw [HV.out, if_neg]; intro h; rw [hkb.out] at h; exact absurd h.2.2 (by simp)
        have r0 : w4.cell? ⟨w.heap.size + 1, 0, none⟩ = some (.slice none 0 0) := cell_of_row w4 _ 0 _ _ _ z1
        have rf : w4.frozen? ⟨w.heap.size + 1, 0, none⟩ = false := frozen_of_row w4 _ 0 _ _ z1
        have hset : (w4.setCell ⟨w.heap.size + 1, 0, none⟩ (.slice none 0 0)).heap[w.heap.size + 1]? = some (.cells #[.slice none 0 0] 40 (0, 0)) := heap_setCell_same w4 (w.heap.size + 1) 0 _ _ (.slice none 0 0) z1
        have hbset : Below (w.heap.size + 1) w4 (w4.setCell ⟨w.heap.size + 1, 0, none⟩ (.slice none 0 0)) := (Below.refl _ _).setCell (p := ⟨w.heap.size + 1, 0, none⟩) (Nat.le_refl _) _
        go_wp2
        exact bodyPost_ret (results_row_tmp rfl _ _ (w.heap.size + 1) 40 _ (0, 0) _ rfl hset Tryz.underlying40 rfl Tryz.sizeP) rfl ⟨grown_then hG4 hbset (by omega), Or.inr ⟨HN.out, _, _, _, _, rfl⟩⟩
      | true =>
        have HE := rend_any (.slice ao zs.length cap) zs P b w4.drew ⟨ao, cap, rfl⟩ zP
        have q0 : w4.cell? ⟨w.heap.size, 0, none⟩ = some (.slice ao zs.length cap) := cell_of_row w4 _ 0 _ _ _ z0
        have q1 : w4.cell? ⟨w.heap.size, 1, none⟩ = some (.pointer (some ⟨P, 0, none⟩)) := cell_of_row w4 _ 1 _ _ _ z0
        have q4 : w4.cell? ⟨w1.heap.size, 0, none⟩ = some (.slice av xs.length cv) := cell_of_row w4 _ 0 _ _ _ z4
        have r0 : w4.cell? ⟨w.heap.size + 1, 0, none⟩ = some (.slice none 0 0) := cell_of_row w4 _ 0 _ _ _ z1
        have rf : w4.frozen? ⟨w.heap.size + 1, 0, none⟩ = false := frozen_of_row w4 _ 0 _ _ z1
        have SS : ∀ w5 : World, Below w4.heap.size w4 w5 → (w5.heap[w.heap.size + 1]? = some (.cells #[.slice none 0 0] 40 (0, 0))) ∧ (w5.cell? ⟨w1.heap.size, 0, none⟩ = some (.slice av xs.length cv) ∧ w5.cell? ⟨w.heap.size, 0, none⟩ = some (.slice ao zs.length cap) ∧ w5.cell? ⟨w.heap.size, 1, none⟩ = some (.pointer (some ⟨P, 0, none⟩))) := by
          intro w5 hb5
          have l0 := (Array.getElem?_eq_some_iff.1 z0).1
          have l1 := (Array.getElem?_eq_some_iff.1 z1).1
          have l4 := (Array.getElem?_eq_some_iff.1 z4).1
          have p0 := (hb5.block _ l0).trans z0
          have p1 := (hb5.block _ l1).trans z1
          have p4 := (hb5.block _ l4).trans z4
          exact ⟨p1, cell_of_row w5 _ 0 _ _ _ p4, cell_of_row w5 _ 0 _ _ _ p0, cell_of_row w5 _ 1 _ _ _ p0⟩
        have S6 : ∀ w5 : World, (w5.cell? ⟨w1.heap.size, 0, none⟩ = some (.slice av xs.length cv) ∧ w5.cell? ⟨w.heap.size, 0, none⟩ = some (.slice ao zs.length cap) ∧ w5.cell? ⟨w.heap.size, 1, none⟩ = some (.pointer (some ⟨P, 0, none⟩))) → ((w5.setCell ⟨w.heap.size + 1, 0, none⟩ (.slice av xs.length cv)).cell? ⟨w1.heap.size, 0, none⟩ = some (.slice av xs.length cv) ∧ (w5.setCell ⟨w.heap.size + 1, 0, none⟩ (.slice av xs.length cv)).cell? ⟨w.heap.size, 0, none⟩ = some (.slice ao zs.length cap) ∧ (w5.setCell ⟨w.heap.size + 1, 0, none⟩ (.slice av xs.length cv)).cell? ⟨w.heap.size, 1, none⟩ = some (.pointer (some ⟨P, 0, none⟩))) := by
          rintro w5 ⟨a1, a2, a3⟩
          exact ⟨(World.cell?_of_block (heap_setCell_other w5 ⟨w.heap.size + 1, 0, none⟩ _ _ (by show w1.heap.size ≠ w.heap.size + 1; omega))).trans a1, (World.cell?_of_block (heap_setCell_other w5 ⟨w.heap.size + 1, 0, none⟩ _ _ (by show w.heap.size ≠ w.heap.size + 1; omega))).trans a2, (World.cell?_of_block (heap_setCell_other w5 ⟨w.heap.size + 1, 0, none⟩ _ _ (by show w.heap.size ≠ w.heap.size + 1; omega))).trans a3⟩
        have hd4 : Below w4.heap.size w4 w4.drew := (Below.refl _ _).drew
        go_wp2_with fail
        go_region_held (fun w' => w'.cell? ⟨w1.heap.size, 0, none⟩ = some (.slice av xs.length cv) ∧ w'.cell? ⟨w.heap.size, 0, none⟩ = some (.slice ao zs.length cap) ∧ w'.cell? ⟨w.heap.size, 1, none⟩ = some (.pointer (some ⟨P, 0, none⟩))) (first | exact s5 | exact s6 | go_keep) (first
          | (go_at_call 84; refine HE.mono ?_; rintro e w5 ⟨r, rfl, hE, hb5⟩; have s5' := SS w5 (hd4.trans (hb5.mono hd4.size)); have s5 := s5'.2; have r5 : w5.cell? ⟨w.heap.size + 1, 0, none⟩ = some (.slice none 0 0) := cell_of_row w5 _ 0 _ _ _ s5'.1; have rf5 : w5.frozen? ⟨w.heap.size + 1, 0, none⟩ = false := frozen_of_row w5 _ 0 _ _ s5'.1; have s6 := S6 w5 s5))
        all_goals
          have hb45 := hd4.trans (hb5.mono hd4.size)
          have hset : (w5.setCell ⟨w.heap.size + 1, 0, none⟩ (.slice av xs.length cv)).heap[w.heap.size + 1]? = some (.cells #[.slice av xs.length cv] 40 (0, 0)) := heap_setCell_same w5 (w.heap.size + 1) 0 _ _ (.slice av xs.length cv) s5'.1
          have hbset : Below (w.heap.size + 1) w5 (w5.setCell ⟨w.heap.size + 1, 0, none⟩ (.slice av xs.length cv)) := (Below.refl _ _).setCell (p := ⟨w.heap.size + 1, 0, none⟩) (Nat.le_refl _) _
          have hGF : w.grownBy (w5.setCell ⟨w.heap.size + 1, 0, none⟩ (.slice av xs.length cv)) (some P) := grown_then (grown_then hG4 hb45 hG4.size) hbset (by omega)
          have hoF := own_mono (ownsRow_setCell_below (own_below zo hb45) (a := ⟨w.heap.size + 1, 0, none⟩) hl1 (.slice av xs.length cv)) (show w.heap.size ≤ W2.heap.size by omega)
          have HF : Hid ((vrR zs = some xs ∧ r = .nilIface) ∨ (vrR zs = none ∧ ∃ p, r = badV p)) := by
            unfold Hid
            rw [HV.out]
            rcases hE with ⟨e1, e2⟩ | ⟨e1, e2⟩
            · rw [if_neg (fun h => by have := h.1; omega)]; exact Or.inr ⟨rfl, e2⟩
            · rw [if_pos ⟨by omega, hxe, hkb.out⟩]; exact Or.inl ⟨rfl, e2⟩
          clear HE SS S6 s5 s5' s6 hE r5 rf5 q0 q1 q4 r0 rf
          go_wp2
          refine bodyPost_ret (results_row_tmp rfl _ _ (w.heap.size + 1) 40 _ (0, 0) _ rfl hset Tryz.underlying40 rfl Tryz.sizeP) rfl ⟨hGF, ?_⟩
          rcases HF.out with ⟨f1, f2⟩ | ⟨f1, p, f2⟩
          · exact Or.inl ⟨xs, _, f1, by rw [← f2]; rfl, hoF⟩
          · exact Or.inr ⟨f1, _, _, _, p, by rw [← f2]; rfl⟩
  · have HN : Hid (vrR zs = none) := vr_none a1
    have B1 : Below w1.heap.size w1 (w1.alloc (Obj.cells #[.slice none 0 0] 40)) := (Below.refl _ _).alloc (Nat.le_refl _) _
    have y1 := (B1.block _ (by omega)).trans x1
    have r0 : (w1.alloc (Obj.cells #[.slice none 0 0] 40)).cell? ⟨w.heap.size + 1, 0, none⟩ = some (.slice none 0 0) := cell_of_row (w1.alloc (Obj.cells #[.slice none 0 0] 40)) _ 0 _ _ _ y1
    have rf : (w1.alloc (Obj.cells #[.slice none 0 0] 40)).frozen? ⟨w.heap.size + 1, 0, none⟩ = false := frozen_of_row (w1.alloc (Obj.cells #[.slice none 0 0] 40)) _ 0 _ _ y1
    have hset : ((w1.alloc (Obj.cells #[.slice none 0 0] 40)).setCell ⟨w.heap.size + 1, 0, none⟩ (.slice none 0 0)).heap[w.heap.size + 1]? = some (.cells #[.slice none 0 0] 40 (0, 0)) := heap_setCell_same (w1.alloc (Obj.cells #[.slice none 0 0] 40)) (w.heap.size + 1) 0 _ _ (.slice none 0 0) y1
    have hbset : Below (w.heap.size + 1) (w1.alloc (Obj.cells #[.slice none 0 0] 40)) ((w1.alloc (Obj.cells #[.slice none 0 0] 40)).setCell ⟨w.heap.size + 1, 0, none⟩ (.slice none 0 0)) := (Below.refl _ _).setCell (p := ⟨w.heap.size + 1, 0, none⟩) (Nat.le_refl _) _
    unfold badV
    go_wp2
    exact bodyPost_ret (results_row_tmp rfl _ _ (w.heap.size + 1) 40 _ (0, 0) _ rfl hset Tryz.underlying40 rfl Tryz.sizeP) rfl ⟨grown_then (grown_then hG1 B1 hG1.size) hbset (by omega), Or.inr ⟨HN.out, _, _, _, p, rfl⟩⟩
end Go.Proofs.YtjnhocefnfmhmaaGreatDoor
