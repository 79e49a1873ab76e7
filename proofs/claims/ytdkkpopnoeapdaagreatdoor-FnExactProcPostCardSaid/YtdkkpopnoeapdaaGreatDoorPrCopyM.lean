/-
  Texts that stood by themselves, laid into one.
-/
import Derived.Test.YtdkkpopnoeapdaaGreatDoorStore2M
import Derived.Test.YtdkkpopnoeapdaaGreatDoorMkListM
import Derived.Test.YtdkkpopnoeapdaaGreatDoorSubM
import Derived.Test.YtdkkpopnoeapdaaGreatDoorPrToM
import Derived.Test.YtdkkpopnoeapdaaGreatDoorShapeM
import Derived.Test.YtdkkpopnoeapdaaGreatDoorSMakeM
/-
  'append' onto an empty slice that was just made: nothing that was is turned. Nothing of the program; no condition.
-/
namespace Go.Proofs.YtdkkpopnoeapdaaGreatDoor
open Go.RowKit

theorem run_append_empty {P : Program} (w : World) (t ty e : TypeId) (i : TypeInfo) (z : Value) (bytes : Nat) (ht : P.underlying t = some (.slice e)) (hi : P.info? e = some i) (hz : i.zero = some z)
    (hsize : i.size = 1) (hby : i.bytes = bytes) (hzs : z.cells.size = 1) (g : Nat) (hg : w.heap[g]? = some (.cells #[] e (0, 0)))
    (ao : Option Addr) (m c : Nat) (news : List Value) (hl : news.length = m) (hnone : ao = none → m = 0 ∧ c = 0) (hnews : ∀ ad, ao = some ad → ∀ j u, news[j]? = some u → w.cell? (ad.add j) = some u) (h1 : ∀ u ∈ news, u.oneCell' = true)
    (h63 : m ≤ maxLen) (hbytes : m * bytes ≤ 140737488355328) (B : Nat) (hB : B ≤ g) :
    ∃ v' w', (Builtin.append_ #[t, t] ty #[.slice (some ⟨g, 0, none⟩) 0 0, .slice ao m c]).run P w = .ok v' w' ∧ w'.ownsRow B e 1 v' m news ∧ Below w.heap.size w w' ∧ (∀ k, v'.ownBlock = some k → k = g ∨ w.heap.size ≤ k) := by
  have lg := (Array.getElem?_eq_some_iff.1 hg).1
  have ownE : w.ownsRow B e 1 (.slice (some ⟨g, 0, none⟩) 0 0) 0 [] := ⟨by simp, Or.inr ⟨g, 0, #[], rfl, hB, hg, by simp, by simp, by simp, by simp⟩⟩
  cases ao with
  | none =>
    obtain ⟨rfl, rfl⟩ := hnone rfl
    have hn : news = [] := List.eq_nil_of_length_eq_zero hl
    subst hn
    exact ⟨_, _, run_append_owned_none (P := P) w B t ty e i 1 ht hi _ 0 [] ownE, ownE, Below.refl _ _, fun k hk => Or.inl (by simpa [Value.ownBlock] using hk.symm)⟩
  | some ad =>
    by_cases hm : m = 0
    · subst hm
      have hn : news = [] := List.eq_nil_of_length_eq_zero hl
      subst hn
      have hr := run_append_room (P := P) w t ty e i ht hi g 0 0 #[] hg ad 0 c [] (by simp) (by simp) (by simp) (by simp) (by simp)
      refine ⟨_, _, hr, ⟨by simp, Or.inr ⟨g, 0, #[], rfl, hB, ?_, by simp, by simp, by simp, by simp⟩⟩, ⟨rfl, rfl, rfl, by simp [World.setRow], fun k _ => ?_⟩, fun k hk => Or.inl (by simpa [Value.ownBlock] using hk.symm)⟩
      · have := setRow_heap w g #[] #[] e (0, 0) hg
        simpa using this
      · by_cases hk : k = g
        · subst hk
          have := setRow_heap w k #[] #[] e (0, 0) hg
          rw [hg]
          simpa using this
        · exact setRow_other w g k _ hk
    · have hr := run_append_grow (P := P) w t ty e i z ht hi hz ⟨g, 0, none⟩ 0 0 [] (by simp) (by simp) ad m c news (by rw [hsize]; omega) (hnews ad rfl) (by omega) (by unfold maxLen at h63; omega) (growslice_fits (by omega) (by rw [hby]; simpa using hbytes))
      have hge := grownCap_ge w (0 + m) 0 e
      have hge2 : m ≤ grownCap w m 0 e := by simpa using hge
      have hcm := grownCap_le_maxLen w (0 + m) 0 e (by omega)
      refine ⟨_, _, hr, ⟨by omega, Or.inr ⟨w.heap.size, _, _, ?_, by omega, heap_alloc_new w.drew _, by omega, hcm, ?_, ?_⟩⟩, (Below.refl _ _).drew.alloc (Nat.le_refl _) _, fun k hk => Or.inr (by simp [Value.ownBlock] at hk; omega)⟩
      · simp
      · simp only [Array.size_append, List.size_toArray, size_zeroCells, hzs, hl]
        simp
        omega
      · simp [hl]
theorem step_append_empty {P : Program} (w : World) {ops : Array Oper} {o : Oper} {a : Act} {K : Act → World → Prop} {Q : Exit → Act → World → Prop} {E : Prop}
    (hgd : o.guard = none) (s x : Operand) (t : TypeId) (hop : o.op = Op.call { callee := Callee.builtin Builtin.append, args := #[s, x], argTypes := #[t, t] })
    (e : TypeId) (i : TypeInfo) (z : Value) (bytes : Nat) (ht : P.underlying t = some (.slice e)) (hi : P.info? e = some i) (hz : i.zero = some z)
    (hsize : i.size = 1) (hby : i.bytes = bytes) (hzs : z.cells.size = 1) (g : Nat) (hs : a.eval s = .slice (some ⟨g, 0, none⟩) 0 0) (hg : w.heap[g]? = some (.cells #[] e (0, 0)))
    (ao : Option Addr) (m c : Nat) (news : List Value) (hx : a.eval x = .slice ao m c) (hl : news.length = m) (hnone : ao = none → m = 0 ∧ c = 0) (hnews : ∀ ad, ao = some ad → ∀ j u, news[j]? = some u → w.cell? (ad.add j) = some u) (h1 : ∀ u ∈ news, u.oneCell' = true)
    (h63 : m ≤ maxLen) (hbytes : m * bytes ≤ 140737488355328) (B : Nat) (hB : B ≤ g)
    (hK : ∀ v' w', w'.ownsRow B e 1 v' m news → Below w.heap.size w w' → (∀ k, v'.ownBlock = some k → k = g ∨ w.heap.size ≤ k) → K (a.put o.dst v') w') :
    if Region.wanted o (yielded ops a.tmps) = true then Oper.wp P o a w K Q else E := by
  have hw : Region.wanted o (yielded ops a.tmps) = true := by simp [Region.wanted, hgd]
  rw [if_pos hw]
  obtain ⟨v', w', hr, h2, h3, h4⟩ := run_append_empty (P := P) w t o.type e i z bytes ht hi hz hsize hby hzs g hg ao m c news hl hnone hnews h1 h63 hbytes B hB
  unfold Oper.wp execOp
  simp only [hop, resolve, invoke, builtin, Sem.run_bind, Sem.run_pure, Result.andThen_ok, List.map_toArray, List.map_cons, List.map_nil, hs, hx, hr]
  exact hK v' w' h2 h3 h4

set_option maxHeartbeats 800000 in
/-- A copy of a row of texts. -/
theorem cptexts_any (v : Value) (xs : List ByteArray) (w : World) (R : StRow w v xs) (hm : xs.length ≤ 2097152) :
    Calls Tryz.prog 80 #[v] w fun e w' => ∃ v', e = .returned v' ∧ w'.ownsRow w.heap.size 9 1 v' xs.length (stv xs) ∧ Below w.heap.size w w' := by
  obtain ⟨ao, cap, rfl⟩ := R.small
  obtain ⟨i0, hi, hz0, hz1, hz2⟩ := info_parts Tryz.infoStr
  have hB0 : Below w.heap.size w (w.alloc (Obj.cells #[] 9)) := (Below.refl _ _).alloc (Nat.le_refl _) _
  have S1 := R.below hB0
  have own1 := own_none0 w 9 1 w.heap.size (Nat.le_refl _)
  go_enter Tryz.func80, Tryz.ntmps80
  go_wp2_with (at_builtin; refine wpList_append_own_any _ rfl _ _ 31 rfl w.heap.size 9 i0 _ 1 16 Tryz.underlying31 hi hz0 hz1 hz2 rfl (by decide) _ 0 _ rfl own1 ao xs.length cap (stv xs) rfl (by rw [stv_length]; omega) S1.nilcap S1.cells (stv_one xs) (by unfold maxLen; omega) (by omega) (by simp) ?_)
  intro v' w' ho hg
  have hb : Below w.heap.size w w' := hB0.grown hg (by simp) (fun k hk => by simp [Value.ownBlock] at hk; omega)
  go_wp2
  go_ret
  exact ⟨v', rfl, by simpa using ho, hb⟩
end Go.Proofs.YtdkkpopnoeapdaaGreatDoor

/-
  'append' as a step of a region that draws. Nothing of the program; no condition.
-/
namespace Go.Proofs.YtdkkpopnoeapdaaGreatDoor
open Go.RowKit

/-- 'append' onto a row of the call's own, whatever is appended, as a step of a region that draws. -/
theorem step_append_own_any {P : Program} (w : World) {ops : Array Oper} {o : Oper} {a : Act} {K : Act → World → Prop} {Q : Exit → Act → World → Prop} {E : Prop}
    (hg : o.guard = none) (s x : Operand) (t : TypeId) (hop : o.op = Op.call { callee := Callee.builtin Builtin.append, args := #[s, x], argTypes := #[t, t] })
    (base : Nat) (e : TypeId) (i : TypeInfo) (z : Value) (size bytes : Nat) (h1 : P.underlying t = some (.slice e)) (h2 : P.info? e = some i) (h3 : i.zero = some z) (h4 : i.size = size) (h5 : i.bytes = bytes) (h6 : z.cells.size = size) (h7 : 0 < size)
    (v : Value) (k : Nat) (xs : List Value) (hs : a.eval s = v) (hown : w.ownsRow base e size v k xs) (ao : Option Addr) (m c : Nat) (news : List Value) (hx : a.eval x = .slice ao m c) (hn : news.length = m * size)
    (hnone : ao = none → m = 0 ∧ c = 0) (hc : ∀ ad, ao = some ad → ∀ j u, news[j]? = some u → w.cell? (ad.add j) = some u) (h1c : ∀ u ∈ news, u.oneCell' = true) (b1 : k + m ≤ maxLen) (b2 : (k + m) * bytes ≤ 140737488355328) (b3 : base ≤ w.heap.size)
    (hK : ∀ v' w', w'.ownsRow base e size v' (k + m) (xs ++ news) → w.grownBy w' v.ownBlock → K (a.put o.dst v') w') :
    if Region.wanted o (yielded ops a.tmps) = true then Oper.wp P o a w K Q else E := by
  have hw : Region.wanted o (yielded ops a.tmps) = true := by simp [Region.wanted, hg]
  rw [if_pos hw]
  cases ao with
  | some ad => exact wp_append_own w s x t hop base e i z size bytes h1 h2 h3 h4 h5 h6 h7 v k xs hs hown ad m c news hx hn (hc ad rfl) h1c b1 b2 b3 (fun v' w' h1 h2 _ => hK v' w' h1 h2)
  | none =>
    obtain ⟨rfl, rfl⟩ := hnone rfl
    have hnews : news = [] := List.eq_nil_of_length_eq_zero (by simpa using hn)
    subst hnews
    have hrun := run_append_owned_none (P := P) w base t o.type e i size h1 h2 _ k xs hown
    unfold Oper.wp execOp
    simp only [hop, resolve, invoke, builtin, Sem.run_bind, Sem.run_pure, Result.andThen_ok, List.map_toArray, List.map_cons, List.map_nil, hs, hx, hrun]
    exact hK v w (by simpa using hown) (World.grownBy.refl _ _)
end Go.Proofs.YtdkkpopnoeapdaaGreatDoor

/-
  A process in memory of its own: spec.l12Copy, and impl's copied. No condition but bounds.
-/
namespace Go.Proofs.YtdkkpopnoeapdaaGreatDoor
open Go.RowKit

set_option maxRecDepth 100000 in
set_option maxHeartbeats 1600000 in
theorem sl6copy2_any (ao : Option Addr) (cap : Nat) (xs : List Nd) (m : Mc) (w : World) (R : NRow w (.slice ao xs.length cap) xs) (hlen : xs.length ≤ 2097152) :
    Calls Tryz.prog 78 #[.agg #[.slice ao xs.length cap, .int .i64 m.p, .int .i64 m.s, .int .i64 m.e, .int .i64 m.d, .int .i64 m.t, .int .i64 m.q, .int .i64 m.r]] w fun e w' => ∃ a9 q9, e = .returned (.agg #[.slice a9 xs.length q9, .int .i64 m.p, .int .i64 m.s, .int .i64 m.e, .int .i64 m.d, .int .i64 m.t, .int .i64 m.q, .int .i64 m.r]) ∧ w'.ownsRow w.heap.size 119 5 (.slice a9 xs.length q9) xs.length (ncs xs) ∧ Below w.heap.size w w' := by
  obtain ⟨hB0, hx0, hy0⟩ := two_boxes w (Obj.cells #[.slice ao xs.length cap, .int .i64 m.p, .int .i64 m.s, .int .i64 m.e, .int .i64 m.d, .int .i64 m.t, .int .i64 m.q, .int .i64 m.r] 46) (Obj.cells #[.slice none 0 0, .int .i64 0, .int .i64 0, .int .i64 0, .int .i64 0, .int .i64 0, .int .i64 0, .int .i64 0] 46)
  go_enter Tryz.func78, Tryz.ntmps78
  go_wp2_with fail
  have hs0 : ((w.alloc (Obj.cells #[.slice ao xs.length cap, .int .i64 m.p, .int .i64 m.s, .int .i64 m.e, .int .i64 m.d, .int .i64 m.t, .int .i64 m.q, .int .i64 m.r] 46)).alloc (Obj.cells #[.slice none 0 0, .int .i64 0, .int .i64 0, .int .i64 0, .int .i64 0, .int .i64 0, .int .i64 0, .int .i64 0] 46)).heap.size = w.heap.size + 1 + 1 := by simp
  generalize (w.alloc (Obj.cells #[.slice ao xs.length cap, .int .i64 m.p, .int .i64 m.s, .int .i64 m.e, .int .i64 m.d, .int .i64 m.t, .int .i64 m.q, .int .i64 m.r] 46)).alloc (Obj.cells #[.slice none 0 0, .int .i64 0, .int .i64 0, .int .i64 0, .int .i64 0, .int .i64 0, .int .i64 0, .int .i64 0] 46) = W0 at *
  refine (scopy_any _ xs _ (R.below hB0) (by omega)).mono ?_
  rintro e w9 ⟨v9, rfl, ho9, hb9⟩
  obtain ⟨a9, q9, rfl⟩ := own_form ho9
  have hB9 := hB0.trans (hb9.mono hB0.size)
  have hx9 := (hb9.block _ (by omega)).trans hx0
  have hy9 := (hb9.block _ (by omega)).trans hy0
  go_wp2_with (refine wpList_store_at rfl 39 _ _ rfl w.heap.size 0 (.agg #[.slice a9 xs.length q9]) #[.slice a9 xs.length q9] rfl rfl rfl rfl 46 #[.slice ao xs.length cap, .int .i64 m.p, .int .i64 m.s, .int .i64 m.e, .int .i64 m.d, .int .i64 m.t, .int .i64 m.q, .int .i64 m.r] #[.slice a9 xs.length q9, .int .i64 m.p, .int .i64 m.s, .int .i64 m.e, .int .i64 m.d, .int .i64 m.t, .int .i64 m.q, .int .i64 m.r] hx9 (by simp) (by kernel_rfl) rfl ?_)
  intro wA hvA hbA hsA hkA
  have hyA := (hkA _ (by omega)).trans hy9
  go_wp2_with (first
    | (refine wpList_load_row rfl 46 _ rfl w.heap.size rfl 46 #[.slice a9 xs.length q9, .int .i64 m.p, .int .i64 m.s, .int .i64 m.e, .int .i64 m.d, .int .i64 m.t, .int .i64 m.q, .int .i64 m.r] (0, 0) _ hvA Tryz.underlying46 rfl Tryz.sizeMach ?_)
    | (refine wpList_store_own2 rfl 46 _ _ rfl (w.heap.size + 1) #[.slice a9 xs.length q9, .int .i64 m.p, .int .i64 m.s, .int .i64 m.e, .int .i64 m.d, .int .i64 m.t, .int .i64 m.q, .int .i64 m.r] rfl rfl 46 #[.slice none 0 0, .int .i64 0, .int .i64 0, .int .i64 0, .int .i64 0, .int .i64 0, .int .i64 0, .int .i64 0] hyA Tryz.sizeMach rfl (by simp [Value.oneCell']) ?_))
  intro wB hvB hbB hsB hkB
  go_wp2
  refine bodyPost_ret (results_cell_row rfl _ _ (w.heap.size + 1) 46 _ (0, 0) _ rfl hvB Tryz.underlying46 rfl Tryz.sizeMach) rfl ⟨a9, q9, rfl, ?_, (hB9.trans hbA).trans (hbB.mono (by omega))⟩
  exact own_mono (own_keep (own_keep ho9 (by omega) hkA) (by omega) hkB) (by omega)

theorem yields_sub {P : Program} {ops : Array Oper} {S : World → Prop} {op : Oper} {a : Act} (hw : Region.wanted op (yielded ops a.tmps) = true) (ty : TypeId) (x : Operand) (ho : op.op = .load ty x)
    (b o : Nat) (hx : a.eval x = .pointer (some ⟨b, o, none⟩)) (C : Array Value) (t : TypeId) (cs : Array Value) (d : TypeDesc) (hS : ∀ w, S w → w.heap[b]? = some (.cells C t (0, 0))) (hc : C.extract o (o + cs.size) = cs)
    (hu : P.underlying ty = some d) (hd : d.isRow = true) (hi : (P.info? ty).map (·.size) = some cs.size) : YieldsIf P ops S op (.agg cs) a := by
  have h := yieldsIf_load_mid (P := P) (ops := ops) (S := S) (op := op) (a := a) hw ty x ho b o hx cs.toList d (fun w hw' => by
    have hr := World.rangeAt_of_block (hS w hw') o cs.size
    rw [hc] at hr
    exact hr) hu hd (by simpa using hi)
  simpa using h

set_option maxRecDepth 100000 in
set_option maxHeartbeats 6400000 in
theorem s12copy_r1 {t0 t3 t4 t5 t6 t7 t8 t9 t10 t11 t12 t13 t14 t15 t16 : Value} {fs : List Deferred} (b1x b2x : Nat) (ao ab ac : Option Addr) (cap cb cc : Nat) (i : Int) (xs : List Nd) (m : Mc) (bx ox : List ByteArray) (w : World) (Q : Exit → Act → World → Prop)
    (hx : w.heap[b1x]? = some (.cells #[.int .i64 i, .slice ao xs.length cap, .int .i64 m.p, .int .i64 m.s, .int .i64 m.e, .int .i64 m.d, .int .i64 m.t, .int .i64 m.q, .int .i64 m.r, .slice ab bx.length cb, .slice ac ox.length cc] 48 (0, 0))) (hr : w.heap[b2x]? = some (.cells #[.int .i64 0, .slice none 0 0, .int .i64 0, .int .i64 0, .int .i64 0, .int .i64 0, .int .i64 0, .int .i64 0, .int .i64 0, .slice none 0 0, .slice none 0 0] 48 (0, 0))) (h12 : b1x < b2x) (R : NRow w (.slice ao xs.length cap) xs) (Rb : StRow w (.slice ab bx.length cb) bx) (Ro : StRow w (.slice ac ox.length cc) ox) (l4 : xs.length ≤ 2097152) (l5 : bx.length ≤ 2097152) (l6 : ox.length ≤ 2097152)
    (hQ : ∀ u3 u4 u5 u6 u7 u8 u9 u10 u11 u12 u13 u14 u15 u16 (a9 p8 p12 : Option Addr) (q9 r8 r12 : Nat) (W : World), Below b2x w W → W.heap[b2x]? = some (.cells #[.int .i64 i, .slice a9 xs.length q9, .int .i64 m.p, .int .i64 m.s, .int .i64 m.e, .int .i64 m.d, .int .i64 m.t, .int .i64 m.q, .int .i64 m.r, .slice p8 bx.length r8, .slice p12 ox.length r12] 48 (0, 0)) → W.ownsRow w.heap.size 119 5 (.slice a9 xs.length q9) xs.length (ncs xs) → W.ownsRow w.heap.size 9 1 (.slice p8 bx.length r8) bx.length (stv bx) → W.ownsRow w.heap.size 9 1 (.slice p12 ox.length r12) ox.length (stv ox) → (∀ k, (Value.slice p12 ox.length r12).ownBlock = some k → (Value.slice p8 bx.length r8).ownBlock ≠ some k) → Q .normal ⟨#[t0, .pointer (some ⟨b1x, 0, none⟩), .pointer (some ⟨b2x, 0, none⟩), u3, u4, u5, u6, u7, u8, u9, u10, u11, u12, u13, u14, u15, u16], fs⟩ W) :
    (Code.region 1 (List.toArray (({ dst := some 3, op := Op.fieldAddr 48 (Operand.tmp 1) 0, type := 0, pos := "l12_proc.go:24", after := #[], guard := none } : Oper) :: ({ dst := some 4, op := Op.load 3 (Operand.tmp 3), type := 3, pos := "l12_proc.go:24", after := #[{ on := 0, ground := Ground.data }], guard := none } : Oper) :: ({ dst := some 5, op := Op.fieldAddr 48 (Operand.tmp 1) 1, type := 0, pos := "l12_proc.go:24", after := #[], guard := none } : Oper) :: ({ dst := some 6, op := Op.load 46 (Operand.tmp 5), type := 46, pos := "l12_proc.go:24", after := #[{ on := 2, ground := Ground.data }], guard := none } : Oper) :: ({ dst := some 7, op := Op.call { callee := Callee.value (Operand.func 78), args := #[Operand.tmp 6], argTypes := #[46] }, type := 46, pos := "l12_proc.go:24", after := #[{ on := 3, ground := Ground.data }], guard := none } : Oper) :: ({ dst := some 8, op := Op.buildSlice 31 0 #[], type := 31, pos := "l12_proc.go:24", after := #[], guard := none } : Oper) :: ({ dst := some 9, op := Op.fieldAddr 48 (Operand.tmp 1) 2, type := 0, pos := "l12_proc.go:24", after := #[], guard := none } : Oper) :: ({ dst := some 10, op := Op.load 31 (Operand.tmp 9), type := 31, pos := "l12_proc.go:24", after := #[{ on := 6, ground := Ground.data }], guard := none } : Oper) :: ({ dst := some 11, op := Op.call { callee := Callee.builtin Builtin.append, args := #[Operand.tmp 8, Operand.tmp 10], argTypes := #[31, 31] }, type := 31, pos := "l12_proc.go:24", after := #[{ on := 5, ground := Ground.data }, { on := 7, ground := Ground.data }, { on := 4, ground := Ground.chain }], guard := none } : Oper) :: ({ dst := some 12, op := Op.buildSlice 31 0 #[], type := 31, pos := "l12_proc.go:24", after := #[], guard := none } : Oper) :: ({ dst := some 13, op := Op.fieldAddr 48 (Operand.tmp 1) 3, type := 0, pos := "l12_proc.go:24", after := #[], guard := none } : Oper) :: ({ dst := some 14, op := Op.load 31 (Operand.tmp 13), type := 31, pos := "l12_proc.go:24", after := #[{ on := 10, ground := Ground.data }], guard := none } : Oper) :: ({ dst := some 15, op := Op.call { callee := Callee.builtin Builtin.append, args := #[Operand.tmp 12, Operand.tmp 14], argTypes := #[31, 31] }, type := 31, pos := "l12_proc.go:24", after := #[{ on := 9, ground := Ground.data }, { on := 11, ground := Ground.data }, { on := 8, ground := Ground.chain }], guard := none } : Oper) :: ({ dst := some 16, op := Op.build 48 #[(0, Operand.tmp 4), (1, Operand.tmp 7), (2, Operand.tmp 11), (3, Operand.tmp 15)], type := 48, pos := "l12_proc.go:24", after := #[{ on := 1, ground := Ground.data }, { on := 4, ground := Ground.data }, { on := 8, ground := Ground.data }, { on := 12, ground := Ground.data }], guard := none } : Oper) :: ({ dst := none, op := Op.store 48 (Operand.tmp 2) (Operand.tmp 16), type := 0, pos := "l12_proc.go:24", after := #[{ on := 13, ground := Ground.data }, { on := 12, ground := Ground.chain }, { on := 0, ground := Ground.phase }, { on := 1, ground := Ground.phase }, { on := 2, ground := Ground.phase }, { on := 3, ground := Ground.phase }, { on := 4, ground := Ground.phase }, { on := 5, ground := Ground.phase }, { on := 6, ground := Ground.phase }, { on := 7, ground := Ground.phase }, { on := 8, ground := Ground.phase }, { on := 9, ground := Ground.phase }, { on := 10, ground := Ground.phase }, { on := 11, ground := Ground.phase }, { on := 12, ground := Ground.phase }, { on := 13, ground := Ground.phase }], guard := none } : Oper) :: [])) true).wp Tryz.prog Q ⟨#[t0, .pointer (some ⟨b1x, 0, none⟩), .pointer (some ⟨b2x, 0, none⟩), t3, t4, t5, t6, t7, t8, t9, t10, t11, t12, t13, t14, t15, t16], fs⟩ w := by
  obtain ⟨i0, hi, hz0, hz1, hz2⟩ := info_parts Tryz.infoStr
  have hS0 : ∀ w', Below b2x w w' → (w'.heap[b1x]? = some (.cells #[.int .i64 i, .slice ao xs.length cap, .int .i64 m.p, .int .i64 m.s, .int .i64 m.e, .int .i64 m.d, .int .i64 m.t, .int .i64 m.q, .int .i64 m.r, .slice ab bx.length cb, .slice ac ox.length cc] 48 (0, 0))) := fun w' hb => (hb.block _ h12).trans hx
  have hS : ∀ {n : Nat} w', Below n w w' → (b2x ≤ n) → (w'.heap[b1x]? = some (.cells #[.int .i64 i, .slice ao xs.length cap, .int .i64 m.p, .int .i64 m.s, .int .i64 m.e, .int .i64 m.d, .int .i64 m.t, .int .i64 m.q, .int .i64 m.r, .slice ab bx.length cb, .slice ac ox.length cc] 48 (0, 0))) := fun w' hb hn => hS0 w' (hb.mono hn)
  have hle : b2x ≤ w.heap.size := Nat.le_of_lt (blk_lt hr)
  have B : Below w.heap.size w w.drew := drew_bel w
  refine wp_region_noPanic ?_
  refine wp_region_held_drew (S := fun w' => w'.heap[b1x]? = some (.cells #[.int .i64 i, .slice ao xs.length cap, .int .i64 m.p, .int .i64 m.s, .int .i64 m.e, .int .i64 m.d, .int .i64 m.t, .int .i64 m.q, .int .i64 m.r, .slice ab bx.length cb, .slice ac ox.length cc] 48 (0, 0))) (by kernel_rfl) (hS _ B hle) (fun hHeld => ?_)
  refine wpAnyH_take (i := 0) (oi := ({ dst := some 3, op := Op.fieldAddr 48 (Operand.tmp 1) 0, type := 0, pos := "l12_proc.go:24", after := #[], guard := none } : Oper)) (v := .pointer (some ⟨b1x, 0, none⟩)) rfl (by kernel_rfl) (by kernel_rfl) (by kernel_rfl) (fun _ _ _ h => h) (Or.inl ⟨by rfl, by intro w hSw; go_simp⟩) (by assumption) ?_
  simp only [Act.put, List.setIfInBounds_toArray, List.set_cons_zero, List.set_cons_succ]
  refine wpAnyH_take (i := 1) (oi := ({ dst := some 4, op := Op.load 3 (Operand.tmp 3), type := 3, pos := "l12_proc.go:24", after := #[{ on := 0, ground := Ground.data }], guard := none } : Oper)) (v := .int .i64 i) rfl (by kernel_rfl) (by kernel_rfl) (by kernel_rfl) (fun _ _ _ h => h) (Or.inl ⟨by rfl, by intro w hSw; have k := cell_of_row w _ 0 _ _ _ hSw; go_simp⟩) (by assumption) ?_
  simp only [Act.put, List.setIfInBounds_toArray, List.set_cons_zero, List.set_cons_succ]
  refine wpAnyH_take (i := 2) (oi := ({ dst := some 5, op := Op.fieldAddr 48 (Operand.tmp 1) 1, type := 0, pos := "l12_proc.go:24", after := #[], guard := none } : Oper)) (v := .pointer (some ⟨b1x, 1, none⟩)) rfl (by kernel_rfl) (by kernel_rfl) (by kernel_rfl) (fun _ _ _ h => h) (Or.inl ⟨by rfl, by intro w hSw; go_simp⟩) (by assumption) ?_
  simp only [Act.put, List.setIfInBounds_toArray, List.set_cons_zero, List.set_cons_succ]
  refine wpAnyH_take (i := 3) (oi := ({ dst := some 6, op := Op.load 46 (Operand.tmp 5), type := 46, pos := "l12_proc.go:24", after := #[{ on := 2, ground := Ground.data }], guard := none } : Oper)) (v := .agg #[.slice ao xs.length cap, .int .i64 m.p, .int .i64 m.s, .int .i64 m.e, .int .i64 m.d, .int .i64 m.t, .int .i64 m.q, .int .i64 m.r]) rfl (by kernel_rfl) (by kernel_rfl) (by kernel_rfl) (fun _ _ _ h => h) (yields_sub (by rfl) 46 _ rfl b1x 1 rfl #[.int .i64 i, .slice ao xs.length cap, .int .i64 m.p, .int .i64 m.s, .int .i64 m.e, .int .i64 m.d, .int .i64 m.t, .int .i64 m.q, .int .i64 m.r, .slice ab bx.length cb, .slice ac ox.length cc] 48 #[.slice ao xs.length cap, .int .i64 m.p, .int .i64 m.s, .int .i64 m.e, .int .i64 m.d, .int .i64 m.t, .int .i64 m.q, .int .i64 m.r] _ (fun _ h => h) rfl Tryz.underlying46 rfl Tryz.sizeMach) (by assumption) ?_
  simp only [Act.put, List.setIfInBounds_toArray, List.set_cons_zero, List.set_cons_succ]
  refine wpAnyH_take (i := 6) (oi := ({ dst := some 9, op := Op.fieldAddr 48 (Operand.tmp 1) 2, type := 0, pos := "l12_proc.go:24", after := #[], guard := none } : Oper)) (v := .pointer (some ⟨b1x, 9, none⟩)) rfl (by kernel_rfl) (by kernel_rfl) (by kernel_rfl) (fun _ _ _ h => h) (Or.inl ⟨by rfl, by intro w hSw; go_simp⟩) (by assumption) ?_
  simp only [Act.put, List.setIfInBounds_toArray, List.set_cons_zero, List.set_cons_succ]
  refine wpAnyH_take (i := 7) (oi := ({ dst := some 10, op := Op.load 31 (Operand.tmp 9), type := 31, pos := "l12_proc.go:24", after := #[{ on := 6, ground := Ground.data }], guard := none } : Oper)) (v := .slice ab bx.length cb) rfl (by kernel_rfl) (by kernel_rfl) (by kernel_rfl) (fun _ _ _ h => h) (Or.inl ⟨by rfl, by intro w hSw; have k := cell_of_row w _ 9 _ _ _ hSw; go_simp⟩) (by assumption) ?_
  simp only [Act.put, List.setIfInBounds_toArray, List.set_cons_zero, List.set_cons_succ]
  refine wpAnyH_take (i := 10) (oi := ({ dst := some 13, op := Op.fieldAddr 48 (Operand.tmp 1) 3, type := 0, pos := "l12_proc.go:24", after := #[], guard := none } : Oper)) (v := .pointer (some ⟨b1x, 10, none⟩)) rfl (by kernel_rfl) (by kernel_rfl) (by kernel_rfl) (fun _ _ _ h => h) (Or.inl ⟨by rfl, by intro w hSw; go_simp⟩) (by assumption) ?_
  simp only [Act.put, List.setIfInBounds_toArray, List.set_cons_zero, List.set_cons_succ]
  refine wpAnyH_take (i := 11) (oi := ({ dst := some 14, op := Op.load 31 (Operand.tmp 13), type := 31, pos := "l12_proc.go:24", after := #[{ on := 10, ground := Ground.data }], guard := none } : Oper)) (v := .slice ac ox.length cc) rfl (by kernel_rfl) (by kernel_rfl) (by kernel_rfl) (fun _ _ _ h => h) (Or.inl ⟨by rfl, by intro w hSw; have k := cell_of_row w _ 10 _ _ _ hSw; go_simp⟩) (by assumption) ?_
  simp only [Act.put, List.setIfInBounds_toArray, List.set_cons_zero, List.set_cons_succ]
  refine wpAnyH_ready (rs := [4, 5, 9]) (by kernel_rfl) (by simp) ?_
  refine AllReadyH.cons rfl (fun K hK => ?_) (AllReadyH.cons rfl (fun K hK => ?_) (AllReadyH.cons rfl (fun K hK => ?_) AllReadyH.nil))
  · go_simp
    go_wp2_with (go_at_call 78; with_reducible refine (sl6copy2_any ao cap xs m _ (R.below B) l4).mono ?_; rintro e z1 ⟨a9, q9, rfl, O1, hb⟩)
    replace O1 := own_mono (B' := w.heap.size) O1 B.size
    replace B := B.trans (hb.mono B.size)
    clear hb
    refine hK.out _ _ (hS _ B (by omega)) (fun hHeld => ?_)
    clear hK
    refine wpAnyH_ready (rs := [5, 9]) (by kernel_rfl) (by simp) ?_
    refine AllReadyH.cons rfl (fun K hK => ?_) (AllReadyH.cons rfl (fun K hK => ?_) AllReadyH.nil)
    · go_simp
      go_wp2_with fail
      have hb := alloc_bel z1 (Obj.cells #[] 9)
      have X5 : (z1.alloc (Obj.cells #[] 9)).heap[z1.heap.size]? = some (Obj.cells #[] 9) := heap_alloc_new _ _
      have hX5 : w.heap.size ≤ z1.heap.size := B.size
      generalize z1.alloc (Obj.cells #[] 9) = z2 at hb X5 ⊢
      obtain ⟨e5, he5⟩ : ∃ q, q = z1.heap.size := ⟨_, rfl⟩
      rw [← he5] at X5 hX5 ⊢
      clear he5
      replace O1 := own_below O1 hb
      replace B := B.trans (hb.mono B.size)
      clear hb
      refine hK.out _ _ (hS _ B (by omega)) (fun hHeld => ?_)
      clear hK
      refine wpAnyH_ready (rs := [8, 9]) (by kernel_rfl) (by simp) ?_
      refine AllReadyH.cons rfl (fun K hK => ?_) (AllReadyH.cons rfl (fun K hK => ?_) AllReadyH.nil)
      · have SS := Rb.below B
        refine step_append_empty _ rfl _ _ 31 rfl 9 i0 _ 16 Tryz.underlying31 hi hz0 hz1 hz2 rfl (e5) rfl X5 ab bx.length cb (stv bx) rfl (stv_length _) SS.nilcap SS.cells (stv_one bx) (by unfold maxLen; omega) (by omega) w.heap.size hX5 ?_
        intro y8 z3 U8 hb A
        obtain ⟨p8, r8, rfl⟩ := own_form U8
        clear A
        replace O1 := own_below O1 hb
        replace X5 := blk_bel X5 hb
        replace B := B.trans (hb.mono B.size)
        clear hb SS
        refine hK.out _ _ (hS _ B (by omega)) (fun hHeld => ?_)
        clear hK
        simp only [Act.put, List.setIfInBounds_toArray]
        refine wpAnyH_ready (rs := [9]) (by kernel_rfl) (by simp) ?_
        refine AllReadyH.cons rfl (fun K hK => ?_) AllReadyH.nil
        go_simp
        go_wp2_with fail
        have hb := alloc_bel z3 (Obj.cells #[] 9)
        have X9 : (z3.alloc (Obj.cells #[] 9)).heap[z3.heap.size]? = some (Obj.cells #[] 9) := heap_alloc_new _ _
        have hX9 : w.heap.size ≤ z3.heap.size := B.size
        have n59 : e5 ≠ z3.heap.size := by have := blk_lt X5; omega
        have ap8 : ∀ k, (Value.slice p8 bx.length r8).ownBlock = some k → k ≠ z3.heap.size := fun k hk => by have := (U8.lt k hk).2; omega
        generalize z3.alloc (Obj.cells #[] 9) = z4 at hb X9 ⊢
        obtain ⟨e9, he9⟩ : ∃ q, q = z3.heap.size := ⟨_, rfl⟩
        rw [← he9] at X9 hX9 n59 ap8 ⊢
        clear he9
        replace O1 := own_below O1 hb
        replace U8 := own_below U8 hb
        replace X5 := blk_bel X5 hb
        replace B := B.trans (hb.mono B.size)
        clear hb
        refine hK.out _ _ (hS _ B (by omega)) (fun hHeld => ?_)
        clear hK
        refine wpAnyH_ready (rs := [12]) (by kernel_rfl) (by simp) ?_
        refine AllReadyH.cons rfl (fun K hK => ?_) AllReadyH.nil
        have SS := Ro.below B
        refine step_append_empty _ rfl _ _ 31 rfl 9 i0 _ 16 Tryz.underlying31 hi hz0 hz1 hz2 rfl (e9) rfl X9 ac ox.length cc (stv ox) rfl (stv_length _) SS.nilcap SS.cells (stv_one ox) (by unfold maxLen; omega) (by omega) w.heap.size hX9 ?_
        intro y12 z5 U12 hb A
        obtain ⟨p12, r12, rfl⟩ := own_form U12
        have AP : ∀ k, (Value.slice p12 ox.length r12).ownBlock = some k → (Value.slice p8 bx.length r8).ownBlock ≠ some k := fun k hk h8 => by
          have l8 := (U8.lt k h8).2
          have n8 := ap8 k h8
          rcases A k hk with h | h <;> omega
        clear A
        replace O1 := own_below O1 hb
        replace U8 := own_below U8 hb
        replace X5 := blk_bel X5 hb
        replace X9 := blk_bel X9 hb
        replace B := B.trans (hb.mono B.size)
        clear hb SS
        refine hK.out _ _ (hS _ B (by omega)) (fun hHeld => ?_)
        clear hK
        simp only [Act.put, List.setIfInBounds_toArray]
        refine wpAnyH_take (i := 13) (oi := ({ dst := some 16, op := Op.build 48 #[(0, Operand.tmp 4), (1, Operand.tmp 7), (2, Operand.tmp 11), (3, Operand.tmp 15)], type := 48, pos := "l12_proc.go:24", after := #[{ on := 1, ground := Ground.data }, { on := 4, ground := Ground.data }, { on := 8, ground := Ground.data }, { on := 12, ground := Ground.data }], guard := none } : Oper)) (v := .agg #[.int .i64 i, .slice a9 xs.length q9, .int .i64 m.p, .int .i64 m.s, .int .i64 m.e, .int .i64 m.d, .int .i64 m.t, .int .i64 m.q, .int .i64 m.r, .slice p8 bx.length r8, .slice p12 ox.length r12]) rfl (by kernel_rfl) (by kernel_rfl) (by kernel_rfl) (fun _ _ _ h => h) (Or.inl ⟨by rfl, by intro w hSw; go_simp⟩) (by assumption) ?_
        simp only [Act.put]
        refine wpAnyH_ready (rs := [14]) (by kernel_rfl) (by simp) ?_
        refine AllReadyH.cons rfl (fun K hK => ?_) AllReadyH.nil
        rw [if_pos (by rfl)]
        have X2 := blk_bel hr B
        have n1 := own_ne O1 X2 (by decide)
        have n2 := own_ne U8 X2 (by decide)
        have n3 := own_ne U12 X2 (by decide)
        refine wp_store_row 48 _ _ rfl b2x #[.int .i64 i, .slice a9 xs.length q9, .int .i64 m.p, .int .i64 m.s, .int .i64 m.e, .int .i64 m.d, .int .i64 m.t, .int .i64 m.q, .int .i64 m.r, .slice p8 bx.length r8, .slice p12 ox.length r12] rfl rfl 48 #[.int .i64 0, .slice none 0 0, .int .i64 0, .int .i64 0, .int .i64 0, .int .i64 0, .int .i64 0, .int .i64 0, .int .i64 0, .slice none 0 0, .slice none 0 0] X2 Tryz.sizeProc rfl (by simp [Value.oneCell']) ?_
        replace B : Below b2x w _ := below_setRow (B.mono (Nat.le_of_lt (blk_lt hr))) (g := b2x) (Nat.le_refl _) #[.int .i64 i, .slice a9 xs.length q9, .int .i64 m.p, .int .i64 m.s, .int .i64 m.e, .int .i64 m.d, .int .i64 m.t, .int .i64 m.q, .int .i64 m.r, .slice p8 bx.length r8, .slice p12 ox.length r12]
        replace O1 := own_other O1 n1 (fun j hj => setRow_other _ _ j #[.int .i64 i, .slice a9 xs.length q9, .int .i64 m.p, .int .i64 m.s, .int .i64 m.e, .int .i64 m.d, .int .i64 m.t, .int .i64 m.q, .int .i64 m.r, .slice p8 bx.length r8, .slice p12 ox.length r12] hj)
        replace U8 := own_other U8 n2 (fun j hj => setRow_other _ _ j #[.int .i64 i, .slice a9 xs.length q9, .int .i64 m.p, .int .i64 m.s, .int .i64 m.e, .int .i64 m.d, .int .i64 m.t, .int .i64 m.q, .int .i64 m.r, .slice p8 bx.length r8, .slice p12 ox.length r12] hj)
        replace U12 := own_other U12 n3 (fun j hj => setRow_other _ _ j #[.int .i64 i, .slice a9 xs.length q9, .int .i64 m.p, .int .i64 m.s, .int .i64 m.e, .int .i64 m.d, .int .i64 m.t, .int .i64 m.q, .int .i64 m.r, .slice p8 bx.length r8, .slice p12 ox.length r12] hj)
        replace X2 := setRow_heap _ _ _ #[.int .i64 i, .slice a9 xs.length q9, .int .i64 m.p, .int .i64 m.s, .int .i64 m.e, .int .i64 m.d, .int .i64 m.t, .int .i64 m.q, .int .i64 m.r, .slice p8 bx.length r8, .slice p12 ox.length r12] _ _ X2
        refine hK.out _ _ (hS _ B (by omega)) (fun hHeld => ?_)
        clear hK
        simp only [Act.put]
        refine wpAnyH_done (by kernel_rfl) ?_ _
        exact NoPanic.normal (hQ _ _ _ _ _ _ _ _ _ _ _ _ _ _ _ _ _ _ _ _ _ B X2 O1 U8 U12 AP)
      · go_simp
        go_wp2_with fail
        have hb := alloc_bel z2 (Obj.cells #[] 9)
        have X9 : (z2.alloc (Obj.cells #[] 9)).heap[z2.heap.size]? = some (Obj.cells #[] 9) := heap_alloc_new _ _
        have hX9 : w.heap.size ≤ z2.heap.size := B.size
        have n59 : e5 ≠ z2.heap.size := by have := blk_lt X5; omega
        generalize z2.alloc (Obj.cells #[] 9) = z7 at hb X9 ⊢
        obtain ⟨e9, he9⟩ : ∃ q, q = z2.heap.size := ⟨_, rfl⟩
        rw [← he9] at X9 hX9 n59 ⊢
        clear he9
        replace O1 := own_below O1 hb
        replace X5 := blk_bel X5 hb
        replace B := B.trans (hb.mono B.size)
        clear hb
        refine hK.out _ _ (hS _ B (by omega)) (fun hHeld => ?_)
        clear hK
        refine wpAnyH_ready (rs := [8]) (by kernel_rfl) (by simp) ?_
        refine AllReadyH.cons rfl (fun K hK => ?_) AllReadyH.nil
        have SS := Rb.below B
        refine step_append_empty _ rfl _ _ 31 rfl 9 i0 _ 16 Tryz.underlying31 hi hz0 hz1 hz2 rfl (e5) rfl X5 ab bx.length cb (stv bx) rfl (stv_length _) SS.nilcap SS.cells (stv_one bx) (by unfold maxLen; omega) (by omega) w.heap.size hX5 ?_
        intro y8 z8 U8 hb A
        obtain ⟨p8, r8, rfl⟩ := own_form U8
        have ap8 : ∀ k, (Value.slice p8 bx.length r8).ownBlock = some k → k ≠ e9 := fun k hk => by
          have l9 := blk_lt X9
          rcases A k hk with h | h <;> omega
        clear A
        replace O1 := own_below O1 hb
        replace X5 := blk_bel X5 hb
        replace X9 := blk_bel X9 hb
        replace B := B.trans (hb.mono B.size)
        clear hb SS
        refine hK.out _ _ (hS _ B (by omega)) (fun hHeld => ?_)
        clear hK
        simp only [Act.put, List.setIfInBounds_toArray]
        refine wpAnyH_ready (rs := [12]) (by kernel_rfl) (by simp) ?_
        refine AllReadyH.cons rfl (fun K hK => ?_) AllReadyH.nil
        have SS := Ro.below B
        refine step_append_empty _ rfl _ _ 31 rfl 9 i0 _ 16 Tryz.underlying31 hi hz0 hz1 hz2 rfl (e9) rfl X9 ac ox.length cc (stv ox) rfl (stv_length _) SS.nilcap SS.cells (stv_one ox) (by unfold maxLen; omega) (by omega) w.heap.size hX9 ?_
        intro y12 z9 U12 hb A
        obtain ⟨p12, r12, rfl⟩ := own_form U12
        have AP : ∀ k, (Value.slice p12 ox.length r12).ownBlock = some k → (Value.slice p8 bx.length r8).ownBlock ≠ some k := fun k hk h8 => by
          have l8 := (U8.lt k h8).2
          have n8 := ap8 k h8
          rcases A k hk with h | h <;> omega
        clear A
        replace O1 := own_below O1 hb
        replace U8 := own_below U8 hb
        replace X5 := blk_bel X5 hb
        replace X9 := blk_bel X9 hb
        replace B := B.trans (hb.mono B.size)
        clear hb SS
        refine hK.out _ _ (hS _ B (by omega)) (fun hHeld => ?_)
        clear hK
        simp only [Act.put]
        refine wpAnyH_take (i := 13) (oi := ({ dst := some 16, op := Op.build 48 #[(0, Operand.tmp 4), (1, Operand.tmp 7), (2, Operand.tmp 11), (3, Operand.tmp 15)], type := 48, pos := "l12_proc.go:24", after := #[{ on := 1, ground := Ground.data }, { on := 4, ground := Ground.data }, { on := 8, ground := Ground.data }, { on := 12, ground := Ground.data }], guard := none } : Oper)) (v := .agg #[.int .i64 i, .slice a9 xs.length q9, .int .i64 m.p, .int .i64 m.s, .int .i64 m.e, .int .i64 m.d, .int .i64 m.t, .int .i64 m.q, .int .i64 m.r, .slice p8 bx.length r8, .slice p12 ox.length r12]) rfl (by kernel_rfl) (by kernel_rfl) (by kernel_rfl) (fun _ _ _ h => h) (Or.inl ⟨by rfl, by intro w hSw; go_simp⟩) (by assumption) ?_
        simp only [Act.put]
        refine wpAnyH_ready (rs := [14]) (by kernel_rfl) (by simp) ?_
        refine AllReadyH.cons rfl (fun K hK => ?_) AllReadyH.nil
        rw [if_pos (by rfl)]
        have X2 := blk_bel hr B
        have n1 := own_ne O1 X2 (by decide)
        have n2 := own_ne U8 X2 (by decide)
        have n3 := own_ne U12 X2 (by decide)
        refine wp_store_row 48 _ _ rfl b2x #[.int .i64 i, .slice a9 xs.length q9, .int .i64 m.p, .int .i64 m.s, .int .i64 m.e, .int .i64 m.d, .int .i64 m.t, .int .i64 m.q, .int .i64 m.r, .slice p8 bx.length r8, .slice p12 ox.length r12] rfl rfl 48 #[.int .i64 0, .slice none 0 0, .int .i64 0, .int .i64 0, .int .i64 0, .int .i64 0, .int .i64 0, .int .i64 0, .int .i64 0, .slice none 0 0, .slice none 0 0] X2 Tryz.sizeProc rfl (by simp [Value.oneCell']) ?_
        replace B : Below b2x w _ := below_setRow (B.mono (Nat.le_of_lt (blk_lt hr))) (g := b2x) (Nat.le_refl _) #[.int .i64 i, .slice a9 xs.length q9, .int .i64 m.p, .int .i64 m.s, .int .i64 m.e, .int .i64 m.d, .int .i64 m.t, .int .i64 m.q, .int .i64 m.r, .slice p8 bx.length r8, .slice p12 ox.length r12]
        replace O1 := own_other O1 n1 (fun j hj => setRow_other _ _ j #[.int .i64 i, .slice a9 xs.length q9, .int .i64 m.p, .int .i64 m.s, .int .i64 m.e, .int .i64 m.d, .int .i64 m.t, .int .i64 m.q, .int .i64 m.r, .slice p8 bx.length r8, .slice p12 ox.length r12] hj)
        replace U8 := own_other U8 n2 (fun j hj => setRow_other _ _ j #[.int .i64 i, .slice a9 xs.length q9, .int .i64 m.p, .int .i64 m.s, .int .i64 m.e, .int .i64 m.d, .int .i64 m.t, .int .i64 m.q, .int .i64 m.r, .slice p8 bx.length r8, .slice p12 ox.length r12] hj)
        replace U12 := own_other U12 n3 (fun j hj => setRow_other _ _ j #[.int .i64 i, .slice a9 xs.length q9, .int .i64 m.p, .int .i64 m.s, .int .i64 m.e, .int .i64 m.d, .int .i64 m.t, .int .i64 m.q, .int .i64 m.r, .slice p8 bx.length r8, .slice p12 ox.length r12] hj)
        replace X2 := setRow_heap _ _ _ #[.int .i64 i, .slice a9 xs.length q9, .int .i64 m.p, .int .i64 m.s, .int .i64 m.e, .int .i64 m.d, .int .i64 m.t, .int .i64 m.q, .int .i64 m.r, .slice p8 bx.length r8, .slice p12 ox.length r12] _ _ X2
        refine hK.out _ _ (hS _ B (by omega)) (fun hHeld => ?_)
        clear hK
        simp only [Act.put]
        refine wpAnyH_done (by kernel_rfl) ?_ _
        exact NoPanic.normal (hQ _ _ _ _ _ _ _ _ _ _ _ _ _ _ _ _ _ _ _ _ _ B X2 O1 U8 U12 AP)
    · go_simp
      go_wp2_with fail
      have hb := alloc_bel z1 (Obj.cells #[] 9)
      have X9 : (z1.alloc (Obj.cells #[] 9)).heap[z1.heap.size]? = some (Obj.cells #[] 9) := heap_alloc_new _ _
      have hX9 : w.heap.size ≤ z1.heap.size := B.size
      generalize z1.alloc (Obj.cells #[] 9) = z11 at hb X9 ⊢
      obtain ⟨e9, he9⟩ : ∃ q, q = z1.heap.size := ⟨_, rfl⟩
      rw [← he9] at X9 hX9 ⊢
      clear he9
      replace O1 := own_below O1 hb
      replace B := B.trans (hb.mono B.size)
      clear hb
      refine hK.out _ _ (hS _ B (by omega)) (fun hHeld => ?_)
      clear hK
      refine wpAnyH_ready (rs := [5]) (by kernel_rfl) (by simp) ?_
      refine AllReadyH.cons rfl (fun K hK => ?_) AllReadyH.nil
      go_simp
      go_wp2_with fail
      have hb := alloc_bel z11 (Obj.cells #[] 9)
      have X5 : (z11.alloc (Obj.cells #[] 9)).heap[z11.heap.size]? = some (Obj.cells #[] 9) := heap_alloc_new _ _
      have hX5 : w.heap.size ≤ z11.heap.size := B.size
      have n59 : e9 ≠ z11.heap.size := by have := blk_lt X9; omega
      generalize z11.alloc (Obj.cells #[] 9) = z12 at hb X5 ⊢
      obtain ⟨e5, he5⟩ : ∃ q, q = z11.heap.size := ⟨_, rfl⟩
      rw [← he5] at X5 hX5 n59 ⊢
      clear he5
      replace O1 := own_below O1 hb
      replace X9 := blk_bel X9 hb
      replace B := B.trans (hb.mono B.size)
      clear hb
      refine hK.out _ _ (hS _ B (by omega)) (fun hHeld => ?_)
      clear hK
      refine wpAnyH_ready (rs := [8]) (by kernel_rfl) (by simp) ?_
      refine AllReadyH.cons rfl (fun K hK => ?_) AllReadyH.nil
      have SS := Rb.below B
      refine step_append_empty _ rfl _ _ 31 rfl 9 i0 _ 16 Tryz.underlying31 hi hz0 hz1 hz2 rfl (e5) rfl X5 ab bx.length cb (stv bx) rfl (stv_length _) SS.nilcap SS.cells (stv_one bx) (by unfold maxLen; omega) (by omega) w.heap.size hX5 ?_
      intro y8 z13 U8 hb A
      obtain ⟨p8, r8, rfl⟩ := own_form U8
      have ap8 : ∀ k, (Value.slice p8 bx.length r8).ownBlock = some k → k ≠ e9 := fun k hk => by
        have l9 := blk_lt X9
        rcases A k hk with h | h <;> omega
      clear A
      replace O1 := own_below O1 hb
      replace X5 := blk_bel X5 hb
      replace X9 := blk_bel X9 hb
      replace B := B.trans (hb.mono B.size)
      clear hb SS
      refine hK.out _ _ (hS _ B (by omega)) (fun hHeld => ?_)
      clear hK
      simp only [Act.put, List.setIfInBounds_toArray]
      refine wpAnyH_ready (rs := [12]) (by kernel_rfl) (by simp) ?_
      refine AllReadyH.cons rfl (fun K hK => ?_) AllReadyH.nil
      have SS := Ro.below B
      refine step_append_empty _ rfl _ _ 31 rfl 9 i0 _ 16 Tryz.underlying31 hi hz0 hz1 hz2 rfl (e9) rfl X9 ac ox.length cc (stv ox) rfl (stv_length _) SS.nilcap SS.cells (stv_one ox) (by unfold maxLen; omega) (by omega) w.heap.size hX9 ?_
      intro y12 z14 U12 hb A
      obtain ⟨p12, r12, rfl⟩ := own_form U12
      have AP : ∀ k, (Value.slice p12 ox.length r12).ownBlock = some k → (Value.slice p8 bx.length r8).ownBlock ≠ some k := fun k hk h8 => by
        have l8 := (U8.lt k h8).2
        have n8 := ap8 k h8
        rcases A k hk with h | h <;> omega
      clear A
      replace O1 := own_below O1 hb
      replace U8 := own_below U8 hb
      replace X5 := blk_bel X5 hb
      replace X9 := blk_bel X9 hb
      replace B := B.trans (hb.mono B.size)
      clear hb SS
      refine hK.out _ _ (hS _ B (by omega)) (fun hHeld => ?_)
      clear hK
      simp only [Act.put]
      refine wpAnyH_take (i := 13) (oi := ({ dst := some 16, op := Op.build 48 #[(0, Operand.tmp 4), (1, Operand.tmp 7), (2, Operand.tmp 11), (3, Operand.tmp 15)], type := 48, pos := "l12_proc.go:24", after := #[{ on := 1, ground := Ground.data }, { on := 4, ground := Ground.data }, { on := 8, ground := Ground.data }, { on := 12, ground := Ground.data }], guard := none } : Oper)) (v := .agg #[.int .i64 i, .slice a9 xs.length q9, .int .i64 m.p, .int .i64 m.s, .int .i64 m.e, .int .i64 m.d, .int .i64 m.t, .int .i64 m.q, .int .i64 m.r, .slice p8 bx.length r8, .slice p12 ox.length r12]) rfl (by kernel_rfl) (by kernel_rfl) (by kernel_rfl) (fun _ _ _ h => h) (Or.inl ⟨by rfl, by intro w hSw; go_simp⟩) (by assumption) ?_
      simp only [Act.put]
      refine wpAnyH_ready (rs := [14]) (by kernel_rfl) (by simp) ?_
      refine AllReadyH.cons rfl (fun K hK => ?_) AllReadyH.nil
      rw [if_pos (by rfl)]
      have X2 := blk_bel hr B
      have n1 := own_ne O1 X2 (by decide)
      have n2 := own_ne U8 X2 (by decide)
      have n3 := own_ne U12 X2 (by decide)
      refine wp_store_row 48 _ _ rfl b2x #[.int .i64 i, .slice a9 xs.length q9, .int .i64 m.p, .int .i64 m.s, .int .i64 m.e, .int .i64 m.d, .int .i64 m.t, .int .i64 m.q, .int .i64 m.r, .slice p8 bx.length r8, .slice p12 ox.length r12] rfl rfl 48 #[.int .i64 0, .slice none 0 0, .int .i64 0, .int .i64 0, .int .i64 0, .int .i64 0, .int .i64 0, .int .i64 0, .int .i64 0, .slice none 0 0, .slice none 0 0] X2 Tryz.sizeProc rfl (by simp [Value.oneCell']) ?_
      replace B : Below b2x w _ := below_setRow (B.mono (Nat.le_of_lt (blk_lt hr))) (g := b2x) (Nat.le_refl _) #[.int .i64 i, .slice a9 xs.length q9, .int .i64 m.p, .int .i64 m.s, .int .i64 m.e, .int .i64 m.d, .int .i64 m.t, .int .i64 m.q, .int .i64 m.r, .slice p8 bx.length r8, .slice p12 ox.length r12]
      replace O1 := own_other O1 n1 (fun j hj => setRow_other _ _ j #[.int .i64 i, .slice a9 xs.length q9, .int .i64 m.p, .int .i64 m.s, .int .i64 m.e, .int .i64 m.d, .int .i64 m.t, .int .i64 m.q, .int .i64 m.r, .slice p8 bx.length r8, .slice p12 ox.length r12] hj)
      replace U8 := own_other U8 n2 (fun j hj => setRow_other _ _ j #[.int .i64 i, .slice a9 xs.length q9, .int .i64 m.p, .int .i64 m.s, .int .i64 m.e, .int .i64 m.d, .int .i64 m.t, .int .i64 m.q, .int .i64 m.r, .slice p8 bx.length r8, .slice p12 ox.length r12] hj)
      replace U12 := own_other U12 n3 (fun j hj => setRow_other _ _ j #[.int .i64 i, .slice a9 xs.length q9, .int .i64 m.p, .int .i64 m.s, .int .i64 m.e, .int .i64 m.d, .int .i64 m.t, .int .i64 m.q, .int .i64 m.r, .slice p8 bx.length r8, .slice p12 ox.length r12] hj)
      replace X2 := setRow_heap _ _ _ #[.int .i64 i, .slice a9 xs.length q9, .int .i64 m.p, .int .i64 m.s, .int .i64 m.e, .int .i64 m.d, .int .i64 m.t, .int .i64 m.q, .int .i64 m.r, .slice p8 bx.length r8, .slice p12 ox.length r12] _ _ X2
      refine hK.out _ _ (hS _ B (by omega)) (fun hHeld => ?_)
      clear hK
      simp only [Act.put]
      refine wpAnyH_done (by kernel_rfl) ?_ _
      exact NoPanic.normal (hQ _ _ _ _ _ _ _ _ _ _ _ _ _ _ _ _ _ _ _ _ _ B X2 O1 U8 U12 AP)
  · go_simp
    go_wp2_with fail
    have hb : Below w.heap.size w (w.alloc (Obj.cells #[] 9)).drew := ((Below.refl _ _).alloc (Nat.le_refl _) _).drew
    have X5 : (w.alloc (Obj.cells #[] 9)).drew.heap[w.heap.size]? = some (Obj.cells #[] 9) := heap_alloc_new w _
    have hX5 : w.heap.size ≤ w.heap.size := Nat.le_refl _
    generalize (w.alloc (Obj.cells #[] 9)).drew = z16 at hb X5 ⊢
    replace B := hb
    clear hb
    refine hK.out _ _ (hS _ B (by omega)) (fun hHeld => ?_)
    clear hK
    refine wpAnyH_ready (rs := [4, 9]) (by kernel_rfl) (by simp) ?_
    refine AllReadyH.cons rfl (fun K hK => ?_) (AllReadyH.cons rfl (fun K hK => ?_) AllReadyH.nil)
    · go_simp
      go_wp2_with (go_at_call 78; with_reducible refine (sl6copy2_any ao cap xs m _ (R.below B) l4).mono ?_; rintro e z17 ⟨a9, q9, rfl, O1, hb⟩)
      replace O1 := own_mono (B' := w.heap.size) O1 B.size
      replace X5 := blk_bel X5 hb
      replace B := B.trans (hb.mono B.size)
      clear hb
      refine hK.out _ _ (hS _ B (by omega)) (fun hHeld => ?_)
      clear hK
      refine wpAnyH_ready (rs := [8, 9]) (by kernel_rfl) (by simp) ?_
      refine AllReadyH.cons rfl (fun K hK => ?_) (AllReadyH.cons rfl (fun K hK => ?_) AllReadyH.nil)
      · have SS := Rb.below B
        refine step_append_empty _ rfl _ _ 31 rfl 9 i0 _ 16 Tryz.underlying31 hi hz0 hz1 hz2 rfl (w.heap.size) rfl X5 ab bx.length cb (stv bx) rfl (stv_length _) SS.nilcap SS.cells (stv_one bx) (by unfold maxLen; omega) (by omega) w.heap.size hX5 ?_
        intro y8 z18 U8 hb A
        obtain ⟨p8, r8, rfl⟩ := own_form U8
        clear A
        replace O1 := own_below O1 hb
        replace X5 := blk_bel X5 hb
        replace B := B.trans (hb.mono B.size)
        clear hb SS
        refine hK.out _ _ (hS _ B (by omega)) (fun hHeld => ?_)
        clear hK
        simp only [Act.put, List.setIfInBounds_toArray]
        refine wpAnyH_ready (rs := [9]) (by kernel_rfl) (by simp) ?_
        refine AllReadyH.cons rfl (fun K hK => ?_) AllReadyH.nil
        go_simp
        go_wp2_with fail
        have hb := alloc_bel z18 (Obj.cells #[] 9)
        have X9 : (z18.alloc (Obj.cells #[] 9)).heap[z18.heap.size]? = some (Obj.cells #[] 9) := heap_alloc_new _ _
        have hX9 : w.heap.size ≤ z18.heap.size := B.size
        have n59 : w.heap.size ≠ z18.heap.size := by have := blk_lt X5; omega
        have ap8 : ∀ k, (Value.slice p8 bx.length r8).ownBlock = some k → k ≠ z18.heap.size := fun k hk => by have := (U8.lt k hk).2; omega
        generalize z18.alloc (Obj.cells #[] 9) = z19 at hb X9 ⊢
        obtain ⟨e9, he9⟩ : ∃ q, q = z18.heap.size := ⟨_, rfl⟩
        rw [← he9] at X9 hX9 n59 ap8 ⊢
        clear he9
        replace O1 := own_below O1 hb
        replace U8 := own_below U8 hb
        replace X5 := blk_bel X5 hb
        replace B := B.trans (hb.mono B.size)
        clear hb
        refine hK.out _ _ (hS _ B (by omega)) (fun hHeld => ?_)
        clear hK
        refine wpAnyH_ready (rs := [12]) (by kernel_rfl) (by simp) ?_
        refine AllReadyH.cons rfl (fun K hK => ?_) AllReadyH.nil
        have SS := Ro.below B
        refine step_append_empty _ rfl _ _ 31 rfl 9 i0 _ 16 Tryz.underlying31 hi hz0 hz1 hz2 rfl (e9) rfl X9 ac ox.length cc (stv ox) rfl (stv_length _) SS.nilcap SS.cells (stv_one ox) (by unfold maxLen; omega) (by omega) w.heap.size hX9 ?_
        intro y12 z20 U12 hb A
        obtain ⟨p12, r12, rfl⟩ := own_form U12
        have AP : ∀ k, (Value.slice p12 ox.length r12).ownBlock = some k → (Value.slice p8 bx.length r8).ownBlock ≠ some k := fun k hk h8 => by
          have l8 := (U8.lt k h8).2
          have n8 := ap8 k h8
          rcases A k hk with h | h <;> omega
        clear A
        replace O1 := own_below O1 hb
        replace U8 := own_below U8 hb
        replace X5 := blk_bel X5 hb
        replace X9 := blk_bel X9 hb
        replace B := B.trans (hb.mono B.size)
        clear hb SS
        refine hK.out _ _ (hS _ B (by omega)) (fun hHeld => ?_)
        clear hK
        simp only [Act.put, List.setIfInBounds_toArray]
        refine wpAnyH_take (i := 13) (oi := ({ dst := some 16, op := Op.build 48 #[(0, Operand.tmp 4), (1, Operand.tmp 7), (2, Operand.tmp 11), (3, Operand.tmp 15)], type := 48, pos := "l12_proc.go:24", after := #[{ on := 1, ground := Ground.data }, { on := 4, ground := Ground.data }, { on := 8, ground := Ground.data }, { on := 12, ground := Ground.data }], guard := none } : Oper)) (v := .agg #[.int .i64 i, .slice a9 xs.length q9, .int .i64 m.p, .int .i64 m.s, .int .i64 m.e, .int .i64 m.d, .int .i64 m.t, .int .i64 m.q, .int .i64 m.r, .slice p8 bx.length r8, .slice p12 ox.length r12]) rfl (by kernel_rfl) (by kernel_rfl) (by kernel_rfl) (fun _ _ _ h => h) (Or.inl ⟨by rfl, by intro w hSw; go_simp⟩) (by assumption) ?_
        simp only [Act.put]
        refine wpAnyH_ready (rs := [14]) (by kernel_rfl) (by simp) ?_
        refine AllReadyH.cons rfl (fun K hK => ?_) AllReadyH.nil
        rw [if_pos (by rfl)]
        have X2 := blk_bel hr B
        have n1 := own_ne O1 X2 (by decide)
        have n2 := own_ne U8 X2 (by decide)
        have n3 := own_ne U12 X2 (by decide)
        refine wp_store_row 48 _ _ rfl b2x #[.int .i64 i, .slice a9 xs.length q9, .int .i64 m.p, .int .i64 m.s, .int .i64 m.e, .int .i64 m.d, .int .i64 m.t, .int .i64 m.q, .int .i64 m.r, .slice p8 bx.length r8, .slice p12 ox.length r12] rfl rfl 48 #[.int .i64 0, .slice none 0 0, .int .i64 0, .int .i64 0, .int .i64 0, .int .i64 0, .int .i64 0, .int .i64 0, .int .i64 0, .slice none 0 0, .slice none 0 0] X2 Tryz.sizeProc rfl (by simp [Value.oneCell']) ?_
        replace B : Below b2x w _ := below_setRow (B.mono (Nat.le_of_lt (blk_lt hr))) (g := b2x) (Nat.le_refl _) #[.int .i64 i, .slice a9 xs.length q9, .int .i64 m.p, .int .i64 m.s, .int .i64 m.e, .int .i64 m.d, .int .i64 m.t, .int .i64 m.q, .int .i64 m.r, .slice p8 bx.length r8, .slice p12 ox.length r12]
        replace O1 := own_other O1 n1 (fun j hj => setRow_other _ _ j #[.int .i64 i, .slice a9 xs.length q9, .int .i64 m.p, .int .i64 m.s, .int .i64 m.e, .int .i64 m.d, .int .i64 m.t, .int .i64 m.q, .int .i64 m.r, .slice p8 bx.length r8, .slice p12 ox.length r12] hj)
        replace U8 := own_other U8 n2 (fun j hj => setRow_other _ _ j #[.int .i64 i, .slice a9 xs.length q9, .int .i64 m.p, .int .i64 m.s, .int .i64 m.e, .int .i64 m.d, .int .i64 m.t, .int .i64 m.q, .int .i64 m.r, .slice p8 bx.length r8, .slice p12 ox.length r12] hj)
        replace U12 := own_other U12 n3 (fun j hj => setRow_other _ _ j #[.int .i64 i, .slice a9 xs.length q9, .int .i64 m.p, .int .i64 m.s, .int .i64 m.e, .int .i64 m.d, .int .i64 m.t, .int .i64 m.q, .int .i64 m.r, .slice p8 bx.length r8, .slice p12 ox.length r12] hj)
        replace X2 := setRow_heap _ _ _ #[.int .i64 i, .slice a9 xs.length q9, .int .i64 m.p, .int .i64 m.s, .int .i64 m.e, .int .i64 m.d, .int .i64 m.t, .int .i64 m.q, .int .i64 m.r, .slice p8 bx.length r8, .slice p12 ox.length r12] _ _ X2
        refine hK.out _ _ (hS _ B (by omega)) (fun hHeld => ?_)
        clear hK
        simp only [Act.put]
        refine wpAnyH_done (by kernel_rfl) ?_ _
        exact NoPanic.normal (hQ _ _ _ _ _ _ _ _ _ _ _ _ _ _ _ _ _ _ _ _ _ B X2 O1 U8 U12 AP)
      · go_simp
        go_wp2_with fail
        have hb := alloc_bel z17 (Obj.cells #[] 9)
        have X9 : (z17.alloc (Obj.cells #[] 9)).heap[z17.heap.size]? = some (Obj.cells #[] 9) := heap_alloc_new _ _
        have hX9 : w.heap.size ≤ z17.heap.size := B.size
        have n59 : w.heap.size ≠ z17.heap.size := by have := blk_lt X5; omega
        generalize z17.alloc (Obj.cells #[] 9) = z22 at hb X9 ⊢
        obtain ⟨e9, he9⟩ : ∃ q, q = z17.heap.size := ⟨_, rfl⟩
        rw [← he9] at X9 hX9 n59 ⊢
        clear he9
        replace O1 := own_below O1 hb
        replace X5 := blk_bel X5 hb
        replace B := B.trans (hb.mono B.size)
        clear hb
        refine hK.out _ _ (hS _ B (by omega)) (fun hHeld => ?_)
        clear hK
        refine wpAnyH_ready (rs := [8]) (by kernel_rfl) (by simp) ?_
        refine AllReadyH.cons rfl (fun K hK => ?_) AllReadyH.nil
        have SS := Rb.below B
        refine step_append_empty _ rfl _ _ 31 rfl 9 i0 _ 16 Tryz.underlying31 hi hz0 hz1 hz2 rfl (w.heap.size) rfl X5 ab bx.length cb (stv bx) rfl (stv_length _) SS.nilcap SS.cells (stv_one bx) (by unfold maxLen; omega) (by omega) w.heap.size hX5 ?_
        intro y8 z23 U8 hb A
        obtain ⟨p8, r8, rfl⟩ := own_form U8
        have ap8 : ∀ k, (Value.slice p8 bx.length r8).ownBlock = some k → k ≠ e9 := fun k hk => by
          have l9 := blk_lt X9
          rcases A k hk with h | h <;> omega
        clear A
        replace O1 := own_below O1 hb
        replace X5 := blk_bel X5 hb
        replace X9 := blk_bel X9 hb
        replace B := B.trans (hb.mono B.size)
        clear hb SS
        refine hK.out _ _ (hS _ B (by omega)) (fun hHeld => ?_)
        clear hK
        simp only [Act.put, List.setIfInBounds_toArray]
        refine wpAnyH_ready (rs := [12]) (by kernel_rfl) (by simp) ?_
        refine AllReadyH.cons rfl (fun K hK => ?_) AllReadyH.nil
        have SS := Ro.below B
        refine step_append_empty _ rfl _ _ 31 rfl 9 i0 _ 16 Tryz.underlying31 hi hz0 hz1 hz2 rfl (e9) rfl X9 ac ox.length cc (stv ox) rfl (stv_length _) SS.nilcap SS.cells (stv_one ox) (by unfold maxLen; omega) (by omega) w.heap.size hX9 ?_
        intro y12 z24 U12 hb A
        obtain ⟨p12, r12, rfl⟩ := own_form U12
        have AP : ∀ k, (Value.slice p12 ox.length r12).ownBlock = some k → (Value.slice p8 bx.length r8).ownBlock ≠ some k := fun k hk h8 => by
          have l8 := (U8.lt k h8).2
          have n8 := ap8 k h8
          rcases A k hk with h | h <;> omega
        clear A
        replace O1 := own_below O1 hb
        replace U8 := own_below U8 hb
        replace X5 := blk_bel X5 hb
        replace X9 := blk_bel X9 hb
        replace B := B.trans (hb.mono B.size)
        clear hb SS
        refine hK.out _ _ (hS _ B (by omega)) (fun hHeld => ?_)
        clear hK
        simp only [Act.put]
        refine wpAnyH_take (i := 13) (oi := ({ dst := some 16, op := Op.build 48 #[(0, Operand.tmp 4), (1, Operand.tmp 7), (2, Operand.tmp 11), (3, Operand.tmp 15)], type := 48, pos := "l12_proc.go:24", after := #[{ on := 1, ground := Ground.data }, { on := 4, ground := Ground.data }, { on := 8, ground := Ground.data }, { on := 12, ground := Ground.data }], guard := none } : Oper)) (v := .agg #[.int .i64 i, .slice a9 xs.length q9, .int .i64 m.p, .int .i64 m.s, .int .i64 m.e, .int .i64 m.d, .int .i64 m.t, .int .i64 m.q, .int .i64 m.r, .slice p8 bx.length r8, .slice p12 ox.length r12]) rfl (by kernel_rfl) (by kernel_rfl) (by kernel_rfl) (fun _ _ _ h => h) (Or.inl ⟨by rfl, by intro w hSw; go_simp⟩) (by assumption) ?_
        simp only [Act.put]
        refine wpAnyH_ready (rs := [14]) (by kernel_rfl) (by simp) ?_
        refine AllReadyH.cons rfl (fun K hK => ?_) AllReadyH.nil
        rw [if_pos (by rfl)]
        have X2 := blk_bel hr B
        have n1 := own_ne O1 X2 (by decide)
        have n2 := own_ne U8 X2 (by decide)
        have n3 := own_ne U12 X2 (by decide)
        refine wp_store_row 48 _ _ rfl b2x #[.int .i64 i, .slice a9 xs.length q9, .int .i64 m.p, .int .i64 m.s, .int .i64 m.e, .int .i64 m.d, .int .i64 m.t, .int .i64 m.q, .int .i64 m.r, .slice p8 bx.length r8, .slice p12 ox.length r12] rfl rfl 48 #[.int .i64 0, .slice none 0 0, .int .i64 0, .int .i64 0, .int .i64 0, .int .i64 0, .int .i64 0, .int .i64 0, .int .i64 0, .slice none 0 0, .slice none 0 0] X2 Tryz.sizeProc rfl (by simp [Value.oneCell']) ?_
        replace B : Below b2x w _ := below_setRow (B.mono (Nat.le_of_lt (blk_lt hr))) (g := b2x) (Nat.le_refl _) #[.int .i64 i, .slice a9 xs.length q9, .int .i64 m.p, .int .i64 m.s, .int .i64 m.e, .int .i64 m.d, .int .i64 m.t, .int .i64 m.q, .int .i64 m.r, .slice p8 bx.length r8, .slice p12 ox.length r12]
        replace O1 := own_other O1 n1 (fun j hj => setRow_other _ _ j #[.int .i64 i, .slice a9 xs.length q9, .int .i64 m.p, .int .i64 m.s, .int .i64 m.e, .int .i64 m.d, .int .i64 m.t, .int .i64 m.q, .int .i64 m.r, .slice p8 bx.length r8, .slice p12 ox.length r12] hj)
        replace U8 := own_other U8 n2 (fun j hj => setRow_other _ _ j #[.int .i64 i, .slice a9 xs.length q9, .int .i64 m.p, .int .i64 m.s, .int .i64 m.e, .int .i64 m.d, .int .i64 m.t, .int .i64 m.q, .int .i64 m.r, .slice p8 bx.length r8, .slice p12 ox.length r12] hj)
        replace U12 := own_other U12 n3 (fun j hj => setRow_other _ _ j #[.int .i64 i, .slice a9 xs.length q9, .int .i64 m.p, .int .i64 m.s, .int .i64 m.e, .int .i64 m.d, .int .i64 m.t, .int .i64 m.q, .int .i64 m.r, .slice p8 bx.length r8, .slice p12 ox.length r12] hj)
        replace X2 := setRow_heap _ _ _ #[.int .i64 i, .slice a9 xs.length q9, .int .i64 m.p, .int .i64 m.s, .int .i64 m.e, .int .i64 m.d, .int .i64 m.t, .int .i64 m.q, .int .i64 m.r, .slice p8 bx.length r8, .slice p12 ox.length r12] _ _ X2
        refine hK.out _ _ (hS _ B (by omega)) (fun hHeld => ?_)
        clear hK
        simp only [Act.put]
        refine wpAnyH_done (by kernel_rfl) ?_ _
        exact NoPanic.normal (hQ _ _ _ _ _ _ _ _ _ _ _ _ _ _ _ _ _ _ _ _ _ B X2 O1 U8 U12 AP)
    · go_simp
      go_wp2_with fail
      have hb := alloc_bel z16 (Obj.cells #[] 9)
      have X9 : (z16.alloc (Obj.cells #[] 9)).heap[z16.heap.size]? = some (Obj.cells #[] 9) := heap_alloc_new _ _
      have hX9 : w.heap.size ≤ z16.heap.size := B.size
      have n59 : w.heap.size ≠ z16.heap.size := by have := blk_lt X5; omega
      generalize z16.alloc (Obj.cells #[] 9) = z26 at hb X9 ⊢
      obtain ⟨e9, he9⟩ : ∃ q, q = z16.heap.size := ⟨_, rfl⟩
      rw [← he9] at X9 hX9 n59 ⊢
      clear he9
      replace X5 := blk_bel X5 hb
      replace B := B.trans (hb.mono B.size)
      clear hb
      refine hK.out _ _ (hS _ B (by omega)) (fun hHeld => ?_)
      clear hK
      refine wpAnyH_ready (rs := [4]) (by kernel_rfl) (by simp) ?_
      refine AllReadyH.cons rfl (fun K hK => ?_) AllReadyH.nil
      go_simp
      go_wp2_with (go_at_call 78; with_reducible refine (sl6copy2_any ao cap xs m _ (R.below B) l4).mono ?_; rintro e z27 ⟨a9, q9, rfl, O1, hb⟩)
      replace O1 := own_mono (B' := w.heap.size) O1 B.size
      replace X5 := blk_bel X5 hb
      replace X9 := blk_bel X9 hb
      replace B := B.trans (hb.mono B.size)
      clear hb
      refine hK.out _ _ (hS _ B (by omega)) (fun hHeld => ?_)
      clear hK
      refine wpAnyH_ready (rs := [8]) (by kernel_rfl) (by simp) ?_
      refine AllReadyH.cons rfl (fun K hK => ?_) AllReadyH.nil
      have SS := Rb.below B
      refine step_append_empty _ rfl _ _ 31 rfl 9 i0 _ 16 Tryz.underlying31 hi hz0 hz1 hz2 rfl (w.heap.size) rfl X5 ab bx.length cb (stv bx) rfl (stv_length _) SS.nilcap SS.cells (stv_one bx) (by unfold maxLen; omega) (by omega) w.heap.size hX5 ?_
      intro y8 z28 U8 hb A
      obtain ⟨p8, r8, rfl⟩ := own_form U8
      have ap8 : ∀ k, (Value.slice p8 bx.length r8).ownBlock = some k → k ≠ e9 := fun k hk => by
        have l9 := blk_lt X9
        rcases A k hk with h | h <;> omega
      clear A
      replace O1 := own_below O1 hb
      replace X5 := blk_bel X5 hb
      replace X9 := blk_bel X9 hb
      replace B := B.trans (hb.mono B.size)
      clear hb SS
      refine hK.out _ _ (hS _ B (by omega)) (fun hHeld => ?_)
      clear hK
      simp only [Act.put, List.setIfInBounds_toArray]
      refine wpAnyH_ready (rs := [12]) (by kernel_rfl) (by simp) ?_
      refine AllReadyH.cons rfl (fun K hK => ?_) AllReadyH.nil
      have SS := Ro.below B
      refine step_append_empty _ rfl _ _ 31 rfl 9 i0 _ 16 Tryz.underlying31 hi hz0 hz1 hz2 rfl (e9) rfl X9 ac ox.length cc (stv ox) rfl (stv_length _) SS.nilcap SS.cells (stv_one ox) (by unfold maxLen; omega) (by omega) w.heap.size hX9 ?_
      intro y12 z29 U12 hb A
      obtain ⟨p12, r12, rfl⟩ := own_form U12
      have AP : ∀ k, (Value.slice p12 ox.length r12).ownBlock = some k → (Value.slice p8 bx.length r8).ownBlock ≠ some k := fun k hk h8 => by
        have l8 := (U8.lt k h8).2
        have n8 := ap8 k h8
        rcases A k hk with h | h <;> omega
      clear A
      replace O1 := own_below O1 hb
      replace U8 := own_below U8 hb
      replace X5 := blk_bel X5 hb
      replace X9 := blk_bel X9 hb
      replace B := B.trans (hb.mono B.size)
      clear hb SS
      refine hK.out _ _ (hS _ B (by omega)) (fun hHeld => ?_)
      clear hK
      simp only [Act.put]
      refine wpAnyH_take (i := 13) (oi := ({ dst := some 16, op := Op.build 48 #[(0, Operand.tmp 4), (1, Operand.tmp 7), (2, Operand.tmp 11), (3, Operand.tmp 15)], type := 48, pos := "l12_proc.go:24", after := #[{ on := 1, ground := Ground.data }, { on := 4, ground := Ground.data }, { on := 8, ground := Ground.data }, { on := 12, ground := Ground.data }], guard := none } : Oper)) (v := .agg #[.int .i64 i, .slice a9 xs.length q9, .int .i64 m.p, .int .i64 m.s, .int .i64 m.e, .int .i64 m.d, .int .i64 m.t, .int .i64 m.q, .int .i64 m.r, .slice p8 bx.length r8, .slice p12 ox.length r12]) rfl (by kernel_rfl) (by kernel_rfl) (by kernel_rfl) (fun _ _ _ h => h) (Or.inl ⟨by rfl, by intro w hSw; go_simp⟩) (by assumption) ?_
      simp only [Act.put]
      refine wpAnyH_ready (rs := [14]) (by kernel_rfl) (by simp) ?_
      refine AllReadyH.cons rfl (fun K hK => ?_) AllReadyH.nil
      rw [if_pos (by rfl)]
      have X2 := blk_bel hr B
      have n1 := own_ne O1 X2 (by decide)
      have n2 := own_ne U8 X2 (by decide)
      have n3 := own_ne U12 X2 (by decide)
      refine wp_store_row 48 _ _ rfl b2x #[.int .i64 i, .slice a9 xs.length q9, .int .i64 m.p, .int .i64 m.s, .int .i64 m.e, .int .i64 m.d, .int .i64 m.t, .int .i64 m.q, .int .i64 m.r, .slice p8 bx.length r8, .slice p12 ox.length r12] rfl rfl 48 #[.int .i64 0, .slice none 0 0, .int .i64 0, .int .i64 0, .int .i64 0, .int .i64 0, .int .i64 0, .int .i64 0, .int .i64 0, .slice none 0 0, .slice none 0 0] X2 Tryz.sizeProc rfl (by simp [Value.oneCell']) ?_
      replace B : Below b2x w _ := below_setRow (B.mono (Nat.le_of_lt (blk_lt hr))) (g := b2x) (Nat.le_refl _) #[.int .i64 i, .slice a9 xs.length q9, .int .i64 m.p, .int .i64 m.s, .int .i64 m.e, .int .i64 m.d, .int .i64 m.t, .int .i64 m.q, .int .i64 m.r, .slice p8 bx.length r8, .slice p12 ox.length r12]
      replace O1 := own_other O1 n1 (fun j hj => setRow_other _ _ j #[.int .i64 i, .slice a9 xs.length q9, .int .i64 m.p, .int .i64 m.s, .int .i64 m.e, .int .i64 m.d, .int .i64 m.t, .int .i64 m.q, .int .i64 m.r, .slice p8 bx.length r8, .slice p12 ox.length r12] hj)
      replace U8 := own_other U8 n2 (fun j hj => setRow_other _ _ j #[.int .i64 i, .slice a9 xs.length q9, .int .i64 m.p, .int .i64 m.s, .int .i64 m.e, .int .i64 m.d, .int .i64 m.t, .int .i64 m.q, .int .i64 m.r, .slice p8 bx.length r8, .slice p12 ox.length r12] hj)
      replace U12 := own_other U12 n3 (fun j hj => setRow_other _ _ j #[.int .i64 i, .slice a9 xs.length q9, .int .i64 m.p, .int .i64 m.s, .int .i64 m.e, .int .i64 m.d, .int .i64 m.t, .int .i64 m.q, .int .i64 m.r, .slice p8 bx.length r8, .slice p12 ox.length r12] hj)
      replace X2 := setRow_heap _ _ _ #[.int .i64 i, .slice a9 xs.length q9, .int .i64 m.p, .int .i64 m.s, .int .i64 m.e, .int .i64 m.d, .int .i64 m.t, .int .i64 m.q, .int .i64 m.r, .slice p8 bx.length r8, .slice p12 ox.length r12] _ _ X2
      refine hK.out _ _ (hS _ B (by omega)) (fun hHeld => ?_)
      clear hK
      simp only [Act.put]
      refine wpAnyH_done (by kernel_rfl) ?_ _
      exact NoPanic.normal (hQ _ _ _ _ _ _ _ _ _ _ _ _ _ _ _ _ _ _ _ _ _ B X2 O1 U8 U12 AP)
  · go_simp
    go_wp2_with fail
    have hb : Below w.heap.size w (w.alloc (Obj.cells #[] 9)).drew := ((Below.refl _ _).alloc (Nat.le_refl _) _).drew
    have X9 : (w.alloc (Obj.cells #[] 9)).drew.heap[w.heap.size]? = some (Obj.cells #[] 9) := heap_alloc_new w _
    have hX9 : w.heap.size ≤ w.heap.size := Nat.le_refl _
    generalize (w.alloc (Obj.cells #[] 9)).drew = z31 at hb X9 ⊢
    replace B := hb
    clear hb
    refine hK.out _ _ (hS _ B (by omega)) (fun hHeld => ?_)
    clear hK
    refine wpAnyH_ready (rs := [4, 5]) (by kernel_rfl) (by simp) ?_
    refine AllReadyH.cons rfl (fun K hK => ?_) (AllReadyH.cons rfl (fun K hK => ?_) AllReadyH.nil)
    · go_simp
      go_wp2_with (go_at_call 78; with_reducible refine (sl6copy2_any ao cap xs m _ (R.below B) l4).mono ?_; rintro e z32 ⟨a9, q9, rfl, O1, hb⟩)
      replace O1 := own_mono (B' := w.heap.size) O1 B.size
      replace X9 := blk_bel X9 hb
      replace B := B.trans (hb.mono B.size)
      clear hb
      refine hK.out _ _ (hS _ B (by omega)) (fun hHeld => ?_)
      clear hK
      refine wpAnyH_ready (rs := [5]) (by kernel_rfl) (by simp) ?_
      refine AllReadyH.cons rfl (fun K hK => ?_) AllReadyH.nil
      go_simp
      go_wp2_with fail
      have hb := alloc_bel z32 (Obj.cells #[] 9)
      have X5 : (z32.alloc (Obj.cells #[] 9)).heap[z32.heap.size]? = some (Obj.cells #[] 9) := heap_alloc_new _ _
      have hX5 : w.heap.size ≤ z32.heap.size := B.size
      have n59 : w.heap.size ≠ z32.heap.size := by have := blk_lt X9; omega
      generalize z32.alloc (Obj.cells #[] 9) = z33 at hb X5 ⊢
      obtain ⟨e5, he5⟩ : ∃ q, q = z32.heap.size := ⟨_, rfl⟩
      rw [← he5] at X5 hX5 n59 ⊢
      clear he5
      replace O1 := own_below O1 hb
      replace X9 := blk_bel X9 hb
      replace B := B.trans (hb.mono B.size)
      clear hb
      refine hK.out _ _ (hS _ B (by omega)) (fun hHeld => ?_)
      clear hK
      refine wpAnyH_ready (rs := [8]) (by kernel_rfl) (by simp) ?_
      refine AllReadyH.cons rfl (fun K hK => ?_) AllReadyH.nil
      have SS := Rb.below B
      refine step_append_empty _ rfl _ _ 31 rfl 9 i0 _ 16 Tryz.underlying31 hi hz0 hz1 hz2 rfl (e5) rfl X5 ab bx.length cb (stv bx) rfl (stv_length _) SS.nilcap SS.cells (stv_one bx) (by unfold maxLen; omega) (by omega) w.heap.size hX5 ?_
      intro y8 z34 U8 hb A
      obtain ⟨p8, r8, rfl⟩ := own_form U8
      have ap8 : ∀ k, (Value.slice p8 bx.length r8).ownBlock = some k → k ≠ w.heap.size := fun k hk => by
        have l9 := blk_lt X9
        rcases A k hk with h | h <;> omega
      clear A
      replace O1 := own_below O1 hb
      replace X5 := blk_bel X5 hb
      replace X9 := blk_bel X9 hb
      replace B := B.trans (hb.mono B.size)
      clear hb SS
      refine hK.out _ _ (hS _ B (by omega)) (fun hHeld => ?_)
      clear hK
      simp only [Act.put, List.setIfInBounds_toArray]
      refine wpAnyH_ready (rs := [12]) (by kernel_rfl) (by simp) ?_
      refine AllReadyH.cons rfl (fun K hK => ?_) AllReadyH.nil
      have SS := Ro.below B
      refine step_append_empty _ rfl _ _ 31 rfl 9 i0 _ 16 Tryz.underlying31 hi hz0 hz1 hz2 rfl (w.heap.size) rfl X9 ac ox.length cc (stv ox) rfl (stv_length _) SS.nilcap SS.cells (stv_one ox) (by unfold maxLen; omega) (by omega) w.heap.size hX9 ?_
      intro y12 z35 U12 hb A
      obtain ⟨p12, r12, rfl⟩ := own_form U12
      have AP : ∀ k, (Value.slice p12 ox.length r12).ownBlock = some k → (Value.slice p8 bx.length r8).ownBlock ≠ some k := fun k hk h8 => by
        have l8 := (U8.lt k h8).2
        have n8 := ap8 k h8
        rcases A k hk with h | h <;> omega
      clear A
      replace O1 := own_below O1 hb
      replace U8 := own_below U8 hb
      replace X5 := blk_bel X5 hb
      replace X9 := blk_bel X9 hb
      replace B := B.trans (hb.mono B.size)
      clear hb SS
      refine hK.out _ _ (hS _ B (by omega)) (fun hHeld => ?_)
      clear hK
      simp only [Act.put]
      refine wpAnyH_take (i := 13) (oi := ({ dst := some 16, op := Op.build 48 #[(0, Operand.tmp 4), (1, Operand.tmp 7), (2, Operand.tmp 11), (3, Operand.tmp 15)], type := 48, pos := "l12_proc.go:24", after := #[{ on := 1, ground := Ground.data }, { on := 4, ground := Ground.data }, { on := 8, ground := Ground.data }, { on := 12, ground := Ground.data }], guard := none } : Oper)) (v := .agg #[.int .i64 i, .slice a9 xs.length q9, .int .i64 m.p, .int .i64 m.s, .int .i64 m.e, .int .i64 m.d, .int .i64 m.t, .int .i64 m.q, .int .i64 m.r, .slice p8 bx.length r8, .slice p12 ox.length r12]) rfl (by kernel_rfl) (by kernel_rfl) (by kernel_rfl) (fun _ _ _ h => h) (Or.inl ⟨by rfl, by intro w hSw; go_simp⟩) (by assumption) ?_
      simp only [Act.put]
      refine wpAnyH_ready (rs := [14]) (by kernel_rfl) (by simp) ?_
      refine AllReadyH.cons rfl (fun K hK => ?_) AllReadyH.nil
      rw [if_pos (by rfl)]
      have X2 := blk_bel hr B
      have n1 := own_ne O1 X2 (by decide)
      have n2 := own_ne U8 X2 (by decide)
      have n3 := own_ne U12 X2 (by decide)
      refine wp_store_row 48 _ _ rfl b2x #[.int .i64 i, .slice a9 xs.length q9, .int .i64 m.p, .int .i64 m.s, .int .i64 m.e, .int .i64 m.d, .int .i64 m.t, .int .i64 m.q, .int .i64 m.r, .slice p8 bx.length r8, .slice p12 ox.length r12] rfl rfl 48 #[.int .i64 0, .slice none 0 0, .int .i64 0, .int .i64 0, .int .i64 0, .int .i64 0, .int .i64 0, .int .i64 0, .int .i64 0, .slice none 0 0, .slice none 0 0] X2 Tryz.sizeProc rfl (by simp [Value.oneCell']) ?_
      replace B : Below b2x w _ := below_setRow (B.mono (Nat.le_of_lt (blk_lt hr))) (g := b2x) (Nat.le_refl _) #[.int .i64 i, .slice a9 xs.length q9, .int .i64 m.p, .int .i64 m.s, .int .i64 m.e, .int .i64 m.d, .int .i64 m.t, .int .i64 m.q, .int .i64 m.r, .slice p8 bx.length r8, .slice p12 ox.length r12]
      replace O1 := own_other O1 n1 (fun j hj => setRow_other _ _ j #[.int .i64 i, .slice a9 xs.length q9, .int .i64 m.p, .int .i64 m.s, .int .i64 m.e, .int .i64 m.d, .int .i64 m.t, .int .i64 m.q, .int .i64 m.r, .slice p8 bx.length r8, .slice p12 ox.length r12] hj)
      replace U8 := own_other U8 n2 (fun j hj => setRow_other _ _ j #[.int .i64 i, .slice a9 xs.length q9, .int .i64 m.p, .int .i64 m.s, .int .i64 m.e, .int .i64 m.d, .int .i64 m.t, .int .i64 m.q, .int .i64 m.r, .slice p8 bx.length r8, .slice p12 ox.length r12] hj)
      replace U12 := own_other U12 n3 (fun j hj => setRow_other _ _ j #[.int .i64 i, .slice a9 xs.length q9, .int .i64 m.p, .int .i64 m.s, .int .i64 m.e, .int .i64 m.d, .int .i64 m.t, .int .i64 m.q, .int .i64 m.r, .slice p8 bx.length r8, .slice p12 ox.length r12] hj)
      replace X2 := setRow_heap _ _ _ #[.int .i64 i, .slice a9 xs.length q9, .int .i64 m.p, .int .i64 m.s, .int .i64 m.e, .int .i64 m.d, .int .i64 m.t, .int .i64 m.q, .int .i64 m.r, .slice p8 bx.length r8, .slice p12 ox.length r12] _ _ X2
      refine hK.out _ _ (hS _ B (by omega)) (fun hHeld => ?_)
      clear hK
      simp only [Act.put]
      refine wpAnyH_done (by kernel_rfl) ?_ _
      exact NoPanic.normal (hQ _ _ _ _ _ _ _ _ _ _ _ _ _ _ _ _ _ _ _ _ _ B X2 O1 U8 U12 AP)
    · go_simp
      go_wp2_with fail
      have hb := alloc_bel z31 (Obj.cells #[] 9)
      have X5 : (z31.alloc (Obj.cells #[] 9)).heap[z31.heap.size]? = some (Obj.cells #[] 9) := heap_alloc_new _ _
      have hX5 : w.heap.size ≤ z31.heap.size := B.size
      have n59 : w.heap.size ≠ z31.heap.size := by have := blk_lt X9; omega
      generalize z31.alloc (Obj.cells #[] 9) = z37 at hb X5 ⊢
      obtain ⟨e5, he5⟩ : ∃ q, q = z31.heap.size := ⟨_, rfl⟩
      rw [← he5] at X5 hX5 n59 ⊢
      clear he5
      replace X9 := blk_bel X9 hb
      replace B := B.trans (hb.mono B.size)
      clear hb
      refine hK.out _ _ (hS _ B (by omega)) (fun hHeld => ?_)
      clear hK
      refine wpAnyH_ready (rs := [4]) (by kernel_rfl) (by simp) ?_
      refine AllReadyH.cons rfl (fun K hK => ?_) AllReadyH.nil
      go_simp
      go_wp2_with (go_at_call 78; with_reducible refine (sl6copy2_any ao cap xs m _ (R.below B) l4).mono ?_; rintro e z38 ⟨a9, q9, rfl, O1, hb⟩)
      replace O1 := own_mono (B' := w.heap.size) O1 B.size
      replace X5 := blk_bel X5 hb
      replace X9 := blk_bel X9 hb
      replace B := B.trans (hb.mono B.size)
      clear hb
      refine hK.out _ _ (hS _ B (by omega)) (fun hHeld => ?_)
      clear hK
      refine wpAnyH_ready (rs := [8]) (by kernel_rfl) (by simp) ?_
      refine AllReadyH.cons rfl (fun K hK => ?_) AllReadyH.nil
      have SS := Rb.below B
      refine step_append_empty _ rfl _ _ 31 rfl 9 i0 _ 16 Tryz.underlying31 hi hz0 hz1 hz2 rfl (e5) rfl X5 ab bx.length cb (stv bx) rfl (stv_length _) SS.nilcap SS.cells (stv_one bx) (by unfold maxLen; omega) (by omega) w.heap.size hX5 ?_
      intro y8 z39 U8 hb A
      obtain ⟨p8, r8, rfl⟩ := own_form U8
      have ap8 : ∀ k, (Value.slice p8 bx.length r8).ownBlock = some k → k ≠ w.heap.size := fun k hk => by
        have l9 := blk_lt X9
        rcases A k hk with h | h <;> omega
      clear A
      replace O1 := own_below O1 hb
      replace X5 := blk_bel X5 hb
      replace X9 := blk_bel X9 hb
      replace B := B.trans (hb.mono B.size)
      clear hb SS
      refine hK.out _ _ (hS _ B (by omega)) (fun hHeld => ?_)
      clear hK
      simp only [Act.put, List.setIfInBounds_toArray]
      refine wpAnyH_ready (rs := [12]) (by kernel_rfl) (by simp) ?_
      refine AllReadyH.cons rfl (fun K hK => ?_) AllReadyH.nil
      have SS := Ro.below B
      refine step_append_empty _ rfl _ _ 31 rfl 9 i0 _ 16 Tryz.underlying31 hi hz0 hz1 hz2 rfl (w.heap.size) rfl X9 ac ox.length cc (stv ox) rfl (stv_length _) SS.nilcap SS.cells (stv_one ox) (by unfold maxLen; omega) (by omega) w.heap.size hX9 ?_
      intro y12 z40 U12 hb A
      obtain ⟨p12, r12, rfl⟩ := own_form U12
      have AP : ∀ k, (Value.slice p12 ox.length r12).ownBlock = some k → (Value.slice p8 bx.length r8).ownBlock ≠ some k := fun k hk h8 => by
        have l8 := (U8.lt k h8).2
        have n8 := ap8 k h8
        rcases A k hk with h | h <;> omega
      clear A
      replace O1 := own_below O1 hb
      replace U8 := own_below U8 hb
      replace X5 := blk_bel X5 hb
      replace X9 := blk_bel X9 hb
      replace B := B.trans (hb.mono B.size)
      clear hb SS
      refine hK.out _ _ (hS _ B (by omega)) (fun hHeld => ?_)
      clear hK
      simp only [Act.put]
      refine wpAnyH_take (i := 13) (oi := ({ dst := some 16, op := Op.build 48 #[(0, Operand.tmp 4), (1, Operand.tmp 7), (2, Operand.tmp 11), (3, Operand.tmp 15)], type := 48, pos := "l12_proc.go:24", after := #[{ on := 1, ground := Ground.data }, { on := 4, ground := Ground.data }, { on := 8, ground := Ground.data }, { on := 12, ground := Ground.data }], guard := none } : Oper)) (v := .agg #[.int .i64 i, .slice a9 xs.length q9, .int .i64 m.p, .int .i64 m.s, .int .i64 m.e, .int .i64 m.d, .int .i64 m.t, .int .i64 m.q, .int .i64 m.r, .slice p8 bx.length r8, .slice p12 ox.length r12]) rfl (by kernel_rfl) (by kernel_rfl) (by kernel_rfl) (fun _ _ _ h => h) (Or.inl ⟨by rfl, by intro w hSw; go_simp⟩) (by assumption) ?_
      simp only [Act.put]
      refine wpAnyH_ready (rs := [14]) (by kernel_rfl) (by simp) ?_
      refine AllReadyH.cons rfl (fun K hK => ?_) AllReadyH.nil
      rw [if_pos (by rfl)]
      have X2 := blk_bel hr B
      have n1 := own_ne O1 X2 (by decide)
      have n2 := own_ne U8 X2 (by decide)
      have n3 := own_ne U12 X2 (by decide)
      refine wp_store_row 48 _ _ rfl b2x #[.int .i64 i, .slice a9 xs.length q9, .int .i64 m.p, .int .i64 m.s, .int .i64 m.e, .int .i64 m.d, .int .i64 m.t, .int .i64 m.q, .int .i64 m.r, .slice p8 bx.length r8, .slice p12 ox.length r12] rfl rfl 48 #[.int .i64 0, .slice none 0 0, .int .i64 0, .int .i64 0, .int .i64 0, .int .i64 0, .int .i64 0, .int .i64 0, .int .i64 0, .slice none 0 0, .slice none 0 0] X2 Tryz.sizeProc rfl (by simp [Value.oneCell']) ?_
      replace B : Below b2x w _ := below_setRow (B.mono (Nat.le_of_lt (blk_lt hr))) (g := b2x) (Nat.le_refl _) #[.int .i64 i, .slice a9 xs.length q9, .int .i64 m.p, .int .i64 m.s, .int .i64 m.e, .int .i64 m.d, .int .i64 m.t, .int .i64 m.q, .int .i64 m.r, .slice p8 bx.length r8, .slice p12 ox.length r12]
      replace O1 := own_other O1 n1 (fun j hj => setRow_other _ _ j #[.int .i64 i, .slice a9 xs.length q9, .int .i64 m.p, .int .i64 m.s, .int .i64 m.e, .int .i64 m.d, .int .i64 m.t, .int .i64 m.q, .int .i64 m.r, .slice p8 bx.length r8, .slice p12 ox.length r12] hj)
      replace U8 := own_other U8 n2 (fun j hj => setRow_other _ _ j #[.int .i64 i, .slice a9 xs.length q9, .int .i64 m.p, .int .i64 m.s, .int .i64 m.e, .int .i64 m.d, .int .i64 m.t, .int .i64 m.q, .int .i64 m.r, .slice p8 bx.length r8, .slice p12 ox.length r12] hj)
      replace U12 := own_other U12 n3 (fun j hj => setRow_other _ _ j #[.int .i64 i, .slice a9 xs.length q9, .int .i64 m.p, .int .i64 m.s, .int .i64 m.e, .int .i64 m.d, .int .i64 m.t, .int .i64 m.q, .int .i64 m.r, .slice p8 bx.length r8, .slice p12 ox.length r12] hj)
      replace X2 := setRow_heap _ _ _ #[.int .i64 i, .slice a9 xs.length q9, .int .i64 m.p, .int .i64 m.s, .int .i64 m.e, .int .i64 m.d, .int .i64 m.t, .int .i64 m.q, .int .i64 m.r, .slice p8 bx.length r8, .slice p12 ox.length r12] _ _ X2
      refine hK.out _ _ (hS _ B (by omega)) (fun hHeld => ?_)
      clear hK
      simp only [Act.put]
      refine wpAnyH_done (by kernel_rfl) ?_ _
      exact NoPanic.normal (hQ _ _ _ _ _ _ _ _ _ _ _ _ _ _ _ _ _ _ _ _ _ B X2 O1 U8 U12 AP)

set_option maxRecDepth 100000 in
set_option maxHeartbeats 6400000 in
theorem s12copy_any (v vb vo : Value) (i : Int) (xs : List Nd) (m : Mc) (bx ox : List ByteArray) (w : World) (R : NRow w v xs) (Rb : StRow w vb bx) (Ro : StRow w vo ox) (l4 : xs.length ≤ 2097152) (l5 : bx.length ≤ 2097152) (l6 : ox.length ≤ 2097152) :
    Calls Tryz.prog 52 #[.agg #[.int .i64 i, v, .int .i64 m.p, .int .i64 m.s, .int .i64 m.e, .int .i64 m.d, .int .i64 m.t, .int .i64 m.q, .int .i64 m.r, vb, vo]] w fun e w' => ∃ v1 v2 v3, e = .returned (.agg #[.int .i64 i, v1, .int .i64 m.p, .int .i64 m.s, .int .i64 m.e, .int .i64 m.d, .int .i64 m.t, .int .i64 m.q, .int .i64 m.r, v2, v3]) ∧ w'.ownsRow w.heap.size 119 5 v1 xs.length (ncs xs) ∧ w'.ownsRow w.heap.size 9 1 v2 bx.length (stv bx) ∧ w'.ownsRow w.heap.size 9 1 v3 ox.length (stv ox) ∧ (∀ g, v3.ownBlock = some g → v2.ownBlock ≠ some g) ∧ Below w.heap.size w w' := by
  obtain ⟨ao, cap, rfl⟩ : ∃ ao cap, v = .slice ao xs.length cap := by obtain ⟨ao, cap, rfl, _⟩ := R; exact ⟨ao, cap, rfl⟩
  obtain ⟨ab, cb, rfl⟩ := Rb.small
  obtain ⟨ac, cc, rfl⟩ := Ro.small
  obtain ⟨hB0, hx0, hy0⟩ := two_boxes w (Obj.cells #[.int .i64 i, .slice ao xs.length cap, .int .i64 m.p, .int .i64 m.s, .int .i64 m.e, .int .i64 m.d, .int .i64 m.t, .int .i64 m.q, .int .i64 m.r, .slice ab bx.length cb, .slice ac ox.length cc] 48) (Obj.cells #[.int .i64 0, .slice none 0 0, .int .i64 0, .int .i64 0, .int .i64 0, .int .i64 0, .int .i64 0, .int .i64 0, .int .i64 0, .slice none 0 0, .slice none 0 0] 48)
  have hsz : ((w.alloc (Obj.cells #[.int .i64 i, .slice ao xs.length cap, .int .i64 m.p, .int .i64 m.s, .int .i64 m.e, .int .i64 m.d, .int .i64 m.t, .int .i64 m.q, .int .i64 m.r, .slice ab bx.length cb, .slice ac ox.length cc] 48)).alloc (Obj.cells #[.int .i64 0, .slice none 0 0, .int .i64 0, .int .i64 0, .int .i64 0, .int .i64 0, .int .i64 0, .int .i64 0, .int .i64 0, .slice none 0 0, .slice none 0 0] 48)).heap.size = w.heap.size + 2 := by simp
  go_enter Tryz.func52, Tryz.ntmps52
  clear hsz
  go_wp2_with fail
  refine s12copy_r1 w.heap.size (w.heap.size + 1) ao ab ac cap cb cc i xs m bx ox _ _ hx0 hy0 (by omega) (R.below hB0) (Rb.below hB0) (Ro.below hB0) l4 l5 l6 ?_
  intro _ _ _ _ _ _ _ _ _ _ _ _ _ _ a9 p8 p12 q9 r8 r12 W hb h2 O1 O2 O3 AP
  have hB := hB0.trans (hb.mono (by omega))
  go_wp2
  exact bodyPost_ret (results_cell_row rfl _ _ (w.heap.size + 1) 48 _ (0, 0) _ rfl h2 Tryz.underlying48 rfl Tryz.sizeProc) rfl ⟨_, _, _, rfl, own_mono O1 (by simp; omega), own_mono O2 (by simp; omega), own_mono O3 (by simp; omega), AP, hB⟩
end Go.Proofs.YtdkkpopnoeapdaaGreatDoor
