/-
  Texts that stood by themselves, laid into one.
-/
import Derived.Test.YtjnhocefnfmhmaaGreatDoorPkM
/-
  The contract of spec.ProcPack. No condition.
-/
namespace Go.Proofs.YtjnhocefnfmhmaaGreatDoor
open Go.RowKit

theorem wp_bytes_text9 {P : Program} (w : World) {o : Oper} {a : Act} {K : Act → World → Prop} {Q : Exit → Act → World → Prop} (x : Operand) (src dst e : TypeId) (ho : o.op = .convert src dst x)
    (hs : P.underlying src = some (.slice e)) (hd : P.underlying dst = some .string) (he : P.underlying e = some (.int .u8)) (ao : Option Addr) (n c : Nat) (xs : List Int) (hx : a.eval x = .slice ao n c) (hl : xs.length = n)
    (hc : n ≠ 0 → ∃ g o', ao = some ⟨g, o', none⟩ ∧ ∀ i, i < n → w.cell? ⟨g, o' + i, none⟩ = some (.int .u8 (xs.getD i 0)))
    (h : K (a.put o.dst (.string (strOfNums xs))) w) : Oper.wp P o a w K Q := by
  have hrun : (convert src dst (.slice ao n c)).run P w = .ok (.string (strOfNums xs)) w := by
    by_cases h0 : n = 0
    · subst h0
      have : xs = [] := List.eq_nil_of_length_eq_zero hl
      subst this
      cases ao with
      | none => exact run_convert_bytes_nil w src e hs he 0 c dst hd
      | some ad => exact run_convert_bytes_back w src dst e ad c [] hs he hd (fun j hj => absurd hj (by simp))
    · obtain ⟨g, o', rfl, hcell⟩ := hc h0
      exact run_convert_bytes_arg w src e hs he g o' n c xs hl hcell dst hd
  unfold Oper.wp
  simp [execOp, ho, hx, hrun, Result.andThen]
  exact h

set_option maxRecDepth 100000 in
set_option maxHeartbeats 6400000 in
theorem spk_r5 {i : Int} {v : Value} {m : Mc} {t0 t1 t2 t4 t5 t6 t7 t9 t10 t11 t12 t13 t14 t15 t16 t17 t18 t19 t20 t21 t22 t23 t24 t25 t26 t27 t28 t29 t30 t31 t32 t33 t34 t35 : Value} {fs : List Deferred} (b1x B0 : Nat) (u8 : Value) (ab ac : Option Addr) (cb cc : Nat) (bs : List Int) (bx ox : List ByteArray) (W0 w : World) (Q : Exit → Act → World → Prop)
    (hx : w.heap[b1x]? = some (.cells #[.int .i64 i, v, .int .i64 m.p, .int .i64 m.s, .int .i64 m.e, .int .i64 m.d, .int .i64 m.t, .int .i64 m.q, .int .i64 m.r, .slice ab bx.length cb, .slice ac ox.length cc] 49 (0, 0))) (own : w.ownsRow B0 5 1 u8 bs.length (bv bs)) (hB0 : B0 ≤ w.heap.size) (hW : Below W0.heap.size W0 w) (eW : W0.heap.size = B0) (hb1 : b1x < B0) (Rb : StRow W0 (.slice ab bx.length cb) bx) (R2o : StRow W0 (.slice ac ox.length cc) ox) (hzb : ∀ x ∈ bx, x.size ≤ 1048576) (hzo : ∀ x ∈ ox, x.size ≤ 1048576) (lb : bx.length ≤ 20) (lo : ox.length ≤ 40) (l5 : bs.length ≤ 100018)
    (hQ : ∀ u26 u27 u28 u29 u30 u31 u32 u33 u34 u35 (W : World), Below B0 w W → Q .normal ⟨#[t0, t1, t2, .pointer (some ⟨b1x, 0, none⟩), .string (strOfNums (bs ++ ptsL bx ++ ptsL ox)), .bool true, t6, t7, u8, t9, t10, t11, t12, t13, t14, t15, t16, t17, t18, t19, t20, t21, t22, t23, t24, t25, u26, u27, u28, u29, u30, u31, u32, u33, u34, u35], fs⟩ W) :
    (Code.region 5 (List.toArray (({ dst := some 26, op := Op.move (Operand.tmp 8), type := 66, pos := "l12_proc.go:137", after := #[], guard := none } : Oper) :: ({ dst := some 27, op := Op.fieldAddr 49 (Operand.tmp 3) 2, type := 0, pos := "l12_proc.go:137", after := #[], guard := none } : Oper) :: ({ dst := some 28, op := Op.load 31 (Operand.tmp 27), type := 31, pos := "l12_proc.go:137", after := #[{ on := 1, ground := Ground.data }], guard := none } : Oper) :: ({ dst := some 29, op := Op.call { callee := Callee.value (Operand.func 27), args := #[Operand.tmp 28], argTypes := #[31] }, type := 66, pos := "l12_proc.go:137", after := #[{ on := 2, ground := Ground.data }], guard := none } : Oper) :: ({ dst := some 30, op := Op.call { callee := Callee.builtin Builtin.append, args := #[Operand.tmp 26, Operand.tmp 29], argTypes := #[66, 66] }, type := 66, pos := "l12_proc.go:137", after := #[{ on := 0, ground := Ground.data }, { on := 3, ground := Ground.data }, { on := 3, ground := Ground.chain }], guard := none } : Oper) :: ({ dst := some 31, op := Op.fieldAddr 49 (Operand.tmp 3) 3, type := 0, pos := "l12_proc.go:137", after := #[], guard := none } : Oper) :: ({ dst := some 32, op := Op.load 31 (Operand.tmp 31), type := 31, pos := "l12_proc.go:137", after := #[{ on := 5, ground := Ground.data }], guard := none } : Oper) :: ({ dst := some 33, op := Op.call { callee := Callee.value (Operand.func 27), args := #[Operand.tmp 32], argTypes := #[31] }, type := 66, pos := "l12_proc.go:137", after := #[{ on := 6, ground := Ground.data }, { on := 4, ground := Ground.chain }], guard := none } : Oper) :: ({ dst := some 34, op := Op.call { callee := Callee.builtin Builtin.append, args := #[Operand.tmp 30, Operand.tmp 33], argTypes := #[66, 66] }, type := 66, pos := "l12_proc.go:137", after := #[{ on := 4, ground := Ground.data }, { on := 7, ground := Ground.data }, { on := 7, ground := Ground.chain }], guard := none } : Oper) :: ({ dst := some 35, op := Op.convert 66 9 (Operand.tmp 34), type := 9, pos := "l12_proc.go:137", after := #[{ on := 8, ground := Ground.data }], guard := none } : Oper) :: ({ dst := some 4, op := Op.assign (Operand.tmp 35), type := 9, pos := "l12_proc.go:137", after := #[{ on := 9, ground := Ground.data }, { on := 8, ground := Ground.chain }, { on := 0, ground := Ground.phase }, { on := 1, ground := Ground.phase }, { on := 2, ground := Ground.phase }, { on := 3, ground := Ground.phase }, { on := 4, ground := Ground.phase }, { on := 5, ground := Ground.phase }, { on := 6, ground := Ground.phase }, { on := 7, ground := Ground.phase }, { on := 8, ground := Ground.phase }, { on := 9, ground := Ground.phase }], guard := none } : Oper) :: ({ dst := some 5, op := Op.assign (Operand.const (Value.bool true)), type := 4, pos := "l12_proc.go:137", after := #[{ on := 10, ground := Ground.chain }, { on := 0, ground := Ground.phase }, { on := 1, ground := Ground.phase }, { on := 2, ground := Ground.phase }, { on := 3, ground := Ground.phase }, { on := 4, ground := Ground.phase }, { on := 5, ground := Ground.phase }, { on := 6, ground := Ground.phase }, { on := 7, ground := Ground.phase }, { on := 8, ground := Ground.phase }, { on := 9, ground := Ground.phase }, { on := 10, ground := Ground.phase }], guard := none } : Oper) :: [])) true).wp Tryz.prog Q ⟨#[t0, t1, t2, .pointer (some ⟨b1x, 0, none⟩), t4, t5, t6, t7, u8, t9, t10, t11, t12, t13, t14, t15, t16, t17, t18, t19, t20, t21, t22, t23, t24, t25, t26, t27, t28, t29, t30, t31, t32, t33, t34, t35], fs⟩ w := by
  obtain ⟨i0, hi, hz0, hz1, hz2⟩ := info_parts Tryz.infoU8
  have hlbx := ptsL_len bx hzb
  have hlox := ptsL_len ox hzo
  have hl6 : (bs ++ ptsL bx).length ≤ 50000000 := by rw [List.length_append]; omega
  have hS : ∀ w', Below B0 w w' → (w'.cell? ⟨b1x, 9, none⟩ = some (.slice ab bx.length cb) ∧ w'.cell? ⟨b1x, 10, none⟩ = some (.slice ac ox.length cc)) := fun w' hb => by
    have g := (hb.block _ hb1).trans hx
    exact ⟨cell_of_row w' _ 9 _ _ _ g, cell_of_row w' _ 10 _ _ _ g⟩
  have Bz : ∀ {w' : World}, Below B0 w w' → Below W0.heap.size W0 w' := fun hb => hW.trans (by rw [eW]; exact hb)
  have B : Below w.heap.size w w.drew := drew_bel w
  refine wp_region_noPanic ?_
  refine wp_region_held_drew (S := fun w' => w'.cell? ⟨b1x, 9, none⟩ = some (.slice ab bx.length cb) ∧ w'.cell? ⟨b1x, 10, none⟩ = some (.slice ac ox.length cc)) (by kernel_rfl) (hS _ (B.mono hB0)) (fun hHeld => ?_)
  refine wpAnyH_take (i := 0) (oi := ({ dst := some 26, op := Op.move (Operand.tmp 8), type := 66, pos := "l12_proc.go:137", after := #[], guard := none } : Oper)) (v := u8) rfl (by kernel_rfl) (by kernel_rfl) (by kernel_rfl) (fun _ _ _ h => h) (Or.inl ⟨by rfl, by intro w hSw; go_simp⟩) (by assumption) ?_
  simp only [Act.put, List.setIfInBounds_toArray, List.set_cons_zero, List.set_cons_succ]
  refine wpAnyH_take (i := 1) (oi := ({ dst := some 27, op := Op.fieldAddr 49 (Operand.tmp 3) 2, type := 0, pos := "l12_proc.go:137", after := #[], guard := none } : Oper)) (v := .pointer (some ⟨b1x, 9, none⟩)) rfl (by kernel_rfl) (by kernel_rfl) (by kernel_rfl) (fun _ _ _ h => h) (Or.inl ⟨by rfl, by intro w hSw; go_simp⟩) (by assumption) ?_
  simp only [Act.put, List.setIfInBounds_toArray, List.set_cons_zero, List.set_cons_succ]
  refine wpAnyH_take (i := 2) (oi := ({ dst := some 28, op := Op.load 31 (Operand.tmp 27), type := 31, pos := "l12_proc.go:137", after := #[{ on := 1, ground := Ground.data }], guard := none } : Oper)) (v := .slice ab bx.length cb) rfl (by kernel_rfl) (by kernel_rfl) (by kernel_rfl) (fun _ _ _ h => h) (Or.inl ⟨by rfl, by intro w hSw; go_simp⟩) (by assumption) ?_
  simp only [Act.put, List.setIfInBounds_toArray, List.set_cons_zero, List.set_cons_succ]
  refine wpAnyH_take (i := 5) (oi := ({ dst := some 31, op := Op.fieldAddr 49 (Operand.tmp 3) 3, type := 0, pos := "l12_proc.go:137", after := #[], guard := none } : Oper)) (v := .pointer (some ⟨b1x, 10, none⟩)) rfl (by kernel_rfl) (by kernel_rfl) (by kernel_rfl) (fun _ _ _ h => h) (Or.inl ⟨by rfl, by intro w hSw; go_simp⟩) (by assumption) ?_
  simp only [Act.put, List.setIfInBounds_toArray, List.set_cons_zero, List.set_cons_succ]
  refine wpAnyH_take (i := 6) (oi := ({ dst := some 32, op := Op.load 31 (Operand.tmp 31), type := 31, pos := "l12_proc.go:137", after := #[{ on := 5, ground := Ground.data }], guard := none } : Oper)) (v := .slice ac ox.length cc) rfl (by kernel_rfl) (by kernel_rfl) (by kernel_rfl) (fun _ _ _ h => h) (Or.inl ⟨by rfl, by intro w hSw; go_simp⟩) (by assumption) ?_
  simp only [Act.put, List.setIfInBounds_toArray, List.set_cons_zero, List.set_cons_succ]
  refine wpAnyH_ready (rs := [3]) (by kernel_rfl) (by simp) ?_
  refine AllReadyH.cons rfl (fun K hK => ?_) AllReadyH.nil
  go_simp
  go_wp2_with (go_at_call 27; with_reducible refine (s12texts_any _ bx _ (Rb.below (Bz (B.mono hB0))) hzb (by omega)).mono ?_; rintro e wA ⟨yA, rfl, oA, hb⟩)
  obtain ⟨pA, qA, rfl⟩ := own_form oA
  replace B := B.trans (hb.mono B.size)
  have oB := own_below own B
  clear hb
  refine hK.out _ _ (hS _ (B.mono hB0)) (fun hHeld => ?_)
  clear hK
  refine wpAnyH_ready (rs := [4]) (by kernel_rfl) (by simp) ?_
  refine AllReadyH.cons rfl (fun K hK => ?_) AllReadyH.nil
  refine step_append_own_any _ rfl _ _ 66 rfl B0 5 i0 (.int .u8 0) 1 1 Tryz.underlying66 hi hz0 hz1 hz2 rfl (by decide) _ bs.length (bv bs) rfl oB _ (ptsL bx).length _ (bv (ptsL bx)) rfl (by rw [bv_length]; simp) (own_none8 oA) (own_news8 oA (bv_length _)) (ints_oneCell .u8 _) (by unfold maxLen; omega) (by omega) (Nat.le_trans hB0 B.size) ?_
  intro y2 w2 o2 hgr
  have C := (Below.refl B0 wA).grown hgr (Nat.le_trans hB0 B.size) (fun k hk => (oB.lt k hk).1)
  replace B : Below B0 w w2 := (B.mono hB0).trans C
  rw [← List.length_append, ← bv_append] at o2
  clear oA oB hgr C
  refine hK.out _ _ (hS _ B) (fun hHeld => ?_)
  clear hK
  simp only [Act.put, List.setIfInBounds_toArray]
  refine wpAnyH_ready (rs := [7]) (by kernel_rfl) (by simp) ?_
  refine AllReadyH.cons rfl (fun K hK => ?_) AllReadyH.nil
  go_simp
  go_wp2_with (go_at_call 27; with_reducible refine (s12texts_any _ ox _ (R2o.below (Bz B)) hzo lo).mono ?_; rintro e wC ⟨yC, rfl, oC, hb⟩)
  obtain ⟨pC, qC, rfl⟩ := own_form oC
  have oD := own_below o2 hb
  replace B := B.trans (hb.mono (Nat.le_trans hB0 B.size))
  clear hb o2
  refine hK.out _ _ (hS _ B) (fun hHeld => ?_)
  clear hK
  refine wpAnyH_ready (rs := [8]) (by kernel_rfl) (by simp) ?_
  refine AllReadyH.cons rfl (fun K hK => ?_) AllReadyH.nil
  refine step_append_own_any _ rfl _ _ 66 rfl B0 5 i0 (.int .u8 0) 1 1 Tryz.underlying66 hi hz0 hz1 hz2 rfl (by decide) _ (bs ++ ptsL bx).length (bv (bs ++ ptsL bx)) rfl oD _ (ptsL ox).length _ (bv (ptsL ox)) rfl (by rw [bv_length]; simp) (own_none8 oC) (own_news8 oC (bv_length _)) (ints_oneCell .u8 _) (by unfold maxLen; omega) (by omega) (Nat.le_trans hB0 B.size) ?_
  intro y3 w3 o3 hgr
  have C := (Below.refl B0 wC).grown hgr (Nat.le_trans hB0 B.size) (fun k hk => (oD.lt k hk).1)
  replace B : Below B0 w w3 := B.trans C
  rw [← List.length_append, ← bv_append] at o3
  clear oC oD hgr C
  obtain ⟨p3, q3, rfl⟩ := own_form o3
  refine hK.out _ _ (hS _ B) (fun hHeld => ?_)
  clear hK
  simp only [Act.put, List.setIfInBounds_toArray]
  have hT := own_text o3
  refine wpAnyH_ready (rs := [9]) (by kernel_rfl) (by simp) ?_
  refine AllReadyH.cons rfl (fun K hK => ?_) AllReadyH.nil
  rw [if_pos (by rfl)]
  refine wp_bytes_text9 _ _ 66 9 5 rfl Tryz.underlying66 Tryz.underlying9 Tryz.underlying5 p3 _ q3 (bs ++ ptsL bx ++ ptsL ox) rfl rfl hT ?_
  refine hK.out _ _ (hS _ B) (fun hHeld => ?_)
  clear hK
  simp only [Act.put]
  refine wpAnyH_take (i := 10) (oi := ({ dst := some 4, op := Op.assign (Operand.tmp 35), type := 9, pos := "l12_proc.go:137", after := #[{ on := 9, ground := Ground.data }, { on := 8, ground := Ground.chain }, { on := 0, ground := Ground.phase }, { on := 1, ground := Ground.phase }, { on := 2, ground := Ground.phase }, { on := 3, ground := Ground.phase }, { on := 4, ground := Ground.phase }, { on := 5, ground := Ground.phase }, { on := 6, ground := Ground.phase }, { on := 7, ground := Ground.phase }, { on := 8, ground := Ground.phase }, { on := 9, ground := Ground.phase }], guard := none } : Oper)) (v := .string (strOfNums (bs ++ ptsL bx ++ ptsL ox))) rfl (by kernel_rfl) (by kernel_rfl) (by kernel_rfl) (fun _ _ _ h => h) (Or.inl ⟨by rfl, by intro w hSw; go_simp⟩) (by assumption) ?_
  simp only [Act.put]
  refine wpAnyH_take (i := 11) (oi := ({ dst := some 5, op := Op.assign (Operand.const (Value.bool true)), type := 4, pos := "l12_proc.go:137", after := #[{ on := 10, ground := Ground.chain }, { on := 0, ground := Ground.phase }, { on := 1, ground := Ground.phase }, { on := 2, ground := Ground.phase }, { on := 3, ground := Ground.phase }, { on := 4, ground := Ground.phase }, { on := 5, ground := Ground.phase }, { on := 6, ground := Ground.phase }, { on := 7, ground := Ground.phase }, { on := 8, ground := Ground.phase }, { on := 9, ground := Ground.phase }, { on := 10, ground := Ground.phase }], guard := none } : Oper)) (v := .bool true) rfl (by kernel_rfl) (by kernel_rfl) (by kernel_rfl) (fun _ _ _ h => h) (Or.inl ⟨by rfl, by intro w hSw; go_simp⟩) (by assumption) ?_
  simp only [Act.put]
  refine wpAnyH_done (by kernel_rfl) ?_ _
  exact NoPanic.normal (hQ _ _ _ _ _ _ _ _ _ _ _ B)

set_option maxRecDepth 100000 in
set_option maxHeartbeats 6400000 in
theorem sprocpack_any (v1 v2 v3 v vb vo : Value) (ns : List Nd) (is : List In) (ds : List Df) (i : Int) (xs : List Nd) (m : Mc) (bx ox : List ByteArray) (w : World) (R1 : NRow w v1 ns) (R2 : InRow w v2 is) (R3 : DfRow w v3 ds) (R : NRow w v xs) (Rb : StRow w vb bx) (Ro : StRow w vo ox) (hzb : ∀ x ∈ bx, x.size ≤ 1048576) (hzo : ∀ x ∈ ox, x.size ≤ 1048576) :
    Calls Tryz.prog 7 #[.agg #[v1, v2, v3], .agg #[.int .i64 i, v, .int .i64 m.p, .int .i64 m.s, .int .i64 m.e, .int .i64 m.d, .int .i64 m.t, .int .i64 m.q, .int .i64 m.r, vb, vo]] w fun e w' => e = .returned (.tuple #[.string (ppR ns is ds i xs m bx ox), .bool (procB ns is ds i xs m bx ox)]) ∧ Below w.heap.size w w' := by
  have hz7 : ∀ x ∈ bx, x.size ≤ 140737488351232 := fun x hx => Nat.le_trans (hzb x hx) (by decide)
  obtain ⟨ao, cap, rfl⟩ : ∃ ao cap, v = .slice ao xs.length cap := by obtain ⟨ao, cap, rfl, _⟩ := R; exact ⟨ao, cap, rfl⟩
  obtain ⟨a1, c1, rfl⟩ := R1.small
  obtain ⟨a2, c2, rfl⟩ := R2.small
  obtain ⟨a3, c3, rfl⟩ := R3.small
  obtain ⟨ab, cb, rfl⟩ := Rb.small
  obtain ⟨ac, cc, rfl⟩ := Ro.small
  obtain ⟨hB0, hk0, hx0⟩ := two_boxes w (Obj.cells #[.slice a1 ns.length c1, .slice a2 is.length c2, .slice a3 ds.length c3] 44) (Obj.cells #[.int .i64 i, .slice ao xs.length cap, .int .i64 m.p, .int .i64 m.s, .int .i64 m.e, .int .i64 m.d, .int .i64 m.t, .int .i64 m.q, .int .i64 m.r, .slice ab bx.length cb, .slice ac ox.length cc] 49)
  go_enter Tryz.func7, Tryz.ntmps7
  go_wp2_with (first
    | (refine wpList_load_row rfl 44 _ rfl w.heap.size rfl 44 #[.slice a1 ns.length c1, .slice a2 is.length c2, .slice a3 ds.length c3] (0, 0) _ hk0 Tryz.underlying44 rfl Tryz.sizeCode ?_)
    | (refine wpList_load_row rfl 49 _ rfl (w.heap.size + 1) rfl 49 #[.int .i64 i, .slice ao xs.length cap, .int .i64 m.p, .int .i64 m.s, .int .i64 m.e, .int .i64 m.d, .int .i64 m.t, .int .i64 m.q, .int .i64 m.r, .slice ab bx.length cb, .slice ac ox.length cc] (0, 0) _ hx0 Tryz.underlying49 rfl Tryz.sizeProc ?_))
  refine (sprocok_any _ _ _ _ _ _ ns is ds i xs m bx ox _ (R1.below hB0) (R2.below hB0) (R3.below hB0) (R.below hB0) (Rb.below hB0) (Ro.below hB0) hz7).mono ?_
  rintro e w1 ⟨rfl, hb1⟩
  have hB1 := hB0.trans (hb1.mono hB0.size)
  have hk1 := blk_bel hk0 hb1
  have hx1 := blk_bel hx0 hb1
  clear hB0 hk0 hx0 hb1
  cases hm : procB ns is ds i xs m bx ox with
  | false =>
    have HR : Hid (ppR ns is ds i xs m bx ox = ByteArray.empty) := by unfold Hid ppR; rw [hm]; rfl
    go_wp2
    go_ret2
    exact ⟨by rw [HR.out, hm]; rfl, hB1⟩
  | true =>
    obtain ⟨⟨hi1, hi2⟩, lb, lo, _⟩ := proc_parts hm
    have HR : Hid (ppR ns is ds i xs m bx ox = strOfNums (((encI i ++ pt (mpR ns is ds xs m)) ++ ptsL bx) ++ ptsL ox)) := by unfold Hid ppR ppL; rw [hm]; rfl
    have hsz := mpR_size ns is ds xs m
    have hlbx := ptsL_len bx hzb
    have hlox := ptsL_len ox hzo
    have hlei := encI_length i
    have HC := smpack_any _ _ _ _ ns is ds xs m w1 (R1.below hB1) (R2.below hB1) (R3.below hB1) (R.below hB1)
    generalize mpR ns is ds xs m = S at *
    go_wp2_with (first
      | (refine wpList_load_row rfl 44 _ rfl w.heap.size rfl 44 #[.slice a1 ns.length c1, .slice a2 is.length c2, .slice a3 ds.length c3] (0, 0) _ hk1 Tryz.underlying44 rfl Tryz.sizeCode ?_)
      | (refine wpList_load_sub rfl 47 _ rfl (w.heap.size + 1) 1 rfl _ 49 #[.slice ao xs.length cap, .int .i64 m.p, .int .i64 m.s, .int .i64 m.e, .int .i64 m.d, .int .i64 m.t, .int .i64 m.q, .int .i64 m.r] _ hx1 rfl Tryz.underlying47 rfl Tryz.sizeMach ?_))
    refine HC.mono ?_
    rintro e w2 ⟨rfl, hb2⟩
    have hB2 := hB1.trans (hb2.mono hB1.size)
    have hx2 := blk_bel hx1 hb2
    clear hB1 hk1 hx1 hb2 HC
    have hpl : (pt S).length ≤ 100009 := by have := encI_length S.size; rw [pt_length]; omega
    have e0 : w2.cell? ⟨w.heap.size + 1, 0, none⟩ = some (.int .i64 i) := cell_of_row w2 _ 0 _ _ _ hx2
    go_wp2_with fail
    refine (sput_any i _ (by omega)).mono ?_
    rintro e w3 ⟨u3, rfl, own3, bel3⟩
    clear e0
    have hx3 := blk_bel hx2 bel3
    go_wp2_with fail
    refine (sptext_any S _ (by omega)).mono ?_
    rintro e w4 ⟨u4, rfl, own4, bel4⟩
    obtain ⟨p4, q4, rfl⟩ := own_form own4
    have own3' := own_below own3 bel4
    have hx4 := blk_bel hx3 bel4
    have b24 := bel3.trans (bel4.mono bel3.size)
    clear own3 bel3 bel4 hx3
    go_wp2_with (at_builtin; refine wpList_put3 rfl _ _ rfl rfl own3' b24.size rfl own4 (by omega) ?_)
    intro u5 w5 own5 bel5 st5
    have b25 := b24.trans bel5
    have hx5 := st5 _ _ _ (by decide) hx4
    unfold OwnB at own5
    clear own3' own4 b24 bel5 st5 hx4
    have hl5 : (encI i ++ pt S).length ≤ 100018 := by rw [List.length_append]; omega
    obtain ⟨bs, hbs⟩ : ∃ bs, Hid (encI i ++ pt S = bs) := ⟨_, rfl⟩
    rw [hbs.out] at own5 hl5 HR
    go_wp2_with fail
    refine spk_r5 (w.heap.size + 1) w2.heap.size _ ab ac cb cc bs bx ox w2 w5 _ hx5 own5 b25.size b25 rfl (blk_lt hx2) (Rb.below hB2) (Ro.below hB2) hzb hzo lb lo hl5 (fun _ _ _ _ _ _ _ _ _ _ w7 hb => ?_)
    have hB7 := hB2.trans ((b25.trans hb).mono hB2.size)
    go_wp2
    go_ret2
    exact ⟨by rw [HR.out, hm]; rfl, hB7⟩
end Go.Proofs.YtjnhocefnfmhmaaGreatDoor

/-
  The contract of impl.ProcPack. The variable errors.errorType reads as it is laid.
-/
namespace Go.Proofs.YtjnhocefnfmhmaaGreatDoor
open Go.RowKit

set_option maxRecDepth 100000 in
set_option maxHeartbeats 6400000 in
theorem iprocpack_any (v1 v2 v3 v vb vo : Value) (ns : List Nd) (is : List In) (ds : List Df) (i : Int) (xs : List Nd) (m : Mc) (bx ox : List ByteArray) (w : World) (R1 : NRow w v1 ns) (R2 : InRow w v2 is) (R3 : DfRow w v3 ds) (R : NRow w v xs) (Rb : StRow w vb bx) (Ro : StRow w vo ox) (hzb : ∀ x ∈ bx, x.size ≤ 1048576) (hzo : ∀ x ∈ ox, x.size ≤ 1048576) (hg : ErrT w) :
    Calls Tryz.prog 10 #[.agg #[v1, v2, v3], .agg #[.int .i64 i, v, .int .i64 m.p, .int .i64 m.s, .int .i64 m.e, .int .i64 m.d, .int .i64 m.t, .int .i64 m.q, .int .i64 m.r, vb, vo]] w fun e w' => e = .returned (.tuple #[.string (ppR ns is ds i xs m bx ox), .bool (procB ns is ds i xs m bx ox)]) ∧ Below w.heap.size w w' := by
  have hz7 : ∀ x ∈ bx, x.size ≤ 140737488351232 := fun x hx => Nat.le_trans (hzb x hx) (by decide)
  obtain ⟨ao, cap, rfl⟩ : ∃ ao cap, v = .slice ao xs.length cap := by obtain ⟨ao, cap, rfl, _⟩ := R; exact ⟨ao, cap, rfl⟩
  obtain ⟨a1, c1, rfl⟩ := R1.small
  obtain ⟨a2, c2, rfl⟩ := R2.small
  obtain ⟨a3, c3, rfl⟩ := R3.small
  obtain ⟨ab, cb, rfl⟩ := Rb.small
  obtain ⟨ac, cc, rfl⟩ := Ro.small
  obtain ⟨hB0, hk0, hx0⟩ := two_boxes w (Obj.cells #[.slice a1 ns.length c1, .slice a2 is.length c2, .slice a3 ds.length c3] 44) (Obj.cells #[.int .i64 i, .slice ao xs.length cap, .int .i64 m.p, .int .i64 m.s, .int .i64 m.e, .int .i64 m.d, .int .i64 m.t, .int .i64 m.q, .int .i64 m.r, .slice ab bx.length cb, .slice ac ox.length cc] 49)
  go_enter Tryz.func10, Tryz.ntmps10
  go_wp2_with (first
    | (refine wpList_load_row rfl 44 _ rfl w.heap.size rfl 44 #[.slice a1 ns.length c1, .slice a2 is.length c2, .slice a3 ds.length c3] (0, 0) _ hk0 Tryz.underlying44 rfl Tryz.sizeCode ?_)
    | (refine wpList_load_row rfl 49 _ rfl (w.heap.size + 1) rfl 49 #[.int .i64 i, .slice ao xs.length cap, .int .i64 m.p, .int .i64 m.s, .int .i64 m.e, .int .i64 m.d, .int .i64 m.t, .int .i64 m.q, .int .i64 m.r, .slice ab bx.length cb, .slice ac ox.length cc] (0, 0) _ hx0 Tryz.underlying49 rfl Tryz.sizeProc ?_))
  refine (iprocok_any _ _ _ _ _ _ ns is ds i xs m bx ox _ (R1.below hB0) (R2.below hB0) (R3.below hB0) (R.below hB0) (Rb.below hB0) (Ro.below hB0) hz7 (hg.below hB0 (Nat.le_refl _))).mono ?_
  rintro e w1 ⟨rfl, hb1⟩
  have hB1 := hB0.trans (hb1.mono hB0.size)
  have hk1 := blk_bel hk0 hb1
  have hx1 := blk_bel hx0 hb1
  clear hB0 hk0 hx0 hb1
  cases hm : procB ns is ds i xs m bx ox with
  | false =>
    have HR : Hid (ppR ns is ds i xs m bx ox = ByteArray.empty) := by unfold Hid ppR; rw [hm]; rfl
    go_wp2
    go_ret2
    exact ⟨by rw [HR.out, hm]; rfl, hB1⟩
  | true =>
    obtain ⟨⟨hi1, hi2⟩, lb, lo, _⟩ := proc_parts hm
    have HR : Hid (ppR ns is ds i xs m bx ox = strOfNums (((encI i ++ pt (mpR ns is ds xs m)) ++ ptsL bx) ++ ptsL ox)) := by unfold Hid ppR ppL; rw [hm]; rfl
    have hsz := mpR_size ns is ds xs m
    have hlbx := ptsL_len bx hzb
    have hlox := ptsL_len ox hzo
    have hlei := encI_length i
    have HC := impack_any _ _ _ _ ns is ds xs m w1 (R1.below hB1) (R2.below hB1) (R3.below hB1) (R.below hB1)
    generalize mpR ns is ds xs m = S at *
    go_wp2_with (first
      | (refine wpList_load_row rfl 44 _ rfl w.heap.size rfl 44 #[.slice a1 ns.length c1, .slice a2 is.length c2, .slice a3 ds.length c3] (0, 0) _ hk1 Tryz.underlying44 rfl Tryz.sizeCode ?_)
      | (refine wpList_load_sub rfl 47 _ rfl (w.heap.size + 1) 1 rfl _ 49 #[.slice ao xs.length cap, .int .i64 m.p, .int .i64 m.s, .int .i64 m.e, .int .i64 m.d, .int .i64 m.t, .int .i64 m.q, .int .i64 m.r] _ hx1 rfl Tryz.underlying47 rfl Tryz.sizeMach ?_))
    refine HC.mono ?_
    rintro e w2 ⟨rfl, hb2⟩
    have hB2 := hB1.trans (hb2.mono hB1.size)
    have hx2 := blk_bel hx1 hb2
    clear hB1 hk1 hx1 hb2 HC
    have hpl : (pt S).length ≤ 100009 := by have := encI_length S.size; rw [pt_length]; omega
    have e0 : w2.cell? ⟨w.heap.size + 1, 0, none⟩ = some (.int .i64 i) := cell_of_row w2 _ 0 _ _ _ hx2
    go_wp2_with fail
    refine (iput_any i _ (by omega)).mono ?_
    rintro e w3 ⟨u3, rfl, own3, bel3⟩
    clear e0
    have hx3 := blk_bel hx2 bel3
    go_wp2_with fail
    refine (iptext_any S _ (by omega)).mono ?_
    rintro e w4 ⟨u4, rfl, own4, bel4⟩
    obtain ⟨p4, q4, rfl⟩ := own_form own4
    have own3' := own_below own3 bel4
    have hx4 := blk_bel hx3 bel4
    have b24 := bel3.trans (bel4.mono bel3.size)
    clear own3 bel3 bel4 hx3
    go_wp2_with (at_builtin; refine wpList_put3 rfl _ _ rfl rfl own3' b24.size rfl own4 (by omega) ?_)
    intro u5 w5 own5 bel5 st5
    have b25 := b24.trans bel5
    have hx5 := st5 _ _ _ (by decide) hx4
    unfold OwnB at own5
    clear own3' own4 b24 bel5 st5 hx4
    have hl5 : (encI i ++ pt S).length ≤ 100018 := by rw [List.length_append]; omega
    obtain ⟨bs, hbs⟩ : ∃ bs, Hid (encI i ++ pt S = bs) := ⟨_, rfl⟩
    rw [hbs.out] at own5 hl5 HR
    have e9 : w5.cell? ⟨w.heap.size + 1, 0 + 9, none⟩ = some (.slice ab bx.length cb) := cell_of_row w5 _ 9 _ _ _ hx5
    go_wp2_with fail
    refine (puttexts_any w2 w5 _ _ bs bx own5 b25 (Rb.below hB2) hzb (by omega) (by omega)).mono ?_
    rintro e w6 ⟨u6, rfl, own6, b26⟩
    have hx6 := blk_bel hx2 b26
    clear own5 b25 hx5 e9
    have e10 : w6.cell? ⟨w.heap.size + 1, 0 + 10, none⟩ = some (.slice ac ox.length cc) := cell_of_row w6 _ 10 _ _ _ hx6
    have hl6 : (bs ++ ptsL bx).length ≤ 50000000 := by rw [List.length_append]; omega
    obtain ⟨cs, hcs⟩ : ∃ cs, Hid (bs ++ ptsL bx = cs) := ⟨_, rfl⟩
    rw [hcs.out] at own6 hl6 HR
    go_wp2_with fail
    refine (puttexts_any w2 w6 _ _ cs ox own6 b26 (Ro.below hB2) hzo lo hl6).mono ?_
    rintro e w7 ⟨u7, rfl, own7, b27⟩
    clear own6 b26 hx6 e10
    obtain ⟨es, hes⟩ : ∃ es, Hid (cs ++ ptsL ox = es) := ⟨_, rfl⟩
    rw [hes.out] at own7 HR
    obtain ⟨p7, q7, rfl⟩ := own_form own7
    have hB7 := hB2.trans (b27.mono hB2.size)
    have hT := own_text own7
    go_wp2_with (refine wpList_bytes_text _ rfl _ 66 9 5 rfl Tryz.underlying66 Tryz.underlying9 Tryz.underlying5 p7 es.length q7 es rfl rfl hT ?_)
    go_ret2
    exact ⟨by rw [HR.out, hm]; rfl, hB7⟩
end Go.Proofs.YtjnhocefnfmhmaaGreatDoor
