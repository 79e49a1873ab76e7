/-
  Contract of the laws' digits (of numbers below 100). No condition.
-/
import Derived.Test.YtgjebgdingahjaaWyH
import Derived.Test.YtgjebgdingahjaaPrReg
namespace Go.Proofs.Ytgjebgdingahjaa
open Go.RowKit

theorem strN8 (l : List Int) : (strOfNums l).size = l.length := by
  unfold strOfNums
  simp [ByteArray.size]
theorem strN1 (z : Int) : (strOfNums [z]).size = 1 := strN8 [z]

theorem run_one (w : World) (g : Nat) (z : Int) (hc : w.cell? ⟨g, 0, none⟩ = some (.int .u8 z)) : (convert 22 9 (.slice (some ⟨g, 0, none⟩) 1 1)).run Try.prog w = .ok (.string (strOfNums [z])) w := by
  refine run_convert_bytes_arg w 22 5 Try.underlying22 Try.underlying5 g 0 1 1 [z] rfl (fun i hi => ?_) 9 Try.underlying9
  obtain rfl : i = 0 := by omega
  exact hc

set_option maxRecDepth 100000 in
set_option maxHeartbeats 6400000 in
theorem dg_r5 {t1 t2 t3 t4 t5 t6 t7 t8 t9 t10 t11 t12 t13 t14 t15 t16 t17 t18 t19 t20 t21 t22 t23 t24 t25 : Value} {fs : List Deferred} (n q r : Nat) (w : World) (Q : Exit → Act → World → Prop)
    (hn : n < 100) (hd : q < 10) (h10 : 10 ≤ n) (hq : (n : Int) / 10 = (q : Int)) (hrr : (n : Int) % 10 = (r : Int))
    (hQ : ∀ u16 u17 u18 u19 u20 u21 u22 u23 u24 u25 (W : World), Below w.heap.size w W → Q .normal ⟨#[.int .i64 (n : Nat), t1, .string (strOfNums [48 + (q : Int)] ++ strOfNums [48 + (r : Int)]), t3, t4, t5, t6, t7, t8, t9, t10, t11, t12, t13, t14, t15, u16, u17, u18, u19, u20, u21, u22, u23, u24, u25], fs⟩ W) :
    (Code.region 5 (List.toArray (({ dst := some 16, op := Op.move (Operand.tmp 0), type := 3, pos := "laws.go:25", after := #[], guard := none } : Oper) :: ({ dst := some 17, op := Op.binOp BinOp.quo 3 (Operand.tmp 16) (Operand.const (Value.int IntKind.i64 10)) 3, type := 3, pos := "laws.go:25", after := #[{ on := 0, ground := Ground.data }], guard := none } : Oper) :: ({ dst := some 18, op := Op.call { callee := Callee.value (Operand.func 7), args := #[Operand.tmp 17], argTypes := #[3] }, type := 9, pos := "laws.go:25", after := #[{ on := 1, ground := Ground.data }], guard := none } : Oper) :: ({ dst := some 19, op := Op.move (Operand.tmp 0), type := 3, pos := "laws.go:25", after := #[], guard := none } : Oper) :: ({ dst := some 20, op := Op.binOp BinOp.rem 3 (Operand.tmp 19) (Operand.const (Value.int IntKind.i64 10)) 3, type := 3, pos := "laws.go:25", after := #[{ on := 3, ground := Ground.data }], guard := none } : Oper) :: ({ dst := some 21, op := Op.binOp BinOp.add 3 (Operand.const (Value.int IntKind.i64 48)) (Operand.tmp 20) 3, type := 3, pos := "laws.go:25", after := #[{ on := 4, ground := Ground.data }], guard := none } : Oper) :: ({ dst := some 22, op := Op.convert 3 5 (Operand.tmp 21), type := 5, pos := "laws.go:25", after := #[{ on := 5, ground := Ground.data }], guard := none } : Oper) :: ({ dst := some 23, op := Op.buildSlice 22 1 #[(0, Operand.tmp 22)], type := 22, pos := "laws.go:25", after := #[{ on := 6, ground := Ground.data }], guard := none } : Oper) :: ({ dst := some 24, op := Op.convert 22 9 (Operand.tmp 23), type := 9, pos := "laws.go:25", after := #[{ on := 7, ground := Ground.data }], guard := none } : Oper) :: ({ dst := some 25, op := Op.binOp BinOp.add 9 (Operand.tmp 18) (Operand.tmp 24) 9, type := 9, pos := "laws.go:25", after := #[{ on := 2, ground := Ground.data }, { on := 8, ground := Ground.data }], guard := none } : Oper) :: ({ dst := some 2, op := Op.assign (Operand.tmp 25), type := 9, pos := "laws.go:25", after := #[{ on := 9, ground := Ground.data }, { on := 2, ground := Ground.chain }, { on := 0, ground := Ground.phase }, { on := 1, ground := Ground.phase }, { on := 2, ground := Ground.phase }, { on := 3, ground := Ground.phase }, { on := 4, ground := Ground.phase }, { on := 5, ground := Ground.phase }, { on := 6, ground := Ground.phase }, { on := 7, ground := Ground.phase }, { on := 8, ground := Ground.phase }, { on := 9, ground := Ground.phase }], guard := none } : Oper) :: [])) true).wp Try.prog Q ⟨#[.int .i64 (n : Nat), t1, t2, t3, t4, t5, t6, t7, t8, t9, t10, t11, t12, t13, t14, t15, t16, t17, t18, t19, t20, t21, t22, t23, t24, t25], fs⟩ w := by
  have hS : ∀ w', Below w.heap.size w w' → (True) := fun w' hb => trivial
  have B : Below w.heap.size w w.drew := drew_bel w
  refine wp_region_noPanic ?_
  refine wp_region_held_drew (S := fun w' => True) (by kernel_rfl) (hS _ B) (fun hHeld => ?_)
  refine wpAnyH_take (i := 0) (oi := ({ dst := some 16, op := Op.move (Operand.tmp 0), type := 3, pos := "laws.go:25", after := #[], guard := none } : Oper)) (v := .int .i64 (n : Nat)) rfl (by kernel_rfl) (by kernel_rfl) (by kernel_rfl) (fun _ _ _ h => h) (Or.inl ⟨by rfl, by intro w hSw; go_simp⟩) (by assumption) ?_
  simp only [Act.put, List.setIfInBounds_toArray, List.set_cons_zero, List.set_cons_succ]
  refine wpAnyH_take (i := 1) (oi := ({ dst := some 17, op := Op.binOp BinOp.quo 3 (Operand.tmp 16) (Operand.const (Value.int IntKind.i64 10)) 3, type := 3, pos := "laws.go:25", after := #[{ on := 0, ground := Ground.data }], guard := none } : Oper)) (v := .int .i64 (q : Int)) rfl (by kernel_rfl) (by kernel_rfl) (by kernel_rfl) (fun _ _ _ h => h) (Or.inl ⟨by rfl, by intro w hSw; first | (go_simp; done) | (go_simp; rw [IntKind.wrap_i64]; omega) | (go_simp; rw [Int.tmod_eq_emod_of_nonneg (by omega)]; omega) | (go_simp; rw [IntKind.wrap_u8]; omega) | (go_simp; simp [IntKind.wrap]; omega)⟩) (by assumption) ?_
  simp only [Act.put, List.setIfInBounds_toArray, List.set_cons_zero, List.set_cons_succ]
  refine wpAnyH_take (i := 3) (oi := ({ dst := some 19, op := Op.move (Operand.tmp 0), type := 3, pos := "laws.go:25", after := #[], guard := none } : Oper)) (v := .int .i64 (n : Nat)) rfl (by kernel_rfl) (by kernel_rfl) (by kernel_rfl) (fun _ _ _ h => h) (Or.inl ⟨by rfl, by intro w hSw; go_simp⟩) (by assumption) ?_
  simp only [Act.put, List.setIfInBounds_toArray, List.set_cons_zero, List.set_cons_succ]
  refine wpAnyH_take (i := 4) (oi := ({ dst := some 20, op := Op.binOp BinOp.rem 3 (Operand.tmp 19) (Operand.const (Value.int IntKind.i64 10)) 3, type := 3, pos := "laws.go:25", after := #[{ on := 3, ground := Ground.data }], guard := none } : Oper)) (v := .int .i64 (r : Int)) rfl (by kernel_rfl) (by kernel_rfl) (by kernel_rfl) (fun _ _ _ h => h) (Or.inl ⟨by rfl, by intro w hSw; first | (go_simp; done) | (go_simp; rw [IntKind.wrap_i64]; omega) | (go_simp; rw [Int.tmod_eq_emod_of_nonneg (by omega)]; omega) | (go_simp; rw [IntKind.wrap_u8]; omega) | (go_simp; simp [IntKind.wrap]; omega)⟩) (by assumption) ?_
  simp only [Act.put, List.setIfInBounds_toArray, List.set_cons_zero, List.set_cons_succ]
  refine wpAnyH_take (i := 5) (oi := ({ dst := some 21, op := Op.binOp BinOp.add 3 (Operand.const (Value.int IntKind.i64 48)) (Operand.tmp 20) 3, type := 3, pos := "laws.go:25", after := #[{ on := 4, ground := Ground.data }], guard := none } : Oper)) (v := .int .i64 (48 + (r : Int))) rfl (by kernel_rfl) (by kernel_rfl) (by kernel_rfl) (fun _ _ _ h => h) (Or.inl ⟨by rfl, by intro w hSw; first | (go_simp; done) | (go_simp; rw [IntKind.wrap_i64]; omega) | (go_simp; rw [Int.tmod_eq_emod_of_nonneg (by omega)]; omega) | (go_simp; rw [IntKind.wrap_u8]; omega) | (go_simp; simp [IntKind.wrap]; omega)⟩) (by assumption) ?_
  simp only [Act.put, List.setIfInBounds_toArray, List.set_cons_zero, List.set_cons_succ]
  refine wpAnyH_take (i := 6) (oi := ({ dst := some 22, op := Op.convert 3 5 (Operand.tmp 21), type := 5, pos := "laws.go:25", after := #[{ on := 5, ground := Ground.data }], guard := none } : Oper)) (v := .int .u8 (48 + (r : Int))) rfl (by kernel_rfl) (by kernel_rfl) (by kernel_rfl) (fun _ _ _ h => h) (Or.inl ⟨by rfl, by intro w hSw; first | (go_simp; done) | (go_simp; rw [IntKind.wrap_i64]; omega) | (go_simp; rw [Int.tmod_eq_emod_of_nonneg (by omega)]; omega) | (go_simp; rw [IntKind.wrap_u8]; omega) | (go_simp; simp [IntKind.wrap]; omega)⟩) (by assumption) ?_
  simp only [Act.put, List.setIfInBounds_toArray, List.set_cons_zero, List.set_cons_succ]
  refine wpAnyH_ready (rs := [2, 7]) (by kernel_rfl) (by simp) ?_
  refine AllReadyH.cons rfl (fun K hK => ?_) (AllReadyH.cons rfl (fun K hK => ?_) AllReadyH.nil)
  · go_simp
    go_wp2_with (go_at_call 7; with_reducible refine (ldigits_one q _ hd).mono ?_; rintro e wC ⟨rfl, hb⟩)
    replace B := B.trans (hb.mono B.size)
    clear hb
    refine hK.out _ _ (hS _ B) (fun hHeld => ?_)
    clear hK
    refine wpAnyH_ready (rs := [7]) (by kernel_rfl) (by simp) ?_
    refine AllReadyH.cons rfl (fun K hK => ?_) AllReadyH.nil
    go_simp
    go_wp2_with fail
    have hb := alloc_bel wC (Obj.cells #[.int .u8 (48 + (r : Int))] 5)
    have X : (wC.alloc (Obj.cells #[.int .u8 (48 + (r : Int))] 5)).heap[wC.heap.size]? = some (Obj.cells #[.int .u8 (48 + (r : Int))] 5) := heap_alloc_new _ _
    generalize wC.alloc (Obj.cells #[.int .u8 (48 + (r : Int))] 5) = wL at hb X ⊢
    replace B := B.trans (hb.mono B.size)
    clear hb
    refine hK.out _ _ (hS _ B) (fun hHeld => ?_)
    clear hK
    refine wpAnyH_ready (rs := [8]) (by kernel_rfl) (by simp) ?_
    refine AllReadyH.cons rfl (fun K hK => ?_) AllReadyH.nil
    have hr1 := run_one _ _ _ (cell_of_row _ _ 0 _ _ _ X)
    go_simp
    refine hK.out _ _ (hS _ B) (fun hHeld => ?_)
    clear hK
    refine wpAnyH_take (i := 9) (oi := ({ dst := some 25, op := Op.binOp BinOp.add 9 (Operand.tmp 18) (Operand.tmp 24) 9, type := 9, pos := "laws.go:25", after := #[{ on := 2, ground := Ground.data }, { on := 8, ground := Ground.data }], guard := none } : Oper)) (v := .string (strOfNums [48 + (q : Int)] ++ strOfNums [48 + (r : Int)])) rfl (by kernel_rfl) (by kernel_rfl) (by kernel_rfl) (fun _ _ _ h => h) (Or.inl ⟨by rfl, by intro w hSw; first | (go_simp; done) | (go_simp; rw [strN1, strN1]; omega)⟩) (by assumption) ?_
    simp only [Act.put, List.setIfInBounds_toArray, List.set_cons_zero, List.set_cons_succ]
    refine wpAnyH_take (i := 10) (oi := ({ dst := some 2, op := Op.assign (Operand.tmp 25), type := 9, pos := "laws.go:25", after := #[{ on := 9, ground := Ground.data }, { on := 2, ground := Ground.chain }, { on := 0, ground := Ground.phase }, { on := 1, ground := Ground.phase }, { on := 2, ground := Ground.phase }, { on := 3, ground := Ground.phase }, { on := 4, ground := Ground.phase }, { on := 5, ground := Ground.phase }, { on := 6, ground := Ground.phase }, { on := 7, ground := Ground.phase }, { on := 8, ground := Ground.phase }, { on := 9, ground := Ground.phase }], guard := none } : Oper)) (v := .string (strOfNums [48 + (q : Int)] ++ strOfNums [48 + (r : Int)])) rfl (by kernel_rfl) (by kernel_rfl) (by kernel_rfl) (fun _ _ _ h => h) (Or.inl ⟨by rfl, by intro w hSw; go_simp⟩) (by assumption) ?_
    simp only [Act.put, List.setIfInBounds_toArray, List.set_cons_zero, List.set_cons_succ]
    refine wpAnyH_done (by kernel_rfl) ?_ _
    exact NoPanic.normal (hQ _ _ _ _ _ _ _ _ _ _ _ B)
  · go_simp
    go_wp2_with fail
    have XB : w.heap.size ≤ w.heap.size := Nat.le_refl _
    have hb : Below w.heap.size w (w.alloc (Obj.cells #[.int .u8 (48 + (r : Int))] 5)).drew := ((Below.refl _ _).alloc (Nat.le_refl _) _).drew
    have X : (w.alloc (Obj.cells #[.int .u8 (48 + (r : Int))] 5)).drew.heap[w.heap.size]? = some (Obj.cells #[.int .u8 (48 + (r : Int))] 5) := heap_alloc_new w _
    generalize (w.alloc (Obj.cells #[.int .u8 (48 + (r : Int))] 5)).drew = wL at hb X ⊢
    replace B := hb
    clear hb
    refine hK.out _ _ (hS _ B) (fun hHeld => ?_)
    clear hK
    refine wpAnyH_ready (rs := [2, 8]) (by kernel_rfl) (by simp) ?_
    refine AllReadyH.cons rfl (fun K hK => ?_) (AllReadyH.cons rfl (fun K hK => ?_) AllReadyH.nil)
    · go_simp
      go_wp2_with (go_at_call 7; with_reducible refine (ldigits_one q _ hd).mono ?_; rintro e wC ⟨rfl, hb⟩)
      replace X := blk_bel X hb
      replace B := B.trans (hb.mono B.size)
      clear hb
      refine hK.out _ _ (hS _ B) (fun hHeld => ?_)
      clear hK
      refine wpAnyH_ready (rs := [8]) (by kernel_rfl) (by simp) ?_
      refine AllReadyH.cons rfl (fun K hK => ?_) AllReadyH.nil
      have hr1 := run_one _ _ _ (cell_of_row _ _ 0 _ _ _ X)
      go_simp
      refine hK.out _ _ (hS _ B) (fun hHeld => ?_)
      clear hK
      refine wpAnyH_take (i := 9) (oi := ({ dst := some 25, op := Op.binOp BinOp.add 9 (Operand.tmp 18) (Operand.tmp 24) 9, type := 9, pos := "laws.go:25", after := #[{ on := 2, ground := Ground.data }, { on := 8, ground := Ground.data }], guard := none } : Oper)) (v := .string (strOfNums [48 + (q : Int)] ++ strOfNums [48 + (r : Int)])) rfl (by kernel_rfl) (by kernel_rfl) (by kernel_rfl) (fun _ _ _ h => h) (Or.inl ⟨by rfl, by intro w hSw; first | (go_simp; done) | (go_simp; rw [strN1, strN1]; omega)⟩) (by assumption) ?_
      simp only [Act.put, List.setIfInBounds_toArray, List.set_cons_zero, List.set_cons_succ]
      refine wpAnyH_take (i := 10) (oi := ({ dst := some 2, op := Op.assign (Operand.tmp 25), type := 9, pos := "laws.go:25", after := #[{ on := 9, ground := Ground.data }, { on := 2, ground := Ground.chain }, { on := 0, ground := Ground.phase }, { on := 1, ground := Ground.phase }, { on := 2, ground := Ground.phase }, { on := 3, ground := Ground.phase }, { on := 4, ground := Ground.phase }, { on := 5, ground := Ground.phase }, { on := 6, ground := Ground.phase }, { on := 7, ground := Ground.phase }, { on := 8, ground := Ground.phase }, { on := 9, ground := Ground.phase }], guard := none } : Oper)) (v := .string (strOfNums [48 + (q : Int)] ++ strOfNums [48 + (r : Int)])) rfl (by kernel_rfl) (by kernel_rfl) (by kernel_rfl) (fun _ _ _ h => h) (Or.inl ⟨by rfl, by intro w hSw; go_simp⟩) (by assumption) ?_
      simp only [Act.put, List.setIfInBounds_toArray, List.set_cons_zero, List.set_cons_succ]
      refine wpAnyH_done (by kernel_rfl) ?_ _
      exact NoPanic.normal (hQ _ _ _ _ _ _ _ _ _ _ _ B)
    · have hr1 := run_one _ _ _ (cell_of_row _ _ 0 _ _ _ X)
      go_simp
      refine hK.out _ _ (hS _ B) (fun hHeld => ?_)
      clear hK
      refine wpAnyH_ready (rs := [2]) (by kernel_rfl) (by simp) ?_
      refine AllReadyH.cons rfl (fun K hK => ?_) AllReadyH.nil
      go_simp
      go_wp2_with (go_at_call 7; with_reducible refine (ldigits_one q _ hd).mono ?_; rintro e wC ⟨rfl, hb⟩)
      replace X := blk_bel X hb
      replace B := B.trans (hb.mono B.size)
      clear hb
      refine hK.out _ _ (hS _ B) (fun hHeld => ?_)
      clear hK
      refine wpAnyH_take (i := 9) (oi := ({ dst := some 25, op := Op.binOp BinOp.add 9 (Operand.tmp 18) (Operand.tmp 24) 9, type := 9, pos := "laws.go:25", after := #[{ on := 2, ground := Ground.data }, { on := 8, ground := Ground.data }], guard := none } : Oper)) (v := .string (strOfNums [48 + (q : Int)] ++ strOfNums [48 + (r : Int)])) rfl (by kernel_rfl) (by kernel_rfl) (by kernel_rfl) (fun _ _ _ h => h) (Or.inl ⟨by rfl, by intro w hSw; first | (go_simp; done) | (go_simp; rw [strN1, strN1]; omega)⟩) (by assumption) ?_
      simp only [Act.put, List.setIfInBounds_toArray, List.set_cons_zero, List.set_cons_succ]
      refine wpAnyH_take (i := 10) (oi := ({ dst := some 2, op := Op.assign (Operand.tmp 25), type := 9, pos := "laws.go:25", after := #[{ on := 9, ground := Ground.data }, { on := 2, ground := Ground.chain }, { on := 0, ground := Ground.phase }, { on := 1, ground := Ground.phase }, { on := 2, ground := Ground.phase }, { on := 3, ground := Ground.phase }, { on := 4, ground := Ground.phase }, { on := 5, ground := Ground.phase }, { on := 6, ground := Ground.phase }, { on := 7, ground := Ground.phase }, { on := 8, ground := Ground.phase }, { on := 9, ground := Ground.phase }], guard := none } : Oper)) (v := .string (strOfNums [48 + (q : Int)] ++ strOfNums [48 + (r : Int)])) rfl (by kernel_rfl) (by kernel_rfl) (by kernel_rfl) (fun _ _ _ h => h) (Or.inl ⟨by rfl, by intro w hSw; go_simp⟩) (by assumption) ?_
      simp only [Act.put, List.setIfInBounds_toArray, List.set_cons_zero, List.set_cons_succ]
      refine wpAnyH_done (by kernel_rfl) ?_ _
      exact NoPanic.normal (hQ _ _ _ _ _ _ _ _ _ _ _ B)


set_option maxHeartbeats 1600000 in
theorem ldigits_any (n : Nat) (w : World) (hn : n < 100) :
    Calls Try.prog 7 #[.int .i64 n] w fun e w' => e = .returned (.string (dg n)) ∧ Below w.heap.size w w' := by
  by_cases h : n < 10
  · have e : dg n = strOfNums [48 + (n : Int)] := if_pos h
    rw [e]
    exact ldigits_one n w h
  · have e : dg n = strOfNums [48 + ((n / 10 : Nat) : Int)] ++ strOfNums [48 + ((n % 10 : Nat) : Int)] := if_neg h
    rw [e]
    obtain ⟨q, hq⟩ : ∃ q, n / 10 = q := ⟨_, rfl⟩
    obtain ⟨r, hr⟩ : ∃ r, n % 10 = r := ⟨_, rfl⟩
    rw [hq, hr]
    have h1 : ¬ (n : Int) < 0 := by omega
    have h2 : ¬ (n : Int) < 10 := by omega
    go_enter Try.func7, Try.ntmps7
    go_wp2_with fail
    refine dg_r5 n q r _ _ hn (by omega) (by omega) (by omega) (by omega) ?_
    intro u16 u17 u18 u19 u20 u21 u22 u23 u24 u25 W hW
    go_wp2
    go_ret
    exact ⟨rfl, hW⟩
end Go.Proofs.Ytgjebgdingahjaa
