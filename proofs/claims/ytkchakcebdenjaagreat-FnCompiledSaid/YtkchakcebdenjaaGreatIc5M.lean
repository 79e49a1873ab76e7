/-
  Texts that stood by themselves, laid into one.
-/
import Derived.Test.YtkchakcebdenjaaGreatIc1M
import Derived.BigQuiet
/-
  The contracts of the compiler's names and meaning. No condition beyond the compiler's memory.
-/
namespace Go.Proofs.YtkchakcebdenjaaGreat
open Go.RowKit
def idxI : Option Nat → Int
  | some i => i
  | none => -1
theorem beq_symL (a b : List UInt8) : (a == b) = (b == a) := by
  rw [Bool.eq_iff_iff, beq_iff_eq, beq_iff_eq]
  exact eq_comm
theorem memB_idx (s : ByteArray) : ∀ (l : List ByteArray) (i : Nat), memB s l = decide (0 ≤ idxI (idxS l s i))
  | [], _ => rfl
  | t :: l, i => by
    show ((t.toList == s.toList) || memB s l) = _
    rw [idxS]
    cases h : (t.toList == s.toList) with
    | true => simp [idxI]
    | false =>
      rw [memB_idx s l (i + 1)]
      simp
set_option maxRecDepth 100000 in
set_option maxHeartbeats 1600000 in
theorem idxstr_any (v : Value) (l : List ByteArray) (s : ByteArray) (w : World) (R : SRow w v l) :
    Calls Tryz.prog 125 #[v, .string s] w fun e w' => e = .returned (.int .i64 (idxI (idxS l s 0))) ∧ w' = w := by
  obtain ⟨au, cu, rfl⟩ := R.form
  have hmaxl := own_max R
  go_enter Tryz.func125, Tryz.ntmps125
  go_wp2_with fail
  go_loop [8] (fun i => ∃ j : Nat, j ≤ l.length ∧ i = .int .i64 j ∧ Hid (idxS l s 0 = idxS (l.drop j) s j)) (fun i => l.length - (intOf i).toNat)
  case atStart => exact ⟨0, by omega, rfl, rfl⟩
  case round =>
    obtain ⟨j, hj, rfl, HI⟩ := hrel
    by_cases hjl : j < l.length
    · obtain ⟨t, ht⟩ : ∃ t, l[j]? = some t := ⟨l[j], by simp [hjl]⟩
      obtain ⟨gu, rfl, hgu, hcu⟩ := R.cell j t ht
      have HD := idxS_drop l s t j ht
      have hjl' : (j : Int) < l.length := by omega
      cases he : (s.toList == t.toList) with
      | true =>
        have HR : Hid (idxS l s 0 = some j) := by unfold Hid; rw [HI.out, HD, beq_symL, he]; rfl
        clear HD
        go_wp2_with fail
        go_ret
        exact ⟨by rw [HR.out]; rfl, rfl⟩
      | false =>
        have HI2 : Hid (idxS l s 0 = idxS (l.drop (j + 1)) s (j + 1)) := by unfold Hid; rw [HI.out, HD, beq_symL, he]; rfl
        clear HD
        go_wp2_with fail
        go_round
        case rel => exact ⟨j + 1, by omega, by go_num, HI2⟩
        case measure => simp [intOf]; omega
    · have HR : Hid (idxS l s 0 = none) := by
        unfold Hid
        rw [HI.out, List.drop_eq_nil_of_le (by omega)]
        rfl
      have hjl' : ¬ (j : Int) < l.length := by omega
      go_wp2_with fail
      go_ret
      exact ⟨by rw [HR.out]; rfl, rfl⟩
set_option maxHeartbeats 1600000 in
theorem cnstr_any (v : Value) (l : List ByteArray) (s : ByteArray) (w : World) (R : SRow w v l) :
    Calls Tryz.prog 118 #[v, .string s] w fun e w' => e = .returned (.bool (memB s l)) ∧ w' = w := by
  go_enter Tryz.func118, Tryz.ntmps118
  go_wp2_with fail
  refine (idxstr_any v l s _ R).mono ?_
  rintro e w1 ⟨rfl, rfl⟩
  go_wp2
  go_ret
  exact ⟨by rw [memB_idx s l 0]; rfl, rfl⟩
set_option maxRecDepth 100000 in
set_option maxHeartbeats 3200000 in
theorem inamesc_any (xs : List Nd) (C : Nat) (num : Int) (env : Env) (L : List In) (D : List Df) (vl : Value) (l : List Int) (w : World) (h : Ic xs C w num env L D) (T : TRow w vl l) (hv : InP xs l) (hl4 : l.length ≤ 4) :
    Calls Tryz.prog 101 #[.pointer (some ⟨C, 0, none⟩), vl] w fun e w' => ((dupB (nameL xs l) l.length = false ∧ ∃ v', e = .returned v' ∧ w'.ownsRow w.heap.size 9 1 v' (nameL xs l).length ((nameL xs l).map Value.string)) ∨ (dupB (nameL xs l) l.length = true ∧ e = .panicked (oopc 2 num))) ∧ Below w.heap.size w w' := by
  obtain ⟨pv, lv, dv, fv, h⟩ := h
  have hC := h.lt
  obtain ⟨i0, hi, hz0, hz1, hz2⟩ := info_parts Tryz.infoStr
  obtain ⟨al, cl, rfl, hlc, hcm⟩ := T.form
  have hB0 : Below w.heap.size w (w.alloc (Obj.cells #[] 9)) := (Below.refl _ _).alloc (Nat.le_refl _) _
  have hN0 : (w.alloc (Obj.cells #[] 9)).ownsRow w.heap.size 9 1 (.slice (some ⟨w.heap.size, 0, none⟩) 0 0) ([] : List ByteArray).length (([] : List ByteArray).map Value.string) := World.ownsRow_made _ _ 0 (Nat.le_refl _) (by simp) (by simp)
  go_enter Tryz.func101, Tryz.ntmps101
  go_wp2_with fail
  generalize w.alloc (Obj.cells #[] 9) = w1 at *
  go_loopw [5, 12] (fun o i wr => ∃ (ys : List ByteArray), ys.length ≤ l.length ∧ i = .int .i64 ys.length ∧ wr.ownsRow w.heap.size 9 1 o ys.length (ys.map Value.string) ∧ Below w.heap.size w wr ∧ Hid (ys = nameL xs (l.take ys.length) ∧ dupB (nameL xs l) ys.length = false)) (fun _ i _ => l.length - (intOf i).toNat)
  case atStart => exact ⟨[], by simp, rfl, hN0, hB0, by simp [nameL], rfl⟩
  case round =>
    clear hN0 hB0
    obtain ⟨ys, hk, rfl, hor, hbr, HH⟩ := hrel
    obtain ⟨ar, cr, rfl⟩ := own_form hor
    have h2 := h.on hbr
    have c0 := h2.cells.1
    have c3 := h2.cells.2.2.2.1
    have R2 := h2.pool
    by_cases hlt : ys.length < l.length
    · obtain ⟨z, hz⟩ : ∃ z, l[ys.length]? = some z := ⟨l[ys.length], by simp [hlt]⟩
      obtain ⟨n, rfl, hnl⟩ := hv z (List.mem_of_getElem? hz)
      obtain ⟨x, hx⟩ : ∃ x, xs[n]? = some x := ⟨xs[n], by simp [hnl]⟩
      have Tr := T.below hbr
      obtain ⟨g, o, rfl, hg, hc⟩ := Tr.cell ys.length hlt
      have hgd : l.getD ys.length 0 = n := by rw [List.getD_eq_getElem?_getD, hz]; rfl
      rw [hgd] at hc
      obtain ⟨ap, cp, e', _, _, _, hcell⟩ := R2
      subst e'
      obtain ⟨gp, op, rfl, hgp, hcell⟩ := hcell (by intro e; rw [e] at hnl; simp at hnl)
      obtain ⟨d0, d1, d2, d3, d4⟩ := hcell n x hx
      have hlt' : (ys.length : Int) < l.length := by omega
      have HN : Hid ((nameL xs l).getD ys.length ByteArray.empty = x.s ∧ (nameL xs l).take ys.length = ys) := by
        have HX := ndAt_some hx
        refine ⟨?_, ?_⟩
        · unfold nameL
          rw [List.getD_eq_getElem?_getD, List.getElem?_map, hz]
          exact congrArg Nd.s HX
        · rw [HH.out.1]
          unfold nameL
          rw [List.map_take, List.length_take, List.length_map, Nat.min_eq_left hk]
      have HS : Hid (nameL xs (l.take (ys.length + 1)) = ys ++ [x.s]) := by unfold Hid; rw [nameL_snoc xs l ys.length n hz, ← HH.out.1, ndAt_some hx]
      obtain ⟨b, hbb⟩ : ∃ b, Hid (memB x.s ys = b) := ⟨_, rfl⟩
      have HD : Hid (dupB (nameL xs l) (ys.length + 1) = b) := by unfold Hid; rw [dupB, HH.out.2, HN.out.1, HN.out.2, hbb.out]; rfl
      clear hcell hz hgd d0 d1 d3 d4
      go_wp2_with fail
      refine (cnstr_any _ ys x.s _ (own_mono hor (Nat.zero_le _))).mono ?_
      rintro e w3 ⟨rfl, rfl⟩
      rw [hbb.out]
      cases b with
      | true =>
        have HT : Hid (dupB (nameL xs l) l.length = true) := dupB_mono HD.out (by omega)
        go_wp2_with fail
        refine (icwrong_any C 2 num _ c3).mono ?_
        rintro e w4 ⟨rfl, rfl⟩
        go_wp2_with fail
        exact ⟨rfl, Or.inr ⟨HT.out, rfl⟩, hbr⟩
      | false =>
        have hsz3 : w.heap.size ≤ w3.heap.size := hbr.size
        go_wp2_with (at_builtin; refine wpList_append_own _ rfl _ _ 85 rfl w.heap.size 9 i0 (.string ByteArray.empty) 1 16 Tryz.underlying85 hi hz0 hz1 hz2 rfl (by decide) _ _ _ rfl (hor.alloc _) ⟨_, 0, none⟩ 1 1 [.string x.s] rfl rfl (cell_one_new _ _ _) (fun u hu => by simp at hu; subst hu; rfl) (by unfold maxLen; omega) (by omega) (by simp; omega) ?_)
        intro v' w6 hown' hgrow _
        have hown6 : w6.ownsRow w.heap.size 9 1 v' (ys ++ [x.s]).length ((ys ++ [x.s]).map Value.string) := by
          rw [List.map_append, List.length_append]
          exact hown'
        have hB6 : Below w.heap.size w w6 := (hbr.alloc hsz3 _).grown hgrow (by simp; omega) (fun q hq => (hor.lt q hq).1)
        have HH2 : Hid (ys ++ [x.s] = nameL xs (l.take (ys ++ [x.s]).length) ∧ dupB (nameL xs l) (ys ++ [x.s]).length = false) := by
          rw [List.length_append, List.length_singleton]
          exact ⟨HS.out.symm, HD.out⟩
        clear hown' hgrow HH
        go_wp2_with fail
        go_roundw
        case rel => exact ⟨ys ++ [x.s], by simp; omega, by simp, hown6, hB6, HH2⟩
        case measure => simp [intOf]; omega
    · have hlt' : ¬ (ys.length : Int) < l.length := by omega
      have he : ys.length = l.length := by omega
      have HY : Hid (ys = nameL xs l ∧ dupB (nameL xs l) l.length = false) := by
        have := HH.out
        rw [he, List.take_of_length_le (Nat.le_refl _)] at this
        exact this
      clear HH he
      go_wp2_with fail
      go_ret
      refine ⟨Or.inl ⟨HY.out.2, _, rfl, ?_⟩, hbr⟩
      rw [← HY.out.1]
      exact hor
end Go.Proofs.YtkchakcebdenjaaGreat
/-
  The contract of the compiler's meaning. No condition beyond the compiler's memory.
-/
namespace Go.Proofs.YtkchakcebdenjaaGreat
open Go.RowKit
theorem Tryz.sizeIn4 : (Tryz.prog.info? 53).map (·.size) = some 4 := by kernel_rfl
def meanR (env : Env) (s : ByteArray) : In := match findV env s 0 with
  | some (n, i) => ins 2 n i
  | none => ⟨3, 0, 0, s⟩
def inV (x : In) : Value := .agg #[.int .i64 x.o, .int .i64 x.n, .int .i64 x.i, .string x.s]
set_option maxRecDepth 100000 in
set_option maxHeartbeats 3200000 in
theorem imeanc_any (xs : List Nd) (C : Nat) (num : Int) (env : Env) (L : List In) (D : List Df) (s : ByteArray) (w : World) (h : Ic xs C w num env L D) :
    Calls Tryz.prog 129 #[.pointer (some ⟨C, 0, none⟩), .string s] w fun e w' => e = .returned (inV (meanR env s)) ∧ Below w.heap.size w w' := by
  obtain ⟨pv, lv, dv, fv, h⟩ := h
  have hC := h.lt
  obtain ⟨vs, ho, hvs⟩ := h.frm
  obtain ⟨ae, ce, rfl⟩ := own_form ho
  have hmax := own_max ho
  have hB0 : Below w.heap.size w (w.alloc (Obj.cells #[.int .i64 0, .int .i64 0, .int .i64 0, .string ⟨#[]⟩] 53)) := (Below.refl _ _).alloc (Nat.le_refl _) _
  have hx0 := heap_alloc_new w (Obj.cells #[.int .i64 0, .int .i64 0, .int .i64 0, .string ⟨#[]⟩] 53)
  have c4 := (h.on hB0).cells.2.2.2.2.1
  go_enter Tryz.func129, Tryz.ntmps129
  go_wp2_with fail
  generalize w.alloc (Obj.cells #[.int .i64 0, .int .i64 0, .int .i64 0, .string ⟨#[]⟩] 53) = w1 at *
  go_loopw [12] (fun i wr => ∃ k : Nat, k ≤ env.length ∧ i = .int .i64 k ∧ Below w.heap.size w wr ∧ wr.heap[w.heap.size]? = some (.cells #[.int .i64 0, .int .i64 0, .int .i64 0, .string ⟨#[]⟩] 53 (0, 0)) ∧ Hid (findV env s 0 = findV (env.drop k) s k)) (fun i _ => env.length - (intOf i).toNat)
  case atStart => exact ⟨0, by omega, rfl, hB0, hx0, rfl⟩
  case round =>
    clear hB0 hx0 c4
    obtain ⟨k, hk, rfl, hbr, hxr, HF⟩ := hrel
    have h2 := h.on hbr
    have c4 := h2.cells.2.2.2.2.1
    by_cases hlt : k < env.length
    · obtain ⟨m, hm⟩ : ∃ m : Nat, m = env.length - 1 - k := ⟨_, rfl⟩
      have hme : (env.length : Int) - 1 - (k : Int) = (m : Int) := by omega
      have hml : m < env.length := by omega
      have hml' : (m : Int) < (env.length : Int) := by omega
      obtain ⟨g, u, rfl, hu, hg, hc⟩ := own_el (own_below ho hbr) m hml
      have hS := (hvs m u hu).2
      have hev : env.reverse.getD m [] = env.getD k [] := by
        rw [List.getD_eq_getElem?_getD, List.getD_eq_getElem?_getD, List.getElem?_reverse hml, show env.length - 1 - m = k by omega]
      rw [hev] at hS
      have HF2 : Hid (findV env s 0 = (match idxS (env.getD k []) s 0 with
        | some i => some (k, i)
        | none => findV (env.drop (k + 1)) s (k + 1))) := HF.out.trans (findV_drop env s k hlt)
      generalize env.getD k [] = l at hS HF2 hev
      have hlt' : (k : Int) < env.length := by omega
      have hSr := own_below hS hbr
      have hSd := own_below hSr (below_dN wr 1)
      obtain ⟨qv, hqv⟩ : ∃ q, Hid (idxI (idxS l s 0) = q) := ⟨_, rfl⟩
      clear HF hev hm hu
      go_wp2_with fail
      have IQ : ∀ n, Calls Tryz.prog 125 #[u, .string s] (wr.drewN n) fun e w' => e = .returned (.int .i64 qv) ∧ w' = wr.drewN n := fun n => by
        have := idxstr_any u l s (wr.drewN n) (own_below hSr (below_dN wr n))
        rw [hqv.out] at this
        exact this
      go_quiet (first | (go_at_call 125; refine Calls.quiet_of_same (IQ _)))
      all_goals
        have hbD : ∀ n, Below w.heap.size w (wr.drewN n) := fun n => hbr.trans ((below_dN wr n).mono hbr.size)
        have hxD : ∀ n, (wr.drewN n).heap[w.heap.size]? = some (.cells #[.int .i64 0, .int .i64 0, .int .i64 0, .string ⟨#[]⟩] 53 (0, 0)) := fun _ => hxr
        obtain ⟨q, hq⟩ : ∃ q, idxS l s 0 = q := ⟨_, rfl⟩
        rw [hq] at HF2 hqv
        clear hq
        cases q with
        | some i =>
          have HR : Hid (meanR env s = ins 2 k i) := by unfold Hid meanR; rw [HF2.out]
          obtain rfl : (i : Int) = qv := hqv.out
          have hi0 : (0 : Int) ≤ (i : Int) := by omega
          go_wp2_with (refine wpList_store_own2 rfl 53 _ _ rfl w.heap.size #[.int .i64 2, .int .i64 k, .int .i64 i, .string ⟨#[]⟩] rfl rfl 53 #[.int .i64 0, .int .i64 0, .int .i64 0, .string ⟨#[]⟩] (hxD _) Tryz.sizeIn4 rfl (by simp [Value.oneCell']) ?_)
          intro w9 hh9 hb9 hs9 _
          have hB9 := (hbD _).trans hb9
          go_wp2
          exact bodyPost_ret (results_cell_row rfl _ _ w.heap.size 53 _ (0, 0) _ rfl hh9 Tryz.underlying53 rfl Tryz.sizeIn4) rfl ⟨by rw [HR.out]; rfl, hB9⟩
        | none =>
          obtain rfl : (-1 : Int) = qv := hqv.out
          have HF3 : Hid (findV env s 0 = findV (env.drop (k + 1)) s (k + 1)) := HF2
          go_wp2_with fail
          go_roundw
          case rel => exact ⟨k + 1, by omega, by go_num, hbD _, hxD _, HF3⟩
          case measure => simp [intOf]; omega
    · have HR : Hid (meanR env s = ⟨3, 0, 0, s⟩) := by
        unfold Hid meanR
        rw [HF.out, List.drop_eq_nil_of_le (by omega)]
        rfl
      have hlt' : ¬ (k : Int) < env.length := by omega
      clear HF
      go_wp2_with (refine wpList_store_own2 rfl 53 _ _ rfl w.heap.size #[.int .i64 3, .int .i64 0, .int .i64 0, .string s] rfl rfl 53 #[.int .i64 0, .int .i64 0, .int .i64 0, .string ⟨#[]⟩] hxr Tryz.sizeIn4 rfl (by simp [Value.oneCell']) ?_)
      intro w9 hh9 hb9 hs9 _
      have hB9 := hbr.trans (hb9.mono (by omega))
      go_wp2
      exact bodyPost_ret (results_cell_row rfl _ _ w.heap.size 53 _ (0, 0) _ rfl hh9 Tryz.underlying53 rfl Tryz.sizeIn4) rfl ⟨by rw [HR.out]; rfl, hB9⟩
end Go.Proofs.YtkchakcebdenjaaGreat
/-
  The contracts of the compiler's body and frame, given that of expression. No condition beyond the compiler's memory.
-/
namespace Go.Proofs.YtkchakcebdenjaaGreat
open Go.RowKit
def ICE (xs : List Nd) (C : Nat) (num : Int) (e : Ex) (v : Int) : Prop := ∀ (s : CS) (env : Env) (w : World), Ic xs C w num env s.list s.defs → s.how = 0 → s.list.length ≤ 400 → env.length + v.toNat ≤ 3001 →
  Calls Tryz.prog 126 #[.pointer (some ⟨C, 0, none⟩), .int .i64 v] w fun r w' => Out xs C num env (e v env s) (.tuple #[]) r w' ∧ IF C w w'
theorem Out.bad {xs : List Nd} {C : Nat} {num : Int} {env' : Env} {s s' : CS} {r : Value} {w' : World} (hn : s.how ≠ 0) (e : s' = s) : Out xs C num env' s' r (.panicked (oopc s.how (plc num s.how))) w' := by
  subst e
  exact Or.inr ⟨hn, rfl⟩
set_option maxRecDepth 100000 in
set_option maxHeartbeats 3200000 in
theorem ibodyc_any (xs : List Nd) (C : Nat) (num : Int) (e : Ex) (hst : Stay e) (body : List Int) (bv : Value) (s : CS) (env : Env) (w : World) (h : Ic xs C w num env s.list s.defs) (h0 : s.how = 0) (hl : s.list.length ≤ 400) (T : TRow w bv body) (hE : ∀ z ∈ body, ICE xs C num e z ∧ env.length + z.toNat ≤ 3001) :
    Calls Tryz.prog 119 #[.pointer (some ⟨C, 0, none⟩), bv] w fun r w' => Out xs C num env (cbody e body env s) (.tuple #[]) r w' ∧ IF C w w' := by
  obtain ⟨ab, cb, rfl, hlc, hcm⟩ := T.form
  go_enter Tryz.func119, Tryz.ntmps119
  go_wp2_with fail
  go_loopw [8] (fun i wr => ∃ (k : Nat) (sk : CS), k ≤ body.length ∧ i = .int .i64 k ∧ sk.how = 0 ∧ sk.list.length ≤ 400 ∧ Ic xs C wr num env sk.list sk.defs ∧ IF C w wr ∧ Hid (cbody e body env s = cseq e env (body.drop k) (decide (k = 0)) sk)) (fun i _ => body.length - (intOf i).toNat)
  case atStart => exact ⟨0, s, by omega, rfl, h0, hl, h, IF.refl _ _, rfl⟩
  case round =>
    obtain ⟨k, sk, hk, rfl, hk0, hkl, hI, hF, HC⟩ := hrel
    by_cases hlt : k < body.length
    · have Tr := hF.trow' h T
      obtain ⟨g, o, rfl, hg, hc⟩ := Tr.cell k hlt
      obtain ⟨z, hz⟩ : ∃ z, body[k]? = some z := ⟨body[k], List.getElem?_eq_getElem hlt⟩
      have hgd : body.getD k 0 = z := by rw [List.getD_eq_getElem?_getD, hz]; rfl
      rw [hgd] at hc
      obtain ⟨hEz, hez⟩ := hE z (List.mem_of_getElem? hz)
      have hlt' : (k : Int) < body.length := by omega
      have HD : Hid (cbody e body env s = cseq e env (body.drop (k + 1)) false (e z env (if decide (k = 0) then sk else sk.emit (ins 9 0 0)))) := by
        unfold Hid
        obtain ⟨hl', he'⟩ := List.getElem?_eq_some_iff.1 hz
        rw [HC.out, List.drop_eq_getElem_cons hl', he', cseq, if_pos hk0]
      clear HC hz hgd Tr
      by_cases hkz : k = 0
      · subst hkz
        have HD2 : Hid (cbody e body env s = cseq e env (body.drop (0 + 1)) false (e z env sk)) := HD
        have hc' : wr.cell? ⟨g, o, none⟩ = some (.int .i64 z) := hc
        go_wp2_with fail
        refine (hEz sk env _ hI hk0 hkl hez).mono ?_
        rintro r w5 ⟨hO, hF5⟩
        rcases hO with ⟨q0, ql, rfl, hI5⟩ | ⟨hn, rfl⟩
        · go_wp2_with fail
          go_roundw
          case rel => exact ⟨1, e z env sk, by omega, by go_num, q0, ql, hI5, hF.trans hF5, HD2⟩
          case measure => simp [intOf]; omega
        · go_wp2_with fail
          exact ⟨rfl, Out.bad hn (HD2.out.trans (by rw [cseq_stay _ _ _ _ _ hn])), hF.trans hF5⟩
      · have HD2 : Hid (cbody e body env s = cseq e env (body.drop (k + 1)) false (e z env (sk.emit (ins 9 0 0)))) := by unfold Hid; rw [HD.out, decide_eq_false hkz]; rfl
        have hkp : (0 : Int) < (k : Int) := by omega
        go_wp2_with fail
        refine (iputc_any xs C num env sk (ins 9 0 0) _ hI hk0 hkl).mono ?_
        rintro r w4 ⟨hO, hF4⟩
        rcases hO with ⟨p0, pl, rfl, hI4⟩ | ⟨hn, rfl⟩
        · go_wp2_with fail
          refine (hEz (sk.emit (ins 9 0 0)) env _ hI4 p0 pl hez).mono ?_
          rintro r w5 ⟨hO, hF5⟩
          rcases hO with ⟨q0, ql, rfl, hI5⟩ | ⟨hn, rfl⟩
          · go_wp2_with fail
            go_roundw
            case rel => exact ⟨k + 1, e z env (sk.emit (ins 9 0 0)), by omega, by go_num, q0, ql, hI5, (hF.trans hF4).trans hF5, HD2⟩
            case measure => simp [intOf]; omega
          · go_wp2_with fail
            exact ⟨rfl, Out.bad hn (HD2.out.trans (by rw [cseq_stay _ _ _ _ _ hn])), (hF.trans hF4).trans hF5⟩
        · go_wp2_with fail
          exact ⟨rfl, Out.bad hn (HD2.out.trans (by rw [hst _ _ _ hn, cseq_stay _ _ _ _ _ hn])), hF.trans hF4⟩
    · have HR : Hid (cbody e body env s = sk) := by unfold Hid; rw [HC.out, List.drop_eq_nil_of_le (by omega)]; rfl
      have hlt' : ¬ (k : Int) < body.length := by omega
      clear HC
      go_wp2_with fail
      exact bodyPost_end (results_nil0 rfl _ _) rfl ⟨by rw [HR.out]; exact Or.inl ⟨hk0, hkl, rfl, hI⟩, hF⟩
end Go.Proofs.YtkchakcebdenjaaGreat
/-
  The contract of the compiler's frame, given that of expression. No condition beyond the compiler's memory.
-/
namespace Go.Proofs.YtkchakcebdenjaaGreat
open Go.RowKit
theorem own_cut {w : World} {B k n m g cap : Nat} {t : TypeId} {l : List Value} (h : w.ownsRow B t k (.slice (some ⟨g, 0, none⟩) n cap) n l) (hm : m ≤ n) : w.ownsRow B t k (.slice (some ⟨g, 0, none⟩) m cap) m (l.take (m * k)) := by
  have hmk : m * k ≤ n * k := Nat.mul_le_mul_right k hm
  refine ⟨by rw [List.length_take, h.1]; omega, ?_⟩
  rcases h.2 with ⟨e, _⟩ | ⟨g', cap', cur, e, hb, hg, hnc, hcm, hcs, htake⟩
  · cases e
  · simp only [Value.slice.injEq, Option.some.injEq, Addr.mk.injEq, true_and, and_true] at e
    obtain ⟨rfl, rfl⟩ := e
    refine Or.inr ⟨g, cap, cur, rfl, hb, hg, by omega, hcm, hcs, ?_⟩
    rw [← htake, List.take_take, Nat.min_eq_left hmk]
section
variable {xs : List Nd} {C : Nat} {w w1 : World} {num : Int} {env env' : Env} {pv lv dv fv fv' : Value} {L : List In} {D : List Df}
theorem IC.putF (h : IC xs C w num env pv lv dv fv L D) (hg : w.grownBy w1 fv.ownBlock) (hf : FRow w1 (C + 1) fv' env') : IC xs C (w1.setCell ⟨C, 4, none⟩ fv') num env' pv lv dv fv' L D ∧ IF C w (w1.setCell ⟨C, 4, none⟩ fv') := by
  have hC := h.lt
  obtain ⟨vs, ho, _⟩ := h.frm
  have hF := (IF.of_grown ho (.inr (.inr rfl)) hC hg).trans (IF.of_set w1 4 fv')
  have hb : w1.heap[C]? = some (.cells #[pv, lv, dv, .int .i64 num, fv] 71 (0, 0)) := (hg.block C hC (fun e => own_ne ho h.blk (by decide) e.symm)).trans h.blk
  have ne : ∀ {e : TypeId} {m n : Nat} {v : Value} {l : List Value} {B : Nat}, w1.ownsRow B e m v n l → 71 ≠ e → (w1.setCell ⟨C, 4, none⟩ fv').ownsRow B e m v n l := fun ho he => ownsRow_setCell_other ho (a := ⟨C, 4, none⟩) (own_ne ho hb he) _
  exact ⟨⟨heap_setCell_same w1 C 4 _ _ fv' hb, h.pool.under h.out hF.below, h.out, ne (h.list.kept hg (own_apart h.list ho (by decide))) (by decide), ne (h.defs.kept hg (own_apart h.defs ho (by decide))) (by decide), hf.set hb (by decide) (by decide)⟩, hF⟩
end
set_option maxRecDepth 100000 in
set_option maxHeartbeats 3200000 in
theorem iframec_any (xs : List Nd) (C : Nat) (num : Int) (e : Ex) (hst : Stay e) (names : List ByteArray) (nv : Value) (body : List Int) (bv : Value) (s : CS) (env : Env) (w : World) (h : Ic xs C w num env s.list s.defs) (h0 : s.how = 0) (hl : s.list.length ≤ 400) (hen : env.length ≤ 3001) (N : SRow w nv names) (T : TRow w bv body) (hE : ∀ z ∈ body, ICE xs C num e z ∧ env.length + 1 + z.toNat ≤ 3001) :
    Calls Tryz.prog 102 #[.pointer (some ⟨C, 0, none⟩), nv, bv] w fun r w' => Out xs C num env ((cbody e body (names :: env) s).emit (ins 8 0 0)) (.tuple #[]) r w' ∧ IF C w w' := by
  obtain ⟨pv, lv, dv, fv, h⟩ := h
  obtain ⟨i0, hi, hz0, hz1, hz2⟩ := info_parts Tryz.infoSs
  obtain ⟨vs, ho, hvs⟩ := h.frm
  have hvl := ho.1
  obtain ⟨af, cf, rfl⟩ := own_form ho
  obtain ⟨an, cn, rfl⟩ := N.form
  have hC := h.lt
  obtain ⟨_, _, _, _, c4, _, _, _, f4⟩ := h.cells
  have hB0 : Below w.heap.size w (w.alloc (Obj.cells #[.slice an names.length cn] 85)) := (Below.refl _ _).alloc (Nat.le_refl _) _
  go_enter Tryz.func102, Tryz.ntmps102
  go_wp2_with (at_builtin; refine wpList_append_own _ rfl _ _ 69 rfl (C + 1) 85 i0 (.slice none 0 0) 1 24 Tryz.underlying69 hi hz0 hz1 hz2 rfl (by decide) _ _ _ rfl (ho.alloc _) ⟨_, 0, none⟩ 1 1 [.slice an names.length cn] rfl rfl (cell_one_new _ _ _) (fun u hu => by simp at hu; subst hu; rfl) (by unfold maxLen; omega) (by omega) (by simp; omega) ?_)
  intro v' w1 hown hgrow _
  obtain ⟨av, cv, rfl⟩ := own_form hown
  have h1 := h.on hB0
  have hfr : FRow w1 (C + 1) (.slice av (env.length + 1) cv) (names :: env) := by
    refine ⟨vs ++ [.slice an names.length cn], by rw [List.length_cons]; exact hown, fun i u hu => ?_⟩
    have ho1 := own_below ho hB0
    have hk : ∀ {u : Value} {ss : List ByteArray}, SRow w u ss → SRow w1 u ss := fun r => (own_below r hB0).kept hgrow (own_apart (own_below r hB0) ho1 (by decide))
    rw [List.reverse_cons]
    by_cases hi : i < env.length
    · rw [List.getElem?_append_left (by omega)] at hu
      obtain ⟨q1, q2⟩ := hvs i u hu
      refine ⟨q1, ?_⟩
      rw [List.getD_eq_getElem?_getD, List.getElem?_append_left (by rw [List.length_reverse]; exact hi), ← List.getD_eq_getElem?_getD]
      exact hk q2
    · rw [List.getElem?_append_right (by omega)] at hu
      have hi0 : i - vs.length = 0 := by
        have := (List.getElem?_eq_some_iff.1 hu).1
        simp at this
        omega
      rw [hi0] at hu
      simp at hu
      subst hu
      refine ⟨rfl, ?_⟩
      have hie : i = env.length := by
        have : i - env.length = 0 := by omega
        omega
      rw [List.getD_eq_getElem?_getD, List.getElem?_append_right (by rw [List.length_reverse]; omega), List.length_reverse, hie, Nat.sub_self]
      exact hk N
  obtain ⟨K1, F1⟩ := h1.putF hgrow hfr
  have hF := (IF.of_below (C := C) hB0 (by omega)).trans F1
  have hb1 : w1.heap[C]? = some (.cells #[pv, lv, dv, .int .i64 num, .slice af env.length cf] 71 (0, 0)) := (hgrow.block C (Nat.lt_of_lt_of_le hC hB0.size) (fun e => own_ne (own_below ho hB0) h1.blk (by decide) e.symm)).trans h1.blk
  have c4' : w1.cell? ⟨C, 4, none⟩ = some (.slice af env.length cf) := cell_of_row w1 C 4 _ _ _ hb1
  have f4' : w1.frozen? ⟨C, 4, none⟩ = false := frozen_of_row w1 C 4 _ _ hb1
  clear c4 f4 hown hgrow h1 hfr F1 hb1
  go_wp2_with fail
  refine (ibodyc_any xs C num e hst body bv s (names :: env) _ ⟨_, _, _, _, K1⟩ h0 hl (hF.trow h.blk T) (fun z hz => ⟨(hE z hz).1, by rw [List.length_cons]; exact (hE z hz).2⟩)).mono ?_
  rintro r w5 ⟨hO, hF5⟩
  rcases hO with ⟨q0, ql, rfl, hI5⟩ | ⟨hn, rfl⟩
  · go_wp2_with fail
    refine (iputc_any xs C num _ _ (ins 8 0 0) _ hI5 q0 ql).mono ?_
    rintro r w6 ⟨hO, hF6⟩
    rcases hO with ⟨p0, pl, rfl, hI6⟩ | ⟨hn, rfl⟩
    · obtain ⟨pv6, lv6, dv6, fv6, K6⟩ := hI6
      obtain ⟨vs6, ho6, hvs6⟩ := K6.frm
      obtain ⟨a6, c6, rfl⟩ := own_form ho6
      obtain ⟨g, u0, rfl, _, hg6, _⟩ := own_el ho6 0 (by simp)
      rw [List.length_cons] at ho6
      have hcut := own_cut ho6 (show env.length ≤ env.length + 1 by omega)
      have hvl6 := ho6.1
      have hfr7 : FRow w6 (C + 1) (.slice (some ⟨g, 0, none⟩) env.length c6) env := by
        refine ⟨_, hcut, fun i u hu => ?_⟩
        have hil : i < env.length := by
          have := (List.getElem?_eq_some_iff.1 hu).1
          rw [List.length_take] at this
          omega
        rw [List.getElem?_take, if_pos (by omega)] at hu
        obtain ⟨q1, q2⟩ := hvs6 i u hu
        refine ⟨q1, ?_⟩
        rw [List.reverse_cons, List.getD_eq_getElem?_getD, List.getElem?_append_left (by rw [List.length_reverse]; exact hil), ← List.getD_eq_getElem?_getD] at q2
        exact q2
      have K6' : IC xs C w6 num (names :: env) pv6 lv6 dv6 (.slice (some ⟨g, 0, none⟩) (env.length + 1) c6) _ _ := K6
      obtain ⟨K7, F7⟩ := K6'.putF (World.grownBy.refl _ _) hfr7
      obtain ⟨_, _, _, _, k4, _, _, _, fr4⟩ := K6'.cells
      have hC6 := K6'.lt
      have hFF := ((hF.trans hF5).trans hF6).trans F7
      have hme : ((env.length : Int) + 1) - 1 = (env.length : Int) := by omega
      have hmc : env.length + 1 ≤ c6 := by
        rcases ho6.2 with ⟨e1, _⟩ | ⟨g', cap', cur, e1, _, _, hnc, _⟩
        · cases e1
        · simp only [Value.slice.injEq] at e1
          omega
      have hc0 : ¬ c6 = 0 := by omega
      have hcn : env.length ≤ c6 := by omega
      clear K6 K6' F7 ho6 hcut hfr7 hvs6 hF hF5 hF6 hvs ho
      go_wp2_with fail
      go_region
      all_goals
        go_wp2_with fail
        exact bodyPost_end (results_nil0 rfl _ _) rfl ⟨Or.inl ⟨p0, pl, rfl, _, _, _, _, K7.on (Below.refl _ _).drew⟩, hFF.trans (IF.of_below (Below.refl _ _).drew (by simp; omega))⟩
    · go_wp2_with fail
      exact ⟨rfl, Out.bad hn rfl, (hF.trans hF5).trans hF6⟩
  · go_wp2_with fail
    exact ⟨rfl, Out.bad hn (emit_stay _ _ hn), hF.trans hF5⟩
end Go.Proofs.YtkchakcebdenjaaGreat
