/-
  Texts that stood by themselves, laid into one.
-/
import Derived.Test.YtkchakcebdenjaaGreatSCp7M
import Derived.Test.YtkchakcebdenjaaGreatIc12M
import Derived.Test.YtkchakcebdenjaaGreatSCp12M
import Derived.Test.YtkchakcebdenjaaGreatIc8M
/-
  An expression makes no definition; a value makes at most one: plain mathematics. Nothing of the program; no condition.
-/
namespace Go.Proofs.YtkchakcebdenjaaGreat
open Go.RowKit
theorem emit_defs (s : CS) (x : In) : (s.emit x).defs = s.defs := by
  unfold CS.emit
  split
  · split <;> rfl
  · rfl
theorem lead_defs (s : CS) (a : Nat) : (s.lead a).defs = s.defs := by
  unfold CS.lead
  split <;> rfl
def KeepD (e : Ex) : Prop := ∀ v env s, (e v env s).defs = s.defs
theorem KeepD.seq {e : Ex} (h : KeepD e) (env : Env) : ∀ (l : List Int) (b : Bool) (s : CS), (cseq e env l b s).defs = s.defs := by
  intro l
  induction l with
  | nil => intro b s; rfl
  | cons v l ih =>
    intro b s
    rw [cseq]
    split
    · rw [ih false _, h v env _]
      split
      · rfl
      · exact emit_defs _ _
    · rfl
theorem KeepD.fn {e : Ex} (h : KeepD e) (names : List ByteArray) (body : List Int) (env : Env) (s : CS) : (cfun e names body env s).defs = s.defs := by
  unfold cfun
  dsimp only
  unfold cbody
  rw [lead_defs, emit_defs, h.seq, lead_defs, emit_defs, emit_defs]
theorem KeepD.fold {e : Ex} (h : KeepD e) (env : Env) : ∀ (l : List Int) (s : CS), (l.foldl (fun s u => e u env s) s).defs = s.defs := by
  intro l
  induction l with
  | nil => intro s; rfl
  | cons v l ih => intro s; rw [List.foldl_cons, ih, h]
theorem KeepD.form {e : Ex} (h : KeepD e) (xs : List Nd) (head : ByteArray) (l : List Int) (env : Env) (s : CS) : (cform e xs head l env s).defs = s.defs := by
  unfold cform
  split
  · exact emit_defs _ _
  split
  · unfold cif
    dsimp only
    rw [lead_defs, h, lead_defs, emit_defs, h, emit_defs, h]
  split
  · exact h.seq _ _ _ _
  split
  · split
    · unfold cnames
      split
      · exact h.fn _ _ _ _
      · rfl
    · rfl
  split
  · split
    · rw [emit_defs, h, h.fn]
    · rfl
  · rfl
theorem KeepD.one {e : Ex} (h : KeepD e) (xs : List Nd) : KeepD (cone e xs) := by
  intro v env s
  unfold cone
  split
  · split
    · exact emit_defs _ _
    split
    · split
      · rfl
      · split <;> exact emit_defs _ _
    split
    · split
      · dsimp only
        split
        · exact h.form _ _ _ _ _
        split
        · rfl
        · unfold ccall
          rw [emit_defs, h.fold]
      · rfl
    · rfl
  · rfl
theorem cexp_keepD (xs : List Nd) : ∀ f, KeepD (cexp xs f) := by
  intro f
  induction f with
  | zero => intro v env s; rfl
  | succ f ih => exact ih.one xs
theorem cdefine_len {e : Ex} (h : KeepD e) (name : ByteArray) (names : List ByteArray) (body : List Int) (s : CS) : (cdefine e name names body s).defs.length ≤ s.defs.length + 1 := by
  unfold cdefine
  split
  · exact Nat.le_succ _
  · unfold cbody
    rw [emit_defs, h.seq]
    simp
theorem ctop_len (xs : List Nd) (v : Int) (s : CS) : (ctop xs v s).defs.length ≤ s.defs.length + 1 := by
  unfold ctop
  dsimp only
  split
  · split
    · split
      · exact cdefine_len (cexp_keepD xs _) _ _ _ _
      · exact Nat.le_succ _
    · exact Nat.le_succ _
  · exact cdefine_len (cexp_keepD xs _) _ _ _ _
end Go.Proofs.YtkchakcebdenjaaGreat
/-
  The contract of impl.Compile. No condition beyond bounds.
-/
namespace Go.Proofs.YtkchakcebdenjaaGreat
open Go.RowKit
def onlyNormC (Q : Exit → Act → World → Prop) : Exit → Act → World → Prop
  | .normal, a, w => Q .normal a w
  | _, _, _ => False
theorem wp_normC {P : Program} {c : Code} {Q : Exit → Act → World → Prop} {a : Act} {w : World} (h : c.wp P (onlyNormC Q) a w) : c.wp P Q a w := by
  intro b k cs
  obtain ⟨e, a', w', q, r⟩ := h b k cs
  refine ⟨e, a', w', ?_, r⟩
  cases e <;> first | exact q | exact q.elim
theorem IC.num {xs : List Nd} {C : Nat} {w : World} {num : Int} {env : Env} {pv lv dv fv : Value} {L : List In} {D : List Df} (h : IC xs C w num env pv lv dv fv L D) (k : Int) : IC xs C (w.setCell ⟨C, 3, none⟩ (.int .i64 k)) k env pv lv dv fv L D ∧ IF C w (w.setCell ⟨C, 3, none⟩ (.int .i64 k)) := by
  have hF := IF.of_set (C := C) w 3 (.int .i64 k)
  have ne : ∀ {e : TypeId} {m n : Nat} {v : Value} {l : List Value} {B : Nat}, w.ownsRow B e m v n l → 71 ≠ e → (w.setCell ⟨C, 3, none⟩ (.int .i64 k)).ownsRow B e m v n l := fun ho he => ownsRow_setCell_other ho (a := ⟨C, 3, none⟩) (own_ne ho h.blk he) _
  exact ⟨⟨heap_setCell_same w C 3 _ _ _ h.blk, h.pool.under h.out hF.below, h.out, ne h.list (by decide), ne h.defs (by decide), h.frm.set h.blk (by decide) (by decide)⟩, hF⟩
set_option maxRecDepth 100000 in
set_option maxHeartbeats 6400000 in
theorem icompile_any (v : Value) (xs : List Nd) (vl : Value) (l : List Int) (w : World) (R : NRow w v xs) (T : TRow w vl l) (TI : IRow w vl l) (hlen : l.length ≤ 1048576) (hxl : xs.length ≤ 4194304) :
    Calls Tryz.prog 9 #[.agg #[v], vl] w fun e w' => CompAns w (compR xs l) e w' := by
  have hmf : ∀ (fn : Fn) (first cap : Array Value) (w : World), (Instr.makeFunc fn first cap).run Tryz.prog w = .ok (.func fn first cap) w := fun _ _ _ _ => rfl
  obtain ⟨ao, cap, rfl⟩ := R.small
  obtain ⟨al, cl, rfl, hlc, hcm⟩ := T.form
  obtain ⟨W0, hW0⟩ : ∃ W0, Hid ((((w.alloc (Obj.cells #[.slice ao xs.length cap] 29)).alloc (Obj.cells #[.slice none 0 0, .slice none 0 0, .slice none 0 0] 33)).alloc (Obj.cells #[.int .i64 0] 3)).alloc (Obj.cells #[.int .i64 0] 3) = W0) := ⟨_, rfl⟩
  have X0 : CBox w.heap.size W0 (.slice ao xs.length cap) (.slice none 0 0) (.slice none 0 0) (.slice none 0 0) (.int .i64 0) (.int .i64 0) := by
    rw [← hW0.out]
    have a1 : ∀ (u : World) (o : Obj) (j : Nat), j < u.heap.size → (u.alloc o).heap[j]? = u.heap[j]? := fun u o j h => heap_alloc_old u o h
    have s1 : ∀ (u : World) (o : Obj), (u.alloc o).heap.size = u.heap.size + 1 := fun u o => by simp
    have n1 : ∀ (u : World) (o : Obj) (j : Nat), j = u.heap.size → (u.alloc o).heap[j]? = some o := fun u o j h => by subst h; exact heap_alloc_new u o
    refine ⟨?_, ?_, ?_, ?_⟩
    · rw [a1 _ _ _ (by simp only [s1]; omega), a1 _ _ _ (by simp only [s1]; omega), a1 _ _ _ (by simp only [s1]; omega)]
      exact n1 _ _ _ rfl
    · rw [a1 _ _ _ (by simp only [s1]; omega), a1 _ _ _ (by simp only [s1]; omega)]
      exact n1 _ _ _ (by simp only [s1])
    · rw [a1 _ _ _ (by simp only [s1]; omega)]
      exact n1 _ _ _ (by simp only [s1])
    · exact n1 _ _ _ (by simp only [s1])
  have hB0 : Below w.heap.size w W0 := by
    rw [← hW0.out]
    exact ((((Below.refl _ _).alloc (Nat.le_refl _) _).alloc (by simp) _).alloc (by simp; omega) _).alloc (by simp; omega) _
  have hs0 : W0.heap.size = w.heap.size + 4 := by rw [← hW0.out]; simp
  go_enter_defers Tryz.func9, Tryz.ntmps9
  go_wp2_with fail
  rw [hW0.out]
  refine (ipool_any _ xs _ (R.below hB0)).mono ?_
  rintro e w1 ⟨rfl, hb1⟩
  have X1 := X0.on (hb1.mono (by omega))
  have hB1 := hB0.trans (hb1.mono hB0.size)
  have hs1 := hb1.size
  clear hb1 X0 hB0 hW0
  obtain ⟨c0, c1, c2, c3, c4, c5, f1, f2, f3, f4, f5⟩ := X1.cells
  cases hp : poolB xs with
  | false =>
    have HR : Hid (compR xs l = (([], [], []), 3, 0)) := by unfold Hid compR; rw [hp]; rfl
    have Y4 := ((X1.code3 (.slice none 0 0) (.slice none 0 0) (.slice none 0 0)).set2 (.int .i64 3)).set3 (.int .i64 0)
    have hb4 := ((((hB1.setCell (p := ⟨w.heap.size + 1, 0, none⟩) (by simp) (.slice none 0 0)).setCell (p := ⟨w.heap.size + 1, 1, none⟩) (by simp) (.slice none 0 0)).setCell (p := ⟨w.heap.size + 1, 2, none⟩) (by simp) (.slice none 0 0)).setCell (p := ⟨w.heap.size + 1 + 1, 0, none⟩) (by simp; omega) (.int .i64 3)).setCell (p := ⟨w.heap.size + 1 + 1 + 1, 0, none⟩) (by simp; omega) (.int .i64 0)
    obtain ⟨_, x1, x2, x3, x4, x5, _⟩ := Y4.cells
    go_wp2_with fail
    simp [bodyPostD, Leaves, results, Tryz.results9, go_sem, x1, x2, x3, x4, x5, Result.andThen]
    rw [HR.out]
    exact ⟨_, _, _, rfl, ⟨rfl, .inl ⟨rfl, rfl⟩⟩, ⟨rfl, .inl ⟨rfl, rfl⟩⟩, ⟨rfl, .inl ⟨rfl, rfl⟩⟩, hb4⟩
  | true =>
    have hplen := (pool_s2 hp).1
    go_wp2_with fail
    refine (hasall_any _ _ xs l _ (R.below hB1) (TI.below hB1)).mono ?_
    rintro e w2 ⟨rfl, hb2⟩
    have X2 := X1.on (hb2.mono (by omega))
    have hB2 := hB1.trans (hb2.mono hB1.size)
    have hs2 := hb2.size
    clear hb2 X1 hB1 c0 c1 c2 c3 c4 c5 f1 f2 f3 f4 f5
    obtain ⟨c0, c1, c2, c3, c4, c5, f1, f2, f3, f4, f5⟩ := X2.cells
    cases ha : allI xs l with
    | false =>
      have HR : Hid (compR xs l = (([], [], []), 3, 0)) := by unfold Hid compR; rw [hp, ha]; rfl
      have Y4 := ((X2.code3 (.slice none 0 0) (.slice none 0 0) (.slice none 0 0)).set2 (.int .i64 3)).set3 (.int .i64 0)
      have hb4 := ((((hB2.setCell (p := ⟨w.heap.size + 1, 0, none⟩) (by simp) (.slice none 0 0)).setCell (p := ⟨w.heap.size + 1, 1, none⟩) (by simp) (.slice none 0 0)).setCell (p := ⟨w.heap.size + 1, 2, none⟩) (by simp) (.slice none 0 0)).setCell (p := ⟨w.heap.size + 1 + 1, 0, none⟩) (by simp; omega) (.int .i64 3)).setCell (p := ⟨w.heap.size + 1 + 1 + 1, 0, none⟩) (by simp; omega) (.int .i64 0)
      obtain ⟨_, x1, x2, x3, x4, x5, _⟩ := Y4.cells
      go_wp2_with fail
      simp [bodyPostD, Leaves, results, Tryz.results9, go_sem, x1, x2, x3, x4, x5, Result.andThen]
      rw [HR.out]
      exact ⟨_, _, _, rfl, ⟨rfl, .inl ⟨rfl, rfl⟩⟩, ⟨rfl, .inl ⟨rfl, rfl⟩⟩, ⟨rfl, .inl ⟨rfl, rfl⟩⟩, hb4⟩
    | true =>
      have hin : InP xs l := fun z hz => by
        have := List.all_eq_true.1 ha z hz
        simp only [hasI, Bool.and_eq_true, decide_eq_true_eq] at this
        exact ⟨z.toNat, by omega, by omega⟩
      obtain ⟨W3, hW3⟩ : ∃ W3, Hid (w2.alloc (Obj.cells #[.slice ao xs.length cap, .slice none 0 0, .slice none 0 0, .int .i64 0, .slice none 0 0] 71) = W3) := ⟨_, rfl⟩
      have hB3 : Below w2.heap.size w2 W3 := by rw [← hW3.out]; exact (Below.refl _ _).alloc (Nat.le_refl _) _
      have hblk : W3.heap[w2.heap.size]? = some (.cells #[.slice ao xs.length cap, .slice none 0 0, .slice none 0 0, .int .i64 0, .slice none 0 0] 71 (0, 0)) := by rw [← hW3.out]; exact heap_alloc_new _ _
      have I3 : Ic xs w2.heap.size W3 0 [] [] [] := by
        refine ⟨_, _, _, _, hblk, (R.below hB2).below hB3, fun hne g hg => ?_, ⟨by simp [incs], .inl ⟨rfl, rfl⟩⟩, ⟨by simp [dfcs], .inl ⟨rfl, rfl⟩⟩, ⟨[], ⟨by simp, .inl ⟨rfl, rfl⟩⟩, fun i u h => by simp at h⟩⟩
        obtain ⟨ao', cap', e', _, _, _, hcell⟩ := R
        simp only [Value.slice.injEq] at e'
        obtain ⟨rfl, _, rfl⟩ := e'
        obtain ⟨g', o', rfl, hg', _⟩ := hcell hne
        simp only [Value.ownBlock, Option.some.injEq] at hg
        omega
      have X3 := X2.on (hB3.mono (by omega))
      have T3 := (T.below hB2).below hB3
      have hBB3 := hB2.trans (hB3.mono (by omega))
      obtain ⟨C, hC⟩ : ∃ C, Hid (w2.heap.size = C) := ⟨_, rfl⟩
      have hCq : w.heap.size + 4 ≤ C := by have := hC.out; omega
      go_wp2_with fail
      rw [hW3.out]
      rw [hC.out] at I3 hblk hB3 ⊢
      clear c0 c1 c2 c3 c4 c5 f1 f2 f3 f4 f5 X2 hB2 hW3 TI
      go_loopw [26] (fun i wr => ∃ (k : Nat) (s : CS) (n : Int), k ≤ l.length ∧ i = .int .i64 k ∧ s.how = 0 ∧ s.list.length ≤ 400 ∧ Sm s ∧ s.defs.length ≤ k ∧ Ic xs C wr n [] s.list s.defs ∧ IF C W3 wr ∧ Hid (ctops xs l 0 ⟨[], [], 0⟩ = ctops xs (l.drop k) k s)) (fun i _ => l.length - (intOf i).toNat)
      case atStart => exact ⟨0, ⟨[], [], 0⟩, 0, by omega, rfl, rfl, by simp, ⟨by simp, by simp⟩, by simp, I3, IF.refl _ _, rfl⟩
      case round =>
        obtain ⟨k, s, num, hk, rfl, h0, hl, hSm, hdl, hI, hF, HC⟩ := hrel
        by_cases hlt : k < l.length
        · have Tr := hF.trow hblk T3
          obtain ⟨g, o, rfl, hg, hc⟩ := Tr.cell k hlt
          obtain ⟨z, hz⟩ : ∃ z, l[k]? = some z := ⟨l[k], List.getElem?_eq_getElem hlt⟩
          have hgd : l.getD k 0 = z := by rw [List.getD_eq_getElem?_getD, hz]; rfl
          rw [hgd] at hc
          obtain ⟨n, rfl, hn⟩ := hin z (List.mem_of_getElem? hz)
          have hlt' : (k : Int) < l.length := by omega
          have HD : Hid (ctops xs l 0 ⟨[], [], 0⟩ = if (ctop xs n s).how = 0 then ctops xs (l.drop (k + 1)) (k + 1) (ctop xs n s) else (ctop xs n s, k)) := by
            unfold Hid
            obtain ⟨hl', he'⟩ := List.getElem?_eq_some_iff.1 hz
            rw [HC.out, List.drop_eq_getElem_cons hl', he', ctops]
          obtain ⟨pv, lv, dv, fv, K⟩ := hI
          obtain ⟨_, _, _, q3, _, _, _, fr3, _⟩ := K.cells
          obtain ⟨K4, F4⟩ := K.num (k : Int)
          have hFF := hF.trans F4
          have hSm2 := ctop_sm xs (fun v => ndAt_s hp v) n s hSm
          have hln := ctop_len xs n s
          have hX := X3.on (hFF.below.mono (by omega))
          clear HC hz hgd Tr K F4 hF
          go_wp2_with fail
          refine (icvalue_any xs hp C k n hn s _ ⟨_, _, _, _, K4⟩ h0 hl hSm (by omega)).mono ?_
          rintro r w5 ⟨hO, F5⟩
          rcases hO.symm with ⟨hw, rfl⟩ | ⟨q0, ql, rfl, I5⟩
          · have HR : Hid (compR xs l = (([], [], []), (ctop xs n s).how, plc k (ctop xs n s).how)) := by
              unfold Hid compR plc
              rw [hp, ha]
              have e := HD.out
              rw [if_neg hw] at e
              rw [e]
              simp only [Bool.and_self, if_true]
              rw [if_neg hw]
              split
              · rename_i h3; rw [h3]
              · rfl
            have X5 := hX.on (F5.below.mono (by omega))
            have hB5 := hBB3.trans ((hFF.trans F5).below.mono (by omega))
            generalize plc (k : Int) (ctop xs n s).how = pp at *
            generalize (ctop xs n s).how = hh at *
            go_wp2_with fail
            refine leaves_cons (f := 30) (args := #[.pointer (some ⟨w.heap.size + 1, 0, none⟩), .pointer (some ⟨w.heap.size + 1 + 1, 0, none⟩), .pointer (some ⟨w.heap.size + 1 + 1 + 1, 0, none⟩)]) (by simp) (by simp [go_sem]) ?_
            refine (catchc_panicking w.heap.size _ _ _ _ _ _ hh pp [] _ X5).mono ?_
            rintro e u' w6 ⟨rfl, rfl, X6, hb6⟩
            obtain ⟨_, x1, x2, x3, x4, x5, _⟩ := X6.cells
            simp [Leaves, settle, results, Tryz.results9, go_sem, x1, x2, x3, x4, x5, Result.andThen]
            rw [HR.out]
            exact ⟨_, _, _, rfl, ⟨rfl, .inl ⟨rfl, rfl⟩⟩, ⟨rfl, .inl ⟨rfl, rfl⟩⟩, ⟨rfl, .inl ⟨rfl, rfl⟩⟩, hB5.trans hb6⟩
          have HD2 : Hid (ctops xs l 0 ⟨[], [], 0⟩ = ctops xs (l.drop (k + 1)) (k + 1) (ctop xs n s)) := by unfold Hid; rw [HD.out, if_pos q0]
          clear HD
          go_wp2_with fail
          go_roundw
          case rel => exact ⟨k + 1, ctop xs n s, k, by omega, by go_num, q0, ql, hSm2, by omega, I5, hFF.trans F5, HD2⟩
          case measure => simp [intOf]; omega
        · have HE : Hid (ctops xs l 0 ⟨[], [], 0⟩ = (s, l.length)) := by
            unfold Hid
            rw [HC.out, List.drop_eq_nil_of_le (by omega), show k = l.length by omega]
            rfl
          have hlt' : ¬ (k : Int) < l.length := by omega
          have X8 := X3.on (hF.below.mono (by omega))
          have hB8 := hBB3.trans (hF.below.mono (by omega))
          have R8 := R.below hB8
          obtain ⟨pv, lv, dv, fv, K⟩ := hI
          clear HC X3 hBB3 T3 hF I3 hblk hB3
          obtain ⟨_, k1, k2, _⟩ := K.cells
          obtain ⟨aL, cL, rfl⟩ := own_form K.list
          obtain ⟨aD, cD, rfl⟩ := own_form K.defs
          obtain ⟨c0, c1, c2, c3, c4, c5, f1, f2, f3, f4, f5⟩ := X8.cells
          have hCl := K.lt
          have hXl := X8.lt
          go_wp2_with fail
          have bA : Below wr.heap.size wr wr.drew := (Below.refl _ _).drew
          have j1 : ¬ C = w.heap.size + 1 := by omega
          have j2 : ¬ w.heap.size + 1 = C := by omega
          have j3 : ¬ w.heap.size = w.heap.size + 1 := by omega
          have j4 : ¬ w.heap.size + 1 = w.heap.size := by omega
          refine wp_normC ?_
          go_region_held (fun w' => w'.cell? ⟨w.heap.size, 0, none⟩ = some (.slice ao xs.length cap) ∧ w'.cell? ⟨C, 1, none⟩ = some (.slice aL s.list.length cL) ∧ w'.cell? ⟨C, 2, none⟩ = some (.slice aD s.defs.length cD)) (first | exact ⟨d0, n0, n1⟩ | go_keep) (first
            | (go_at_call 32; refine (with_any _ _ xs [] _ ?_ ?_ ?_).mono ?_; exact R8.below bA; exact NRow.nil0 _; simp; omega; rintro e w5 ⟨v5, rfl, ho5, hb5⟩; rw [List.append_nil] at ho5; obtain ⟨ao5, cap5, rfl⟩ := own_form ho5
               have hb15 : Below wr.heap.size wr w5 := bA.trans hb5
               have X5 := X8.on (hb15.mono (by omega))
               have n0 := (hb15.cell (p := ⟨C, 1, none⟩) hCl).trans k1
               have n1 := (hb15.cell (p := ⟨C, 2, none⟩) hCl).trans k2
               obtain ⟨d0, d1, d2, d3, d4, d5, r1, r2, r3, r4, r5⟩ := X5.cells))
          all_goals
            unfold onlyNormC
            have hB5 := hB8.trans (hb15.mono hB8.size)
            have hs15 := hb15.size
            have hs8 := hB8.size
            have sB : ∀ {u : World} {e : TypeId} {m k : Nat} {x : Value} {ys : List Value} (i o : Nat) (z : Value), i < w.heap.size + 4 → u.ownsRow (w.heap.size + 4) e m x k ys → (u.setCell ⟨i, o, none⟩ z).ownsRow (w.heap.size + 4) e m x k ys := fun i o z hi h => ownsRow_setCell_below h (a := ⟨i, o, none⟩) hi z
            have p1 : w5.ownsRow (w.heap.size + 4) 92 5 (.slice ao5 xs.length cap5) xs.length (ncs xs) := own_mono ho5 (by simp; omega)
            have p2 : w5.ownsRow (w.heap.size + 4) 53 4 (.slice aL s.list.length cL) s.list.length (incs s.list) := own_mono (own_below K.list hb15) (by omega)
            have p3 : w5.ownsRow (w.heap.size + 4) 51 3 (.slice aD s.defs.length cD) s.defs.length (dfcs s.defs) := own_mono (own_below K.defs hb15) (by omega)
            have r1' := sB (w.heap.size + 1) 2 (.slice aD s.defs.length cD) (by omega) (sB (w.heap.size + 1) 1 (.slice aL s.list.length cL) (by omega) (sB (w.heap.size + 1) 0 (.slice ao5 xs.length cap5) (by omega) (p1)))
            have r2' := sB (w.heap.size + 1) 2 (.slice aD s.defs.length cD) (by omega) (sB (w.heap.size + 1) 1 (.slice aL s.list.length cL) (by omega) (sB (w.heap.size + 1) 0 (.slice ao5 xs.length cap5) (by omega) (p2)))
            have r3' := sB (w.heap.size + 1) 2 (.slice aD s.defs.length cD) (by omega) (sB (w.heap.size + 1) 1 (.slice aL s.list.length cL) (by omega) (sB (w.heap.size + 1) 0 (.slice ao5 xs.length cap5) (by omega) (p3)))
            have hBF := (((hB5).setCell (p := ⟨w.heap.size + 1, 0, none⟩) (by simp) (.slice ao5 xs.length cap5)).setCell (p := ⟨w.heap.size + 1, 1, none⟩) (by simp) (.slice aL s.list.length cL)).setCell (p := ⟨w.heap.size + 1, 2, none⟩) (by simp) (.slice aD s.defs.length cD)
            have X9 := X5.code3 (.slice ao5 xs.length cap5) (.slice aL s.list.length cL) (.slice aD s.defs.length cD)
            clear p1 p2 p3 d0 d1 d2 d3 d4 d5 r1 r2 r3 r4 r5 n0 n1 hb15 hb5 ho5 K X8 X5 hB8 hB5 c0 c1 c2 c3 c4 c5 f1 f2 f3 f4 f5 k1 k2 R8 bA
            generalize ((w5.setCell ⟨w.heap.size + 1, 0, none⟩ (.slice ao5 xs.length cap5)).setCell ⟨w.heap.size + 1, 1, none⟩ (.slice aL s.list.length cL)).setCell ⟨w.heap.size + 1, 2, none⟩ (.slice aD s.defs.length cD) = F at *
            obtain ⟨_, x1, x2, x3, _⟩ := X9.cells
            have x1' : F.cell? ⟨w.heap.size + 1, 0 + 1, none⟩ = some (.slice aL s.list.length cL) := x2
            have x2' : F.cell? ⟨w.heap.size + 1, 0 + 2, none⟩ = some (.slice aD s.defs.length cD) := x3
            go_wp2_with fail
            refine (icodeok_any _ _ _ xs s.list s.defs _ (NRow.of_own r1' (by omega) R.sz) (InRow.of_own r2' (by omega) (fun x hx => Nat.le_trans (hSm.1 x hx) (by unfold maxLen; omega))) (DfRow.of_own r3' (by omega) (fun x hx => Nat.le_trans (hSm.2 x hx) (by unfold maxLen; omega)))).mono ?_
            rintro e w9 ⟨rfl, hb9⟩
            have X10 := X9.on (hb9.mono (by have := X9.lt; omega))
            have u1 := own_below r1' hb9
            have u2 := own_below r2' hb9
            have u3 := own_below r3' hb9
            have hB9 := hBF.trans (hb9.mono hBF.size)
            clear x1 x2 x3 x1' x2' r1' r2' r3' X9 hBF hb9
            obtain ⟨_, c1, c2, c3, c4, c5, f1, f2, f3, f4, f5⟩ := X10.cells
            have hX10 := X10.lt
            cases hcb : codeB xs s.list s.defs with
            | false =>
              have HR : Hid (compR xs l = (([], [], []), 3, 0)) := by
                unfold Hid compR
                rw [hp, ha]
                simp only [Bool.and_self, if_true]
                rw [HE.out]
                dsimp only
                rw [if_pos h0, hcb]
                rfl
              have Y4 := ((X10.code3 (.slice none 0 0) (.slice none 0 0) (.slice none 0 0)).set2 (.int .i64 3)).set3 (.int .i64 0)
              have hb4 := (((((hB9).setCell (p := ⟨w.heap.size + 1, 0, none⟩) (by simp) (.slice none 0 0)).setCell (p := ⟨w.heap.size + 1, 1, none⟩) (by simp) (.slice none 0 0)).setCell (p := ⟨w.heap.size + 1, 2, none⟩) (by simp) (.slice none 0 0)).setCell (p := ⟨w.heap.size + 1 + 1, 0, none⟩) (by simp; omega) (.int .i64 3)).setCell (p := ⟨w.heap.size + 1 + 1 + 1, 0, none⟩) (by simp; omega) (.int .i64 0)
              clear u1 u2 u3
              go_wp2_with fail
              refine leaves_cons (f := 30) (args := #[.pointer (some ⟨w.heap.size + 1, 0, none⟩), .pointer (some ⟨w.heap.size + 1 + 1, 0, none⟩), .pointer (some ⟨w.heap.size + 1 + 1 + 1, 0, none⟩)]) (by simp) (by simp [go_sem]) ?_
              refine (catchc_idle ⟨w.heap.size + 1, 0, none⟩ ⟨w.heap.size + 1 + 1, 0, none⟩ ⟨w.heap.size + 1 + 1 + 1, 0, none⟩ _).mono ?_
              rintro e u' w7 ⟨rfl, rfl, hb7⟩
              have X7 := Y4.on (hb7.mono (by have := Y4.lt; omega))
              obtain ⟨_, x1, x2, x3, x4, x5, _⟩ := X7.cells
              simp [Leaves, settle, results, Tryz.results9, go_sem, x1, x2, x3, x4, x5, Result.andThen]
              rw [HR.out]
              exact ⟨_, _, _, rfl, ⟨rfl, .inl ⟨rfl, rfl⟩⟩, ⟨rfl, .inl ⟨rfl, rfl⟩⟩, ⟨rfl, .inl ⟨rfl, rfl⟩⟩, hb4.trans (hb7.mono hb4.size)⟩
            | true =>
              have HR : Hid (compR xs l = ((xs, s.list, s.defs), 0, (l.length : Int))) := by
                unfold Hid compR
                rw [hp, ha]
                simp only [Bool.and_self, if_true]
                rw [HE.out]
                dsimp only
                rw [if_pos h0, hcb]
                rfl
              have Y4 := ((X10.code3 (.slice ao5 xs.length cap5) (.slice aL s.list.length cL) (.slice aD s.defs.length cD)).set2 (.int .i64 0)).set3 (.int .i64 l.length)
              have hb4 := (((((hB9).setCell (p := ⟨w.heap.size + 1, 0, none⟩) (by simp) (.slice ao5 xs.length cap5)).setCell (p := ⟨w.heap.size + 1, 1, none⟩) (by simp) (.slice aL s.list.length cL)).setCell (p := ⟨w.heap.size + 1, 2, none⟩) (by simp) (.slice aD s.defs.length cD)).setCell (p := ⟨w.heap.size + 1 + 1, 0, none⟩) (by simp; omega) (.int .i64 0)).setCell (p := ⟨w.heap.size + 1 + 1 + 1, 0, none⟩) (by simp; omega) (.int .i64 l.length)
              have t1 := sB (w.heap.size + 1 + 1 + 1) 0 (.int .i64 l.length) (by omega) (sB (w.heap.size + 1 + 1) 0 (.int .i64 0) (by omega) (sB (w.heap.size + 1) 2 (.slice aD s.defs.length cD) (by omega) (sB (w.heap.size + 1) 1 (.slice aL s.list.length cL) (by omega) (sB (w.heap.size + 1) 0 (.slice ao5 xs.length cap5) (by omega) (u1)))))
              have t2 := sB (w.heap.size + 1 + 1 + 1) 0 (.int .i64 l.length) (by omega) (sB (w.heap.size + 1 + 1) 0 (.int .i64 0) (by omega) (sB (w.heap.size + 1) 2 (.slice aD s.defs.length cD) (by omega) (sB (w.heap.size + 1) 1 (.slice aL s.list.length cL) (by omega) (sB (w.heap.size + 1) 0 (.slice ao5 xs.length cap5) (by omega) (u2)))))
              have t3 := sB (w.heap.size + 1 + 1 + 1) 0 (.int .i64 l.length) (by omega) (sB (w.heap.size + 1 + 1) 0 (.int .i64 0) (by omega) (sB (w.heap.size + 1) 2 (.slice aD s.defs.length cD) (by omega) (sB (w.heap.size + 1) 1 (.slice aL s.list.length cL) (by omega) (sB (w.heap.size + 1) 0 (.slice ao5 xs.length cap5) (by omega) (u3)))))
              clear u1 u2 u3
              have c2' : w9.cell? ⟨w.heap.size + 1, 0 + 1, none⟩ = some (.slice aL s.list.length cL) := c2
              have c3' : w9.cell? ⟨w.heap.size + 1, 0 + 2, none⟩ = some (.slice aD s.defs.length cD) := c3
              go_wp2_with fail
              refine leaves_cons (f := 30) (args := #[.pointer (some ⟨w.heap.size + 1, 0, none⟩), .pointer (some ⟨w.heap.size + 1 + 1, 0, none⟩), .pointer (some ⟨w.heap.size + 1 + 1 + 1, 0, none⟩)]) (by simp) (by simp [go_sem]) ?_
              refine (catchc_idle ⟨w.heap.size + 1, 0, none⟩ ⟨w.heap.size + 1 + 1, 0, none⟩ ⟨w.heap.size + 1 + 1 + 1, 0, none⟩ _).mono ?_
              rintro e u' w7 ⟨rfl, rfl, hb7⟩
              have X7 := Y4.on (hb7.mono (by have := Y4.lt; omega))
              obtain ⟨_, x1, x2, x3, x4, x5, _⟩ := X7.cells
              simp [Leaves, settle, results, Tryz.results9, go_sem, x1, x2, x3, x4, x5, Result.andThen]
              rw [HR.out]
              exact ⟨_, _, _, rfl, own_mono (own_below t1 hb7) (by omega), own_mono (own_below t2 hb7) (by omega), own_mono (own_below t3 hb7) (by omega), hb4.trans (hb7.mono hb4.size)⟩
end Go.Proofs.YtkchakcebdenjaaGreat
/-
  How great what is compiled may be: plain mathematics. Nothing of the program; no condition.
-/
namespace Go.Proofs.YtkchakcebdenjaaGreat
open Go.RowKit
theorem ctops_sm {xs : List Nd} (hp : poolB xs = true) : ∀ (l : List Int) (i : Nat) (s : CS), Sm s → Sm (ctops xs l i s).1
  | [], _, _, h => h
  | v :: l, i, s, h => by
    have h1 := ctop_sm xs (fun v => ndAt_s hp v) v s h
    rw [ctops]
    split
    · exact ctops_sm hp l (i + 1) _ h1
    · exact h1
theorem codeB_len {ns : List Nd} {is : List In} {ds : List Df} (h : codeB ns is ds = true) : ns.length ≤ 3000 ∧ is.length ≤ 400 ∧ ds.length ≤ 20 := by
  unfold codeB poolB at h
  simp only [Bool.and_eq_true, decide_eq_true_eq] at h
  exact ⟨h.1.1.1, h.1.2.1, h.2.1⟩
theorem compR_ok (xs : List Nd) (l : List Int) (hz : ∀ x ∈ xs, x.s.size ≤ maxLen) :
    ((compR xs l).1.1.length ≤ 3000 ∧ (compR xs l).1.2.1.length ≤ 400 ∧ (compR xs l).1.2.2.length ≤ 20) ∧ (∀ x ∈ (compR xs l).1.1, x.s.size ≤ maxLen) ∧ (∀ x ∈ (compR xs l).1.2.1, x.s.size ≤ maxLen) ∧ (∀ x ∈ (compR xs l).1.2.2, x.s.size ≤ maxLen) := by
  have h0 : ((([] : List Nd), ([] : List In), ([] : List Df)).1.length ≤ 3000 ∧ (([] : List Nd), ([] : List In), ([] : List Df)).2.1.length ≤ 400 ∧ (([] : List Nd), ([] : List In), ([] : List Df)).2.2.length ≤ 20) ∧ (∀ x ∈ (([] : List Nd), ([] : List In), ([] : List Df)).1, x.s.size ≤ maxLen) ∧ (∀ x ∈ (([] : List Nd), ([] : List In), ([] : List Df)).2.1, x.s.size ≤ maxLen) ∧ (∀ x ∈ (([] : List Nd), ([] : List In), ([] : List Df)).2.2, x.s.size ≤ maxLen) := by simp
  unfold compR
  split
  · rename_i hpa
    simp only [Bool.and_eq_true] at hpa
    have hS := ctops_sm hpa.1 l 0 ⟨[], [], 0⟩ ⟨by simp, by simp⟩
    split
    · split
      · rename_i hc
        refine ⟨codeB_len hc, hz, fun x hx => ?_, fun x hx => ?_⟩
        · exact Nat.le_trans (hS.1 x hx) (by unfold maxLen; omega)
        · exact Nat.le_trans (hS.2 x hx) (by unfold maxLen; omega)
      · exact h0
    · split
      · exact h0
      · exact h0
  · exact h0
end Go.Proofs.YtkchakcebdenjaaGreat
