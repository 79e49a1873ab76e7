/-
  Texts that stood by themselves, laid into one.
-/
import Derived.Test.YtkchakcebdenjaaGreatAs2M
/-
  The memory of impl's compiler, and how it asks whether a form is as told. No condition beyond that memory.
-/
namespace Go.Proofs.YtkchakcebdenjaaGreat
open Go.RowKit
theorem results_nil0 {P : Program} {fn : Func} (h : fn.results = #[]) (tmps : Array Value) (w : World) : (results fn tmps).run P w = .ok (.tuple #[]) w := by simp [results, h]
def oopc (h p : Int) : List PanicEntry := [{ v := .iface 66 (.agg #[.int .i64 h, .int .i64 p]), recovered := false }]
structure IF (C : Nat) (w w' : World) : Prop where
  below : Below C w w'
  keep : ∀ (k : Nat) (c : Array Value) (t : TypeId) (fr : Nat × Nat), w.heap[k]? = some (.cells c t fr) → k ≠ C → t ≠ 53 → t ≠ 51 → t ≠ 85 → w'.heap[k]? = some (.cells c t fr)
theorem IF.refl (C : Nat) (w : World) : IF C w w := ⟨Below.refl _ _, fun _ _ _ _ h _ _ _ _ => h⟩
theorem IF.trans {C : Nat} {w w1 w2 : World} (h : IF C w w1) (k : IF C w1 w2) : IF C w w2 :=
  ⟨h.below.trans k.below, fun j c t fr e h1 h2 h3 h4 => k.keep j c t fr (h.keep j c t fr e h1 h2 h3 h4) h1 h2 h3 h4⟩
theorem IF.of_below {C : Nat} {w w' : World} (h : Below w.heap.size w w') (hC : C ≤ w.heap.size) : IF C w w' :=
  ⟨h.mono hC, fun j _ _ _ e _ _ _ _ => (h.block j (Array.getElem?_eq_some_iff.1 e).1).trans e⟩
theorem IF.of_set {C : Nat} (w : World) (o : Nat) (v : Value) : IF C w (w.setCell ⟨C, o, none⟩ v) :=
  ⟨(Below.refl _ w).setCell (p := ⟨C, o, none⟩) (by simp) v, fun j _ _ _ e h1 _ _ _ => (heap_setCell_other w ⟨C, o, none⟩ j v h1).trans e⟩
theorem IF.of_grown {C n k : Nat} {e : TypeId} {w w' : World} {v : Value} {l : List Value} (ho : w.ownsRow (C + 1) e k v n l) (he : e = 53 ∨ e = 51 ∨ e = 85) (hC : C < w.heap.size) (hg : w.grownBy w' v.ownBlock) : IF C w w' := by
  refine ⟨(Below.refl _ w).grown hg (Nat.le_of_lt hC) (fun q hq => by have := (ho.lt q hq).1; omega), fun j c t fr h h1 h2 h3 h4 => (hg.block j (Array.getElem?_eq_some_iff.1 h).1 ?_).trans h⟩
  have := own_ne ho h (by rcases he with rfl | rfl | rfl; exact h2; exact h3; exact h4)
  exact fun q => this q.symm
theorem IF.own {C B n k : Nat} {e t : TypeId} {w w' : World} {v : Value} {l : List Value} {c : Array Value} {fr : Nat × Nat} (h : IF C w w') (ho : w.ownsRow B e k v n l) (hC : w.heap[C]? = some (.cells c t fr)) (h0 : t ≠ e) (h1 : e ≠ 53) (h2 : e ≠ 51) (h3 : e ≠ 85) : w'.ownsRow B e k v n l := by
  have hne := own_ne ho hC h0
  refine ⟨ho.1, ?_⟩
  rcases ho.2 with ⟨rfl, hn⟩ | ⟨g, cap, cur, rfl, hB, hg, hr⟩
  · exact .inl ⟨rfl, hn⟩
  · exact .inr ⟨g, cap, cur, rfl, hB, h.keep g _ _ _ hg (fun q => hne (by rw [q]; rfl)) h1 h2 h3, hr⟩
theorem IF.srow {C : Nat} {w w' : World} {v : Value} {ss : List ByteArray} {c : Array Value} {fr : Nat × Nat} (h : IF C w w') (hC : w.heap[C]? = some (.cells c 71 fr)) (r : SRow w v ss) : SRow w' v ss := h.own r hC (by decide) (by decide) (by decide) (by decide)
theorem IF.trow {C : Nat} {w w' : World} {v : Value} {l : List Int} {c : Array Value} {fr : Nat × Nat} (h : IF C w w') (hC : w.heap[C]? = some (.cells c 71 fr)) (r : TRow w v l) : TRow w' v l := by
  obtain ⟨ao, cap, rfl, h1, h2, h3⟩ := r
  refine ⟨ao, cap, rfl, h1, h2, fun hne => ?_⟩
  obtain ⟨g, o, cur, fr', e, hg, hc⟩ := h3 hne
  refine ⟨g, o, cur, fr', e, h.keep g cur 3 fr' hg (fun q => ?_) (by decide) (by decide) (by decide), hc⟩
  subst q
  rw [hC] at hg
  simp at hg
def FRow (w : World) (B : Nat) (v : Value) (env : Env) : Prop := ∃ vs : List Value, w.ownsRow B 85 1 v env.length vs ∧ (∀ i u, vs[i]? = some u → u.oneCell' = true ∧ SRow w u (env.reverse.getD i []))
theorem FRow.below {w w' : World} {B : Nat} {v : Value} {env : Env} (r : FRow w B v env) (hb : Below w.heap.size w w') : FRow w' B v env := by
  obtain ⟨vs, h, hs⟩ := r
  exact ⟨vs, own_below h hb, fun i u e => ⟨(hs i u e).1, own_below (hs i u e).2 hb⟩⟩
structure IC (xs : List Nd) (C : Nat) (w : World) (num : Int) (env : Env) (pv lv dv fv : Value) (L : List In) (D : List Df) : Prop where
  blk : w.heap[C]? = some (.cells #[pv, lv, dv, .int .i64 num, fv] 71 (0, 0))
  pool : NRow w pv xs
  out : xs ≠ [] → ∀ g, pv.ownBlock = some g → g < C
  list : w.ownsRow (C + 1) 53 4 lv L.length (incs L)
  defs : w.ownsRow (C + 1) 51 3 dv D.length (dfcs D)
  frm : FRow w (C + 1) fv env
def Ic (xs : List Nd) (C : Nat) (w : World) (num : Int) (env : Env) (L : List In) (D : List Df) : Prop := ∃ pv lv dv fv, IC xs C w num env pv lv dv fv L D
section
variable {xs : List Nd} {C : Nat} {w w' : World} {num : Int} {env : Env} {pv lv dv fv : Value} {L : List In} {D : List Df}
theorem IC.lt (h : IC xs C w num env pv lv dv fv L D) : C < w.heap.size := (Array.getElem?_eq_some_iff.1 h.blk).1
theorem IC.on (h : IC xs C w num env pv lv dv fv L D) (hb : Below w.heap.size w w') : IC xs C w' num env pv lv dv fv L D :=
  ⟨(hb.block C h.lt).trans h.blk, h.pool.below hb, h.out, own_below h.list hb, own_below h.defs hb, h.frm.below hb⟩
theorem Ic.on (h : Ic xs C w num env L D) (hb : Below w.heap.size w w') : Ic xs C w' num env L D := by
  obtain ⟨pv, lv, dv, fv, h⟩ := h
  exact ⟨pv, lv, dv, fv, h.on hb⟩
theorem Ic.lt (h : Ic xs C w num env L D) : C < w.heap.size := by
  obtain ⟨pv, lv, dv, fv, h⟩ := h
  exact h.lt
theorem Ic.blk (h : Ic xs C w num env L D) : ∃ c, w.heap[C]? = some (.cells c 71 (0, 0)) := by
  obtain ⟨pv, lv, dv, fv, h⟩ := h
  exact ⟨_, h.blk⟩
theorem IC.cells (h : IC xs C w num env pv lv dv fv L D) : w.cell? ⟨C, 0, none⟩ = some pv ∧ w.cell? ⟨C, 1, none⟩ = some lv ∧ w.cell? ⟨C, 2, none⟩ = some dv ∧ w.cell? ⟨C, 3, none⟩ = some (.int .i64 num) ∧ w.cell? ⟨C, 4, none⟩ = some fv ∧ w.frozen? ⟨C, 1, none⟩ = false ∧ w.frozen? ⟨C, 2, none⟩ = false ∧ w.frozen? ⟨C, 3, none⟩ = false ∧ w.frozen? ⟨C, 4, none⟩ = false :=
  ⟨cell_of_row w C 0 _ _ _ h.blk, cell_of_row w C 1 _ _ _ h.blk, cell_of_row w C 2 _ _ _ h.blk, cell_of_row w C 3 _ _ _ h.blk, cell_of_row w C 4 _ _ _ h.blk, frozen_of_row w C 1 _ _ h.blk, frozen_of_row w C 2 _ _ h.blk, frozen_of_row w C 3 _ _ h.blk, frozen_of_row w C 4 _ _ h.blk⟩
theorem IF.trow' (h : IF C w w') (k : Ic xs C w num env L D) {v : Value} {l : List Int} (r : TRow w v l) : TRow w' v l := by
  obtain ⟨c, hb⟩ := k.blk
  exact h.trow hb r
theorem IF.srow' (h : IF C w w') (k : Ic xs C w num env L D) {v : Value} {ss : List ByteArray} (r : SRow w v ss) : SRow w' v ss := by
  obtain ⟨c, hb⟩ := k.blk
  exact h.srow hb r
end
def plc (num h : Int) : Int := if h = 3 then 0 else num
def Out (xs : List Nd) (C : Nat) (num : Int) (env : Env) (s : CS) (r : Value) (e : Ending) (w' : World) : Prop :=
  (s.how = 0 ∧ s.list.length ≤ 400 ∧ e = .returned r ∧ Ic xs C w' num env s.list s.defs) ∨ (s.how ≠ 0 ∧ e = .panicked (oopc s.how (plc num s.how)))
set_option maxHeartbeats 1600000 in
theorem icwrong_any (C : Nat) (h num : Int) (w : World) (c3 : w.cell? ⟨C, 3, none⟩ = some (.int .i64 num)) :
    Calls Tryz.prog 100 #[.pointer (some ⟨C, 0, none⟩), .int .i64 h] w fun e w' => e = .panicked (oopc h num) ∧ w' = w := by
  go_enter Tryz.func100, Tryz.ntmps100
  go_wp2_with fail
  all_goals first | exact ⟨rfl, rfl⟩ | exact ⟨rfl, rfl, rfl⟩ | exact ⟨rfl, by rfl, by rfl⟩
def FmIn (xs : List Nd) : Fm → Prop
  | .fn vs _ => InP xs vs
  | .bin vs _ _ => InP xs vs
  | .defn _ vs _ => InP xs vs
  | _ => True
theorem na_lit (x : Value) (w : World) : (nilAhead 305 154 x "loop.example/g00189/impl.asTold").run Tryz.prog w = .ok (some false) w := by kernel_rfl
theorem me_lit (x : Value) (w : World) : (method 305 154 x "loop.example/g00189/impl.asTold").run Tryz.prog w = .ok (156, x) w := by kernel_rfl
theorem na_men (x : Value) (w : World) : (nilAhead 305 156 x "loop.example/g00189/impl.asTold").run Tryz.prog w = .ok (some false) w := by kernel_rfl
theorem me_men (x : Value) (w : World) : (method 305 156 x "loop.example/g00189/impl.asTold").run Tryz.prog w = .ok (157, x) w := by kernel_rfl
theorem na_quo (x : Value) (w : World) : (nilAhead 305 168 x "loop.example/g00189/impl.asTold").run Tryz.prog w = .ok (some false) w := by kernel_rfl
theorem me_quo (x : Value) (w : World) : (method 305 168 x "loop.example/g00189/impl.asTold").run Tryz.prog w = .ok (159, x) w := by kernel_rfl
theorem na_cho (x : Value) (w : World) : (nilAhead 305 169 x "loop.example/g00189/impl.asTold").run Tryz.prog w = .ok (some false) w := by kernel_rfl
theorem me_cho (x : Value) (w : World) : (method 305 169 x "loop.example/g00189/impl.asTold").run Tryz.prog w = .ok (160, x) w := by kernel_rfl
theorem na_seq (x : Value) (w : World) : (nilAhead 305 170 x "loop.example/g00189/impl.asTold").run Tryz.prog w = .ok (some false) w := by kernel_rfl
theorem me_seq (x : Value) (w : World) : (method 305 170 x "loop.example/g00189/impl.asTold").run Tryz.prog w = .ok (161, x) w := by kernel_rfl
theorem na_cal (x : Value) (w : World) : (nilAhead 305 171 x "loop.example/g00189/impl.asTold").run Tryz.prog w = .ok (some false) w := by kernel_rfl
theorem me_cal (x : Value) (w : World) : (method 305 171 x "loop.example/g00189/impl.asTold").run Tryz.prog w = .ok (162, x) w := by kernel_rfl
theorem na_fun (x : Value) (w : World) : (nilAhead 305 112 x "loop.example/g00189/impl.asTold").run Tryz.prog w = .ok (some false) w := by kernel_rfl
theorem me_fun (x : Value) (w : World) : (method 305 112 x "loop.example/g00189/impl.asTold").run Tryz.prog w = .ok (150, x) w := by kernel_rfl
theorem na_bin (x : Value) (w : World) : (nilAhead 305 180 x "loop.example/g00189/impl.asTold").run Tryz.prog w = .ok (some false) w := by kernel_rfl
theorem me_bin (x : Value) (w : World) : (method 305 180 x "loop.example/g00189/impl.asTold").run Tryz.prog w = .ok (163, x) w := by kernel_rfl
theorem na_def (x : Value) (w : World) : (nilAhead 305 114 x "loop.example/g00189/impl.asTold").run Tryz.prog w = .ok (some false) w := by kernel_rfl
theorem me_def (x : Value) (w : World) : (method 305 114 x "loop.example/g00189/impl.asTold").run Tryz.prog w = .ok (155, x) w := by kernel_rfl
theorem na_stray (x : Value) (w : World) : (nilAhead 305 160 x "loop.example/g00189/impl.asTold").run Tryz.prog w = .ok (some false) w := by kernel_rfl
theorem me_stray (x : Value) (w : World) : (method 305 160 x "loop.example/g00189/impl.asTold").run Tryz.prog w = .ok (158, x) w := by kernel_rfl
set_option maxRecDepth 100000 in
set_option maxHeartbeats 6400000 in
theorem iaskfm_any (xs : List Nd) (C : Nat) (num : Int) (env : Env) (L : List In) (D : List Df) (f : Fm) (u : Value) (w : World) (h : Ic xs C w num env L D) (hf : FmV w f u) (hi : FmIn xs f) :
    Calls Tryz.prog 69 #[.pointer (some ⟨C, 0, none⟩), u] w fun e w' => ((tellB xs f = true ∧ e = .returned (.tuple #[])) ∨ (tellB xs f = false ∧ e = .panicked (oopc 1 num))) ∧ Below w.heap.size w w' := by
  obtain ⟨pv, lv, dv, fv, K⟩ := h
  obtain ⟨c0, c1, c2, c3, c4, _⟩ := K.cells
  have R := K.pool
  obtain ⟨ao, cap, rfl⟩ : ∃ ao cap, pv = .slice ao xs.length cap := by obtain ⟨ao, cap, e, _⟩ := R; exact ⟨ao, cap, e⟩
  have hmf : ∀ (fn : Fn) (first cap : Array Value) (w : World), (Instr.makeFunc fn first cap).run Tryz.prog w = .ok (.func fn first cap) w := fun _ _ _ _ => rfl
  have hb : ∀ n, Below w.heap.size w (w.drewN n) := below_dN w
  have hd1 : Below w.heap.size w w.drew := hb 1
  cases f with
  | lit v =>
    obtain rfl : u = .iface 154 (.agg #[.int .i64 v]) := hf
    have n1 := na_lit
    have n2 := me_lit
    go_enter Tryz.func69, Tryz.ntmps69
    go_wp2_with fail
    go_region_with (go_at_call 156; with_reducible refine (atlit_any v _ _).mono ?_; rintro e w5 ⟨rfl, hb5⟩; first | rw [hbb.out] | skip)
    all_goals
      have hB5 : Below w.heap.size w w5 := (hb 1).trans (hb5.mono (hb 1).size)
      have c5 := (hB5.cell (p := ⟨C, 3, none⟩) K.lt).trans c3
      go_wp2
      exact bodyPost_end (results_nil0 rfl _ _) rfl ⟨Or.inl ⟨rfl, rfl⟩, hB5⟩
  | men s =>
    obtain rfl : u = .iface 156 (.agg #[.string s]) := hf
    have n1 := na_men
    have n2 := me_men
    obtain ⟨b, hbb⟩ : ∃ b, Hid ((!rsv s) = b) := ⟨_, rfl⟩
    have HT : Hid (tellB xs (.men s) = b) := hbb.out
    go_enter Tryz.func69, Tryz.ntmps69
    go_wp2_with fail
    go_region_with (go_at_call 157; with_reducible refine (atmen_any s _ _).mono ?_; rintro e w5 ⟨rfl, hb5⟩; first | rw [hbb.out] | skip)
    all_goals
      have hB5 : Below w.heap.size w w5 := (hb 1).trans (hb5.mono (hb 1).size)
      have c5 := (hB5.cell (p := ⟨C, 3, none⟩) K.lt).trans c3
      cases b with
      | true =>
        go_wp2
        exact bodyPost_end (results_nil0 rfl _ _) rfl ⟨Or.inl ⟨HT.out, rfl⟩, hB5⟩
      | false =>
        go_wp2_with fail
        refine (icwrong_any C 1 num _ c5).mono ?_
        rintro e w6 ⟨rfl, rfl⟩
        go_wp2_with fail
        exact ⟨rfl, Or.inr ⟨HT.out, rfl⟩, hB5⟩
  | quo l =>
    obtain ⟨x, rfl, T⟩ := hf
    obtain ⟨a1, k1, rfl, _⟩ := T.form
    have n1 := na_quo
    have n2 := me_quo
    obtain ⟨b, hbb⟩ : ∃ b, Hid ((decide ((l.length : Int) = 1)) = b) := ⟨_, rfl⟩
    have HT : Hid (tellB xs (.quo l) = b) := hbb.out
    go_enter Tryz.func69, Tryz.ntmps69
    go_wp2_with fail
    go_region_with (go_at_call 159; with_reducible refine (atquo_any _ _ _ _ _).mono ?_; rintro e w5 ⟨rfl, hb5⟩; first | rw [hbb.out] | skip)
    all_goals
      have hB5 : Below w.heap.size w w5 := (hb 1).trans (hb5.mono (hb 1).size)
      have c5 := (hB5.cell (p := ⟨C, 3, none⟩) K.lt).trans c3
      cases b with
      | true =>
        go_wp2
        exact bodyPost_end (results_nil0 rfl _ _) rfl ⟨Or.inl ⟨HT.out, rfl⟩, hB5⟩
      | false =>
        go_wp2_with fail
        refine (icwrong_any C 1 num _ c5).mono ?_
        rintro e w6 ⟨rfl, rfl⟩
        go_wp2_with fail
        exact ⟨rfl, Or.inr ⟨HT.out, rfl⟩, hB5⟩
  | cho l =>
    obtain ⟨x, rfl, T⟩ := hf
    obtain ⟨a1, k1, rfl, _⟩ := T.form
    have n1 := na_cho
    have n2 := me_cho
    obtain ⟨b, hbb⟩ : ∃ b, Hid ((decide ((l.length : Int) = 3)) = b) := ⟨_, rfl⟩
    have HT : Hid (tellB xs (.cho l) = b) := hbb.out
    go_enter Tryz.func69, Tryz.ntmps69
    go_wp2_with fail
    go_region_with (go_at_call 160; with_reducible refine (atcho_any _ _ _ _ _).mono ?_; rintro e w5 ⟨rfl, hb5⟩; first | rw [hbb.out] | skip)
    all_goals
      have hB5 : Below w.heap.size w w5 := (hb 1).trans (hb5.mono (hb 1).size)
      have c5 := (hB5.cell (p := ⟨C, 3, none⟩) K.lt).trans c3
      cases b with
      | true =>
        go_wp2
        exact bodyPost_end (results_nil0 rfl _ _) rfl ⟨Or.inl ⟨HT.out, rfl⟩, hB5⟩
      | false =>
        go_wp2_with fail
        refine (icwrong_any C 1 num _ c5).mono ?_
        rintro e w6 ⟨rfl, rfl⟩
        go_wp2_with fail
        exact ⟨rfl, Or.inr ⟨HT.out, rfl⟩, hB5⟩
  | seq l =>
    obtain ⟨x, rfl, T⟩ := hf
    obtain ⟨a1, k1, rfl, _⟩ := T.form
    have n1 := na_seq
    have n2 := me_seq
    obtain ⟨b, hbb⟩ : ∃ b, Hid ((decide (0 < l.length)) = b) := ⟨_, rfl⟩
    have HT : Hid (tellB xs (.seq l) = b) := hbb.out
    go_enter Tryz.func69, Tryz.ntmps69
    go_wp2_with fail
    go_region_with (go_at_call 161; with_reducible refine (atseq_any _ _ _ _ _).mono ?_; rintro e w5 ⟨rfl, hb5⟩; first | rw [hbb.out] | skip)
    all_goals
      have hB5 : Below w.heap.size w w5 := (hb 1).trans (hb5.mono (hb 1).size)
      have c5 := (hB5.cell (p := ⟨C, 3, none⟩) K.lt).trans c3
      cases b with
      | true =>
        go_wp2
        exact bodyPost_end (results_nil0 rfl _ _) rfl ⟨Or.inl ⟨HT.out, rfl⟩, hB5⟩
      | false =>
        go_wp2_with fail
        refine (icwrong_any C 1 num _ c5).mono ?_
        rintro e w6 ⟨rfl, rfl⟩
        go_wp2_with fail
        exact ⟨rfl, Or.inr ⟨HT.out, rfl⟩, hB5⟩
  | cal l =>
    obtain ⟨x, rfl, T⟩ := hf
    obtain ⟨a1, k1, rfl, _⟩ := T.form
    have n1 := na_cal
    have n2 := me_cal
    obtain ⟨b, hbb⟩ : ∃ b, Hid ((decide ((l.length : Int) ≤ 5)) = b) := ⟨_, rfl⟩
    have HT : Hid (tellB xs (.cal l) = b) := hbb.out
    go_enter Tryz.func69, Tryz.ntmps69
    go_wp2_with fail
    go_region_with (go_at_call 162; with_reducible refine (atcal_any _ _ _ _ _).mono ?_; rintro e w5 ⟨rfl, hb5⟩; first | rw [hbb.out] | skip)
    all_goals
      have hB5 : Below w.heap.size w w5 := (hb 1).trans (hb5.mono (hb 1).size)
      have c5 := (hB5.cell (p := ⟨C, 3, none⟩) K.lt).trans c3
      cases b with
      | true =>
        go_wp2
        exact bodyPost_end (results_nil0 rfl _ _) rfl ⟨Or.inl ⟨HT.out, rfl⟩, hB5⟩
      | false =>
        go_wp2_with fail
        refine (icwrong_any C 1 num _ c5).mono ?_
        rintro e w6 ⟨rfl, rfl⟩
        go_wp2_with fail
        exact ⟨rfl, Or.inr ⟨HT.out, rfl⟩, hB5⟩
  | fn vs bs =>
    have hi' : InP xs vs := hi
    obtain ⟨x, y, rfl, T, T2⟩ := hf
    obtain ⟨a1, k1, rfl, _⟩ := T.form
    obtain ⟨a2, k2, rfl, _⟩ := T2.form
    have n1 := na_fun
    have n2 := me_fun
    obtain ⟨b, hbb⟩ : ∃ b, Hid ((fnB xs vs bs) = b) := ⟨_, rfl⟩
    have HT : Hid (tellB xs (.fn vs bs) = b) := hbb.out
    go_enter Tryz.func69, Tryz.ntmps69
    go_wp2_with fail
    go_region_with (go_at_call 150; with_reducible refine (atfun_any ao cap xs _ _ vs bs _ (R.below hd1) (T.below hd1) (T2.below hd1) hi').mono ?_; rintro e w5 ⟨rfl, hb5⟩; first | rw [hbb.out] | skip)
    all_goals
      have hB5 : Below w.heap.size w w5 := (hb 1).trans (hb5.mono (hb 1).size)
      have c5 := (hB5.cell (p := ⟨C, 3, none⟩) K.lt).trans c3
      cases b with
      | true =>
        go_wp2
        exact bodyPost_end (results_nil0 rfl _ _) rfl ⟨Or.inl ⟨HT.out, rfl⟩, hB5⟩
      | false =>
        go_wp2_with fail
        refine (icwrong_any C 1 num _ c5).mono ?_
        rintro e w6 ⟨rfl, rfl⟩
        go_wp2_with fail
        exact ⟨rfl, Or.inr ⟨HT.out, rfl⟩, hB5⟩
  | bin vs bs v =>
    have hi' : InP xs vs := hi
    obtain ⟨x, y, rfl, T, T2⟩ := hf
    obtain ⟨a1, k1, rfl, _⟩ := T.form
    obtain ⟨a2, k2, rfl, _⟩ := T2.form
    have n1 := na_bin
    have n2 := me_bin
    obtain ⟨b, hbb⟩ : ∃ b, Hid ((fnB xs vs bs) = b) := ⟨_, rfl⟩
    have HT : Hid (tellB xs (.bin vs bs v) = b) := hbb.out
    go_enter Tryz.func69, Tryz.ntmps69
    go_wp2_with fail
    go_region_with (go_at_call 163; with_reducible refine (atbin_any ao cap xs _ _ vs bs v _ (R.below hd1) (T.below hd1) (T2.below hd1) hi').mono ?_; rintro e w5 ⟨rfl, hb5⟩; first | rw [hbb.out] | skip)
    all_goals
      have hB5 : Below w.heap.size w w5 := (hb 1).trans (hb5.mono (hb 1).size)
      have c5 := (hB5.cell (p := ⟨C, 3, none⟩) K.lt).trans c3
      cases b with
      | true =>
        go_wp2
        exact bodyPost_end (results_nil0 rfl _ _) rfl ⟨Or.inl ⟨HT.out, rfl⟩, hB5⟩
      | false =>
        go_wp2_with fail
        refine (icwrong_any C 1 num _ c5).mono ?_
        rintro e w6 ⟨rfl, rfl⟩
        go_wp2_with fail
        exact ⟨rfl, Or.inr ⟨HT.out, rfl⟩, hB5⟩
  | defn s vs bs =>
    have hi' : InP xs vs := hi
    obtain ⟨x, y, rfl, T, T2⟩ := hf
    obtain ⟨a1, k1, rfl, _⟩ := T.form
    obtain ⟨a2, k2, rfl, _⟩ := T2.form
    have n1 := na_def
    have n2 := me_def
    obtain ⟨b, hbb⟩ : ∃ b, Hid ((!(s.toList == []) && (!rsv s && fnB xs vs bs)) = b) := ⟨_, rfl⟩
    have HT : Hid (tellB xs (.defn s vs bs) = b) := hbb.out
    go_enter Tryz.func69, Tryz.ntmps69
    go_wp2_with fail
    go_region_with (go_at_call 155; with_reducible refine (atdef_any ao cap xs s _ _ vs bs _ (R.below hd1) (T.below hd1) (T2.below hd1) hi').mono ?_; rintro e w5 ⟨rfl, hb5⟩; first | rw [hbb.out] | skip)
    all_goals
      have hB5 : Below w.heap.size w w5 := (hb 1).trans (hb5.mono (hb 1).size)
      have c5 := (hB5.cell (p := ⟨C, 3, none⟩) K.lt).trans c3
      cases b with
      | true =>
        go_wp2
        exact bodyPost_end (results_nil0 rfl _ _) rfl ⟨Or.inl ⟨HT.out, rfl⟩, hB5⟩
      | false =>
        go_wp2_with fail
        refine (icwrong_any C 1 num _ c5).mono ?_
        rintro e w6 ⟨rfl, rfl⟩
        go_wp2_with fail
        exact ⟨rfl, Or.inr ⟨HT.out, rfl⟩, hB5⟩
  | stray =>
    obtain rfl : u = .iface 160 (.agg #[]) := hf
    have n1 := na_stray
    have n2 := me_stray
    go_enter Tryz.func69, Tryz.ntmps69
    go_wp2_with fail
    go_region_with (go_at_call 158; with_reducible refine (atstray_any _ _).mono ?_; rintro e w5 ⟨rfl, hb5⟩; first | rw [hbb.out] | skip)
    all_goals
      have hB5 : Below w.heap.size w w5 := (hb 1).trans (hb5.mono (hb 1).size)
      have c5 := (hB5.cell (p := ⟨C, 3, none⟩) K.lt).trans c3
      go_wp2_with fail
      refine (icwrong_any C 1 num _ c5).mono ?_
      rintro e w6 ⟨rfl, rfl⟩
      go_wp2_with fail
      exact ⟨rfl, Or.inr ⟨rfl, rfl⟩, hB5⟩
end Go.Proofs.YtkchakcebdenjaaGreat
/-
  The contracts of the compiler's put and leadHere. No condition beyond the compiler's memory.
-/
namespace Go.Proofs.YtkchakcebdenjaaGreat
open Go.RowKit
theorem NRow.under {C : Nat} {w w' : World} {v : Value} {xs : List Nd} (R : NRow w v xs) (hf : xs ≠ [] → ∀ g, v.ownBlock = some g → g < C) (hb : Below C w w') : NRow w' v xs := by
  obtain ⟨ao, cap, rfl, hc, hm, hz, hcell⟩ := R
  refine ⟨ao, cap, rfl, hc, hm, hz, fun hne => ?_⟩
  obtain ⟨g, o, rfl, hg, hcell⟩ := hcell hne
  have hg' : g < C := hf hne g rfl
  refine ⟨g, o, rfl, Nat.lt_of_lt_of_le hg hb.size, fun i x hi => ?_⟩
  obtain ⟨c0, c1, c2, c3, c4⟩ := hcell i x hi
  exact ⟨(hb.cell (p := ⟨g, _, none⟩) hg').trans c0, (hb.cell (p := ⟨g, _, none⟩) hg').trans c1, (hb.cell (p := ⟨g, _, none⟩) hg').trans c2, (hb.cell (p := ⟨g, _, none⟩) hg').trans c3, (hb.cell (p := ⟨g, _, none⟩) hg').trans c4⟩
section
variable {xs : List Nd} {C : Nat} {w w1 : World} {num : Int} {env : Env} {pv lv dv fv : Value} {L L' : List In} {D : List Df}
theorem FRow.kept {B B' n k : Nat} {e : TypeId} {v v' : Value} {l : List Value} (r : FRow w B v env) (ho : w.ownsRow B' e k v' n l) (hg : w.grownBy w1 v'.ownBlock) (h1 : 85 ≠ e) (h2 : 9 ≠ e) : FRow w1 B v env := by
  obtain ⟨vs, h, hs⟩ := r
  exact ⟨vs, h.kept hg (own_apart h ho h1), fun i u q => ⟨(hs i u q).1, (hs i u q).2.kept hg (own_apart (hs i u q).2 ho h2)⟩⟩
theorem FRow.set {B o : Nat} {v u : Value} {c : Array Value} {t : TypeId} {fr : Nat × Nat} (r : FRow w B v env) (hC : w.heap[C]? = some (.cells c t fr)) (h1 : t ≠ 85) (h2 : t ≠ 9) : FRow (w.setCell ⟨C, o, none⟩ u) B v env := by
  obtain ⟨vs, h, hs⟩ := r
  exact ⟨vs, ownsRow_setCell_other h (a := ⟨C, o, none⟩) (own_ne h hC h1) _, fun i z q => ⟨(hs i z q).1, ownsRow_setCell_other (hs i z q).2 (a := ⟨C, o, none⟩) (own_ne (hs i z q).2 hC h2) _⟩⟩
theorem IC.turnL (h : IC xs C w num env pv lv dv fv L D) (hg : w.grownBy w1 lv.ownBlock) (ho : w1.ownsRow (C + 1) 53 4 lv L'.length (incs L')) : IC xs C w1 num env pv lv dv fv L' D ∧ IF C w w1 := by
  have hC := h.lt
  have hF := IF.of_grown h.list (.inl rfl) hC hg
  exact ⟨⟨(hg.block C hC (fun e => own_ne h.list h.blk (by decide) e.symm)).trans h.blk, h.pool.under h.out hF.below, h.out, ho, h.defs.kept hg (own_apart h.defs h.list (by decide)), h.frm.kept h.list hg (by decide) (by decide)⟩, hF⟩
theorem IC.putL {lv' : Value} (h : IC xs C w num env pv lv dv fv L D) (hg : w.grownBy w1 lv.ownBlock) (ho : w1.ownsRow (C + 1) 53 4 lv' L'.length (incs L')) : IC xs C (w1.setCell ⟨C, 1, none⟩ lv') num env pv lv' dv fv L' D ∧ IF C w (w1.setCell ⟨C, 1, none⟩ lv') := by
  have hC := h.lt
  have hF := (IF.of_grown h.list (.inl rfl) hC hg).trans (IF.of_set w1 1 lv')
  have hb : w1.heap[C]? = some (.cells #[pv, lv, dv, .int .i64 num, fv] 71 (0, 0)) := (hg.block C hC (fun e => own_ne h.list h.blk (by decide) e.symm)).trans h.blk
  have ne : ∀ {e : TypeId} {m n : Nat} {v : Value} {l : List Value} {B : Nat}, w1.ownsRow B e m v n l → 71 ≠ e → (w1.setCell ⟨C, 1, none⟩ lv').ownsRow B e m v n l := fun ho he => ownsRow_setCell_other ho (a := ⟨C, 1, none⟩) (own_ne ho hb he) _
  exact ⟨⟨heap_setCell_same w1 C 1 _ _ lv' hb, h.pool.under h.out hF.below, h.out, ne ho (by decide), ne (h.defs.kept hg (own_apart h.defs h.list (by decide))) (by decide), (h.frm.kept h.list hg (by decide) (by decide)).set hb (by decide) (by decide)⟩, hF⟩
end
theorem emit_not (s : CS) (x : In) (h : s.how = 0) (h4 : s.list.length = 400) : s.emit x = ⟨s.list, s.defs, 3⟩ := by
  unfold CS.emit; rw [if_pos h, if_pos h4]
theorem emit_ok (s : CS) (x : In) (h : s.how = 0) (h4 : ¬ s.list.length = 400) : s.emit x = ⟨s.list ++ [x], s.defs, s.how⟩ ∧ s.place = s.list.length := by
  unfold CS.emit CS.place; rw [if_pos h, if_neg h4, if_pos h, if_neg h4]; exact ⟨rfl, rfl⟩
set_option maxRecDepth 100000 in
set_option maxHeartbeats 3200000 in
theorem iputc_any (xs : List Nd) (C : Nat) (num : Int) (env : Env) (s : CS) (x : In) (w : World) (h : Ic xs C w num env s.list s.defs) (h0 : s.how = 0) (hl : s.list.length ≤ 400) :
    Calls Tryz.prog 120 #[.pointer (some ⟨C, 0, none⟩), .agg #[.int .i64 x.o, .int .i64 x.n, .int .i64 x.i, .string x.s]] w fun e w' => Out xs C num env (s.emit x) (.int .i64 s.place) e w' ∧ IF C w w' := by
  obtain ⟨pv, lv, dv, fv, h⟩ := h
  obtain ⟨L, D, how⟩ := s
  dsimp only at *
  subst h0
  obtain ⟨i0, hi, hz0, hz1, hz2⟩ := info_parts Tryz.infoIn
  obtain ⟨al, ql, rfl⟩ := own_form h.list
  have hC := h.lt
  have hB0 : Below w.heap.size w (w.alloc (Obj.cells #[.int .i64 x.o, .int .i64 x.n, .int .i64 x.i, .string x.s] 53)) := (Below.refl _ _).alloc (Nat.le_refl _) _
  have hk := h.on hB0
  obtain ⟨_, c1, _, _, _, f1, _⟩ := hk.cells
  have hF0 := IF.of_below (C := C) hB0 (by omega)
  by_cases h4 : L.length = 400
  · have HP : Hid ((⟨L, D, 0⟩ : CS).emit x = ⟨L, D, 3⟩) := emit_not _ x rfl h4
    have h4' : (L.length : Int) = 400 := by omega
    go_enter Tryz.func120, Tryz.ntmps120
    go_wp2_with fail
    exact ⟨rfl, by rw [HP.out]; exact Or.inr ⟨by simp, rfl⟩, hF0⟩
  · have HP : Hid ((⟨L, D, 0⟩ : CS).emit x = ⟨L ++ [x], D, 0⟩ ∧ (⟨L, D, 0⟩ : CS).place = L.length) := emit_ok _ x rfl h4
    have h4' : ¬ (L.length : Int) = 400 := by omega
    have hne : C ≠ w.heap.size := by omega
    go_enter Tryz.func120, Tryz.ntmps120
    go_wp2_with fail
    go_region_law (refine step_append_lies _ rfl _ _ 30 rfl (C + 1) 53 i0 _ 4 40 Tryz.underlying30 hi hz0 hz1 hz2 rfl (by decide) _ _ _ rfl ((h.list.alloc _).alloc _) ⟨w.heap.size + 1, 0, none⟩ 1 1 (incs [x]) rfl rfl (World.news_of_block (cs := #[.int .i64 x.o, .int .i64 x.n, .int .i64 x.i, .string x.s]) (t := 53) (fr := (0, 0)) (heap_alloc2_new w _ _)) (incs_one _) (by omega) (by unfold maxLen; omega) (by omega) (by simp; omega) (w.heap.size + 2) (by simp) ?_; intro g capg w1 hown hgrow hat hgl; have hb1 : w1.heap[C]? = some (.cells #[pv, .slice al L.length ql, dv, .int .i64 num, fv] 71 (0, 0)) := (hgrow.block C (by simp; omega) (fun e => own_ne h.list h.blk (by decide) e.symm)).trans ((heap_alloc_old _ _ (by simp; omega)).trans ((heap_alloc_old _ _ hC).trans h.blk)); have kb1 : w1.cell? ⟨C, 0 + 1, none⟩ = some (.slice al L.length ql) := cell_of_row w1 C 1 _ _ _ hb1; have fb1 : w1.frozen? ⟨C, 0 + 1, none⟩ = false := frozen_of_row w1 C 1 _ _ hb1)
    all_goals
      have hown2 : w1.ownsRow (C + 1) 53 4 (.slice (some ⟨g, 0, none⟩) (L.length + 1) capg) (L ++ [x]).length (incs (L ++ [x])) := by
        rw [incs_append, List.length_append]
        exact hown
      have hBx := (((Below.refl w.heap.size w).alloc (Nat.le_refl _) (Obj.cells #[.int .i64 x.o, .int .i64 x.n, .int .i64 x.i, .string x.s] 53)).drew.alloc (by simp) (Obj.cells #[.int .i64 x.o, .int .i64 x.n, .int .i64 x.i, .string x.s] 53))
      obtain ⟨k1, k2⟩ := (h.on hBx).putL hgrow hown2
      have hb2 := heap_setCell_same w1 C 1 _ _ (.slice (some ⟨g, 0, none⟩) (L.length + 1) capg) hb1
      have kc : (w1.setCell ⟨C, 1, none⟩ (.slice (some ⟨g, 0, none⟩) (L.length + 1) capg)).cell? ⟨C, 0 + 1, none⟩ = some (.slice (some ⟨g, 0, none⟩) (L.length + 1) capg) := cell_of_row _ C 1 _ _ _ hb2
      have hF := (IF.of_below (C := C) hBx (by omega)).trans k2
      clear hown hgrow hat c1 f1 hk hF0 kb1 fb1 hb2 hBx hB0
      go_wp2_with fail
      go_ret
      exact ⟨by rw [HP.out.1, HP.out.2]; exact Or.inl ⟨rfl, by simp; omega, by simp, _, _, _, _, k1⟩, hF⟩
set_option maxRecDepth 100000 in
set_option maxHeartbeats 1600000 in
theorem ileadc_any (xs : List Nd) (C : Nat) (num : Int) (env : Env) (s : CS) (a : Nat) (w : World) (h : Ic xs C w num env s.list s.defs) (h0 : s.how = 0) (hl : s.list.length ≤ 400) (ha : a < s.list.length) :
    Calls Tryz.prog 133 #[.pointer (some ⟨C, 0, none⟩), .int .i64 a] w fun e w' => Out xs C num env (s.lead a) (.tuple #[]) e w' ∧ IF C w w' := by
  obtain ⟨pv, lv, dv, fv, h⟩ := h
  obtain ⟨L, D, how⟩ := s
  dsimp only at *
  subst h0
  obtain ⟨al, ql, rfl⟩ := own_form h.list
  have hC := h.lt
  obtain ⟨_, c1, _, _, _, f1, _⟩ := h.cells
  obtain ⟨x, hx⟩ : ∃ x, L[a]? = some x := ⟨L[a], by simp [ha]⟩
  have HP : Hid ((⟨L, D, 0⟩ : CS).lead a = ⟨L.set a ⟨x.o, L.length, x.i, x.s⟩, D, 0⟩) := by unfold Hid CS.lead; simp [hx]
  obtain ⟨g, rfl, hg0⟩ : ∃ g, al = some ⟨g, 0, none⟩ ∧ C + 1 ≤ g := by
    rcases h.list.2 with ⟨_, h0⟩ | ⟨g, cap, cur, e, hB, hg, _⟩
    · omega
    · simp only [Value.slice.injEq] at e
      exact ⟨g, e.1, hB⟩
  have hst := h.list.stored (a * 4 + 1) (.int .i64 L.length)
  rw [incs_set L a x ⟨x.o, L.length, x.i, x.s⟩ hx 1 (by omega) _ rfl] at hst
  have ho2 : (w.setCell ⟨g, a * 4 + 1, none⟩ (.int .i64 L.length)).ownsRow (C + 1) 53 4 (.slice (some ⟨g, 0, none⟩) L.length ql) (L.set a ⟨x.o, L.length, x.i, x.s⟩).length (incs (L.set a ⟨x.o, L.length, x.i, x.s⟩)) := by rw [List.length_set]; exact hst.1
  obtain ⟨k1, k2⟩ := h.turnL hst.2 ho2
  have hca := h.list.cellAt (a * 4 + 1) (by omega)
  rw [incs_get L a x hx 1 (by omega)] at hca
  have hfa := h.list.frozenAt (a * 4 + 1)
  have hna : (a : Int) < L.length := by omega
  have hcc : w.cell? ⟨g, a * 4 + 1, none⟩ = some (.int .i64 x.n) := hca
  have hgM : ¬ g = C := by omega
  have hMg : ¬ C = g := by omega
  clear hca
  go_enter Tryz.func133, Tryz.ntmps133
  go_wp2_with fail
  go_region_held (fun w' => w'.cell? ⟨C, 1, none⟩ = some (.slice (some ⟨g, 0, none⟩) L.length ql)) (go_keep) (fail)
  all_goals
    go_wp2_with fail
    exact bodyPost_end (results_nil0 rfl _ _) rfl ⟨by rw [HP.out]; exact Or.inl ⟨rfl, by simpa using hl, rfl, _, _, _, _, k1.on (Below.refl _ _).drew⟩, k2.trans (IF.of_below (Below.refl _ _).drew (by simp; omega))⟩
end Go.Proofs.YtkchakcebdenjaaGreat
