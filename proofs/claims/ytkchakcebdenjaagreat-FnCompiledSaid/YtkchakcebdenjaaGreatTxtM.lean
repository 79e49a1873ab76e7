/-
  Texts that stood by themselves, laid into one.
-/
import Derived.Test.YtkchakcebdenjaaGreatSCp5M
import Derived.Test.YtkchakcebdenjaaGreatShapeM
import Derived.Lib.ItoaNum
/-
  The contracts of spec's l4Body and l4Fun, given that of l4Expr. No condition beyond the compiler's memory, and that the values are there.
-/
namespace Go.Proofs.YtkchakcebdenjaaGreat
open Go.RowKit
def CE (xs : List Nd) (M d : Nat) (e : Ex) (v : Int) : Prop := ∀ (s : CS) (env : Env) (ev : Value) (w : World), Mk xs M d w s → ERow w ev env → env.length + v.toNat ≤ 3001 →
  Calls Tryz.prog 114 #[.pointer (some ⟨M, 0, none⟩), .int .i64 v, ev] w fun r w' => r = .returned (.tuple #[]) ∧ Mk xs M d w' (e v env s) ∧ CF M w w'
theorem Mk.blk {xs : List Nd} {M d : Nat} {w : World} {s : CS} (h : Mk xs M d w s) : ∃ c fr, w.heap[M]? = some (.cells c 61 fr) := by
  obtain ⟨_, _, _, _, _, h⟩ := h
  exact ⟨_, _, h.blk⟩
theorem CF.erow' {xs : List Nd} {M d : Nat} {w w' : World} {s : CS} {v : Value} {env : Env} (h : CF M w w') (hk : Mk xs M d w s) (r : ERow w v env) : ERow w' v env := by
  obtain ⟨c, fr, hb⟩ := hk.blk
  exact h.erow hb r
theorem CF.trow' {xs : List Nd} {M d : Nat} {w w' : World} {s : CS} {v : Value} {l : List Int} (h : CF M w w') (hk : Mk xs M d w s) (r : TRow w v l) : TRow w' v l := by
  obtain ⟨c, fr, hb⟩ := hk.blk
  exact h.trow hb r
theorem CF.srow' {xs : List Nd} {M d : Nat} {w w' : World} {s : CS} {v : Value} {ss : List ByteArray} (h : CF M w w') (hk : Mk xs M d w s) (r : SRow w v ss) : SRow w' v ss := by
  obtain ⟨c, fr, hb⟩ := hk.blk
  exact h.srow hb r
theorem ERow.below {w w' : World} {v : Value} {env : Env} (r : ERow w v env) (hb : Below w.heap.size w w') : ERow w' v env := by
  obtain ⟨vs, ho, hs⟩ := r
  exact ⟨vs, own_below ho hb, fun i u e => ⟨(hs i u e).1, own_below (hs i u e).2 hb⟩⟩
theorem ERow.form {w : World} {v : Value} {env : Env} (r : ERow w v env) : ∃ ao cap, v = .slice ao env.length cap := by
  obtain ⟨vs, ho, hs⟩ := r
  exact own_form ho
set_option maxRecDepth 100000 in
set_option maxHeartbeats 3200000 in
theorem s4body_any (xs : List Nd) (M d : Nat) (e : Ex) (body : List Int) (bv : Value) (s : CS) (env : Env) (ev : Value) (w : World) (h : Mk xs M d w s) (T : TRow w bv body) (E : ERow w ev env) (hE : ∀ z ∈ body, CE xs M d e z ∧ env.length + z.toNat ≤ 3001) :
    Calls Tryz.prog 91 #[.pointer (some ⟨M, 0, none⟩), bv, ev] w fun r w' => r = .returned (.tuple #[]) ∧ Mk xs M d w' (cbody e body env s) ∧ CF M w w' := by
  obtain ⟨ab, cb, rfl, hbc, hcm⟩ := T.form
  obtain ⟨ae, ce, rfl⟩ := E.form
  have HT : Hid (TRow w (.slice ab body.length cb) body) := T
  have HE : Hid (ERow w (.slice ae env.length ce) env) := E
  clear T E
  go_enter Tryz.func91, Tryz.ntmps91
  go_wp2_with fail
  go_loopw [6] (fun i wr => ∃ (k : Nat) (sk : CS), k ≤ body.length ∧ i = .int .i64 k ∧ Mk xs M d wr sk ∧ CF M w wr ∧ Hid (cbody e body env s = cseq e env (body.drop k) (k == 0) sk)) (fun i _ => body.length - (intOf i).toNat)
  case atStart => exact ⟨0, s, by omega, rfl, h, CF.refl _ _, rfl⟩
  case round =>
    obtain ⟨k, sk, hk, rfl, hkr, hfr, HC⟩ := hrel
    have hkr0 := hkr
    obtain ⟨pv, lv, dv, L, D, h2⟩ := hkr
    obtain ⟨_, _, _, c3, _, _, f3⟩ := h2.cells
    by_cases hlt : k < body.length
    · obtain ⟨z, hz⟩ : ∃ z, body[k]? = some z := ⟨body[k], by simp [hlt]⟩
      have hzm := List.mem_of_getElem? hz
      have HD : Hid (body.drop k = z :: body.drop (k + 1)) := by
        obtain ⟨hl, he⟩ := List.getElem?_eq_some_iff.1 hz
        unfold Hid
        rw [List.drop_eq_getElem_cons hl, he]
      have hgd : body.getD k 0 = z := by rw [List.getD_eq_getElem?_getD, hz]; rfl
      have HG : Hid (body.getD k 0 = z) := hgd
      have hlt' : (k : Int) < body.length := by omega
      by_cases h0 : sk.how = 0
      · rw [h0] at c3
        have HC2 : Hid (cbody e body env s = cseq e env (body.drop (k + 1)) false (e z env (if k == 0 then sk else sk.emit (ins 9 0 0)))) := by
          unfold Hid; rw [HC.out, HD.out, cseq, if_pos h0]
        have Tr := hfr.trow' h HT.out
        obtain ⟨g, o, rfl, hg, hc⟩ := Tr.cell k hlt
        rw [hgd] at hc
        clear hz hgd HC h0
        by_cases hk0 : k = 0
        · subst hk0
          rw [Nat.add_zero] at hc
          go_wp2_with fail
          refine ((hE z hzm).1 sk env _ wr hkr0 (hfr.erow' h HE.out) (hE z hzm).2).mono ?_
          rintro r w3 ⟨rfl, hk3, hf3⟩
          have hf := hfr.trans hf3
          go_wp2_with fail
          go_roundw
          case rel => exact ⟨0 + 1, _, by omega, by go_num, hk3, hf, HC2⟩
          case measure => simp [intOf]; omega
        · have hk0' : (0 : Int) < k := by omega
          have hkb : (k == 0) = false := by simpa using hk0
          rw [hkb] at HC2
          go_wp2_with fail
          refine (semit_any xs M d sk (ins 9 0 0) _ hkr0).mono ?_
          rintro r w3 ⟨rfl, hk3, hf3⟩
          have hf := hfr.trans hf3
          have Tr3 := hf.trow' h HT.out
          obtain ⟨g', o', e', hg', hc'⟩ := Tr3.cell k hlt
          simp only [Option.some.injEq, Addr.mk.injEq, and_true] at e'
          obtain ⟨rfl, rfl⟩ := e'
          rw [HG.out] at hc'
          clear c3 f3 hc h2
          go_wp2_with fail
          refine ((hE z hzm).1 _ env _ w3 hk3 (hf.erow' h HE.out) (hE z hzm).2).mono ?_
          rintro r w4 ⟨rfl, hk4, hf4⟩
          have hf' := hf.trans hf4
          go_wp2_with fail
          go_roundw
          case rel => exact ⟨k + 1, _, by omega, by go_num, hk4, hf', HC2⟩
          case measure => simp [intOf]; omega
      · have HC2 : Hid (cbody e body env s = sk) := by unfold Hid; rw [HC.out, HD.out, cseq, if_neg h0]
        have hb0 : (sk.how == 0) = false := by simpa using h0
        have hb1 : decide (sk.how = 0) = false := by simpa using h0
        clear h0
        go_wp2_with fail
        go_end0
        exact ⟨rfl, by rw [HC2.out]; exact hkr0, hfr⟩
    · have HC2 : Hid (cbody e body env s = sk) := by unfold Hid; rw [HC.out, List.drop_eq_nil_of_le (by omega)]; rfl
      have hlt' : ¬ (k : Int) < body.length := by omega
      go_wp2_with fail
      go_end0
      exact ⟨rfl, by rw [HC2.out]; exact hkr0, hfr⟩
theorem Tryz.infoSs : (Tryz.prog.info? 85).map (fun i => (i.zero, i.size, i.bytes)) = some (some (.slice none 0 0), 1, 24) := by kernel_rfl
theorem own_lit (w : World) (u : Value) (t : TypeId) (B : Nat) (hB : B ≤ w.heap.size) : (w.alloc (.cells #[u] t)).ownsRow B t 1 (.slice (some ⟨w.heap.size, 0, none⟩) 1 1) 1 [u] :=
  ⟨rfl, .inr ⟨w.heap.size, 1, #[u], rfl, hB, heap_alloc_new w _, Nat.le_refl _, by unfold maxLen; omega, rfl, rfl⟩⟩
theorem own_news2 {w : World} {base n c : Nat} {e : TypeId} {ao : Option Addr} {l : List Value} (h : w.ownsRow base e 1 (.slice ao n c) n l) : (ao = none → n = 0 ∧ c = 0) ∧ ∀ ad, ao = some ad → ∀ j u, l[j]? = some u → w.cell? (ad.add j) = some u := by
  have hl := h.1
  rcases h.2 with ⟨e1, hn⟩ | ⟨g, cap, cur, e1, _⟩
  · simp only [Value.slice.injEq] at e1
    obtain ⟨e2, _, e3⟩ := e1
    subst e2
    exact ⟨fun _ => ⟨hn, e3⟩, fun ad h => by cases h⟩
  · simp only [Value.slice.injEq] at e1
    have e2 := e1.1
    subst e2
    refine ⟨fun h => (by cases h), fun ad hd j u hu => ?_⟩
    cases hd
    have hj : j < l.length := (List.getElem?_eq_some_iff.1 hu).1
    have hc := h.cellAt j (by omega)
    have hadd : (⟨g, 0, none⟩ : Addr).add j = ⟨g, j, none⟩ := by unfold Addr.add; split <;> simp_all
    rw [hadd, hc, hu]
theorem ERow.cons {w : World} {v nv : Value} {ns : List ByteArray} {env : Env} {vs : List Value} (ho : w.ownsRow 0 85 1 v (1 + env.length) ([nv] ++ vs)) (h1 : nv.oneCell' = true) (hn : SRow w nv ns) (hs : ∀ i u, vs[i]? = some u → u.oneCell' = true ∧ SRow w u (env.getD i [])) : ERow w v (ns :: env) := by
  refine ⟨[nv] ++ vs, by rw [List.length_cons, Nat.add_comm]; exact ho, fun i u hu => ?_⟩
  cases i with
  | zero => simp at hu; subst hu; exact ⟨h1, hn⟩
  | succ i => exact hs i u (by simpa using hu)
set_option maxRecDepth 100000 in
set_option maxHeartbeats 3200000 in
theorem s4fun_any (xs : List Nd) (M d : Nat) (e : Ex) (names : List ByteArray) (nv : Value) (body : List Int) (bv : Value) (s : CS) (env : Env) (ev : Value) (w : World) (h : Mk xs M d w s) (N : SRow w nv names) (T : TRow w bv body) (E : ERow w ev env)
    (hm : Mono e) (hl : env.length ≤ 3000) (hE : ∀ z ∈ body, CE xs M d e z ∧ env.length + 1 + z.toNat ≤ 3001) :
    Calls Tryz.prog 128 #[.pointer (some ⟨M, 0, none⟩), nv, bv, ev] w fun r w' => r = .returned (.tuple #[]) ∧ Mk xs M d w' (cfun e names body env s) ∧ CF M w w' := by
  obtain ⟨i0, hi, hz0, hz1, hz2⟩ := info_parts Tryz.infoSs
  obtain ⟨ab, cb, rfl, hbc, hcm⟩ := T.form
  obtain ⟨ae, ce, rfl⟩ := E.form
  obtain ⟨an, cn, rfl⟩ := N.form
  have HT : Hid (TRow w (.slice ab body.length cb) body) := T
  have HE : Hid (ERow w (.slice ae env.length ce) env) := E
  have HN : Hid (SRow w (.slice an names.length cn) names) := N
  clear T E N
  go_enter Tryz.func128, Tryz.ntmps128
  go_wp2_with fail
  refine (semit_any xs M d s (ins 6 0 names.length) _ h).mono ?_
  rintro r w1 ⟨rfl, k1, f1⟩
  go_wp2_with fail
  refine (semit_any xs M d _ (ins 5 0 0) _ k1).mono ?_
  rintro r w2 ⟨rfl, k2, f2⟩
  have f2' := f1.trans f2
  go_wp2_with fail
  refine (sto_any xs M d _ s.place _ k2 (place_lt (Grow.emit _ _))).mono ?_
  rintro r w3 ⟨rfl, k3, f3⟩
  have f3' := f2'.trans f3
  have E3 := f3'.erow' h HE.out
  have T3 := f3'.trow' h HT.out
  have N3 := f3'.srow' h HN.out
  obtain ⟨vs, hov, hvs⟩ := E3
  obtain ⟨n1, n2⟩ := own_news2 hov
  have hl3 := own_lit w3 (.slice an names.length cn) 85 w3.heap.size (Nat.le_refl _)
  have hBa : Below w3.heap.size w3 (w3.alloc (Obj.cells #[.slice an names.length cn] 85)) := (Below.refl _ _).alloc (Nat.le_refl _) _
  have hvl : vs.length = env.length * 1 := hov.1
  have n2' : ∀ ad, ae = some ad → ∀ j u, vs[j]? = some u → (w3.alloc (Obj.cells #[.slice an names.length cn] 85)).cell? (ad.add j) = some u := (own_news2 (own_below hov hBa)).2
  have h1c : ∀ u ∈ vs, u.oneCell' = true := fun u hu => by
    obtain ⟨i, hi, rfl⟩ := List.getElem_of_mem hu
    exact (hvs i _ (List.getElem?_eq_getElem hi)).1
  go_wp2_with (at_builtin; refine wpList_append_own_any _ rfl _ _ 69 rfl w3.heap.size 85 i0 (.slice none 0 0) 1 24 Tryz.underlying69 hi hz0 hz1 hz2 rfl (by decide) _ _ _ rfl hl3 ae env.length ce vs rfl hvl n1 n2' h1c (by unfold maxLen; omega) (by omega) (by simp) ?_)
  intro v4 w4 hown hgrow
  have hB4 : Below w3.heap.size w3 w4 := hBa.grown hgrow (by simp) (fun j hj => (hl3.lt j hj).1)
  have E4 : ERow w4 v4 (names :: env) := ERow.cons (own_mono hown (Nat.zero_le _)) rfl (own_below N3 hB4) (fun i u hu => ⟨(hvs i u hu).1, own_below (hvs i u hu).2 hB4⟩)
  have k4 := k3.on hB4
  have f4' := f3'.trans (CF.of_below hB4 k3.lt)
  have T4 := T3.below hB4
  clear hown hgrow n1 n2 n2' hl3 hBa hvl h1c
  go_wp2_with fail
  refine (s4body_any xs M d e body _ _ (names :: env) _ _ k4 T4 E4 (fun z hz => ⟨(hE z hz).1, by have := (hE z hz).2; simp; omega⟩)).mono ?_
  rintro r w5 ⟨rfl, k5, f5⟩
  go_wp2_with fail
  refine (semit_any xs M d _ (ins 8 0 0) _ k5).mono ?_
  rintro r w6 ⟨rfl, k6, f6⟩
  go_wp2_with fail
  refine (sto_any xs M d _ (s.emit (ins 6 0 names.length)).place _ k6 (place_lt (((Grow.lead _ _).trans (hm.seq _ _ _ _)).trans (Grow.emit _ _)))).mono ?_
  rintro r w7 ⟨rfl, k7, f7⟩
  go_wp2_with fail
  go_end0
  exact ⟨rfl, k7, ((f4'.trans f5).trans f6).trans f7⟩
end Go.Proofs.YtkchakcebdenjaaGreat
/-
  How values are written, as lists of bytes. Nothing of the program; no condition.
-/
namespace Go.Proofs.YtkchakcebdenjaaGreat
open Go.RowKit
theorem dec_len : ∀ (k u : Nat), u < 10 ^ (k + 1) → (Lib.decDigits u).length ≤ k + 1 := by
  intro k
  induction k with
  | zero => intro u h; rw [Lib.decDigits, dif_pos (by simpa using h)]; simp
  | succ k ih =>
    intro u h
    rw [Lib.decDigits]
    split
    · simp
    · have := ih (u / 10) (by rw [Nat.pow_succ] at h; omega)
      simp
      omega
def wordL (x : Nd) : List UInt8 :=
  if x.k = 1 then [40, 41] else if x.k = 2 then (if x.n = 0 then [35, 102] else [35, 116]) else if x.k = 3 then Lib.itoa x.n
  else if x.k = 4 then x.s.data.toList else if x.k = 6 then [35, 102, 117, 110] ++ Lib.itoa x.n else if x.k = 7 then [35, 107, 111, 110, 116] ++ Lib.itoa x.n
  else if x.k = 8 then [35, 112, 114, 105, 109] ++ Lib.itoa x.n else if x.k = 9 then [35, 112, 105, 100] ++ Lib.itoa x.n else []
def ft (xs : List Nd) : Nat → Nat → List UInt8 × List UInt8
  | 0, _ => ([], [])
  | f + 1, v => match xs[v]? with
    | none => ([], [])
    | some x => if x.k = 5 then ([40] ++ (ft xs f x.a.toNat).1 ++ (ft xs f x.b.toNat).2 ++ [41], [32] ++ (ft xs f x.a.toNat).1 ++ (ft xs f x.b.toNat).2)
      else (wordL x, if x.k = 1 then [] else [32, 46, 32] ++ wordL x)
def fullT (xs : List Nd) (v : Nat) : List UInt8 := (ft xs (v + 1) v).1
def restT (xs : List Nd) (v : Nat) : List UInt8 := (ft xs (v + 1) v).2
theorem nodesB_at {xs : List Nd} : ∀ {k i : Nat} {x : Nd}, nodesB xs k = true → xs[i]? = some x → nodeB x ((k + i : Nat) : Int) = true := by
  induction xs with
  | nil => intro k i x _ h; simp at h
  | cons y ys ih =>
    intro k i x h hx
    rw [nodesB, Bool.and_eq_true] at h
    cases i with
    | zero => simp at hx; subst hx; simpa using h.1
    | succ i =>
      have := ih (k := k + 1) (i := i) h.2 (by simpa using hx)
      rw [show k + (i + 1) = k + 1 + i by omega]
      exact this
theorem pool_at {xs : List Nd} (hp : poolB xs = true) {i : Nat} {x : Nd} (hx : xs[i]? = some x) : nodeB x (i : Int) = true := by
  simp only [poolB, Bool.and_eq_true] at hp
  have := nodesB_at hp.2 hx
  simpa using this
theorem pool_pair {xs : List Nd} (hp : poolB xs = true) {i : Nat} {x : Nd} (hx : xs[i]? = some x) (h5 : x.k = 5) : ∃ a b : Nat, x.a = a ∧ x.b = b ∧ a < i ∧ b < i := by
  have h := pool_at hp hx
  simp only [nodeB, Bool.and_eq_true, partB, hasA, hasB, h5] at h
  obtain ⟨_, ⟨_, hA⟩, hB⟩ := h
  simp only [true_or, decide_true, if_true, Bool.and_eq_true, decide_eq_true_eq] at hA hB
  exact ⟨x.a.toNat, x.b.toNat, by omega, by omega, by omega, by omega⟩
end Go.Proofs.YtkchakcebdenjaaGreat
