/-
  Texts that stood by themselves, laid into one.
-/
import Derived.Test.YtkchakcebdenjaaGreatFoM
/-
  The contracts of functionForm and definitionForm. No condition beyond a right pool that has the values.
-/
namespace Go.Proofs.YtkchakcebdenjaaGreat
open Go.RowKit
def InP (xs : List Nd) (l : List Int) : Prop := ∀ z ∈ l, ∃ n : Nat, z = n ∧ n < xs.length
theorem InP.chain {xs : List Nd} (hp : poolB xs = true) {v : Nat} (hv : v < xs.length) : InP xs (chainR xs v).1 := fun z hz => by
  obtain ⟨n, h1, h2⟩ := chainR_mem hp v z hz
  exact ⟨n, h1, by omega⟩
theorem funF_cons (xs : List Nd) (n : Nat) (r : List Int) : funF xs ((n : Int) :: r) = if (chainR xs n).2 then .fn (chainR xs n).1 r else .stray := by simp [funF]
set_option maxRecDepth 100000 in
set_option maxHeartbeats 3200000 in
theorem ifunform_any (ao : Option Addr) (cap : Nat) (xs : List Nd) (v : Value) (l : List Int) (w : World) (R : NRow w (.slice ao xs.length cap) xs) (hp : poolB xs = true) (T : TRow w v l) (hv : InP xs l) :
    Calls Tryz.prog 115 #[.agg #[.slice ao xs.length cap], v] w fun e w' => ∃ u, e = .returned u ∧ FmV w' (funF xs l) u ∧ Below w.heap.size w w' := by
  obtain ⟨a1, c1, rfl, hlc, hcm⟩ := T.form
  have hB : Below w.heap.size w (w.alloc (Obj.cells #[.slice ao xs.length cap] 29)) := (Below.refl _ _).alloc (Nat.le_refl _) _
  have hx : (w.alloc (Obj.cells #[.slice ao xs.length cap] 29)).heap[w.heap.size]? = some (Obj.cells #[.slice ao xs.length cap] 29) := heap_alloc_new _ _
  cases l with
  | nil =>
    go_enter Tryz.func115, Tryz.ntmps115
    go_wp2
    go_ret
    exact ⟨_, rfl, rfl, hB⟩
  | cons p r =>
    obtain ⟨n, rfl, hn⟩ := hv p (List.mem_cons_self ..)
    obtain ⟨g, o, rfl, hg, c0⟩ := T.cell 0 (by simp)
    have hd : TRow w (.slice (some ⟨g, o + 1, none⟩) ((((n : Int) :: r).length) - 1) (c1 - 1)) r := T.drop 1 (by simp)
    have hd2 : c1 = 1 → TRow w (.slice (some ⟨g, o, none⟩) 0 0) r := fun h => T.dropEnd 1 (by omega) _ ⟨_, rfl⟩
    have c0' := (hB.cell (p := ⟨g, o + 0, none⟩) hg).trans c0
    have c0'' : (w.alloc (Obj.cells #[.slice ao xs.length cap] 29)).cell? ⟨g, o, none⟩ = some (.int .i64 n) := c0'
    have RA := R.below hB
    have hdA := fun h => (hd2 h).below hB
    replace hd := hd.below hB
    have hk0 := cell_of_row _ _ 0 _ _ _ hx
    obtain ⟨b, hbb⟩ : ∃ b, Hid ((chainR xs n).2 = b) := ⟨_, rfl⟩
    go_enter Tryz.func115, Tryz.ntmps115
    go_wp2_with fail
    go_region_with (go_at_call 98; with_reducible refine (ilistof_in ao cap xs n _ (by first | exact RA.below (below_dN _ _) | exact RA) hp hn).mono ?_; rintro e w5 ⟨v5, rfl, o5, hb5⟩)
    all_goals
      rw [hbb.out]
      obtain ⟨a5, c5, rfl⟩ := own_form o5
      have hB5 : Below w.heap.size w w5 := by
        first
        | exact hB.trans (hb5.mono hB.size)
        | exact hB.trans (((below_dN _ _).trans (hb5.mono (below_dN _ _).size)).mono hB.size)
      have hd5 : TRow w5 (.slice (some ⟨g, o + 1, none⟩) ((((n : Int) :: r).length) - 1) (c1 - 1)) r := by
        first
        | exact hd.below hb5
        | exact (hd.below (below_dN _ _)).below hb5
      have hd6 : c1 = 1 → TRow w5 (.slice (some ⟨g, o, none⟩) 0 0) r := fun h => by
        first
        | exact (hdA h).below hb5
        | exact ((hdA h).below (below_dN _ _)).below hb5
      clear hd hdA hd2 c0 c0' c0'' RA hk0 hx
      cases b with
      | false =>
        have HF : Hid (funF xs ((n : Int) :: r) = .stray) := by unfold Hid; rw [funF_cons, hbb.out]; rfl
        go_wp2
        go_ret
        exact ⟨_, rfl, by rw [HF.out]; rfl, hB5⟩
      | true =>
        have HF : Hid (funF xs ((n : Int) :: r) = .fn (chainR xs n).1 r) := by unfold Hid; rw [funF_cons, hbb.out]; rfl
        by_cases hc : c1 = 1
        · have hm0 : r.length = 0 := by rw [List.length_cons] at hlc; omega
          have hd7 := hd6 hc
          clear hd5 hd6 hlc T
          generalize r.length = m at *
          subst hm0
          subst hc
          go_wp2_with fail
          go_ret
          refine ⟨_, rfl, ?_, hB5⟩
          rw [HF.out]
          exact ⟨_, _, rfl, TRow.of_own o5, hd7⟩
        · go_wp2_with fail
          go_ret
          refine ⟨_, rfl, ?_, hB5⟩
          rw [HF.out]
          exact ⟨_, _, rfl, TRow.of_own o5, hd5⟩
theorem defF_cons (xs : List Nd) (n : Nat) (r : List Int) : defF xs ((n : Int) :: r) = match (chainR xs n).1 with
    | [] => .defn ByteArray.empty [] []
    | a :: t => .defn (ndAt xs a).s t r := rfl
set_option maxRecDepth 100000 in
set_option maxHeartbeats 6400000 in
theorem idefform_any (ao : Option Addr) (cap : Nat) (xs : List Nd) (v : Value) (l : List Int) (w : World) (R : NRow w (.slice ao xs.length cap) xs) (hp : poolB xs = true) (T : TRow w v l) (hv : InP xs l) :
    Calls Tryz.prog 117 #[.agg #[.slice ao xs.length cap], v] w fun e w' => ∃ u, e = .returned u ∧ FmV w' (defF xs l) u ∧ Below w.heap.size w w' := by
  obtain ⟨a1, c1, rfl, hlc, hcm⟩ := T.form
  have hB : Below w.heap.size w (w.alloc (Obj.cells #[.slice ao xs.length cap] 29)) := (Below.refl _ _).alloc (Nat.le_refl _) _
  have hx : (w.alloc (Obj.cells #[.slice ao xs.length cap] 29)).heap[w.heap.size]? = some (Obj.cells #[.slice ao xs.length cap] 29) := heap_alloc_new _ _
  cases l with
  | nil =>
    go_enter Tryz.func117, Tryz.ntmps117
    go_wp2
    go_ret
    exact ⟨_, rfl, ⟨_, _, rfl, TRow.nil _ _, TRow.nil _ _⟩, hB⟩
  | cons p r =>
    obtain ⟨n, rfl, hn⟩ := hv p (List.mem_cons_self ..)
    obtain ⟨g, o, rfl, hg, c0⟩ := T.cell 0 (by simp)
    have hd : TRow w (.slice (some ⟨g, o + 1, none⟩) ((((n : Int) :: r).length) - 1) (c1 - 1)) r := T.drop 1 (by simp)
    have hd2 : c1 = 1 → TRow w (.slice (some ⟨g, o, none⟩) 0 0) r := fun h => T.dropEnd 1 (by omega) _ ⟨_, rfl⟩
    have c0' := (hB.cell (p := ⟨g, o + 0, none⟩) hg).trans c0
    have c0'' : (w.alloc (Obj.cells #[.slice ao xs.length cap] 29)).cell? ⟨g, o, none⟩ = some (.int .i64 n) := c0'
    have RA := R.below hB
    have hdA := fun h => (hd2 h).below hB
    replace hd := hd.below hB
    have hk0 := cell_of_row _ _ 0 _ _ _ hx
    go_enter Tryz.func117, Tryz.ntmps117
    go_wp2_with fail
    go_region_with (go_at_call 98; with_reducible refine (ilistof_in ao cap xs n _ (by first | exact RA.below (below_dN _ _) | exact RA) hp hn).mono ?_; rintro e w5 ⟨v5, rfl, o5, hb5⟩)
    all_goals
      obtain ⟨a5, c5, rfl⟩ := own_form o5
      have T5 := TRow.of_own o5
      have hB5 : Below w.heap.size w w5 := by
        first
        | exact hB.trans (hb5.mono hB.size)
        | exact hB.trans (((below_dN _ _).trans (hb5.mono (below_dN _ _).size)).mono hB.size)
      have hd5 : TRow w5 (.slice (some ⟨g, o + 1, none⟩) ((((n : Int) :: r).length) - 1) (c1 - 1)) r := by
        first
        | exact hd.below hb5
        | exact (hd.below (below_dN _ _)).below hb5
      have hd6 : c1 = 1 → TRow w5 (.slice (some ⟨g, o, none⟩) 0 0) r := fun h => by
        first
        | exact (hdA h).below hb5
        | exact ((hdA h).below (below_dN _ _)).below hb5
      have hx5 : w5.heap[w.heap.size]? = some (Obj.cells #[.slice ao xs.length cap] 29) := by
        first
        | exact (hb5.block _ (by simp)).trans hx
        | exact (hb5.block _ (by simp)).trans (((below_dN _ _).block _ (by simp)).trans hx)
      have R5 := R.below hB5
      have hch := InP.chain hp hn
      have HF0 := defF_cons xs n r
      clear hd hdA hd2 c0 c0' c0'' RA hk0 hx o5
      generalize (chainR xs n).1 = q at *
      cases q with
      | nil =>
        have HF : Hid (defF xs ((n : Int) :: r) = .defn ByteArray.empty [] []) := HF0
        clear HF0
        go_wp2
        go_ret
        exact ⟨_, rfl, by rw [HF.out]; exact ⟨_, _, rfl, TRow.nil _ _, TRow.nil _ _⟩, hB5⟩
      | cons a t =>
        obtain ⟨m, rfl, hm⟩ := hch a (List.mem_cons_self ..)
        have HF : Hid (defF xs ((n : Int) :: r) = .defn (ndAt xs (m : Int)).s t r) := HF0
        clear HF0 hch
        obtain ⟨g5, o5, rfl, hg5, e0⟩ := T5.cell 0 (by simp)
        have e0' : w5.cell? ⟨g5, o5, none⟩ = some (.int .i64 m) := e0
        have ht5 : TRow w5 (.slice (some ⟨g5, o5 + 1, none⟩) ((((m : Int) :: t).length) - 1) (c5 - 1)) t := T5.drop 1 (by simp)
        have ht6 : c5 = 1 → TRow w5 (.slice (some ⟨g5, o5, none⟩) 0 0) t := fun h => T5.dropEnd 1 (by omega) _ ⟨_, rfl⟩
        obtain ⟨a9, c9, e5, hlc5, _⟩ := T5.form
        simp only [Value.slice.injEq] at e5
        obtain ⟨rfl, _, rfl⟩ := e5
        obtain ⟨x, hxm⟩ : ∃ x, xs[m]? = some x := ⟨xs[m], List.getElem?_eq_getElem hm⟩
        have HN := ndAt_some hxm
        rw [HN] at HF
        obtain ⟨ao', cap', e', _, _, _, hcell⟩ := R5
        simp only [Value.slice.injEq] at e'
        obtain ⟨rfl, _, rfl⟩ := e'
        obtain ⟨gp, op, rfl, hgp, hcell⟩ := hcell (by intro e; rw [e] at hm; simp at hm)
        obtain ⟨_, _, d2, _, _⟩ := hcell m x hxm
        have k0 := cell_of_row _ _ 0 _ _ _ hx5
        have k0' : w5.cell? ⟨w.heap.size, 0, none⟩ = some (.slice (some ⟨gp, op, none⟩) xs.length cap) := k0
        have hb : ∀ n, Below w.heap.size w (w5.drewN n) := fun n => hB5.trans ((below_dN _ n).mono hB5.size)
        clear T5 T hcell k0 e0 R
        by_cases hc : c1 = 1
        · have hm0 : r.length = 0 := by rw [List.length_cons] at hlc; omega
          have hr := hd6 hc
          clear hd5 hd6 hlc
          generalize r.length = z1 at *
          subst hm0
          subst hc
          by_cases hc5 : c5 = 1
          · have hm5 : t.length = 0 := by rw [List.length_cons] at hlc5; omega
            have ht := ht6 hc5
            clear ht5 ht6 hlc5
            subst hc5
            go_wp2_with fail
            go_region
            all_goals
              go_wp2_with fail
              go_ret
              refine ⟨_, rfl, ?_, hb _⟩
              rw [HF.out]
              exact ⟨_, _, rfl, ht.below (below_dN _ _), hr.below (below_dN _ _)⟩
          · clear ht6
            go_wp2_with fail
            go_region
            all_goals
              go_wp2_with fail
              go_ret
              refine ⟨_, rfl, ?_, hb _⟩
              rw [HF.out]
              exact ⟨_, _, rfl, ht5.below (below_dN _ _), hr.below (below_dN _ _)⟩
        · clear hd6
          by_cases hc5 : c5 = 1
          · have hm5 : t.length = 0 := by rw [List.length_cons] at hlc5; omega
            have ht := ht6 hc5
            clear ht5 ht6 hlc5
            subst hc5
            go_wp2_with fail
            go_region
            all_goals
              go_wp2_with fail
              go_ret
              refine ⟨_, rfl, ?_, hb _⟩
              rw [HF.out]
              exact ⟨_, _, rfl, ht.below (below_dN _ _), hd5.below (below_dN _ _)⟩
          · clear ht6
            go_wp2_with fail
            go_region
            all_goals
              go_wp2_with fail
              go_ret
              refine ⟨_, rfl, ?_, hb _⟩
              rw [HF.out]
              exact ⟨_, _, rfl, ht5.below (below_dN _ _), hd5.below (below_dN _ _)⟩
end Go.Proofs.YtkchakcebdenjaaGreat
/-
  The contracts of listForm and formOf. No condition beyond a right pool that has the values.
-/
namespace Go.Proofs.YtkchakcebdenjaaGreat
open Go.RowKit
def swF (xs : List Nd) (s : ByteArray) (p l : List Int) : Fm :=
  if isW s wQuote then .quo p else if isW s wIf then .cho p else if isW s wFn then funF xs p else if isW s wDo then .seq p
  else if isW s wLet then bindF p else if isW s wDefine then defF xs p else .cal l
theorem listF_sw (xs : List Nd) (l : List Int) : listF xs l = swF xs (ndAt xs (l.getD 0 0)).s (l.drop 1) l := rfl
set_option maxRecDepth 100000 in
set_option maxHeartbeats 6400000 in
theorem ilistform_any (ao : Option Addr) (cap : Nat) (xs : List Nd) (v : Value) (l : List Int) (w : World) (R : NRow w (.slice ao xs.length cap) xs) (hp : poolB xs = true) (T : TRow w v l) (hv : InP xs l) (hne : l ≠ []) :
    Calls Tryz.prog 99 #[.agg #[.slice ao xs.length cap], v] w fun e w' => ∃ u, e = .returned u ∧ FmV w' (listF xs l) u ∧ Below w.heap.size w w' := by
  obtain ⟨a1, c1, rfl, hlc, hcm⟩ := T.form
  have hB : Below w.heap.size w (w.alloc (Obj.cells #[.slice ao xs.length cap] 29)) := (Below.refl _ _).alloc (Nat.le_refl _) _
  have hx : (w.alloc (Obj.cells #[.slice ao xs.length cap] 29)).heap[w.heap.size]? = some (Obj.cells #[.slice ao xs.length cap] 29) := heap_alloc_new _ _
  cases l with
  | nil => exact absurd rfl hne
  | cons p r =>
    obtain ⟨n, rfl, hn⟩ := hv p (List.mem_cons_self ..)
    obtain ⟨g, o, rfl, hg, c0⟩ := T.cell 0 (by simp)
    have hd1 : TRow w (.slice (some ⟨g, o + 1, none⟩) ((((n : Int) :: r).length) - 1) (c1 - 1)) r := T.drop 1 (by simp)
    have hd2 : c1 = 1 → TRow w (.slice (some ⟨g, o, none⟩) 0 0) r := fun h => T.dropEnd 1 (by omega) _ ⟨_, rfl⟩
    obtain ⟨x, hxm⟩ : ∃ x, xs[n]? = some x := ⟨xs[n], List.getElem?_eq_getElem hn⟩
    have HL := listF_sw xs ((n : Int) :: r)
    have HN := ndAt_some hxm
    rw [show (((n : Int) :: r).getD 0 0) = (n : Int) from rfl, HN, show ((n : Int) :: r).drop 1 = r from rfl] at HL
    replace HL : Hid (listF xs ((n : Int) :: r) = swF xs x.s r ((n : Int) :: r)) := HL
    have hvr : InP xs r := fun z hz => hv z (List.mem_cons_of_mem _ hz)
    have c0' : (w.alloc (Obj.cells #[.slice ao xs.length cap] 29)).cell? ⟨g, o, none⟩ = some (.int .i64 n) := (hB.cell (p := ⟨g, o + 0, none⟩) hg).trans c0
    have RA := R.below hB
    have R' := RA
    obtain ⟨ao', cap', e', _, _, _, hcell⟩ := R'
    simp only [Value.slice.injEq] at e'
    obtain ⟨rfl, _, rfl⟩ := e'
    obtain ⟨gp, op, rfl, hgp, hcell⟩ := hcell (by intro e; rw [e] at hn; simp at hn)
    obtain ⟨_, _, d2, _, _⟩ := hcell n x hxm
    have k0 : (w.alloc (Obj.cells #[.slice (some ⟨gp, op, none⟩) xs.length cap] 29)).cell? ⟨w.heap.size, 0, none⟩ = some (.slice (some ⟨gp, op, none⟩) xs.length cap) := cell_of_row _ _ 0 _ _ _ hx
    have hbA : ∀ k, Below w.heap.size w ((w.alloc (Obj.cells #[.slice (some ⟨gp, op, none⟩) xs.length cap] 29)).drewN k) := fun k => hB.trans ((below_dN _ k).mono hB.size)
    have hkA : ∀ k, ((w.alloc (Obj.cells #[.slice (some ⟨gp, op, none⟩) xs.length cap] 29)).drewN k).cell? ⟨w.heap.size, 0, none⟩ = some (.slice (some ⟨gp, op, none⟩) xs.length cap) := fun _ => k0
    have TT := T
    obtain ⟨pv, hpv, hdd⟩ : ∃ pv, Hid ((if c1 = 1 then Value.slice (some ⟨g, o, none⟩) r.length 0 else .slice (some ⟨g, o + 1, none⟩) r.length (c1 - 1)) = pv) ∧ TRow w pv r := by
      refine ⟨_, rfl, ?_⟩
      split
      · rename_i h
        have h0 : r.length = 0 := by rw [List.length_cons] at hlc; omega
        rw [h0]
        exact hd2 h
      · exact hd1
    clear hd1 hd2 c0 hcell HN
    go_enter Tryz.func99, Tryz.ntmps99
    by_cases hc : c1 = 1
    case' pos =>
      have hpv' := hpv.out
      rw [if_pos hc] at hpv'
    case' neg =>
      have hpv' := hpv.out
      rw [if_neg hc] at hpv'
    all_goals
      clear hpv T
      go_wp2_with fail
      first | rw [hpv'] | skip
      go_region
    all_goals
      first | rw [hpv'] | skip
      have hbW : Below w.heap.size w (w.alloc (Obj.cells #[.slice (some ⟨gp, op, none⟩) xs.length cap] 29)).drew := hbA 1
      have kW : (w.alloc (Obj.cells #[.slice (some ⟨gp, op, none⟩) xs.length cap] 29)).drew.cell? ⟨w.heap.size, 0, none⟩ = some (.slice (some ⟨gp, op, none⟩) xs.length cap) := k0
      clear hbA hkA k0 hB hx RA hpv'
      generalize (w.alloc (Obj.cells #[.slice (some ⟨gp, op, none⟩) xs.length cap] 29)).drew = W1 at hbW kW ⊢
      have RW := R.below hbW
      have dW := hdd.below hbW
      have tW := TT.below hbW
      clear R hdd TT c0' d2
      generalize x.s = s at HL ⊢
      cases h1 : (s.toList == ([113, 117, 111, 116, 101] : List UInt8)) with
      | true =>
        have HF : Hid (listF xs ((n : Int) :: r) = .quo r) := by unfold Hid; rw [HL.out]; unfold swF; rw [show isW s wQuote = true from h1]; rfl
        go_wp2
        go_ret
        exact ⟨_, rfl, by rw [HF.out]; exact ⟨_, rfl, dW⟩, hbW⟩
      | false =>
        cases h2 : (s.toList == ([105, 102] : List UInt8)) with
        | true =>
          have HF : Hid (listF xs ((n : Int) :: r) = .cho r) := by unfold Hid; rw [HL.out]; unfold swF; rw [show isW s wQuote = false from h1, show isW s wIf = true from h2]; rfl
          go_wp2
          go_ret
          exact ⟨_, rfl, by rw [HF.out]; exact ⟨_, rfl, dW⟩, hbW⟩
        | false =>
          cases h3 : (s.toList == ([102, 110] : List UInt8)) with
          | true =>
            have HF : Hid (listF xs ((n : Int) :: r) = funF xs r) := by unfold Hid; rw [HL.out]; unfold swF; rw [show isW s wQuote = false from h1, show isW s wIf = false from h2, show isW s wFn = true from h3]; rfl
            go_wp2_with fail
            refine (ifunform_any _ _ xs _ r _ RW hp dW hvr).mono ?_
            rintro e w6 ⟨u, rfl, hu, hb6⟩
            go_wp2
            go_ret
            exact ⟨_, rfl, by rw [HF.out]; exact hu, hbW.trans (hb6.mono hbW.size)⟩
          | false =>
            cases h4 : (s.toList == ([100, 111] : List UInt8)) with
            | true =>
              have HF : Hid (listF xs ((n : Int) :: r) = .seq r) := by unfold Hid; rw [HL.out]; unfold swF; rw [show isW s wQuote = false from h1, show isW s wIf = false from h2, show isW s wFn = false from h3, show isW s wDo = true from h4]; rfl
              go_wp2
              go_ret
              exact ⟨_, rfl, by rw [HF.out]; exact ⟨_, rfl, dW⟩, hbW⟩
            | false =>
              cases h5 : (s.toList == ([108, 101, 116] : List UInt8)) with
              | true =>
                have HF : Hid (listF xs ((n : Int) :: r) = bindF r) := by unfold Hid; rw [HL.out]; unfold swF; rw [show isW s wQuote = false from h1, show isW s wIf = false from h2, show isW s wFn = false from h3, show isW s wDo = false from h4, show isW s wLet = true from h5]; rfl
                go_wp2_with fail
                refine (ibindform_any _ r _ dW).mono ?_
                rintro e w6 ⟨u, rfl, hu, hb6⟩
                go_wp2
                go_ret
                exact ⟨_, rfl, by rw [HF.out]; exact hu, hbW.trans (hb6.mono hbW.size)⟩
              | false =>
                cases h6 : (s.toList == ([100, 101, 102, 105, 110, 101] : List UInt8)) with
                | true =>
                  have HF : Hid (listF xs ((n : Int) :: r) = defF xs r) := by unfold Hid; rw [HL.out]; unfold swF; rw [show isW s wQuote = false from h1, show isW s wIf = false from h2, show isW s wFn = false from h3, show isW s wDo = false from h4, show isW s wLet = false from h5, show isW s wDefine = true from h6]; rfl
                  go_wp2_with fail
                  refine (idefform_any _ _ xs _ r _ RW hp dW hvr).mono ?_
                  rintro e w6 ⟨u, rfl, hu, hb6⟩
                  go_wp2
                  go_ret
                  exact ⟨_, rfl, by rw [HF.out]; exact hu, hbW.trans (hb6.mono hbW.size)⟩
                | false =>
                  have HF : Hid (listF xs ((n : Int) :: r) = .cal ((n : Int) :: r)) := by unfold Hid; rw [HL.out]; unfold swF; rw [show isW s wQuote = false from h1, show isW s wIf = false from h2, show isW s wFn = false from h3, show isW s wDo = false from h4, show isW s wLet = false from h5, show isW s wDefine = false from h6]; rfl
                  go_wp2
                  go_ret
                  exact ⟨_, rfl, by rw [HF.out]; exact ⟨_, rfl, by first | exact tW | (rw [hc] at tW; exact tW)⟩, hbW⟩
set_option maxRecDepth 100000 in
set_option maxHeartbeats 6400000 in
theorem iformof_any (ao : Option Addr) (cap : Nat) (xs : List Nd) (v : Nat) (w : World) (R : NRow w (.slice ao xs.length cap) xs) (hp : poolB xs = true) (hv : v < xs.length) :
    Calls Tryz.prog 68 #[.agg #[.slice ao xs.length cap], .int .i64 v] w fun e w' => ∃ u, e = .returned u ∧ FmV w' (formF xs v) u ∧ Below w.heap.size w w' := by
  have hB : Below w.heap.size w (w.alloc (Obj.cells #[.slice ao xs.length cap] 29)) := (Below.refl _ _).alloc (Nat.le_refl _) _
  have hx : (w.alloc (Obj.cells #[.slice ao xs.length cap] 29)).heap[w.heap.size]? = some (Obj.cells #[.slice ao xs.length cap] 29) := heap_alloc_new _ _
  obtain ⟨x, hxm⟩ : ∃ x, xs[v]? = some x := ⟨xs[v], List.getElem?_eq_getElem hv⟩
  have HN := ndAt_some hxm
  have HL : Hid (formF xs v = if x.k = 1 ∨ x.k = 2 ∨ x.k = 3 then .lit v else if x.k = 4 then .men x.s else if x.k = 5 then (if (chainR xs v).2 then listF xs (chainR xs v).1 else .stray) else .stray) := by unfold Hid formF; rw [HN]
  have hch := InP.chain hp hv
  have hne := fun h5 h2 => chain_ne hxm h5 h2
  have RA := R.below hB
  have R' := RA
  obtain ⟨ao', cap', e', _, _, _, hcell⟩ := R'
  simp only [Value.slice.injEq] at e'
  obtain ⟨rfl, _, rfl⟩ := e'
  obtain ⟨gp, op, rfl, hgp, hcell⟩ := hcell (by intro e; rw [e] at hv; simp at hv)
  obtain ⟨d0, d1, d2, d3, d4⟩ := hcell v x hxm
  have k0 : (w.alloc (Obj.cells #[.slice (some ⟨gp, op, none⟩) xs.length cap] 29)).cell? ⟨w.heap.size, 0, none⟩ = some (.slice (some ⟨gp, op, none⟩) xs.length cap) := cell_of_row _ _ 0 _ _ _ hx
  clear hcell HN
  have hb2 : Below w.heap.size w ((w.alloc (Obj.cells #[.slice (some ⟨gp, op, none⟩) xs.length cap] 29)).alloc (Obj.cells #[.int .i64 x.k, .int .i64 x.n, .string x.s, .int .i64 x.a, .int .i64 x.b] 92)) := hB.alloc hB.size _
  have RW := R.below hb2
  have kW : ((w.alloc (Obj.cells #[.slice (some ⟨gp, op, none⟩) xs.length cap] 29)).alloc (Obj.cells #[.int .i64 x.k, .int .i64 x.n, .string x.s, .int .i64 x.a, .int .i64 x.b] 92)).cell? ⟨w.heap.size, 0, none⟩ = some (.slice (some ⟨gp, op, none⟩) xs.length cap) := by
    rw [cell_of_row _ _ 0 _ _ _ ((heap_alloc_old _ _ (by simp)).trans hx)]; rfl
  obtain ⟨W, hW⟩ : ∃ W, Hid (((w.alloc (Obj.cells #[.slice (some ⟨gp, op, none⟩) xs.length cap] 29)).alloc (Obj.cells #[.int .i64 x.k, .int .i64 x.n, .string x.s, .int .i64 x.a, .int .i64 x.b] 92)) = W) := ⟨_, rfl⟩
  rw [hW.out] at hb2 RW kW
  by_cases h1 : x.k = 1
  · have HF : Hid (formF xs v = .lit v) := by unfold Hid; rw [HL.out, if_pos (by simp [h1])]
    go_enter Tryz.func68, Tryz.ntmps68
    go_wp2
    go_ret
    exact ⟨_, rfl, by rw [HF.out]; rfl, hB.alloc hB.size _⟩
  by_cases h2 : x.k = 2
  · have HF : Hid (formF xs v = .lit v) := by unfold Hid; rw [HL.out, if_pos (by simp [h2])]
    go_enter Tryz.func68, Tryz.ntmps68
    go_wp2
    go_ret
    exact ⟨_, rfl, by rw [HF.out]; rfl, hB.alloc hB.size _⟩
  by_cases h3 : x.k = 3
  · have HF : Hid (formF xs v = .lit v) := by unfold Hid; rw [HL.out, if_pos (by simp [h3])]
    go_enter Tryz.func68, Tryz.ntmps68
    go_wp2
    go_ret
    exact ⟨_, rfl, by rw [HF.out]; rfl, hB.alloc hB.size _⟩
  have hn3 : ¬ (x.k = 1 ∨ x.k = 2 ∨ x.k = 3) := by simp [h1, h2, h3]
  by_cases h4 : x.k = 4
  · have HF : Hid (formF xs v = .men x.s) := by unfold Hid; rw [HL.out, if_neg hn3, if_pos h4]
    go_enter Tryz.func68, Tryz.ntmps68
    go_wp2
    go_ret
    exact ⟨_, rfl, by rw [HF.out]; rfl, hB.alloc hB.size _⟩
  by_cases h5 : x.k = 5
  · have HF0 : Hid (formF xs v = if (chainR xs v).2 then listF xs (chainR xs v).1 else .stray) := by unfold Hid; rw [HL.out, if_neg hn3, if_neg h4, if_pos h5]
    go_enter Tryz.func68, Tryz.ntmps68
    go_wp2_with fail
    have hW5 := hW.out
    rw [h5] at hW5
    rw [hW5]
    refine (ilistof_in _ cap xs v _ RW hp hv).mono ?_
    rintro e w6 ⟨v6, rfl, o6, hb6⟩
    obtain ⟨a6, c6, rfl⟩ := own_form o6
    have T6 := TRow.of_own o6
    have hs : w.heap.size < W.heap.size := by rw [← hW.out]; simp; omega
    have kW6 := (hb6.cell (p := ⟨w.heap.size, 0, none⟩) hs).trans kW
    have hB6 := hb2.trans (hb6.mono hb2.size)
    have R6 := R.below hB6
    obtain ⟨b, hbb⟩ : ∃ b, Hid ((chainR xs v).2 = b) := ⟨_, rfl⟩
    have hne' := fun h => hne h5 (hbb.out.trans h)
    rw [hbb.out]
    clear hW hW5 RW kW d0 d1 d2 d3 d4 k0 hx RA hB o6
    cases b with
    | false =>
      have HF : Hid (formF xs v = .stray) := by unfold Hid; rw [HF0.out, hbb.out]; rfl
      go_wp2
      go_ret
      exact ⟨_, rfl, by rw [HF.out]; rfl, hB6⟩
    | true =>
      have HF : Hid (formF xs v = listF xs (chainR xs v).1) := by unfold Hid; rw [HF0.out, hbb.out]; rfl
      have hl := hne' rfl
      clear hne hne' HF0 HL hbb
      generalize (chainR xs v).1 = q at *
      go_wp2_with fail
      refine (ilistform_any _ cap xs _ q _ R6 hp T6 hch (by intro e; rw [e] at hl; simp at hl)).mono ?_
      rintro e w7 ⟨u, rfl, hu, hb7⟩
      go_wp2
      go_ret
      exact ⟨_, rfl, by rw [HF.out]; exact hu, hB6.trans (hb7.mono hB6.size)⟩
  have HF : Hid (formF xs v = .stray) := by unfold Hid; rw [HL.out, if_neg hn3, if_neg h4, if_neg h5]
  go_enter Tryz.func68, Tryz.ntmps68
  go_wp2
  go_ret
  exact ⟨_, rfl, by rw [HF.out]; rfl, hB.alloc hB.size _⟩
end Go.Proofs.YtkchakcebdenjaaGreat
