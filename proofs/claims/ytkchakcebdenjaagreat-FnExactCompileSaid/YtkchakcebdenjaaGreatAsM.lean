/-
  Texts that stood by themselves, laid into one.
-/
import Derived.Test.YtkchakcebdenjaaGreatFo2M
/-
  The contracts of listForm and formOf. No condition beyond a right pool that has the values.
-/
namespace Go.Proofs.YtkchakcebdenjaaGreat
open Go.RowKit
def swF (xs : List Nd) (s : ByteArray) (p l : List Int) : Fm :=
  if isW s wQuote then .quo p else if isW s wIf then .cho p else if isW s wFn then funF xs p else if isW s wDo then .seq p
  else if isW s wLet then bindF p else if isW s wDefine then defF xs p else .cal l
theorem listF_sw (xs : List Nd) (l : List Int) : listF xs l = swF xs (ndAt xs (l.getD 0 0)).s (l.drop 1) l := rfl
set_option maxRecDepth 100000 in
set_option maxHeartbeats 6400000 in
theorem ilistform_any (ao : Option Addr) (cap : Nat) (xs : List Nd) (v : Value) (l : List Int) (w : World) (R : NRow w (.slice ao xs.length cap) xs) (hp : poolB xs = true) (T : TRow w v l) (hv : InP xs l) (hne : l ≠ []) :
    Calls Tryz.prog 99 #[.agg #[.slice ao xs.length cap], v] w fun e w' => ∃ u, e = .returned u ∧ FmV w' (listF xs l) u ∧ Below w.heap.size w w' := by
  obtain ⟨a1, c1, rfl, hlc, hcm⟩ := T.form
  have hB : Below w.heap.size w (w.alloc (Obj.cells #[.slice ao xs.length cap] 29)) := (Below.refl _ _).alloc (Nat.le_refl _) _
  have hx : (w.alloc (Obj.cells #[.slice ao xs.length cap] 29)).heap[w.heap.size]? = some (Obj.cells #[.slice ao xs.length cap] 29) := heap_alloc_new _ _
  cases l with
  | nil => exact absurd rfl hne
  | cons p r =>
    obtain ⟨n, rfl, hn⟩ := hv p (List.mem_cons_self ..)
    obtain ⟨g, o, rfl, hg, c0⟩ := T.cell 0 (by simp)
    have hd1 : TRow w (.slice (some ⟨g, o + 1, none⟩) ((((n : Int) :: r).length) - 1) (c1 - 1)) r := T.drop 1 (by simp)
    have hd2 : c1 = 1 → TRow w (.slice (some ⟨g, o, none⟩) 0 0) r := fun h => T.dropEnd 1 (by omega) _ ⟨_, rfl⟩
    obtain ⟨x, hxm⟩ : ∃ x, xs[n]? = some x := ⟨xs[n], List.getElem?_eq_getElem hn⟩
    have HL := listF_sw xs ((n : Int) :: r)
    have HN := ndAt_some hxm
    rw [show (((n : Int) :: r).getD 0 0) = (n : Int) from rfl, HN, show ((n : Int) :: r).drop 1 = r from rfl] at HL
    replace HL : Hid (listF xs ((n : Int) :: r) = swF xs x.s r ((n : Int) :: r)) := HL
    have hvr : InP xs r := fun z hz => hv z (List.mem_cons_of_mem _ hz)
    have c0' : (w.alloc (Obj.cells #[.slice ao xs.length cap] 29)).cell? ⟨g, o, none⟩ = some (.int .i64 n) := (hB.cell (p := ⟨g, o + 0, none⟩) hg).trans c0
    have RA := R.below hB
    have R' := RA
    obtain ⟨ao', cap', e', _, _, _, hcell⟩ := R'
    simp only [Value.slice.injEq] at e'
    obtain ⟨rfl, _, rfl⟩ := e'
    obtain ⟨gp, op, rfl, hgp, hcell⟩ := hcell (by intro e; rw [e] at hn; simp at hn)
    obtain ⟨_, _, d2, _, _⟩ := hcell n x hxm
    have k0 : (w.alloc (Obj.cells #[.slice (some ⟨gp, op, none⟩) xs.length cap] 29)).cell? ⟨w.heap.size, 0, none⟩ = some (.slice (some ⟨gp, op, none⟩) xs.length cap) := cell_of_row _ _ 0 _ _ _ hx
    have hbA : ∀ k, Below w.heap.size w ((w.alloc (Obj.cells #[.slice (some ⟨gp, op, none⟩) xs.length cap] 29)).drewN k) := fun k => hB.trans ((below_dN _ k).mono hB.size)
    have hkA : ∀ k, ((w.alloc (Obj.cells #[.slice (some ⟨gp, op, none⟩) xs.length cap] 29)).drewN k).cell? ⟨w.heap.size, 0, none⟩ = some (.slice (some ⟨gp, op, none⟩) xs.length cap) := fun _ => k0
    have TT := T
    obtain ⟨pv, hpv, hdd⟩ : ∃ pv, Hid ((if c1 = 1 then Value.slice (some ⟨g, o, none⟩) r.length 0 else .slice (some ⟨g, o + 1, none⟩) r.length (c1 - 1)) = pv) ∧ TRow w pv r := by
      refine ⟨_, rfl, ?_⟩
      split
      · rename_i h
        have h0 : r.length = 0 := by rw [List.length_cons] at hlc; omega
        rw [h0]
        exact hd2 h
      · exact hd1
    clear hd1 hd2 c0 hcell HN
    go_enter Tryz.func99, Tryz.ntmps99
    by_cases hc : c1 = 1
    case' pos =>
      have hpv' := hpv.out
      rw [if_pos hc] at hpv'
    case' neg =>
      have hpv' := hpv.out
      rw [if_neg hc] at hpv'
    all_goals
      clear hpv T
      go_wp2_with fail
      first | rw [hpv'] | skip
      go_region
    all_goals
      first | rw [hpv'] | skip
      have hbW : Below w.heap.size w (w.alloc (Obj.cells #[.slice (some ⟨gp, op, none⟩) xs.length cap] 29)).drew := hbA 1
      have kW : (w.alloc (Obj.cells #[.slice (some ⟨gp, op, none⟩) xs.length cap] 29)).drew.cell? ⟨w.heap.size, 0, none⟩ = some (.slice (some ⟨gp, op, none⟩) xs.length cap) := k0
      clear hbA hkA k0 hB hx RA hpv'
      generalize (w.alloc (Obj.cells #[.slice (some ⟨gp, op, none⟩) xs.length cap] 29)).drew = W1 at hbW kW ⊢
      have RW := R.below hbW
      have dW := hdd.below hbW
      have tW := TT.below hbW
      clear R hdd TT c0' d2
      generalize x.s = s at HL ⊢
      cases h1 : (s.toList == ([113, 117, 111, 116, 101] : List UInt8)) with
      | true =>
        have HF : Hid (listF xs ((n : Int) :: r) = .quo r) := by unfold Hid; rw [HL.out]; unfold swF; rw [show isW s wQuote = true from h1]; rfl
        go_wp2
        go_ret
        exact ⟨_, rfl, by rw [HF.out]; exact ⟨_, rfl, dW⟩, hbW⟩
      | false =>
        cases h2 : (s.toList == ([105, 102] : List UInt8)) with
        | true =>
          have HF : Hid (listF xs ((n : Int) :: r) = .cho r) := by unfold Hid; rw [HL.out]; unfold swF; rw [show isW s wQuote = false from h1, show isW s wIf = true from h2]; rfl
          go_wp2
          go_ret
          exact ⟨_, rfl, by rw [HF.out]; exact ⟨_, rfl, dW⟩, hbW⟩
        | false =>
          cases h3 : (s.toList == ([102, 110] : List UInt8)) with
          | true =>
            have HF : Hid (listF xs ((n : Int) :: r) = funF xs r) := by unfold Hid; rw [HL.out]; unfold swF; rw [show isW s wQuote = false from h1, show isW s wIf = false from h2, show isW s wFn = true from h3]; rfl
            go_wp2_with fail
            refine (ifunform_any _ _ xs _ r _ RW hp dW hvr).mono ?_
            rintro e w6 ⟨u, rfl, hu, hb6⟩
            go_wp2
            go_ret
            exact ⟨_, rfl, by rw [HF.out]; exact hu, hbW.trans (hb6.mono hbW.size)⟩
          | false =>
            cases h4 : (s.toList == ([100, 111] : List UInt8)) with
            | true =>
              have HF : Hid (listF xs ((n : Int) :: r) = .seq r) := by unfold Hid; rw [HL.out]; unfold swF; rw [show isW s wQuote = false from h1, show isW s wIf = false from h2, show isW s wFn = false from h3, show isW s wDo = true from h4]; rfl
              go_wp2
              go_ret
              exact ⟨_, rfl, by rw [HF.out]; exact ⟨_, rfl, dW⟩, hbW⟩
            | false =>
              cases h5 : (s.toList == ([108, 101, 116] : List UInt8)) with
              | true =>
                have HF : Hid (listF xs ((n : Int) :: r) = bindF r) := by unfold Hid; rw [HL.out]; unfold swF; rw [show isW s wQuote = false from h1, show isW s wIf = false from h2, show isW s wFn = false from h3, show isW s wDo = false from h4, show isW s wLet = true from h5]; rfl
                go_wp2_with fail
                refine (ibindform_any _ r _ dW).mono ?_
                rintro e w6 ⟨u, rfl, hu, hb6⟩
                go_wp2
                go_ret
                exact ⟨_, rfl, by rw [HF.out]; exact hu, hbW.trans (hb6.mono hbW.size)⟩
              | false =>
                cases h6 : (s.toList == ([100, 101, 102, 105, 110, 101] : List UInt8)) with
                | true =>
                  have HF : Hid (listF xs ((n : Int) :: r) = defF xs r) := by unfold Hid; rw [HL.out]; unfold swF; rw [show isW s wQuote = false from h1, show isW s wIf = false from h2, show isW s wFn = false from h3, show isW s wDo = false from h4, show isW s wLet = false from h5, show isW s wDefine = true from h6]; rfl
                  go_wp2_with fail
                  refine (idefform_any _ _ xs _ r _ RW hp dW hvr).mono ?_
                  rintro e w6 ⟨u, rfl, hu, hb6⟩
                  go_wp2
                  go_ret
                  exact ⟨_, rfl, by rw [HF.out]; exact hu, hbW.trans (hb6.mono hbW.size)⟩
                | false =>
                  have HF : Hid (listF xs ((n : Int) :: r) = .cal ((n : Int) :: r)) := by unfold Hid; rw [HL.out]; unfold swF; rw [show isW s wQuote = false from h1, show isW s wIf = false from h2, show isW s wFn = false from h3, show isW s wDo = false from h4, show isW s wLet = false from h5, show isW s wDefine = false from h6]; rfl
                  go_wp2
                  go_ret
                  exact ⟨_, rfl, by rw [HF.out]; exact ⟨_, rfl, by first | exact tW | (rw [hc] at tW; exact tW)⟩, hbW⟩
set_option maxRecDepth 100000 in
set_option maxHeartbeats 6400000 in
theorem iformof_any (ao : Option Addr) (cap : Nat) (xs : List Nd) (v : Nat) (w : World) (R : NRow w (.slice ao xs.length cap) xs) (hp : poolB xs = true) (hv : v < xs.length) :
    Calls Tryz.prog 68 #[.agg #[.slice ao xs.length cap], .int .i64 v] w fun e w' => ∃ u, e = .returned u ∧ FmV w' (formF xs v) u ∧ Below w.heap.size w w' := by
  have hB : Below w.heap.size w (w.alloc (Obj.cells #[.slice ao xs.length cap] 29)) := (Below.refl _ _).alloc (Nat.le_refl _) _
  have hx : (w.alloc (Obj.cells #[.slice ao xs.length cap] 29)).heap[w.heap.size]? = some (Obj.cells #[.slice ao xs.length cap] 29) := heap_alloc_new _ _
  obtain ⟨x, hxm⟩ : ∃ x, xs[v]? = some x := ⟨xs[v], List.getElem?_eq_getElem hv⟩
  have HN := ndAt_some hxm
  have HL : Hid (formF xs v = if x.k = 1 ∨ x.k = 2 ∨ x.k = 3 then .lit v else if x.k = 4 then .men x.s else if x.k = 5 then (if (chainR xs v).2 then listF xs (chainR xs v).1 else .stray) else .stray) := by unfold Hid formF; rw [HN]
  have hch := InP.chain hp hv
  have hne := fun h5 h2 => chain_ne hxm h5 h2
  have RA := R.below hB
  have R' := RA
  obtain ⟨ao', cap', e', _, _, _, hcell⟩ := R'
  simp only [Value.slice.injEq] at e'
  obtain ⟨rfl, _, rfl⟩ := e'
  obtain ⟨gp, op, rfl, hgp, hcell⟩ := hcell (by intro e; rw [e] at hv; simp at hv)
  obtain ⟨d0, d1, d2, d3, d4⟩ := hcell v x hxm
  have k0 : (w.alloc (Obj.cells #[.slice (some ⟨gp, op, none⟩) xs.length cap] 29)).cell? ⟨w.heap.size, 0, none⟩ = some (.slice (some ⟨gp, op, none⟩) xs.length cap) := cell_of_row _ _ 0 _ _ _ hx
  clear hcell HN
  have hb2 : Below w.heap.size w ((w.alloc (Obj.cells #[.slice (some ⟨gp, op, none⟩) xs.length cap] 29)).alloc (Obj.cells #[.int .i64 x.k, .int .i64 x.n, .string x.s, .int .i64 x.a, .int .i64 x.b] 92)) := hB.alloc hB.size _
  have RW := R.below hb2
  have kW : ((w.alloc (Obj.cells #[.slice (some ⟨gp, op, none⟩) xs.length cap] 29)).alloc (Obj.cells #[.int .i64 x.k, .int .i64 x.n, .string x.s, .int .i64 x.a, .int .i64 x.b] 92)).cell? ⟨w.heap.size, 0, none⟩ = some (.slice (some ⟨gp, op, none⟩) xs.length cap) := by
    rw [cell_of_row _ _ 0 _ _ _ ((heap_alloc_old _ _ (by simp)).trans hx)]; rfl
  obtain ⟨W, hW⟩ : ∃ W, Hid (((w.alloc (Obj.cells #[.slice (some ⟨gp, op, none⟩) xs.length cap] 29)).alloc (Obj.cells #[.int .i64 x.k, .int .i64 x.n, .string x.s, .int .i64 x.a, .int .i64 x.b] 92)) = W) := ⟨_, rfl⟩
  rw [hW.out] at hb2 RW kW
  by_cases h1 : x.k = 1
  · have HF : Hid (formF xs v = .lit v) := by unfold Hid; rw [HL.out, if_pos (by simp [h1])]
    go_enter Tryz.func68, Tryz.ntmps68
    go_wp2
    go_ret
    exact ⟨_, rfl, by rw [HF.out]; rfl, hB.alloc hB.size _⟩
  by_cases h2 : x.k = 2
  · have HF : Hid (formF xs v = .lit v) := by unfold Hid; rw [HL.out, if_pos (by simp [h2])]
    go_enter Tryz.func68, Tryz.ntmps68
    go_wp2
    go_ret
    exact ⟨_, rfl, by rw [HF.out]; rfl, hB.alloc hB.size _⟩
  by_cases h3 : x.k = 3
  · have HF : Hid (formF xs v = .lit v) := by unfold Hid; rw [HL.out, if_pos (by simp [h3])]
    go_enter Tryz.func68, Tryz.ntmps68
    go_wp2
    go_ret
    exact ⟨_, rfl, by rw [HF.out]; rfl, hB.alloc hB.size _⟩
  have hn3 : ¬ (x.k = 1 ∨ x.k = 2 ∨ x.k = 3) := by simp [h1, h2, h3]
  by_cases h4 : x.k = 4
  · have HF : Hid (formF xs v = .men x.s) := by unfold Hid; rw [HL.out, if_neg hn3, if_pos h4]
    go_enter Tryz.func68, Tryz.ntmps68
    go_wp2
    go_ret
    exact ⟨_, rfl, by rw [HF.out]; rfl, hB.alloc hB.size _⟩
  by_cases h5 : x.k = 5
  · have HF0 : Hid (formF xs v = if (chainR xs v).2 then listF xs (chainR xs v).1 else .stray) := by unfold Hid; rw [HL.out, if_neg hn3, if_neg h4, if_pos h5]
    go_enter Tryz.func68, Tryz.ntmps68
    go_wp2_with fail
    have hW5 := hW.out
    rw [h5] at hW5
    rw [hW5]
    refine (ilistof_in _ cap xs v _ RW hp hv).mono ?_
    rintro e w6 ⟨v6, rfl, o6, hb6⟩
    obtain ⟨a6, c6, rfl⟩ := own_form o6
    have T6 := TRow.of_own o6
    have hs : w.heap.size < W.heap.size := by rw [← hW.out]; simp; omega
    have kW6 := (hb6.cell (p := ⟨w.heap.size, 0, none⟩) hs).trans kW
    have hB6 := hb2.trans (hb6.mono hb2.size)
    have R6 := R.below hB6
    obtain ⟨b, hbb⟩ : ∃ b, Hid ((chainR xs v).2 = b) := ⟨_, rfl⟩
    have hne' := fun h => hne h5 (hbb.out.trans h)
    rw [hbb.out]
    clear hW hW5 RW kW d0 d1 d2 d3 d4 k0 hx RA hB o6
    cases b with
    | false =>
      have HF : Hid (formF xs v = .stray) := by unfold Hid; rw [HF0.out, hbb.out]; rfl
      go_wp2
      go_ret
      exact ⟨_, rfl, by rw [HF.out]; rfl, hB6⟩
    | true =>
      have HF : Hid (formF xs v = listF xs (chainR xs v).1) := by unfold Hid; rw [HF0.out, hbb.out]; rfl
      have hl := hne' rfl
      clear hne hne' HF0 HL hbb
      generalize (chainR xs v).1 = q at *
      go_wp2_with fail
      refine (ilistform_any _ cap xs _ q _ R6 hp T6 hch (by intro e; rw [e] at hl; simp at hl)).mono ?_
      rintro e w7 ⟨u, rfl, hu, hb7⟩
      go_wp2
      go_ret
      exact ⟨_, rfl, by rw [HF.out]; exact hu, hB6.trans (hb7.mono hB6.size)⟩
  have HF : Hid (formF xs v = .stray) := by unfold Hid; rw [HL.out, if_neg hn3, if_neg h4, if_neg h5]
  go_enter Tryz.func68, Tryz.ntmps68
  go_wp2
  go_ret
  exact ⟨_, rfl, by rw [HF.out]; rfl, hB.alloc hB.size _⟩
end Go.Proofs.YtkchakcebdenjaaGreat
/-
  Whether a form is as told: the contracts of all asTold. No condition beyond a right pool that has the values.
-/
namespace Go.Proofs.YtkchakcebdenjaaGreat
open Go.RowKit
def fnB (xs : List Nd) (vs bs : List Int) : Bool := decide (0 < bs.length) && (decide (vs.length ≤ 4) && allVars xs vs)
def tellB (xs : List Nd) : Fm → Bool
  | .lit _ => true
  | .men s => !rsv s
  | .quo l => decide ((l.length : Int) = 1)
  | .cho l => decide ((l.length : Int) = 3)
  | .seq l => decide (0 < l.length)
  | .cal l => decide ((l.length : Int) ≤ 5)
  | .fn vs bs => fnB xs vs bs
  | .bin vs bs _ => fnB xs vs bs
  | .defn s vs bs => !(s.toList == []) && (!rsv s && fnB xs vs bs)
  | .stray => false
set_option maxRecDepth 100000 in
set_option maxHeartbeats 1600000 in
theorem isnovar_any (ao : Option Addr) (cap : Nat) (xs : List Nd) (v : Nat) (w : World) (R : NRow w (.slice ao xs.length cap) xs) (hv : v < xs.length) :
    Calls Tryz.prog 152 #[.agg #[.slice ao xs.length cap], .int .i64 v] w fun e w' => e = .returned (.bool (!(varN xs v))) ∧ Below w.heap.size w w' := by
  have hB : Below w.heap.size w (w.alloc (Obj.cells #[.slice ao xs.length cap] 29)) := (Below.refl _ _).alloc (Nat.le_refl _) _
  have hx : (w.alloc (Obj.cells #[.slice ao xs.length cap] 29)).heap[w.heap.size]? = some (Obj.cells #[.slice ao xs.length cap] 29) := heap_alloc_new _ _
  obtain ⟨x, hxm⟩ : ∃ x, xs[v]? = some x := ⟨xs[v], List.getElem?_eq_getElem hv⟩
  have HN := ndAt_some hxm
  have RA := R.below hB
  obtain ⟨ao', cap', e', _, _, _, hcell⟩ := RA
  simp only [Value.slice.injEq] at e'
  obtain ⟨rfl, _, rfl⟩ := e'
  obtain ⟨gp, op, rfl, hgp, hcell⟩ := hcell (by intro e; rw [e] at hv; simp at hv)
  obtain ⟨d0, d1, d2, d3, d4⟩ := hcell v x hxm
  have k0 : (w.alloc (Obj.cells #[.slice (some ⟨gp, op, none⟩) xs.length cap] 29)).cell? ⟨w.heap.size, 0, none⟩ = some (.slice (some ⟨gp, op, none⟩) xs.length cap) := cell_of_row _ _ 0 _ _ _ hx
  have HV : Hid (varN xs (v : Int) = (decide (x.k = 4) && !rsv x.s)) := by unfold Hid varN; rw [HN]
  clear hcell HN hx
  by_cases h4 : x.k = 4
  · go_enter Tryz.func152, Tryz.ntmps152
    go_wp2_with fail
    refine (iisform_any x.s _).mono ?_
    rintro e w1 ⟨rfl, rfl⟩
    go_wp2
    go_ret
    exact ⟨by rw [HV.out, decide_eq_true h4]; simp, hB⟩
  · have hd : (x.k != 4) = true := by simpa using h4
    go_enter Tryz.func152, Tryz.ntmps152
    go_wp2_with fail
    go_ret
    exact ⟨by rw [HV.out, decide_eq_false h4]; simp, hB⟩
set_option maxRecDepth 100000 in
set_option maxHeartbeats 1600000 in
theorem fxnovar_any (ao : Option Addr) (cap : Nat) (xs : List Nd) (u : Value) (l : List Int) (w : World) (R : NRow w (.slice ao xs.length cap) xs) (T : TRow w u l) (hv : InP xs l) :
    Calls Tryz.prog 153 #[u, .func (.func 152) #[.agg #[.slice ao xs.length cap]] #[]] w fun e w' => ∃ q : Int, e = .returned (.int .i64 q) ∧ decide (0 ≤ q) = !(allVars xs l) ∧ -1 ≤ q ∧ Below w.heap.size w w' := by
  obtain ⟨a1, c1, rfl, hlc, hcm⟩ := T.form
  go_enter Tryz.func153, Tryz.ntmps153
  go_wp2_with fail
  go_loopw [8] (fun i wr => ∃ k : Nat, k ≤ l.length ∧ i = .int .i64 k ∧ Hid (allVars xs (l.take k) = true) ∧ Below w.heap.size w wr) (fun i _ => l.length - (intOf i).toNat)
  case atStart => exact ⟨0, by omega, rfl, rfl, Below.refl _ _⟩
  case round =>
    obtain ⟨k, hk, rfl, HK, hb⟩ := hrel
    by_cases hlt : k < l.length
    · obtain ⟨z, hz⟩ : ∃ z, l[k]? = some z := ⟨l[k], List.getElem?_eq_getElem hlt⟩
      have hzg : l.getD k 0 = z := by rw [List.getD_eq_getElem?_getD, hz]; rfl
      obtain ⟨n, rfl, hn⟩ := hv z (List.mem_of_getElem? hz)
      obtain ⟨g, o, rfl, hg, ck⟩ := (T.below hb).cell k hlt
      rw [hzg] at ck
      have Rw := R.below hb
      obtain ⟨b, hbb⟩ : ∃ b, Hid (varN xs (n : Int) = b) := ⟨_, rfl⟩
      go_wp2_with fail
      refine (isnovar_any ao cap xs n _ Rw hn).mono ?_
      rintro e w2 ⟨rfl, hb2⟩
      rw [hbb.out]
      have hB2 := hb.trans (hb2.mono hb.size)
      clear hb2 ck Rw
      cases b with
      | false =>
        have HA : Hid (allVars xs l = false) := allVars_bad xs l k n hz hbb.out
        clear HK hbb hz
        go_wp2
        go_ret
        refine ⟨k, rfl, ?_, by omega, hB2⟩
        rw [HA.out]
        simp
      | true =>
        have HA : Hid (allVars xs (l.take (k + 1)) = true) := by unfold Hid; rw [allVars_snoc xs l k n hz, HK.out, hbb.out]; rfl
        clear HK hbb hz
        go_wp2
        go_roundw
        case rel => exact ⟨k + 1, by omega, by go_num, HA, hB2⟩
        case measure => simp [intOf]; omega
    · have HA : Hid (allVars xs l = true) := by
        have := HK.out
        rw [List.take_of_length_le (by omega)] at this
        exact this
      clear HK
      go_wp2
      go_ret
      refine ⟨-1, rfl, ?_, by omega, hb⟩
      rw [HA.out]
      decide
set_option maxRecDepth 100000 in
set_option maxHeartbeats 1600000 in
theorem cfnovar_any (ao : Option Addr) (cap : Nat) (xs : List Nd) (u : Value) (l : List Int) (w : World) (R : NRow w (.slice ao xs.length cap) xs) (T : TRow w u l) (hv : InP xs l) :
    Calls Tryz.prog 151 #[u, .func (.func 152) #[.agg #[.slice ao xs.length cap]] #[]] w fun e w' => e = .returned (.bool (!(allVars xs l))) ∧ Below w.heap.size w w' := by
  go_enter Tryz.func151, Tryz.ntmps151
  go_wp2_with fail
  refine (fxnovar_any ao cap xs u l _ R T hv).mono ?_
  rintro e w2 ⟨q, rfl, hq, _, hb2⟩
  go_wp2
  go_ret
  exact ⟨by rw [← hq]; rfl, hb2⟩
theorem box2 (w : World) (a b : Obj) : Below w.heap.size w ((w.alloc a).alloc b) ∧ ((w.alloc a).alloc b).heap[w.heap.size]? = some a ∧ ((w.alloc a).alloc b).heap[w.heap.size + 1]? = some b :=
  ⟨((Below.refl _ _).alloc (Nat.le_refl _) _).alloc (by simp) _, (heap_alloc_old _ _ (by simp)).trans (heap_alloc_new _ _), by have := heap_alloc_new (w.alloc a) b; simpa using this⟩
set_option maxRecDepth 100000 in
set_option maxHeartbeats 3200000 in
theorem atfun_any (ao : Option Addr) (cap : Nat) (xs : List Nd) (u y : Value) (vs bs : List Int) (w : World) (R : NRow w (.slice ao xs.length cap) xs) (T : TRow w u vs) (T2 : TRow w y bs) (hv : InP xs vs) :
    Calls Tryz.prog 150 #[.agg #[u, y], .agg #[.slice ao xs.length cap]] w fun e w' => e = .returned (.bool (fnB xs vs bs)) ∧ Below w.heap.size w w' := by
  have hmf : ∀ (fn : Fn) (first cap : Array Value) (w : World), (Instr.makeFunc fn first cap).run Tryz.prog w = .ok (.func fn first cap) w := fun _ _ _ _ => rfl
  obtain ⟨a1, c1, rfl, _⟩ := T.form
  obtain ⟨a2, c2, rfl, _⟩ := T2.form
  obtain ⟨hB, hx, hy⟩ := box2 w (Obj.cells #[.slice a1 vs.length c1, .slice a2 bs.length c2] 112) (Obj.cells #[.slice ao xs.length cap] 29)
  have k0 := cell_of_row _ _ 0 _ _ _ hx
  have k1 := cell_of_row _ _ 1 _ _ _ hx
  have k2 := cell_of_row _ _ 0 _ _ _ hy
  have RA := R.below hB
  have TA := T.below hB
  clear hx hy
  obtain ⟨W, hW⟩ : ∃ W, Hid (((w.alloc (Obj.cells #[.slice a1 vs.length c1, .slice a2 bs.length c2] 112)).alloc (Obj.cells #[.slice ao xs.length cap] 29)) = W) := ⟨_, rfl⟩
  by_cases h1 : 0 < bs.length
  · by_cases h2 : vs.length ≤ 4
    · have HF : Hid (fnB xs vs bs = allVars xs vs) := by unfold Hid fnB; rw [decide_eq_true h1, decide_eq_true h2]; rfl
      go_enter Tryz.func150, Tryz.ntmps150
      go_wp2_with fail
      refine (cfnovar_any ao cap xs _ vs _ RA TA hv).mono ?_
      rintro e w2 ⟨rfl, hb2⟩
      have hB2 := hB.trans (hb2.mono hB.size)
      obtain ⟨b, hbb⟩ : ∃ b, Hid (allVars xs vs = b) := ⟨_, rfl⟩
      rw [hbb.out]
      clear hb2 RA TA
      cases b <;>
        (go_wp2
         go_ret
         exact ⟨by rw [HF.out, hbb.out]; rfl, hB2⟩)
    · have HF : Hid (fnB xs vs bs = false) := by unfold Hid fnB; rw [decide_eq_false h2]; simp
      go_enter Tryz.func150, Tryz.ntmps150
      go_wp2_with fail
      go_ret
      exact ⟨by rw [HF.out]; rfl, hB⟩
  · have HF : Hid (fnB xs vs bs = false) := by unfold Hid fnB; rw [decide_eq_false h1]; simp
    go_enter Tryz.func150, Tryz.ntmps150
    go_wp2_with fail
    go_ret
    exact ⟨by rw [HF.out]; rfl, hB⟩
end Go.Proofs.YtkchakcebdenjaaGreat
