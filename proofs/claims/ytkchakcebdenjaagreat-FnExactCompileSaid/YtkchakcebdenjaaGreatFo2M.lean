/-
  Texts that stood by themselves, laid into one.
-/
import Derived.Test.YtkchakcebdenjaaGreatBsM
import Derived.Test.YtkchakcebdenjaaGreatStrsM
import Derived.Deep.RegionHeld3
/-
  What a value is by how it begins: impl's forms, and how they are found. No condition beyond a right pool that has the values.
-/
namespace Go.Proofs.YtkchakcebdenjaaGreat
open Go.RowKit
inductive Fm where
  | lit (v : Int)
  | men (s : ByteArray)
  | quo (l : List Int)
  | cho (l : List Int)
  | seq (l : List Int)
  | cal (l : List Int)
  | fn (vs bs : List Int)
  | bin (vs bs : List Int) (v : Int)
  | defn (s : ByteArray) (vs bs : List Int)
  | stray
def FmV (w : World) : Fm → Value → Prop
  | .lit v, u => u = .iface 154 (.agg #[.int .i64 v])
  | .men s, u => u = .iface 156 (.agg #[.string s])
  | .quo l, u => ∃ x, u = .iface 168 x ∧ TRow w x l
  | .cho l, u => ∃ x, u = .iface 169 x ∧ TRow w x l
  | .seq l, u => ∃ x, u = .iface 170 x ∧ TRow w x l
  | .cal l, u => ∃ x, u = .iface 171 x ∧ TRow w x l
  | .fn vs bs, u => ∃ x y, u = .iface 112 (.agg #[x, y]) ∧ TRow w x vs ∧ TRow w y bs
  | .bin vs bs v, u => ∃ x y, u = .iface 180 (.agg #[x, y, .int .i64 v]) ∧ TRow w x vs ∧ TRow w y bs
  | .defn s vs bs, u => ∃ x y, u = .iface 114 (.agg #[.string s, x, y]) ∧ TRow w x vs ∧ TRow w y bs
  | .stray, u => u = .iface 160 (.agg #[])
theorem FmV.below {w w' : World} {f : Fm} {u : Value} (h : FmV w f u) (hb : Below w.heap.size w w') : FmV w' f u := by
  cases f
  case lit => exact h
  case men => exact h
  case quo => obtain ⟨x, e, r⟩ := h; exact ⟨x, e, r.below hb⟩
  case cho => obtain ⟨x, e, r⟩ := h; exact ⟨x, e, r.below hb⟩
  case seq => obtain ⟨x, e, r⟩ := h; exact ⟨x, e, r.below hb⟩
  case cal => obtain ⟨x, e, r⟩ := h; exact ⟨x, e, r.below hb⟩
  case fn => obtain ⟨x, y, e, r, r'⟩ := h; exact ⟨x, y, e, r.below hb, r'.below hb⟩
  case bin => obtain ⟨x, y, e, r, r'⟩ := h; exact ⟨x, y, e, r.below hb, r'.below hb⟩
  case defn => obtain ⟨x, y, e, r, r'⟩ := h; exact ⟨x, y, e, r.below hb, r'.below hb⟩
  case stray => exact h
def bindF (l : List Int) : Fm := if l.length < 2 then .stray else .bin (l.take 1) (l.drop 2) (l.getD 1 0)
def funF (xs : List Nd) : List Int → Fm
  | [] => .stray
  | p :: r => if (chainR xs p.toNat).2 then .fn (chainR xs p.toNat).1 r else .stray
def defF (xs : List Nd) : List Int → Fm
  | [] => .defn ByteArray.empty [] []
  | p :: r => match (chainR xs p.toNat).1 with
    | [] => .defn ByteArray.empty [] []
    | a :: t => .defn (ndAt xs a).s t r
def listF (xs : List Nd) (l : List Int) : Fm :=
  let h := (ndAt xs (l.getD 0 0)).s
  if isW h wQuote then .quo (l.drop 1) else if isW h wIf then .cho (l.drop 1) else if isW h wFn then funF xs (l.drop 1) else if isW h wDo then .seq (l.drop 1)
  else if isW h wLet then bindF (l.drop 1) else if isW h wDefine then defF xs (l.drop 1) else .cal l
def formF (xs : List Nd) (v : Nat) : Fm :=
  let x := ndAt xs v
  if x.k = 1 ∨ x.k = 2 ∨ x.k = 3 then .lit v else if x.k = 4 then .men x.s else if x.k = 5 then (if (chainR xs v).2 then listF xs (chainR xs v).1 else .stray) else .stray
theorem TRow.dropEnd {w : World} {ad : Option Addr} {n cap : Nat} {l : List Int} (h : TRow w (.slice ad n cap) l) (k : Nat) (hk : cap ≤ k) (u : Value) (hu : ∃ ad', u = .slice ad' 0 0) : TRow w u (l.drop k) := by
  obtain ⟨ao', cap', e, h1, h2, h3⟩ := h
  simp only [Value.slice.injEq] at e
  obtain ⟨rfl, rfl, rfl⟩ := e
  obtain ⟨ad', rfl⟩ := hu
  have : l.drop k = [] := List.drop_eq_nil_of_le (by omega)
  rw [this]
  exact ⟨ad', 0, rfl, Nat.le_refl _, by omega, fun h => absurd rfl h⟩
theorem TRow.take {w : World} {ad : Option Addr} {n cap : Nat} {l : List Int} (h : TRow w (.slice ad n cap) l) (k : Nat) (hk : k ≤ l.length) : TRow w (.slice ad k cap) (l.take k) := by
  obtain ⟨ao', cap', e, h1, h2, h3⟩ := h
  simp only [Value.slice.injEq] at e
  obtain ⟨rfl, rfl, rfl⟩ := e
  have hl : (l.take k).length = k := by rw [List.length_take]; omega
  refine ⟨ad, cap, by rw [hl], by omega, h2, fun hne => ?_⟩
  obtain ⟨g', o', cur, fr, e, hg, hc⟩ := h3 (by rintro rfl; simp at hne)
  refine ⟨g', o', cur, fr, e, hg, fun i hi => ?_⟩
  rw [hc i (by omega)]
  simp only [List.getD_eq_getElem?_getD, List.getElem?_take, if_pos (show i < k by omega)]
theorem TRow.nil (w : World) (ad : Option Addr) : TRow w (.slice ad 0 0) [] := ⟨ad, 0, rfl, Nat.le_refl _, by omega, fun h => absurd rfl h⟩
set_option maxRecDepth 100000 in
set_option maxHeartbeats 1600000 in
theorem iisform_any (s : ByteArray) (w : World) : Calls Tryz.prog 154 #[.string s] w fun e w' => e = .returned (.bool (rsv s)) ∧ w' = w := by
  have HR : Hid (rsv s = ((s.toList == [113, 117, 111, 116, 101]) || (s.toList == [105, 102]) || (s.toList == [102, 110]) || (s.toList == [100, 111]) || (s.toList == [108, 101, 116]) || (s.toList == [100, 101, 102, 105, 110, 101]))) := rfl
  go_enter Tryz.func154, Tryz.ntmps154
  go_wp2_with fail
  all_goals
    first
    | (exfalso; simp_all; done)
    | (go_ret
       refine ⟨?_, rfl⟩
       rw [HR.out]
       simp [*])
set_option maxHeartbeats 1600000 in
theorem ibindform_any (v : Value) (l : List Int) (w : World) (T : TRow w v l) :
    Calls Tryz.prog 116 #[v] w fun e w' => ∃ u, e = .returned u ∧ FmV w' (bindF l) u ∧ Below w.heap.size w w' := by
  obtain ⟨ao, cap, rfl, hlc, hcm⟩ := T.form
  by_cases h2 : l.length < 2
  · have HB : Hid (bindF l = .stray) := by unfold Hid bindF; rw [if_pos h2]
    go_enter Tryz.func116, Tryz.ntmps116
    go_wp2
    go_ret
    exact ⟨_, rfl, by rw [HB.out]; rfl, Below.refl _ _⟩
  · have HB : Hid (bindF l = .bin (l.take 1) (l.drop 2) (l.getD 1 0)) := by unfold Hid bindF; rw [if_neg h2]
    obtain ⟨g, o, rfl, hg, c1⟩ := T.cell 1 (by omega)
    have ht := T.take 1 (by omega)
    have hb : ∀ n, Below w.heap.size w (w.drewN n) := below_dN w
    obtain ⟨z, hz⟩ : ∃ z, l.getD 1 0 = z := ⟨_, rfl⟩
    rw [hz] at c1
    have HB2 : Hid (bindF l = .bin (l.take 1) (l.drop 2) z) := by unfold Hid; rw [HB.out, hz]
    clear HB hz
    go_enter Tryz.func116, Tryz.ntmps116
    by_cases hc : cap = 2
    · have hd := T.dropEnd 2 (by omega) (.slice (some ⟨g, o, none⟩) 0 0) ⟨_, rfl⟩
      have hll : l.length = 2 := by omega
      clear T
      subst hc
      generalize l.length = n at *
      subst hll
      go_wp2_with fail
      go_region
      all_goals
        go_wp2_with fail
        go_ret
        refine ⟨_, rfl, ?_, hb _⟩
        rw [HB2.out]
        exact ⟨_, _, rfl, ht.below (hb _), hd.below (hb _)⟩
    · have hd := T.drop 2 (by omega)
      clear T
      go_wp2_with fail
      go_region
      all_goals
        go_wp2_with fail
        go_ret
        refine ⟨_, rfl, ?_, hb _⟩
        rw [HB2.out]
        exact ⟨_, _, rfl, ht.below (hb _), hd.below (hb _)⟩
end Go.Proofs.YtkchakcebdenjaaGreat
/-
  The contracts of functionForm and definitionForm. No condition beyond a right pool that has the values.
-/
namespace Go.Proofs.YtkchakcebdenjaaGreat
open Go.RowKit
def InP (xs : List Nd) (l : List Int) : Prop := ∀ z ∈ l, ∃ n : Nat, z = n ∧ n < xs.length
theorem InP.chain {xs : List Nd} (hp : poolB xs = true) {v : Nat} (hv : v < xs.length) : InP xs (chainR xs v).1 := fun z hz => by
  obtain ⟨n, h1, h2⟩ := chainR_mem hp v z hz
  exact ⟨n, h1, by omega⟩
theorem funF_cons (xs : List Nd) (n : Nat) (r : List Int) : funF xs ((n : Int) :: r) = if (chainR xs n).2 then .fn (chainR xs n).1 r else .stray := by simp [funF]
set_option maxRecDepth 100000 in
set_option maxHeartbeats 3200000 in
theorem ifunform_any (ao : Option Addr) (cap : Nat) (xs : List Nd) (v : Value) (l : List Int) (w : World) (R : NRow w (.slice ao xs.length cap) xs) (hp : poolB xs = true) (T : TRow w v l) (hv : InP xs l) :
    Calls Tryz.prog 115 #[.agg #[.slice ao xs.length cap], v] w fun e w' => ∃ u, e = .returned u ∧ FmV w' (funF xs l) u ∧ Below w.heap.size w w' := by
  obtain ⟨a1, c1, rfl, hlc, hcm⟩ := T.form
  have hB : Below w.heap.size w (w.alloc (Obj.cells #[.slice ao xs.length cap] 29)) := (Below.refl _ _).alloc (Nat.le_refl _) _
  have hx : (w.alloc (Obj.cells #[.slice ao xs.length cap] 29)).heap[w.heap.size]? = some (Obj.cells #[.slice ao xs.length cap] 29) := heap_alloc_new _ _
  cases l with
  | nil =>
    go_enter Tryz.func115, Tryz.ntmps115
    go_wp2
    go_ret
    exact ⟨_, rfl, rfl, hB⟩
  | cons p r =>
    obtain ⟨n, rfl, hn⟩ := hv p (List.mem_cons_self ..)
    obtain ⟨g, o, rfl, hg, c0⟩ := T.cell 0 (by simp)
    have hd : TRow w (.slice (some ⟨g, o + 1, none⟩) ((((n : Int) :: r).length) - 1) (c1 - 1)) r := T.drop 1 (by simp)
    have hd2 : c1 = 1 → TRow w (.slice (some ⟨g, o, none⟩) 0 0) r := fun h => T.dropEnd 1 (by omega) _ ⟨_, rfl⟩
    have c0' := (hB.cell (p := ⟨g, o + 0, none⟩) hg).trans c0
    have c0'' : (w.alloc (Obj.cells #[.slice ao xs.length cap] 29)).cell? ⟨g, o, none⟩ = some (.int .i64 n) := c0'
    have RA := R.below hB
    have hdA := fun h => (hd2 h).below hB
    replace hd := hd.below hB
    have hk0 := cell_of_row _ _ 0 _ _ _ hx
    obtain ⟨b, hbb⟩ : ∃ b, Hid ((chainR xs n).2 = b) := ⟨_, rfl⟩
    go_enter Tryz.func115, Tryz.ntmps115
    go_wp2_with fail
    go_region_with (go_at_call 98; with_reducible refine (ilistof_in ao cap xs n _ (by first | exact RA.below (below_dN _ _) | exact RA) hp hn).mono ?_; rintro e w5 ⟨v5, rfl, o5, hb5⟩)
    all_goals
      rw [hbb.out]
      obtain ⟨a5, c5, rfl⟩ := own_form o5
      have hB5 : Below w.heap.size w w5 := by
        first
        | exact hB.trans (hb5.mono hB.size)
        | exact hB.trans (((below_dN _ _).trans (hb5.mono (below_dN _ _).size)).mono hB.size)
      have hd5 : TRow w5 (.slice (some ⟨g, o + 1, none⟩) ((((n : Int) :: r).length) - 1) (c1 - 1)) r := by
        first
        | exact hd.below hb5
        | exact (hd.below (below_dN _ _)).below hb5
      have hd6 : c1 = 1 → TRow w5 (.slice (some ⟨g, o, none⟩) 0 0) r := fun h => by
        first
        | exact (hdA h).below hb5
        | exact ((hdA h).below (below_dN _ _)).below hb5
      clear hd hdA hd2 c0 c0' c0'' RA hk0 hx
      cases b with
      | false =>
        have HF : Hid (funF xs ((n : Int) :: r) = .stray) := by unfold Hid; rw [funF_cons, hbb.out]; rfl
        go_wp2
        go_ret
        exact ⟨_, rfl, by rw [HF.out]; rfl, hB5⟩
      | true =>
        have HF : Hid (funF xs ((n : Int) :: r) = .fn (chainR xs n).1 r) := by unfold Hid; rw [funF_cons, hbb.out]; rfl
        by_cases hc : c1 = 1
        · have hm0 : r.length = 0 := by rw [List.length_cons] at hlc; omega
          have hd7 := hd6 hc
          clear hd5 hd6 hlc T
          generalize r.length = m at *
          subst hm0
          subst hc
          go_wp2_with fail
          go_ret
          refine ⟨_, rfl, ?_, hB5⟩
          rw [HF.out]
          exact ⟨_, _, rfl, TRow.of_own o5, hd7⟩
        · go_wp2_with fail
          go_ret
          refine ⟨_, rfl, ?_, hB5⟩
          rw [HF.out]
          exact ⟨_, _, rfl, TRow.of_own o5, hd5⟩
theorem defF_cons (xs : List Nd) (n : Nat) (r : List Int) : defF xs ((n : Int) :: r) = match (chainR xs n).1 with
    | [] => .defn ByteArray.empty [] []
    | a :: t => .defn (ndAt xs a).s t r := rfl
set_option maxRecDepth 100000 in
set_option maxHeartbeats 6400000 in
theorem idefform_any (ao : Option Addr) (cap : Nat) (xs : List Nd) (v : Value) (l : List Int) (w : World) (R : NRow w (.slice ao xs.length cap) xs) (hp : poolB xs = true) (T : TRow w v l) (hv : InP xs l) :
    Calls Tryz.prog 117 #[.agg #[.slice ao xs.length cap], v] w fun e w' => ∃ u, e = .returned u ∧ FmV w' (defF xs l) u ∧ Below w.heap.size w w' := by
  obtain ⟨a1, c1, rfl, hlc, hcm⟩ := T.form
  have hB : Below w.heap.size w (w.alloc (Obj.cells #[.slice ao xs.length cap] 29)) := (Below.refl _ _).alloc (Nat.le_refl _) _
  have hx : (w.alloc (Obj.cells #[.slice ao xs.length cap] 29)).heap[w.heap.size]? = some (Obj.cells #[.slice ao xs.length cap] 29) := heap_alloc_new _ _
  cases l with
  | nil =>
    go_enter Tryz.func117, Tryz.ntmps117
    go_wp2
    go_ret
    exact ⟨_, rfl, ⟨_, _, rfl, TRow.nil _ _, TRow.nil _ _⟩, hB⟩
  | cons p r =>
    obtain ⟨n, rfl, hn⟩ := hv p (List.mem_cons_self ..)
    obtain ⟨g, o, rfl, hg, c0⟩ := T.cell 0 (by simp)
    have hd : TRow w (.slice (some ⟨g, o + 1, none⟩) ((((n : Int) :: r).length) - 1) (c1 - 1)) r := T.drop 1 (by simp)
    have hd2 : c1 = 1 → TRow w (.slice (some ⟨g, o, none⟩) 0 0) r := fun h => T.dropEnd 1 (by omega) _ ⟨_, rfl⟩
    have c0' := (hB.cell (p := ⟨g, o + 0, none⟩) hg).trans c0
    have c0'' : (w.alloc (Obj.cells #[.slice ao xs.length cap] 29)).cell? ⟨g, o, none⟩ = some (.int .i64 n) := c0'
    have RA := R.below hB
    have hdA := fun h => (hd2 h).below hB
    replace hd := hd.below hB
    have hk0 := cell_of_row _ _ 0 _ _ _ hx
    go_enter Tryz.func117, Tryz.ntmps117
    go_wp2_with fail
    go_region_with (go_at_call 98; with_reducible refine (ilistof_in ao cap xs n _ (by first | exact RA.below (below_dN _ _) | exact RA) hp hn).mono ?_; rintro e w5 ⟨v5, rfl, o5, hb5⟩)
    all_goals
      obtain ⟨a5, c5, rfl⟩ := own_form o5
      have T5 := TRow.of_own o5
      have hB5 : Below w.heap.size w w5 := by
        first
        | exact hB.trans (hb5.mono hB.size)
        | exact hB.trans (((below_dN _ _).trans (hb5.mono (below_dN _ _).size)).mono hB.size)
      have hd5 : TRow w5 (.slice (some ⟨g, o + 1, none⟩) ((((n : Int) :: r).length) - 1) (c1 - 1)) r := by
        first
        | exact hd.below hb5
        | exact (hd.below (below_dN _ _)).below hb5
      have hd6 : c1 = 1 → TRow w5 (.slice (some ⟨g, o, none⟩) 0 0) r := fun h => by
        first
        | exact (hdA h).below hb5
        | exact ((hdA h).below (below_dN _ _)).below hb5
      have hx5 : w5.heap[w.heap.size]? = some (Obj.cells #[.slice ao xs.length cap] 29) := by
        first
        | exact (hb5.block _ (by simp)).trans hx
        | exact (hb5.block _ (by simp)).trans (((below_dN _ _).block _ (by simp)).trans hx)
      have R5 := R.below hB5
      have hch := InP.chain hp hn
      have HF0 := defF_cons xs n r
      clear hd hdA hd2 c0 c0' c0'' RA hk0 hx o5
      generalize (chainR xs n).1 = q at *
      cases q with
      | nil =>
        have HF : Hid (defF xs ((n : Int) :: r) = .defn ByteArray.empty [] []) := HF0
        clear HF0
        go_wp2
        go_ret
        exact ⟨_, rfl, by rw [HF.out]; exact ⟨_, _, rfl, TRow.nil _ _, TRow.nil _ _⟩, hB5⟩
      | cons a t =>
        obtain ⟨m, rfl, hm⟩ := hch a (List.mem_cons_self ..)
        have HF : Hid (defF xs ((n : Int) :: r) = .defn (ndAt xs (m : Int)).s t r) := HF0
        clear HF0 hch
        obtain ⟨g5, o5, rfl, hg5, e0⟩ := T5.cell 0 (by simp)
        have e0' : w5.cell? ⟨g5, o5, none⟩ = some (.int .i64 m) := e0
        have ht5 : TRow w5 (.slice (some ⟨g5, o5 + 1, none⟩) ((((m : Int) :: t).length) - 1) (c5 - 1)) t := T5.drop 1 (by simp)
        have ht6 : c5 = 1 → TRow w5 (.slice (some ⟨g5, o5, none⟩) 0 0) t := fun h => T5.dropEnd 1 (by omega) _ ⟨_, rfl⟩
        obtain ⟨a9, c9, e5, hlc5, _⟩ := T5.form
        simp only [Value.slice.injEq] at e5
        obtain ⟨rfl, _, rfl⟩ := e5
        obtain ⟨x, hxm⟩ : ∃ x, xs[m]? = some x := ⟨xs[m], List.getElem?_eq_getElem hm⟩
        have HN := ndAt_some hxm
        rw [HN] at HF
        obtain ⟨ao', cap', e', _, _, _, hcell⟩ := R5
        simp only [Value.slice.injEq] at e'
        obtain ⟨rfl, _, rfl⟩ := e'
        obtain ⟨gp, op, rfl, hgp, hcell⟩ := hcell (by intro e; rw [e] at hm; simp at hm)
        obtain ⟨_, _, d2, _, _⟩ := hcell m x hxm
        have k0 := cell_of_row _ _ 0 _ _ _ hx5
        have k0' : w5.cell? ⟨w.heap.size, 0, none⟩ = some (.slice (some ⟨gp, op, none⟩) xs.length cap) := k0
        have hb : ∀ n, Below w.heap.size w (w5.drewN n) := fun n => hB5.trans ((below_dN _ n).mono hB5.size)
        clear T5 T hcell k0 e0 R
        by_cases hc : c1 = 1
        · have hm0 : r.length = 0 := by rw [List.length_cons] at hlc; omega
          have hr := hd6 hc
          clear hd5 hd6 hlc
          generalize r.length = z1 at *
          subst hm0
          subst hc
          by_cases hc5 : c5 = 1
          · have hm5 : t.length = 0 := by rw [List.length_cons] at hlc5; omega
            have ht := ht6 hc5
            clear ht5 ht6 hlc5
            subst hc5
            go_wp2_with fail
            go_region
            all_goals
              go_wp2_with fail
              go_ret
              refine ⟨_, rfl, ?_, hb _⟩
              rw [HF.out]
              exact ⟨_, _, rfl, ht.below (below_dN _ _), hr.below (below_dN _ _)⟩
          · clear ht6
            go_wp2_with fail
            go_region
            all_goals
              go_wp2_with fail
              go_ret
              refine ⟨_, rfl, ?_, hb _⟩
              rw [HF.out]
              exact ⟨_, _, rfl, ht5.below (below_dN _ _), hr.below (below_dN _ _)⟩
        · clear hd6
          by_cases hc5 : c5 = 1
          · have hm5 : t.length = 0 := by rw [List.length_cons] at hlc5; omega
            have ht := ht6 hc5
            clear ht5 ht6 hlc5
            subst hc5
            go_wp2_with fail
            go_region
            all_goals
              go_wp2_with fail
              go_ret
              refine ⟨_, rfl, ?_, hb _⟩
              rw [HF.out]
              exact ⟨_, _, rfl, ht.below (below_dN _ _), hd5.below (below_dN _ _)⟩
          · clear ht6
            go_wp2_with fail
            go_region
            all_goals
              go_wp2_with fail
              go_ret
              refine ⟨_, rfl, ?_, hb _⟩
              rw [HF.out]
              exact ⟨_, _, rfl, ht5.below (below_dN _ _), hd5.below (below_dN _ _)⟩
end Go.Proofs.YtkchakcebdenjaaGreat
