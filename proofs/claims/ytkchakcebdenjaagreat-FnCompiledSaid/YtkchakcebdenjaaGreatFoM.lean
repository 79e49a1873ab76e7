/-
  Texts that stood by themselves, laid into one.
-/
import Derived.Test.YtkchakcebdenjaaGreatBsM
import Derived.Test.YtkchakcebdenjaaGreatShapeM
import Derived.Test.YtkchakcebdenjaaGreatStore2M
import Derived.Deep.RegionWith
import Derived.Test.YtkchakcebdenjaaGreatInM
import Derived.Deep.RegionHeld3
/-
  Contracts of the laws' own helpers markNodeS, heldNodeS, markPool, heldPool: what is marked in a slice of the call's own is found there.
-/
namespace Go.Proofs.YtkchakcebdenjaaGreat
open Go.RowKit
def mk (k : Int) : Nd := ⟨k, k + 1, mt (k + 1 + 1), k + 1 + 1 + 1, k + 1 + 1 + 1 + 1⟩
def nmarked (k : Int) (xs : List Nd) (i : Nat) : List Nd := (List.range i).map (fun (j : Nat) => mk (k + 5 * (j : Int))) ++ xs.drop i
end Go.Proofs.YtkchakcebdenjaaGreat
/-
  Helpers: a slice of texts read as a list, and the contracts of the laws' helpers on such slices. No condition.
-/
namespace Go.Proofs.YtkchakcebdenjaaGreat
open Go.RowKit
def stv (xs : List ByteArray) : List Value := xs.map Value.string
theorem below_dN (w : World) (n : Nat) : Below w.heap.size w (w.drewN n) := ⟨rfl, rfl, rfl, Nat.le_refl _, fun _ _ => rfl⟩
def StRow (w : World) (v : Value) (xs : List ByteArray) : Prop :=
  ∃ ao cap, v = .slice ao xs.length cap ∧ (xs.length ≤ cap ∧ (ao = none → cap = 0)) ∧ xs.length ≤ 9223372036854775807 ∧ (∀ x ∈ xs, x.size ≤ maxLen) ∧
    (xs ≠ [] → ∃ g o, ao = some ⟨g, o, none⟩ ∧ g < w.heap.size ∧ ∀ i x, xs[i]? = some x → w.cell? ⟨g, o + i, none⟩ = some (.string x))
def stcopied (xs : List ByteArray) (j : Nat) : List ByteArray := xs.take j ++ List.replicate (xs.length - j) ByteArray.empty
def sm (k : Int) (n : Nat) : List ByteArray := (List.range n).map fun (j : Nat) => mt (k + (j : Int))
def smid (k : Int) (pre xs post : List ByteArray) (j : Nat) : List ByteArray := pre ++ (sm k j ++ (xs.drop j ++ post))
end Go.Proofs.YtkchakcebdenjaaGreat
/-
  What a value is by how it begins: impl's forms, and how they are found. No condition beyond a right pool that has the values.
-/
namespace Go.Proofs.YtkchakcebdenjaaGreat
open Go.RowKit
inductive Fm where
  | lit (v : Int)
  | men (s : ByteArray)
  | quo (l : List Int)
  | cho (l : List Int)
  | seq (l : List Int)
  | cal (l : List Int)
  | fn (vs bs : List Int)
  | bin (vs bs : List Int) (v : Int)
  | defn (s : ByteArray) (vs bs : List Int)
  | stray
def FmV (w : World) : Fm → Value → Prop
  | .lit v, u => u = .iface 154 (.agg #[.int .i64 v])
  | .men s, u => u = .iface 156 (.agg #[.string s])
  | .quo l, u => ∃ x, u = .iface 168 x ∧ TRow w x l
  | .cho l, u => ∃ x, u = .iface 169 x ∧ TRow w x l
  | .seq l, u => ∃ x, u = .iface 170 x ∧ TRow w x l
  | .cal l, u => ∃ x, u = .iface 171 x ∧ TRow w x l
  | .fn vs bs, u => ∃ x y, u = .iface 112 (.agg #[x, y]) ∧ TRow w x vs ∧ TRow w y bs
  | .bin vs bs v, u => ∃ x y, u = .iface 180 (.agg #[x, y, .int .i64 v]) ∧ TRow w x vs ∧ TRow w y bs
  | .defn s vs bs, u => ∃ x y, u = .iface 114 (.agg #[.string s, x, y]) ∧ TRow w x vs ∧ TRow w y bs
  | .stray, u => u = .iface 160 (.agg #[])
theorem FmV.below {w w' : World} {f : Fm} {u : Value} (h : FmV w f u) (hb : Below w.heap.size w w') : FmV w' f u := by
  cases f
  case lit => exact h
  case men => exact h
  case quo => obtain ⟨x, e, r⟩ := h; exact ⟨x, e, r.below hb⟩
  case cho => obtain ⟨x, e, r⟩ := h; exact ⟨x, e, r.below hb⟩
  case seq => obtain ⟨x, e, r⟩ := h; exact ⟨x, e, r.below hb⟩
  case cal => obtain ⟨x, e, r⟩ := h; exact ⟨x, e, r.below hb⟩
  case fn => obtain ⟨x, y, e, r, r'⟩ := h; exact ⟨x, y, e, r.below hb, r'.below hb⟩
  case bin => obtain ⟨x, y, e, r, r'⟩ := h; exact ⟨x, y, e, r.below hb, r'.below hb⟩
  case defn => obtain ⟨x, y, e, r, r'⟩ := h; exact ⟨x, y, e, r.below hb, r'.below hb⟩
  case stray => exact h
def bindF (l : List Int) : Fm := if l.length < 2 then .stray else .bin (l.take 1) (l.drop 2) (l.getD 1 0)
def funF (xs : List Nd) : List Int → Fm
  | [] => .stray
  | p :: r => if (chainR xs p.toNat).2 then .fn (chainR xs p.toNat).1 r else .stray
def defF (xs : List Nd) : List Int → Fm
  | [] => .defn ByteArray.empty [] []
  | p :: r => match (chainR xs p.toNat).1 with
    | [] => .defn ByteArray.empty [] []
    | a :: t => .defn (ndAt xs a).s t r
def listF (xs : List Nd) (l : List Int) : Fm :=
  let h := (ndAt xs (l.getD 0 0)).s
  if isW h wQuote then .quo (l.drop 1) else if isW h wIf then .cho (l.drop 1) else if isW h wFn then funF xs (l.drop 1) else if isW h wDo then .seq (l.drop 1)
  else if isW h wLet then bindF (l.drop 1) else if isW h wDefine then defF xs (l.drop 1) else .cal l
def formF (xs : List Nd) (v : Nat) : Fm :=
  let x := ndAt xs v
  if x.k = 1 ∨ x.k = 2 ∨ x.k = 3 then .lit v else if x.k = 4 then .men x.s else if x.k = 5 then (if (chainR xs v).2 then listF xs (chainR xs v).1 else .stray) else .stray
theorem TRow.dropEnd {w : World} {ad : Option Addr} {n cap : Nat} {l : List Int} (h : TRow w (.slice ad n cap) l) (k : Nat) (hk : cap ≤ k) (u : Value) (hu : ∃ ad', u = .slice ad' 0 0) : TRow w u (l.drop k) := by
  obtain ⟨ao', cap', e, h1, h2, h3⟩ := h
  simp only [Value.slice.injEq] at e
  obtain ⟨rfl, rfl, rfl⟩ := e
  obtain ⟨ad', rfl⟩ := hu
  have : l.drop k = [] := List.drop_eq_nil_of_le (by omega)
  rw [this]
  exact ⟨ad', 0, rfl, Nat.le_refl _, by omega, fun h => absurd rfl h⟩
theorem TRow.take {w : World} {ad : Option Addr} {n cap : Nat} {l : List Int} (h : TRow w (.slice ad n cap) l) (k : Nat) (hk : k ≤ l.length) : TRow w (.slice ad k cap) (l.take k) := by
  obtain ⟨ao', cap', e, h1, h2, h3⟩ := h
  simp only [Value.slice.injEq] at e
  obtain ⟨rfl, rfl, rfl⟩ := e
  have hl : (l.take k).length = k := by rw [List.length_take]; omega
  refine ⟨ad, cap, by rw [hl], by omega, h2, fun hne => ?_⟩
  obtain ⟨g', o', cur, fr, e, hg, hc⟩ := h3 (by rintro rfl; simp at hne)
  refine ⟨g', o', cur, fr, e, hg, fun i hi => ?_⟩
  rw [hc i (by omega)]
  simp only [List.getD_eq_getElem?_getD, List.getElem?_take, if_pos (show i < k by omega)]
theorem TRow.nil (w : World) (ad : Option Addr) : TRow w (.slice ad 0 0) [] := ⟨ad, 0, rfl, Nat.le_refl _, by omega, fun h => absurd rfl h⟩
set_option maxRecDepth 100000 in
set_option maxHeartbeats 1600000 in
theorem iisform_any (s : ByteArray) (w : World) : Calls Tryz.prog 154 #[.string s] w fun e w' => e = .returned (.bool (rsv s)) ∧ w' = w := by
  have HR : Hid (rsv s = ((s.toList == [113, 117, 111, 116, 101]) || (s.toList == [105, 102]) || (s.toList == [102, 110]) || (s.toList == [100, 111]) || (s.toList == [108, 101, 116]) || (s.toList == [100, 101, 102, 105, 110, 101]))) := rfl
  go_enter Tryz.func154, Tryz.ntmps154
  go_wp2_with fail
  all_goals
    first
    | (exfalso; simp_all; done)
    | (go_ret
       refine ⟨?_, rfl⟩
       rw [HR.out]
       simp [*])
set_option maxHeartbeats 1600000 in
theorem ibindform_any (v : Value) (l : List Int) (w : World) (T : TRow w v l) :
    Calls Tryz.prog 116 #[v] w fun e w' => ∃ u, e = .returned u ∧ FmV w' (bindF l) u ∧ Below w.heap.size w w' := by
  obtain ⟨ao, cap, rfl, hlc, hcm⟩ := T.form
  by_cases h2 : l.length < 2
  · have HB : Hid (bindF l = .stray) := by unfold Hid bindF; rw [if_pos h2]
    go_enter Tryz.func116, Tryz.ntmps116
    go_wp2
    go_ret
    exact ⟨_, rfl, by rw [HB.out]; rfl, Below.refl _ _⟩
  · have HB : Hid (bindF l = .bin (l.take 1) (l.drop 2) (l.getD 1 0)) := by unfold Hid bindF; rw [if_neg h2]
    obtain ⟨g, o, rfl, hg, c1⟩ := T.cell 1 (by omega)
    have ht := T.take 1 (by omega)
    have hb : ∀ n, Below w.heap.size w (w.drewN n) := below_dN w
    obtain ⟨z, hz⟩ : ∃ z, l.getD 1 0 = z := ⟨_, rfl⟩
    rw [hz] at c1
    have HB2 : Hid (bindF l = .bin (l.take 1) (l.drop 2) z) := by unfold Hid; rw [HB.out, hz]
    clear HB hz
    go_enter Tryz.func116, Tryz.ntmps116
    by_cases hc : cap = 2
    · have hd := T.dropEnd 2 (by omega) (.slice (some ⟨g, o, none⟩) 0 0) ⟨_, rfl⟩
      have hll : l.length = 2 := by omega
      clear T
      subst hc
      generalize l.length = n at *
      subst hll
      go_wp2_with fail
      go_region
      all_goals
        go_wp2_with fail
        go_ret
        refine ⟨_, rfl, ?_, hb _⟩
        rw [HB2.out]
        exact ⟨_, _, rfl, ht.below (hb _), hd.below (hb _)⟩
    · have hd := T.drop 2 (by omega)
      clear T
      go_wp2_with fail
      go_region
      all_goals
        go_wp2_with fail
        go_ret
        refine ⟨_, rfl, ?_, hb _⟩
        rw [HB2.out]
        exact ⟨_, _, rfl, ht.below (hb _), hd.below (hb _)⟩
end Go.Proofs.YtkchakcebdenjaaGreat
