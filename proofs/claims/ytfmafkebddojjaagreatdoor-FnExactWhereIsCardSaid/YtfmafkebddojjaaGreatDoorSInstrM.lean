/-
  Texts that stood by themselves, laid into one.
-/
import Derived.Test.YtfmafkebddojjaaGreatDoorBsM
import Derived.Test.YtfmafkebddojjaaGreatDoorInM
/-
  Helpers: a definition as 3 cells, a slice of these read as a list, and the contracts of the laws' helpers on them. No condition.
-/
set_option maxRecDepth 100000
set_option maxHeartbeats 4000000
namespace Go.Proofs.YtfmafkebddojjaaGreatDoor
open Go.RowKit
structure Df where
 s : ByteArray
 p : Int
 m : Int
def Df.cs (x : Df) : List Value := [.string x.s, .int .i64 x.p, .int .i64 x.m]
def dfcs (xs : List Df) : List Value := xs.flatMap Df.cs
theorem ZdI (x : Df) (xs : List Df) : dfcs (x :: xs) = x.cs ++ dfcs xs := rfl
theorem Zdg (xs : List Df) : (dfcs xs).length = xs.length * 3 := by
 induction xs with
 | nil => rfl
 | cons x xs ih => rw [ZdI, List.length_append, ih, List.length_cons]; simp [Df.cs]; omega
theorem ZgY (xs : List Df) (i : Nat) (x : Df) (h : xs[i]? = some x) (j : Nat) (hj : j < 3) : (dfcs xs)[i * 3 + j]? = x.cs[j]? := by
 induction xs generalizing i with
 | nil => simp at h
 | cons y ys ih =>
  rw [ZdI]
  cases i with
  | zero =>
   simp at h; subst h
   rw [Nat.zero_mul, Nat.zero_add, List.getElem?_append_left (by simpa [Df.cs] using hj)]
  | succ i =>
   rw [List.getElem?_append_right (by simp [Df.cs]; omega)]
   rw [show (i + 1) * 3 + j - y.cs.length = i * 3 + j by simp [Df.cs]; omega]
   exact ih i (by simpa using h)
theorem ZeQ (xs : List Df) (i : Nat) (x x' : Df) (h : xs[i]? = some x) (j : Nat) (hj : j < 3) (u : Value) (e : x.cs.set j u = x'.cs) : (dfcs xs).set (i * 3 + j) u = dfcs (xs.set i x') := by
 induction xs generalizing i with
 | nil => simp at h
 | cons y ys ih =>
  rw [ZdI]
  cases i with
  | zero =>
   simp at h; subst h
   rw [Nat.zero_mul, Nat.zero_add, List.set_append_left _ _ (by simpa [Df.cs] using hj), e]
   rfl
  | succ i =>
   rw [List.set_append_right _ _ (by simp [Df.cs]; omega)]
   rw [show (i + 1) * 3 + j - y.cs.length = i * 3 + j by simp [Df.cs]; omega, ih i (by simpa using h)]
   rfl
theorem ZiM (xs : List Df) (i : Nat) (x x' : Df) (h : xs[i]? = some x) (u : Value) (e : x.cs.set 0 u = x'.cs) : (dfcs xs).set (i * 3) u = dfcs (xs.set i x') :=
 ZeQ xs i x x' h 0 (by omega) u e
theorem Df.one (x : Df) : ∀ u ∈ x.cs, u.oneCell' = true := by
 intro u hu
 simp only [Df.cs, List.mem_cons, List.not_mem_nil, or_false] at hu
 rcases hu with rfl | rfl | rfl <;> rfl
def DfAt (w : World) (g o : Nat) (x : Df) : Prop :=
 w.cell? ⟨g, o, none⟩ = some (.string x.s) /\ w.cell? ⟨g, o + 1, none⟩ = some (.int .i64 x.p) /\ w.cell? ⟨g, o + 2, none⟩ = some (.int .i64 x.m)
theorem DfAt.below {w w' : World} {g o B : Nat} {x : Df} (h : DfAt w g o x) (hb : Below B w w') (hg : g < B) : DfAt w' g o x :=
 ⟨(hb.cell (p := ⟨g, o, none⟩) hg).trans h.1, (hb.cell (p := ⟨g, o + 1, none⟩) hg).trans h.2.1, (hb.cell (p := ⟨g, o + 2, none⟩) hg).trans h.2.2⟩
def DfRow (w : World) (v : Value) (xs : List Df) : Prop :=
 ∃ ao cap, v = .slice ao xs.length cap /\ (xs.length <= cap /\ (ao = none -> cap = 0)) /\ xs.length <= 9223372036854775807 /\ (∀ x ∈ xs, x.s.size <= maxLen) /\
  (xs ≠ [] -> ∃ g o, ao = some ⟨g, o, none⟩ /\ g < w.heap.size /\ ∀ i x, xs[i]? = some x -> DfAt w g (o + i * 3) x)
theorem DfRow.small {w : World} {v : Value} {xs : List Df} (R : DfRow w v xs) : ∃ ao cap, v = .slice ao xs.length cap := by
 obtain ⟨ao, cap, rfl, _⟩ := R
 exact ⟨ao, cap, rfl⟩
theorem DfRow.below {w w' : World} {v : Value} {xs : List Df} (h : DfRow w v xs) (hb : Below w.heap.size w w') : DfRow w' v xs := by
 obtain ⟨ao, cap, rfl, hc, hm, hz, hcell⟩ := h
 refine ⟨ao, cap, rfl, hc, hm, hz, fun hne => ?_⟩
 obtain ⟨g, o, rfl, hg, hcell⟩ := hcell hne
 exact ⟨g, o, rfl, Nat.lt_of_lt_of_le hg hb.size, fun i x hi => (hcell i x hi).below hb hg⟩
theorem DfRow.of_own {w : World} {base : Nat} {v : Value} {xs : List Df} (h : w.ownsRow base 177 3 v xs.length (dfcs xs)) (hm : xs.length <= 9223372036854775807) (hz : ∀ x ∈ xs, x.s.size <= maxLen) : DfRow w v xs := by
 rcases h.2 with ⟨rfl, h0⟩ | ⟨g, cap, cur, rfl, hb, hg, hnc, hcm, hcs, htake⟩
 ·have : xs = [] := List.eq_nil_of_length_eq_zero h0
  subst this
  exact ⟨none, 0, rfl, by simp, by simp, by simp, fun h => absurd rfl h⟩
 ·refine ⟨_, cap, rfl, ⟨hnc, fun h => by cases h⟩, hm, hz, fun _ => ⟨g, 0, rfl, (bl hg), fun i x hi => ?_⟩⟩
  have hl : i < xs.length := (List.getElem?_eq_some_iff.1 hi).1
  have e : ∀ j, j < 3 -> w.cell? ⟨g, 0 + i * 3 + j, none⟩ = x.cs[j]? := fun j hj => by
   have := h.cellAt (i * 3 + j) (by omega)
   rw [Nat.zero_add, this, ZgY xs i x hi j hj]
  exact ⟨e 0 (by omega), e 1 (by omega), e 2 (by omega)⟩
theorem Zmw : (Tryz.prog.info? 177).map (fun i => (i.zero, i.size, i.bytes)) = some (some (.agg #[.string ByteArray.empty, .int .i64 0, .int .i64 0]), 3, 32) := by kernel_rfl
theorem Zmp : (Tryz.prog.info? 177).map (·.size) = some 3 := by kernel_rfl
theorem ZdK {ops : Array Oper} {rest : List Oper} {op : Oper} {a : Act} {w : World} {Q : Exit -> Act -> World -> Prop} (hgd : op.guard = none) (x y : Operand) (ho : op.op = .store 177 x y)
  (base g i cap : Nat) (xs : List Df) (nd : Df) (hx : a.eval x = .pointer (some ⟨g, i * 3, none⟩)) (hy : a.eval y = .agg #[.string nd.s, .int .i64 nd.p, .int .i64 nd.m])
  (hi : i < xs.length) (hown : w.ownsRow base 177 3 (.slice (some ⟨g, 0, none⟩) xs.length cap) xs.length (dfcs xs))
  (h : ∀ w2 : World, w2.ownsRow base 177 3 (.slice (some ⟨g, 0, none⟩) xs.length cap) xs.length (dfcs (xs.set i nd)) -> w.grownBy w2 (some g) -> wpList Tryz.prog ops Q rest (a.put op.dst undef) w2) : wpList Tryz.prog ops Q (op :: rest) a w := by
 have ht : w.there g (i * 3) 3 := fun j hj => by
  have := hown.cellAt (i * 3 + j) (by omega)
  refine ⟨?_, hown.frozenAt _⟩
  rw [this, List.getElem?_eq_getElem (by rw [Zdg]; omega)]
  rfl
 refine wpList_store_mid hgd 177 x y ho g (i * 3) _ hx hy ht Zmp (all_oneCell_toArray nd.one) ?_
 have e0 : xs[i]? = some xs[i] := List.getElem?_eq_getElem hi
 have get : ∀ y : Df, (xs.set i y)[i]? = some y := fun y => by simp [hi]
 have s0 := hown.stored (i * 3) (.string nd.s)
 rw [ZiM xs i xs[i] ⟨nd.s, xs[i].p, xs[i].m⟩ e0 _ rfl] at s0
 have s1 := s0.1.stored (i * 3 + 1) (.int .i64 nd.p)
 rw [ZeQ (xs.set i ⟨nd.s, xs[i].p, xs[i].m⟩) i ⟨nd.s, xs[i].p, xs[i].m⟩ ⟨nd.s, nd.p, xs[i].m⟩ (get _) 1 (by omega) (.int .i64 nd.p) rfl, List.set_set] at s1
 have s2 := s1.1.stored (i * 3 + 2) (.int .i64 nd.m)
 rw [ZeQ (xs.set i ⟨nd.s, nd.p, xs[i].m⟩) i ⟨nd.s, nd.p, xs[i].m⟩ ⟨nd.s, nd.p, nd.m⟩ (get _) 2 (by omega) (.int .i64 nd.m) rfl, List.set_set] at s2
 exact h _ s2.1 ((s0.2.trans s1.2).trans s2.2)
theorem ZjX (x : Df) (w : World) :
  Calls Tryz.prog 133 #[.agg #[.string x.s, .int .i64 x.p, .int .i64 x.m]] w fun e w' => e = .returned (.agg #[.string x.s, .int .i64 x.p, .int .i64 x.m]) /\ Below w.heap.size w w' := by
 go_enter Tryz.func133, Tryz.ntmps133
 go_wp2
 exact bodyPost_ret (results_cell_row rfl _ _ (w.heap.size + 1) 177 _ (0, 0) _ rfl ((heap_alloc_old _ _ (by simp)).trans (heap_alloc2_new _ _ _)) Tryz.underlying177 rfl Zmp) rfl
  ⟨rfl, (((Below.refl _ _).alloc (Nat.le_refl _) _).alloc (by simp) _).alloc (by simp; omega) _⟩
theorem Zko (x : Df) (l : Int) (w : World) (hs : x.s.size <= maxLen) (hl : 0 <= l) (hl2 : l <= 1048576) :
  Calls Tryz.prog 121 #[.agg #[.string x.s, .int .i64 x.p, .int .i64 x.m], .int .i64 l] w fun e w' => e = .returned (.int .i64 (less l x.s.size)) /\ Below w.heap.size w w' := by
 unfold maxLen at hs
 go_enter Tryz.func121, Tryz.ntmps121
 by_cases h : l < x.s.size
 ·have HL : Hid (less l x.s.size = -1) := by unfold Hid less; rw [if_pos h]
  go_wp2
  go_ret
  exact ⟨by rw [HL.out]; rfl, (Below.refl _ _).alloc (Nat.le_refl _) _⟩
 ·have HL : Hid (less l x.s.size = l - x.s.size) := by unfold Hid less; rw [if_neg h]
  go_wp2
  go_ret
  exact ⟨by rw [HL.out]; rfl, (Below.refl _ _).alloc (Nat.le_refl _) _⟩
theorem ZjY (x : Df) (w : World) :
  Calls Tryz.prog 139 #[.agg #[.string x.s, .int .i64 x.p, .int .i64 x.m], .agg #[.string x.s, .int .i64 x.p, .int .i64 x.m]] w fun e w' => e = .returned (.bool true) /\ Below w.heap.size w w' := by
 go_enter Tryz.func139, Tryz.ntmps139
 go_wp2
 go_ret
 exact ⟨rfl, ((Below.refl _ _).alloc (Nat.le_refl _) _).alloc (by simp) _⟩
def Ze3 : Df := ⟨ByteArray.empty, 0, 0⟩
def ZaL (xs : List Df) (j : Nat) : List Df := xs.take j ++ List.replicate (xs.length - j) Ze3
theorem Zdr (xs : List Df) (j : Nat) (h : j <= xs.length) : (ZaL xs j).length = xs.length := by simp [ZaL]; omega
theorem Zeo (xs : List Df) : ZaL xs xs.length = xs := by simp [ZaL]
theorem ZhZ (n : Nat) : dfcs (List.replicate n Ze3) = (madeCells #[Value.string ByteArray.empty, .int .i64 0, .int .i64 0] (n * 3)).toList := by
 apply List.ext_getElem?
 intro j
 by_cases hj : j < n * 3
 ·have hq : j / 3 < n := by omega
  rw [show j = j / 3 * 3 + j % 3 by omega, ZgY _ (j / 3) Ze3 (by simp [hq]) (j % 3) (by omega)]
  rw [show j / 3 * 3 + j % 3 = j by omega]
  have h5 : j % 3 = 0 \/ j % 3 = 1 \/ j % 3 = 2 := by omega
  rcases h5 with h5 | h5 | h5 <;> simp [madeCells, hj, h5, Ze3, Df.cs]
 ·rw [List.getElem?_eq_none (by rw [Zdg, List.length_replicate]; omega), List.getElem?_eq_none (by simp [madeCells]; omega)]
theorem ZeP (xs : List Df) : dfcs (ZaL xs 0) = (madeCells #[Value.string ByteArray.empty, .int .i64 0, .int .i64 0] (xs.length * 3)).toList := by
 rw [<- ZhZ]; simp [ZaL]
theorem ZfD (xs : List Df) (j : Nat) (h : j < xs.length) : (ZaL xs j).set j xs[j] = ZaL xs (j + 1) := by
 unfold ZaL
 rw [show xs.length - j = xs.length - (j + 1) + 1 by omega, List.replicate_succ, List.take_succ_eq_append_getElem h]
 rw [List.set_append_right _ _ (by simp; omega)]
 have e : j - (List.take j xs).length = 0 := by simp; omega
 rw [e, List.set_cons_zero, List.append_assoc]
 rfl
theorem ZiN (v : Value) (xs : List Df) (w : World) (R : DfRow w v xs) (hm : xs.length <= 2097152) :
  Calls Tryz.prog 81 #[v] w fun e w' => ∃ v', e = .returned v' /\ w'.ownsRow w.heap.size 177 3 v' xs.length (dfcs xs) /\ Below w.heap.size w w' := by
 obtain ⟨ao, cap, rfl, hcap, _, hz, hcell⟩ := R
 obtain ⟨i0, hi, hz0, hz1, hz2⟩ := info_parts Zmw
 have hbytes : i0.bytes * xs.length <= 281474976710656 := by rw [hz2]; omega
 have hmax : xs.length <= maxLen := by unfold maxLen; omega
 go_enter Tryz.func81, Tryz.ntmps81
 go_wp2_with (at_make; refine wpList_make_full _ rfl _ _ 42 rfl w.heap.size 177 i0 _ 3 Tryz.underlying42 hi hz0 hz1 _ _ _ _ xs.length rfl rfl rfl rfl hbytes hmax (Nat.le_refl _) ?_)
 intro w1 hown hgrow
 have hbel : Below w.heap.size w w1 := (Below.refl _ _).grown hgrow (Nat.le_refl _) (by intro k hk; cases hk)
 clear hgrow
 go_wp2
 go_loopw [4] (fun i wr => ∃ j : Nat, j <= xs.length /\ i = .int .i64 j /\ wr.ownsRow w.heap.size 177 3 (.slice (some ⟨w.heap.size, 0, none⟩) xs.length xs.length) xs.length (dfcs (ZaL xs j)) /\ Below w.heap.size w wr) (fun i _ => xs.length - (intOf i).toNat)
 case atStart => exact ⟨0, by omega, rfl, by rw [ZeP]; exact hown, hbel⟩
 case round =>
  clear hown hbel hbytes hmax
  obtain ⟨j, hj, rfl, hown, hbel⟩ := hrel
  by_cases hlt : j < xs.length
  ·obtain ⟨g, o, rfl, hg, hcell⟩ := hcell (by intro e; subst e; simp at hlt)
   obtain ⟨c0, c1, c2⟩ := (hcell j xs[j] (by simp [hlt])).below hbel hg
   have HC := Zdr xs j hj
   clear hcell
   go_wp2_with fail
   refine (ZjX xs[j] _).mono ?_
   rintro e w2 ⟨rfl, hb2⟩
   have hown2 : w2.ownsRow w.heap.size 177 3 (.slice (some ⟨w.heap.size, 0, none⟩) (ZaL xs j).length xs.length) (ZaL xs j).length (dfcs (ZaL xs j)) := by
    rw [HC]; exact Zad hown hb2
   have hB2 := hbel.trans (hb2.mono hbel.size)
   clear c0 c1 c2 hown hb2 hbel
   go_wp2_with (refine ZdK rfl _ _ rfl w.heap.size w.heap.size j xs.length (ZaL xs j) xs[j] rfl rfl (by omega) hown2 ?_)
   intro w3 hown3 hg3
   rw [ZfD xs j hlt] at hown3
   have hB3 : Below w.heap.size w w3 := hB2.grown hg3 hB2.size (fun k hk => by simp at hk; omega)
   clear hown2 hg3
   go_wp2
   go_roundw
   case rel => exact ⟨j + 1, by omega, by go_num, hown3, hB3⟩
   case measure => simp [intOf]; omega
  ·go_wp2
   go_ret
   have : j = xs.length := by omega
   subst this
   rw [Zeo] at hown
   exact ⟨_, rfl, hown, hbel⟩
theorem Zjv (v : Value) (xs : List Df) (l : Int) (w : World) (R : DfRow w v xs) (hl0 : 0 <= l) (hl1 : l <= 1048576) :
  Calls Tryz.prog 68 #[v, .int .i64 l] w fun e w' => ∃ r : Int, e = .returned (.int .i64 r) /\ -1 <= r /\ r <= 1048576 /\ (0 <= r -> xs.length <= 1048576 /\ ∀ x ∈ xs, x.s.size <= 1048576) /\ Below w.heap.size w w' := by
 obtain ⟨ao, cap, rfl, hcap, hm, hz, hcell⟩ := R
 by_cases hlen : (xs.length : Int) <= l
 ·go_enter Tryz.func68, Tryz.ntmps68
  go_wp2
  go_loopw [1, 5] (fun l i wr => ∃ (k : Nat) (r : Int), k <= xs.length /\ i = .int .i64 k /\ l = .int .i64 r /\ 0 <= r /\ r <= 1048576 /\ Hid (∀ j x, xs[j]? = some x -> j < k -> x.s.size <= 1048576) /\ Below w.heap.size w wr) (fun _ i _ => xs.length - (intOf i).toNat)
  case atStart => exact ⟨0, _, by omega, rfl, rfl, by omega, by omega, fun j x _ h => by omega, Below.refl _ _⟩
  case round =>
   obtain ⟨k, r, hk, rfl, rfl, hr0, hr1, HA, hb⟩ := hrel
   by_cases hlt : k < xs.length
   ·obtain ⟨g, o, rfl, hg, hcell⟩ := hcell (by intro e; subst e; simp at hlt)
    obtain ⟨x, hx⟩ : ∃ x, xs[k]? = some x := ⟨xs[k], by simp [hlt]⟩
    obtain ⟨c0, c1, c2⟩ := (hcell k x hx).below hb hg
    have hxs := hz x (List.mem_of_getElem? hx)
    have HX : Hid (xs[k]? = some x) := hx
    clear hcell hx
    go_wp2_with fail
    refine (Zko x _ _ hxs hr0 hr1).mono ?_
    rintro e w2 ⟨rfl, hb2⟩
    have hB2 := hb.trans (hb2.mono hb.size)
    clear c0 c1 c2 hb2
    by_cases hl : r < x.s.size
    ·rw [less, if_pos hl]
     go_wp2
     go_ret
     exact ⟨-1, rfl, by omega, by omega, fun h => by omega, hB2⟩
    ·rw [less, if_neg hl]
     go_wp2
     go_roundw
     case rel =>
      refine ⟨k + 1, _, by omega, by go_num, rfl, by omega, by omega, fun j y hy hj => ?_, hB2⟩
      by_cases e : j = k
      ·subst e
       rw [HX.out] at hy
       cases hy
       omega
      ·exact HA.out j y hy (by omega)
     case measure => simp [intOf]; omega
   ·go_wp2
    go_ret
    refine ⟨r, rfl, by omega, by omega, fun _ => ⟨by omega, fun x hx => ?_⟩, hb⟩
    obtain ⟨j, hj, e⟩ := List.getElem_of_mem hx
    exact HA.out j x (by rw [<- e]; simp [hj]) (by omega)
 ·go_enter Tryz.func68, Tryz.ntmps68
  go_wp2
  go_ret
  exact ⟨-1, rfl, by omega, by omega, fun h => by omega, Below.refl _ _⟩
theorem Zi2 (va vb : Value) (xs : List Df) (w : World) (Ra : DfRow w va xs) (Rb : DfRow w vb xs) :
  Calls Tryz.prog 90 #[va, vb] w fun e w' => e = .returned (.bool true) /\ Below w.heap.size w w' := by
 obtain ⟨aa, ca, rfl, hca, hm, hz, hcella⟩ := Ra
 obtain ⟨ab, cb, rfl, hcb, _, _, hcellb⟩ := Rb
 have hn : ((xs.length : Int) != (xs.length : Int)) = false := by simp
 go_enter Tryz.func90, Tryz.ntmps90
 go_wp2
 go_loopw [5] (fun i wr => ∃ k : Nat, k <= xs.length /\ i = .int .i64 k /\ Below w.heap.size w wr) (fun i _ => xs.length - (intOf i).toNat)
 case atStart => exact ⟨0, by omega, rfl, Below.refl _ _⟩
 case round =>
  obtain ⟨k, hk, rfl, hb⟩ := hrel
  by_cases hlt : k < xs.length
  ·obtain ⟨ga, oa, rfl, hga, hcella⟩ := hcella (by intro e; subst e; simp at hlt)
   obtain ⟨gb, ob, rfl, hgb, hcellb⟩ := hcellb (by intro e; subst e; simp at hlt)
   obtain ⟨x, hx⟩ : ∃ x, xs[k]? = some x := ⟨xs[k], by simp [hlt]⟩
   obtain ⟨c0, c1, c2⟩ := (hcella k x hx).below hb hga
   obtain ⟨d0, d1, d2⟩ := (hcellb k x hx).below hb hgb
   clear hcella hcellb hx
   go_wp2_with fail
   go_region_with (go_at_call 139; refine (ZjY x _).mono ?_; rintro e w2 ⟨rfl, hb2⟩)
   all_goals
    have hB2 : Below w.heap.size w w2 := hb.drew.trans (hb2.mono hb.size)
    clear c0 c1 c2 d0 d1 d2 hb2
    go_wp2
    go_roundw
    case rel => exact ⟨k + 1, by omega, by go_num, hB2⟩
    case measure => simp [intOf]; omega
  ·go_wp2
   go_ret
   exact ⟨rfl, hb⟩
theorem NRow.small {w : World} {v : Value} {xs : List Nd} (R : NRow w v xs) : ∃ ao cap, v = .slice ao xs.length cap := by
 obtain ⟨ao, cap, rfl, _⟩ := R
 exact ⟨ao, cap, rfl⟩
theorem NRow.sz {w : World} {v : Value} {xs : List Nd} (R : NRow w v xs) : ∀ x ∈ xs, x.s.size <= maxLen := by obtain ⟨_, _, _, _, _, hz, _⟩ := R; exact hz
theorem InRow.sz {w : World} {v : Value} {xs : List In} (R : InRow w v xs) : ∀ x ∈ xs, x.s.size <= maxLen := by obtain ⟨_, _, _, _, _, hz, _⟩ := R; exact hz
theorem DfRow.sz {w : World} {v : Value} {xs : List Df} (R : DfRow w v xs) : ∀ x ∈ xs, x.s.size <= maxLen := by obtain ⟨_, _, _, _, _, hz, _⟩ := R; exact hz
theorem Zib (v1 v2 v3 : Value) (ns : List Nd) (is : List In) (ds : List Df) (w : World) (R1 : NRow w v1 ns) (R2 : InRow w v2 is) (R3 : DfRow w v3 ds) :
  Calls Tryz.prog 28 #[.agg #[v1, v2, v3], .int .i64 1048576] w fun e w' => ∃ r : Int, e = .returned (.int .i64 r) /\ -1 <= r /\ r <= 1048576 /\ (0 <= r -> ns.length <= 1048576 /\ is.length <= 1048576 /\ ds.length <= 1048576) /\ Below w.heap.size w w' := by
 obtain ⟨a1, c1, rfl⟩ := R1.small
 obtain ⟨a2, c2, rfl⟩ := R2.small
 obtain ⟨a3, c3, rfl⟩ := R3.small
 go_enter Tryz.func28, Tryz.ntmps28
 go_wp2_with fail
 have hB0 : Below w.heap.size w (w.alloc (Obj.cells #[.slice a1 ns.length c1, .slice a2 is.length c2, .slice a3 ds.length c3] 28)) := (Below.refl _ _).alloc (Nat.le_refl _) _
 refine (ZhP _ ns _ (R1.below hB0)).mono ?_
 rintro e w1 ⟨r1, rfl, h0, h1, h2, hb1⟩
 have hx1 : w1.heap[w.heap.size]? = some (.cells #[.slice a1 ns.length c1, .slice a2 is.length c2, .slice a3 ds.length c3] 28 (0, 0)) := (hb1.block _ (by simp)).trans (heap_alloc_new _ _)
 have hB1 := hB0.trans (hb1.mono hB0.size)
 have hc1 : w1.cell? ⟨w.heap.size, 0 + 1, none⟩ = some (.slice a2 is.length c2) := by rw [cell_of_row w1 _ 1 _ _ _ hx1]; rfl
 have hsz1 := (bl hx1)
 clear hB0 hb1
 by_cases hr : r1 < 0
 ·have HR : Hid (r1 = -1) := by unfold Hid; omega
  go_wp2
  go_ret
  exact ⟨-1, rfl, by omega, by omega, fun h => by omega, hB1⟩
 ·have h2 := h2 (by omega)
  go_wp2_with fail
  refine (Zil _ is r1 _ (R2.below hB1) (by omega) (by omega)).mono ?_
  rintro e w2 ⟨r2, rfl, k0, k1, k2, hb2⟩
  have hx2 := (hb2.block _ hsz1).trans hx1
  have hB2 := hB1.trans (hb2.mono hB1.size)
  have hc2 : w2.cell? ⟨w.heap.size, 0 + 2, none⟩ = some (.slice a3 ds.length c3) := by rw [cell_of_row w2 _ 2 _ _ _ hx2]; rfl
  clear hc1 hx1 hB1 hb2
  by_cases hr2 : r2 < 0
  ·have HR : Hid (r2 = -1) := by unfold Hid; omega
   go_wp2
   go_ret
   exact ⟨-1, rfl, by omega, by omega, fun h => by omega, hB2⟩
  ·have k2 := k2 (by omega)
   go_wp2_with fail
   refine (Zjv _ ds r2 _ (R3.below hB2) (by omega) (by omega)).mono ?_
   rintro e w3 ⟨r3, rfl, l0, l1, l2, hb3⟩
   have hB3 := hB2.trans (hb3.mono hB2.size)
   clear hc2 hx2 hb3 hB2
   by_cases hr3 : r3 < 0
   ·have HR : Hid (r3 = -1) := by unfold Hid; omega
    go_wp2
    go_ret
    exact ⟨-1, rfl, by omega, by omega, fun h => by omega, hB3⟩
   ·have l2 := l2 (by omega)
    go_wp2
    go_ret
    exact ⟨r3, rfl, by omega, by omega, fun _ => ⟨h2.1, k2.1, l2.1⟩, hB3⟩
theorem Zhp (v1 v2 v3 u1 u2 u3 : Value) (ns : List Nd) (is : List In) (ds : List Df) (w : World) (R1 : NRow w v1 ns) (R2 : InRow w v2 is) (R3 : DfRow w v3 ds) (S1 : NRow w u1 ns) (S2 : InRow w u2 is) (S3 : DfRow w u3 ds) :
  Calls Tryz.prog 43 #[.agg #[v1, v2, v3], .agg #[u1, u2, u3]] w fun e w' => e = .returned (.bool true) /\ Below w.heap.size w w' := by
 obtain ⟨a1, c1, rfl⟩ := R1.small
 obtain ⟨a2, c2, rfl⟩ := R2.small
 obtain ⟨a3, c3, rfl⟩ := R3.small
 obtain ⟨b1, d1, rfl⟩ := S1.small
 obtain ⟨b2, d2, rfl⟩ := S2.small
 obtain ⟨b3, d3, rfl⟩ := S3.small
 go_enter Tryz.func43, Tryz.ntmps43
 go_wp2_with fail
 have hB0 : Below w.heap.size w ((w.alloc (Obj.cells #[.slice a1 ns.length c1, .slice a2 is.length c2, .slice a3 ds.length c3] 44)).alloc (Obj.cells #[.slice b1 ns.length d1, .slice b2 is.length d2, .slice b3 ds.length d3] 44)) := ((Below.refl _ _).alloc (Nat.le_refl _) _).alloc (by simp) _
 refine (ZdY _ _ ns _ (R1.below hB0) (S1.below hB0)).mono ?_
 rintro e w1 ⟨rfl, hb1⟩
 have hx1 : w1.heap[w.heap.size]? = some (.cells #[.slice a1 ns.length c1, .slice a2 is.length c2, .slice a3 ds.length c3] 44 (0, 0)) := (hb1.block _ (by simp; omega)).trans ((heap_alloc_old _ _ (by simp)).trans (heap_alloc_new _ _))
 have hy1 : w1.heap[w.heap.size + 1]? = some (.cells #[.slice b1 ns.length d1, .slice b2 is.length d2, .slice b3 ds.length d3] 44 (0, 0)) := (hb1.block _ (by simp)).trans (heap_alloc2_new _ _ _)
 have hB1 := hB0.trans (hb1.mono hB0.size)
 have hc1 : w1.cell? ⟨w.heap.size, 0 + 1, none⟩ = some (.slice a2 is.length c2) := by rw [cell_of_row w1 _ 1 _ _ _ hx1]; rfl
 have hd1 : w1.cell? ⟨w.heap.size + 1, 0 + 1, none⟩ = some (.slice b2 is.length d2) := by rw [cell_of_row w1 _ 1 _ _ _ hy1]; rfl
 have hsx := (bl hx1)
 have hsy := (bl hy1)
 clear hB0 hb1
 go_wp2_with fail
 refine (Zih _ _ is _ (R2.below hB1) (S2.below hB1)).mono ?_
 rintro e w2 ⟨rfl, hb2⟩
 have hx2 := (hb2.block _ hsx).trans hx1
 have hy2 := (hb2.block _ hsy).trans hy1
 have hB2 := hB1.trans (hb2.mono hB1.size)
 have hc2 : w2.cell? ⟨w.heap.size, 0 + 2, none⟩ = some (.slice a3 ds.length c3) := by rw [cell_of_row w2 _ 2 _ _ _ hx2]; rfl
 have hd2 : w2.cell? ⟨w.heap.size + 1, 0 + 2, none⟩ = some (.slice b3 ds.length d3) := by rw [cell_of_row w2 _ 2 _ _ _ hy2]; rfl
 clear hc1 hd1 hx1 hy1 hB1 hb2
 go_wp2_with fail
 refine (Zi2 _ _ ds _ (R3.below hB2) (S3.below hB2)).mono ?_
 rintro e w3 ⟨rfl, hb3⟩
 have hB3 := hB2.trans (hb3.mono hB2.size)
 clear hc2 hd2 hx2 hy2 hb3 hB2
 go_wp2
 go_ret
 exact ⟨rfl, hB3⟩
theorem ZmB : (Tryz.prog.info? 44).map (·.size) = some 3 := by kernel_rfl
theorem Zho (v1 v2 v3 : Value) (ns : List Nd) (is : List In) (ds : List Df) (w : World) (R1 : NRow w v1 ns) (R2 : InRow w v2 is) (R3 : DfRow w v3 ds) (h1 : ns.length <= 2097152) (h2 : is.length <= 2097152) (h3 : ds.length <= 2097152) :
  Calls Tryz.prog 35 #[.agg #[v1, v2, v3]] w fun e w' => ∃ u1 u2 u3, e = .returned (.agg #[u1, u2, u3]) /\ w'.ownsRow w.heap.size 210 5 u1 ns.length (ncs ns) /\ w'.ownsRow w.heap.size 183 4 u2 is.length (incs is) /\ w'.ownsRow w.heap.size 177 3 u3 ds.length (dfcs ds) /\ Below w.heap.size w w' := by
 have hz1 := R1.sz
 have hz2 := R2.sz
 have hz3 := R3.sz
 obtain ⟨a1, c1, rfl⟩ := R1.small
 obtain ⟨a2, c2, rfl⟩ := R2.small
 obtain ⟨a3, c3, rfl⟩ := R3.small
 go_enter Tryz.func35, Tryz.ntmps35
 go_wp2_with fail
 have hB0 : Below w.heap.size w (((w.alloc (Obj.cells #[.slice a1 ns.length c1, .slice a2 is.length c2, .slice a3 ds.length c3] 28)).alloc (Obj.cells #[.slice none 0 0, .slice none 0 0, .slice none 0 0] 44)).alloc (Obj.cells #[.slice none 0 0, .slice none 0 0, .slice none 0 0] 44)) :=
  (((Below.refl _ _).alloc (Nat.le_refl _) _).alloc (by simp) _).alloc (by simp; omega) _
 refine (Zd4 _ ns _ (R1.below hB0) h1).mono ?_
 rintro e w1 ⟨u1, rfl, ho1, hb1⟩
 obtain ⟨b1, d1, rfl⟩ := Zae ho1
 have S1 := NRow.of_own ho1 (by omega) hz1
 have hx1 : w1.heap[w.heap.size]? = some (.cells #[.slice a1 ns.length c1, .slice a2 is.length c2, .slice a3 ds.length c3] 28 (0, 0)) := (hb1.block _ (by simp; omega)).trans ((heap_alloc_old _ _ (by simp; omega)).trans ((heap_alloc_old _ _ (by simp)).trans (heap_alloc_new _ _)))
 have hy1 : w1.heap[w.heap.size + 1]? = some (.cells #[.slice none 0 0, .slice none 0 0, .slice none 0 0] 44 (0, 0)) := (hb1.block _ (by simp)).trans ((heap_alloc_old _ _ (by simp)).trans (heap_alloc2_new _ _ _))
 have hv1 : w1.heap[w.heap.size + 1 + 1]? = some (.cells #[.slice none 0 0, .slice none 0 0, .slice none 0 0] 44 (0, 0)) := (hb1.block _ (by simp)).trans (Zbu _ _ _ _)
 have hB1 := hB0.trans (hb1.mono hB0.size)
 have ho1' : w1.ownsRow (w.heap.size + 3) 210 5 (.slice b1 ns.length d1) ns.length (ncs ns) := by simpa using ho1
 have cv1 : w1.cell? ⟨w.heap.size + 1 + 1, 0, none⟩ = some (.slice none 0 0) := by rw [cell_of_row w1 _ 0 _ _ _ hv1]; rfl
 have fv1 : w1.frozen? ⟨w.heap.size + 1 + 1, 0, none⟩ = false := frozen_of_row w1 _ 0 _ _ hv1
 have cx1 : w1.cell? ⟨w.heap.size, 0 + 1, none⟩ = some (.slice a2 is.length c2) := by rw [cell_of_row w1 _ 1 _ _ _ hx1]; rfl
 have hsv := (bl hv1)
 clear hB0 hb1 ho1
 go_wp2_with fail
 have hB1' : Below w.heap.size w (w1.setCell ⟨w.heap.size + 1 + 1, 0, none⟩ (.slice b1 ns.length d1)) := hB1.setCell (p := ⟨w.heap.size + 1 + 1, 0, none⟩) (by simp; omega) _
 refine (ZiD _ is _ (R2.below hB1') h2).mono ?_
 rintro e w2 ⟨u2, rfl, ho2, hb2⟩
 obtain ⟨b2, d2, rfl⟩ := Zae ho2
 have ho1'' := Zad (ownsRow_setCell_below ho1' (a := ⟨w.heap.size + 1 + 1, 0, none⟩) (by simp) (.slice b1 ns.length d1)) hb2
 have hx2 : w2.heap[w.heap.size]? = some (.cells #[.slice a1 ns.length c1, .slice a2 is.length c2, .slice a3 ds.length c3] 28 (0, 0)) := (hb2.block _ (by simp; omega)).trans ((heap_setCell_other w1 ⟨w.heap.size + 1 + 1, 0, none⟩ w.heap.size _ (by simp; omega)).trans hx1)
 have hy2 : w2.heap[w.heap.size + 1]? = some (.cells #[.slice none 0 0, .slice none 0 0, .slice none 0 0] 44 (0, 0)) := (hb2.block _ (by simp; omega)).trans ((heap_setCell_other w1 ⟨w.heap.size + 1 + 1, 0, none⟩ (w.heap.size + 1) _ (by simp)).trans hy1)
 have hv2 : w2.heap[w.heap.size + 1 + 1]? = some (.cells #[.slice b1 ns.length d1, .slice none 0 0, .slice none 0 0] 44 (0, 0)) := (hb2.block _ (by simp; omega)).trans (heap_setCell_same w1 (w.heap.size + 1 + 1) 0 _ _ (.slice b1 ns.length d1) hv1)
 have hB2 := hB1'.trans (hb2.mono hB1'.size)
 have ho2' : w2.ownsRow (w.heap.size + 3) 183 4 (.slice b2 is.length d2) is.length (incs is) := Zaf ho2 (by simp; omega)
 have cv2 : w2.cell? ⟨w.heap.size + 1 + 1, 0 + 1, none⟩ = some (.slice none 0 0) := by rw [cell_of_row w2 _ 1 _ _ _ hv2]; rfl
 have fv2 : w2.frozen? ⟨w.heap.size + 1 + 1, 0 + 1, none⟩ = false := frozen_of_row w2 _ 1 _ _ hv2
 have cx2 : w2.cell? ⟨w.heap.size, 0 + 2, none⟩ = some (.slice a3 ds.length c3) := by rw [cell_of_row w2 _ 2 _ _ _ hx2]; rfl
 have hsv2 := (bl hv2)
 clear hB1 hB1' hb2 ho1' ho2 hx1 hy1 hv1 cv1 fv1 cx1 hsv S1
 go_wp2_with fail
 have hB2' : Below w.heap.size w (w2.setCell ⟨w.heap.size + 1 + 1, 1, none⟩ (.slice b2 is.length d2)) := hB2.setCell (p := ⟨w.heap.size + 1 + 1, 1, none⟩) (by simp; omega) _
 refine (ZiN _ ds _ (R3.below hB2') h3).mono ?_
 rintro e w3 ⟨u3, rfl, ho3, hb3⟩
 obtain ⟨b3, d3, rfl⟩ := Zae ho3
 have hp1 := Zad (ownsRow_setCell_below ho1'' (a := ⟨w.heap.size + 1 + 1, 1, none⟩) (by simp) (.slice b2 is.length d2)) hb3
 have hp2 := Zad (ownsRow_setCell_below ho2' (a := ⟨w.heap.size + 1 + 1, 1, none⟩) (by simp) (.slice b2 is.length d2)) hb3
 have hy3 : w3.heap[w.heap.size + 1]? = some (.cells #[.slice none 0 0, .slice none 0 0, .slice none 0 0] 44 (0, 0)) := (hb3.block _ (by simp; omega)).trans ((heap_setCell_other w2 ⟨w.heap.size + 1 + 1, 1, none⟩ (w.heap.size + 1) _ (by simp)).trans hy2)
 have hv3 : w3.heap[w.heap.size + 1 + 1]? = some (.cells #[.slice b1 ns.length d1, .slice b2 is.length d2, .slice none 0 0] 44 (0, 0)) := (hb3.block _ (by simp; omega)).trans (heap_setCell_same w2 (w.heap.size + 1 + 1) 1 _ _ (.slice b2 is.length d2) hv2)
 have hB3 := hB2'.trans (hb3.mono hB2'.size)
 have hp3 : w3.ownsRow (w.heap.size + 3) 177 3 (.slice b3 ds.length d3) ds.length (dfcs ds) := Zaf ho3 (by simp; omega)
 have g0 : w3.cell? ⟨w.heap.size + 1 + 1, 0, none⟩ = some (.slice b1 ns.length d1) := by rw [cell_of_row w3 _ 0 _ _ _ hv3]; rfl
 have g1 : w3.cell? ⟨w.heap.size + 1 + 1, 0 + 1, none⟩ = some (.slice b2 is.length d2) := by rw [cell_of_row w3 _ 1 _ _ _ hv3]; rfl
 have g2 : w3.cell? ⟨w.heap.size + 1 + 1, 0 + 2, none⟩ = some (.slice none 0 0) := by rw [cell_of_row w3 _ 2 _ _ _ hv3]; rfl
 have gf : w3.frozen? ⟨w.heap.size + 1 + 1, 0 + 2, none⟩ = false := frozen_of_row w3 _ 2 _ _ hv3
 have k0 : w3.cell? ⟨w.heap.size + 1, 0, none⟩ = some (.slice none 0 0) := by rw [cell_of_row w3 _ 0 _ _ _ hy3]; rfl
 have k1 : w3.cell? ⟨w.heap.size + 1, 0 + 1, none⟩ = some (.slice none 0 0) := by rw [cell_of_row w3 _ 1 _ _ _ hy3]; rfl
 have k2 : w3.cell? ⟨w.heap.size + 1, 0 + 2, none⟩ = some (.slice none 0 0) := by rw [cell_of_row w3 _ 2 _ _ _ hy3]; rfl
 have f0 : w3.frozen? ⟨w.heap.size + 1, 0, none⟩ = false := frozen_of_row w3 _ 0 _ _ hy3
 have f1 : w3.frozen? ⟨w.heap.size + 1, 0 + 1, none⟩ = false := frozen_of_row w3 _ 1 _ _ hy3
 have f2 : w3.frozen? ⟨w.heap.size + 1, 0 + 2, none⟩ = false := frozen_of_row w3 _ 2 _ _ hy3
 clear hB2 hB2' hb3 ho1'' ho2' ho3 hx2 hy2 hv2 cv2 fv2 cx2 hsv2
 go_wp2
 have q0 := (heap_setCell_other w3 ⟨w.heap.size + 1 + 1, 2, none⟩ (w.heap.size + 1) (.slice b3 ds.length d3) (by simp)).trans hy3
 have q1 := heap_setCell_same _ (w.heap.size + 1) 0 _ _ (.slice b1 ns.length d1) q0
 have q2 := heap_setCell_same _ (w.heap.size + 1) 1 _ _ (.slice b2 is.length d2) q1
 have q3 := heap_setCell_same _ (w.heap.size + 1) 2 _ _ (.slice b3 ds.length d3) q2
 have up : ∀ {e : TypeId} {k : Nat} {v : Value} {n : Nat} {xs : List Value}, w3.ownsRow (w.heap.size + 3) e k v n xs -> ((((w3.setCell ⟨w.heap.size + 1 + 1, 2, none⟩ (.slice b3 ds.length d3)).setCell ⟨w.heap.size + 1, 0, none⟩ (.slice b1 ns.length d1)).setCell ⟨w.heap.size + 1, 1, none⟩ (.slice b2 is.length d2)).setCell ⟨w.heap.size + 1, 2, none⟩ (.slice b3 ds.length d3)).ownsRow (w.heap.size + 3) e k v n xs := fun h =>
  ownsRow_setCell_below (ownsRow_setCell_below (ownsRow_setCell_below (ownsRow_setCell_below h (by simp) _) (by simp) _) (by simp) _) (by simp) _
 refine bodyPost_ret (results_cell_row rfl _ _ (w.heap.size + 1) 44 _ (0, 0) _ rfl q3 Tryz.underlying44 rfl ZmB) rfl ⟨_, _, _, rfl, Zaf (up hp1) (by omega), Zaf (up hp2) (by omega), Zaf (up hp3) (by omega), ?_⟩
 exact (((hB3.setCell (p := ⟨w.heap.size + 1 + 1, 2, none⟩) (by simp; omega) _).setCell (p := ⟨w.heap.size + 1, 0, none⟩) (by simp) _).setCell (p := ⟨w.heap.size + 1, 1, none⟩) (by simp) _).setCell (p := ⟨w.heap.size + 1, 2, none⟩) (by simp) _
def Zbe : List Df -> ByteArray -> Nat -> Int
 | [], _, _ => -1
 | d :: ds, s, i => if d.s.toList == s.toList then i else Zbe ds s (i + 1)
theorem Ze4 (ds : List Df) (s : ByteArray) (i : Nat) (d : Df) (h : ds[i]? = some d) (e : (d.s.toList == s.toList) = true) : Zbe (ds.drop i) s i = i := by
 obtain ⟨hl, he⟩ := List.getElem?_eq_some_iff.1 h
 rw [List.drop_eq_getElem_cons hl, he, Zbe, if_pos e]
theorem ZdP (ds : List Df) (s : ByteArray) (i : Nat) (d : Df) (h : ds[i]? = some d) (e : (d.s.toList == s.toList) = false) : Zbe (ds.drop i) s i = Zbe (ds.drop (i + 1)) s (i + 1) := by
 obtain ⟨hl, he⟩ := List.getElem?_eq_some_iff.1 h
 rw [List.drop_eq_getElem_cons hl, he, Zbe, if_neg (by rw [e]; simp)]
theorem Zfg (ds : List Df) (s : ByteArray) (i : Nat) (h : ds.length <= i) : Zbe (ds.drop i) s i = -1 := by
 rw [List.drop_eq_nil_of_le h, Zbe]
theorem Zhx (a1 a2 : Option Addr) (n1 c1 n2 c2 : Nat) (v3 : Value) (ds : List Df) (s : ByteArray) (w : World) (R : DfRow w v3 ds) :
  Calls Tryz.prog 128 #[.agg #[.slice a1 n1 c1, .slice a2 n2 c2, v3], .string s] w fun e w' => e = .returned (.int .i64 (Zbe ds s 0)) /\ Below w.heap.size w w' := by
 obtain ⟨ao, cap, rfl, hcap, hm, hz, hcell⟩ := R
 go_enter Tryz.func128, Tryz.ntmps128
 have hB0 : Below w.heap.size w (w.alloc (Obj.cells #[.slice a1 n1 c1, .slice a2 n2 c2, .slice ao ds.length cap] 44)) := (Below.refl _ _).alloc (Nat.le_refl _) _
 have hx0 := heap_alloc_new w (Obj.cells #[.slice a1 n1 c1, .slice a2 n2 c2, .slice ao ds.length cap] 44)
 go_wp2_with fail
 generalize w.alloc (Obj.cells #[.slice a1 n1 c1, .slice a2 n2 c2, .slice ao ds.length cap] 44) = w0 at *
 have hc0 : w0.cell? ⟨w.heap.size, 0 + 2, none⟩ = some (.slice ao ds.length cap) := by rw [cell_of_row w0 _ 2 _ _ _ hx0]; rfl
 have hs0 := (bl hx0)
 go_loopw [5] (fun i wr => ∃ k : Nat, k <= ds.length /\ i = .int .i64 k /\ Hid (Zbe ds s 0 = Zbe (ds.drop k) s k) /\ Below w0.heap.size w0 wr) (fun i _ => ds.length - (intOf i).toNat)
 case atStart => exact ⟨0, by omega, rfl, rfl, Below.refl _ _⟩
 case round =>
  obtain ⟨k, hk, rfl, HK, hb⟩ := hrel
  have hB := hB0.trans (hb.mono hB0.size)
  have hcr := (hb.cell (p := ⟨w.heap.size, 0 + 2, none⟩) hs0).trans hc0
  by_cases hlt : k < ds.length
  ·obtain ⟨g, o, rfl, hg, hcell⟩ := hcell (by intro e; subst e; simp at hlt)
   obtain ⟨x, hx⟩ : ∃ x, ds[k]? = some x := ⟨ds[k], by simp [hlt]⟩
   obtain ⟨d0, d1, d2⟩ := (hcell k x hx).below hB hg
   clear hcell
   cases e : (x.s.toList == s.toList) with
   | true =>
    have HR : Hid (Zbe ds s 0 = k) := by unfold Hid; rw [HK.out, Ze4 ds s k x hx e]
    clear hx HK
    go_wp2
    go_ret
    exact ⟨by rw [HR.out]; rfl, hB⟩
   | false =>
    have HR : Hid (Zbe ds s 0 = Zbe (ds.drop (k + 1)) s (k + 1)) := by unfold Hid; rw [HK.out, ZdP ds s k x hx e]
    clear hx HK
    go_wp2
    go_roundw
    case rel => exact ⟨k + 1, by omega, by go_num, HR, hb⟩
    case measure => simp [intOf]; omega
  ·have HR : Hid (Zbe ds s 0 = -1) := by unfold Hid; rw [HK.out, Zfg ds s k (by omega)]
   clear HK hcell
   go_wp2
   go_ret
   exact ⟨by rw [HR.out]; rfl, hB⟩
theorem Zd2 (d : Df) (s : ByteArray) (q : Nat) (w : World) (hq : w.cell? ⟨q, 0, none⟩ = some (.string s)) (hl : q < w.heap.size) :
  Calls Tryz.prog 229 #[.agg #[.string d.s, .int .i64 d.p, .int .i64 d.m], .pointer (some ⟨q, 0, none⟩)] w fun e w' => e = .returned (.bool (d.s.toList == s.toList)) /\ Below w.heap.size w w' := by
 have hne : ¬ q = w.heap.size := by omega
 go_enter Tryz.func229, Tryz.ntmps229
 go_wp2
 go_ret
 exact ⟨rfl, (Below.refl _ _).alloc (Nat.le_refl _) _⟩
theorem ZeL (v3 : Value) (ds : List Df) (s : ByteArray) (q : Nat) (w : World) (R : DfRow w v3 ds) (hq : w.cell? ⟨q, 0, none⟩ = some (.string s)) (hl : q < w.heap.size) :
  Calls Tryz.prog 228 #[v3, .func (.func 229) #[] #[.pointer (some ⟨q, 0, none⟩)]] w fun e w' => e = .returned (.int .i64 (Zbe ds s 0)) /\ Below w.heap.size w w' := by
 obtain ⟨ao, cap, rfl, hcap, hm, hz, hcell⟩ := R
 go_enter Tryz.func228, Tryz.ntmps228
 go_wp2_with fail
 go_loopw [8] (fun i wr => ∃ k : Nat, k <= ds.length /\ i = .int .i64 k /\ Hid (Zbe ds s 0 = Zbe (ds.drop k) s k) /\ Below w.heap.size w wr) (fun i _ => ds.length - (intOf i).toNat)
 case atStart => exact ⟨0, by omega, rfl, rfl, Below.refl _ _⟩
 case round =>
  obtain ⟨k, hk, rfl, HK, hb⟩ := hrel
  have hcr := (hb.cell (p := ⟨q, 0, none⟩) hl).trans hq
  have hlr := Nat.lt_of_lt_of_le hl hb.size
  by_cases hlt : k < ds.length
  ·obtain ⟨g, o, rfl, hg, hcell⟩ := hcell (by intro e; subst e; simp at hlt)
   obtain ⟨x, hx⟩ : ∃ x, ds[k]? = some x := ⟨ds[k], by simp [hlt]⟩
   obtain ⟨d0, d1, d2⟩ := (hcell k x hx).below hb hg
   clear hcell
   cases e : (x.s.toList == s.toList) with
   | true =>
    have HR : Hid (Zbe ds s 0 = k) := by unfold Hid; rw [HK.out, Ze4 ds s k x hx e]
    clear hx HK
    go_wp2_with fail
    refine (Zd2 x s q _ hcr hlr).mono ?_
    rintro e' w2 ⟨rfl, hb2⟩
    rw [e]
    have hB2 := hb.trans (hb2.mono hb.size)
    clear d0 d1 d2 hcr hb2
    go_wp2
    go_ret
    exact ⟨by rw [HR.out]; rfl, hB2⟩
   | false =>
    have HR : Hid (Zbe ds s 0 = Zbe (ds.drop (k + 1)) s (k + 1)) := by unfold Hid; rw [HK.out, ZdP ds s k x hx e]
    clear hx HK
    go_wp2_with fail
    refine (Zd2 x s q _ hcr hlr).mono ?_
    rintro e' w2 ⟨rfl, hb2⟩
    rw [e]
    have hB2 := hb.trans (hb2.mono hb.size)
    clear d0 d1 d2 hcr hb2
    go_wp2
    go_roundw
    case rel => exact ⟨k + 1, by omega, by go_num, HR, hB2⟩
    case measure => simp [intOf]; omega
  ·have HR : Hid (Zbe ds s 0 = -1) := by unfold Hid; rw [HK.out, Zfg ds s k (by omega)]
   clear HK hcell
   go_wp2
   go_ret
   exact ⟨by rw [HR.out]; rfl, hb⟩
theorem ZhR (a1 a2 : Option Addr) (n1 c1 n2 c2 : Nat) (v3 : Value) (ds : List Df) (s : ByteArray) (w : World) (R : DfRow w v3 ds) :
  Calls Tryz.prog 193 #[.agg #[.slice a1 n1 c1, .slice a2 n2 c2, v3], .string s] w fun e w' => e = .returned (.int .i64 (Zbe ds s 0)) /\ Below w.heap.size w w' := by
 have hmf : ∀ (fn : Fn) (first cap : Array Value) (w : World), (Instr.makeFunc fn first cap).run Tryz.prog w = .ok (.func fn first cap) w := fun _ _ _ _ => rfl
 obtain ⟨a3, c3, rfl⟩ := R.small
 go_enter Tryz.func193, Tryz.ntmps193
 go_wp2_with fail
 have hB0 : Below w.heap.size w ((w.alloc (Obj.cells #[.slice a1 n1 c1, .slice a2 n2 c2, .slice a3 ds.length c3] 44)).alloc (Obj.cells #[.string s] 9)) := ((Below.refl _ _).alloc (Nat.le_refl _) _).alloc (by simp) _
 refine (ZeL _ ds s (w.heap.size + 1) _ (R.below hB0) ?_ ?_).mono ?_
 ·rw [cell_of_row _ _ 0 _ _ _ (heap_alloc2_new _ _ _)]; rfl
 ·simp
 rintro e w1 ⟨rfl, hb1⟩
 have hB1 := hB0.trans (hb1.mono hB0.size)
 clear hB0 hb1
 go_wp2
 go_ret
 exact ⟨rfl, hB1⟩
def Zb0 (x : In) : Bool := x.n == 0 && x.i == 0 && x.s.toList == []
def litB (x : In) (n1 : Nat) : Bool := x.i == 0 && x.s.toList == [] && decide (0 <= x.n) && decide (x.n < n1)
def varB (x : In) : Bool := x.s.toList == [] && decide (0 <= x.n) && decide (x.n <= 20) && decide (0 <= x.i) && decide (x.i < 4)
def Zbc (x : In) : Bool := x.n == 0 && x.i == 0 && ZbQ x.s
def wayB (x : In) (i : Int) (n2 : Nat) : Bool := x.i == 0 && x.s.toList == [] && decide (i < x.n) && decide (x.n <= n2)
def funB (x : In) (i : Int) (n2 : Nat) : Bool := x.s.toList == [] && decide (i < x.n) && decide (x.n < n2) && decide (0 <= x.i) && decide (x.i <= 4)
def ZcJ (x : In) : Bool := x.n == 0 && x.s.toList == [] && decide (0 <= x.i) && decide (x.i <= 4)
theorem ZdZ (x : In) (a1 a2 a3 : Option Addr) (n1 n2 n3 c1 c2 c3 : Nat) (i : Int) (w : World) :
  Calls Tryz.prog 226 #[.agg #[.int .i64 x.o, .int .i64 x.n, .int .i64 x.i, .string x.s], .agg #[.slice a1 n1 c1, .slice a2 n2 c2, .slice a3 n3 c3], .int .i64 i] w fun e w' => e = .returned (.bool (Zb0 x)) /\ Below w.heap.size w w' := by
 go_enter Tryz.func226, Tryz.ntmps226
 go_wp2
 all_goals
  go_ret
  refine ⟨retB ?_, ?_⟩
  ·unfold Zb0
   first
    | (simp [*]; done)
    | (simp [*]; omega)
    | (rw [Bool.eq_iff_iff]; simp [*]; omega)
  ·first
    | exact ((Below.refl _ _).alloc (Nat.le_refl _) _).alloc (by simp) _
    | exact (((Below.refl _ _).alloc (Nat.le_refl _) _).alloc (by simp) _).alloc (by simp; omega) _
theorem Zji (x : In) (a1 a2 a3 : Option Addr) (n1 n2 n3 c1 c2 c3 : Nat) (i : Int) (w : World) :
  Calls Tryz.prog 220 #[.agg #[.int .i64 x.o, .int .i64 x.n, .int .i64 x.i, .string x.s], .agg #[.slice a1 n1 c1, .slice a2 n2 c2, .slice a3 n3 c3], .int .i64 i] w fun e w' => e = .returned (.bool (litB x n1)) /\ Below w.heap.size w w' := by
 go_enter Tryz.func220, Tryz.ntmps220
 go_wp2
 all_goals
  go_ret
  refine ⟨retB ?_, ?_⟩
  ·unfold litB
   first
    | (simp [*]; done)
    | (simp [*]; omega)
    | (rw [Bool.eq_iff_iff]; simp [*]; omega)
  ·first
    | exact ((Below.refl _ _).alloc (Nat.le_refl _) _).alloc (by simp) _
    | exact (((Below.refl _ _).alloc (Nat.le_refl _) _).alloc (by simp) _).alloc (by simp; omega) _
theorem Zjm (x : In) (a1 a2 a3 : Option Addr) (n1 n2 n3 c1 c2 c3 : Nat) (i : Int) (w : World) :
  Calls Tryz.prog 221 #[.agg #[.int .i64 x.o, .int .i64 x.n, .int .i64 x.i, .string x.s], .agg #[.slice a1 n1 c1, .slice a2 n2 c2, .slice a3 n3 c3], .int .i64 i] w fun e w' => e = .returned (.bool (varB x)) /\ Below w.heap.size w w' := by
 go_enter Tryz.func221, Tryz.ntmps221
 go_wp2
 all_goals
  go_ret
  refine ⟨retB ?_, ?_⟩
  ·unfold varB
   first
    | (simp [*]; done)
    | (simp [*]; omega)
    | (rw [Bool.eq_iff_iff]; simp [*]; omega)
  ·first
    | exact ((Below.refl _ _).alloc (Nat.le_refl _) _).alloc (by simp) _
    | exact (((Below.refl _ _).alloc (Nat.le_refl _) _).alloc (by simp) _).alloc (by simp; omega) _
theorem Zfu (x : In) (a1 a2 a3 : Option Addr) (n1 n2 n3 c1 c2 c3 : Nat) (i : Int) (w : World) (hs : x.s.size <= maxLen) :
  Calls Tryz.prog 222 #[.agg #[.int .i64 x.o, .int .i64 x.n, .int .i64 x.i, .string x.s], .agg #[.slice a1 n1 c1, .slice a2 n2 c2, .slice a3 n3 c3], .int .i64 i] w fun e w' => e = .returned (.bool (Zbc x)) /\ Below w.heap.size w w' := by
 go_enter Tryz.func222, Tryz.ntmps222
 go_wp2_with (go_at_call 192; refine (Zdo x.s _ hs).mono ?_; rintro e w1 ⟨rfl, rfl⟩)
 all_goals
  go_ret
  refine ⟨retB ?_, ?_⟩
  ·unfold Zbc
   first
    | (simp [*]; done)
    | (simp [*]; omega)
    | (rw [Bool.eq_iff_iff]; simp [*]; omega)
  ·first
    | exact ((Below.refl _ _).alloc (Nat.le_refl _) _).alloc (by simp) _
    | exact (((Below.refl _ _).alloc (Nat.le_refl _) _).alloc (by simp) _).alloc (by simp; omega) _
theorem Zfi (x : In) (a1 a2 a3 : Option Addr) (n1 n2 n3 c1 c2 c3 : Nat) (i : Int) (w : World) :
  Calls Tryz.prog 223 #[.agg #[.int .i64 x.o, .int .i64 x.n, .int .i64 x.i, .string x.s], .agg #[.slice a1 n1 c1, .slice a2 n2 c2, .slice a3 n3 c3], .int .i64 i] w fun e w' => e = .returned (.bool (wayB x i n2)) /\ Below w.heap.size w w' := by
 go_enter Tryz.func223, Tryz.ntmps223
 go_wp2
 all_goals
  go_ret
  refine ⟨retB ?_, ?_⟩
  ·unfold wayB
   first
    | (simp [*]; done)
    | (simp [*]; omega)
    | (rw [Bool.eq_iff_iff]; simp [*]; omega)
  ·first
    | exact ((Below.refl _ _).alloc (Nat.le_refl _) _).alloc (by simp) _
    | exact (((Below.refl _ _).alloc (Nat.le_refl _) _).alloc (by simp) _).alloc (by simp; omega) _
theorem ZiT (x : In) (a1 a2 a3 : Option Addr) (n1 n2 n3 c1 c2 c3 : Nat) (i : Int) (w : World) :
  Calls Tryz.prog 224 #[.agg #[.int .i64 x.o, .int .i64 x.n, .int .i64 x.i, .string x.s], .agg #[.slice a1 n1 c1, .slice a2 n2 c2, .slice a3 n3 c3], .int .i64 i] w fun e w' => e = .returned (.bool (funB x i n2)) /\ Below w.heap.size w w' := by
 go_enter Tryz.func224, Tryz.ntmps224
 go_wp2
 all_goals
  go_ret
  refine ⟨retB ?_, ?_⟩
  ·unfold funB
   first
    | (simp [*]; done)
    | (simp [*]; omega)
    | (rw [Bool.eq_iff_iff]; simp [*]; omega)
  ·first
    | exact ((Below.refl _ _).alloc (Nat.le_refl _) _).alloc (by simp) _
    | exact (((Below.refl _ _).alloc (Nat.le_refl _) _).alloc (by simp) _).alloc (by simp; omega) _
theorem Zh7 (x : In) (a1 a2 a3 : Option Addr) (n1 n2 n3 c1 c2 c3 : Nat) (i : Int) (w : World) :
  Calls Tryz.prog 225 #[.agg #[.int .i64 x.o, .int .i64 x.n, .int .i64 x.i, .string x.s], .agg #[.slice a1 n1 c1, .slice a2 n2 c2, .slice a3 n3 c3], .int .i64 i] w fun e w' => e = .returned (.bool (ZcJ x)) /\ Below w.heap.size w w' := by
 go_enter Tryz.func225, Tryz.ntmps225
 go_wp2
 all_goals
  go_ret
  refine ⟨retB ?_, ?_⟩
  ·unfold ZcJ
   first
    | (simp [*]; done)
    | (simp [*]; omega)
    | (rw [Bool.eq_iff_iff]; simp [*]; omega)
  ·first
    | exact ((Below.refl _ _).alloc (Nat.le_refl _) _).alloc (by simp) _
    | exact (((Below.refl _ _).alloc (Nat.le_refl _) _).alloc (by simp) _).alloc (by simp; omega) _
def Zav (x : In) (i : Int) (n1 n2 : Nat) : Bool :=
 if x.o = 1 then litB x n1 else if x.o = 2 then varB x else if x.o = 3 then Zbc x else if x.o = 4 then wayB x i n2 else if x.o = 5 then wayB x i n2
 else if x.o = 6 then funB x i n2 else if x.o = 7 then ZcJ x else if x.o = 8 then Zb0 x else if x.o = 9 then Zb0 x else false
theorem Zbn (ao : Option Addr) (n cap : Nat) (a : Int) (w : World) (hn : n <= 9223372036854775807) :
  Calls Tryz.prog 164 #[.agg #[.slice ao n cap], .int .i64 a] w fun e w' => e = .returned (.bool (decide (0 <= a) && decide (a < n))) /\ Below w.heap.size w w' := by
 go_enter Tryz.func164, Tryz.ntmps164
 go_wp2_with fail
 refine (Zau _ _ _ _).mono ?_
 rintro e w1 ⟨rfl, rfl⟩
 go_wp2
 go_ret
 refine ⟨retB ?_, (Below.refl _ _).alloc (Nat.le_refl _) _⟩
 rw [Bool.eq_iff_iff]
 simp
 omega
theorem Zhy (a1 a3 : Option Addr) (n1 c1 n3 c3 : Nat) (v2 : Value) (is : List In) (k : Nat) (x : In) (w : World) (R : InRow w v2 is) (hx : is[k]? = some x) (hn1 : n1 <= 9223372036854775807) :
  Calls Tryz.prog 126 #[.agg #[.slice a1 n1 c1, v2, .slice a3 n3 c3], .int .i64 k] w fun e w' => e = .returned (.bool (Zav x k n1 is.length)) /\ Below w.heap.size w w' := by
 obtain ⟨a2, c2, rfl, hcap, hm, hz, hcell⟩ := R
 have hlt : k < is.length := (List.getElem?_eq_some_iff.1 hx).1
 obtain ⟨g, o, rfl, hg, hcell⟩ := hcell (by intro e; subst e; simp at hlt)
 obtain ⟨d0, d1, d2, d3⟩ := hcell k x hx
 have hxz := hz x (List.mem_of_getElem? hx)
 have hgn : ¬ g = w.heap.size := by omega
 clear hcell hx hz
 have hBa : Below w.heap.size w (w.alloc (Obj.cells #[.slice a1 n1 c1, .slice (some ⟨g, o, none⟩) is.length c2, .slice a3 n3 c3] 44)) := (Below.refl _ _).alloc (Nat.le_refl _) _
 obtain ⟨xo, xn, xi, xs⟩ := x
 dsimp only at d0 d1 d2 d3 hxz
 have hc : (xo < 1 \/ 9 < xo) \/ xo = 1 \/ xo = 2 \/ xo = 3 \/ xo = 4 \/ xo = 5 \/ xo = 6 \/ xo = 7 \/ xo = 8 \/ xo = 9 := by omega
 rcases hc with hc | rfl | rfl | rfl | rfl | rfl | rfl | rfl | rfl | rfl
 ·have HR : Hid (Zav ⟨xo, xn, xi, xs⟩ k n1 is.length = false) := by unfold Hid; simp [Zav, show ¬ xo = 1 by omega, show ¬ xo = 2 by omega, show ¬ xo = 3 by omega, show ¬ xo = 4 by omega, show ¬ xo = 5 by omega, show ¬ xo = 6 by omega, show ¬ xo = 7 by omega, show ¬ xo = 8 by omega, show ¬ xo = 9 by omega]
  have h1 : ¬ xo = 1 := by omega
  have h2 : ¬ xo = 2 := by omega
  have h3 : ¬ xo = 3 := by omega
  have h4 : ¬ xo = 4 := by omega
  have h5 : ¬ xo = 5 := by omega
  have h6 : ¬ xo = 6 := by omega
  have h7 : ¬ xo = 7 := by omega
  have h8 : ¬ xo = 8 := by omega
  have h9 : ¬ xo = 9 := by omega
  go_enter Tryz.func126, Tryz.ntmps126
  go_wp2
  go_ret
  exact ⟨by rw [HR.out]; rfl, (hBa.alloc hBa.size _).alloc (by have := hBa.size; simp; omega) _⟩
 ·go_enter Tryz.func126, Tryz.ntmps126
  go_wp2_with (first
   | (go_at_call 164; refine (Zbn _ _ _ _ _ hn1).mono ?_; rintro e w1 ⟨rfl, hb1⟩)
   | (go_at_call 127; refine (ZaN xs _ hxz).mono ?_; rintro e w1 ⟨rfl, rfl⟩)
   | (go_at_call 74; refine (Zau _ _ _ _).mono ?_; rintro e w1 ⟨rfl, rfl⟩))
  all_goals
   go_ret
   refine ⟨retB ?_, ?_⟩
   ·simp only [Zav, litB, varB, Zbc, wayB, funB, ZcJ, Zb0]
    first
     | (simp [*]; done)
     | (simp [*]; omega)
     | (rw [Bool.eq_iff_iff]; simp [*]; omega)
   ·first
     | exact (hBa.alloc hBa.size _).alloc (by have := hBa.size; simp; omega) _
     | exact ((hBa.alloc hBa.size _).alloc (by have := hBa.size; simp; omega) _).trans (hb1.mono (by simp; omega))
 ·go_enter Tryz.func126, Tryz.ntmps126
  go_wp2_with (first
   | (go_at_call 164; refine (Zbn _ _ _ _ _ hn1).mono ?_; rintro e w1 ⟨rfl, hb1⟩)
   | (go_at_call 127; refine (ZaN xs _ hxz).mono ?_; rintro e w1 ⟨rfl, rfl⟩)
   | (go_at_call 74; refine (Zau _ _ _ _).mono ?_; rintro e w1 ⟨rfl, rfl⟩))
  all_goals
   go_ret
   refine ⟨retB ?_, ?_⟩
   ·simp only [Zav, litB, varB, Zbc, wayB, funB, ZcJ, Zb0]
    first
     | (simp [*]; done)
     | (simp [*]; omega)
     | (rw [Bool.eq_iff_iff]; simp [*]; omega)
   ·first
     | exact (hBa.alloc hBa.size _).alloc (by have := hBa.size; simp; omega) _
     | exact ((hBa.alloc hBa.size _).alloc (by have := hBa.size; simp; omega) _).trans (hb1.mono (by simp; omega))
 ·go_enter Tryz.func126, Tryz.ntmps126
  go_wp2_with (first
   | (go_at_call 164; refine (Zbn _ _ _ _ _ hn1).mono ?_; rintro e w1 ⟨rfl, hb1⟩)
   | (go_at_call 127; refine (ZaN xs _ hxz).mono ?_; rintro e w1 ⟨rfl, rfl⟩)
   | (go_at_call 74; refine (Zau _ _ _ _).mono ?_; rintro e w1 ⟨rfl, rfl⟩))
  all_goals
   go_ret
   refine ⟨retB ?_, ?_⟩
   ·simp only [Zav, litB, varB, Zbc, wayB, funB, ZcJ, Zb0]
    first
     | (simp [*]; done)
     | (simp [*]; omega)
     | (rw [Bool.eq_iff_iff]; simp [*]; omega)
   ·first
     | exact (hBa.alloc hBa.size _).alloc (by have := hBa.size; simp; omega) _
     | exact ((hBa.alloc hBa.size _).alloc (by have := hBa.size; simp; omega) _).trans (hb1.mono (by simp; omega))
 ·go_enter Tryz.func126, Tryz.ntmps126
  go_wp2_with (first
   | (go_at_call 164; refine (Zbn _ _ _ _ _ hn1).mono ?_; rintro e w1 ⟨rfl, hb1⟩)
   | (go_at_call 127; refine (ZaN xs _ hxz).mono ?_; rintro e w1 ⟨rfl, rfl⟩)
   | (go_at_call 74; refine (Zau _ _ _ _).mono ?_; rintro e w1 ⟨rfl, rfl⟩))
  all_goals
   go_ret
   refine ⟨retB ?_, ?_⟩
   ·simp only [Zav, litB, varB, Zbc, wayB, funB, ZcJ, Zb0]
    first
     | (simp [*]; done)
     | (simp [*]; omega)
     | (rw [Bool.eq_iff_iff]; simp [*]; omega)
   ·first
     | exact (hBa.alloc hBa.size _).alloc (by have := hBa.size; simp; omega) _
     | exact ((hBa.alloc hBa.size _).alloc (by have := hBa.size; simp; omega) _).trans (hb1.mono (by simp; omega))
 ·go_enter Tryz.func126, Tryz.ntmps126
  go_wp2_with (first
   | (go_at_call 164; refine (Zbn _ _ _ _ _ hn1).mono ?_; rintro e w1 ⟨rfl, hb1⟩)
   | (go_at_call 127; refine (ZaN xs _ hxz).mono ?_; rintro e w1 ⟨rfl, rfl⟩)
   | (go_at_call 74; refine (Zau _ _ _ _).mono ?_; rintro e w1 ⟨rfl, rfl⟩))
  all_goals
   go_ret
   refine ⟨retB ?_, ?_⟩
   ·simp only [Zav, litB, varB, Zbc, wayB, funB, ZcJ, Zb0]
    first
     | (simp [*]; done)
     | (simp [*]; omega)
     | (rw [Bool.eq_iff_iff]; simp [*]; omega)
   ·first
     | exact (hBa.alloc hBa.size _).alloc (by have := hBa.size; simp; omega) _
     | exact ((hBa.alloc hBa.size _).alloc (by have := hBa.size; simp; omega) _).trans (hb1.mono (by simp; omega))
 ·go_enter Tryz.func126, Tryz.ntmps126
  go_wp2_with (first
   | (go_at_call 164; refine (Zbn _ _ _ _ _ hn1).mono ?_; rintro e w1 ⟨rfl, hb1⟩)
   | (go_at_call 127; refine (ZaN xs _ hxz).mono ?_; rintro e w1 ⟨rfl, rfl⟩)
   | (go_at_call 74; refine (Zau _ _ _ _).mono ?_; rintro e w1 ⟨rfl, rfl⟩))
  all_goals
   go_ret
   refine ⟨retB ?_, ?_⟩
   ·simp only [Zav, litB, varB, Zbc, wayB, funB, ZcJ, Zb0]
    first
     | (simp [*]; done)
     | (simp [*]; omega)
     | (rw [Bool.eq_iff_iff]; simp [*]; omega)
   ·first
     | exact (hBa.alloc hBa.size _).alloc (by have := hBa.size; simp; omega) _
     | exact ((hBa.alloc hBa.size _).alloc (by have := hBa.size; simp; omega) _).trans (hb1.mono (by simp; omega))
 ·go_enter Tryz.func126, Tryz.ntmps126
  go_wp2_with (first
   | (go_at_call 164; refine (Zbn _ _ _ _ _ hn1).mono ?_; rintro e w1 ⟨rfl, hb1⟩)
   | (go_at_call 127; refine (ZaN xs _ hxz).mono ?_; rintro e w1 ⟨rfl, rfl⟩)
   | (go_at_call 74; refine (Zau _ _ _ _).mono ?_; rintro e w1 ⟨rfl, rfl⟩))
  all_goals
   go_ret
   refine ⟨retB ?_, ?_⟩
   ·simp only [Zav, litB, varB, Zbc, wayB, funB, ZcJ, Zb0]
    first
     | (simp [*]; done)
     | (simp [*]; omega)
     | (rw [Bool.eq_iff_iff]; simp [*]; omega)
   ·first
     | exact (hBa.alloc hBa.size _).alloc (by have := hBa.size; simp; omega) _
     | exact ((hBa.alloc hBa.size _).alloc (by have := hBa.size; simp; omega) _).trans (hb1.mono (by simp; omega))
 ·go_enter Tryz.func126, Tryz.ntmps126
  go_wp2_with (first
   | (go_at_call 164; refine (Zbn _ _ _ _ _ hn1).mono ?_; rintro e w1 ⟨rfl, hb1⟩)
   | (go_at_call 127; refine (ZaN xs _ hxz).mono ?_; rintro e w1 ⟨rfl, rfl⟩)
   | (go_at_call 74; refine (Zau _ _ _ _).mono ?_; rintro e w1 ⟨rfl, rfl⟩))
  all_goals
   go_ret
   refine ⟨retB ?_, ?_⟩
   ·simp only [Zav, litB, varB, Zbc, wayB, funB, ZcJ, Zb0]
    first
     | (simp [*]; done)
     | (simp [*]; omega)
     | (rw [Bool.eq_iff_iff]; simp [*]; omega)
   ·first
     | exact (hBa.alloc hBa.size _).alloc (by have := hBa.size; simp; omega) _
     | exact ((hBa.alloc hBa.size _).alloc (by have := hBa.size; simp; omega) _).trans (hb1.mono (by simp; omega))
 ·go_enter Tryz.func126, Tryz.ntmps126
  go_wp2_with (first
   | (go_at_call 164; refine (Zbn _ _ _ _ _ hn1).mono ?_; rintro e w1 ⟨rfl, hb1⟩)
   | (go_at_call 127; refine (ZaN xs _ hxz).mono ?_; rintro e w1 ⟨rfl, rfl⟩)
   | (go_at_call 74; refine (Zau _ _ _ _).mono ?_; rintro e w1 ⟨rfl, rfl⟩))
  all_goals
   go_ret
   refine ⟨retB ?_, ?_⟩
   ·simp only [Zav, litB, varB, Zbc, wayB, funB, ZcJ, Zb0]
    first
     | (simp [*]; done)
     | (simp [*]; omega)
     | (rw [Bool.eq_iff_iff]; simp [*]; omega)
   ·first
     | exact (hBa.alloc hBa.size _).alloc (by have := hBa.size; simp; omega) _
     | exact ((hBa.alloc hBa.size _).alloc (by have := hBa.size; simp; omega) _).trans (hb1.mono (by simp; omega))
end Go.Proofs.YtfmafkebddojjaaGreatDoor
