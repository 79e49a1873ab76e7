/-
  Texts that stood by themselves, laid into one.
-/
import Derived.Test.YtbljoclnaeimoaaGreatDoorBsM
/-
  Helpers: an instruction as 4 cells, a slice of these read as a list, and the contracts of the laws' helpers on them. No condition.
-/
namespace Go.Proofs.YtbljoclnaeimoaaGreatDoor
open Go.RowKit
structure In where
 o : Int
 n : Int
 i : Int
 s : ByteArray
def In.cs (x : In) : List Value := [.int .i64 x.o, .int .i64 x.n, .int .i64 x.i, .string x.s]
def incs (xs : List In) : List Value := xs.flatMap In.cs
theorem Zda (x : In) (xs : List In) : incs (x :: xs) = x.cs ++ incs xs := rfl
theorem Zdc (xs : List In) : (incs xs).length = xs.length * 4 := by
 induction xs with
 | nil => rfl
 | cons x xs ih => rw [Zda, List.length_append, ih, List.length_cons]; simp [In.cs]; omega
theorem ZgG (xs : List In) (i : Nat) (x : In) (h : xs[i]? = some x) (j : Nat) (hj : j < 4) : (incs xs)[i * 4 + j]? = x.cs[j]? := by
 induction xs generalizing i with
 | nil => simp at h
 | cons y ys ih =>
  rw [Zda]
  cases i with
  | zero =>
   simp at h; subst h
   rw [Nat.zero_mul, Nat.zero_add, List.getElem?_append_left (by simpa [In.cs] using hj)]
  | succ i =>
   rw [List.getElem?_append_right (by simp [In.cs]; omega)]
   rw [show (i + 1) * 4 + j - y.cs.length = i * 4 + j by simp [In.cs]; omega]
   exact ih i (by simpa using h)
theorem Zc5 (xs : List In) (i : Nat) (x x' : In) (h : xs[i]? = some x) (j : Nat) (hj : j < 4) (u : Value) (e : x.cs.set j u = x'.cs) : (incs xs).set (i * 4 + j) u = incs (xs.set i x') := by
 induction xs generalizing i with
 | nil => simp at h
 | cons y ys ih =>
  rw [Zda]
  cases i with
  | zero =>
   simp at h; subst h
   rw [Nat.zero_mul, Nat.zero_add, List.set_append_left _ _ (by simpa [In.cs] using hj), e]
   rfl
  | succ i =>
   rw [List.set_append_right _ _ (by simp [In.cs]; omega)]
   rw [show (i + 1) * 4 + j - y.cs.length = i * 4 + j by simp [In.cs]; omega, ih i (by simpa using h)]
   rfl
theorem Zis (xs : List In) (i : Nat) (x x' : In) (h : xs[i]? = some x) (u : Value) (e : x.cs.set 0 u = x'.cs) : (incs xs).set (i * 4) u = incs (xs.set i x') :=
 Zc5 xs i x x' h 0 (by omega) u e
theorem In.one (x : In) : ∀ u ∈ x.cs, u.oneCell' = true := by
 intro u hu
 simp only [In.cs, List.mem_cons, List.not_mem_nil, or_false] at hu
 rcases hu with rfl | rfl | rfl | rfl <;> rfl
def InAt (w : World) (g o : Nat) (x : In) : Prop :=
 w.cell? ⟨g, o, none⟩ = some (.int .i64 x.o) /\ w.cell? ⟨g, o + 1, none⟩ = some (.int .i64 x.n) /\ w.cell? ⟨g, o + 2, none⟩ = some (.int .i64 x.i) /\ w.cell? ⟨g, o + 3, none⟩ = some (.string x.s)
theorem InAt.below {w w' : World} {g o B : Nat} {x : In} (h : InAt w g o x) (hb : Below B w w') (hg : g < B) : InAt w' g o x :=
 ⟨(hb.cell (p := ⟨g, o, none⟩) hg).trans h.1, (hb.cell (p := ⟨g, o + 1, none⟩) hg).trans h.2.1, (hb.cell (p := ⟨g, o + 2, none⟩) hg).trans h.2.2.1, (hb.cell (p := ⟨g, o + 3, none⟩) hg).trans h.2.2.2⟩
def InRow (w : World) (v : Value) (xs : List In) : Prop :=
 ∃ ao cap, v = .slice ao xs.length cap /\ (xs.length <= cap /\ (ao = none -> cap = 0)) /\ xs.length <= 9223372036854775807 /\ (∀ x ∈ xs, x.s.size <= maxLen) /\
  (xs ≠ [] -> ∃ g o, ao = some ⟨g, o, none⟩ /\ g < w.heap.size /\ ∀ i x, xs[i]? = some x -> InAt w g (o + i * 4) x)
theorem InRow.small {w : World} {v : Value} {xs : List In} (R : InRow w v xs) : ∃ ao cap, v = .slice ao xs.length cap := by
 obtain ⟨ao, cap, rfl, _⟩ := R
 exact ⟨ao, cap, rfl⟩
theorem InRow.below {w w' : World} {v : Value} {xs : List In} (h : InRow w v xs) (hb : Below w.heap.size w w') : InRow w' v xs := by
 obtain ⟨ao, cap, rfl, hc, hm, hz, hcell⟩ := h
 refine ⟨ao, cap, rfl, hc, hm, hz, fun hne => ?_⟩
 obtain ⟨g, o, rfl, hg, hcell⟩ := hcell hne
 exact ⟨g, o, rfl, Nat.lt_of_lt_of_le hg hb.size, fun i x hi => (hcell i x hi).below hb hg⟩
theorem InRow.of_own {w : World} {base : Nat} {v : Value} {xs : List In} (h : w.ownsRow base 165 4 v xs.length (incs xs)) (hm : xs.length <= 9223372036854775807) (hz : ∀ x ∈ xs, x.s.size <= maxLen) : InRow w v xs := by
 rcases h.2 with ⟨rfl, h0⟩ | ⟨g, cap, cur, rfl, hb, hg, hnc, hcm, hcs, htake⟩
 ·have : xs = [] := List.eq_nil_of_length_eq_zero h0
  subst this
  exact ⟨none, 0, rfl, by simp, by simp, by simp, fun h => absurd rfl h⟩
 ·refine ⟨_, cap, rfl, ⟨hnc, fun h => by cases h⟩, hm, hz, fun _ => ⟨g, 0, rfl, (bl hg), fun i x hi => ?_⟩⟩
  have hl : i < xs.length := (List.getElem?_eq_some_iff.1 hi).1
  have e : ∀ j, j < 4 -> w.cell? ⟨g, 0 + i * 4 + j, none⟩ = x.cs[j]? := fun j hj => by
   have := h.cellAt (i * 4 + j) (by omega)
   rw [Nat.zero_add, this, ZgG xs i x hi j hj]
  exact ⟨e 0 (by omega), e 1 (by omega), e 2 (by omega), e 3 (by omega)⟩
theorem Zmm : (Tryz.prog.info? 165).map (fun i => (i.zero, i.size, i.bytes)) = some (some (.agg #[.int .i64 0, .int .i64 0, .int .i64 0, .string ByteArray.empty]), 4, 40) := by kernel_rfl
theorem Zmz : (Tryz.prog.info? 165).map (·.size) = some 4 := by kernel_rfl
theorem Zdu {ops : Array Oper} {rest : List Oper} {op : Oper} {a : Act} {w : World} {Q : Exit -> Act -> World -> Prop} (hgd : op.guard = none) (x y : Operand) (ho : op.op = .store 165 x y)
  (base g i cap : Nat) (xs : List In) (nd : In) (hx : a.eval x = .pointer (some ⟨g, i * 4, none⟩)) (hy : a.eval y = .agg #[.int .i64 nd.o, .int .i64 nd.n, .int .i64 nd.i, .string nd.s])
  (hi : i < xs.length) (hown : w.ownsRow base 165 4 (.slice (some ⟨g, 0, none⟩) xs.length cap) xs.length (incs xs))
  (h : ∀ w2 : World, w2.ownsRow base 165 4 (.slice (some ⟨g, 0, none⟩) xs.length cap) xs.length (incs (xs.set i nd)) -> w.grownBy w2 (some g) -> wpList Tryz.prog ops Q rest (a.put op.dst undef) w2) : wpList Tryz.prog ops Q (op :: rest) a w := by
 have ht : w.there g (i * 4) 4 := fun j hj => by
  have := hown.cellAt (i * 4 + j) (by omega)
  refine ⟨?_, hown.frozenAt _⟩
  rw [this, List.getElem?_eq_getElem (by rw [Zdc]; omega)]
  rfl
 refine wpList_store_mid hgd 165 x y ho g (i * 4) _ hx hy ht Zmz (all_oneCell_toArray nd.one) ?_
 have e0 : xs[i]? = some xs[i] := List.getElem?_eq_getElem hi
 have get : ∀ y : In, (xs.set i y)[i]? = some y := fun y => by simp [hi]
 have s0 := hown.stored (i * 4) (.int .i64 nd.o)
 rw [Zis xs i xs[i] ⟨nd.o, xs[i].n, xs[i].i, xs[i].s⟩ e0 _ rfl] at s0
 have s1 := s0.1.stored (i * 4 + 1) (.int .i64 nd.n)
 rw [Zc5 (xs.set i ⟨nd.o, xs[i].n, xs[i].i, xs[i].s⟩) i ⟨nd.o, xs[i].n, xs[i].i, xs[i].s⟩ ⟨nd.o, nd.n, xs[i].i, xs[i].s⟩ (get _) 1 (by omega) (.int .i64 nd.n) rfl, List.set_set] at s1
 have s2 := s1.1.stored (i * 4 + 2) (.int .i64 nd.i)
 rw [Zc5 (xs.set i ⟨nd.o, nd.n, xs[i].i, xs[i].s⟩) i ⟨nd.o, nd.n, xs[i].i, xs[i].s⟩ ⟨nd.o, nd.n, nd.i, xs[i].s⟩ (get _) 2 (by omega) (.int .i64 nd.i) rfl, List.set_set] at s2
 have s3 := s2.1.stored (i * 4 + 3) (.string nd.s)
 rw [Zc5 (xs.set i ⟨nd.o, nd.n, nd.i, xs[i].s⟩) i ⟨nd.o, nd.n, nd.i, xs[i].s⟩ ⟨nd.o, nd.n, nd.i, nd.s⟩ (get _) 3 (by omega) (.string nd.s) rfl, List.set_set] at s3
 exact h _ s3.1 (((s0.2.trans s1.2).trans s2.2).trans s3.2)
set_option maxHeartbeats 400000 in
theorem Zkx (x : In) (w : World) :
  Calls Tryz.prog 96 #[.agg #[.int .i64 x.o, .int .i64 x.n, .int .i64 x.i, .string x.s]] w fun e w' => e = .returned (.agg #[.int .i64 x.o, .int .i64 x.n, .int .i64 x.i, .string x.s]) /\ Below w.heap.size w w' := by
 go_enter Tryz.func96, Tryz.ntmps96
 go_wp2
 exact bodyPost_ret (results_cell_row rfl _ _ (w.heap.size + 1) 165 _ (0, 0) _ rfl ((heap_alloc_old _ _ (by simp)).trans (heap_alloc2_new _ _ _)) Tryz.underlying165 rfl Zmz) rfl
  ⟨rfl, (((Below.refl _ _).alloc (Nat.le_refl _) _).alloc (by simp) _).alloc (by simp; omega) _⟩
set_option maxHeartbeats 400000 in
theorem Zkq (x : In) (l : Int) (w : World) (hs : x.s.size <= maxLen) (hl : 0 <= l) (hl2 : l <= 1048576) :
  Calls Tryz.prog 90 #[.agg #[.int .i64 x.o, .int .i64 x.n, .int .i64 x.i, .string x.s], .int .i64 l] w fun e w' => e = .returned (.int .i64 (less l x.s.size)) /\ Below w.heap.size w w' := by
 unfold maxLen at hs
 go_enter Tryz.func90, Tryz.ntmps90
 by_cases h : l < x.s.size
 ·have HL : Hid (less l x.s.size = -1) := by unfold Hid less; rw [if_pos h]
  go_wp2
  go_ret
  exact ⟨by rw [HL.out]; rfl, (Below.refl _ _).alloc (Nat.le_refl _) _⟩
 ·have HL : Hid (less l x.s.size = l - x.s.size) := by unfold Hid less; rw [if_neg h]
  go_wp2
  go_ret
  exact ⟨by rw [HL.out]; rfl, (Below.refl _ _).alloc (Nat.le_refl _) _⟩
set_option maxHeartbeats 800000 in
theorem ZkB (x : In) (w : World) :
  Calls Tryz.prog 102 #[.agg #[.int .i64 x.o, .int .i64 x.n, .int .i64 x.i, .string x.s], .agg #[.int .i64 x.o, .int .i64 x.n, .int .i64 x.i, .string x.s]] w fun e w' => e = .returned (.bool true) /\ Below w.heap.size w w' := by
 go_enter Tryz.func102, Tryz.ntmps102
 go_wp2
 go_ret
 exact ⟨rfl, ((Below.refl _ _).alloc (Nat.le_refl _) _).alloc (by simp) _⟩
def ZfC : In := ⟨0, 0, 0, ByteArray.empty⟩
def ZaM (xs : List In) (j : Nat) : List In := xs.take j ++ List.replicate (xs.length - j) ZfC
theorem ZdG (xs : List In) (j : Nat) (h : j <= xs.length) : (ZaM xs j).length = xs.length := by simp [ZaM]; omega
theorem Zen (xs : List In) : ZaM xs xs.length = xs := by simp [ZaM]
theorem Zhx (n : Nat) : incs (List.replicate n ZfC) = (madeCells #[Value.int .i64 0, .int .i64 0, .int .i64 0, .string ByteArray.empty] (n * 4)).toList := by
 apply List.ext_getElem?
 intro j
 by_cases hj : j < n * 4
 ·have hq : j / 4 < n := by omega
  rw [show j = j / 4 * 4 + j % 4 by omega, ZgG _ (j / 4) ZfC (by simp [hq]) (j % 4) (by omega)]
  rw [show j / 4 * 4 + j % 4 = j by omega]
  have h5 : j % 4 = 0 \/ j % 4 = 1 \/ j % 4 = 2 \/ j % 4 = 3 := by omega
  rcases h5 with h5 | h5 | h5 | h5 <;> simp [madeCells, hj, h5, ZfC, In.cs]
 ·rw [List.getElem?_eq_none (by rw [Zdc, List.length_replicate]; omega), List.getElem?_eq_none (by simp [madeCells]; omega)]
theorem ZeP (xs : List In) : incs (ZaM xs 0) = (madeCells #[Value.int .i64 0, .int .i64 0, .int .i64 0, .string ByteArray.empty] (xs.length * 4)).toList := by
 rw [<- Zhx]; simp [ZaM]
theorem ZeZ (xs : List In) (j : Nat) (h : j < xs.length) : (ZaM xs j).set j xs[j] = ZaM xs (j + 1) := by
 unfold ZaM
 rw [show xs.length - j = xs.length - (j + 1) + 1 by omega, List.replicate_succ, List.take_succ_eq_append_getElem h]
 rw [List.set_append_right _ _ (by simp; omega)]
 have e : j - (List.take j xs).length = 0 := by simp; omega
 rw [e, List.set_cons_zero, List.append_assoc]
 rfl
set_option maxHeartbeats 800000 in
theorem ZiW (v : Value) (xs : List In) (w : World) (R : InRow w v xs) (hm : xs.length <= 2097152) :
  Calls Tryz.prog 45 #[v] w fun e w' => ∃ v', e = .returned v' /\ w'.ownsRow w.heap.size 165 4 v' xs.length (incs xs) /\ Below w.heap.size w w' := by
 obtain ⟨ao, cap, rfl, hcap, _, hz, hcell⟩ := R
 obtain ⟨i0, hi, hz0, hz1, hz2⟩ := info_parts Zmm
 have hbytes : i0.bytes * xs.length <= 281474976710656 := by rw [hz2]; omega
 have hmax : xs.length <= maxLen := by unfold maxLen; omega
 go_enter Tryz.func45, Tryz.ntmps45
 go_wp2_with (at_make; refine wpList_make_full _ rfl _ _ 41 rfl w.heap.size 165 i0 _ 4 Tryz.underlying41 hi hz0 hz1 _ _ _ _ xs.length rfl rfl rfl rfl hbytes hmax (Nat.le_refl _) ?_)
 intro w1 hown hgrow
 have hbel : Below w.heap.size w w1 := (Below.refl _ _).grown hgrow (Nat.le_refl _) (by intro k hk; cases hk)
 clear hgrow
 go_wp2
 go_loopw [4] (fun i wr => ∃ j : Nat, j <= xs.length /\ i = .int .i64 j /\ wr.ownsRow w.heap.size 165 4 (.slice (some ⟨w.heap.size, 0, none⟩) xs.length xs.length) xs.length (incs (ZaM xs j)) /\ Below w.heap.size w wr) (fun i _ => xs.length - (intOf i).toNat)
 case atStart => exact ⟨0, by omega, rfl, by rw [ZeP]; exact hown, hbel⟩
 case round =>
  clear hown hbel hbytes hmax
  obtain ⟨j, hj, rfl, hown, hbel⟩ := hrel
  by_cases hlt : j < xs.length
  ·obtain ⟨g, o, rfl, hg, hcell⟩ := hcell (by intro e; subst e; simp at hlt)
   obtain ⟨c0, c1, c2, c3⟩ := (hcell j xs[j] (by simp [hlt])).below hbel hg
   have HC := ZdG xs j hj
   clear hcell
   go_wp2_with fail
   refine (Zkx xs[j] _).mono ?_
   rintro e w2 ⟨rfl, hb2⟩
   have hown2 : w2.ownsRow w.heap.size 165 4 (.slice (some ⟨w.heap.size, 0, none⟩) (ZaM xs j).length xs.length) (ZaM xs j).length (incs (ZaM xs j)) := by
    rw [HC]; exact Zac hown hb2
   have hB2 := hbel.trans (hb2.mono hbel.size)
   clear c0 c1 c2 c3 hown hb2 hbel
   go_wp2_with (refine Zdu rfl _ _ rfl w.heap.size w.heap.size j xs.length (ZaM xs j) xs[j] rfl rfl (by omega) hown2 ?_)
   intro w3 hown3 hg3
   rw [ZeZ xs j hlt] at hown3
   have hB3 : Below w.heap.size w w3 := hB2.grown hg3 hB2.size (fun k hk => by simp at hk; omega)
   clear hown2 hg3
   go_wp2
   go_roundw
   case rel => exact ⟨j + 1, by omega, by go_num, hown3, hB3⟩
   case measure => simp [intOf]; omega
  ·go_wp2
   go_ret
   have : j = xs.length := by omega
   subst this
   rw [Zen] at hown
   exact ⟨_, rfl, hown, hbel⟩
set_option maxHeartbeats 800000 in
theorem Zi0 (v : Value) (xs : List In) (l : Int) (w : World) (R : InRow w v xs) (hl0 : 0 <= l) (hl1 : l <= 1048576) :
  Calls Tryz.prog 39 #[v, .int .i64 l] w fun e w' => ∃ r : Int, e = .returned (.int .i64 r) /\ -1 <= r /\ r <= 1048576 /\ (0 <= r -> xs.length <= 1048576 /\ ∀ x ∈ xs, x.s.size <= 1048576) /\ Below w.heap.size w w' := by
 obtain ⟨ao, cap, rfl, hcap, hm, hz, hcell⟩ := R
 by_cases hlen : (xs.length : Int) <= l
 ·go_enter Tryz.func39, Tryz.ntmps39
  go_wp2
  go_loopw [1, 5] (fun l i wr => ∃ (k : Nat) (r : Int), k <= xs.length /\ i = .int .i64 k /\ l = .int .i64 r /\ 0 <= r /\ r <= 1048576 /\ Hid (∀ j x, xs[j]? = some x -> j < k -> x.s.size <= 1048576) /\ Below w.heap.size w wr) (fun _ i _ => xs.length - (intOf i).toNat)
  case atStart => exact ⟨0, _, by omega, rfl, rfl, by omega, by omega, fun j x _ h => by omega, Below.refl _ _⟩
  case round =>
   obtain ⟨k, r, hk, rfl, rfl, hr0, hr1, HA, hb⟩ := hrel
   by_cases hlt : k < xs.length
   ·obtain ⟨g, o, rfl, hg, hcell⟩ := hcell (by intro e; subst e; simp at hlt)
    obtain ⟨x, hx⟩ : ∃ x, xs[k]? = some x := ⟨xs[k], by simp [hlt]⟩
    obtain ⟨c0, c1, c2, c3⟩ := (hcell k x hx).below hb hg
    have hxs := hz x (List.mem_of_getElem? hx)
    have HX : Hid (xs[k]? = some x) := hx
    clear hcell hx
    go_wp2_with fail
    refine (Zkq x _ _ hxs hr0 hr1).mono ?_
    rintro e w2 ⟨rfl, hb2⟩
    have hB2 := hb.trans (hb2.mono hb.size)
    clear c0 c1 c2 c3 hb2
    by_cases hl : r < x.s.size
    ·rw [less, if_pos hl]
     go_wp2
     go_ret
     exact ⟨-1, rfl, by omega, by omega, fun h => by omega, hB2⟩
    ·rw [less, if_neg hl]
     go_wp2
     go_roundw
     case rel =>
      refine ⟨k + 1, _, by omega, by go_num, rfl, by omega, by omega, fun j y hy hj => ?_, hB2⟩
      by_cases e : j = k
      ·subst e
       rw [HX.out] at hy
       cases hy
       omega
      ·exact HA.out j y hy (by omega)
     case measure => simp [intOf]; omega
   ·go_wp2
    go_ret
    refine ⟨r, rfl, by omega, by omega, fun _ => ⟨by omega, fun x hx => ?_⟩, hb⟩
    obtain ⟨j, hj, e⟩ := List.getElem_of_mem hx
    exact HA.out j x (by rw [<- e]; simp [hj]) (by omega)
 ·go_enter Tryz.func39, Tryz.ntmps39
  go_wp2
  go_ret
  exact ⟨-1, rfl, by omega, by omega, fun h => by omega, Below.refl _ _⟩
set_option maxHeartbeats 800000 in
theorem Zix (va vb : Value) (xs : List In) (w : World) (Ra : InRow w va xs) (Rb : InRow w vb xs) :
  Calls Tryz.prog 52 #[va, vb] w fun e w' => e = .returned (.bool true) /\ Below w.heap.size w w' := by
 obtain ⟨aa, ca, rfl, hca, hm, hz, hcella⟩ := Ra
 obtain ⟨ab, cb, rfl, hcb, _, _, hcellb⟩ := Rb
 have hn : ((xs.length : Int) != (xs.length : Int)) = false := by simp
 go_enter Tryz.func52, Tryz.ntmps52
 go_wp2
 go_loopw [5] (fun i wr => ∃ k : Nat, k <= xs.length /\ i = .int .i64 k /\ Below w.heap.size w wr) (fun i _ => xs.length - (intOf i).toNat)
 case atStart => exact ⟨0, by omega, rfl, Below.refl _ _⟩
 case round =>
  obtain ⟨k, hk, rfl, hb⟩ := hrel
  by_cases hlt : k < xs.length
  ·obtain ⟨ga, oa, rfl, hga, hcella⟩ := hcella (by intro e; subst e; simp at hlt)
   obtain ⟨gb, ob, rfl, hgb, hcellb⟩ := hcellb (by intro e; subst e; simp at hlt)
   obtain ⟨x, hx⟩ : ∃ x, xs[k]? = some x := ⟨xs[k], by simp [hlt]⟩
   obtain ⟨c0, c1, c2, c3⟩ := (hcella k x hx).below hb hga
   obtain ⟨d0, d1, d2, d3⟩ := (hcellb k x hx).below hb hgb
   clear hcella hcellb hx
   go_wp2_with fail
   go_region_with (go_at_call 102; refine (ZkB x _).mono ?_; rintro e w2 ⟨rfl, hb2⟩)
   all_goals
    have hB2 : Below w.heap.size w w2 := hb.drew.trans (hb2.mono hb.size)
    clear c0 c1 c2 c3 d0 d1 d2 d3 hb2
    go_wp2
    go_roundw
    case rel => exact ⟨k + 1, by omega, by go_num, hB2⟩
    case measure => simp [intOf]; omega
  ·go_wp2
   go_ret
   exact ⟨rfl, hb⟩
structure Df where
 s : ByteArray
 p : Int
 m : Int
def Df.cs (x : Df) : List Value := [.string x.s, .int .i64 x.p, .int .i64 x.m]
def dfcs (xs : List Df) : List Value := xs.flatMap Df.cs
theorem Zdj (x : Df) (xs : List Df) : dfcs (x :: xs) = x.cs ++ dfcs xs := rfl
theorem Zdi (xs : List Df) : (dfcs xs).length = xs.length * 3 := by
 induction xs with
 | nil => rfl
 | cons x xs ih => rw [Zdj, List.length_append, ih, List.length_cons]; simp [Df.cs]; omega
theorem Zg1 (xs : List Df) (i : Nat) (x : Df) (h : xs[i]? = some x) (j : Nat) (hj : j < 3) : (dfcs xs)[i * 3 + j]? = x.cs[j]? := by
 induction xs generalizing i with
 | nil => simp at h
 | cons y ys ih =>
  rw [Zdj]
  cases i with
  | zero =>
   simp at h; subst h
   rw [Nat.zero_mul, Nat.zero_add, List.getElem?_append_left (by simpa [Df.cs] using hj)]
  | succ i =>
   rw [List.getElem?_append_right (by simp [Df.cs]; omega)]
   rw [show (i + 1) * 3 + j - y.cs.length = i * 3 + j by simp [Df.cs]; omega]
   exact ih i (by simpa using h)
theorem Zeu (xs : List Df) (i : Nat) (x x' : Df) (h : xs[i]? = some x) (j : Nat) (hj : j < 3) (u : Value) (e : x.cs.set j u = x'.cs) : (dfcs xs).set (i * 3 + j) u = dfcs (xs.set i x') := by
 induction xs generalizing i with
 | nil => simp at h
 | cons y ys ih =>
  rw [Zdj]
  cases i with
  | zero =>
   simp at h; subst h
   rw [Nat.zero_mul, Nat.zero_add, List.set_append_left _ _ (by simpa [Df.cs] using hj), e]
   rfl
  | succ i =>
   rw [List.set_append_right _ _ (by simp [Df.cs]; omega)]
   rw [show (i + 1) * 3 + j - y.cs.length = i * 3 + j by simp [Df.cs]; omega, ih i (by simpa using h)]
   rfl
theorem ZjB (xs : List Df) (i : Nat) (x x' : Df) (h : xs[i]? = some x) (u : Value) (e : x.cs.set 0 u = x'.cs) : (dfcs xs).set (i * 3) u = dfcs (xs.set i x') :=
 Zeu xs i x x' h 0 (by omega) u e
theorem Df.one (x : Df) : ∀ u ∈ x.cs, u.oneCell' = true := by
 intro u hu
 simp only [Df.cs, List.mem_cons, List.not_mem_nil, or_false] at hu
 rcases hu with rfl | rfl | rfl <;> rfl
def DfAt (w : World) (g o : Nat) (x : Df) : Prop :=
 w.cell? ⟨g, o, none⟩ = some (.string x.s) /\ w.cell? ⟨g, o + 1, none⟩ = some (.int .i64 x.p) /\ w.cell? ⟨g, o + 2, none⟩ = some (.int .i64 x.m)
theorem DfAt.below {w w' : World} {g o B : Nat} {x : Df} (h : DfAt w g o x) (hb : Below B w w') (hg : g < B) : DfAt w' g o x :=
 ⟨(hb.cell (p := ⟨g, o, none⟩) hg).trans h.1, (hb.cell (p := ⟨g, o + 1, none⟩) hg).trans h.2.1, (hb.cell (p := ⟨g, o + 2, none⟩) hg).trans h.2.2⟩
def DfRow (w : World) (v : Value) (xs : List Df) : Prop :=
 ∃ ao cap, v = .slice ao xs.length cap /\ (xs.length <= cap /\ (ao = none -> cap = 0)) /\ xs.length <= 9223372036854775807 /\ (∀ x ∈ xs, x.s.size <= maxLen) /\
  (xs ≠ [] -> ∃ g o, ao = some ⟨g, o, none⟩ /\ g < w.heap.size /\ ∀ i x, xs[i]? = some x -> DfAt w g (o + i * 3) x)
theorem DfRow.small {w : World} {v : Value} {xs : List Df} (R : DfRow w v xs) : ∃ ao cap, v = .slice ao xs.length cap := by
 obtain ⟨ao, cap, rfl, _⟩ := R
 exact ⟨ao, cap, rfl⟩
theorem DfRow.below {w w' : World} {v : Value} {xs : List Df} (h : DfRow w v xs) (hb : Below w.heap.size w w') : DfRow w' v xs := by
 obtain ⟨ao, cap, rfl, hc, hm, hz, hcell⟩ := h
 refine ⟨ao, cap, rfl, hc, hm, hz, fun hne => ?_⟩
 obtain ⟨g, o, rfl, hg, hcell⟩ := hcell hne
 exact ⟨g, o, rfl, Nat.lt_of_lt_of_le hg hb.size, fun i x hi => (hcell i x hi).below hb hg⟩
theorem DfRow.of_own {w : World} {base : Nat} {v : Value} {xs : List Df} (h : w.ownsRow base 167 3 v xs.length (dfcs xs)) (hm : xs.length <= 9223372036854775807) (hz : ∀ x ∈ xs, x.s.size <= maxLen) : DfRow w v xs := by
 rcases h.2 with ⟨rfl, h0⟩ | ⟨g, cap, cur, rfl, hb, hg, hnc, hcm, hcs, htake⟩
 ·have : xs = [] := List.eq_nil_of_length_eq_zero h0
  subst this
  exact ⟨none, 0, rfl, by simp, by simp, by simp, fun h => absurd rfl h⟩
 ·refine ⟨_, cap, rfl, ⟨hnc, fun h => by cases h⟩, hm, hz, fun _ => ⟨g, 0, rfl, (bl hg), fun i x hi => ?_⟩⟩
  have hl : i < xs.length := (List.getElem?_eq_some_iff.1 hi).1
  have e : ∀ j, j < 3 -> w.cell? ⟨g, 0 + i * 3 + j, none⟩ = x.cs[j]? := fun j hj => by
   have := h.cellAt (i * 3 + j) (by omega)
   rw [Nat.zero_add, this, Zg1 xs i x hi j hj]
  exact ⟨e 0 (by omega), e 1 (by omega), e 2 (by omega)⟩
theorem Zmu : (Tryz.prog.info? 167).map (fun i => (i.zero, i.size, i.bytes)) = some (some (.agg #[.string ByteArray.empty, .int .i64 0, .int .i64 0]), 3, 32) := by kernel_rfl
theorem Zmo : (Tryz.prog.info? 167).map (·.size) = some 3 := by kernel_rfl
theorem ZdA {ops : Array Oper} {rest : List Oper} {op : Oper} {a : Act} {w : World} {Q : Exit -> Act -> World -> Prop} (hgd : op.guard = none) (x y : Operand) (ho : op.op = .store 167 x y)
  (base g i cap : Nat) (xs : List Df) (nd : Df) (hx : a.eval x = .pointer (some ⟨g, i * 3, none⟩)) (hy : a.eval y = .agg #[.string nd.s, .int .i64 nd.p, .int .i64 nd.m])
  (hi : i < xs.length) (hown : w.ownsRow base 167 3 (.slice (some ⟨g, 0, none⟩) xs.length cap) xs.length (dfcs xs))
  (h : ∀ w2 : World, w2.ownsRow base 167 3 (.slice (some ⟨g, 0, none⟩) xs.length cap) xs.length (dfcs (xs.set i nd)) -> w.grownBy w2 (some g) -> wpList Tryz.prog ops Q rest (a.put op.dst undef) w2) : wpList Tryz.prog ops Q (op :: rest) a w := by
 have ht : w.there g (i * 3) 3 := fun j hj => by
  have := hown.cellAt (i * 3 + j) (by omega)
  refine ⟨?_, hown.frozenAt _⟩
  rw [this, List.getElem?_eq_getElem (by rw [Zdi]; omega)]
  rfl
 refine wpList_store_mid hgd 167 x y ho g (i * 3) _ hx hy ht Zmo (all_oneCell_toArray nd.one) ?_
 have e0 : xs[i]? = some xs[i] := List.getElem?_eq_getElem hi
 have get : ∀ y : Df, (xs.set i y)[i]? = some y := fun y => by simp [hi]
 have s0 := hown.stored (i * 3) (.string nd.s)
 rw [ZjB xs i xs[i] ⟨nd.s, xs[i].p, xs[i].m⟩ e0 _ rfl] at s0
 have s1 := s0.1.stored (i * 3 + 1) (.int .i64 nd.p)
 rw [Zeu (xs.set i ⟨nd.s, xs[i].p, xs[i].m⟩) i ⟨nd.s, xs[i].p, xs[i].m⟩ ⟨nd.s, nd.p, xs[i].m⟩ (get _) 1 (by omega) (.int .i64 nd.p) rfl, List.set_set] at s1
 have s2 := s1.1.stored (i * 3 + 2) (.int .i64 nd.m)
 rw [Zeu (xs.set i ⟨nd.s, nd.p, xs[i].m⟩) i ⟨nd.s, nd.p, xs[i].m⟩ ⟨nd.s, nd.p, nd.m⟩ (get _) 2 (by omega) (.int .i64 nd.m) rfl, List.set_set] at s2
 exact h _ s2.1 ((s0.2.trans s1.2).trans s2.2)
set_option maxHeartbeats 400000 in
theorem Zj7 (x : Df) (w : World) :
  Calls Tryz.prog 97 #[.agg #[.string x.s, .int .i64 x.p, .int .i64 x.m]] w fun e w' => e = .returned (.agg #[.string x.s, .int .i64 x.p, .int .i64 x.m]) /\ Below w.heap.size w w' := by
 go_enter Tryz.func97, Tryz.ntmps97
 go_wp2
 exact bodyPost_ret (results_cell_row rfl _ _ (w.heap.size + 1) 167 _ (0, 0) _ rfl ((heap_alloc_old _ _ (by simp)).trans (heap_alloc2_new _ _ _)) Tryz.underlying167 rfl Zmo) rfl
  ⟨rfl, (((Below.refl _ _).alloc (Nat.le_refl _) _).alloc (by simp) _).alloc (by simp; omega) _⟩
set_option maxHeartbeats 400000 in
theorem Zkk (x : Df) (l : Int) (w : World) (hs : x.s.size <= maxLen) (hl : 0 <= l) (hl2 : l <= 1048576) :
  Calls Tryz.prog 91 #[.agg #[.string x.s, .int .i64 x.p, .int .i64 x.m], .int .i64 l] w fun e w' => e = .returned (.int .i64 (less l x.s.size)) /\ Below w.heap.size w w' := by
 unfold maxLen at hs
 go_enter Tryz.func91, Tryz.ntmps91
 by_cases h : l < x.s.size
 ·have HL : Hid (less l x.s.size = -1) := by unfold Hid less; rw [if_pos h]
  go_wp2
  go_ret
  exact ⟨by rw [HL.out]; rfl, (Below.refl _ _).alloc (Nat.le_refl _) _⟩
 ·have HL : Hid (less l x.s.size = l - x.s.size) := by unfold Hid less; rw [if_neg h]
  go_wp2
  go_ret
  exact ⟨by rw [HL.out]; rfl, (Below.refl _ _).alloc (Nat.le_refl _) _⟩
set_option maxHeartbeats 800000 in
theorem Zj8 (x : Df) (w : World) :
  Calls Tryz.prog 103 #[.agg #[.string x.s, .int .i64 x.p, .int .i64 x.m], .agg #[.string x.s, .int .i64 x.p, .int .i64 x.m]] w fun e w' => e = .returned (.bool true) /\ Below w.heap.size w w' := by
 go_enter Tryz.func103, Tryz.ntmps103
 go_wp2
 go_ret
 exact ⟨rfl, ((Below.refl _ _).alloc (Nat.le_refl _) _).alloc (by simp) _⟩
def Zfn : Df := ⟨ByteArray.empty, 0, 0⟩
def ZaK (xs : List Df) (j : Nat) : List Df := xs.take j ++ List.replicate (xs.length - j) Zfn
theorem Zdl (xs : List Df) (j : Nat) (h : j <= xs.length) : (ZaK xs j).length = xs.length := by simp [ZaK]; omega
theorem ZeM (xs : List Df) : ZaK xs xs.length = xs := by simp [ZaK]
theorem Zhr (n : Nat) : dfcs (List.replicate n Zfn) = (madeCells #[Value.string ByteArray.empty, .int .i64 0, .int .i64 0] (n * 3)).toList := by
 apply List.ext_getElem?
 intro j
 by_cases hj : j < n * 3
 ·have hq : j / 3 < n := by omega
  rw [show j = j / 3 * 3 + j % 3 by omega, Zg1 _ (j / 3) Zfn (by simp [hq]) (j % 3) (by omega)]
  rw [show j / 3 * 3 + j % 3 = j by omega]
  have h5 : j % 3 = 0 \/ j % 3 = 1 \/ j % 3 = 2 := by omega
  rcases h5 with h5 | h5 | h5 <;> simp [madeCells, hj, h5, Zfn, Df.cs]
 ·rw [List.getElem?_eq_none (by rw [Zdi, List.length_replicate]; omega), List.getElem?_eq_none (by simp [madeCells]; omega)]
theorem ZeK (xs : List Df) : dfcs (ZaK xs 0) = (madeCells #[Value.string ByteArray.empty, .int .i64 0, .int .i64 0] (xs.length * 3)).toList := by
 rw [<- Zhr]; simp [ZaK]
theorem ZfQ (xs : List Df) (j : Nat) (h : j < xs.length) : (ZaK xs j).set j xs[j] = ZaK xs (j + 1) := by
 unfold ZaK
 rw [show xs.length - j = xs.length - (j + 1) + 1 by omega, List.replicate_succ, List.take_succ_eq_append_getElem h]
 rw [List.set_append_right _ _ (by simp; omega)]
 have e : j - (List.take j xs).length = 0 := by simp; omega
 rw [e, List.set_cons_zero, List.append_assoc]
 rfl
set_option maxHeartbeats 800000 in
theorem Zjk (v : Value) (xs : List Df) (w : World) (R : DfRow w v xs) (hm : xs.length <= 2097152) :
  Calls Tryz.prog 46 #[v] w fun e w' => ∃ v', e = .returned v' /\ w'.ownsRow w.heap.size 167 3 v' xs.length (dfcs xs) /\ Below w.heap.size w w' := by
 obtain ⟨ao, cap, rfl, hcap, _, hz, hcell⟩ := R
 obtain ⟨i0, hi, hz0, hz1, hz2⟩ := info_parts Zmu
 have hbytes : i0.bytes * xs.length <= 281474976710656 := by rw [hz2]; omega
 have hmax : xs.length <= maxLen := by unfold maxLen; omega
 go_enter Tryz.func46, Tryz.ntmps46
 go_wp2_with (at_make; refine wpList_make_full _ rfl _ _ 42 rfl w.heap.size 167 i0 _ 3 Tryz.underlying42 hi hz0 hz1 _ _ _ _ xs.length rfl rfl rfl rfl hbytes hmax (Nat.le_refl _) ?_)
 intro w1 hown hgrow
 have hbel : Below w.heap.size w w1 := (Below.refl _ _).grown hgrow (Nat.le_refl _) (by intro k hk; cases hk)
 clear hgrow
 go_wp2
 go_loopw [4] (fun i wr => ∃ j : Nat, j <= xs.length /\ i = .int .i64 j /\ wr.ownsRow w.heap.size 167 3 (.slice (some ⟨w.heap.size, 0, none⟩) xs.length xs.length) xs.length (dfcs (ZaK xs j)) /\ Below w.heap.size w wr) (fun i _ => xs.length - (intOf i).toNat)
 case atStart => exact ⟨0, by omega, rfl, by rw [ZeK]; exact hown, hbel⟩
 case round =>
  clear hown hbel hbytes hmax
  obtain ⟨j, hj, rfl, hown, hbel⟩ := hrel
  by_cases hlt : j < xs.length
  ·obtain ⟨g, o, rfl, hg, hcell⟩ := hcell (by intro e; subst e; simp at hlt)
   obtain ⟨c0, c1, c2⟩ := (hcell j xs[j] (by simp [hlt])).below hbel hg
   have HC := Zdl xs j hj
   clear hcell
   go_wp2_with fail
   refine (Zj7 xs[j] _).mono ?_
   rintro e w2 ⟨rfl, hb2⟩
   have hown2 : w2.ownsRow w.heap.size 167 3 (.slice (some ⟨w.heap.size, 0, none⟩) (ZaK xs j).length xs.length) (ZaK xs j).length (dfcs (ZaK xs j)) := by
    rw [HC]; exact Zac hown hb2
   have hB2 := hbel.trans (hb2.mono hbel.size)
   clear c0 c1 c2 hown hb2 hbel
   go_wp2_with (refine ZdA rfl _ _ rfl w.heap.size w.heap.size j xs.length (ZaK xs j) xs[j] rfl rfl (by omega) hown2 ?_)
   intro w3 hown3 hg3
   rw [ZfQ xs j hlt] at hown3
   have hB3 : Below w.heap.size w w3 := hB2.grown hg3 hB2.size (fun k hk => by simp at hk; omega)
   clear hown2 hg3
   go_wp2
   go_roundw
   case rel => exact ⟨j + 1, by omega, by go_num, hown3, hB3⟩
   case measure => simp [intOf]; omega
  ·go_wp2
   go_ret
   have : j = xs.length := by omega
   subst this
   rw [ZeM] at hown
   exact ⟨_, rfl, hown, hbel⟩
set_option maxHeartbeats 800000 in
theorem Zjb (v : Value) (xs : List Df) (l : Int) (w : World) (R : DfRow w v xs) (hl0 : 0 <= l) (hl1 : l <= 1048576) :
  Calls Tryz.prog 40 #[v, .int .i64 l] w fun e w' => ∃ r : Int, e = .returned (.int .i64 r) /\ -1 <= r /\ r <= 1048576 /\ (0 <= r -> xs.length <= 1048576 /\ ∀ x ∈ xs, x.s.size <= 1048576) /\ Below w.heap.size w w' := by
 obtain ⟨ao, cap, rfl, hcap, hm, hz, hcell⟩ := R
 by_cases hlen : (xs.length : Int) <= l
 ·go_enter Tryz.func40, Tryz.ntmps40
  go_wp2
  go_loopw [1, 5] (fun l i wr => ∃ (k : Nat) (r : Int), k <= xs.length /\ i = .int .i64 k /\ l = .int .i64 r /\ 0 <= r /\ r <= 1048576 /\ Hid (∀ j x, xs[j]? = some x -> j < k -> x.s.size <= 1048576) /\ Below w.heap.size w wr) (fun _ i _ => xs.length - (intOf i).toNat)
  case atStart => exact ⟨0, _, by omega, rfl, rfl, by omega, by omega, fun j x _ h => by omega, Below.refl _ _⟩
  case round =>
   obtain ⟨k, r, hk, rfl, rfl, hr0, hr1, HA, hb⟩ := hrel
   by_cases hlt : k < xs.length
   ·obtain ⟨g, o, rfl, hg, hcell⟩ := hcell (by intro e; subst e; simp at hlt)
    obtain ⟨x, hx⟩ : ∃ x, xs[k]? = some x := ⟨xs[k], by simp [hlt]⟩
    obtain ⟨c0, c1, c2⟩ := (hcell k x hx).below hb hg
    have hxs := hz x (List.mem_of_getElem? hx)
    have HX : Hid (xs[k]? = some x) := hx
    clear hcell hx
    go_wp2_with fail
    refine (Zkk x _ _ hxs hr0 hr1).mono ?_
    rintro e w2 ⟨rfl, hb2⟩
    have hB2 := hb.trans (hb2.mono hb.size)
    clear c0 c1 c2 hb2
    by_cases hl : r < x.s.size
    ·rw [less, if_pos hl]
     go_wp2
     go_ret
     exact ⟨-1, rfl, by omega, by omega, fun h => by omega, hB2⟩
    ·rw [less, if_neg hl]
     go_wp2
     go_roundw
     case rel =>
      refine ⟨k + 1, _, by omega, by go_num, rfl, by omega, by omega, fun j y hy hj => ?_, hB2⟩
      by_cases e : j = k
      ·subst e
       rw [HX.out] at hy
       cases hy
       omega
      ·exact HA.out j y hy (by omega)
     case measure => simp [intOf]; omega
   ·go_wp2
    go_ret
    refine ⟨r, rfl, by omega, by omega, fun _ => ⟨by omega, fun x hx => ?_⟩, hb⟩
    obtain ⟨j, hj, e⟩ := List.getElem_of_mem hx
    exact HA.out j x (by rw [<- e]; simp [hj]) (by omega)
 ·go_enter Tryz.func40, Tryz.ntmps40
  go_wp2
  go_ret
  exact ⟨-1, rfl, by omega, by omega, fun h => by omega, Below.refl _ _⟩
set_option maxHeartbeats 800000 in
theorem Zjm (va vb : Value) (xs : List Df) (w : World) (Ra : DfRow w va xs) (Rb : DfRow w vb xs) :
  Calls Tryz.prog 53 #[va, vb] w fun e w' => e = .returned (.bool true) /\ Below w.heap.size w w' := by
 obtain ⟨aa, ca, rfl, hca, hm, hz, hcella⟩ := Ra
 obtain ⟨ab, cb, rfl, hcb, _, _, hcellb⟩ := Rb
 have hn : ((xs.length : Int) != (xs.length : Int)) = false := by simp
 go_enter Tryz.func53, Tryz.ntmps53
 go_wp2
 go_loopw [5] (fun i wr => ∃ k : Nat, k <= xs.length /\ i = .int .i64 k /\ Below w.heap.size w wr) (fun i _ => xs.length - (intOf i).toNat)
 case atStart => exact ⟨0, by omega, rfl, Below.refl _ _⟩
 case round =>
  obtain ⟨k, hk, rfl, hb⟩ := hrel
  by_cases hlt : k < xs.length
  ·obtain ⟨ga, oa, rfl, hga, hcella⟩ := hcella (by intro e; subst e; simp at hlt)
   obtain ⟨gb, ob, rfl, hgb, hcellb⟩ := hcellb (by intro e; subst e; simp at hlt)
   obtain ⟨x, hx⟩ : ∃ x, xs[k]? = some x := ⟨xs[k], by simp [hlt]⟩
   obtain ⟨c0, c1, c2⟩ := (hcella k x hx).below hb hga
   obtain ⟨d0, d1, d2⟩ := (hcellb k x hx).below hb hgb
   clear hcella hcellb hx
   go_wp2_with fail
   go_region_with (go_at_call 103; refine (Zj8 x _).mono ?_; rintro e w2 ⟨rfl, hb2⟩)
   all_goals
    have hB2 : Below w.heap.size w w2 := hb.drew.trans (hb2.mono hb.size)
    clear c0 c1 c2 d0 d1 d2 hb2
    go_wp2
    go_roundw
    case rel => exact ⟨k + 1, by omega, by go_num, hB2⟩
    case measure => simp [intOf]; omega
  ·go_wp2
   go_ret
   exact ⟨rfl, hb⟩
theorem NRow.small {w : World} {v : Value} {xs : List Nd} (R : NRow w v xs) : ∃ ao cap, v = .slice ao xs.length cap := by
 obtain ⟨ao, cap, rfl, _⟩ := R
 exact ⟨ao, cap, rfl⟩
theorem NRow.sz {w : World} {v : Value} {xs : List Nd} (R : NRow w v xs) : ∀ x ∈ xs, x.s.size <= maxLen := by obtain ⟨_, _, _, _, _, hz, _⟩ := R; exact hz
theorem InRow.sz {w : World} {v : Value} {xs : List In} (R : InRow w v xs) : ∀ x ∈ xs, x.s.size <= maxLen := by obtain ⟨_, _, _, _, _, hz, _⟩ := R; exact hz
theorem DfRow.sz {w : World} {v : Value} {xs : List Df} (R : DfRow w v xs) : ∀ x ∈ xs, x.s.size <= maxLen := by obtain ⟨_, _, _, _, _, hz, _⟩ := R; exact hz
set_option maxHeartbeats 800000 in
theorem Zhy (v1 v2 v3 : Value) (ns : List Nd) (is : List In) (ds : List Df) (w : World) (R1 : NRow w v1 ns) (R2 : InRow w v2 is) (R3 : DfRow w v3 ds) :
  Calls Tryz.prog 10 #[.agg #[v1, v2, v3], .int .i64 1048576] w fun e w' => ∃ r : Int, e = .returned (.int .i64 r) /\ -1 <= r /\ r <= 1048576 /\ (0 <= r -> ns.length <= 1048576 /\ is.length <= 1048576 /\ ds.length <= 1048576) /\ Below w.heap.size w w' := by
 obtain ⟨a1, c1, rfl⟩ := R1.small
 obtain ⟨a2, c2, rfl⟩ := R2.small
 obtain ⟨a3, c3, rfl⟩ := R3.small
 go_enter Tryz.func10, Tryz.ntmps10
 go_wp2_with fail
 have hB0 : Below w.heap.size w (w.alloc (Obj.cells #[.slice a1 ns.length c1, .slice a2 is.length c2, .slice a3 ds.length c3] 28)) := (Below.refl _ _).alloc (Nat.le_refl _) _
 refine (Zh0 _ ns _ (R1.below hB0)).mono ?_
 rintro e w1 ⟨r1, rfl, h0, h1, h2, hb1⟩
 have hx1 : w1.heap[w.heap.size]? = some (.cells #[.slice a1 ns.length c1, .slice a2 is.length c2, .slice a3 ds.length c3] 28 (0, 0)) := (hb1.block _ (by simp)).trans (heap_alloc_new _ _)
 have hB1 := hB0.trans (hb1.mono hB0.size)
 have hc1 : w1.cell? ⟨w.heap.size, 0 + 1, none⟩ = some (.slice a2 is.length c2) := by rw [cell_of_row w1 _ 1 _ _ _ hx1]; rfl
 have hsz1 := (bl hx1)
 clear hB0 hb1
 by_cases hr : r1 < 0
 ·have HR : Hid (r1 = -1) := by unfold Hid; omega
  go_wp2
  go_ret
  exact ⟨-1, rfl, by omega, by omega, fun h => by omega, hB1⟩
 ·have h2 := h2 (by omega)
  go_wp2_with fail
  refine (Zi0 _ is r1 _ (R2.below hB1) (by omega) (by omega)).mono ?_
  rintro e w2 ⟨r2, rfl, k0, k1, k2, hb2⟩
  have hx2 := (hb2.block _ hsz1).trans hx1
  have hB2 := hB1.trans (hb2.mono hB1.size)
  have hc2 : w2.cell? ⟨w.heap.size, 0 + 2, none⟩ = some (.slice a3 ds.length c3) := by rw [cell_of_row w2 _ 2 _ _ _ hx2]; rfl
  clear hc1 hx1 hB1 hb2
  by_cases hr2 : r2 < 0
  ·have HR : Hid (r2 = -1) := by unfold Hid; omega
   go_wp2
   go_ret
   exact ⟨-1, rfl, by omega, by omega, fun h => by omega, hB2⟩
  ·have k2 := k2 (by omega)
   go_wp2_with fail
   refine (Zjb _ ds r2 _ (R3.below hB2) (by omega) (by omega)).mono ?_
   rintro e w3 ⟨r3, rfl, l0, l1, l2, hb3⟩
   have hB3 := hB2.trans (hb3.mono hB2.size)
   clear hc2 hx2 hb3 hB2
   by_cases hr3 : r3 < 0
   ·have HR : Hid (r3 = -1) := by unfold Hid; omega
    go_wp2
    go_ret
    exact ⟨-1, rfl, by omega, by omega, fun h => by omega, hB3⟩
   ·have l2 := l2 (by omega)
    go_wp2
    go_ret
    exact ⟨r3, rfl, by omega, by omega, fun _ => ⟨h2.1, k2.1, l2.1⟩, hB3⟩
set_option maxHeartbeats 800000 in
theorem Zha (v1 v2 v3 u1 u2 u3 : Value) (ns : List Nd) (is : List In) (ds : List Df) (w : World) (R1 : NRow w v1 ns) (R2 : InRow w v2 is) (R3 : DfRow w v3 ds) (S1 : NRow w u1 ns) (S2 : InRow w u2 is) (S3 : DfRow w u3 ds) :
  Calls Tryz.prog 14 #[.agg #[v1, v2, v3], .agg #[u1, u2, u3]] w fun e w' => e = .returned (.bool true) /\ Below w.heap.size w w' := by
 obtain ⟨a1, c1, rfl⟩ := R1.small
 obtain ⟨a2, c2, rfl⟩ := R2.small
 obtain ⟨a3, c3, rfl⟩ := R3.small
 obtain ⟨b1, d1, rfl⟩ := S1.small
 obtain ⟨b2, d2, rfl⟩ := S2.small
 obtain ⟨b3, d3, rfl⟩ := S3.small
 go_enter Tryz.func14, Tryz.ntmps14
 go_wp2_with fail
 have hB0 : Below w.heap.size w ((w.alloc (Obj.cells #[.slice a1 ns.length c1, .slice a2 is.length c2, .slice a3 ds.length c3] 44)).alloc (Obj.cells #[.slice b1 ns.length d1, .slice b2 is.length d2, .slice b3 ds.length d3] 44)) := ((Below.refl _ _).alloc (Nat.le_refl _) _).alloc (by simp) _
 refine (Zej _ _ ns _ (R1.below hB0) (S1.below hB0)).mono ?_
 rintro e w1 ⟨rfl, hb1⟩
 have hx1 : w1.heap[w.heap.size]? = some (.cells #[.slice a1 ns.length c1, .slice a2 is.length c2, .slice a3 ds.length c3] 44 (0, 0)) := (hb1.block _ (by simp; omega)).trans ((heap_alloc_old _ _ (by simp)).trans (heap_alloc_new _ _))
 have hy1 : w1.heap[w.heap.size + 1]? = some (.cells #[.slice b1 ns.length d1, .slice b2 is.length d2, .slice b3 ds.length d3] 44 (0, 0)) := (hb1.block _ (by simp)).trans (heap_alloc2_new _ _ _)
 have hB1 := hB0.trans (hb1.mono hB0.size)
 have hc1 : w1.cell? ⟨w.heap.size, 0 + 1, none⟩ = some (.slice a2 is.length c2) := by rw [cell_of_row w1 _ 1 _ _ _ hx1]; rfl
 have hd1 : w1.cell? ⟨w.heap.size + 1, 0 + 1, none⟩ = some (.slice b2 is.length d2) := by rw [cell_of_row w1 _ 1 _ _ _ hy1]; rfl
 have hsx := (bl hx1)
 have hsy := (bl hy1)
 clear hB0 hb1
 go_wp2_with fail
 refine (Zix _ _ is _ (R2.below hB1) (S2.below hB1)).mono ?_
 rintro e w2 ⟨rfl, hb2⟩
 have hx2 := (hb2.block _ hsx).trans hx1
 have hy2 := (hb2.block _ hsy).trans hy1
 have hB2 := hB1.trans (hb2.mono hB1.size)
 have hc2 : w2.cell? ⟨w.heap.size, 0 + 2, none⟩ = some (.slice a3 ds.length c3) := by rw [cell_of_row w2 _ 2 _ _ _ hx2]; rfl
 have hd2 : w2.cell? ⟨w.heap.size + 1, 0 + 2, none⟩ = some (.slice b3 ds.length d3) := by rw [cell_of_row w2 _ 2 _ _ _ hy2]; rfl
 clear hc1 hd1 hx1 hy1 hB1 hb2
 go_wp2_with fail
 refine (Zjm _ _ ds _ (R3.below hB2) (S3.below hB2)).mono ?_
 rintro e w3 ⟨rfl, hb3⟩
 have hB3 := hB2.trans (hb3.mono hB2.size)
 clear hc2 hd2 hx2 hy2 hb3 hB2
 go_wp2
 go_ret
 exact ⟨rfl, hB3⟩
theorem ZmB : (Tryz.prog.info? 44).map (·.size) = some 3 := by kernel_rfl
set_option maxHeartbeats 1600000 in
theorem Zhf (v1 v2 v3 : Value) (ns : List Nd) (is : List In) (ds : List Df) (w : World) (R1 : NRow w v1 ns) (R2 : InRow w v2 is) (R3 : DfRow w v3 ds) (h1 : ns.length <= 2097152) (h2 : is.length <= 2097152) (h3 : ds.length <= 2097152) :
  Calls Tryz.prog 12 #[.agg #[v1, v2, v3]] w fun e w' => ∃ u1 u2 u3, e = .returned (.agg #[u1, u2, u3]) /\ w'.ownsRow w.heap.size 200 5 u1 ns.length (ncs ns) /\ w'.ownsRow w.heap.size 165 4 u2 is.length (incs is) /\ w'.ownsRow w.heap.size 167 3 u3 ds.length (dfcs ds) /\ Below w.heap.size w w' := by
 have hz1 := R1.sz
 have hz2 := R2.sz
 have hz3 := R3.sz
 obtain ⟨a1, c1, rfl⟩ := R1.small
 obtain ⟨a2, c2, rfl⟩ := R2.small
 obtain ⟨a3, c3, rfl⟩ := R3.small
 go_enter Tryz.func12, Tryz.ntmps12
 go_wp2_with fail
 have hB0 : Below w.heap.size w (((w.alloc (Obj.cells #[.slice a1 ns.length c1, .slice a2 is.length c2, .slice a3 ds.length c3] 28)).alloc (Obj.cells #[.slice none 0 0, .slice none 0 0, .slice none 0 0] 44)).alloc (Obj.cells #[.slice none 0 0, .slice none 0 0, .slice none 0 0] 44)) :=
  (((Below.refl _ _).alloc (Nat.le_refl _) _).alloc (by simp) _).alloc (by simp; omega) _
 refine (Zd6 _ ns _ (R1.below hB0) h1).mono ?_
 rintro e w1 ⟨u1, rfl, ho1, hb1⟩
 obtain ⟨b1, d1, rfl⟩ := Zae ho1
 have S1 := NRow.of_own ho1 (by omega) hz1
 have hx1 : w1.heap[w.heap.size]? = some (.cells #[.slice a1 ns.length c1, .slice a2 is.length c2, .slice a3 ds.length c3] 28 (0, 0)) := (hb1.block _ (by simp; omega)).trans ((heap_alloc_old _ _ (by simp; omega)).trans ((heap_alloc_old _ _ (by simp)).trans (heap_alloc_new _ _)))
 have hy1 : w1.heap[w.heap.size + 1]? = some (.cells #[.slice none 0 0, .slice none 0 0, .slice none 0 0] 44 (0, 0)) := (hb1.block _ (by simp)).trans ((heap_alloc_old _ _ (by simp)).trans (heap_alloc2_new _ _ _))
 have hv1 : w1.heap[w.heap.size + 1 + 1]? = some (.cells #[.slice none 0 0, .slice none 0 0, .slice none 0 0] 44 (0, 0)) := (hb1.block _ (by simp)).trans (Zbr _ _ _ _)
 have hB1 := hB0.trans (hb1.mono hB0.size)
 have ho1' : w1.ownsRow (w.heap.size + 3) 200 5 (.slice b1 ns.length d1) ns.length (ncs ns) := by simpa using ho1
 have cv1 : w1.cell? ⟨w.heap.size + 1 + 1, 0, none⟩ = some (.slice none 0 0) := by rw [cell_of_row w1 _ 0 _ _ _ hv1]; rfl
 have fv1 : w1.frozen? ⟨w.heap.size + 1 + 1, 0, none⟩ = false := frozen_of_row w1 _ 0 _ _ hv1
 have cx1 : w1.cell? ⟨w.heap.size, 0 + 1, none⟩ = some (.slice a2 is.length c2) := by rw [cell_of_row w1 _ 1 _ _ _ hx1]; rfl
 have hsv := (bl hv1)
 clear hB0 hb1 ho1
 go_wp2_with fail
 have hB1' : Below w.heap.size w (w1.setCell ⟨w.heap.size + 1 + 1, 0, none⟩ (.slice b1 ns.length d1)) := hB1.setCell (p := ⟨w.heap.size + 1 + 1, 0, none⟩) (by simp; omega) _
 refine (ZiW _ is _ (R2.below hB1') h2).mono ?_
 rintro e w2 ⟨u2, rfl, ho2, hb2⟩
 obtain ⟨b2, d2, rfl⟩ := Zae ho2
 have ho1'' := Zac (ownsRow_setCell_below ho1' (a := ⟨w.heap.size + 1 + 1, 0, none⟩) (by simp) (.slice b1 ns.length d1)) hb2
 have hx2 : w2.heap[w.heap.size]? = some (.cells #[.slice a1 ns.length c1, .slice a2 is.length c2, .slice a3 ds.length c3] 28 (0, 0)) := (hb2.block _ (by simp; omega)).trans ((heap_setCell_other w1 ⟨w.heap.size + 1 + 1, 0, none⟩ w.heap.size _ (by simp; omega)).trans hx1)
 have hy2 : w2.heap[w.heap.size + 1]? = some (.cells #[.slice none 0 0, .slice none 0 0, .slice none 0 0] 44 (0, 0)) := (hb2.block _ (by simp; omega)).trans ((heap_setCell_other w1 ⟨w.heap.size + 1 + 1, 0, none⟩ (w.heap.size + 1) _ (by simp)).trans hy1)
 have hv2 : w2.heap[w.heap.size + 1 + 1]? = some (.cells #[.slice b1 ns.length d1, .slice none 0 0, .slice none 0 0] 44 (0, 0)) := (hb2.block _ (by simp; omega)).trans (heap_setCell_same w1 (w.heap.size + 1 + 1) 0 _ _ (.slice b1 ns.length d1) hv1)
 have hB2 := hB1'.trans (hb2.mono hB1'.size)
 have ho2' : w2.ownsRow (w.heap.size + 3) 165 4 (.slice b2 is.length d2) is.length (incs is) := Zaf ho2 (by simp; omega)
 have cv2 : w2.cell? ⟨w.heap.size + 1 + 1, 0 + 1, none⟩ = some (.slice none 0 0) := by rw [cell_of_row w2 _ 1 _ _ _ hv2]; rfl
 have fv2 : w2.frozen? ⟨w.heap.size + 1 + 1, 0 + 1, none⟩ = false := frozen_of_row w2 _ 1 _ _ hv2
 have cx2 : w2.cell? ⟨w.heap.size, 0 + 2, none⟩ = some (.slice a3 ds.length c3) := by rw [cell_of_row w2 _ 2 _ _ _ hx2]; rfl
 have hsv2 := (bl hv2)
 clear hB1 hB1' hb2 ho1' ho2 hx1 hy1 hv1 cv1 fv1 cx1 hsv S1
 go_wp2_with fail
 have hB2' : Below w.heap.size w (w2.setCell ⟨w.heap.size + 1 + 1, 1, none⟩ (.slice b2 is.length d2)) := hB2.setCell (p := ⟨w.heap.size + 1 + 1, 1, none⟩) (by simp; omega) _
 refine (Zjk _ ds _ (R3.below hB2') h3).mono ?_
 rintro e w3 ⟨u3, rfl, ho3, hb3⟩
 obtain ⟨b3, d3, rfl⟩ := Zae ho3
 have hp1 := Zac (ownsRow_setCell_below ho1'' (a := ⟨w.heap.size + 1 + 1, 1, none⟩) (by simp) (.slice b2 is.length d2)) hb3
 have hp2 := Zac (ownsRow_setCell_below ho2' (a := ⟨w.heap.size + 1 + 1, 1, none⟩) (by simp) (.slice b2 is.length d2)) hb3
 have hy3 : w3.heap[w.heap.size + 1]? = some (.cells #[.slice none 0 0, .slice none 0 0, .slice none 0 0] 44 (0, 0)) := (hb3.block _ (by simp; omega)).trans ((heap_setCell_other w2 ⟨w.heap.size + 1 + 1, 1, none⟩ (w.heap.size + 1) _ (by simp)).trans hy2)
 have hv3 : w3.heap[w.heap.size + 1 + 1]? = some (.cells #[.slice b1 ns.length d1, .slice b2 is.length d2, .slice none 0 0] 44 (0, 0)) := (hb3.block _ (by simp; omega)).trans (heap_setCell_same w2 (w.heap.size + 1 + 1) 1 _ _ (.slice b2 is.length d2) hv2)
 have hB3 := hB2'.trans (hb3.mono hB2'.size)
 have hp3 : w3.ownsRow (w.heap.size + 3) 167 3 (.slice b3 ds.length d3) ds.length (dfcs ds) := Zaf ho3 (by simp; omega)
 have g0 : w3.cell? ⟨w.heap.size + 1 + 1, 0, none⟩ = some (.slice b1 ns.length d1) := by rw [cell_of_row w3 _ 0 _ _ _ hv3]; rfl
 have g1 : w3.cell? ⟨w.heap.size + 1 + 1, 0 + 1, none⟩ = some (.slice b2 is.length d2) := by rw [cell_of_row w3 _ 1 _ _ _ hv3]; rfl
 have g2 : w3.cell? ⟨w.heap.size + 1 + 1, 0 + 2, none⟩ = some (.slice none 0 0) := by rw [cell_of_row w3 _ 2 _ _ _ hv3]; rfl
 have gf : w3.frozen? ⟨w.heap.size + 1 + 1, 0 + 2, none⟩ = false := frozen_of_row w3 _ 2 _ _ hv3
 have k0 : w3.cell? ⟨w.heap.size + 1, 0, none⟩ = some (.slice none 0 0) := by rw [cell_of_row w3 _ 0 _ _ _ hy3]; rfl
 have k1 : w3.cell? ⟨w.heap.size + 1, 0 + 1, none⟩ = some (.slice none 0 0) := by rw [cell_of_row w3 _ 1 _ _ _ hy3]; rfl
 have k2 : w3.cell? ⟨w.heap.size + 1, 0 + 2, none⟩ = some (.slice none 0 0) := by rw [cell_of_row w3 _ 2 _ _ _ hy3]; rfl
 have f0 : w3.frozen? ⟨w.heap.size + 1, 0, none⟩ = false := frozen_of_row w3 _ 0 _ _ hy3
 have f1 : w3.frozen? ⟨w.heap.size + 1, 0 + 1, none⟩ = false := frozen_of_row w3 _ 1 _ _ hy3
 have f2 : w3.frozen? ⟨w.heap.size + 1, 0 + 2, none⟩ = false := frozen_of_row w3 _ 2 _ _ hy3
 clear hB2 hB2' hb3 ho1'' ho2' ho3 hx2 hy2 hv2 cv2 fv2 cx2 hsv2
 go_wp2
 have q0 := (heap_setCell_other w3 ⟨w.heap.size + 1 + 1, 2, none⟩ (w.heap.size + 1) (.slice b3 ds.length d3) (by simp)).trans hy3
 have q1 := heap_setCell_same _ (w.heap.size + 1) 0 _ _ (.slice b1 ns.length d1) q0
 have q2 := heap_setCell_same _ (w.heap.size + 1) 1 _ _ (.slice b2 is.length d2) q1
 have q3 := heap_setCell_same _ (w.heap.size + 1) 2 _ _ (.slice b3 ds.length d3) q2
 have up : ∀ {e : TypeId} {k : Nat} {v : Value} {n : Nat} {xs : List Value}, w3.ownsRow (w.heap.size + 3) e k v n xs -> ((((w3.setCell ⟨w.heap.size + 1 + 1, 2, none⟩ (.slice b3 ds.length d3)).setCell ⟨w.heap.size + 1, 0, none⟩ (.slice b1 ns.length d1)).setCell ⟨w.heap.size + 1, 1, none⟩ (.slice b2 is.length d2)).setCell ⟨w.heap.size + 1, 2, none⟩ (.slice b3 ds.length d3)).ownsRow (w.heap.size + 3) e k v n xs := fun h =>
  ownsRow_setCell_below (ownsRow_setCell_below (ownsRow_setCell_below (ownsRow_setCell_below h (by simp) _) (by simp) _) (by simp) _) (by simp) _
 refine bodyPost_ret (results_cell_row rfl _ _ (w.heap.size + 1) 44 _ (0, 0) _ rfl q3 Tryz.underlying44 rfl ZmB) rfl ⟨_, _, _, rfl, Zaf (up hp1) (by omega), Zaf (up hp2) (by omega), Zaf (up hp3) (by omega), ?_⟩
 exact (((hB3.setCell (p := ⟨w.heap.size + 1 + 1, 2, none⟩) (by simp; omega) _).setCell (p := ⟨w.heap.size + 1, 0, none⟩) (by simp) _).setCell (p := ⟨w.heap.size + 1, 1, none⟩) (by simp) _).setCell (p := ⟨w.heap.size + 1, 2, none⟩) (by simp) _
end Go.Proofs.YtbljoclnaeimoaaGreatDoor
