/-
  Texts that stood by themselves, laid into one.
-/
import Derived.Test.YtfmafkebddojjaaGreatDoorBsM
import Derived.Test.YtfmafkebddojjaaGreatDoorShapeM
import Derived.Test.YtfmafkebddojjaaGreatDoorNumberM
import Derived.Deep.RegionWith
import Derived.Deep.MidRow
/-
  Contracts of the laws' own helpers markNodeS, heldNodeS, markPool, heldPool: what is marked in a slice of the call's own is found there.
-/
set_option maxRecDepth 100000
set_option maxHeartbeats 1600000
namespace Go.Proofs.YtfmafkebddojjaaGreatDoor
open Go.RowKit
def mk (k : Int) : Nd := ⟨k, k + 1, mt (k + 1 + 1), k + 1 + 1 + 1, k + 1 + 1 + 1 + 1⟩
def ZlN (k : Int) (xs : List Nd) (i : Nat) : List Nd := (List.range i).map (fun (j : Nat) => mk (k + 5 * (j : Int))) ++ xs.drop i
def stv (xs : List ByteArray) : List Value := xs.map Value.string
theorem Zej (a b : List ByteArray) : stv (a ++ b) = stv a ++ stv b := by simp [stv]
theorem Zip (xs : List ByteArray) (i : Nat) (x : ByteArray) (h : xs[i]? = some x) : (stv xs)[i]? = some (.string x) := by simp [stv, h]
theorem Zk3 (xs : List ByteArray) (i : Nat) (x : ByteArray) : (stv xs).set i (.string x) = stv (xs.set i x) := by simp [stv, List.map_set]
theorem Zio (xs : List ByteArray) : ∀ u ∈ stv xs, u.oneCell' = true := by
 intro u hu
 simp only [stv, List.mem_map] at hu
 obtain ⟨x, _, rfl⟩ := hu
 rfl
theorem ZjQ (w : World) (n : Nat) : Below w.heap.size w (w.drewN n) := ⟨rfl, rfl, rfl, Nat.le_refl _, fun _ _ => rfl⟩
def StRow (w : World) (v : Value) (xs : List ByteArray) : Prop :=
 ∃ ao cap, v = .slice ao xs.length cap /\ (xs.length <= cap /\ (ao = none -> cap = 0)) /\ xs.length <= 9223372036854775807 /\ (∀ x ∈ xs, x.size <= maxLen) /\
  (xs ≠ [] -> ∃ g o, ao = some ⟨g, o, none⟩ /\ g < w.heap.size /\ ∀ i x, xs[i]? = some x -> w.cell? ⟨g, o + i, none⟩ = some (.string x))
theorem StRow.small {w : World} {v : Value} {xs : List ByteArray} (R : StRow w v xs) : ∃ ao cap, v = .slice ao xs.length cap := by
 obtain ⟨ao, cap, rfl, _⟩ := R
 exact ⟨ao, cap, rfl⟩
theorem StRow.below {w w' : World} {v : Value} {xs : List ByteArray} (h : StRow w v xs) (hb : Below w.heap.size w w') : StRow w' v xs := by
 obtain ⟨ao, cap, rfl, hc, hm, hz, hcell⟩ := h
 refine ⟨ao, cap, rfl, hc, hm, hz, fun hne => ?_⟩
 obtain ⟨g, o, rfl, hg, hcell⟩ := hcell hne
 exact ⟨g, o, rfl, Nat.lt_of_lt_of_le hg hb.size, fun i x hi => (hb.cell (p := ⟨g, o + i, none⟩) hg).trans (hcell i x hi)⟩
theorem StRow.nilcap {w : World} {ao : Option Addr} {n cap : Nat} {xs : List ByteArray} (h : StRow w (.slice ao n cap) xs) : ao = none -> n = 0 /\ cap = 0 := by
 obtain ⟨ao', cap', e, ⟨h1, h2⟩, _⟩ := h
 simp only [Value.slice.injEq] at e
 obtain ⟨rfl, rfl, rfl⟩ := e
 intro h
 have := h2 h
 omega
theorem StRow.cells {w : World} {ao : Option Addr} {n cap : Nat} {xs : List ByteArray} (h : StRow w (.slice ao n cap) xs) : ∀ ad, ao = some ad -> ∀ j u, (stv xs)[j]? = some u -> w.cell? (ad.add j) = some u := by
 obtain ⟨ao', cap', e, _, _, _, hc⟩ := h
 simp only [Value.slice.injEq] at e
 obtain ⟨rfl, rfl, rfl⟩ := e
 intro ad had j u hu
 simp only [stv, List.getElem?_map, Option.map_eq_some_iff] at hu
 obtain ⟨x, hx, rfl⟩ := hu
 obtain ⟨g, o, e, _, hcell⟩ := hc (by intro e; subst e; simp at hx)
 rw [had] at e
 cases e
 rw [Addr.add_lit]
 exact hcell j x hx
theorem StRow.of_own {w : World} {base : Nat} {v : Value} {xs : List ByteArray} (h : w.ownsRow base 9 1 v xs.length (stv xs)) (hm : xs.length <= 9223372036854775807) (hz : ∀ x ∈ xs, x.size <= maxLen) : StRow w v xs := by
 rcases h.2 with ⟨rfl, h0⟩ | ⟨g, cap, cur, rfl, hb, hg, hnc, hcm, hcs, htake⟩
 ·have : xs = [] := List.eq_nil_of_length_eq_zero h0
  subst this
  exact ⟨none, 0, rfl, by simp, by simp, by simp, fun h => absurd rfl h⟩
 ·refine ⟨_, cap, rfl, ⟨hnc, fun h => by cases h⟩, hm, hz, fun _ => ⟨g, 0, rfl, (bl hg), fun i x hi => ?_⟩⟩
  have hl : i < xs.length := (List.getElem?_eq_some_iff.1 hi).1
  have := h.cellAt i (by omega)
  rw [Nat.zero_add, this, Zip xs i x hi]
theorem Zmh : (Tryz.prog.info? 9).map (fun i => (i.zero, i.size, i.bytes)) = some (some (.string ByteArray.empty), 1, 16) := by kernel_rfl
def ZaV (xs : List ByteArray) (j : Nat) : List ByteArray := xs.take j ++ List.replicate (xs.length - j) ByteArray.empty
theorem Zdn (xs : List ByteArray) (j : Nat) (h : j <= xs.length) : (ZaV xs j).length = xs.length := by simp [ZaV]; omega
theorem ZeF (xs : List ByteArray) : ZaV xs xs.length = xs := by simp [ZaV]
theorem ZeA (xs : List ByteArray) : stv (ZaV xs 0) = (madeCells #[.string ByteArray.empty] xs.length).toList := by
 apply List.ext_getElem?
 intro j
 by_cases hj : j < xs.length
 ·simp [ZaV, stv, madeCells, hj, Nat.mod_one]
 ·simp [ZaV, stv, madeCells, hj]
theorem ZfJ (xs : List ByteArray) (j : Nat) (h : j < xs.length) : (ZaV xs j).set j xs[j] = ZaV xs (j + 1) := by
 unfold ZaV
 rw [show xs.length - j = xs.length - (j + 1) + 1 by omega, List.replicate_succ, List.take_succ_eq_append_getElem h]
 rw [List.set_append_right _ _ (by simp; omega)]
 have e : j - (List.take j xs).length = 0 := by simp; omega
 rw [e, List.set_cons_zero, List.append_assoc]
 rfl
theorem Zcf (v : Value) (xs : List ByteArray) (w : World) (R : StRow w v xs) (hm : xs.length <= 2097152) :
  Calls Tryz.prog 86 #[v] w fun e w' => ∃ v', e = .returned v' /\ w'.ownsRow w.heap.size 9 1 v' xs.length (stv xs) /\ Below w.heap.size w w' := by
 obtain ⟨ao, cap, rfl, hcap, _, hz, hcell⟩ := R
 obtain ⟨i0, hi, hz0, hz1, hz2⟩ := info_parts Zmh
 have hbytes : i0.bytes * xs.length <= 281474976710656 := by rw [hz2]; omega
 have hmax : xs.length <= maxLen := by unfold maxLen; omega
 go_enter Tryz.func86, Tryz.ntmps86
 go_wp2_with (at_make; refine wpList_make_full _ rfl _ _ 54 rfl w.heap.size 9 i0 _ 1 Tryz.underlying54 hi hz0 hz1 _ _ _ _ xs.length rfl rfl rfl rfl hbytes hmax (Nat.le_refl _) ?_)
 intro w1 hown hgrow
 have hbel : Below w.heap.size w w1 := (Below.refl _ _).grown hgrow (Nat.le_refl _) (by intro k hk; cases hk)
 clear hgrow
 go_wp2
 go_loopw [4] (fun i wr => ∃ j : Nat, j <= xs.length /\ i = .int .i64 j /\ wr.ownsRow w.heap.size 9 1 (.slice (some ⟨w.heap.size, 0, none⟩) xs.length xs.length) xs.length (stv (ZaV xs j)) /\ Below w.heap.size w wr) (fun i _ => xs.length - (intOf i).toNat)
 case atStart => exact ⟨0, by omega, rfl, by rw [ZeA]; exact hown, hbel⟩
 case round =>
  clear hown hbel hbytes hmax
  obtain ⟨j, hj, rfl, hown, hbel⟩ := hrel
  by_cases hlt : j < xs.length
  ·obtain ⟨g, o, rfl, hg, hcell⟩ := hcell (by intro e; subst e; simp at hlt)
   have c0 := (hbel.cell (p := ⟨g, o + j, none⟩) hg).trans (hcell j xs[j] (by simp [hlt]))
   have d0 := hown.cellAt j (by omega)
   obtain ⟨y, hy⟩ : ∃ y, (ZaV xs j)[j]? = some y := ⟨_, List.getElem?_eq_getElem (by rw [Zdn _ _ hj]; exact hlt)⟩
   rw [Zip _ j y hy] at d0
   have f0 := hown.frozenAt j
   have s0 := hown.stored j (.string xs[j])
   rw [Zk3, ZfJ xs j hlt] at s0
   have hB3 : Below w.heap.size w (wr.setCell ⟨w.heap.size, j, none⟩ (.string xs[j])) := hbel.setCell (p := ⟨w.heap.size, j, none⟩) (by simp) _
   have S0 := s0.1
   clear hcell hown s0 hy
   generalize xs[j] = x at *
   go_wp2
   go_roundw
   case rel => exact ⟨j + 1, by omega, by go_num, S0, hB3⟩
   case measure => simp [intOf]; omega
  ·go_wp2
   go_ret
   have : j = xs.length := by omega
   subst this
   rw [ZeF] at hown
   exact ⟨_, rfl, hown, hbel⟩
theorem Zch (v : Value) (xs : List ByteArray) (l : Int) (w : World) (R : StRow w v xs) (hl0 : 0 <= l) (hl1 : l <= 1048576) :
  Calls Tryz.prog 73 #[v, .int .i64 l] w fun e w' => ∃ r : Int, e = .returned (.int .i64 r) /\ -1 <= r /\ r <= 1048576 /\ (0 <= r -> xs.length <= 1048576 /\ ∀ x ∈ xs, x.size <= 1048576) /\ Below w.heap.size w w' := by
 obtain ⟨ao, cap, rfl, hcap, hm, hz, hcell⟩ := R
 by_cases hlen : (xs.length : Int) <= l
 ·go_enter Tryz.func73, Tryz.ntmps73
  go_wp2
  go_loopw [1, 5] (fun l i wr => ∃ (k : Nat) (r : Int), k <= xs.length /\ i = .int .i64 k /\ l = .int .i64 r /\ 0 <= r /\ r <= 1048576 /\ Hid (∀ j x, xs[j]? = some x -> j < k -> x.size <= 1048576) /\ Below w.heap.size w wr) (fun _ i _ => xs.length - (intOf i).toNat)
  case atStart => exact ⟨0, _, by omega, rfl, rfl, by omega, by omega, fun j x _ h => by omega, Below.refl _ _⟩
  case round =>
   obtain ⟨k, r, hk, rfl, rfl, hr0, hr1, HA, hb⟩ := hrel
   by_cases hlt : k < xs.length
   ·obtain ⟨g, o, rfl, hg, hcell⟩ := hcell (by intro e; subst e; simp at hlt)
    obtain ⟨x, hx⟩ : ∃ x, xs[k]? = some x := ⟨xs[k], by simp [hlt]⟩
    have c0 := (hb.cell (p := ⟨g, o + k, none⟩) hg).trans (hcell k x hx)
    have hxs := hz x (List.mem_of_getElem? hx)
    unfold maxLen at hxs
    have HX : Hid (xs[k]? = some x) := hx
    clear hcell hx
    by_cases hl : r < x.size
    ·go_wp2
     go_ret
     exact ⟨-1, rfl, by omega, by omega, fun h => by omega, hb⟩
    ·go_wp2
     go_roundw
     case rel =>
      refine ⟨k + 1, _, by omega, by go_num, rfl, by omega, by omega, fun j y hy hj => ?_, hb⟩
      by_cases e : j = k
      ·subst e
       rw [HX.out] at hy
       cases hy
       omega
      ·exact HA.out j y hy (by omega)
     case measure => simp [intOf]; omega
   ·go_wp2
    go_ret
    refine ⟨r, rfl, by omega, by omega, fun _ => ⟨by omega, fun x hx => ?_⟩, hb⟩
    obtain ⟨j, hj, e⟩ := List.getElem_of_mem hx
    exact HA.out j x (by rw [<- e]; simp [hj]) (by omega)
 ·go_enter Tryz.func73, Tryz.ntmps73
  go_wp2
  go_ret
  exact ⟨-1, rfl, by omega, by omega, fun h => by omega, Below.refl _ _⟩
theorem Zce (va vb : Value) (xs : List ByteArray) (w : World) (Ra : StRow w va xs) (Rb : StRow w vb xs) :
  Calls Tryz.prog 22 #[va, vb] w fun e w' => e = .returned (.bool true) /\ Below w.heap.size w w' := by
 obtain ⟨aa, ca, rfl, hca, hm, hz, hcella⟩ := Ra
 obtain ⟨ab, cb, rfl, hcb, _, _, hcellb⟩ := Rb
 have hn : ((xs.length : Int) != (xs.length : Int)) = false := by simp
 go_enter Tryz.func22, Tryz.ntmps22
 go_wp2
 go_loopw [5] (fun i wr => ∃ k : Nat, k <= xs.length /\ i = .int .i64 k /\ Below w.heap.size w wr) (fun i _ => xs.length - (intOf i).toNat)
 case atStart => exact ⟨0, by omega, rfl, Below.refl _ _⟩
 case round =>
  obtain ⟨k, hk, rfl, hb⟩ := hrel
  by_cases hlt : k < xs.length
  ·obtain ⟨ga, oa, rfl, hga, hcella⟩ := hcella (by intro e; subst e; simp at hlt)
   obtain ⟨gb, ob, rfl, hgb, hcellb⟩ := hcellb (by intro e; subst e; simp at hlt)
   obtain ⟨x, hx⟩ : ∃ x, xs[k]? = some x := ⟨xs[k], by simp [hlt]⟩
   have c0 := (hb.cell (p := ⟨ga, oa + k, none⟩) hga).trans (hcella k x hx)
   have d0 := (hb.cell (p := ⟨gb, ob + k, none⟩) hgb).trans (hcellb k x hx)
   clear hcella hcellb hx
   go_wp2
   go_quiet (fail)
   go_wp2
   go_roundw
   case rel => exact ⟨k + 1, by omega, by go_num, hb.trans ((ZjQ wr _).mono hb.size)⟩
   case measure => simp [intOf]; omega
  ·go_wp2
   go_ret
   exact ⟨rfl, hb⟩
def sm (k : Int) (n : Nat) : List ByteArray := (List.range n).map fun (j : Nat) => mt (k + (j : Int))
def smid (k : Int) (pre xs post : List ByteArray) (j : Nat) : List ByteArray := pre ++ (sm k j ++ (xs.drop j ++ post))
theorem Zan {P : Program} {ops : Array Oper} {rest : List Oper} {op : Oper} {a : Act} {w : World} {Q : Exit -> Act -> World -> Prop} (hgd : op.guard = none) (ty : TypeId) (x : Operand) (ho : op.op = .load ty x)
  (b o : Nat) (hx : a.eval x = .pointer (some ⟨b, o, none⟩)) (C : Array Value) (t : TypeId) (cs : Array Value) (d : TypeDesc) (hb : w.heap[b]? = some (.cells C t (0, 0))) (hc : C.extract o (o + cs.size) = cs)
  (hu : P.underlying ty = some d) (hd : d.isRow = true) (hi : (P.info? ty).map (·.size) = some cs.size)
  (h : wpList P ops Q rest (a.put op.dst (.agg cs)) w) : wpList P ops Q (op :: rest) a w := by
 have hr := World.rangeAt_of_block hb o cs.size
 rw [hc] at hr
 exact wpList_load_mid hgd ty x ho b o hx cs.toList d hr hu hd (by simpa using hi) (by simpa using h)
theorem ZcS (g : Nat) (e : TypeId) : ∀ (vs : List Value) (o : Nat) (w : World) (cur : Array Value), w.heap[g]? = some (.cells cur e (0, 0)) -> o + vs.length <= cur.size ->
  ∃ cur' : Array Value, (w.setCells g o vs).heap[g]? = some (.cells cur' e (0, 0)) /\ cur'.toList = cur.toList.take o ++ (vs ++ cur.toList.drop (o + vs.length))
 | [], o, w, cur, h, hb => ⟨cur, h, by simp⟩
 | v :: r, o, w, cur, h, hb => by
  simp only [List.length_cons] at hb
  obtain ⟨cur', h1, h2⟩ := ZcS g e r (o + 1) (w.setCell ⟨g, o, none⟩ v) _ (heap_setCell_same w g o cur e v h) (by simp; omega)
  refine ⟨cur', h1, h2.trans ?_⟩
  obtain ⟨A, c, B, hc, hA⟩ : ∃ A c B, cur.toList = A ++ c :: B /\ A.length = o := ⟨cur.toList.take o, cur.toList[o]'(by simp; omega), cur.toList.drop (o + 1), by rw [<- List.drop_eq_getElem_cons]; exact (List.take_append_drop _ _).symm, by simp; omega⟩
  subst hA
  rw [Array.toList_setIfInBounds, hc]
  have e1 : A.length + 1 + r.length - A.length = r.length + 1 := by omega
  have e2 : A.length <= A.length + 1 + r.length := by omega
  simp [List.take_append, List.drop_append, List.take_of_length_le, List.drop_of_length_le, e1, e2]
theorem ZcZ (g : Nat) : ∀ (vs : List Value) (o : Nat) (w : World) (k : Nat), k ≠ g -> (w.setCells g o vs).heap[k]? = w.heap[k]?
 | [], _, _, _, _ => rfl
 | v :: r, o, w, k, hk => (ZcZ g r (o + 1) _ k hk).trans (heap_setCell_other w ⟨g, o, none⟩ k v hk)
theorem Zdc (g : Nat) : ∀ (vs : List Value) (o : Nat) (w : World), (w.setCells g o vs).heap.size = w.heap.size
 | [], _, _ => rfl
 | v :: r, o, _ => (Zdc g r (o + 1) _).trans (by simp [World.setCell])
theorem ZcW (g : Nat) : ∀ (vs : List Value) (o : Nat) (w w0 : World), Below g w0 w -> Below g w0 (w.setCells g o vs)
 | [], _, _, _, h => h
 | v :: r, o, _, w0, h => ZcW g r (o + 1) _ w0 (h.setCell (p := ⟨g, o, none⟩) (Nat.le_refl _) v)
theorem ZaH {P : Program} {ops : Array Oper} {rest : List Oper} {op : Oper} {a : Act} {w : World} {Q : Exit -> Act -> World -> Prop} (hgd : op.guard = none) (ty : TypeId) (x y : Operand) (ho : op.op = .store ty x y)
  (g o : Nat) (cells : Array Value) (hx : a.eval x = .pointer (some ⟨g, o, none⟩)) (hy : a.eval y = .agg cells) (t : TypeId) (old new : Array Value) (hg : w.heap[g]? = some (.cells old t (0, 0))) (hl : o + cells.size <= old.size)
  (hi : (P.info? ty).map (·.size) = some cells.size) (h1 : cells.all (·.oneCell') = true) (hn : new.toList = old.toList.take o ++ (cells.toList ++ old.toList.drop (o + cells.size)))
  (h : ∀ w2 : World, w2.heap[g]? = some (.cells new t (0, 0)) -> Below g w w2 -> w2.heap.size = w.heap.size -> (∀ k, k ≠ g -> w2.heap[k]? = w.heap[k]?) -> wpList P ops Q rest (a.put op.dst undef) w2) : wpList P ops Q (op :: rest) a w := by
 refine wpList_store_mid hgd ty x y ho g o cells hx hy (fun j hj => ⟨?_, frozen_of_row w g _ _ _ hg⟩) hi h1 (h _ ?_ (ZcW g _ _ _ _ (Below.refl _ _)) (Zdc _ _ _ _) (fun k hk => ZcZ g _ _ _ k hk))
 ·rw [cell_of_row w g (o + j) _ _ _ hg]
  simp
  omega
 ·obtain ⟨cur', h2, h3⟩ := ZcS g t cells.toList o w old hg (by simpa using hl)
  rw [h2]
  have : cur' = new := Array.toList_inj.1 (h3.trans (by rw [hn]; simp))
  rw [this]
theorem Zma : (Tryz.prog.info? 83).map (·.size) = some 11 := by kernel_rfl
theorem Zl6 : (Tryz.prog.info? 107).map (·.size) = some 8 := by kernel_rfl
theorem ZhK (l0 : Int) (hl0 : 0 <= l0) (hl1 : l0 <= 1048576) (i : Int) (v vb vo : Value) (xs : List Nd) (m : Mc) (bx ox : List ByteArray) (w : World) (R : NRow w v xs) (Rb : StRow w vb bx) (Ro : StRow w vo ox) :
  Calls Tryz.prog 122 #[.agg #[.int .i64 i, v, .int .i64 m.p, .int .i64 m.s, .int .i64 m.e, .int .i64 m.d, .int .i64 m.t, .int .i64 m.q, .int .i64 m.r, vb, vo], .int .i64 l0] w fun e w' => ∃ r : Int, e = .returned (.int .i64 r) /\ -1 <= r /\ r <= 1048576 /\ (0 <= r -> (xs.length <= 1048576 /\ ∀ x ∈ xs, x.s.size <= 1048576) /\ (bx.length <= 1048576 /\ ∀ x ∈ bx, x.size <= 1048576) /\ (ox.length <= 1048576 /\ ∀ x ∈ ox, x.size <= 1048576)) /\ Below w.heap.size w w' := by
 have R' := R
 obtain ⟨ao, cap, rfl, _⟩ := R'
 obtain ⟨ab, cb, rfl⟩ := Rb.small
 obtain ⟨ac, cc, rfl⟩ := Ro.small
 have hB0 : Below w.heap.size w (w.alloc (Obj.cells #[.int .i64 i, .slice ao xs.length cap, .int .i64 m.p, .int .i64 m.s, .int .i64 m.e, .int .i64 m.d, .int .i64 m.t, .int .i64 m.q, .int .i64 m.r, .slice ab bx.length cb, .slice ac ox.length cc] 109)) := (Below.refl _ _).alloc (Nat.le_refl _) _
 go_enter Tryz.func122, Tryz.ntmps122
 go_wp2_with (refine Zan rfl 107 _ rfl w.heap.size 1 rfl _ 109 #[.slice ao xs.length cap, .int .i64 m.p, .int .i64 m.s, .int .i64 m.e, .int .i64 m.d, .int .i64 m.t, .int .i64 m.q, .int .i64 m.r] _ (heap_alloc_new _ _) rfl Tryz.underlying107 rfl Zl6 ?_)
 refine (ZhB l0 hl0 hl1 _ xs m _ (R.below hB0)).mono ?_
 rintro e w1 ⟨r, rfl, h0, h1, h2, hb1⟩
 have hx1 := (hb1.block w.heap.size (by simp)).trans (heap_alloc_new w (Obj.cells #[.int .i64 i, .slice ao xs.length cap, .int .i64 m.p, .int .i64 m.s, .int .i64 m.e, .int .i64 m.d, .int .i64 m.t, .int .i64 m.q, .int .i64 m.r, .slice ab bx.length cb, .slice ac ox.length cc] 109))
 have hB1 := hB0.trans (hb1.mono hB0.size)
 clear hB0 hb1
 by_cases hr : r < 0
 ·go_wp2
  go_ret
  exact ⟨-1, rfl, by omega, by omega, fun h => by omega, hB1⟩
 have k2 : w1.cell? ⟨w.heap.size, 0 + 9, none⟩ = some (.slice ab bx.length cb) := cell_of_row w1 _ 9 _ _ _ hx1
 have k3 : w1.cell? ⟨w.heap.size, 0 + 10, none⟩ = some (.slice ac ox.length cc) := cell_of_row w1 _ 10 _ _ _ hx1
 go_wp2_with fail
 refine (Zch _ bx r _ (Rb.below hB1) (by omega) (by omega)).mono ?_
 rintro e w2 ⟨r2, rfl, g0, g1, g2, hb2⟩
 have hx2 := (bb hx1 hb2)
 have hB2 := hB1.trans (hb2.mono hB1.size)
 clear hB1 hb2 hx1 k2 k3
 by_cases hr2 : r2 < 0
 ·go_wp2
  go_ret
  exact ⟨-1, rfl, by omega, by omega, fun h => by omega, hB2⟩
 have k3 : w2.cell? ⟨w.heap.size, 0 + 10, none⟩ = some (.slice ac ox.length cc) := cell_of_row w2 _ 10 _ _ _ hx2
 go_wp2_with fail
 refine (Zch _ ox r2 _ (Ro.below hB2) (by omega) (by omega)).mono ?_
 rintro e w3 ⟨r3, rfl, f0, f1, f2, hb3⟩
 have hB3 := hB2.trans (hb3.mono hB2.size)
 clear hB2 hb3 hx2 k3
 by_cases hr3 : r3 < 0
 ·go_wp2
  go_ret
  exact ⟨-1, rfl, by omega, by omega, fun h => by omega, hB3⟩
 ·go_wp2
  go_ret
  exact ⟨r3, rfl, by omega, by omega, fun h => ⟨h2 (by omega), g2 (by omega), f2 h⟩, hB3⟩
theorem ZhY (i : Int) (va ba oa vb bb ob : Value) (xs : List Nd) (m : Mc) (bx ox : List ByteArray) (w : World) (Ra : NRow w va xs) (Ba : StRow w ba bx) (Oa : StRow w oa ox) (Rb : NRow w vb xs) (Bb : StRow w bb bx) (Ob : StRow w ob ox) :
  Calls Tryz.prog 140 #[.agg #[.int .i64 i, va, .int .i64 m.p, .int .i64 m.s, .int .i64 m.e, .int .i64 m.d, .int .i64 m.t, .int .i64 m.q, .int .i64 m.r, ba, oa], .agg #[.int .i64 i, vb, .int .i64 m.p, .int .i64 m.s, .int .i64 m.e, .int .i64 m.d, .int .i64 m.t, .int .i64 m.q, .int .i64 m.r, bb, ob]] w fun e w' => e = .returned (.bool true) /\ Below w.heap.size w w' := by
 have Ra' := Ra
 have Rb' := Rb
 obtain ⟨aa, ca, rfl, _⟩ := Ra'
 obtain ⟨ab, cb, rfl, _⟩ := Rb'
 obtain ⟨a1, c1, rfl⟩ := Ba.small
 obtain ⟨a2, c2, rfl⟩ := Oa.small
 obtain ⟨a3, c3, rfl⟩ := Bb.small
 obtain ⟨a4, c4, rfl⟩ := Ob.small
 obtain ⟨hB0, hk0, hx0⟩ := Zat w (Obj.cells #[.int .i64 i, .slice aa xs.length ca, .int .i64 m.p, .int .i64 m.s, .int .i64 m.e, .int .i64 m.d, .int .i64 m.t, .int .i64 m.q, .int .i64 m.r, .slice a1 bx.length c1, .slice a2 ox.length c2] 83) (Obj.cells #[.int .i64 i, .slice ab xs.length cb, .int .i64 m.p, .int .i64 m.s, .int .i64 m.e, .int .i64 m.d, .int .i64 m.t, .int .i64 m.q, .int .i64 m.r, .slice a3 bx.length c3, .slice a4 ox.length c4] 83)
 have e1 : (i != i) = false := by simp
 go_enter Tryz.func140, Tryz.ntmps140
 go_wp2_with (first
  | (refine Zan rfl 81 _ rfl w.heap.size 1 rfl _ 83 #[.slice aa xs.length ca, .int .i64 m.p, .int .i64 m.s, .int .i64 m.e, .int .i64 m.d, .int .i64 m.t, .int .i64 m.q, .int .i64 m.r] _ hk0 rfl Tryz.underlying81 rfl Zmc ?_)
  | (refine Zan rfl 81 _ rfl (w.heap.size + 1) 1 rfl _ 83 #[.slice ab xs.length cb, .int .i64 m.p, .int .i64 m.s, .int .i64 m.e, .int .i64 m.d, .int .i64 m.t, .int .i64 m.q, .int .i64 m.r] _ hx0 rfl Tryz.underlying81 rfl Zmc ?_))
 refine (Zhu _ _ xs m _ (Ra.below hB0) (Rb.below hB0)).mono ?_
 rintro e w1 ⟨rfl, hb1⟩
 have hB1 := hB0.trans (hb1.mono hB0.size)
 have hk1 := (bb hk0 hb1)
 have hx1 := (bb hx0 hb1)
 clear hB0 hk0 hx0 hb1
 have l1 : w1.cell? ⟨w.heap.size, 0 + 9, none⟩ = some (.slice a1 bx.length c1) := cell_of_row w1 _ 9 _ _ _ hk1
 have k1 : w1.cell? ⟨w.heap.size + 1, 0 + 9, none⟩ = some (.slice a3 bx.length c3) := cell_of_row w1 _ 9 _ _ _ hx1
 go_wp2_with fail
 refine (Zce _ _ bx _ (Ba.below hB1) (Bb.below hB1)).mono ?_
 rintro e w2 ⟨rfl, hb2⟩
 have hB2 := hB1.trans (hb2.mono hB1.size)
 have hk2 := (bb hk1 hb2)
 have hx2 := (bb hx1 hb2)
 clear hB1 hk1 hx1 hb2 l1 k1
 have l1 : w2.cell? ⟨w.heap.size, 0 + 10, none⟩ = some (.slice a2 ox.length c2) := cell_of_row w2 _ 10 _ _ _ hk2
 have k1 : w2.cell? ⟨w.heap.size + 1, 0 + 10, none⟩ = some (.slice a4 ox.length c4) := cell_of_row w2 _ 10 _ _ _ hx2
 go_wp2_with fail
 refine (Zce _ _ ox _ (Oa.below hB2) (Ob.below hB2)).mono ?_
 rintro e w3 ⟨rfl, hb3⟩
 have hB3 := hB2.trans (hb3.mono hB2.size)
 clear hB2 hk2 hx2 hb3 l1 k1
 go_wp2
 go_ret
 exact ⟨rfl, hB3⟩
structure In where
 o : Int
 n : Int
 i : Int
 s : ByteArray
def In.cs (x : In) : List Value := [.int .i64 x.o, .int .i64 x.n, .int .i64 x.i, .string x.s]
def incs (xs : List In) : List Value := xs.flatMap In.cs
theorem Zdf (x : In) (xs : List In) : incs (x :: xs) = x.cs ++ incs xs := rfl
theorem ZdD (xs : List In) : (incs xs).length = xs.length * 4 := by
 induction xs with
 | nil => rfl
 | cons x xs ih => rw [Zdf, List.length_append, ih, List.length_cons]; simp [In.cs]; omega
theorem Zg1 (xs : List In) (i : Nat) (x : In) (h : xs[i]? = some x) (j : Nat) (hj : j < 4) : (incs xs)[i * 4 + j]? = x.cs[j]? := by
 induction xs generalizing i with
 | nil => simp at h
 | cons y ys ih =>
  rw [Zdf]
  cases i with
  | zero =>
   simp at h; subst h
   rw [Nat.zero_mul, Nat.zero_add, List.getElem?_append_left (by simpa [In.cs] using hj)]
  | succ i =>
   rw [List.getElem?_append_right (by simp [In.cs]; omega)]
   rw [show (i + 1) * 4 + j - y.cs.length = i * 4 + j by simp [In.cs]; omega]
   exact ih i (by simpa using h)
theorem Zc5 (xs : List In) (i : Nat) (x x' : In) (h : xs[i]? = some x) (j : Nat) (hj : j < 4) (u : Value) (e : x.cs.set j u = x'.cs) : (incs xs).set (i * 4 + j) u = incs (xs.set i x') := by
 induction xs generalizing i with
 | nil => simp at h
 | cons y ys ih =>
  rw [Zdf]
  cases i with
  | zero =>
   simp at h; subst h
   rw [Nat.zero_mul, Nat.zero_add, List.set_append_left _ _ (by simpa [In.cs] using hj), e]
   rfl
  | succ i =>
   rw [List.set_append_right _ _ (by simp [In.cs]; omega)]
   rw [show (i + 1) * 4 + j - y.cs.length = i * 4 + j by simp [In.cs]; omega, ih i (by simpa using h)]
   rfl
theorem Zi4 (xs : List In) (i : Nat) (x x' : In) (h : xs[i]? = some x) (u : Value) (e : x.cs.set 0 u = x'.cs) : (incs xs).set (i * 4) u = incs (xs.set i x') :=
 Zc5 xs i x x' h 0 (by omega) u e
theorem In.one (x : In) : ∀ u ∈ x.cs, u.oneCell' = true := by
 intro u hu
 simp only [In.cs, List.mem_cons, List.not_mem_nil, or_false] at hu
 rcases hu with rfl | rfl | rfl | rfl <;> rfl
def InAt (w : World) (g o : Nat) (x : In) : Prop :=
 w.cell? ⟨g, o, none⟩ = some (.int .i64 x.o) /\ w.cell? ⟨g, o + 1, none⟩ = some (.int .i64 x.n) /\ w.cell? ⟨g, o + 2, none⟩ = some (.int .i64 x.i) /\ w.cell? ⟨g, o + 3, none⟩ = some (.string x.s)
theorem InAt.below {w w' : World} {g o B : Nat} {x : In} (h : InAt w g o x) (hb : Below B w w') (hg : g < B) : InAt w' g o x :=
 ⟨(hb.cell (p := ⟨g, o, none⟩) hg).trans h.1, (hb.cell (p := ⟨g, o + 1, none⟩) hg).trans h.2.1, (hb.cell (p := ⟨g, o + 2, none⟩) hg).trans h.2.2.1, (hb.cell (p := ⟨g, o + 3, none⟩) hg).trans h.2.2.2⟩
def InRow (w : World) (v : Value) (xs : List In) : Prop :=
 ∃ ao cap, v = .slice ao xs.length cap /\ (xs.length <= cap /\ (ao = none -> cap = 0)) /\ xs.length <= 9223372036854775807 /\ (∀ x ∈ xs, x.s.size <= maxLen) /\
  (xs ≠ [] -> ∃ g o, ao = some ⟨g, o, none⟩ /\ g < w.heap.size /\ ∀ i x, xs[i]? = some x -> InAt w g (o + i * 4) x)
theorem InRow.small {w : World} {v : Value} {xs : List In} (R : InRow w v xs) : ∃ ao cap, v = .slice ao xs.length cap := by
 obtain ⟨ao, cap, rfl, _⟩ := R
 exact ⟨ao, cap, rfl⟩
theorem InRow.below {w w' : World} {v : Value} {xs : List In} (h : InRow w v xs) (hb : Below w.heap.size w w') : InRow w' v xs := by
 obtain ⟨ao, cap, rfl, hc, hm, hz, hcell⟩ := h
 refine ⟨ao, cap, rfl, hc, hm, hz, fun hne => ?_⟩
 obtain ⟨g, o, rfl, hg, hcell⟩ := hcell hne
 exact ⟨g, o, rfl, Nat.lt_of_lt_of_le hg hb.size, fun i x hi => (hcell i x hi).below hb hg⟩
theorem InRow.of_own {w : World} {base : Nat} {v : Value} {xs : List In} (h : w.ownsRow base 183 4 v xs.length (incs xs)) (hm : xs.length <= 9223372036854775807) (hz : ∀ x ∈ xs, x.s.size <= maxLen) : InRow w v xs := by
 rcases h.2 with ⟨rfl, h0⟩ | ⟨g, cap, cur, rfl, hb, hg, hnc, hcm, hcs, htake⟩
 ·have : xs = [] := List.eq_nil_of_length_eq_zero h0
  subst this
  exact ⟨none, 0, rfl, by simp, by simp, by simp, fun h => absurd rfl h⟩
 ·refine ⟨_, cap, rfl, ⟨hnc, fun h => by cases h⟩, hm, hz, fun _ => ⟨g, 0, rfl, (bl hg), fun i x hi => ?_⟩⟩
  have hl : i < xs.length := (List.getElem?_eq_some_iff.1 hi).1
  have e : ∀ j, j < 4 -> w.cell? ⟨g, 0 + i * 4 + j, none⟩ = x.cs[j]? := fun j hj => by
   have := h.cellAt (i * 4 + j) (by omega)
   rw [Nat.zero_add, this, Zg1 xs i x hi j hj]
  exact ⟨e 0 (by omega), e 1 (by omega), e 2 (by omega), e 3 (by omega)⟩
theorem Zmy : (Tryz.prog.info? 183).map (fun i => (i.zero, i.size, i.bytes)) = some (some (.agg #[.int .i64 0, .int .i64 0, .int .i64 0, .string ByteArray.empty]), 4, 40) := by kernel_rfl
theorem Zmo : (Tryz.prog.info? 183).map (·.size) = some 4 := by kernel_rfl
theorem Zda {ops : Array Oper} {rest : List Oper} {op : Oper} {a : Act} {w : World} {Q : Exit -> Act -> World -> Prop} (hgd : op.guard = none) (x y : Operand) (ho : op.op = .store 183 x y)
  (base g i cap : Nat) (xs : List In) (nd : In) (hx : a.eval x = .pointer (some ⟨g, i * 4, none⟩)) (hy : a.eval y = .agg #[.int .i64 nd.o, .int .i64 nd.n, .int .i64 nd.i, .string nd.s])
  (hi : i < xs.length) (hown : w.ownsRow base 183 4 (.slice (some ⟨g, 0, none⟩) xs.length cap) xs.length (incs xs))
  (h : ∀ w2 : World, w2.ownsRow base 183 4 (.slice (some ⟨g, 0, none⟩) xs.length cap) xs.length (incs (xs.set i nd)) -> w.grownBy w2 (some g) -> wpList Tryz.prog ops Q rest (a.put op.dst undef) w2) : wpList Tryz.prog ops Q (op :: rest) a w := by
 have ht : w.there g (i * 4) 4 := fun j hj => by
  have := hown.cellAt (i * 4 + j) (by omega)
  refine ⟨?_, hown.frozenAt _⟩
  rw [this, List.getElem?_eq_getElem (by rw [ZdD]; omega)]
  rfl
 refine wpList_store_mid hgd 183 x y ho g (i * 4) _ hx hy ht Zmo (all_oneCell_toArray nd.one) ?_
 have e0 : xs[i]? = some xs[i] := List.getElem?_eq_getElem hi
 have get : ∀ y : In, (xs.set i y)[i]? = some y := fun y => by simp [hi]
 have s0 := hown.stored (i * 4) (.int .i64 nd.o)
 rw [Zi4 xs i xs[i] ⟨nd.o, xs[i].n, xs[i].i, xs[i].s⟩ e0 _ rfl] at s0
 have s1 := s0.1.stored (i * 4 + 1) (.int .i64 nd.n)
 rw [Zc5 (xs.set i ⟨nd.o, xs[i].n, xs[i].i, xs[i].s⟩) i ⟨nd.o, xs[i].n, xs[i].i, xs[i].s⟩ ⟨nd.o, nd.n, xs[i].i, xs[i].s⟩ (get _) 1 (by omega) (.int .i64 nd.n) rfl, List.set_set] at s1
 have s2 := s1.1.stored (i * 4 + 2) (.int .i64 nd.i)
 rw [Zc5 (xs.set i ⟨nd.o, nd.n, xs[i].i, xs[i].s⟩) i ⟨nd.o, nd.n, xs[i].i, xs[i].s⟩ ⟨nd.o, nd.n, nd.i, xs[i].s⟩ (get _) 2 (by omega) (.int .i64 nd.i) rfl, List.set_set] at s2
 have s3 := s2.1.stored (i * 4 + 3) (.string nd.s)
 rw [Zc5 (xs.set i ⟨nd.o, nd.n, nd.i, xs[i].s⟩) i ⟨nd.o, nd.n, nd.i, xs[i].s⟩ ⟨nd.o, nd.n, nd.i, nd.s⟩ (get _) 3 (by omega) (.string nd.s) rfl, List.set_set] at s3
 exact h _ s3.1 (((s0.2.trans s1.2).trans s2.2).trans s3.2)
theorem ZjU (x : In) (w : World) :
  Calls Tryz.prog 132 #[.agg #[.int .i64 x.o, .int .i64 x.n, .int .i64 x.i, .string x.s]] w fun e w' => e = .returned (.agg #[.int .i64 x.o, .int .i64 x.n, .int .i64 x.i, .string x.s]) /\ Below w.heap.size w w' := by
 go_enter Tryz.func132, Tryz.ntmps132
 go_wp2
 exact bodyPost_ret (results_cell_row rfl _ _ (w.heap.size + 1) 183 _ (0, 0) _ rfl ((heap_alloc_old _ _ (by simp)).trans (heap_alloc2_new _ _ _)) Tryz.underlying183 rfl Zmo) rfl
  ⟨rfl, (((Below.refl _ _).alloc (Nat.le_refl _) _).alloc (by simp) _).alloc (by simp; omega) _⟩
theorem Zj3 (x : In) (l : Int) (w : World) (hs : x.s.size <= maxLen) (hl : 0 <= l) (hl2 : l <= 1048576) :
  Calls Tryz.prog 120 #[.agg #[.int .i64 x.o, .int .i64 x.n, .int .i64 x.i, .string x.s], .int .i64 l] w fun e w' => e = .returned (.int .i64 (less l x.s.size)) /\ Below w.heap.size w w' := by
 unfold maxLen at hs
 go_enter Tryz.func120, Tryz.ntmps120
 by_cases h : l < x.s.size
 ·have HL : Hid (less l x.s.size = -1) := by unfold Hid less; rw [if_pos h]
  go_wp2
  go_ret
  exact ⟨by rw [HL.out]; rfl, (Below.refl _ _).alloc (Nat.le_refl _) _⟩
 ·have HL : Hid (less l x.s.size = l - x.s.size) := by unfold Hid less; rw [if_neg h]
  go_wp2
  go_ret
  exact ⟨by rw [HL.out]; rfl, (Below.refl _ _).alloc (Nat.le_refl _) _⟩
theorem ZjO (x : In) (w : World) :
  Calls Tryz.prog 138 #[.agg #[.int .i64 x.o, .int .i64 x.n, .int .i64 x.i, .string x.s], .agg #[.int .i64 x.o, .int .i64 x.n, .int .i64 x.i, .string x.s]] w fun e w' => e = .returned (.bool true) /\ Below w.heap.size w w' := by
 go_enter Tryz.func138, Tryz.ntmps138
 go_wp2
 go_ret
 exact ⟨rfl, ((Below.refl _ _).alloc (Nat.le_refl _) _).alloc (by simp) _⟩
def Ze9 : In := ⟨0, 0, 0, ByteArray.empty⟩
def ZaK (xs : List In) (j : Nat) : List In := xs.take j ++ List.replicate (xs.length - j) Ze9
theorem ZdG (xs : List In) (j : Nat) (h : j <= xs.length) : (ZaK xs j).length = xs.length := by simp [ZaK]; omega
theorem Zeu (xs : List In) : ZaK xs xs.length = xs := by simp [ZaK]
theorem Zg7 (n : Nat) : incs (List.replicate n Ze9) = (madeCells #[Value.int .i64 0, .int .i64 0, .int .i64 0, .string ByteArray.empty] (n * 4)).toList := by
 apply List.ext_getElem?
 intro j
 by_cases hj : j < n * 4
 ·have hq : j / 4 < n := by omega
  rw [show j = j / 4 * 4 + j % 4 by omega, Zg1 _ (j / 4) Ze9 (by simp [hq]) (j % 4) (by omega)]
  rw [show j / 4 * 4 + j % 4 = j by omega]
  have h5 : j % 4 = 0 \/ j % 4 = 1 \/ j % 4 = 2 \/ j % 4 = 3 := by omega
  rcases h5 with h5 | h5 | h5 | h5 <;> simp [madeCells, hj, h5, Ze9, In.cs]
 ·rw [List.getElem?_eq_none (by rw [ZdD, List.length_replicate]; omega), List.getElem?_eq_none (by simp [madeCells]; omega)]
theorem ZeC (xs : List In) : incs (ZaK xs 0) = (madeCells #[Value.int .i64 0, .int .i64 0, .int .i64 0, .string ByteArray.empty] (xs.length * 4)).toList := by
 rw [<- Zg7]; simp [ZaK]
theorem ZfC (xs : List In) (j : Nat) (h : j < xs.length) : (ZaK xs j).set j xs[j] = ZaK xs (j + 1) := by
 unfold ZaK
 rw [show xs.length - j = xs.length - (j + 1) + 1 by omega, List.replicate_succ, List.take_succ_eq_append_getElem h]
 rw [List.set_append_right _ _ (by simp; omega)]
 have e : j - (List.take j xs).length = 0 := by simp; omega
 rw [e, List.set_cons_zero, List.append_assoc]
 rfl
theorem ZiD (v : Value) (xs : List In) (w : World) (R : InRow w v xs) (hm : xs.length <= 2097152) :
  Calls Tryz.prog 80 #[v] w fun e w' => ∃ v', e = .returned v' /\ w'.ownsRow w.heap.size 183 4 v' xs.length (incs xs) /\ Below w.heap.size w w' := by
 obtain ⟨ao, cap, rfl, hcap, _, hz, hcell⟩ := R
 obtain ⟨i0, hi, hz0, hz1, hz2⟩ := info_parts Zmy
 have hbytes : i0.bytes * xs.length <= 281474976710656 := by rw [hz2]; omega
 have hmax : xs.length <= maxLen := by unfold maxLen; omega
 go_enter Tryz.func80, Tryz.ntmps80
 go_wp2_with (at_make; refine wpList_make_full _ rfl _ _ 41 rfl w.heap.size 183 i0 _ 4 Tryz.underlying41 hi hz0 hz1 _ _ _ _ xs.length rfl rfl rfl rfl hbytes hmax (Nat.le_refl _) ?_)
 intro w1 hown hgrow
 have hbel : Below w.heap.size w w1 := (Below.refl _ _).grown hgrow (Nat.le_refl _) (by intro k hk; cases hk)
 clear hgrow
 go_wp2
 go_loopw [4] (fun i wr => ∃ j : Nat, j <= xs.length /\ i = .int .i64 j /\ wr.ownsRow w.heap.size 183 4 (.slice (some ⟨w.heap.size, 0, none⟩) xs.length xs.length) xs.length (incs (ZaK xs j)) /\ Below w.heap.size w wr) (fun i _ => xs.length - (intOf i).toNat)
 case atStart => exact ⟨0, by omega, rfl, by rw [ZeC]; exact hown, hbel⟩
 case round =>
  clear hown hbel hbytes hmax
  obtain ⟨j, hj, rfl, hown, hbel⟩ := hrel
  by_cases hlt : j < xs.length
  ·obtain ⟨g, o, rfl, hg, hcell⟩ := hcell (by intro e; subst e; simp at hlt)
   obtain ⟨c0, c1, c2, c3⟩ := (hcell j xs[j] (by simp [hlt])).below hbel hg
   have HC := ZdG xs j hj
   clear hcell
   go_wp2_with fail
   refine (ZjU xs[j] _).mono ?_
   rintro e w2 ⟨rfl, hb2⟩
   have hown2 : w2.ownsRow w.heap.size 183 4 (.slice (some ⟨w.heap.size, 0, none⟩) (ZaK xs j).length xs.length) (ZaK xs j).length (incs (ZaK xs j)) := by
    rw [HC]; exact Zad hown hb2
   have hB2 := hbel.trans (hb2.mono hbel.size)
   clear c0 c1 c2 c3 hown hb2 hbel
   go_wp2_with (refine Zda rfl _ _ rfl w.heap.size w.heap.size j xs.length (ZaK xs j) xs[j] rfl rfl (by omega) hown2 ?_)
   intro w3 hown3 hg3
   rw [ZfC xs j hlt] at hown3
   have hB3 : Below w.heap.size w w3 := hB2.grown hg3 hB2.size (fun k hk => by simp at hk; omega)
   clear hown2 hg3
   go_wp2
   go_roundw
   case rel => exact ⟨j + 1, by omega, by go_num, hown3, hB3⟩
   case measure => simp [intOf]; omega
  ·go_wp2
   go_ret
   have : j = xs.length := by omega
   subst this
   rw [Zeu] at hown
   exact ⟨_, rfl, hown, hbel⟩
theorem Zil (v : Value) (xs : List In) (l : Int) (w : World) (R : InRow w v xs) (hl0 : 0 <= l) (hl1 : l <= 1048576) :
  Calls Tryz.prog 67 #[v, .int .i64 l] w fun e w' => ∃ r : Int, e = .returned (.int .i64 r) /\ -1 <= r /\ r <= 1048576 /\ (0 <= r -> xs.length <= 1048576 /\ ∀ x ∈ xs, x.s.size <= 1048576) /\ Below w.heap.size w w' := by
 obtain ⟨ao, cap, rfl, hcap, hm, hz, hcell⟩ := R
 by_cases hlen : (xs.length : Int) <= l
 ·go_enter Tryz.func67, Tryz.ntmps67
  go_wp2
  go_loopw [1, 5] (fun l i wr => ∃ (k : Nat) (r : Int), k <= xs.length /\ i = .int .i64 k /\ l = .int .i64 r /\ 0 <= r /\ r <= 1048576 /\ Hid (∀ j x, xs[j]? = some x -> j < k -> x.s.size <= 1048576) /\ Below w.heap.size w wr) (fun _ i _ => xs.length - (intOf i).toNat)
  case atStart => exact ⟨0, _, by omega, rfl, rfl, by omega, by omega, fun j x _ h => by omega, Below.refl _ _⟩
  case round =>
   obtain ⟨k, r, hk, rfl, rfl, hr0, hr1, HA, hb⟩ := hrel
   by_cases hlt : k < xs.length
   ·obtain ⟨g, o, rfl, hg, hcell⟩ := hcell (by intro e; subst e; simp at hlt)
    obtain ⟨x, hx⟩ : ∃ x, xs[k]? = some x := ⟨xs[k], by simp [hlt]⟩
    obtain ⟨c0, c1, c2, c3⟩ := (hcell k x hx).below hb hg
    have hxs := hz x (List.mem_of_getElem? hx)
    have HX : Hid (xs[k]? = some x) := hx
    clear hcell hx
    go_wp2_with fail
    refine (Zj3 x _ _ hxs hr0 hr1).mono ?_
    rintro e w2 ⟨rfl, hb2⟩
    have hB2 := hb.trans (hb2.mono hb.size)
    clear c0 c1 c2 c3 hb2
    by_cases hl : r < x.s.size
    ·rw [less, if_pos hl]
     go_wp2
     go_ret
     exact ⟨-1, rfl, by omega, by omega, fun h => by omega, hB2⟩
    ·rw [less, if_neg hl]
     go_wp2
     go_roundw
     case rel =>
      refine ⟨k + 1, _, by omega, by go_num, rfl, by omega, by omega, fun j y hy hj => ?_, hB2⟩
      by_cases e : j = k
      ·subst e
       rw [HX.out] at hy
       cases hy
       omega
      ·exact HA.out j y hy (by omega)
     case measure => simp [intOf]; omega
   ·go_wp2
    go_ret
    refine ⟨r, rfl, by omega, by omega, fun _ => ⟨by omega, fun x hx => ?_⟩, hb⟩
    obtain ⟨j, hj, e⟩ := List.getElem_of_mem hx
    exact HA.out j x (by rw [<- e]; simp [hj]) (by omega)
 ·go_enter Tryz.func67, Tryz.ntmps67
  go_wp2
  go_ret
  exact ⟨-1, rfl, by omega, by omega, fun h => by omega, Below.refl _ _⟩
theorem Zih (va vb : Value) (xs : List In) (w : World) (Ra : InRow w va xs) (Rb : InRow w vb xs) :
  Calls Tryz.prog 89 #[va, vb] w fun e w' => e = .returned (.bool true) /\ Below w.heap.size w w' := by
 obtain ⟨aa, ca, rfl, hca, hm, hz, hcella⟩ := Ra
 obtain ⟨ab, cb, rfl, hcb, _, _, hcellb⟩ := Rb
 have hn : ((xs.length : Int) != (xs.length : Int)) = false := by simp
 go_enter Tryz.func89, Tryz.ntmps89
 go_wp2
 go_loopw [5] (fun i wr => ∃ k : Nat, k <= xs.length /\ i = .int .i64 k /\ Below w.heap.size w wr) (fun i _ => xs.length - (intOf i).toNat)
 case atStart => exact ⟨0, by omega, rfl, Below.refl _ _⟩
 case round =>
  obtain ⟨k, hk, rfl, hb⟩ := hrel
  by_cases hlt : k < xs.length
  ·obtain ⟨ga, oa, rfl, hga, hcella⟩ := hcella (by intro e; subst e; simp at hlt)
   obtain ⟨gb, ob, rfl, hgb, hcellb⟩ := hcellb (by intro e; subst e; simp at hlt)
   obtain ⟨x, hx⟩ : ∃ x, xs[k]? = some x := ⟨xs[k], by simp [hlt]⟩
   obtain ⟨c0, c1, c2, c3⟩ := (hcella k x hx).below hb hga
   obtain ⟨d0, d1, d2, d3⟩ := (hcellb k x hx).below hb hgb
   clear hcella hcellb hx
   go_wp2_with fail
   go_region_with (go_at_call 138; refine (ZjO x _).mono ?_; rintro e w2 ⟨rfl, hb2⟩)
   all_goals
    have hB2 : Below w.heap.size w w2 := hb.drew.trans (hb2.mono hb.size)
    clear c0 c1 c2 c3 d0 d1 d2 d3 hb2
    go_wp2
    go_roundw
    case rel => exact ⟨k + 1, by omega, by go_num, hB2⟩
    case measure => simp [intOf]; omega
  ·go_wp2
   go_ret
   exact ⟨rfl, hb⟩
end Go.Proofs.YtfmafkebddojjaaGreatDoor
