/-
  Texts that stood by themselves, laid into one.
-/
import Derived.Test.YtfmafkebddojjaaGreatDoorShapeM
import Derived.Test.YtfmafkebddojjaaGreatDoorNumberM
/-
  Contracts of impl's nodeFits and PoolOk: when a node and a pool are right.
-/
set_option maxHeartbeats 1600000
namespace Go.Proofs.YtfmafkebddojjaaGreatDoor
open Go.RowKit
theorem ZcY (x : Nd) (n : Int) (w : World) (hs : x.s.size <= maxLen) :
  Calls Tryz.prog 190 #[.agg #[.int .i64 x.k, .int .i64 x.n, .string x.s, .int .i64 x.a, .int .i64 x.b], .int .i64 n] w fun e w' => e = .returned (.bool (Zaw x n)) /\ Below w.heap.size w w' := by
 go_enter Tryz.func190, Tryz.ntmps190
 go_wp2_with fail
 have hb0 : Below w.heap.size w (w.alloc (Obj.cells #[.int .i64 x.k, .int .i64 x.n, .string x.s, .int .i64 x.a, .int .i64 x.b] 210)) := (Below.refl _ _).alloc (Nat.le_refl _) _
 refine (Zde x.k _).mono ?_
 rintro e w1 ⟨rfl, hb1⟩
 have hbox := (hb1.block w.heap.size (by simp)).trans (heap_alloc_new _ _)
 have hcell : ∀ j, w1.cell? ⟨w.heap.size, j, none⟩ = #[Value.int .i64 x.k, .int .i64 x.n, .string x.s, .int .i64 x.a, .int .i64 x.b][j]? := fun j => cell_of_row w1 _ j _ _ _ hbox
 have c1 := hcell 1
 have c2 := hcell 2
 have c3 := hcell 3
 have c4 := hcell 4
 simp only [List.getElem?_toArray, List.getElem?_cons_succ, List.getElem?_cons_zero] at c1 c2 c3 c4
 have hbl : w.heap.size < w1.heap.size := (bl hbox)
 have hB1 : Below w.heap.size w w1 := hb0.trans (hb1.mono (by simp))
 clear hcell hbox hb0 hb1
 by_cases hk : 1 <= x.k /\ x.k <= 9
 ·rw [ZfI, if_pos hk]
  by_cases h1 : lo x.k <= x.n /\ x.n <= hi x.k
  ·have HN : Hid (Zaw x n = (Zbm x.s (hasS x.k) && Zbl x.a (hasA x.k) n && Zbl x.b (hasB x.k) n)) := by
    unfold Hid Zaw; simp [hk, h1]
   obtain ⟨h1a, h1b⟩ := h1
   go_wp2_with fail
   refine (Ze0 _ _ _ hs).mono ?_
   rintro e w2 ⟨rfl, rfl⟩
   generalize hA : Zbm x.s (hasS x.k) = bA at HN ⊢
   clear hA
   cases bA with
   | false =>
    go_wp2
    go_ret
    exact ⟨by rw [HN.out]; rfl, hB1.alloc hB1.size _⟩
   | true =>
    go_wp2_with fail
    refine (ZcU _ _ _ _).mono ?_
    rintro e w2 ⟨rfl, rfl⟩
    generalize hA : Zbl x.a (hasA x.k) n = bA at HN ⊢
    clear hA
    cases bA with
    | false =>
     go_wp2
     go_ret
     exact ⟨by rw [HN.out]; rfl, hB1.alloc hB1.size _⟩
    | true =>
     go_wp2_with fail
     refine (ZcU _ _ _ _).mono ?_
     rintro e w2 ⟨rfl, rfl⟩
     go_wp2
     go_ret
     exact ⟨by rw [HN.out]; rfl, hB1.alloc hB1.size _⟩
  ·have HN : Hid (Zaw x n = false) := by
    unfold Hid Zaw
    rw [Bool.eq_false_iff]
    intro h
    simp only [Bool.and_eq_true, decide_eq_true_eq] at h
    exact h1 ⟨h.1.1.2, h.1.2⟩
   go_wp2_with fail
   all_goals go_ret
   all_goals first | exact ⟨by rw [HN.out]; rfl, hB1.alloc hB1.size _⟩ | (exfalso; omega)
 ·have HN : Hid (Zaw x n = false) := by
   unfold Hid Zaw
   rw [Bool.eq_false_iff]
   intro h
   simp only [Bool.and_eq_true, decide_eq_true_eq] at h
   exact hk h.1.1.1
  rw [ZfI, if_neg hk]
  go_wp2_with fail
  all_goals go_ret
  all_goals exact ⟨by rw [HN.out]; rfl, hB1.alloc hB1.size _⟩
theorem Zfy (v : Value) (xs : List Nd) (w : World) (R : NRow w v xs) :
  Calls Tryz.prog 152 #[.agg #[v]] w fun e w' => e = .returned (.bool (Zap xs)) /\ Below w.heap.size w w' := by
 have R' := R
 obtain ⟨ao, cap, rfl, hcap, hm, hz, hcell⟩ := R'
 by_cases hlen : xs.length <= 3000
 ·have HP : Hid (Zap xs = ZaB (xs.drop 0) 0) := by unfold Hid Zap; simp [hlen]
  go_enter Tryz.func152, Tryz.ntmps152
  go_wp2_with fail
  go_loopw [12] (fun i wr => ∃ k : Nat, k <= xs.length /\ i = .int .i64 k /\ Hid (Zap xs = ZaB (xs.drop k) k) /\ Below w.heap.size w wr) (fun i _ => xs.length - (intOf i).toNat)
  case atStart => exact ⟨0, by omega, rfl, HP.out, (Below.refl _ _).alloc (Nat.le_refl _) _⟩
  case round =>
   clear HP
   obtain ⟨k, hk, rfl, HP, hb⟩ := hrel
   by_cases hlt : k < xs.length
   ·obtain ⟨g, o, rfl, hg, hcell⟩ := hcell (by intro e; subst e; simp at hlt)
    obtain ⟨x, hx⟩ : ∃ x, xs[k]? = some x := ⟨xs[k], by simp [hlt]⟩
    obtain ⟨c0, c1, c2, c3, c4⟩ := (hcell k x hx).below hb hg
    have HS : Hid (ZaB (xs.drop k) k = (Zaw x k && ZaB (xs.drop (k + 1)) (k + 1))) := Zdq xs k x hx
    have hxs := hz x (List.mem_of_getElem? hx)
    clear hcell hx
    go_wp2_with fail
    refine (ZcY x _ _ hxs).mono ?_
    rintro e w2 ⟨rfl, hb2⟩
    have hB : Below w.heap.size w w2 := (hb.alloc hb.size _).trans (hb2.mono (by have := hb.size; simp; omega))
    clear c0 c1 c2 c3 c4 hb2
    have HN : Hid (Zap xs = (Zaw x k && ZaB (xs.drop (k + 1)) (k + 1))) := by unfold Hid; rw [HP.out, HS.out]
    clear HS HP
    generalize hA : Zaw x k = bA at HN ⊢
    clear hA
    cases bA with
    | false =>
     go_wp2
     go_ret
     exact ⟨by rw [HN.out]; rfl, hB⟩
    | true =>
     go_wp2
     go_roundw
     case rel => exact ⟨k + 1, by omega, by go_num, HN.out, hB⟩
     case measure => simp [intOf]; omega
   ·have e : k = xs.length := by omega
    subst e
    have HT : Hid (Zap xs = true) := by unfold Hid; rw [HP.out, List.drop_length]; rfl
    clear HP
    go_wp2
    go_ret
    exact ⟨by rw [HT.out]; rfl, hb⟩
 ·have HP : Hid (Zap xs = false) := by unfold Hid Zap; simp [hlen]
  go_enter Tryz.func152, Tryz.ntmps152
  go_wp2_with fail
  go_ret
  exact ⟨by rw [HP.out]; rfl, (Below.refl _ _).alloc (Nat.le_refl _) _⟩
def iv (zs : List Int) : List Value := zs.map (Value.int .i64)
theorem ZcI (zs : List Int) (i : Nat) (h : i < zs.length) : (iv zs)[i]? = some (.int .i64 (zs.getD i 0)) := by simp [iv, List.getD, h]
theorem Zli (zs : List Int) (i : Nat) (z : Int) : (iv zs).set i (.int .i64 z) = iv (zs.set i z) := by simp [iv, List.map_set]
theorem Zjd (a b : List Int) : iv (a ++ b) = iv a ++ iv b := by simp [iv]
def szA (acc : List Int) (x : Nd) : Int := if hasA x.k then acc.getD x.a.toNat 0 else 0
def szB (acc : List Int) (x : Nd) : Int := if hasB x.k then acc.getD x.b.toNat 0 else 0
def szN (acc : List Int) (x : Nd) : Int := min (1 + szA acc x + szB acc x) 1000000000
def Zlj : List Nd -> List Int -> List Int
 | [], acc => acc
 | x :: xs, acc => Zlj xs (acc ++ [szN acc x])
def Ziy (xs : List Nd) (k : Nat) : List Int := Zlj (xs.take k) []
theorem Zhi (xs : List Nd) (i0 i : Nat) (x : Nd) (h : ZaB xs i0 = true) (hx : xs[i]? = some x) : Zaw x (i0 + i : Nat) = true := by
 induction xs generalizing i i0 with
 | nil => simp at hx
 | cons y ys ih =>
  simp only [ZaB, Bool.and_eq_true] at h
  cases i with
  | zero => simp at hx; subst hx; exact h.1
  | succ i =>
   have := ih (i0 + 1) i h.2 (by simpa using hx)
   rwa [show i0 + 1 + i = i0 + (i + 1) by omega] at this
theorem Za9 {xs : List Nd} (h : Zap xs = true) {i : Nat} {x : Nd} (hx : xs[i]? = some x) : Zaw x i = true := by
 simp only [Zap, Bool.and_eq_true] at h
 have := Zhi xs 0 i x h.2 hx
 simpa using this
theorem ZhV {x : Nd} {n : Int} (h : Zaw x n = true) : 1 <= x.k /\ x.k <= 9 := by
 simp only [Zaw, Bool.and_eq_true, decide_eq_true_eq] at h
 exact h.1.1.1
theorem ZbZ {x : Nd} {n : Int} (h : Zaw x n = true) (ha : hasA x.k = true) : 0 <= x.a /\ x.a < n := by
 simp only [Zaw, Bool.and_eq_true, decide_eq_true_eq] at h
 have := h.2.1.2
 rw [ha] at this
 simpa [Zbl] using this
theorem ZbX {x : Nd} {n : Int} (h : Zaw x n = true) (ha : hasB x.k = true) : 0 <= x.b /\ x.b < n := by
 simp only [Zaw, Bool.and_eq_true, decide_eq_true_eq] at h
 have := h.2.2
 rw [ha] at this
 simpa [Zbl] using this
theorem ZaD {xs : List Nd} (h : Zap xs = true) : xs.length <= 3000 := by
 simp only [Zap, Bool.and_eq_true, decide_eq_true_eq] at h; exact h.1
def hasI (xs : List Nd) (v : Int) : Bool := decide (0 <= v) && decide (v < xs.length)
def sizeR (xs : List Nd) (v : Int) : Int := if Zap xs && hasI xs v then (Ziy xs xs.length).getD v.toNat 0 else 0
theorem Zf7 (v : Value) (xs : List Nd) (a : Int) (w : World) (R : NRow w v xs) :
  Calls Tryz.prog 244 #[.agg #[v], .int .i64 a] w fun e w' => e = .returned (.bool (hasI xs a)) /\ Below w.heap.size w w' := by
 obtain ⟨ao, cap, rfl, _⟩ := R
 go_enter Tryz.func244, Tryz.ntmps244
 go_wp2
 all_goals go_ret
 all_goals (refine ⟨retB ?_, (Below.refl _ _).alloc (Nat.le_refl _) _⟩; rw [Bool.eq_iff_iff]; simp [hasI, *]; try omega)
def ZbN (x : Nd) : List Int :=
 if x.k = 2 \/ x.k = 8 \/ x.k = 9 then encI x.n else if x.k = 3 then encI (x.n + 1000000000) else if x.k = 4 then pt x.s
 else if x.k = 5 then encI x.a ++ encI x.b else if x.k = 6 then encI x.n ++ encI x.a else if x.k = 7 then encI x.a else []
def ZaY (x : Nd) : List Int := encI x.k ++ ZbN x
def Zbw (xs : List Nd) : List Int := encI xs.length ++ xs.flatMap ZaY
def NdOk (x : Nd) : Prop := (1 <= x.k /\ x.k <= 9) /\ (-1000000000 <= x.n /\ x.n <= 1000000000) /\ x.s.size <= 12 /\ (x.a <= 3000 /\ x.b <= 3000)
theorem Ziv {x : Nd} {i : Int} (h : Zaw x i = true) (hle : i <= 3000) : NdOk x := by
 have hlo : -1000000000 <= lo x.k := by unfold lo; split <;> decide
 have hhi : hi x.k <= 1000000000 := by
  unfold hi
  split
  ·decide
  ·split
   ·decide
   ·split <;> decide
 simp only [Zaw, Bool.and_eq_true, decide_eq_true_eq] at h
 obtain ⟨⟨⟨⟨h1, h2⟩, h3⟩, h4⟩, ⟨h5, h6⟩, h7⟩ := h
 refine ⟨⟨h1, h2⟩, ⟨by omega, by omega⟩, ?_, ?_, ?_⟩
 ·unfold Zbm at h5
  split at h5
  ·simp only [ZbQ, Bool.and_eq_true, decide_eq_true_eq] at h5
   exact h5.1.2
  ·have e : x.s.toList = [] := by simpa using h5
   rw [ByteArray.toList_eq] at e
   have : x.s.size = 0 := by
    rw [show x.s.size = x.s.data.toList.length by rw [Array.length_toList]; rfl, e]; rfl
   omega
 ·unfold Zbl at h6
  split at h6
  ·simp only [Bool.and_eq_true, decide_eq_true_eq] at h6; omega
  ·have : x.a = 0 := by simpa using h6
   omega
 ·unfold Zbl at h7
  split at h7
  ·simp only [Bool.and_eq_true, decide_eq_true_eq] at h7; omega
  ·have : x.b = 0 := by simpa using h7
   omega
theorem ZbC {xs : List Nd} (h : Zap xs = true) : ∀ x ∈ xs, NdOk x := by
 intro x hx
 obtain ⟨i, hi⟩ := List.getElem?_of_mem hx
 have hl : i < xs.length := (List.getElem?_eq_some_iff.1 hi).1
 have hm : xs.length <= 3000 := by simp only [Zap, Bool.and_eq_true, decide_eq_true_eq] at h; exact h.1
 exact Ziv (Za9 h hi) (by omega)
theorem Zi7 (x : Nd) (h : x.s.size <= 12) : (ZbN x).length <= 21 := by
 have e := Zaq
 unfold ZbN
 split
 ·have := e x.n; omega
 ·split
  ·have := e (x.n + 1000000000); omega
  ·split
   ·rw [ZcG]; have := e x.s.size; omega
   ·split
    ·rw [List.length_append]; have := e x.a; have := e x.b; omega
    ·split
     ·rw [List.length_append]; have := e x.n; have := e x.a; omega
     ·split
      ·have := e x.a; omega
      ·simp
theorem ZjB (x : Nd) (h : x.s.size <= 12) : (ZaY x).length <= 30 := by
 have := Zi7 x h
 have := Zaq x.k
 unfold ZaY
 rw [List.length_append]
 omega
theorem Zfq (xs : List Nd) (h : ∀ x ∈ xs, NdOk x) : (xs.flatMap ZaY).length <= 30 * xs.length := by
 induction xs with
 | nil => simp
 | cons x xs ih =>
  have h1 := ZjB x (h x List.mem_cons_self).2.2.1
  have h2 := ih (fun y hy => h y (List.mem_cons_of_mem _ hy))
  rw [List.flatMap_cons, List.length_append, List.length_cons]
  omega
theorem Zj0 (x : Nd) : ∀ z ∈ ZbN x, 0 <= z /\ z <= 255 := by
 intro z hz
 unfold ZbN at hz
 split at hz
 ·exact ZbO _ z hz
 ·split at hz
  ·exact ZbO _ z hz
  ·split at hz
   ·exact ZlO _ z hz
   ·split at hz
    ·rcases List.mem_append.1 hz with h | h <;> exact ZbO _ z h
    ·split at hz
     ·rcases List.mem_append.1 hz with h | h <;> exact ZbO _ z h
     ·split at hz
      ·exact ZbO _ z hz
      ·simp at hz
theorem Zj5 (xs : List Nd) : ∀ z ∈ xs.flatMap ZaY, 0 <= z /\ z <= 255 := by
 intro z hz
 obtain ⟨x, _, h⟩ := List.mem_flatMap.1 hz
 unfold ZaY at h
 rcases List.mem_append.1 h with h | h
 ·exact ZbO _ z h
 ·exact Zj0 x z h
theorem ZeJ (xs : List Nd) : ∀ z ∈ Zbw xs, 0 <= z /\ z <= 255 := by
 intro z hz
 unfold Zbw at hz
 rcases List.mem_append.1 hz with h | h
 ·exact ZbO _ z h
 ·exact Zj5 xs z h
theorem ZhN (xs : List Nd) (k : Nat) (x : Nd) (h : xs[k]? = some x) : (xs.take (k + 1)).flatMap ZaY = (xs.take k).flatMap ZaY ++ ZaY x := by
 rw [List.take_add_one, h]; simp
def Lies (zs : List Int) (a : Int) (L : List Int) (b : Int) : Prop := 0 <= a /\ b = a + L.length /\ ∃ rest, zs.drop a.toNat = L ++ rest
theorem Lies.append {zs L M : List Int} {a b c : Int} (h : Lies zs a L b) (k : Lies zs b M c) : Lies zs a (L ++ M) c := by
 obtain ⟨h1, h2, r, h3⟩ := h
 obtain ⟨k1, k2, t, k3⟩ := k
 refine ⟨h1, by rw [k2, h2]; simp; omega, t, ?_⟩
 have e : b.toNat = a.toNat + L.length := by omega
 rw [e, <- List.drop_drop, h3, List.drop_left] at k3
 rw [h3, k3, List.append_assoc]
theorem Lies.nil {zs : List Int} {a : Int} (h : 0 <= a) : Lies zs a [] a := ⟨h, by simp, _, rfl⟩
theorem Zi8 {l : List Int} (h : ∀ z ∈ l, 0 <= z /\ z <= 255) : sb (strOfNums l) = l := by
 unfold sb strOfNums
 simp only [List.map_map]
 conv => rhs; rw [<- List.map_id l]
 apply List.map_congr_left
 intro z hz
 have := h z hz
 simp only [Function.comp, id]
 rw [UInt8.toNat_ofNat']
 omega
theorem Zik {zs : List Int} {a next : Int} {s : ByteArray} (hz : ∀ z ∈ zs, 0 <= z /\ z <= 255) (h : gT zs a = (s, next, true)) : Lies zs a (pt s) next := by
 unfold gT at h
 split at h
 ·rename_i hc
  obtain ⟨h1, h2⟩ := hc
  have hg : gN zs a = ((gN zs a).1, (gN zs a).2.1, true) := by rw [<- h1]
  obtain ⟨g1, g2, g3, r, g4⟩ := Zgv hz hg
  generalize (gN zs a).1 = n at *
  generalize (gN zs a).2.1 = m at *
  cases h
  have hm : 0 <= m := by omega
  have hlen : ((zs.drop m.toNat).take n.toNat).length = n.toNat := by rw [List.length_take, List.length_drop]; omega
  have hsb : sb (strOfNums ((zs.drop m.toNat).take n.toNat)) = (zs.drop m.toNat).take n.toNat := Zi8 (fun z h => hz z (List.mem_of_mem_drop (List.mem_of_mem_take h)))
  have hsz : ((strOfNums ((zs.drop m.toNat).take n.toNat)).size : Int) = n := by
   have := congrArg List.length hsb
   rw [ZaF, hlen] at this
   omega
  have L1 : Lies zs a (encI n) m := ⟨g1, g3, r, g4⟩
  have L2 : Lies zs m ((zs.drop m.toNat).take n.toNat) (m + n) := ⟨hm, by rw [hlen]; omega, (zs.drop m.toNat).drop n.toNat, (List.take_append_drop _ _).symm⟩
  have := L1.append L2
  unfold pt
  rw [hsz, hsb]
  exact this
 ·cases h
def rd1 (zs : List Int) (a : Int) : Option (Int × Int) := if (gN zs a).2.2 then some ((gN zs a).1, (gN zs a).2.1) else none
def rdB (zs : List Int) (k a : Int) : Option (Nd × Int) :=
 if k = 1 then some (⟨1, 0, ByteArray.empty, 0, 0⟩, a)
 else if k = 2 \/ k = 8 \/ k = 9 then (rd1 zs a).map fun p => (⟨k, p.1, ByteArray.empty, 0, 0⟩, p.2)
 else if k = 3 then (rd1 zs a).map fun p => (⟨3, p.1 - 1000000000, ByteArray.empty, 0, 0⟩, p.2)
 else if k = 4 then (if (gT zs a).2.2 then some (⟨4, 0, (gT zs a).1, 0, 0⟩, (gT zs a).2.1) else none)
 else if k = 5 then (rd1 zs a).bind fun p => (rd1 zs p.2).map fun q => (⟨5, 0, ByteArray.empty, p.1, q.1⟩, q.2)
 else if k = 6 then (rd1 zs a).bind fun p => (rd1 zs p.2).map fun q => (⟨6, p.1, ByteArray.empty, q.1, 0⟩, q.2)
 else if k = 7 then (rd1 zs a).map fun p => (⟨7, 0, ByteArray.empty, p.1, 0⟩, p.2)
 else none
def rdNd (zs : List Int) (a : Int) : Option (Nd × Int) := (rd1 zs a).bind fun p => rdB zs p.1 p.2
def Zbi (zs : List Int) : Nat -> Int -> Option (List Nd × Int)
 | 0, a => some ([], a)
 | n + 1, a => (rdNd zs a).bind fun p => (Zbi zs n p.2).map fun q => (p.1 :: q.1, q.2)
theorem ZaW {zs : List Int} {a x b : Int} (hz : ∀ z ∈ zs, 0 <= z /\ z <= 255) (h : rd1 zs a = some (x, b)) : Lies zs a (encI x) b /\ 0 <= x := by
 unfold rd1 at h
 split at h
 ·rename_i h1
  cases h
  have hg : gN zs a = ((gN zs a).1, (gN zs a).2.1, true) := by rw [<- h1]
  obtain ⟨g1, g2, g3, g4⟩ := Zgv hz hg
  exact ⟨⟨g1, g3, g4⟩, g2⟩
 ·cases h
theorem Zkj {zs : List Int} {k a b : Int} {x : Nd} (hz : ∀ z ∈ zs, 0 <= z /\ z <= 255) (ha : 0 <= a) (h : rdB zs k a = some (x, b)) : Lies zs a (ZbN x) b /\ x.k = k := by
 unfold rdB at h
 split at h
 ·rename_i hk; subst hk
  cases h
  exact ⟨Lies.nil ha, rfl⟩
 split at h
 ·rename_i hk
  rw [Option.map_eq_some_iff] at h
  obtain ⟨⟨n, c⟩, h1, h2⟩ := h
  cases h2
  refine ⟨?_, rfl⟩
  unfold ZbN
  rw [if_pos hk]
  exact (ZaW hz h1).1
 rename_i hk1 hk2
 split at h
 ·rename_i hk; subst hk
  rw [Option.map_eq_some_iff] at h
  obtain ⟨⟨n, c⟩, h1, h2⟩ := h
  cases h2
  refine ⟨?_, rfl⟩
  show Lies zs a (encI (n - 1000000000 + 1000000000)) c
  rw [show n - 1000000000 + 1000000000 = n by omega]
  exact (ZaW hz h1).1
 split at h
 ·rename_i hk; subst hk
  split at h
  ·rename_i hg
   cases h
   refine ⟨?_, rfl⟩
   have e : gT zs a = ((gT zs a).1, (gT zs a).2.1, true) := by rw [<- hg]
   exact Zik hz e
  ·cases h
 split at h
 ·rename_i hk; subst hk
  rw [Option.bind_eq_some_iff] at h
  obtain ⟨⟨n, c⟩, h1, h2⟩ := h
  rw [Option.map_eq_some_iff] at h2
  obtain ⟨⟨m, d⟩, h3, h4⟩ := h2
  cases h4
  exact ⟨(ZaW hz h1).1.append (ZaW hz h3).1, rfl⟩
 split at h
 ·rename_i hk; subst hk
  rw [Option.bind_eq_some_iff] at h
  obtain ⟨⟨n, c⟩, h1, h2⟩ := h
  rw [Option.map_eq_some_iff] at h2
  obtain ⟨⟨m, d⟩, h3, h4⟩ := h2
  cases h4
  exact ⟨(ZaW hz h1).1.append (ZaW hz h3).1, rfl⟩
 split at h
 ·rename_i hk; subst hk
  rw [Option.map_eq_some_iff] at h
  obtain ⟨⟨n, c⟩, h1, h2⟩ := h
  cases h2
  exact ⟨(ZaW hz h1).1, rfl⟩
 ·cases h
theorem ZiH {zs : List Int} {a b : Int} {x : Nd} (hz : ∀ z ∈ zs, 0 <= z /\ z <= 255) (h : rdNd zs a = some (x, b)) : Lies zs a (ZaY x) b := by
 unfold rdNd at h
 rw [Option.bind_eq_some_iff] at h
 obtain ⟨⟨k, c⟩, h1, h2⟩ := h
 obtain ⟨l1, _⟩ := ZaW hz h1
 obtain ⟨l2, hk⟩ := Zkj hz (by have := l1.1; have := l1.2.1; omega) h2
 unfold ZaY
 rw [hk]
 exact l1.append l2
theorem Zcb {zs : List Int} (hz : ∀ z ∈ zs, 0 <= z /\ z <= 255) : ∀ (n : Nat) (a b : Int) (xs : List Nd), 0 <= a -> Zbi zs n a = some (xs, b) -> Lies zs a (xs.flatMap ZaY) b /\ xs.length = n
 | 0, a, b, xs, ha, h => by cases h; exact ⟨Lies.nil ha, rfl⟩
 | n + 1, a, b, xs, ha, h => by
  rw [Zbi, Option.bind_eq_some_iff] at h
  obtain ⟨⟨x, c⟩, h1, h2⟩ := h
  rw [Option.map_eq_some_iff] at h2
  obtain ⟨⟨ys, d⟩, h3, h4⟩ := h2
  cases h4
  have l1 := ZiH hz h1
  obtain ⟨l2, hl⟩ := Zcb hz n c d ys (by have := l1.1; have := l1.2.1; omega) h3
  exact ⟨l1.append l2, by simp [hl]⟩
theorem ZgC (post : List Int) (f : Nat) (x : Int) (h0 : 0 <= x) (hl : x < lim (f + 1)) : scan (f + 1) (enc (f + 1) x ++ post) = some (enc (f + 1) x) := by
 induction f generalizing x with
 | zero =>
  have hx : x < 128 := by simpa [lim] using hl
  rw [Za8 0 x hx]; simp [scan, hx]
 | succ f ih =>
  by_cases hx : x < 128
  ·rw [Za8 _ x hx]; simp [scan, hx]
  ·obtain ⟨f', hf, hl'⟩ := Zc1 (f + 1) x (by omega) hl
   rw [Zck _ x (by omega), List.cons_append]
   simp only [scan]
   rw [if_neg (by omega), ih (x / 128) (by omega) hl']
   rfl
theorem ZkV (f : Nat) (x : Int) (h0 : 0 <= x) (hl : x < lim (f + 1)) : val (enc (f + 1) x) = x := by
 induction f generalizing x with
 | zero =>
  have hx : x < 128 := by simpa [lim] using hl
  rw [Za8 0 x hx]; simp only [val]; omega
 | succ f ih =>
  by_cases hx : x < 128
  ·rw [Za8 _ x hx]; simp only [val]; omega
  ·obtain ⟨f', hf, hl'⟩ := Zc1 (f + 1) x (by omega) hl
   rw [Zck _ x (by omega)]
   simp only [val]
   rw [ih (x / 128) (by omega) hl']
   omega
theorem ZjW (f : Nat) (x : Int) (h0 : 0 < x) (hl : x < lim (f + 1)) : (enc (f + 1) x).getLast? ≠ some 0 := by
 induction f generalizing x with
 | zero =>
  have hx : x < 128 := by simpa [lim] using hl
  rw [Za8 0 x hx]; simp; omega
 | succ f ih =>
  by_cases hx : x < 128
  ·rw [Za8 _ x hx]; simp; omega
  ·obtain ⟨f', hf, hl'⟩ := Zc1 (f + 1) x (by omega) hl
   rw [Zck _ x (by omega)]
   have hne : enc (f + 1) (x / 128) ≠ [] := by
    intro e
    have := ZgC [] f (x / 128) (by omega) hl'
    rw [e] at this
    simp [scan] at this
   rw [List.getLast?_cons_of_ne_nil hne]
   exact ih (x / 128) (by omega) hl'
theorem Zey {x : Int} (h : x <= 9223372036854775807) : x < lim (8 + 1) := by
 rw [Zel]; omega
theorem ZkI (pre post : List Int) (x : Int) (h0 : 0 <= x) (h1 : x <= 9223372036854775807) : gN (pre ++ (enc 9 x ++ post)) (pre.length : Int) = (x, (pre.length : Int) + (enc 9 x).length, true) := by
 have hs : scan 9 ((pre ++ (enc 9 x ++ post)).drop pre.length) = some (enc 9 x) := by
  rw [List.drop_left]
  exact ZgC post 8 x h0 (Zey h1)
 have hneg : ¬ (pre.length : Int) < 0 := by omega
 simp only [gN, hneg, if_false, Int.toNat_natCast, hs]
 rw [if_neg, ZkV 8 x h0 (Zey h1)]
 intro hbad
 rcases Int.lt_or_eq_of_le h0 with h | h
 ·exact ZjW 8 x h (Zey h1) hbad.2
 ·subst h
  have := hbad.1
  rw [Za8 8 0 (by omega)] at this
  simp at this
theorem ZcV (s : ByteArray) : strOfNums (sb s) = s := by
 have e0 : ∀ l : List UInt8, (l.map fun b => (b.toNat : Int)).map (fun n => UInt8.ofNat n.toNat) = l := by
  intro l
  induction l with
  | nil => rfl
  | cons b l ih => simp only [List.map_cons, ih]; simp
 have e : (sb s).map (fun n => UInt8.ofNat n.toNat) = s.data.toList := e0 _
 unfold strOfNums
 rw [e]
def num8 (zs : List Int) (at_ : Int) (ok : Bool) : Int × Int × Bool := if ok && (gN zs at_).2.2 then ((gN zs at_).1, (gN zs at_).2.1, true) else (0, at_, false)
def rdP (zs : List Int) (a : Int) : Option (List Nd × Int) :=
 (rd1 zs a).bind fun p => if p.1 > 3000 then none else (Zbi zs p.1.toNat p.2).bind fun q => if Zap q.1 then some q else none
def sB (zs : List Int) (k a : Int) (ok : Bool) : Nd × Int × Bool :=
 if k = 2 \/ k = 8 \/ k = 9 then (⟨k, (num8 zs a ok).1, ByteArray.empty, 0, 0⟩, (num8 zs a ok).2)
 else if k = 3 then (⟨k, (num8 zs a ok).1 - 1000000000, ByteArray.empty, 0, 0⟩, (num8 zs a ok).2)
 else if k = 4 then (⟨k, 0, (gT zs a).1, 0, 0⟩, (gT zs a).2.1, ok && (gT zs a).2.2)
 else if k = 5 then (⟨k, 0, ByteArray.empty, (num8 zs a ok).1, (num8 zs (num8 zs a ok).2.1 (num8 zs a ok).2.2).1⟩, (num8 zs (num8 zs a ok).2.1 (num8 zs a ok).2.2).2)
 else if k = 6 then (⟨k, (num8 zs a ok).1, ByteArray.empty, (num8 zs (num8 zs a ok).2.1 (num8 zs a ok).2.2).1, 0⟩, (num8 zs (num8 zs a ok).2.1 (num8 zs a ok).2.2).2)
 else if k = 7 then (⟨k, 0, ByteArray.empty, (num8 zs a ok).1, 0⟩, (num8 zs a ok).2)
 else (⟨k, 0, ByteArray.empty, 0, 0⟩, a, ok)
def sN (zs : List Int) (a : Int) : Nd × Int × Bool := sB zs (num8 zs a true).1 (num8 zs a true).2.1 (num8 zs a true).2.2
def sNs (zs : List Int) : Nat -> List Nd -> Int -> Bool -> List Nd × Int × Bool
 | 0, xs, a, ok => (xs, a, ok)
 | m + 1, xs, a, ok => if ok then sNs zs m (xs ++ [(sN zs a).1]) (sN zs a).2.1 (sN zs a).2.2 else (xs, a, false)
def Zg0 (zs : List Int) (a : Int) (ok : Bool) : Bool := (num8 zs a ok).2.2 && decide ((num8 zs a ok).1 <= 3000)
def sP (zs : List Int) (a : Int) (ok : Bool) : List Nd × Int × Bool := sNs zs (num8 zs a ok).1.toNat [] (num8 zs a ok).2.1 (Zg0 zs a ok)
def sOk (zs : List Int) (a : Int) (ok : Bool) : Bool := (sP zs a ok).2.2 && decide ((sP zs a ok).2.1 = zs.length) && Zap (sP zs a ok).1
theorem ZaG (zs : List Int) (a : Int) : (num8 zs a true).2.2 = (rd1 zs a).isSome /\ ∀ p, rd1 zs a = some p -> num8 zs a true = (p.1, p.2, true) := by
 unfold num8 rd1
 cases (gN zs a).2.2 <;> simp
theorem Zbq (zs : List Int) (a : Int) : num8 zs a false = (0, a, false) := by simp [num8]
theorem ZaA {zs : List Int} {a : Int} (h : rd1 zs a = none) : num8 zs a true = (0, a, false) := by
 unfold num8 rd1 at *
 cases hg : (gN zs a).2.2 with
 | false => simp
 | true => rw [hg] at h; cases h
theorem Za5 {zs : List Int} {a : Int} {p : Int × Int} (h : rd1 zs a = some p) : 0 <= p.1 /\ p.1 <= 9223372036854775807 /\ 0 <= p.2 /\ p.2 <= zs.length := by
 unfold rd1 at h
 split at h
 ·rename_i hk
  cases h
  have := Zj6 zs a (gN zs a).1 (gN zs a).2.1 (by rw [<- hk])
  exact this
 ·cases h
theorem ZcP (zs : List Int) (a : Int) (ok : Bool) (h0 : 0 <= a) (h1 : a <= zs.length) : 0 <= (num8 zs a ok).1 /\ (num8 zs a ok).1 <= 9223372036854775807 /\ 0 <= (num8 zs a ok).2.1 /\ (num8 zs a ok).2.1 <= zs.length := by
 cases ok with
 | false => rw [Zbq]; exact ⟨by omega, by omega, h0, h1⟩
 | true =>
  cases hr : rd1 zs a with
  | none => rw [ZaA hr]; exact ⟨by omega, by omega, h0, h1⟩
  | some p => rw [(ZaG zs a).2 p hr]; exact Za5 hr
theorem Zlq (zs : List Int) (k a : Int) : (∀ p, rdB zs k a = some p -> sB zs k a true = (p.1, p.2, true)) /\ (rdB zs k a = none -> (sB zs k a true).2.2 = false \/ ∀ i, Zaw (sB zs k a true).1 i = false) := by
 unfold rdB sB
 by_cases h1 : k = 1
 ·subst h1
  rw [if_pos rfl, if_neg (by omega), if_neg (by omega), if_neg (by omega), if_neg (by omega), if_neg (by omega), if_neg (by omega)]
  exact ⟨fun p h => by (cases h; rfl), fun h => by (cases h)⟩
 rw [if_neg h1]
 by_cases h2 : k = 2 \/ k = 8 \/ k = 9
 ·rw [if_pos h2, if_pos h2]
  cases hr : rd1 zs a with
  | none => rw [ZaA hr]; exact ⟨fun p h => by (simp at h), fun _ => .inl rfl⟩
  | some q => rw [(ZaG zs a).2 q hr]; exact ⟨fun p h => by (simp at h; subst h; rfl), fun h => by (simp at h)⟩
 rw [if_neg h2, if_neg h2]
 by_cases h3 : k = 3
 ·subst h3
  rw [if_pos rfl, if_pos rfl]
  cases hr : rd1 zs a with
  | none => rw [ZaA hr]; exact ⟨fun p h => by (simp at h), fun _ => .inl rfl⟩
  | some q => rw [(ZaG zs a).2 q hr]; exact ⟨fun p h => by (simp at h; subst h; rfl), fun h => by (simp at h)⟩
 rw [if_neg h3, if_neg h3]
 by_cases h4 : k = 4
 ·subst h4
  rw [if_pos rfl, if_pos rfl]
  cases hg : (gT zs a).2.2 with
  | false => exact ⟨fun p h => by (simp at h), fun _ => .inl (by simp)⟩
  | true => exact ⟨fun p h => by (simp at h; subst h; rfl), fun h => by (simp at h)⟩
 rw [if_neg h4, if_neg h4]
 by_cases h5 : k = 5
 ·subst h5
  rw [if_pos rfl, if_pos rfl]
  cases hr : rd1 zs a with
  | none => rw [ZaA hr]; exact ⟨fun p h => by (simp at h), fun _ => .inl (by simp only [Zbq])⟩
  | some q =>
   rw [(ZaG zs a).2 q hr]
   simp only [Option.bind_some]
   cases hr2 : rd1 zs q.2 with
   | none => rw [ZaA hr2]; exact ⟨fun p h => by (simp at h), fun _ => .inl rfl⟩
   | some t => rw [(ZaG zs q.2).2 t hr2]; exact ⟨fun p h => by (simp at h; subst h; rfl), fun h => by (simp at h)⟩
 rw [if_neg h5, if_neg h5]
 by_cases h6 : k = 6
 ·subst h6
  rw [if_pos rfl, if_pos rfl]
  cases hr : rd1 zs a with
  | none => rw [ZaA hr]; exact ⟨fun p h => by (simp at h), fun _ => .inl (by simp only [Zbq])⟩
  | some q =>
   rw [(ZaG zs a).2 q hr]
   simp only [Option.bind_some]
   cases hr2 : rd1 zs q.2 with
   | none => rw [ZaA hr2]; exact ⟨fun p h => by (simp at h), fun _ => .inl rfl⟩
   | some t => rw [(ZaG zs q.2).2 t hr2]; exact ⟨fun p h => by (simp at h; subst h; rfl), fun h => by (simp at h)⟩
 rw [if_neg h6, if_neg h6]
 by_cases h7 : k = 7
 ·subst h7
  rw [if_pos rfl, if_pos rfl]
  cases hr : rd1 zs a with
  | none => rw [ZaA hr]; exact ⟨fun p h => by (simp at h), fun _ => .inl rfl⟩
  | some q => rw [(ZaG zs a).2 q hr]; exact ⟨fun p h => by (simp at h; subst h; rfl), fun h => by (simp at h)⟩
 rw [if_neg h7, if_neg h7]
 refine ⟨fun p h => by (cases h), fun _ => Or.inr fun i => ?_⟩
 unfold Zaw
 have : (decide (1 <= k) && decide (k <= 9)) = false := by
  rcases Int.lt_or_le k 1 with h | h
  ·rw [decide_eq_false (by omega)]; rfl
  ·rcases Int.lt_or_le 9 k with h' | h'
   ·rw [decide_eq_false (p := k <= 9) (by omega), Bool.and_false]
   ·omega
 show (decide (1 <= k) && decide (k <= 9) && _ && _ && _) = false
 rw [this]
 rfl
theorem ZlR (zs : List Int) (a : Int) : (∀ p, rdNd zs a = some p -> sN zs a = (p.1, p.2, true)) /\ (rdNd zs a = none -> (sN zs a).2.2 = false \/ ∀ i, Zaw (sN zs a).1 i = false) := by
 unfold rdNd sN
 cases hr : rd1 zs a with
 | none =>
  rw [ZaA hr]
  refine ⟨fun p h => by (simp at h), fun _ => .inl ?_⟩
  simp [sB]
 | some q =>
  rw [(ZaG zs a).2 q hr]
  exact Zlq zs q.1 q.2
theorem ZbI (xs ys : List Nd) (i : Nat) : ZaB (xs ++ ys) i = (ZaB xs i && ZaB ys (i + xs.length)) := by
 induction xs generalizing i with
 | nil => simp [ZaB]
 | cons x xs ih => simp only [List.cons_append, ZaB, List.length_cons]; rw [ih, Bool.and_assoc, show i + 1 + xs.length = i + (xs.length + 1) by omega]
theorem Ze5 (zs : List Int) : ∀ (m : Nat) (xs : List Nd) (a : Int) (ok : Bool), ∃ ys, (sNs zs m xs a ok).1 = xs ++ ys
 | 0, xs, a, ok => ⟨[], by simp [sNs]⟩
 | m + 1, xs, a, ok => by
  rw [sNs]
  split
  ·obtain ⟨ys, h⟩ := Ze5 zs m (xs ++ [(sN zs a).1]) (sN zs a).2.1 (sN zs a).2.2
   exact ⟨[(sN zs a).1] ++ ys, by rw [h, List.append_assoc]⟩
  ·exact ⟨[], by simp⟩
theorem Zb2 (zs : List Int) (m : Nat) (xs : List Nd) (a : Int) : sNs zs m xs a false = (xs, a, false) := by cases m <;> rfl
theorem ZkM (zs : List Int) : ∀ (m : Nat) (xs : List Nd) (a : Int),
  (∀ p, Zbi zs m a = some p -> sNs zs m xs a true = (xs ++ p.1, p.2, true)) /\ (Zbi zs m a = none -> (sNs zs m xs a true).2.2 = false \/ ZaB (sNs zs m xs a true).1 0 = false)
 | 0, xs, a => ⟨fun p h => by cases h; simp [sNs], fun h => by cases h⟩
 | m + 1, xs, a => by
  rw [Zbi, sNs, if_pos rfl]
  obtain ⟨n1, n2⟩ := ZlR zs a
  cases hr : rdNd zs a with
  | some p =>
   rw [n1 p hr]
   obtain ⟨i1, i2⟩ := ZkM zs m (xs ++ [p.1]) p.2
   simp only [Option.bind_some]
   cases hr2 : Zbi zs m p.2 with
   | some q => exact ⟨fun t h => by (simp at h; subst h; rw [i1 q hr2]; simp), fun h => by (simp at h)⟩
   | none => exact ⟨fun t h => by (simp at h), fun _ => i2 hr2⟩
  | none =>
   refine ⟨fun t h => by (simp at h), fun _ => ?_⟩
   rcases n2 hr with h | h
   ·rw [h, Zb2]; exact .inl rfl
   ·right
    obtain ⟨ys, hy⟩ := Ze5 zs m (xs ++ [(sN zs a).1]) (sN zs a).2.1 (sN zs a).2.2
    rw [hy, List.append_assoc, ZbI, List.singleton_append, ZaB, h, Bool.false_and, Bool.and_false]
theorem ZkD (zs : List Int) (a : Int) (xs : List Nd) : (sOk zs a true = true /\ (sP zs a true).1 = xs) <-> rdP zs a = some (xs, (zs.length : Int)) := by
 unfold sOk rdP sP Zg0
 cases hr : rd1 zs a with
 | none => rw [ZaA hr]; simp [sNs]
 | some q =>
  rw [(ZaG zs a).2 q hr]
  simp only [Option.bind_some, Bool.true_and]
  by_cases hq : q.1 > 3000
  ·rw [if_pos hq, decide_eq_false (by omega), Zb2]
   simp
  ·rw [if_neg hq, decide_eq_true (by omega)]
   obtain ⟨i1, i2⟩ := ZkM zs q.1.toNat [] q.2
   cases hr2 : Zbi zs q.1.toNat q.2 with
   | some p =>
    rw [i1 p hr2]
    simp only [List.nil_append, Option.bind_some, Bool.true_and, Bool.and_eq_true, decide_eq_true_eq]
    obtain ⟨p1, p2⟩ := p
    constructor
    ·rintro ⟨⟨h1, h2⟩, h3⟩
     rw [if_pos h2]
     simp only at h1 h3
     rw [h1, h3]
    ·intro h
     split at h
     ·rename_i h2
      cases h
      exact ⟨⟨rfl, h2⟩, rfl⟩
     ·cases h
   | none =>
    simp only [Option.bind_none, reduceCtorEq, iff_false]
    rintro ⟨h, -⟩
    simp only [Bool.and_eq_true, Zap] at h
    rcases i2 hr2 with h' | h'
    ·rw [h'] at h; simp at h
    ·rw [h'] at h; simp at h
theorem ZgV {zs : List Int} {xs : List Nd} (hz : ∀ z ∈ zs, 0 <= z /\ z <= 255) (h : rdP zs 0 = some (xs, (zs.length : Int))) : Zap xs = true /\ Zbw xs = zs := by
 unfold rdP at h
 rw [Option.bind_eq_some_iff] at h
 obtain ⟨⟨n, a⟩, h1, h2⟩ := h
 split at h2
 ·cases h2
 rw [Option.bind_eq_some_iff] at h2
 obtain ⟨⟨ys, b⟩, h3, h4⟩ := h2
 split at h4
 ·rename_i hp
  cases h4
  obtain ⟨L1, hn⟩ := ZaW hz h1
  obtain ⟨L2, hl⟩ := Zcb hz n.toNat a _ xs (by have := L1.1; have := L1.2.1; omega) h3
  refine ⟨hp, ?_⟩
  obtain ⟨_, hlen, rest, hr⟩ := L1.append L2
  have e : (xs.length : Int) = n := by omega
  unfold Zbw
  rw [e]
  rw [Int.toNat_zero, List.drop_zero] at hr
  have hlen2 := congrArg List.length hr
  rw [List.length_append] at hlen2
  have : rest = [] := List.eq_nil_of_length_eq_zero (by omega)
  rw [this, List.append_nil] at hr
  exact hr.symm
 ·cases h4
theorem Zfn {x y : Int} {l m : List Int} (hx : 0 <= x) (hy : 0 <= y) (hx1 : x <= 9223372036854775807) (hy1 : y <= 9223372036854775807) (h : encI x ++ l = encI y ++ m) : x = y := by
 have h1 := ZkI [] l x hx hx1
 have h2 := ZkI [] m y hy hy1
 rw [Zci x hx, Zci y hy] at h
 rw [h, h2] at h1
 have := congrArg (fun t => t.1) h1
 exact this.symm
def rt (zs : List Int) (a : Int) : Option (ByteArray × Int) := if (gT zs a).2.2 then some ((gT zs a).1, (gT zs a).2.1) else none
def txt8 (zs : List Int) (at_ : Int) (ok : Bool) : ByteArray × Int × Bool := if ok && (gT zs at_).2.2 then ((gT zs at_).1, (gT zs at_).2.1, true) else (⟨#[]⟩, at_, false)
theorem Zf4 (zs : List Int) (a : Int) : txt8 zs a true = match rt zs a with | some p => (p.1, p.2, true) | none => (⟨#[]⟩, a, false) := by
 unfold txt8 rt
 cases (gT zs a).2.2 <;> rfl
theorem Zcn (zs : List Int) (a : Int) : 0 <= (gT zs a).2.1 /\ (gT zs a).2.1 <= zs.length := by
 unfold gT
 split
 ·rename_i hc
  obtain ⟨h1, h2⟩ := hc
  have hg := Zj6 zs a (gN zs a).1 (gN zs a).2.1 (by rw [<- h1])
  show 0 <= (gN zs a).2.1 + (gN zs a).1 /\ (gN zs a).2.1 + (gN zs a).1 <= zs.length
  omega
 ·show (0 : Int) <= 0 /\ (0 : Int) <= zs.length
  omega
structure Mc where
 p : Int
 s : Int
 e : Int
 d : Int
 t : Int
 q : Int
 r : Int
theorem Zmc : (Tryz.prog.info? 81).map (·.size) = some 8 := by kernel_rfl
theorem Zat (w : World) (A B : Obj) : Below w.heap.size w ((w.alloc A).alloc B) /\ ((w.alloc A).alloc B).heap[w.heap.size]? = some A /\ ((w.alloc A).alloc B).heap[w.heap.size + 1]? = some B :=
 ⟨((Below.refl _ _).alloc (Nat.le_refl _) _).alloc (by simp) _, (heap_alloc_old _ _ (by simp)).trans (heap_alloc_new _ _), heap_alloc2_new _ _ _⟩
end Go.Proofs.YtfmafkebddojjaaGreatDoor
