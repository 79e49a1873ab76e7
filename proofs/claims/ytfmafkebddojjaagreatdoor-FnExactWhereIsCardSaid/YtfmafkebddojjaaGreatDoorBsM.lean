/-
  Texts that stood by themselves, laid into one.
-/
import Derived.Test.YtfmafkebddojjaaGreatDoorMcTM
import Derived.Test.YtfmafkebddojjaaGreatDoorShapeM
import Derived.Deep.RegionWith
import Derived.Test.YtfmafkebddojjaaGreatDoorNumberM
import Derived.Laws.IdiomCopy
import Derived.Laws.BytesArg
import Derived.Lib.AppendStr
import Derived.Laws.IdiomStrings
/-
  Contracts of spec's l2Node and PoolOk: when a node and a pool are right.
-/
set_option maxRecDepth 100000
set_option maxHeartbeats 6400000
namespace Go.Proofs.YtfmafkebddojjaaGreatDoor
open Go.RowKit
theorem ZfR (k n a b : Int) (s : ByteArray) (m : Nat) (w : World) (hs : s.size <= maxLen) (hm : m <= 9223372036854775807) :
  Calls Tryz.prog 163 #[.agg #[.int .i64 k, .int .i64 n, .string s, .int .i64 a, .int .i64 b], .int .i64 m] w fun e w' => e = .returned (.bool (Zaw ⟨k, n, s, a, b⟩ m)) /\ Below w.heap.size w w' := by
 go_enter Tryz.func163, Tryz.ntmps163
 go_wp2_with fail
 refine (Zau _ _ _ _).mono ?_
 rintro e w1 ⟨rfl, rfl⟩
 go_wp2_with fail
 refine (Zau _ _ _ _).mono ?_
 rintro e w1 ⟨rfl, rfl⟩
 by_cases h1 : k = 1
 ·subst h1
  go_wp2_with fail
  all_goals go_ret
  all_goals (refine ⟨retB ?_, (Below.refl _ _).alloc (Nat.le_refl _) _⟩; rw [Bool.eq_iff_iff]; simp [Zaw, Zbm, Zbl, lo, hi, hasS, hasA, hasB, *]; try first | omega | (by_cases hsl : s.toList = [] <;> simp [hsl] <;> omega))
 by_cases h2 : k = 2
 ·subst h2
  go_wp2_with fail
  all_goals first | (refine (Zau _ _ _ _).mono ?_; rintro e w1 ⟨rfl, rfl⟩; go_wp2_with fail) | skip
  all_goals go_ret
  all_goals (refine ⟨retB ?_, (Below.refl _ _).alloc (Nat.le_refl _) _⟩; rw [Bool.eq_iff_iff]; simp [Zaw, Zbm, Zbl, lo, hi, hasS, hasA, hasB, *]; try first | omega | (by_cases hsl : s.toList = [] <;> simp [hsl] <;> omega))
 by_cases h3 : k = 3
 ·subst h3
  go_wp2_with fail
  all_goals first | (refine (Zau _ _ _ _).mono ?_; rintro e w1 ⟨rfl, rfl⟩; go_wp2_with fail) | skip
  all_goals go_ret
  all_goals (refine ⟨retB ?_, (Below.refl _ _).alloc (Nat.le_refl _) _⟩; rw [Bool.eq_iff_iff]; simp [Zaw, Zbm, Zbl, lo, hi, hasS, hasA, hasB, *]; try first | omega | (by_cases hsl : s.toList = [] <;> simp [hsl] <;> omega))
 by_cases h4 : k = 4
 ·subst h4
  go_wp2_with fail
  all_goals first | (refine (ZaN s _ hs).mono ?_; rintro e w1 ⟨rfl, rfl⟩; go_wp2_with fail) | skip
  all_goals go_ret
  all_goals (refine ⟨retB ?_, (Below.refl _ _).alloc (Nat.le_refl _) _⟩; rw [Bool.eq_iff_iff]; simp [Zaw, Zbm, Zbl, lo, hi, hasS, hasA, hasB, *]; try first | omega | (by_cases hsl : s.toList = [] <;> simp [hsl] <;> omega))
 by_cases h5 : k = 5
 ·subst h5
  go_wp2_with fail
  all_goals go_ret
  all_goals (refine ⟨retB ?_, (Below.refl _ _).alloc (Nat.le_refl _) _⟩; rw [Bool.eq_iff_iff]; simp [Zaw, Zbm, Zbl, lo, hi, hasS, hasA, hasB, *]; try first | omega | (by_cases hsl : s.toList = [] <;> simp [hsl] <;> omega))
 by_cases h6 : k = 6
 ·subst h6
  go_wp2_with fail
  all_goals first | (refine (Zau _ _ _ _).mono ?_; rintro e w1 ⟨rfl, rfl⟩; go_wp2_with fail) | skip
  all_goals go_ret
  all_goals (refine ⟨retB ?_, (Below.refl _ _).alloc (Nat.le_refl _) _⟩; rw [Bool.eq_iff_iff]; simp [Zaw, Zbm, Zbl, lo, hi, hasS, hasA, hasB, *]; try first | omega | (by_cases hsl : s.toList = [] <;> simp [hsl] <;> omega))
 by_cases h7 : k = 7
 ·subst h7
  go_wp2_with fail
  all_goals go_ret
  all_goals (refine ⟨retB ?_, (Below.refl _ _).alloc (Nat.le_refl _) _⟩; rw [Bool.eq_iff_iff]; simp [Zaw, Zbm, Zbl, lo, hi, hasS, hasA, hasB, *]; try first | omega | (by_cases hsl : s.toList = [] <;> simp [hsl] <;> omega))
 by_cases h8 : k = 8
 ·subst h8
  go_wp2_with fail
  all_goals first | (refine (Zau _ _ _ _).mono ?_; rintro e w1 ⟨rfl, rfl⟩; go_wp2_with fail) | skip
  all_goals go_ret
  all_goals (refine ⟨retB ?_, (Below.refl _ _).alloc (Nat.le_refl _) _⟩; rw [Bool.eq_iff_iff]; simp [Zaw, Zbm, Zbl, lo, hi, hasS, hasA, hasB, *]; try first | omega | (by_cases hsl : s.toList = [] <;> simp [hsl] <;> omega))
 by_cases h9 : k = 9
 ·subst h9
  go_wp2_with fail
  all_goals first | (refine (Zau _ _ _ _).mono ?_; rintro e w1 ⟨rfl, rfl⟩; go_wp2_with fail) | skip
  all_goals go_ret
  all_goals (refine ⟨retB ?_, (Below.refl _ _).alloc (Nat.le_refl _) _⟩; rw [Bool.eq_iff_iff]; simp [Zaw, Zbm, Zbl, lo, hi, hasS, hasA, hasB, *]; try first | omega | (by_cases hsl : s.toList = [] <;> simp [hsl] <;> omega))
 have HN : Hid (Zaw ⟨k, n, s, a, b⟩ m = false) := by
  unfold Hid Zaw
  rw [Bool.eq_false_iff]
  intro h
  simp only [Bool.and_eq_true, decide_eq_true_eq] at h
  have := h.1.1.1
  omega
 go_wp2_with fail
 go_ret
 exact ⟨by rw [HN.out]; rfl, (Below.refl _ _).alloc (Nat.le_refl _) _⟩
theorem ZiL (x : Nd) (m : Nat) (w : World) (hs : x.s.size <= maxLen) (hm : m <= 9223372036854775807) :
  Calls Tryz.prog 163 #[.agg #[.int .i64 x.k, .int .i64 x.n, .string x.s, .int .i64 x.a, .int .i64 x.b], .int .i64 m] w fun e w' => e = .returned (.bool (Zaw x m)) /\ Below w.heap.size w w' :=
 ZfR x.k x.n x.a x.b x.s m w hs hm
theorem Zb8 (v : Value) (xs : List Nd) (w : World) (R : NRow w v xs) :
  Calls Tryz.prog 125 #[.agg #[v]] w fun e w' => e = .returned (.bool (Zap xs)) /\ Below w.heap.size w w' := by
 have R' := R
 obtain ⟨ao, cap, rfl, hcap, hm, hz, hcell⟩ := R'
 go_enter Tryz.func125, Tryz.ntmps125
 go_wp2_with fail
 go_loopw [3] (fun i wr => ∃ k : Nat, k <= xs.length /\ i = .int .i64 k /\ Hid (ZaB xs 0 = ZaB (xs.drop k) k) /\ wr.cell? ⟨w.heap.size, 0, none⟩ = some (.slice ao xs.length cap) /\ Below w.heap.size w wr /\ w.heap.size < wr.heap.size) (fun i _ => xs.length - (intOf i).toNat)
 case atStart => exact ⟨0, by omega, rfl, rfl, by simp, (Below.refl _ _).alloc (Nat.le_refl _) _, by simp⟩
 case round =>
  obtain ⟨k, hk, rfl, HP, hbox, hb, hbl⟩ := hrel
  by_cases hlt : k < xs.length
  ·obtain ⟨g, o, rfl, hg, hcell⟩ := hcell (by intro e; subst e; simp at hlt)
   obtain ⟨x, hx⟩ : ∃ x, xs[k]? = some x := ⟨xs[k], by simp [hlt]⟩
   obtain ⟨c0, c1, c2, c3, c4⟩ := (hcell k x hx).below hb hg
   have HS : Hid (ZaB (xs.drop k) k = (Zaw x k && ZaB (xs.drop (k + 1)) (k + 1))) := Zdq xs k x hx
   have hxs := hz x (List.mem_of_getElem? hx)
   clear hcell hx
   go_wp2_with fail
   refine (ZiL x _ _ hxs (by omega)).mono ?_
   rintro e w2 ⟨rfl, hb2⟩
   have hB : Below w.heap.size w w2 := hb.trans (hb2.mono (by omega))
   have hbox2 := (hb2.cell (p := ⟨w.heap.size, 0, none⟩) hbl).trans hbox
   have hbl2 := Nat.lt_of_lt_of_le hbl hb2.size
   have HN : Hid (ZaB xs 0 = (Zaw x k && ZaB (xs.drop (k + 1)) (k + 1))) := by unfold Hid; rw [HP.out, HS.out]
   clear c0 c1 c2 c3 c4 hb2 hbox HS HP
   generalize hA : Zaw x k = bA at HN ⊢
   clear hA
   cases bA with
   | false =>
    have HF : Hid (Zap xs = false) := by unfold Hid Zap; rw [HN.out]; simp
    clear HN
    go_wp2
    go_ret
    exact ⟨by rw [HF.out]; rfl, hB⟩
   | true =>
    go_wp2
    go_roundw
    case rel => exact ⟨k + 1, by omega, by go_num, HN.out, hbox2, hB, hbl2⟩
    case measure => simp [intOf]; omega
  ·have e : k = xs.length := by omega
   have HT : Hid (Zap xs = decide (xs.length <= 3000)) := by unfold Hid Zap; rw [HP.out, e, List.drop_length]; simp [ZaB]
   clear HP
   go_wp2
   go_ret
   refine ⟨retB ?_, hb⟩
   rw [HT.out, Bool.eq_iff_iff]
   simp
   omega
def chain (xs : List Nd) : Nat -> Nat -> List Int -> Option (List Int)
 | 0, _, _ => none
 | f + 1, j, acc => match xs[j]? with
  | none => none
  | some x => if x.k = 5 then chain xs f x.b.toNat (acc ++ [x.a]) else if x.k = 1 then some acc else none
def Zls (xs : List Nd) (v : Nat) : List Int × Bool := match chain xs (v + 1) v [] with
 | some l => (l, true)
 | none => ([], false)
def ZlY (xs : List Nd) (v : Int) : List Int × Bool := if Zap xs && hasI xs v then Zls xs v.toNat else ([], false)
theorem Zco (v : Value) (xs : List Nd) (a : Int) (w : World) (R : NRow w v xs) :
  Calls Tryz.prog 164 #[.agg #[v], .int .i64 a] w fun e w' => e = .returned (.bool (hasI xs a)) /\ Below w.heap.size w w' := by
 obtain ⟨ao, cap, rfl, _, hm, _⟩ := R
 go_enter Tryz.func164, Tryz.ntmps164
 go_wp2_with fail
 refine (Zau _ _ _ _).mono ?_
 rintro e w1 ⟨rfl, rfl⟩
 go_wp2
 go_ret
 refine ⟨retB ?_, (Below.refl _ _).alloc (Nat.le_refl _) _⟩
 rw [Bool.eq_iff_iff]
 simp [hasI]
 omega
theorem Zid (x : Nd) (w : World) :
  Calls Tryz.prog 169 #[.agg #[.int .i64 x.k, .int .i64 x.n, .string x.s, .int .i64 x.a, .int .i64 x.b]] w fun e w' => e = .returned (.agg #[.int .i64 x.k, .int .i64 x.n, .string x.s, .int .i64 x.a, .int .i64 x.b]) /\ Below w.heap.size w w' := by
 go_enter Tryz.func169, Tryz.ntmps169
 go_wp2
 exact bodyPost_ret (results_cell_row rfl _ _ (w.heap.size + 1) 210 _ (0, 0) _ rfl ((heap_alloc_old _ _ (by simp)).trans (heap_alloc2_new _ _ _)) Tryz.underlying210 rfl Zmz) rfl
  ⟨rfl, (((Below.refl _ _).alloc (Nat.le_refl _) _).alloc (by simp) _).alloc (by simp; omega) _⟩
def less (l n : Int) : Int := if l < n then -1 else l - n
theorem Zd6 (x : Nd) (l : Int) (w : World) (hs : x.s.size <= maxLen) (hl : 0 <= l) (hl2 : l <= 1048576) :
  Calls Tryz.prog 161 #[.agg #[.int .i64 x.k, .int .i64 x.n, .string x.s, .int .i64 x.a, .int .i64 x.b], .int .i64 l] w fun e w' => e = .returned (.int .i64 (less l x.s.size)) /\ Below w.heap.size w w' := by
 unfold maxLen at hs
 go_enter Tryz.func161, Tryz.ntmps161
 by_cases h : l < x.s.size
 ·have HL : Hid (less l x.s.size = -1) := by unfold Hid less; rw [if_pos h]
  go_wp2
  go_ret
  exact ⟨by rw [HL.out]; rfl, (Below.refl _ _).alloc (Nat.le_refl _) _⟩
 ·have HL : Hid (less l x.s.size = l - x.s.size) := by unfold Hid less; rw [if_neg h]
  go_wp2
  go_ret
  exact ⟨by rw [HL.out]; rfl, (Below.refl _ _).alloc (Nat.le_refl _) _⟩
theorem ZhC (x : Nd) (w : World) :
  Calls Tryz.prog 171 #[.agg #[.int .i64 x.k, .int .i64 x.n, .string x.s, .int .i64 x.a, .int .i64 x.b], .agg #[.int .i64 x.k, .int .i64 x.n, .string x.s, .int .i64 x.a, .int .i64 x.b]] w fun e w' => e = .returned (.bool true) /\ Below w.heap.size w w' := by
 go_enter Tryz.func171, Tryz.ntmps171
 go_wp2
 go_ret
 exact ⟨rfl, ((Below.refl _ _).alloc (Nat.le_refl _) _).alloc (by simp) _⟩
def Zke : Nd := ⟨0, 0, ByteArray.empty, 0, 0⟩
def Zbd (xs : List Nd) (j : Nat) : List Nd := xs.take j ++ List.replicate (xs.length - j) Zke
theorem ZdN (xs : List Nd) (j : Nat) (h : j <= xs.length) : (Zbd xs j).length = xs.length := by simp [Zbd]; omega
theorem Zfe (xs : List Nd) : Zbd xs xs.length = xs := by simp [Zbd]
theorem ZjG (n : Nat) : ncs (List.replicate n Zke) = (madeCells #[Value.int .i64 0, .int .i64 0, .string ByteArray.empty, .int .i64 0, .int .i64 0] (n * 5)).toList := by
 apply List.ext_getElem?
 intro j
 by_cases hj : j < n * 5
 ·have hq : j / 5 < n := by omega
  rw [show j = j / 5 * 5 + j % 5 by omega, ZfX _ (j / 5) Zke (by simp [hq]) (j % 5) (by omega)]
  rw [show j / 5 * 5 + j % 5 = j by omega]
  have h5 : j % 5 = 0 \/ j % 5 = 1 \/ j % 5 = 2 \/ j % 5 = 3 \/ j % 5 = 4 := by omega
  rcases h5 with h5 | h5 | h5 | h5 | h5 <;> simp [madeCells, hj, h5, Zke, Nd.cs]
 ·rw [List.getElem?_eq_none (by rw [Zcd, List.length_replicate]; omega), List.getElem?_eq_none (by simp [madeCells]; omega)]
theorem ZeX (xs : List Nd) : ncs (Zbd xs 0) = (madeCells #[Value.int .i64 0, .int .i64 0, .string ByteArray.empty, .int .i64 0, .int .i64 0] (xs.length * 5)).toList := by
 rw [<- ZjG]; simp [Zbd]
theorem Zf2 (xs : List Nd) (j : Nat) (h : j < xs.length) : (Zbd xs j).set j xs[j] = Zbd xs (j + 1) := by
 unfold Zbd
 rw [show xs.length - j = xs.length - (j + 1) + 1 by omega, List.replicate_succ, List.take_succ_eq_append_getElem h]
 rw [List.set_append_right _ _ (by simp; omega)]
 have e : j - (List.take j xs).length = 0 := by simp; omega
 rw [e, List.set_cons_zero, List.append_assoc]
 rfl
theorem Zgj (v : Value) (xs : List Nd) (w : World) (R : NRow w v xs) (hm : xs.length <= 2097152) :
  Calls Tryz.prog 131 #[v] w fun e w' => ∃ v', e = .returned v' /\ w'.ownsRow w.heap.size 210 5 v' xs.length (ncs xs) /\ Below w.heap.size w w' := by
 obtain ⟨ao, cap, rfl, hcap, _, hz, hcell⟩ := R
 obtain ⟨i0, hi, hz0, hz1, hz2⟩ := info_parts ZmD
 have hbytes : i0.bytes * xs.length <= 281474976710656 := by rw [hz2]; omega
 have hmax : xs.length <= maxLen := by unfold maxLen; omega
 go_enter Tryz.func131, Tryz.ntmps131
 go_wp2_with (at_make; refine wpList_make_full _ rfl _ _ 38 rfl w.heap.size 210 i0 _ 5 Tryz.underlying38 hi hz0 hz1 _ _ _ _ xs.length rfl rfl rfl rfl hbytes hmax (Nat.le_refl _) ?_)
 intro w1 hown hgrow
 have hbel : Below w.heap.size w w1 := (Below.refl _ _).grown hgrow (Nat.le_refl _) (by intro k hk; cases hk)
 clear hgrow
 go_wp2
 go_loopw [4] (fun i wr => ∃ j : Nat, j <= xs.length /\ i = .int .i64 j /\ wr.ownsRow w.heap.size 210 5 (.slice (some ⟨w.heap.size, 0, none⟩) xs.length xs.length) xs.length (ncs (Zbd xs j)) /\ Below w.heap.size w wr) (fun i _ => xs.length - (intOf i).toNat)
 case atStart => exact ⟨0, by omega, rfl, by rw [ZeX]; exact hown, hbel⟩
 case round =>
  clear hown hbel hbytes hmax
  obtain ⟨j, hj, rfl, hown, hbel⟩ := hrel
  by_cases hlt : j < xs.length
  ·obtain ⟨g, o, rfl, hg, hcell⟩ := hcell (by intro e; subst e; simp at hlt)
   obtain ⟨c0, c1, c2, c3, c4⟩ := (hcell j xs[j] (by simp [hlt])).below hbel hg
   have HC := ZdN xs j hj
   clear hcell
   go_wp2_with fail
   refine (Zid xs[j] _).mono ?_
   rintro e w2 ⟨rfl, hb2⟩
   have hown2 : w2.ownsRow w.heap.size 210 5 (.slice (some ⟨w.heap.size, 0, none⟩) (Zbd xs j).length xs.length) (Zbd xs j).length (ncs (Zbd xs j)) := by
    rw [HC]; exact Zad hown hb2
   have hB2 := hbel.trans (hb2.mono hbel.size)
   clear c0 c1 c2 c3 c4 hown hb2 hbel
   go_wp2_with (refine ZcR rfl _ _ rfl w.heap.size w.heap.size j xs.length (Zbd xs j) xs[j] rfl rfl (by omega) hown2 ?_)
   intro w3 hown3 hg3
   rw [Zf2 xs j hlt] at hown3
   have hB3 : Below w.heap.size w w3 := hB2.grown hg3 hB2.size (fun k hk => by simp at hk; omega)
   clear hown2 hg3
   go_wp2
   go_roundw
   case rel => exact ⟨j + 1, by omega, by go_num, hown3, hB3⟩
   case measure => simp [intOf]; omega
  ·go_wp2
   go_ret
   have : j = xs.length := by omega
   subst this
   rw [Zfe] at hown
   exact ⟨_, rfl, hown, hbel⟩
theorem Zbu (w : World) (A B C : Obj) : (((w.alloc A).alloc B).alloc C).heap[w.heap.size + 1 + 1]? = some C := by
 have h := heap_alloc_new ((w.alloc A).alloc B) C
 simpa using h
theorem Zd4 (v : Value) (xs : List Nd) (w : World) (R : NRow w v xs) (hm : xs.length <= 2097152) :
  Calls Tryz.prog 79 #[.agg #[v]] w fun e w' => ∃ v', e = .returned (.agg #[v']) /\ w'.ownsRow w.heap.size 210 5 v' xs.length (ncs xs) /\ Below w.heap.size w w' := by
 have R' := R
 obtain ⟨ao, cap, rfl, _⟩ := R'
 go_enter Tryz.func79, Tryz.ntmps79
 go_wp2_with fail
 have hbel : Below w.heap.size w (((w.alloc (Obj.cells #[.slice ao xs.length cap] 24)).alloc (Obj.cells #[.slice none 0 0] 40)).alloc (Obj.cells #[.slice none 0 0] 40)) :=
  (((Below.refl _ _).alloc (Nat.le_refl _) _).alloc (by simp) _).alloc (by simp; omega) _
 refine (Zgj _ xs _ (R.below hbel) hm).mono ?_
 rintro e w1 ⟨v', rfl, hown, hb1⟩
 obtain ⟨ao', cap', rfl⟩ := Zae hown
 have hbox : w1.heap[w.heap.size + 1 + 1]? = some (.cells #[.slice none 0 0] 40 (0, 0)) := (hb1.block _ (by simp)).trans (Zbu _ _ _ _)
 have hbox2 : w1.heap[w.heap.size + 1]? = some (.cells #[.slice none 0 0] 40 (0, 0)) := (hb1.block _ (by simp)).trans ((heap_alloc_old _ _ (by simp)).trans (heap_alloc2_new _ _ _))
 have c2 : w1.cell? ⟨w.heap.size + 1 + 1, 0, none⟩ = some (.slice none 0 0) := by rw [cell_of_row w1 _ 0 _ _ _ hbox]; rfl
 have c1 : w1.cell? ⟨w.heap.size + 1, 0, none⟩ = some (.slice none 0 0) := by rw [cell_of_row w1 _ 0 _ _ _ hbox2]; rfl
 have f2 : w1.frozen? ⟨w.heap.size + 1 + 1, 0, none⟩ = false := frozen_of_row w1 _ 0 _ _ hbox
 have f1 : w1.frozen? ⟨w.heap.size + 1, 0, none⟩ = false := frozen_of_row w1 _ 0 _ _ hbox2
 have hB1 := hbel.trans (hb1.mono hbel.size)
 have hown1 : w1.ownsRow (w.heap.size + 3) 210 5 (.slice ao' xs.length cap') xs.length (ncs xs) := by simpa using hown
 go_wp2
 have hb3 := heap_setCell_same (w1.setCell ⟨w.heap.size + 1 + 1, 0, none⟩ (.slice ao' xs.length cap')) (w.heap.size + 1) 0 _ _ (.slice ao' xs.length cap') ((heap_setCell_other w1 ⟨w.heap.size + 1 + 1, 0, none⟩ (w.heap.size + 1) _ (by simp)).trans hbox2)
 refine bodyPost_ret (results_cell_row rfl _ _ (w.heap.size + 1) 40 _ (0, 0) _ rfl hb3 Tryz.underlying40 rfl (by kernel_rfl)) rfl ⟨_, rfl, ?_, ?_⟩
 ·exact Zaf (ownsRow_setCell_below (ownsRow_setCell_below hown1 (by simp) _) (by simp) _) (by omega)
 ·exact (hB1.setCell (p := ⟨w.heap.size + 1 + 1, 0, none⟩) (by simp; omega) _).setCell (p := ⟨w.heap.size + 1, 0, none⟩) (by simp) _
theorem Zge (v : Value) (xs : List Nd) (w : World) (R : NRow w v xs) :
  Calls Tryz.prog 119 #[v, .int .i64 1048576] w fun e w' => ∃ r : Int, e = .returned (.int .i64 r) /\ -1 <= r /\ r <= 1048576 /\ (0 <= r -> xs.length <= 1048576 /\ ∀ x ∈ xs, x.s.size <= 1048576) /\ Below w.heap.size w w' := by
 obtain ⟨ao, cap, rfl, hcap, hm, hz, hcell⟩ := R
 by_cases hlen : xs.length <= 1048576
 ·go_enter Tryz.func119, Tryz.ntmps119
  go_wp2
  go_loopw [1, 5] (fun l i wr => ∃ (k : Nat) (r : Int), k <= xs.length /\ i = .int .i64 k /\ l = .int .i64 r /\ 0 <= r /\ r <= 1048576 /\ Hid (∀ j x, xs[j]? = some x -> j < k -> x.s.size <= 1048576) /\ Below w.heap.size w wr) (fun _ i _ => xs.length - (intOf i).toNat)
  case atStart => exact ⟨0, _, by omega, rfl, rfl, by omega, by omega, fun j x _ h => by omega, Below.refl _ _⟩
  case round =>
   obtain ⟨k, r, hk, rfl, rfl, hr0, hr1, HA, hb⟩ := hrel
   by_cases hlt : k < xs.length
   ·obtain ⟨g, o, rfl, hg, hcell⟩ := hcell (by intro e; subst e; simp at hlt)
    obtain ⟨x, hx⟩ : ∃ x, xs[k]? = some x := ⟨xs[k], by simp [hlt]⟩
    obtain ⟨c0, c1, c2, c3, c4⟩ := (hcell k x hx).below hb hg
    have hxs := hz x (List.mem_of_getElem? hx)
    have HX : Hid (xs[k]? = some x) := hx
    clear hcell hx
    go_wp2_with fail
    refine (Zd6 x _ _ hxs hr0 hr1).mono ?_
    rintro e w2 ⟨rfl, hb2⟩
    have hB2 := hb.trans (hb2.mono hb.size)
    clear c0 c1 c2 c3 c4 hb2
    by_cases hl : r < x.s.size
    ·rw [less, if_pos hl]
     go_wp2
     go_ret
     exact ⟨-1, rfl, by omega, by omega, fun h => by omega, hB2⟩
    ·rw [less, if_neg hl]
     go_wp2
     go_roundw
     case rel =>
      refine ⟨k + 1, _, by omega, by go_num, rfl, by omega, by omega, fun j y hy hj => ?_, hB2⟩
      by_cases e : j = k
      ·subst e
       rw [HX.out] at hy
       cases hy
       omega
      ·exact HA.out j y hy (by omega)
     case measure => simp [intOf]; omega
   ·go_wp2
    go_ret
    refine ⟨r, rfl, by omega, by omega, fun _ => ⟨hlen, fun x hx => ?_⟩, hb⟩
    obtain ⟨j, hj, e⟩ := List.getElem_of_mem hx
    exact HA.out j x (by rw [<- e]; simp [hj]) (by omega)
 ·go_enter Tryz.func119, Tryz.ntmps119
  go_wp2
  go_ret
  exact ⟨-1, rfl, by omega, by omega, fun h => by omega, Below.refl _ _⟩
theorem Zf0 (va vb : Value) (xs : List Nd) (w : World) (Ra : NRow w va xs) (Rb : NRow w vb xs) :
  Calls Tryz.prog 137 #[va, vb] w fun e w' => e = .returned (.bool true) /\ Below w.heap.size w w' := by
 obtain ⟨aa, ca, rfl, hca, hm, hz, hcella⟩ := Ra
 obtain ⟨ab, cb, rfl, hcb, _, _, hcellb⟩ := Rb
 have hn : ((xs.length : Int) != (xs.length : Int)) = false := by simp
 go_enter Tryz.func137, Tryz.ntmps137
 go_wp2
 go_loopw [5] (fun i wr => ∃ k : Nat, k <= xs.length /\ i = .int .i64 k /\ Below w.heap.size w wr) (fun i _ => xs.length - (intOf i).toNat)
 case atStart => exact ⟨0, by omega, rfl, Below.refl _ _⟩
 case round =>
  obtain ⟨k, hk, rfl, hb⟩ := hrel
  by_cases hlt : k < xs.length
  ·obtain ⟨ga, oa, rfl, hga, hcella⟩ := hcella (by intro e; subst e; simp at hlt)
   obtain ⟨gb, ob, rfl, hgb, hcellb⟩ := hcellb (by intro e; subst e; simp at hlt)
   obtain ⟨x, hx⟩ : ∃ x, xs[k]? = some x := ⟨xs[k], by simp [hlt]⟩
   obtain ⟨c0, c1, c2, c3, c4⟩ := (hcella k x hx).below hb hga
   obtain ⟨d0, d1, d2, d3, d4⟩ := (hcellb k x hx).below hb hgb
   clear hcella hcellb hx
   go_wp2_with fail
   go_region_with (go_at_call 171; refine (ZhC x _).mono ?_; rintro e w2 ⟨rfl, hb2⟩)
   all_goals
    have hB2 : Below w.heap.size w w2 := hb.drew.trans (hb2.mono hb.size)
    clear c0 c1 c2 c3 c4 d0 d1 d2 d3 d4 hb2
    go_wp2
    go_roundw
    case rel => exact ⟨k + 1, by omega, by go_num, hB2⟩
    case measure => simp [intOf]; omega
  ·go_wp2
   go_ret
   exact ⟨rfl, hb⟩
theorem ZdY (va vb : Value) (xs : List Nd) (w : World) (Ra : NRow w va xs) (Rb : NRow w vb xs) :
  Calls Tryz.prog 88 #[.agg #[va], .agg #[vb]] w fun e w' => e = .returned (.bool true) /\ Below w.heap.size w w' := by
 have Ra' := Ra
 have Rb' := Rb
 obtain ⟨aa, ca, rfl, _⟩ := Ra'
 obtain ⟨ab, cb, rfl, _⟩ := Rb'
 go_enter Tryz.func88, Tryz.ntmps88
 go_wp2_with fail
 have hbel : Below w.heap.size w ((w.alloc (Obj.cells #[.slice aa xs.length ca] 40)).alloc (Obj.cells #[.slice ab xs.length cb] 40)) :=
  ((Below.refl _ _).alloc (Nat.le_refl _) _).alloc (by simp) _
 refine (Zf0 _ _ xs _ (Ra.below hbel) (Rb.below hbel)).mono ?_
 rintro e w2 ⟨rfl, hb2⟩
 have hB2 := hbel.trans (hb2.mono hbel.size)
 clear hbel hb2
 go_wp2
 go_ret
 exact ⟨rfl, hB2⟩
theorem ZhP (v : Value) (xs : List Nd) (w : World) (R : NRow w v xs) :
  Calls Tryz.prog 66 #[.agg #[v], .int .i64 1048576] w fun e w' => ∃ r : Int, e = .returned (.int .i64 r) /\ -1 <= r /\ r <= 1048576 /\ (0 <= r -> xs.length <= 1048576 /\ ∀ x ∈ xs, x.s.size <= 1048576) /\ Below w.heap.size w w' := by
 have R' := R
 obtain ⟨ao, cap, rfl, _⟩ := R'
 go_enter Tryz.func66, Tryz.ntmps66
 go_wp2_with fail
 have hbel : Below w.heap.size w (w.alloc (Obj.cells #[.slice ao xs.length cap] 24)) := (Below.refl _ _).alloc (Nat.le_refl _) _
 refine (Zge _ xs _ (R.below hbel)).mono ?_
 rintro e w1 ⟨r, rfl, h0, h1, h2, hb1⟩
 have hB1 := hbel.trans (hb1.mono hbel.size)
 clear hbel hb1
 by_cases hr : r < 0
 ·have HR : Hid (r = -1) := by unfold Hid; omega
  go_wp2
  go_ret
  exact ⟨-1, rfl, by omega, by omega, fun h => by omega, hB1⟩
 ·go_wp2
  go_ret
  exact ⟨r, rfl, h0, h1, h2, hB1⟩
theorem Zgh (l0 : Int) (hl0 : 0 <= l0) (hl1 : l0 <= 1048576) (v : Value) (xs : List Nd) (w : World) (R : NRow w v xs) :
  Calls Tryz.prog 119 #[v, .int .i64 l0] w fun e w' => ∃ r : Int, e = .returned (.int .i64 r) /\ -1 <= r /\ r <= 1048576 /\ (0 <= r -> xs.length <= 1048576 /\ ∀ x ∈ xs, x.s.size <= 1048576) /\ Below w.heap.size w w' := by
 obtain ⟨ao, cap, rfl, hcap, hm, hz, hcell⟩ := R
 by_cases hlen : (xs.length : Int) <= l0
 ·go_enter Tryz.func119, Tryz.ntmps119
  go_wp2
  go_loopw [1, 5] (fun l i wr => ∃ (k : Nat) (r : Int), k <= xs.length /\ i = .int .i64 k /\ l = .int .i64 r /\ 0 <= r /\ r <= 1048576 /\ Hid (∀ j x, xs[j]? = some x -> j < k -> x.s.size <= 1048576) /\ Below w.heap.size w wr) (fun _ i _ => xs.length - (intOf i).toNat)
  case atStart => exact ⟨0, _, by omega, rfl, rfl, by omega, by omega, fun j x _ h => by omega, Below.refl _ _⟩
  case round =>
   obtain ⟨k, r, hk, rfl, rfl, hr0, hr1, HA, hb⟩ := hrel
   by_cases hlt : k < xs.length
   ·obtain ⟨g, o, rfl, hg, hcell⟩ := hcell (by intro e; subst e; simp at hlt)
    obtain ⟨x, hx⟩ : ∃ x, xs[k]? = some x := ⟨xs[k], by simp [hlt]⟩
    obtain ⟨c0, c1, c2, c3, c4⟩ := (hcell k x hx).below hb hg
    have hxs := hz x (List.mem_of_getElem? hx)
    have HX : Hid (xs[k]? = some x) := hx
    clear hcell hx
    go_wp2_with fail
    refine (Zd6 x _ _ hxs hr0 hr1).mono ?_
    rintro e w2 ⟨rfl, hb2⟩
    have hB2 := hb.trans (hb2.mono hb.size)
    clear c0 c1 c2 c3 c4 hb2
    by_cases hl : r < x.s.size
    ·rw [less, if_pos hl]
     go_wp2
     go_ret
     exact ⟨-1, rfl, by omega, by omega, fun h => by omega, hB2⟩
    ·rw [less, if_neg hl]
     go_wp2
     go_roundw
     case rel =>
      refine ⟨k + 1, _, by omega, by go_num, rfl, by omega, by omega, fun j y hy hj => ?_, hB2⟩
      by_cases e : j = k
      ·subst e
       rw [HX.out] at hy
       cases hy
       omega
      ·exact HA.out j y hy (by omega)
     case measure => simp [intOf]; omega
   ·go_wp2
    go_ret
    refine ⟨r, rfl, by omega, by omega, fun _ => ⟨by omega, fun x hx => ?_⟩, hb⟩
    obtain ⟨j, hj, e⟩ := List.getElem_of_mem hx
    exact HA.out j x (by rw [<- e]; simp [hj]) (by omega)
 ·go_enter Tryz.func119, Tryz.ntmps119
  go_wp2
  go_ret
  exact ⟨-1, rfl, by omega, by omega, fun h => by omega, Below.refl _ _⟩
theorem ZhQ (l0 : Int) (hl0 : 0 <= l0) (hl1 : l0 <= 1048576) (v : Value) (xs : List Nd) (w : World) (R : NRow w v xs) :
  Calls Tryz.prog 66 #[.agg #[v], .int .i64 l0] w fun e w' => ∃ r : Int, e = .returned (.int .i64 r) /\ -1 <= r /\ r <= 1048576 /\ (0 <= r -> xs.length <= 1048576 /\ ∀ x ∈ xs, x.s.size <= 1048576) /\ Below w.heap.size w w' := by
 have R' := R
 obtain ⟨ao, cap, rfl, _⟩ := R'
 go_enter Tryz.func66, Tryz.ntmps66
 go_wp2_with fail
 have hbel : Below w.heap.size w (w.alloc (Obj.cells #[.slice ao xs.length cap] 24)) := (Below.refl _ _).alloc (Nat.le_refl _) _
 refine (Zgh l0 hl0 hl1 _ xs _ (R.below hbel)).mono ?_
 rintro e w1 ⟨r, rfl, h0, h1, h2, hb1⟩
 have hB1 := hbel.trans (hb1.mono hbel.size)
 clear hbel hb1
 by_cases hr : r < 0
 ·have HR : Hid (r = -1) := by unfold Hid; omega
  go_wp2
  go_ret
  exact ⟨-1, rfl, by omega, by omega, fun h => by omega, hB1⟩
 ·go_wp2
  go_ret
  exact ⟨r, rfl, h0, h1, h2, hB1⟩
theorem Zac {P : Program} {ops : Array Oper} {rest : List Oper} {o : Oper} {a : Act} {w : World} {Q : Exit -> Act -> World -> Prop} (hgd : o.guard = none) (ty : TypeId) (x y : Operand) (ho : o.op = .store ty x y)
  (g : Nat) (cells : Array Value) (hx : a.eval x = .pointer (some ⟨g, 0, none⟩)) (hy : a.eval y = .agg cells)
  (t : TypeId) (old : Array Value) (hg : w.heap[g]? = some (.cells old t (0, 0))) (hi : (P.info? ty).map (·.size) = some cells.size)
  (hold : old.size = cells.size) (h1 : cells.all (·.oneCell') = true)
  (h : ∀ w2 : World, w2.heap[g]? = some (.cells cells t (0, 0)) -> Below g w w2 -> w2.heap.size = w.heap.size -> (∀ k, k ≠ g -> w2.heap[k]? = w.heap[k]?) -> wpList P ops Q rest (a.put o.dst undef) w2) : wpList P ops Q (o :: rest) a w :=
 wpList_store_row hgd ty x y ho g cells hx hy t old hg hi hold h1 (h _ (setRow_heap w g old _ t _ hg) (below_setRow (Below.refl _ _) (Nat.le_refl _) _) (size_setRow w g cells) (fun k hk => setRow_other w g k cells hk))
theorem Zak {w w' : World} {B k n g : Nat} {e : TypeId} {v : Value} {l : List Value} (h : w.ownsRow B e k v n l) (hg : g < B) (hb : ∀ j, j ≠ g -> w'.heap[j]? = w.heap[j]?) : w'.ownsRow B e k v n l := by
 refine ⟨h.1, ?_⟩
 rcases h.2 with ⟨rfl, h0⟩ | ⟨gg, cap, cur, rfl, hB, hgg, hr⟩
 ·exact Or.inl ⟨rfl, h0⟩
 ·exact Or.inr ⟨gg, cap, cur, rfl, hB, (hb gg (by omega)).trans hgg, hr⟩
theorem ZaR {w : World} {B : Nat} {e t : TypeId} {k : Nat} {v : Value} {n j : Nat} {xs : List Value} {c : Array Value} {fr : Nat × Nat} (h : w.ownsRow B e k v n xs) (hj : w.heap[j]? = some (.cells c t fr)) (hte : t ≠ e) : v.ownBlock ≠ some j := by
 rcases h.2 with ⟨rfl, _⟩ | ⟨g, cap, cur, rfl, hB, hg, _⟩
 ·simp [Value.ownBlock]
 ·intro e'
  simp only [Value.ownBlock, Option.some.injEq] at e'
  subst e'
  rw [hg] at hj
  cases hj
  exact hte rfl
theorem ZcL (W : World) (t : TypeId) (k B : Nat) (h : B <= W.heap.size) : (W.alloc (Obj.cells #[] t)).ownsRow B t k (.slice (some ⟨W.heap.size, 0, none⟩) 0 0) 0 [] :=
 Zaf (World.ownsRow_made W #[] 0 (Nat.le_refl _) (by simp) (by simp)) h
theorem ZhB (l0 : Int) (hl0 : 0 <= l0) (hl1 : l0 <= 1048576) (v : Value) (xs : List Nd) (m : Mc) (w : World) (R : NRow w v xs) :
    Calls Tryz.prog 162 #[.agg #[v, .int .i64 m.p, .int .i64 m.s, .int .i64 m.e, .int .i64 m.d, .int .i64 m.t, .int .i64 m.q, .int .i64 m.r], .int .i64 l0] w fun e w' => ∃ r : Int, e = .returned (.int .i64 r) /\ -1 <= r /\ r <= 1048576 /\ (0 <= r -> xs.length <= 1048576 /\ ∀ x ∈ xs, x.s.size <= 1048576) /\ Below w.heap.size w w' := by
  have R' := R
  obtain ⟨ao, cap, rfl, _⟩ := R'
  go_enter Tryz.func162, Tryz.ntmps162
  go_wp2_with fail
  have hbel : Below w.heap.size w (w.alloc (Obj.cells #[.slice ao xs.length cap, .int .i64 m.p, .int .i64 m.s, .int .i64 m.e, .int .i64 m.d, .int .i64 m.t, .int .i64 m.q, .int .i64 m.r] 107)) := (Below.refl _ _).alloc (Nat.le_refl _) _
  refine (ZhQ l0 hl0 hl1 _ xs _ (R.below hbel)).mono ?_
  rintro e w1 ⟨r, rfl, h0, h1, h2, hb1⟩
  have hB1 := hbel.trans (hb1.mono hbel.size)
  clear hbel hb1
  by_cases hr : r < 0
  · go_wp2
    go_ret
    exact ⟨-1, rfl, by omega, by omega, fun h => by omega, hB1⟩
  · go_wp2
    go_ret
    exact ⟨r, rfl, h0, h1, h2, hB1⟩
theorem Zhu (va vb : Value) (xs : List Nd) (m : Mc) (w : World) (Ra : NRow w va xs) (Rb : NRow w vb xs) :
    Calls Tryz.prog 172 #[.agg #[va, .int .i64 m.p, .int .i64 m.s, .int .i64 m.e, .int .i64 m.d, .int .i64 m.t, .int .i64 m.q, .int .i64 m.r], .agg #[vb, .int .i64 m.p, .int .i64 m.s, .int .i64 m.e, .int .i64 m.d, .int .i64 m.t, .int .i64 m.q, .int .i64 m.r]] w fun e w' => e = .returned (.bool true) /\ Below w.heap.size w w' := by
  have Ra' := Ra
  have Rb' := Rb
  obtain ⟨aa, ca, rfl, _⟩ := Ra'
  obtain ⟨ab, cb, rfl, _⟩ := Rb'
  obtain ⟨hB0, hk0, hx0⟩ := Zat w (Obj.cells #[.slice aa xs.length ca, .int .i64 m.p, .int .i64 m.s, .int .i64 m.e, .int .i64 m.d, .int .i64 m.t, .int .i64 m.q, .int .i64 m.r] 81) (Obj.cells #[.slice ab xs.length cb, .int .i64 m.p, .int .i64 m.s, .int .i64 m.e, .int .i64 m.d, .int .i64 m.t, .int .i64 m.q, .int .i64 m.r] 81)
  go_enter Tryz.func172, Tryz.ntmps172
  go_wp2_with fail
  refine (ZdY _ _ xs _ (Ra.below hB0) (Rb.below hB0)).mono ?_
  rintro e w1 ⟨rfl, hb1⟩
  have hB1 := hB0.trans (hb1.mono hB0.size)
  have hk1 := (bb hk0 hb1)
  have hx1 := (bb hx0 hb1)
  clear hB0 hk0 hx0 hb1
  have l1 : w1.cell? ⟨w.heap.size, 0 + 1, none⟩ = some (.int .i64 m.p) := cell_of_row w1 _ 1 _ _ _ hk1
  have k1 : w1.cell? ⟨w.heap.size + 1, 0 + 1, none⟩ = some (.int .i64 m.p) := cell_of_row w1 _ 1 _ _ _ hx1
  have l2 : w1.cell? ⟨w.heap.size, 0 + 2, none⟩ = some (.int .i64 m.s) := cell_of_row w1 _ 2 _ _ _ hk1
  have k2 : w1.cell? ⟨w.heap.size + 1, 0 + 2, none⟩ = some (.int .i64 m.s) := cell_of_row w1 _ 2 _ _ _ hx1
  have l3 : w1.cell? ⟨w.heap.size, 0 + 3, none⟩ = some (.int .i64 m.e) := cell_of_row w1 _ 3 _ _ _ hk1
  have k3 : w1.cell? ⟨w.heap.size + 1, 0 + 3, none⟩ = some (.int .i64 m.e) := cell_of_row w1 _ 3 _ _ _ hx1
  have l4 : w1.cell? ⟨w.heap.size, 0 + 4, none⟩ = some (.int .i64 m.d) := cell_of_row w1 _ 4 _ _ _ hk1
  have k4 : w1.cell? ⟨w.heap.size + 1, 0 + 4, none⟩ = some (.int .i64 m.d) := cell_of_row w1 _ 4 _ _ _ hx1
  have l5 : w1.cell? ⟨w.heap.size, 0 + 5, none⟩ = some (.int .i64 m.t) := cell_of_row w1 _ 5 _ _ _ hk1
  have k5 : w1.cell? ⟨w.heap.size + 1, 0 + 5, none⟩ = some (.int .i64 m.t) := cell_of_row w1 _ 5 _ _ _ hx1
  have l6 : w1.cell? ⟨w.heap.size, 0 + 6, none⟩ = some (.int .i64 m.q) := cell_of_row w1 _ 6 _ _ _ hk1
  have k6 : w1.cell? ⟨w.heap.size + 1, 0 + 6, none⟩ = some (.int .i64 m.q) := cell_of_row w1 _ 6 _ _ _ hx1
  have l7 : w1.cell? ⟨w.heap.size, 0 + 7, none⟩ = some (.int .i64 m.r) := cell_of_row w1 _ 7 _ _ _ hk1
  have k7 : w1.cell? ⟨w.heap.size + 1, 0 + 7, none⟩ = some (.int .i64 m.r) := cell_of_row w1 _ 7 _ _ _ hx1
  clear hk1 hx1
  go_wp2
  go_ret
  exact ⟨rfl, hB1⟩
theorem Zaa {P : Program} {ops : Array Oper} {rest : List Oper} {o : Oper} {a : Act} {w : World} {Q : Exit -> Act -> World -> Prop} (hgd : o.guard = none) (ty : TypeId) (x y : Operand) (ho : o.op = .store ty x y)
    (g i : Nat) (v : Value) (cs : Array Value) (hx : a.eval x = .pointer (some ⟨g, i, none⟩)) (hy : a.eval y = v) (hc : v.cells = #[cs.getD 0 undef]) (hv : (cs.getD 0 undef).oneCell' = true) (t : TypeId) (old new : Array Value) (hg : w.heap[g]? = some (.cells old t (0, 0))) (hl : i < old.size) (hi : (P.info? ty).map (·.size) = some 1) (hn : new = old.setIfInBounds i (cs.getD 0 undef))
    (h : ∀ w2 : World, w2.heap[g]? = some (.cells new t (0, 0)) -> Below g w w2 -> w2.heap.size = w.heap.size -> (∀ k, k ≠ g -> w2.heap[k]? = w.heap[k]?) -> wpList P ops Q rest (a.put o.dst undef) w2) : wpList P ops Q (o :: rest) a w := by
  refine wpList_plain hgd fun K hK => ?_
  generalize cs.getD 0 undef = c at hc hv hn
  have hcell : (w.cell? ⟨g, i, none⟩).isSome = true := by rw [cell_of_row w g i _ _ _ hg]; simp [hl]
  have hrun := run_storeCells_cells (P := P) g i [c] 0 w (fun j hj => by have : j = 0 := by simpa using hj
                                                                         subst this; simpa using hcell) (fun j hj => frozen_of_row w g _ _ _ hg) (fun u hu => by simp at hu; subst hu; exact hv)
  have hst : (storeVar ty ⟨g, i, none⟩ v).run P w = .ok () (w.setCell ⟨g, i, none⟩ c) := by
    cases hq : P.info? ty with
    | none => simp [hq] at hi
    | some inf =>
      have hs : inf.size = 1 := by simpa [hq] using hi
      simp only [Nat.add_zero] at hrun
      simp [storeVar, sizeOf, typeInfo, hq, hc, hs, hrun, World.setCells]
  unfold Oper.wp execOp
  simp only [ho, hx, hy, Instr.storeAt, Instr.sureAddr, Sem.run_bind, Sem.run_pure, Result.andThen_ok, hst]
  refine hK _ _ (h _ ?_ ((Below.refl g w).setCell (p := ⟨g, i, none⟩) (Nat.le_refl _) _) (by simp [World.setCell]) (fun k hk => heap_setCell_other w ⟨g, i, none⟩ k _ hk))
  rw [hn]
  exact heap_setCell_same w g i _ _ _ hg
theorem ZhI (v : Value) (xs : List Nd) (m : Mc) (w : World) (R : NRow w v xs) (hm : xs.length <= 2097152) :
    Calls Tryz.prog 170 #[.agg #[v, .int .i64 m.p, .int .i64 m.s, .int .i64 m.e, .int .i64 m.d, .int .i64 m.t, .int .i64 m.q, .int .i64 m.r]] w fun e w' => ∃ v', e = .returned (.agg #[v', .int .i64 m.p, .int .i64 m.s, .int .i64 m.e, .int .i64 m.d, .int .i64 m.t, .int .i64 m.q, .int .i64 m.r]) /\ w'.ownsRow w.heap.size 210 5 v' xs.length (ncs xs) /\ Below w.heap.size w w' := by
  have R' := R
  obtain ⟨ao, cap, rfl, _⟩ := R'
  have hB0 : Below w.heap.size w (((w.alloc (Obj.cells #[.slice ao xs.length cap, .int .i64 m.p, .int .i64 m.s, .int .i64 m.e, .int .i64 m.d, .int .i64 m.t, .int .i64 m.q, .int .i64 m.r] 107)).alloc (Obj.cells #[.slice none 0 0, .int .i64 0, .int .i64 0, .int .i64 0, .int .i64 0, .int .i64 0, .int .i64 0, .int .i64 0] 81)).alloc (Obj.cells #[.slice none 0 0, .int .i64 0, .int .i64 0, .int .i64 0, .int .i64 0, .int .i64 0, .int .i64 0, .int .i64 0] 81)) := (((Below.refl _ _).alloc (Nat.le_refl _) _).alloc (by simp) _).alloc (by simp; omega) _
  have hx0 : (((w.alloc (Obj.cells #[.slice ao xs.length cap, .int .i64 m.p, .int .i64 m.s, .int .i64 m.e, .int .i64 m.d, .int .i64 m.t, .int .i64 m.q, .int .i64 m.r] 107)).alloc (Obj.cells #[.slice none 0 0, .int .i64 0, .int .i64 0, .int .i64 0, .int .i64 0, .int .i64 0, .int .i64 0, .int .i64 0] 81)).alloc (Obj.cells #[.slice none 0 0, .int .i64 0, .int .i64 0, .int .i64 0, .int .i64 0, .int .i64 0, .int .i64 0, .int .i64 0] 81)).heap[w.heap.size]? = some (Obj.cells #[.slice ao xs.length cap, .int .i64 m.p, .int .i64 m.s, .int .i64 m.e, .int .i64 m.d, .int .i64 m.t, .int .i64 m.q, .int .i64 m.r] 107) := (heap_alloc_old _ _ (by simp; omega)).trans ((heap_alloc_old _ _ (by simp)).trans (heap_alloc_new _ _))
  have hy0 : (((w.alloc (Obj.cells #[.slice ao xs.length cap, .int .i64 m.p, .int .i64 m.s, .int .i64 m.e, .int .i64 m.d, .int .i64 m.t, .int .i64 m.q, .int .i64 m.r] 107)).alloc (Obj.cells #[.slice none 0 0, .int .i64 0, .int .i64 0, .int .i64 0, .int .i64 0, .int .i64 0, .int .i64 0, .int .i64 0] 81)).alloc (Obj.cells #[.slice none 0 0, .int .i64 0, .int .i64 0, .int .i64 0, .int .i64 0, .int .i64 0, .int .i64 0, .int .i64 0] 81)).heap[w.heap.size + 1]? = some (Obj.cells #[.slice none 0 0, .int .i64 0, .int .i64 0, .int .i64 0, .int .i64 0, .int .i64 0, .int .i64 0, .int .i64 0] 81) := (heap_alloc_old _ _ (by simp)).trans (heap_alloc2_new _ _ _)
  have hv0 : (((w.alloc (Obj.cells #[.slice ao xs.length cap, .int .i64 m.p, .int .i64 m.s, .int .i64 m.e, .int .i64 m.d, .int .i64 m.t, .int .i64 m.q, .int .i64 m.r] 107)).alloc (Obj.cells #[.slice none 0 0, .int .i64 0, .int .i64 0, .int .i64 0, .int .i64 0, .int .i64 0, .int .i64 0, .int .i64 0] 81)).alloc (Obj.cells #[.slice none 0 0, .int .i64 0, .int .i64 0, .int .i64 0, .int .i64 0, .int .i64 0, .int .i64 0, .int .i64 0] 81)).heap[w.heap.size + 1 + 1]? = some (Obj.cells #[.slice none 0 0, .int .i64 0, .int .i64 0, .int .i64 0, .int .i64 0, .int .i64 0, .int .i64 0, .int .i64 0] 81) := by
    have h := heap_alloc_new ((w.alloc (Obj.cells #[.slice ao xs.length cap, .int .i64 m.p, .int .i64 m.s, .int .i64 m.e, .int .i64 m.d, .int .i64 m.t, .int .i64 m.q, .int .i64 m.r] 107)).alloc (Obj.cells #[.slice none 0 0, .int .i64 0, .int .i64 0, .int .i64 0, .int .i64 0, .int .i64 0, .int .i64 0, .int .i64 0] 81)) (Obj.cells #[.slice none 0 0, .int .i64 0, .int .i64 0, .int .i64 0, .int .i64 0, .int .i64 0, .int .i64 0, .int .i64 0] 81)
    simpa using h
  go_enter Tryz.func170, Tryz.ntmps170
  go_wp2_with fail
  refine (Zd4 _ xs _ (R.below hB0) hm).mono ?_
  rintro e w1 ⟨v1, rfl, ho1, hb1⟩
  obtain ⟨ao1, cap1, rfl⟩ := Zae ho1
  have hB1 := hB0.trans (hb1.mono hB0.size)
  have hx1 := (bb hx0 hb1)
  have hy1 := (bb hy0 hb1)
  have hv1 := (bb hv0 hb1)
  have ho1' : w1.ownsRow (w.heap.size + 3) 210 5 (.slice ao1 xs.length cap1) xs.length (ncs xs) := by simpa using ho1
  clear hB0 hx0 hy0 hv0 hb1 ho1
  go_wp2_with (refine Zaa rfl 40 _ _ rfl (w.heap.size + 1 + 1) 0 (.agg #[.slice ao1 xs.length cap1]) #[.slice ao1 xs.length cap1] rfl rfl rfl rfl 81 #[.slice none 0 0, .int .i64 0, .int .i64 0, .int .i64 0, .int .i64 0, .int .i64 0, .int .i64 0, .int .i64 0] #[.slice ao1 xs.length cap1, .int .i64 0, .int .i64 0, .int .i64 0, .int .i64 0, .int .i64 0, .int .i64 0, .int .i64 0] hv1 (by simp) (by kernel_rfl) rfl ?_)
  intro u0 hn0 hbl0 hsz0 hoth0
  replace hx1 := (hoth0 w.heap.size (by omega)).trans hx1
  replace hy1 := (hoth0 (w.heap.size + 1) (by omega)).trans hy1
  replace ho1' := Zak ho1' (by omega) hoth0
  replace hB1 : Below w.heap.size w u0 := hB1.trans (hbl0.mono (by omega))
  replace hv1 := hn0
  clear hn0 hbl0 hsz0 hoth0
  have k1 : u0.cell? ⟨w.heap.size, 0 + 1, none⟩ = some (.int .i64 m.p) := cell_of_row u0 _ 1 _ _ _ hx1
  go_wp2_with (refine Zaa rfl 3 _ _ rfl (w.heap.size + 1 + 1) 1 (.int .i64 m.p) #[.int .i64 m.p] rfl rfl rfl rfl 81 #[.slice ao1 xs.length cap1, .int .i64 0, .int .i64 0, .int .i64 0, .int .i64 0, .int .i64 0, .int .i64 0, .int .i64 0] #[.slice ao1 xs.length cap1, .int .i64 m.p, .int .i64 0, .int .i64 0, .int .i64 0, .int .i64 0, .int .i64 0, .int .i64 0] hv1 (by simp) (by kernel_rfl) rfl ?_)
  intro u1 hn1 hbl1 hsz1 hoth1
  replace hx1 := (hoth1 w.heap.size (by omega)).trans hx1
  replace hy1 := (hoth1 (w.heap.size + 1) (by omega)).trans hy1
  replace ho1' := Zak ho1' (by omega) hoth1
  replace hB1 : Below w.heap.size w u1 := hB1.trans (hbl1.mono (by omega))
  replace hv1 := hn1
  clear hn1 hbl1 hsz1 hoth1 k1
  have k2 : u1.cell? ⟨w.heap.size, 0 + 2, none⟩ = some (.int .i64 m.s) := cell_of_row u1 _ 2 _ _ _ hx1
  go_wp2_with (refine Zaa rfl 3 _ _ rfl (w.heap.size + 1 + 1) 2 (.int .i64 m.s) #[.int .i64 m.s] rfl rfl rfl rfl 81 #[.slice ao1 xs.length cap1, .int .i64 m.p, .int .i64 0, .int .i64 0, .int .i64 0, .int .i64 0, .int .i64 0, .int .i64 0] #[.slice ao1 xs.length cap1, .int .i64 m.p, .int .i64 m.s, .int .i64 0, .int .i64 0, .int .i64 0, .int .i64 0, .int .i64 0] hv1 (by simp) (by kernel_rfl) rfl ?_)
  intro u2 hn2 hbl2 hsz2 hoth2
  replace hx1 := (hoth2 w.heap.size (by omega)).trans hx1
  replace hy1 := (hoth2 (w.heap.size + 1) (by omega)).trans hy1
  replace ho1' := Zak ho1' (by omega) hoth2
  replace hB1 : Below w.heap.size w u2 := hB1.trans (hbl2.mono (by omega))
  replace hv1 := hn2
  clear hn2 hbl2 hsz2 hoth2 k2
  have k3 : u2.cell? ⟨w.heap.size, 0 + 3, none⟩ = some (.int .i64 m.e) := cell_of_row u2 _ 3 _ _ _ hx1
  go_wp2_with (refine Zaa rfl 3 _ _ rfl (w.heap.size + 1 + 1) 3 (.int .i64 m.e) #[.int .i64 m.e] rfl rfl rfl rfl 81 #[.slice ao1 xs.length cap1, .int .i64 m.p, .int .i64 m.s, .int .i64 0, .int .i64 0, .int .i64 0, .int .i64 0, .int .i64 0] #[.slice ao1 xs.length cap1, .int .i64 m.p, .int .i64 m.s, .int .i64 m.e, .int .i64 0, .int .i64 0, .int .i64 0, .int .i64 0] hv1 (by simp) (by kernel_rfl) rfl ?_)
  intro u3 hn3 hbl3 hsz3 hoth3
  replace hx1 := (hoth3 w.heap.size (by omega)).trans hx1
  replace hy1 := (hoth3 (w.heap.size + 1) (by omega)).trans hy1
  replace ho1' := Zak ho1' (by omega) hoth3
  replace hB1 : Below w.heap.size w u3 := hB1.trans (hbl3.mono (by omega))
  replace hv1 := hn3
  clear hn3 hbl3 hsz3 hoth3 k3
  have k4 : u3.cell? ⟨w.heap.size, 0 + 4, none⟩ = some (.int .i64 m.d) := cell_of_row u3 _ 4 _ _ _ hx1
  go_wp2_with (refine Zaa rfl 3 _ _ rfl (w.heap.size + 1 + 1) 4 (.int .i64 m.d) #[.int .i64 m.d] rfl rfl rfl rfl 81 #[.slice ao1 xs.length cap1, .int .i64 m.p, .int .i64 m.s, .int .i64 m.e, .int .i64 0, .int .i64 0, .int .i64 0, .int .i64 0] #[.slice ao1 xs.length cap1, .int .i64 m.p, .int .i64 m.s, .int .i64 m.e, .int .i64 m.d, .int .i64 0, .int .i64 0, .int .i64 0] hv1 (by simp) (by kernel_rfl) rfl ?_)
  intro u4 hn4 hbl4 hsz4 hoth4
  replace hx1 := (hoth4 w.heap.size (by omega)).trans hx1
  replace hy1 := (hoth4 (w.heap.size + 1) (by omega)).trans hy1
  replace ho1' := Zak ho1' (by omega) hoth4
  replace hB1 : Below w.heap.size w u4 := hB1.trans (hbl4.mono (by omega))
  replace hv1 := hn4
  clear hn4 hbl4 hsz4 hoth4 k4
  have k5 : u4.cell? ⟨w.heap.size, 0 + 5, none⟩ = some (.int .i64 m.t) := cell_of_row u4 _ 5 _ _ _ hx1
  go_wp2_with (refine Zaa rfl 3 _ _ rfl (w.heap.size + 1 + 1) 5 (.int .i64 m.t) #[.int .i64 m.t] rfl rfl rfl rfl 81 #[.slice ao1 xs.length cap1, .int .i64 m.p, .int .i64 m.s, .int .i64 m.e, .int .i64 m.d, .int .i64 0, .int .i64 0, .int .i64 0] #[.slice ao1 xs.length cap1, .int .i64 m.p, .int .i64 m.s, .int .i64 m.e, .int .i64 m.d, .int .i64 m.t, .int .i64 0, .int .i64 0] hv1 (by simp) (by kernel_rfl) rfl ?_)
  intro u5 hn5 hbl5 hsz5 hoth5
  replace hx1 := (hoth5 w.heap.size (by omega)).trans hx1
  replace hy1 := (hoth5 (w.heap.size + 1) (by omega)).trans hy1
  replace ho1' := Zak ho1' (by omega) hoth5
  replace hB1 : Below w.heap.size w u5 := hB1.trans (hbl5.mono (by omega))
  replace hv1 := hn5
  clear hn5 hbl5 hsz5 hoth5 k5
  have k6 : u5.cell? ⟨w.heap.size, 0 + 6, none⟩ = some (.int .i64 m.q) := cell_of_row u5 _ 6 _ _ _ hx1
  go_wp2_with (refine Zaa rfl 3 _ _ rfl (w.heap.size + 1 + 1) 6 (.int .i64 m.q) #[.int .i64 m.q] rfl rfl rfl rfl 81 #[.slice ao1 xs.length cap1, .int .i64 m.p, .int .i64 m.s, .int .i64 m.e, .int .i64 m.d, .int .i64 m.t, .int .i64 0, .int .i64 0] #[.slice ao1 xs.length cap1, .int .i64 m.p, .int .i64 m.s, .int .i64 m.e, .int .i64 m.d, .int .i64 m.t, .int .i64 m.q, .int .i64 0] hv1 (by simp) (by kernel_rfl) rfl ?_)
  intro u6 hn6 hbl6 hsz6 hoth6
  replace hx1 := (hoth6 w.heap.size (by omega)).trans hx1
  replace hy1 := (hoth6 (w.heap.size + 1) (by omega)).trans hy1
  replace ho1' := Zak ho1' (by omega) hoth6
  replace hB1 : Below w.heap.size w u6 := hB1.trans (hbl6.mono (by omega))
  replace hv1 := hn6
  clear hn6 hbl6 hsz6 hoth6 k6
  have k7 : u6.cell? ⟨w.heap.size, 0 + 7, none⟩ = some (.int .i64 m.r) := cell_of_row u6 _ 7 _ _ _ hx1
  go_wp2_with (refine Zaa rfl 3 _ _ rfl (w.heap.size + 1 + 1) 7 (.int .i64 m.r) #[.int .i64 m.r] rfl rfl rfl rfl 81 #[.slice ao1 xs.length cap1, .int .i64 m.p, .int .i64 m.s, .int .i64 m.e, .int .i64 m.d, .int .i64 m.t, .int .i64 m.q, .int .i64 0] #[.slice ao1 xs.length cap1, .int .i64 m.p, .int .i64 m.s, .int .i64 m.e, .int .i64 m.d, .int .i64 m.t, .int .i64 m.q, .int .i64 m.r] hv1 (by simp) (by kernel_rfl) rfl ?_)
  intro u7 hn7 hbl7 hsz7 hoth7
  replace hx1 := (hoth7 w.heap.size (by omega)).trans hx1
  replace hy1 := (hoth7 (w.heap.size + 1) (by omega)).trans hy1
  replace ho1' := Zak ho1' (by omega) hoth7
  replace hB1 : Below w.heap.size w u7 := hB1.trans (hbl7.mono (by omega))
  replace hv1 := hn7
  clear hn7 hbl7 hsz7 hoth7 k7
  go_wp2_with (first
    | (refine wpList_load_row rfl 81 _ rfl (w.heap.size + 1 + 1) rfl 81 #[.slice ao1 xs.length cap1, .int .i64 m.p, .int .i64 m.s, .int .i64 m.e, .int .i64 m.d, .int .i64 m.t, .int .i64 m.q, .int .i64 m.r] (0, 0) _ hv1 Tryz.underlying81 rfl Zmc ?_)
    | (refine Zac rfl 81 _ _ rfl (w.heap.size + 1) #[.slice ao1 xs.length cap1, .int .i64 m.p, .int .i64 m.s, .int .i64 m.e, .int .i64 m.d, .int .i64 m.t, .int .i64 m.q, .int .i64 m.r] rfl rfl 81 #[.slice none 0 0, .int .i64 0, .int .i64 0, .int .i64 0, .int .i64 0, .int .i64 0, .int .i64 0, .int .i64 0] hy1 Zmc rfl (by simp [Value.oneCell']) ?_))
  intro w9 hh9 hb9 hs9 hoth9
  have ho9 := Zaf (B' := w.heap.size) (Zak ho1' (by omega) hoth9) (by omega)
  have hB9 : Below w.heap.size w w9 := hB1.trans (hb9.mono (by omega))
  go_wp2
  exact bodyPost_ret (results_cell_row rfl _ _ (w.heap.size + 1) 81 _ (0, 0) _ rfl hh9 Tryz.underlying81 rfl Zmc) rfl ⟨_, rfl, ho9, hB9⟩
theorem ZbG {P : Program} (w : World) {ops : Array Oper} {rest : List Oper} {o : Oper} {a : Act} {Q : Exit -> Act -> World -> Prop} (hg : o.guard = none) (x : Operand) (src dst e : TypeId) (ho : o.op = .convert src dst x)
  (hs : P.underlying src = some (.slice e)) (hd : P.underlying dst = some .string) (he : P.underlying e = some (.int .u8)) (ao : Option Addr) (n c : Nat) (xs : List Int) (hx : a.eval x = .slice ao n c) (hl : xs.length = n)
  (hc : n ≠ 0 -> ∃ g o', ao = some ⟨g, o', none⟩ /\ ∀ i, i < n -> w.cell? ⟨g, o' + i, none⟩ = some (.int .u8 (xs.getD i 0)))
  (h : wpList P ops Q rest (a.put o.dst (.string (strOfNums xs))) w) : wpList P ops Q (o :: rest) a w := by
 refine wpList_plain hg fun K hK => ?_
 have hrun : (convert src dst (.slice ao n c)).run P w = .ok (.string (strOfNums xs)) w := by
  by_cases h0 : n = 0
  ·subst h0
   have : xs = [] := List.eq_nil_of_length_eq_zero hl
   subst this
   cases ao with
   | none => exact run_convert_bytes_nil w src e hs he 0 c dst hd
   | some ad => exact run_convert_bytes_back w src dst e ad c [] hs he hd (fun j hj => absurd hj (by simp))
  ·obtain ⟨g, o', rfl, hcell⟩ := hc h0
   exact run_convert_bytes_arg w src e hs he g o' n c xs hl hcell dst hd
 unfold Oper.wp
 simp [execOp, ho, hx, hrun, Result.andThen]
 exact hK _ _ h
def mtGo : Nat -> Nat -> ByteArray -> ByteArray
 | 0, _, out => out
 | f + 1, k, out => if k = 0 then out else mtGo f (k / 10) (strOfNums [48 + (k : Int) % 10] ++ out)
def mt (k : Int) : ByteArray := if k <= 0 then ⟨#[109, 48]⟩ else ⟨#[109]⟩ ++ mtGo k.toNat k.toNat ⟨#[]⟩
end Go.Proofs.YtfmafkebddojjaaGreatDoor
