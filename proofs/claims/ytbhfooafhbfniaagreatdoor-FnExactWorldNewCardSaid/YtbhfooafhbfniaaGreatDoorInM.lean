/-
  Texts that stood by themselves, laid into one.
-/
import Derived.Test.YtbhfooafhbfniaaGreatDoorWLsRM
import Derived.Test.YtbhfooafhbfniaaGreatDoorNodeFitsM
/-
  Slices of homes, links, grams, parked ones, and of slices of texts: the contracts of the laws' helpers. No condition.
-/
namespace Go.Proofs.YtbhfooafhbfniaaGreatDoor
open Go.RowKit
def EL (B : Nat) (w : World) (cs : List Value) (l : Lk) : Prop := ∃ vq vh, cs.toArray = #[.int .i64 l.sent, .int .i64 l.acked, vq, .int .i64 l.got, vh] ∧ StRow w vq l.q ∧ PcRow w vh l.h ∧ Fr B vq ∧ Fr B vh
theorem stbL : Stb EL := ⟨fun _ _ _ _ _ ⟨vq, vh, h, r1, r2, f1, f2⟩ hk => ⟨vq, vh, h, r1.kp f1 hk, r2.kp f2 hk, f1, f2⟩, fun _ _ _ _ _ ⟨vq, vh, h, r1, r2, f1, f2⟩ hc => ⟨vq, vh, h, r1, r2, f1.mono hc, f2.mono hc⟩⟩
def SmL (l : Lk) : Prop := l.q.length ≤ 1048576 ∧ l.h.length ≤ 1048576
theorem NRow.small8 {w : World} {v : Value} {xs : List Nd} (R : NRow w v xs) : ∃ ao cap, v = .slice ao xs.length cap := by
  obtain ⟨ao, cap, h, _⟩ := R
  exact ⟨ao, cap, h⟩
theorem Tryz.infoHm8 : (Tryz.prog.info? 65).map (fun i => (i.zero, i.size, i.bytes)) = some (some (.agg #[.int .i64 0, .int .i64 0, .slice none 0 0, .int .i64 0, .int .i64 0, .int .i64 0, .int .i64 0, .int .i64 0, .int .i64 0, .int .i64 0, .slice none 0 0, .slice none 0 0]), 12, 144) := by kernel_rfl
set_option maxRecDepth 100000 in
set_option maxHeartbeats 1600000 in
theorem eqhms_any (va vb : Value) (xs : List Hm) (B C : Nat) (w : World) (Ra : XRow B 12 EH w va xs) (Rb : XRow C 12 EH w vb xs) :
    Calls Tryz.prog 26 #[va, vb] w fun e w' => e = .returned (.bool true) ∧ Below w.heap.size w w' := by
  obtain ⟨aa, ca, rfl, hca, hm, hcella⟩ := Ra
  obtain ⟨ab, cb, rfl, hcb, _, hcellb⟩ := Rb
  have hn : ((xs.length : Int) != (xs.length : Int)) = false := by simp
  go_enter Tryz.func26, Tryz.ntmps26
  go_wp2
  go_loopw [5] (fun i wr => ∃ k : Nat, k ≤ xs.length ∧ i = .int .i64 k ∧ Below w.heap.size w wr) (fun i _ => xs.length - (intOf i).toNat)
  case atStart => exact ⟨0, by omega, rfl, Below.refl _ _⟩
  case round =>
    obtain ⟨k, hk, rfl, hb⟩ := hrel
    by_cases hlt : k < xs.length
    · obtain ⟨ga, oa, rfl, _, hga, hcella⟩ := hcella (by intro e; subst e; simp at hlt)
      obtain ⟨gb, ob, rfl, _, hgb, hcellb⟩ := hcellb (by intro e; subst e; simp at hlt)
      obtain ⟨x, hx⟩ : ∃ x, xs[k]? = some x := ⟨xs[k], by simp [hlt]⟩
      obtain ⟨cs, hcs, ra, hEa⟩ := hcella k x hx
      obtain ⟨ds, hds, rb, hEb⟩ := hcellb k x hx
      replace ra := range_below ra hb hga
      replace rb := range_below rb hb hgb
      replace hEa := stbH.1 _ _ _ _ _ hEa (Kp.of_below hb)
      replace hEb := stbH.1 _ _ _ _ _ hEb (Kp.of_below hb)
      have HC : ∀ W, Below wr.heap.size wr W → Calls Tryz.prog 60 #[.agg cs.toArray, .agg ds.toArray] W fun e w' => e = .returned (.bool true) ∧ Below W.heap.size W w' := by
        intro W hW
        obtain ⟨a1, a2, a3, hca, R1, R2, R3, _, _, _⟩ := hEa
        obtain ⟨b1, b2, b3, hcb, S1, S2, S3, _, _, _⟩ := hEb
        rw [hca, hcb]
        exact eqhome_any x _ _ _ _ _ _ W (R1.below hW) (R2.below hW) (R3.below hW) (S1.below hW) (S2.below hW) (S3.below hW)
      have hga' := Nat.lt_of_lt_of_le hga hb.size
      have hgb' := Nat.lt_of_lt_of_le hgb hb.size
      clear hcella hcellb hx hEa hEb
      go_wp2_with fail
      refine eqr_Hm ga oa gb ob xs.length ca cb k cs ds wr _ hlt hcs hds hga' hgb' ra rb HC ?_
      intro u17 u18 u19 u20 u21 u22 u23 u24 u25 W hW
      have hB2 : Below w.heap.size w W := hb.trans (hW.mono hb.size)
      clear HC ra rb
      go_wp2
      go_roundw
      case rel => exact ⟨k + 1, by omega, by go_num, hB2⟩
      case measure => simp [intOf]; omega
    · go_wp2
      go_ret
      exact ⟨rfl, hb⟩
theorem Tryz.infoLk8 : (Tryz.prog.info? 106).map (fun i => (i.zero, i.size, i.bytes)) = some (some (.agg #[.int .i64 0, .int .i64 0, .slice none 0 0, .int .i64 0, .slice none 0 0]), 5, 72) := by kernel_rfl
set_option maxRecDepth 100000 in
set_option maxHeartbeats 1600000 in
theorem eqlks_any (va vb : Value) (xs : List Lk) (B C : Nat) (w : World) (Ra : XRow B 5 EL w va xs) (Rb : XRow C 5 EL w vb xs) :
    Calls Tryz.prog 27 #[va, vb] w fun e w' => e = .returned (.bool true) ∧ Below w.heap.size w w' := by
  obtain ⟨aa, ca, rfl, hca, hm, hcella⟩ := Ra
  obtain ⟨ab, cb, rfl, hcb, _, hcellb⟩ := Rb
  have hn : ((xs.length : Int) != (xs.length : Int)) = false := by simp
  go_enter Tryz.func27, Tryz.ntmps27
  go_wp2
  go_loopw [5] (fun i wr => ∃ k : Nat, k ≤ xs.length ∧ i = .int .i64 k ∧ Below w.heap.size w wr) (fun i _ => xs.length - (intOf i).toNat)
  case atStart => exact ⟨0, by omega, rfl, Below.refl _ _⟩
  case round =>
    obtain ⟨k, hk, rfl, hb⟩ := hrel
    by_cases hlt : k < xs.length
    · obtain ⟨ga, oa, rfl, _, hga, hcella⟩ := hcella (by intro e; subst e; simp at hlt)
      obtain ⟨gb, ob, rfl, _, hgb, hcellb⟩ := hcellb (by intro e; subst e; simp at hlt)
      obtain ⟨x, hx⟩ : ∃ x, xs[k]? = some x := ⟨xs[k], by simp [hlt]⟩
      obtain ⟨cs, hcs, ra, hEa⟩ := hcella k x hx
      obtain ⟨ds, hds, rb, hEb⟩ := hcellb k x hx
      replace ra := range_below ra hb hga
      replace rb := range_below rb hb hgb
      replace hEa := stbL.1 _ _ _ _ _ hEa (Kp.of_below hb)
      replace hEb := stbL.1 _ _ _ _ _ hEb (Kp.of_below hb)
      have HC : ∀ W, Below wr.heap.size wr W → Calls Tryz.prog 61 #[.agg cs.toArray, .agg ds.toArray] W fun e w' => e = .returned (.bool true) ∧ Below W.heap.size W w' := by
        intro W hW
        obtain ⟨a1, a2, hca, R1, R2, _, _⟩ := hEa
        obtain ⟨b1, b2, hcb, S1, S2, _, _⟩ := hEb
        rw [hca, hcb]
        exact eqlink_any _ _ _ _ x W (R1.below hW) (R2.below hW) (S1.below hW) (S2.below hW)
      have hga' := Nat.lt_of_lt_of_le hga hb.size
      have hgb' := Nat.lt_of_lt_of_le hgb hb.size
      clear hcella hcellb hx hEa hEb
      go_wp2_with fail
      refine eqr_Lk ga oa gb ob xs.length ca cb k cs ds wr _ hlt hcs hds hga' hgb' ra rb HC ?_
      intro u17 u18 u19 u20 u21 u22 u23 u24 u25 W hW
      have hB2 : Below w.heap.size w W := hb.trans (hW.mono hb.size)
      clear HC ra rb
      go_wp2
      go_roundw
      case rel => exact ⟨k + 1, by omega, by go_num, hB2⟩
      case measure => simp [intOf]; omega
    · go_wp2
      go_ret
      exact ⟨rfl, hb⟩
set_option maxRecDepth 100000 in
set_option maxHeartbeats 1600000 in
theorem eqgms_any (va vb : Value) (xs : List Gm) (B C : Nat) (w : World) (Ra : XRow B 5 EG w va xs) (Rb : XRow C 5 EG w vb xs) :
    Calls Tryz.prog 28 #[va, vb] w fun e w' => e = .returned (.bool true) ∧ Below w.heap.size w w' := by
  obtain ⟨aa, ca, rfl, hca, hm, hcella⟩ := Ra
  obtain ⟨ab, cb, rfl, hcb, _, hcellb⟩ := Rb
  have hn : ((xs.length : Int) != (xs.length : Int)) = false := by simp
  go_enter Tryz.func28, Tryz.ntmps28
  go_wp2
  go_loopw [5] (fun i wr => ∃ k : Nat, k ≤ xs.length ∧ i = .int .i64 k ∧ Below w.heap.size w wr) (fun i _ => xs.length - (intOf i).toNat)
  case atStart => exact ⟨0, by omega, rfl, Below.refl _ _⟩
  case round =>
    obtain ⟨k, hk, rfl, hb⟩ := hrel
    by_cases hlt : k < xs.length
    · obtain ⟨ga, oa, rfl, _, hga, hcella⟩ := hcella (by intro e; subst e; simp at hlt)
      obtain ⟨gb, ob, rfl, _, hgb, hcellb⟩ := hcellb (by intro e; subst e; simp at hlt)
      obtain ⟨x, hx⟩ : ∃ x, xs[k]? = some x := ⟨xs[k], by simp [hlt]⟩
      obtain ⟨cs, hcs, ra, hEa⟩ := hcella k x hx
      obtain ⟨ds, hds, rb, hEb⟩ := hcellb k x hx
      replace ra := range_below ra hb hga
      replace rb := range_below rb hb hgb
      replace hEa := stbG.1 _ _ _ _ _ hEa (Kp.of_below hb)
      replace hEb := stbG.1 _ _ _ _ _ hEb (Kp.of_below hb)
      have HC : ∀ W, Below wr.heap.size wr W → Calls Tryz.prog 62 #[.agg cs.toArray, .agg ds.toArray] W fun e w' => e = .returned (.bool true) ∧ Below W.heap.size W w' := by
        intro W hW
        obtain ⟨hca, _⟩ := hEa
        obtain ⟨hcb, _⟩ := hEb
        rw [hca, hcb]
        exact (eqgram_any x W)
      have hga' := Nat.lt_of_lt_of_le hga hb.size
      have hgb' := Nat.lt_of_lt_of_le hgb hb.size
      clear hcella hcellb hx hEa hEb
      go_wp2_with fail
      refine eqr_Gm ga oa gb ob xs.length ca cb k cs ds wr _ hlt hcs hds hga' hgb' ra rb HC ?_
      intro u17 u18 u19 u20 u21 u22 u23 u24 u25 W hW
      have hB2 : Below w.heap.size w W := hb.trans (hW.mono hb.size)
      clear HC ra rb
      go_wp2
      go_roundw
      case rel => exact ⟨k + 1, by omega, by go_num, hB2⟩
      case measure => simp [intOf]; omega
    · go_wp2
      go_ret
      exact ⟨rfl, hb⟩
set_option maxRecDepth 100000 in
set_option maxHeartbeats 1600000 in
theorem eqpds_any (va vb : Value) (xs : List Pd) (B C : Nat) (w : World) (Ra : XRow B 3 EP w va xs) (Rb : XRow C 3 EP w vb xs) :
    Calls Tryz.prog 29 #[va, vb] w fun e w' => e = .returned (.bool true) ∧ Below w.heap.size w w' := by
  obtain ⟨aa, ca, rfl, hca, hm, hcella⟩ := Ra
  obtain ⟨ab, cb, rfl, hcb, _, hcellb⟩ := Rb
  have hn : ((xs.length : Int) != (xs.length : Int)) = false := by simp
  go_enter Tryz.func29, Tryz.ntmps29
  go_wp2
  go_loopw [5] (fun i wr => ∃ k : Nat, k ≤ xs.length ∧ i = .int .i64 k ∧ Below w.heap.size w wr) (fun i _ => xs.length - (intOf i).toNat)
  case atStart => exact ⟨0, by omega, rfl, Below.refl _ _⟩
  case round =>
    obtain ⟨k, hk, rfl, hb⟩ := hrel
    by_cases hlt : k < xs.length
    · obtain ⟨ga, oa, rfl, _, hga, hcella⟩ := hcella (by intro e; subst e; simp at hlt)
      obtain ⟨gb, ob, rfl, _, hgb, hcellb⟩ := hcellb (by intro e; subst e; simp at hlt)
      obtain ⟨x, hx⟩ : ∃ x, xs[k]? = some x := ⟨xs[k], by simp [hlt]⟩
      obtain ⟨cs, hcs, ra, hEa⟩ := hcella k x hx
      obtain ⟨ds, hds, rb, hEb⟩ := hcellb k x hx
      replace ra := range_below ra hb hga
      replace rb := range_below rb hb hgb
      replace hEa := stbP.1 _ _ _ _ _ hEa (Kp.of_below hb)
      replace hEb := stbP.1 _ _ _ _ _ hEb (Kp.of_below hb)
      have HC : ∀ W, Below wr.heap.size wr W → Calls Tryz.prog 63 #[.agg cs.toArray, .agg ds.toArray] W fun e w' => e = .returned (.bool true) ∧ Below W.heap.size W w' := by
        intro W hW
        obtain ⟨hca, _⟩ := hEa
        obtain ⟨hcb, _⟩ := hEb
        rw [hca, hcb]
        exact (eqparked_any x W)
      have hga' := Nat.lt_of_lt_of_le hga hb.size
      have hgb' := Nat.lt_of_lt_of_le hgb hb.size
      clear hcella hcellb hx hEa hEb
      go_wp2_with fail
      refine eqr_Pd ga oa gb ob xs.length ca cb k cs ds wr _ hlt hcs hds hga' hgb' ra rb HC ?_
      intro u17 u18 u19 u20 u21 u22 u23 u24 u25 W hW
      have hB2 : Below w.heap.size w W := hb.trans (hW.mono hb.size)
      clear HC ra rb
      go_wp2
      go_roundw
      case rel => exact ⟨k + 1, by omega, by go_num, hB2⟩
      case measure => simp [intOf]; omega
    · go_wp2
      go_ret
      exact ⟨rfl, hb⟩
end Go.Proofs.YtbhfooafhbfniaaGreatDoor
/-
  Slices of slices of texts: the contracts of the laws' helpers. No condition.
-/
namespace Go.Proofs.YtbhfooafhbfniaaGreatDoor
open Go.RowKit
def ES (B : Nat) (w : World) (cs : List Value) (ts : List ByteArray) : Prop := ∃ v, cs = [v] ∧ StRow w v ts ∧ Fr B v
theorem stbS : Stb ES := ⟨fun _ _ _ _ _ ⟨v, h, r, f⟩ hk => ⟨v, h, r.kp f hk, f⟩, fun _ _ _ _ _ ⟨v, h, r, f⟩ hc => ⟨v, h, r, f.mono hc⟩⟩
def SmS (ts : List ByteArray) : Prop := ts.length ≤ 1048576 ∧ ∀ x ∈ ts, x.size ≤ 1048576
theorem Tryz.infoSs8 : (Tryz.prog.info? 57).map (fun i => (i.zero, i.size, i.bytes)) = some (some (.slice none 0 0), 1, 24) := by kernel_rfl
theorem range_one {w : World} {g o : Nat} {v : Value} (h : w.rangeAt g o [v]) : w.cell? ⟨g, o, none⟩ = some v := h 0 v rfl
set_option maxRecDepth 100000 in
set_option maxHeartbeats 1600000 in
theorem eqsss_any (va vb : Value) (xs : List (List ByteArray)) (B C : Nat) (w : World) (Ra : XRow B 1 ES w va xs) (Rb : XRow C 1 ES w vb xs) :
    Calls Tryz.prog 30 #[va, vb] w fun e w' => e = .returned (.bool true) ∧ Below w.heap.size w w' := by
  obtain ⟨aa, ca, rfl, hca, hm, hcella⟩ := Ra
  obtain ⟨ab, cb, rfl, hcb, _, hcellb⟩ := Rb
  have hn : ((xs.length : Int) != (xs.length : Int)) = false := by simp
  go_enter Tryz.func30, Tryz.ntmps30
  go_wp2
  go_loopw [5] (fun i wr => ∃ k : Nat, k ≤ xs.length ∧ i = .int .i64 k ∧ Below w.heap.size w wr) (fun i _ => xs.length - (intOf i).toNat)
  case atStart => exact ⟨0, by omega, rfl, Below.refl _ _⟩
  case round =>
    obtain ⟨k, hk, rfl, hb⟩ := hrel
    by_cases hlt : k < xs.length
    · obtain ⟨ga, oa, rfl, _, hga, hcella⟩ := hcella (by intro e; subst e; simp at hlt)
      obtain ⟨gb, ob, rfl, _, hgb, hcellb⟩ := hcellb (by intro e; subst e; simp at hlt)
      obtain ⟨x, hx⟩ : ∃ x, xs[k]? = some x := ⟨xs[k], by simp [hlt]⟩
      obtain ⟨cs, hcs, ra, hEa⟩ := hcella k x hx
      obtain ⟨ds, hds, rb, hEb⟩ := hcellb k x hx
      replace ra := range_below ra hb hga
      replace rb := range_below rb hb hgb
      obtain ⟨ua, rfl, R1, _⟩ := stbS.1 _ _ _ _ _ hEa (Kp.of_below hb)
      obtain ⟨ub, rfl, R2, _⟩ := stbS.1 _ _ _ _ _ hEb (Kp.of_below hb)
      have c1 := range_one ra
      have c2 := range_one rb
      rw [Nat.mul_one] at c1 c2
      have HC : ∀ W, Below wr.heap.size wr W → Calls Tryz.prog 64 #[ua, ub] W fun e w' => e = .returned (.bool true) ∧ Below W.heap.size W w' := fun W hW => eqstrs_any _ _ x W (R1.below hW) (R2.below hW)
      have hga' := Nat.lt_of_lt_of_le hga hb.size
      have hgb' := Nat.lt_of_lt_of_le hgb hb.size
      clear hcella hcellb hx hEa hEb ra rb
      go_wp2_with fail
      refine eqr_Ss ga oa gb ob xs.length ca cb k ua ub wr _ hlt hga' hgb' c1 c2 HC ?_
      intro u17 u18 u19 u20 u21 u22 u23 u24 u25 W hW
      have hB2 : Below w.heap.size w W := hb.trans (hW.mono hb.size)
      clear HC c1 c2
      go_wp2
      go_roundw
      case rel => exact ⟨k + 1, by omega, by go_num, hB2⟩
      case measure => simp [intOf]; omega
    · go_wp2
      go_ret
      exact ⟨rfl, hb⟩
end Go.Proofs.YtbhfooafhbfniaaGreatDoor
/-
  Helpers: an instruction as 4 cells, a slice of these read as a list, and the contracts of the laws' helpers on them. No condition.
-/
namespace Go.Proofs.YtbhfooafhbfniaaGreatDoor
open Go.RowKit
structure In where
  o : Int
  n : Int
  i : Int
  s : ByteArray
def In.cs (x : In) : List Value := [.int .i64 x.o, .int .i64 x.n, .int .i64 x.i, .string x.s]
def incs (xs : List In) : List Value := xs.flatMap In.cs
theorem incs_cons (x : In) (xs : List In) : incs (x :: xs) = x.cs ++ incs xs := rfl
theorem incs_length (xs : List In) : (incs xs).length = xs.length * 4 := by
  induction xs with
  | nil => rfl
  | cons x xs ih => rw [incs_cons, List.length_append, ih, List.length_cons]; simp [In.cs]; omega
theorem incs_get (xs : List In) (i : Nat) (x : In) (h : xs[i]? = some x) (j : Nat) (hj : j < 4) : (incs xs)[i * 4 + j]? = x.cs[j]? := by
  induction xs generalizing i with
  | nil => simp at h
  | cons y ys ih =>
    rw [incs_cons]
    cases i with
    | zero =>
      simp at h; subst h
      rw [Nat.zero_mul, Nat.zero_add, List.getElem?_append_left (by simpa [In.cs] using hj)]
    | succ i =>
      rw [List.getElem?_append_right (by simp [In.cs]; omega)]
      rw [show (i + 1) * 4 + j - y.cs.length = i * 4 + j by simp [In.cs]; omega]
      exact ih i (by simpa using h)
theorem incs_set (xs : List In) (i : Nat) (x x' : In) (h : xs[i]? = some x) (j : Nat) (hj : j < 4) (u : Value) (e : x.cs.set j u = x'.cs) : (incs xs).set (i * 4 + j) u = incs (xs.set i x') := by
  induction xs generalizing i with
  | nil => simp at h
  | cons y ys ih =>
    rw [incs_cons]
    cases i with
    | zero =>
      simp at h; subst h
      rw [Nat.zero_mul, Nat.zero_add, List.set_append_left _ _ (by simpa [In.cs] using hj), e]
      rfl
    | succ i =>
      rw [List.set_append_right _ _ (by simp [In.cs]; omega)]
      rw [show (i + 1) * 4 + j - y.cs.length = i * 4 + j by simp [In.cs]; omega, ih i (by simpa using h)]
      rfl
theorem incs_set0 (xs : List In) (i : Nat) (x x' : In) (h : xs[i]? = some x) (u : Value) (e : x.cs.set 0 u = x'.cs) : (incs xs).set (i * 4) u = incs (xs.set i x') :=
  incs_set xs i x x' h 0 (by omega) u e
theorem In.one (x : In) : ∀ u ∈ x.cs, u.oneCell' = true := by
  intro u hu
  simp only [In.cs, List.mem_cons, List.not_mem_nil, or_false] at hu
  rcases hu with rfl | rfl | rfl | rfl <;> rfl
theorem incs_one (xs : List In) : ∀ u ∈ incs xs, u.oneCell' = true := by
  intro u hu
  simp only [incs, List.mem_flatMap] at hu
  obtain ⟨x, _, hx⟩ := hu
  exact x.one u hx
def InAt (w : World) (g o : Nat) (x : In) : Prop :=
  w.cell? ⟨g, o, none⟩ = some (.int .i64 x.o) ∧ w.cell? ⟨g, o + 1, none⟩ = some (.int .i64 x.n) ∧ w.cell? ⟨g, o + 2, none⟩ = some (.int .i64 x.i) ∧ w.cell? ⟨g, o + 3, none⟩ = some (.string x.s)
theorem InAt.below {w w' : World} {g o B : Nat} {x : In} (h : InAt w g o x) (hb : Below B w w') (hg : g < B) : InAt w' g o x :=
  ⟨(hb.cell (p := ⟨g, o, none⟩) hg).trans h.1, (hb.cell (p := ⟨g, o + 1, none⟩) hg).trans h.2.1, (hb.cell (p := ⟨g, o + 2, none⟩) hg).trans h.2.2.1, (hb.cell (p := ⟨g, o + 3, none⟩) hg).trans h.2.2.2⟩
def InRow (w : World) (v : Value) (xs : List In) : Prop :=
  ∃ ao cap, v = .slice ao xs.length cap ∧ (xs.length ≤ cap ∧ (ao = none → cap = 0)) ∧ xs.length ≤ 9223372036854775807 ∧ (∀ x ∈ xs, x.s.size ≤ maxLen) ∧
    (xs ≠ [] → ∃ g o, ao = some ⟨g, o, none⟩ ∧ g < w.heap.size ∧ ∀ i x, xs[i]? = some x → InAt w g (o + i * 4) x)
theorem InRow.small {w : World} {v : Value} {xs : List In} (R : InRow w v xs) : ∃ ao cap, v = .slice ao xs.length cap := by
  obtain ⟨ao, cap, rfl, _⟩ := R
  exact ⟨ao, cap, rfl⟩
theorem InRow.below {w w' : World} {v : Value} {xs : List In} (h : InRow w v xs) (hb : Below w.heap.size w w') : InRow w' v xs := by
  obtain ⟨ao, cap, rfl, hc, hm, hz, hcell⟩ := h
  refine ⟨ao, cap, rfl, hc, hm, hz, fun hne => ?_⟩
  obtain ⟨g, o, rfl, hg, hcell⟩ := hcell hne
  exact ⟨g, o, rfl, Nat.lt_of_lt_of_le hg hb.size, fun i x hi => (hcell i x hi).below hb hg⟩
theorem InRow.of_own {w : World} {base : Nat} {v : Value} {xs : List In} (h : w.ownsRow base 99 4 v xs.length (incs xs)) (hm : xs.length ≤ 9223372036854775807) (hz : ∀ x ∈ xs, x.s.size ≤ maxLen) : InRow w v xs := by
  rcases h.2 with ⟨rfl, h0⟩ | ⟨g, cap, cur, rfl, hb, hg, hnc, hcm, hcs, htake⟩
  · have : xs = [] := List.eq_nil_of_length_eq_zero h0
    subst this
    exact ⟨none, 0, rfl, by simp, by simp, by simp, fun h => absurd rfl h⟩
  · refine ⟨_, cap, rfl, ⟨hnc, fun h => by cases h⟩, hm, hz, fun _ => ⟨g, 0, rfl, (Array.getElem?_eq_some_iff.1 hg).1, fun i x hi => ?_⟩⟩
    have hl : i < xs.length := (List.getElem?_eq_some_iff.1 hi).1
    have e : ∀ j, j < 4 → w.cell? ⟨g, 0 + i * 4 + j, none⟩ = x.cs[j]? := fun j hj => by
      have := h.cellAt (i * 4 + j) (by omega)
      rw [Nat.zero_add, this, incs_get xs i x hi j hj]
    exact ⟨e 0 (by omega), e 1 (by omega), e 2 (by omega), e 3 (by omega)⟩
theorem Tryz.infoIn : (Tryz.prog.info? 99).map (fun i => (i.zero, i.size, i.bytes)) = some (some (.agg #[.int .i64 0, .int .i64 0, .int .i64 0, .string ByteArray.empty]), 4, 40) := by kernel_rfl
theorem Tryz.sizeIn : (Tryz.prog.info? 99).map (·.size) = some 4 := by kernel_rfl
theorem wpList_store_in {ops : Array Oper} {rest : List Oper} {op : Oper} {a : Act} {w : World} {Q : Exit → Act → World → Prop} (hgd : op.guard = none) (x y : Operand) (ho : op.op = .store 99 x y)
    (base g i cap : Nat) (xs : List In) (nd : In) (hx : a.eval x = .pointer (some ⟨g, i * 4, none⟩)) (hy : a.eval y = .agg #[.int .i64 nd.o, .int .i64 nd.n, .int .i64 nd.i, .string nd.s])
    (hi : i < xs.length) (hown : w.ownsRow base 99 4 (.slice (some ⟨g, 0, none⟩) xs.length cap) xs.length (incs xs))
    (h : ∀ w2 : World, w2.ownsRow base 99 4 (.slice (some ⟨g, 0, none⟩) xs.length cap) xs.length (incs (xs.set i nd)) → w.grownBy w2 (some g) → wpList Tryz.prog ops Q rest (a.put op.dst undef) w2) : wpList Tryz.prog ops Q (op :: rest) a w := by
  have ht : w.there g (i * 4) 4 := fun j hj => by
    have := hown.cellAt (i * 4 + j) (by omega)
    refine ⟨?_, hown.frozenAt _⟩
    rw [this, List.getElem?_eq_getElem (by rw [incs_length]; omega)]
    rfl
  refine wpList_store_mid hgd 99 x y ho g (i * 4) _ hx hy ht Tryz.sizeIn (all_oneCell_toArray nd.one) ?_
  have e0 : xs[i]? = some xs[i] := List.getElem?_eq_getElem hi
  have get : ∀ y : In, (xs.set i y)[i]? = some y := fun y => by simp [hi]
  have s0 := hown.stored (i * 4) (.int .i64 nd.o)
  rw [incs_set0 xs i xs[i] ⟨nd.o, xs[i].n, xs[i].i, xs[i].s⟩ e0 _ rfl] at s0
  have s1 := s0.1.stored (i * 4 + 1) (.int .i64 nd.n)
  rw [incs_set (xs.set i ⟨nd.o, xs[i].n, xs[i].i, xs[i].s⟩) i ⟨nd.o, xs[i].n, xs[i].i, xs[i].s⟩ ⟨nd.o, nd.n, xs[i].i, xs[i].s⟩ (get _) 1 (by omega) (.int .i64 nd.n) rfl, List.set_set] at s1
  have s2 := s1.1.stored (i * 4 + 2) (.int .i64 nd.i)
  rw [incs_set (xs.set i ⟨nd.o, nd.n, xs[i].i, xs[i].s⟩) i ⟨nd.o, nd.n, xs[i].i, xs[i].s⟩ ⟨nd.o, nd.n, nd.i, xs[i].s⟩ (get _) 2 (by omega) (.int .i64 nd.i) rfl, List.set_set] at s2
  have s3 := s2.1.stored (i * 4 + 3) (.string nd.s)
  rw [incs_set (xs.set i ⟨nd.o, nd.n, nd.i, xs[i].s⟩) i ⟨nd.o, nd.n, nd.i, xs[i].s⟩ ⟨nd.o, nd.n, nd.i, nd.s⟩ (get _) 3 (by omega) (.string nd.s) rfl, List.set_set] at s3
  exact h _ s3.1 (((s0.2.trans s1.2).trans s2.2).trans s3.2)
set_option maxHeartbeats 400000 in
theorem toin_any (x : In) (w : World) :
    Calls Tryz.prog 55 #[.agg #[.int .i64 x.o, .int .i64 x.n, .int .i64 x.i, .string x.s]] w fun e w' => e = .returned (.agg #[.int .i64 x.o, .int .i64 x.n, .int .i64 x.i, .string x.s]) ∧ Below w.heap.size w w' := by
  go_enter Tryz.func55, Tryz.ntmps55
  go_wp2
  exact bodyPost_ret (results_cell_row rfl _ _ (w.heap.size + 1) 99 _ (0, 0) _ rfl ((heap_alloc_old _ _ (by simp)).trans (heap_alloc2_new _ _ _)) Tryz.underlying99 rfl Tryz.sizeIn) rfl
    ⟨rfl, (((Below.refl _ _).alloc (Nat.le_refl _) _).alloc (by simp) _).alloc (by simp; omega) _⟩
set_option maxHeartbeats 400000 in
theorem szin_any (x : In) (l : Int) (w : World) (hs : x.s.size ≤ maxLen) (hl : 0 ≤ l) (hl2 : l ≤ 1048576) :
    Calls Tryz.prog 49 #[.agg #[.int .i64 x.o, .int .i64 x.n, .int .i64 x.i, .string x.s], .int .i64 l] w fun e w' => e = .returned (.int .i64 (less l x.s.size)) ∧ Below w.heap.size w w' := by
  unfold maxLen at hs
  go_enter Tryz.func49, Tryz.ntmps49
  by_cases h : l < x.s.size
  · have HL : Hid (less l x.s.size = -1) := by unfold Hid less; rw [if_pos h]
    go_wp2
    go_ret
    exact ⟨by rw [HL.out]; rfl, (Below.refl _ _).alloc (Nat.le_refl _) _⟩
  · have HL : Hid (less l x.s.size = l - x.s.size) := by unfold Hid less; rw [if_neg h]
    go_wp2
    go_ret
    exact ⟨by rw [HL.out]; rfl, (Below.refl _ _).alloc (Nat.le_refl _) _⟩
set_option maxHeartbeats 800000 in
theorem eqin_any (x : In) (w : World) :
    Calls Tryz.prog 66 #[.agg #[.int .i64 x.o, .int .i64 x.n, .int .i64 x.i, .string x.s], .agg #[.int .i64 x.o, .int .i64 x.n, .int .i64 x.i, .string x.s]] w fun e w' => e = .returned (.bool true) ∧ Below w.heap.size w w' := by
  go_enter Tryz.func66, Tryz.ntmps66
  go_wp2
  go_ret
  exact ⟨rfl, ((Below.refl _ _).alloc (Nat.le_refl _) _).alloc (by simp) _⟩
def zeroIn : In := ⟨0, 0, 0, ByteArray.empty⟩
def incopied (xs : List In) (j : Nat) : List In := xs.take j ++ List.replicate (xs.length - j) zeroIn
theorem incopied_length (xs : List In) (j : Nat) (h : j ≤ xs.length) : (incopied xs j).length = xs.length := by simp [incopied]; omega
theorem incopied_full (xs : List In) : incopied xs xs.length = xs := by simp [incopied]
theorem incs_zeros (n : Nat) : incs (List.replicate n zeroIn) = (madeCells #[Value.int .i64 0, .int .i64 0, .int .i64 0, .string ByteArray.empty] (n * 4)).toList := by
  apply List.ext_getElem?
  intro j
  by_cases hj : j < n * 4
  · have hq : j / 4 < n := by omega
    rw [show j = j / 4 * 4 + j % 4 by omega, incs_get _ (j / 4) zeroIn (by simp [hq]) (j % 4) (by omega)]
    rw [show j / 4 * 4 + j % 4 = j by omega]
    have h5 : j % 4 = 0 ∨ j % 4 = 1 ∨ j % 4 = 2 ∨ j % 4 = 3 := by omega
    rcases h5 with h5 | h5 | h5 | h5 <;> simp [madeCells, hj, h5, zeroIn, In.cs]
  · rw [List.getElem?_eq_none (by rw [incs_length, List.length_replicate]; omega), List.getElem?_eq_none (by simp [madeCells]; omega)]
theorem incopied_zero (xs : List In) : incs (incopied xs 0) = (madeCells #[Value.int .i64 0, .int .i64 0, .int .i64 0, .string ByteArray.empty] (xs.length * 4)).toList := by
  rw [← incs_zeros]; simp [incopied]
theorem incopied_set (xs : List In) (j : Nat) (h : j < xs.length) : (incopied xs j).set j xs[j] = incopied xs (j + 1) := by
  unfold incopied
  rw [show xs.length - j = xs.length - (j + 1) + 1 by omega, List.replicate_succ, List.take_succ_eq_append_getElem h]
  rw [List.set_append_right _ _ (by simp; omega)]
  have e : j - (List.take j xs).length = 0 := by simp; omega
  rw [e, List.set_cons_zero, List.append_assoc]
  rfl
set_option maxHeartbeats 800000 in
theorem toins_any (v : Value) (xs : List In) (w : World) (R : InRow w v xs) (hm : xs.length ≤ 2097152) :
    Calls Tryz.prog 20 #[v] w fun e w' => ∃ v', e = .returned v' ∧ w'.ownsRow w.heap.size 99 4 v' xs.length (incs xs) ∧ Below w.heap.size w w' := by
  obtain ⟨ao, cap, rfl, hcap, _, hz, hcell⟩ := R
  obtain ⟨i0, hi, hz0, hz1, hz2⟩ := info_parts Tryz.infoIn
  have hbytes : i0.bytes * xs.length ≤ 281474976710656 := by rw [hz2]; omega
  have hmax : xs.length ≤ maxLen := by unfold maxLen; omega
  go_enter Tryz.func20, Tryz.ntmps20
  go_wp2_with (at_make; refine wpList_make_full _ rfl _ _ 33 rfl w.heap.size 99 i0 _ 4 Tryz.underlying33 hi hz0 hz1 _ _ _ _ xs.length rfl rfl rfl rfl hbytes hmax (Nat.le_refl _) ?_)
  intro w1 hown hgrow
  have hbel : Below w.heap.size w w1 := (Below.refl _ _).grown hgrow (Nat.le_refl _) (by intro k hk; cases hk)
  clear hgrow
  go_wp2
  go_loopw [4] (fun i wr => ∃ j : Nat, j ≤ xs.length ∧ i = .int .i64 j ∧ wr.ownsRow w.heap.size 99 4 (.slice (some ⟨w.heap.size, 0, none⟩) xs.length xs.length) xs.length (incs (incopied xs j)) ∧ Below w.heap.size w wr) (fun i _ => xs.length - (intOf i).toNat)
  case atStart => exact ⟨0, by omega, rfl, by rw [incopied_zero]; exact hown, hbel⟩
  case round =>
    clear hown hbel hbytes hmax
    obtain ⟨j, hj, rfl, hown, hbel⟩ := hrel
    by_cases hlt : j < xs.length
    · obtain ⟨g, o, rfl, hg, hcell⟩ := hcell (by intro e; subst e; simp at hlt)
      obtain ⟨c0, c1, c2, c3⟩ := (hcell j xs[j] (by simp [hlt])).below hbel hg
      have HC := incopied_length xs j hj
      clear hcell
      go_wp2_with fail
      refine (toin_any xs[j] _).mono ?_
      rintro e w2 ⟨rfl, hb2⟩
      have hown2 : w2.ownsRow w.heap.size 99 4 (.slice (some ⟨w.heap.size, 0, none⟩) (incopied xs j).length xs.length) (incopied xs j).length (incs (incopied xs j)) := by
        rw [HC]; exact own_below hown hb2
      have hB2 := hbel.trans (hb2.mono hbel.size)
      clear c0 c1 c2 c3 hown hb2 hbel
      go_wp2_with (refine wpList_store_in rfl _ _ rfl w.heap.size w.heap.size j xs.length (incopied xs j) xs[j] rfl rfl (by omega) hown2 ?_)
      intro w3 hown3 hg3
      rw [incopied_set xs j hlt] at hown3
      have hB3 : Below w.heap.size w w3 := hB2.grown hg3 hB2.size (fun k hk => by simp at hk; omega)
      clear hown2 hg3
      go_wp2
      go_roundw
      case rel => exact ⟨j + 1, by omega, by go_num, hown3, hB3⟩
      case measure => simp [intOf]; omega
    · go_wp2
      go_ret
      have : j = xs.length := by omega
      subst this
      rw [incopied_full] at hown
      exact ⟨_, rfl, hown, hbel⟩
set_option maxHeartbeats 800000 in
theorem szins_any (v : Value) (xs : List In) (l : Int) (w : World) (R : InRow w v xs) (hl0 : 0 ≤ l) (hl1 : l ≤ 1048576) :
    Calls Tryz.prog 14 #[v, .int .i64 l] w fun e w' => ∃ r : Int, e = .returned (.int .i64 r) ∧ -1 ≤ r ∧ r ≤ 1048576 ∧ (0 ≤ r → xs.length ≤ 1048576 ∧ ∀ x ∈ xs, x.s.size ≤ 1048576) ∧ Below w.heap.size w w' := by
  obtain ⟨ao, cap, rfl, hcap, hm, hz, hcell⟩ := R
  by_cases hlen : (xs.length : Int) ≤ l
  · go_enter Tryz.func14, Tryz.ntmps14
    go_wp2
    go_loopw [1, 5] (fun l i wr => ∃ (k : Nat) (r : Int), k ≤ xs.length ∧ i = .int .i64 k ∧ l = .int .i64 r ∧ 0 ≤ r ∧ r ≤ 1048576 ∧ Hid (∀ j x, xs[j]? = some x → j < k → x.s.size ≤ 1048576) ∧ Below w.heap.size w wr) (fun _ i _ => xs.length - (intOf i).toNat)
    case atStart => exact ⟨0, _, by omega, rfl, rfl, by omega, by omega, fun j x _ h => by omega, Below.refl _ _⟩
    case round =>
      obtain ⟨k, r, hk, rfl, rfl, hr0, hr1, HA, hb⟩ := hrel
      by_cases hlt : k < xs.length
      · obtain ⟨g, o, rfl, hg, hcell⟩ := hcell (by intro e; subst e; simp at hlt)
        obtain ⟨x, hx⟩ : ∃ x, xs[k]? = some x := ⟨xs[k], by simp [hlt]⟩
        obtain ⟨c0, c1, c2, c3⟩ := (hcell k x hx).below hb hg
        have hxs := hz x (List.mem_of_getElem? hx)
        have HX : Hid (xs[k]? = some x) := hx
        clear hcell hx
        go_wp2_with fail
        refine (szin_any x _ _ hxs hr0 hr1).mono ?_
        rintro e w2 ⟨rfl, hb2⟩
        have hB2 := hb.trans (hb2.mono hb.size)
        clear c0 c1 c2 c3 hb2
        by_cases hl : r < x.s.size
        · rw [less, if_pos hl]
          go_wp2
          go_ret
          exact ⟨-1, rfl, by omega, by omega, fun h => by omega, hB2⟩
        · rw [less, if_neg hl]
          go_wp2
          go_roundw
          case rel =>
            refine ⟨k + 1, _, by omega, by go_num, rfl, by omega, by omega, fun j y hy hj => ?_, hB2⟩
            by_cases e : j = k
            · subst e
              rw [HX.out] at hy
              cases hy
              omega
            · exact HA.out j y hy (by omega)
          case measure => simp [intOf]; omega
      · go_wp2
        go_ret
        refine ⟨r, rfl, by omega, by omega, fun _ => ⟨by omega, fun x hx => ?_⟩, hb⟩
        obtain ⟨j, hj, e⟩ := List.getElem_of_mem hx
        exact HA.out j x (by rw [← e]; simp [hj]) (by omega)
  · go_enter Tryz.func14, Tryz.ntmps14
    go_wp2
    go_ret
    exact ⟨-1, rfl, by omega, by omega, fun h => by omega, Below.refl _ _⟩
set_option maxHeartbeats 800000 in
theorem eqins_any (va vb : Value) (xs : List In) (w : World) (Ra : InRow w va xs) (Rb : InRow w vb xs) :
    Calls Tryz.prog 32 #[va, vb] w fun e w' => e = .returned (.bool true) ∧ Below w.heap.size w w' := by
  obtain ⟨aa, ca, rfl, hca, hm, hz, hcella⟩ := Ra
  obtain ⟨ab, cb, rfl, hcb, _, _, hcellb⟩ := Rb
  have hn : ((xs.length : Int) != (xs.length : Int)) = false := by simp
  go_enter Tryz.func32, Tryz.ntmps32
  go_wp2
  go_loopw [5] (fun i wr => ∃ k : Nat, k ≤ xs.length ∧ i = .int .i64 k ∧ Below w.heap.size w wr) (fun i _ => xs.length - (intOf i).toNat)
  case atStart => exact ⟨0, by omega, rfl, Below.refl _ _⟩
  case round =>
    obtain ⟨k, hk, rfl, hb⟩ := hrel
    by_cases hlt : k < xs.length
    · obtain ⟨ga, oa, rfl, hga, hcella⟩ := hcella (by intro e; subst e; simp at hlt)
      obtain ⟨gb, ob, rfl, hgb, hcellb⟩ := hcellb (by intro e; subst e; simp at hlt)
      obtain ⟨x, hx⟩ : ∃ x, xs[k]? = some x := ⟨xs[k], by simp [hlt]⟩
      obtain ⟨c0, c1, c2, c3⟩ := (hcella k x hx).below hb hga
      obtain ⟨d0, d1, d2, d3⟩ := (hcellb k x hx).below hb hgb
      clear hcella hcellb hx
      go_wp2_with fail
      go_region_with (go_at_call 66; refine (eqin_any x _).mono ?_; rintro e w2 ⟨rfl, hb2⟩)
      all_goals
        have hB2 : Below w.heap.size w w2 := hb.drew.trans (hb2.mono hb.size)
        clear c0 c1 c2 c3 d0 d1 d2 d3 hb2
        go_wp2
        go_roundw
        case rel => exact ⟨k + 1, by omega, by go_num, hB2⟩
        case measure => simp [intOf]; omega
    · go_wp2
      go_ret
      exact ⟨rfl, hb⟩
end Go.Proofs.YtbhfooafhbfniaaGreatDoor
