/-
  Texts that stood by themselves, laid into one.
-/
import Derived.Test.YtmbomhcnmjhbnaaGreatDoorSMakeM
import Derived.Deep.RegionLaw
import Derived.Deep.AppendLies
import Derived.Test.YtmbomhcnmjhbnaaGreatDoorSNumM
import Derived.Test.YtmbomhcnmjhbnaaGreatDoorCpMemM
/-
  Contract of spec's l2Add: a node behind the pool that a pointer leads to.
-/
namespace Go.Proofs.YtmbomhcnmjhbnaaGreatDoor
open Go.RowKit

set_option maxHeartbeats 1600000 in
theorem sadd_any (b base : Nat) (ao : Option Addr) (cap : Nat) (xs : List Nd) (x : Nd) (w : World) (hb : w.heap[b]? = some (.cells #[.slice ao xs.length cap] 26 (0, 0))) (ho : w.ownsRow base 64 5 (.slice ao xs.length cap) xs.length (ncs xs))
    (hm : xs.length ≤ 2097152) (hbb : base ≤ b) :
    Calls Tryz.prog 62 #[.pointer (some ⟨b, 0, none⟩), .agg #[.int .i64 x.k, .int .i64 x.n, .string x.s, .int .i64 x.a, .int .i64 x.b]] w fun e w' =>
      ∃ v', e = .returned (.int .i64 xs.length) ∧ w'.heap[b]? = some (.cells #[v'] 26 (0, 0)) ∧ w'.ownsRow base 64 5 v' (xs ++ [x]).length (ncs (xs ++ [x])) ∧ Below base w w' := by
  obtain ⟨i0, hi, hz0, hz1, hz2⟩ := info_parts Tryz.infoN
  have hlt : b < w.heap.size := (Array.getElem?_eq_some_iff.1 hb).1
  have hcb : w.cell? ⟨b, 0, none⟩ = some (.slice ao xs.length cap) := by rw [cell_of_row w b 0 _ _ _ hb]; rfl
  have hne : b ≠ w.heap.size := by omega
  go_enter Tryz.func62, Tryz.ntmps62
  go_wp2_with fail
  go_region_law (refine step_append_lies _ rfl _ _ 24 rfl base 64 i0 _ 5 48 Tryz.underlying24 hi hz0 hz1 hz2 rfl (by decide) _ _ _ rfl ((ho.alloc _).alloc _) ⟨w.heap.size + 1, 0, none⟩ 1 1 (ncs [x]) rfl rfl (World.news_of_block (cs := #[.int .i64 x.k, .int .i64 x.n, .string x.s, .int .i64 x.a, .int .i64 x.b]) (t := 64) (fr := (0, 0)) (heap_alloc2_new w _ _)) (ncs_one _) (by omega) (by unfold maxLen; omega) (by omega) (by simp; omega) (w.heap.size + 2) (by simp) ?_; intro g capg w1 hown hgrow hat hgl; have hb1 : w1.heap[b]? = some (.cells #[.slice ao xs.length cap] 26 (0, 0)) := (hgrow.block b (by simp; omega) (fun e => own_ne ho hb (by decide) e.symm)).trans ((heap_alloc_old _ _ (by simp; omega)).trans ((heap_alloc_old _ _ hlt).trans hb)); have kb1 : w1.cell? ⟨b, 0, none⟩ = some (.slice ao xs.length cap) := cell_of_row w1 b 0 _ _ _ hb1; have fb1 : w1.frozen? ⟨b, 0, none⟩ = false := frozen_of_row w1 b 0 _ _ hb1)
  all_goals
    have hown2 : w1.ownsRow base 64 5 (.slice (some ⟨g, 0, none⟩) (xs.length + 1) capg) (xs ++ [x]).length (ncs (xs ++ [x])) := by
      rw [ncs_append, List.length_append]
      exact hown
    have hs0 : base ≤ w.heap.size := by omega
    have hB1 : Below base w w1 := (((Below.refl base w).alloc hs0 _).drew.alloc (by simp; omega) _).grown hgrow (by simp; omega) (fun k hk => (ho.lt k hk).1)
    have hB2 := hB1.setCell (p := ⟨b, 0, none⟩) hbb (.slice (some ⟨g, 0, none⟩) (xs.length + 1) capg)
    have ho2 := ownsRow_setCell_other hown2 (a := ⟨b, 0, none⟩) (own_ne hown2 hb1 (by decide)) (.slice (some ⟨g, 0, none⟩) (xs.length + 1) capg)
    have hb2 := heap_setCell_same w1 b 0 _ _ (.slice (some ⟨g, 0, none⟩) (xs.length + 1) capg) hb1
    clear hown hgrow hat hcb hb
    go_wp2
    go_ret
    exact ⟨_, by simp, hb2, ho2, hB2⟩
end Go.Proofs.YtmbomhcnmjhbnaaGreatDoor

/-
  Contract of spec's l2List: a list behind the pool that a pointer leads to.
-/
namespace Go.Proofs.YtmbomhcnmjhbnaaGreatDoor
open Go.RowKit

set_option maxRecDepth 100000 in
set_option maxHeartbeats 1600000 in
theorem slist_any (b base : Nat) (v vl : Value) (xs : List Nd) (zs : List Int) (w : World) (hb : w.heap[b]? = some (.cells #[v] 26 (0, 0))) (ho : w.ownsRow base 64 5 v xs.length (ncs xs)) (L : IRow w vl zs)
    (hL : ∀ g o cap, vl = .slice (some ⟨g, o, none⟩) zs.length cap → zs ≠ [] → g < base) (hm : xs.length ≤ 1048576) (hzl : zs.length ≤ 1048576) (hbb : base ≤ b) :
    Calls Tryz.prog 59 #[.pointer (some ⟨b, 0, none⟩), vl] w fun e w' =>
      ∃ v', e = .returned (.int .i64 ((xs.length + zs.length : Nat) : Int)) ∧ w'.heap[b]? = some (.cells #[v'] 26 (0, 0)) ∧ w'.ownsRow base 64 5 v' (xs ++ more zs xs.length 0).length (ncs (xs ++ more zs xs.length 0)) ∧ Below base w w' := by
  obtain ⟨ao, cap, rfl⟩ := own_form ho
  obtain ⟨al, cl, rfl, hcl, hlm, hcell⟩ := L
  go_enter Tryz.func59, Tryz.ntmps59
  go_wp2_with fail
  refine (sadd_any b base ao cap xs nilN w hb ho (by omega) hbb).mono ?_
  rintro e w1 ⟨v1, rfl, hb1, ho1, hB1⟩
  clear hb ho
  go_wp2_with fail
  go_loopw [5, 6] (fun l i wr => ∃ (m : Nat) (v' : Value), m ≤ zs.length ∧ i = .int .i64 ((m : Int) - 1) ∧ l = .int .i64 ((xs.length + (zs.length - m) : Nat) : Int) ∧ wr.heap[b]? = some (.cells #[v'] 26 (0, 0)) ∧ wr.ownsRow base 64 5 v' (xs ++ more zs xs.length m).length (ncs (xs ++ more zs xs.length m)) ∧ Below base w wr) (fun _ i _ => (intOf i + 1).toNat)
  case atStart =>
    have : more zs xs.length zs.length = [nilN] := by simp [more, pairsR]
    exact ⟨zs.length, v1, Nat.le_refl _, rfl, by simp, hb1, by rw [this]; exact ho1, hB1⟩
  case round =>
    clear hb1 ho1 hB1
    obtain ⟨m, v', hmz, rfl, rfl, hbr, hor, hBr⟩ := hrel
    by_cases hpos : 0 < m
    · obtain ⟨m, rfl⟩ : ∃ m', m = m' + 1 := ⟨m - 1, by omega⟩
      obtain ⟨g, o, rfl, hg, hcell⟩ := hcell (by intro e; subst e; simp at hmz)
      have hgb : g < base := hL g o cl rfl (by intro e; subst e; simp at hmz)
      have c0 := (hBr.cell (p := ⟨g, o + m, none⟩) hgb).trans (hcell m (by omega))
      have HM := more_step zs xs.length m (by omega)
      have hzm : zs.getD m 0 = zs[m] := by simp [List.getD, show m < zs.length by omega]
      rw [hzm] at c0
      have hml := more_length zs xs.length (m + 1)
      have hlast : Hid (xs.length + (zs.length - (m + 1)) + 1 = xs.length + (zs.length - m)) := by unfold Hid; omega
      have hlen : Hid ((xs ++ more zs xs.length (m + 1)).length = xs.length + (zs.length - (m + 1)) + 1) := by unfold Hid; rw [List.length_append, hml]; omega
      have hll : xs.length + (zs.length - (m + 1)) ≤ 2097151 := by omega
      generalize xs.length + (zs.length - (m + 1)) = last at HM hlast hll hlen ⊢
      have HM' : Hid (xs ++ more zs xs.length m = (xs ++ more zs xs.length (m + 1)) ++ [pairN zs[m] last]) := by unfold Hid; rw [HM, List.append_assoc]
      clear HM hml hzm hcell
      generalize xs ++ more zs xs.length (m + 1) = LL at hor HM' hlen
      obtain ⟨aor, capr, rfl⟩ := own_form hor
      go_wp2_with fail
      refine (sadd_any b base aor capr LL (pairN zs[m] last) wr hbr hor (by have := hlen.out; omega) hbb).mono ?_
      rintro e w2 ⟨v2, rfl, hb2, ho2, hB2⟩
      have hB3 := hBr.trans hB2
      clear hbr hor hBr hB2 c0
      have ho3 : w2.ownsRow base 64 5 v2 (xs ++ more zs xs.length m).length (ncs (xs ++ more zs xs.length m)) := by rw [HM'.out]; exact ho2
      clear ho2
      rw [hlen.out]
      go_wp2
      go_roundw
      case rel => exact ⟨m, v2, by omega, by go_num, by rw [← hlast.out]; simp, hb2, ho3, hB3⟩
      case measure => (simp [intOf] <;> omega)
    · have hm0 : m = 0 := by omega
      subst hm0
      clear hcell
      go_wp2
      go_ret
      exact ⟨_, rfl, hbr, hor, hBr⟩
end Go.Proofs.YtmbomhcnmjhbnaaGreatDoor

/-
  Contracts of spec's l2Add and l2List once more: where the list is a row of the call's own.
-/
namespace Go.Proofs.YtmbomhcnmjhbnaaGreatDoor
open Go.RowKit

set_option maxHeartbeats 1600000 in
theorem sadd_more (b base : Nat) (ao : Option Addr) (cap : Nat) (xs : List Nd) (x : Nd) (w : World) (hb : w.heap[b]? = some (.cells #[.slice ao xs.length cap] 26 (0, 0))) (ho : w.ownsRow base 64 5 (.slice ao xs.length cap) xs.length (ncs xs))
    (hm : xs.length ≤ 2097152) (hbb : base ≤ b) :
    Calls Tryz.prog 62 #[.pointer (some ⟨b, 0, none⟩), .agg #[.int .i64 x.k, .int .i64 x.n, .string x.s, .int .i64 x.a, .int .i64 x.b]] w fun e w' =>
      ∃ v', e = .returned (.int .i64 xs.length) ∧ w'.heap[b]? = some (.cells #[v'] 26 (0, 0)) ∧ w'.ownsRow base 64 5 v' (xs ++ [x]).length (ncs (xs ++ [x])) ∧ Below base w w' ∧ (∀ k, k < w.heap.size → k ≠ b → (Value.slice ao xs.length cap).ownBlock ≠ some k → w'.heap[k]? = w.heap[k]?) := by
  obtain ⟨i0, hi, hz0, hz1, hz2⟩ := info_parts Tryz.infoN
  have hlt : b < w.heap.size := (Array.getElem?_eq_some_iff.1 hb).1
  have hcb : w.cell? ⟨b, 0, none⟩ = some (.slice ao xs.length cap) := by rw [cell_of_row w b 0 _ _ _ hb]; rfl
  have hne : b ≠ w.heap.size := by omega
  go_enter Tryz.func62, Tryz.ntmps62
  go_wp2_with fail
  go_region_law (refine step_append_lies _ rfl _ _ 24 rfl base 64 i0 _ 5 48 Tryz.underlying24 hi hz0 hz1 hz2 rfl (by decide) _ _ _ rfl ((ho.alloc _).alloc _) ⟨w.heap.size + 1, 0, none⟩ 1 1 (ncs [x]) rfl rfl (World.news_of_block (cs := #[.int .i64 x.k, .int .i64 x.n, .string x.s, .int .i64 x.a, .int .i64 x.b]) (t := 64) (fr := (0, 0)) (heap_alloc2_new w _ _)) (ncs_one _) (by omega) (by unfold maxLen; omega) (by omega) (by simp; omega) (w.heap.size + 2) (by simp) ?_; intro g capg w1 hown hgrow hat hgl; have hb1 : w1.heap[b]? = some (.cells #[.slice ao xs.length cap] 26 (0, 0)) := (hgrow.block b (by simp; omega) (fun e => own_ne ho hb (by decide) e.symm)).trans ((heap_alloc_old _ _ (by simp; omega)).trans ((heap_alloc_old _ _ hlt).trans hb)); have kb1 : w1.cell? ⟨b, 0, none⟩ = some (.slice ao xs.length cap) := cell_of_row w1 b 0 _ _ _ hb1; have fb1 : w1.frozen? ⟨b, 0, none⟩ = false := frozen_of_row w1 b 0 _ _ hb1)
  all_goals
    have hown2 : w1.ownsRow base 64 5 (.slice (some ⟨g, 0, none⟩) (xs.length + 1) capg) (xs ++ [x]).length (ncs (xs ++ [x])) := by
      rw [ncs_append, List.length_append]
      exact hown
    have hs0 : base ≤ w.heap.size := by omega
    have hB1 : Below base w w1 := (((Below.refl base w).alloc hs0 _).drew.alloc (by simp; omega) _).grown hgrow (by simp; omega) (fun k hk => (ho.lt k hk).1)
    have hB2 := hB1.setCell (p := ⟨b, 0, none⟩) hbb (.slice (some ⟨g, 0, none⟩) (xs.length + 1) capg)
    have ho2 := ownsRow_setCell_other hown2 (a := ⟨b, 0, none⟩) (own_ne hown2 hb1 (by decide)) (.slice (some ⟨g, 0, none⟩) (xs.length + 1) capg)
    have hb2 := heap_setCell_same w1 b 0 _ _ (.slice (some ⟨g, 0, none⟩) (xs.length + 1) capg) hb1
    have hk2 : ∀ k, k < w.heap.size → k ≠ b → (Value.slice ao xs.length cap).ownBlock ≠ some k → (w1.setCell ⟨b, 0, none⟩ (.slice (some ⟨g, 0, none⟩) (xs.length + 1) capg)).heap[k]? = w.heap[k]? := fun k hk hkb hko => by
      rw [heap_setCell_other w1 ⟨b, 0, none⟩ k _ (fun e => hkb e), hgrow.block k (by simp; omega) (fun e => hko e.symm)]
      exact (heap_alloc_old _ _ (by simp; omega)).trans (heap_alloc_old _ _ hk)
    clear hown hgrow hat hcb hb
    go_wp2
    go_ret
    exact ⟨_, by simp, hb2, ho2, hB2, hk2⟩

theorem own_same {w w' : World} {B k n : Nat} {e : TypeId} {v : Value} {l : List Value} (h : w.ownsRow B e k v n l) (hb : ∀ j, v.ownBlock = some j → w'.heap[j]? = w.heap[j]?) : w'.ownsRow B e k v n l := by
  refine ⟨h.1, ?_⟩
  rcases h.2 with ⟨rfl, h0⟩ | ⟨g, cap, cur, rfl, hB, hg, hr⟩
  · exact Or.inl ⟨rfl, h0⟩
  · exact Or.inr ⟨g, cap, cur, rfl, hB, (hb g rfl).trans hg, hr⟩

set_option maxRecDepth 100000 in
set_option maxHeartbeats 1600000 in
theorem slist_more (b base : Nat) (v vl : Value) (xs : List Nd) (zs : List Int) (w : World) (hb : w.heap[b]? = some (.cells #[v] 26 (0, 0))) (ho : w.ownsRow base 64 5 v xs.length (ncs xs)) (L : w.ownsRow base 3 1 vl zs.length (iv zs))
    (hm : xs.length ≤ 1048576) (hzl : zs.length ≤ 1048576) (hbb : base ≤ b) :
    Calls Tryz.prog 59 #[.pointer (some ⟨b, 0, none⟩), vl] w fun e w' =>
      ∃ v', e = .returned (.int .i64 ((xs.length + zs.length : Nat) : Int)) ∧ w'.heap[b]? = some (.cells #[v'] 26 (0, 0)) ∧ w'.ownsRow base 64 5 v' (xs ++ more zs xs.length 0).length (ncs (xs ++ more zs xs.length 0)) ∧ Below base w w' := by
  obtain ⟨ao, cap, rfl⟩ := own_form ho
  obtain ⟨al, cl, rfl⟩ := own_form L
  have keep : ∀ (w1 w2 : World) (V : Value) (n : Nat) (l : List Value), w1.heap[b]? = some (.cells #[V] 26 (0, 0)) → w1.ownsRow base 64 5 V n l → w1.ownsRow base 3 1 (.slice al zs.length cl) zs.length (iv zs) → (∀ k, k < w1.heap.size → k ≠ b → V.ownBlock ≠ some k → w2.heap[k]? = w1.heap[k]?) → w2.ownsRow base 3 1 (.slice al zs.length cl) zs.length (iv zs) := by
    intro w1 w2 V n l hb1 ho1 hL1 hk
    refine own_same hL1 (fun j hj => hk j (hL1.lt j hj).2 ?_ ?_)
    · intro e; subst e; exact own_ne hL1 hb1 (by decide) hj
    · intro e
      rcases own_apart hL1 ho1 (by decide) with h | h
      · rw [hj] at h; cases h
      · exact h (hj.trans e.symm)
  go_enter Tryz.func59, Tryz.ntmps59
  go_wp2_with fail
  refine (sadd_more b base ao cap xs nilN w hb ho (by omega) hbb).mono ?_
  rintro e w1 ⟨v1, rfl, hb1, ho1, hB1, hk1⟩
  have L1 := keep w w1 _ _ _ hb ho L hk1
  clear hb ho L hk1
  go_wp2_with fail
  go_loopw [5, 6] (fun l i wr => ∃ (m : Nat) (v' : Value), m ≤ zs.length ∧ i = .int .i64 ((m : Int) - 1) ∧ l = .int .i64 ((xs.length + (zs.length - m) : Nat) : Int) ∧ wr.heap[b]? = some (.cells #[v'] 26 (0, 0)) ∧ wr.ownsRow base 64 5 v' (xs ++ more zs xs.length m).length (ncs (xs ++ more zs xs.length m)) ∧ wr.ownsRow base 3 1 (.slice al zs.length cl) zs.length (iv zs) ∧ Below base w wr) (fun _ i _ => (intOf i + 1).toNat)
  case atStart =>
    have : more zs xs.length zs.length = [nilN] := by simp [more, pairsR]
    exact ⟨zs.length, v1, Nat.le_refl _, rfl, by simp, hb1, by rw [this]; exact ho1, L1, hB1⟩
  case round =>
    clear hb1 ho1 hB1 L1
    obtain ⟨m, v', hmz, rfl, rfl, hbr, hor, Lr, hBr⟩ := hrel
    by_cases hpos : 0 < m
    · obtain ⟨m, rfl⟩ : ∃ m', m = m' + 1 := ⟨m - 1, by omega⟩
      rcases Lr.2 with ⟨e1, h0⟩ | ⟨g, capB, cur, e1, hBb, _⟩
      · omega
      simp only [Value.slice.injEq, true_and] at e1
      obtain ⟨rfl, rfl⟩ := e1
      have c0 := Lr.cellAt m (by omega)
      rw [iv_get _ _ (by omega)] at c0
      have HM := more_step zs xs.length m (by omega)
      have hzm : zs.getD m 0 = zs[m] := by simp [List.getD, show m < zs.length by omega]
      rw [hzm] at c0
      have hml := more_length zs xs.length (m + 1)
      have hlast : Hid (xs.length + (zs.length - (m + 1)) + 1 = xs.length + (zs.length - m)) := by unfold Hid; omega
      have hlen : Hid ((xs ++ more zs xs.length (m + 1)).length = xs.length + (zs.length - (m + 1)) + 1) := by unfold Hid; rw [List.length_append, hml]; omega
      have hll : xs.length + (zs.length - (m + 1)) ≤ 2097151 := by omega
      generalize xs.length + (zs.length - (m + 1)) = last at HM hlast hll hlen ⊢
      have HM' : Hid (xs ++ more zs xs.length m = (xs ++ more zs xs.length (m + 1)) ++ [pairN zs[m] last]) := by unfold Hid; rw [HM, List.append_assoc]
      clear HM hml hzm
      generalize xs ++ more zs xs.length (m + 1) = LL at hor HM' hlen
      obtain ⟨aor, capr, rfl⟩ := own_form hor
      go_wp2_with fail
      refine (sadd_more b base aor capr LL (pairN zs[m] last) wr hbr hor (by have := hlen.out; omega) hbb).mono ?_
      rintro e w2 ⟨v2, rfl, hb2, ho2, hB2, hk2⟩
      have L2 := keep wr w2 _ _ _ hbr hor Lr hk2
      have hB3 := hBr.trans hB2
      clear hbr hor hBr hB2 c0 hk2 Lr
      have ho3 : w2.ownsRow base 64 5 v2 (xs ++ more zs xs.length m).length (ncs (xs ++ more zs xs.length m)) := by rw [HM'.out]; exact ho2
      clear ho2
      rw [hlen.out]
      go_wp2
      go_roundw
      case rel => exact ⟨m, v2, by omega, by go_num, by rw [← hlast.out]; simp, hb2, ho3, L2, hB3⟩
      case measure => (simp [intOf] <;> omega)
    · have hm0 : m = 0 := by omega
      subst hm0
      go_wp2
      go_ret
      exact ⟨_, rfl, hbr, hor, hBr⟩
end Go.Proofs.YtmbomhcnmjhbnaaGreatDoor
