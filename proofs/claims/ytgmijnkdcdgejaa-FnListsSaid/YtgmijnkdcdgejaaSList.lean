/-
  Contract of spec's l2List: a list behind the pool that a pointer leads to.
-/
import Derived.Test.YtgmijnkdcdgejaaSAdd
import Derived.Test.YtgmijnkdcdgejaaMkList
namespace Go.Proofs.Ytgmijnkdcdgejaa
open Go.RowKit

set_option maxRecDepth 100000 in
set_option maxHeartbeats 1600000 in
theorem slist_any (b base : Nat) (v vl : Value) (xs : List Nd) (zs : List Int) (w : World) (hb : w.heap[b]? = some (.cells #[v] 26 (0, 0))) (ho : w.ownsRow base 68 5 v xs.length (ncs xs)) (L : IRow w vl zs)
    (hL : ∀ g o cap, vl = .slice (some ⟨g, o, none⟩) zs.length cap → zs ≠ [] → g < base) (hm : xs.length ≤ 1048576) (hzl : zs.length ≤ 1048576) (hbb : base ≤ b) :
    Calls Try.prog 31 #[.pointer (some ⟨b, 0, none⟩), vl] w fun e w' =>
      ∃ v', e = .returned (.int .i64 ((xs.length + zs.length : Nat) : Int)) ∧ w'.heap[b]? = some (.cells #[v'] 26 (0, 0)) ∧ w'.ownsRow base 68 5 v' (xs ++ more zs xs.length 0).length (ncs (xs ++ more zs xs.length 0)) ∧ Below base w w' := by
  obtain ⟨ao, cap, rfl⟩ := own_form ho
  obtain ⟨al, cl, rfl, hcl, hlm, hcell⟩ := L
  go_enter Try.func31, Try.ntmps31
  go_wp2_with fail
  refine (sadd_any b base ao cap xs nilN w hb ho (by omega) hbb).mono ?_
  rintro e w1 ⟨v1, rfl, hb1, ho1, hB1⟩
  clear hb ho
  go_wp2_with fail
  go_loopw [5, 6] (fun l i wr => ∃ (m : Nat) (v' : Value), m ≤ zs.length ∧ i = .int .i64 ((m : Int) - 1) ∧ l = .int .i64 ((xs.length + (zs.length - m) : Nat) : Int) ∧ wr.heap[b]? = some (.cells #[v'] 26 (0, 0)) ∧ wr.ownsRow base 68 5 v' (xs ++ more zs xs.length m).length (ncs (xs ++ more zs xs.length m)) ∧ Below base w wr) (fun _ i _ => (intOf i + 1).toNat)
  case atStart =>
    have : more zs xs.length zs.length = [nilN] := by simp [more, pairsR]
    exact ⟨zs.length, v1, Nat.le_refl _, rfl, by simp, hb1, by rw [this]; exact ho1, hB1⟩
  case round =>
    clear hb1 ho1 hB1
    obtain ⟨m, v', hmz, rfl, rfl, hbr, hor, hBr⟩ := hrel
    by_cases hpos : 0 < m
    · obtain ⟨m, rfl⟩ : ∃ m', m = m' + 1 := ⟨m - 1, by omega⟩
      obtain ⟨g, o, rfl, hg, hcell⟩ := hcell (by intro e; subst e; simp at hmz)
      have hgb : g < base := hL g o cl rfl (by intro e; subst e; simp at hmz)
      have c0 := (hBr.cell (p := ⟨g, o + m, none⟩) hgb).trans (hcell m (by omega))
      have HM := more_step zs xs.length m (by omega)
      have hzm : zs.getD m 0 = zs[m] := by simp [List.getD, show m < zs.length by omega]
      rw [hzm] at c0
      have hml := more_length zs xs.length (m + 1)
      have hlast : Hid (xs.length + (zs.length - (m + 1)) + 1 = xs.length + (zs.length - m)) := by unfold Hid; omega
      have hlen : Hid ((xs ++ more zs xs.length (m + 1)).length = xs.length + (zs.length - (m + 1)) + 1) := by unfold Hid; rw [List.length_append, hml]; omega
      have hll : xs.length + (zs.length - (m + 1)) ≤ 2097151 := by omega
      generalize xs.length + (zs.length - (m + 1)) = last at HM hlast hll hlen ⊢
      have HM' : Hid (xs ++ more zs xs.length m = (xs ++ more zs xs.length (m + 1)) ++ [pairN zs[m] last]) := by unfold Hid; rw [HM, List.append_assoc]
      clear HM hml hzm hcell
      generalize xs ++ more zs xs.length (m + 1) = LL at hor HM' hlen
      obtain ⟨aor, capr, rfl⟩ := own_form hor
      go_wp2_with fail
      refine (sadd_any b base aor capr LL (pairN zs[m] last) wr hbr hor (by have := hlen.out; omega) hbb).mono ?_
      rintro e w2 ⟨v2, rfl, hb2, ho2, hB2⟩
      have hB3 := hBr.trans hB2
      clear hbr hor hBr hB2 c0
      have ho3 : w2.ownsRow base 68 5 v2 (xs ++ more zs xs.length m).length (ncs (xs ++ more zs xs.length m)) := by rw [HM'.out]; exact ho2
      clear ho2
      rw [hlen.out]
      go_wp2
      go_roundw
      case rel => exact ⟨m, v2, by omega, by go_num, by rw [← hlast.out]; simp, hb2, ho3, hB3⟩
      case measure => (simp [intOf] <;> omega)
    · have hm0 : m = 0 := by omega
      subst hm0
      clear hcell
      go_wp2
      go_ret
      exact ⟨_, rfl, hbr, hor, hBr⟩
end Go.Proofs.Ytgmijnkdcdgejaa
