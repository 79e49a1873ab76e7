/-
  Contracts of the draws' own helpers: l1New, l1Below, l1Size: a cursor; a number below another one; a size.
-/
import Derived.Test.YtkhokfkcicaojaaDraw
namespace Go.Proofs.Ytkhokfkcicaojaa
open Go.RowKit

set_option maxRecDepth 100000 in
set_option maxHeartbeats 800000 in
theorem new_any (v : Value) (zs : List Int) (w : World) (R : Row w v zs) (hl : zs.length ≤ 1048576) :
    Calls Try.prog 17 #[v] w fun e w' => e = .returned (.pointer (some ⟨w.heap.size, 0, none⟩)) ∧ Cur w v zs w' w.heap.size ∧ Below w.heap.size w w' := by
  have R' := R
  obtain ⟨ao, cap, rfl, hcap, hm, hz, hcell⟩ := R'
  go_enter Try.func17, Try.ntmps17
  go_wp2
  go_loop [3, 4] (fun h i => ∃ (k : Nat) (q : Int), k ≤ zs.length ∧ i = .int .i64 k ∧ h = .int .i64 q ∧ 0 ≤ q ∧ q ≤ 1073741823) (fun _ i => zs.length - (intOf i).toNat)
  case atStart => exact ⟨0, 17000 + (zs.length : Int), by omega, rfl, rfl, by omega, by omega⟩
  case round =>
    obtain ⟨k, q, hk, rfl, rfl, hq0, hq1⟩ := hrel
    by_cases hlt : k < zs.length
    · by_cases h4 : k < 4000
      · obtain ⟨g, o, hao, hg, hcell2⟩ := hcell (by intro e; subst e; simp at hlt)
        subst hao
        have hc := hcell2 k hlt
        have hzb := hz zs[k] (List.getElem_mem _)
        clear hcell hcell2 hz R
        go_wp2
        have ha := and30 (q * 131 + zs[k] + 7)
        go_round
        case rel => exact ⟨k + 1, _, by omega, by go_num, rfl, ha.1, ha.2⟩
        case measure => simp [intOf]; omega
      · clear hcell hz
        go_wp2
        go_ret
        refine ⟨rfl, ⟨R, (Below.refl _ _).alloc (Nat.le_refl _) _, Nat.le_refl _, 0, q, by omega, by omega, by omega, heap_alloc_new w _⟩, (Below.refl _ _).alloc (Nat.le_refl _) _⟩
    · clear hcell hz
      go_wp2
      go_ret
      refine ⟨rfl, ⟨R, (Below.refl _ _).alloc (Nat.le_refl _) _, Nat.le_refl _, 0, q, by omega, by omega, by omega, heap_alloc_new w _⟩, (Below.refl _ _).alloc (Nat.le_refl _) _⟩

set_option maxHeartbeats 800000 in
theorem below_any (w0 : World) (v : Value) (zs : List Int) (w : World) (P : Nat) (n : Int) (c : Cur w0 v zs w P) (hn : n ≤ 9223372036854775807) :
    Calls Try.prog 19 #[.pointer (some ⟨P, 0, none⟩), .int .i64 n] w fun e w' => ∃ x : Int, e = .returned (.int .i64 x) ∧ 0 ≤ x ∧ (1 ≤ n → x < n) ∧ Cur w0 v zs w' P ∧ w.grownBy w' (some P) := by
  by_cases h0 : n ≤ 0
  · go_enter Try.func19, Try.ntmps19
    go_wp2
    go_ret
    exact ⟨0, rfl, by omega, by omega, c, World.grownBy.refl _ _⟩
  · by_cases h1 : n ≤ 256
    · go_enter Try.func19, Try.ntmps19
      go_wp2_with fail
      refine (byte_any w0 v zs w P c).mono ?_
      rintro e w1 ⟨x, rfl, hx0, hx1, c1, g1⟩
      go_wp2_with fail
      go_ret
      exact ⟨_, rfl, Int.emod_nonneg _ (by omega), fun _ => Int.emod_lt_of_pos _ (by omega), c1, g1⟩
    · go_enter Try.func19, Try.ntmps19
      go_wp2_with fail
      refine (byte_any w0 v zs w P c).mono ?_
      rintro e w1 ⟨x, rfl, hx0, hx1, c1, g1⟩
      go_wp2_with fail
      refine (byte_any w0 v zs w1 P c1).mono ?_
      rintro e w2 ⟨y, rfl, hy0, hy1, c2, g2⟩
      go_wp2_with fail
      refine (byte_any w0 v zs w2 P c2).mono ?_
      rintro e w3 ⟨z, rfl, hz0, hz1, c3, g3⟩
      go_wp2_with fail
      refine (byte_any w0 v zs w3 P c3).mono ?_
      rintro e w4 ⟨u, rfl, hu0, hu1, c4, g4⟩
      go_wp2_with fail
      go_ret
      exact ⟨_, rfl, Int.emod_nonneg _ (by omega), fun _ => Int.emod_lt_of_pos _ (by omega), c4, grown_trans (grown_trans (grown_trans g1 g2) g3) g4⟩

end Go.Proofs.Ytkhokfkcicaojaa
