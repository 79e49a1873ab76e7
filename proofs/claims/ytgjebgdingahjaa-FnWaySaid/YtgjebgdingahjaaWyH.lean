/-
  Contracts of the laws' at and digits (of numbers below 100). No condition.
-/
import Derived.Test.YtgjebgdingahjaaWayM
import Derived.Test.YtgjebgdingahjaaBs
namespace Go.Proofs.Ytgjebgdingahjaa
open Go.RowKit

set_option maxHeartbeats 800000 in
theorem lat_any (v : Value) (zs : List Int) (i : Nat) (w : World) (R : Row w v zs) (hi : i < 40) (hl : zs.length ≤ 1048576) :
    Calls Try.prog 6 #[v, .int .i64 i] w fun e w' => (∃ x : Nat, e = .returned (.int .i64 x) ∧ x ≤ 255) ∧ w' = w := by
  obtain ⟨ao, cap, rfl, hcap, hm, hz, hcell⟩ := R
  by_cases h : i < zs.length
  · obtain ⟨g, o, rfl, hg, hcell⟩ := hcell (by intro e; subst e; simp at h)
    have c0 := hcell i h
    have hzi := hz (zs.getD i 0) (by rw [List.getD_eq_getElem?_getD, List.getElem?_eq_getElem h]; exact List.getElem_mem h)
    obtain ⟨z, hz'⟩ : ∃ z : Nat, zs.getD i 0 = z := ⟨(zs.getD i 0).toNat, by omega⟩
    rw [hz'] at c0 hzi
    have hI : (i : Int) < (zs.length : Int) := by omega
    clear hcell
    go_enter Try.func6, Try.ntmps6
    go_wp2
    go_ret
    exact ⟨⟨z, rfl, by omega⟩, rfl⟩
  · have hI : ¬ (i : Int) < (zs.length : Int) := by omega
    go_enter Try.func6, Try.ntmps6
    go_wp2
    go_ret
    refine ⟨⟨(((i : Int) * 7 + (zs.length : Int)) % 256).toNat, ?_, by omega⟩, rfl⟩
    congr 2

/-- How a law writes a number below 100. -/
def dg (n : Nat) : ByteArray := if n < 10 then strOfNums [48 + (n : Int)] else strOfNums [48 + ((n / 10 : Nat) : Int)] ++ strOfNums [48 + ((n % 10 : Nat) : Int)]

set_option maxHeartbeats 1600000 in
theorem ldigits_one (n : Nat) (w : World) (hn : n < 10) :
    Calls Try.prog 7 #[.int .i64 n] w fun e w' => e = .returned (.string (strOfNums [48 + (n : Int)])) ∧ Below w.heap.size w w' := by
  have hx := heap_alloc_new w (Obj.cells #[.int .u8 (48 + (n : Int))] 5)
  have hB := (Below.refl w.heap.size w).alloc (Nat.le_refl _) (Obj.cells #[.int .u8 (48 + (n : Int))] 5)
  have c0 : (w.alloc (Obj.cells #[.int .u8 (48 + (n : Int))] 5)).cell? ⟨w.heap.size, 0, none⟩ = some (.int .u8 (48 + (n : Int))) := cell_of_row _ _ 0 _ _ _ hx
  have hc : 1 ≠ 0 → ∃ g o', (some ⟨w.heap.size, 0, none⟩ : Option Addr) = some ⟨g, o', none⟩ ∧ ∀ i, i < 1 → (w.alloc (Obj.cells #[.int .u8 (48 + (n : Int))] 5)).cell? ⟨g, o' + i, none⟩ = some (.int .u8 (([48 + (n : Int)] : List Int).getD i 0)) := by
    intro _
    refine ⟨w.heap.size, 0, rfl, fun i hi => ?_⟩
    obtain rfl : i = 0 := by omega
    exact c0
  have h1 : ¬ (n : Int) < 0 := by omega
  have h2 : (n : Int) < 10 := by omega
  go_enter Try.func7, Try.ntmps7
  go_wp2_with (refine wpList_bytes_text _ rfl _ 22 9 5 rfl Try.underlying22 Try.underlying9 Try.underlying5 _ _ _ [48 + (n : Int)] rfl rfl hc ?_)
  go_wp2
  go_ret
  exact ⟨rfl, hB⟩
end Go.Proofs.Ytgjebgdingahjaa
