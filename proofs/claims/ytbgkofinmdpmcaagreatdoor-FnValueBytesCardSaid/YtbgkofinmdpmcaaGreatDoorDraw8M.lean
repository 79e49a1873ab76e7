/-
  Contracts of the draws of pools: l2DrawRight, l2Draw: some pool of the call's own, and nothing turned but the cursor.
-/
import Derived.Test.YtbgkofinmdpmcaaGreatDoorDraw7M
import Derived.Test.YtbgkofinmdpmcaaGreatDoorSAddM
import Derived.Deep.CutRange
namespace Go.Proofs.YtbgkofinmdpmcaaGreatDoor
open Go.RowKit

theorem own_not {w : World} {base k : Nat} {e : TypeId} {v : Value} {n : Nat} {xs : List Value} (h : w.ownsRow base e k v n xs) {P : Nat} (hP : P < base) : v.ownBlock = none ∨ v.ownBlock ≠ some P := by
  cases hv : v.ownBlock with
  | none => exact Or.inl rfl
  | some k => right; intro e; have := (h.lt k hv).1; simp at e; omega
/-- A variable of the type Pool that holds the nodes xs, in a row of the call's own. -/
def PV (w : World) (b base : Nat) (xs : List Nd) : Prop := ∃ v', w.heap[b]? = some (.cells #[v'] 26 (0, 0)) ∧ w.ownsRow base 64 5 v' xs.length (ncs xs)
theorem PV.lt {w : World} {b base : Nat} {xs : List Nd} (h : PV w b base xs) : b < w.heap.size := by obtain ⟨_, h, _⟩ := h; exact (Array.getElem?_eq_some_iff.1 h).1
theorem PV.kept {w w' : World} {b base P : Nat} {xs : List Nd} (h : PV w b base xs) (hg : w.grownBy w' (some P)) (hP : P < base) (hb : P ≠ b) : PV w' b base xs := by
  obtain ⟨v', h1, h2⟩ := h
  exact ⟨v', (hg.block b (Array.getElem?_eq_some_iff.1 h1).1 (by simpa using fun e => hb e.symm)).trans h1, h2.kept hg (own_not h2 hP)⟩
theorem PV.alloc {w : World} {b base : Nat} {xs : List Nd} (h : PV w b base xs) (o : Obj) : PV (w.alloc o) b base xs := by
  obtain ⟨v', h1, h2⟩ := h
  exact ⟨v', (heap_alloc_old _ _ (Array.getElem?_eq_some_iff.1 h1).1).trans h1, h2.alloc _⟩

set_option maxHeartbeats 1600000 in
theorem dright_any (w0 : World) (v : Value) (zs : List Int) (w : World) (P : Nat) (c : Cur w0 v zs w P) :
    Calls Tryz.prog 30 #[.pointer (some ⟨P, 0, none⟩)] w fun e w' => ∃ (v' : Value) (xs : List Nd), e = .returned (.agg #[v']) ∧ xs.length ≤ 15 ∧ (∀ x ∈ xs, x.s.size ≤ 40) ∧ w'.ownsRow w.heap.size 64 5 v' xs.length (ncs xs) ∧ Cur w0 v zs w' P ∧ w.grownBy w' (some P) := by
  have hP := c.lt
  have hB0 : Below w.heap.size w ((w.alloc (.cells #[.slice none 0 0] 26)).alloc (.cells #[.slice none 0 0] 26)) := ((Below.refl _ _).alloc (Nat.le_refl _) _).alloc (by simp) _
  have c0 := c.kept (hB0.mono (show P + 1 ≤ w.heap.size by omega))
  go_enter Tryz.func30, Tryz.ntmps30
  go_wp2_with fail
  refine (below_any w0 v zs _ P 16 c0 (by omega)).mono ?_
  rintro e w1 ⟨n, rfl, hn0, hn1, c1, g1⟩
  have hn := hn1 (by omega)
  obtain ⟨n, rfl⟩ := Int.eq_ofNat_of_zero_le hn0
  have hr1 : w1.heap[w.heap.size]? = some (.cells #[.slice none 0 0] 26 (0, 0)) := (g1.block _ (by simp; omega) (by simp; omega)).trans ((heap_alloc_old _ _ (by simp)).trans (heap_alloc_new _ _))
  have hb1 : w1.heap[w.heap.size + 1]? = some (.cells #[.slice none 0 0] 26 (0, 0)) := (g1.block _ (by simp) (by simp; omega)).trans (heap_alloc2_new _ _ _)
  have g1' := draw_step hB0 g1
  clear hB0 g1 hn1 c0
  go_wp2_with fail
  go_loopw [5] (fun i wr => ∃ (xs : List Nd), xs.length ≤ n ∧ i = .int .i64 xs.length ∧ Hid (∀ x ∈ xs, x.s.size ≤ 40) ∧ wr.heap[w.heap.size]? = some (.cells #[.slice none 0 0] 26 (0, 0)) ∧ PV wr (w.heap.size + 1) (w.heap.size + 1) xs ∧ Cur w0 v zs wr P ∧ w.grownBy wr (some P)) (fun i _ => n - (intOf i).toNat)
  case atStart => exact ⟨[], by simp, rfl, by simp [Hid], hr1, ⟨_, hb1, World.ownsRow_nil w1 _ 64 5⟩, c1, g1'⟩
  case round =>
    clear hr1 hb1 c1 g1'
    obtain ⟨xs, hx, rfl, HZ, hr, hpv, cc, gg⟩ := hrel
    by_cases hlt : xs.length < n
    · go_wp2_with fail
      refine (dnode_any w0 v zs wr P xs.length cc (by omega)).mono ?_
      rintro e w3 ⟨x, rfl, hx40, c3, g3⟩
      have hpv3 := hpv.kept g3 (by omega) (by omega)
      have hr3 := (g3.block _ (Array.getElem?_eq_some_iff.1 hr).1 (by simp; omega)).trans hr
      have gg3 := grown_trans gg g3
      obtain ⟨v3, hb3, ho3⟩ := hpv3
      obtain ⟨a3, q3, rfl⟩ := own_form ho3
      clear hpv g3 gg cc hr
      rw [ndV]
      go_wp2_with fail
      refine (sadd_any (w.heap.size + 1) (w.heap.size + 1) a3 q3 xs x w3 hb3 ho3 (by omega) (Nat.le_refl _)).mono ?_
      rintro e w4 ⟨v4, rfl, hb4, ho4, hB4⟩
      obtain ⟨c5, g5⟩ := draw_done c3 gg3 (hB4.mono (Nat.le_succ _)) hP
      have hr5 := (hB4.block w.heap.size (by omega)).trans hr3
      clear hb3 ho3 hB4 c3 gg3 hr3
      go_wp2_with fail
      go_roundw
      case rel =>
        refine ⟨xs ++ [x], by simp; omega, by simp, ?_, hr5, ⟨_, hb4, ho4⟩, c5, g5⟩
        intro z hz
        simp only [List.mem_append, List.mem_singleton] at hz
        rcases hz with hz | rfl
        · exact HZ.out z hz
        · exact hx40
      case measure => simp [intOf]; omega
    · obtain ⟨v3, hb3, ho3⟩ := hpv
      obtain ⟨a3, q3, rfl⟩ := own_form ho3
      have hc3 : wr.cell? ⟨w.heap.size + 1, 0, none⟩ = some (.slice a3 xs.length q3) := by rw [cell_of_row wr _ 0 _ _ _ hb3]; rfl
      have hd3 : wr.cell? ⟨w.heap.size, 0, none⟩ = some (.slice none 0 0) := by rw [cell_of_row wr _ 0 _ _ _ hr]; rfl
      have hf3 : wr.frozen? ⟨w.heap.size, 0, none⟩ = false := frozen_of_row wr _ 0 _ _ hr
      obtain ⟨p1, p2, p3⟩ := put_pool hr ho3 (Below.refl w.heap.size wr) (by omega) (Nat.le_refl _)
      obtain ⟨c5, g5⟩ := draw_done cc gg p3 hP
      go_wp2_with fail
      refine bodyPost_ret (results_cell_row rfl _ _ w.heap.size 26 _ (0, 0) _ rfl p1 Tryz.underlying26 rfl Tryz.sizeP) rfl ⟨_, xs, rfl, by omega, HZ.out, p2, c5, g5⟩
end Go.Proofs.YtbgkofinmdpmcaaGreatDoor
