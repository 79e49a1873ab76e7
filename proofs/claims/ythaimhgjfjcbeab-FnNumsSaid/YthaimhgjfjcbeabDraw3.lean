/-
  Contracts of what the law FnNums draws: DrawPutNum gives an int; l1DrawBytes new bytes; DrawPutText a text of at most 40 bytes.
-/
import Derived.Test.YthaimhgjfjcbeabDraw2
import Derived.Test.YthaimhgjfjcbeabGText
namespace Go.Proofs.Ythaimhgjfjcbeab
open Go.RowKit

theorem ownNot {w w0 : World} {base : Nat} {e : TypeId} {v : Value} {n : Nat} {xs : List Value} (h : w.ownsRow base e 1 v n xs) (P : Nat) (hP : P < base) (_ : w0.heap.size ≤ P) : v.ownBlock = none ∨ v.ownBlock ≠ some P := by
  cases hv : v.ownBlock with
  | none => exact Or.inl rfl
  | some k => right; intro e; have := (h.lt k hv).1; simp at e; omega

set_option maxHeartbeats 800000 in
theorem draw_any (w0 : World) (v : Value) (zs : List Int) (w : World) (P : Nat) (most : Int) (c : Cur w0 v zs w P) (h0 : 0 ≤ most) (h1 : most ≤ 1048576) :
    Calls Try.prog 17 #[.pointer (some ⟨P, 0, none⟩), .int .i64 most] w fun e w' => ∃ (v' : Value) (acc : List Int), e = .returned v' ∧ acc.length ≤ most ∧ (∀ z ∈ acc, 0 ≤ z ∧ z ≤ 255) ∧
      w'.ownsRow w.heap.size 5 1 v' acc.length (bv acc) ∧ Cur w0 v zs w' P ∧ w.grownBy w' (some P) := by
  obtain ⟨i0, hi, hz0, hz1, hz2⟩ := info_parts Try.infoU8
  have hP := c.lt
  have hle : w0.heap.size ≤ P := c.2.2.1
  go_enter Try.func17, Try.ntmps17
  go_wp2_with fail
  have c1 : Cur w0 v zs (w.alloc (Obj.cells #[] 5)) P := c.kept ((Below.refl _ _).alloc (by omega) _)
  refine (below_any w0 v zs _ P (most + 1) c1 (by omega)).mono ?_
  rintro e w2 ⟨n, rfl, hn0, hn1, c2, g2⟩
  have hn : n ≤ most := by have := hn1 (by omega); omega
  obtain ⟨n, rfl⟩ := Int.eq_ofNat_of_zero_le hn0
  have own2 : w2.ownsRow w.heap.size 5 1 (.slice (some ⟨w.heap.size, 0, none⟩) 0 0) 0 (bv []) :=
    (World.ownsRow_made w #[] 0 (Nat.le_refl _) (by simp) (by simp)).kept g2 (by right; simp [Value.ownBlock]; omega)
  have gg2 : w.grownBy w2 (some P) := grown_trans (World.grownBy_alloc w _ _) g2
  clear c1 g2 hn1
  go_wp2_with fail
  go_loopw [5, 7] (fun s i wr => ∃ (acc : List Int), acc.length ≤ n ∧ i = .int .i64 acc.length ∧ Hid (∀ z ∈ acc, 0 ≤ z ∧ z ≤ 255) ∧ wr.ownsRow w.heap.size 5 1 s acc.length (bv acc) ∧ Cur w0 v zs wr P ∧ w.grownBy wr (some P)) (fun _ i _ => n - (intOf i).toNat)
  case atStart => exact ⟨[], by simp, rfl, by simp [Hid], own2, c2, gg2⟩
  case round =>
    clear own2 c2 gg2
    obtain ⟨acc, hacc, rfl, HZ, own, cc, gg⟩ := hrel
    by_cases hlt : acc.length < n
    · go_wp2_with fail
      refine (byte_any w0 v zs wr P cc).mono ?_
      rintro e w3 ⟨x, rfl, hx0, hx1, c3, g3⟩
      have own3 := own.kept g3 (ownNot own P hP hle)
      have gg3 := grown_trans gg g3
      have hsz := gg3.size
      clear own cc gg g3
      go_wp2_with (at_builtin; refine wpList_append_own _ rfl _ _ 22 rfl w.heap.size 5 i0 (.int .u8 0) 1 1 Try.underlying22 hi hz0 hz1 hz2 rfl (by decide) _ _ _ rfl (own3.alloc _) ⟨w3.heap.size, 0, none⟩ 1 1 [.int .u8 x] rfl rfl (cell_one_new _ _ _) (fun u hu => by simp at hu; subst hu; rfl) (by unfold maxLen; omega) (by omega) (by simp; omega) ?_)
      intro v' w4 own4 g4 _
      go_wp2_with fail
      go_roundw
      case rel =>
        have hb4 : ∀ k, k < w.heap.size → w4.heap[k]? = w3.heap[k]? := fun k hk => by
          rw [g4.block k (by simp; omega) (fun e => by have := (own3.lt k e.symm).1; omega)]
          exact Below.heap_alloc _ _ _ (by omega)
        have bel4 : Below (P + 1) w3 w4 := ⟨g4.os, g4.tape, g4.output, by have := g4.size; simp at this; omega, fun k hk => hb4 k (by omega)⟩
        refine ⟨acc ++ [x], by simp; omega, by simp, ?_, ?_, c3.kept bel4, ?_⟩
        · intro z hz; simp only [List.mem_append, List.mem_singleton] at hz
          rcases hz with hz | rfl
          · exact HZ.out z hz
          · exact ⟨hx0, hx1⟩
        · rw [bv_append]; simpa [bv] using own4
        · exact ⟨g4.os.trans gg3.os, g4.tape.trans gg3.tape, g4.output.trans gg3.output, by have := g4.size; simp at this; omega, fun k hk hne => (hb4 k hk).trans (gg3.block k hk hne)⟩
      case measure => simp [intOf]; omega
    · go_wp2_with fail
      go_ret
      exact ⟨_, acc, rfl, by omega, HZ.out, own, cc, gg⟩

end Go.Proofs.Ythaimhgjfjcbeab
