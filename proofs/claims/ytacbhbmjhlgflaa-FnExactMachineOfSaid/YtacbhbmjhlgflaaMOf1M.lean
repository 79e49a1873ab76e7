/-
  Contracts of impl's (*registers).add, addList (of no value) and begin (of no value). No condition but bounds.
-/
import Derived.Test.YtacbhbmjhlgflaaMkListM
namespace Go.Proofs.Ytacbhbmjhlgflaa
open Go.RowKit

set_option maxRecDepth 100000 in
set_option maxHeartbeats 1600000 in
theorem radd_any (b base : Nat) (ao : Option Addr) (cap : Nat) (xs : List Nd) (x : Nd) (p s e d : Int) (w : World) (hb : w.heap[b]? = some (.cells #[.slice ao xs.length cap, .int .i64 p, .int .i64 s, .int .i64 e, .int .i64 d] 81 (0, 0))) (ho : w.ownsRow base 63 5 (.slice ao xs.length cap) xs.length (ncs xs))
    (hm : xs.length ≤ 2097152) (hbb : base ≤ b) :
    Calls Try.prog 78 #[.pointer (some ⟨b, 0, none⟩), .agg #[.int .i64 x.k, .int .i64 x.n, .string x.s, .int .i64 x.a, .int .i64 x.b]] w fun en w' =>
      ∃ v', en = .returned (.int .i64 xs.length) ∧ w'.heap[b]? = some (.cells #[v', .int .i64 p, .int .i64 s, .int .i64 e, .int .i64 d] 81 (0, 0)) ∧ w'.ownsRow base 63 5 v' (xs ++ [x]).length (ncs (xs ++ [x])) ∧ Below base w w' := by
  obtain ⟨i0, hi, hz0, hz1, hz2⟩ := info_parts Try.infoN
  have hlt : b < w.heap.size := (Array.getElem?_eq_some_iff.1 hb).1
  have hcb : w.cell? ⟨b, 0, none⟩ = some (.slice ao xs.length cap) := by rw [cell_of_row w b 0 _ _ _ hb]; rfl
  have hne : b ≠ w.heap.size := by omega
  go_enter Try.func78, Try.ntmps78
  go_wp2_with fail
  go_region_law (refine step_append_lies _ rfl _ _ 31 rfl base 63 i0 _ 5 48 Try.underlying31 hi hz0 hz1 hz2 rfl (by decide) _ _ _ rfl ((ho.alloc _).alloc _) ⟨w.heap.size + 1, 0, none⟩ 1 1 (ncs [x]) rfl rfl (World.news_of_block (cs := #[.int .i64 x.k, .int .i64 x.n, .string x.s, .int .i64 x.a, .int .i64 x.b]) (t := 63) (fr := (0, 0)) (heap_alloc2_new w _ _)) (ncs_one _) (by omega) (by unfold maxLen; omega) (by omega) (by simp; omega) (w.heap.size + 2) (by simp) ?_; intro g capg w1 hown hgrow hat hgl; have hb1 : w1.heap[b]? = some (.cells #[.slice ao xs.length cap, .int .i64 p, .int .i64 s, .int .i64 e, .int .i64 d] 81 (0, 0)) := (hgrow.block b (by simp; omega) (fun e => own_ne ho hb (by decide) e.symm)).trans ((heap_alloc_old _ _ (by simp; omega)).trans ((heap_alloc_old _ _ hlt).trans hb)); have kb1 : w1.cell? ⟨b, 0, none⟩ = some (.slice ao xs.length cap) := cell_of_row w1 b 0 _ _ _ hb1; have fb1 : w1.frozen? ⟨b, 0, none⟩ = false := frozen_of_row w1 b 0 _ _ hb1)
  all_goals
    have hown2 : w1.ownsRow base 63 5 (.slice (some ⟨g, 0, none⟩) (xs.length + 1) capg) (xs ++ [x]).length (ncs (xs ++ [x])) := by
      rw [ncs_append, List.length_append]
      exact hown
    have hs0 : base ≤ w.heap.size := by omega
    have hB1 : Below base w w1 := (((Below.refl base w).alloc hs0 _).drew.alloc (by simp; omega) _).grown hgrow (by simp; omega) (fun k hk => (ho.lt k hk).1)
    have hB2 := hB1.setCell (p := ⟨b, 0, none⟩) hbb (.slice (some ⟨g, 0, none⟩) (xs.length + 1) capg)
    have ho2 := ownsRow_setCell_other hown2 (a := ⟨b, 0, none⟩) (own_ne hown2 hb1 (by decide)) (.slice (some ⟨g, 0, none⟩) (xs.length + 1) capg)
    have hb2 := heap_setCell_same w1 b 0 _ _ (.slice (some ⟨g, 0, none⟩) (xs.length + 1) capg) hb1
    clear hown hgrow hat hcb hb
    go_wp2
    go_ret
    exact ⟨_, by simp, hb2, ho2, hB2⟩

theorem own_newsN {w : World} {base g cap : Nat} {xs : List Nd} (h : w.ownsRow base 63 5 (.slice (some ⟨g, 0, none⟩) xs.length cap) xs.length (ncs xs)) : ∀ (j : Nat) u, (ncs xs)[j]? = some u → w.cell? ((⟨g, 0, none⟩ : Addr).add j) = some u := by
  intro j u hu
  have hj := (List.getElem?_eq_some_iff.1 hu).1
  rw [ncs_length] at hj
  have := h.cellAt j (by omega)
  have hadd : (⟨g, 0, none⟩ : Addr).add j = ⟨g, j, none⟩ := by unfold Addr.add; split <;> simp_all
  rw [hadd, this]
  exact hu

set_option maxRecDepth 100000 in
set_option maxHeartbeats 1600000 in
theorem raddnil_any (b base : Nat) (ao : Option Addr) (cap : Nat) (xs : List Nd) (p s e d : Int) (w : World) (hb : w.heap[b]? = some (.cells #[.slice ao xs.length cap, .int .i64 p, .int .i64 s, .int .i64 e, .int .i64 d] 81 (0, 0))) (ho : w.ownsRow base 63 5 (.slice ao xs.length cap) xs.length (ncs xs))
    (hm : xs.length ≤ 1000000) (hbb : base ≤ b) :
    Calls Try.prog 79 #[.pointer (some ⟨b, 0, none⟩), .slice none 0 0] w fun en w' =>
      ∃ v', en = .returned (.int .i64 xs.length) ∧ w'.heap[b]? = some (.cells #[v', .int .i64 p, .int .i64 s, .int .i64 e, .int .i64 d] 81 (0, 0)) ∧ w'.ownsRow base 63 5 v' (xs ++ [nilN]).length (ncs (xs ++ [nilN])) ∧ Below base w w' := by
  obtain ⟨i0, hi, hz0, hz1, hz2⟩ := info_parts Try.infoN
  have hlt : b < w.heap.size := (Array.getElem?_eq_some_iff.1 hb).1
  have hcb : w.cell? ⟨b, 0, none⟩ = some (.slice ao xs.length cap) := by rw [cell_of_row w b 0 _ _ _ hb]; rfl
  have hL : ∀ w : World, IRow w (.slice none 0 0) [] := fun _ => ⟨none, 0, rfl, by simp, by simp, fun h => absurd rfl h⟩
  have hmore : more [] xs.length 0 = [nilN] := rfl
  go_enter Try.func79, Try.ntmps79
  go_wp2_with fail
  go_region_law (first
    | (refine step_append_lies _ rfl _ _ 31 rfl base 63 i0 _ 5 48 Try.underlying31 hi hz0 hz1 hz2 rfl (by decide) _ _ _ rfl hox ⟨g2, 0, none⟩ 1 c2 (ncs [nilN]) rfl rfl hnews (ncs_one _) (by omega) (by unfold maxLen; omega) (by omega) (by omega) w2.heap.size rfl ?_
       intro g capg w1 hown hgrow hat hgl
       have hb1 : w1.heap[b]? = some (.cells #[.slice ao xs.length cap, .int .i64 p, .int .i64 s, .int .i64 e, .int .i64 d] 81 (0, 0)) := (hgrow.block b (by omega) (fun e => own_ne ho hb (by decide) e.symm)).trans hb2
       have kb1 : w1.cell? ⟨b, 0, none⟩ = some (.slice ao xs.length cap) := cell_of_row w1 b 0 _ _ _ hb1
       have fb1 : w1.frozen? ⟨b, 0, none⟩ = false := frozen_of_row w1 b 0 _ _ hb1)
    | (go_simp; go_at_call 98; refine (listnodes_any xs.length _ [] _ (hL _) (by omega) (by simp)).mono ?_
       rintro e2 w2 ⟨v2, rfl, ho2, hbl⟩
       have hd2 : Below w.heap.size w w2 := (by first | exact (Below.refl _ _).drew.trans hbl | exact hbl)
       rw [hmore] at ho2
       obtain ⟨g2, c2, rfl, _, _⟩ := ho2.form (by simp)
       have hnews := own_newsN ho2
       have hb2 := (hd2.block b hlt).trans hb
       have hcb2 : w2.cell? ⟨b, 0, none⟩ = some (.slice ao xs.length cap) := by rw [cell_of_row w2 b 0 _ _ _ hb2]; rfl
       have hox := own_below ho hd2
       have hs2 := hd2.size))
  all_goals
    have hown2 : w1.ownsRow base 63 5 (.slice (some ⟨g, 0, none⟩) (xs.length + 1) capg) (xs ++ [nilN]).length (ncs (xs ++ [nilN])) := by
      rw [ncs_append, List.length_append]
      exact hown
    have hs0 : base ≤ w.heap.size := by omega
    have hB1 : Below base w w1 := ((Below.refl base w).trans (hd2.mono hs0)).grown hgrow (by omega) (fun k hk => (ho.lt k hk).1)
    have hB2 := hB1.setCell (p := ⟨b, 0, none⟩) hbb (.slice (some ⟨g, 0, none⟩) (xs.length + 1) capg)
    have ho3 := ownsRow_setCell_other hown2 (a := ⟨b, 0, none⟩) (own_ne hown2 hb1 (by decide)) (.slice (some ⟨g, 0, none⟩) (xs.length + 1) capg)
    have hb3 := heap_setCell_same w1 b 0 _ _ (.slice (some ⟨g, 0, none⟩) (xs.length + 1) capg) hb1
    clear hown hgrow hat hcb hb hcb2
    go_wp2
    go_ret
    exact ⟨_, by simp, hb3, ho3, hB2⟩

set_option maxRecDepth 100000 in
set_option maxHeartbeats 800000 in
theorem rbegin_any (b base : Nat) (ao : Option Addr) (cap : Nat) (xs : List Nd) (p s e d known : Int) (w : World) (hb : w.heap[b]? = some (.cells #[.slice ao xs.length cap, .int .i64 p, .int .i64 s, .int .i64 e, .int .i64 d] 81 (0, 0))) (ho : w.ownsRow base 63 5 (.slice ao xs.length cap) xs.length (ncs xs))
    (hm : xs.length ≤ 1000000) (hbb : base ≤ b) :
    Calls Try.prog 42 #[.pointer (some ⟨b, 0, none⟩), .slice none 0 0, .int .i64 known] w fun en w' =>
      ∃ v', en = .returned (.tuple #[]) ∧ w'.heap[b]? = some (.cells #[v', .int .i64 p, .int .i64 s, .int .i64 (xs.length + 1 : Nat), .int .i64 d] 81 (0, 0)) ∧ w'.ownsRow base 63 5 v' (xs ++ [nilN] ++ [(⟨5, 0, ByteArray.empty, xs.length, known⟩ : Nd)]).length (ncs (xs ++ [nilN] ++ [(⟨5, 0, ByteArray.empty, xs.length, known⟩ : Nd)])) ∧ Below base w w' := by
  go_enter Try.func42, Try.ntmps42
  go_wp2_with fail
  refine (raddnil_any b base ao cap xs p s e d w hb ho hm hbb).mono ?_
  rintro en w1 ⟨v1, rfl, hb1, ho1, bel1⟩
  obtain ⟨a1, k1, rfl⟩ := own_form ho1
  go_wp2_with fail
  refine (radd_any b base a1 k1 (xs ++ [nilN]) ⟨5, 0, ByteArray.empty, xs.length, known⟩ p s e d w1 hb1 ho1 (by simp; omega) hbb).mono ?_
  rintro en w2 ⟨v2, rfl, hb2, ho2, bel2⟩
  have c3 : w2.cell? ⟨b, 3, none⟩ = some (.int .i64 e) := cell_of_row w2 _ 3 _ _ _ hb2
  have f3 : w2.frozen? ⟨b, 3, none⟩ = false := frozen_of_row w2 _ 3 _ _ hb2
  have hlt2 := (Array.getElem?_eq_some_iff.1 hb2).1
  have hb3 := heap_setCell_same w2 b 3 _ _ (.int .i64 (xs.length + 1 : Nat)) hb2
  have ho3 := ownsRow_setCell_other ho2 (a := ⟨b, 3, none⟩) (own_ne ho2 hb2 (by decide)) (.int .i64 (xs.length + 1 : Nat))
  have hB3 := (bel1.trans bel2).setCell (p := ⟨b, 3, none⟩) hbb (.int .i64 (xs.length + 1 : Nat))
  have e1 : ((xs ++ [nilN]).length : Int) = ((xs.length + 1 : Nat) : Int) := by simp
  rw [e1]
  clear e1
  go_wp2
  go_end0
  exact ⟨v2, rfl, hb3, ho3, hB3⟩
end Go.Proofs.Ytacbhbmjhlgflaa
