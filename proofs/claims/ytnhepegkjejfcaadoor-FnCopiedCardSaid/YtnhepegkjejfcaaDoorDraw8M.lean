/-
  Texts that stood by themselves, laid into one.
-/
import Derived.Test.YtnhepegkjejfcaaDoorSMakeM
import Derived.Deep.RegionLaw
import Derived.Deep.AppendLies
import Derived.Deep.CutRange
/-
  Contract of spec's l2Add: a node behind the pool that a pointer leads to.
-/
namespace Go.Proofs.YtnhepegkjejfcaaDoor
open Go.RowKit

set_option maxHeartbeats 1600000 in
theorem sadd_any (b base : Nat) (ao : Option Addr) (cap : Nat) (xs : List Nd) (x : Nd) (w : World) (hb : w.heap[b]? = some (.cells #[.slice ao xs.length cap] 26 (0, 0))) (ho : w.ownsRow base 40 5 (.slice ao xs.length cap) xs.length (ncs xs))
    (hm : xs.length ≤ 2097152) (hbb : base ≤ b) :
    Calls Tryd.prog 52 #[.pointer (some ⟨b, 0, none⟩), .agg #[.int .i64 x.k, .int .i64 x.n, .string x.s, .int .i64 x.a, .int .i64 x.b]] w fun e w' =>
      ∃ v', e = .returned (.int .i64 xs.length) ∧ w'.heap[b]? = some (.cells #[v'] 26 (0, 0)) ∧ w'.ownsRow base 40 5 v' (xs ++ [x]).length (ncs (xs ++ [x])) ∧ Below base w w' := by
  obtain ⟨i0, hi, hz0, hz1, hz2⟩ := info_parts Tryd.infoN
  have hlt : b < w.heap.size := (Array.getElem?_eq_some_iff.1 hb).1
  have hcb : w.cell? ⟨b, 0, none⟩ = some (.slice ao xs.length cap) := by rw [cell_of_row w b 0 _ _ _ hb]; rfl
  have hne : b ≠ w.heap.size := by omega
  go_enter Tryd.func52, Tryd.ntmps52
  go_wp2_with fail
  go_region_law (refine step_append_lies _ rfl _ _ 24 rfl base 40 i0 _ 5 48 Tryd.underlying24 hi hz0 hz1 hz2 rfl (by decide) _ _ _ rfl ((ho.alloc _).alloc _) ⟨w.heap.size + 1, 0, none⟩ 1 1 (ncs [x]) rfl rfl (World.news_of_block (cs := #[.int .i64 x.k, .int .i64 x.n, .string x.s, .int .i64 x.a, .int .i64 x.b]) (t := 40) (fr := (0, 0)) (heap_alloc2_new w _ _)) (ncs_one _) (by omega) (by unfold maxLen; omega) (by omega) (by simp; omega) (w.heap.size + 2) (by simp) ?_; intro g capg w1 hown hgrow hat hgl; have hb1 : w1.heap[b]? = some (.cells #[.slice ao xs.length cap] 26 (0, 0)) := (hgrow.block b (by simp; omega) (fun e => own_ne ho hb (by decide) e.symm)).trans ((heap_alloc_old _ _ (by simp; omega)).trans ((heap_alloc_old _ _ hlt).trans hb)); have kb1 : w1.cell? ⟨b, 0, none⟩ = some (.slice ao xs.length cap) := cell_of_row w1 b 0 _ _ _ hb1; have fb1 : w1.frozen? ⟨b, 0, none⟩ = false := frozen_of_row w1 b 0 _ _ hb1)
  all_goals
    have hown2 : w1.ownsRow base 40 5 (.slice (some ⟨g, 0, none⟩) (xs.length + 1) capg) (xs ++ [x]).length (ncs (xs ++ [x])) := by
      rw [ncs_append, List.length_append]
      exact hown
    have hs0 : base ≤ w.heap.size := by omega
    have hB1 : Below base w w1 := (((Below.refl base w).alloc hs0 _).drew.alloc (by simp; omega) _).grown hgrow (by simp; omega) (fun k hk => (ho.lt k hk).1)
    have hB2 := hB1.setCell (p := ⟨b, 0, none⟩) hbb (.slice (some ⟨g, 0, none⟩) (xs.length + 1) capg)
    have ho2 := ownsRow_setCell_other hown2 (a := ⟨b, 0, none⟩) (own_ne hown2 hb1 (by decide)) (.slice (some ⟨g, 0, none⟩) (xs.length + 1) capg)
    have hb2 := heap_setCell_same w1 b 0 _ _ (.slice (some ⟨g, 0, none⟩) (xs.length + 1) capg) hb1
    clear hown hgrow hat hcb hb
    go_wp2
    go_ret
    exact ⟨_, by simp, hb2, ho2, hB2⟩
end Go.Proofs.YtnhepegkjejfcaaDoor

/-
  Contracts of the draws of pools: l2DrawRight, l2Draw: some pool of the call's own, and nothing turned but the cursor.
-/
namespace Go.Proofs.YtnhepegkjejfcaaDoor
open Go.RowKit

theorem own_not {w : World} {base k : Nat} {e : TypeId} {v : Value} {n : Nat} {xs : List Value} (h : w.ownsRow base e k v n xs) {P : Nat} (hP : P < base) : v.ownBlock = none ∨ v.ownBlock ≠ some P := by
  cases hv : v.ownBlock with
  | none => exact Or.inl rfl
  | some k => right; intro e; have := (h.lt k hv).1; simp at e; omega
/-- A variable of the type Pool that holds the nodes xs, in a row of the call's own. -/
def PV (w : World) (b base : Nat) (xs : List Nd) : Prop := ∃ v', w.heap[b]? = some (.cells #[v'] 26 (0, 0)) ∧ w.ownsRow base 40 5 v' xs.length (ncs xs)
theorem PV.lt {w : World} {b base : Nat} {xs : List Nd} (h : PV w b base xs) : b < w.heap.size := by obtain ⟨_, h, _⟩ := h; exact (Array.getElem?_eq_some_iff.1 h).1
theorem PV.kept {w w' : World} {b base P : Nat} {xs : List Nd} (h : PV w b base xs) (hg : w.grownBy w' (some P)) (hP : P < base) (hb : P ≠ b) : PV w' b base xs := by
  obtain ⟨v', h1, h2⟩ := h
  exact ⟨v', (hg.block b (Array.getElem?_eq_some_iff.1 h1).1 (by simpa using fun e => hb e.symm)).trans h1, h2.kept hg (own_not h2 hP)⟩
theorem PV.alloc {w : World} {b base : Nat} {xs : List Nd} (h : PV w b base xs) (o : Obj) : PV (w.alloc o) b base xs := by
  obtain ⟨v', h1, h2⟩ := h
  exact ⟨v', (heap_alloc_old _ _ (Array.getElem?_eq_some_iff.1 h1).1).trans h1, h2.alloc _⟩

set_option maxHeartbeats 1600000 in
theorem dright_any (w0 : World) (v : Value) (zs : List Int) (w : World) (P : Nat) (c : Cur w0 v zs w P) :
    Calls Tryd.prog 35 #[.pointer (some ⟨P, 0, none⟩)] w fun e w' => ∃ (v' : Value) (xs : List Nd), e = .returned (.agg #[v']) ∧ xs.length ≤ 15 ∧ (∀ x ∈ xs, x.s.size ≤ 40) ∧ w'.ownsRow w.heap.size 40 5 v' xs.length (ncs xs) ∧ Cur w0 v zs w' P ∧ w.grownBy w' (some P) := by
  have hP := c.lt
  have hB0 : Below w.heap.size w ((w.alloc (.cells #[.slice none 0 0] 26)).alloc (.cells #[.slice none 0 0] 26)) := ((Below.refl _ _).alloc (Nat.le_refl _) _).alloc (by simp) _
  have c0 := c.kept (hB0.mono (show P + 1 ≤ w.heap.size by omega))
  go_enter Tryd.func35, Tryd.ntmps35
  go_wp2_with fail
  refine (below_any w0 v zs _ P 16 c0 (by omega)).mono ?_
  rintro e w1 ⟨n, rfl, hn0, hn1, c1, g1⟩
  have hn := hn1 (by omega)
  obtain ⟨n, rfl⟩ := Int.eq_ofNat_of_zero_le hn0
  have hr1 : w1.heap[w.heap.size]? = some (.cells #[.slice none 0 0] 26 (0, 0)) := (g1.block _ (by simp; omega) (by simp; omega)).trans ((heap_alloc_old _ _ (by simp)).trans (heap_alloc_new _ _))
  have hb1 : w1.heap[w.heap.size + 1]? = some (.cells #[.slice none 0 0] 26 (0, 0)) := (g1.block _ (by simp) (by simp; omega)).trans (heap_alloc2_new _ _ _)
  have g1' := draw_step hB0 g1
  clear hB0 g1 hn1 c0
  go_wp2_with fail
  go_loopw [5] (fun i wr => ∃ (xs : List Nd), xs.length ≤ n ∧ i = .int .i64 xs.length ∧ Hid (∀ x ∈ xs, x.s.size ≤ 40) ∧ wr.heap[w.heap.size]? = some (.cells #[.slice none 0 0] 26 (0, 0)) ∧ PV wr (w.heap.size + 1) (w.heap.size + 1) xs ∧ Cur w0 v zs wr P ∧ w.grownBy wr (some P)) (fun i _ => n - (intOf i).toNat)
  case atStart => exact ⟨[], by simp, rfl, by simp [Hid], hr1, ⟨_, hb1, World.ownsRow_nil w1 _ 40 5⟩, c1, g1'⟩
  case round =>
    clear hr1 hb1 c1 g1'
    obtain ⟨xs, hx, rfl, HZ, hr, hpv, cc, gg⟩ := hrel
    by_cases hlt : xs.length < n
    · go_wp2_with fail
      refine (dnode_any w0 v zs wr P xs.length cc (by omega)).mono ?_
      rintro e w3 ⟨x, rfl, hx40, c3, g3⟩
      have hpv3 := hpv.kept g3 (by omega) (by omega)
      have hr3 := (g3.block _ (Array.getElem?_eq_some_iff.1 hr).1 (by simp; omega)).trans hr
      have gg3 := grown_trans gg g3
      obtain ⟨v3, hb3, ho3⟩ := hpv3
      obtain ⟨a3, q3, rfl⟩ := own_form ho3
      clear hpv g3 gg cc hr
      rw [ndV]
      go_wp2_with fail
      refine (sadd_any (w.heap.size + 1) (w.heap.size + 1) a3 q3 xs x w3 hb3 ho3 (by omega) (Nat.le_refl _)).mono ?_
      rintro e w4 ⟨v4, rfl, hb4, ho4, hB4⟩
      obtain ⟨c5, g5⟩ := draw_done c3 gg3 (hB4.mono (Nat.le_succ _)) hP
      have hr5 := (hB4.block w.heap.size (by omega)).trans hr3
      clear hb3 ho3 hB4 c3 gg3 hr3
      go_wp2_with fail
      go_roundw
      case rel =>
        refine ⟨xs ++ [x], by simp; omega, by simp, ?_, hr5, ⟨_, hb4, ho4⟩, c5, g5⟩
        intro z hz
        simp only [List.mem_append, List.mem_singleton] at hz
        rcases hz with hz | rfl
        · exact HZ.out z hz
        · exact hx40
      case measure => simp [intOf]; omega
    · obtain ⟨v3, hb3, ho3⟩ := hpv
      obtain ⟨a3, q3, rfl⟩ := own_form ho3
      have hc3 : wr.cell? ⟨w.heap.size + 1, 0, none⟩ = some (.slice a3 xs.length q3) := by rw [cell_of_row wr _ 0 _ _ _ hb3]; rfl
      have hd3 : wr.cell? ⟨w.heap.size, 0, none⟩ = some (.slice none 0 0) := by rw [cell_of_row wr _ 0 _ _ _ hr]; rfl
      have hf3 : wr.frozen? ⟨w.heap.size, 0, none⟩ = false := frozen_of_row wr _ 0 _ _ hr
      obtain ⟨p1, p2, p3⟩ := put_pool hr ho3 (Below.refl w.heap.size wr) (by omega) (Nat.le_refl _)
      obtain ⟨c5, g5⟩ := draw_done cc gg p3 hP
      go_wp2_with fail
      refine bodyPost_ret (results_cell_row rfl _ _ w.heap.size 26 _ (0, 0) _ rfl p1 Tryd.underlying26 rfl Tryd.sizeP) rfl ⟨_, xs, rfl, by omega, HZ.out, p2, c5, g5⟩
end Go.Proofs.YtnhepegkjejfcaaDoor
