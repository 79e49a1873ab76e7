/-
  Texts that stood by themselves, laid into one.
-/
import Derived.Test.YtacbhbmjhlgflaaFirstsM
import Derived.Test.YtacbhbmjhlgflaaSSizeM
import Derived.Test.YtacbhbmjhlgflaaSMakeM
import Derived.Deep.CutBlock
import Derived.Deep.CutRange
import Derived.Test.YtacbhbmjhlgflaaDefOfM
import Derived.Test.YtacbhbmjhlgflaaMark2M
/-
  Contract of spec's l2Classes: for each node the first one that is alike.
-/
namespace Go.Proofs.Ytacbhbmjhlgflaa
open Go.RowKit Go.Maps

theorem idx_at (ks : List Nd) (y : Nd) (j : Nat) (h0 : ∀ t, t < j → ks[t]? ≠ some y) (hj : ks[j]? = some y) : idx ks y = j := by
  induction ks generalizing j with
  | nil => simp at hj
  | cons k ks ih =>
    cases j with
    | zero => simp at hj; simp [idx, hj]
    | succ j =>
      have hk : ¬ k = y := by have := h0 0 (by omega); simpa using this
      simp only [idx, if_neg hk]
      rw [ih j (fun t ht => by have := h0 (t + 1) (by omega); simpa using this) (by simpa using hj)]
theorem idx_end (ks : List Nd) (y : Nd) (h0 : ∀ t, t < ks.length → ks[t]? ≠ some y) : idx ks y = ks.length := by
  apply idx_none
  intro hm
  obtain ⟨t, ht, e⟩ := List.mem_iff_getElem.1 hm
  exact h0 t ht (by rw [List.getElem?_eq_getElem ht, e])
theorem own_apart {w : World} {B B' : Nat} {e e' : TypeId} {k k' : Nat} {v v' : Value} {n n' : Nat} {xs xs' : List Value} (h : w.ownsRow B e k v n xs) (h' : w.ownsRow B' e' k' v' n' xs') (hne : e ≠ e') : v.ownBlock = none ∨ v.ownBlock ≠ v'.ownBlock := by
  rcases h.2 with ⟨rfl, _⟩ | ⟨g, cap, cur, rfl, hB, hg, _⟩
  · exact Or.inl rfl
  · exact Or.inr fun e => own_ne h' hg hne e.symm
theorem node_eql (y : Nd) (w : World) : (binOp .eql 63 (.agg #[.int .i64 y.k, .int .i64 y.n, .string y.s, .int .i64 y.a, .int .i64 y.b]) (.agg #[.int .i64 y.k, .int .i64 y.n, .string y.s, .int .i64 y.a, .int .i64 y.b])).run Try.prog w = .ok (.bool true) w := by
  simp [go_sem]
theorem node_neql (z y : Nd) (h : z ≠ y) (w : World) : (binOp .eql 63 (.agg #[.int .i64 z.k, .int .i64 z.n, .string z.s, .int .i64 z.a, .int .i64 z.b]) (.agg #[.int .i64 y.k, .int .i64 y.n, .string y.s, .int .i64 y.a, .int .i64 y.b])).run Try.prog w = .ok (.bool false) w := by
  obtain ⟨k, n, s, a, b⟩ := z
  obtain ⟨k', n', s', a', b'⟩ := y
  have hs : s.toList = s'.toList → s = s' := by
    rw [ByteArray.toList_eq, ByteArray.toList_eq]
    intro e
    obtain ⟨⟨x⟩⟩ := s
    obtain ⟨⟨x'⟩⟩ := s'
    simp only at e
    rw [e]
  simp [go_sem]
  intro h1 h2 h3 h4 h5
  exact h (by rw [h1, h2, hs h3, h4, h5])

theorem own_empty (W : World) (t : TypeId) (k B : Nat) (h : B ≤ W.heap.size) : (W.alloc (Obj.cells #[] t)).ownsRow B t k (.slice (some ⟨W.heap.size, 0, none⟩) 0 0) 0 [] :=
  own_mono (World.ownsRow_made W #[] 0 (Nat.le_refl _) (by simp) (by simp)) h

/-- A node's block. -/
def nblk (y : Nd) : Obj := .cells #[.int .i64 y.k, .int .i64 y.n, .string y.s, .int .i64 y.a, .int .i64 y.b] 63 (0, 0)

end Go.Proofs.Ytacbhbmjhlgflaa

/-
  Contracts of the laws' helpers markInstrS, markDefS, markCode: what is marked is turned, and nothing else. No condition.
-/
namespace Go.Proofs.Ytacbhbmjhlgflaa
open Go.RowKit

set_option maxHeartbeats 1600000 in
theorem markinstrs_any (v : Value) (k : Int) (base n : Nat) (cs : List Value) (w : World) (h : w.ownsRow base 115 4 v n cs) (hl : cs.length = n * 4) (hm : n ≤ 4194304) (hk0 : 0 ≤ k) (hk : k ≤ 2305843009213693952) :
    Calls Try.prog 46 #[v, .int .i64 k] w fun e w' => e = .returned (.int .i64 (k + 4 * n)) ∧ w.grownBy w' v.ownBlock := by
  rcases h.2 with ⟨rfl, h0⟩ | ⟨g, cap, cur, rfl, hb, hg, hnc, hcm, hcs, htake⟩
  · subst h0
    go_enter Try.func46, Try.ntmps46
    go_wp2
    refine wp_loop_rounds 1 ?_
    rw [rounds_succ]
    go_wp2
    go_ret
    exact ⟨by simp, World.grownBy.refl _ _⟩
  · clear hg hcs htake
    go_enter Try.func46, Try.ntmps46
    go_wp2
    go_loopw [1, 5] (fun q i wr => ∃ (j : Nat) (cs : List Value), j ≤ n ∧ i = .int .i64 j ∧ q = .int .i64 (k + 4 * (j : Int)) ∧ cs.length = n * 4 ∧ wr.ownsRow base 115 4 (.slice (some ⟨g, 0, none⟩) n cap) n cs ∧ w.grownBy wr (some g)) (fun _ i _ => n - (intOf i).toNat)
    case atStart => exact ⟨0, cs, by omega, rfl, by simp, hl, h, World.grownBy.refl _ _⟩
    case round =>
      clear hl h
      obtain ⟨j, cs, hj, rfl, rfl, hl, hown, hbel⟩ := hrel
      by_cases hlt : j < n
      · have hgs : g < wr.heap.size := (hown.lt g rfl).2
        have hcell : ∀ i, i < 4 → ∃ u, (wr.cell? ⟨g, j * 4 + i, none⟩) = some u := fun i hi => ⟨_, (hown.cellAt (j * 4 + i) (by omega)).trans (List.getElem?_eq_getElem (by omega))⟩
        obtain ⟨u0, c0⟩ := hcell 0 (by omega)
        obtain ⟨u1, c1⟩ := hcell 1 (by omega)
        obtain ⟨u2, c2⟩ := hcell 2 (by omega)
        simp only [Nat.add_zero] at c0
        have f0 := hown.frozenAt (j * 4)
        have f1 := hown.frozenAt (j * 4 + 1)
        have f2 := hown.frozenAt (j * 4 + 2)
        have s0 := hown.stored (j * 4) (.int .i64 (k + 4 * (j : Int)))
        have s1 := s0.1.stored (j * 4 + 1) (.int .i64 (k + 4 * (j : Int) + 1))
        have s2 := s1.1.stored (j * 4 + 2) (.int .i64 (k + 4 * (j : Int) + 1 + 1))
        have hB1 := ((hbel.trans s0.2).trans s1.2).trans s2.2
        clear hcell
        go_wp2_with fail
        refine (marktext_any _ _ (by omega)).mono ?_
        rintro e w2 ⟨rfl, hb2⟩
        have hown2 := own_below s2.1 hb2
        have hB2 := hB1.trans (grown_below2 hb2 (some g))
        obtain ⟨u3, d3⟩ : ∃ u, (w2.cell? ⟨g, j * 4 + 3, none⟩) = some u := ⟨_, (hown2.cellAt (j * 4 + 3) (by omega)).trans (List.getElem?_eq_getElem (by simp; omega))⟩
        have e3 := hown2.frozenAt (j * 4 + 3)
        have s3 := hown2.stored (j * 4 + 3) (.string (mt (k + 4 * (j : Int) + 1 + 1 + 1)))
        have hB4 := hB2.trans s3.2
        have S4 := s3.1
        clear s0 s1 s2 s3 hown hown2 c0 c1 c2 f0 f1 f2 hb2 hB1 hB2 hbel
        go_wp2
        go_roundw
        case rel => exact ⟨j + 1, _, by omega, by go_num, by go_num, by simp [hl], S4, hB4⟩
        case measure => simp [intOf]; omega
      · go_wp2
        go_ret
        have : j = n := by omega
        subst this
        exact ⟨rfl, hbel⟩

set_option maxHeartbeats 1600000 in
theorem markdefs_any (v : Value) (k : Int) (base n : Nat) (cs : List Value) (w : World) (h : w.ownsRow base 60 3 v n cs) (hl : cs.length = n * 3) (hm : n ≤ 4194304) (hk0 : 0 ≤ k) (hk : k ≤ 2305843009213693952) :
    Calls Try.prog 47 #[v, .int .i64 k] w fun e w' => e = .returned (.int .i64 (k + 3 * n)) ∧ w.grownBy w' v.ownBlock := by
  rcases h.2 with ⟨rfl, h0⟩ | ⟨g, cap, cur, rfl, hb, hg, hnc, hcm, hcs, htake⟩
  · subst h0
    go_enter Try.func47, Try.ntmps47
    go_wp2
    refine wp_loop_rounds 1 ?_
    rw [rounds_succ]
    go_wp2
    go_ret
    exact ⟨by simp, World.grownBy.refl _ _⟩
  · clear hg hcs htake
    go_enter Try.func47, Try.ntmps47
    go_wp2
    go_loopw [1, 5] (fun q i wr => ∃ (j : Nat) (cs : List Value), j ≤ n ∧ i = .int .i64 j ∧ q = .int .i64 (k + 3 * (j : Int)) ∧ cs.length = n * 3 ∧ wr.ownsRow base 60 3 (.slice (some ⟨g, 0, none⟩) n cap) n cs ∧ w.grownBy wr (some g)) (fun _ i _ => n - (intOf i).toNat)
    case atStart => exact ⟨0, cs, by omega, rfl, by simp, hl, h, World.grownBy.refl _ _⟩
    case round =>
      clear hl h
      obtain ⟨j, cs, hj, rfl, rfl, hl, hown, hbel⟩ := hrel
      by_cases hlt : j < n
      · have hgs : g < wr.heap.size := (hown.lt g rfl).2
        go_wp2_with fail
        refine (marktext_any _ _ (by omega)).mono ?_
        rintro e w2 ⟨rfl, hb2⟩
        have hown2 := own_below hown hb2
        have hB2 := hbel.trans (grown_below2 hb2 (some g))
        have hcell : ∀ i, i < 3 → ∃ u, (w2.cell? ⟨g, j * 3 + i, none⟩) = some u := fun i hi => ⟨_, (hown2.cellAt (j * 3 + i) (by omega)).trans (List.getElem?_eq_getElem (by omega))⟩
        obtain ⟨u0, c0⟩ := hcell 0 (by omega)
        obtain ⟨u1, c1⟩ := hcell 1 (by omega)
        obtain ⟨u2, c2⟩ := hcell 2 (by omega)
        simp only [Nat.add_zero] at c0
        have f0 := hown2.frozenAt (j * 3)
        have f1 := hown2.frozenAt (j * 3 + 1)
        have f2 := hown2.frozenAt (j * 3 + 2)
        have s0 := hown2.stored (j * 3) (.string (mt (k + 3 * (j : Int))))
        have s1 := s0.1.stored (j * 3 + 1) (.int .i64 (k + 3 * (j : Int) + 1))
        have s2 := s1.1.stored (j * 3 + 2) (.int .i64 (k + 3 * (j : Int) + 1 + 1))
        have hB4 := ((hB2.trans s0.2).trans s1.2).trans s2.2
        have S4 := s2.1
        clear hcell s0 s1 s2 hown hown2 hb2 hB2 hbel
        go_wp2
        go_roundw
        case rel => exact ⟨j + 1, _, by omega, by go_num, by go_num, by simp [hl], S4, hB4⟩
        case measure => simp [intOf]; omega
      · go_wp2
        go_ret
        have : j = n := by omega
        subst this
        exact ⟨rfl, hbel⟩

set_option maxHeartbeats 800000 in
theorem markcode_any (v1 v2 v3 : Value) (k : Int) (base : Nat) (ns : List Nd) (is : List In) (ds : List Df) (w : World) (h1 : w.ownsRow base 63 5 v1 ns.length (ncs ns)) (h2 : w.ownsRow base 115 4 v2 is.length (incs is)) (h3 : w.ownsRow base 60 3 v3 ds.length (dfcs ds)) (l1 : ns.length ≤ 4194304) (l2 : is.length ≤ 4194304) (l3 : ds.length ≤ 4194304) (hk0 : 0 ≤ k) (hk : k ≤ 1152921504606846976) :
    Calls Try.prog 14 #[.agg #[v1, v2, v3], .int .i64 k] w fun e w' => (∃ r : Int, e = .returned (.int .i64 r) ∧ k ≤ r ∧ r ≤ k + 67108864) ∧ ∃ wa wb, w.grownBy wa v1.ownBlock ∧ wa.grownBy wb v2.ownBlock ∧ wb.grownBy w' v3.ownBlock := by
  obtain ⟨a1, c1, rfl⟩ := own_form h1
  obtain ⟨a2, c2, rfl⟩ := own_form h2
  obtain ⟨a3, c3, rfl⟩ := own_form h3
  go_enter Try.func14, Try.ntmps14
  go_wp2_with fail
  have hx0 : (w.alloc (Obj.cells #[.slice a1 ns.length c1, .slice a2 is.length c2, .slice a3 ds.length c3] 41)).heap[w.heap.size]? = some (Obj.cells #[.slice a1 ns.length c1, .slice a2 is.length c2, .slice a3 ds.length c3] 41) := heap_alloc_new _ _
  have o2 := h2.alloc (Obj.cells #[.slice a1 ns.length c1, .slice a2 is.length c2, .slice a3 ds.length c3] 41)
  have o3 := h3.alloc (Obj.cells #[.slice a1 ns.length c1, .slice a2 is.length c2, .slice a3 ds.length c3] 41)
  have o1 := h1.alloc (Obj.cells #[.slice a1 ns.length c1, .slice a2 is.length c2, .slice a3 ds.length c3] 41)
  refine (markpool_any _ k base ns _ o1 l1 hk0 (by omega)).mono ?_
  rintro e wa ⟨rfl, _, ga⟩
  have hxa := (ga.block _ (Array.getElem?_eq_some_iff.1 hx0).1 (fun e => own_ne o1 hx0 (by decide) e.symm)).trans hx0
  have Ga := (World.grownBy_alloc w (Obj.cells #[.slice a1 ns.length c1, .slice a2 is.length c2, .slice a3 ds.length c3] 41) (Value.slice a1 ns.length c1).ownBlock).trans ga
  have p2 := o2.kept ga (own_apart o2 o1 (by decide))
  have p3 := o3.kept ga (own_apart o3 o1 (by decide))
  clear o1 o2 o3 ga hx0 h1 h2 h3
  have e1 : wa.cell? ⟨w.heap.size, 0 + 1, none⟩ = some (.slice a2 is.length c2) := cell_of_row wa _ 1 _ _ _ hxa
  go_wp2_with fail
  refine (markinstrs_any _ (k + 5 * ns.length) base is.length _ _ p2 (incs_length is) l2 (by omega) (by omega)).mono ?_
  rintro e wb ⟨rfl, gb⟩
  have hxb := (gb.block _ (Array.getElem?_eq_some_iff.1 hxa).1 (fun e => own_ne p2 hxa (by decide) e.symm)).trans hxa
  have q3 := p3.kept gb (own_apart p3 p2 (by decide))
  clear p2 p3 hxa e1
  have e2 : wb.cell? ⟨w.heap.size, 0 + 2, none⟩ = some (.slice a3 ds.length c3) := cell_of_row wb _ 2 _ _ _ hxb
  go_wp2_with fail
  refine (markdefs_any _ (k + 5 * ns.length + 4 * is.length) base ds.length _ _ q3 (dfcs_length ds) l3 (by omega) (by omega)).mono ?_
  rintro e wc ⟨rfl, gc⟩
  clear q3 hxb e2
  go_wp2
  go_ret
  exact ⟨⟨_, rfl, by omega, by omega⟩, wa, wb, Ga, gb, gc⟩
end Go.Proofs.Ytacbhbmjhlgflaa
