/-
  Texts that stood by themselves, laid into one.
-/
import Derived.Test.YtjigbjnahndpiaaISizeM
import Derived.Test.YtjigbjnahndpiaaWPartsM
import Derived.Test.YtjigbjnahndpiaaDraw2M
import Derived.OneCell
/-
  Contracts of the laws' own helpers eqIntS, markIntS, heldIntS.
-/
namespace Go.Proofs.Ytjigbjnahndpiaa
open Go.RowKit

/-- The slice value v reads in w as the ints zs. -/
def IRow (w : World) (v : Value) (zs : List Int) : Prop :=
  ∃ ao cap, v = .slice ao zs.length cap ∧ (zs.length ≤ cap ∧ (ao = none → cap = 0)) ∧ zs.length ≤ 9223372036854775807 ∧ (zs ≠ [] → ∃ g o, ao = some ⟨g, o, none⟩ ∧ g < w.heap.size ∧ ∀ i, i < zs.length → w.cell? ⟨g, o + i, none⟩ = some (.int .i64 (zs.getD i 0)))
theorem IRow.below {w w' : World} {v : Value} {zs : List Int} (h : IRow w v zs) (hb : Below w.heap.size w w') : IRow w' v zs := by
  obtain ⟨ao, cap, rfl, hc, hm, hcell⟩ := h
  refine ⟨ao, cap, rfl, hc, hm, fun hne => ?_⟩
  obtain ⟨g, o, rfl, hg, hcell⟩ := hcell hne
  exact ⟨g, o, rfl, Nat.lt_of_lt_of_le hg hb.size, fun i hi => (hb.cell (p := ⟨g, o + i, none⟩) hg).trans (hcell i hi)⟩
theorem IRow.of_own {w : World} {base : Nat} {v : Value} {zs : List Int} (h : w.ownsRow base 3 1 v zs.length (iv zs)) (hm : zs.length ≤ 9223372036854775807) : IRow w v zs := by
  rcases h.2 with ⟨rfl, h0⟩ | ⟨g, cap, cur, rfl, hb, hg, hnc, hcm, hcs, htake⟩
  · have : zs = [] := List.eq_nil_of_length_eq_zero h0
    subst this
    exact ⟨none, 0, rfl, by simp, by simp, fun h => absurd rfl h⟩
  · refine ⟨_, cap, rfl, ⟨hnc, fun h => by cases h⟩, hm, fun _ => ⟨g, 0, rfl, (Array.getElem?_eq_some_iff.1 hg).1, fun i hi => ?_⟩⟩
    have := h.cellAt i (by omega)
    rw [Nat.zero_add, this, iv_get zs i hi]

set_option maxHeartbeats 400000 in
theorem eqints_any (va vb : Value) (zs : List Int) (w : World) (ha : IRow w va zs) (hb : IRow w vb zs) :
    Calls Try.prog 20 #[va, vb] w fun e w' => e = .returned (.bool true) ∧ Below w.heap.size w w' := by
  obtain ⟨aa, ca, rfl, hca, hm, hcella⟩ := ha
  obtain ⟨ab, cb, rfl, hcb, _, hcellb⟩ := hb
  by_cases hne : zs = []
  · subst hne
    go_enter Try.func20, Try.ntmps20
    go_wp2
    refine wp_loop_rounds 1 ?_
    rw [rounds_succ]
    go_wp2
    go_ret
    exact ⟨rfl, Below.refl _ _⟩
  · obtain ⟨ga, oa, rfl, hga, hcella⟩ := hcella hne
    obtain ⟨gb, ob, rfl, hgb, hcellb⟩ := hcellb hne
    clear hne
    have hn : ((zs.length : Int) != (zs.length : Int)) = false := by simp
    go_enter Try.func20, Try.ntmps20
    go_wp2
    go_loopw [5] (fun i wr => ∃ k n : Nat, k ≤ zs.length ∧ i = .int .i64 k ∧ wr = w.drewN n) (fun i _ => zs.length - (intOf i).toNat)
    case atStart => exact ⟨0, 0, by omega, rfl, rfl⟩
    case round =>
      obtain ⟨k, n, hk, rfl, rfl⟩ := hrel
      by_cases hlt : k < zs.length
      · have h1 := hcella k hlt
        have h2 := hcellb k hlt
        clear hcella hcellb
        go_wp2
        go_quiet (fail)
        go_wp2
        go_roundw
        case rel => exact ⟨k + 1, _, by omega, by go_num, rfl⟩
        case measure => simp [intOf]; omega
      · go_wp2
        go_ret
        exact ⟨rfl, ⟨rfl, rfl, rfl, Nat.le_refl _, fun _ _ => rfl⟩⟩

/-- What lies in a slice of ints behind markIntS from k on, when i of them are written and zs stood there. -/
def imarked (k : Int) (zs : List Int) (i : Nat) : List Int := (List.range i).map (fun (j : Nat) => k + (j : Int)) ++ zs.drop i
theorem imarked_zero (k : Int) (zs : List Int) : imarked k zs 0 = zs := by simp [imarked]
theorem imarked_length (k : Int) (zs : List Int) (i : Nat) (h : i ≤ zs.length) : (imarked k zs i).length = zs.length := by simp [imarked]; omega
theorem imarked_set (k : Int) (zs : List Int) (i : Nat) (h : i < zs.length) : (imarked k zs i).set i (k + (i : Int)) = imarked k zs (i + 1) := by
  unfold imarked
  rw [List.range_succ, List.map_append, List.set_append_right _ _ (by simp), List.drop_eq_getElem_cons h, List.append_assoc]
  have e : i - (List.map (fun (j : Nat) => k + (j : Int)) (List.range i)).length = 0 := by simp
  rw [e]
  rfl
theorem imarked_get (k : Int) (zs : List Int) (i : Nat) (h : i < zs.length) : (imarked k zs zs.length).getD i 0 = k + (i : Int) := by
  simp [imarked, List.getD, h]

set_option maxHeartbeats 400000 in
theorem markints_any (v : Value) (k : Int) (base : Nat) (zs : List Int) (w : World) (h : w.ownsRow base 3 1 v zs.length (iv zs)) (hm : zs.length ≤ 4194304) (hk0 : 0 ≤ k) (hk : k ≤ 2305843009213693952) :
    Calls Try.prog 22 #[v, .int .i64 k] w fun e w' => e = .returned (.int .i64 (k + zs.length)) ∧ w'.ownsRow base 3 1 v zs.length (iv (imarked k zs zs.length)) ∧ w.grownBy w' v.ownBlock := by
  rcases h.2 with ⟨rfl, h0⟩ | ⟨g, cap, cur, rfl, hb, hg, hnc, hcm, hcs, htake⟩
  · have : zs = [] := List.eq_nil_of_length_eq_zero h0
    subst this
    go_enter Try.func22, Try.ntmps22
    go_wp2
    refine wp_loop_rounds 1 ?_
    rw [rounds_succ]
    go_wp2
    go_ret
    exact ⟨by simp, h, World.grownBy.refl _ _⟩
  · clear hg hcs htake
    go_enter Try.func22, Try.ntmps22
    go_wp2
    go_loopw [1, 5] (fun q i wr => ∃ j : Nat, j ≤ zs.length ∧ i = .int .i64 j ∧ q = .int .i64 (k + j) ∧ wr.ownsRow base 3 1 (.slice (some ⟨g, 0, none⟩) zs.length cap) zs.length (iv (imarked k zs j)) ∧ w.grownBy wr (some g)) (fun _ i _ => zs.length - (intOf i).toNat)
    case atStart => exact ⟨0, by omega, rfl, by simp, by rw [imarked_zero]; exact h, World.grownBy.refl _ _⟩
    case round =>
      obtain ⟨j, hj, rfl, rfl, hown, hbel⟩ := hrel
      by_cases hlt : j < zs.length
      · have hc := hown.cellAt j (by omega)
        rw [iv_get _ _ (by rw [imarked_length _ _ _ hj]; exact hlt)] at hc
        have hf := hown.frozenAt j
        have hs := hown.stored j (.int .i64 (k + (j : Int)))
        rw [iv_set, imarked_set k zs j hlt] at hs
        go_wp2
        go_roundw
        case rel => exact ⟨j + 1, by omega, by go_num, by go_num, hs.1, hbel.trans hs.2⟩
        case measure => simp [intOf]; omega
      · go_wp2
        go_ret
        have : j = zs.length := by omega
        subst this
        exact ⟨rfl, hown, hbel⟩

end Go.Proofs.Ytjigbjnahndpiaa

/-
  Contract of impl.firstsAlike: for each node the first one that is alike.
-/
namespace Go.Proofs.Ytjigbjnahndpiaa
open Go.RowKit Go.Maps

theorem Try.infoI4 : (Try.prog.info? 3).map (fun i => (i.zero, i.size, i.bytes)) = some (some (.int .i64 0), 1, 8) := by kernel_rfl
def padI (l : List Int) (n : Nat) : List Int := l ++ List.replicate (n - l.length) 0
theorem padI_length (l : List Int) (n : Nat) (h : l.length ≤ n) : (padI l n).length = n := by simp [padI]; omega
theorem padI_nil (n : Nat) : iv (padI [] n) = (madeCells #[Value.int .i64 0] n).toList := by rw [toList_madeCells_one]; simp [padI, iv]
theorem padI_get (l : List Int) (n i : Nat) (h : i < l.length) : (padI l n).getD i 0 = l.getD i 0 := by
  unfold padI
  simp only [List.getD_eq_getElem?_getD]
  rw [List.getElem?_append_left h]
theorem padI_set (l : List Int) (n k : Nat) (z : Int) (hk : l.length = k) (h : k < n) : (padI l n).set k z = padI (l ++ [z]) n := by
  subst hk
  unfold padI
  rw [show n - l.length = n - (l ++ [z]).length + 1 by simp; omega, List.replicate_succ, List.set_append_right _ _ (Nat.le_refl _), Nat.sub_self, List.set_cons_zero, List.append_assoc]
  rfl
theorem padI_full (l : List Int) : padI l l.length = l := by simp [padI]
theorem makeMap_hint (n : Int) (w : World) : (Instr.makeMap 112 (some (.int .i64 n))).run Try.prog w = .ok (.map (some w.heap.size)) (w.alloc (.map #[] 0)) := by
  simp [Instr.makeMap, run_underlying Try.underlying112, asInt, asIntOf, newObj]
  rfl
theorem zeroI (w : World) : (zeroValue 3).run Try.prog w = .ok (.int .i64 0) w := by kernel_rfl

theorem fb_get {l : List Int} {k : Nat} (h : ∀ f ∈ l, 0 ≤ f ∧ f ≤ k) (i : Nat) (hi : i < l.length) : 0 ≤ l.getD i 0 ∧ l.getD i 0 ≤ k := by
  rw [List.getD_eq_getElem?_getD, List.getElem?_eq_getElem hi]
  exact h _ (List.getElem_mem _)
theorem nodeB_N {x : Nd} {n : Int} (h : nodeB x n = true) : -1000000000 ≤ x.n ∧ x.n ≤ 1000000000 := by
  simp only [nodeB, Bool.and_eq_true, decide_eq_true_eq] at h
  have h1 := h.1.1.2
  have h2 := h.1.2
  unfold lo at h1
  unfold Go.Proofs.Ytjigbjnahndpiaa.hi at h2
  constructor
  · split at h1 <;> omega
  · split at h2
    · omega
    · split at h2
      · omega
      · split at h2 <;> omega
theorem nodeB_A0 {x : Nd} {n : Int} (h : nodeB x n = true) (ha : hasA x.k = false) : x.a = 0 := by
  simp only [nodeB, Bool.and_eq_true, decide_eq_true_eq] at h
  have := h.2.1.2
  rw [ha] at this
  simpa [partB] using this
theorem nodeB_B0 {x : Nd} {n : Int} (h : nodeB x n = true) (ha : hasB x.k = false) : x.b = 0 := by
  simp only [nodeB, Bool.and_eq_true, decide_eq_true_eq] at h
  have := h.2.2
  rw [ha] at this
  simpa [partB] using this

set_option maxRecDepth 100000 in
set_option maxHeartbeats 1600000 in
theorem firsts_any (ao : Option Addr) (cap : Nat) (xs : List Nd) (w : World) (R : NRow w (.slice ao xs.length cap) xs) (hp : ∀ (k : Nat) (x : Nd), xs[k]? = some x → nodeB x k = true) (hlen : xs.length ≤ 3000) :
    Calls Try.prog 75 #[.slice ao xs.length cap] w fun e w' => ∃ v', e = .returned v' ∧ w'.ownsRow w.heap.size 3 1 v' xs.length (iv (firstsTo xs xs.length)) ∧ Below w.heap.size w w' := by
  obtain ⟨ao', cap', e', ⟨hcap, _⟩, _, hz, hcell⟩ := R
  simp only [Value.slice.injEq, true_and] at e'
  obtain ⟨rfl, rfl⟩ := e'
  obtain ⟨i0, hi, hz0, hz1, hz2⟩ := info_parts Try.infoI4
  have hbytes : i0.bytes * xs.length ≤ 281474976710656 := by rw [hz2]; omega
  have hmax : xs.length ≤ maxLen := by unfold maxLen; omega
  have hmm := makeMap_hint
  go_enter Try.func75, Try.ntmps75
  go_wp2_with (at_make; refine wpList_make_full _ rfl _ _ 27 rfl (w.heap.size + 1) 3 i0 (.int .i64 0) 1 Try.underlying27 hi hz0 hz1 _ _ _ _ xs.length rfl rfl rfl rfl hbytes hmax (by simp) ?_)
  intro w1 hown hgrow
  have hm1 := (World.ownsMap_made (H := Unit) w Try.prog 34 (plainElem Try.prog 3)).kept hgrow (by simp)
  have hB1 : Below w.heap.size w w1 := ((Below.refl _ _).alloc (Nat.le_refl _) _).grown hgrow (by simp) (by intro k hk; cases hk)
  clear hgrow hmm
  go_wp2_with fail
  go_loopw [17] (fun i wr => ∃ (k m : Nat) (D : DataW Unit), k ≤ xs.length ∧ m ≤ k ∧ i = .int .i64 k ∧ wr.ownsMap Try.prog 34 (plainElem Try.prog 3) w.heap.size m D ∧ Hid (Holds D (keysTo xs k)) ∧ wr.ownsRow (w.heap.size + 1) 3 1 (.slice (some ⟨w.heap.size + 1, 0, none⟩) xs.length xs.length) xs.length (iv (padI (firstsTo xs k) xs.length)) ∧ Below w.heap.size w wr) (fun i _ => xs.length - (intOf i).toNat)
  case atStart => exact ⟨0, 0, .map [], by omega, Nat.le_refl _, rfl, hm1, Holds.start, by rw [show firstsTo xs 0 = [] by simp [firstsTo, cls], padI_nil]; simpa using hown, hB1⟩
  case round =>
    clear hown hm1 hB1 hbytes hmax
    obtain ⟨k, m, D, hk, hmk, rfl, hmap, HH, hown, hB⟩ := hrel
    have hfl := firstsTo_length xs k hk
    by_cases hlt : k < xs.length
    · obtain ⟨g, o, rfl, hg, hcell⟩ := hcell (by intro e; subst e; simp at hlt)
      obtain ⟨x, hx⟩ : ∃ x, xs[k]? = some x := ⟨xs[k], by simp [hlt]⟩
      obtain ⟨c0, c1, c2, c3, c4⟩ := (hcell k x hx).below hB hg
      have hnb := hp k x hx
      have hkd := nodeB_kind hnb
      have hxs := hz x (List.mem_of_getElem? hx)
      have HF : Hid (firstsTo xs (k + 1) = firstsTo xs k ++ [((idx (keysTo xs k) (nrm (firstsTo xs k) x) : Nat) : Int)]) := firstsTo_succ xs k x hx
      have HK : Hid (keysTo xs (k + 1) = keysTo xs k ++ [nrm (firstsTo xs k) x]) := keysTo_succ xs k x hx
      have hkl : Hid ((keysTo xs k).length = k) := keysTo_length xs k hk
      have hBw : w.heap.size + 1 < wr.heap.size := (hown.lt _ rfl).2
      clear hcell hx hp
      have hfb := firsts_bounds xs k hk
      have hnn := nodeB_N hnb
      have hwk : (Lit.int .i64 x.k).wf = true := WalkArith.wf_i64 (by omega)
      have hwn : (Lit.int .i64 x.n).wf = true := WalkArith.wf_i64 (by omega)
      have hpl := padI_length (firstsTo xs k) xs.length (by omega)
      have hpA : hasA x.k = true → 0 ≤ x.a ∧ x.a < (xs.length : Int) := fun h => by have := nodeB_A hnb h; omega
      have hpB : hasB x.k = true → 0 ≤ x.b ∧ x.b < (xs.length : Int) := fun h => by have := nodeB_B hnb h; omega
      have hpc : ∀ i, i < xs.length → wr.cell? ⟨w.heap.size + 1, i, none⟩ = some (.int .i64 ((padI (firstsTo xs k) xs.length).getD i 0)) := fun i hi => (hown.cellAt i (by omega)).trans (iv_get _ _ (by omega))
      have W := withparts_any x (w.heap.size + 1) xs.length (padI (firstsTo xs k) xs.length) (wr.alloc (Obj.cells #[.int .i64 x.k, .int .i64 x.n, .string x.s, .int .i64 x.a, .int .i64 x.b] 34)) hkd hpA hpB (fun i hi => (((Below.refl wr.heap.size wr).alloc (Nat.le_refl _) _).cell (p := ⟨w.heap.size + 1, i, none⟩) hBw).trans (hpc i hi)) (by simp; omega)
      have HN : Hid (nrm (firstsTo xs k) x = ⟨x.k, x.n, x.s, (nrm (padI (firstsTo xs k) xs.length) x).a, (nrm (padI (firstsTo xs k) xs.length) x).b⟩) := by
        unfold Hid nrm
        simp only [Nd.mk.injEq, true_and]
        constructor
        · split
          · rename_i h; have := nodeB_A hnb h; rw [padI_get _ _ _ (by omega)]
          · rfl
        · split
          · rename_i h; have := nodeB_B hnb h; rw [padI_get _ _ _ (by omega)]
          · rfl
      have hwa : (Lit.int .i64 (nrm (padI (firstsTo xs k) xs.length) x).a).wf = true := by
        cases h : hasA x.k with
        | true => have h1 := nodeB_A hnb h; have h2 := fb_get hfb x.a.toNat (by omega); refine WalkArith.wf_i64 ?_; unfold nrm; rw [h]; simp only [if_true]; rw [padI_get _ _ _ (by omega)]; omega
        | false => have h1 := nodeB_A0 hnb h; unfold nrm; rw [h, h1]; rfl
      have hwb : (Lit.int .i64 (nrm (padI (firstsTo xs k) xs.length) x).b).wf = true := by
        cases h : hasB x.k with
        | true => have h1 := nodeB_B hnb h; have h2 := fb_get hfb x.b.toNat (by omega); refine WalkArith.wf_i64 ?_; unfold nrm; rw [h]; simp only [if_true]; rw [padI_get _ _ _ (by omega)]; omega
        | false => have h1 := nodeB_B0 hnb h; unfold nrm; rw [h, h1]; rfl
      clear hpA hpB hpc hfb hnb hnn
      generalize (nrm (padI (firstsTo xs k) xs.length) x).a = ya at W HN hwa
      generalize (nrm (padI (firstsTo xs k) xs.length) x).b = yb at W HN hwb
      go_wp2_with fail
      refine W.mono ?_
      rintro e w4 ⟨rfl, hb4⟩
      have hbox := (hb4.block wr.heap.size (by simp)).trans (heap_alloc_new _ _)
      clear W c0 c1 c2 c3 c4
      go_wp2_with (refine wpList_store_own rfl 34 _ _ rfl wr.heap.size #[.int .i64 x.k, .int .i64 x.n, .string x.s, .int .i64 ya, .int .i64 yb] rfl rfl 34 _ hbox Try.sizeNW rfl (by simp [Value.oneCell']) ?_)
      intro w6 hh6 hb6 hs6
      have hB' : Below wr.heap.size wr w6 := (((Below.refl wr.heap.size wr).alloc (Nat.le_refl _) _).trans (hb4.mono (by simp))).trans hb6
      have hownq := own_below hown hB'
      have hmapq := hmap.kept (grown_below2 hB' none) (by simp)
      have hBq := hB.trans (hB'.mono (by have := hB.size; omega))
      have d0 := cell_of_row w6 _ 0 _ _ _ hh6
      have d1 := cell_of_row w6 _ 1 _ _ _ hh6
      have d2 := cell_of_row w6 _ 2 _ _ _ hh6
      have d3 := cell_of_row w6 _ 3 _ _ _ hh6
      have d4 := cell_of_row w6 _ 4 _ _ _ hh6
      simp only [List.getElem?_toArray, List.getElem?_cons_succ, List.getElem?_cons_zero] at d0 d1 d2 d3 d4
      have hw6 : wr.heap.size < w6.heap.size := (Array.getElem?_eq_some_iff.1 hh6).1
      have hw6' : w.heap.size + 1 < w6.heap.size := by omega
      have hne4 : w.heap.size + 1 ≠ wr.heap.size := by omega
      have hne5 : w.heap.size ≠ wr.heap.size := by omega
      obtain ⟨kl, hkey⟩ : ∃ kl, keyOf Try.prog 34 (nkey (⟨x.k, x.n, x.s, ya, yb⟩ : Nd)) = some kl := key_some (⟨x.k, x.n, x.s, ya, yb⟩ : Nd) hwk hwn hxs hwa hwb
      have hHH := HH.out (⟨x.k, x.n, x.s, ya, yb⟩ : Nd) kl hkey
      have e0 := hownq.cellAt k (by omega)
      rw [iv_get _ _ (by omega)] at e0
      have g0 := hownq.frozenAt k
      clear hbox hh6 hb4 hb6 hs6 hown hmap hB hB'
      go_wp2_with (at_lookup; refine wpList_lookup_own_ok_int _ rfl _ _ 112 rfl 34 3 .i64 Try.keyed Try.underlying112 Try.underlying3 (zeroI _) w.heap.size m D rfl hmapq _ kl rfl hkey ?_)
      intro c hat hwc
      by_cases hin : (⟨x.k, x.n, x.s, ya, yb⟩ : Nd) ∈ keysTo xs k
      · obtain ⟨hhas, hat2⟩ := hHH.1 hin
        have hci : c = ((idx (keysTo xs k) (⟨x.k, x.n, x.s, ya, yb⟩ : Nd) : Nat) : Int) := by rw [hat2] at hat; injection hat with h1; injection h1 with _ h2; exact h2.symm
        rw [hhas]
        have HC : Hid (c = ((idx (keysTo xs k) (⟨x.k, x.n, x.s, ya, yb⟩ : Nd) : Nat) : Int)) := hci
        clear hat hat2 hhas hci hHH
        go_wp2
        refine ⟨⟨k + 1, m, D, by omega, by omega, by go_num, hmapq.setCell (a := ⟨w.heap.size + 1, k, none⟩) (by simp) (.int .i64 c), ?_, ?_, hBq.setCell (p := ⟨w.heap.size + 1, k, none⟩) (by simp) (.int .i64 c)⟩, by simp [intOf]; omega⟩
        · unfold Hid; rw [HK.out, HN.out]; exact HH.out.again _ hin
        · have hs := (hownq.stored k (.int .i64 c)).1
          rw [iv_set, padI_set _ _ k c hfl hlt] at hs
          rw [HF.out, HN.out, ← HC.out]
          exact hs
      · have hhas := hHH.2 hin
        have hix := idx_none (keysTo xs k) (⟨x.k, x.n, x.s, ya, yb⟩ : Nd) hin
        rw [hkl.out] at hix
        rw [hhas]
        have HC : Hid (idx (keysTo xs k) (⟨x.k, x.n, x.s, ya, yb⟩ : Nd) = k) := hix
        clear hat hhas hHH hix
        go_wp2_with (at_mapUpdate; refine wpList_mapUpdate_own _ rfl _ _ _ 112 rfl 34 3 Try.keyed Try.underlying112 _ w.heap.size m D rfl hmapq (by unfold maxLen; omega) _ _ kl rfl rfl hkey _ [] (plainElem_int Try.underlying3 (WalkArith.wf_i64 (n := (k : Int)) (by omega))) ?_)
        intro w7 hmap5 hg5
        have hown5 := hownq.kept hg5 (Or.inr (by simp [Value.ownBlock]))
        have hB5 : Below w.heap.size w w7 := hBq.grown hg5 (by have := hBq.size; simp; omega) (fun j hj => by simp at hj; omega)
        have e5 := hown5.cellAt k (by omega)
        rw [iv_get _ _ (by omega)] at e5
        have g5 := hown5.frozenAt k
        clear hg5 e0 g0
        go_wp2
        refine ⟨⟨k + 1, m + 1, _, by omega, by omega, by go_num, hmap5.setCell (a := ⟨w.heap.size + 1, k, none⟩) (by simp) (.int .i64 k), ?_, ?_, hB5.setCell (p := ⟨w.heap.size + 1, k, none⟩) (by simp) (.int .i64 k)⟩, by simp [intOf]; omega⟩
        · unfold Hid; rw [HK.out, HN.out]
          have := HH.out.put hmapq.isMap _ hin kl hkey
          rwa [hkl.out] at this
        · have hs := (hown5.stored k (.int .i64 k)).1
          rw [iv_set, padI_set _ _ k k hfl hlt] at hs
          rw [HF.out, HN.out, HC.out]
          exact hs
    · have hkx : k = xs.length := by omega
      subst hkx
      have HP : Hid (padI (firstsTo xs xs.length) xs.length = firstsTo xs xs.length) := by unfold Hid; have := padI_full (firstsTo xs xs.length); rwa [hfl] at this
      rw [HP.out] at hown
      go_wp2
      go_ret
      exact ⟨_, rfl, own_mono hown (by omega), hB⟩
end Go.Proofs.Ytjigbjnahndpiaa
