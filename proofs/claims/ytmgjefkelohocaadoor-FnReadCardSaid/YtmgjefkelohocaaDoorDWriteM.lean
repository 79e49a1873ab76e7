/-
  Texts that stood by themselves, laid into one.
-/
import Derived.Test.YtmgjefkelohocaaDoorBackM
import Derived.Test.YtmgjefkelohocaaDoorBsM
import Derived.Test.YtmgjefkelohocaaDoorDReadM
import Derived.Deep.RegionHeld
/-
  What is read makes a right pool: plain mathematics. Nothing of the program; no condition.
-/
namespace Go.Proofs.YtmgjefkelohocaaDoor
open Go.RowKit

def inR (n : Nat) (zs : List Int) : Prop := ∀ z ∈ zs, 0 ≤ z ∧ z < n
structure Good (s : RS) : Prop where
  ns : nodesB s.ns 0 = true
  vs : inR s.ns.length s.vs
  lo : ∀ p ∈ s.lo, inR s.ns.length p.2
theorem inR.mono {n m : Nat} {zs : List Int} (h : inR n zs) (hm : n ≤ m) : inR m zs := fun z hz => by have := h z hz; omega
theorem nodesB_snoc {xs : List Nd} {x : Nd} (h : nodesB xs 0 = true) (hx : nodeB x xs.length = true) : nodesB (xs ++ [x]) 0 = true := by
  rw [nodesB_snoc', h, Nat.zero_add, hx]; rfl
theorem nodes_more (xs : List Nd) (zs : List Int) (hp : nodesB xs 0 = true) (ha : inR xs.length zs) (d : Nat) (hd : d ≤ zs.length) : nodesB (xs ++ more zs xs.length (zs.length - d)) 0 = true := by
  induction d with
  | zero =>
    rw [show more zs xs.length (zs.length - 0) = [nilN] by simp [more, pairsR]]
    exact nodesB_snoc hp (nilN_ok _)
  | succ d ih =>
    have hm : zs.length - (d + 1) < zs.length := by omega
    rw [more_step zs xs.length (zs.length - (d + 1)) hm, show zs.length - (d + 1) + 1 = zs.length - d by omega, ← List.append_assoc]
    have hlen : (xs ++ more zs xs.length (zs.length - d)).length = xs.length + d + 1 := by rw [List.length_append, more_length]; omega
    refine nodesB_snoc (ih (by omega)) ?_
    have hz := ha zs[zs.length - (d + 1)] (List.getElem_mem _)
    rw [hlen]
    exact pairN_ok _ _ _ hz.1 (by omega) (by omega)
theorem Good.put {s : RS} (h : Good s) (ys : List Nd) (hy : 0 < ys.length) (hn : nodesB (s.ns ++ ys) 0 = true) : Good (s.put ys) := by
  have hl : (s.put ys).ns.length = s.ns.length + ys.length := by simp [RS.put]
  refine ⟨hn, ?_, fun p hp => ?_⟩
  · intro z hz
    rw [hl]
    rcases List.mem_append.1 hz with hz | hz
    · have := h.vs z hz; omega
    · rw [List.mem_singleton] at hz; omega
  · rw [hl]
    exact (h.lo p hp).mono (by omega)
theorem numB_range {l : List UInt8} (h : numB l = true) : -1000000000 ≤ tval l ∧ tval l ≤ 1000000000 := by
  simp only [numB, Bool.and_eq_true, decide_eq_true_eq] at h
  exact h.1
theorem wordNd_ok {t : ByteArray} (h : wordOk t = true) (n : Nat) : nodeB (wordNd t) n = true := by
  unfold wordNd
  unfold wordOk at h
  by_cases h1 : isT t = true
  · rw [if_pos h1]; simp [nodeB, nameFB, partB, lo, hi, hasS, hasA, hasB]
  rw [if_neg h1]
  by_cases h2 : isF t = true
  · rw [if_pos h2]; simp [nodeB, nameFB, partB, lo, hi, hasS, hasA, hasB]
  rw [if_neg h2]
  by_cases h3 : numB t.data.toList = true
  · rw [if_pos h3]
    have := numB_range h3
    simp [nodeB, nameFB, partB, lo, hi, hasS, hasA, hasB]
    omega
  rw [if_neg h3]
  have h4 : nameB t = true := by simpa [h1, h2, h3] using h
  simp [nodeB, nameFB, partB, lo, hi, hasS, hasA, hasB, h4]
theorem Good.wordR {s s1 : RS} {t : ByteArray} {a : Int} (h : Good s) (e : wordR t a s = .ok s1) : Good s1 := by
  unfold Go.Proofs.YtmgjefkelohocaaDoor.wordR at e
  split at e
  · cases e; exact h
  split at e
  · rename_i hok
    cases e
    exact h.put [wordNd t] (by simp) (nodesB_snoc h.ns (wordNd_ok hok _))
  · cases e
theorem Good.mark {s s2 : RS} {b : Int} {i : Nat} (h : Good s) (e : rdMark b i s = .ok s2) : Good s2 := by
  unfold rdMark at e
  split at e
  · cases e; exact h
  split at e
  · cases e
    refine ⟨h.ns, fun z hz => by simp at hz, fun p hp => ?_⟩
    rcases List.mem_append.1 hp with hp | hp
    · exact h.lo p hp
    · rw [List.mem_singleton] at hp
      subst hp
      exact h.vs
  split at e
  · unfold rdClose at e
    split at e
    · cases e
    · rename_i q hq
      cases e
      have hm := List.mem_of_getLast? hq
      have h0 : Good ⟨s.ns, s.lo.dropLast, q.1, q.2⟩ := ⟨h.ns, h.lo q hm, fun p hp => h.lo p (List.dropLast_subset _ hp)⟩
      refine h0.put _ (by rw [more_length]; omega) ?_
      have := nodes_more s.ns s.vs h.ns h.vs s.vs.length (Nat.le_refl _)
      rwa [Nat.sub_self] at this
  · cases e
theorem rd_good {t : ByteArray} (f i : Nat) (s s' : RS) (hf : f ≤ i) (hi : i ≤ t.size) (h : Good s) (e : rd t f i s = .ok s') : Good s' := by
  induction hk : t.size - i generalizing f i s with
  | zero =>
    have hie : i = t.size := by omega
    subst hie
    rw [rd_stop hf] at e
    exact h.wordR e
  | succ k ih =>
    have hlt : i < t.size := by omega
    cases hw : wb (t[i].toNat : Int) with
    | true =>
      rw [rd_in hlt hw] at e
      exact ih f (i + 1) s (by omega) (by omega) h e (by omega)
    | false =>
      rw [rd_at hlt hw hf] at e
      cases h1 : wordR (t.extract f i) f s with
      | bad a b => rw [h1] at e; cases e
      | ok s1 =>
        rw [h1] at e
        change ((rdMark (t[i].toNat : Int) i s1).andThen fun s2 => rd t (i + 1) (i + 1) s2) = _ at e
        cases h2 : rdMark (t[i].toNat : Int) i s1 with
        | bad a b => rw [h2] at e; cases e
        | ok s2 =>
          rw [h2] at e
          exact ih (i + 1) (i + 1) s2 (Nat.le_refl _) (by omega) ((h.wordR h1).mark h2) e (by omega)
/-- Both sides read alike. -/
theorem readR_of {xs : List Nd} (t : ByteArray) (hp : poolB xs = true) : readR xs t = (match readE xs t with
    | .bad h p => (xs, [], h, p)
    | .ok s => (s.ns, s.vs, 0, (t.size : Int))) := by
  have hn : nodesB xs 0 = true := by simp only [poolB, Bool.and_eq_true] at hp; exact hp.2
  unfold readR readE
  rw [if_pos hp]
  by_cases h4 : t.size ≤ 400
  · rw [if_pos h4, if_pos h4]
    cases hr : rd t 0 0 ⟨xs, [], 0, []⟩ with
    | bad h p => rfl
    | ok s =>
      have hg := rd_good 0 0 _ s (Nat.le_refl _) (Nat.zero_le _) ⟨hn, fun z hz => by simp at hz, fun p hp => by simp at hp⟩ hr
      show (if s.lo = [] then _ else _) = (match (if s.lo = [] then _ else _ : RdR) with | .bad h p => _ | .ok s => _)
      by_cases hlo : s.lo = []
      · rw [if_pos hlo, if_pos hlo]
        by_cases h3 : s.ns.length ≤ 3000
        · rw [if_pos h3, if_pos (by unfold poolB; rw [hg.ns]; simpa using h3)]
        · rw [if_neg h3, if_neg (by unfold poolB; rw [hg.ns]; simpa using h3)]
      · rw [if_neg hlo, if_neg hlo]
  · rw [if_neg h4, if_neg h4]
end Go.Proofs.YtmgjefkelohocaaDoor

/-
  The contract of the draws' DrawWrite. No condition beyond how many bytes there are.
-/
namespace Go.Proofs.YtmgjefkelohocaaDoor
open Go.RowKit

theorem keep_set2 {w : World} {q b : Nat} {u v : Value} (h : w.cell? ⟨b, 0, none⟩ = some v) (hn : b ≠ q) : (w.setCell ⟨q, 0, none⟩ u).cell? ⟨b, 0, none⟩ = some v := by
  rw [World.cell?_of_block (heap_setCell_other w ⟨q, 0, none⟩ b u hn)]
  exact h
theorem pool_s {xs : List Nd} (hp : poolB xs = true) : ∀ x ∈ xs, x.s.size ≤ 12 := by
  intro x hx
  obtain ⟨i, hi, rfl⟩ := List.getElem_of_mem hx
  have h := pool_at hp (List.getElem?_eq_getElem hi)
  simp only [nodeB, Bool.and_eq_true] at h
  obtain ⟨_, ⟨hn, _⟩, _⟩ := h
  unfold nameFB at hn
  split at hn
  · simp only [nameB, Bool.and_eq_true, decide_eq_true_eq] at hn
    exact hn.1.2
  · have e : (xs[i].s).toList = [] := by simpa using hn
    rw [ByteArray.toList_eq] at e
    have := congrArg List.length e
    rw [Array.length_toList] at this
    have h0 : (xs[i].s).size = 0 := this
    omega
theorem readR_s {xs : List Nd} (t : ByteArray) (hp : poolB xs = true) : (readR xs t).1.length ≤ 3000 ∧ ∀ x ∈ (readR xs t).1, x.s.size ≤ 12 := by
  have l3 : ∀ {ys : List Nd}, poolB ys = true → ys.length ≤ 3000 := fun h => by simp only [poolB, Bool.and_eq_true, decide_eq_true_eq] at h; exact h.1
  unfold readR
  rw [if_pos hp]
  split
  · split
    · exact ⟨l3 hp, pool_s hp⟩
    · split
      · split
        · rename_i h; exact ⟨l3 h, pool_s h⟩
        · exact ⟨l3 hp, pool_s hp⟩
      · exact ⟨l3 hp, pool_s hp⟩
  · exact ⟨l3 hp, pool_s hp⟩

set_option maxRecDepth 100000 in
set_option maxHeartbeats 6400000 in
theorem dwrite_any (v : Value) (zs : List Int) (w : World) (R : Row w v zs) (hl : zs.length ≤ 1048576) :
    Calls Tryd.prog 18 #[v] w fun e w' => ∃ (v' : Value) (xs : List Nd) (x : Int), e = .returned (.tuple #[.agg #[v'], .int .i64 x]) ∧ xs.length ≤ 3001 ∧ (∀ x ∈ xs, x.s.size ≤ 40) ∧ w'.ownsRow w.heap.size 55 5 v' xs.length (ncs xs) ∧ Below w.heap.size w w' := by
  have hB0 : Below w.heap.size w (w.alloc (.cells #[.slice none 0 0] 26)) := (Below.refl _ _).alloc (Nat.le_refl _) _
  have hr0 : (w.alloc (.cells #[.slice none 0 0] 26)).heap[w.heap.size]? = some (.cells #[.slice none 0 0] 26 (0, 0)) := heap_alloc_new _ _
  have R0 := R.below hB0
  go_enter Tryd.func18, Tryd.ntmps18
  go_wp2_with fail
  generalize hA : w.alloc (Obj.cells #[Value.slice none 0 0] 26) = wA at hB0 hr0 R0 ⊢
  have hA1 : wA.heap.size = w.heap.size + 1 := by rw [← hA]; simp
  have HA1 : Hid (wA.heap.size = w.heap.size + 1) := hA1
  clear hA hA1
  refine (new_any v zs wA R0 hl).mono ?_
  rintro e w1 ⟨rfl, c1, b1⟩
  have hlr : w.heap.size < wA.heap.size := by rw [HA1.out]; omega
  have hP1 := c1.lt
  have hlrA := hlr
  generalize wA.heap.size = P at c1 hlr hP1 HA1 ⊢
  clear b1
  go_wp2_with fail
  refine (once_any wA v zs w1 P 4 c1 (by omega)).mono ?_
  rintro e w2 ⟨bb, rfl, c2, g2⟩
  clear c1 g2
  cases bb with
  | true =>
    go_wp2_with fail
    have R2 : Row w2 v zs := R0.below c2.2.1
    refine (dsizeof_any v zs w2 R2 hl).mono ?_
    rintro e w3 ⟨v3, xs, x, rfl, hxl, hz, ho3, hx0, hx1, hb3⟩
    obtain ⟨a3, q3, rfl⟩ := own_form ho3
    have hlt2 := c2.lt
    have hBA3 : Below wA.heap.size wA w3 := c2.2.1.trans (hb3.mono c2.2.1.size)
    have hq4 : (w3.alloc (.cells #[.slice a3 xs.length q3] 26)).heap[w3.heap.size]? = some (.cells #[.slice a3 xs.length q3] 26 (0, 0)) := heap_alloc_new _ _
    have hBA4 : Below wA.heap.size wA (w3.alloc (.cells #[.slice a3 xs.length q3] 26)) := hBA3.alloc hBA3.size _
    have ho4 := ho3.alloc (.cells #[.slice a3 xs.length q3] 26)
    have hr4 := (hBA4.block w.heap.size hlrA).trans hr0
    have hc4 : (w3.alloc (.cells #[.slice a3 xs.length q3] 26)).cell? ⟨w3.heap.size, 0, none⟩ = some (.slice a3 xs.length q3) := cell_of_row _ _ 0 _ _ _ hq4
    have hd4 : (w3.alloc (.cells #[.slice a3 xs.length q3] 26)).cell? ⟨w.heap.size, 0, none⟩ = some (.slice none 0 0) := cell_of_row _ _ 0 _ _ _ hr4
    have hf4 : (w3.alloc (.cells #[.slice a3 xs.length q3] 26)).frozen? ⟨w.heap.size, 0, none⟩ = false := frozen_of_row _ _ 0 _ _ hr4
    have hBB4 : Below w.heap.size w (w3.alloc (.cells #[.slice a3 xs.length q3] 26)) := hB0.trans (hBA4.mono hB0.size)
    obtain ⟨p1, p2, p3⟩ := put_pool hr4 ho4 hBB4 (by omega) (Nat.le_refl _)
    go_wp2_with fail
    exact bodyPost_ret (results_row_tmp rfl _ _ w.heap.size 26 _ (0, 0) _ rfl p1 Tryd.underlying26 rfl Tryd.sizeP) rfl ⟨_, xs, x, rfl, hxl, hz, p2, p3⟩
  | false =>
    go_wp2_with fail
    refine (dtext_any wA v zs P 4 (by omega) w2 c2).mono ?_
    rintro e w3 ⟨t, rfl, ht, c3, g3⟩
    have ht5 := tB_le (show 4 ≤ 4 by omega)
    clear c2 g3
    go_wp2_with fail
    refine (sread_any (.slice none 0 0) [] t w3 (NRow.nil w3) (by unfold maxLen; omega)).mono ?_
    rintro e w4 ⟨v4, vl, rfl, ho4, hl4, hb4⟩
    obtain ⟨hn3, hs3⟩ := readR_s (xs := []) t (by decide)
    generalize readR [] t = rr at *
    obtain ⟨ns, vs, how, place⟩ := rr
    dsimp only at *
    obtain ⟨a4, q4, rfl⟩ := own_form ho4
    obtain ⟨al, ql, rfl⟩ := own_form hl4
    have hP3 := c3.lt
    have hs43 := hb4.size
    have c5 := c3.kept ((hb4.mono (by omega)).trans ((Below.refl (P + 1) w4).alloc (by omega) (.cells #[.slice a4 ns.length q4] 26)))
    have hq5 : (w4.alloc (.cells #[.slice a4 ns.length q4] 26)).heap[w4.heap.size]? = some (.cells #[.slice a4 ns.length q4] 26 (0, 0)) := heap_alloc_new _ _
    have ho5 := ho4.alloc (.cells #[.slice a4 ns.length q4] 26)
    have hl5 := hl4.alloc (.cells #[.slice a4 ns.length q4] 26)
    clear c3 ho4 hl4 hb4
    go_upto_region 6 with fail
    generalize w4.alloc (.cells #[.slice a4 ns.length q4] 26) = w5 at *
    have hbP : P < w4.heap.size := by omega
    generalize w4.heap.size = b at *
    go_cut [9, 42] from 12 (fun s9 s42 wx => s9 = .int .i64 how ∧ ∃ bb : Bool, s42 = .bool bb ∧ (bb = true → 0 < vs.length) ∧ wx.heap[b]? = some (.cells #[.slice a4 ns.length q4] 26 (0, 0)) ∧ wx.ownsRow w3.heap.size 55 5 (.slice a4 ns.length q4) ns.length (ncs ns) ∧ wx.ownsRow w3.heap.size 3 1 (.slice al vs.length ql) vs.length (iv vs) ∧ Cur wA v zs wx P)
    case first =>
      by_cases h0 : how = 0
      · by_cases hv : 0 < vs.length
        · have hv' : (0 : Int) < vs.length := by omega
          go_wp2_with fail
          refine (once_any wA v zs _ P 2 c5 (by omega)).mono ?_
          rintro e w6 ⟨bb, rfl, c6, g6⟩
          have hq6 := (g6.block b (Array.getElem?_eq_some_iff.1 hq5).1 (by simp; omega)).trans hq5
          have ho6 := ho5.kept g6 (own_not ho5 (by omega))
          have hl6 := hl5.kept g6 (own_not hl5 (by omega))
          go_wp2_with fail
          go_meet
          case rel => exact ⟨by rw [h0], bb, rfl, fun _ => hv, hq6, ho6, hl6, c6⟩
        · have hv' : ¬ (0 : Int) < vs.length := by omega
          go_wp2_with fail
          go_meet
          case rel => exact ⟨by rw [h0], false, rfl, (fun h => by cases h), hq5, ho5, hl5, c5⟩
      · go_wp2_with fail
        go_meet
        case rel => exact ⟨rfl, false, rfl, (fun h => by cases h), hq5, ho5, hl5, c5⟩
    case rest =>
      obtain ⟨rfl, bb, rfl, hbb, hq6, ho6, hl6, c6⟩ := hcut
      obtain ⟨w6, hw6⟩ : ∃ w6, w6 = wc := ⟨_, rfl⟩
      subst hw6
      clear c5 hq5 ho5 hl5
      cases bb with
      | true =>
        have hv := hbb rfl
        have hv' : (0 : Int) < vs.length := by omega
        obtain ⟨z, hz0⟩ : ∃ z, vs[0]? = some z := ⟨vs[0], by simp [hv]⟩
        obtain ⟨gl, rfl, hgl, hgb⟩ : ∃ gl, al = some ⟨gl, 0, none⟩ ∧ w6.cell? ⟨gl, 0, none⟩ = some (.int .i64 z) ∧ w3.heap.size ≤ gl := by
          rcases hl6.2 with ⟨e1, hn⟩ | ⟨g, cap, cur, e1, hg, _⟩
          · omega
          · simp only [Value.slice.injEq, true_and] at e1
            obtain ⟨rfl, rfl⟩ := e1
            refine ⟨g, rfl, ?_, hg⟩
            have := hl6.cellAt 0 (by omega)
            rw [this]
            simp [iv, hz0]
        have hc6 : w6.cell? ⟨b, 0, none⟩ = some (.slice a4 ns.length q4) := cell_of_row w6 _ 0 _ _ _ hq6
        have hr6 := (c6.2.1.block w.heap.size hlrA).trans hr0
        have hd6 : w6.cell? ⟨w.heap.size, 0, none⟩ = some (.slice none 0 0) := cell_of_row _ _ 0 _ _ _ hr6
        have hf6 : w6.frozen? ⟨w.heap.size, 0, none⟩ = false := frozen_of_row _ _ 0 _ _ hr6
        have n1 : ¬ w.heap.size = b := by omega
        have n2 : ¬ b = w.heap.size := by omega
        have n3 : ¬ w.heap.size = gl := by omega
        have n4 : ¬ gl = w.heap.size := by omega
        have hBB6 : Below w.heap.size w w6 := hB0.trans (c6.2.1.mono hB0.size)
        obtain ⟨p1, p2, p3⟩ := put_pool hr6 ho6 hBB6 (by omega) (Nat.le_refl _)
        go_wp2_with fail
        go_region_held (fun w' => w'.cell? ⟨b, 0, none⟩ = some (.slice a4 ns.length q4) ∧ w'.cell? ⟨gl, 0, none⟩ = some (.int .i64 z)) (go_keep) (fail)
        all_goals
          go_wp2_with fail
          exact bodyPost_ret (results_row_tmp rfl _ _ w.heap.size 26 _ (0, 0) _ rfl p1 Tryd.underlying26 rfl Tryd.sizeP) rfl ⟨_, ns, z, rfl, by omega, fun x hx => Nat.le_trans (hs3 x hx) (by omega), p2, p3.drew⟩
      | false =>
        clear hq6 ho6 hl6 hbb
        go_wp2_with fail
        refine (ddraw_any wA v zs w6 P c6).mono ?_
        rintro e w7 ⟨v7, xs, rfl, hxl, hz, ho7, c7, g7⟩
        obtain ⟨a7, q7, rfl⟩ := own_form ho7
        have hb7 := c7.lt
        have hlt6 := c6.lt
        have c8 := c7.kept ((Below.refl (P + 1) w7).alloc (by omega) (.cells #[.slice a7 xs.length q7] 26))
        have hq8 : (w7.alloc (.cells #[.slice a7 xs.length q7] 26)).heap[w7.heap.size]? = some (.cells #[.slice a7 xs.length q7] 26 (0, 0)) := heap_alloc_new _ _
        have ho8 := ho7.alloc (.cells #[.slice a7 xs.length q7] 26)
        clear c7 g7 ho7 c6
        go_wp2_with fail
        generalize w7.alloc (.cells #[.slice a7 xs.length q7] 26) = w8 at *
        generalize w7.heap.size = b8 at *
        have hc8 : w8.cell? ⟨b8, 0, none⟩ = some (.slice a7 xs.length q7) := cell_of_row w8 _ 0 _ _ _ hq8
        have hlt8 := (Array.getElem?_eq_some_iff.1 hq8).1
        go_region_held (fun w' => w'.cell? ⟨b8, 0, none⟩ = some (.slice a7 xs.length q7)) (first | exact hc9 | exact keep_set2 hc9 (by omega) | go_keep) (first | (go_at_call 34; refine (ddrawat_any wA v zs _ P a7 xs.length q7 ?_ (by omega)).mono ?_; exact c8.kept ⟨rfl, rfl, rfl, Nat.le_refl _, fun _ _ => rfl⟩; rintro e w9 ⟨x, rfl, hx0, hx1, c9, g9⟩; have g9' : w8.grownBy w9 (some P) := ⟨g9.os, g9.tape, g9.output, g9.size, g9.block⟩; have hb9 := (g9'.block b8 hlt8 (by simp; omega)).trans hq8; have ho9 := ho8.kept g9' (own_not ho8 (by omega)); have hc9 : w9.cell? ⟨b8, 0, none⟩ = some (.slice a7 xs.length q7) := cell_of_row w9 b8 0 _ _ _ hb9; have hr9 : w9.heap[w.heap.size]? = some (.cells #[.slice none 0 0] 26 (0, 0)) := (c9.2.1.block _ (by omega)).trans hr0; have hd9 : w9.cell? ⟨w.heap.size, 0, none⟩ = some (.slice none 0 0) := cell_of_row w9 _ 0 _ _ _ hr9; have hf9 : w9.frozen? ⟨w.heap.size, 0, none⟩ = false := frozen_of_row w9 _ 0 _ _ hr9))
        all_goals
          have hBA : Below w.heap.size w w9 := hB0.trans (c9.2.1.mono hB0.size)
          obtain ⟨p1, p2, p3⟩ := put_pool hr9 ho9 hBA (by omega) (Nat.le_refl _)
          clear hd9 hf9 hc9 hc8
          go_wp2_with fail
          exact bodyPost_ret (results_row_tmp rfl _ _ w.heap.size 26 _ (0, 0) _ rfl p1 Tryd.underlying26 rfl Tryd.sizeP) rfl ⟨_, xs, x, rfl, hxl, hz, p2, p3⟩
end Go.Proofs.YtmgjefkelohocaaDoor
