/-
  Texts that stood by themselves, laid into one.
-/
import Derived.Test.YtbhfooafhbfniaaGreatDoorSClsM
import Derived.Test.YtbhfooafhbfniaaGreatDoorSAddM
import Derived.Test.YtbhfooafhbfniaaGreatDoorCyMathM
import Derived.Deep.RegionHeld
import Derived.Test.YtbhfooafhbfniaaGreatDoorRNodeM
import Derived.Test.YtbhfooafhbfniaaGreatDoorRVal2M
import Derived.Test.YtbhfooafhbfniaaGreatDoorBsM
/-
  Contracts of spec's l2Add and l2List once more: where the list is a row of the call's own.
-/
namespace Go.Proofs.YtbhfooafhbfniaaGreatDoor
open Go.RowKit
set_option maxHeartbeats 1600000 in
theorem sadd_more (b base : Nat) (ao : Option Addr) (cap : Nat) (xs : List Nd) (x : Nd) (w : World) (hb : w.heap[b]? = some (.cells #[.slice ao xs.length cap] 32 (0, 0))) (ho : w.ownsRow base 130 5 (.slice ao xs.length cap) xs.length (ncs xs))
    (hm : xs.length ≤ 2097152) (hbb : base ≤ b) :
    Calls Tryz.prog 148 #[.pointer (some ⟨b, 0, none⟩), .agg #[.int .i64 x.k, .int .i64 x.n, .string x.s, .int .i64 x.a, .int .i64 x.b]] w fun e w' =>
      ∃ v', e = .returned (.int .i64 xs.length) ∧ w'.heap[b]? = some (.cells #[v'] 32 (0, 0)) ∧ w'.ownsRow base 130 5 v' (xs ++ [x]).length (ncs (xs ++ [x])) ∧ Below base w w' ∧ (∀ k, k < w.heap.size → k ≠ b → (Value.slice ao xs.length cap).ownBlock ≠ some k → w'.heap[k]? = w.heap[k]?) := by
  obtain ⟨i0, hi, hz0, hz1, hz2⟩ := info_parts Tryz.infoN
  have hlt : b < w.heap.size := (Array.getElem?_eq_some_iff.1 hb).1
  have hcb : w.cell? ⟨b, 0, none⟩ = some (.slice ao xs.length cap) := by rw [cell_of_row w b 0 _ _ _ hb]; rfl
  have hne : b ≠ w.heap.size := by omega
  go_enter Tryz.func148, Tryz.ntmps148
  go_wp2_with fail
  go_region_law (refine step_append_lies _ rfl _ _ 30 rfl base 130 i0 _ 5 48 Tryz.underlying30 hi hz0 hz1 hz2 rfl (by decide) _ _ _ rfl ((ho.alloc _).alloc _) ⟨w.heap.size + 1, 0, none⟩ 1 1 (ncs [x]) rfl rfl (World.news_of_block (cs := #[.int .i64 x.k, .int .i64 x.n, .string x.s, .int .i64 x.a, .int .i64 x.b]) (t := 130) (fr := (0, 0)) (heap_alloc2_new w _ _)) (ncs_one _) (by omega) (by unfold maxLen; omega) (by omega) (by simp; omega) (w.heap.size + 2) (by simp) ?_; intro g capg w1 hown hgrow hat hgl; have hb1 : w1.heap[b]? = some (.cells #[.slice ao xs.length cap] 32 (0, 0)) := (hgrow.block b (by simp; omega) (fun e => own_ne ho hb (by decide) e.symm)).trans ((heap_alloc_old _ _ (by simp; omega)).trans ((heap_alloc_old _ _ hlt).trans hb)); have kb1 : w1.cell? ⟨b, 0, none⟩ = some (.slice ao xs.length cap) := cell_of_row w1 b 0 _ _ _ hb1; have fb1 : w1.frozen? ⟨b, 0, none⟩ = false := frozen_of_row w1 b 0 _ _ hb1)
  all_goals
    have hown2 : w1.ownsRow base 130 5 (.slice (some ⟨g, 0, none⟩) (xs.length + 1) capg) (xs ++ [x]).length (ncs (xs ++ [x])) := by
      rw [ncs_append, List.length_append]
      exact hown
    have hs0 : base ≤ w.heap.size := by omega
    have hB1 : Below base w w1 := (((Below.refl base w).alloc hs0 _).drew.alloc (by simp; omega) _).grown hgrow (by simp; omega) (fun k hk => (ho.lt k hk).1)
    have hB2 := hB1.setCell (p := ⟨b, 0, none⟩) hbb (.slice (some ⟨g, 0, none⟩) (xs.length + 1) capg)
    have ho2 := ownsRow_setCell_other hown2 (a := ⟨b, 0, none⟩) (own_ne hown2 hb1 (by decide)) (.slice (some ⟨g, 0, none⟩) (xs.length + 1) capg)
    have hb2 := heap_setCell_same w1 b 0 _ _ (.slice (some ⟨g, 0, none⟩) (xs.length + 1) capg) hb1
    have hk2 : ∀ k, k < w.heap.size → k ≠ b → (Value.slice ao xs.length cap).ownBlock ≠ some k → (w1.setCell ⟨b, 0, none⟩ (.slice (some ⟨g, 0, none⟩) (xs.length + 1) capg)).heap[k]? = w.heap[k]? := fun k hk hkb hko => by
      rw [heap_setCell_other w1 ⟨b, 0, none⟩ k _ (fun e => hkb e), hgrow.block k (by simp; omega) (fun e => hko e.symm)]
      exact (heap_alloc_old _ _ (by simp; omega)).trans (heap_alloc_old _ _ hk)
    clear hown hgrow hat hcb hb
    go_wp2
    go_ret
    exact ⟨_, by simp, hb2, ho2, hB2, hk2⟩
theorem own_same {w w' : World} {B k n : Nat} {e : TypeId} {v : Value} {l : List Value} (h : w.ownsRow B e k v n l) (hb : ∀ j, v.ownBlock = some j → w'.heap[j]? = w.heap[j]?) : w'.ownsRow B e k v n l := by
  refine ⟨h.1, ?_⟩
  rcases h.2 with ⟨rfl, h0⟩ | ⟨g, cap, cur, rfl, hB, hg, hr⟩
  · exact Or.inl ⟨rfl, h0⟩
  · exact Or.inr ⟨g, cap, cur, rfl, hB, (hb g rfl).trans hg, hr⟩
end Go.Proofs.YtbhfooafhbfniaaGreatDoor
/-
  Contract of spec's l7Into: the nodes that are told go behind a pool, in place. Conditions: they are of a right pool, that is told of whole.
-/
namespace Go.Proofs.YtbhfooafhbfniaaGreatDoor
open Go.RowKit
theorem Tryz.infoI9 : (Tryz.prog.info? 3).map (fun i => (i.zero, i.size, i.bytes)) = some (some (.int .i64 0), 1, 8) := by kernel_rfl
theorem own_at {w w' : World} {B : Nat} {e : TypeId} {k n : Nat} {v : Value} {xs : List Value} (h : w.ownsRow B e k v n xs) (hs : ∀ g, v.ownBlock = some g → w'.heap[g]? = w.heap[g]?) : w'.ownsRow B e k v n xs := by
  rcases h.2 with ⟨rfl, h0⟩ | ⟨g, cap, cur, rfl, hB, hg, r⟩
  · exact ⟨h.1, .inl ⟨rfl, h0⟩⟩
  · exact ⟨h.1, .inr ⟨g, cap, cur, rfl, hB, (hs g rfl).trans hg, r⟩⟩
theorem own_cells {w : World} {B : Nat} {e : TypeId} {k n : Nat} {v : Value} {xs : List Value} (h : w.ownsRow B e k v n xs) (g : Nat) (hg : v.ownBlock = some g) : ∃ c, w.heap[g]? = some (.cells c e (0, 0)) := by
  rcases h.2 with ⟨rfl, h0⟩ | ⟨g', cap, cur, rfl, hB, hg', r⟩
  · cases hg
  · simp only [Value.ownBlock, Option.some.injEq] at hg
    subst hg
    exact ⟨_, hg'⟩
def IntoS (w0 : World) (b base Q T N : Nat) (pv vt : Value) (L : List Nd) (S2 : List Int) (bs : List Bool) (qv : Value) (w : World) : Prop :=
  w.heap[b]? = some (.cells #[pv] 32 (0, 0)) ∧ w.ownsRow base 130 5 pv L.length (ncs L) ∧ w.ownsRow T 3 1 (.slice (some ⟨T, 0, none⟩) N N) N (iv S2) ∧ w.ownsRow base 4 1 vt N (vb bs) ∧ w.heap[Q]? = some (.cells #[qv] 32 (0, 0)) ∧ Below base w0 w
theorem IntoS.below {w0 : World} {b base Q T N : Nat} {pv vt : Value} {L : List Nd} {S2 : List Int} {bs : List Bool} {qv : Value} {w w' : World} (h : IntoS w0 b base Q T N pv vt L S2 bs qv w) (hw : base ≤ w.heap.size) (hb : Below w.heap.size w w') : IntoS w0 b base Q T N pv vt L S2 bs qv w' :=
  ⟨(hb.block b (Array.getElem?_eq_some_iff.1 h.1).1).trans h.1, own_below h.2.1 hb, own_below h.2.2.1 hb, own_below h.2.2.2.1 hb, (hb.block Q (Array.getElem?_eq_some_iff.1 h.2.2.2.2.1).1).trans h.2.2.2.2.1, h.2.2.2.2.2.trans (hb.mono hw)⟩
theorem into_add {w0 : World} {b base Q T N : Nat} {ap : Option Addr} {cp : Nat} {vt : Value} {L : List Nd} {S2 : List Int} {bs : List Bool} {qv : Value} {w : World} (y : Nd) (h : IntoS w0 b base Q T N (.slice ap L.length cp) vt L S2 bs qv w) (hL : L.length ≤ 2097152) (hbb : base ≤ b) (hbQ : b ≠ Q) :
    Calls Tryz.prog 148 #[.pointer (some ⟨b, 0, none⟩), .agg #[.int .i64 y.k, .int .i64 y.n, .string y.s, .int .i64 y.a, .int .i64 y.b]] w fun e w' => ∃ v', e = .returned (.int .i64 L.length) ∧ IntoS w0 b base Q T N v' vt (L ++ [y]) S2 bs qv w' := by
  obtain ⟨h1, h2, h3, h4, h5, h6⟩ := h
  refine (sadd_more b base ap cp L y w h1 h2 hL hbb).mono ?_
  rintro e w' ⟨v', rfl, hb', ho', hB', hk⟩
  have keep : ∀ (t : TypeId) (c : Array Value) (g : Nat), t ≠ 130 → g ≠ b → w.heap[g]? = some (.cells c t (0, 0)) → w'.heap[g]? = w.heap[g]? := fun t c g ht hg hw => hk g (Array.getElem?_eq_some_iff.1 hw).1 hg (own_ne h2 hw ht)
  refine ⟨v', rfl, hb', ho', own_at h3 (fun g hg => ?_), own_at h4 (fun g hg => ?_), (keep _ _ _ (by decide) (Ne.symm hbQ) h5).trans h5, h6.trans hB'⟩
  · obtain ⟨c, hc⟩ := own_cells h3 g hg
    refine keep _ _ _ (by decide) (fun e => ?_) hc
    subst e; rw [h1] at hc; injection hc with x1; injection x1 with _ x2 _; exact absurd x2 (by decide)
  · obtain ⟨c, hc⟩ := own_cells h4 g hg
    refine keep _ _ _ (by decide) (fun e => ?_) hc
    subst e; rw [h1] at hc; injection hc with x1; injection x1 with _ x2 _; exact absurd x2 (by decide)
theorem IntoS.put {w0 : World} {b base Q T N : Nat} {pv vt : Value} {L : List Nd} {S2 : List Int} {bs : List Bool} {qv : Value} {w : World} (h : IntoS w0 b base Q T N pv vt L S2 bs qv w) (k : Nat) (z : Int) (hT : base ≤ T) (hbT : b ≠ T) (hQT : Q ≠ T) : IntoS w0 b base Q T N pv vt L (S2.set k z) bs qv (w.setCell ⟨T, k, none⟩ (.int .i64 z)) := by
  obtain ⟨h1, h2, h3, h4, h5, h6⟩ := h
  obtain ⟨c, hc⟩ := own_cells h3 T rfl
  have hs := (h3.stored k (.int .i64 z)).1
  rw [iv_set] at hs
  refine ⟨(Below.heap_setCell _ _ _ _ hbT).trans h1, own_at h2 (fun g hg => Below.heap_setCell _ _ _ _ (fun e => ?_)), hs, own_at h4 (fun g hg => Below.heap_setCell _ _ _ _ (fun e => ?_)), (Below.heap_setCell _ _ _ _ hQT).trans h5, h6.setCell (p := ⟨T, k, none⟩) hT _⟩
  · obtain ⟨c', hc'⟩ := own_cells h2 g hg
    simp only at e
    rw [e, hc] at hc'; injection hc' with x1; injection x1 with _ x2 _; exact absurd x2 (by decide)
  · obtain ⟨c', hc'⟩ := own_cells h4 g hg
    simp only at e
    rw [e, hc] at hc'; injection hc' with x1; injection x1 with _ x2 _; exact absurd x2 (by decide)
set_option maxRecDepth 100000 in
set_option maxHeartbeats 3200000 in
theorem sinto_any (b base : Nat) (ap : Option Addr) (cp : Nat) (ps xs : List Nd) (bs : List Bool) (ao : Option Addr) (cap : Nat) (vt : Value) (w0 w : World) (hb : w.heap[b]? = some (.cells #[.slice ap ps.length cp] 32 (0, 0))) (ho : w.ownsRow base 130 5 (.slice ap ps.length cp) ps.length (ncs ps)) (hbb : base ≤ b)
    (R : NRow w0 (.slice ao xs.length cap) xs) (hw0 : w0.heap.size ≤ base) (h0 : Below base w0 w) (hoT : w.ownsRow base 4 1 vt xs.length (vb bs)) (hbl : bs.length = xs.length) (hp : poolB xs = true) (hps : ps.length ≤ 3001) :
    Calls Tryz.prog 129 #[.pointer (some ⟨b, 0, none⟩), .agg #[.slice ao xs.length cap], vt] w fun e w' => ∃ v' vp, e = .returned v' ∧ w'.heap[b]? = some (.cells #[vp] 32 (0, 0)) ∧ w'.ownsRow base 130 5 vp (ps ++ (mvAll ps.length xs bs).1).length (ncs (ps ++ (mvAll ps.length xs bs).1)) ∧ w'.ownsRow base 3 1 v' xs.length (iv (mvAll ps.length xs bs).2) ∧ Below base w0 w' := by
  have hlen := poolB_len hp
  obtain ⟨i0, hi, hz0, hz1, hz2⟩ := info_parts Tryz.infoI9
  have hbytes : i0.bytes * xs.length ≤ 281474976710656 := by rw [hz2]; omega
  have hmax : xs.length ≤ maxLen := by unfold maxLen; omega
  have hbw := (Array.getElem?_eq_some_iff.1 hb).1
  have hB1 : Below w.heap.size w (w.alloc (Obj.cells #[.slice ao xs.length cap] 32)) := (Below.refl _ _).alloc (Nat.le_refl _) _
  have hq1 := heap_alloc_new w (Obj.cells #[.slice ao xs.length cap] 32)
  obtain ⟨at', qt, rfl⟩ := own_form hoT
  go_enter Tryz.func129, Tryz.ntmps129
  go_wp2_with (at_make; refine wpList_make_full _ rfl _ _ 157 rfl (w.heap.size + 1) 3 i0 (.int .i64 0) 1 Tryz.underlying157 hi hz0 hz1 _ _ _ _ xs.length rfl rfl rfl rfl hbytes hmax (by simp) ?_)
  intro w1 hown hgrow
  have hB2 : Below w.heap.size w w1 := hB1.grown hgrow (by simp) (by intro k hk; cases hk)
  have hS0 : IntoS w0 b base w.heap.size (w.heap.size + 1) xs.length (.slice ap ps.length cp) (.slice at' xs.length qt) ps (List.replicate xs.length 0) bs (.slice ao xs.length cap) w1 := by
    refine ⟨(hB2.block b hbw).trans hb, own_below ho hB2, ?_, own_below hoT hB2, (hgrow.block _ (by simp) (by simp)).trans hq1, h0.trans (hB2.mono (by omega))⟩
    have e : iv (List.replicate xs.length 0) = (madeCells #[Value.int .i64 0] xs.length).toList := by rw [toList_madeCells_one]; simp [iv]
    rw [e]
    simpa using hown
  have HA : Hid (mvAll ps.length xs bs = (its (xs.drop 0) bs 0).foldl (mvS ps.length) ([], List.replicate xs.length 0)) := rfl
  clear hgrow hown hbytes hmax hB1 hq1 hb ho hoT h0
  go_wp2_with fail
  go_loopw [8] (fun i wr => ∃ (k : Nat) (S1 : List Nd) (S2 : List Int) (ap' : Option Addr) (cp' : Nat), k ≤ xs.length ∧ i = .int .i64 k ∧ Hid (mvAll ps.length xs bs = (its (xs.drop k) bs k).foldl (mvS ps.length) (S1, S2)) ∧ S1.length ≤ k ∧ S2.length = xs.length ∧ w.heap.size + 1 < wr.heap.size ∧ IntoS w0 b base w.heap.size (w.heap.size + 1) xs.length (.slice ap' (ps ++ S1).length cp') (.slice at' xs.length qt) (ps ++ S1) S2 bs (.slice ao xs.length cap) wr) (fun i _ => xs.length - (intOf i).toNat)
  case atStart => exact ⟨0, [], List.replicate xs.length 0, ap, cp, by omega, rfl, HA, by simp, by simp, (hS0.2.2.1.lt _ rfl).2, by rw [List.append_nil]; exact hS0⟩
  case round =>
    clear hS0 HA hB2
    obtain ⟨k, S1, S2, ap', cp', hk, rfl, HM, hl1, hl2, hTw, hS⟩ := hrel
    have hS' := hS
    obtain ⟨hb, ho, hoI, hoT, hq, h0⟩ := hS'
    have cq : wr.cell? ⟨w.heap.size, 0, none⟩ = some (.slice ao xs.length cap) := by rw [cell_of_row wr _ 0 _ _ _ hq]; rfl
    by_cases hlt : k < xs.length
    · obtain ⟨ao', cap', e', _, _, hz, hcell⟩ := R
      simp only [Value.slice.injEq, true_and] at e'
      obtain ⟨rfl, rfl⟩ := e'
      obtain ⟨g, o, rfl, hg, hcell⟩ := hcell (by intro e; subst e; simp at hlt)
      obtain ⟨x, hx⟩ : ∃ x, xs[k]? = some x := ⟨xs[k], by simp⟩
      obtain ⟨c0, c1, c2, c3, c4⟩ := (hcell k x hx).below h0 (by omega)
      have hnb := poolB_at hp hx
      have HI := its_at xs bs k x hx
      rcases hoT.2 with ⟨hnil, hn0⟩ | ⟨gt, capt, curt, et, hBt, hgt, _⟩
      · omega
      simp only [Value.slice.injEq, true_and] at et
      obtain ⟨rfl, rfl⟩ := et
      have e0 := hoT.cellAt k (by omega)
      rw [vb_get _ _ (by omega)] at e0
      cases hbk : bs.getD k false with
      | false =>
        rw [hbk] at e0 HI
        have HM2 : Hid (mvAll ps.length xs bs = (its (xs.drop (k + 1)) bs (k + 1)).foldl (mvS ps.length) (S1, S2)) := by unfold Hid; rw [HM.out, HI]; rfl
        clear HM HI hcell hx hnb
        go_wp2_with fail
        go_roundw
        case rel => exact ⟨k + 1, S1, S2, ap', cp', by omega, by go_num, HM2, by omega, hl2, hTw, hS⟩
        case measure => simp [intOf]; omega
      | true =>
        rw [hbk] at e0 HI
        have hwb : base ≤ wr.heap.size := Nat.le_trans hbb (Nat.le_of_lt (Array.getElem?_eq_some_iff.1 hb).1)
        have hbQ : b ≠ w.heap.size := by omega
        have SA : ∀ (y : Nd) (Wc : World), Below wr.heap.size wr Wc → Calls Tryz.prog 148 #[.pointer (some ⟨b, 0, none⟩), .agg #[.int .i64 y.k, .int .i64 y.n, .string y.s, .int .i64 y.a, .int .i64 y.b]] Wc fun e w' => ∃ v', e = .returned (.int .i64 (ps ++ S1).length) ∧ IntoS w0 b base w.heap.size (w.heap.size + 1) xs.length v' (.slice (some ⟨gt, 0, none⟩) xs.length qt) ((ps ++ S1) ++ [y]) S2 bs (.slice (some ⟨g, o, none⟩) xs.length cap) w' := fun y Wc hc => into_add y (hS.below hwb hc) (by simp; omega) hbb hbQ
        have HM2 : Hid (mvAll ps.length xs bs = (its (xs.drop (k + 1)) bs (k + 1)).foldl (mvS ps.length) (S1 ++ [nrm S2 x], S2.set k ((ps.length + S1.length : Nat) : Int))) := by unfold Hid; rw [HM.out, HI]; rfl
        have hcI := fun (j : Nat) (hj : j < xs.length) => (hoI.cellAt j (by omega)).trans (iv_get S2 j (by omega))
        have kAB := hasA_kinds x.k
        have hA : hasA x.k = true → 0 ≤ x.a ∧ x.a < (k : Int) := fun h => nodeB_A hnb h
        have hBb : hasB x.k = true → 0 ≤ x.b ∧ x.b < (k : Int) := fun h => nodeB_B hnb h
        have hne1 : w.heap.size + 1 ≠ wr.heap.size := by omega
        clear HM HI hcell hx hnb hS ho hoI hoT hgt
        by_cases h5 : x.k = 5
        · have h5A := kAB.1.2 (Or.inl h5)
          have h5B := kAB.2.2 h5
          obtain ⟨ha1, ha2⟩ := hA h5A
          obtain ⟨na, hna⟩ := Int.eq_ofNat_of_zero_le ha1
          obtain ⟨hb1, hb2⟩ := hBb h5B
          obtain ⟨nb', hnb'⟩ := Int.eq_ofNat_of_zero_le hb1
          have ea := hcI na (by omega)
          have eb := hcI nb' (by omega)
          have HNr : Hid (nrm S2 x = ⟨x.k, x.n, x.s, S2.getD na 0, S2.getD nb' 0⟩) := by unfold Hid nrm; rw [h5A, h5B, hna, hnb']; rfl
          rw [HNr.out, h5] at HM2
          rw [h5] at c0
          rw [hna] at c3 ha2
          rw [hnb'] at c4 hb2
          generalize S2.getD na 0 = fa at *
          generalize S2.getD nb' 0 = fb at *
          clear hA hBb kAB hcI
          go_wp2_with fail
          refine (SA ⟨5, x.n, x.s, fa, fb⟩ _ ?_).mono ?_
          · first | exact (Below.refl wr.heap.size wr).alloc (Nat.le_refl _) _ | exact ((Below.refl wr.heap.size wr).alloc (Nat.le_refl _) _).setCell (Nat.le_refl _) _ | exact (((Below.refl wr.heap.size wr).alloc (Nat.le_refl _) _).setCell (Nat.le_refl _) _).setCell (Nat.le_refl _) _
          rintro e w6 ⟨v6, rfl, hS6⟩
          obtain ⟨a6, q6, rfl⟩ := own_form hS6.2.1
          have hT6 := (hS6.2.2.1.lt _ rfl).2
          have e6 := (hS6.2.2.1.cellAt k (by omega)).trans (iv_get S2 k (by omega))
          have f6 := hS6.2.2.1.frozenAt k
          have hS7 := hS6.put k ((ps.length + S1.length : Nat) : Int) (by omega) (by omega) (by omega)
          rw [List.append_assoc] at hS7
          clear hS6 SA
          go_wp2_with fail
          go_roundw
          case rel => exact ⟨k + 1, S1 ++ [⟨5, x.n, x.s, fa, fb⟩], S2.set k ((ps.length + S1.length : Nat) : Int), a6, q6, by omega, by go_num, HM2, by simp; omega, by simpa using hl2, by simpa [World.setCell] using hT6, by simpa using hS7⟩
          case measure => simp [intOf]; omega
        have h5b : (x.k == 5) = false := by simp [h5]
        have hBf : hasB x.k = false := by cases h : hasB x.k with | false => rfl | true => exact absurd (kAB.2.1 h) h5
        by_cases h67 : x.k = 6 ∨ x.k = 7
        · have h6A := kAB.1.2 (Or.inr h67)
          obtain ⟨ha1, ha2⟩ := hA h6A
          obtain ⟨na, hna⟩ := Int.eq_ofNat_of_zero_le ha1
          have ea := hcI na (by omega)
          have HNr : Hid (nrm S2 x = ⟨x.k, x.n, x.s, S2.getD na 0, x.b⟩) := by unfold Hid nrm; rw [h6A, hBf, hna]; rfl
          rw [HNr.out] at HM2
          rw [hna] at c3 ha2
          generalize S2.getD na 0 = fa at *
          clear hA hBb kAB hcI
          rcases h67 with h6 | h6
          · rw [h6] at c0 HM2
            go_wp2_with fail
            refine (SA ⟨6, x.n, x.s, fa, x.b⟩ _ ?_).mono ?_
            · first | exact (Below.refl wr.heap.size wr).alloc (Nat.le_refl _) _ | exact ((Below.refl wr.heap.size wr).alloc (Nat.le_refl _) _).setCell (Nat.le_refl _) _ | exact (((Below.refl wr.heap.size wr).alloc (Nat.le_refl _) _).setCell (Nat.le_refl _) _).setCell (Nat.le_refl _) _
            rintro e w6 ⟨v6, rfl, hS6⟩
            obtain ⟨a6, q6, rfl⟩ := own_form hS6.2.1
            have hT6 := (hS6.2.2.1.lt _ rfl).2
            have e6 := (hS6.2.2.1.cellAt k (by omega)).trans (iv_get S2 k (by omega))
            have f6 := hS6.2.2.1.frozenAt k
            have hS7 := hS6.put k ((ps.length + S1.length : Nat) : Int) (by omega) (by omega) (by omega)
            rw [List.append_assoc] at hS7
            clear hS6 SA
            go_wp2_with fail
            go_roundw
            case rel => exact ⟨k + 1, S1 ++ [⟨6, x.n, x.s, fa, x.b⟩], S2.set k ((ps.length + S1.length : Nat) : Int), a6, q6, by omega, by go_num, HM2, by simp; omega, by simpa using hl2, by simpa [World.setCell] using hT6, by simpa using hS7⟩
            case measure => simp [intOf]; omega
          · rw [h6] at c0 HM2
            go_wp2_with fail
            refine (SA ⟨7, x.n, x.s, fa, x.b⟩ _ ?_).mono ?_
            · first | exact (Below.refl wr.heap.size wr).alloc (Nat.le_refl _) _ | exact ((Below.refl wr.heap.size wr).alloc (Nat.le_refl _) _).setCell (Nat.le_refl _) _ | exact (((Below.refl wr.heap.size wr).alloc (Nat.le_refl _) _).setCell (Nat.le_refl _) _).setCell (Nat.le_refl _) _
            rintro e w6 ⟨v6, rfl, hS6⟩
            obtain ⟨a6, q6, rfl⟩ := own_form hS6.2.1
            have hT6 := (hS6.2.2.1.lt _ rfl).2
            have e6 := (hS6.2.2.1.cellAt k (by omega)).trans (iv_get S2 k (by omega))
            have f6 := hS6.2.2.1.frozenAt k
            have hS7 := hS6.put k ((ps.length + S1.length : Nat) : Int) (by omega) (by omega) (by omega)
            rw [List.append_assoc] at hS7
            clear hS6 SA
            go_wp2_with fail
            go_roundw
            case rel => exact ⟨k + 1, S1 ++ [⟨7, x.n, x.s, fa, x.b⟩], S2.set k ((ps.length + S1.length : Nat) : Int), a6, q6, by omega, by go_num, HM2, by simp; omega, by simpa using hl2, by simpa [World.setCell] using hT6, by simpa using hS7⟩
            case measure => simp [intOf]; omega
        · have h6b : (x.k == 6) = false := by simp; intro e; exact h67 (Or.inl e)
          have h7b : (x.k == 7) = false := by simp; intro e; exact h67 (Or.inr e)
          have hAf : hasA x.k = false := by cases h : hasA x.k with | false => rfl | true => rcases kAB.1.1 h with e | e | e; exact absurd e h5; exact absurd (Or.inl e) h67; exact absurd (Or.inr e) h67
          have HNr : Hid (nrm S2 x = ⟨x.k, x.n, x.s, x.a, x.b⟩) := by unfold Hid nrm; rw [hAf, hBf]; rfl
          rw [HNr.out] at HM2
          clear hA hBb kAB hcI
          go_wp2_with fail
          refine (SA ⟨x.k, x.n, x.s, x.a, x.b⟩ _ ?_).mono ?_
          · first | exact (Below.refl wr.heap.size wr).alloc (Nat.le_refl _) _ | exact ((Below.refl wr.heap.size wr).alloc (Nat.le_refl _) _).setCell (Nat.le_refl _) _
          rintro e w6 ⟨v6, rfl, hS6⟩
          obtain ⟨a6, q6, rfl⟩ := own_form hS6.2.1
          have hT6 := (hS6.2.2.1.lt _ rfl).2
          have e6 := (hS6.2.2.1.cellAt k (by omega)).trans (iv_get S2 k (by omega))
          have f6 := hS6.2.2.1.frozenAt k
          have hS7 := hS6.put k ((ps.length + S1.length : Nat) : Int) (by omega) (by omega) (by omega)
          rw [List.append_assoc] at hS7
          clear hS6 SA
          go_wp2_with fail
          go_roundw
          case rel => exact ⟨k + 1, S1 ++ [⟨x.k, x.n, x.s, x.a, x.b⟩], S2.set k ((ps.length + S1.length : Nat) : Int), a6, q6, by omega, by go_num, HM2, by simp; omega, by simpa using hl2, by simpa [World.setCell] using hT6, by simpa using hS7⟩
          case measure => simp [intOf]; omega
    · have hke : k = xs.length := by omega
      subst hke
      have HE : Hid (mvAll ps.length xs bs = (S1, S2)) := by unfold Hid; rw [HM.out, its_end]; rfl
      go_wp2_with fail
      go_ret
      rw [HE.out]
      exact ⟨_, _, rfl, hb, ho, own_mono hoI (by omega), h0⟩
end Go.Proofs.YtbhfooafhbfniaaGreatDoor
/-
  Contract of impl's Keep. No condition but that the roots are no more than a row bears.
-/
namespace Go.Proofs.YtbhfooafhbfniaaGreatDoor
open Go.RowKit
def keepL (xs : List Nd) (rs : List Int) : List Nd := if poolB xs && allI xs rs then mvN 0 xs rs else []
def keepR (xs : List Nd) (rs : List Int) : List Int := if poolB xs && allI xs rs then mvR 0 xs rs rs else []
end Go.Proofs.YtbhfooafhbfniaaGreatDoor
/-
  Contracts of spec's l7Keep and Keep. Conditions of l7Keep: the pool is right, and all roots are nodes of it.
-/
namespace Go.Proofs.YtbhfooafhbfniaaGreatDoor
open Go.RowKit
theorem drew_step {w w' : World} (h : Below w.drew.heap.size w.drew w') : Below w.heap.size w w' := (Below.refl w.heap.size w).drew.trans h
set_option maxRecDepth 100000 in
set_option maxHeartbeats 3200000 in
theorem slkeep_any (ao : Option Addr) (cap : Nat) (vl : Value) (xs : List Nd) (rs : List Int) (w : World) (R : NRow w (.slice ao xs.length cap) xs) (L : IRow w vl rs) (hp : poolB xs = true) (hr : allI xs rs = true) (hrs : rs.length ≤ 1048576) :
    Calls Tryz.prog 116 #[.agg #[.slice ao xs.length cap], vl] w fun e w' => ∃ v1 v2, e = .returned (.tuple #[.agg #[v1], v2]) ∧ w'.ownsRow w.heap.size 130 5 v1 (mvN 0 xs rs).length (ncs (mvN 0 xs rs)) ∧ w'.ownsRow w.heap.size 3 1 v2 rs.length (iv (mvR 0 xs rs rs)) ∧ Below w.heap.size w w' := by
  obtain ⟨i0, hi, hz0, hz1, hz2⟩ := info_parts Tryz.infoI9
  have hlen := poolB_len hp
  have hB2 : Below w.heap.size w ((w.alloc (Obj.cells #[.slice ao xs.length cap] 32)).alloc (Obj.cells #[.slice none 0 0] 32)) := below2 w _ _
  have hs2 : ((w.alloc (Obj.cells #[.slice ao xs.length cap] 32)).alloc (Obj.cells #[.slice none 0 0] 32)).heap.size = w.heap.size + 1 + 1 := by simp
  have hx2 := old2 w (Obj.cells #[.slice ao xs.length cap] 32) (Obj.cells #[.slice none 0 0] 32)
  have hy2 := heap_alloc2_new w (Obj.cells #[.slice ao xs.length cap] 32) (Obj.cells #[.slice none 0 0] 32)
  have hrl := reachL_length xs rs
  go_enter Tryz.func116, Tryz.ntmps116
  go_wp2_with fail
  have hb3 := heap_alloc_new ((w.alloc (Obj.cells #[.slice ao xs.length cap] 32)).alloc (Obj.cells #[.slice none 0 0] 32)) (Obj.cells #[.slice none 0 0] 32)
  have h23 : Below (w.heap.size + 1 + 1) ((w.alloc (Obj.cells #[.slice ao xs.length cap] 32)).alloc (Obj.cells #[.slice none 0 0] 32)) (((w.alloc (Obj.cells #[.slice ao xs.length cap] 32)).alloc (Obj.cells #[.slice none 0 0] 32)).alloc (Obj.cells #[.slice none 0 0] 32)) := (Below.refl _ _).alloc (by rw [hs2]; exact Nat.le_refl _) _
  have hs3 : (((w.alloc (Obj.cells #[.slice ao xs.length cap] 32)).alloc (Obj.cells #[.slice none 0 0] 32)).alloc (Obj.cells #[.slice none 0 0] 32)).heap.size = w.heap.size + 1 + 1 + 1 := by simp
  rw [hs2] at hb3
  generalize ((w.alloc (Obj.cells #[.slice ao xs.length cap] 32)).alloc (Obj.cells #[.slice none 0 0] 32)).alloc (Obj.cells #[.slice none 0 0] 32) = W3 at *
  generalize (w.alloc (Obj.cells #[.slice ao xs.length cap] 32)).alloc (Obj.cells #[.slice none 0 0] 32) = W2 at *
  have hB3 := hB2.trans (h23.mono (by omega))
  have R2 := R.below hB2
  have k3 : W3.cell? ⟨w.heap.size, 0, none⟩ = some (.slice ao xs.length cap) := by rw [cell_of_row W3 _ 0 _ _ _ ((h23.block _ (by omega)).trans hx2)]; rfl
  have hl3 : w.heap.size < W3.heap.size := by omega
  go_region_held (fun w' => w'.cell? ⟨w.heap.size, 0, none⟩ = some (.slice ao xs.length cap)) (first | exact k5 | exact k4 | go_keep) (first
    | (go_at_call 130; refine (slreach_any ao cap vl xs rs _ ?_ ?_ hp hr).mono ?_; exact R.below hB3.drew; exact L.below hB3.drew; rintro e wk ⟨vk, rfl, hok, hbk⟩; obtain ⟨aok, capk, rfl⟩ := own_form hok
       have hb34 : Below W3.heap.size W3 wk := drew_step hbk
       have k4 := (hb34.cell (p := ⟨w.heap.size, 0, none⟩) hl3).trans k3)
    | (go_at_call 129; refine (sinto_any (w.heap.size + 1 + 1) (w.heap.size + 1 + 1) none 0 [] xs (reachL xs rs) ao cap _ W2 _ ((hb34.block _ (by omega)).trans hb3) (World.ownsRow_nil _ _ _ _) (Nat.le_refl _) R2 (by omega) (h23.trans (hb34.mono (by omega))) (own_mono hok (by show w.heap.size + 1 + 1 ≤ W3.heap.size; omega)) hrl hp (by simp)).mono ?_; rintro e w5 ⟨v5, vp, rfl, hb5, ho5, hi5, hB5⟩; obtain ⟨a5, q5, rfl⟩ := own_form hi5
       have k5 : w5.cell? ⟨w.heap.size, 0, none⟩ = some (.slice ao xs.length cap) := by rw [cell_of_row w5 _ 0 _ _ _ ((hB5.block _ (by omega)).trans hx2)]; rfl))
  have HN : Hid (mvN 0 xs rs = (mvAll 0 xs (reachL xs rs)).1) := rfl
  have HR : Hid (mvR 0 xs rs rs = rs.map (fun r => (mvAll 0 xs (reachL xs rs)).2.getD r.toNat 0)) := rfl
  have hl2 : (mvAll 0 xs (reachL xs rs)).2.length = xs.length := (mvF_len _ _ _).2
  rw [List.nil_append] at ho5
  rw [show ([] : List Nd).length = 0 from rfl] at ho5 hi5
  generalize mvAll 0 xs (reachL xs rs) = M at *
  obtain ⟨S1, S2⟩ := M
  simp only at hl2 ho5 hi5 HN HR
  obtain ⟨ap, qp, rfl⟩ := own_form ho5
  have hBw := hB2.trans (hB5.mono (by omega))
  have hy5 := (hB5.block (w.heap.size + 1) (by omega)).trans hy2
  have hlw5 := (Array.getElem?_eq_some_iff.1 hb5).1
  obtain ⟨al, cl, rfl, hcl, _, hlc⟩ := L
  have hB6 : Below w5.heap.size w5 (w5.alloc (Obj.cells #[] 3)) := (Below.refl _ _).alloc (Nat.le_refl _) _
  have hi6 := own_none0 w5 3 1 w5.heap.size (Nat.le_refl _)
  clear k5 k4 hok hbk hb34 k3 hb3 h23 hx2 hy2 hB3 hB5 R2 R hB2 hrl
  go_wp2_with fail
  go_loopw [8, 9] (fun s i wr => ∃ (j : Nat), j ≤ rs.length ∧ i = .int .i64 j ∧ wr.ownsRow w5.heap.size 3 1 s j (iv ((rs.take j).map (fun r => S2.getD r.toNat 0))) ∧ Below w5.heap.size w5 wr) (fun _ i _ => rs.length - (intOf i).toNat)
  case atStart => exact ⟨0, by omega, rfl, hi6, hB6⟩
  case round =>
    clear hi6 hB6
    obtain ⟨j, hj, rfl, hownj, hBj⟩ := hrel
    by_cases hlt : j < rs.length
    · obtain ⟨g, o, rfl, hg, hlc⟩ := hlc (by intro e; subst e; simp at hlt)
      have ez := (hBj.cell (p := ⟨g, o + j, none⟩) (Nat.lt_of_lt_of_le hg hBw.size)).trans ((hBw.cell (p := ⟨g, o + j, none⟩) hg).trans (hlc j hlt))
      obtain ⟨z0, z1⟩ := allI_at hr j hlt
      have HT : Hid (iv ((rs.take (j + 1)).map (fun r => S2.getD r.toNat 0)) = iv ((rs.take j).map (fun r => S2.getD r.toNat 0)) ++ [.int .i64 (S2.getD (rs.getD j 0).toNat 0)]) := by
        unfold Hid
        rw [List.take_succ_eq_append_getElem hlt, List.map_append, iv_append, List.getD_eq_getElem?_getD (l := rs), List.getElem?_eq_getElem hlt]
        rfl
      generalize rs.getD j 0 = z at ez z0 z1 HT
      obtain ⟨nz, rfl⟩ := Int.eq_ofNat_of_zero_le z0
      rw [Int.toNat_natCast] at HT
      rcases hi5.2 with ⟨hnil, hn0⟩ | ⟨g5, cap5, cur5, e5, _, _, _⟩
      · omega
      simp only [Value.slice.injEq, true_and] at e5
      obtain ⟨rfl, rfl⟩ := e5
      have e9 := (hBj.cell (p := ⟨g5, nz, none⟩) (hi5.lt _ rfl).2).trans ((hi5.cellAt nz (by omega)).trans (iv_get _ _ (by omega)))
      generalize S2.getD nz 0 = y at e9 HT
      obtain ⟨asj, qsj, rfl⟩ := own_form hownj
      clear hlc hr
      have hsj := hBj.size
      go_wp2_with (at_builtin; refine wpList_append_own _ rfl _ _ 157 rfl w5.heap.size 3 i0 (.int .i64 0) 1 8 Tryz.underlying157 hi hz0 hz1 hz2 rfl (by decide) _ _ _ rfl (hownj.alloc _) ⟨wr.heap.size, 0, none⟩ 1 1 [.int .i64 y] rfl rfl (cell_one_new _ _ _) (by simp [Value.oneCell']) (by unfold maxLen; omega) (by omega) (by simp; omega) ?_)
      intro v7 w8 hown8 hg8' _
      have hB8 : Below w5.heap.size w5 w8 := (hBj.alloc hsj _).grown hg8' (by simp; omega) (fun k hk => (hownj.lt k hk).1)
      have hown8' : w8.ownsRow w5.heap.size 3 1 v7 (j + 1) (iv ((rs.take (j + 1)).map (fun r => S2.getD r.toNat 0))) := by rw [HT.out]; simpa only [List.map_take, List.getD_eq_getElem?_getD] using hown8
      clear hg8' hown8
      go_wp2_with fail
      go_roundw
      case rel => exact ⟨j + 1, by omega, by go_num, hown8', hB8⟩
      case measure => simp [intOf]; omega
    · have hje : j = rs.length := by omega
      subst hje
      have hbj := (hBj.block _ hlw5).trans hb5
      have hyj := (hBj.block _ (by omega)).trans hy5
      have c6 : wr.cell? ⟨w.heap.size + 1 + 1, 0, none⟩ = some (.slice ap S1.length qp) := by rw [cell_of_row wr _ 0 _ _ _ hbj]; rfl
      have c4 : wr.cell? ⟨w.heap.size + 1, 0, none⟩ = some (.slice none 0 0) := by rw [cell_of_row wr _ 0 _ _ _ hyj]; rfl
      have f4 : wr.frozen? ⟨w.heap.size + 1, 0, none⟩ = false := frozen_of_row wr _ 0 _ _ hyj
      have ho6 := own_below ho5 hBj
      rw [List.take_length, ← HR.out] at hownj
      obtain ⟨asj, qsj, rfl⟩ := own_form hownj
      have hBr := hBw.trans (hBj.mono hBw.size)
      obtain ⟨p1, p2, p3⟩ := put_pool hyj ho6 hBr (by omega) (by omega)
      have p4 := own_mono (B' := w.heap.size) (ownsRow_setCell_below hownj (a := ⟨w.heap.size + 1, 0, none⟩) (by show w.heap.size + 1 < w5.heap.size; omega) (.slice ap S1.length qp)) (by omega)
      go_wp2_with fail
      refine bodyPost_ret (results_row_tmp rfl _ _ (w.heap.size + 1) 32 _ (0, 0) _ rfl p1 Tryz.underlying32 rfl Tryz.sizeP) rfl ⟨_, .slice asj rs.length qsj, rfl, ?_, p4, p3⟩
      rw [HN.out]
      exact p2
end Go.Proofs.YtbhfooafhbfniaaGreatDoor
/-
  What ValuePack answers, and the contracts of both ValuePack. No condition.
-/
namespace Go.Proofs.YtbhfooafhbfniaaGreatDoor
open Go.RowKit
def vpB (xs : List Nd) (v : Int) : Bool := poolB xs && hasI xs v
def vpR (xs : List Nd) (v : Int) : ByteArray := if vpB xs v then strOfNums (wireL (mvN 0 xs [v])) else ByteArray.empty
set_option maxRecDepth 100000 in
set_option maxHeartbeats 3200000 in
theorem svpack_any (v : Value) (xs : List Nd) (a : Int) (w : World) (R : NRow w v xs) :
    Calls Tryz.prog 102 #[.agg #[v], .int .i64 a] w fun e w' => e = .returned (.tuple #[.string (vpR xs a), .bool (vpB xs a)]) ∧ Below w.heap.size w w' := by
  have R' := R
  obtain ⟨ao, cap, rfl, _⟩ := R'
  have hB0 : Below w.heap.size w (w.alloc (Obj.cells #[.slice ao xs.length cap] 32)) := (Below.refl _ _).alloc (Nat.le_refl _) _
  go_enter Tryz.func102, Tryz.ntmps102
  go_wp2_with fail
  refine (spool_any _ xs _ (R.below hB0)).mono ?_
  rintro e w1 ⟨rfl, hb1⟩
  have hx1 : w1.heap[w.heap.size]? = some (.cells #[.slice ao xs.length cap] 32 (0, 0)) := (hb1.block _ (by simp)).trans (heap_alloc_new _ _)
  have hB1 := hB0.trans (hb1.mono hB0.size)
  have c1 : w1.cell? ⟨w.heap.size, 0, none⟩ = some (.slice ao xs.length cap) := cell_of_row w1 _ 0 _ _ _ hx1
  clear hB0 hb1
  cases hp : poolB xs with
  | false =>
    have HB : Hid (vpB xs a = false) := by unfold Hid vpB; rw [hp]; rfl
    have HR : Hid (vpR xs a = ByteArray.empty) := by unfold Hid vpR; rw [HB.out]; rfl
    go_wp2
    go_ret2
    exact ⟨by rw [HB.out, HR.out]; rfl, hB1⟩
  | true =>
    have hlen := pool_small hp
    go_wp2_with fail
    refine (shas_any _ xs a _ (R.below hB1)).mono ?_
    rintro e w2 ⟨rfl, hb2⟩
    have hx2 := (hb2.block _ (Array.getElem?_eq_some_iff.1 hx1).1).trans hx1
    have hB2 := hB1.trans (hb2.mono hB1.size)
    have c2 : w2.cell? ⟨w.heap.size, 0, none⟩ = some (.slice ao xs.length cap) := cell_of_row w2 _ 0 _ _ _ hx2
    clear hB1 hb2 hx1 c1
    cases hh : hasI xs a with
    | false =>
      have HB : Hid (vpB xs a = false) := by unfold Hid vpB; rw [hh, Bool.and_false]
      have HR : Hid (vpR xs a = ByteArray.empty) := by unfold Hid vpR; rw [HB.out]; rfl
      go_wp2
      go_ret2
      exact ⟨by rw [HB.out, HR.out]; rfl, hB2⟩
    | true =>
      have HB : Hid (vpB xs a = true) := by unfold Hid vpB; rw [hh, hp]; rfl
      have HR : Hid (vpR xs a = strOfNums (wireL (mvN 0 xs [a]))) := by unfold Hid vpR; rw [HB.out]; rfl
      have hall : allI xs [a] = true := by simp [allI, hh]
      have hml := mvN_len 0 xs [a]
      have hok := mv_right 0 xs [a] hp (by omega)
      have hB3 : Below w2.heap.size w2 (w2.alloc (Obj.cells #[.int .i64 a] 3)) := (Below.refl _ _).alloc (Nat.le_refl _) _
      go_wp2_with fail
      refine (slkeep_any ao cap _ xs [a] _ (R.below (hB2.trans (hB3.mono hB2.size))) (irow_one (heap_alloc_new w2 _)) hp hall (by simp)).mono ?_
      rintro e w3 ⟨v1, v2, rfl, ho1, _, hb3⟩
      have hB4 := (hB2.trans (hB3.mono hB2.size)).trans (hb3.mono (hB2.trans (hB3.mono hB2.size)).size)
      clear hB2 hB3 hb3 hx2 c2
      generalize mvN 0 xs [a] = ys at *
      obtain ⟨a1, k1, rfl⟩ := own_form ho1
      have hB6 : Below w3.heap.size w3 (w3.alloc (Obj.cells #[.slice a1 ys.length k1] 32)) := (Below.refl _ _).alloc (Nat.le_refl _) _
      have R1 := NRow.of_own ho1 (by omega) (ndok_max hok)
      go_wp2_with fail
      refine (snodes8_any _ ys _ (R1.below hB6) hok (by omega)).mono ?_
      rintro e w4 ⟨v4, rfl, ho4, hb4⟩
      obtain ⟨a4, k4, rfl⟩ := own_form ho4
      have hB5 := (hB4.trans (hB6.mono hB4.size)).trans (hb4.mono (hB4.trans (hB6.mono hB4.size)).size)
      have hT := own_text ho4
      go_wp2_with (refine wpList_bytes_text _ rfl _ 143 9 5 rfl Tryz.underlying143 Tryz.underlying9 Tryz.underlying5 a4 (wireL ys).length k4 (wireL ys) rfl rfl hT ?_)
      go_ret2
      exact ⟨by rw [HB.out, HR.out]; rfl, hB5⟩
end Go.Proofs.YtbhfooafhbfniaaGreatDoor
