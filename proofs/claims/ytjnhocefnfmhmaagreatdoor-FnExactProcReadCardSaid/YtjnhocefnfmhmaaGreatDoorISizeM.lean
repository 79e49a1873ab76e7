/-
  Texts that stood by themselves, laid into one.
-/
import Derived.Test.YtjnhocefnfmhmaaGreatDoorTdM
import Derived.Test.YtjnhocefnfmhmaaGreatDoorSzGenM
import Derived.Test.YtjnhocefnfmhmaaGreatDoorAddM
import Derived.Deep.RegionLaw
import Derived.Deep.AppendLies
import Derived.Test.YtjnhocefnfmhmaaGreatDoorIWireM
import Derived.Test.YtjnhocefnfmhmaaGreatDoorPrRegM
import Derived.OneCell
import Derived.Test.YtjnhocefnfmhmaaGreatDoorSizeIM
/-
  Contracts of spec's l7Reach, l7Roots and Reach. Conditions of l7Reach: the pool is right, and all roots are nodes of it.
-/
namespace Go.Proofs.YtjnhocefnfmhmaaGreatDoor
open Go.RowKit

theorem hasA_kinds (k : Int) : (hasA k = true ↔ k = 5 ∨ k = 6 ∨ k = 7) ∧ (hasB k = true ↔ k = 5) := by
  unfold hasA hasB
  simp only [decide_eq_true_eq]
  exact ⟨trivial, trivial⟩

set_option maxRecDepth 100000 in
set_option maxHeartbeats 1600000 in
theorem slreach_any (ao : Option Addr) (cap : Nat) (vl : Value) (xs : List Nd) (rs : List Int) (w : World) (R : NRow w (.slice ao xs.length cap) xs) (L : IRow w vl rs) (hp : poolB xs = true) (hr : allI xs rs = true) :
    Calls Tryz.prog 121 #[.agg #[.slice ao xs.length cap], vl] w fun e w' => ∃ v', e = .returned v' ∧ w'.ownsRow w.heap.size 4 1 v' xs.length (vb (reachL xs rs)) ∧ Below w.heap.size w w' := by
  have hlen := poolB_len hp
  have hB0 : Below w.heap.size w (w.alloc (Obj.cells #[.slice ao xs.length cap] 40)) := (Below.refl _ _).alloc (Nat.le_refl _) _
  have hbx := heap_alloc_new w (Obj.cells #[.slice ao xs.length cap] 40)
  have R0 := R.below hB0
  have L0 := L.below hB0
  clear R L
  have hs0 : (w.alloc (Obj.cells #[.slice ao xs.length cap] 40)).heap.size = w.heap.size + 1 := by simp
  obtain ⟨i0, hi, hz0, hz1, hz2⟩ := info_parts Tryz.infoBl
  have hbytes : i0.bytes * xs.length ≤ 281474976710656 := by rw [hz2]; omega
  have hmax : xs.length ≤ maxLen := by unfold maxLen; omega
  go_enter Tryz.func121, Tryz.ntmps121
  go_wp2_with (at_make; refine wpList_make_full _ rfl _ _ 184 rfl (w.heap.size + 1) 4 i0 (.bool false) 1 Tryz.underlying184 hi hz0 hz1 _ _ _ _ xs.length rfl rfl rfl rfl hbytes hmax (by simp) ?_)
  intro w1 hown hgrow
  generalize w.alloc (Obj.cells #[.slice ao xs.length cap] 40) = w0 at *
  have hB1 : Below (w.heap.size + 1) w0 w1 := (Below.refl _ _).grown hgrow (by omega) (by intro k hk; cases hk)
  clear hgrow hbytes hmax
  obtain ⟨al, cl, rfl, hcl, _, hlc⟩ := L0
  go_wp2_with fail
  go_loopw [6] (fun i wr => ∃ (k : Nat) (bs : List Bool), k ≤ rs.length ∧ i = .int .i64 k ∧ bs.length = xs.length ∧ Hid ((rs.drop k).foldl setB bs = rootsB xs.length rs) ∧ wr.ownsRow (w.heap.size + 1) 4 1 (.slice (some ⟨w.heap.size + 1, 0, none⟩) xs.length xs.length) xs.length (vb bs) ∧ Below (w.heap.size + 1) w0 wr) (fun i _ => rs.length - (intOf i).toNat)
  case atStart => exact ⟨0, List.replicate xs.length false, by omega, rfl, by simp, rfl, by rw [vb_made]; exact hown, hB1⟩
  case round =>
    clear hown hB1
    obtain ⟨k, bs, hk, rfl, hbl, HF, hown, hB⟩ := hrel
    by_cases hlt : k < rs.length
    · obtain ⟨g, o, rfl, hg, hlc⟩ := hlc (by intro e; subst e; simp at hlt)
      have ez := (hB.cell (p := ⟨g, o + k, none⟩) (by simp; omega)).trans (hlc k hlt)
      obtain ⟨h1, h2⟩ := allI_at hr k hlt
      have HF2 : Hid ((rs.drop (k + 1)).foldl setB (setB bs (rs.getD k 0)) = rootsB xs.length rs) := (fold_drop rs bs k hlt).symm.trans HF.out
      generalize rs.getD k 0 = z at ez h1 h2 HF2
      obtain ⟨nz, rfl⟩ := Int.eq_ofNat_of_zero_le h1
      have ec := hown.cellAt nz (by omega)
      rw [vb_get _ _ (by omega)] at ec
      have ef := hown.frozenAt nz
      have hs := (hown.stored nz (.bool true)).1
      rw [vb_set] at hs
      clear hlc hr HF
      go_wp2
      go_roundw
      case rel => exact ⟨k + 1, setB bs nz, by omega, by go_num, by rw [setB_length, hbl], HF2, hs, hB.setCell (p := ⟨w.heap.size + 1, nz, none⟩) (Nat.le_refl _) _⟩
      case measure => simp [intOf]; omega
    · have hkx : k = rs.length := by omega
      subst hkx
      have HR : Hid (down xs xs.length bs = reachL xs rs) := by
        have := HF.out
        rw [List.drop_length, List.foldl_nil] at this
        rw [this]
        rfl
      clear HF hk hlt hlc hr
      have ep := (hB.cell (p := ⟨w.heap.size, 0, none⟩) (by simp)).trans ((cell_of_row w0 _ 0 _ _ _ hbx).trans rfl)
      have hBw : w.heap.size + 1 < wr.heap.size := (hown.lt _ rfl).2
      go_wp2_with fail
      go_loopw [7] (fun i wq => ∃ (k : Nat) (cs : List Bool), k ≤ xs.length ∧ i = .int .i64 ((k : Int) - 1) ∧ cs.length = xs.length ∧ Hid (down xs k cs = reachL xs rs) ∧ wq.ownsRow (w.heap.size + 1) 4 1 (.slice (some ⟨w.heap.size + 1, 0, none⟩) xs.length xs.length) xs.length (vb cs) ∧ Below (w.heap.size + 1) w0 wq) (fun i _ => (intOf i + 1).toNat)
      case atStart => exact ⟨xs.length, bs, Nat.le_refl _, rfl, hbl, HR, hown, hB⟩
      case round =>
        clear hown hB HR hbl ep hBw
        clear bs
        obtain ⟨k, bs, hk, rfl, hbl, HR, hown, hB⟩ := hrel
        have ep := (hB.cell (p := ⟨w.heap.size, 0, none⟩) (by simp)).trans ((cell_of_row w0 _ 0 _ _ _ hbx).trans rfl)
        have hBw : w.heap.size + 1 < wr.heap.size := (hown.lt _ rfl).2
        rcases Nat.eq_zero_or_pos k with rfl | hpos
        · have HQ : Hid (bs = reachL xs rs) := HR
          clear HR
          go_wp2
          go_ret
          rw [HQ.out] at hown
          exact ⟨_, rfl, own_mono hown (by omega), hB0.trans (hB.mono (by omega))⟩
        · obtain ⟨j, rfl⟩ : ∃ j, k = j + 1 := ⟨k - 1, by omega⟩
          rw [show ((j + 1 : Nat) : Int) - 1 = (j : Int) by omega]
          obtain ⟨ao', cap', e', _, _, hz, hcell⟩ := R0
          simp only [Value.slice.injEq, true_and] at e'
          obtain ⟨rfl, rfl⟩ := e'
          obtain ⟨g, o, rfl, hg, hcell⟩ := hcell (by intro e; subst e; simp at hk)
          obtain ⟨x, hx⟩ : ∃ x, xs[j]? = some x := ⟨xs[j], by simp⟩
          obtain ⟨c0, c1, c2, c3, c4⟩ := (hcell j x hx).below hB (by rw [hs0] at hg; exact hg)
          have hnb := poolB_at hp hx
          have hkd := hasA_kinds x.k
          have HD : Hid (down xs j (hungStep x (bs.getD j false) bs) = reachL xs rs) := (down_at xs bs j x hx).symm.trans HR.out
          have hA : hasA x.k = true → 0 ≤ x.a ∧ x.a < (j : Int) := fun h => nodeB_A hnb h
          have hBb : hasB x.k = true → 0 ≤ x.b ∧ x.b < (j : Int) := fun h => nodeB_B hnb h
          clear hcell hx HR hnb
          have hne4 : w.heap.size + 1 ≠ wr.heap.size := by omega
          have e0 := hown.cellAt j (by omega)
          rw [vb_get _ _ (by omega)] at e0
          cases hb : bs.getD j false with
          | false =>
            rw [hb] at e0 HD
            have HE : Hid (hungStep x false bs = bs) := by unfold Hid hungStep; simp
            clear hA hBb hb
            go_wp2
            refine ⟨⟨j, bs, by omega, by go_num, hbl, by rw [HE.out] at HD; exact HD, hown.alloc _, hB.alloc (by omega) _⟩, by simp [intOf]⟩
          | true =>
            rw [hb] at e0 HD
            clear hb
            cases hAk : hasA x.k with
            | false =>
              have hBk : hasB x.k = false := by
                unfold hasA at hAk; unfold hasB
                simp only [decide_eq_false_iff_not] at hAk ⊢
                omega
              rw [hAk, hBk] at hkd
              have k5 : (x.k == 5) = false := by simp; intro e; have := hkd.2.2 e; cases this
              have k6 : (x.k == 6) = false := by simp; intro e; have := hkd.1.2 (Or.inr (Or.inl e)); cases this
              have k7 : (x.k == 7) = false := by simp; intro e; have := hkd.1.2 (Or.inr (Or.inr e)); cases this
              have HE : Hid (hungStep x true bs = bs) := by unfold Hid hungStep; rw [hAk, hBk]; simp
              clear hA hBb hkd
              go_wp2
              refine ⟨⟨j, bs, by omega, by go_num, hbl, by rw [HE.out] at HD; exact HD, hown.alloc _, hB.alloc (by omega) _⟩, by simp [intOf]⟩
            | true =>
              obtain ⟨ha1, ha2⟩ := hA hAk
              obtain ⟨na, hna⟩ := Int.eq_ofNat_of_zero_le ha1
              rw [hna] at c3 ha2
              have e1 := hown.cellAt na (by omega)
              rw [vb_get _ _ (by omega)] at e1
              have f1 := hown.frozenAt na
              have hs1 := (hown.stored na (.bool true)).1
              rw [vb_set] at hs1
              have hnj : na ≠ j := by omega
              have hB5 := hB.setCell (p := ⟨w.heap.size + 1, na, none⟩) (Nat.le_refl _) (.bool true)
              cases hBk : hasB x.k with
              | false =>
                rw [hAk, hBk] at hkd
                have k5 : (x.k == 5) = false := by simp; intro e; have := hkd.2.2 e; cases this
                have HE : Hid (hungStep x true bs = bs.set na true) := by unfold Hid hungStep setB; rw [hAk, hBk, hna]; simp
                clear hA hBb
                rcases hkd.1.1 rfl with h5 | h6 | h7
                · rw [h5] at k5; cases k5
                · rw [h6] at c0
                  clear hkd k5
                  go_wp2
                  refine ⟨⟨j, bs.set na true, by omega, by go_num, by simpa using hbl, by rw [HE.out] at HD; exact HD, hs1.alloc _, hB5.alloc (by simp; omega) _⟩, by simp [intOf]⟩
                · rw [h7] at c0
                  clear hkd k5
                  go_wp2
                  refine ⟨⟨j, bs.set na true, by omega, by go_num, by simpa using hbl, by rw [HE.out] at HD; exact HD, hs1.alloc _, hB5.alloc (by simp; omega) _⟩, by simp [intOf]⟩
              | true =>
                have h5 := hkd.2.1 hBk
                rw [h5] at c0
                obtain ⟨hb1, hb2⟩ := hBb hBk
                obtain ⟨nb', hnb'⟩ := Int.eq_ofNat_of_zero_le hb1
                rw [hnb'] at c4 hb2
                have HE : Hid (hungStep x true bs = (bs.set na true).set nb' true) := by unfold Hid hungStep setB; rw [hAk, hBk, hna, hnb']; simp
                have e2 := hs1.cellAt nb' (by omega)
                rw [vb_get _ _ (by simp; omega)] at e2
                have f2 := hs1.frozenAt nb'
                have hs2 := (hs1.stored nb' (.bool true)).1
                rw [vb_set] at hs2
                have hB6 := hB5.setCell (p := ⟨w.heap.size + 1, nb', none⟩) (Nat.le_refl _) (.bool true)
                clear hA hBb hkd
                go_wp2
                refine ⟨⟨j, (bs.set na true).set nb' true, by omega, by go_num, by simpa using hbl, by rw [HE.out] at HD; exact HD, hs2.alloc _, hB6.alloc (by simp; omega) _⟩, by simp [intOf]⟩

set_option maxRecDepth 100000 in
set_option maxHeartbeats 1600000 in
theorem slroots_any (v vl : Value) (xs : List Nd) (rs : List Int) (w : World) (R : NRow w v xs) (L : IRow w vl rs) :
    Calls Tryz.prog 94 #[.agg #[v], vl] w fun e w' => e = .returned (.bool (allI xs rs && poolB xs)) ∧ Below w.heap.size w w' := by
  have R' := R
  have L' := L
  obtain ⟨ao, cap, rfl, _⟩ := R'
  obtain ⟨al, cl, rfl, hcl, hlm, hcell⟩ := L'
  have hB0 : Below w.heap.size w (w.alloc (Obj.cells #[.slice ao xs.length cap] 40)) := (Below.refl _ _).alloc (Nat.le_refl _) _
  have hbx := heap_alloc_new w (Obj.cells #[.slice ao xs.length cap] 40)
  go_enter Tryz.func94, Tryz.ntmps94
  go_wp2_with fail
  go_loopw [5] (fun i wr => ∃ k : Nat, k ≤ rs.length ∧ i = .int .i64 k ∧ Hid (allI xs rs = (rs.drop k).all (hasI xs)) ∧ Below w.heap.size w wr ∧ wr.heap[w.heap.size]? = some (.cells #[.slice ao xs.length cap] 40 (0, 0))) (fun i _ => rs.length - (intOf i).toNat)
  case atStart => exact ⟨0, by omega, rfl, by simp [Hid, allI], hB0, hbx⟩
  case round =>
    clear hB0 hbx
    obtain ⟨k, hk, rfl, HA, hB, hbx⟩ := hrel
    have hcr : wr.cell? ⟨w.heap.size, 0, none⟩ = some (.slice ao xs.length cap) := by rw [cell_of_row wr _ 0 _ _ _ hbx]; rfl
    have hsz := (Array.getElem?_eq_some_iff.1 hbx).1
    by_cases hlt : k < rs.length
    · obtain ⟨g, o, rfl, hg, hcell⟩ := hcell (by intro e; subst e; simp at hlt)
      have c0 := (hB.cell (p := ⟨g, o + k, none⟩) hg).trans (hcell k hlt)
      have HS : Hid (allI xs rs = (hasI xs (rs.getD k 0) && (rs.drop (k + 1)).all (hasI xs))) := by unfold Hid; rw [HA.out, all_drop _ _ _ hlt]
      clear hcell HA
      generalize rs.getD k 0 = z at c0 HS
      go_wp2_with fail
      go_region_with (go_at_call 92; refine (shas_all _ xs _ _ (R.below ?_)).mono ?_; exact hB.drew; rintro e w2 ⟨rfl, hb2⟩)
      all_goals
        have hb2' : Below wr.heap.size wr w2 := (Below.refl _ _).drew.trans hb2
        have hB2 := hB.trans (hb2'.mono hB.size)
        have hbx2 := (hb2'.block _ hsz).trans hbx
        clear c0 hb2 hcr hbx hb2'
        cases hA : hasI xs z with
        | false =>
          rw [hA, Bool.false_and] at HS
          go_wp2
          go_ret
          rw [HS.out]
          exact ⟨rfl, hB2⟩
        | true =>
          rw [hA, Bool.true_and] at HS
          go_wp2
          go_roundw
          case rel => exact ⟨k + 1, by omega, by go_num, HS, hB2, hbx2⟩
          case measure => simp [intOf]; omega
    · have hkx : k = rs.length := by omega
      subst hkx
      have HS : Hid (allI xs rs = true) := by unfold Hid; rw [HA.out]; simp
      go_wp2_with fail
      refine (spool_any _ xs _ (R.below hB)).mono ?_
      rintro e w2 ⟨rfl, hb2⟩
      go_wp2
      go_ret
      rw [HS.out, Bool.true_and]
      exact ⟨rfl, hB.trans (hb2.mono hB.size)⟩

end Go.Proofs.YtjnhocefnfmhmaaGreatDoor

/-
  Contract of spec's l2Add: a node behind the pool that a pointer leads to.
-/
namespace Go.Proofs.YtjnhocefnfmhmaaGreatDoor
open Go.RowKit

set_option maxHeartbeats 1600000 in
theorem sadd_any (b base : Nat) (ao : Option Addr) (cap : Nat) (xs : List Nd) (x : Nd) (w : World) (hb : w.heap[b]? = some (.cells #[.slice ao xs.length cap] 40 (0, 0))) (ho : w.ownsRow base 153 5 (.slice ao xs.length cap) xs.length (ncs xs))
    (hm : xs.length ≤ 2097152) (hbb : base ≤ b) :
    Calls Tryz.prog 150 #[.pointer (some ⟨b, 0, none⟩), .agg #[.int .i64 x.k, .int .i64 x.n, .string x.s, .int .i64 x.a, .int .i64 x.b]] w fun e w' =>
      ∃ v', e = .returned (.int .i64 xs.length) ∧ w'.heap[b]? = some (.cells #[v'] 40 (0, 0)) ∧ w'.ownsRow base 153 5 v' (xs ++ [x]).length (ncs (xs ++ [x])) ∧ Below base w w' := by
  obtain ⟨i0, hi, hz0, hz1, hz2⟩ := info_parts Tryz.infoN
  have hlt : b < w.heap.size := (Array.getElem?_eq_some_iff.1 hb).1
  have hcb : w.cell? ⟨b, 0, none⟩ = some (.slice ao xs.length cap) := by rw [cell_of_row w b 0 _ _ _ hb]; rfl
  have hne : b ≠ w.heap.size := by omega
  go_enter Tryz.func150, Tryz.ntmps150
  go_wp2_with fail
  go_region_law (refine step_append_lies _ rfl _ _ 38 rfl base 153 i0 _ 5 48 Tryz.underlying38 hi hz0 hz1 hz2 rfl (by decide) _ _ _ rfl ((ho.alloc _).alloc _) ⟨w.heap.size + 1, 0, none⟩ 1 1 (ncs [x]) rfl rfl (World.news_of_block (cs := #[.int .i64 x.k, .int .i64 x.n, .string x.s, .int .i64 x.a, .int .i64 x.b]) (t := 153) (fr := (0, 0)) (heap_alloc2_new w _ _)) (ncs_one _) (by omega) (by unfold maxLen; omega) (by omega) (by simp; omega) (w.heap.size + 2) (by simp) ?_; intro g capg w1 hown hgrow hat hgl; have hb1 : w1.heap[b]? = some (.cells #[.slice ao xs.length cap] 40 (0, 0)) := (hgrow.block b (by simp; omega) (fun e => own_ne ho hb (by decide) e.symm)).trans ((heap_alloc_old _ _ (by simp; omega)).trans ((heap_alloc_old _ _ hlt).trans hb)); have kb1 : w1.cell? ⟨b, 0, none⟩ = some (.slice ao xs.length cap) := cell_of_row w1 b 0 _ _ _ hb1; have fb1 : w1.frozen? ⟨b, 0, none⟩ = false := frozen_of_row w1 b 0 _ _ hb1)
  all_goals
    have hown2 : w1.ownsRow base 153 5 (.slice (some ⟨g, 0, none⟩) (xs.length + 1) capg) (xs ++ [x]).length (ncs (xs ++ [x])) := by
      rw [ncs_append, List.length_append]
      exact hown
    have hs0 : base ≤ w.heap.size := by omega
    have hB1 : Below base w w1 := (((Below.refl base w).alloc hs0 _).drew.alloc (by simp; omega) _).grown hgrow (by simp; omega) (fun k hk => (ho.lt k hk).1)
    have hB2 := hB1.setCell (p := ⟨b, 0, none⟩) hbb (.slice (some ⟨g, 0, none⟩) (xs.length + 1) capg)
    have ho2 := ownsRow_setCell_other hown2 (a := ⟨b, 0, none⟩) (own_ne hown2 hb1 (by decide)) (.slice (some ⟨g, 0, none⟩) (xs.length + 1) capg)
    have hb2 := heap_setCell_same w1 b 0 _ _ (.slice (some ⟨g, 0, none⟩) (xs.length + 1) capg) hb1
    clear hown hgrow hat hcb hb
    go_wp2
    go_ret
    exact ⟨_, by simp, hb2, ho2, hB2⟩
end Go.Proofs.YtjnhocefnfmhmaaGreatDoor

/-
  Contract of spec's l2List: a list behind the pool that a pointer leads to.
-/
namespace Go.Proofs.YtjnhocefnfmhmaaGreatDoor
open Go.RowKit

end Go.Proofs.YtjnhocefnfmhmaaGreatDoor

/-
  Contract of impl.firstsAlike: for each node the first one that is alike.
-/
namespace Go.Proofs.YtjnhocefnfmhmaaGreatDoor
open Go.RowKit Go.Maps

theorem Tryz.infoI4 : (Tryz.prog.info? 3).map (fun i => (i.zero, i.size, i.bytes)) = some (some (.int .i64 0), 1, 8) := by kernel_rfl
def padI (l : List Int) (n : Nat) : List Int := l ++ List.replicate (n - l.length) 0
theorem padI_length (l : List Int) (n : Nat) (h : l.length ≤ n) : (padI l n).length = n := by simp [padI]; omega
theorem padI_nil (n : Nat) : iv (padI [] n) = (madeCells #[Value.int .i64 0] n).toList := by rw [toList_madeCells_one]; simp [padI, iv]
theorem padI_get (l : List Int) (n i : Nat) (h : i < l.length) : (padI l n).getD i 0 = l.getD i 0 := by
  unfold padI
  simp only [List.getD_eq_getElem?_getD]
  rw [List.getElem?_append_left h]
theorem padI_set (l : List Int) (n k : Nat) (z : Int) (hk : l.length = k) (h : k < n) : (padI l n).set k z = padI (l ++ [z]) n := by
  subst hk
  unfold padI
  rw [show n - l.length = n - (l ++ [z]).length + 1 by simp; omega, List.replicate_succ, List.set_append_right _ _ (Nat.le_refl _), Nat.sub_self, List.set_cons_zero, List.append_assoc]
  rfl
theorem padI_full (l : List Int) : padI l l.length = l := by simp [padI]
theorem zeroI (w : World) : (zeroValue 3).run Tryz.prog w = .ok (.int .i64 0) w := by kernel_rfl

theorem fb_get {l : List Int} {k : Nat} (h : ∀ f ∈ l, 0 ≤ f ∧ f ≤ k) (i : Nat) (hi : i < l.length) : 0 ≤ l.getD i 0 ∧ l.getD i 0 ≤ k := by
  rw [List.getD_eq_getElem?_getD, List.getElem?_eq_getElem hi]
  exact h _ (List.getElem_mem _)
theorem nodeB_N {x : Nd} {n : Int} (h : nodeB x n = true) : -1000000000 ≤ x.n ∧ x.n ≤ 1000000000 := by
  simp only [nodeB, Bool.and_eq_true, decide_eq_true_eq] at h
  have h1 := h.1.1.2
  have h2 := h.1.2
  unfold lo at h1
  unfold Go.Proofs.YtjnhocefnfmhmaaGreatDoor.hi at h2
  constructor
  · split at h1 <;> omega
  · split at h2
    · omega
    · split at h2
      · omega
      · split at h2 <;> omega
theorem nodeB_A0 {x : Nd} {n : Int} (h : nodeB x n = true) (ha : hasA x.k = false) : x.a = 0 := by
  simp only [nodeB, Bool.and_eq_true, decide_eq_true_eq] at h
  have := h.2.1.2
  rw [ha] at this
  simpa [partB] using this
theorem nodeB_B0 {x : Nd} {n : Int} (h : nodeB x n = true) (ha : hasB x.k = false) : x.b = 0 := by
  simp only [nodeB, Bool.and_eq_true, decide_eq_true_eq] at h
  have := h.2.2
  rw [ha] at this
  simpa [partB] using this

end Go.Proofs.YtjnhocefnfmhmaaGreatDoor

/-
  Contract of impl.SizeOf.
-/
namespace Go.Proofs.YtjnhocefnfmhmaaGreatDoor
open Go.RowKit

theorem Tryz.infoI : (Tryz.prog.info? 3).map (fun i => (i.zero, i.size, i.bytes)) = some (some (.int .i64 0), 1, 8) := by kernel_rfl

/-- The sizes so far, and noughts behind them. -/
def padded (xs : List Nd) (k n : Nat) : List Int := sizesTo xs k ++ List.replicate (n - k) 0
theorem padded_length (xs : List Nd) (k n : Nat) (hk : k ≤ n) (hn : n ≤ xs.length) : (padded xs k n).length = n := by
  unfold padded; rw [List.length_append, sizesTo_length xs k (by omega)]; simp; omega
theorem padded_zero (xs : List Nd) (n : Nat) : iv (padded xs 0 n) = (madeCells #[Value.int .i64 0] n).toList := by
  rw [toList_madeCells_one]; simp [padded, iv, sizesTo, sizes]
theorem padded_get (xs : List Nd) (k n i : Nat) (hk : k ≤ xs.length) (hi : i < k) : (padded xs k n).getD i 0 = (sizesTo xs k).getD i 0 := by
  unfold padded
  simp only [List.getD_eq_getElem?_getD]
  rw [List.getElem?_append_left (by rw [sizesTo_length xs k hk]; exact hi)]
theorem padded_set (xs : List Nd) (k n : Nat) (x : Nd) (hk : k < n) (hn : n ≤ xs.length) (h : xs[k]? = some x) : (padded xs k n).set k (szN (sizesTo xs k) x) = padded xs (k + 1) n := by
  unfold padded
  have hl := sizesTo_length xs k (by omega)
  rw [sizesTo_succ xs k x h, show n - k = n - (k + 1) + 1 by omega, List.replicate_succ, List.set_append_right _ _ (by omega), hl, Nat.sub_self, List.set_cons_zero, List.append_assoc]
  rfl

/-- A row of ints of the call's own, one cell of it written three times: what lies there. -/
theorem thrice {w : World} {base n B cap k : Nat} {zs : List Int} (h : w.ownsRow base 3 1 (.slice (some ⟨B, 0, none⟩) n cap) n (iv zs)) (hk : k < zs.length) (hn : zs.length = n) (a b c : Int) :
    ((((w.setCell ⟨B, k, none⟩ (.int .i64 a)).setCell ⟨B, k, none⟩ (.int .i64 b)).setCell ⟨B, k, none⟩ (.int .i64 c)).cell? ⟨B, k, none⟩ = some (.int .i64 c) ∧ (((w.setCell ⟨B, k, none⟩ (.int .i64 a)).setCell ⟨B, k, none⟩ (.int .i64 b)).setCell ⟨B, k, none⟩ (.int .i64 c)).frozen? ⟨B, k, none⟩ = false) ∧
    (((w.setCell ⟨B, k, none⟩ (.int .i64 a)).setCell ⟨B, k, none⟩ (.int .i64 b)).setCell ⟨B, k, none⟩ (.int .i64 c)).ownsRow base 3 1 (.slice (some ⟨B, 0, none⟩) n cap) n (iv (zs.set k c)) := by
  have s1 := h.stored k (.int .i64 a)
  rw [iv_set] at s1
  have s2 := s1.1.stored k (.int .i64 b)
  rw [iv_set, List.set_set] at s2
  have s3 := s2.1.stored k (.int .i64 c)
  rw [iv_set, List.set_set] at s3
  have g := s3.1.cellAt k (by omega)
  rw [iv_get _ _ (by rw [List.length_set]; omega), List.getD_eq_getElem?_getD, List.getElem?_set_self (by omega)] at g
  exact ⟨⟨g, s3.1.frozenAt k⟩, s3.1⟩
theorem twice {w : World} {base n B cap k : Nat} {zs : List Int} (h : w.ownsRow base 3 1 (.slice (some ⟨B, 0, none⟩) n cap) n (iv zs)) (hk : k < zs.length) (hn : zs.length = n) (a b : Int) :
    (((w.setCell ⟨B, k, none⟩ (.int .i64 a)).setCell ⟨B, k, none⟩ (.int .i64 b)).cell? ⟨B, k, none⟩ = some (.int .i64 b) ∧ ((w.setCell ⟨B, k, none⟩ (.int .i64 a)).setCell ⟨B, k, none⟩ (.int .i64 b)).frozen? ⟨B, k, none⟩ = false) ∧
    ((w.setCell ⟨B, k, none⟩ (.int .i64 a)).setCell ⟨B, k, none⟩ (.int .i64 b)).ownsRow base 3 1 (.slice (some ⟨B, 0, none⟩) n cap) n (iv (zs.set k b)) := by
  have s1 := h.stored k (.int .i64 a)
  rw [iv_set] at s1
  have s2 := s1.1.stored k (.int .i64 b)
  rw [iv_set, List.set_set] at s2
  have g := s2.1.cellAt k (by omega)
  rw [iv_get _ _ (by rw [List.length_set]; omega), List.getD_eq_getElem?_getD, List.getElem?_set_self (by omega)] at g
  exact ⟨⟨g, s2.1.frozenAt k⟩, s2.1⟩

theorem min_if (z : Int) : (if 1000000000 < z then 1000000000 else z) = min z 1000000000 := by split <;> omega
theorem fin3 {w w0 : World} {W0 base n B cap k : Nat} {zs : List Int} (h : w.ownsRow base 3 1 (.slice (some ⟨B, 0, none⟩) n cap) n (iv zs)) (hk : k < zs.length) (hn : zs.length = n) (hB : Below W0 w0 w) (hb : W0 ≤ B) (hs : W0 ≤ w.heap.size) (a b c d : Int) (o : Obj) :
    (((((w.setCell ⟨B, k, none⟩ (.int .i64 a)).setCell ⟨B, k, none⟩ (.int .i64 b)).setCell ⟨B, k, none⟩ (.int .i64 c)).setCell ⟨B, k, none⟩ (.int .i64 d)).alloc o).ownsRow base 3 1 (.slice (some ⟨B, 0, none⟩) n cap) n (iv (zs.set k d)) ∧
    Below W0 w0 (((((w.setCell ⟨B, k, none⟩ (.int .i64 a)).setCell ⟨B, k, none⟩ (.int .i64 b)).setCell ⟨B, k, none⟩ (.int .i64 c)).setCell ⟨B, k, none⟩ (.int .i64 d)).alloc o) := by
  have s := (thrice h hk hn a b c).2.stored k (.int .i64 d)
  rw [iv_set, List.set_set] at s
  exact ⟨s.1.alloc _, ((((hB.setCell (p := ⟨B, k, none⟩) hb _).setCell (p := ⟨B, k, none⟩) hb _).setCell (p := ⟨B, k, none⟩) hb _).setCell (p := ⟨B, k, none⟩) hb _).alloc (by simpa using hs) _⟩
theorem fin2 {w w0 : World} {W0 base n B cap k : Nat} {zs : List Int} (h : w.ownsRow base 3 1 (.slice (some ⟨B, 0, none⟩) n cap) n (iv zs)) (hk : k < zs.length) (hn : zs.length = n) (hB : Below W0 w0 w) (hb : W0 ≤ B) (hs : W0 ≤ w.heap.size) (a b d : Int) (o : Obj) :
    ((((w.setCell ⟨B, k, none⟩ (.int .i64 a)).setCell ⟨B, k, none⟩ (.int .i64 b)).setCell ⟨B, k, none⟩ (.int .i64 d)).alloc o).ownsRow base 3 1 (.slice (some ⟨B, 0, none⟩) n cap) n (iv (zs.set k d)) ∧
    Below W0 w0 ((((w.setCell ⟨B, k, none⟩ (.int .i64 a)).setCell ⟨B, k, none⟩ (.int .i64 b)).setCell ⟨B, k, none⟩ (.int .i64 d)).alloc o) :=
  ⟨(thrice h hk hn a b d).2.alloc _, (((hB.setCell (p := ⟨B, k, none⟩) hb _).setCell (p := ⟨B, k, none⟩) hb _).setCell (p := ⟨B, k, none⟩) hb _).alloc (by simpa using hs) _⟩
theorem fin1 {w w0 : World} {W0 base n B cap k : Nat} {zs : List Int} (h : w.ownsRow base 3 1 (.slice (some ⟨B, 0, none⟩) n cap) n (iv zs)) (hk : k < zs.length) (hn : zs.length = n) (hB : Below W0 w0 w) (hb : W0 ≤ B) (hs : W0 ≤ w.heap.size) (a d : Int) (o : Obj) :
    (((w.setCell ⟨B, k, none⟩ (.int .i64 a)).setCell ⟨B, k, none⟩ (.int .i64 d)).alloc o).ownsRow base 3 1 (.slice (some ⟨B, 0, none⟩) n cap) n (iv (zs.set k d)) ∧
    Below W0 w0 (((w.setCell ⟨B, k, none⟩ (.int .i64 a)).setCell ⟨B, k, none⟩ (.int .i64 d)).alloc o) :=
  ⟨(twice h hk hn a d).2.alloc _, ((hB.setCell (p := ⟨B, k, none⟩) hb _).setCell (p := ⟨B, k, none⟩) hb _).alloc (by simpa using hs) _⟩
theorem hasB_A {k : Int} (h : hasA k = false) : hasB k = false := by
  unfold hasA at h; unfold hasB
  simp only [decide_eq_false_iff_not] at h ⊢
  omega

end Go.Proofs.YtjnhocefnfmhmaaGreatDoor
