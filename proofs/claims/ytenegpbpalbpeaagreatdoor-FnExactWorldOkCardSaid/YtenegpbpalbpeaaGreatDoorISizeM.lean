/-
  Texts that stood by themselves, laid into one.
-/
import Derived.Test.YtenegpbpalbpeaaGreatDoorRKeptM
import Derived.Test.YtenegpbpalbpeaaGreatDoorSzGenM
import Derived.Test.YtenegpbpalbpeaaGreatDoorSMakeM
import Derived.Deep.RegionLaw
import Derived.Deep.AppendLies
import Derived.Test.YtenegpbpalbpeaaGreatDoorMachM
import Derived.Test.YtenegpbpalbpeaaGreatDoorNameM
import Derived.OneCell
import Derived.Test.YtenegpbpalbpeaaGreatDoorSizeIM
/-
  Contracts of spec's l7Reach, l7Roots and Reach. Conditions of l7Reach: the pool is right, and all roots are nodes of it.
-/
namespace Go.Proofs.YtenegpbpalbpeaaGreatDoor
open Go.RowKit
theorem hasA_kinds (k : Int) : (hasA k = true ↔ k = 5 ∨ k = 6 ∨ k = 7) ∧ (hasB k = true ↔ k = 5) := by
  unfold hasA hasB
  simp only [decide_eq_true_eq]
  exact ⟨trivial, trivial⟩
set_option maxRecDepth 100000 in
set_option maxHeartbeats 1600000 in
theorem slreach_any (ao : Option Addr) (cap : Nat) (vl : Value) (xs : List Nd) (rs : List Int) (w : World) (R : NRow w (.slice ao xs.length cap) xs) (L : IRow w vl rs) (hp : poolB xs = true) (hr : allI xs rs = true) :
    Calls Tryz.prog 188 #[.agg #[.slice ao xs.length cap], vl] w fun e w' => ∃ v', e = .returned v' ∧ w'.ownsRow w.heap.size 4 1 v' xs.length (vb (reachL xs rs)) ∧ Below w.heap.size w w' := by
  have hlen := poolB_len hp
  have hB0 : Below w.heap.size w (w.alloc (Obj.cells #[.slice ao xs.length cap] 40)) := (Below.refl _ _).alloc (Nat.le_refl _) _
  have hbx := heap_alloc_new w (Obj.cells #[.slice ao xs.length cap] 40)
  have R0 := R.below hB0
  have L0 := L.below hB0
  clear R L
  have hs0 : (w.alloc (Obj.cells #[.slice ao xs.length cap] 40)).heap.size = w.heap.size + 1 := by simp
  obtain ⟨i0, hi, hz0, hz1, hz2⟩ := info_parts Tryz.infoBl
  have hbytes : i0.bytes * xs.length ≤ 281474976710656 := by rw [hz2]; omega
  have hmax : xs.length ≤ maxLen := by unfold maxLen; omega
  go_enter Tryz.func188, Tryz.ntmps188
  go_wp2_with (at_make; refine wpList_make_full _ rfl _ _ 244 rfl (w.heap.size + 1) 4 i0 (.bool false) 1 Tryz.underlying244 hi hz0 hz1 _ _ _ _ xs.length rfl rfl rfl rfl hbytes hmax (by simp) ?_)
  intro w1 hown hgrow
  generalize w.alloc (Obj.cells #[.slice ao xs.length cap] 40) = w0 at *
  have hB1 : Below (w.heap.size + 1) w0 w1 := (Below.refl _ _).grown hgrow (by omega) (by intro k hk; cases hk)
  clear hgrow hbytes hmax
  obtain ⟨al, cl, rfl, hcl, _, hlc⟩ := L0
  go_wp2_with fail
  go_loopw [6] (fun i wr => ∃ (k : Nat) (bs : List Bool), k ≤ rs.length ∧ i = .int .i64 k ∧ bs.length = xs.length ∧ Hid ((rs.drop k).foldl setB bs = rootsB xs.length rs) ∧ wr.ownsRow (w.heap.size + 1) 4 1 (.slice (some ⟨w.heap.size + 1, 0, none⟩) xs.length xs.length) xs.length (vb bs) ∧ Below (w.heap.size + 1) w0 wr) (fun i _ => rs.length - (intOf i).toNat)
  case atStart => exact ⟨0, List.replicate xs.length false, by omega, rfl, by simp, rfl, by rw [vb_made]; exact hown, hB1⟩
  case round =>
    clear hown hB1
    obtain ⟨k, bs, hk, rfl, hbl, HF, hown, hB⟩ := hrel
    by_cases hlt : k < rs.length
    · obtain ⟨g, o, rfl, hg, hlc⟩ := hlc (by intro e; subst e; simp at hlt)
      have ez := (hB.cell (p := ⟨g, o + k, none⟩) (by simp; omega)).trans (hlc k hlt)
      obtain ⟨h1, h2⟩ := allI_at hr k hlt
      have HF2 : Hid ((rs.drop (k + 1)).foldl setB (setB bs (rs.getD k 0)) = rootsB xs.length rs) := (fold_drop rs bs k hlt).symm.trans HF.out
      generalize rs.getD k 0 = z at ez h1 h2 HF2
      obtain ⟨nz, rfl⟩ := Int.eq_ofNat_of_zero_le h1
      have ec := hown.cellAt nz (by omega)
      rw [vb_get _ _ (by omega)] at ec
      have ef := hown.frozenAt nz
      have hs := (hown.stored nz (.bool true)).1
      rw [vb_set] at hs
      clear hlc hr HF
      go_wp2
      go_roundw
      case rel => exact ⟨k + 1, setB bs nz, by omega, by go_num, by rw [setB_length, hbl], HF2, hs, hB.setCell (p := ⟨w.heap.size + 1, nz, none⟩) (Nat.le_refl _) _⟩
      case measure => simp [intOf]; omega
    · have hkx : k = rs.length := by omega
      subst hkx
      have HR : Hid (down xs xs.length bs = reachL xs rs) := by
        have := HF.out
        rw [List.drop_length, List.foldl_nil] at this
        rw [this]
        rfl
      clear HF hk hlt hlc hr
      have ep := (hB.cell (p := ⟨w.heap.size, 0, none⟩) (by simp)).trans ((cell_of_row w0 _ 0 _ _ _ hbx).trans rfl)
      have hBw : w.heap.size + 1 < wr.heap.size := (hown.lt _ rfl).2
      go_wp2_with fail
      go_loopw [7] (fun i wq => ∃ (k : Nat) (cs : List Bool), k ≤ xs.length ∧ i = .int .i64 ((k : Int) - 1) ∧ cs.length = xs.length ∧ Hid (down xs k cs = reachL xs rs) ∧ wq.ownsRow (w.heap.size + 1) 4 1 (.slice (some ⟨w.heap.size + 1, 0, none⟩) xs.length xs.length) xs.length (vb cs) ∧ Below (w.heap.size + 1) w0 wq) (fun i _ => (intOf i + 1).toNat)
      case atStart => exact ⟨xs.length, bs, Nat.le_refl _, rfl, hbl, HR, hown, hB⟩
      case round =>
        clear hown hB HR hbl ep hBw
        clear bs
        obtain ⟨k, bs, hk, rfl, hbl, HR, hown, hB⟩ := hrel
        have ep := (hB.cell (p := ⟨w.heap.size, 0, none⟩) (by simp)).trans ((cell_of_row w0 _ 0 _ _ _ hbx).trans rfl)
        have hBw : w.heap.size + 1 < wr.heap.size := (hown.lt _ rfl).2
        rcases Nat.eq_zero_or_pos k with rfl | hpos
        · have HQ : Hid (bs = reachL xs rs) := HR
          clear HR
          go_wp2
          go_ret
          rw [HQ.out] at hown
          exact ⟨_, rfl, own_mono hown (by omega), hB0.trans (hB.mono (by omega))⟩
        · obtain ⟨j, rfl⟩ : ∃ j, k = j + 1 := ⟨k - 1, by omega⟩
          rw [show ((j + 1 : Nat) : Int) - 1 = (j : Int) by omega]
          obtain ⟨ao', cap', e', _, _, hz, hcell⟩ := R0
          simp only [Value.slice.injEq, true_and] at e'
          obtain ⟨rfl, rfl⟩ := e'
          obtain ⟨g, o, rfl, hg, hcell⟩ := hcell (by intro e; subst e; simp at hk)
          obtain ⟨x, hx⟩ : ∃ x, xs[j]? = some x := ⟨xs[j], by simp⟩
          obtain ⟨c0, c1, c2, c3, c4⟩ := (hcell j x hx).below hB (by rw [hs0] at hg; exact hg)
          have hnb := poolB_at hp hx
          have hkd := hasA_kinds x.k
          have HD : Hid (down xs j (hungStep x (bs.getD j false) bs) = reachL xs rs) := (down_at xs bs j x hx).symm.trans HR.out
          have hA : hasA x.k = true → 0 ≤ x.a ∧ x.a < (j : Int) := fun h => nodeB_A hnb h
          have hBb : hasB x.k = true → 0 ≤ x.b ∧ x.b < (j : Int) := fun h => nodeB_B hnb h
          clear hcell hx HR hnb
          have hne4 : w.heap.size + 1 ≠ wr.heap.size := by omega
          have e0 := hown.cellAt j (by omega)
          rw [vb_get _ _ (by omega)] at e0
          cases hb : bs.getD j false with
          | false =>
            rw [hb] at e0 HD
            have HE : Hid (hungStep x false bs = bs) := by unfold Hid hungStep; simp
            clear hA hBb hb
            go_wp2
            refine ⟨⟨j, bs, by omega, by go_num, hbl, by rw [HE.out] at HD; exact HD, hown.alloc _, hB.alloc (by omega) _⟩, by simp [intOf]⟩
          | true =>
            rw [hb] at e0 HD
            clear hb
            cases hAk : hasA x.k with
            | false =>
              have hBk : hasB x.k = false := by
                unfold hasA at hAk; unfold hasB
                simp only [decide_eq_false_iff_not] at hAk ⊢
                omega
              rw [hAk, hBk] at hkd
              have k5 : (x.k == 5) = false := by simp; intro e; have := hkd.2.2 e; cases this
              have k6 : (x.k == 6) = false := by simp; intro e; have := hkd.1.2 (Or.inr (Or.inl e)); cases this
              have k7 : (x.k == 7) = false := by simp; intro e; have := hkd.1.2 (Or.inr (Or.inr e)); cases this
              have HE : Hid (hungStep x true bs = bs) := by unfold Hid hungStep; rw [hAk, hBk]; simp
              clear hA hBb hkd
              go_wp2
              refine ⟨⟨j, bs, by omega, by go_num, hbl, by rw [HE.out] at HD; exact HD, hown.alloc _, hB.alloc (by omega) _⟩, by simp [intOf]⟩
            | true =>
              obtain ⟨ha1, ha2⟩ := hA hAk
              obtain ⟨na, hna⟩ := Int.eq_ofNat_of_zero_le ha1
              rw [hna] at c3 ha2
              have e1 := hown.cellAt na (by omega)
              rw [vb_get _ _ (by omega)] at e1
              have f1 := hown.frozenAt na
              have hs1 := (hown.stored na (.bool true)).1
              rw [vb_set] at hs1
              have hnj : na ≠ j := by omega
              have hB5 := hB.setCell (p := ⟨w.heap.size + 1, na, none⟩) (Nat.le_refl _) (.bool true)
              cases hBk : hasB x.k with
              | false =>
                rw [hAk, hBk] at hkd
                have k5 : (x.k == 5) = false := by simp; intro e; have := hkd.2.2 e; cases this
                have HE : Hid (hungStep x true bs = bs.set na true) := by unfold Hid hungStep setB; rw [hAk, hBk, hna]; simp
                clear hA hBb
                rcases hkd.1.1 rfl with h5 | h6 | h7
                · rw [h5] at k5; cases k5
                · rw [h6] at c0
                  clear hkd k5
                  go_wp2
                  refine ⟨⟨j, bs.set na true, by omega, by go_num, by simpa using hbl, by rw [HE.out] at HD; exact HD, hs1.alloc _, hB5.alloc (by simp; omega) _⟩, by simp [intOf]⟩
                · rw [h7] at c0
                  clear hkd k5
                  go_wp2
                  refine ⟨⟨j, bs.set na true, by omega, by go_num, by simpa using hbl, by rw [HE.out] at HD; exact HD, hs1.alloc _, hB5.alloc (by simp; omega) _⟩, by simp [intOf]⟩
              | true =>
                have h5 := hkd.2.1 hBk
                rw [h5] at c0
                obtain ⟨hb1, hb2⟩ := hBb hBk
                obtain ⟨nb', hnb'⟩ := Int.eq_ofNat_of_zero_le hb1
                rw [hnb'] at c4 hb2
                have HE : Hid (hungStep x true bs = (bs.set na true).set nb' true) := by unfold Hid hungStep setB; rw [hAk, hBk, hna, hnb']; simp
                have e2 := hs1.cellAt nb' (by omega)
                rw [vb_get _ _ (by simp; omega)] at e2
                have f2 := hs1.frozenAt nb'
                have hs2 := (hs1.stored nb' (.bool true)).1
                rw [vb_set] at hs2
                have hB6 := hB5.setCell (p := ⟨w.heap.size + 1, nb', none⟩) (Nat.le_refl _) (.bool true)
                clear hA hBb hkd
                go_wp2
                refine ⟨⟨j, (bs.set na true).set nb' true, by omega, by go_num, by simpa using hbl, by rw [HE.out] at HD; exact HD, hs2.alloc _, hB6.alloc (by simp; omega) _⟩, by simp [intOf]⟩
end Go.Proofs.YtenegpbpalbpeaaGreatDoor
/-
  Contract of spec's l2Add: a node behind the pool that a pointer leads to.
-/
namespace Go.Proofs.YtenegpbpalbpeaaGreatDoor
open Go.RowKit
end Go.Proofs.YtenegpbpalbpeaaGreatDoor
/-
  Contract of spec's l2List: a list behind the pool that a pointer leads to.
-/
namespace Go.Proofs.YtenegpbpalbpeaaGreatDoor
open Go.RowKit
end Go.Proofs.YtenegpbpalbpeaaGreatDoor
/-
  Contract of impl.firstsAlike: for each node the first one that is alike.
-/
namespace Go.Proofs.YtenegpbpalbpeaaGreatDoor
open Go.RowKit Go.Maps
def padI (l : List Int) (n : Nat) : List Int := l ++ List.replicate (n - l.length) 0
end Go.Proofs.YtenegpbpalbpeaaGreatDoor
/-
  Contract of impl.SizeOf.
-/
namespace Go.Proofs.YtenegpbpalbpeaaGreatDoor
open Go.RowKit
def padded (xs : List Nd) (k n : Nat) : List Int := sizesTo xs k ++ List.replicate (n - k) 0
end Go.Proofs.YtenegpbpalbpeaaGreatDoor
