/-
  Contract of spec's l2Classes: for each node the first one that is alike.
-/
import Derived.Test.YtmgjefkelohocaaDoorFirstsM
import Derived.Test.YtmgjefkelohocaaDoorSSizeM
import Derived.Test.YtmgjefkelohocaaDoorSAddM
import Derived.Deep.CutBlock
import Derived.Deep.CutRange
namespace Go.Proofs.YtmgjefkelohocaaDoor
open Go.RowKit Go.Maps

theorem idx_at (ks : List Nd) (y : Nd) (j : Nat) (h0 : ∀ t, t < j → ks[t]? ≠ some y) (hj : ks[j]? = some y) : idx ks y = j := by
  induction ks generalizing j with
  | nil => simp at hj
  | cons k ks ih =>
    cases j with
    | zero => simp at hj; simp [idx, hj]
    | succ j =>
      have hk : ¬ k = y := by have := h0 0 (by omega); simpa using this
      simp only [idx, if_neg hk]
      rw [ih j (fun t ht => by have := h0 (t + 1) (by omega); simpa using this) (by simpa using hj)]
theorem idx_end (ks : List Nd) (y : Nd) (h0 : ∀ t, t < ks.length → ks[t]? ≠ some y) : idx ks y = ks.length := by
  apply idx_none
  intro hm
  obtain ⟨t, ht, e⟩ := List.mem_iff_getElem.1 hm
  exact h0 t ht (by rw [List.getElem?_eq_getElem ht, e])
theorem own_apart {w : World} {B B' : Nat} {e e' : TypeId} {k k' : Nat} {v v' : Value} {n n' : Nat} {xs xs' : List Value} (h : w.ownsRow B e k v n xs) (h' : w.ownsRow B' e' k' v' n' xs') (hne : e ≠ e') : v.ownBlock = none ∨ v.ownBlock ≠ v'.ownBlock := by
  rcases h.2 with ⟨rfl, _⟩ | ⟨g, cap, cur, rfl, hB, hg, _⟩
  · exact Or.inl rfl
  · exact Or.inr fun e => own_ne h' hg hne e.symm
theorem node_eql (y : Nd) (w : World) : (binOp .eql 55 (.agg #[.int .i64 y.k, .int .i64 y.n, .string y.s, .int .i64 y.a, .int .i64 y.b]) (.agg #[.int .i64 y.k, .int .i64 y.n, .string y.s, .int .i64 y.a, .int .i64 y.b])).run Tryd.prog w = .ok (.bool true) w := by
  simp [go_sem]
theorem node_neql (z y : Nd) (h : z ≠ y) (w : World) : (binOp .eql 55 (.agg #[.int .i64 z.k, .int .i64 z.n, .string z.s, .int .i64 z.a, .int .i64 z.b]) (.agg #[.int .i64 y.k, .int .i64 y.n, .string y.s, .int .i64 y.a, .int .i64 y.b])).run Tryd.prog w = .ok (.bool false) w := by
  obtain ⟨k, n, s, a, b⟩ := z
  obtain ⟨k', n', s', a', b'⟩ := y
  have hs : s.toList = s'.toList → s = s' := by
    rw [ByteArray.toList_eq, ByteArray.toList_eq]
    intro e
    obtain ⟨⟨x⟩⟩ := s
    obtain ⟨⟨x'⟩⟩ := s'
    simp only at e
    rw [e]
  simp [go_sem]
  intro h1 h2 h3 h4 h5
  exact h (by rw [h1, h2, hs h3, h4, h5])

theorem own_empty (W : World) (t : TypeId) (k B : Nat) (h : B ≤ W.heap.size) : (W.alloc (Obj.cells #[] t)).ownsRow B t k (.slice (some ⟨W.heap.size, 0, none⟩) 0 0) 0 [] :=
  own_mono (World.ownsRow_made W #[] 0 (Nat.le_refl _) (by simp) (by simp)) h

/-- A node's block. -/
def nblk (y : Nd) : Obj := .cells #[.int .i64 y.k, .int .i64 y.n, .string y.s, .int .i64 y.a, .int .i64 y.b] 55 (0, 0)

set_option maxRecDepth 100000 in
set_option maxHeartbeats 1600000 in
theorem sclasses_any (ao : Option Addr) (cap : Nat) (xs : List Nd) (w : World) (R : NRow w (.slice ao xs.length cap) xs) (hp : ∀ (k : Nat) (x : Nd), xs[k]? = some x → nodeB x k = true) (hlen : xs.length ≤ 3000) :
    Calls Tryd.prog 38 #[.agg #[.slice ao xs.length cap]] w fun e w' => ∃ v', e = .returned v' ∧ w'.ownsRow w.heap.size 3 1 v' xs.length (iv (firstsTo xs xs.length)) ∧ Below w.heap.size w w' := by
  obtain ⟨ao', cap', e', ⟨hcap, _⟩, _, hz, hcell⟩ := R
  simp only [Value.slice.injEq, true_and] at e'
  obtain ⟨rfl, rfl⟩ := e'
  obtain ⟨i0, hi, hz0, hz1, hz2⟩ := info_parts Tryd.infoI4
  obtain ⟨n0, hn, hn0, hn1, hn2⟩ := info_parts Tryd.infoN
  go_enter Tryd.func38, Tryd.ntmps38
  go_wp2_with fail
  go_loopg [3, 4, 5] xs.length (fun g o kk i wr => ∃ k : Nat, k ≤ xs.length ∧ g = xs.length - k ∧ i = .int .i64 k ∧ wr.heap[w.heap.size]? = some (.cells #[.slice ao xs.length cap] 26 (0, 0)) ∧ wr.ownsRow (w.heap.size + 1) 3 1 o k (iv (firstsTo xs k)) ∧ wr.ownsRow (w.heap.size + 1) 55 5 kk k (ncs (keysTo xs k)) ∧ Below w.heap.size w wr)
  case atStart =>
    refine ⟨0, by omega, rfl, rfl, ?_, ?_, ?_, ?_⟩
    · exact (heap_alloc_old _ _ (by simp; omega)).trans ((heap_alloc_old _ _ (by simp)).trans (heap_alloc_new _ _))
    · rw [show firstsTo xs 0 = [] by simp [firstsTo, cls]]
      have h := (own_empty (w.alloc (Obj.cells #[.slice ao xs.length cap] 26)) 3 1 (w.heap.size + 1) (by simp)).alloc (Obj.cells #[] 55)
      first | exact h | simpa [iv] using h
    · rw [show keysTo xs 0 = [] by simp [keysTo, cls]]
      have h := own_empty ((w.alloc (Obj.cells #[.slice ao xs.length cap] 26)).alloc (Obj.cells #[] 3)) 55 5 (w.heap.size + 1) (by simp)
      first | exact h | simpa [ncs] using h
    · exact (((Below.refl _ _).alloc (Nat.le_refl _) _).alloc (by simp) _).alloc (by simp; omega) _
  case round =>
    obtain ⟨k, hk, rfl, rfl, hbp, ho, hkk, hB⟩ := hrel
    have hfl := firstsTo_length xs k hk
    have hkl := keysTo_length xs k hk
    have hcp : wr.cell? ⟨w.heap.size, 0, none⟩ = some (.slice ao xs.length cap) := by rw [cell_of_row wr _ 0 _ _ _ hbp]; rfl
    have hwr : w.heap.size < wr.heap.size := (Array.getElem?_eq_some_iff.1 hbp).1
    by_cases hlt : k < xs.length
    · obtain ⟨g, o, rfl, hg, hcell⟩ := hcell (by intro e; subst e; simp at hlt)
      obtain ⟨x, hx⟩ : ∃ x, xs[k]? = some x := ⟨xs[k], by simp [hlt]⟩
      obtain ⟨c0, c1, c2, c3, c4⟩ := (hcell k x hx).below hB hg
      have hnb := hp k x hx
      have hxs := hz x (List.mem_of_getElem? hx)
      have HF : Hid (firstsTo xs (k + 1) = firstsTo xs k ++ [((idx (keysTo xs k) (nrm (firstsTo xs k) x) : Nat) : Int)]) := firstsTo_succ xs k x hx
      have HK : Hid (keysTo xs (k + 1) = keysTo xs k ++ [nrm (firstsTo xs k) x]) := keysTo_succ xs k x hx
      have hfb := firsts_bounds xs k hk
      clear hcell hx hp hz
      go_upto_block 2 with fail
      generalize hw4 : wr.alloc (Obj.cells #[Value.int .i64 x.k, .int .i64 x.n, .string x.s, .int .i64 x.a, .int .i64 x.b] 55) = w4
      have hbox : w4.heap[wr.heap.size]? = some (nblk x) := by rw [← hw4]; exact heap_alloc_new _ _
      have ho4 : w4.ownsRow (w.heap.size + 1) 3 1 u3 k (iv (firstsTo xs k)) := by rw [← hw4]; exact ho.alloc _
      have hB4 : Below wr.heap.size wr w4 := by rw [← hw4]; exact (Below.refl _ _).alloc (Nat.le_refl _) _
      have hs4 : w4.heap.size = wr.heap.size + 1 := by rw [← hw4]; simp
      clear hw4 c0 c1 c2 c3 c4
      go_cut [] from 11 to 68 (fun wx => wx.heap[wr.heap.size]? = some (nblk (nrm (firstsTo xs k) x)) ∧ Below wr.heap.size wr wx ∧ wx.heap.size = wr.heap.size + 1)
      case first =>
        have hcellN : ∀ j, w4.cell? ⟨wr.heap.size, j, none⟩ = #[Value.int .i64 x.k, .int .i64 x.n, .string x.s, .int .i64 x.a, .int .i64 x.b][j]? := fun j => cell_of_row w4 _ j _ _ _ hbox
        have d0 := hcellN 0
        have d1 := hcellN 1
        have d2 := hcellN 2
        have d3 := hcellN 3
        have d4 := hcellN 4
        simp only [List.getElem?_toArray, List.getElem?_cons_succ, List.getElem?_cons_zero] at d0 d1 d2 d3 d4
        have f3 : w4.frozen? ⟨wr.heap.size, 3, none⟩ = false := frozen_of_row w4 _ 3 _ _ hbox
        have f4 : w4.frozen? ⟨wr.heap.size, 4, none⟩ = false := frozen_of_row w4 _ 4 _ _ hbox
        clear hcellN hkk HF HK hkl
        by_cases h5 : x.k = 5
        · have hA : hasA x.k = true := by unfold hasA; simp [h5]
          have hBB : hasB x.k = true := by unfold hasB; simp [h5]
          have hra := nodeB_A hnb hA
          obtain ⟨na, hna⟩ := Int.eq_ofNat_of_zero_le hra.1
          have hrb := nodeB_B hnb hBB
          obtain ⟨nb', hnb'⟩ := Int.eq_ofNat_of_zero_le hrb.1
          have HN : Hid (nrm (firstsTo xs k) x = ⟨x.k, x.n, x.s, (firstsTo xs k).getD na 0, (firstsTo xs k).getD nb' 0⟩) := by unfold Hid nrm; rw [hA, hBB, if_pos rfl, if_pos rfl, hna, hnb']; rfl
          rw [hna] at d3 hra
          rw [hnb'] at d4 hrb
          rcases ho4.2 with ⟨rfl, h0⟩ | ⟨B, capB, cur, rfl, hBb, _⟩
          · omega
          have hBne : B ≠ wr.heap.size := by have := (ho.lt B rfl).2; omega
          have ea := ho4.cellAt na (by omega)
          rw [iv_get _ _ (by omega)] at ea
          have eb := ho4.cellAt nb' (by omega)
          rw [iv_get _ _ (by omega)] at eb
          generalize (firstsTo xs k).getD na 0 = fa at ea HN
          generalize (firstsTo xs k).getD nb' 0 = fb at eb HN
          clear hnb hfb hA hBB
          go_wp2_with fail
          go_meet
          case rel =>
            have hb1 := heap_setCell_same w4 wr.heap.size 3 _ 55 (.int .i64 fa) hbox
            have hb2 := heap_setCell_same _ wr.heap.size 4 _ 55 (.int .i64 fb) hb1
            exact ⟨by rw [HN.out]; exact hb2, (hB4.setCell (p := ⟨wr.heap.size, 3, none⟩) (Nat.le_refl _) _).setCell (p := ⟨wr.heap.size, 4, none⟩) (Nat.le_refl _) _, by simp [World.setCell, hs4]⟩
        by_cases h67 : x.k = 6 ∨ x.k = 7
        · have hA : hasA x.k = true := by unfold hasA; simp [h67]
          have hBB : hasB x.k = false := by unfold hasB; simp [h5]
          have hra := nodeB_A hnb hA
          obtain ⟨na, hna⟩ := Int.eq_ofNat_of_zero_le hra.1
          have HN : Hid (nrm (firstsTo xs k) x = ⟨x.k, x.n, x.s, (firstsTo xs k).getD na 0, x.b⟩) := by unfold Hid nrm; rw [hA, hBB, if_pos rfl, hna]; rfl
          rw [hna] at d3 hra
          rcases ho4.2 with ⟨rfl, h0⟩ | ⟨B, capB, cur, rfl, hBb, _⟩
          · omega
          have hBne : B ≠ wr.heap.size := by have := (ho.lt B rfl).2; omega
          have ea := ho4.cellAt na (by omega)
          rw [iv_get _ _ (by omega)] at ea
          generalize (firstsTo xs k).getD na 0 = fa at ea HN
          clear hnb hfb hA hBB
          rcases h67 with h6 | h6
          all_goals
            go_wp2_with fail
            go_meet
            case rel =>
              have hb1 := heap_setCell_same w4 wr.heap.size 3 _ 55 (.int .i64 fa) hbox
              exact ⟨by rw [HN.out]; exact hb1, hB4.setCell (p := ⟨wr.heap.size, 3, none⟩) (Nat.le_refl _) _, by simp [World.setCell, hs4]⟩
        · have hA : hasA x.k = false := by unfold hasA; simp; omega
          have hBB : hasB x.k = false := by unfold hasB; simp [h5]
          have HN : Hid (nrm (firstsTo xs k) x = x) := by unfold Hid nrm; rw [hA, hBB]; rfl
          have h6 : ¬ x.k = 6 := by omega
          have h7 : ¬ x.k = 7 := by omega
          clear hnb hfb hA hBB h67
          go_wp2_with fail
          go_meet
          case rel => exact ⟨by rw [HN.out]; exact hbox, hB4, hs4⟩
      case rest =>
        obtain ⟨hbx, hBx, hsx⟩ := hcut
        obtain ⟨wa, hwa⟩ : ∃ wa, wa = wc := ⟨_, rfl⟩
        subst hwa
        clear hbox ho4 hB4 hs4 hfb hnb
        have hys : (nrm (firstsTo xs k) x).s.size ≤ maxLen := hxs
        generalize nrm (firstsTo xs k) x = y at hbx HF HK hys
        have hka := own_below hkk hBx
        have hoa := own_below ho hBx
        have hcellN : ∀ j, wa.cell? ⟨wr.heap.size, j, none⟩ = #[Value.int .i64 y.k, .int .i64 y.n, .string y.s, .int .i64 y.a, .int .i64 y.b][j]? := fun j => cell_of_row wa _ j _ _ _ hbx
        have d0 := hcellN 0
        have d1 := hcellN 1
        have d2 := hcellN 2
        have d3 := hcellN 3
        have d4 := hcellN 4
        simp only [List.getElem?_toArray, List.getElem?_cons_succ, List.getElem?_cons_zero] at d0 d1 d2 d3 d4
        clear hcellN
        go_upto_block 3 with fail
        go_cut [7] from 11 to 68 (fun s7 wx => s7 = .int .i64 ((idx (keysTo xs k) y : Nat) : Int) ∧ ∃ m, wx = wa.drewN m)
        case first =>
          go_wp2_with fail
          go_loopg [7, 8] k (fun g s7 s8 wx => ∃ (j m : Nat), j ≤ k ∧ g = k - j ∧ s7 = .int .i64 k ∧ s8 = .int .i64 j ∧ Hid (∀ t, t < j → (keysTo xs k)[t]? ≠ some y) ∧ wx = wa.drewN m)
          case atStart => exact ⟨0, 0, by omega, rfl, rfl, rfl, (fun t ht => by omega), rfl⟩
          case round =>
            obtain ⟨j, m, hj, rfl, rfl, rfl, HJ, rfl⟩ := hrel
            by_cases hjk : j < k
            · obtain ⟨z, hzj⟩ : ∃ z, (keysTo xs k)[j]? = some z := ⟨_, List.getElem?_eq_getElem (by omega)⟩
              have hcz : ∀ i, i < 5 → ∀ v c, u4 = .slice (some ⟨v, 0, none⟩) k c → wa.cell? ⟨v, j * 5 + i, none⟩ = z.cs[i]? := fun i hi v c e => by
                subst e
                have := hka.cellAt (j * 5 + i) (by omega)
                rw [this, ncs_get _ j z hzj i hi]
              rcases hka.2 with ⟨rfl, h0⟩ | ⟨B, capB, cur, rfl, hBb, _, hcapB, _⟩
              · omega
              have e0 : wa.cell? ⟨B, j * 5, none⟩ = some (.int .i64 z.k) := hcz 0 (by omega) B capB rfl
              have e1 : wa.cell? ⟨B, j * 5 + 1, none⟩ = some (.int .i64 z.n) := hcz 1 (by omega) B capB rfl
              have e2 : wa.cell? ⟨B, j * 5 + 2, none⟩ = some (.string z.s) := hcz 2 (by omega) B capB rfl
              have e3 : wa.cell? ⟨B, j * 5 + 3, none⟩ = some (.int .i64 z.a) := hcz 3 (by omega) B capB rfl
              have e4 : wa.cell? ⟨B, j * 5 + 4, none⟩ = some (.int .i64 z.b) := hcz 4 (by omega) B capB rfl
              clear hcz
              by_cases hzy : z = y
              · subst hzy
                have hq := node_eql z
                have HI : Hid (idx (keysTo xs k) z = j) := idx_at _ _ j HJ.out hzj
                clear hzj
                go_wp2_with fail
                go_quiet (fail)
                go_wp2_with fail
                go_meet
                case rel => exact ⟨by rw [HI.out], _, World.drewN_drewN _ _ _⟩
              · have hq := node_neql z y hzy
                have HJ' : Hid (∀ t, t < j + 1 → (keysTo xs k)[t]? ≠ some y) := by
                  intro t ht
                  by_cases e : t = j
                  · subst e; rw [hzj]; intro e; cases e; exact hzy rfl
                  · exact HJ.out t (by omega)
                clear hzj HJ hzy
                go_wp2_with fail
                go_quiet (fail)
                go_wp2_with fail
                go_roundg (k - (j + 1))
                case measure => omega
                case rel => exact ⟨j + 1, _, by omega, rfl, rfl, by go_num, HJ', rfl⟩
            · have hjk' : j = k := by omega
              subst hjk'
              have HI : Hid (idx (keysTo xs j) y = j) := by
                have := idx_end (keysTo xs j) y (fun t ht => HJ.out t (by omega))
                rw [hkl] at this
                exact this
              go_wp2_with fail
              go_meet
              case rel => exact ⟨by rw [HI.out], _, rfl⟩
        case rest =>
          obtain ⟨rfl, m, hwd⟩ := hcut
          have hkd : wc.ownsRow (w.heap.size + 1) 55 5 u4 k (ncs (keysTo xs k)) := own_of_eqN hwd hka
          have hod : wc.ownsRow (w.heap.size + 1) 3 1 u3 k (iv (firstsTo xs k)) := own_of_eqN hwd hoa
          have hBd : Below wr.heap.size wr wc := by rw [hwd]; exact belowN hBx m
          have hsd : wr.heap.size < wc.heap.size := by rw [hwd]; show wr.heap.size < wa.heap.size; omega
          have q0 : wc.cell? ⟨wr.heap.size, 0, none⟩ = some (.int .i64 y.k) := by rw [hwd]; exact d0
          have q1 : wc.cell? ⟨wr.heap.size, 1, none⟩ = some (.int .i64 y.n) := by rw [hwd]; exact d1
          have q2 : wc.cell? ⟨wr.heap.size, 2, none⟩ = some (.string y.s) := by rw [hwd]; exact d2
          have q3 : wc.cell? ⟨wr.heap.size, 3, none⟩ = some (.int .i64 y.a) := by rw [hwd]; exact d3
          have q4 : wc.cell? ⟨wr.heap.size, 4, none⟩ = some (.int .i64 y.b) := by rw [hwd]; exact d4
          obtain ⟨a4, q4', rfl⟩ := own_form hkd
          obtain ⟨a3, q3', rfl⟩ := own_form hod
          clear hwd hka hoa d0 d1 d2 d3 d4 hBx hsx hbx
          have hnk : wr.heap.size ≠ wc.heap.size := by omega
          have L1 := NRow.lit1 wc y hys
          generalize idx (keysTo xs k) y = ix at HF ⊢
          go_wp2_with (at_builtin; refine wpList_append_own_any _ rfl _ _ 24 rfl (w.heap.size + 1) 55 n0 _ 5 48 Tryd.underlying24 hn hn0 hn1 hn2 rfl (by decide) _ _ _ rfl (hkd.alloc _) (some ⟨wc.heap.size, 0, none⟩) 1 1 (ncs [y]) rfl rfl L1.nilcap L1.cells (ncs_one _) (by unfold maxLen; omega) (by omega) (by simp; omega) ?_)
          intro v5 w5 ho5 hg5
          have hk5 : w5.ownsRow (w.heap.size + 1) 55 5 v5 (k + 1) (ncs (keysTo xs (k + 1))) := by rw [HK.out, ncs_append]; exact ho5
          have ho6 := (hod.alloc (Obj.cells #[.int .i64 y.k, .int .i64 y.n, .string y.s, .int .i64 y.a, .int .i64 y.b] 55)).kept hg5 (own_apart hod hkd (by decide))
          have hB5 : Below (w.heap.size + 1) wr w5 := ((hBd.mono (by omega)).alloc (by omega) _).grown hg5 (by simp; omega) (fun j hj => (hkd.lt j hj).1)
          have hs5 : wc.heap.size + 1 ≤ w5.heap.size := by have := hg5.size; simpa using this
          clear ho5 hg5 q0 q1 q2 q3 q4
          go_wp2_with (at_builtin; refine wpList_append_own _ rfl _ _ 34 rfl (w.heap.size + 1) 3 i0 (.int .i64 0) 1 8 Tryd.underlying34 hi hz0 hz1 hz2 rfl (by decide) _ _ _ rfl (ho6.alloc _) ⟨w5.heap.size, 0, none⟩ 1 1 [.int .i64 (ix : Int)] rfl rfl (cell_one_new _ _ _) (fun u hu => by simp at hu; subst hu; rfl) (by unfold maxLen; omega) (by omega) (by simp; omega) ?_)
          intro v7 w7 ho7 hg7 _
          have ho8 : w7.ownsRow (w.heap.size + 1) 3 1 v7 (k + 1) (iv (firstsTo xs (k + 1))) := by rw [HF.out, iv_append]; exact ho7
          have hk8 := (hk5.alloc (Obj.cells #[.int .i64 (ix : Int)] 3)).kept hg7 (own_apart hk5 ho6 (by decide))
          have hB7 : Below (w.heap.size + 1) wr w7 := (hB5.alloc (by omega) _).grown hg7 (by simp; omega) (fun j hj => (ho6.lt j hj).1)
          have hbp7 := (hB7.block w.heap.size (by omega)).trans hbp
          have hB8 := hB.trans (hB7.mono (by omega))
          clear ho7 hg7
          go_wp2_with fail
          go_roundg (xs.length - (k + 1))
          case measure => omega
          case rel => exact ⟨k + 1, by omega, rfl, by go_num, hbp7, ho8, hk8, hB8⟩
    · have hkx : k = xs.length := by omega
      subst hkx
      go_wp2
      go_ret
      exact ⟨_, rfl, own_mono ho (by omega), hB⟩
end Go.Proofs.YtmgjefkelohocaaDoor
