/-
  Texts that stood by themselves, laid into one.
-/
import Derived.Test.YtbgkofinmdpmcaaGreatDoorSizeIM
import Derived.Test.YtbgkofinmdpmcaaGreatDoorFormM
import Derived.Test.YtbgkofinmdpmcaaGreatDoorMvMathM
import Derived.Test.YtbgkofinmdpmcaaGreatDoorBoolsM
import Derived.Test.YtbgkofinmdpmcaaGreatDoorMkListM
import Derived.Test.YtbgkofinmdpmcaaGreatDoorRNodesM
/-
  Contract of impl's withParts: a node with its parts where they are told to be. Conditions: the node's kind is one, its parts are told of.
-/
namespace Go.Proofs.YtbgkofinmdpmcaaGreatDoor
open Go.RowKit

theorem Tryz.sizeNW : (Tryz.prog.info? 64).map (·.size) = some 5 := by kernel_rfl

set_option maxRecDepth 100000 in
set_option maxHeartbeats 1600000 in
theorem withparts_any (x : Nd) (B n : Nat) (l : List Int) (w : World) (hkd : 1 ≤ x.k ∧ x.k ≤ 9) (hA : hasA x.k = true → 0 ≤ x.a ∧ x.a < n) (hB : hasB x.k = true → 0 ≤ x.b ∧ x.b < n) (hl : ∀ i, i < n → w.cell? ⟨B, i, none⟩ = some (.int .i64 (l.getD i 0))) (hBw : B < w.heap.size) :
    Calls Tryz.prog 40 #[.agg #[.int .i64 x.k, .int .i64 x.n, .string x.s, .int .i64 x.a, .int .i64 x.b], .slice (some ⟨B, 0, none⟩) n n] w fun e w' => e = .returned (.agg #[.int .i64 x.k, .int .i64 x.n, .string x.s, .int .i64 (nrm l x).a, .int .i64 (nrm l x).b]) ∧ Below w.heap.size w w' := by
  go_enter Tryz.func40, Tryz.ntmps40
  go_wp2_with fail
  refine (shapeof_any x.k _).mono ?_
  rintro e w4 ⟨rfl, hb4⟩
  rw [shapeV, if_pos hkd]
  have hbox := (hb4.block w.heap.size (by simp; omega)).trans (old2 _ _ _)
  have hres := (hb4.block (w.heap.size + 1) (by simp)).trans (heap_alloc2_new _ _ _)
  have hB4 : Below w.heap.size w w4 := (below2 w _ _).trans (hb4.mono (by simp; omega))
  have hw4 : w.heap.size + 1 < w4.heap.size := (Array.getElem?_eq_some_iff.1 hres).1
  have hcellN : ∀ j, w4.cell? ⟨w.heap.size, j, none⟩ = #[Value.int .i64 x.k, .int .i64 x.n, .string x.s, .int .i64 x.a, .int .i64 x.b][j]? := fun j => cell_of_row w4 _ j _ _ _ hbox
  have hfrN : ∀ j, w4.frozen? ⟨w.heap.size, j, none⟩ = false := fun j => frozen_of_row w4 _ j _ _ hbox
  have d0 := hcellN 0
  have d1 := hcellN 1
  have d2 := hcellN 2
  have d3 := hcellN 3
  have d4 := hcellN 4
  simp only [List.getElem?_toArray, List.getElem?_cons_succ, List.getElem?_cons_zero] at d0 d1 d2 d3 d4
  have f3 := hfrN 3
  have f4 := hfrN 4
  have hne : w.heap.size ≠ w.heap.size + 1 := by omega
  have hw5 : w.heap.size < w4.heap.size := by omega
  have hBw5 : B < w4.heap.size := by omega
  have hneB : B ≠ w.heap.size := by omega
  have hl4 : ∀ i, i < n → w4.cell? ⟨B, i, none⟩ = some (.int .i64 (l.getD i 0)) := fun i hi => (hB4.cell (p := ⟨B, i, none⟩) hBw).trans (hl i hi)
  clear hcellN hfrN hb4 hl
  cases hAb : hasA x.k with
  | false =>
    have hBb : hasB x.k = false := by
      unfold hasA at hAb; unfold hasB
      simp only [decide_eq_false_iff_not] at hAb ⊢
      omega
    have HN : Hid ((nrm l x).a = x.a ∧ (nrm l x).b = x.b) := by unfold Hid nrm; rw [hAb, hBb]; exact ⟨rfl, rfl⟩
    rw [hBb]
    clear hA hB hl4
    go_wp2_with (refine wpList_store_own rfl 64 _ _ rfl (w.heap.size + 1) #[.int .i64 x.k, .int .i64 x.n, .string x.s, .int .i64 x.a, .int .i64 x.b] rfl rfl 64 _ ((heap_alloc_old _ _ hw4).trans hres) Tryz.sizeNW rfl (by simp [Value.oneCell']) ?_)
    intro w6 hh6 hb6 hs6
    have hB6 : Below w.heap.size w w6 := (hB4.alloc hB4.size _).trans (hb6.mono (by omega))
    go_wp2
    exact bodyPost_ret (results_cell_row rfl _ _ (w.heap.size + 1) 64 _ (0, 0) _ rfl hh6 Tryz.underlying64 rfl Tryz.sizeNW) rfl ⟨by rw [HN.out.1, HN.out.2], hB6⟩
  | true => 
    obtain ⟨ha1, ha2⟩ := hA hAb
    obtain ⟨na, hna⟩ := Int.eq_ofNat_of_zero_le ha1
    have HA : Hid ((nrm l x).a = l.getD na 0) := by unfold Hid nrm; rw [hAb, hna]; rfl
    rw [hna] at d3 ha2
    have ea := hl4 na (by omega)
    generalize l.getD na 0 = fa at ea HA
    cases hBb : hasB x.k with
    | false => 
      have hres1 := (Below.heap_setCell w4 ⟨w.heap.size, 3, none⟩ (.int .i64 fa) (w.heap.size + 1) (by simp)).trans hres
      have hB41 := hB4.setCell (p := ⟨w.heap.size, 3, none⟩) (by simp) (.int .i64 fa)
      have HB : Hid ((nrm l x).b = x.b) := by unfold Hid nrm; rw [hBb]; rfl
      clear hA hB hl4
      go_wp2_with (refine wpList_store_own rfl 64 _ _ rfl (w.heap.size + 1) #[.int .i64 x.k, .int .i64 x.n, .string x.s, .int .i64 fa, .int .i64 x.b] rfl rfl 64 _ ((heap_alloc_old _ _ (by simpa using hw4)).trans hres1) Tryz.sizeNW rfl (by simp [Value.oneCell']) ?_)
      intro w6 hh6 hb6 hs6
      have hB6 : Below w.heap.size w w6 := (hB41.alloc (by simpa using hB4.size) _).trans (hb6.mono (by omega))
      go_wp2
      exact bodyPost_ret (results_cell_row rfl _ _ (w.heap.size + 1) 64 _ (0, 0) _ rfl hh6 Tryz.underlying64 rfl Tryz.sizeNW) rfl ⟨by rw [HA.out, HB.out], hB6⟩
    | true => 
      obtain ⟨hb1, hb2⟩ := hB hBb
      obtain ⟨nb', hnb⟩ := Int.eq_ofNat_of_zero_le hb1
      have HB : Hid ((nrm l x).b = l.getD nb' 0) := by unfold Hid nrm; rw [hBb, hnb]; rfl
      rw [hnb] at d4 hb2
      have eb := hl4 nb' (by omega)
      generalize l.getD nb' 0 = fb at eb HB
      have hres1 := (Below.heap_setCell w4 ⟨w.heap.size, 3, none⟩ (.int .i64 fa) (w.heap.size + 1) (by simp)).trans hres
      have hres2 := (Below.heap_setCell (w4.setCell ⟨w.heap.size, 3, none⟩ (.int .i64 fa)) ⟨w.heap.size, 4, none⟩ (.int .i64 fb) (w.heap.size + 1) (by simp)).trans hres1
      have hB42 := (hB4.setCell (p := ⟨w.heap.size, 3, none⟩) (by simp) (.int .i64 fa)).setCell (p := ⟨w.heap.size, 4, none⟩) (by simp) (.int .i64 fb)
      clear hres1
      clear hA hB hl4
      go_wp2_with (refine wpList_store_own rfl 64 _ _ rfl (w.heap.size + 1) #[.int .i64 x.k, .int .i64 x.n, .string x.s, .int .i64 fa, .int .i64 fb] rfl rfl 64 _ ((heap_alloc_old _ _ (by simpa using hw4)).trans hres2) Tryz.sizeNW rfl (by simp [Value.oneCell']) ?_)
      intro w6 hh6 hb6 hs6
      have hB6 : Below w.heap.size w w6 := (hB42.alloc (by simpa using hB4.size) _).trans (hb6.mono (by omega))
      go_wp2
      exact bodyPost_ret (results_cell_row rfl _ _ (w.heap.size + 1) 64 _ (0, 0) _ rfl hh6 Tryz.underlying64 rfl Tryz.sizeNW) rfl ⟨by rw [HA.out, HB.out], hB6⟩

end Go.Proofs.YtbgkofinmdpmcaaGreatDoor

/-
  Contracts of impl's hungOn and Reach. Conditions of hungOn: the pool is right, and all roots are nodes of it.
-/
namespace Go.Proofs.YtbgkofinmdpmcaaGreatDoor
open Go.RowKit

theorem Tryz.infoBl : (Tryz.prog.info? 4).map (fun i => (i.zero, i.size, i.bytes)) = some (some (.bool false), 1, 1) := by kernel_rfl
theorem vb_made (n : Nat) : vb (List.replicate n false) = (madeCells #[Value.bool false] n).toList := by rw [toList_madeCells_one]; simp [vb]
theorem allI_at {xs : List Nd} {rs : List Int} (h : allI xs rs = true) (k : Nat) (hk : k < rs.length) : 0 ≤ rs.getD k 0 ∧ rs.getD k 0 < xs.length := by
  unfold allI at h
  rw [List.all_eq_true] at h
  have := h (rs.getD k 0) (by rw [List.getD_eq_getElem?_getD, List.getElem?_eq_getElem hk]; exact List.getElem_mem _)
  simpa [hasI] using this

set_option maxRecDepth 100000 in
set_option maxHeartbeats 1600000 in
theorem hungon_any (ao : Option Addr) (cap : Nat) (vl : Value) (xs : List Nd) (rs : List Int) (w : World) (R : NRow w (.slice ao xs.length cap) xs) (L : IRow w vl rs) (hp : poolB xs = true) (hr : allI xs rs = true) :
    Calls Tryz.prog 64 #[.agg #[.slice ao xs.length cap], vl] w fun e w' => ∃ v', e = .returned v' ∧ w'.ownsRow w.heap.size 4 1 v' xs.length (vb (reachL xs rs)) ∧ Below w.heap.size w w' := by
  have hlen := poolB_len hp
  have hB0 : Below w.heap.size w (w.alloc (Obj.cells #[.slice ao xs.length cap] 26)) := (Below.refl _ _).alloc (Nat.le_refl _) _
  have hbx := heap_alloc_new w (Obj.cells #[.slice ao xs.length cap] 26)
  have R0 := R.below hB0
  have L0 := L.below hB0
  clear R L
  have hs0 : (w.alloc (Obj.cells #[.slice ao xs.length cap] 26)).heap.size = w.heap.size + 1 := by simp
  obtain ⟨i0, hi, hz0, hz1, hz2⟩ := info_parts Tryz.infoBl
  have hbytes : i0.bytes * xs.length ≤ 281474976710656 := by rw [hz2]; omega
  have hmax : xs.length ≤ maxLen := by unfold maxLen; omega
  go_enter Tryz.func64, Tryz.ntmps64
  go_wp2_with (at_make; refine wpList_make_full _ rfl _ _ 96 rfl (w.heap.size + 1) 4 i0 (.bool false) 1 Tryz.underlying96 hi hz0 hz1 _ _ _ _ xs.length rfl rfl rfl rfl hbytes hmax (by simp) ?_)
  intro w1 hown hgrow
  generalize w.alloc (Obj.cells #[.slice ao xs.length cap] 26) = w0 at *
  have hB1 : Below (w.heap.size + 1) w0 w1 := (Below.refl _ _).grown hgrow (by omega) (by intro k hk; cases hk)
  clear hgrow hbytes hmax
  obtain ⟨al, cl, rfl, hcl, _, hlc⟩ := L0
  go_wp2_with fail
  go_loopw [18] (fun i wr => ∃ (k : Nat) (bs : List Bool), k ≤ rs.length ∧ i = .int .i64 k ∧ bs.length = xs.length ∧ Hid ((rs.drop k).foldl setB bs = rootsB xs.length rs) ∧ wr.ownsRow (w.heap.size + 1) 4 1 (.slice (some ⟨w.heap.size + 1, 0, none⟩) xs.length xs.length) xs.length (vb bs) ∧ Below (w.heap.size + 1) w0 wr) (fun i _ => rs.length - (intOf i).toNat)
  case atStart => exact ⟨0, List.replicate xs.length false, by omega, rfl, by simp, rfl, by rw [vb_made]; exact hown, hB1⟩
  case round =>
    clear hown hB1
    obtain ⟨k, bs, hk, rfl, hbl, HF, hown, hB⟩ := hrel
    by_cases hlt : k < rs.length
    · obtain ⟨g, o, rfl, hg, hlc⟩ := hlc (by intro e; subst e; simp at hlt)
      have ez := (hB.cell (p := ⟨g, o + k, none⟩) (by simp; omega)).trans (hlc k hlt)
      obtain ⟨h1, h2⟩ := allI_at hr k hlt
      have HF2 : Hid ((rs.drop (k + 1)).foldl setB (setB bs (rs.getD k 0)) = rootsB xs.length rs) := (fold_drop rs bs k hlt).symm.trans HF.out
      generalize rs.getD k 0 = z at ez h1 h2 HF2
      obtain ⟨nz, rfl⟩ := Int.eq_ofNat_of_zero_le h1
      have ec := hown.cellAt nz (by omega)
      rw [vb_get _ _ (by omega)] at ec
      have ef := hown.frozenAt nz
      have hs := (hown.stored nz (.bool true)).1
      rw [vb_set] at hs
      clear hlc hr HF
      go_wp2
      go_roundw
      case rel => exact ⟨k + 1, setB bs nz, by omega, by go_num, by rw [setB_length, hbl], HF2, hs, hB.setCell (p := ⟨w.heap.size + 1, nz, none⟩) (Nat.le_refl _) _⟩
      case measure => simp [intOf]; omega
    · have hkx : k = rs.length := by omega
      subst hkx
      have HR : Hid (down xs xs.length bs = reachL xs rs) := by
        have := HF.out
        rw [List.drop_length, List.foldl_nil] at this
        rw [this]
        rfl
      clear HF hk hlt hlc hr
      have ep := (hB.cell (p := ⟨w.heap.size, 0, none⟩) (by simp)).trans ((cell_of_row w0 _ 0 _ _ _ hbx).trans rfl)
      have hBw : w.heap.size + 1 < wr.heap.size := (hown.lt _ rfl).2
      go_wp2_with fail
      go_loopw [8] (fun i wq => ∃ (k : Nat) (cs : List Bool), k ≤ xs.length ∧ i = .int .i64 ((k : Int) - 1) ∧ cs.length = xs.length ∧ Hid (down xs k cs = reachL xs rs) ∧ wq.ownsRow (w.heap.size + 1) 4 1 (.slice (some ⟨w.heap.size + 1, 0, none⟩) xs.length xs.length) xs.length (vb cs) ∧ Below (w.heap.size + 1) w0 wq) (fun i _ => (intOf i + 1).toNat)
      case atStart => exact ⟨xs.length, bs, Nat.le_refl _, rfl, hbl, HR, hown, hB⟩
      case round =>
        clear hown hB HR hbl ep hBw
        clear bs
        obtain ⟨k, bs, hk, rfl, hbl, HR, hown, hB⟩ := hrel
        have ep := (hB.cell (p := ⟨w.heap.size, 0, none⟩) (by simp)).trans ((cell_of_row w0 _ 0 _ _ _ hbx).trans rfl)
        have hBw : w.heap.size + 1 < wr.heap.size := (hown.lt _ rfl).2
        rcases Nat.eq_zero_or_pos k with rfl | hpos
        · have HQ : Hid (bs = reachL xs rs) := HR
          clear HR
          go_wp2
          go_ret
          rw [HQ.out] at hown
          exact ⟨_, rfl, own_mono hown (by omega), hB0.trans (hB.mono (by omega))⟩
        · obtain ⟨j, rfl⟩ : ∃ j, k = j + 1 := ⟨k - 1, by omega⟩
          rw [show ((j + 1 : Nat) : Int) - 1 = (j : Int) by omega]
          obtain ⟨ao', cap', e', _, _, hz, hcell⟩ := R0
          simp only [Value.slice.injEq, true_and] at e'
          obtain ⟨rfl, rfl⟩ := e'
          obtain ⟨g, o, rfl, hg, hcell⟩ := hcell (by intro e; subst e; simp at hk)
          obtain ⟨x, hx⟩ : ∃ x, xs[j]? = some x := ⟨xs[j], by simp⟩
          obtain ⟨c0, c1, c2, c3, c4⟩ := (hcell j x hx).below hB (by rw [hs0] at hg; exact hg)
          have hnb := poolB_at hp hx
          have hkd := nodeB_kind hnb
          have HD : Hid (down xs j (hungStep x (bs.getD j false) bs) = reachL xs rs) := (down_at xs bs j x hx).symm.trans HR.out
          have hA : hasA x.k = true → 0 ≤ x.a ∧ x.a < (j : Int) := fun h => nodeB_A hnb h
          have hBb : hasB x.k = true → 0 ≤ x.b ∧ x.b < (j : Int) := fun h => nodeB_B hnb h
          clear hcell hx HR hnb
          go_wp2_with fail
          refine (shapeof_any x.k _).mono ?_
          rintro e w4 ⟨rfl, hb4⟩
          rw [shapeV, if_pos hkd]
          have hbox := (hb4.block wr.heap.size (by simp)).trans (heap_alloc_new _ _)
          have d3 := cell_of_row w4 _ 3 _ _ _ hbox
          have d4 := cell_of_row w4 _ 4 _ _ _ hbox
          simp only [List.getElem?_toArray, List.getElem?_cons_succ, List.getElem?_cons_zero] at d3 d4
          have hB4' : Below wr.heap.size wr w4 := ((Below.refl wr.heap.size wr).alloc (Nat.le_refl _) _).trans (hb4.mono (by simp))
          have hown4 := own_below hown hB4'
          have hB4 := hB.trans (hB4'.mono (by omega))
          have hw4 : wr.heap.size < w4.heap.size := (Array.getElem?_eq_some_iff.1 hbox).1
          have hw4' : w.heap.size + 1 < w4.heap.size := by omega
          have hne4 : w.heap.size + 1 ≠ wr.heap.size := by omega
          have e0 := hown4.cellAt j (by omega)
          rw [vb_get _ _ (by omega)] at e0
          clear c0 c1 c2 c3 c4 hbox hb4 hB4' hown hB ep
          have hrl : ∀ z, (hungStep x z bs).length = xs.length := fun z => (hungStep_length x z bs).trans hbl
          cases hb : bs.getD j false with
          | false =>
            rw [hb] at e0 HD
            have hl2 := hrl false
            have HE : Hid (hungStep x false bs = bs) := by unfold Hid hungStep; simp
            clear hA hBb hrl hb
            go_wp2
            refine ⟨⟨j, bs, by omega, by go_num, hbl, by rw [HE.out] at HD; exact HD, hown4.alloc _, hB4.alloc (by omega) _⟩, by simp [intOf]⟩
          | true =>
            rw [hb] at e0 HD
            have hl2 := hrl true
            clear hrl hb
            cases hAk : hasA x.k with
            | false =>
              have hBk : hasB x.k = false := by
                unfold hasA at hAk; unfold hasB
                simp only [decide_eq_false_iff_not] at hAk ⊢
                omega
              have HE : Hid (hungStep x true bs = bs) := by unfold Hid hungStep; rw [hAk, hBk]; simp
              rw [hBk]
              clear hA hBb
              go_wp2
              refine ⟨⟨j, bs, by omega, by go_num, hbl, by rw [HE.out] at HD; exact HD, hown4.alloc _, hB4.alloc (by omega) _⟩, by simp [intOf]⟩
            | true =>
              obtain ⟨ha1, ha2⟩ := hA hAk
              obtain ⟨na, hna⟩ := Int.eq_ofNat_of_zero_le ha1
              rw [hna] at d3 ha2
              have e1 := hown4.cellAt na (by omega)
              rw [vb_get _ _ (by omega)] at e1
              have f1 := hown4.frozenAt na
              have hs1 := (hown4.stored na (.bool true)).1
              rw [vb_set] at hs1
              have hnj : na ≠ j := by omega
              have hB5 := hB4.setCell (p := ⟨w.heap.size + 1, na, none⟩) (Nat.le_refl _) (.bool true)
              cases hBk : hasB x.k with
              | false =>
                have HE : Hid (hungStep x true bs = bs.set na true) := by unfold Hid hungStep setB; rw [hAk, hBk, hna]; simp
                clear hA hBb
                go_wp2
                refine ⟨⟨j, bs.set na true, by omega, by go_num, by simpa using hbl, by rw [HE.out] at HD; exact HD, hs1.alloc _, hB5.alloc (by simp; omega) _⟩, by simp [intOf]⟩
              | true =>
                obtain ⟨hb1, hb2⟩ := hBb hBk
                obtain ⟨nb', hnb'⟩ := Int.eq_ofNat_of_zero_le hb1
                rw [hnb'] at d4 hb2
                have HE : Hid (hungStep x true bs = (bs.set na true).set nb' true) := by unfold Hid hungStep setB; rw [hAk, hBk, hna, hnb']; simp
                have e2 := hs1.cellAt nb' (by omega)
                rw [vb_get _ _ (by simp; omega)] at e2
                have f2 := hs1.frozenAt nb'
                have hs2 := (hs1.stored nb' (.bool true)).1
                rw [vb_set] at hs2
                have hB6 := hB5.setCell (p := ⟨w.heap.size + 1, nb', none⟩) (Nat.le_refl _) (.bool true)
                clear hA hBb
                go_wp2
                refine ⟨⟨j, (bs.set na true).set nb' true, by omega, by go_num, by simpa using hbl, by rw [HE.out] at HD; exact HD, hs2.alloc _, hB6.alloc (by simp; omega) _⟩, by simp [intOf]⟩

/-- What Reach answers. -/
def reachR (xs : List Nd) (rs : List Int) : List Bool := if poolB xs && allI xs rs then reachL xs rs else []
theorem reachR_len (xs : List Nd) (rs : List Int) : (reachR xs rs).length ≤ xs.length := by
  unfold reachR
  split
  · rw [reachL_length]; omega
  · simp

end Go.Proofs.YtbgkofinmdpmcaaGreatDoor

/-
  Contracts of slices.Contains of bools, (impl.Pool).isKept and (impl.reader).end. No condition but that the pool is right.
-/
namespace Go.Proofs.YtbgkofinmdpmcaaGreatDoor
open Go.RowKit

set_option maxHeartbeats 800000 in
theorem bindex_any (v : Value) (bs : List Bool) (w : World) (R : BRow w v bs) (hl : bs.length ≤ 4194304) :
    Calls Tryz.prog 99 #[v, .bool false] w fun e w' => ∃ r : Int, e = .returned (.int .i64 r) ∧ (0 ≤ r ↔ false ∈ bs) ∧ w' = w := by
  obtain ⟨ao, cap, rfl, _, _, hcell⟩ := R
  go_enter Tryz.func99, Tryz.ntmps99
  go_wp2_with fail
  go_loopw [8] (fun i wr => ∃ k : Nat, k ≤ bs.length ∧ i = .int .i64 k ∧ Hid (∀ j, j < k → bs[j]? = some true) ∧ wr = w) (fun i _ => bs.length - (intOf i).toNat)
  case atStart => exact ⟨0, by omega, rfl, fun j hj => by omega, rfl⟩
  case round =>
    obtain ⟨k, hk, rfl, HA, rfl⟩ := hrel
    by_cases hlt : k < bs.length
    · obtain ⟨g, o, rfl, hg, hcell⟩ := hcell (by intro e; subst e; simp at hlt)
      have hc := hcell k hlt
      clear hcell
      obtain ⟨b, hb⟩ : ∃ b, bs[k]? = some b := ⟨bs[k], by simp [hlt]⟩
      rw [show bs.getD k false = b by simp [List.getD, hb]] at hc
      cases b with
      | false =>
        have hm : false ∈ bs := List.mem_of_getElem? hb
        go_wp2
        go_ret
        exact ⟨k, rfl, ⟨fun _ => hm, fun _ => by omega⟩, rfl⟩
      | true =>
        have HA2 : Hid (∀ j, j < k + 1 → bs[j]? = some true) := fun j hj => by
          rcases Nat.lt_or_ge j k with h | h
          · exact HA.out j h
          · obtain rfl : j = k := by omega
            exact hb
        go_wp2
        go_roundw
        case rel => exact ⟨k + 1, by omega, by go_num, HA2, by trivial⟩
        case measure => simp [intOf]; omega
    · have hke : k = bs.length := by omega
      subst hke
      have hm : false ∉ bs := fun h => by
        obtain ⟨j, hj, he⟩ := List.getElem_of_mem h
        have := HA.out j hj
        rw [List.getElem?_eq_getElem hj, he] at this
        cases this
      go_wp2
      go_ret
      exact ⟨-1, rfl, ⟨fun h => by omega, fun h => absurd h hm⟩, rfl⟩
set_option maxHeartbeats 800000 in
theorem bcontains_any (v : Value) (bs : List Bool) (w : World) (R : BRow w v bs) (hl : bs.length ≤ 4194304) :
    Calls Tryz.prog 84 #[v, .bool false] w fun e w' => e = .returned (.bool (bs.contains false)) ∧ w' = w := by
  go_enter Tryz.func84, Tryz.ntmps84
  go_wp2_with fail
  refine (bindex_any v bs w R hl).mono ?_
  rintro e w1 ⟨r, rfl, hr, rfl⟩
  have HE : Hid (bs.contains false = decide (0 ≤ r)) := by
    unfold Hid
    rw [Bool.eq_iff_iff, List.contains_iff_mem, decide_eq_true_eq]
    exact hr.symm
  clear hr
  go_wp2
  go_ret
  exact ⟨by rw [HE.out]; rfl, rfl⟩
set_option maxHeartbeats 800000 in
theorem iskept_any (v vl : Value) (xs : List Nd) (rs : List Int) (w : World) (R : NRow w v xs) (L : IRow w vl rs) (hp : poolB xs = true) (hr : allI xs rs = true) :
    Calls Tryz.prog 50 #[.agg #[v], vl] w fun e w' => e = .returned (.bool (allR xs rs)) ∧ Below w.heap.size w w' := by
  obtain ⟨ao, cap, rfl, _⟩ := id R
  have hlen := poolB_len hp
  have hB0 : Below w.heap.size w (w.alloc (Obj.cells #[.slice ao xs.length cap] 26)) := (Below.refl _ _).alloc (Nat.le_refl _) _
  go_enter Tryz.func50, Tryz.ntmps50
  go_wp2_with fail
  refine (hungon_any ao cap vl xs rs _ (R.below hB0) (L.below hB0) hp hr).mono ?_
  rintro e w1 ⟨v1, rfl, ho, hb1⟩
  have hB1 := hB0.trans (hb1.mono hB0.size)
  have hrl := reachL_length xs rs
  have HL : Hid ((reachL xs rs).length = xs.length) := hrl
  rw [← hrl] at ho
  have RB := BRow.of_own ho (by omega)
  clear hrl
  have HC := bcontains_any v1 (reachL xs rs) _ RB (by rw [HL.out]; omega)
  obtain ⟨cb, hcb⟩ : ∃ cb, Hid ((reachL xs rs).contains false = cb) := ⟨_, rfl⟩
  rw [hcb.out] at HC
  have HA : Hid (allR xs rs = !cb) := by unfold Hid allR; rw [hcb.out]
  clear hcb
  go_wp2_with fail
  refine HC.mono ?_
  rintro e w2 ⟨rfl, rfl⟩
  go_wp2
  go_ret
  exact ⟨by rw [HA.out]; rfl, hB1⟩
/-- Whether all was read. -/
def EndAns (b : Int) (n : Nat) (r : Value) : Prop := (b < n ∧ ∃ p, r = badV p) ∨ (¬ b < n ∧ r = .nilIface)
set_option maxHeartbeats 800000 in
theorem rend_any (v : Value) (zs : List Int) (P : Nat) (b : Int) (w : World) (R : ∃ ao cap, v = .slice ao zs.length cap) (h1 : One w P b) :
    Calls Tryz.prog 51 #[.agg #[v, .pointer (some ⟨P, 0, none⟩)]] w fun e w' => ∃ r, e = .returned r ∧ EndAns b zs.length r ∧ Below w.heap.size w w' := by
  obtain ⟨ao, cap, rfl⟩ := R
  have hB0 : Below w.heap.size w (w.alloc (Obj.cells #[Value.slice ao zs.length cap, Value.pointer (some ⟨P, 0, none⟩)] 55)) := (Below.refl _ _).alloc (Nat.le_refl _) _
  have h2 := h1.below hB0 h1.lt
  have hc := h2.cell
  obtain ⟨W, hW⟩ : ∃ W, w.alloc (Obj.cells #[Value.slice ao zs.length cap, Value.pointer (some ⟨P, 0, none⟩)] 55) = W := ⟨_, rfl⟩
  have hx : W.heap[w.heap.size]? = some (.cells #[Value.slice ao zs.length cap, Value.pointer (some ⟨P, 0, none⟩)] 55 (0, 0)) := by rw [← hW]; exact heap_alloc_new _ _
  rw [hW] at hB0 h2 hc
  have b0 : W.cell? ⟨w.heap.size, 0, none⟩ = some (.slice ao zs.length cap) := cell_of_row W _ 0 _ _ _ hx
  have b1 : W.cell? ⟨w.heap.size, 1, none⟩ = some (.pointer (some ⟨P, 0, none⟩)) := cell_of_row W _ 1 _ _ _ hx
  go_enter Tryz.func51, Tryz.ntmps51
  go_wp2_with fail
  go_quiet (fail)
  by_cases hlt : b < zs.length
  · have HE : ∀ p, EndAns b zs.length (badV p) := fun p => Or.inl ⟨hlt, p, rfl⟩
    go_wp2
    go_ret
    exact ⟨_, rfl, HE _, hB0.trans ⟨rfl, rfl, rfl, Nat.le_refl _, fun _ _ => rfl⟩⟩
  · have HE : EndAns b zs.length .nilIface := Or.inr ⟨hlt, rfl⟩
    go_wp2
    go_ret
    exact ⟨_, rfl, HE, hB0.trans ⟨rfl, rfl, rfl, Nat.le_refl _, fun _ _ => rfl⟩⟩
end Go.Proofs.YtbgkofinmdpmcaaGreatDoor
