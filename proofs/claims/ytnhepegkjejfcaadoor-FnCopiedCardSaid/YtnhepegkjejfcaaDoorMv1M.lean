/-
  Texts that stood by themselves, laid into one.
-/
import Derived.Test.YtnhepegkjejfcaaDoorIntsM
import Derived.Test.YtnhepegkjejfcaaDoorNameM
import Derived.Test.YtnhepegkjejfcaaDoorGrowM
import Derived.Test.YtnhepegkjejfcaaDoorISameM
import Derived.RangeFuncNested
import Derived.RangeFuncBound
import Derived.RangeFuncCalls
import Derived.RangeFuncLeaves
import Derived.RangeFuncBox
import Derived.Shelf.Abstract
import Derived.Shelf.RegionOpen
import Derived.WalkKit
import Derived.OwnWalkIn
import Derived.TacticsInMore
import Derived.LoopNIn
import Derived.LoopIn
import Derived.Test.YtnhepegkjejfcaaDoorRcMath2M
/-
  Slices of bools: how one reads, and the contracts of the laws' own helpers eqBoolS, markBoolS, heldBoolS.
-/
namespace Go.Proofs.YtnhepegkjejfcaaDoor
open Go.RowKit

/-- Bools as cells. -/
def vb (zs : List Bool) : List Value := zs.map .bool
theorem vb_length (zs : List Bool) : (vb zs).length = zs.length := by simp [vb]
theorem vb_get (zs : List Bool) (i : Nat) (h : i < zs.length) : (vb zs)[i]? = some (.bool (zs.getD i false)) := by simp [vb, List.getD, h]
theorem vb_set (zs : List Bool) (i : Nat) (z : Bool) : (vb zs).set i (.bool z) = vb (zs.set i z) := by simp [vb, List.map_set]

/-- The slice value v reads in w as the bools zs. -/
def BRow (w : World) (v : Value) (zs : List Bool) : Prop :=
  ∃ ao cap, v = .slice ao zs.length cap ∧ (zs.length ≤ cap ∧ (ao = none → cap = 0)) ∧ zs.length ≤ 9223372036854775807 ∧ (zs ≠ [] → ∃ g o, ao = some ⟨g, o, none⟩ ∧ g < w.heap.size ∧ ∀ i, i < zs.length → w.cell? ⟨g, o + i, none⟩ = some (.bool (zs.getD i false)))
theorem BRow.below {w w' : World} {v : Value} {zs : List Bool} (h : BRow w v zs) (hb : Below w.heap.size w w') : BRow w' v zs := by
  obtain ⟨ao, cap, rfl, hc, hm, hcell⟩ := h
  refine ⟨ao, cap, rfl, hc, hm, fun hne => ?_⟩
  obtain ⟨g, o, rfl, hg, hcell⟩ := hcell hne
  exact ⟨g, o, rfl, Nat.lt_of_lt_of_le hg hb.size, fun i hi => (hb.cell (p := ⟨g, o + i, none⟩) hg).trans (hcell i hi)⟩
theorem BRow.of_own {w : World} {base : Nat} {v : Value} {zs : List Bool} (h : w.ownsRow base 4 1 v zs.length (vb zs)) (hm : zs.length ≤ 9223372036854775807) : BRow w v zs := by
  rcases h.2 with ⟨rfl, h0⟩ | ⟨g, cap, cur, rfl, hb, hg, hnc, hcm, hcs, htake⟩
  · have : zs = [] := List.eq_nil_of_length_eq_zero h0
    subst this
    exact ⟨none, 0, rfl, by simp, by simp, fun h => absurd rfl h⟩
  · refine ⟨_, cap, rfl, ⟨hnc, fun h => by cases h⟩, hm, fun _ => ⟨g, 0, rfl, (Array.getElem?_eq_some_iff.1 hg).1, fun i hi => ?_⟩⟩
    have := h.cellAt i (by omega)
    rw [Nat.zero_add, this, vb_get zs i hi]

theorem own_none0 (W : World) (t : TypeId) (k B : Nat) (h : B ≤ W.heap.size) : (W.alloc (Obj.cells #[] t)).ownsRow B t k (.slice (some ⟨W.heap.size, 0, none⟩) 0 0) 0 [] :=
  own_mono (World.ownsRow_made W #[] 0 (Nat.le_refl _) (by simp) (by simp)) h

theorem bne_same (b : Bool) : (b != b) = false := by cases b <;> rfl

/-- What markBoolS writes at the number k. -/
def mk3 (k : Int) : Bool := k % 3 == 0
/-- What lies in a slice of bools behind markBoolS from k on, when i of them are written and zs stood there. -/
def bmarked (k : Int) (zs : List Bool) (i : Nat) : List Bool := (List.range i).map (fun (j : Nat) => mk3 (k + (j : Int))) ++ zs.drop i
theorem bmarked_zero (k : Int) (zs : List Bool) : bmarked k zs 0 = zs := by simp [bmarked]
theorem bmarked_length (k : Int) (zs : List Bool) (i : Nat) (h : i ≤ zs.length) : (bmarked k zs i).length = zs.length := by simp [bmarked]; omega
theorem bmarked_set (k : Int) (zs : List Bool) (i : Nat) (h : i < zs.length) : (bmarked k zs i).set i (mk3 (k + (i : Int))) = bmarked k zs (i + 1) := by
  unfold bmarked
  rw [List.range_succ, List.map_append, List.set_append_right _ _ (by simp), List.drop_eq_getElem_cons h, List.append_assoc]
  have e : i - (List.map (fun (j : Nat) => mk3 (k + (j : Int))) (List.range i)).length = 0 := by simp
  rw [e]
  rfl
theorem bmarked_get (k : Int) (zs : List Bool) (i : Nat) (h : i < zs.length) : (bmarked k zs zs.length).getD i false = mk3 (k + (i : Int)) := by
  simp [bmarked, List.getD, h]

end Go.Proofs.YtnhepegkjejfcaaDoor

/-
  Contracts of impl's hungOn and Reach. Conditions of hungOn: the pool is right, and all roots are nodes of it.
-/
namespace Go.Proofs.YtnhepegkjejfcaaDoor
open Go.RowKit

theorem Tryd.infoBl : (Tryd.prog.info? 4).map (fun i => (i.zero, i.size, i.bytes)) = some (some (.bool false), 1, 1) := by kernel_rfl
theorem vb_made (n : Nat) : vb (List.replicate n false) = (madeCells #[Value.bool false] n).toList := by rw [toList_madeCells_one]; simp [vb]
theorem allI_at {xs : List Nd} {rs : List Int} (h : allI xs rs = true) (k : Nat) (hk : k < rs.length) : 0 ≤ rs.getD k 0 ∧ rs.getD k 0 < xs.length := by
  unfold allI at h
  rw [List.all_eq_true] at h
  have := h (rs.getD k 0) (by rw [List.getD_eq_getElem?_getD, List.getElem?_eq_getElem hk]; exact List.getElem_mem _)
  simpa [hasI] using this

set_option maxRecDepth 100000 in
set_option maxHeartbeats 1600000 in
theorem hungon_any (ao : Option Addr) (cap : Nat) (vl : Value) (xs : List Nd) (rs : List Int) (w : World) (R : NRow w (.slice ao xs.length cap) xs) (L : IRow w vl rs) (hp : poolB xs = true) (hr : allI xs rs = true) :
    Calls Tryd.prog 56 #[.agg #[.slice ao xs.length cap], vl] w fun e w' => ∃ v', e = .returned v' ∧ w'.ownsRow w.heap.size 4 1 v' xs.length (vb (reachL xs rs)) ∧ Below w.heap.size w w' := by
  have hlen := poolB_len hp
  have hB0 : Below w.heap.size w (w.alloc (Obj.cells #[.slice ao xs.length cap] 26)) := (Below.refl _ _).alloc (Nat.le_refl _) _
  have hbx := heap_alloc_new w (Obj.cells #[.slice ao xs.length cap] 26)
  have R0 := R.below hB0
  have L0 := L.below hB0
  clear R L
  have hs0 : (w.alloc (Obj.cells #[.slice ao xs.length cap] 26)).heap.size = w.heap.size + 1 := by simp
  obtain ⟨i0, hi, hz0, hz1, hz2⟩ := info_parts Tryd.infoBl
  have hbytes : i0.bytes * xs.length ≤ 281474976710656 := by rw [hz2]; omega
  have hmax : xs.length ≤ maxLen := by unfold maxLen; omega
  go_enter Tryd.func56, Tryd.ntmps56
  go_wp2_with (at_make; refine wpList_make_full _ rfl _ _ 76 rfl (w.heap.size + 1) 4 i0 (.bool false) 1 Tryd.underlying76 hi hz0 hz1 _ _ _ _ xs.length rfl rfl rfl rfl hbytes hmax (by simp) ?_)
  intro w1 hown hgrow
  generalize w.alloc (Obj.cells #[.slice ao xs.length cap] 26) = w0 at *
  have hB1 : Below (w.heap.size + 1) w0 w1 := (Below.refl _ _).grown hgrow (by omega) (by intro k hk; cases hk)
  clear hgrow hbytes hmax
  obtain ⟨al, cl, rfl, hcl, _, hlc⟩ := L0
  go_wp2_with fail
  go_loopw [18] (fun i wr => ∃ (k : Nat) (bs : List Bool), k ≤ rs.length ∧ i = .int .i64 k ∧ bs.length = xs.length ∧ Hid ((rs.drop k).foldl setB bs = rootsB xs.length rs) ∧ wr.ownsRow (w.heap.size + 1) 4 1 (.slice (some ⟨w.heap.size + 1, 0, none⟩) xs.length xs.length) xs.length (vb bs) ∧ Below (w.heap.size + 1) w0 wr) (fun i _ => rs.length - (intOf i).toNat)
  case atStart => exact ⟨0, List.replicate xs.length false, by omega, rfl, by simp, rfl, by rw [vb_made]; exact hown, hB1⟩
  case round =>
    clear hown hB1
    obtain ⟨k, bs, hk, rfl, hbl, HF, hown, hB⟩ := hrel
    by_cases hlt : k < rs.length
    · obtain ⟨g, o, rfl, hg, hlc⟩ := hlc (by intro e; subst e; simp at hlt)
      have ez := (hB.cell (p := ⟨g, o + k, none⟩) (by simp; omega)).trans (hlc k hlt)
      obtain ⟨h1, h2⟩ := allI_at hr k hlt
      have HF2 : Hid ((rs.drop (k + 1)).foldl setB (setB bs (rs.getD k 0)) = rootsB xs.length rs) := (fold_drop rs bs k hlt).symm.trans HF.out
      generalize rs.getD k 0 = z at ez h1 h2 HF2
      obtain ⟨nz, rfl⟩ := Int.eq_ofNat_of_zero_le h1
      have ec := hown.cellAt nz (by omega)
      rw [vb_get _ _ (by omega)] at ec
      have ef := hown.frozenAt nz
      have hs := (hown.stored nz (.bool true)).1
      rw [vb_set] at hs
      clear hlc hr HF
      go_wp2
      go_roundw
      case rel => exact ⟨k + 1, setB bs nz, by omega, by go_num, by rw [setB_length, hbl], HF2, hs, hB.setCell (p := ⟨w.heap.size + 1, nz, none⟩) (Nat.le_refl _) _⟩
      case measure => simp [intOf]; omega
    · have hkx : k = rs.length := by omega
      subst hkx
      have HR : Hid (down xs xs.length bs = reachL xs rs) := by
        have := HF.out
        rw [List.drop_length, List.foldl_nil] at this
        rw [this]
        rfl
      clear HF hk hlt hlc hr
      have ep := (hB.cell (p := ⟨w.heap.size, 0, none⟩) (by simp)).trans ((cell_of_row w0 _ 0 _ _ _ hbx).trans rfl)
      have hBw : w.heap.size + 1 < wr.heap.size := (hown.lt _ rfl).2
      go_wp2_with fail
      go_loopw [8] (fun i wq => ∃ (k : Nat) (cs : List Bool), k ≤ xs.length ∧ i = .int .i64 ((k : Int) - 1) ∧ cs.length = xs.length ∧ Hid (down xs k cs = reachL xs rs) ∧ wq.ownsRow (w.heap.size + 1) 4 1 (.slice (some ⟨w.heap.size + 1, 0, none⟩) xs.length xs.length) xs.length (vb cs) ∧ Below (w.heap.size + 1) w0 wq) (fun i _ => (intOf i + 1).toNat)
      case atStart => exact ⟨xs.length, bs, Nat.le_refl _, rfl, hbl, HR, hown, hB⟩
      case round =>
        clear hown hB HR hbl ep hBw
        clear bs
        obtain ⟨k, bs, hk, rfl, hbl, HR, hown, hB⟩ := hrel
        have ep := (hB.cell (p := ⟨w.heap.size, 0, none⟩) (by simp)).trans ((cell_of_row w0 _ 0 _ _ _ hbx).trans rfl)
        have hBw : w.heap.size + 1 < wr.heap.size := (hown.lt _ rfl).2
        rcases Nat.eq_zero_or_pos k with rfl | hpos
        · have HQ : Hid (bs = reachL xs rs) := HR
          clear HR
          go_wp2
          go_ret
          rw [HQ.out] at hown
          exact ⟨_, rfl, own_mono hown (by omega), hB0.trans (hB.mono (by omega))⟩
        · obtain ⟨j, rfl⟩ : ∃ j, k = j + 1 := ⟨k - 1, by omega⟩
          rw [show ((j + 1 : Nat) : Int) - 1 = (j : Int) by omega]
          obtain ⟨ao', cap', e', _, _, hz, hcell⟩ := R0
          simp only [Value.slice.injEq, true_and] at e'
          obtain ⟨rfl, rfl⟩ := e'
          obtain ⟨g, o, rfl, hg, hcell⟩ := hcell (by intro e; subst e; simp at hk)
          obtain ⟨x, hx⟩ : ∃ x, xs[j]? = some x := ⟨xs[j], by simp⟩
          obtain ⟨c0, c1, c2, c3, c4⟩ := (hcell j x hx).below hB (by rw [hs0] at hg; exact hg)
          have hnb := poolB_at hp hx
          have hkd := nodeB_kind hnb
          have HD : Hid (down xs j (hungStep x (bs.getD j false) bs) = reachL xs rs) := (down_at xs bs j x hx).symm.trans HR.out
          have hA : hasA x.k = true → 0 ≤ x.a ∧ x.a < (j : Int) := fun h => nodeB_A hnb h
          have hBb : hasB x.k = true → 0 ≤ x.b ∧ x.b < (j : Int) := fun h => nodeB_B hnb h
          clear hcell hx HR hnb
          go_wp2_with fail
          refine (shapeof_any x.k _).mono ?_
          rintro e w4 ⟨rfl, hb4⟩
          rw [shapeV, if_pos hkd]
          have hbox := (hb4.block wr.heap.size (by simp)).trans (heap_alloc_new _ _)
          have d3 := cell_of_row w4 _ 3 _ _ _ hbox
          have d4 := cell_of_row w4 _ 4 _ _ _ hbox
          simp only [List.getElem?_toArray, List.getElem?_cons_succ, List.getElem?_cons_zero] at d3 d4
          have hB4' : Below wr.heap.size wr w4 := ((Below.refl wr.heap.size wr).alloc (Nat.le_refl _) _).trans (hb4.mono (by simp))
          have hown4 := own_below hown hB4'
          have hB4 := hB.trans (hB4'.mono (by omega))
          have hw4 : wr.heap.size < w4.heap.size := (Array.getElem?_eq_some_iff.1 hbox).1
          have hw4' : w.heap.size + 1 < w4.heap.size := by omega
          have hne4 : w.heap.size + 1 ≠ wr.heap.size := by omega
          have e0 := hown4.cellAt j (by omega)
          rw [vb_get _ _ (by omega)] at e0
          clear c0 c1 c2 c3 c4 hbox hb4 hB4' hown hB ep
          have hrl : ∀ z, (hungStep x z bs).length = xs.length := fun z => (hungStep_length x z bs).trans hbl
          cases hb : bs.getD j false with
          | false =>
            rw [hb] at e0 HD
            have hl2 := hrl false
            have HE : Hid (hungStep x false bs = bs) := by unfold Hid hungStep; simp
            clear hA hBb hrl hb
            go_wp2
            refine ⟨⟨j, bs, by omega, by go_num, hbl, by rw [HE.out] at HD; exact HD, hown4.alloc _, hB4.alloc (by omega) _⟩, by simp [intOf]⟩
          | true =>
            rw [hb] at e0 HD
            have hl2 := hrl true
            clear hrl hb
            cases hAk : hasA x.k with
            | false =>
              have hBk : hasB x.k = false := by
                unfold hasA at hAk; unfold hasB
                simp only [decide_eq_false_iff_not] at hAk ⊢
                omega
              have HE : Hid (hungStep x true bs = bs) := by unfold Hid hungStep; rw [hAk, hBk]; simp
              rw [hBk]
              clear hA hBb
              go_wp2
              refine ⟨⟨j, bs, by omega, by go_num, hbl, by rw [HE.out] at HD; exact HD, hown4.alloc _, hB4.alloc (by omega) _⟩, by simp [intOf]⟩
            | true =>
              obtain ⟨ha1, ha2⟩ := hA hAk
              obtain ⟨na, hna⟩ := Int.eq_ofNat_of_zero_le ha1
              rw [hna] at d3 ha2
              have e1 := hown4.cellAt na (by omega)
              rw [vb_get _ _ (by omega)] at e1
              have f1 := hown4.frozenAt na
              have hs1 := (hown4.stored na (.bool true)).1
              rw [vb_set] at hs1
              have hnj : na ≠ j := by omega
              have hB5 := hB4.setCell (p := ⟨w.heap.size + 1, na, none⟩) (Nat.le_refl _) (.bool true)
              cases hBk : hasB x.k with
              | false =>
                have HE : Hid (hungStep x true bs = bs.set na true) := by unfold Hid hungStep setB; rw [hAk, hBk, hna]; simp
                clear hA hBb
                go_wp2
                refine ⟨⟨j, bs.set na true, by omega, by go_num, by simpa using hbl, by rw [HE.out] at HD; exact HD, hs1.alloc _, hB5.alloc (by simp; omega) _⟩, by simp [intOf]⟩
              | true =>
                obtain ⟨hb1, hb2⟩ := hBb hBk
                obtain ⟨nb', hnb'⟩ := Int.eq_ofNat_of_zero_le hb1
                rw [hnb'] at d4 hb2
                have HE : Hid (hungStep x true bs = (bs.set na true).set nb' true) := by unfold Hid hungStep setB; rw [hAk, hBk, hna, hnb']; simp
                have e2 := hs1.cellAt nb' (by omega)
                rw [vb_get _ _ (by simp; omega)] at e2
                have f2 := hs1.frozenAt nb'
                have hs2 := (hs1.stored nb' (.bool true)).1
                rw [vb_set] at hs2
                have hB6 := hB5.setCell (p := ⟨w.heap.size + 1, nb', none⟩) (Nat.le_refl _) (.bool true)
                clear hA hBb
                go_wp2
                refine ⟨⟨j, (bs.set na true).set nb' true, by omega, by go_num, by simpa using hbl, by rw [HE.out] at HD; exact HD, hs2.alloc _, hB6.alloc (by simp; omega) _⟩, by simp [intOf]⟩

/-- What Reach answers. -/
def reachR (xs : List Nd) (rs : List Int) : List Bool := if poolB xs && allI xs rs then reachL xs rs else []
theorem reachR_len (xs : List Nd) (rs : List Int) : (reachR xs rs).length ≤ xs.length := by
  unfold reachR
  split
  · rw [reachL_length]; omega
  · simp

end Go.Proofs.YtnhepegkjejfcaaDoor

/-
  Contracts of impl's reached: the function that it answers tells the nodes that are reached, each with its place, in their order.
-/
namespace Go.Proofs.YtnhepegkjejfcaaDoor
open Go.RowKit Go.Shelf
attribute [local go_sem] Oper.semAt_some

/-- A node of xs with its place. -/
abbrev Itm (xs : List Nd) : Type := { p : Nat × Nd // xs[p.1]? = some p.2 }
def ienc {xs : List Nd} (p : Itm xs) : Array Value := #[.int .i64 (p.1.1 : Int), .agg #[.int .i64 p.1.2.k, .int .i64 p.1.2.n, .string p.1.2.s, .int .i64 p.1.2.a, .int .i64 p.1.2.b]]
/-- The blocks of Z lie as they lay. -/
def KpZ (Z : Nat → Prop) (W W' : World) : Prop := ∀ b, Z b → W'.heap[b]? = W.heap[b]?
theorem KpZ.trans {Z : Nat → Prop} {A B C : World} (h : KpZ Z A B) (k : KpZ Z B C) : KpZ Z A C := fun b hb => (k b hb).trans (h b hb)
theorem KpZ.cell {Z : Nat → Prop} {W W' : World} (h : KpZ Z W W') {p : Addr} (hp : Z p.block) : W'.cell? p = W.cell? p := World.cell?_of_block (w := W) (h p.block hp)
theorem KpZ.lt {Z : Nat → Prop} {W W' : World} (h : KpZ Z W W') {b : Nat} (hp : Z b) (hb : b < W.heap.size) : b < W'.heap.size := by
  have := h b hp
  rw [Array.getElem?_eq_getElem hb] at this
  exact (Array.getElem?_eq_some_iff.1 this).1
theorem KpZ.alloc {Z : Nat → Prop} {W : World} (hZ : ∀ b, Z b → b < W.heap.size) (o : Obj) : KpZ Z W (W.alloc o) := fun b hb => Below.heap_alloc W o b (hZ b hb)

set_option maxRecDepth 100000 in
set_option maxHeartbeats 3200000 in
theorem reach1_stops (F : Fence) (n : Nat) (hf : F.fn 57) (hro : F.round = none) (hn : 1 ≤ n) (Z : Nat → Prop) (Bp Bh : Nat) (ao ah : Option Addr) (cap ch : Nat) (xs : List Nd) (bs : List Bool) (w : World) (hZ : ∀ b, Z b → b < w.heap.size) (zp : Z Bp) (zh : Z Bh)
    (hcp : w.cell? ⟨Bp, 0, none⟩ = some (.slice ao xs.length cap)) (hch : w.cell? ⟨Bh, 0, none⟩ = some (.slice ah xs.length ch)) (hlen : xs.length ≤ 3000) (hcap : xs.length ≤ cap) (hcap2 : xs.length ≤ ch)
    (hx : xs ≠ [] → ∃ g o, ao = some ⟨g, o, none⟩ ∧ Z g ∧ ∀ (i : Nat) (x : Nd), xs[i]? = some x → w.cell? ⟨g, o + i * 5, none⟩ = some (.int .i64 x.k) ∧ w.cell? ⟨g, o + i * 5 + 1, none⟩ = some (.int .i64 x.n) ∧ w.cell? ⟨g, o + i * 5 + 2, none⟩ = some (.string x.s) ∧ w.cell? ⟨g, o + i * 5 + 3, none⟩ = some (.int .i64 x.a) ∧ w.cell? ⟨g, o + i * 5 + 4, none⟩ = some (.int .i64 x.b))
    (hb : xs ≠ [] → ∃ g o, ah = some ⟨g, o, none⟩ ∧ Z g ∧ ∀ i, i < xs.length → w.cell? ⟨g, o + i, none⟩ = some (.bool (bs.getD i false))) :
    SeqStopsK F n Tryd.prog 57 #[.pointer (some ⟨Bp, 0, none⟩), .pointer (some ⟨Bh, 0, none⟩)] (ienc (xs := xs)) (KpZ Z) (fun ys => ys.map (·.1) = its xs bs 0) (fun _ => True) xs.length w := fun l J Jx W hW hJ hJx hY h0 => by
  have hKW : KpZ Z w W := fun b hb => hW.block b (hZ b hb)
  have hcp' := (hKW.cell (p := ⟨Bp, 0, none⟩) zp).trans hcp
  have hch' := (hKW.cell (p := ⟨Bh, 0, none⟩) zh).trans hch
  refine callsIn_of_wp Tryd.func57 rfl hf ?_ hro
  simp only [Tryd.ntmps57, List.size_toArray, List.length_cons, List.length_nil, Nat.reduceAdd, Nat.reduceSub, Array.replicate_succ, Array.replicate_zero, List.push_toArray, List.append_toArray, List.nil_append, List.cons_append]
  gi_wp2
  gi_loopw [9] (fun i wr => ∃ (k : Nat) (pre : List (Itm xs)), k ≤ xs.length ∧ i = .int .i64 k ∧ Hid (pre.map (·.1) ++ its (xs.drop k) bs k = its xs bs 0) ∧ pre.length ≤ k ∧ J pre wr ∧ KpZ Z w wr) (fun i _ => xs.length - (intOf i).toNat)
  case atStart => exact ⟨0, [], by omega, rfl, rfl, by simp, h0, hKW⟩
  case round =>
    clear hcp' hch' hKW h0
    obtain ⟨k, pre, hk, rfl, HP, hpl, hj, hK⟩ := hrel
    by_cases hlt : k < xs.length
    · have hne : xs ≠ [] := by intro e; subst e; simp at hlt
      obtain ⟨g, o, rfl, zg, hx⟩ := hx hne
      obtain ⟨g', o', rfl, zg', hb⟩ := hb hne
      obtain ⟨x, hxk⟩ : ∃ x, xs[k]? = some x := ⟨xs[k], by simp⟩
      obtain ⟨c0, c1, c2, c3, c4⟩ := hx k x hxk
      have c0 := (hK.cell (p := ⟨g, o + k * 5, none⟩) zg).trans c0
      have c1 := (hK.cell (p := ⟨g, o + k * 5 + 1, none⟩) zg).trans c1
      have c2 := (hK.cell (p := ⟨g, o + k * 5 + 2, none⟩) zg).trans c2
      have c3 := (hK.cell (p := ⟨g, o + k * 5 + 3, none⟩) zg).trans c3
      have c4 := (hK.cell (p := ⟨g, o + k * 5 + 4, none⟩) zg).trans c4
      have q0 := (hK.cell (p := ⟨g', o' + k, none⟩) zg').trans (hb k hlt)
      have hch' := (hK.cell (p := ⟨Bh, 0, none⟩) zh).trans hch
      have l1 := hK.lt zh (hZ _ zh)
      have l2 := hK.lt zg' (hZ _ zg')
      have l3 := hK.lt zg (hZ _ zg)
      have HS := its_at xs bs k x hxk
      have hKa : ∀ o, KpZ Z w (wr.alloc o) := fun o => hK.trans (KpZ.alloc (fun b hb => hK.lt hb (hZ b hb)) o)
      have hja : ∀ o, J pre (wr.alloc o) := fun o => hJ pre wr _ none hj (World.grownBy_alloc wr o none) (fun r e => by cases e)
      clear hx hb hcp
      cases hbk : bs.getD k false with
      | false =>
        rw [hbk] at q0 HS
        have HP2 : Hid (pre.map (·.1) ++ its (xs.drop (k + 1)) bs (k + 1) = its xs bs 0) := by unfold Hid; rw [← HP.out, HS]; rfl
        clear HP HS hY hj
        gi_wp2
        refine ⟨fun _ h => (by cases h), ?_⟩
        gi_wp2
        go_roundw
        case rel => exact ⟨k + 1, pre, by omega, by simp, HP2, by omega, hja _, hKa _⟩
        case measure => simp [intOf]; omega
      | true =>
        rw [hbk] at q0 HS
        have HP2 : Hid ((pre ++ [(⟨(k, x), hxk⟩ : Itm xs)]).map (·.1) ++ its (xs.drop (k + 1)) bs (k + 1) = its xs bs 0) := by
          unfold Hid
          rw [← HP.out, HS, if_pos rfl, List.map_append, List.append_assoc]
          rfl
        obtain ⟨fn, tmps, assign, body, hy, hR⟩ := hY pre ⟨(k, x), hxk⟩ (wr.alloc (Obj.cells #[.int .i64 x.k, .int .i64 x.n, .string x.s, .int .i64 x.a, .int .i64 x.b] 40)) (hja _) (by omega)
        dsimp only [ienc] at hy
        clear HP HS hY hj
        gi_wp2
        refine hR.mono ?_
        rintro e W3 (⟨rfl, hJ3, hk3⟩ | ⟨rfl, hJx3⟩)
        · gi_wp2
          go_roundw
          case rel => exact ⟨k + 1, pre ++ [⟨(k, x), hxk⟩], by omega, by simp, HP2, by simp; omega, hJ3, (hKa _).trans hk3⟩
          case measure => simp [intOf]; omega
        · gi_wp2
          refine bodyPost_ret (results_none rfl _ _ _) rfl ?_
          exact ⟨⟨_, rfl⟩, .inr ⟨_, trivial, hJx3⟩⟩
    · obtain rfl : k = xs.length := by omega
      have HE : Hid (pre.map (·.1) = its xs bs 0) := by
        have := HP.out
        rw [its_end, List.append_nil] at this
        exact this
      gi_wp2
      go_end0
      exact ⟨⟨_, rfl⟩, .inl ⟨pre, HE, hj⟩⟩

set_option maxRecDepth 100000 in
set_option maxHeartbeats 1600000 in
theorem ireached_any (ao : Option Addr) (cap : Nat) (vl : Value) (xs : List Nd) (rs : List Int) (w : World) (R : NRow w (.slice ao xs.length cap) xs) (L : IRow w vl rs) (hp : poolB xs = true) (hr : allI xs rs = true) :
    Calls Tryd.prog 39 #[.agg #[.slice ao xs.length cap], vl] w fun e w' => ∃ (Bp Bh : Nat) (vh : Value), e = .returned (.func (.func 57) #[] #[.pointer (some ⟨Bp, 0, none⟩), .pointer (some ⟨Bh, 0, none⟩)]) ∧ w.heap.size ≤ Bp ∧ w.heap.size ≤ Bh ∧ Bp < w'.heap.size ∧ Bh < w'.heap.size ∧ w'.cell? ⟨Bp, 0, none⟩ = some (.slice ao xs.length cap) ∧ w'.cell? ⟨Bh, 0, none⟩ = some vh ∧ w'.ownsRow w.heap.size 4 1 vh xs.length (vb (reachL xs rs)) ∧ Below w.heap.size w w' := by
  have hB0 : Below w.heap.size w (w.alloc (Obj.cells #[.slice ao xs.length cap] 26)) := (Below.refl _ _).alloc (Nat.le_refl _) _
  have hbx := heap_alloc_new w (Obj.cells #[.slice ao xs.length cap] 26)
  go_enter Tryd.func39, Tryd.ntmps39
  go_wp2_with fail
  refine (hungon_any ao cap vl xs rs _ (R.below hB0) (L.below hB0) hp hr).mono ?_
  rintro e w1 ⟨v1, rfl, ho1, hb1⟩
  obtain ⟨a1, q1, rfl⟩ := own_form ho1
  have hx1 := (hb1.block _ (by simp)).trans hbx
  have hsz1 := (Array.getElem?_eq_some_iff.1 hx1).1
  have hB1 := hB0.trans (hb1.mono hB0.size)
  go_wp2
  go_ret
  refine ⟨w.heap.size, w1.heap.size, _, rfl, Nat.le_refl _, hB1.size, by simp; omega, by simp, ?_, ?_, own_mono (ho1.alloc _) hB0.size, hB1.alloc hB1.size _⟩
  · rw [cell_of_row _ _ 0 _ _ _ ((Below.heap_alloc _ _ _ hsz1).trans hx1)]; rfl
  · rw [cell_of_row _ _ 0 _ _ _ (heap_alloc_new _ _)]; rfl
end Go.Proofs.YtnhepegkjejfcaaDoor
