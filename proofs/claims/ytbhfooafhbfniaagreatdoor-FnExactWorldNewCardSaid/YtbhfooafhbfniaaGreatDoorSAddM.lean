/-
  Texts that stood by themselves, laid into one.
-/
import Derived.Test.YtbhfooafhbfniaaGreatDoorRVal2M
import Derived.Deep.RegionHeld3
import Derived.RangeFuncNested
import Derived.RangeFuncBound
import Derived.RangeFuncCalls
import Derived.RangeFuncLeaves
import Derived.RangeFuncBox
import Derived.Shelf.Abstract
import Derived.Shelf.RegionOpen
import Derived.WalkKit
import Derived.OwnWalkIn
import Derived.TacticsInMore
import Derived.LoopNIn
import Derived.LoopIn
import Derived.Test.YtbhfooafhbfniaaGreatDoorIReachM
import Derived.Test.YtbhfooafhbfniaaGreatDoorCyMathM
import Derived.Deep.AppendLies
import Derived.Test.YtbhfooafhbfniaaGreatDoorBsM
import Derived.Test.YtbhfooafhbfniaaGreatDoorSWireM
import Derived.Deep.RegionLaw
/-
  The contract of impl.ValueRead: the value of the bytes, or nothing. The variable errors.errorType reads as it is laid.
-/
namespace Go.Proofs.YtbhfooafhbfniaaGreatDoor
open Go.RowKit
theorem results_row_2 {P : Program} {fn : Func} {p u u' : Tmp} {ty : TypeId} (h : fn.results = #[.cell p ty, .tmp u, .tmp u']) (tmps : Array Value) (w : World) (g : Nat) (t : TypeId) (cs : Array Value) (fr : Nat × Nat) (d : TypeDesc)
    (hp : tmps.getD p undef = .pointer (some ⟨g, 0, none⟩)) (hg : w.heap[g]? = some (.cells cs t fr))
    (hu : P.underlying ty = some d) (hd : (match d with | .struct _ | .array _ _ => true | _ => false) = true) (hi : (P.info? ty).map (·.size) = some cs.size) :
    (results fn tmps).run P w = .ok (.tuple #[.agg cs, tmps.getD u undef, tmps.getD u' undef]) w := by
  have hp' : tmps[p]?.getD undef = .pointer (some ⟨g, 0, none⟩) := by simpa using hp
  simp [results, h, hp', asAddr, run_loadVar_row w g t ty cs fr d hg hu hd hi]
def vrL (zs : List Int) : List Nd := (vrR zs).getD []
def vrI (zs : List Int) : Int := match vrR zs with | some xs => (xs.length : Int) - 1 | none => 0
def vrB (zs : List Int) : Bool := (vrR zs).isSome
theorem vr_yes {zs : List Int} {xs : List Nd} (h : vrR zs = some xs) : vrL zs = xs ∧ vrI zs = (xs.length : Int) - 1 ∧ vrB zs = true := by unfold vrL vrI vrB; rw [h]; exact ⟨rfl, rfl, rfl⟩
theorem vr_no {zs : List Int} (h : vrR zs = none) : vrL zs = [] ∧ vrI zs = 0 ∧ vrB zs = false := by unfold vrL vrI vrB; rw [h]; exact ⟨rfl, rfl, rfl⟩
theorem vr_pool {zs : List Int} {xs : List Nd} (hz : ∀ z ∈ zs, 0 ≤ z ∧ z ≤ 255) (h : vrR zs = some xs) : poolB xs = true ∧ xs ≠ [] := by
  unfold vrR at h
  rw [Option.bind_eq_some_iff] at h
  obtain ⟨⟨ys, b⟩, h1, h2⟩ := h
  split at h2
  · rename_i hc
    cases h2
    exact ⟨(rdP_le hz h1).2, hc.2.1⟩
  · cases h2
def VrAns (B : Nat) (zs : List Int) (e : Ending) (w' : World) : Prop := ∃ v', e = .returned (.tuple #[.agg #[v'], .int .i64 (vrI zs), .bool (vrB zs)]) ∧ w'.ownsRow B 130 5 v' (vrL zs).length (ncs (vrL zs))
theorem VrAns.intro {B : Nat} {zs : List Int} {e : Ending} {w' : World} (v' : Value) (h : e = .returned (.tuple #[.agg #[v'], .int .i64 (vrI zs), .bool (vrB zs)])) (k : w'.ownsRow B 130 5 v' (vrL zs).length (ncs (vrL zs))) : VrAns B zs e w' := ⟨v', h, k⟩
set_option maxRecDepth 100000 in
set_option maxHeartbeats 3200000 in
theorem ivread_any (s : ByteArray) (w : World) (hs : s.size ≤ 140737488351232) (hg : ErrT w) :
    Calls Tryz.prog 108 #[.string s] w fun e w' => VrAns w.heap.size (sb s) e w' ∧ Below w.heap.size w w' := by
  have hB0 : Below w.heap.size w (w.alloc (Obj.cells #[.slice none 0 0] 32)) := (Below.refl _ _).alloc (Nat.le_refl _) _
  go_enter Tryz.func108, Tryz.ntmps108
  go_wp2_with fail
  refine (readerof_any s _ hs).mono ?_
  rintro e w1 ⟨v, W0, P, rfl, R, hbW, hb1, hP, hone⟩
  have hs0 : w.heap.size + 1 ≤ W0.heap.size := by have := hbW.size; simp at this; omega
  have B1 : Below (w.alloc (Obj.cells #[.slice none 0 0] 32)).heap.size (w.alloc (Obj.cells #[.slice none 0 0] 32)) w1 := hbW.trans (hb1.mono hbW.size)
  have x1 := (B1.block w.heap.size (by simp)).trans (heap_alloc_new w _)
  have B01 := hB0.trans (B1.mono hB0.size)
  have hs1 := hb1.size
  obtain ⟨ao, cap, rfl, _⟩ := id R
  go_wp2_with fail
  refine (rvalue_any _ (sb s) W0 w1 P R hb1 hP hone).mono ?_
  rintro e w2 ⟨hgr, hans⟩
  have x2 := (hgr.block w.heap.size (by omega) (by simp; omega)).trans x1
  have B02 : Below w.heap.size w w2 := B01.grown hgr B01.size (fun k hk => by simp at hk; omega)
  have hs2 := hgr.size
  clear hgr B1 B01 x1 hbW hb1 hone
  rcases hans with ⟨xs, vs, a1, rfl, a3⟩ | ⟨a1, av, n, c, p, rfl⟩
  · obtain ⟨e1, e2, e3⟩ := vr_yes a1
    have hlen := poolB_len (vr_pool (sb_wf s) a1).1
    have HA : Hid (vrL (sb s) = xs ∧ vrI (sb s) = (xs.length : Int) - 1 ∧ vrB (sb s) = true) := ⟨e1, e2, e3⟩
    clear e1 e2 e3 a1
    obtain ⟨av, cv, rfl⟩ := own_form a3
    have B3 : Below w2.heap.size w2 (w2.alloc (Obj.cells #[.slice av xs.length cv] 32)) := (Below.refl _ _).alloc (Nat.le_refl _) _
    have y4 : (w2.alloc (Obj.cells #[.slice av xs.length cv] 32)).heap[w2.heap.size]? = some (.cells #[.slice av xs.length cv] 32 (0, 0)) := heap_alloc_new _ _
    go_wp2_with fail
    refine (isbad_nil _).mono ?_
    rintro e w4 ⟨rfl, hb4⟩
    have B24 : Below w2.heap.size w2 w4 := B3.trans (hb4.mono B3.size)
    have y4 := (hb4.block _ (Array.getElem?_eq_some_iff.1 y4).1).trans y4
    have x4 := (B24.block _ (Array.getElem?_eq_some_iff.1 x2).1).trans x2
    have a4 := own_below a3 B24
    have B04 := B02.trans (B24.mono B02.size)
    have q0 : w4.cell? ⟨w2.heap.size, 0, none⟩ = some (.slice av xs.length cv) := cell_of_row w4 _ 0 _ _ _ y4
    have r0 : w4.cell? ⟨w.heap.size, 0, none⟩ = some (.slice none 0 0) := cell_of_row w4 _ 0 _ _ _ x4
    have rf : w4.frozen? ⟨w.heap.size, 0, none⟩ = false := frozen_of_row w4 _ 0 _ _ x4
    have hne : w2.heap.size ≠ w.heap.size := by omega
    have hset := heap_setCell_same w4 w.heap.size 0 _ _ (.slice av xs.length cv) x4
    have hBF := B04.setCell (p := ⟨w.heap.size, 0, none⟩) (Nat.le_refl _) (.slice av xs.length cv)
    have hoF := own_mono (ownsRow_setCell_below a4 (a := ⟨w.heap.size, 0, none⟩) (by show w.heap.size < w1.heap.size; omega) (.slice av xs.length cv)) (show w.heap.size ≤ w1.heap.size by omega)
    clear hb4 B3 B24 y4 x2 B02 a3 a4
    go_wp2_with fail
    go_region
    all_goals
      go_wp2
      refine bodyPost_ret (results_row_2 rfl _ _ w.heap.size 32 _ (0, 0) _ rfl hset Tryz.underlying32 rfl Tryz.sizeP) rfl ⟨VrAns.intro (.slice av xs.length cv) ?_ ?_, hBF.drew⟩
      · rw [HA.out.2.1, HA.out.2.2]; rfl
      · rw [HA.out.1]; exact hoF
  · obtain ⟨e1, e2, e3⟩ := vr_no a1
    have HA : Hid (vrL (sb s) = [] ∧ vrI (sb s) = 0 ∧ vrB (sb s) = false) := ⟨e1, e2, e3⟩
    clear e1 e2 e3 a1
    have B3 : Below w2.heap.size w2 (w2.alloc (Obj.cells #[.slice av n c] 32)) := (Below.refl _ _).alloc (Nat.le_refl _) _
    have B03 := B02.trans (B3.mono B02.size)
    go_wp2_with fail
    refine (isbad_bad p _ (hg.below B03 (Nat.le_refl _))).mono ?_
    rintro e w4 ⟨rfl, hb4⟩
    have B24 : Below w2.heap.size w2 w4 := B3.trans (hb4.mono B3.size)
    have x4 := (B24.block _ (Array.getElem?_eq_some_iff.1 x2).1).trans x2
    have B04 := B02.trans (B24.mono B02.size)
    have r0 : w4.cell? ⟨w.heap.size, 0, none⟩ = some (.slice none 0 0) := cell_of_row w4 _ 0 _ _ _ x4
    have rf : w4.frozen? ⟨w.heap.size, 0, none⟩ = false := frozen_of_row w4 _ 0 _ _ x4
    have hset := heap_setCell_same w4 w.heap.size 0 _ _ (.slice none 0 0) x4
    have hBF := B04.setCell (p := ⟨w.heap.size, 0, none⟩) (Nat.le_refl _) (.slice none 0 0)
    go_wp2
    refine bodyPost_ret (results_row_2 rfl _ _ w.heap.size 32 _ (0, 0) _ rfl hset Tryz.underlying32 rfl Tryz.sizeP) rfl ⟨VrAns.intro (.slice none 0 0) ?_ ?_, hBF⟩
    · rw [HA.out.2.1, HA.out.2.2]; rfl
    · rw [HA.out.1]; exact World.ownsRow_nil _ _ _ _
end Go.Proofs.YtbhfooafhbfniaaGreatDoor
/-
  Contracts of impl's reached: the function that it answers tells the nodes that are reached, each with its place, in their order.
-/
namespace Go.Proofs.YtbhfooafhbfniaaGreatDoor
open Go.RowKit Go.Shelf
attribute [local go_sem] Oper.semAt_some
abbrev Itm (xs : List Nd) : Type := { p : Nat × Nd // xs[p.1]? = some p.2 }
def ienc {xs : List Nd} (p : Itm xs) : Array Value := #[.int .i64 (p.1.1 : Int), .agg #[.int .i64 p.1.2.k, .int .i64 p.1.2.n, .string p.1.2.s, .int .i64 p.1.2.a, .int .i64 p.1.2.b]]
def KpZ (Z : Nat → Prop) (W W' : World) : Prop := ∀ b, Z b → W'.heap[b]? = W.heap[b]?
theorem KpZ.trans {Z : Nat → Prop} {A B C : World} (h : KpZ Z A B) (k : KpZ Z B C) : KpZ Z A C := fun b hb => (k b hb).trans (h b hb)
theorem KpZ.cell {Z : Nat → Prop} {W W' : World} (h : KpZ Z W W') {p : Addr} (hp : Z p.block) : W'.cell? p = W.cell? p := World.cell?_of_block (w := W) (h p.block hp)
theorem KpZ.lt {Z : Nat → Prop} {W W' : World} (h : KpZ Z W W') {b : Nat} (hp : Z b) (hb : b < W.heap.size) : b < W'.heap.size := by
  have := h b hp
  rw [Array.getElem?_eq_getElem hb] at this
  exact (Array.getElem?_eq_some_iff.1 this).1
theorem KpZ.alloc {Z : Nat → Prop} {W : World} (hZ : ∀ b, Z b → b < W.heap.size) (o : Obj) : KpZ Z W (W.alloc o) := fun b hb => Below.heap_alloc W o b (hZ b hb)
end Go.Proofs.YtbhfooafhbfniaaGreatDoor
/-
  One statement of impl's moved, within a round: the node with its parts where they are then is put behind the others. Conditions: its parts are told of.
-/
namespace Go.Proofs.YtbhfooafhbfniaaGreatDoor
open Go.RowKit Go.Shelf
attribute [local go_sem] Oper.semAt_some
end Go.Proofs.YtbhfooafhbfniaaGreatDoor
/-
  Contract of impl's moved: what the nodes that are reached come to behind so many others, and where the roots are then. Conditions: the pool is right, all roots are nodes of it.
-/
namespace Go.Proofs.YtbhfooafhbfniaaGreatDoor
open Go.RowKit Go.Shelf
attribute [local go_sem] Oper.semAt_some
end Go.Proofs.YtbhfooafhbfniaaGreatDoor
/-
  Contracts of spec's l7Reach, l7Roots and Reach. Conditions of l7Reach: the pool is right, and all roots are nodes of it.
-/
namespace Go.Proofs.YtbhfooafhbfniaaGreatDoor
open Go.RowKit
theorem hasA_kinds (k : Int) : (hasA k = true ↔ k = 5 ∨ k = 6 ∨ k = 7) ∧ (hasB k = true ↔ k = 5) := by
  unfold hasA hasB
  simp only [decide_eq_true_eq]
  exact ⟨trivial, trivial⟩
set_option maxRecDepth 100000 in
set_option maxHeartbeats 1600000 in
theorem slreach_any (ao : Option Addr) (cap : Nat) (vl : Value) (xs : List Nd) (rs : List Int) (w : World) (R : NRow w (.slice ao xs.length cap) xs) (L : IRow w vl rs) (hp : poolB xs = true) (hr : allI xs rs = true) :
    Calls Tryz.prog 130 #[.agg #[.slice ao xs.length cap], vl] w fun e w' => ∃ v', e = .returned v' ∧ w'.ownsRow w.heap.size 4 1 v' xs.length (vb (reachL xs rs)) ∧ Below w.heap.size w w' := by
  have hlen := poolB_len hp
  have hB0 : Below w.heap.size w (w.alloc (Obj.cells #[.slice ao xs.length cap] 32)) := (Below.refl _ _).alloc (Nat.le_refl _) _
  have hbx := heap_alloc_new w (Obj.cells #[.slice ao xs.length cap] 32)
  have R0 := R.below hB0
  have L0 := L.below hB0
  clear R L
  have hs0 : (w.alloc (Obj.cells #[.slice ao xs.length cap] 32)).heap.size = w.heap.size + 1 := by simp
  obtain ⟨i0, hi, hz0, hz1, hz2⟩ := info_parts Tryz.infoBl
  have hbytes : i0.bytes * xs.length ≤ 281474976710656 := by rw [hz2]; omega
  have hmax : xs.length ≤ maxLen := by unfold maxLen; omega
  go_enter Tryz.func130, Tryz.ntmps130
  go_wp2_with (at_make; refine wpList_make_full _ rfl _ _ 185 rfl (w.heap.size + 1) 4 i0 (.bool false) 1 Tryz.underlying185 hi hz0 hz1 _ _ _ _ xs.length rfl rfl rfl rfl hbytes hmax (by simp) ?_)
  intro w1 hown hgrow
  generalize w.alloc (Obj.cells #[.slice ao xs.length cap] 32) = w0 at *
  have hB1 : Below (w.heap.size + 1) w0 w1 := (Below.refl _ _).grown hgrow (by omega) (by intro k hk; cases hk)
  clear hgrow hbytes hmax
  obtain ⟨al, cl, rfl, hcl, _, hlc⟩ := L0
  go_wp2_with fail
  go_loopw [6] (fun i wr => ∃ (k : Nat) (bs : List Bool), k ≤ rs.length ∧ i = .int .i64 k ∧ bs.length = xs.length ∧ Hid ((rs.drop k).foldl setB bs = rootsB xs.length rs) ∧ wr.ownsRow (w.heap.size + 1) 4 1 (.slice (some ⟨w.heap.size + 1, 0, none⟩) xs.length xs.length) xs.length (vb bs) ∧ Below (w.heap.size + 1) w0 wr) (fun i _ => rs.length - (intOf i).toNat)
  case atStart => exact ⟨0, List.replicate xs.length false, by omega, rfl, by simp, rfl, by rw [vb_made]; exact hown, hB1⟩
  case round =>
    clear hown hB1
    obtain ⟨k, bs, hk, rfl, hbl, HF, hown, hB⟩ := hrel
    by_cases hlt : k < rs.length
    · obtain ⟨g, o, rfl, hg, hlc⟩ := hlc (by intro e; subst e; simp at hlt)
      have ez := (hB.cell (p := ⟨g, o + k, none⟩) (by simp; omega)).trans (hlc k hlt)
      obtain ⟨h1, h2⟩ := allI_at hr k hlt
      have HF2 : Hid ((rs.drop (k + 1)).foldl setB (setB bs (rs.getD k 0)) = rootsB xs.length rs) := (fold_drop rs bs k hlt).symm.trans HF.out
      generalize rs.getD k 0 = z at ez h1 h2 HF2
      obtain ⟨nz, rfl⟩ := Int.eq_ofNat_of_zero_le h1
      have ec := hown.cellAt nz (by omega)
      rw [vb_get _ _ (by omega)] at ec
      have ef := hown.frozenAt nz
      have hs := (hown.stored nz (.bool true)).1
      rw [vb_set] at hs
      clear hlc hr HF
      go_wp2
      go_roundw
      case rel => exact ⟨k + 1, setB bs nz, by omega, by go_num, by rw [setB_length, hbl], HF2, hs, hB.setCell (p := ⟨w.heap.size + 1, nz, none⟩) (Nat.le_refl _) _⟩
      case measure => simp [intOf]; omega
    · have hkx : k = rs.length := by omega
      subst hkx
      have HR : Hid (down xs xs.length bs = reachL xs rs) := by
        have := HF.out
        rw [List.drop_length, List.foldl_nil] at this
        rw [this]
        rfl
      clear HF hk hlt hlc hr
      have ep := (hB.cell (p := ⟨w.heap.size, 0, none⟩) (by simp)).trans ((cell_of_row w0 _ 0 _ _ _ hbx).trans rfl)
      have hBw : w.heap.size + 1 < wr.heap.size := (hown.lt _ rfl).2
      go_wp2_with fail
      go_loopw [7] (fun i wq => ∃ (k : Nat) (cs : List Bool), k ≤ xs.length ∧ i = .int .i64 ((k : Int) - 1) ∧ cs.length = xs.length ∧ Hid (down xs k cs = reachL xs rs) ∧ wq.ownsRow (w.heap.size + 1) 4 1 (.slice (some ⟨w.heap.size + 1, 0, none⟩) xs.length xs.length) xs.length (vb cs) ∧ Below (w.heap.size + 1) w0 wq) (fun i _ => (intOf i + 1).toNat)
      case atStart => exact ⟨xs.length, bs, Nat.le_refl _, rfl, hbl, HR, hown, hB⟩
      case round =>
        clear hown hB HR hbl ep hBw
        clear bs
        obtain ⟨k, bs, hk, rfl, hbl, HR, hown, hB⟩ := hrel
        have ep := (hB.cell (p := ⟨w.heap.size, 0, none⟩) (by simp)).trans ((cell_of_row w0 _ 0 _ _ _ hbx).trans rfl)
        have hBw : w.heap.size + 1 < wr.heap.size := (hown.lt _ rfl).2
        rcases Nat.eq_zero_or_pos k with rfl | hpos
        · have HQ : Hid (bs = reachL xs rs) := HR
          clear HR
          go_wp2
          go_ret
          rw [HQ.out] at hown
          exact ⟨_, rfl, own_mono hown (by omega), hB0.trans (hB.mono (by omega))⟩
        · obtain ⟨j, rfl⟩ : ∃ j, k = j + 1 := ⟨k - 1, by omega⟩
          rw [show ((j + 1 : Nat) : Int) - 1 = (j : Int) by omega]
          obtain ⟨ao', cap', e', _, _, hz, hcell⟩ := R0
          simp only [Value.slice.injEq, true_and] at e'
          obtain ⟨rfl, rfl⟩ := e'
          obtain ⟨g, o, rfl, hg, hcell⟩ := hcell (by intro e; subst e; simp at hk)
          obtain ⟨x, hx⟩ : ∃ x, xs[j]? = some x := ⟨xs[j], by simp⟩
          obtain ⟨c0, c1, c2, c3, c4⟩ := (hcell j x hx).below hB (by rw [hs0] at hg; exact hg)
          have hnb := poolB_at hp hx
          have hkd := hasA_kinds x.k
          have HD : Hid (down xs j (hungStep x (bs.getD j false) bs) = reachL xs rs) := (down_at xs bs j x hx).symm.trans HR.out
          have hA : hasA x.k = true → 0 ≤ x.a ∧ x.a < (j : Int) := fun h => nodeB_A hnb h
          have hBb : hasB x.k = true → 0 ≤ x.b ∧ x.b < (j : Int) := fun h => nodeB_B hnb h
          clear hcell hx HR hnb
          have hne4 : w.heap.size + 1 ≠ wr.heap.size := by omega
          have e0 := hown.cellAt j (by omega)
          rw [vb_get _ _ (by omega)] at e0
          cases hb : bs.getD j false with
          | false =>
            rw [hb] at e0 HD
            have HE : Hid (hungStep x false bs = bs) := by unfold Hid hungStep; simp
            clear hA hBb hb
            go_wp2
            refine ⟨⟨j, bs, by omega, by go_num, hbl, by rw [HE.out] at HD; exact HD, hown.alloc _, hB.alloc (by omega) _⟩, by simp [intOf]⟩
          | true =>
            rw [hb] at e0 HD
            clear hb
            cases hAk : hasA x.k with
            | false =>
              have hBk : hasB x.k = false := by
                unfold hasA at hAk; unfold hasB
                simp only [decide_eq_false_iff_not] at hAk ⊢
                omega
              rw [hAk, hBk] at hkd
              have k5 : (x.k == 5) = false := by simp; intro e; have := hkd.2.2 e; cases this
              have k6 : (x.k == 6) = false := by simp; intro e; have := hkd.1.2 (Or.inr (Or.inl e)); cases this
              have k7 : (x.k == 7) = false := by simp; intro e; have := hkd.1.2 (Or.inr (Or.inr e)); cases this
              have HE : Hid (hungStep x true bs = bs) := by unfold Hid hungStep; rw [hAk, hBk]; simp
              clear hA hBb hkd
              go_wp2
              refine ⟨⟨j, bs, by omega, by go_num, hbl, by rw [HE.out] at HD; exact HD, hown.alloc _, hB.alloc (by omega) _⟩, by simp [intOf]⟩
            | true =>
              obtain ⟨ha1, ha2⟩ := hA hAk
              obtain ⟨na, hna⟩ := Int.eq_ofNat_of_zero_le ha1
              rw [hna] at c3 ha2
              have e1 := hown.cellAt na (by omega)
              rw [vb_get _ _ (by omega)] at e1
              have f1 := hown.frozenAt na
              have hs1 := (hown.stored na (.bool true)).1
              rw [vb_set] at hs1
              have hnj : na ≠ j := by omega
              have hB5 := hB.setCell (p := ⟨w.heap.size + 1, na, none⟩) (Nat.le_refl _) (.bool true)
              cases hBk : hasB x.k with
              | false =>
                rw [hAk, hBk] at hkd
                have k5 : (x.k == 5) = false := by simp; intro e; have := hkd.2.2 e; cases this
                have HE : Hid (hungStep x true bs = bs.set na true) := by unfold Hid hungStep setB; rw [hAk, hBk, hna]; simp
                clear hA hBb
                rcases hkd.1.1 rfl with h5 | h6 | h7
                · rw [h5] at k5; cases k5
                · rw [h6] at c0
                  clear hkd k5
                  go_wp2
                  refine ⟨⟨j, bs.set na true, by omega, by go_num, by simpa using hbl, by rw [HE.out] at HD; exact HD, hs1.alloc _, hB5.alloc (by simp; omega) _⟩, by simp [intOf]⟩
                · rw [h7] at c0
                  clear hkd k5
                  go_wp2
                  refine ⟨⟨j, bs.set na true, by omega, by go_num, by simpa using hbl, by rw [HE.out] at HD; exact HD, hs1.alloc _, hB5.alloc (by simp; omega) _⟩, by simp [intOf]⟩
              | true =>
                have h5 := hkd.2.1 hBk
                rw [h5] at c0
                obtain ⟨hb1, hb2⟩ := hBb hBk
                obtain ⟨nb', hnb'⟩ := Int.eq_ofNat_of_zero_le hb1
                rw [hnb'] at c4 hb2
                have HE : Hid (hungStep x true bs = (bs.set na true).set nb' true) := by unfold Hid hungStep setB; rw [hAk, hBk, hna, hnb']; simp
                have e2 := hs1.cellAt nb' (by omega)
                rw [vb_get _ _ (by simp; omega)] at e2
                have f2 := hs1.frozenAt nb'
                have hs2 := (hs1.stored nb' (.bool true)).1
                rw [vb_set] at hs2
                have hB6 := hB5.setCell (p := ⟨w.heap.size + 1, nb', none⟩) (Nat.le_refl _) (.bool true)
                clear hA hBb hkd
                go_wp2
                refine ⟨⟨j, (bs.set na true).set nb' true, by omega, by go_num, by simpa using hbl, by rw [HE.out] at HD; exact HD, hs2.alloc _, hB6.alloc (by simp; omega) _⟩, by simp [intOf]⟩
end Go.Proofs.YtbhfooafhbfniaaGreatDoor
/-
  Contract of spec's l2Add: a node behind the pool that a pointer leads to.
-/
namespace Go.Proofs.YtbhfooafhbfniaaGreatDoor
open Go.RowKit
end Go.Proofs.YtbhfooafhbfniaaGreatDoor
