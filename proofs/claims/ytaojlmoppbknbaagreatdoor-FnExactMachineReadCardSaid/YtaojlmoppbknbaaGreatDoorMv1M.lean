/-
  Texts that stood by themselves, laid into one.
-/
import Derived.Test.YtaojlmoppbknbaaGreatDoorSizeIM
import Derived.Test.YtaojlmoppbknbaaGreatDoorFormM
import Derived.Test.YtaojlmoppbknbaaGreatDoorClsM
import Derived.Test.YtaojlmoppbknbaaGreatDoorMkListM
import Derived.Test.YtaojlmoppbknbaaGreatDoorMcTM
import Derived.RangeFuncNested
import Derived.RangeFuncBound
import Derived.RangeFuncCalls
import Derived.RangeFuncLeaves
import Derived.RangeFuncBox
import Derived.Shelf.Abstract
import Derived.Shelf.RegionOpen
import Derived.WalkKit
import Derived.OwnWalkIn
import Derived.TacticsInMore
import Derived.LoopNIn
import Derived.LoopIn
/-
  Contract of impl's withParts: a node with its parts where they are told to be. Conditions: the node's kind is one, its parts are told of.
-/
namespace Go.Proofs.YtaojlmoppbknbaaGreatDoor
open Go.RowKit

theorem Tryz.sizeNW : (Tryz.prog.info? 86).map (·.size) = some 5 := by kernel_rfl

end Go.Proofs.YtaojlmoppbknbaaGreatDoor

/-
  Contracts of impl's hungOn and Reach. Conditions of hungOn: the pool is right, and all roots are nodes of it.
-/
namespace Go.Proofs.YtaojlmoppbknbaaGreatDoor
open Go.RowKit

theorem Tryz.infoBl : (Tryz.prog.info? 4).map (fun i => (i.zero, i.size, i.bytes)) = some (some (.bool false), 1, 1) := by kernel_rfl
theorem vb_made (n : Nat) : vb (List.replicate n false) = (madeCells #[Value.bool false] n).toList := by rw [toList_madeCells_one]; simp [vb]
theorem allI_at {xs : List Nd} {rs : List Int} (h : allI xs rs = true) (k : Nat) (hk : k < rs.length) : 0 ≤ rs.getD k 0 ∧ rs.getD k 0 < xs.length := by
  unfold allI at h
  rw [List.all_eq_true] at h
  have := h (rs.getD k 0) (by rw [List.getD_eq_getElem?_getD, List.getElem?_eq_getElem hk]; exact List.getElem_mem _)
  simpa [hasI] using this

set_option maxRecDepth 100000 in
set_option maxHeartbeats 1600000 in
theorem hungon_any (ao : Option Addr) (cap : Nat) (vl : Value) (xs : List Nd) (rs : List Int) (w : World) (R : NRow w (.slice ao xs.length cap) xs) (L : IRow w vl rs) (hp : poolB xs = true) (hr : allI xs rs = true) :
    Calls Tryz.prog 77 #[.agg #[.slice ao xs.length cap], vl] w fun e w' => ∃ v', e = .returned v' ∧ w'.ownsRow w.heap.size 4 1 v' xs.length (vb (reachL xs rs)) ∧ Below w.heap.size w w' := by
  have hlen := poolB_len hp
  have hB0 : Below w.heap.size w (w.alloc (Obj.cells #[.slice ao xs.length cap] 32)) := (Below.refl _ _).alloc (Nat.le_refl _) _
  have hbx := heap_alloc_new w (Obj.cells #[.slice ao xs.length cap] 32)
  have R0 := R.below hB0
  have L0 := L.below hB0
  clear R L
  have hs0 : (w.alloc (Obj.cells #[.slice ao xs.length cap] 32)).heap.size = w.heap.size + 1 := by simp
  obtain ⟨i0, hi, hz0, hz1, hz2⟩ := info_parts Tryz.infoBl
  have hbytes : i0.bytes * xs.length ≤ 281474976710656 := by rw [hz2]; omega
  have hmax : xs.length ≤ maxLen := by unfold maxLen; omega
  go_enter Tryz.func77, Tryz.ntmps77
  go_wp2_with (at_make; refine wpList_make_full _ rfl _ _ 139 rfl (w.heap.size + 1) 4 i0 (.bool false) 1 Tryz.underlying139 hi hz0 hz1 _ _ _ _ xs.length rfl rfl rfl rfl hbytes hmax (by simp) ?_)
  intro w1 hown hgrow
  generalize w.alloc (Obj.cells #[.slice ao xs.length cap] 32) = w0 at *
  have hB1 : Below (w.heap.size + 1) w0 w1 := (Below.refl _ _).grown hgrow (by omega) (by intro k hk; cases hk)
  clear hgrow hbytes hmax
  obtain ⟨al, cl, rfl, hcl, _, hlc⟩ := L0
  go_wp2_with fail
  go_loopw [18] (fun i wr => ∃ (k : Nat) (bs : List Bool), k ≤ rs.length ∧ i = .int .i64 k ∧ bs.length = xs.length ∧ Hid ((rs.drop k).foldl setB bs = rootsB xs.length rs) ∧ wr.ownsRow (w.heap.size + 1) 4 1 (.slice (some ⟨w.heap.size + 1, 0, none⟩) xs.length xs.length) xs.length (vb bs) ∧ Below (w.heap.size + 1) w0 wr) (fun i _ => rs.length - (intOf i).toNat)
  case atStart => exact ⟨0, List.replicate xs.length false, by omega, rfl, by simp, rfl, by rw [vb_made]; exact hown, hB1⟩
  case round =>
    clear hown hB1
    obtain ⟨k, bs, hk, rfl, hbl, HF, hown, hB⟩ := hrel
    by_cases hlt : k < rs.length
    · obtain ⟨g, o, rfl, hg, hlc⟩ := hlc (by intro e; subst e; simp at hlt)
      have ez := (hB.cell (p := ⟨g, o + k, none⟩) (by simp; omega)).trans (hlc k hlt)
      obtain ⟨h1, h2⟩ := allI_at hr k hlt
      have HF2 : Hid ((rs.drop (k + 1)).foldl setB (setB bs (rs.getD k 0)) = rootsB xs.length rs) := (fold_drop rs bs k hlt).symm.trans HF.out
      generalize rs.getD k 0 = z at ez h1 h2 HF2
      obtain ⟨nz, rfl⟩ := Int.eq_ofNat_of_zero_le h1
      have ec := hown.cellAt nz (by omega)
      rw [vb_get _ _ (by omega)] at ec
      have ef := hown.frozenAt nz
      have hs := (hown.stored nz (.bool true)).1
      rw [vb_set] at hs
      clear hlc hr HF
      go_wp2
      go_roundw
      case rel => exact ⟨k + 1, setB bs nz, by omega, by go_num, by rw [setB_length, hbl], HF2, hs, hB.setCell (p := ⟨w.heap.size + 1, nz, none⟩) (Nat.le_refl _) _⟩
      case measure => simp [intOf]; omega
    · have hkx : k = rs.length := by omega
      subst hkx
      have HR : Hid (down xs xs.length bs = reachL xs rs) := by
        have := HF.out
        rw [List.drop_length, List.foldl_nil] at this
        rw [this]
        rfl
      clear HF hk hlt hlc hr
      have ep := (hB.cell (p := ⟨w.heap.size, 0, none⟩) (by simp)).trans ((cell_of_row w0 _ 0 _ _ _ hbx).trans rfl)
      have hBw : w.heap.size + 1 < wr.heap.size := (hown.lt _ rfl).2
      go_wp2_with fail
      go_loopw [8] (fun i wq => ∃ (k : Nat) (cs : List Bool), k ≤ xs.length ∧ i = .int .i64 ((k : Int) - 1) ∧ cs.length = xs.length ∧ Hid (down xs k cs = reachL xs rs) ∧ wq.ownsRow (w.heap.size + 1) 4 1 (.slice (some ⟨w.heap.size + 1, 0, none⟩) xs.length xs.length) xs.length (vb cs) ∧ Below (w.heap.size + 1) w0 wq) (fun i _ => (intOf i + 1).toNat)
      case atStart => exact ⟨xs.length, bs, Nat.le_refl _, rfl, hbl, HR, hown, hB⟩
      case round =>
        clear hown hB HR hbl ep hBw
        clear bs
        obtain ⟨k, bs, hk, rfl, hbl, HR, hown, hB⟩ := hrel
        have ep := (hB.cell (p := ⟨w.heap.size, 0, none⟩) (by simp)).trans ((cell_of_row w0 _ 0 _ _ _ hbx).trans rfl)
        have hBw : w.heap.size + 1 < wr.heap.size := (hown.lt _ rfl).2
        rcases Nat.eq_zero_or_pos k with rfl | hpos
        · have HQ : Hid (bs = reachL xs rs) := HR
          clear HR
          go_wp2
          go_ret
          rw [HQ.out] at hown
          exact ⟨_, rfl, own_mono hown (by omega), hB0.trans (hB.mono (by omega))⟩
        · obtain ⟨j, rfl⟩ : ∃ j, k = j + 1 := ⟨k - 1, by omega⟩
          rw [show ((j + 1 : Nat) : Int) - 1 = (j : Int) by omega]
          obtain ⟨ao', cap', e', _, _, hz, hcell⟩ := R0
          simp only [Value.slice.injEq, true_and] at e'
          obtain ⟨rfl, rfl⟩ := e'
          obtain ⟨g, o, rfl, hg, hcell⟩ := hcell (by intro e; subst e; simp at hk)
          obtain ⟨x, hx⟩ : ∃ x, xs[j]? = some x := ⟨xs[j], by simp⟩
          obtain ⟨c0, c1, c2, c3, c4⟩ := (hcell j x hx).below hB (by rw [hs0] at hg; exact hg)
          have hnb := poolB_at hp hx
          have hkd := nodeB_kind hnb
          have HD : Hid (down xs j (hungStep x (bs.getD j false) bs) = reachL xs rs) := (down_at xs bs j x hx).symm.trans HR.out
          have hA : hasA x.k = true → 0 ≤ x.a ∧ x.a < (j : Int) := fun h => nodeB_A hnb h
          have hBb : hasB x.k = true → 0 ≤ x.b ∧ x.b < (j : Int) := fun h => nodeB_B hnb h
          clear hcell hx HR hnb
          go_wp2_with fail
          refine (shapeof_any x.k _).mono ?_
          rintro e w4 ⟨rfl, hb4⟩
          rw [shapeV, if_pos hkd]
          have hbox := (hb4.block wr.heap.size (by simp)).trans (heap_alloc_new _ _)
          have d3 := cell_of_row w4 _ 3 _ _ _ hbox
          have d4 := cell_of_row w4 _ 4 _ _ _ hbox
          simp only [List.getElem?_toArray, List.getElem?_cons_succ, List.getElem?_cons_zero] at d3 d4
          have hB4' : Below wr.heap.size wr w4 := ((Below.refl wr.heap.size wr).alloc (Nat.le_refl _) _).trans (hb4.mono (by simp))
          have hown4 := own_below hown hB4'
          have hB4 := hB.trans (hB4'.mono (by omega))
          have hw4 : wr.heap.size < w4.heap.size := (Array.getElem?_eq_some_iff.1 hbox).1
          have hw4' : w.heap.size + 1 < w4.heap.size := by omega
          have hne4 : w.heap.size + 1 ≠ wr.heap.size := by omega
          have e0 := hown4.cellAt j (by omega)
          rw [vb_get _ _ (by omega)] at e0
          clear c0 c1 c2 c3 c4 hbox hb4 hB4' hown hB ep
          have hrl : ∀ z, (hungStep x z bs).length = xs.length := fun z => (hungStep_length x z bs).trans hbl
          cases hb : bs.getD j false with
          | false =>
            rw [hb] at e0 HD
            have hl2 := hrl false
            have HE : Hid (hungStep x false bs = bs) := by unfold Hid hungStep; simp
            clear hA hBb hrl hb
            go_wp2
            refine ⟨⟨j, bs, by omega, by go_num, hbl, by rw [HE.out] at HD; exact HD, hown4.alloc _, hB4.alloc (by omega) _⟩, by simp [intOf]⟩
          | true =>
            rw [hb] at e0 HD
            have hl2 := hrl true
            clear hrl hb
            cases hAk : hasA x.k with
            | false =>
              have hBk : hasB x.k = false := by
                unfold hasA at hAk; unfold hasB
                simp only [decide_eq_false_iff_not] at hAk ⊢
                omega
              have HE : Hid (hungStep x true bs = bs) := by unfold Hid hungStep; rw [hAk, hBk]; simp
              rw [hBk]
              clear hA hBb
              go_wp2
              refine ⟨⟨j, bs, by omega, by go_num, hbl, by rw [HE.out] at HD; exact HD, hown4.alloc _, hB4.alloc (by omega) _⟩, by simp [intOf]⟩
            | true =>
              obtain ⟨ha1, ha2⟩ := hA hAk
              obtain ⟨na, hna⟩ := Int.eq_ofNat_of_zero_le ha1
              rw [hna] at d3 ha2
              have e1 := hown4.cellAt na (by omega)
              rw [vb_get _ _ (by omega)] at e1
              have f1 := hown4.frozenAt na
              have hs1 := (hown4.stored na (.bool true)).1
              rw [vb_set] at hs1
              have hnj : na ≠ j := by omega
              have hB5 := hB4.setCell (p := ⟨w.heap.size + 1, na, none⟩) (Nat.le_refl _) (.bool true)
              cases hBk : hasB x.k with
              | false =>
                have HE : Hid (hungStep x true bs = bs.set na true) := by unfold Hid hungStep setB; rw [hAk, hBk, hna]; simp
                clear hA hBb
                go_wp2
                refine ⟨⟨j, bs.set na true, by omega, by go_num, by simpa using hbl, by rw [HE.out] at HD; exact HD, hs1.alloc _, hB5.alloc (by simp; omega) _⟩, by simp [intOf]⟩
              | true =>
                obtain ⟨hb1, hb2⟩ := hBb hBk
                obtain ⟨nb', hnb'⟩ := Int.eq_ofNat_of_zero_le hb1
                rw [hnb'] at d4 hb2
                have HE : Hid (hungStep x true bs = (bs.set na true).set nb' true) := by unfold Hid hungStep setB; rw [hAk, hBk, hna, hnb']; simp
                have e2 := hs1.cellAt nb' (by omega)
                rw [vb_get _ _ (by simp; omega)] at e2
                have f2 := hs1.frozenAt nb'
                have hs2 := (hs1.stored nb' (.bool true)).1
                rw [vb_set] at hs2
                have hB6 := hB5.setCell (p := ⟨w.heap.size + 1, nb', none⟩) (Nat.le_refl _) (.bool true)
                clear hA hBb
                go_wp2
                refine ⟨⟨j, (bs.set na true).set nb' true, by omega, by go_num, by simpa using hbl, by rw [HE.out] at HD; exact HD, hs2.alloc _, hB6.alloc (by simp; omega) _⟩, by simp [intOf]⟩

/-- What Reach answers. -/
def reachR (xs : List Nd) (rs : List Int) : List Bool := if poolB xs && allI xs rs then reachL xs rs else []
theorem reachR_len (xs : List Nd) (rs : List Int) : (reachR xs rs).length ≤ xs.length := by
  unfold reachR
  split
  · rw [reachL_length]; omega
  · simp

end Go.Proofs.YtaojlmoppbknbaaGreatDoor

/-
  What Tidy answers, and contracts of impl's hasArg and roots. No condition.
-/
namespace Go.Proofs.YtaojlmoppbknbaaGreatDoor
open Go.RowKit

/-- Arg is a value. -/
def argB (m : Mc) : Bool := (m.t == 1) || (m.t == 2)
/-- What must be there for the machine to go on. -/
def tdR (m : Mc) : List Int := if argB m then [m.s, m.e, m.d, m.r] else [m.s, m.e, m.d]
def tdOk (xs : List Nd) (m : Mc) : Bool := poolB xs && allI xs (tdR m)
/-- Where a root is then. -/
def tdF (xs : List Nd) (m : Mc) (r : Int) : Int := (mvAll 0 xs (reachL xs (tdR m))).2.getD r.toNat 0
def tdL (xs : List Nd) (m : Mc) : List Nd := if tdOk xs m then mvN 0 xs (tdR m) else xs
def tdM (xs : List Nd) (m : Mc) : Mc := if tdOk xs m then ⟨m.p, tdF xs m m.s, tdF xs m m.e, tdF xs m m.d, m.t, m.q, if argB m then tdF xs m m.r else m.r⟩ else m
theorem tdR_len (m : Mc) : (tdR m).length = if argB m then 4 else 3 := by unfold tdR; split <;> rfl
theorem tdL_len (xs : List Nd) (m : Mc) : (tdL xs m).length ≤ xs.length := by
  unfold tdL
  split
  · exact mvN_len 0 xs _
  · omega

set_option maxHeartbeats 800000 in
theorem ihasarg_any (u : Value) (m : Mc) (w : World) :
    Calls Tryz.prog 78 #[.agg #[u, .int .i64 m.p, .int .i64 m.s, .int .i64 m.e, .int .i64 m.d, .int .i64 m.t, .int .i64 m.q, .int .i64 m.r]] w fun e w' => e = .returned (.bool (argB m)) ∧ Below w.heap.size w w' := by
  have hB : Below w.heap.size w (w.alloc (Obj.cells #[u, .int .i64 m.p, .int .i64 m.s, .int .i64 m.e, .int .i64 m.d, .int .i64 m.t, .int .i64 m.q, .int .i64 m.r] 34)) := (Below.refl _ _).alloc (Nat.le_refl _) _
  unfold argB
  by_cases h1 : m.t = 1
  · rw [h1]
    go_enter Tryz.func78, Tryz.ntmps78
    go_wp2
    go_ret
    exact ⟨rfl, (Below.refl _ _).alloc (Nat.le_refl _) _⟩
  · have h1b : (m.t == 1) = false := by simp [h1]
    rw [h1b, Bool.false_or]
    go_enter Tryz.func78, Tryz.ntmps78
    go_wp2
    go_ret
    exact ⟨rfl, hB⟩

theorem ints_lit (w : World) (l : List Int) (t : TypeId) (n : Nat) (h : n ≤ l.length) (hm : l.length ≤ 100) : IRow (w.alloc (Obj.cells (iv l).toArray t)) (.slice (some ⟨w.heap.size, 0, none⟩) n n) (l.take n) := by
  have hl : (l.take n).length = n := by simp; omega
  refine ⟨some ⟨w.heap.size, 0, none⟩, n, by rw [hl], ⟨by omega, fun h => by cases h⟩, by omega, fun _ => ⟨w.heap.size, 0, rfl, by simp, fun i hi => ?_⟩⟩
  rw [cell_of_row _ _ _ _ _ _ (heap_alloc_new w _), Nat.zero_add]
  rw [hl] at hi
  rw [getD_take _ _ _ _ hi, List.getElem?_toArray, iv_get _ _ (by omega)]

set_option maxHeartbeats 800000 in
theorem iroots_any (ao : Option Addr) (n cap : Nat) (m : Mc) (w : World) :
    Calls Tryz.prog 49 #[.agg #[.slice ao n cap, .int .i64 m.p, .int .i64 m.s, .int .i64 m.e, .int .i64 m.d, .int .i64 m.t, .int .i64 m.q, .int .i64 m.r]] w fun e w' => ∃ v', e = .returned v' ∧ IRow w' v' (tdR m) ∧ Below w.heap.size w w' := by
  have hB2 := below2 w (Obj.cells #[.slice ao n cap, .int .i64 m.p, .int .i64 m.s, .int .i64 m.e, .int .i64 m.d, .int .i64 m.t, .int .i64 m.q, .int .i64 m.r] 34) (Obj.cells #[.int .i64 m.s, .int .i64 m.e, .int .i64 m.d, .int .i64 m.r] 3)
  have L4 := ints_lit (w.alloc (Obj.cells #[.slice ao n cap, .int .i64 m.p, .int .i64 m.s, .int .i64 m.e, .int .i64 m.d, .int .i64 m.t, .int .i64 m.q, .int .i64 m.r] 34)) [m.s, m.e, m.d, m.r] 3 4 (by simp) (by simp)
  have L3 := ints_lit (w.alloc (Obj.cells #[.slice ao n cap, .int .i64 m.p, .int .i64 m.s, .int .i64 m.e, .int .i64 m.d, .int .i64 m.t, .int .i64 m.q, .int .i64 m.r] 34)) [m.s, m.e, m.d, m.r] 3 3 (by simp) (by simp)
  have hs1 : (w.alloc (Obj.cells #[.slice ao n cap, .int .i64 m.p, .int .i64 m.s, .int .i64 m.e, .int .i64 m.d, .int .i64 m.t, .int .i64 m.q, .int .i64 m.r] 34)).heap.size = w.heap.size + 1 := by simp
  rw [hs1] at L4 L3
  have HT : Hid (tdR m = if argB m then [m.s, m.e, m.d, m.r] else [m.s, m.e, m.d]) := rfl
  clear hs1
  go_enter Tryz.func49, Tryz.ntmps49
  go_wp2_with fail
  refine (ihasarg_any _ m _).mono ?_
  rintro e w1 ⟨rfl, hb1⟩
  have hB1 := hB2.trans (hb1.mono hB2.size)
  have L4' := L4.below hb1
  have L3' := L3.below hb1
  clear L4 L3 hB2 hb1
  cases hA : argB m with
  | true =>
    rw [hA] at HT
    go_wp2
    go_ret
    exact ⟨_, rfl, by rw [HT.out]; exact L4', hB1⟩
  | false =>
    rw [hA] at HT
    go_wp2
    go_ret
    exact ⟨_, rfl, by rw [HT.out]; exact L3', hB1⟩
end Go.Proofs.YtaojlmoppbknbaaGreatDoor

/-
  Contracts of impl's reached: the function that it answers tells the nodes that are reached, each with its place, in their order.
-/
namespace Go.Proofs.YtaojlmoppbknbaaGreatDoor
open Go.RowKit Go.Shelf
attribute [local go_sem] Oper.semAt_some

/-- A node of xs with its place. -/
abbrev Itm (xs : List Nd) : Type := { p : Nat × Nd // xs[p.1]? = some p.2 }
def ienc {xs : List Nd} (p : Itm xs) : Array Value := #[.int .i64 (p.1.1 : Int), .agg #[.int .i64 p.1.2.k, .int .i64 p.1.2.n, .string p.1.2.s, .int .i64 p.1.2.a, .int .i64 p.1.2.b]]
/-- The blocks of Z lie as they lay. -/
def KpZ (Z : Nat → Prop) (W W' : World) : Prop := ∀ b, Z b → W'.heap[b]? = W.heap[b]?
theorem KpZ.trans {Z : Nat → Prop} {A B C : World} (h : KpZ Z A B) (k : KpZ Z B C) : KpZ Z A C := fun b hb => (k b hb).trans (h b hb)
theorem KpZ.cell {Z : Nat → Prop} {W W' : World} (h : KpZ Z W W') {p : Addr} (hp : Z p.block) : W'.cell? p = W.cell? p := World.cell?_of_block (w := W) (h p.block hp)
theorem KpZ.lt {Z : Nat → Prop} {W W' : World} (h : KpZ Z W W') {b : Nat} (hp : Z b) (hb : b < W.heap.size) : b < W'.heap.size := by
  have := h b hp
  rw [Array.getElem?_eq_getElem hb] at this
  exact (Array.getElem?_eq_some_iff.1 this).1
theorem KpZ.alloc {Z : Nat → Prop} {W : World} (hZ : ∀ b, Z b → b < W.heap.size) (o : Obj) : KpZ Z W (W.alloc o) := fun b hb => Below.heap_alloc W o b (hZ b hb)

end Go.Proofs.YtaojlmoppbknbaaGreatDoor
