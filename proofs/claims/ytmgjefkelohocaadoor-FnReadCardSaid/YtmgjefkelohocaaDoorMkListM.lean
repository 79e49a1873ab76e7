/-
  Texts that stood by themselves, laid into one.
-/
import Derived.Test.YtmgjefkelohocaaDoorDReadM
import Derived.Test.YtmgjefkelohocaaDoorSizeIM
import Derived.Test.YtmgjefkelohocaaDoorSAddM
/-
  The contract of the draws' DrawRead. No condition beyond how many bytes there are.
-/
namespace Go.Proofs.YtmgjefkelohocaaDoor
open Go.RowKit

def picks11 : List ByteArray := [⟨#[40]⟩, ⟨#[41]⟩, ⟨#[32]⟩, ⟨#[48, 53]⟩, ⟨#[45]⟩, ⟨#[35]⟩, ⟨#[65]⟩, ⟨#[46]⟩, ⟨#[49, 48, 48, 48, 48, 48, 48, 48, 48, 49]⟩, ⟨#[97, 49]⟩, ⟨#[45, 45, 53]⟩]
theorem picks11_size : ∀ s ∈ picks11, s.size ≤ 10 := by decide
def szOf : Value → Nat
  | .string s => s.size
  | _ => 0
theorem app_size (s : ByteArray) (c : UInt8) : (s ++ (⟨#[c]⟩ : ByteArray)).size = s.size + 1 := by rw [ByteArray.size_append]; rfl

set_option maxRecDepth 100000 in
set_option maxHeartbeats 6400000 in
theorem dread_any (v : Value) (zs : List Int) (w : World) (R : Row w v zs) (hl : zs.length ≤ 1048576) :
    Calls Tryd.prog 14 #[v] w fun e w' => ∃ (v' : Value) (xs : List Nd) (s : ByteArray), e = .returned (.tuple #[.agg #[v'], .string s]) ∧ xs.length ≤ 3001 ∧ (∀ x ∈ xs, x.s.size ≤ 40) ∧ s.size ≤ 20000 ∧ w'.ownsRow w.heap.size 55 5 v' xs.length (ncs xs) ∧ Below w.heap.size w w' := by
  have hB0 : Below w.heap.size w (w.alloc (.cells #[.slice none 0 0] 26)) := (Below.refl _ _).alloc (Nat.le_refl _) _
  have hr0 : (w.alloc (.cells #[.slice none 0 0] 26)).heap[w.heap.size]? = some (.cells #[.slice none 0 0] 26 (0, 0)) := heap_alloc_new _ _
  have R0 := R.below hB0
  go_enter Tryd.func14, Tryd.ntmps14
  go_wp2_with fail
  generalize hA : w.alloc (Obj.cells #[Value.slice none 0 0] 26) = wA at hB0 hr0 R0 ⊢
  have hA1 : wA.heap.size = w.heap.size + 1 := by rw [← hA]; simp
  have HA1 : Hid (wA.heap.size = w.heap.size + 1) := hA1
  clear hA hA1
  refine (new_any v zs wA R0 hl).mono ?_
  rintro e w1 ⟨rfl, c1, b1⟩
  have hlr : w.heap.size < wA.heap.size := by rw [HA1.out]; omega
  have hP1 := c1.lt
  have hlrA := hlr
  generalize wA.heap.size = P at c1 hlr hP1 HA1 ⊢
  clear b1
  go_wp2_with fail
  refine (ddraw_any wA v zs w1 P c1).mono ?_
  rintro e w2 ⟨v2, xs, rfl, hxl, hz, ho2, c2, g2⟩
  obtain ⟨a2, q2, rfl⟩ := own_form ho2
  have hb2 := c2.lt
  have pv2 : PV (w2.alloc (.cells #[.slice a2 xs.length q2] 26)) w2.heap.size (P + 1) xs := ⟨_, heap_alloc_new _ _, own_mono (ho2.alloc _) (by omega)⟩
  have c3 := c2.kept ((Below.refl (P + 1) w2).alloc (by omega) (.cells #[.slice a2 xs.length q2] 26))
  clear ho2 c2 g2 c1
  have HZ : Hid (∀ x ∈ xs, x.s.size ≤ 40) := hz
  clear hz
  go_wp2_with fail
  generalize w2.alloc (Obj.cells #[Value.slice a2 xs.length q2] 26) = w3 at pv2 c3 ⊢
  generalize w2.heap.size = b at pv2 hb2 ⊢
  refine (dtext_any wA v zs P 3 (by omega) w3 c3).mono ?_
  rintro e w4 ⟨t, rfl, ht, c4, g4⟩
  have ht3 := tB_le (show 3 ≤ 4 by omega)
  have ht2 := tB_le (show 2 ≤ 4 by omega)
  have pv4 := pv2.turn g4 hb2
  have htt : t.size ≤ 5000 := by omega
  clear pv2 c3 g4
  go_wp2_with fail
  refine (once_any wA v zs w4 P 3 c4 (by omega)).mono ?_
  rintro e w5 ⟨bb, rfl, c5, g5⟩
  have pv5 := pv4.turn g5 hb2
  clear pv4 c4 g5
  go_upto_if 14 with fail
  go_cut [6] from 7 (fun s6 wx => ∃ s : ByteArray, s6 = .string s ∧ s.size ≤ 10002 ∧ PV wx b (P + 1) xs ∧ Cur wA v zs wx P)
  case first =>
    cases bb with
    | false =>
      go_wp2_with fail
      go_meet
      case rel => exact ⟨t, rfl, by omega, pv5, c5⟩
    | true =>
      have hadd1 : ∀ u : World, (Op.stringOp .add t ⟨#[32]⟩).run Tryd.prog u = .ok (.string (t ++ (⟨#[32]⟩ : ByteArray))) u := fun u => addB _ _ u (by have : (⟨#[32]⟩ : ByteArray).size = 1 := rfl; omega)
      go_wp2_with fail
      refine (dtext_any wA v zs P 2 (by omega) w5 c5).mono ?_
      rintro e w6 ⟨t2, rfl, ht2', c6, g6⟩
      have pv6 := pv5.turn g6 hb2
      have hadd2 : ∀ u : World, (Op.stringOp .add (t ++ (⟨#[32]⟩ : ByteArray)) t2).run Tryd.prog u = .ok (.string (t ++ (⟨#[32]⟩ : ByteArray) ++ t2)) u := fun u => addB _ _ u (by rw [app_size]; omega)
      go_wp2_with fail
      go_meet
      case rel => exact ⟨_, rfl, by rw [ByteArray.size_append, app_size]; omega, pv6, c6⟩
  case rest =>
    obtain ⟨s, rfl, hs, pv6, c6⟩ := hcut
    obtain ⟨w6, hw6⟩ : ∃ w6, w6 = wc := ⟨_, rfl⟩
    subst hw6
    clear pv5 c5 htt ht
    go_wp2_with fail
    refine (once_any wA v zs w6 P 3 c6 (by omega)).mono ?_
    rintro e w7 ⟨bb, rfl, c7, g7⟩
    have pv7 := pv6.turn g7 hb2
    clear pv6 c6 g7
    go_upto_if 21 with fail
    go_cut [6] from 7 (fun s6 wx => ∃ s : ByteArray, s6 = .string s ∧ s.size ≤ 10012 ∧ PV wx b (P + 1) xs ∧ Cur wA v zs wx P)
    case first =>
      cases bb with
      | false =>
        go_wp2_with fail
        go_meet
        case rel => exact ⟨s, rfl, by omega, pv7, c7⟩
      | true =>
        have hP7 := c7.lt
        have hB1 : Below w7.heap.size w7 (w7.alloc (Obj.cells (picks11.map Value.string).toArray 9)) := (Below.refl _ _).alloc (Nat.le_refl _) _
        go_wp2_with fail
        refine (ddent_any wA v zs _ P w7.heap.size 11 picks11 s (c7.kept (hB1.mono (by omega))) (by omega) (by decide) (by decide) (fun i hi => strs_new w7 picks11 9 i hi) picks11_size (by omega)).mono ?_
        rintro e w8 ⟨s2, rfl, hs2, c8, g8⟩
        have pv8 := (pv7.below hB1).turn g8 hb2
        go_wp2_with fail
        go_meet
        case rel => exact ⟨s2, rfl, by omega, pv8, c8⟩
    case rest =>
      obtain ⟨s2, rfl, hs2, pv8, c8⟩ := hcut
      obtain ⟨w8, hw8⟩ : ∃ w8, w8 = wc := ⟨_, rfl⟩
      subst hw8
      clear pv7 c7 hs
      go_wp2_with fail
      refine (once_any wA v zs w8 P 40 c8 (by omega)).mono ?_
      rintro e w9 ⟨bb, rfl, c9, g9⟩
      have pv9 := pv8.turn g9 hb2
      clear pv8 c8 g9
      go_upto_if 27 with fail
      go_cut [6] from 7 (fun s6 wx => ∃ s : ByteArray, s6 = .string s ∧ s.size ≤ 10012 ∧ PV wx b (P + 1) xs ∧ Cur wA v zs wx P)
      case first =>
        cases bb with
        | false =>
          go_wp2_with fail
          go_meet
          case rel => exact ⟨s2, rfl, by omega, pv9, c9⟩
        | true =>
          go_wp2_with fail
          go_loopw [6] (fun s6 wr => ∃ s : ByteArray, s6 = .string s ∧ s.size ≤ 402 ∧ PV wr b (P + 1) xs ∧ Cur wA v zs wr P) (fun s6 _ => 500 - szOf s6)
          case atStart => exact ⟨_, rfl, by decide, pv9, c9⟩
          case round =>
            clear pv9 c9
            obtain ⟨so, rfl, hso, pvr, cr⟩ := hrel
            go_wp2_with fail
            refine (below_any wA v zs _ P 2 cr (by omega)).mono ?_
            rintro e w10 ⟨x, rfl, hx0, hx1, c10, g10⟩
            have hx := hx1 (by omega)
            have pv10 := pvr.turn g10 hb2
            clear hx1 pvr cr g10
            have hadd1 : ∀ u : World, (Op.stringOp .add so ⟨#[97]⟩).run Tryd.prog u = .ok (.string (so ++ (⟨#[97]⟩ : ByteArray))) u := fun u => addB _ _ u (by have : (⟨#[97]⟩ : ByteArray).size = 1 := rfl; omega)
            by_cases hlt : (so.size : Int) < 400 + x
            · have hz1 := app_size so 97
              generalize so ++ (⟨#[97]⟩ : ByteArray) = sa at hadd1 hz1
              have hadd2 : ∀ u : World, (Op.stringOp .add sa ⟨#[32]⟩).run Tryd.prog u = .ok (.string (sa ++ (⟨#[32]⟩ : ByteArray))) u := fun u => addB _ _ u (by have : (⟨#[32]⟩ : ByteArray).size = 1 := rfl; omega)
              have hz2 := app_size sa 32
              generalize sa ++ (⟨#[32]⟩ : ByteArray) = sb at hadd2 hz2
              go_wp2_with fail
              all_goals
                go_roundw
                case rel => exact ⟨_, rfl, by omega, pv10, c10⟩
                case measure => (simp [szOf]; omega)
            · go_wp2_with fail
              go_meet
              case rel => exact ⟨so, rfl, by omega, pv10, c10⟩
      case rest =>
        obtain ⟨s3, rfl, hs3, ⟨v9, hb9, ho9⟩, c10⟩ := hcut
        obtain ⟨w10, hw10⟩ : ∃ w10, w10 = wc := ⟨_, rfl⟩
        subst hw10
        clear pv9 c9 hs2
        obtain ⟨a9, q9, rfl⟩ := own_form ho9
        have hc9 : w10.cell? ⟨b, 0, none⟩ = some (.slice a9 xs.length q9) := cell_of_row w10 _ 0 _ _ _ hb9
        have hr9 := (c10.2.1.block w.heap.size hlrA).trans hr0
        have hd9 : w10.cell? ⟨w.heap.size, 0, none⟩ = some (.slice none 0 0) := cell_of_row _ _ 0 _ _ _ hr9
        have hf9 : w10.frozen? ⟨w.heap.size, 0, none⟩ = false := frozen_of_row _ _ 0 _ _ hr9
        have hBB : Below w.heap.size w w10 := hB0.trans (c10.2.1.mono hB0.size)
        obtain ⟨p1, p2, p3⟩ := put_pool hr9 ho9 hBB (by omega) (Nat.le_refl _)
        go_wp2_with fail
        exact bodyPost_ret (results_row_tmp rfl _ _ w.heap.size 26 _ (0, 0) _ rfl p1 Tryd.underlying26 rfl Tryd.sizeP) rfl ⟨_, xs, s3, rfl, hxl, HZ.out, by omega, p2, p3⟩
end Go.Proofs.YtmgjefkelohocaaDoor

/-
  Contracts of the laws' own helpers eqIntS, markIntS, heldIntS.
-/
namespace Go.Proofs.YtmgjefkelohocaaDoor
open Go.RowKit

/-- The slice value v reads in w as the ints zs. -/
def IRow (w : World) (v : Value) (zs : List Int) : Prop :=
  ∃ ao cap, v = .slice ao zs.length cap ∧ (zs.length ≤ cap ∧ (ao = none → cap = 0)) ∧ zs.length ≤ 9223372036854775807 ∧ (zs ≠ [] → ∃ g o, ao = some ⟨g, o, none⟩ ∧ g < w.heap.size ∧ ∀ i, i < zs.length → w.cell? ⟨g, o + i, none⟩ = some (.int .i64 (zs.getD i 0)))
theorem IRow.below {w w' : World} {v : Value} {zs : List Int} (h : IRow w v zs) (hb : Below w.heap.size w w') : IRow w' v zs := by
  obtain ⟨ao, cap, rfl, hc, hm, hcell⟩ := h
  refine ⟨ao, cap, rfl, hc, hm, fun hne => ?_⟩
  obtain ⟨g, o, rfl, hg, hcell⟩ := hcell hne
  exact ⟨g, o, rfl, Nat.lt_of_lt_of_le hg hb.size, fun i hi => (hb.cell (p := ⟨g, o + i, none⟩) hg).trans (hcell i hi)⟩
theorem IRow.of_own {w : World} {base : Nat} {v : Value} {zs : List Int} (h : w.ownsRow base 3 1 v zs.length (iv zs)) (hm : zs.length ≤ 9223372036854775807) : IRow w v zs := by
  rcases h.2 with ⟨rfl, h0⟩ | ⟨g, cap, cur, rfl, hb, hg, hnc, hcm, hcs, htake⟩
  · have : zs = [] := List.eq_nil_of_length_eq_zero h0
    subst this
    exact ⟨none, 0, rfl, by simp, by simp, fun h => absurd rfl h⟩
  · refine ⟨_, cap, rfl, ⟨hnc, fun h => by cases h⟩, hm, fun _ => ⟨g, 0, rfl, (Array.getElem?_eq_some_iff.1 hg).1, fun i hi => ?_⟩⟩
    have := h.cellAt i (by omega)
    rw [Nat.zero_add, this, iv_get zs i hi]

set_option maxHeartbeats 400000 in
theorem eqints_any (va vb : Value) (zs : List Int) (w : World) (ha : IRow w va zs) (hb : IRow w vb zs) :
    Calls Tryd.prog 23 #[va, vb] w fun e w' => e = .returned (.bool true) ∧ Below w.heap.size w w' := by
  obtain ⟨aa, ca, rfl, hca, hm, hcella⟩ := ha
  obtain ⟨ab, cb, rfl, hcb, _, hcellb⟩ := hb
  by_cases hne : zs = []
  · subst hne
    go_enter Tryd.func23, Tryd.ntmps23
    go_wp2
    refine wp_loop_rounds 1 ?_
    rw [rounds_succ]
    go_wp2
    go_ret
    exact ⟨rfl, Below.refl _ _⟩
  · obtain ⟨ga, oa, rfl, hga, hcella⟩ := hcella hne
    obtain ⟨gb, ob, rfl, hgb, hcellb⟩ := hcellb hne
    clear hne
    have hn : ((zs.length : Int) != (zs.length : Int)) = false := by simp
    go_enter Tryd.func23, Tryd.ntmps23
    go_wp2
    go_loopw [5] (fun i wr => ∃ k n : Nat, k ≤ zs.length ∧ i = .int .i64 k ∧ wr = w.drewN n) (fun i _ => zs.length - (intOf i).toNat)
    case atStart => exact ⟨0, 0, by omega, rfl, rfl⟩
    case round =>
      obtain ⟨k, n, hk, rfl, rfl⟩ := hrel
      by_cases hlt : k < zs.length
      · have h1 := hcella k hlt
        have h2 := hcellb k hlt
        clear hcella hcellb
        go_wp2
        go_quiet (fail)
        go_wp2
        go_roundw
        case rel => exact ⟨k + 1, _, by omega, by go_num, rfl⟩
        case measure => simp [intOf]; omega
      · go_wp2
        go_ret
        exact ⟨rfl, ⟨rfl, rfl, rfl, Nat.le_refl _, fun _ _ => rfl⟩⟩

/-- What lies in a slice of ints behind markIntS from k on, when i of them are written and zs stood there. -/
def imarked (k : Int) (zs : List Int) (i : Nat) : List Int := (List.range i).map (fun (j : Nat) => k + (j : Int)) ++ zs.drop i
theorem imarked_zero (k : Int) (zs : List Int) : imarked k zs 0 = zs := by simp [imarked]
theorem imarked_length (k : Int) (zs : List Int) (i : Nat) (h : i ≤ zs.length) : (imarked k zs i).length = zs.length := by simp [imarked]; omega
theorem imarked_set (k : Int) (zs : List Int) (i : Nat) (h : i < zs.length) : (imarked k zs i).set i (k + (i : Int)) = imarked k zs (i + 1) := by
  unfold imarked
  rw [List.range_succ, List.map_append, List.set_append_right _ _ (by simp), List.drop_eq_getElem_cons h, List.append_assoc]
  have e : i - (List.map (fun (j : Nat) => k + (j : Int)) (List.range i)).length = 0 := by simp
  rw [e]
  rfl
theorem imarked_get (k : Int) (zs : List Int) (i : Nat) (h : i < zs.length) : (imarked k zs zs.length).getD i 0 = k + (i : Int) := by
  simp [imarked, List.getD, h]

set_option maxHeartbeats 400000 in
theorem markints_any (v : Value) (k : Int) (base : Nat) (zs : List Int) (w : World) (h : w.ownsRow base 3 1 v zs.length (iv zs)) (hm : zs.length ≤ 4194304) (hk0 : 0 ≤ k) (hk : k ≤ 2305843009213693952) :
    Calls Tryd.prog 25 #[v, .int .i64 k] w fun e w' => e = .returned (.int .i64 (k + zs.length)) ∧ w'.ownsRow base 3 1 v zs.length (iv (imarked k zs zs.length)) ∧ w.grownBy w' v.ownBlock := by
  rcases h.2 with ⟨rfl, h0⟩ | ⟨g, cap, cur, rfl, hb, hg, hnc, hcm, hcs, htake⟩
  · have : zs = [] := List.eq_nil_of_length_eq_zero h0
    subst this
    go_enter Tryd.func25, Tryd.ntmps25
    go_wp2
    refine wp_loop_rounds 1 ?_
    rw [rounds_succ]
    go_wp2
    go_ret
    exact ⟨by simp, h, World.grownBy.refl _ _⟩
  · clear hg hcs htake
    go_enter Tryd.func25, Tryd.ntmps25
    go_wp2
    go_loopw [1, 5] (fun q i wr => ∃ j : Nat, j ≤ zs.length ∧ i = .int .i64 j ∧ q = .int .i64 (k + j) ∧ wr.ownsRow base 3 1 (.slice (some ⟨g, 0, none⟩) zs.length cap) zs.length (iv (imarked k zs j)) ∧ w.grownBy wr (some g)) (fun _ i _ => zs.length - (intOf i).toNat)
    case atStart => exact ⟨0, by omega, rfl, by simp, by rw [imarked_zero]; exact h, World.grownBy.refl _ _⟩
    case round =>
      obtain ⟨j, hj, rfl, rfl, hown, hbel⟩ := hrel
      by_cases hlt : j < zs.length
      · have hc := hown.cellAt j (by omega)
        rw [iv_get _ _ (by rw [imarked_length _ _ _ hj]; exact hlt)] at hc
        have hf := hown.frozenAt j
        have hs := hown.stored j (.int .i64 (k + (j : Int)))
        rw [iv_set, imarked_set k zs j hlt] at hs
        go_wp2
        go_roundw
        case rel => exact ⟨j + 1, by omega, by go_num, by go_num, hs.1, hbel.trans hs.2⟩
        case measure => simp [intOf]; omega
      · go_wp2
        go_ret
        have : j = zs.length := by omega
        subst this
        exact ⟨rfl, hown, hbel⟩

set_option maxHeartbeats 400000 in
theorem heldints_any (v : Value) (k : Int) (ys : List Int) (w : World) (h : IRow w v (imarked k ys ys.length)) (hm : ys.length ≤ 4194304) (hk0 : 0 ≤ k) (hk : k ≤ 2305843009213693952) :
    Calls Tryd.prog 27 #[v, .int .i64 k] w fun e w' => e = .returned (.int .i64 (k + ys.length)) ∧ w' = w := by
  obtain ⟨ao, cap, rfl, hcap, _, hcell⟩ := h
  rw [imarked_length _ _ _ (Nat.le_refl _)] at hcap hcell ⊢
  by_cases hne : ys = []
  · subst hne
    go_enter Tryd.func27, Tryd.ntmps27
    go_wp2
    refine wp_loop_rounds 1 ?_
    rw [rounds_succ]
    go_wp2
    go_ret
    exact ⟨by simp, rfl⟩
  · obtain ⟨g, o, rfl, hg, hcell⟩ := hcell (by intro e; apply hne; have := congrArg List.length e; rw [imarked_length _ _ _ (Nat.le_refl _)] at this; exact List.eq_nil_of_length_eq_zero this)
    clear hne
    go_enter Tryd.func27, Tryd.ntmps27
    go_wp2
    go_loop [1, 5] (fun q i => ∃ j : Nat, j ≤ ys.length ∧ i = .int .i64 j ∧ q = .int .i64 (k + j)) (fun _ i => ys.length - (intOf i).toNat)
    case atStart => exact ⟨0, by omega, rfl, by simp⟩
    case round =>
      obtain ⟨j, hj, rfl, rfl⟩ := hrel
      by_cases hlt : j < ys.length
      · have hc := hcell j hlt
        rw [imarked_get _ _ _ hlt] at hc
        clear hcell
        go_wp2
        go_round
        case rel => exact ⟨j + 1, by omega, by go_num, by go_num⟩
        case measure => simp [intOf]; omega
      · go_wp2
        go_ret
        have : j = ys.length := by omega
        subst this
        exact ⟨rfl, rfl⟩
end Go.Proofs.YtmgjefkelohocaaDoor

/-
  What MakeList makes, and the contracts of impl's hasAll and MakeList.
-/
namespace Go.Proofs.YtmgjefkelohocaaDoor
open Go.RowKit

def nilN : Nd := ⟨1, 0, ByteArray.empty, 0, 0⟩
def pairN (z : Int) (last : Nat) : Nd := ⟨5, 0, ByteArray.empty, z, last⟩
/-- The pairs of the values, the last one first, from the node 'last' on. -/
def pairsR : List Int → Nat → List Nd
  | [], _ => []
  | z :: r, last => pairN z last :: pairsR r (last + 1)
theorem pairsR_snoc (r : List Int) (z : Int) (last : Nat) : pairsR (r ++ [z]) last = pairsR r last ++ [pairN z (last + r.length)] := by
  induction r generalizing last with
  | nil => rfl
  | cons y r ih => simp only [List.cons_append, pairsR, ih, List.length_cons]; rw [show last + 1 + r.length = last + (r.length + 1) by omega]
theorem pairsR_length (r : List Int) (last : Nat) : (pairsR r last).length = r.length := by
  induction r generalizing last with
  | nil => rfl
  | cons y r ih => simp [pairsR, ih]
theorem pairsR_ok (r : List Int) (last : Nat) : ∀ x ∈ pairsR r last, x.s.size ≤ maxLen := by
  induction r generalizing last with
  | nil => simp [pairsR]
  | cons y r ih =>
    intro x hx
    simp only [pairsR, List.mem_cons] at hx
    rcases hx with rfl | hx
    · simp [pairN]
    · exact ih _ x hx
/-- The list so far, when the values from m on stand. -/
def more (zs : List Int) (n m : Nat) : List Nd := nilN :: pairsR (zs.drop m).reverse n
theorem more_length (zs : List Int) (n m : Nat) : (more zs n m).length = zs.length - m + 1 := by simp [more, pairsR_length]
theorem more_ok (zs : List Int) (n m : Nat) : ∀ x ∈ more zs n m, x.s.size ≤ maxLen := by
  intro x hx
  simp only [more, List.mem_cons] at hx
  rcases hx with rfl | hx
  · simp [nilN]
  · exact pairsR_ok _ _ x hx
theorem more_step (zs : List Int) (n m : Nat) (h : m < zs.length) : more zs n m = more zs n (m + 1) ++ [pairN zs[m] (n + (zs.length - (m + 1)))] := by
  unfold more
  rw [List.drop_eq_getElem_cons h, List.reverse_cons, pairsR_snoc]
  simp

def allI (xs : List Nd) (zs : List Int) : Bool := zs.all (hasI xs)
/-- What MakeList leaves, and the number that it tells. -/
def mlOk (xs : List Nd) (zs : List Int) : Bool := decide (xs.length + 1 + zs.length ≤ 3000) && allI xs zs
def mlL (xs : List Nd) (zs : List Int) : List Nd := if poolB xs = true then (if mlOk xs zs = true then xs ++ more zs xs.length 0 else xs) else []
def mlI (xs : List Nd) (zs : List Int) : Int := if poolB xs = true then (if mlOk xs zs = true then ((xs.length + zs.length : Nat) : Int) else -1) else -1

theorem all_drop (p : Int → Bool) (zs : List Int) (k : Nat) (h : k < zs.length) : (zs.drop k).all p = (p (zs.getD k 0) && (zs.drop (k + 1)).all p) := by
  rw [List.drop_eq_getElem_cons h, List.all_cons, List.getD_eq_getElem?_getD, List.getElem?_eq_getElem h]
  rfl

theorem own_nil1 (w : World) (base : Nat) (hb : base ≤ w.heap.size) :
    (w.alloc (Obj.cells #[.int .i64 1, .int .i64 0, .string ⟨#[]⟩, .int .i64 0, .int .i64 0] 55)).ownsRow base 55 5 (.slice (some ⟨w.heap.size, 0, none⟩) 1 1) 1 (ncs [nilN]) :=
  own_lit1 w nilN base hb
theorem NRow.pair1 (w : World) (z : Int) (last : Nat) : NRow (w.alloc (Obj.cells #[.int .i64 5, .int .i64 0, .string ⟨#[]⟩, .int .i64 z, .int .i64 last] 55)) (.slice (some ⟨w.heap.size, 0, none⟩) 1 1) [pairN z last] :=
  NRow.lit1 w (pairN z last) (by simp [pairN])

set_option maxRecDepth 100000 in
set_option maxHeartbeats 1600000 in
theorem listnodes_any (n : Nat) (vl : Value) (zs : List Int) (w : World) (L : IRow w vl zs) (hn : n ≤ 1048576) (hzl : zs.length ≤ 1048576) :
    Calls Tryd.prog 100 #[.int .i64 n, vl] w fun e w' => ∃ v', e = .returned v' ∧ w'.ownsRow w.heap.size 55 5 v' (more zs n 0).length (ncs (more zs n 0)) ∧ Below w.heap.size w w' := by
  obtain ⟨al, cl, rfl, hcl, hlm, hcell⟩ := L
  obtain ⟨i0, hi, hz0, hz1, hz2⟩ := info_parts Tryd.infoN
  go_enter Tryd.func100, Tryd.ntmps100
  go_wp2_with fail
  go_loopw [5, 6] (fun s i wr => ∃ m : Nat, m ≤ zs.length ∧ i = .int .i64 ((m : Int) - 1) ∧ wr.ownsRow w.heap.size 55 5 s (more zs n m).length (ncs (more zs n m)) ∧ Below w.heap.size w wr) (fun _ i _ => (intOf i + 1).toNat)
  case atStart =>
    refine ⟨zs.length, Nat.le_refl _, rfl, ?_, (Below.refl _ _).alloc (Nat.le_refl _) _⟩
    have : more zs n zs.length = [nilN] := by simp [more, pairsR]
    rw [this]
    exact own_nil1 w _ (Nat.le_refl _)
  case round =>
    obtain ⟨m, hmz, rfl, hown, hb⟩ := hrel
    have hbs := hb.size
    by_cases hpos : 0 < m
    · obtain ⟨m, rfl⟩ : ∃ m', m = m' + 1 := ⟨m - 1, by omega⟩
      obtain ⟨g, o, rfl, hg, hcell⟩ := hcell (by intro e; subst e; simp at hmz)
      have c0 := (hb.cell (p := ⟨g, o + m, none⟩) hg).trans (hcell m (by omega))
      have HM := more_step zs n m (by omega)
      have hzm : zs.getD m 0 = zs[m] := by simp [List.getD, show m < zs.length by omega]
      rw [hzm] at c0
      have hml := more_length zs n (m + 1)
      clear hcell hzm
      obtain ⟨ar, qr, rfl⟩ := own_form hown
      have hll : (more zs n (m + 1)).length ≤ 1048577 := by omega
      have HB : Hid (((n + (zs.length - (m + 1)) : Nat) : Int) = (n : Int) + (more zs n (m + 1)).length - 1) := by unfold Hid; rw [hml]; omega
      generalize more zs n (m + 1) = LL at hown HM hll HB ⊢
      have HM' : Hid (more zs n m = LL ++ [pairN zs[m] (n + (zs.length - (m + 1)))]) := HM
      clear HM hml
      go_wp2_with (at_builtin; refine wpList_append_own_any _ rfl _ _ 24 rfl w.heap.size 55 i0 _ 5 48 Tryd.underlying24 hi hz0 hz1 hz2 rfl (by decide) _ _ _ rfl (hown.alloc _) (some ⟨wr.heap.size, 0, none⟩) 1 1 (ncs [(⟨5, 0, ⟨#[]⟩, zs[m], (n : Int) + LL.length - 1⟩ : Nd)]) rfl rfl (NRow.lit1 wr (⟨5, 0, ⟨#[]⟩, zs[m], (n : Int) + LL.length - 1⟩ : Nd) (Nat.zero_le _)).nilcap (NRow.lit1 wr (⟨5, 0, ⟨#[]⟩, zs[m], (n : Int) + LL.length - 1⟩ : Nd) (Nat.zero_le _)).cells (ncs_one _) (by unfold maxLen; omega) (by omega) (by simp; omega) ?_)
      intro v4 w4 ho4 hg4
      have hb4 : Below w.heap.size w w4 := (hb.alloc hbs _).grown hg4 (by simp; omega) (fun k hk => (hown.lt k hk).1)
      have ho5 : w4.ownsRow w.heap.size 55 5 v4 (more zs n m).length (ncs (more zs n m)) := by
        rw [HM'.out, ncs_append, List.length_append, pairN, HB.out]
        exact ho4
      clear ho4 hg4 c0 hown
      go_wp2
      go_roundw
      case rel => exact ⟨m, by omega, by go_num, ho5, hb4⟩
      case measure => (simp [intOf] <;> omega)
    · have hm0 : m = 0 := by omega
      subst hm0
      clear hcell
      go_wp2
      go_ret
      exact ⟨_, rfl, hown, hb⟩

theorem wrap_two (a b : Int) (h0 : 0 ≤ a) (h1 : a ≤ 1000000) (h2 : 0 ≤ b) (h3 : b ≤ 1000000) : IntKind.i64.wrap (IntKind.i64.wrap (a + b) - 1) = a + b - 1 := by
  rw [IntKind.wrap_i64, IntKind.wrap_i64]; omega

end Go.Proofs.YtmgjefkelohocaaDoor
