/-
  Contracts of the draws of leases: l11Draw a list of at most 21, l11DrawNow a number, DrawLeaseDrop, DrawKept, DrawLeaseGive, DrawLeaseAsk, DrawGripGood. No condition.
-/
import Derived.Test.YtdlbgdckkjhbdaaDraw5
import Derived.Test.YtdlbgdckkjhbdaaLsAskS
import Derived.Deep.CutRange
namespace Go.Proofs.Ytdlbgdckkjhbdaa
open Go.RowKit

/-- What is known while leases are drawn: the cursor, and a list of one's own. -/
structure DS (w0 : World) (v : Value) (zs : List Int) (P : Nat) (w : World) (wr : World) (p : Value) (L : List Ls) : Prop where
  cur : Cur w0 v zs wr P
  own : wr.ownsRow w.heap.size 40 3 p L.length (lscs L)
  bel : Below P w wr
  lt : P < w.heap.size
theorem DS.draw {w0 : World} {v : Value} {zs : List Int} {P : Nat} {w wr w' : World} {p : Value} {L : List Ls} (D : DS w0 v zs P w wr p L) (c : Cur w0 v zs w' P) (g : wr.grownBy w' (some P)) : DS w0 v zs P w w' p L := by
  have hlt := D.cur.lt
  refine ⟨c, D.own.kept g ?_, D.bel.trans ((Below.refl _ _).grown g (by omega) (fun k hk => by simp at hk; omega)), D.lt⟩
  cases hv : p.ownBlock with
  | none => exact Or.inl rfl
  | some k =>
    refine Or.inr fun e => ?_
    have k2 := (D.own.lt k hv).1
    have := D.lt
    cases e
    omega
theorem DS.below {w0 : World} {v : Value} {zs : List Int} {P : Nat} {w wr w' : World} {p : Value} {L : List Ls} (D : DS w0 v zs P w wr p L) (hb : Below wr.heap.size wr w') : DS w0 v zs P w w' p L :=
  ⟨D.cur.kept (hb.mono (by have := D.cur.lt; omega)), own_below D.own hb, D.bel.trans (hb.mono (by have := D.cur.lt; omega)), D.lt⟩
theorem DS.put {w0 : World} {v : Value} {zs : List Int} {P : Nat} {w wr w' : World} {p p' : Value} {L L' : List Ls} (D : DS w0 v zs P w wr p L) (hb : Below wr.heap.size wr w') (ho : w'.ownsRow wr.heap.size 40 3 p' L'.length (lscs L')) : DS w0 v zs P w w' p' L' :=
  ⟨D.cur.kept (hb.mono (by have := D.cur.lt; omega)), own_mono ho D.bel.size, D.bel.trans (hb.mono (by have := D.cur.lt; omega)), D.lt⟩

theorem akL_20 {xs : List Ls} {i q n : Int} (h : akB xs i q n = true) : (akL xs i q n).length ≤ 20 := by
  unfold akL
  rw [if_pos h]
  unfold akB at h
  simp only [Bool.and_eq_true] at h
  exact lsB_len h.2

set_option maxRecDepth 100000 in
set_option maxHeartbeats 3200000 in
theorem d11draw_any (w0 : World) (v : Value) (zs : List Int) (w : World) (P : Nat) (c : Cur w0 v zs w P) :
    Calls Try.prog 33 #[.pointer (some ⟨P, 0, none⟩)] w fun e w' => ∃ u L, e = .returned u ∧ L.length ≤ 21 ∧ DS w0 v zs P w w' u L := by
  obtain ⟨i0, hi, hz0, hz1, hz2⟩ := info_parts Try.infoLs
  have hlt := c.lt
  have D0 : DS w0 v zs P w (w.alloc (Obj.cells #[] 40)) (.slice (some ⟨w.heap.size, 0, none⟩) 0 0) [] :=
    ⟨c.kept ((Below.refl _ _).alloc (by omega) _), own_none0 w 40 3 w.heap.size (Nat.le_refl _), (Below.refl _ _).alloc (by omega) _, hlt⟩
  clear hlt
  go_enter Try.func33, Try.ntmps33
  go_wp2_with fail
  refine (below_any w0 v zs _ P 7 D0.cur (by omega)).mono ?_
  rintro e w1 ⟨n, rfl, hn0, hn1, c1, g1⟩
  have hn7 := hn1 (by omega)
  replace D0 := D0.draw c1 g1
  clear c1 g1 hn1 c
  go_wp2_with fail
  refine (once_any w0 v zs _ P 30 D0.cur (by omega)).mono ?_
  rintro e w2 ⟨b, rfl, c1, g1⟩
  replace D0 := D0.draw c1 g1
  clear c1 g1
  obtain ⟨k, rfl⟩ := Int.eq_ofNat_of_zero_le hn0
  go_upto_if 13 with fail
  go_cut [4] from 14 (fun s4 wx => ∃ m : Nat, m ≤ 60 ∧ s4 = .int .i64 m ∧ DS w0 v zs P w wx (.slice (some ⟨w.heap.size, 0, none⟩) 0 0) [])
  case first =>
    cases b with
    | false =>
      go_wp2_with fail
      go_meet
      case rel => exact ⟨k, by omega, rfl, D0⟩
    | true =>
      go_wp2_with fail
      go_meet
      case rel => exact ⟨60, by omega, rfl, D0⟩
  case rest =>
    obtain ⟨m, hm, rfl, D3⟩ := hcut
    clear D0
    obtain ⟨w3, hw3⟩ : ∃ w3, w3 = wc := ⟨_, rfl⟩
    subst hw3
    clear hn7 hn0
    go_wp2_with fail
    go_loopw [3, 5] (fun p i wr => ∃ (j : Nat) (L : List Ls), j ≤ m ∧ i = .int .i64 j ∧ L.length ≤ 20 ∧ DS w0 v zs P w wr p L) (fun _ i _ => m - (intOf i).toNat)
    case atStart => exact ⟨0, [], by omega, rfl, by simp, D3⟩
    case round =>
      clear D3
      obtain ⟨j, L, hj, rfl, hL, D⟩ := hrel
      obtain ⟨pa, pc, rfl⟩ := own_form D.own
      by_cases hlt : j < m
      · have hlt' : (j : Int) < (m : Int) := by omega
        go_wp2_with fail
        refine (below_any w0 v zs _ P 4 D.cur (by omega)).mono ?_
        rintro e w4 ⟨x4, rfl, hx0, hx1, c1, g1⟩
        have hx4 := hx1 (by omega)
        replace D := D.draw c1 g1
        clear c1 g1 hx1
        go_wp2_with fail
        refine (below_any w0 v zs _ P 10 D.cur (by omega)).mono ?_
        rintro e w5 ⟨x5, rfl, hx50, hx1, c1, g1⟩
        replace D := D.draw c1 g1
        clear c1 g1 hx1
        go_wp2_with fail
        refine (below_any w0 v zs _ P 40 D.cur (by omega)).mono ?_
        rintro e w6 ⟨x6, rfl, hx60, hx1, c1, g1⟩
        replace D := D.draw c1 g1
        clear c1 g1 hx1
        go_wp2_with fail
        refine (sleaseask_any _ L (1 + x4) x5 x6 _ (LsRow.of_own D.own (by omega))).mono ?_
        rintro e w7 ⟨u7, rfl, own7, hb7⟩
        obtain ⟨a7, c7, rfl⟩ := own_form own7
        have hA20 := akL_20 (xs := L) (i := 1 + x4) (q := x5) (n := x6)
        generalize akL L (1 + x4) x5 x6 = L7 at *
        generalize akB L (1 + x4) x5 x6 = b7 at *
        generalize akI L (1 + x4) x5 x6 = gi at *
        generalize akU L (1 + x4) x5 x6 = gu at *
        cases b7 with
        | false =>
          have D8 := (D.below hb7).below ((Below.refl _ _).alloc (Nat.le_refl _) (Obj.cells #[.int .i64 gi, .int .i64 gu] 28))
          clear D own7 hb7 hA20
          go_wp2
          go_roundw
          case rel => exact ⟨j + 1, L, by omega, by go_num, hL, D8⟩
          case measure => simp [intOf]; omega
        | true =>
          have D8 := (D.put hb7 own7).below ((Below.refl _ _).alloc (Nat.le_refl _) (Obj.cells #[.int .i64 gi, .int .i64 gu] 28))
          have hl7 := hA20 rfl
          clear D own7 hb7 hA20
          go_wp2
          go_roundw
          case rel => exact ⟨j + 1, L7, by omega, by go_num, hl7, D8⟩
          case measure => simp [intOf]; omega
      · have hlt' : ¬ (j : Int) < (m : Int) := by omega
        go_wp2_with fail
        refine (once_any w0 v zs _ P 12 D.cur (by omega)).mono ?_
        rintro e w4 ⟨b4, rfl, c1, g1⟩
        replace D := D.draw c1 g1
        clear c1 g1
        cases b4 with
        | false =>
          go_wp2
          go_ret
          exact ⟨_, L, rfl, by omega, D⟩
        | true =>
          go_wp2_with fail
          refine (below_any w0 v zs _ P 3 D.cur (by omega)).mono ?_
          rintro e w5 ⟨x5, rfl, hx50, hx1, c1, g1⟩
          replace D := D.draw c1 g1
          clear c1 g1 hx1
          go_wp2_with fail
          refine (below_any w0 v zs _ P 12 D.cur (by omega)).mono ?_
          rintro e w6 ⟨x6, rfl, hx60, hx1, c1, g1⟩
          have hx6 := hx1 (by omega)
          replace D := D.draw c1 g1
          clear c1 g1 hx1
          go_wp2_with fail
          refine (below_any w0 v zs _ P 40 D.cur (by omega)).mono ?_
          rintro e w7 ⟨x7, rfl, hx70, hx1, c1, g1⟩
          have hx7 := hx1 (by omega)
          replace D := D.draw c1 g1
          clear c1 g1 hx1
          have W6 : IntKind.i64.wrap (x6 - 1) = x6 - 1 := by rw [IntKind.wrap_i64]; omega
          have W7 : IntKind.i64.wrap (x7 - 1) = x7 - 1 := by rw [IntKind.wrap_i64]; omega
          have L1 := LsRow.lit1 w7 ⟨x5, x6 - 1, x7 - 1⟩
          have own7 := D.own
          have hsz := D.bel.size
          have hba : Below w7.heap.size w7 (w7.alloc (.cells #[.int .i64 x5, .int .i64 (x6 - 1), .int .i64 (x7 - 1)] 40)) := (Below.refl _ _).alloc (Nat.le_refl _) _
          have D8 := D.below hba
          clear D
          go_wp2_with (at_builtin; refine wpList_append_own_any _ rfl _ _ 24 rfl w.heap.size 40 i0 _ 3 24 Try.underlying24 hi hz0 hz1 hz2 rfl (by decide) _ _ _ rfl (own7.alloc _) (some ⟨w7.heap.size, 0, none⟩) 1 1 (lscs [⟨x5, x6 - 1, x7 - 1⟩]) rfl rfl L1.nilcap L1.cells (lscs_one _) (by unfold maxLen; omega) (by omega) (by simp; omega) ?_)
          intro u8 w8 o8 hg8
          have D9 : DS w0 v zs P w w8 u8 (L ++ [⟨x5, x6 - 1, x7 - 1⟩]) := by
            have hne : ∀ k, (Value.slice pa L.length pc).ownBlock = some k → P + 1 ≤ k := fun k hk => by have := (own7.lt k hk).1; have := D8.lt; omega
            have hlt8 := D8.cur.lt
            have hkb : Below (P + 1) (w7.alloc (.cells #[.int .i64 x5, .int .i64 (x6 - 1), .int .i64 (x7 - 1)] 40)) w8 := (Below.refl _ _).grown hg8 (by omega) hne
            exact ⟨D8.cur.kept hkb, by rw [lscs_append, List.length_append]; exact o8, D8.bel.trans (hkb.mono (by omega)), D8.lt⟩
          clear o8 hg8 own7 L1 D8
          go_wp2
          go_ret
          exact ⟨_, _, rfl, by simp; omega, D9⟩
end Go.Proofs.Ytdlbgdckkjhbdaa
