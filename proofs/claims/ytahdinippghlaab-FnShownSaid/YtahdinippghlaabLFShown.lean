/-
  The law FnShown, walked: at every argument it returns true.
-/
import Derived.Test.YtahdinippghlaabDLk3
import Derived.Test.YtahdinippghlaabILkShow
import Derived.Test.YtahdinippghlaabSLkShow
import Derived.Deep.RegionHeld
namespace Go.Proofs.Ytahdinippghlaab
open Go.RowKit

set_option maxRecDepth 100000 in
set_option maxHeartbeats 400000 in
theorem fshown_big (ao : Option Addr) (len cap : Nat) (w : World) (hl : 1048576 < len) (hm : len ≤ 9223372036854775807) :
    Calls Try.prog 3 #[.slice ao len cap] w fun e w' => e = .returned (.bool true) ∧ Below w.heap.size w w' := by
  go_enter Try.func3, Try.ntmps3
  go_wp2_with (go_at_call 7; go_in)
  go_ret
  exact ⟨rfl, Below.refl _ _⟩

theorem showP_get (a : Int) (q : List ByteArray) (n j : Nat) (hj : j < n) (hn : n ≤ q.length) : ∃ s, q[j]? = some s ∧ (showP a q n)[j]? = some ⟨a + (j : Int), s⟩ := by
  refine ⟨q[j], by simp, ?_⟩
  simp [showP, hj]

set_option maxRecDepth 100000 in
set_option maxHeartbeats 12800000 in
theorem fshown_small (ao : Option Addr) (cap : Nat) (zs : List Int) (w : World) (R : Row w (.slice ao zs.length cap) zs) (hl : zs.length ≤ 1048576) :
    Calls Try.prog 3 #[.slice ao zs.length cap] w fun e w' => e = .returned (.bool true) ∧ Below w.heap.size w w' := by
  go_enter Try.func3, Try.ntmps3
  go_wp2_with (go_at_call 7; go_in)
  refine (dlinkshow_any _ zs w R hl).mono ?_
  rintro e w1 ⟨l, v1, v2, rfl, R1, R2, nq, nh, zq, zh, hB1⟩
  obtain ⟨a1, c1, rfl⟩ := R1.small
  obtain ⟨a2, c2, rfl⟩ := R2.small
  clear R
  go_wp2_with (refine wpList_store_own2 rfl 27 _ _ rfl w1.heap.size #[.int .i64 l.sent, .int .i64 l.acked, .slice a1 l.q.length c1, .int .i64 l.got, .slice a2 l.h.length c2] rfl rfl 27 _ (heap_alloc_new _ _) Try.sizeLk rfl (by simp [Value.oneCell']) ?_)
  intro w2 hn2 hbg2 hs2 ho2
  clear hs2 ho2
  have hb2 : Below w1.heap.size w1 w2 := ((Below.refl _ _).alloc (Nat.le_refl _) _).trans hbg2
  replace R1 := R1.below hb2
  replace R2 := R2.below hb2
  have hB2 := hB1.trans (hb2.mono hB1.size)
  clear hb2 hbg2 hB1
  generalize w1.heap.size = b3 at *
  have IT := fun (w : World) (v1 v2 : Value) (R1 : StRow w v1 l.q) (R2 : PcRow w v2 l.h) => ilinkshow_any v1 v2 l w R1 R2
  have ST := fun (w : World) (v1 v2 : Value) (R1 : StRow w v1 l.q) (R2 : PcRow w v2 l.h) => slinkshow_any v1 v2 l w R1 R2
  have SO := fun (w : World) (v1 v2 : Value) (R1 : StRow w v1 l.q) (R2 : PcRow w v2 l.h) => slinkok_any v1 v2 l w R1 R2
  have hQl := showR_len l
  have hzQ := showR_ok l zq
  obtain ⟨Q, hQ⟩ : ∃ Q, Q = showR l := ⟨_, rfl⟩
  have hcl : linkB l = false ∧ Q = [] ∨ linkB l = true ∧ ∃ n, (n = 4 ∨ n = l.q.length) ∧ n ≤ l.q.length ∧ Q = showP l.acked l.q n := by
    cases hb : linkB l with
    | false => exact Or.inl ⟨rfl, by rw [hQ, showR_bad hb]⟩
    | true =>
      refine Or.inr ⟨rfl, ?_⟩
      by_cases h4 : 4 ≤ l.q.length
      · exact ⟨4, Or.inl rfl, h4, by rw [hQ, showR_four hb h4]⟩
      · exact ⟨l.q.length, Or.inr rfl, Nat.le_refl _, by rw [hQ, showR_few hb h4]⟩
  have hnum : linkB l = true → 0 ≤ l.acked ∧ l.acked ≤ 100000 := fun h => by have := linkB_nums h; omega
  rw [← hQ] at IT ST hQl hzQ
  have HCL : Hid (linkB l = false ∧ Q = [] ∨ linkB l = true ∧ ∃ n, (n = 4 ∨ n = l.q.length) ∧ n ≤ l.q.length ∧ Q = showP l.acked l.q n) := hcl
  clear hQ hcl
  go_wp2_with (refine wpList_load_row rfl 27 _ rfl b3 rfl 27 #[.int .i64 l.sent, .int .i64 l.acked, .slice a1 l.q.length c1, .int .i64 l.got, .slice a2 l.h.length c2] (0, 0) _ hn2 Try.underlying27 rfl Try.sizeLk ?_)
  refine (IT _ _ _ R1 R2).mono ?_
  rintro e w3 ⟨v3, rfl, o3, hb3⟩
  obtain ⟨f3, g3, rfl⟩ := own_form o3
  have Q3 := PcRow.of_own o3 (by omega) hzQ
  have hn3 := (hb3.block _ (Array.getElem?_eq_some_iff.1 hn2).1).trans hn2
  replace R1 := R1.below hb3
  replace R2 := R2.below hb3
  have hB3 := hB2.trans (hb3.mono hB2.size)
  clear hb3 hB2 hn2 o3 IT
  have hQ4 : ¬ (4 : Int) < (Q.length : Int) := by omega
  have hqq : ((Q.length : Int) != (Q.length : Int)) = false := by simp
  go_wp2_with (refine wpList_load_row rfl 27 _ rfl b3 rfl 27 #[.int .i64 l.sent, .int .i64 l.acked, .slice a1 l.q.length c1, .int .i64 l.got, .slice a2 l.h.length c2] (0, 0) _ hn3 Try.underlying27 rfl Try.sizeLk ?_)
  refine (ST _ _ _ R1 R2).mono ?_
  rintro e w4 ⟨v4, rfl, o4, hb4⟩
  obtain ⟨f4, g4, rfl⟩ := own_form o4
  have hn4 := (hb4.block _ (Array.getElem?_eq_some_iff.1 hn3).1).trans hn3
  replace R1 := R1.below hb4
  replace R2 := R2.below hb4
  replace Q3 := Q3.below hb4
  have hB4 := hB3.trans (hb4.mono hB3.size)
  clear hb4 hB3 hn3 o4 ST
  go_wp2
  go_loopw [5] (fun i wr => ∃ j : Nat, j ≤ Q.length ∧ i = .int .i64 j ∧ Below w4.heap.size w4 wr) (fun i _ => Q.length - (intOf i).toNat)
  case atStart => exact ⟨0, by omega, rfl, Below.refl _ _⟩
  case round =>
    obtain ⟨j, hj, rfl, hb⟩ := hrel
    have hl3 : b3 < w4.heap.size := (Array.getElem?_eq_some_iff.1 hn4).1
    have hnr := (hb.block _ hl3).trans hn4
    by_cases hlt : j < Q.length
    · obtain ⟨s, acks, hqs, hps, hkb⟩ : ∃ s, (0 ≤ l.acked ∧ l.acked ≤ 100000) ∧ l.q[j]? = some s ∧ Q[j]? = some ⟨l.acked + (j : Int), s⟩ ∧ j < l.q.length := by
        rcases HCL.out with ⟨_, h⟩ | ⟨hb, n, _, hn, h⟩
        · rw [h] at hlt; simp at hlt
        · have hln : j < n := by rw [h, showP_length _ _ _ hn] at hlt; exact hlt
          obtain ⟨s, h1, h2⟩ := showP_get l.acked l.q n j hln hn
          exact ⟨s, hnum hb, h1, by rw [h]; exact h2, by omega⟩
      obtain ⟨ha0, ha1⟩ := acks
      have Q3' := Q3.below hb
      have R1' := R1.below hb
      obtain ⟨aq, cq, eq, hcq, _, _, hcell⟩ := Q3'
      simp only [Value.slice.injEq, true_and] at eq
      obtain ⟨rfl, rfl⟩ := eq
      obtain ⟨gp, op, rfl, hgp, hcell⟩ := hcell (by intro e; rw [e] at hlt; simp at hlt)
      obtain ⟨k0, k1⟩ := hcell j _ hps
      obtain ⟨ar, cr, er, hcr, _, _, hcellr⟩ := R1'
      simp only [Value.slice.injEq, true_and] at er
      obtain ⟨rfl, rfl⟩ := er
      obtain ⟨gs, os, rfl, hgs, hcellr⟩ := hcellr (by intro e; rw [e] at hkb; simp at hkb)
      have r0 := hcellr j s hqs
      have e1 : wr.cell? ⟨b3, 1, none⟩ = some (.int .i64 l.acked) := cell_of_row wr _ 1 _ _ _ hnr
      have e2 : wr.cell? ⟨b3, 2, none⟩ = some (.slice (some ⟨gs, os, none⟩) l.q.length c1) := cell_of_row wr _ 2 _ _ _ hnr
      have W1 : IntKind.i64.wrap (l.acked + (j : Int)) = l.acked + (j : Int) := by rw [IntKind.wrap_i64]; omega
      simp only at k0 k1
      have m0 : ((l.acked + (j : Int)) != (l.acked + (j : Int))) = false := by simp
      clear hcell hcellr hqs hps HCL hnum SO Q3 R1 R2 hQ4
      go_wp2
      go_quiet (fail)
      go_wp2
      go_roundw
      case rel => exact ⟨j + 1, by omega, by go_num, hb.trans ⟨rfl, rfl, rfl, Nat.le_refl _, fun _ _ => rfl⟩⟩
      case measure => simp [intOf]; omega
    · have hlt' : ¬ (j : Int) < (Q.length : Int) := by omega
      replace R1 := R1.below hb
      replace R2 := R2.below hb
      have hBr := hB4.trans (hb.mono hB4.size)
      have hlr : b3 < wr.heap.size := (Array.getElem?_eq_some_iff.1 hnr).1
      go_wp2_with (refine wpList_load_row rfl 27 _ rfl b3 rfl 27 #[.int .i64 l.sent, .int .i64 l.acked, .slice a1 l.q.length c1, .int .i64 l.got, .slice a2 l.h.length c2] (0, 0) _ hnr Try.underlying27 rfl Try.sizeLk ?_)
      refine (SO _ _ _ R1 R2).mono ?_
      rintro e w5 ⟨rfl, hb5⟩
      have hn5 := (hb5.block _ hlr).trans hnr
      have hB5 := hBr.trans (hb5.mono hBr.size)
      have e2 : w5.cell? ⟨b3, 2, none⟩ = some (.slice a1 l.q.length c1) := cell_of_row w5 _ 2 _ _ _ hn5
      rcases HCL.out with ⟨hb, _⟩ | ⟨hb, n, hn, hnl, h⟩
      · rw [hb]
        clear HCL hnum SO Q3 R1 R2
        go_wp2
        go_ret
        exact ⟨rfl, hB5⟩
      · rw [hb]
        have hQn : Q.length = n := by rw [h, showP_length _ _ _ hnl]
        by_cases hn4 : n = 4
        · have hq4 : (Q.length : Int) = 4 := by omega
          clear HCL hnum SO Q3 R1 R2 hQn hn hqq hQ4 hQl h
          go_wp2
          go_ret
          exact ⟨rfl, hB5⟩
        · have hne : ¬ (Q.length : Int) = 4 := by omega
          have hq4 : ((Q.length : Int) == 4) = false := by simpa using hne
          have hq5 : decide ((Q.length : Int) = 4) = false := by simpa using hne
          have hq6 : Q.length = l.q.length := by omega
          have hq7 : ((Q.length : Int) == (l.q.length : Int)) = true := by rw [hq6]; simp
          clear HCL hnum SO Q3 R1 R2 hQn hn hqq hQ4 hQl h hq6
          go_wp2
          go_ret
          exact ⟨rfl, hB5⟩
end Go.Proofs.Ytahdinippghlaab
