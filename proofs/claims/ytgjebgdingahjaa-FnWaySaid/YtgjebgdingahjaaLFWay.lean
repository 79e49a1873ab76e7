/-
  The law FnWay, walked: at every argument it returns true.
-/
import Derived.Test.YtgjebgdingahjaaWyR
import Derived.Test.YtgjebgdingahjaaWyT
import Derived.Test.YtgjebgdingahjaaSameT
import Derived.Test.YtgjebgdingahjaaPrApp2
namespace Go.Proofs.Ytgjebgdingahjaa
open Go.RowKit

set_option maxRecDepth 100000 in
set_option maxHeartbeats 400000 in
theorem fway_big (ao : Option Addr) (len cap : Nat) (w : World) (hl : 1048576 < len) (hm : len ≤ 9223372036854775807) :
    Calls Try.prog 3 #[.slice ao len cap] w fun e w' => e = .returned (.bool true) ∧ Below w.heap.size w w' := by
  go_enter Try.func3, Try.ntmps3
  go_wp2_with (go_at_call 4; go_in)
  go_ret
  exact ⟨rfl, Below.refl _ _⟩

/-- Where the first loop stands. -/
def WyI (B : Nat) (w wr : World) (b k : Nat) (vg vt va : Value) : Prop :=
  ∃ v1 v2 l gave took air, WyS B wr b v1 v2 vg vt va l gave took air ∧ Way gave took l ∧ (∀ x ∈ air, Of gave x) ∧ gave.length ≤ k ∧ air.length ≤ 4 * k ∧ (∀ s ∈ gave, s.size ≤ 2) ∧ Below B w wr
/-- Where the second loop stands. -/
def WyJ (B : Nat) (w wr : World) (b k : Nat) (vg vt va : Value) (gave : List ByteArray) (air : List Pc) : Prop :=
  ∃ v1 v2 l took, WyS B wr b v1 v2 vg vt va l gave took air ∧ Way gave took l ∧ l.q.length ≤ 30 - 4 * k ∧ Below B w wr
/-- Where the loop within stands: of what was shown j are taken. -/
def WyK (B : Nat) (w wr : World) (b j : Nat) (vg vt va vl : Value) (gave : List ByteArray) (air : List Pc) (l0 : Lk) (L : List Pc) : Prop :=
  ∃ v1 v2 l took, WyS B wr b v1 v2 vg vt va l gave took air ∧ Way gave took l ∧ l.acked = l0.acked ∧ l.q = l0.q ∧ l0.acked + (j : Int) ≤ l.got ∧ wr.ownsRow B 36 2 vl L.length (pccs L) ∧ Below B w wr
theorem strow_nil (w : World) : StRow w (.slice none 0 0) [] := ⟨none, 0, rfl, by simp, by simp, by simp, fun h => absurd rfl h⟩
theorem pcrow_nil (w : World) : PcRow w (.slice none 0 0) [] := ⟨none, 0, rfl, by simp, by simp, by simp, fun h => absurd rfl h⟩
theorem send_first (s : ByteArray) : (sendR zeroLk s).2 = true := by
  have h : linkB (sendL zeroLk s) = true := by rw [linkB_iff]; simp [sendL, zeroLk, heldB]
  rw [sendR_yes zeroLk_ok h]

set_option maxRecDepth 100000 in
set_option maxHeartbeats 12800000 in
theorem fway_small (ao : Option Addr) (cap : Nat) (zs : List Int) (w : World) (R : Row w (.slice ao zs.length cap) zs) (hl : zs.length ≤ 1048576) :
    Calls Try.prog 3 #[.slice ao zs.length cap] w fun e w' => e = .returned (.bool true) ∧ Below w.heap.size w w' := by
  go_enter Try.func3, Try.ntmps3
  go_wp2_with (first | (go_at_call 4; go_in) | (refine wpList_store_own2 rfl 27 _ _ rfl w.heap.size #[.int .i64 0, .int .i64 0, .slice none 0 0, .int .i64 0, .slice none 0 0] rfl rfl 27 _ (heap_alloc_new _ _) Try.sizeLk rfl (by simp [Value.oneCell']) ?_))
  intro w1 hx hbg hs1 ho1
  have hB : Below w.heap.size w w1 := ((Below.refl _ _).alloc (Nat.le_refl _) _).trans hbg
  clear hbg hs1 ho1
  go_wp2_with (refine wpList_load_row rfl 27 _ rfl w.heap.size rfl 27 #[.int .i64 0, .int .i64 0, .slice none 0 0, .int .i64 0, .slice none 0 0] (0, 0) _ hx Try.underlying27 rfl Try.sizeLk ?_)
  refine (ilinksend_any (.slice none 0 0) (.slice none 0 0) zeroLk _ _ (strow_nil _) (pcrow_nil _) (by decide)).mono ?_
  rintro e w2 ⟨u1, u2, rfl, U1, U2, hb⟩
  rw [send_first]
  obtain ⟨a1, c1, rfl⟩ := U1.form
  obtain ⟨a2, c2, rfl⟩ := own_form U2
  replace hx := blk_bel hx hb
  replace hB := hB.trans (hb.mono hB.size)
  clear hb U1 U2
  generalize (sendR zeroLk _).1 = r at *
  go_wp2_with (refine wpList_store_own2 rfl 27 _ _ rfl w2.heap.size #[.int .i64 r.sent, .int .i64 r.acked, .slice a1 r.q.length c1, .int .i64 r.got, .slice a2 r.h.length c2] rfl rfl 27 _ (heap_alloc_new _ _) Try.sizeLk rfl (by simp [Value.oneCell']) ?_)
  intro w3 hn hbg hs3 ho3
  have hb : Below w2.heap.size w2 w3 := ((Below.refl _ _).alloc (Nat.le_refl _) _).trans hbg
  replace hx := blk_bel hx hb
  replace hB := hB.trans (hb.mono hB.size)
  clear hb hbg hs3 ho3 hn
  have hB1 : w.heap.size ≤ w3.heap.size := hB.size
  have S0 : WyS w.heap.size (((w3.alloc (Obj.cells #[] 9)).alloc (Obj.cells #[] 9)).alloc (Obj.cells #[] 36)) w.heap.size (.slice none 0 0) (.slice none 0 0) (.slice (some ⟨w3.heap.size, 0, none⟩) 0 0) (.slice (some ⟨w3.heap.size + 1, 0, none⟩) 0 0) (.slice (some ⟨w3.heap.size + 1 + 1, 0, none⟩) 0 0) zeroLk [] [] [] := by
    have g1 := own_none0 w3 9 1 w.heap.size hB1
    have g2 := own_none0 (w3.alloc (Obj.cells #[] 9)) 9 1 w.heap.size (by simp; omega)
    have b1 := alloc_bel w3 (Obj.cells #[] 9)
    have b2 := alloc_bel (w3.alloc (Obj.cells #[] 9)) (Obj.cells #[] 9)
    have b3 := alloc_bel ((w3.alloc (Obj.cells #[] 9)).alloc (Obj.cells #[] 9)) (Obj.cells #[] 36)
    rw [show (w3.alloc (Obj.cells #[] 9)).heap.size = w3.heap.size + 1 by simp] at g2
    refine ⟨blk_bel (blk_bel (blk_bel hx b1) b2) b3, Nat.le_refl _, ⟨none, 0, rfl, by simp [zeroLk], Or.inl rfl⟩, ⟨rfl, Or.inl ⟨rfl, rfl⟩⟩, own_below (own_below g1 b2) b3, own_below g2 b3, Or.inl ⟨rfl, _, _, rfl⟩, Or.inl rfl, Or.inl rfl, ?_, Or.inl ⟨rfl, _, _, rfl⟩⟩
    intro k h1 h2
    simp only [Value.ownBlock, Option.some.injEq] at h1 h2
    omega
  have hB4 : Below w.heap.size w (((w3.alloc (Obj.cells #[] 9)).alloc (Obj.cells #[] 9)).alloc (Obj.cells #[] 36)) := ((hB.alloc hB1 _).alloc (by simp; omega) _).alloc (by simp; omega) _
  have I0 : WyI w.heap.size w (((w3.alloc (Obj.cells #[] 9)).alloc (Obj.cells #[] 9)).alloc (Obj.cells #[] 36)) w.heap.size 0 _ _ _ := ⟨_, _, _, _, _, _, S0, Way.zero, by simp, by simp, by simp, by simp, hB4⟩
  clear S0 hB4 hx hB hB1
  go_wp2_with fail
  go_loopw [6, 7, 8, 9] (fun s6 s7 s8 s9 wr => ∃ k : Nat, k ≤ 40 ∧ s9 = .int .i64 k ∧ WyI w.heap.size w wr w.heap.size k s6 s7 s8) (fun _ _ _ s9 _ => 40 - (intOf s9).toNat)
  case atStart => exact ⟨0, by omega, rfl, I0⟩
  case round =>
    clear I0
    obtain ⟨k, hk, rfl, v1, v2, l, gave, took, air, S, Y, hA, hg, ha, hz, hB⟩ := hrel
    obtain ⟨ag, cg, rfl⟩ := own_form S.g
    obtain ⟨at', ct, rfl⟩ := own_form S.t
    obtain ⟨aa, ca, rfl⟩ := S.a.form
    obtain ⟨q1, d1, rfl⟩ := S.q.form
    obtain ⟨q2, d2, rfl⟩ := own_form S.h
    have hnq : l.q.length ≤ 30 := Y.nums.2.2.2.2.1
    have hlB : w.heap.size ≤ wr.heap.size := hB.size
    have hq2 : ∀ s ∈ l.q, s.size ≤ maxLen := by
      intro s hs
      rw [Y.q] at hs
      have := hz s (List.mem_of_mem_drop hs)
      unfold maxLen
      omega
    have hh2 : ∀ x ∈ l.h, x.s.size ≤ maxLen := by
      intro x hx
      have := hz x.s (List.mem_of_getElem? (Y.held x hx).2)
      unfold maxLen
      omega
    have hhl := linkB_heldlen Y.ok
    have R1 : StRow _ _ l.q := S.q.row (by omega) hq2
    have R2 : PcRow _ _ l.h := PcRow.of_own S.h (by omega) hh2
    by_cases hlt : k < 40
    · have hlt' : (k : Int) < 40 := by omega
      go_wp2_with fail
      refine (lat_any _ zs k _ (R.below hB) hlt hl).mono ?_
      rintro e w5 ⟨⟨x, rfl, hx5⟩, rfl⟩
      by_cases h60 : x < 60
      · have h60' : (x : Int) < 60 := by omega
        have hds : (dg k).size ≤ maxLen := by have := dg_size k; unfold maxLen; omega
        go_wp2_with fail
        refine way_r14 w.heap.size k _ _ l _ _ _ S.x R1 R2 (by omega) hds rfl ?_
        intro s46 s47 s48 s49 s45 s50 s51 u1 u2 nb W hnb hn U1 U2 hW
        have S1 := S.below hW
        have hBW := hB.trans (hW.mono hB.size)
        cases hok : (sendR l (dg k)).2 with
        | false =>
          go_wp2
          go_roundw
          case rel => exact ⟨k + 1, by omega, by go_num, _, _, l, gave, took, air, S1, Y, hA, by omega, by omega, hz, hBW⟩
          case measure => simp [intOf]; omega
        | true =>
          have Y1 := Y.send (dg k) hok
          clear hok
          obtain ⟨l', hl'⟩ : ∃ l', (sendR l (dg k)).1 = l' := ⟨_, rfl⟩
          rw [hl'] at hn U1 U2 Y1
          clear hl'
          obtain ⟨a1, c1, rfl⟩ := U1.form
          obtain ⟨a2, c2, rfl⟩ := own_form U2
          go_wp2_with (first
            | (refine wpList_load_row rfl 27 _ rfl nb rfl 27 #[.int .i64 l'.sent, .int .i64 l'.acked, .slice a1 l'.q.length c1, .int .i64 l'.got, .slice a2 l'.h.length c2] (0, 0) _ hn Try.underlying27 rfl Try.sizeLk ?_)
            | (refine wpList_store_own2 rfl 27 _ _ rfl w.heap.size #[.int .i64 l'.sent, .int .i64 l'.acked, .slice a1 l'.q.length c1, .int .i64 l'.got, .slice a2 l'.h.length c2] rfl rfl 27 _ S1.x Try.sizeLk rfl (by simp [Value.oneCell']) ?_))
          intro w6 hv hbg hs6 ho6
          have S2 := S.link hW U1 U2 hv ho6
          have hB2 := hBW.trans (hbg.mono (Nat.le_refl _))
          clear hv hbg hs6 ho6 S1 hBW hn U1 U2 hW hnb
          go_wp2_with fail
          refine (ldigits_any k _ (by omega)).mono ?_
          rintro e w7 ⟨rfl, hb7⟩
          have S3 := (S2.below hb7).below (alloc_bel w7 (Obj.cells #[.string (dg k)] 9))
          have hB3 := (hB2.trans (hb7.mono hB2.size)).trans ((alloc_bel w7 (Obj.cells #[.string (dg k)] 9)).mono (hB2.trans (hb7.mono hB2.size)).size)
          have O : (w7.alloc (Obj.cells #[.string (dg k)] 9)).ownsRow 0 9 1 (.slice (some ⟨w7.heap.size, 0, none⟩) 1 1) [dg k].length (stv [dg k]) := ⟨rfl, Or.inr ⟨w7.heap.size, 1, _, rfl, Nat.zero_le _, heap_alloc_new _ _, by simp, by simp [maxLen], by simp, by simp [stv]⟩⟩
          obtain ⟨v8, w8, hr8, G8, hg8, hk8⟩ := run_txt 24 S3.g O hB3.size (by simp; omega)
          have S4 := S3.more G8 hg8 hk8
          have hB4 : Below w.heap.size w w8 := hB3.grown hg8 hB3.size (fun j hj => own_ge S3.g hj)
          have K1 : ∀ x ∈ air, Of (gave ++ [dg k]) x := fun x hx => (hA x hx).more _
          have K2 : (gave ++ [dg k]).length ≤ k + 1 := by simp; omega
          have K3 : ∀ s ∈ gave ++ [dg k], s.size ≤ 2 := by
            intro s hs
            rcases List.mem_append.1 hs with h | h
            · exact hz s h
            · rw [List.mem_singleton.1 h]; exact dg_size k
          generalize gave ++ [dg k] = gv at S4 G8 Y1 K1 K2 K3
          obtain ⟨a8, c8, rfl⟩ := own_form G8
          clear S2 hB2 hb7 O hk8 hg8 G8 S3 hB3
          go_wp2_with (at_builtin; refine wpList_run2 _ rfl _ _ 24 rfl _ _ rfl rfl hr8 ?_)
          go_wp2
          go_roundw
          case rel => exact ⟨k + 1, by omega, by go_num, _, _, l', gv, took, air, S4, Y1, K1, K2, by omega, K3, hB4⟩
          case measure => simp [intOf]; omega
      · have h60' : ¬ (x : Int) < 60 := by omega
        by_cases h120 : x < 120
        · have h120' : (x : Int) < 120 := by omega
          go_wp2_with (refine wpList_load_row rfl 27 _ rfl w.heap.size rfl 27 #[.int .i64 l.sent, .int .i64 l.acked, .slice q1 l.q.length d1, .int .i64 l.got, .slice q2 l.h.length d2] (0, 0) _ S.x Try.underlying27 rfl Try.sizeLk ?_)
          refine (ilinkshow_any _ _ l _ R1 R2).mono ?_
          rintro e w6 ⟨v6, rfl, O6, hb6⟩
          obtain ⟨a6, c6, rfl⟩ := own_form O6
          have S1 := S.below hb6
          have hB2 := hB.trans (hb6.mono hB.size)
          have hsl : (showR l).length ≤ 4 := by rw [show_len Y]; unfold shown; split <;> omega
          obtain ⟨v7, w7, ob, hr7, A7, hg7, h71, h72⟩ := run_air 25 S1.a O6 hB2.size (by omega)
          have S2 := S1.air A7 hg7 h71 h72
          have hB3 := WyS.air_below S1.a hg7 h71 hB2 hB2.size
          have K1 : ∀ x ∈ air ++ showR l, Of gave x := by
            intro x hx
            rcases List.mem_append.1 hx with h | h
            · exact hA x h
            · obtain ⟨i, hi, e⟩ := List.getElem_of_mem h
              exact (Y.show (i := i) (by rw [← e]; simp [hi])).1
          have K2 : (air ++ showR l).length ≤ 4 * (k + 1) := by rw [List.length_append]; omega
          generalize air ++ showR l = ar at S2 A7 K1 K2
          obtain ⟨a7, c7, rfl⟩ := A7.form
          clear S1 hB2 O6 hg7 h71 h72 A7 hb6
          go_wp2_with (at_builtin; refine wpList_run2 _ rfl _ _ 25 rfl _ _ rfl rfl hr7 ?_)
          go_wp2
          go_roundw
          case rel => exact ⟨k + 1, by omega, by go_num, _, _, l, gave, took, ar, S2, Y, K1, by omega, K2, hz, hB3⟩
          case measure => simp [intOf]; omega
        · have h120' : ¬ (x : Int) < 120 := by omega
          by_cases hal : 0 < (air.length : Int)
          · obtain ⟨g, CAP, pre, e, hc1, hc2, ho⟩ : ∃ (g CAP : Nat) (pre : List Pc), Value.slice aa air.length ca = .slice (some ⟨g, pre.length * 2, none⟩) air.length (CAP - pre.length) ∧ pre.length + air.length ≤ CAP ∧ pre.length < CAP ∧ w5.ownsRow w.heap.size 36 2 (.slice (some ⟨g, 0, none⟩) (pre ++ air).length CAP) (pre ++ air).length (pccs (pre ++ air)) := by
              rcases S.a with ⟨e, _⟩ | h
              · rw [e] at hal; simp at hal
              · exact h
            simp only [Value.slice.injEq, true_and] at e
            obtain ⟨rfl, rfl⟩ := e
            by_cases h230 : x < 230
            · have h230' : (x : Int) < 230 := by omega
              have hjl : x % air.length < air.length := Nat.mod_lt _ (by omega)
              obtain ⟨j, hj⟩ : ∃ j, x % air.length = j := ⟨_, rfl⟩
              rw [hj] at hjl
              have hyj : (x : Int) % (air.length : Int) = (j : Int) := by rw [← hj]; simp
              obtain ⟨p, hp⟩ : ∃ p, air[j]? = some p := ⟨air[j], by simp [hjl]⟩
              have hpm := hA p (List.mem_of_getElem? hp)
              have hps : p.s.size ≤ maxLen := by have := hz p.s (List.mem_of_getElem? hpm.2); unfold maxLen; omega
              have hpr : w5.rangeAt g (pre.length * 2 + j * 2) [.int .i64 p.n, .string p.s] := by
                intro i v hi
                have hi2 : i < 2 := by have := (List.getElem?_eq_some_iff.1 hi).1; simpa using this
                have hgp : (pre ++ air)[pre.length + j]? = some p := by rw [List.getElem?_append_right (by omega)]; simpa using hp
                rw [show pre.length * 2 + j * 2 + i = (pre.length + j) * 2 + i by omega]
                refine (ho.cellAt _ (by rw [List.length_append]; omega)).trans ?_
                rw [pccs_get _ _ p hgp i hi2]
                exact hi
              have hgl : g < w5.heap.size := own_lt ho rfl
              go_wp2_with fail
              refine way_r21 w.heap.size g (pre.length * 2) j air.length (CAP - pre.length) _ _ l p _ x w5 _ S.x R1 R2 (by omega) (by omega) hps rfl hgl hpr hjl hyj ?_
              intro s75 s76 s77 s78 s79 s80 s81 s82 s83 s74 s84 s85 u1 u2 u3 nb W hnb hn O1 O2 O3 hap hW
              have S1 := S.below hW
              have hBW := hB.trans (hW.mono hB.size)
              have Y1 := Y.take hpm
              clear hpr hp ho hgl
              obtain ⟨l', hl'⟩ : ∃ l', (takeR l p).1 = l' := ⟨_, rfl⟩
              rw [hl'] at hn O1 O2 Y1
              clear hl'
              obtain ⟨a1, c1, rfl⟩ := own_form O1
              obtain ⟨a2, c2, rfl⟩ := own_form O2
              obtain ⟨a3, c3, e3⟩ := own_form O3
              subst e3
              go_wp2_with (first
                | (refine wpList_load_row rfl 27 _ rfl nb rfl 27 #[.int .i64 l'.sent, .int .i64 l'.acked, .slice a1 l'.q.length c1, .int .i64 l'.got, .slice a2 l'.h.length c2] (0, 0) _ hn Try.underlying27 rfl Try.sizeLk ?_)
                | (refine wpList_store_own2 rfl 27 _ _ rfl w.heap.size #[.int .i64 l'.sent, .int .i64 l'.acked, .slice a1 l'.q.length c1, .int .i64 l'.got, .slice a2 l'.h.length c2] rfl rfl 27 _ S1.x Try.sizeLk rfl (by simp [Value.oneCell']) ?_))
              intro w6 hv hbg hs6 ho6
              have S2 := S.link hW (SOwn.of_own O1) O2 hv ho6
              have O4 := own_box O3 S1.x (by decide) ho6
              have hB2 := hBW.trans (hbg.mono (Nat.le_refl _))
              have htl : took.length + (takeR l p).2.length ≤ 1000 := by
                have := Y1.nums
                rw [List.length_append] at this
                have := Y1.nums.2.2.1
                omega
              obtain ⟨v8, w8, hr8, G8, hg8, hk8⟩ := run_txt 24 S2.t O4 hB2.size htl
              have S4 := S2.up G8 hg8 hk8
              have hB4 : Below w.heap.size w w8 := hB2.grown hg8 hB2.size (fun j hj => own_ge S2.t hj)
              clear hv hbg hs6 ho6 S1 hBW hn O1 O2 hW hnb O3 O4 hap hg8 hk8 S2 hB2 htl
              generalize took ++ (takeR l p).2 = tk at S4 G8 Y1
              obtain ⟨a8, c8, rfl⟩ := own_form G8
              clear G8
              go_wp2_with (at_builtin; refine wpList_run2 _ rfl _ _ 24 rfl _ _ rfl rfl hr8 ?_)
              go_wp2
              go_roundw
              case rel => exact ⟨k + 1, by omega, by go_num, _, _, l', gave, tk, air, S4, Y1, hA, by omega, by omega, hz, hB4⟩
              case measure => simp [intOf]; omega
            · have h230' : ¬ (x : Int) < 230 := by omega
              have c3 : w5.cell? ⟨w.heap.size, 0 + 3, none⟩ = some (.int .i64 l.got) := cell_of_row w5 _ 3 _ _ _ S.x
              have g0 : 0 ≤ l.got := by have := Y.nums; omega
              have g1 : l.got ≤ 40 := by have := Y.nums; omega
              obtain ⟨no, hno⟩ : ∃ no, l.got - (x : Int) % 2 = no := ⟨_, rfl⟩
              have n0 : -1 ≤ no := by omega
              have n1 : no ≤ 40 := by omega
              obtain ⟨p0, ar, rfl⟩ : ∃ p0 ar, air = p0 :: ar := by
                cases air with
                | nil => simp at hal
                | cons p0 ar => exact ⟨p0, ar, rfl⟩
              obtain ⟨o2, ho2⟩ : ∃ o2, pre.length * 2 = o2 := ⟨_, rfl⟩
              obtain ⟨c2', hc2'⟩ : ∃ c2', CAP - pre.length = c2' := ⟨_, rfl⟩
              rw [ho2, hc2'] at S ⊢
              have hcl : ar.length + 1 ≤ c2' := by simp only [List.length_cons] at hc1; omega
              clear ho hc1 hc2 ho2 hc2'
              simp only [List.length_cons] at S ha ⊢
              go_wp2_with (refine wpList_load_row rfl 27 _ rfl w.heap.size rfl 27 #[.int .i64 l.sent, .int .i64 l.acked, .slice q1 l.q.length d1, .int .i64 l.got, .slice q2 l.h.length d2] (0, 0) _ S.x Try.underlying27 rfl Try.sizeLk ?_)
              refine (ilinkack_any _ _ l no _ R1 R2).mono ?_
              rintro e w6 ⟨u1, u2, rfl, U1, U2, hb6⟩
              have Y1 := Y.ack no
              obtain ⟨l', hl'⟩ : ∃ l', (ackR l no).1 = l' := ⟨_, rfl⟩
              rw [hl'] at U1 U2 Y1 ⊢
              clear hl' c3 hno
              obtain ⟨a1, c1, rfl⟩ := U1.form
              obtain ⟨a2, c2, rfl⟩ := own_form U2
              go_wp2_with (refine wpList_store_own2 rfl 27 _ _ rfl w6.heap.size #[.int .i64 l'.sent, .int .i64 l'.acked, .slice a1 l'.q.length c1, .int .i64 l'.got, .slice a2 l'.h.length c2] rfl rfl 27 _ (heap_alloc_new _ _) Try.sizeLk rfl (by simp [Value.oneCell']) ?_)
              intro w7 hn hbg hs7 ho7
              have hb7 : Below w6.heap.size w6 w7 := ((Below.refl _ _).alloc (Nat.le_refl _) _).trans hbg
              have hb67 := hb6.trans (hb7.mono hb6.size)
              have S1 := S.below hb67
              clear hbg hs7 ho7
              go_wp2_with (first
                | (refine wpList_load_row rfl 27 _ rfl w6.heap.size rfl 27 #[.int .i64 l'.sent, .int .i64 l'.acked, .slice a1 l'.q.length c1, .int .i64 l'.got, .slice a2 l'.h.length c2] (0, 0) _ hn Try.underlying27 rfl Try.sizeLk ?_)
                | (refine wpList_store_own2 rfl 27 _ _ rfl w.heap.size #[.int .i64 l'.sent, .int .i64 l'.acked, .slice a1 l'.q.length c1, .int .i64 l'.got, .slice a2 l'.h.length c2] rfl rfl 27 _ S1.x Try.sizeLk rfl (by simp [Value.oneCell']) ?_))
              intro w8 hv hbg hs8 ho8
              have S2 := S.link hb67 (U1.below hb7) (own_below U2 hb7) hv ho8
              have hB2 := (hB.trans (hb67.mono hB.size)).trans (hbg.mono (Nat.le_refl _))
              clear hv hbg hs8 ho8 S1 hn U1 U2 hb6 hb7 hb67 S
              have hn0 : ¬ Air0 (.slice (some ⟨g, o2, none⟩) (ar.length + 1) c2') := by rintro ⟨_, _, e⟩; simp at e
              have hT := AirR.tail S2.a
              have hA' : ∀ x ∈ ar, Of gave x := fun x hx => hA x (List.mem_cons_of_mem _ hx)
              by_cases hcap : c2' = 1
              · have har : ar = [] := List.eq_nil_of_length_eq_zero (by omega)
                subst har
                subst hcap
                have S3 := S2.air (hT.1 rfl) (World.grownBy.refl _ _) (Or.inl rfl) (Or.inl ⟨rfl, g, o2, rfl⟩)
                clear S2 hT
                go_wp2
                go_roundw
                case rel => exact ⟨k + 1, by omega, by go_num, _, _, l', gave, took, [], S3, Y1, by simp, by omega, by simp, hz, hB2⟩
                case measure => simp [intOf]; omega
              · have hcap2 : 1 < c2' := by omega
                have S3 := S2.air (hT.2 hcap2) (World.grownBy.refl _ _) (Or.inl rfl) (Or.inr fun j hj => Or.inl ⟨hn0, hj⟩)
                clear S2 hT
                go_wp2
                go_roundw
                case rel => exact ⟨k + 1, by omega, by go_num, _, _, l', gave, took, ar, S3, Y1, hA', by omega, by omega, hz, hB2⟩
                case measure => simp [intOf]; omega
          · by_cases h230 : x < 230
            · have h230' : (x : Int) < 230 := by omega
              go_wp2
              go_roundw
              case rel => exact ⟨k + 1, by omega, by go_num, _, _, l, gave, took, air, S, Y, hA, by omega, by omega, hz, hB⟩
              case measure => simp [intOf]; omega
            · have h230' : ¬ (x : Int) < 230 := by omega
              go_wp2
              go_roundw
              case rel => exact ⟨k + 1, by omega, by go_num, _, _, l, gave, took, air, S, Y, hA, by omega, by omega, hz, hB⟩
              case measure => simp [intOf]; omega
    · have hlt' : ¬ (k : Int) < 40 := by omega
      have hzm : ∀ s ∈ gave, s.size ≤ maxLen := fun s hs => by have := hz s hs; unfold maxLen; omega
      have htn : took.length = l.got.toNat := Y.nums.2.2.2.2.2
      have htg : took.length ≤ gave.length := by have := Y.nums; omega
      have HT : Hid (gave.take took.length = took) := by unfold Hid; rw [htn, ← Y.tk]
      clear htn
      have htg' : ¬ (gave.length : Int) < (took.length : Int) := by omega
      have hgl40 : gave.length ≤ 40 := by omega
      have Rg : StRow wr (.slice ag gave.length cg) gave := StRow.of_own S.g (by omega) hzm
      have Rt : StRow wr (.slice at' took.length ct) took := StRow.of_own S.t (by omega) (fun s hs => hzm s (by rw [← HT.out] at hs; exact List.mem_of_mem_take hs))
      have hcg : gave.length ≤ cg := by
        obtain ⟨_, _, e, h, _⟩ := Rg
        simp only [Value.slice.injEq] at e
        obtain ⟨_, _, rfl⟩ := e
        exact h.1
      have htc : took.length ≤ cg := by omega
      have Rg' : StRow wr (.slice ag took.length cg) took := by
        have h := Rg.take htg
        rw [HT.out] at h
        exact h
      go_wp2_with fail
      refine (sametexts_any _ _ took _ Rt Rg').mono ?_
      rintro e w5 ⟨rfl, hb5⟩
      have J0 : WyJ w.heap.size w w5 w.heap.size 0 (.slice ag gave.length cg) (.slice at' took.length ct) (.slice aa air.length ca) gave air := ⟨_, _, l, took, S.below hb5, Y, by omega, hB.trans (hb5.mono hB.size)⟩
      clear S Y R1 R2 hq2 hh2 Rg Rt Rg' HT hb5 hB htg htg' htc hA hhl hnq
      go_wp2_with fail
      go_loopw [7, 17] (fun s7 s17 wr => ∃ k : Nat, k ≤ 20 ∧ s17 = .int .i64 k ∧ WyJ w.heap.size w wr w.heap.size k (.slice ag gave.length cg) s7 (.slice aa air.length ca) gave air) (fun _ s17 _ => 20 - (intOf s17).toNat)
      case atStart => exact ⟨0, by omega, rfl, J0⟩
      case round =>
        clear J0
        obtain ⟨k, hk, rfl, v1, v2, l, took, S, Y, hq4, hB⟩ := hrel
        obtain ⟨at', ct, rfl⟩ := own_form S.t
        obtain ⟨q1, d1, rfl⟩ := S.q.form
        obtain ⟨q2, d2, rfl⟩ := own_form S.h
        have hnq : l.q.length ≤ 30 := Y.nums.2.2.2.2.1
        have hhl := linkB_heldlen Y.ok
        have hq2 : ∀ s ∈ l.q, s.size ≤ maxLen := by
          intro s hs
          rw [Y.q] at hs
          exact hzm s (List.mem_of_mem_drop hs)
        have hh2 : ∀ x ∈ l.h, x.s.size ≤ maxLen := fun x hx => hzm x.s (List.mem_of_getElem? (Y.held x hx).2)
        have R1 : StRow _ _ l.q := S.q.row (by omega) hq2
        have R2 : PcRow _ _ l.h := PcRow.of_own S.h (by omega) hh2
        by_cases hlt : k < 20
        · have hlt' : (k : Int) < 20 := by omega
          go_wp2_with (refine wpList_load_row rfl 27 _ rfl w.heap.size rfl 27 #[.int .i64 l.sent, .int .i64 l.acked, .slice q1 l.q.length d1, .int .i64 l.got, .slice q2 l.h.length d2] (0, 0) _ S.x Try.underlying27 rfl Try.sizeLk ?_)
          refine (ilinkshow_any _ _ l _ R1 R2).mono ?_
          rintro e w6 ⟨v6, rfl, O6, hb6⟩
          have HS : ∀ (i : Nat) x, (showR l)[i]? = some x → Of gave x ∧ x.n = l.acked + i ∧ i < shown l := fun i x hx => Y.show hx
          have HSL : Hid ((showR l).length = shown l) := show_len Y
          have hsq : shown l ≤ l.q.length ∧ shown l ≤ 4 ∧ (shown l = 4 ∨ shown l = l.q.length) := by unfold shown; split <;> omega
          have hS1 := S.below hb6
          have hB2 := hB.trans (hb6.mono hB.size)
          replace O6 := own_mono O6 (B' := w.heap.size) hB.size
          have hag : l.acked ≤ l.got := Y.nums.2.1
          generalize showR l = L at *
          obtain ⟨a6, c6, rfl⟩ := own_form O6
          have K0 : WyK w.heap.size w w6 w.heap.size 0 (.slice ag gave.length cg) (.slice at' took.length ct) (.slice aa air.length ca) (.slice a6 L.length c6) gave air l L := ⟨_, _, l, took, hS1, Y, rfl, rfl, by simpa using hag, O6, hB2⟩
          clear hS1 hB2 S Y R1 R2 hq2 hh2 hb6 O6 hB hag
          go_wp2_with fail
          go_loopw [7, 19] (fun s7 s19 wx => ∃ j : Nat, j ≤ L.length ∧ s19 = .int .i64 j ∧ WyK w.heap.size w wx w.heap.size j (.slice ag gave.length cg) s7 (.slice aa air.length ca) (.slice a6 L.length c6) gave air l L) (fun _ s19 _ => L.length - (intOf s19).toNat)
          case atStart => exact ⟨0, by omega, rfl, K0⟩
          case round =>
            clear K0
            obtain ⟨j, hj, rfl, v1, v2, m, took, S, Y, hma, hmq, hmg, O, hB⟩ := hrel
            obtain ⟨at', ct, rfl⟩ := own_form S.t
            obtain ⟨q1, d1, rfl⟩ := S.q.form
            obtain ⟨q2, d2, rfl⟩ := own_form S.h
            have HMA : Hid (m.acked = l.acked) := hma
            have HMQ : Hid (m.q = l.q) := hmq
            clear hma hmq
            have hnq2 : m.q.length ≤ 30 := Y.nums.2.2.2.2.1
            have hhl2 := linkB_heldlen Y.ok
            have hq2 : ∀ s ∈ m.q, s.size ≤ maxLen := by
              intro s hs
              rw [Y.q] at hs
              exact hzm s (List.mem_of_mem_drop hs)
            have hh2 : ∀ x ∈ m.h, x.s.size ≤ maxLen := fun x hx => hzm x.s (List.mem_of_getElem? (Y.held x hx).2)
            have R1 : StRow _ _ m.q := S.q.row (by omega) hq2
            have R2 : PcRow _ _ m.h := PcRow.of_own S.h (by omega) hh2
            by_cases hjl : j < L.length
            · have hjl' : (j : Int) < (L.length : Int) := by omega
              obtain ⟨x, hx⟩ : ∃ x, L[j]? = some x := ⟨L[j], by simp [hjl]⟩
              obtain ⟨hxo, hxn, hxs⟩ := HS j x hx
              have hxz : x.s.size ≤ maxLen := hzm x.s (List.mem_of_getElem? hxo.2)
              obtain ⟨g, hg6⟩ : ∃ g, a6 = some ⟨g, 0, none⟩ := by
                rcases O.2 with ⟨e, h0⟩ | ⟨g, cap, cur, e, _⟩
                · omega
                · simp only [Value.slice.injEq] at e; exact ⟨g, e.1⟩
              subst hg6
              have hpr : wr.rangeAt g (0 + j * 2) [.int .i64 x.n, .string x.s] := by
                intro i v hi
                have hi2 : i < 2 := by have := (List.getElem?_eq_some_iff.1 hi).1; simpa using this
                rw [Nat.zero_add]
                refine (O.cellAt _ (by omega)).trans ?_
                rw [pccs_get _ _ x hx i hi2]
                exact hi
              have hgl := own_lt O (g := g) rfl
              have Y1 := Y.take hxo
              have hkeep : Hid ((takeR m x).1.acked = m.acked ∧ (takeR m x).1.sent = m.sent ∧ (takeR m x).1.q = m.q) := take_keeps Y.ok x
              have hnext := Y.next (x := x) j (by rw [HMA.out]; exact hxn) (by rw [HMA.out]; exact hmg) (by rw [HMQ.out]; omega)
              clear hx hxo hxn
              go_wp2_with fail
              refine way_r37 w.heap.size g 0 j L.length c6 _ _ m x _ _ _ S.x R1 R2 (by omega) (by omega) hxz rfl hgl hpr hjl ?_
              intro s134 s135 s136 s137 s138 s139 s133 s140 s141 u1 u2 u3 nb W hnb hn O1 O2 O3 hap hW
              have S1 := S.below hW
              have hBW := hB.trans (hW.mono hB.size)
              clear hpr hgl
              obtain ⟨l', hl'⟩ : ∃ l', (takeR m x).1 = l' := ⟨_, rfl⟩
              rw [hl'] at hn O1 O2 Y1 hkeep hnext
              clear hl'
              obtain ⟨a1, c1, rfl⟩ := own_form O1
              obtain ⟨a2, c2, rfl⟩ := own_form O2
              obtain ⟨a3, c3, e3⟩ := own_form O3
              subst e3
              go_wp2_with (first
                | (refine wpList_load_row rfl 27 _ rfl nb rfl 27 #[.int .i64 l'.sent, .int .i64 l'.acked, .slice a1 l'.q.length c1, .int .i64 l'.got, .slice a2 l'.h.length c2] (0, 0) _ hn Try.underlying27 rfl Try.sizeLk ?_)
                | (refine wpList_store_own2 rfl 27 _ _ rfl w.heap.size #[.int .i64 l'.sent, .int .i64 l'.acked, .slice a1 l'.q.length c1, .int .i64 l'.got, .slice a2 l'.h.length c2] rfl rfl 27 _ S1.x Try.sizeLk rfl (by simp [Value.oneCell']) ?_))
              intro w8 hv hbg hs8 ho8
              have S2 := S.link hW (SOwn.of_own O1) O2 hv ho8
              have O4 := own_box O3 S1.x (by decide) ho8
              have O5 := own_box (own_below O hW) S1.x (by decide) ho8
              have hB2 := hBW.trans (hbg.mono (Nat.le_refl _))
              have htl : took.length + (takeR m x).2.length ≤ 1000 := by
                have h1 := Y1.nums.2.2.2.2.2
                have h2 := Y1.nums.2.2.1
                rw [List.length_append] at h1
                omega
              obtain ⟨v9, w9, hr9, G9, hg9, hk9⟩ := run_txt 24 S2.t O4 hB2.size htl
              have S4 := S2.up G9 hg9 hk9
              have O7 := own_grow O5 hg9 (own_two O5 S2.t (by decide))
              have hB4 : Below w.heap.size w w9 := hB2.grown hg9 hB2.size (fun j hj => own_ge S2.t hj)
              clear hv hbg hs8 ho8 S1 hBW hn O1 O2 hW hnb O3 O4 O5 O hap hg9 hk9 S2 hB2 htl S
              generalize took ++ (takeR m x).2 = tk at S4 G9 Y1
              obtain ⟨a9, c9, rfl⟩ := own_form G9
              clear G9
              have e1 : l'.acked = l.acked := hkeep.out.1.trans HMA.out
              have e2 : l'.q = l.q := hkeep.out.2.2.trans HMQ.out
              have e3 : l.acked + ((j + 1 : Nat) : Int) ≤ l'.got := by rw [← HMA.out]; exact hnext
              have K1 : WyK w.heap.size w w9 w.heap.size (j + 1) (.slice ag gave.length cg) (.slice a9 tk.length c9) (.slice aa air.length ca) (.slice (some ⟨g, 0, none⟩) L.length c6) gave air l L := ⟨_, _, l', tk, S4, Y1, e1, e2, e3, O7, hB4⟩
              clear S4 Y1 e1 e2 e3 O7 hB4 hkeep hnext HMA HMQ Y R1 R2
              go_wp2_with (at_builtin; refine wpList_run2 _ rfl _ _ 24 rfl _ _ rfl rfl hr9 ?_)
              go_wp2
              go_roundw
              case rel => exact ⟨j + 1, by omega, by go_num, K1⟩
              case measure => simp [intOf]; omega
            · have hjl' : ¬ (j : Int) < (L.length : Int) := by omega
              have hje : j = L.length := by omega
              have c3 : wr.cell? ⟨w.heap.size, 0 + 3, none⟩ = some (.int .i64 m.got) := cell_of_row wr _ 3 _ _ _ S.x
              have Y1 := Y.ack m.got
              have hrd := Y.round l.acked L.length (by rw [← hje]; exact hmg) HMA.out (by have := HSL.out; rw [HMQ.out]; omega)
              rw [HMQ.out] at hrd
              go_wp2_with (refine wpList_load_row rfl 27 _ rfl w.heap.size rfl 27 #[.int .i64 m.sent, .int .i64 m.acked, .slice q1 m.q.length d1, .int .i64 m.got, .slice q2 m.h.length d2] (0, 0) _ S.x Try.underlying27 rfl Try.sizeLk ?_)
              refine (ilinkack_any _ _ m m.got _ R1 R2).mono ?_
              rintro e w8 ⟨u1, u2, rfl, U1, U2, hb8⟩
              obtain ⟨l', hl'⟩ : ∃ l', (ackR m m.got).1 = l' := ⟨_, rfl⟩
              rw [hl'] at U1 U2 Y1 hrd ⊢
              clear hl' c3
              obtain ⟨a1, c1, rfl⟩ := U1.form
              obtain ⟨a2, c2, rfl⟩ := own_form U2
              have S1 := S.below hb8
              go_wp2_with (refine wpList_store_own2 rfl 27 _ _ rfl w.heap.size #[.int .i64 l'.sent, .int .i64 l'.acked, .slice a1 l'.q.length c1, .int .i64 l'.got, .slice a2 l'.h.length c2] rfl rfl 27 _ S1.x Try.sizeLk rfl (by simp [Value.oneCell']) ?_)
              intro w9 hv hbg hs9 ho9
              have S2 := S.link hb8 U1 U2 hv ho9
              have hB2 := (hB.trans (hb8.mono hB.size)).trans (hbg.mono (Nat.le_refl _))
              have hq5 : l'.q.length ≤ 30 - 4 * (k + 1) := by have := HSL.out; omega
              have J1 : WyJ w.heap.size w w9 w.heap.size (k + 1) (.slice ag gave.length cg) (.slice at' took.length ct) (.slice aa air.length ca) gave air := ⟨_, _, l', took, S2, Y1, hq5, hB2⟩
              clear hv hbg hs9 ho9 S1 S2 hB2 U1 U2 hb8 Y1 Y S O hB R1 R2 hrd hq5 HMA HMQ HS
              go_wp2
              go_roundw
              case rel => exact ⟨k + 1, by omega, by go_num, J1⟩
              case measure => simp [intOf]; omega
        · have hlt' : ¬ (k : Int) < 20 := by omega
          have hq0 : l.q.length = 0 := by omega
          obtain ⟨e1, e2⟩ := Y.done (List.eq_nil_of_length_eq_zero hq0)
          have HQ : Hid (l.q.length = 0) := hq0
          have HT : Hid (took = gave) := e1
          have HG : Hid (l.got = gave.length) := e2
          have Rg : StRow wr (.slice ag gave.length cg) gave := StRow.of_own S.g (by omega) hzm
          have Rt : StRow wr (.slice at' took.length ct) took := StRow.of_own S.t (by rw [HT.out]; omega) (fun s hs => hzm s (by rw [HT.out] at hs; exact hs))
          have f1 : ((l.q.length : Int) == 0) = true := by rw [hq0]; rfl
          have f2 : (l.got == (gave.length : Int)) = true := by rw [e2]; simp
          clear hq0 e1 e2 hq4 hq2 hh2 R1 R2
          rw [HT.out] at Rt ⊢
          go_wp2_with fail
          refine (sametexts_any _ _ gave _ Rt Rg).mono ?_
          rintro e w6 ⟨rfl, hb6⟩
          have hx6 := (S.below hb6).x
          have k2 : w6.cell? ⟨w.heap.size, 0 + 2, none⟩ = some (.slice q1 l.q.length d1) := cell_of_row w6 _ 2 _ _ _ hx6
          have k3 : w6.cell? ⟨w.heap.size, 0 + 3, none⟩ = some (.int .i64 l.got) := cell_of_row w6 _ 3 _ _ _ hx6
          have hB6 := hB.trans (hb6.mono hB.size)
          clear hx6 S Y hB hb6 Rt Rg HQ HT HG
          go_wp2
          go_ret
          exact ⟨rfl, hB6⟩
end Go.Proofs.Ytgjebgdingahjaa
