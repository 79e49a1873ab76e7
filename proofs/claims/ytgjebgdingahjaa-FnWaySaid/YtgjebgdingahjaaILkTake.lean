/-
  Contract of impl's LinkTake. No condition.
-/
import Derived.Test.YtgjebgdingahjaaTkS
import Derived.Test.YtgjebgdingahjaaLkTakeM
namespace Go.Proofs.Ytgjebgdingahjaa
open Go.RowKit Go.Maps

theorem four_bxI (w : World) (A P Z U : Obj) : Below w.heap.size w ((((w.alloc A).alloc P).alloc Z).alloc U) ∧ ((((w.alloc A).alloc P).alloc Z).alloc U).heap[w.heap.size]? = some A ∧ ((((w.alloc A).alloc P).alloc Z).alloc U).heap[w.heap.size + 1]? = some P ∧ ((((w.alloc A).alloc P).alloc Z).alloc U).heap[w.heap.size + 2]? = some Z ∧ ((((w.alloc A).alloc P).alloc Z).alloc U).heap[w.heap.size + 3]? = some U ∧ ((((w.alloc A).alloc P).alloc Z).alloc U).heap.size = w.heap.size + 4 := by
  have e2 : ((w.alloc A).alloc P).heap.size = w.heap.size + 2 := by simp
  have e3 : (((w.alloc A).alloc P).alloc Z).heap.size = w.heap.size + 3 := by simp
  have n2 := heap_alloc_new ((w.alloc A).alloc P) Z
  have n3 := heap_alloc_new (((w.alloc A).alloc P).alloc Z) U
  rw [e2] at n2
  rw [e3] at n3
  refine ⟨?_, ?_, ?_, ?_, n3, by simp⟩
  · exact ((((Below.refl _ _).alloc (Nat.le_refl _) _).alloc (by simp) _).alloc (by simp; omega) _).alloc (by simp; omega) _
  · exact (heap_alloc_old _ _ (by rw [e3]; omega)).trans ((heap_alloc_old _ _ (by rw [e2]; omega)).trans ((heap_alloc_old _ _ (by simp)).trans (heap_alloc_new _ _)))
  · exact (heap_alloc_old _ _ (by rw [e3]; omega)).trans ((heap_alloc_old _ _ (by rw [e2]; omega)).trans (heap_alloc2_new _ _ _))
  · exact (heap_alloc_old _ _ (by rw [e3]; omega)).trans n2

set_option maxRecDepth 100000 in
set_option maxHeartbeats 6400000 in
theorem ilinktake_any (v1 v2 : Value) (l : Lk) (x : Pc) (w : World) (R1 : StRow w v1 l.q) (R2 : PcRow w v2 l.h) (h1 : l.q.length ≤ 2097152) (h2 : l.h.length ≤ 2097152) (hs : x.s.size ≤ maxLen) :
    Calls Try.prog 9 #[.agg #[.int .i64 l.sent, .int .i64 l.acked, v1, .int .i64 l.got, v2], .agg #[.int .i64 x.n, .string x.s]] w fun e w' => TkAns w w' e (takeR l x) := by
  have hzh := R2.sz
  obtain ⟨a1, c1, rfl⟩ := R1.small
  obtain ⟨a2, c2, rfl⟩ := R2.small
  obtain ⟨i0, hi, hz0, hz1, hz2⟩ := info_parts Try.infoStr
  obtain ⟨hB0, hx0, hp0, hr0, hu0, hn0⟩ := four_bxI w (Obj.cells #[.int .i64 l.sent, .int .i64 l.acked, .slice a1 l.q.length c1, .int .i64 l.got, .slice a2 l.h.length c2] 27) (Obj.cells #[.int .i64 x.n, .string x.s] 36) (Obj.cells #[.int .i64 0, .int .i64 0, .slice none 0 0, .int .i64 0, .slice none 0 0] 27) (Obj.cells #[] 9)
  have hs0 : w.heap.size + 4 ≤ ((((w.alloc (Obj.cells #[.int .i64 l.sent, .int .i64 l.acked, .slice a1 l.q.length c1, .int .i64 l.got, .slice a2 l.h.length c2] 27)).alloc (Obj.cells #[.int .i64 x.n, .string x.s] 36)).alloc (Obj.cells #[.int .i64 0, .int .i64 0, .slice none 0 0, .int .i64 0, .slice none 0 0] 27)).alloc (Obj.cells #[] 9)).heap.size := by rw [hn0]; omega
  clear hn0
  go_enter Try.func9, Try.ntmps9
  go_wp2_with (refine wpList_load_row rfl 27 _ rfl w.heap.size rfl 27 #[.int .i64 l.sent, .int .i64 l.acked, .slice a1 l.q.length c1, .int .i64 l.got, .slice a2 l.h.length c2] (0, 0) _ hx0 Try.underlying27 rfl Try.sizeLk ?_)
  refine (ilinkok_any _ _ l _ (R1.below hB0) (R2.below hB0)).mono ?_
  rintro e w1 ⟨rfl, hb1⟩
  have hx1 := (hb1.block _ (Array.getElem?_eq_some_iff.1 hx0).1).trans hx0
  have hp1 := (hb1.block _ (Array.getElem?_eq_some_iff.1 hp0).1).trans hp0
  have hr1 := (hb1.block _ (Array.getElem?_eq_some_iff.1 hr0).1).trans hr0
  have hu1 := (hb1.block _ (Array.getElem?_eq_some_iff.1 hu0).1).trans hu0
  have hB1 := hB0.trans (hb1.mono hB0.size)
  have hs1 : w.heap.size + 4 ≤ w1.heap.size := Nat.le_trans hs0 hb1.size
  clear hx0 hp0 hr0 hu0 hB0 hb1 hs0
  cases hlb : linkB l with
  | false =>
    have HR : Hid (takeR l x = (zeroLk, [])) := takeR_bad hlb
    have ho1 : w1.ownsRow w.heap.size 9 1 (.slice (some ⟨w.heap.size + 3, 0, none⟩) 0 0) 0 [] := ⟨rfl, Or.inr ⟨_, 0, #[], rfl, by omega, hu1, by omega, by simp [maxLen], rfl, rfl⟩⟩
    have AA : ∀ W : World, W.ownsRow w.heap.size 9 1 (.slice (some ⟨w.heap.size + 3, 0, none⟩) 0 0) 0 [] → Below w.heap.size w W → TkAns w W (.returned (.tuple #[.agg #[.int .i64 0, .int .i64 0, .slice none 0 0, .int .i64 0, .slice none 0 0], .slice (some ⟨w.heap.size + 3, 0, none⟩) 0 0])) (takeR l x) := fun W ho hB => by
      rw [HR.out]
      exact ⟨.slice none 0 0, .slice none 0 0, .slice (some ⟨w.heap.size + 3, 0, none⟩) 0 0, rfl, ⟨rfl, Or.inl ⟨rfl, rfl⟩⟩, ⟨rfl, Or.inl ⟨rfl, rfl⟩⟩, ho, fun g _ e => by simp [Value.ownBlock] at e, hB⟩
    go_wp2_with (refine wpList_store_own2 rfl 27 _ _ rfl (w.heap.size + 2) #[.int .i64 0, .int .i64 0, .slice none 0 0, .int .i64 0, .slice none 0 0] rfl rfl 27 _ hr1 Try.sizeLk rfl (by simp [Value.oneCell']) ?_)
    intro w6 hy6 hbg _ hoth
    have A6 := AA w6 (own_box ho1 hr1 (by decide) hoth) (hB1.trans (hbg.mono (by omega)))
    clear AA hoth hbg ho1 hr1 hu1 hp1 hx1 hB1
    go_wp2
    refine bodyPost_ret (results_row_tmp rfl _ _ (w.heap.size + 2) 27 _ (0, 0) _ rfl hy6 Try.underlying27 rfl Try.sizeLk) rfl ?_
    exact A6
  | true =>
    have HT : Hid (takeR l x = (⟨l.sent, l.acked, l.q, (upGo l.got (hl l.got (lend l) x l.h)).2.1, (upGo l.got (hl l.got (lend l) x l.h)).2.2⟩, (upGo l.got (hl l.got (lend l) x l.h)).1)) := takeR_win hlb
    obtain ⟨hq0, hq4⟩ := hl_ok (x := x) hlb hzh hs
    obtain ⟨n1, n2, n3, n4, n5, n6⟩ := linkB_nums hlb
    have hE : lend l ≤ 100000 := by unfold lend; split <;> omega
    have hh3 : l.h.length ≤ 4 := linkB_heldlen hlb
    have hasc : Asc l.h := by
      have hh := hlb
      rw [linkB_held ⟨n1, n2, n3, n4, n5, n6⟩] at hh
      exact (heldB_asc hh).1
    have HW := fun (w : World) (R : PcRow w (.slice a2 l.h.length c2) l.h) => lheldwin_any (.slice a1 l.q.length c1) (.slice a2 l.h.length c2) l w hlb a1 l.q.length c1 rfl R
    have hx1' := hx1
    clear n5
    generalize lend l = E at *
    go_wp2_with (refine wpList_load_row rfl 27 _ rfl w.heap.size rfl 27 #[.int .i64 l.sent, .int .i64 l.acked, .slice a1 l.q.length c1, .int .i64 l.got, .slice a2 l.h.length c2] (0, 0) _ hx1 Try.underlying27 rfl Try.sizeLk ?_)
    refine (HW _ (R2.below hB1)).mono ?_
    rintro e w2 ⟨bw, v, mb, n, ns, rfl, W2, HNS, hn3, hb2⟩
    have hx2 := (hb2.block _ (Array.getElem?_eq_some_iff.1 hx1).1).trans hx1
    have hp2 := (hb2.block _ (Array.getElem?_eq_some_iff.1 hp1).1).trans hp1
    have hr2 := (hb2.block _ (Array.getElem?_eq_some_iff.1 hr1).1).trans hr1
    have hu2 := (hb2.block _ (Array.getElem?_eq_some_iff.1 hu1).1).trans hu1
    have hB2 := hB1.trans (hb2.mono hB1.size)
    have hs2 : w1.heap.size ≤ w2.heap.size := hb2.size
    clear hx1 hx1' hp1 hr1 hu1 hB1 hb2 HW
    generalize w1.heap.size = Bw at *
    have q0 : w2.cell? ⟨w.heap.size + 1, 0, none⟩ = some (.int .i64 x.n) := cell_of_row w2 _ 0 _ _ _ hp2
    have q1 : w2.cell? ⟨w.heap.size + 1, 1, none⟩ = some (.string x.s) := cell_of_row w2 _ 1 _ _ _ hp2
    go_wp2_with fail
    refine (whold_any _ Bw bw l.got E v mb n ns l.h x W2 HNS hasc (by omega) (by omega) (by omega) (by omega) hs2).mono ?_
    rintro e w3 ⟨rfl, hb3, v3, n', ns3, hn', HN3, W3⟩
    have hr3 := (hb3.block _ (by omega)).trans hr2
    have hx3 := (hb3.block _ (by omega)).trans hx2
    have hu3 := (hb3.block _ (by omega)).trans hu2
    have hB3 := hB2.trans (hb3.mono (by omega))
    have ho3 : w3.ownsRow (w.heap.size + 3) 9 1 (.slice (some ⟨w.heap.size + 3, 0, none⟩) 0 0) 0 [] := ⟨rfl, Or.inr ⟨_, 0, #[], rfl, by omega, hu3, by omega, by simp [maxLen], rfl, rfl⟩⟩
    have T3 : TS w #[.int .i64 l.sent, .int .i64 l.acked, .slice a1 l.q.length c1, .int .i64 l.got, .slice a2 l.h.length c2] Bw bw mb E v3 ns3 w3 (.slice (some ⟨w.heap.size + 3, 0, none⟩) 0 0) [] l.got (hl l.got E x l.h) := ⟨⟨n', by omega, W3⟩, ho3, hx3, hr3, hB3, hs1, Nat.le_trans hs2 hb3.size⟩
    have U3 : UpIs l.got (hl l.got E x l.h) [] l.got (hl l.got E x l.h) := UpIs.start _ _
    rw [← HN3.out] at hq0
    have hns4 : ns3.length ≤ 4 := by rw [HN3.out]; simpa using hq4
    clear hr3 hx3 hu3 hB3 ho3 hr2 hx2 hu2 hp2 hB2 hb3 W2 W3 q0 q1 HNS HN3
    generalize hl l.got E x l.h = PS at *
    clear hasc hlb hzh
    obtain ⟨nw, hnw, W3⟩ := T3.win
    go_wp2_with fail
    refine (wpass_any _ Bw bw l.got E v3 mb nw ns3 PS W3 hq0 hE T3.hi).mono ?_
    rintro e w4 ⟨y, b, g4, qs4, rfl, W4, q4, F4, hy4, hbt, hbf⟩
    have T4 := T3.pass hnw W4 F4
    have hba : Below w4.heap.size w4 (w4.alloc (Obj.cells #[.int .i64 y.n, .string y.s] 36)) := (Below.refl _ _).alloc (Nat.le_refl _) _
    replace T4 := T4.below hba
    have hc4 := heap_alloc_new w4 (Obj.cells #[.int .i64 y.n, .string y.s] 36)
    have hlt4 : w.heap.size + 4 ≤ w4.heap.size := by have := T3.lo; have := T3.hi; have := F4.2.1; omega
    have R4 : (b = true → UpIs l.got PS ([] ++ [y.s]) g4 qs4) ∧ (b = false → UpIs l.got PS [] g4 qs4 ∧ ∀ z ∈ qs4, z.n ≠ g4) := ⟨fun h => (hbt h).2 _ _ _ U3, fun h => by obtain ⟨rfl, rfl, h3⟩ := hbf h; exact ⟨U3, h3⟩⟩
    have hl4 : qs4.length ≤ 4 := by
      cases b with
      | true => have := (hbt rfl).1; omega
      | false => obtain ⟨_, rfl, _⟩ := hbf rfl; exact hq4
    clear hbt hbf F4 W4 W3 T3 U3 hba hq0 hnw
    go_wp2_with fail
    go_loopw [6, 8, 9] (fun up pp ok wr => ∃ (bb : Bool) (k : Nat) (y : Pc) (out : List ByteArray) (g : Int) (qs : List Pc), ok = .bool bb ∧ pp = .pointer (some ⟨k, 0, none⟩) ∧ wr.heap[k]? = some (.cells #[.int .i64 y.n, .string y.s] 36 (0, 0)) ∧ w.heap.size ≤ k ∧ y.s.size ≤ maxLen ∧ out.length ≤ 5 ∧ (bb = true → out.length + qs.length ≤ 4) ∧ TS w #[.int .i64 l.sent, .int .i64 l.acked, .slice a1 l.q.length c1, .int .i64 l.got, .slice a2 l.h.length c2] Bw bw mb E v3 ns3 wr up out g qs ∧ QOk E g ns3 qs ∧ (bb = true → UpIs l.got PS (out ++ [y.s]) g qs) ∧ (bb = false → UpIs l.got PS out g qs ∧ ∀ z ∈ qs, z.n ≠ g)) (fun up _ _ _ => 10 - slen up)
    case atStart => exact ⟨b, _, y, [], g4, qs4, rfl, rfl, hc4, by omega, hy4, by simp, fun _ => by simpa using hl4, T4, q4, R4.1, R4.2⟩
    case round =>
      clear T4 q4 R4 hc4 hy4 hl4 hlt4
      obtain ⟨bb, k, y, out, g, qs, rfl, rfl, hk, hkB, hys, hout, hlen, T, hq, hut, huf⟩ := hrel
      obtain ⟨ua, uc, rfl⟩ := own_form T.row
      cases bb with
      | true =>
        have hlen4 := hlen rfl
        have hu := hut rfl
        clear hut huf hlen
        have k0 : wr.cell? ⟨k, 0, none⟩ = some (.int .i64 y.n) := cell_of_row wr _ 0 _ _ _ hk
        have k1 : wr.cell? ⟨k, 1, none⟩ = some (.string y.s) := cell_of_row wr _ 1 _ _ _ hk
        have L1 := StRow.lit1 wr y.s hys
        have hba : Below wr.heap.size wr (wr.alloc (.cells #[.string y.s] 9)) := (Below.refl _ _).alloc (Nat.le_refl _) _
        have T5 := T.below hba
        have hk5 := (hba.block _ (Array.getElem?_eq_some_iff.1 hk).1).trans hk
        have hsz := T.hi
        have hlo := T.lo
        clear T hba
        go_wp2_with (at_builtin; refine wpList_append_own_any _ rfl _ _ 24 rfl (w.heap.size + 3) 9 i0 _ 1 16 Try.underlying24 hi hz0 hz1 hz2 rfl (by decide) _ _ _ rfl T5.row (some ⟨wr.heap.size, 0, none⟩) 1 1 (stv [y.s]) rfl rfl L1.nilcap L1.cells (stv_one _) (by unfold maxLen; omega) (by omega) (by simp; omega) ?_)
        intro u6 w6 o6 hg6
        have o6' : w6.ownsRow (w.heap.size + 3) 9 1 u6 (out.length + 1) (stv (out ++ [y.s])) := by rw [stv_append]; exact o6
        have T6 := T5.put hg6 o6'
        have hk6 := (hg6.block _ (Array.getElem?_eq_some_iff.1 hk5).1 (fun e => own_ne T5.row hk5 (by decide) e.symm)).trans hk5
        obtain ⟨va, vc, rfl⟩ := own_form o6'
        clear o6 o6' hg6 T5 hk5 L1 k0 k1 hk
        have hlk6 := (Array.getElem?_eq_some_iff.1 hk6).1
        have hbb : Below w6.heap.size w6 (w6.alloc (.cells #[.int .i64 y.n, .string y.s] 36)) := (Below.refl _ _).alloc (Nat.le_refl _) _
        have T7 := T6.below hbb
        have hk7 := heap_alloc_new w6 (Obj.cells #[.int .i64 y.n, .string y.s] 36)
        have k0 : w6.cell? ⟨k, 0, none⟩ = some (.int .i64 y.n) := cell_of_row w6 _ 0 _ _ _ hk6
        have k1 : w6.cell? ⟨k, 1, none⟩ = some (.string y.s) := cell_of_row w6 _ 1 _ _ _ hk6
        have hs6 : w.heap.size ≤ w6.heap.size := T6.bel.size
        obtain ⟨nw, hnw, W7⟩ := T7.win
        obtain ⟨D7, hD7, hM7⟩ := W7.map
        clear T6 hbb
        go_wp2_with (refine wpList_load_row rfl 36 _ rfl k rfl 36 #[.int .i64 y.n, .string y.s] (0, 0) _ hk6 Try.underlying36 rfl Try.sizePc ?_)
        refine (wpass_any _ Bw bw g E v3 mb nw ns3 qs W7 hq hE T7.hi).mono ?_
        rintro e w8 ⟨y8, b8, g8, qs8, rfl, W8, q8, F8, hy8, hbt, hbf⟩
        have T8 := T7.pass hnw W8 F8
        have hk8 := (F8.2.2 w6.heap.size (by simp) (fun e => by have := W7.box; rw [← e, hk7] at this; cases this) (fun e => map_ne hD7 hk7 e.symm)).trans hk7
        clear T7 W7 W8 F8 hk7 hk6 k0 k1 hD7 hM7 D7
        go_wp2_with (refine wpList_store_own2 rfl 36 _ _ rfl w6.heap.size #[.int .i64 y8.n, .string y8.s] rfl rfl 36 _ hk8 Try.sizePc rfl (by simp [Value.oneCell']) ?_)
        intro w9 hk9 hbg9 hsz9 hoth9
        have g9 : w8.grownBy w9 (some w6.heap.size) := ⟨hbg9.os, hbg9.tape, hbg9.output, by rw [hsz9]; exact Nat.le_refl _, fun j hj hne => hoth9 j (by simpa using hne)⟩
        have T9 := T8.turn hk8 hs6 g9
        clear T8 hbg9 hsz9 hoth9 g9 hk8
        have R9 : (b8 = true → UpIs l.got PS ((out ++ [y.s]) ++ [y8.s]) g8 qs8) ∧ (b8 = false → UpIs l.got PS (out ++ [y.s]) g8 qs8 ∧ ∀ z ∈ qs8, z.n ≠ g8) := ⟨fun h => (hbt h).2 _ _ _ hu, fun h => by obtain ⟨rfl, rfl, h3⟩ := hbf h; exact ⟨hu, h3⟩⟩
        have hl9 : b8 = true → (out ++ [y.s]).length + qs8.length ≤ 4 := fun h => by have := (hbt h).1; simp; omega
        clear hbt hbf hu
        go_wp2
        go_roundw
        case rel => exact ⟨b8, _, y8, out ++ [y.s], g8, qs8, rfl, rfl, hk9, hs6, hy8, by simp; omega, hl9, T9, q8, R9.1, R9.2⟩
        case measure => simp [slen]; omega
      | false =>
        obtain ⟨hu, hz⟩ := huf rfl
        have HF : Hid (upGo l.got PS = (out, g, qs)) := hu.fin hz
        clear hut huf hlen hu hz hk hkB hys
        obtain ⟨hsg, hsr⟩ := hq.sorted hE
        have hqs := hq.2.1
        have hqa := hq.1
        have hx5 := T.lnk
        go_wp2_with (refine wpList_load_row rfl 27 _ rfl w.heap.size rfl 27 #[.int .i64 l.sent, .int .i64 l.acked, .slice a1 l.q.length c1, .int .i64 l.got, .slice a2 l.h.length c2] (0, 0) _ hx5 Try.underlying27 rfl Try.sizeLk ?_)
        refine (lcopied_any _ _ l _ (R1.below T.bel) (R2.below T.bel) h1 h2).mono ?_
        rintro e w5 ⟨u1, u2, rfl, o1, o2, hb5⟩
        obtain ⟨f1, d1, rfl⟩ := own_form o1
        obtain ⟨f2, d2, rfl⟩ := own_form o2
        have T5 := T.below hb5
        have hw5 : wr.heap.size ≤ w5.heap.size := hb5.size
        have hupb : ∀ j, (Value.slice ua out.length uc).ownBlock = some j → j < wr.heap.size := fun j hj => (T.row.lt j hj).2
        have hu1b : ∀ j, (Value.slice f1 l.q.length d1).ownBlock = some j → wr.heap.size ≤ j := fun j hj => (o1.lt j hj).1
        have hwr : w.heap.size ≤ wr.heap.size := T.bel.size
        have hwr2 : w.heap.size + 4 ≤ wr.heap.size := Nat.le_trans T.lo T.hi
        clear T hb5 hx5 o2
        go_wp2_with (refine wpList_store_own2 rfl 27 _ _ rfl w5.heap.size #[.int .i64 l.sent, .int .i64 l.acked, .slice f1 l.q.length d1, .int .i64 l.got, .slice f2 l.h.length d2] rfl rfl 27 _ (heap_alloc_new _ _) Try.sizeLk rfl (by simp [Value.oneCell']) ?_)
        intro w6 hk6 hbg6 hs6 _
        have hb6 : Below w5.heap.size w5 w6 := ((Below.refl _ _).alloc (Nat.le_refl _) _).trans hbg6
        have T6 := T5.below hb6
        have o16 := own_below o1 hb6
        clear T5 o1 hbg6 hs6 hb6
        have hkl : w5.heap.size < w6.heap.size := (Array.getElem?_eq_some_iff.1 hk6).1
        generalize w5.heap.size = kk at *
        obtain ⟨nw, hnw, W6⟩ := T6.win
        have hbw6 := W6.lt
        have b0 : w6.cell? ⟨bw, 0, none⟩ = some (.int .i64 g) := cell_of_row w6 _ 0 _ _ _ W6.box
        have SR := fun (w' : World) (hb : Below w6.heap.size w6 w') => wsorted_any w' Bw bw g E v3 mb nw ns3 qs (W6.kept hb) hsg hqa (by omega) hsr (fun p hp => (hqs p hp).2.2)
        have hd6 : Below w6.heap.size w6 w6.drew := (Below.refl _ _).drew
        go_wp2_with fail
        go_region_with (go_at_call 17; refine (SR _ hd6).mono ?_; rintro e w7 ⟨u7, rfl, o7, hb7⟩; obtain ⟨f7, d7, rfl⟩ := own_form o7; have hb67 : Below w6.heap.size w6 w7 := hd6.trans hb7; have hk7 : w7.heap[kk]? = some (.cells #[.int .i64 l.sent, .int .i64 l.acked, .slice f1 l.q.length d1, .int .i64 l.got, .slice f2 l.h.length d2] 27 (0, 0)) := (hb67.block _ hkl).trans hk6; have e0 : w7.cell? ⟨bw, 0, none⟩ = some (.int .i64 g) := (hb67.cell (p := ⟨bw, 0, none⟩) hbw6).trans b0; have e3 : w7.cell? ⟨kk, 3, none⟩ = some (.int .i64 l.got) := cell_of_row w7 _ 3 _ _ _ hk7; have e4 : w7.cell? ⟨kk, 4, none⟩ = some (.slice f2 l.h.length d2) := cell_of_row w7 _ 4 _ _ _ hk7; have z3 : w7.frozen? ⟨kk, 3, none⟩ = false := frozen_of_row w7 _ 3 _ _ hk7; have z4 : w7.frozen? ⟨kk, 4, none⟩ = false := frozen_of_row w7 _ 4 _ _ hk7)
        all_goals
          have T7 := T6.below hb67
          have o17 := own_below o16 hb67
          have k9 : ((w7.setCell ⟨kk, 3, none⟩ (.int .i64 g)).setCell ⟨kk, 4, none⟩ (.slice f7 qs.length d7)).heap[kk]? = some (.cells #[.int .i64 l.sent, .int .i64 l.acked, .slice f1 l.q.length d1, .int .i64 g, .slice f7 qs.length d7] 27 (0, 0)) := heap_setCell_same _ kk 4 _ _ _ (heap_setCell_same w7 kk 3 _ _ _ hk7)
          have g9 : w7.grownBy ((w7.setCell ⟨kk, 3, none⟩ (.int .i64 g)).setCell ⟨kk, 4, none⟩ (.slice f7 qs.length d7)) (some kk) := (grown_set w7 kk 3 _).trans (grown_set _ kk 4 _)
          have o19 := own_mono (B' := w.heap.size) (o17.kept g9 (Or.inr (own_ne o17 hk7 (by decide)))) hwr
          have o79 := o7.kept g9 (Or.inr (own_ne o7 hk7 (by decide)))
          have o39 := T7.row.kept g9 (Or.inr (own_ne T7.row hk7 (by decide)))
          have hlo := T7.lo
          have hr9 := (g9.block _ (Array.getElem?_eq_some_iff.1 T7.res).1 (by simp; omega)).trans T7.res
          have hB9 : Below w.heap.size w ((w7.setCell ⟨kk, 3, none⟩ (.int .i64 g)).setCell ⟨kk, 4, none⟩ (.slice f7 qs.length d7)) := T7.bel.grown g9 T7.bel.size (fun j hj => by cases hj; omega)
          have hs7 : w.heap.size ≤ w7.heap.size := T7.bel.size
          have hw6s : w.heap.size ≤ w6.drew.heap.size := T6.bel.size
          clear T7 T6 o17 o16 o7 e0 e3 e4 z3 z4 b0 W6 SR hd6 hb7 hb67 hk7 hk6 g9
          generalize ((w7.setCell ⟨kk, 3, none⟩ (.int .i64 g)).setCell ⟨kk, 4, none⟩ (.slice f7 qs.length d7)) = w9 at *
          go_wp2_with (first
            | refine wpList_load_row rfl 27 _ rfl kk rfl 27 #[.int .i64 l.sent, .int .i64 l.acked, .slice f1 l.q.length d1, .int .i64 g, .slice f7 qs.length d7] (0, 0) _ k9 Try.underlying27 rfl Try.sizeLk ?_
            | refine wpList_store_own2 rfl 27 _ _ rfl (w.heap.size + 2) #[.int .i64 l.sent, .int .i64 l.acked, .slice f1 l.q.length d1, .int .i64 g, .slice f7 qs.length d7] rfl rfl 27 _ hr9 Try.sizeLk rfl (by simp [Value.oneCell']) ?_)
          intro w10 hy10 hbg10 _ hoth10
          have A10 : TkAns w w10 (.returned (.tuple #[.agg #[.int .i64 l.sent, .int .i64 l.acked, .slice f1 l.q.length d1, .int .i64 g, .slice f7 qs.length d7], .slice ua out.length uc])) (takeR l x) := by
            rw [HT.out, HF.out]
            refine ⟨.slice f1 l.q.length d1, .slice f7 qs.length d7, .slice ua out.length uc, rfl, own_box o19 hr9 (by decide) hoth10, own_mono (own_box o79 hr9 (by decide) hoth10) hw6s, own_mono (own_box o39 hr9 (by decide) hoth10) (by omega), fun j hj e => ?_, hB9.trans (hbg10.mono (by omega))⟩
            have := hupb j hj
            have := hu1b j e
            omega
          clear hoth10 hbg10 k9 hr9 o19 o79 o39 hB9
          go_wp2
          refine bodyPost_ret (results_row_tmp rfl _ _ (w.heap.size + 2) 27 _ (0, 0) _ rfl hy10 Try.underlying27 rfl Try.sizeLk) rfl ?_
          exact A10
end Go.Proofs.Ytgjebgdingahjaa
