/-
  Texts that stood by themselves, laid into one.
-/
import Derived.Test.YtkchakcebdenjaaGreatDraw8M
import Derived.Test.YtkchakcebdenjaaGreatSNum2M
import Derived.Test.YtkchakcebdenjaaGreatSClsM
import Derived.Deep.CutRange
import Derived.Deep.DeepCutAuto
/-
  Contract of the draws' l2Draw: some pool of the call's own, and nothing turned but the cursor.
-/
namespace Go.Proofs.YtkchakcebdenjaaGreat
open Go.RowKit
theorem own_set_node {w : World} {base g i cap : Nat} {xs : List Nd} (nd : Nd) (hi : i < xs.length) (hown : w.ownsRow base 92 5 (.slice (some ⟨g, 0, none⟩) xs.length cap) xs.length (ncs xs)) :
    (((((w.setCell ⟨g, i * 5, none⟩ (.int .i64 nd.k)).setCell ⟨g, i * 5 + 1, none⟩ (.int .i64 nd.n)).setCell ⟨g, i * 5 + 2, none⟩ (.string nd.s)).setCell ⟨g, i * 5 + 3, none⟩ (.int .i64 nd.a)).setCell ⟨g, i * 5 + 4, none⟩ (.int .i64 nd.b)).ownsRow base 92 5 (.slice (some ⟨g, 0, none⟩) xs.length cap) xs.length (ncs (xs.set i nd)) := by
  have e0 : xs[i]? = some xs[i] := List.getElem?_eq_getElem hi
  have get : ∀ y : Nd, (xs.set i y)[i]? = some y := fun y => by simp [hi]
  have s0 := hown.stored (i * 5) (.int .i64 nd.k)
  rw [ncs_set0 xs i xs[i] ⟨nd.k, xs[i].n, xs[i].s, xs[i].a, xs[i].b⟩ e0 _ rfl] at s0
  have s1 := s0.1.stored (i * 5 + 1) (.int .i64 nd.n)
  rw [ncs_set (xs.set i ⟨nd.k, xs[i].n, xs[i].s, xs[i].a, xs[i].b⟩) i ⟨nd.k, xs[i].n, xs[i].s, xs[i].a, xs[i].b⟩ ⟨nd.k, nd.n, xs[i].s, xs[i].a, xs[i].b⟩ (get _) 1 (by omega) (.int .i64 nd.n) rfl, List.set_set] at s1
  have s2 := s1.1.stored (i * 5 + 2) (.string nd.s)
  rw [ncs_set (xs.set i ⟨nd.k, nd.n, xs[i].s, xs[i].a, xs[i].b⟩) i ⟨nd.k, nd.n, xs[i].s, xs[i].a, xs[i].b⟩ ⟨nd.k, nd.n, nd.s, xs[i].a, xs[i].b⟩ (get _) 2 (by omega) (.string nd.s) rfl, List.set_set] at s2
  have s3 := s2.1.stored (i * 5 + 3) (.int .i64 nd.a)
  rw [ncs_set (xs.set i ⟨nd.k, nd.n, nd.s, xs[i].a, xs[i].b⟩) i ⟨nd.k, nd.n, nd.s, xs[i].a, xs[i].b⟩ ⟨nd.k, nd.n, nd.s, nd.a, xs[i].b⟩ (get _) 3 (by omega) (.int .i64 nd.a) rfl, List.set_set] at s3
  have s4 := s3.1.stored (i * 5 + 4) (.int .i64 nd.b)
  rw [ncs_set (xs.set i ⟨nd.k, nd.n, nd.s, nd.a, xs[i].b⟩) i ⟨nd.k, nd.n, nd.s, nd.a, xs[i].b⟩ ⟨nd.k, nd.n, nd.s, nd.a, nd.b⟩ (get _) 4 (by omega) (.int .i64 nd.b) rfl, List.set_set] at s4
  exact s4.1
def DS (w0 : World) (v : Value) (zs : List Int) (P : Nat) (w : World) (b : Nat) (xs : List Nd) (wx : World) : Prop :=
  wx.heap[w.heap.size]? = some (.cells #[.slice none 0 0] 29 (0, 0)) ∧ PV wx b (w.heap.size + 1) xs ∧ Cur w0 v zs wx P ∧ w.grownBy wx (some P)
theorem DS.turn {w0 : World} {v : Value} {zs : List Int} {P : Nat} {w wx wy : World} {b : Nat} {xs : List Nd} (h : DS w0 v zs P w b xs wx) (hP : P < w.heap.size) (hb : w.heap.size < b) (c : Cur w0 v zs wy P) (g : wx.grownBy wy (some P)) : DS w0 v zs P w b xs wy :=
  ⟨(g.block _ (Array.getElem?_eq_some_iff.1 h.1).1 (by simp; omega)).trans h.1, h.2.1.kept g (by omega) (by omega), c, grown_trans h.2.2.2 g⟩
theorem DS.set {w0 : World} {v : Value} {zs : List Int} {P : Nat} {w w5 : World} {b B i cap : Nat} {xs : List Nd} (y : Nd) (hi : i < xs.length) (hr : w5.heap[w.heap.size]? = some (.cells #[.slice none 0 0] 29 (0, 0))) (hb : w5.heap[b]? = some (.cells #[.slice (some ⟨B, 0, none⟩) xs.length cap] 29 (0, 0)))
    (ho : w5.ownsRow (w.heap.size + 1) 92 5 (.slice (some ⟨B, 0, none⟩) xs.length cap) xs.length (ncs xs)) (c : Cur w0 v zs w5 P) (g : w.grownBy w5 (some P)) (hP : P < w.heap.size) (_hb : w.heap.size < b) :
    DS w0 v zs P w b (xs.set i y) (((((w5.setCell ⟨B, i * 5, none⟩ (.int .i64 y.k)).setCell ⟨B, i * 5 + 1, none⟩ (.int .i64 y.n)).setCell ⟨B, i * 5 + 2, none⟩ (.string y.s)).setCell ⟨B, i * 5 + 3, none⟩ (.int .i64 y.a)).setCell ⟨B, i * 5 + 4, none⟩ (.int .i64 y.b)) := by
  have hBl := (ho.lt B rfl).1
  have hBb : B ≠ b := fun e => own_ne ho hb (by decide) (by simp [Value.ownBlock, e])
  have hBr : B ≠ w.heap.size := by omega
  have bel : Below w.heap.size w5 (((((w5.setCell ⟨B, i * 5, none⟩ (.int .i64 y.k)).setCell ⟨B, i * 5 + 1, none⟩ (.int .i64 y.n)).setCell ⟨B, i * 5 + 2, none⟩ (.string y.s)).setCell ⟨B, i * 5 + 3, none⟩ (.int .i64 y.a)).setCell ⟨B, i * 5 + 4, none⟩ (.int .i64 y.b)) :=
    ((((((Below.refl _ _).setCell (p := ⟨B, i * 5, none⟩) (by simp; omega) _).setCell (p := ⟨B, i * 5 + 1, none⟩) (by simp; omega) _).setCell (p := ⟨B, i * 5 + 2, none⟩) (by simp; omega) _).setCell (p := ⟨B, i * 5 + 3, none⟩) (by simp; omega) _).setCell (p := ⟨B, i * 5 + 4, none⟩) (by simp; omega) _)
  obtain ⟨c6, g6⟩ := draw_done c g bel hP
  have hs := own_set_node y hi ho
  refine ⟨blk_ne (blk_ne (blk_ne (blk_ne (blk_ne hr hBr) hBr) hBr) hBr) hBr, ⟨_, blk_ne (blk_ne (blk_ne (blk_ne (blk_ne hb hBb) hBb) hBb) hBb) hBb, ?_⟩, c6, g6⟩
  rw [List.length_set]
  exact hs
set_option maxRecDepth 100000 in
set_option maxHeartbeats 3200000 in
theorem ddraw_any (w0 : World) (v : Value) (zs : List Int) (w : World) (P : Nat) (c : Cur w0 v zs w P) :
    Calls Tryz.prog 48 #[.pointer (some ⟨P, 0, none⟩)] w fun e w' => ∃ (v' : Value) (xs : List Nd), e = .returned (.agg #[v']) ∧ xs.length ≤ 3001 ∧ (∀ x ∈ xs, x.s.size ≤ 40) ∧ w'.ownsRow w.heap.size 92 5 v' xs.length (ncs xs) ∧ Cur w0 v zs w' P ∧ w.grownBy w' (some P) := by
  have hP := c.lt
  obtain ⟨n0, hn, hn0, hn1, hn2⟩ := info_parts Tryz.infoN
  have hB0 : Below w.heap.size w (w.alloc (.cells #[.slice none 0 0] 29)) := (Below.refl _ _).alloc (Nat.le_refl _) _
  have c0 := c.kept (hB0.mono (show P + 1 ≤ w.heap.size by omega))
  go_enter Tryz.func48, Tryz.ntmps48
  go_wp2_with fail
  refine (dright_any w0 v zs _ P c0).mono ?_
  rintro e w1 ⟨v1, xs, rfl, hl, hz, ho1, c1, g1⟩
  obtain ⟨a1, q1, rfl⟩ := own_form ho1
  have hr1 : w1.heap[w.heap.size]? = some (.cells #[.slice none 0 0] 29 (0, 0)) := (g1.block _ (by simp) (by simp; omega)).trans (heap_alloc_new _ _)
  have g1' := draw_step hB0 g1
  have hlt1 := (Array.getElem?_eq_some_iff.1 hr1).1
  have D2 : DS w0 v zs P w w1.heap.size xs (w1.alloc (.cells #[.slice a1 xs.length q1] 29)) :=
    ⟨(heap_alloc_old _ _ hlt1).trans hr1, ⟨_, heap_alloc_new _ _, own_mono (ho1.alloc _) (by simp)⟩, c1.kept ((Below.refl _ _).alloc (by omega) _), grown_trans g1' (World.grownBy_alloc w1 _ _)⟩
  have HZ : Hid (∀ x ∈ xs, x.s.size ≤ 40) := hz
  clear hB0 g1 c0 hr1 g1' ho1 hz c1
  go_upto_region 2 with fail
  generalize w1.alloc (Obj.cells #[Value.slice a1 xs.length q1] 29) = w2 at D2 ⊢
  generalize w1.heap.size = b at D2 hlt1 ⊢
  go_cut [15] from 6 (fun s15 wx => ∃ bb : Bool, s15 = .bool bb ∧ (bb = true → 0 < xs.length) ∧ DS w0 v zs P w b xs wx)
  case first =>
    have D2' := D2
    obtain ⟨_, ⟨v3, hb3, ho3⟩, c3, _⟩ := D2'
    obtain ⟨a3, q3, rfl⟩ := own_form ho3
    have hc3 : w2.cell? ⟨b, 0, none⟩ = some (.slice a3 xs.length q3) := by rw [cell_of_row w2 _ 0 _ _ _ hb3]; rfl
    clear ho3 hb3
    by_cases hx0 : 0 < xs.length
    · have hx0' : (0 : Int) < xs.length := by omega
      go_wp2_with fail
      refine (once_any w0 v zs _ P 12 c3 (by omega)).mono ?_
      rintro e w4 ⟨b', rfl, c4, g4⟩
      have D4 := D2.turn hP hlt1 c4 g4
      clear D2 c3 hc3
      go_wp2_with fail
      go_meet
      case rel => exact ⟨b', rfl, fun _ => hx0, D4⟩
    · have hx0' : ¬ (0 : Int) < xs.length := by omega
      go_wp2_with fail
      go_meet
      case rel => exact ⟨false, rfl, (fun h => by cases h), D2⟩
  case rest =>
    obtain ⟨bb, rfl, hbb, D3⟩ := hcut
    clear D2 w2
    obtain ⟨w3, hw3⟩ : ∃ w3, w3 = wc := ⟨_, rfl⟩
    subst hw3
    go_upto_if 15 with fail
    go_cut [] from 6 (fun wx => ∃ ys : List Nd, ys.length ≤ 15 ∧ Hid (∀ x ∈ ys, x.s.size ≤ 40) ∧ DS w0 v zs P w b ys wx)
    case first =>
      cases bb with
      | false =>
        go_wp2_with fail
        go_meet
        case rel => exact ⟨xs, hl, HZ, D3⟩
      | true =>
        have hx0 := hbb rfl
        have D3' := D3
        obtain ⟨_, ⟨v3, hb3, ho3⟩, c3, _⟩ := D3'
        obtain ⟨a3, q3, rfl⟩ := own_form ho3
        have hc3 : w3.cell? ⟨b, 0, none⟩ = some (.slice a3 xs.length q3) := by rw [cell_of_row w3 _ 0 _ _ _ hb3]; rfl
        clear ho3 hb3
        go_wp2_with fail
        refine (below_any w0 v zs _ P xs.length c3 (by omega)).mono ?_
        rintro e w4 ⟨i, rfl, hi0, hi1, c4, g4⟩
        have hi := hi1 (by omega)
        obtain ⟨i, rfl⟩ := Int.eq_ofNat_of_zero_le hi0
        have hil : i < xs.length := by omega
        have D4 := D3.turn hP hlt1 c4 g4
        clear D3 c3 hc3 g4 hi1 c4
        have D4' := D4
        obtain ⟨_, ⟨v4, hb4, ho4⟩, c4, _⟩ := D4'
        rcases ho4.2 with ⟨rfl, h0⟩ | ⟨B, capB, cur, rfl, hBb, _⟩
        · omega
        have hc4 : w4.cell? ⟨b, 0, none⟩ = some (.slice (some ⟨B, 0, none⟩) xs.length capB) := by rw [cell_of_row w4 _ 0 _ _ _ hb4]; rfl
        obtain ⟨x, hx⟩ : ∃ x, xs[i]? = some x := ⟨xs[i], by simp [hil]⟩
        have hx40 := HZ.out x (List.mem_of_getElem? hx)
        have hcz : ∀ (W : World), W.ownsRow (w.heap.size + 1) 92 5 (.slice (some ⟨B, 0, none⟩) xs.length capB) xs.length (ncs xs) → W.cell? ⟨B, i * 5, none⟩ = some (.int .i64 x.k) ∧ W.cell? ⟨B, i * 5 + 1, none⟩ = some (.int .i64 x.n) ∧ W.cell? ⟨B, i * 5 + 2, none⟩ = some (.string x.s) ∧ W.cell? ⟨B, i * 5 + 3, none⟩ = some (.int .i64 x.a) ∧ W.cell? ⟨B, i * 5 + 4, none⟩ = some (.int .i64 x.b) := fun W h => by
          have e : ∀ j, j < 5 → W.cell? ⟨B, i * 5 + j, none⟩ = x.cs[j]? := fun j hj => by
            rw [h.cellAt (i * 5 + j) (by omega), ncs_get xs i x hx j hj]
          exact ⟨e 0 (by omega), e 1 (by omega), e 2 (by omega), e 3 (by omega), e 4 (by omega)⟩
        obtain ⟨e0, e1, e2, e3, e4⟩ := hcz _ ho4
        have hset : ∀ y : Nd, y.s.size ≤ 40 → Hid (∀ z ∈ xs.set i y, z.s.size ≤ 40) := fun y hy z hz => by
          rcases List.mem_or_eq_of_mem_set hz with h | h
          · exact HZ.out z h
          · rw [h]; exact hy
        go_wp2_with fail
        go_region_with (go_at_call 85; refine (dspoil_any w0 v zs _ P x ?_ hx40).mono ?_; exact c4.kept ⟨rfl, rfl, rfl, Nat.le_refl _, fun _ _ => rfl⟩; rintro e w5 ⟨y, rfl, hy40, c5, g5⟩; have g5' : w4.grownBy w5 (some P) := ⟨g5.os, g5.tape, g5.output, g5.size, g5.block⟩; have hb5 := (g5'.block b (Array.getElem?_eq_some_iff.1 hb4).1 (by simp; omega)).trans hb4; have ho5 := ho4.kept g5' (own_not ho4 (by omega)); have hc5 : w5.cell? ⟨b, 0, none⟩ = some (.slice (some ⟨B, 0, none⟩) xs.length capB) := cell_of_row w5 b 0 _ _ _ hb5; obtain ⟨t0, t1, t2, t3, t4⟩ := hcz _ ho5; have f0 := ho5.frozenAt (i * 5); have f1 := ho5.frozenAt (i * 5 + 1); have f2 := ho5.frozenAt (i * 5 + 2); have f3 := ho5.frozenAt (i * 5 + 3); have f4 := ho5.frozenAt (i * 5 + 4); rw [ndV])
        all_goals
          have D6 := DS.set (b := b) y hil ((g5'.block _ (Array.getElem?_eq_some_iff.1 D4.1).1 (by simp; omega)).trans D4.1) hb5 ho5 c5 (grown_trans D4.2.2.2 g5') hP hlt1
          go_wp2_with fail
          go_meet
          case rel => exact ⟨xs.set i y, by simp; omega, hset y hy40, D6⟩
    case rest =>
      obtain ⟨ys, hyl, HY, D5⟩ := hcut
      clear HZ hl hbb D3
      obtain ⟨w5, hw5⟩ : ∃ w5, w5 = wc := ⟨_, rfl⟩
      subst hw5
      go_wp2_with fail
      refine (once_any w0 v zs _ P 60 D5.2.2.1 (by omega)).mono ?_
      rintro e w6 ⟨b', rfl, c6, g6⟩
      have D6 := D5.turn hP hlt1 c6 g6
      clear D5 g6
      cases b' with
      | false =>
        obtain ⟨hr, ⟨v3, hb3, ho3⟩, cc, gg⟩ := D6
        obtain ⟨a3, q3, rfl⟩ := own_form ho3
        have hc3 : w6.cell? ⟨b, 0, none⟩ = some (.slice a3 ys.length q3) := by rw [cell_of_row w6 _ 0 _ _ _ hb3]; rfl
        have hd3 : w6.cell? ⟨w.heap.size, 0, none⟩ = some (.slice none 0 0) := by rw [cell_of_row w6 _ 0 _ _ _ hr]; rfl
        have hf3 : w6.frozen? ⟨w.heap.size, 0, none⟩ = false := frozen_of_row w6 _ 0 _ _ hr
        obtain ⟨p1, p2, p3⟩ := put_pool hr ho3 (Below.refl w.heap.size w6) (by omega) (Nat.le_refl _)
        obtain ⟨c5, g5⟩ := draw_done cc gg p3 hP
        have hne : w.heap.size ≠ b := by omega
        go_wp2_with fail
        refine bodyPost_ret (results_cell_row rfl _ _ w.heap.size 29 _ (0, 0) _ rfl p1 Tryz.underlying29 rfl Tryz.sizeP) rfl ⟨_, ys, rfl, by omega, HY.out, p2, c5, g5⟩
      | true =>
        go_wp2_with fail
        refine (below_any w0 v zs _ P 2 c6 (by omega)).mono ?_
        rintro e w7 ⟨x, rfl, hx0, hx1, c7, g7⟩
        have hx := hx1 (by omega)
        have D7 := D6.turn hP hlt1 c7 g7
        clear D6 g7 hx1 c6 c7 HY
        obtain ⟨m, hm⟩ : ∃ m : Nat, (3000 : Int) + x = m := ⟨(3000 + x).toNat, by omega⟩
        have hm1 : m ≤ 3001 := by omega
        obtain ⟨hr, ⟨v3, hb3, ho3⟩, cc, gg⟩ := D7
        have hr7 := (Array.getElem?_eq_some_iff.1 hr).1
        have hb7 := (Array.getElem?_eq_some_iff.1 hb3).1
        have hbytes : n0.bytes * m ≤ 281474976710656 := by rw [hn2]; omega
        have HM : Hid ((3000 : Int) + x = m) := hm
        clear hm
        go_wp2_with (at_make; refine wpList_make_full _ rfl _ _ 27 rfl (w.heap.size + 1) 92 n0 _ 5 Tryz.underlying27 hn hn0 hn1 _ _ _ _ m rfl rfl HM.out HM.out hbytes (by unfold maxLen; omega) (by omega) ?_)
        intro w8 hown hgrow
        have hr8 := (hgrow.block _ hr7 (by simp)).trans hr
        have hb8 := (hgrow.block _ hb7 (by simp)).trans hb3
        obtain ⟨c8, g8⟩ := draw_done cc gg ⟨hgrow.os, hgrow.tape, hgrow.output, hgrow.size, fun k hk => hgrow.block k (by omega) (by simp)⟩ hP
        have hown8 : w8.ownsRow (w.heap.size + 1) 92 5 (.slice (some ⟨w7.heap.size, 0, none⟩) m m) m (ncs (List.replicate m zeroN)) := by rw [ncs_zeros]; exact hown
        have hf8 : w8.frozen? ⟨b, 0, none⟩ = false := frozen_of_row w8 _ 0 _ _ hb8
        have hc8 : w8.cell? ⟨b, 0, none⟩ = some v3 := by rw [cell_of_row w8 _ 0 _ _ _ hb8]; rfl
        have hb9 := heap_setCell_same w8 b 0 _ _ (.slice (some ⟨w7.heap.size, 0, none⟩) m m) hb8
        have hown9 := ownsRow_setCell_other hown8 (a := ⟨b, 0, none⟩) (own_ne hown8 hb8 (by decide)) (.slice (some ⟨w7.heap.size, 0, none⟩) m m)
        have hr9 := blk_ne (j := 0) (v := (.slice (some ⟨w7.heap.size, 0, none⟩) m m)) hr8 (by omega : b ≠ w.heap.size)
        obtain ⟨c9, g9⟩ := draw_done c8 g8 ((Below.refl _ _).setCell (p := ⟨b, 0, none⟩) (by simp; omega) (.slice (some ⟨w7.heap.size, 0, none⟩) m m)) hP
        generalize w7.heap.size = B at hown9 hb9 hr9 c9 g9 hf8 hc8 ⊢
        clear hgrow hown hown8 hr8 c8 g8 hb3 ho3 cc gg hr HM
        go_upto_region 7 with fail
        generalize w8.setCell ⟨b, 0, none⟩ (.slice (some ⟨B, 0, none⟩) m m) = w9 at hown9 hb9 hr9 c9 g9 ⊢
        clear hf8 hc8 hb8
        go_wp2_with fail
        go_loopw [5] (fun i wr => ∃ (k : Nat) (zn : List Nd), k ≤ m ∧ zn.length = m ∧ i = .int .i64 k ∧ Hid (∀ x ∈ zn, x.s.size ≤ 40) ∧ wr.heap[w.heap.size]? = some (.cells #[.slice none 0 0] 29 (0, 0)) ∧ wr.heap[b]? = some (.cells #[.slice (some ⟨B, 0, none⟩) m m] 29 (0, 0)) ∧ wr.ownsRow (w.heap.size + 1) 92 5 (.slice (some ⟨B, 0, none⟩) m m) m (ncs zn) ∧ Cur w0 v zs wr P ∧ w.grownBy wr (some P)) (fun i _ => m - (intOf i).toNat)
        case atStart => exact ⟨0, List.replicate m zeroN, by omega, by simp, rfl, (fun x hx => by rw [List.eq_of_mem_replicate hx]; exact empty40), hr9, hb9, hown9, c9, g9⟩
        case round =>
          clear hown9 hb9 hr9 c9 g9
          obtain ⟨k, zn, hk, hzn, rfl, HZ, hrr, hbr, hor, ccr, ggr⟩ := hrel
          have Hzn : Hid (zn.length = m) := hzn
          have hcr : wr.cell? ⟨b, 0, none⟩ = some (.slice (some ⟨B, 0, none⟩) m m) := by rw [cell_of_row wr _ 0 _ _ _ hbr]; rfl
          have hne : w.heap.size ≠ b := by omega
          have hBl := (hor.lt B rfl).1
          clear hzn
          by_cases hlt : k < m
          · have hkz : k < zn.length := by rw [Hzn.out]; exact hlt
            obtain ⟨z, hz⟩ : ∃ z, zn[k]? = some z := ⟨zn[k], by simp [hkz]⟩
            have ek : wr.cell? ⟨B, k * 5, none⟩ = some (.int .i64 z.k) := by
              have := hor.cellAt (k * 5 + 0) (by omega)
              rw [ncs_get zn k z hz 0 (by omega)] at this
              exact this
            have fk := hor.frozenAt (k * 5)
            have hst := (hor.stored (k * 5) (.int .i64 1)).1
            rw [ncs_set0 zn k z ⟨1, z.n, z.s, z.a, z.b⟩ hz _ rfl] at hst
            have hz40 := HZ.out z (List.mem_of_getElem? hz)
            have HZ' : Hid (∀ x ∈ zn.set k ⟨1, z.n, z.s, z.a, z.b⟩, x.s.size ≤ 40) := fun x hx => by
              rcases List.mem_or_eq_of_mem_set hx with h | h
              · exact HZ.out x h
              · rw [h]; exact hz40
            have hBb : B ≠ b := fun e => own_ne hor hbr (by decide) (by simp [Value.ownBlock, e])
            have hbr' := blk_ne (j := k * 5) (v := (.int .i64 1)) hbr hBb
            have hrr' := blk_ne (j := k * 5) (v := (.int .i64 1)) hrr (by omega : B ≠ w.heap.size)
            obtain ⟨c9, g9⟩ := draw_done ccr ggr ((Below.refl _ _).setCell (p := ⟨B, k * 5, none⟩) (by simp; omega) (.int .i64 1)) hP
            clear hor hbr hrr ccr ggr hz HZ
            go_wp2_with fail
            go_roundw
            case rel => exact ⟨k + 1, _, by omega, by rw [List.length_set]; exact Hzn.out, by go_num, HZ', hrr', hbr', hst, c9, g9⟩
            case measure => simp [intOf]; omega
          · have hd3 : wr.cell? ⟨w.heap.size, 0, none⟩ = some (.slice none 0 0) := by rw [cell_of_row wr _ 0 _ _ _ hrr]; rfl
            have hf3 : wr.frozen? ⟨w.heap.size, 0, none⟩ = false := frozen_of_row wr _ 0 _ _ hrr
            obtain ⟨p1, p2, p3⟩ := put_pool hrr hor (Below.refl w.heap.size wr) (by omega) (Nat.le_refl _)
            obtain ⟨c5, g5⟩ := draw_done ccr ggr p3 hP
            go_wp2_with fail
            refine bodyPost_ret (results_cell_row rfl _ _ w.heap.size 29 _ (0, 0) _ rfl p1 Tryz.underlying29 rfl Tryz.sizeP) rfl ⟨_, zn, rfl, by rw [Hzn.out]; omega, HZ.out, by rw [Hzn.out]; exact p2, c5, g5⟩
end Go.Proofs.YtkchakcebdenjaaGreat
/-
  Contracts of the draws' l2DrawAt and DrawSizeOf.
-/
namespace Go.Proofs.YtkchakcebdenjaaGreat
open Go.RowKit
theorem wrapB (x : Int) : -9223372036854775808 ≤ IntKind.i64.wrap x ∧ IntKind.i64.wrap x ≤ 9223372036854775807 := by rw [IntKind.wrap_i64]; omega
set_option maxRecDepth 100000 in
set_option maxHeartbeats 1600000 in
theorem ddrawat_any (w0 : World) (v : Value) (zs : List Int) (w : World) (P : Nat) (ao : Option Addr) (n cap : Nat) (c : Cur w0 v zs w P) (hn : n ≤ 100000) :
    Calls Tryz.prog 49 #[.pointer (some ⟨P, 0, none⟩), .agg #[.slice ao n cap]] w fun e w' => ∃ x : Int, e = .returned (.int .i64 x) ∧ -9223372036854775808 ≤ x ∧ x ≤ 9223372036854775807 ∧ Cur w0 v zs w' P ∧ w.grownBy w' (some P) := by
  have hP := c.lt
  have hB0 : Below w.heap.size w (w.alloc (.cells #[.slice ao n cap] 29)) := (Below.refl _ _).alloc (Nat.le_refl _) _
  have c0 := c.kept (hB0.mono (show P + 1 ≤ w.heap.size by omega))
  have g0' : w.grownBy (w.alloc (.cells #[.slice ao n cap] 29)) (some P) := World.grownBy_alloc w _ _
  have hb0 : (w.alloc (.cells #[.slice ao n cap] 29)).heap[w.heap.size]? = some (.cells #[.slice ao n cap] 29 (0, 0)) := heap_alloc_new _ _
  have hpick : ∀ (w1 : World) (B : Nat) (nn : Int), B = w1.heap.size → 0 ≤ nn → nn ≤ 100000 → Cur w0 v zs w1 P → w.grownBy w1 (some P) → Calls Tryz.prog 86 #[.pointer (some ⟨P, 0, none⟩), .slice (some ⟨B, 0, none⟩) 3 3] (w1.alloc (Obj.cells #[.int .i64 (-1), .int .i64 0, .int .i64 nn] 3)) fun e w' => ∃ x : Int, e = .returned (.int .i64 x) ∧ -9223372036854775808 ≤ x ∧ x ≤ 9223372036854775807 ∧ Cur w0 v zs w' P ∧ w.grownBy w' (some P) := by
    intro w1 B nn hBe hnn0 hnn1 c1 g1
    subst hBe
    have hlt := c1.lt
    have hB1 : Below w1.heap.size w1 (w1.alloc (Obj.cells #[.int .i64 (-1), .int .i64 0, .int .i64 nn] 3)) := (Below.refl _ _).alloc (Nat.le_refl _) _
    have hr : ∀ y ∈ [(-1 : Int), 0, nn], -9223372036854775808 ≤ y ∧ y ≤ 9223372036854775807 := by
      intro y hy
      simp only [List.mem_cons, List.not_mem_nil, or_false] at hy
      omega
    refine (pick_any w0 v zs _ P w1.heap.size 3 [-1, 0, nn] (c1.kept (hB1.mono (by omega))) (by omega) (by simp) (by simp) hr (fun i hi => ints_new w1 [-1, 0, nn] 3 i hi)).mono ?_
    rintro e w2 ⟨q, rfl, hq0, hq1, c2, g2⟩
    exact ⟨q, rfl, hq0, hq1, c2, grown_trans g1 (draw_step hB1 g2)⟩
  by_cases h0 : n = 0
  · subst h0
    go_enter Tryz.func49, Tryz.ntmps49
    go_wp2_with fail
    refine (hpick (w.alloc (.cells #[.slice ao 0 cap] 29)) (w.heap.size + 1) 0 (by simp) (by omega) (by omega) c0 g0').mono ?_
    rintro e w2 ⟨q, rfl, hq0, hq1, c2, g2⟩
    go_wp2_with fail
    go_ret
    exact ⟨q, rfl, hq0, hq1, c2, g2⟩
  · have h0' : ¬ (n : Int) = 0 := by omega
    have h1 : 0 < n := by omega
    go_enter Tryz.func49, Tryz.ntmps49
    go_wp2_with fail
    refine (once_any w0 v zs _ P 20 c0 (by omega)).mono ?_
    rintro e w1 ⟨b, rfl, c1, g1⟩
    have g1' := grown_trans g0' g1
    have hb1 : w1.heap[w.heap.size]? = some (.cells #[.slice ao n cap] 29 (0, 0)) := (g1.block _ (by simp) (by simp; omega)).trans hb0
    have hc1 : w1.cell? ⟨w.heap.size, 0, none⟩ = some (.slice ao n cap) := by rw [cell_of_row w1 _ 0 _ _ _ hb1]; rfl
    have hsz1 := (Array.getElem?_eq_some_iff.1 hb1).1
    clear c0 g0' hb0 hB0 g1
    cases b with
    | true =>
      go_wp2_with fail
      refine (hpick w1 w1.heap.size n rfl (by omega) (by omega) c1 g1').mono ?_
      rintro e w2 ⟨q, rfl, hq0, hq1, c2, g2⟩
      go_wp2_with fail
      go_ret
      exact ⟨q, rfl, hq0, hq1, c2, g2⟩
    | false =>
      clear hpick
      go_wp2_with fail
      go_region_with (first
        | (go_at_call 79; refine (lmin_any _ _ _).mono ?_; rintro e w2 ⟨rfl, rfl⟩)
        | (go_at_call 47; refine (below_any w0 v zs _ P (min (n : Int) 9) ?_ (by omega)).mono ?_; exact c1.kept ⟨rfl, rfl, rfl, Nat.le_refl _, fun _ _ => rfl⟩; rintro e w3 ⟨x, rfl, hx0, hx1, c3, g3⟩; have g3' : w1.grownBy w3 (some P) := ⟨g3.os, g3.tape, g3.output, g3.size, g3.block⟩; have hb3 := (g3'.block _ hsz1 (by simp; omega)).trans hb1; have hc3 : w3.cell? ⟨w.heap.size, 0, none⟩ = some (.slice ao n cap) := cell_of_row w3 _ 0 _ _ _ hb3; have hx := hx1 (by omega)))
      all_goals
        clear hx1
        go_wp2_with fail
        go_ret
        refine ⟨_, rfl, (wrapB _).1, (wrapB _).2, ?_⟩
        exact ⟨c3.kept ⟨rfl, rfl, rfl, Nat.le_refl _, fun _ _ => rfl⟩, grown_trans g1' ⟨g3'.os, g3'.tape, g3'.output, g3'.size, g3'.block⟩⟩
end Go.Proofs.YtkchakcebdenjaaGreat
/-
  Contract of the draws' DrawSizeOf.
-/
namespace Go.Proofs.YtkchakcebdenjaaGreat
open Go.RowKit
theorem PV.below {w w' : World} {b base : Nat} {xs : List Nd} (h : PV w b base xs) (hb : Below w.heap.size w w') : PV w' b base xs := by
  obtain ⟨v', h1, h2⟩ := h
  exact ⟨v', (hb.block b (Array.getElem?_eq_some_iff.1 h1).1).trans h1, own_below h2 hb⟩
theorem PV.turn {w w' : World} {b P : Nat} {xs : List Nd} (h : PV w b (P + 1) xs) (hg : w.grownBy w' (some P)) (hb : P < b) : PV w' b (P + 1) xs := h.kept hg (by omega) (by omega)
end Go.Proofs.YtkchakcebdenjaaGreat
/-
  The contracts of spec.l3Dent and of the draws' DrawRead. No condition beyond how many bytes there are.
-/
namespace Go.Proofs.YtkchakcebdenjaaGreat
open Go.RowKit
set_option maxRecDepth 100000 in
set_option maxHeartbeats 3200000 in
theorem ddent_any (w0 : World) (v : Value) (zs : List Int) (w : World) (P g cap : Nat) (bits : List ByteArray) (s : ByteArray) (c : Cur w0 v zs w P) (hg : g ≠ P) (h1 : 1 ≤ bits.length) (h2 : bits.length ≤ 1048576)
    (hc : ∀ i, i < bits.length → w.cell? ⟨g, i, none⟩ = some (.string (bits.getD i ByteArray.empty))) (hb : ∀ x ∈ bits, x.size ≤ 10) (hs : s.size ≤ 100000) :
    Calls Tryz.prog 45 #[.pointer (some ⟨P, 0, none⟩), .string s, .slice (some ⟨g, 0, none⟩) bits.length cap] w fun e w' => ∃ s' : ByteArray, e = .returned (.string s') ∧ s'.size ≤ s.size + 10 ∧ Cur w0 v zs w' P ∧ w.grownBy w' (some P) := by
  have hgl := World.block_lt_of_cell? _ _ (hc 0 (by omega))
  have HC : Hid (∀ i, i < bits.length → w.cell? ⟨g, i, none⟩ = some (.string (bits.getD i ByteArray.empty))) := hc
  have HB : Hid (∀ x ∈ bits, x.size ≤ 10) := hb
  clear hc hb
  go_enter Tryz.func45, Tryz.ntmps45
  go_wp2_with fail
  refine (below_any w0 v zs _ P _ c (by omega)).mono ?_
  rintro e w1 ⟨x1, rfl, hx0, hx1, c1, g1⟩
  have hx := hx1 (by omega)
  obtain ⟨k, rfl⟩ := Int.eq_ofNat_of_zero_le hx0
  have hk : k ≤ s.size := by omega
  clear hx0 hx1 hx
  go_wp2_with fail
  refine (below_any w0 v zs _ P 3 c1 (by omega)).mono ?_
  rintro e w2 ⟨x2, rfl, hx0, hx1, c2, g2⟩
  have hx := hx1 (by omega)
  have g2' := grown_trans g1 g2
  have HC2 : Hid (∀ i, i < bits.length → w2.cell? ⟨g, i, none⟩ = some (.string (bits.getD i ByteArray.empty))) := fun i hi => (World.cell?_of_block (g2'.block g hgl (by simpa using hg))).trans (HC.out i hi)
  clear hx1 g1 g2 c1 HC
  have hsk : (s.extract 0 k).size ≤ s.size := by rw [ByteArray.size_extract]; omega
  by_cases e0 : x2 = 0
  · go_wp2_with fail
    go_ret
    exact ⟨_, rfl, by rw [ByteArray.size_extract]; omega, c2, g2'⟩
  · by_cases e1 : x2 = 1
    · obtain ⟨m, hm, hm2⟩ : ∃ m : Nat, Hid (min ((k : Int) + 1) (s.size : Int) = m) ∧ m ≤ s.size := ⟨min (k + 1) s.size, by unfold Hid; omega, by omega⟩
      have hsm : (s.extract m s.size).size ≤ s.size - m := by rw [ByteArray.size_extract]; omega
      have hkm : k ≤ m := by have := hm.out; omega
      have hwk : IntKind.i64.wrap ((k : Int) + 1) = (k : Int) + 1 := by rw [IntKind.wrap_i64]; omega
      have hsk2 : (s.extract 0 k).size ≤ k := by rw [ByteArray.size_extract]; omega
      go_wp2_with fail
      go_region_with (first
        | (go_at_call 79; refine (lmin_any _ _ _).mono ?_; rintro e w9 ⟨rfl, rfl⟩; (try rw [hwk]); rw [hm.out])
        | (go_at_call 76; refine (picks_any w0 v zs _ P g cap bits ?_ hg h1 h2 ?_).mono ?_; exact c2.kept ⟨rfl, rfl, rfl, Nat.le_refl _, fun _ _ => rfl⟩; exact fun i hi => HC2.out i hi; rintro e w3 ⟨s3, hs3, rfl, c3, g3⟩; have hs10 := HB.out s3 hs3; have g3' : w2.grownBy w3 (some P) := ⟨g3.os, g3.tape, g3.output, g3.size, g3.block⟩; have hadd1 : ∀ u : World, (Op.stringOp .add (s.extract 0 k) s3).run Tryz.prog u = .ok (.string (s.extract 0 k ++ s3)) u := fun u => addB _ _ u (by omega); have hadd2 : ∀ u : World, (Op.stringOp .add (s.extract 0 k ++ s3) (s.extract m s.size)).run Tryz.prog u = .ok (.string (s.extract 0 k ++ s3 ++ s.extract m s.size)) u := fun u => addB _ _ u (by rw [ByteArray.size_append]; omega)))
      all_goals
        go_wp2_with fail
        go_ret
        exact ⟨_, rfl, by rw [ByteArray.size_append, ByteArray.size_append]; omega, c3.kept ⟨rfl, rfl, rfl, Nat.le_refl _, fun _ _ => rfl⟩, grown_trans g2' ⟨g3'.os, g3'.tape, g3'.output, g3'.size, g3'.block⟩⟩
    · have hsm : (s.extract k s.size).size ≤ s.size - k := by rw [ByteArray.size_extract]; omega
      have hsk2 : (s.extract 0 k).size ≤ k := by rw [ByteArray.size_extract]; omega
      go_wp2_with fail
      go_region_with (first
        | (go_at_call 76; refine (picks_any w0 v zs _ P g cap bits ?_ hg h1 h2 ?_).mono ?_; exact c2.kept ⟨rfl, rfl, rfl, Nat.le_refl _, fun _ _ => rfl⟩; exact fun i hi => HC2.out i hi; rintro e w3 ⟨s3, hs3, rfl, c3, g3⟩; have hs10 := HB.out s3 hs3; have g3' : w2.grownBy w3 (some P) := ⟨g3.os, g3.tape, g3.output, g3.size, g3.block⟩; have hadd1 : ∀ u : World, (Op.stringOp .add (s.extract 0 k) s3).run Tryz.prog u = .ok (.string (s.extract 0 k ++ s3)) u := fun u => addB _ _ u (by omega); have hadd2 : ∀ u : World, (Op.stringOp .add (s.extract 0 k ++ s3) (s.extract k s.size)).run Tryz.prog u = .ok (.string (s.extract 0 k ++ s3 ++ s.extract k s.size)) u := fun u => addB _ _ u (by rw [ByteArray.size_append]; omega)))
      all_goals
        go_wp2_with fail
        go_ret
        exact ⟨_, rfl, by rw [ByteArray.size_append, ByteArray.size_append]; omega, c3.kept ⟨rfl, rfl, rfl, Nat.le_refl _, fun _ _ => rfl⟩, grown_trans g2' ⟨g3'.os, g3'.tape, g3'.output, g3'.size, g3'.block⟩⟩
end Go.Proofs.YtkchakcebdenjaaGreat
