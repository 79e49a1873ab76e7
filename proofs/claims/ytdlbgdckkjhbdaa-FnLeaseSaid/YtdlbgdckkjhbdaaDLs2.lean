/-
  Contracts of l11DrawNow, DrawLeaseDrop, DrawKept, DrawLeaseGive, DrawLeaseAsk, DrawGripGood. No condition.
-/
import Derived.Test.YtdlbgdckkjhbdaaDLs
namespace Go.Proofs.Ytdlbgdckkjhbdaa
open Go.RowKit

set_option maxRecDepth 100000 in
set_option maxHeartbeats 800000 in
theorem d11now_any (w0 : World) (v : Value) (zs : List Int) (w : World) (P : Nat) (c : Cur w0 v zs w P) :
    Calls Try.prog 35 #[.pointer (some ⟨P, 0, none⟩)] w fun e w' => ∃ x : Int, e = .returned (.int .i64 x) ∧ Cur w0 v zs w' P ∧ w.grownBy w' (some P) := by
  have hlt := c.lt
  go_enter Try.func35, Try.ntmps35
  go_wp2_with fail
  refine (once_any w0 v zs _ P 12 c (by omega)).mono ?_
  rintro e w1 ⟨b, rfl, c1, g1⟩
  have hlt1 := c1.lt
  clear c
  cases b with
  | true =>
    have hr : ∀ y ∈ [(-1 : Int), 1000000000, 999999980, 1000000001], -9223372036854775808 ≤ y ∧ y ≤ 9223372036854775807 := by
      intro y hy
      simp only [List.mem_cons, List.not_mem_nil, or_false] at hy
      omega
    have PA := pick_any w0 v zs _ P w1.heap.size 4 [-1, 1000000000, 999999980, 1000000001] (c1.kept ((Below.refl _ _).alloc (by omega) _)) (by omega) (by simp) (by simp) hr (fun i hi => ints_new w1 [-1, 1000000000, 999999980, 1000000001] 3 i hi)
    have g2 := grown_trans g1 (World.grownBy_alloc w1 (.cells (List.map (Value.int .i64) [-1, 1000000000, 999999980, 1000000001]).toArray 3) (some P))
    go_wp2_with fail
    refine PA.mono ?_
    rintro e w3 ⟨y, rfl, hy0, hy1, c3, g3⟩
    have b3 := grown_trans g2 g3
    clear hr c1 g3 g1 g2 PA
    go_wp2_with fail
    go_ret
    exact ⟨y, rfl, c3, b3⟩
  | false =>
    go_wp2_with fail
    refine (below_any w0 v zs _ P 70 c1 (by omega)).mono ?_
    rintro e w3 ⟨y, rfl, hy0, hy1, c3, g3⟩
    have b3 := grown_trans g1 g3
    clear c1 g3 g1
    go_wp2_with fail
    go_ret
    exact ⟨y, rfl, c3, b3⟩

/-- What a draw of leases and numbers hands: the list, and its memory. -/
structure DLo (w : World) (u : Value) (L : List Ls) (w' : World) : Prop where
  len : L.length ≤ 21
  own : w'.ownsRow w.heap.size 40 3 u L.length (lscs L)
  bel : Below w.heap.size w w'
theorem DLo.of {w w1 wr : World} {v u : Value} {zs : List Int} {L : List Ls} (hl : L.length ≤ 21) (D : DS w v zs w.heap.size w1 wr u L) (b1 : Below w.heap.size w w1) : DLo w u L wr :=
  ⟨hl, own_mono D.own b1.size, b1.trans D.bel⟩

def DDropAns (w : World) (e : Ending) (w' : World) : Prop := ∃ u L n, e = .returned (.tuple #[u, .int .i64 n]) ∧ DLo w u L w'
def DKeptAns (w : World) (e : Ending) (w' : World) : Prop := ∃ u L i n, e = .returned (.tuple #[u, .int .i64 i, .int .i64 n]) ∧ DLo w u L w'
def DAskAns (w : World) (e : Ending) (w' : World) : Prop := ∃ u L i q n, e = .returned (.tuple #[u, .int .i64 i, .int .i64 q, .int .i64 n]) ∧ DLo w u L w'
def DGripAns (w : World) (e : Ending) (w' : World) : Prop := ∃ i u n, e = .returned (.tuple #[.agg #[.int .i64 i, .int .i64 u], .int .i64 n]) ∧ Below w.heap.size w w'

set_option maxRecDepth 100000 in
set_option maxHeartbeats 800000 in
theorem dleasedrop_any (v : Value) (zs : List Int) (w : World) (R : Row w v zs) (hl : zs.length ≤ 1048576) :
    Calls Try.prog 19 #[v] w (DDropAns w) := by
  have AA : ∀ u L n w', DLo w u L w' → DDropAns w (.returned (.tuple #[u, .int .i64 n])) w' := fun u L n w' D => ⟨u, L, n, rfl, D⟩
  generalize DDropAns w = PP at *
  go_enter Try.func19, Try.ntmps19
  go_wp2_with fail
  refine (new_any v zs w R hl).mono ?_
  rintro e w1 ⟨rfl, c1, b1⟩
  go_wp2_with fail
  refine (d11draw_any w v zs w1 w.heap.size c1).mono ?_
  rintro e w2 ⟨u, L, rfl, hL, D⟩
  obtain ⟨a2, c2, rfl⟩ := own_form D.own
  clear c1
  go_wp2_with fail
  refine (d11now_any w v zs w2 w.heap.size D.cur).mono ?_
  rintro e w3 ⟨n, rfl, c3, g3⟩
  have DD := DLo.of hL (D.draw c3 g3) b1
  clear D c3 g3 R
  go_wp2
  exact AA _ _ _ _ DD

set_option maxRecDepth 100000 in
set_option maxHeartbeats 800000 in
theorem dkept_any (v : Value) (zs : List Int) (w : World) (R : Row w v zs) (hl : zs.length ≤ 1048576) :
    Calls Try.prog 21 #[v] w (DKeptAns w) := by
  have AA : ∀ u L i n w', DLo w u L w' → DKeptAns w (.returned (.tuple #[u, .int .i64 i, .int .i64 n])) w' := fun u L i n w' D => ⟨u, L, i, n, rfl, D⟩
  generalize DKeptAns w = PP at *
  go_enter Try.func21, Try.ntmps21
  go_wp2_with fail
  refine (new_any v zs w R hl).mono ?_
  rintro e w1 ⟨rfl, c1, b1⟩
  go_wp2_with fail
  refine (d11draw_any w v zs w1 w.heap.size c1).mono ?_
  rintro e w2 ⟨u, L, rfl, hL, D⟩
  obtain ⟨a2, c2, rfl⟩ := own_form D.own
  clear c1
  go_wp2_with fail
  refine (below_any w v zs _ w.heap.size 6 D.cur (by omega)).mono ?_
  rintro e w3 ⟨x, rfl, _, _, c3, g3⟩
  replace D := D.draw c3 g3
  clear c3 g3
  go_wp2_with fail
  refine (d11now_any w v zs w3 w.heap.size D.cur).mono ?_
  rintro e w4 ⟨n, rfl, c4, g4⟩
  have DD := DLo.of hL (D.draw c4 g4) b1
  clear D c4 g4 R
  go_wp2
  refine bodyPost_ret (v := .tuple #[.slice a2 L.length c2, .int .i64 x, .int .i64 n]) (by simp [results]) rfl ?_
  exact AA _ _ _ _ _ DD

set_option maxRecDepth 100000 in
set_option maxHeartbeats 800000 in
theorem dleaseask_any (v : Value) (zs : List Int) (w : World) (R : Row w v zs) (hl : zs.length ≤ 1048576) :
    Calls Try.prog 10 #[v] w (DAskAns w) := by
  have AA : ∀ u L i q n w', DLo w u L w' → DAskAns w (.returned (.tuple #[u, .int .i64 i, .int .i64 q, .int .i64 n])) w' := fun u L i q n w' D => ⟨u, L, i, q, n, rfl, D⟩
  generalize DAskAns w = PP at *
  go_enter Try.func10, Try.ntmps10
  go_wp2_with fail
  refine (new_any v zs w R hl).mono ?_
  rintro e w1 ⟨rfl, c1, b1⟩
  go_wp2_with fail
  refine (d11draw_any w v zs w1 w.heap.size c1).mono ?_
  rintro e w2 ⟨u, L, rfl, hL, D⟩
  obtain ⟨a2, c2, rfl⟩ := own_form D.own
  clear c1
  go_wp2_with fail
  refine (below_any w v zs _ w.heap.size 6 D.cur (by omega)).mono ?_
  rintro e w3 ⟨x, rfl, _, _, c3, g3⟩
  replace D := D.draw c3 g3
  clear c3 g3
  go_wp2_with fail
  refine (below_any w v zs _ w.heap.size 12 D.cur (by omega)).mono ?_
  rintro e w4 ⟨y, rfl, hy0, hy1, c3, g3⟩
  have hy2 := hy1 (by omega)
  replace D := D.draw c3 g3
  clear c3 g3 hy1
  have W1 : IntKind.i64.wrap (y - 1) = y - 1 := by rw [IntKind.wrap_i64]; omega
  go_wp2_with fail
  refine (d11now_any w v zs w4 w.heap.size D.cur).mono ?_
  rintro e w5 ⟨n, rfl, c4, g4⟩
  have DD := DLo.of hL (D.draw c4 g4) b1
  clear D c4 g4 R
  go_wp2
  refine bodyPost_ret (v := .tuple #[.slice a2 L.length c2, .int .i64 x, .int .i64 (y - 1), .int .i64 n]) (by simp [results]) rfl ?_
  exact AA _ _ _ _ _ _ DD

set_option maxRecDepth 100000 in
set_option maxHeartbeats 1600000 in
theorem dleasegive_any (v : Value) (zs : List Int) (w : World) (R : Row w v zs) (hl : zs.length ≤ 1048576) :
    Calls Try.prog 22 #[v] w (DAskAns w) := by
  have AA : ∀ u L i q n w', DLo w u L w' → DAskAns w (.returned (.tuple #[u, .int .i64 i, .int .i64 q, .int .i64 n])) w' := fun u L i q n w' D => ⟨u, L, i, q, n, rfl, D⟩
  generalize DAskAns w = PP at *
  go_enter Try.func22, Try.ntmps22
  go_wp2_with fail
  refine (new_any v zs w R hl).mono ?_
  rintro e w1 ⟨rfl, c1, b1⟩
  go_wp2_with fail
  refine (d11draw_any w v zs w1 w.heap.size c1).mono ?_
  rintro e w2 ⟨u, L, rfl, hL, D⟩
  obtain ⟨a2, c2, rfl⟩ := own_form D.own
  clear c1
  go_wp2_with fail
  refine (below_any w v zs _ w.heap.size 4 D.cur (by omega)).mono ?_
  rintro e w3 ⟨x, rfl, hx0, hx1, c3, g3⟩
  have hx2 := hx1 (by omega)
  replace D := D.draw c3 g3
  clear c3 g3 hx1
  have W1 : IntKind.i64.wrap (1 + x) = 1 + x := by rw [IntKind.wrap_i64]; omega
  go_wp2_with fail
  refine (below_any w v zs _ w.heap.size 10 D.cur (by omega)).mono ?_
  rintro e w4 ⟨y, rfl, _, _, c3, g3⟩
  replace D := D.draw c3 g3
  clear c3 g3
  by_cases h0 : 0 < L.length
  · have h0' : (0 : Int) < (L.length : Int) := by omega
    go_wp2_with fail
    refine (once_any w v zs _ w.heap.size 4 D.cur (by omega)).mono ?_
    rintro e w5 ⟨b, rfl, c3, g3⟩
    replace D := D.draw c3 g3
    clear c3 g3
    cases b with
    | true =>
      go_wp2_with fail
      refine (d11now_any w v zs w5 w.heap.size D.cur).mono ?_
      rintro e w6 ⟨n, rfl, c4, g4⟩
      have DD := DLo.of hL (D.draw c4 g4) b1
      clear D c4 g4 R
      go_wp2
      refine bodyPost_ret (v := .tuple #[.slice a2 L.length c2, .int .i64 (1 + x), .int .i64 y, .int .i64 n]) (by simp [results]) rfl ?_
      exact AA _ _ _ _ _ _ DD
    | false =>
      go_wp2_with fail
      refine (below_any w v zs _ w.heap.size L.length D.cur (by omega)).mono ?_
      rintro e w6 ⟨z, rfl, hz0, hz1, c3, g3⟩
      have hz2 := hz1 (by omega)
      replace D := D.draw c3 g3
      clear c3 g3 hz1
      obtain ⟨k, rfl⟩ := Int.eq_ofNat_of_zero_le hz0
      have hk : k < L.length := by omega
      obtain ⟨t, ht⟩ : ∃ t, L[k]? = some t := ⟨L[k], by simp [hk]⟩
      have RL := LsRow.of_own D.own (by omega)
      obtain ⟨a', cap', e', _, _, hcell⟩ := RL
      simp only [Value.slice.injEq, true_and] at e'
      obtain ⟨rfl, rfl⟩ := e'
      obtain ⟨g, o, rfl, hg, hcell⟩ := hcell (by intro e; subst e; simp at hk)
      obtain ⟨d0, d1, d2⟩ := hcell k t ht
      have D7 := D.below ((Below.refl _ _).alloc (Nat.le_refl _) (Obj.cells #[.int .i64 t.i, .int .i64 t.w, .int .i64 t.u] 40))
      have c7 := D7.cur
      clear hcell ht D
      go_wp2_with fail
      refine (d11now_any w v zs _ w.heap.size c7).mono ?_
      rintro e w8 ⟨n, rfl, c4, g4⟩
      have DD := DLo.of hL (D7.draw c4 g4) b1
      clear D7 c4 g4 R c7 d0 d1 d2
      go_wp2
      refine bodyPost_ret (v := .tuple #[.slice (some ⟨g, o, none⟩) L.length c2, .int .i64 t.i, .int .i64 t.w, .int .i64 n]) (by simp [results]) rfl ?_
      exact AA _ _ _ _ _ _ DD
  · have h0' : ¬ (0 : Int) < (L.length : Int) := by omega
    have hLl : L.length = 0 := by omega
    have HLL : Hid (L.length = 0) := hLl
    clear hLl
    go_wp2_with fail
    refine (d11now_any w v zs w4 w.heap.size D.cur).mono ?_
    rintro e w6 ⟨n, rfl, c4, g4⟩
    have DD := DLo.of hL (D.draw c4 g4) b1
    clear D c4 g4 R
    go_wp2
    refine bodyPost_ret (v := .tuple #[.slice a2 L.length c2, .int .i64 (1 + x), .int .i64 y, .int .i64 n]) (by simp [results]) rfl ?_
    exact AA _ _ _ _ _ _ DD

set_option maxRecDepth 100000 in
set_option maxHeartbeats 800000 in
theorem dgripgood_any (v : Value) (zs : List Int) (w : World) (R : Row w v zs) (hl : zs.length ≤ 1048576) :
    Calls Try.prog 24 #[v] w (DGripAns w) := by
  have AA : ∀ i u n w', Below w.heap.size w w' → DGripAns w (.returned (.tuple #[.agg #[.int .i64 i, .int .i64 u], .int .i64 n])) w' := fun i u n w' D => ⟨i, u, n, rfl, D⟩
  generalize DGripAns w = PP at *
  have hB0 : Below w.heap.size w (w.alloc (Obj.cells #[.int .i64 0, .int .i64 0] 28)) := (Below.refl _ _).alloc (Nat.le_refl _) _
  have hx0 := heap_alloc_new w (Obj.cells #[.int .i64 0, .int .i64 0] 28)
  have hs0 : w.heap.size < (w.alloc (Obj.cells #[.int .i64 0, .int .i64 0] 28)).heap.size := by simp
  have R0 := R.below hB0
  go_enter Try.func24, Try.ntmps24
  go_wp2_with fail
  refine (new_any v zs _ R0 hl).mono ?_
  rintro e w1 ⟨rfl, c1, b1⟩
  have hx1 := (b1.block _ hs0).trans hx0
  have hB1 := hB0.trans (b1.mono hB0.size)
  generalize hw0 : w.alloc (Obj.cells #[.int .i64 0, .int .i64 0] 28) = wa at *
  clear R0 b1 hB0 hx0 hw0 R
  have hsz : w.heap.size < w1.heap.size := (Array.getElem?_eq_some_iff.1 hx1).1
  go_wp2_with fail
  refine (below_any wa v zs _ wa.heap.size 20 c1 (by omega)).mono ?_
  rintro e w2 ⟨x, rfl, _, _, c2, g2⟩
  have hx2 := (g2.block _ hsz (by simp; omega)).trans hx1
  have hB2 : Below w.heap.size w w2 := hB1.grown g2 (by omega) (fun k hk => by simp at hk; omega)
  clear hx1 hB1 c1 g2 hsz
  have hsz : w.heap.size < w2.heap.size := (Array.getElem?_eq_some_iff.1 hx2).1
  go_wp2_with fail
  refine (below_any wa v zs _ wa.heap.size 20 c2 (by omega)).mono ?_
  rintro e w3 ⟨y, rfl, _, _, c3, g3⟩
  have hx3 := (g3.block _ hsz (by simp; omega)).trans hx2
  have hB3 : Below w.heap.size w w3 := hB2.grown g3 (by omega) (fun k hk => by simp at hk; omega)
  clear hx2 hB2 c2 g3 hsz c3
  go_wp2_with (refine wpList_store_own2 rfl 28 _ _ rfl w.heap.size #[.int .i64 1, .int .i64 x] rfl rfl 28 _ hx3 Try.sizeGrip rfl (by simp [Value.oneCell']) ?_)
  intro w8 hy8 hbg _ hoth
  have hB8 := hB3.trans hbg
  clear hoth hbg hx3 hB3
  go_wp2
  refine bodyPost_ret (results_row_tmp rfl _ _ w.heap.size 28 _ (0, 0) _ rfl hy8 Try.underlying28 rfl Try.sizeGrip) rfl ?_
  exact AA _ _ _ _ hB8
end Go.Proofs.Ytdlbgdckkjhbdaa
