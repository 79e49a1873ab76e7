/-
  Contract of the draws' DrawSame.
-/
import Derived.Test.YtmgjefkelohocaaDoorDraw11
import Derived.Test.YtmgjefkelohocaaDoorSNode
import Derived.Deep.RegionHeld
namespace Go.Proofs.YtmgjefkelohocaaDoor
open Go.RowKit

theorem results_row_tmp2 {P : Program} {fn : Func} {p u u' : Tmp} {ty : TypeId} (h : fn.results = #[.cell p ty, .tmp u, .tmp u']) (tmps : Array Value) (w : World) (g : Nat) (t : TypeId) (cs : Array Value) (fr : Nat × Nat) (d : TypeDesc)
    (hp : tmps.getD p undef = .pointer (some ⟨g, 0, none⟩)) (hg : w.heap[g]? = some (.cells cs t fr))
    (hu : P.underlying ty = some d) (hd : (match d with | .struct _ | .array _ _ => true | _ => false) = true) (hi : (P.info? ty).map (·.size) = some cs.size) :
    (results fn tmps).run P w = .ok (.tuple #[.agg cs, tmps.getD u undef, tmps.getD u' undef]) w := by
  have hp' : tmps[p]?.getD undef = .pointer (some ⟨g, 0, none⟩) := by simpa using hp
  simp [results, h, hp', asAddr, run_loadVar_row w g t ty cs fr d hg hu hd hi]

theorem ne_of_len {α β : Type} {xs : List α} {ys : List β} {k : Nat} (h0 : 0 < xs.length) (h : xs.length + k ≤ ys.length) : ys ≠ [] := by
  intro e
  have h2 := congrArg List.length e
  simp only [List.length_nil] at h2
  omega
/-- The box of a node beside the pool that is drawn. -/
structure Bx (w0 : World) (v : Value) (zs : List Int) (P b g cap q : Nat) (ys : List Nd) (x : Nd) (w : World) : Prop where
  box : w.heap[q]? = some (.cells #[.int .i64 x.k, .int .i64 x.n, .string x.s, .int .i64 x.a, .int .i64 x.b] 55 (0, 0))
  pool : w.heap[b]? = some (.cells #[.slice (some ⟨g, 0, none⟩) ys.length cap] 26 (0, 0))
  row : w.ownsRow (P + 1) 55 5 (.slice (some ⟨g, 0, none⟩) ys.length cap) ys.length (ncs ys)
  cur : Cur w0 v zs w P
theorem Bx.turn {w0 : World} {v : Value} {zs : List Int} {P b g cap q : Nat} {ys : List Nd} {x : Nd} {w w' : World} (h : Bx w0 v zs P b g cap q ys x w) (hq : q ≠ P) (hb : P < b) (c : Cur w0 v zs w' P) (hg : w.grownBy w' (some P)) : Bx w0 v zs P b g cap q ys x w' :=
  ⟨(hg.block q (Array.getElem?_eq_some_iff.1 h.box).1 (by simpa using hq)).trans h.box, (hg.block b (Array.getElem?_eq_some_iff.1 h.pool).1 (by simp; omega)).trans h.pool, h.row.kept hg (own_not h.row (by omega)), c⟩
theorem Bx.put {w0 : World} {v : Value} {zs : List Int} {P b g cap q : Nat} {ys : List Nd} {x y : Nd} {w : World} (i : Nat) (u : Value) (h : Bx w0 v zs P b g cap q ys x w) (hqP : P < q) (hqb : q ≠ b) (hqg : q ≠ g)
    (hy : (w.setCell ⟨q, i, none⟩ u).heap[q]? = some (.cells #[.int .i64 y.k, .int .i64 y.n, .string y.s, .int .i64 y.a, .int .i64 y.b] 55 (0, 0))) : Bx w0 v zs P b g cap q ys y (w.setCell ⟨q, i, none⟩ u) := by
  have hg : w.grownBy (w.setCell ⟨q, i, none⟩ u) (some q) := ⟨rfl, rfl, rfl, by simp, fun k _ hk => heap_setCell_other w ⟨q, i, none⟩ k u (fun e => hk (by rw [e]))⟩
  exact ⟨hy, (hg.block b (Array.getElem?_eq_some_iff.1 h.pool).1 (by simpa using fun e => hqb e.symm)).trans h.pool, h.row.kept hg (Or.inr (by simpa [Value.ownBlock] using fun e => hqg e.symm)), h.cur.kept ((Below.refl (P + 1) w).setCell (p := ⟨q, i, none⟩) (by simp; omega) u)⟩
theorem keep_set {w : World} {q b : Nat} {u v : Value} (h : w.cell? ⟨b, 0, none⟩ = some v) (hn : b ≠ q) : (w.setCell ⟨q, 0, none⟩ u).cell? ⟨b, 0, none⟩ = some v := by
  rw [World.cell?_of_block (heap_setCell_other w ⟨q, 0, none⟩ b u hn)]
  exact h

set_option maxRecDepth 100000 in
set_option maxHeartbeats 6400000 in
theorem dsame_any (v : Value) (zs : List Int) (w : World) (R : Row w v zs) (hl : zs.length ≤ 1048576) :
    Calls Tryd.prog 9 #[v] w fun e w' => ∃ (v' : Value) (xs : List Nd) (x y : Int), e = .returned (.tuple #[.agg #[v'], .int .i64 x, .int .i64 y]) ∧ xs.length ≤ 3001 ∧ (∀ x ∈ xs, x.s.size ≤ 40) ∧ w'.ownsRow w.heap.size 55 5 v' xs.length (ncs xs) ∧ (-9223372036854775808 ≤ x ∧ x ≤ 9223372036854775807) ∧ (-9223372036854775808 ≤ y ∧ y ≤ 9223372036854775807) ∧ Below w.heap.size w w' := by
  have hB0 : Below w.heap.size w (w.alloc (.cells #[.slice none 0 0] 26)) := (Below.refl _ _).alloc (Nat.le_refl _) _
  have hr0 : (w.alloc (.cells #[.slice none 0 0] 26)).heap[w.heap.size]? = some (.cells #[.slice none 0 0] 26 (0, 0)) := heap_alloc_new _ _
  have R0 := R.below hB0
  go_enter Tryd.func9, Tryd.ntmps9
  go_wp2_with fail
  generalize hA : w.alloc (Obj.cells #[Value.slice none 0 0] 26) = wA at hB0 hr0 R0 ⊢
  have hA1 : wA.heap.size = w.heap.size + 1 := by rw [← hA]; simp
  have HA1 : Hid (wA.heap.size = w.heap.size + 1) := hA1
  clear hA hA1
  refine (new_any v zs wA R0 hl).mono ?_
  rintro e w1 ⟨rfl, c1, b1⟩
  have hlr : w.heap.size < wA.heap.size := by rw [HA1.out]; omega
  have hP1 := c1.lt
  have hlrA := hlr
  generalize wA.heap.size = P at c1 hlr hP1 HA1 ⊢
  clear b1
  go_wp2_with fail
  refine (ddraw_any wA v zs w1 P c1).mono ?_
  rintro e w2 ⟨v2, xs, rfl, hxl, hz, ho2, c2, g2⟩
  obtain ⟨a2, q2, rfl⟩ := own_form ho2
  have hb2 := c2.lt
  have pv2 : PV (w2.alloc (.cells #[.slice a2 xs.length q2] 26)) w2.heap.size (P + 1) xs := ⟨_, heap_alloc_new _ _, own_mono (ho2.alloc _) (by omega)⟩
  have c3 := c2.kept ((Below.refl (P + 1) w2).alloc (by omega) (.cells #[.slice a2 xs.length q2] 26))
  clear ho2 c2 g2 c1
  have HZ : Hid (∀ x ∈ xs, x.s.size ≤ 40) := hz
  clear hz
  go_upto_region 3 with fail
  generalize w2.alloc (Obj.cells #[Value.slice a2 xs.length q2] 26) = w3 at pv2 c3 ⊢
  generalize w2.heap.size = b at pv2 hb2 ⊢
  go_cut [33] from 7 (fun s33 wx => ∃ bb : Bool, s33 = .bool bb ∧ (bb = true → poolB xs = true ∧ 0 < xs.length ∧ xs.length < 40) ∧ PV wx b (P + 1) xs ∧ Cur wA v zs wx P)
  case first =>
    obtain ⟨v3, hb3, ho3⟩ := pv2
    obtain ⟨a3, q3, rfl⟩ := own_form ho3
    have hc3 : w3.cell? ⟨b, 0, none⟩ = some (.slice a3 xs.length q3) := by rw [cell_of_row w3 _ 0 _ _ _ hb3]; rfl
    go_wp2_with fail
    refine (spool_any _ xs _ (NRow.of_own ho3 (by omega) (fun x hx => Nat.le_trans (HZ.out x hx) (by unfold maxLen; omega)))).mono ?_
    rintro e w4 ⟨rfl, hb4⟩
    have pv4 : PV w4 b (P + 1) xs := PV.below ⟨_, hb3, ho3⟩ hb4
    have c4 := c3.kept (hb4.mono (by have := c3.lt; omega))
    have hc4 : w4.cell? ⟨b, 0, none⟩ = some (.slice a3 xs.length q3) := by rw [hb4.cell (p := ⟨b, 0, none⟩) (Array.getElem?_eq_some_iff.1 hb3).1]; exact hc3
    clear hb4 hc3 hb3 ho3 c3
    cases hp : poolB xs with
    | false =>
      go_wp2_with fail
      go_meet
      case rel => exact ⟨false, rfl, (fun h => by cases h), pv4, c4⟩
    | true =>
      by_cases h0 : 0 < xs.length
      · by_cases h40 : xs.length < 40
        · have h0' : (0 : Int) < xs.length := by omega
          have h40' : (xs.length : Int) < 40 := by omega
          go_wp2_with fail
          refine (once_any wA v zs _ P 2 c4 (by omega)).mono ?_
          rintro e w5 ⟨bb, rfl, c5, g5⟩
          have pv5 := pv4.turn g5 hb2
          go_wp2_with fail
          go_meet
          case rel => exact ⟨bb, rfl, fun _ => ⟨hp, h0, h40⟩, pv5, c5⟩
        · have h0' : (0 : Int) < xs.length := by omega
          have h40' : ¬ (xs.length : Int) < 40 := by omega
          go_wp2_with fail
          go_meet
          case rel => exact ⟨false, rfl, (fun h => by cases h), pv4, c4⟩
      · have h0' : ¬ (0 : Int) < xs.length := by omega
        go_wp2_with fail
        go_meet
        case rel => exact ⟨false, rfl, (fun h => by cases h), pv4, c4⟩
  case rest =>
    obtain ⟨bb, rfl, hbb, pv4, c4⟩ := hcut
    clear pv2 c3 w3
    obtain ⟨w4, hw4⟩ : ∃ w4, w4 = wc := ⟨_, rfl⟩
    subst hw4
    cases bb with
    | false =>
      clear hbb
      obtain ⟨v4, hb4, ho4⟩ := pv4
      obtain ⟨a4, q4, rfl⟩ := own_form ho4
      have hc4 : w4.cell? ⟨b, 0, none⟩ = some (.slice a4 xs.length q4) := by rw [cell_of_row w4 _ 0 _ _ _ hb4]; rfl
      go_wp2_with fail
      refine (ddrawat_any wA v zs w4 P a4 xs.length q4 c4 (by omega)).mono ?_
      rintro e w5 ⟨x1, rfl, hx10, hx11, c5, g5⟩
      have hb5 := (g5.block b (Array.getElem?_eq_some_iff.1 hb4).1 (by simp; omega)).trans hb4
      have ho5 := ho4.kept g5 (own_not ho4 (by omega))
      have hc5 : w5.cell? ⟨b, 0, none⟩ = some (.slice a4 xs.length q4) := by rw [cell_of_row w5 _ 0 _ _ _ hb5]; rfl
      have hlt5 := (Array.getElem?_eq_some_iff.1 hb5).1
      clear hc4 hb4 ho4 c4 g5
      go_wp2_with fail
      go_region_held (fun w' => w'.cell? ⟨b, 0, none⟩ = some (.slice a4 xs.length q4)) (first | exact hc6 | exact keep_set hc6 (by omega) | go_keep) (first | (go_at_call 34; refine (ddrawat_any wA v zs _ P a4 xs.length q4 ?_ (by omega)).mono ?_; exact c5.kept ⟨rfl, rfl, rfl, Nat.le_refl _, fun _ _ => rfl⟩; rintro e w6 ⟨x, rfl, hx0, hx1, c6, g6⟩; have g6' : w5.grownBy w6 (some P) := ⟨g6.os, g6.tape, g6.output, g6.size, g6.block⟩; have hb6 := (g6'.block b hlt5 (by simp; omega)).trans hb5; have ho6 := ho5.kept g6' (own_not ho5 (by omega)); have hc6 : w6.cell? ⟨b, 0, none⟩ = some (.slice a4 xs.length q4) := cell_of_row w6 b 0 _ _ _ hb6; have hr6 : w6.heap[w.heap.size]? = some (.cells #[.slice none 0 0] 26 (0, 0)) := (c6.2.1.block _ (by omega)).trans hr0; have hd6 : w6.cell? ⟨w.heap.size, 0, none⟩ = some (.slice none 0 0) := cell_of_row w6 _ 0 _ _ _ hr6; have hf6 : w6.frozen? ⟨w.heap.size, 0, none⟩ = false := frozen_of_row w6 _ 0 _ _ hr6))
      all_goals
        have hBA : Below w.heap.size w w6 := hB0.trans (c6.2.1.mono hB0.size)
        obtain ⟨p1, p2, p3⟩ := put_pool hr6 ho6 hBA (by omega) (Nat.le_refl _)
        clear hd6 hf6 hc6 hc5
        go_wp2_with fail
        refine bodyPost_ret (results_row_tmp2 rfl _ _ w.heap.size 26 _ (0, 0) _ rfl p1 Tryd.underlying26 rfl Tryd.sizeP) rfl ⟨_, xs, x1, x, rfl, hxl, HZ.out, p2, ⟨hx10, hx11⟩, ⟨hx0, hx1⟩, p3⟩
    | true =>
      obtain ⟨hp, h0, h40⟩ := hbb rfl
      clear hbb
      obtain ⟨v4, hb4, ho4⟩ := pv4
      obtain ⟨a4, q4, rfl⟩ := own_form ho4
      have hc4 : w4.cell? ⟨b, 0, none⟩ = some (.slice a4 xs.length q4) := by rw [cell_of_row w4 _ 0 _ _ _ hb4]; rfl
      have HP : Hid (∀ (i : Nat) (x : Nd), xs[i]? = some x → nodeB x i = true) := fun i x hx => poolB_at hp hx
      go_wp2_with fail
      go_loopw [8] (fun i wr => ∃ (k : Nat) (ys : List Nd), k ≤ xs.length ∧ i = .int .i64 k ∧ (xs.length + k ≤ ys.length ∧ ys.length ≤ xs.length + k) ∧ Hid (∀ j x, j < xs.length → ys[j]? = some x → xs[j]? = some x) ∧ Hid (∀ x ∈ ys, x.s.size ≤ 40) ∧ PV wr b (P + 1) ys ∧ Cur wA v zs wr P) (fun i _ => xs.length - (intOf i).toNat)
      case atStart => exact ⟨0, xs, by omega, rfl, ⟨by omega, by omega⟩, (fun j x _ h => h), HZ, ⟨_, hb4, ho4⟩, c4⟩
      case round =>
        clear hc4 hb4 ho4 c4
        obtain ⟨k, ys, hk, rfl, hyl, HQ, HY, ⟨v5, hb5, ho5⟩, c5⟩ := hrel
        obtain ⟨a5, q5, rfl⟩ := own_form ho5
        have hc5 : wr.cell? ⟨b, 0, none⟩ = some (.slice a5 ys.length q5) := by rw [cell_of_row wr _ 0 _ _ _ hb5]; rfl
        have hlt5 := (Array.getElem?_eq_some_iff.1 hb5).1
        by_cases hlt : k < xs.length
        · obtain ⟨x, hx⟩ : ∃ x, ys[k]? = some x := ⟨ys[k], by simp [show k < ys.length by omega]⟩
          have hxn := HP.out k x (HQ.out k x hlt hx)
          have hx40 := HY.out x (List.mem_of_getElem? hx)
          obtain ⟨ao', cap', e', _, _, _, hcell⟩ := NRow.of_own ho5 (by omega) (fun x hx => Nat.le_trans (HY.out x hx) (by unfold maxLen; omega))
          simp only [Value.slice.injEq, true_and] at e'
          obtain ⟨rfl, rfl⟩ := e'
          obtain ⟨g, o, rfl, hg, hcell⟩ := hcell (ne_of_len h0 hyl.1)
          obtain ⟨d0, d1, d2, d3, d4⟩ := hcell k x hx
          have hgn : ¬ g = wr.heap.size := by omega
          have hbn : ¬ b = wr.heap.size := by omega
          have hky : ((k : Int) < (ys.length : Int)) := by omega
          have hPw := c5.lt
          have ho0 : o = 0 := by
            rcases ho5.2 with ⟨e0, _⟩ | ⟨g0, c0, cur0, e0, _⟩
            · cases e0
            · simp at e0; exact e0.1.2
          subst ho0
          simp only [Nat.zero_add] at d0 d1 d2 d3 d4
          have bx : Bx wA v zs P b g q5 wr.heap.size ys x (wr.alloc (Obj.cells #[.int .i64 x.k, .int .i64 x.n, .string x.s, .int .i64 x.a, .int .i64 x.b] 55)) :=
            ⟨heap_alloc_new _ _, (heap_alloc_old _ _ hlt5).trans hb5, own_below ho5 ((Below.refl _ _).alloc (Nat.le_refl _) _), c5.kept ((Below.refl (P + 1) wr).alloc (by omega) _)⟩
          have HR : Hid (∀ (x' : Nd) (w9 : World), x'.s = x.s → PV w9 b (P + 1) (ys ++ [x']) → Cur wA v zs w9 P → ∃ (k' : Nat) (ys' : List Nd), k' ≤ xs.length ∧ Value.int .i64 ((k : Int) + 1) = .int .i64 k' ∧ (xs.length + k' ≤ ys'.length ∧ ys'.length ≤ xs.length + k') ∧ Hid (∀ j x, j < xs.length → ys'[j]? = some x → xs[j]? = some x) ∧ Hid (∀ x ∈ ys', x.s.size ≤ 40) ∧ PV w9 b (P + 1) ys' ∧ Cur wA v zs w9 P) := fun x' w9 hs hpv hcu =>
            ⟨k + 1, ys ++ [x'], by omega, by simp, ⟨by simp; omega, by simp; omega⟩, (fun j z hj hz => HQ.out j z hj (by rw [List.getElem?_append_left (by omega)] at hz; exact hz)), (fun z hz => by
              simp only [List.mem_append, List.mem_singleton] at hz
              rcases hz with hz | rfl
              · exact HY.out z hz
              · rw [hs]; exact hx40), hpv, hcu⟩
          have hqP : P < wr.heap.size := by omega
          have hqb : wr.heap.size ≠ b := by omega
          have hqg : wr.heap.size ≠ g := by omega
          clear hcell hx hb5 ho5 c5
          obtain ⟨xk, xn, xs', xa, xb⟩ := x
          dsimp only at *
          by_cases h5 : xk = 5
          · subst h5
            go_wp2_with fail
            go_region_with (first | (go_at_call 32; refine (below_any wA v zs _ P 2 ?_ (by omega)).mono ?_; exact bx.cur.kept ⟨rfl, rfl, rfl, Nat.le_refl _, fun _ _ => rfl⟩; rintro e w6 ⟨r, rfl, hr0, hr1, c6, g6⟩; have bx6 := bx.turn (by omega) hb2 c6 ⟨g6.os, g6.tape, g6.output, g6.size, g6.block⟩; have k3 : w6.cell? ⟨wr.heap.size, 0 + 3, none⟩ = some (.int .i64 xa) := cell_of_row w6 _ 3 _ _ _ bx6.box; have f3 : w6.frozen? ⟨wr.heap.size, 0 + 3, none⟩ = false := frozen_of_row w6 _ 3 _ _ bx6.box))
            all_goals
              generalize IntKind.i64.wrap (xa + IntKind.i64.wrap (↑xs.length * r)) = A'
              have bx7 : Bx wA v zs P b g q5 wr.heap.size ys ⟨5, xn, xs', A', xb⟩ (w6.setCell ⟨wr.heap.size, 3, none⟩ (.int .i64 A')) := bx6.put 3 _ hqP hqb hqg (heap_setCell_same w6 wr.heap.size 3 _ _ (.int .i64 A') bx6.box)
              clear k3 f3 bx6 c6 g6 d0 d1 d2 d3 d4 hc5
              generalize w6.setCell ⟨wr.heap.size, 3, none⟩ (.int .i64 A') = w7 at *
              have k0 : w7.cell? ⟨wr.heap.size, 0, none⟩ = some (.int .i64 5) := cell_of_row w7 _ 0 _ _ _ bx7.box
              have k4 : w7.cell? ⟨wr.heap.size, 0 + 4, none⟩ = some (.int .i64 xb) := cell_of_row w7 _ 4 _ _ _ bx7.box
              go_wp2_with fail
              go_region_with (first | (go_at_call 32; refine (below_any wA v zs _ P 2 ?_ (by omega)).mono ?_; exact bx7.cur.kept ⟨rfl, rfl, rfl, Nat.le_refl _, fun _ _ => rfl⟩; rintro e w8 ⟨r', rfl, hr0', hr1', c8, g8⟩; have bx8 := bx7.turn (by omega) hb2 c8 ⟨g8.os, g8.tape, g8.output, g8.size, g8.block⟩; have m4 : w8.cell? ⟨wr.heap.size, 0 + 4, none⟩ = some (.int .i64 xb) := cell_of_row w8 _ 4 _ _ _ bx8.box; have f4 : w8.frozen? ⟨wr.heap.size, 0 + 4, none⟩ = false := frozen_of_row w8 _ 4 _ _ bx8.box))
              all_goals
                generalize IntKind.i64.wrap (xb + IntKind.i64.wrap (↑xs.length * r')) = B'
                have bx9 : Bx wA v zs P b g q5 wr.heap.size ys ⟨5, xn, xs', A', B'⟩ (w8.setCell ⟨wr.heap.size, 4, none⟩ (.int .i64 B')) := bx8.put 4 _ hqP hqb hqg (heap_setCell_same w8 wr.heap.size 4 _ _ (.int .i64 B') bx8.box)
                clear m4 f4 bx8 c8 g8 k0 k4 bx7
                generalize w8.setCell ⟨wr.heap.size, 4, none⟩ (.int .i64 B') = w9 at *
                have n0 : w9.cell? ⟨wr.heap.size, 0, none⟩ = some (.int .i64 5) := cell_of_row w9 _ 0 _ _ _ bx9.box
                have n1 : w9.cell? ⟨wr.heap.size, 0 + 1, none⟩ = some (.int .i64 xn) := cell_of_row w9 _ 1 _ _ _ bx9.box
                have n2 : w9.cell? ⟨wr.heap.size, 0 + 2, none⟩ = some (.string xs') := cell_of_row w9 _ 2 _ _ _ bx9.box
                have n3 : w9.cell? ⟨wr.heap.size, 0 + 3, none⟩ = some (.int .i64 A') := cell_of_row w9 _ 3 _ _ _ bx9.box
                have n4 : w9.cell? ⟨wr.heap.size, 0 + 4, none⟩ = some (.int .i64 B') := cell_of_row w9 _ 4 _ _ _ bx9.box
                go_wp2_with fail
                refine (sadd_any b (P + 1) _ q5 ys ⟨5, xn, xs', A', B'⟩ w9 bx9.pool bx9.row (by omega) (by omega)).mono ?_
                rintro e w10 ⟨v10, rfl, hb10, ho10, hB10⟩
                have hrel' := HR.out ⟨5, xn, xs', A', B'⟩ w10 rfl ⟨_, hb10, ho10⟩ (bx9.cur.kept hB10)
                clear n0 n1 n2 n3 n4 bx9
                go_wp2_with fail
                go_roundw
                case rel => exact hrel'
                case measure => simp [intOf]; omega
          · by_cases h6 : xk = 6
            · subst h6
              go_wp2_with fail
              go_region_with (first | (go_at_call 32; refine (below_any wA v zs _ P 2 ?_ (by omega)).mono ?_; exact bx.cur.kept ⟨rfl, rfl, rfl, Nat.le_refl _, fun _ _ => rfl⟩; rintro e w6 ⟨r, rfl, hr0, hr1, c6, g6⟩; have bx6 := bx.turn (by omega) hb2 c6 ⟨g6.os, g6.tape, g6.output, g6.size, g6.block⟩; have k3 : w6.cell? ⟨wr.heap.size, 0 + 3, none⟩ = some (.int .i64 xa) := cell_of_row w6 _ 3 _ _ _ bx6.box; have f3 : w6.frozen? ⟨wr.heap.size, 0 + 3, none⟩ = false := frozen_of_row w6 _ 3 _ _ bx6.box))
              all_goals
                generalize IntKind.i64.wrap (xa + IntKind.i64.wrap (↑xs.length * r)) = A'
                have bx9 : Bx wA v zs P b g q5 wr.heap.size ys ⟨6, xn, xs', A', xb⟩ (w6.setCell ⟨wr.heap.size, 3, none⟩ (.int .i64 A')) := bx6.put 3 _ hqP hqb hqg (heap_setCell_same w6 wr.heap.size 3 _ _ (.int .i64 A') bx6.box)
                clear k3 f3 bx6 c6 g6 d0 d1 d2 d3 d4 hc5
                generalize w6.setCell ⟨wr.heap.size, 3, none⟩ (.int .i64 A') = w9 at *
                have n0 : w9.cell? ⟨wr.heap.size, 0, none⟩ = some (.int .i64 6) := cell_of_row w9 _ 0 _ _ _ bx9.box
                have n1 : w9.cell? ⟨wr.heap.size, 0 + 1, none⟩ = some (.int .i64 xn) := cell_of_row w9 _ 1 _ _ _ bx9.box
                have n2 : w9.cell? ⟨wr.heap.size, 0 + 2, none⟩ = some (.string xs') := cell_of_row w9 _ 2 _ _ _ bx9.box
                have n3 : w9.cell? ⟨wr.heap.size, 0 + 3, none⟩ = some (.int .i64 A') := cell_of_row w9 _ 3 _ _ _ bx9.box
                have n4 : w9.cell? ⟨wr.heap.size, 0 + 4, none⟩ = some (.int .i64 xb) := cell_of_row w9 _ 4 _ _ _ bx9.box
                go_wp2_with fail
                refine (sadd_any b (P + 1) _ q5 ys ⟨6, xn, xs', A', xb⟩ w9 bx9.pool bx9.row (by omega) (by omega)).mono ?_
                rintro e w10 ⟨v10, rfl, hb10, ho10, hB10⟩
                have hrel' := HR.out ⟨6, xn, xs', A', xb⟩ w10 rfl ⟨_, hb10, ho10⟩ (bx9.cur.kept hB10)
                clear n0 n1 n2 n3 n4 bx9
                go_wp2_with fail
                go_roundw
                case rel => exact hrel'
                case measure => simp [intOf]; omega
            · by_cases h7 : xk = 7
              · subst h7
                go_wp2_with fail
                go_region_with (first | (go_at_call 32; refine (below_any wA v zs _ P 2 ?_ (by omega)).mono ?_; exact bx.cur.kept ⟨rfl, rfl, rfl, Nat.le_refl _, fun _ _ => rfl⟩; rintro e w6 ⟨r, rfl, hr0, hr1, c6, g6⟩; have bx6 := bx.turn (by omega) hb2 c6 ⟨g6.os, g6.tape, g6.output, g6.size, g6.block⟩; have k3 : w6.cell? ⟨wr.heap.size, 0 + 3, none⟩ = some (.int .i64 xa) := cell_of_row w6 _ 3 _ _ _ bx6.box; have f3 : w6.frozen? ⟨wr.heap.size, 0 + 3, none⟩ = false := frozen_of_row w6 _ 3 _ _ bx6.box))
                all_goals
                  generalize IntKind.i64.wrap (xa + IntKind.i64.wrap (↑xs.length * r)) = A'
                  have bx9 : Bx wA v zs P b g q5 wr.heap.size ys ⟨7, xn, xs', A', xb⟩ (w6.setCell ⟨wr.heap.size, 3, none⟩ (.int .i64 A')) := bx6.put 3 _ hqP hqb hqg (heap_setCell_same w6 wr.heap.size 3 _ _ (.int .i64 A') bx6.box)
                  clear k3 f3 bx6 c6 g6 d0 d1 d2 d3 d4 hc5
                  generalize w6.setCell ⟨wr.heap.size, 3, none⟩ (.int .i64 A') = w9 at *
                  have n0 : w9.cell? ⟨wr.heap.size, 0, none⟩ = some (.int .i64 7) := cell_of_row w9 _ 0 _ _ _ bx9.box
                  have n1 : w9.cell? ⟨wr.heap.size, 0 + 1, none⟩ = some (.int .i64 xn) := cell_of_row w9 _ 1 _ _ _ bx9.box
                  have n2 : w9.cell? ⟨wr.heap.size, 0 + 2, none⟩ = some (.string xs') := cell_of_row w9 _ 2 _ _ _ bx9.box
                  have n3 : w9.cell? ⟨wr.heap.size, 0 + 3, none⟩ = some (.int .i64 A') := cell_of_row w9 _ 3 _ _ _ bx9.box
                  have n4 : w9.cell? ⟨wr.heap.size, 0 + 4, none⟩ = some (.int .i64 xb) := cell_of_row w9 _ 4 _ _ _ bx9.box
                  go_wp2_with fail
                  refine (sadd_any b (P + 1) _ q5 ys ⟨7, xn, xs', A', xb⟩ w9 bx9.pool bx9.row (by omega) (by omega)).mono ?_
                  rintro e w10 ⟨v10, rfl, hb10, ho10, hB10⟩
                  have hrel' := HR.out ⟨7, xn, xs', A', xb⟩ w10 rfl ⟨_, hb10, ho10⟩ (bx9.cur.kept hB10)
                  clear n0 n1 n2 n3 n4 bx9
                  go_wp2_with fail
                  go_roundw
                  case rel => exact hrel'
                  case measure => simp [intOf]; omega
              · have e5 : (xk == 5) = false := by simpa using h5
                have e6 : (xk == 6) = false := by simpa using h6
                have e7 : (xk == 7) = false := by simpa using h7
                go_wp2_with fail
                refine (sadd_any b (P + 1) _ q5 ys ⟨xk, xn, xs', xa, xb⟩ _ bx.pool bx.row (by omega) (by omega)).mono ?_
                rintro e w10 ⟨v10, rfl, hb10, ho10, hB10⟩
                have hrel' := HR.out ⟨xk, xn, xs', xa, xb⟩ w10 rfl ⟨_, hb10, ho10⟩ (bx.cur.kept hB10)
                clear bx d0 d1 d2 d3 d4 hc5
                go_wp2_with fail
                go_roundw
                case rel => exact hrel'
                case measure => simp [intOf]; omega
        · go_wp2_with fail
          refine (below_any wA v zs wr P xs.length c5 (by omega)).mono ?_
          rintro e w6 ⟨x, rfl, hx0, hx1, c6, g6⟩
          have hx1 := hx1 (by omega)
          have hb6 := (g6.block b hlt5 (by simp; omega)).trans hb5
          have ho6 := ho5.kept g6 (own_not ho5 (by omega))
          have hc6 : w6.cell? ⟨b, 0, none⟩ = some (.slice a5 ys.length q5) := cell_of_row w6 b 0 _ _ _ hb6
          have hr6 : w6.heap[w.heap.size]? = some (.cells #[.slice none 0 0] 26 (0, 0)) := (c6.2.1.block _ (by omega)).trans hr0
          have hd6 : w6.cell? ⟨w.heap.size, 0, none⟩ = some (.slice none 0 0) := cell_of_row w6 _ 0 _ _ _ hr6
          have hf6 : w6.frozen? ⟨w.heap.size, 0, none⟩ = false := frozen_of_row w6 _ 0 _ _ hr6
          have hBA : Below w.heap.size w w6 := hB0.trans (c6.2.1.mono hB0.size)
          obtain ⟨p1, p2, p3⟩ := put_pool hr6 ho6 hBA (by omega) (Nat.le_refl _)
          clear hc5
          go_wp2_with fail
          refine bodyPost_ret (results_row_tmp2 rfl _ _ w.heap.size 26 _ (0, 0) _ rfl p1 Tryd.underlying26 rfl Tryd.sizeP) rfl ⟨_, ys, x, xs.length + x, rfl, by omega, HY.out, p2, ⟨by omega, by omega⟩, ⟨by omega, by omega⟩, p3⟩
end Go.Proofs.YtmgjefkelohocaaDoor
