/-
  Contract of a link's heldWindow: a window with all that is held. No condition.
-/
import Derived.Test.YtgjebgdingahjaaWHold
import Derived.Test.YtgjebgdingahjaaWPass
import Derived.Deep.RegionHeld
namespace Go.Proofs.Ytgjebgdingahjaa
open Go.RowKit Go.Maps

theorem heldB_cnt {e z : Int} {h : List Pc} (hb : heldB e z h = true) (hz : z < e) : (h.length : Int) ≤ e - z - 1 := by
  induction h generalizing z with
  | nil => simp; omega
  | cons p ps ih =>
    simp only [heldB, Bool.and_eq_true, decide_eq_true_eq] at hb
    have := ih hb.2.2 hb.2.1
    simp only [List.length_cons]
    omega
theorem heldB_few {e z : Int} {h : List Pc} (hb : heldB e z h = true) (he : e ≤ z + 4) : h.length ≤ 3 := by
  by_cases hz : z < e
  · have := heldB_cnt hb hz
    omega
  · cases h with
    | nil => simp
    | cons p ps =>
      simp only [heldB, Bool.and_eq_true, decide_eq_true_eq] at hb
      omega
/-- What is held in order is held behind all. -/
theorem holdL_last {ps : List Pc} {x : Pc} (h : ∀ p ∈ ps, p.n < x.n) : holdL x ps = ps ++ [x] := by
  induction ps with
  | nil => rfl
  | cons p ps ih =>
    simp only [holdL]
    rw [if_pos (h p List.mem_cons_self), ih (fun q hq => h q (List.mem_cons_of_mem _ hq))]
    rfl
theorem Asc.take {ps : List Pc} (h : Asc ps) (j : Nat) : Asc (ps.take j) := List.Pairwise.sublist (List.take_sublist j ps) h
/-- The next one of what is held comes behind all. -/
theorem hl_next {l : Lk} {j : Nat} {x : Pc} (hb : heldB (lend l) l.got l.h = true) (hx : l.h[j]? = some x) : hl l.got (lend l) x (l.h.take j) = l.h.take (j + 1) := by
  obtain ⟨ha, hr⟩ := heldB_asc hb
  obtain ⟨hj, rfl⟩ := List.getElem?_eq_some_iff.1 hx
  have hxr := hr _ (List.getElem_mem hj)
  unfold hl
  rw [if_pos ⟨by omega, hxr.2⟩, holdL_last, List.take_succ_eq_append_getElem hj]
  intro p hp
  rw [List.mem_take_iff_getElem] at hp
  obtain ⟨a, ha', rfl⟩ := hp
  exact List.pairwise_iff_getElem.1 ha a j (by omega) hj (by omega)

set_option maxRecDepth 100000 in
set_option maxHeartbeats 3200000 in
theorem lheldwin_any (v1 v2 : Value) (l : Lk) (w : World) (hb : linkB l = true) (a1 : Option Addr) (n1 c1 : Nat) (e1 : v1 = .slice a1 n1 c1) (R : PcRow w v2 l.h) :
    Calls Try.prog 14 #[.agg #[.int .i64 l.sent, .int .i64 l.acked, v1, .int .i64 l.got, v2]] w fun e w' => ∃ bw v mb n ns, e = .returned (.pointer (some ⟨bw, 0, none⟩)) ∧ WS w' w.heap.size bw l.got (lend l) v mb n ns l.h ∧ Hid (ns = l.h.map (·.n)) ∧ n ≤ 3 ∧ Below w.heap.size w w' := by
  subst e1
  have RR := R
  obtain ⟨a2, c2, rfl, hcap, hm, hz, hcell⟩ := R
  obtain ⟨i1, i2, i3, i4, i5, i6⟩ := linkB_nums hb
  have hh := hb
  rw [linkB_held ⟨i1, i2, i3, i4, i5, i6⟩] at hh
  have hl3 : l.h.length ≤ 3 := heldB_few hh (by unfold lend; split <;> omega)
  have HH : Hid (heldB (lend l) l.got l.h = true) := hh
  have ha := (heldB_asc hh).1
  have hle : lend l ≤ 100000 := by unfold lend; split <;> omega
  have HNX : Hid (∀ (j : Nat) (x : Pc), l.h[j]? = some x → hl l.got (lend l) x (l.h.take j) = l.h.take (j + 1)) := fun j x hx => hl_next hh hx
  have hB0 : Below w.heap.size w (w.alloc (Obj.cells #[.int .i64 l.sent, .int .i64 l.acked, .slice a1 n1 c1, .int .i64 l.got, .slice a2 l.h.length c2] 27)) := (Below.refl _ _).alloc (Nat.le_refl _) _
  have LW := fun w => lwinend_any (.slice a1 n1 c1) (.slice a2 l.h.length c2) l w (by omega) i3 i4 a1 n1 c1 rfl a2 l.h.length c2 rfl
  clear hh i5
  generalize lend l = E at *
  have hx0 := heap_alloc_new w (Obj.cells #[.int .i64 l.sent, .int .i64 l.acked, .slice a1 n1 c1, .int .i64 l.got, .slice a2 l.h.length c2] 27)
  have hmm := fun w => run_makeMap (P := Try.prog) 47 w
  go_enter Try.func14, Try.ntmps14
  go_wp2_with fail
  generalize hw0 : w.alloc (Obj.cells #[.int .i64 l.sent, .int .i64 l.acked, .slice a1 n1 c1, .int .i64 l.got, .slice a2 l.h.length c2] 27) = w0 at *
  have hs0 := (Array.getElem?_eq_some_iff.1 hx0).1
  clear hw0
  have x0 : w0.cell? ⟨w.heap.size, 0, none⟩ = some (.int .i64 l.sent) := cell_of_row w0 _ 0 _ _ _ hx0
  have x1 : w0.cell? ⟨w.heap.size, 1, none⟩ = some (.int .i64 l.acked) := cell_of_row w0 _ 1 _ _ _ hx0
  have x2 : w0.cell? ⟨w.heap.size, 2, none⟩ = some (.slice a1 n1 c1) := cell_of_row w0 _ 2 _ _ _ hx0
  have x3 : w0.cell? ⟨w.heap.size, 3, none⟩ = some (.int .i64 l.got) := cell_of_row w0 _ 3 _ _ _ hx0
  have x4 : w0.cell? ⟨w.heap.size, 4, none⟩ = some (.slice a2 l.h.length c2) := cell_of_row w0 _ 4 _ _ _ hx0
  have hne : ¬ w.heap.size = w0.heap.size := by omega
  have sS : w0.cell? ⟨w.heap.size, 0, none⟩ = some (.int .i64 l.sent) ∧ w0.cell? ⟨w.heap.size, 1, none⟩ = some (.int .i64 l.acked) ∧ w0.cell? ⟨w.heap.size, 2, none⟩ = some (.slice a1 n1 c1) ∧ w0.cell? ⟨w.heap.size, 3, none⟩ = some (.int .i64 l.got) ∧ w0.cell? ⟨w.heap.size, 4, none⟩ = some (.slice a2 l.h.length c2) := ⟨x0, x1, x2, x3, x4⟩
  clear x0 x1 x2 x3 x4
  have hbox : ∀ W : World, W.heap[w.heap.size]? = some (.cells #[.int .i64 l.sent, .int .i64 l.acked, .slice a1 n1 c1, .int .i64 l.got, .slice a2 l.h.length c2] 27 (0, 0)) → W.cell? ⟨w.heap.size, 0, none⟩ = some (.int .i64 l.sent) ∧ W.cell? ⟨w.heap.size, 1, none⟩ = some (.int .i64 l.acked) ∧ W.cell? ⟨w.heap.size, 2, none⟩ = some (.slice a1 n1 c1) ∧ W.cell? ⟨w.heap.size, 3, none⟩ = some (.int .i64 l.got) ∧ W.cell? ⟨w.heap.size, 4, none⟩ = some (.slice a2 l.h.length c2) := fun W h => ⟨cell_of_row W _ 0 _ _ _ h, cell_of_row W _ 1 _ _ _ h, cell_of_row W _ 2 _ _ _ h, cell_of_row W _ 3 _ _ _ h, cell_of_row W _ 4 _ _ _ h⟩
  go_region_held (fun w' => w'.cell? ⟨w.heap.size, 0, none⟩ = some (.int .i64 l.sent) ∧ w'.cell? ⟨w.heap.size, 1, none⟩ = some (.int .i64 l.acked) ∧ w'.cell? ⟨w.heap.size, 2, none⟩ = some (.slice a1 n1 c1) ∧ w'.cell? ⟨w.heap.size, 3, none⟩ = some (.int .i64 l.got) ∧ w'.cell? ⟨w.heap.size, 4, none⟩ = some (.slice a2 l.h.length c2)) (first | exact s1 | go_keep) (first | (go_at_call 19; refine (LW _).mono ?_; rintro e w1 ⟨rfl, hb1⟩; have hx1 : w1.heap[w.heap.size]? = some (.cells #[.int .i64 l.sent, .int .i64 l.acked, .slice a1 n1 c1, .int .i64 l.got, .slice a2 l.h.length c2] 27 (0, 0)) := (hb1.block _ (by simp; omega)).trans (by first | exact hx0 | exact (heap_alloc_old _ _ hs0).trans hx0); have s1 := hbox w1 hx1))
  rotate_left
  · have hm1 : w.heap.size ≤ (w0.alloc (Obj.map #[] 0)).heap.size := by simp; omega
    have hB1 : Below w.heap.size w w1 := (hB0.alloc hB0.size (Obj.map #[] 0)).drew.trans (hb1.mono hm1)
    clear hm1
    have hD1 := (World.ownsMap_made (H := Unit) w0 Try.prog 3 pcR).drew.kept (grown_below2 hb1 none) (by simp)
    have hs1 := hb1.size
    have hBz := hB1.alloc hB1.size (Obj.cells #[.int .i64 l.got, .int .i64 E, .slice none 0 0, .map (some w0.heap.size)] 49)
    have hxz := (heap_alloc_old w1 (Obj.cells #[.int .i64 l.got, .int .i64 E, .slice none 0 0, .map (some w0.heap.size)] 49) (Array.getElem?_eq_some_iff.1 hx1).1).trans hx1
    have Wz : WS (w1.alloc (Obj.cells #[.int .i64 l.got, .int .i64 E, .slice none 0 0, .map (some w0.heap.size)] 49)) w.heap.size w1.heap.size l.got E (.slice none 0 0) w0.heap.size 0 [] [] :=
      ⟨heap_alloc_new _ _, ⟨rfl, Or.inl ⟨rfl, rfl⟩⟩, ⟨_, hD1.alloc _, MapIs.nil⟩, hB1.size, by omega⟩
    clear hB1 hD1 hs1 hx1 hb1 s1 hbox sS hmm LW hs0 hne hx0 hB0
    generalize (w1.alloc (Obj.cells #[.int .i64 l.got, .int .i64 E, .slice none 0 0, .map (some w0.heap.size)] 49)) = wz at *
    generalize w1.heap.size = bw at *
    generalize w0.heap.size = mb at *
    go_wp2_with fail
    have y4 := cell_of_row wz _ 4 _ _ _ hxz
    simp only [List.getElem?_toArray, List.getElem?_cons_zero, List.getElem?_cons_succ] at y4
    go_wp2_with fail
    go_loopw [16] (fun i wr => ∃ (j n : Nat) (v : Value) (ns : List Int), j ≤ l.h.length ∧ i = .int .i64 j ∧ n ≤ j ∧ Hid (ns = (l.h.take j).map (·.n)) ∧ WS wr w.heap.size bw l.got E v mb n ns (l.h.take j) ∧ Below w.heap.size w wr) (fun i _ => l.h.length - (intOf i).toNat)
    case atStart => exact ⟨0, 0, _, [], by omega, rfl, by omega, rfl, Wz, hBz⟩
    case round =>
      clear Wz hBz y4 hxz
      obtain ⟨j, nn, vv, ns, hj, rfl, hnj, HNS, Wr, hbr⟩ := hrel
      by_cases hlt : j < l.h.length
      · obtain ⟨g, o, rfl, hg, hcell⟩ := hcell (by intro e; rw [e] at hlt; simp at hlt)
        obtain ⟨x, hx⟩ : ∃ x, l.h[j]? = some x := ⟨l.h[j], by simp [hlt]⟩
        obtain ⟨k0, k1⟩ := (hcell j x hx).below hbr hg
        have HX : Hid (hl l.got E x (l.h.take j) = l.h.take (j + 1)) := HNX.out j x hx
        have hba : Below wr.heap.size wr (wr.alloc (Obj.cells #[.int .i64 x.n, .string x.s] 36)) := (Below.refl _ _).alloc (Nat.le_refl _) _
        have Wa := Wr.kept hba
        have hBa := hbr.trans (hba.mono hbr.size)
        have WH := whold_any _ w.heap.size bw l.got E vv mb nn ns (l.h.take j) x Wa HNS (ha.take j) (by simp; omega) (by omega) (by omega) (by omega) hBa.size
        clear hcell hx hba Wr
        go_wp2_with fail
        refine WH.mono ?_
        rintro e w4 ⟨rfl, hb4, v', n', ns', hn', HN', W4⟩
        rw [HX.out] at W4 HN'
        have hB4 := hBa.trans hb4
        clear WH Wa hBa hb4 k0 k1 hbr
        go_wp2
        go_roundw
        case rel => exact ⟨j + 1, n', v', ns', by omega, by go_num, by omega, HN', W4, hB4⟩
        case measure => simp [intOf]; omega
      · have hjj : j = l.h.length := by omega
        subst hjj
        rw [List.take_length] at Wr HNS
        clear hcell
        go_wp2
        go_ret
        exact ⟨_, _, _, _, _, rfl, Wr, HNS, by omega, hbr⟩
  · have hB1 : Below w.heap.size w w1 := hB0.drew.trans (hb1.mono hB0.size)
    have hBz := (hB1.alloc hB1.size (Obj.map #[] 0)).alloc (by have := hB1.size; simp; omega) (Obj.cells #[.int .i64 l.got, .int .i64 E, .slice none 0 0, .map (some w1.heap.size)] 49)
    have sx1 := (Array.getElem?_eq_some_iff.1 hx1).1
    have hxz := (heap_alloc_old (w1.alloc (Obj.map #[] 0)) (Obj.cells #[.int .i64 l.got, .int .i64 E, .slice none 0 0, .map (some w1.heap.size)] 49) (by simp; omega)).trans ((heap_alloc_old w1 (Obj.map #[] 0) sx1).trans hx1)
    have Wz : WS ((w1.alloc (Obj.map #[] 0)).alloc (Obj.cells #[.int .i64 l.got, .int .i64 E, .slice none 0 0, .map (some w1.heap.size)] 49)) w.heap.size (w1.heap.size + 1) l.got E (.slice none 0 0) w1.heap.size 0 [] [] :=
      ⟨heap_alloc2_new _ _ _, ⟨rfl, Or.inl ⟨rfl, rfl⟩⟩, ⟨_, (World.ownsMap_made (H := Unit) w1 Try.prog 3 pcR).alloc _, MapIs.nil⟩, by have := hB1.size; omega, hB1.size⟩
    clear hB1 hx1 hb1 s1 hbox sS hmm LW hs0 hne hx0 hB0 sx1
    generalize ((w1.alloc (Obj.map #[] 0)).alloc (Obj.cells #[.int .i64 l.got, .int .i64 E, .slice none 0 0, .map (some w1.heap.size)] 49)) = wz at *
    generalize w1.heap.size + 1 = bw at *
    generalize w1.heap.size = mb at *
    go_wp2_with fail
    have y4 := cell_of_row wz _ 4 _ _ _ hxz
    simp only [List.getElem?_toArray, List.getElem?_cons_zero, List.getElem?_cons_succ] at y4
    go_wp2_with fail
    go_loopw [16] (fun i wr => ∃ (j n : Nat) (v : Value) (ns : List Int), j ≤ l.h.length ∧ i = .int .i64 j ∧ n ≤ j ∧ Hid (ns = (l.h.take j).map (·.n)) ∧ WS wr w.heap.size bw l.got E v mb n ns (l.h.take j) ∧ Below w.heap.size w wr) (fun i _ => l.h.length - (intOf i).toNat)
    case atStart => exact ⟨0, 0, _, [], by omega, rfl, by omega, rfl, Wz, hBz⟩
    case round =>
      clear Wz hBz y4 hxz
      obtain ⟨j, nn, vv, ns, hj, rfl, hnj, HNS, Wr, hbr⟩ := hrel
      by_cases hlt : j < l.h.length
      · obtain ⟨g, o, rfl, hg, hcell⟩ := hcell (by intro e; rw [e] at hlt; simp at hlt)
        obtain ⟨x, hx⟩ : ∃ x, l.h[j]? = some x := ⟨l.h[j], by simp [hlt]⟩
        obtain ⟨k0, k1⟩ := (hcell j x hx).below hbr hg
        have HX : Hid (hl l.got E x (l.h.take j) = l.h.take (j + 1)) := HNX.out j x hx
        have hba : Below wr.heap.size wr (wr.alloc (Obj.cells #[.int .i64 x.n, .string x.s] 36)) := (Below.refl _ _).alloc (Nat.le_refl _) _
        have Wa := Wr.kept hba
        have hBa := hbr.trans (hba.mono hbr.size)
        have WH := whold_any _ w.heap.size bw l.got E vv mb nn ns (l.h.take j) x Wa HNS (ha.take j) (by simp; omega) (by omega) (by omega) (by omega) hBa.size
        clear hcell hx hba Wr
        go_wp2_with fail
        refine WH.mono ?_
        rintro e w4 ⟨rfl, hb4, v', n', ns', hn', HN', W4⟩
        rw [HX.out] at W4 HN'
        have hB4 := hBa.trans hb4
        clear WH Wa hBa hb4 k0 k1 hbr
        go_wp2
        go_roundw
        case rel => exact ⟨j + 1, n', v', ns', by omega, by go_num, by omega, HN', W4, hB4⟩
        case measure => simp [intOf]; omega
      · have hjj : j = l.h.length := by omega
        subst hjj
        rw [List.take_length] at Wr HNS
        clear hcell
        go_wp2
        go_ret
        exact ⟨_, _, _, _, _, rfl, Wr, HNS, by omega, hbr⟩
end Go.Proofs.Ytgjebgdingahjaa
