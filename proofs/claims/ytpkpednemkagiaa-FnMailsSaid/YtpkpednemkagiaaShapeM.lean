/-
  Texts that stood by themselves, laid into one.
-/
import Derived.Test.YtpkpednemkagiaaDecM
import Derived.Test.YtpkpednemkagiaaNdM
import Derived.Test.YtpkpednemkagiaaRdr8M
import Derived.Laws.CopyOwn
import Derived.Laws.ResultCell
/-
  The contract of the draws' l8Spoil: some text, at most one byte longer. No condition but a bound.
-/
namespace Go.Proofs.Ytpkpednemkagiaa
open Go.RowKit

/-- A text's bytes, laid as a slice: at block g, cap cells, the first of them cs. -/
def CB (w : World) (g cap : Nat) (cs : List Int) : Prop := ∃ cur : Array Value, w.heap[g]? = some (.cells cur 5 (cap, cap + 1)) ∧ cur.size = cap ∧ cs.length ≤ cap ∧ ∀ j, j < cs.length → cur[j]? = some (.int .u8 (cs.getD j 0))
theorem CB.grown {w w' : World} {g cap P : Nat} {cs : List Int} (h : CB w g cap cs) (hg : w.grownBy w' (some P)) (hne : g ≠ P) : CB w' g cap cs := by
  obtain ⟨cur, h1, h2⟩ := h
  exact ⟨cur, (hg.block g (Array.getElem?_eq_some_iff.1 h1).1 (by simpa using hne)).trans h1, h2⟩
theorem CB.below {w w' : World} {g cap : Nat} {cs : List Int} (h : CB w g cap cs) (hb : Below w.heap.size w w') : CB w' g cap cs := by
  obtain ⟨cur, h1, h2⟩ := h
  exact ⟨cur, (hb.block g (Array.getElem?_eq_some_iff.1 h1).1).trans h1, h2⟩
theorem CB.lt {w : World} {g cap : Nat} {cs : List Int} (h : CB w g cap cs) : g < w.heap.size := by
  obtain ⟨cur, h1, _⟩ := h
  exact (Array.getElem?_eq_some_iff.1 h1).1
theorem CB.cell {w : World} {g cap : Nat} {cs : List Int} (h : CB w g cap cs) (j : Nat) (hj : j < cs.length) : w.cell? ⟨g, j, none⟩ = some (.int .u8 (cs.getD j 0)) := by
  obtain ⟨cur, h1, _, _, h4⟩ := h
  rw [cell_of_row w g j _ _ _ h1]
  exact h4 j hj
theorem CB.there {w : World} {g cap : Nat} {cs : List Int} (h : CB w g cap cs) (j : Nat) (hj : j < cap) : (∃ u, w.cell? ⟨g, j, none⟩ = some u) ∧ w.frozen? ⟨g, j, none⟩ = false := by
  obtain ⟨cur, h1, h2, _, _⟩ := h
  refine ⟨⟨cur[j]'(by omega), by rw [cell_of_row w g j _ _ _ h1]; exact Array.getElem?_eq_getElem _⟩, ?_⟩
  simp [World.frozen?, h1]
  omega
theorem CB.set {w : World} {g cap : Nat} {cs : List Int} (h : CB w g cap cs) (i : Nat) (z : Int) (hi : i < cap) : ∀ j, j < cs.length ∨ j = i → (w.setCell ⟨g, i, none⟩ (.int .u8 z)).cell? ⟨g, j, none⟩ = some (.int .u8 (if j = i then z else cs.getD j 0)) := by
  obtain ⟨cur, h1, h2, h3, h4⟩ := h
  intro j hj
  have hs : (w.setCell ⟨g, i, none⟩ (.int .u8 z)).heap[g]? = some (.cells (cur.setIfInBounds i (.int .u8 z)) 5 (cap, cap + 1)) := by
    rw [setCell_eq_setRow w g i cur _ _ _ h1]
    exact setRow_heap w g cur _ _ _ h1
  rw [cell_of_row _ g j _ _ _ hs, Array.getElem?_setIfInBounds]
  by_cases hji : j = i
  · subst hji
    rw [if_pos rfl, if_pos rfl, if_pos (by omega)]
  · rw [if_neg (fun e => hji e.symm), if_neg hji]
    exact h4 j (by omega)

theorem wpList_bytes9 {P : Program} (w : World) {ops : Array Oper} {rest : List Oper} {o : Oper} {a : Act} {Q : Exit → Act → World → Prop} (hg : o.guard = none) (x : Operand) (src dst : TypeId) (ho : o.op = .convert src dst x)
    (hs : P.underlying src = some .string) (hd : P.underlying dst = some (.slice 5)) (he : P.underlying 5 = some (.int .u8)) (s : ByteArray) (hx : a.eval x = .string s)
    (h : ∀ cap w', CB w' w.heap.size cap (sb s) → w.grownBy w' none → w.heap.size < w'.heap.size → wpList P ops Q rest (a.put o.dst (.slice (some ⟨w.heap.size, 0, none⟩) s.size cap)) w') :
    wpList P ops Q (o :: rest) a w := by
  refine wpList_plain hg fun K hK => ?_
  have hr := run_bytes_of_string w src dst 5 s hs hd he
  have hge := grownCap_ge w s.size 0 5
  generalize grownCap w s.size 0 5 = cap at hr hge
  have hsz : (bytesRow s cap).size = cap := by simp [bytesRow]; omega
  rw [hsz] at hr
  have hCB : CB (w.drew.alloc (.cells (bytesRow s cap) 5 (cap, cap + 1))) w.heap.size cap (sb s) := by
    refine ⟨bytesRow s cap, heap_alloc_new w.drew _, hsz, by rw [sb_length]; exact hge, fun j hj => ?_⟩
    exact bytesRow_get s _ j _ (by rw [bv_get (sb s) j hj])
  have hga := World.grownBy_alloc w.drew (Obj.cells (bytesRow s cap) 5 (cap, cap + 1)) none
  unfold Oper.wp
  simp [execOp, ho, hx, hr, Result.andThen]
  exact hK _ _ (h cap _ hCB ⟨hga.os, hga.tape, hga.output, hga.size, hga.block⟩ (by show w.heap.size < (w.heap.push _).size; simp))

theorem wpList_append8 {P : Program} (w : World) {ops : Array Oper} {rest : List Oper} {o : Oper} {a : Act} {Q : Exit → Act → World → Prop} (hgd : o.guard = none) (s x : Operand) (t : TypeId)
    (ho : o.op = .call { callee := .builtin .append, args := #[s, x], argTypes := #[t, t] }) (i : TypeInfo) (ht : P.underlying t = some (.slice 5)) (hi : P.info? 5 = some i) (hz : i.zero = some (.int .u8 0)) (hs1 : i.size = 1) (hb1 : i.bytes = 1)
    (g cap : Nat) (cs : List Int) (hC : CB w g cap cs) (hs : a.eval s = .slice (some ⟨g, 0, none⟩) cs.length cap) (ad : Addr) (hx : a.eval x = .slice (some ad) 1 1) (hnew : w.cell? (ad.add 0) = some (.int .u8 0)) (hl : cs.length ≤ 10000000)
    (h : ∀ g' cap' w', (g' = g ∨ g' = w.heap.size) → w.grownBy w' (some g) → (∀ j, j < cs.length + 1 → w'.cell? ⟨g', j, none⟩ = some (.int .u8 ((cs ++ [0]).getD j 0))) → wpList P ops Q rest (a.put o.dst (.slice (some ⟨g', 0, none⟩) (cs.length + 1) cap')) w') :
    wpList P ops Q (o :: rest) a w := by
  refine wpList_plain hgd fun K hK => ?_
  have hnews : ∀ (j : Nat) u, ([.int .u8 0] : List Value)[j]? = some u → w.cell? (ad.add j) = some u := by
    intro j u hu
    cases j with
    | zero => cases hu; exact hnew
    | succ j => simp at hu
  obtain ⟨g', cap', w', hr, h1, h2, h3⟩ : ∃ g' cap' w', (Builtin.append_ #[t, t] o.type #[.slice (some ⟨g, 0, none⟩) cs.length cap, .slice (some ad) 1 1]).run P w = .ok (.slice (some ⟨g', 0, none⟩) (cs.length + 1) cap') w' ∧ (g' = g ∨ g' = w.heap.size) ∧ w.grownBy w' (some g) ∧ (∀ j, j < cs.length + 1 → w'.cell? ⟨g', j, none⟩ = some (.int .u8 ((cs ++ [0]).getD j 0))) := by
    by_cases hroom : cs.length + 1 ≤ cap
    · obtain ⟨⟨u, hu⟩, hf⟩ := hC.there cs.length (by omega)
      have hst : (storeCells ⟨g, cs.length, none⟩ [.int .u8 0]).run P w = .ok () (w.setCell ⟨g, cs.length, none⟩ (.int .u8 0)) := by
        simp [storeCells, Addr.add]
        rw [run_store P w ⟨g, cs.length, none⟩ _ _ (by rfl)]
        simp [hu, hf]
      have hfc := run_firstCells_some (P := P) w 1 1 ad 1 1 [.int .u8 0] rfl hnews
      refine ⟨g, cap, w.setCell ⟨g, cs.length, none⟩ (.int .u8 0), ?_, .inl rfl, grown_set w g cs.length _, fun j hj => ?_⟩
      · simp [Builtin.append_, run_underlying ht, sizeOf, typeInfo, hi, Builtin.lenOf, hroom, hfc, Addr.add_lit, hst, hs1]
      · rw [hC.set cs.length 0 (by omega) j (by omega)]
        by_cases hje : j = cs.length
        · subst hje; simp
        · rw [if_neg hje]; congr 2; simp [List.getD_eq_getElem?_getD, List.getElem?_append_left (show j < cs.length by omega)]
    · have hr := run_append_grow (P := P) w t o.type 5 i (.int .u8 0) ht hi hz ⟨g, 0, none⟩ cs.length cap (bv cs) (by rw [hs1, bv_length]; omega) (fun j u hu => by
          have hjl : j < cs.length := by have := (List.getElem?_eq_some_iff.1 hu).1; rwa [bv_length] at this
          rw [bv_get cs j hjl] at hu
          cases hu
          rw [Addr.add_lit, Nat.zero_add]
          exact hC.cell j hjl) ad 1 1 [.int .u8 0] (by rw [hs1]; rfl) hnews (by omega) (by omega) (growslice_fits (by omega) (by rw [hb1]; omega))
      refine ⟨_, _, _, hr, .inr rfl, ?_, fun j hj => ?_⟩
      · have hga := World.grownBy_alloc w.drew (Obj.cells ((bv cs).toArray ++ #[Value.int .u8 0] ++ Builtin.zeroCells (Value.int .u8 0).cells (grownCap w (cs.length + 1) cap 5 - (cs.length + 1))) 5) (some g)
        exact ⟨hga.os, hga.tape, hga.output, hga.size, hga.block⟩
      · rw [cell_of_row _ w.heap.size j _ _ _ (heap_alloc_new w.drew _)]
        have : j < ((bv cs).toArray ++ [Value.int .u8 0].toArray).size := by simp [bv_length]; omega
        rw [Array.getElem?_append_left this]
        by_cases hje : j = cs.length
        · subst hje; simp [bv_length]
        · have hjl : j < cs.length := by omega
          rw [Array.getElem?_append_left (by simp [bv_length]; omega), List.getElem?_toArray, bv_get cs j hjl]
          congr 2
          simp [List.getD_eq_getElem?_getD, List.getElem?_append_left hjl]
  unfold Oper.wp execOp
  simp only [ho, resolve, invoke, builtin, Sem.run_bind, Sem.run_pure, Result.andThen_ok, List.map_toArray, List.map_cons, List.map_nil, hs, hx, hr]
  exact hK _ _ (h g' cap' w' h1 h2 h3)

theorem Cur.set_off {w0 : World} {v : Value} {zs : List Int} {w : World} {P g o : Nat} {u : Value} (c : Cur w0 v zs w P) (hb : w0.heap.size ≤ g) (hne : g ≠ P) : Cur w0 v zs (w.setCell ⟨g, o, none⟩ u) P := by
  obtain ⟨R, B, hP, i, h, hi, h1, h2, hh⟩ := c
  exact ⟨R, B.setCell (p := ⟨g, o, none⟩) hb _, hP, i, h, hi, h1, h2, (heap_setCell_other w ⟨g, o, none⟩ P u (fun e => hne e.symm)).trans hh⟩
theorem Cur.kept_new {w0 : World} {v : Value} {zs : List Int} {w w' : World} {P g : Nat} (c : Cur w0 v zs w P) (hg : w.grownBy w' (some g)) (hb : w0.heap.size ≤ g) (hne : g ≠ P) : Cur w0 v zs w' P := by
  have hP := c.lt
  obtain ⟨R, B, hP', i, h, hi, h1, h2, hh⟩ := c
  exact ⟨R, B.grown hg B.size (fun k hk => by cases hk; exact hb), hP', i, h, hi, h1, h2, (hg.block P hP (by simpa using fun e => hne e.symm)).trans hh⟩
theorem grown_new {w w1 w2 : World} {P g : Nat} (h : w.grownBy w1 (some P)) (hg : w.heap.size ≤ g) (k : w1.grownBy w2 (some g)) : w.grownBy w2 (some P) :=
  ⟨k.os.trans h.os, k.tape.trans h.tape, k.output.trans h.output, Nat.le_trans h.size k.size, fun j hj hne => (k.block j (Nat.lt_of_lt_of_le hj h.size) (by simp; omega)).trans (h.block j hj hne)⟩
def picks8 : List Int := [0, 1, 2, 3, 5, 9, 10, 127, 128]
set_option maxRecDepth 100000 in
set_option maxHeartbeats 3200000 in
theorem spoil_any (w0 : World) (v : Value) (zs : List Int) (w : World) (P : Nat) (s : ByteArray) (c : Cur w0 v zs w P) (hs : s.size ≤ 1000000) :
    Calls Try.prog 30 #[.pointer (some ⟨P, 0, none⟩), .string s] w fun e w' => ∃ t : ByteArray, e = .returned (.string t) ∧ t.size ≤ s.size + 1 ∧ Cur w0 v zs w' P ∧ w.grownBy w' (some P) := by
  obtain ⟨i0, hi, hz0, hz1, hz2⟩ := info_parts Try.infoU8
  have hP := c.lt
  have hsl := sb_length s
  by_cases h0 : s.size = 0
  · have h0' : (s.size : Int) = 0 := by omega
    go_enter Try.func30, Try.ntmps30
    go_wp2_with (first | (refine wpList_bytes9 _ rfl _ 9 25 rfl Try.underlying9 Try.underlying25 Try.underlying5 s rfl ?_; intro cap w1 hC1 hg1 hl1))
    go_ret
    exact ⟨s, rfl, by omega, c.kept ⟨hg1.os, hg1.tape, hg1.output, hg1.size, fun k hk => hg1.block k (by omega) (by simp)⟩, ⟨hg1.os, hg1.tape, hg1.output, hg1.size, fun k hk _ => hg1.block k hk (by simp)⟩⟩
  have h0' : ¬ (s.size : Int) = 0 := by omega
  go_enter Try.func30, Try.ntmps30
  go_wp2_with (first | (refine wpList_bytes9 _ rfl _ 9 25 rfl Try.underlying9 Try.underlying25 Try.underlying5 s rfl ?_; intro cap w1 hC1 hg1 hl1))
  have c1 := c.kept (w' := w1) ⟨hg1.os, hg1.tape, hg1.output, hg1.size, fun k hk => hg1.block k (by omega) (by simp)⟩
  have G1 : w.grownBy w1 (some P) := ⟨hg1.os, hg1.tape, hg1.output, hg1.size, fun k hk _ => hg1.block k hk (by simp)⟩
  clear hg1 c
  have hgP : w.heap.size ≠ P := by omega
  obtain ⟨g, hg⟩ : ∃ g, Hid (w.heap.size = g) := ⟨_, rfl⟩
  have hgw : w.heap.size ≤ g := by rw [hg.out]; omega
  rw [hg.out] at hC1 hgP hl1 ⊢
  clear hg
  refine (below_any w0 v zs _ P 6 c1 (by omega)).mono ?_
  rintro e w2 ⟨x, rfl, x0, x6, c2, g2⟩
  have x6 := x6 (by omega)
  have C2 := hC1.grown g2 hgP
  have G2 := grown_trans G1 g2
  clear hC1 c1 G1 g2
  have cells_of : ∀ (W : World) (L : List Int), (∀ j, j < L.length → W.cell? ⟨g, j, none⟩ = some (.int .u8 (L.getD j 0))) → (L.length ≠ 0 → ∃ g' o', some (⟨g, 0, none⟩ : Addr) = some ⟨g', o', none⟩ ∧ ∀ i, i < L.length → W.cell? ⟨g', o' + i, none⟩ = some (.int .u8 (L.getD i 0))) := fun W L h _ => ⟨g, 0, rfl, fun i hi => by rw [Nat.zero_add]; exact h i hi⟩
  rcases (show x = 0 ∨ x = 1 ∨ x = 2 ∨ (x ≠ 0 ∧ x ≠ 1 ∧ x ≠ 2) by omega) with rfl | rfl | rfl | ⟨n0, n1, n2⟩
  · go_wp2_with fail
    refine (below_any w0 v zs _ P s.size c2 (by omega)).mono ?_
    rintro e w3 ⟨i, rfl, i0', i1, c3, g3⟩
    have i1 := i1 (by omega)
    obtain ⟨i, rfl⟩ := Int.eq_ofNat_of_zero_le i0'
    have C3 := C2.grown g3 hgP
    have G3 := grown_trans G2 g3
    have hP3 := c3.lt
    have hB3 : Below w3.heap.size w3 (w3.alloc (Obj.cells (picks8.map (Value.int .i64)).toArray 3)) := (Below.refl _ _).alloc (Nat.le_refl _) _
    clear C2 c2 G2 g3
    go_wp2_with fail
    refine (pick_any w0 v zs _ P w3.heap.size 9 picks8 (c3.kept (hB3.mono (by omega))) (by omega) (by decide) (by decide) (by decide) (fun i hi => ints_new w3 picks8 3 i hi)).mono ?_
    rintro e w4 ⟨y, rfl, y0, y1, c4, g4⟩
    have C4 := (C3.below hB3).grown g4 hgP
    have G4 := grown_trans (grown_trans G3 (grown_below hB3 _)) g4
    clear C3 c3 G3 hB3 g4
    have hcap : s.size ≤ cap := by obtain ⟨_, _, _, h3, _⟩ := id C4; rw [hsl] at h3; exact h3
    obtain ⟨⟨u, hu⟩, hf⟩ := C4.there i (by omega)
    have i1' : (i : Int) < s.size := i1
    have hcl : ∀ j, j < ((sb s).set i (y % 256)).length → (w4.setCell ⟨g, i, none⟩ (.int .u8 (y % 256))).cell? ⟨g, j, none⟩ = some (.int .u8 (((sb s).set i (y % 256)).getD j 0)) := fun j hj => by
      rw [List.length_set] at hj
      rw [C4.set i (y % 256) (by omega) j (Or.inl hj)]
      congr 2
      by_cases hji : j = i
      · subst hji; simp [List.getD_eq_getElem?_getD, hj]
      · rw [if_neg hji]; simp [List.getD_eq_getElem?_getD, show ¬ i = j from fun e => hji e.symm]
    have hln : ((sb s).set i (y % 256)).length = s.size := by rw [List.length_set, hsl]
    have hcc := cells_of _ _ hcl
    rw [hln] at hcc
    go_wp2_with (refine wpList_bytes_string _ rfl _ 25 9 5 rfl Try.underlying25 Try.underlying9 Try.underlying5 _ _ _ ((sb s).set i (y % 256)) rfl hln hcc ?_)
    go_ret
    refine ⟨_, rfl, by rw [strN_size, hln]; omega, c4.set_off (by have := c4.2.2.1; omega) hgP, grown_new G4 hgw (grown_set w4 g i _)⟩
  · go_wp2_with fail
    refine (below_any w0 v zs _ P (s.size + 1) c2 (by omega)).mono ?_
    rintro e w3 ⟨i, rfl, i0', i1, c3, g3⟩
    have i1 := i1 (by omega)
    obtain ⟨i, rfl⟩ := Int.eq_ofNat_of_zero_le i0'
    have C3 := C2.grown g3 hgP
    have G3 := grown_trans G2 g3
    have hcap : s.size ≤ cap := by obtain ⟨_, _, _, h3, _⟩ := id C3; rw [hsl] at h3; exact h3
    have hic : (i : Int) ≤ cap := by omega
    have hcl : ∀ j, j < ((sb s).take i).length → w3.cell? ⟨g, j, none⟩ = some (.int .u8 (((sb s).take i).getD j 0)) := fun j hj => by
      rw [List.length_take] at hj
      rw [C3.cell j (by omega)]
      congr 2
      simp [List.getD_eq_getElem?_getD, show j < i by omega]
    have hln : ((sb s).take i).length = i := by rw [List.length_take, hsl]; omega
    have hcc := cells_of _ _ hcl
    rw [hln] at hcc
    go_wp2_with (refine wpList_bytes_string _ rfl _ 25 9 5 rfl Try.underlying25 Try.underlying9 Try.underlying5 _ _ _ ((sb s).take i) rfl hln hcc ?_)
    go_ret
    exact ⟨_, rfl, by rw [strN_size, hln]; omega, c3, G3⟩
  · have hB3 : Below w2.heap.size w2 (w2.alloc (Obj.cells #[.int .u8 0] 5)) := (Below.refl _ _).alloc (Nat.le_refl _) _
    have C3 := C2.below hB3
    have hP2 := c2.lt
    have c3 := c2.kept (hB3.mono (by omega))
    have G3 := grown_trans G2 (grown_below hB3 (some P))
    have hnw : (w2.alloc (Obj.cells #[.int .u8 0] 5)).cell? ((⟨w2.heap.size, 0, none⟩ : Addr).add 0) = some (.int .u8 0) := by rw [Addr.add_lit, cell_of_row _ _ _ _ _ _ (heap_alloc_new w2 _)]; rfl
    have hs2 : g < w2.heap.size := C2.lt
    go_wp2_with (at_builtin; refine wpList_append8 _ rfl _ _ 25 rfl i0 Try.underlying25 hi hz0 hz1 hz2 g cap (sb s) C3 (by rw [hsl]; rfl) ⟨w2.heap.size, 0, none⟩ rfl hnw (by rw [hsl]; omega) ?_)
    intro g' cap' w4 hat hg4 hcl
    have hcc : s.size + 1 ≠ 0 → ∃ g'' o', some (⟨g', 0, none⟩ : Addr) = some ⟨g'', o', none⟩ ∧ ∀ i, i < s.size + 1 → w4.cell? ⟨g'', o' + i, none⟩ = some (.int .u8 ((sb s ++ [0]).getD i 0)) := fun _ => ⟨g', 0, rfl, fun i hi => by rw [Nat.zero_add]; exact hcl i hi⟩
    have c4 : Cur w0 v zs w4 P := c3.kept_new hg4 (by have := c3.2.2.1; omega) hgP
    have G4 := grown_new G3 hgw hg4
    clear hcl hnw hat hg4
    go_wp2_with (refine wpList_bytes_string _ rfl _ 25 9 5 rfl Try.underlying25 Try.underlying9 Try.underlying5 _ _ _ (sb s ++ [0]) rfl (by rw [List.length_append, hsl]; rfl) hcc ?_)
    go_ret
    exact ⟨_, rfl, by rw [strN_size, List.length_append, hsl]; simp, c4, G4⟩
  · have hcl : ∀ j, j < (sb s).length → w2.cell? ⟨g, j, none⟩ = some (.int .u8 ((sb s).getD j 0)) := fun j hj => C2.cell j hj
    have hcc := cells_of _ _ hcl
    rw [hsl] at hcc
    go_wp2_with (refine wpList_bytes_string _ rfl _ 25 9 5 rfl Try.underlying25 Try.underlying9 Try.underlying5 _ _ _ (sb s) rfl hsl hcc ?_)
    go_ret
    exact ⟨_, rfl, by rw [strN_size, hsl]; omega, c2, G2⟩
end Go.Proofs.Ytpkpednemkagiaa

/-
  Plain mathematics: a number that is got stands there in just the bytes that it is put in. Nothing of the program; no condition.
-/
namespace Go.Proofs.Ytpkpednemkagiaa

theorem scan_len : ∀ (f : Nat) (ys bs : List Int), scan f ys = some bs → bs ≠ [] ∧ bs.length ≤ f ∧ ∃ rest, ys = bs ++ rest
  | 0, _, _, h => by simp [scan] at h
  | _ + 1, [], _, h => by simp [scan] at h
  | f + 1, b :: ys, bs, h => by
    simp only [scan] at h
    split at h
    · cases h; exact ⟨by simp, by simp, ys, rfl⟩
    · cases hs : scan f ys with
      | none => rw [hs] at h; cases h
      | some cs =>
        rw [hs] at h
        cases h
        obtain ⟨h1, h2, rest, h3⟩ := scan_len f ys cs hs
        exact ⟨by simp, by simp; omega, rest, by rw [h3]; rfl⟩
theorem enc_scan : ∀ (f : Nat) (ys bs : List Int), (∀ z ∈ ys, 0 ≤ z ∧ z ≤ 255) → scan f ys = some bs → (1 < bs.length → bs.getLast? ≠ some 0) → enc f (val bs) = bs
  | 0, _, _, _, h, _ => by simp [scan] at h
  | _ + 1, [], _, _, h, _ => by simp [scan] at h
  | f + 1, b :: ys, bs, hz, h, hl => by
    have hb := hz b (by simp)
    simp only [scan] at h
    split at h
    · rename_i hlt
      cases h
      have e : val [b] = b := by simp only [val]; omega
      rw [e, enc_last f b hlt]
    · rename_i hge
      cases hs : scan f ys with
      | none => rw [hs] at h; cases h
      | some cs =>
        rw [hs] at h
        cases h
        obtain ⟨hne, hlen, _⟩ := scan_len f ys cs hs
        have hlast : (b :: cs).getLast? = cs.getLast? := List.getLast?_cons_of_ne_nil hne
        have hl2 : cs.getLast? ≠ some 0 := by
          rw [← hlast]
          apply hl
          have := List.length_pos_iff.2 hne
          simp
          omega
        have ih := enc_scan f ys cs (fun z h => hz z (by simp [h])) hs (fun _ => hl2)
        have hv := (val_bounds cs).1
        have hv1 : 1 ≤ val cs := by
          rcases Int.lt_or_le 0 (val cs) with h0 | h0
          · omega
          · have h00 : val cs = 0 := by omega
            rw [h00] at ih
            cases f with
            | zero => rw [← ih] at hne; simp [enc] at hne
            | succ f =>
              rw [enc_last f 0 (by omega)] at ih
              rw [← ih] at hl2
              simp at hl2
        have e : val (b :: cs) = b % 128 + 128 * val cs := rfl
        rw [e, enc_more f _ (by omega)]
        have e1 : (b % 128 + 128 * val cs) % 128 + 128 = b := by omega
        have e2 : (b % 128 + 128 * val cs) / 128 = val cs := by omega
        rw [e1, e2, ih]
/-- A number that is got: its bytes are there. -/
theorem gN_bytes {zs : List Int} {a x next : Int} (hz : ∀ z ∈ zs, 0 ≤ z ∧ z ≤ 255) (h : gN zs a = (x, next, true)) : 0 ≤ a ∧ 0 ≤ x ∧ next = a + (encI x).length ∧ ∃ rest, zs.drop a.toNat = encI x ++ rest := by
  unfold gN at h
  split at h
  · cases h
  · rename_i ha
    cases hs : scan 9 (zs.drop a.toNat) with
    | none => rw [hs] at h; cases h
    | some bs =>
      rw [hs] at h
      simp only at h
      split at h
      · cases h
      · rename_i hc
        cases h
        have hd : ∀ z ∈ zs.drop a.toNat, 0 ≤ z ∧ z ≤ 255 := fun z h => hz z (List.mem_of_mem_drop h)
        have he := enc_scan 9 _ bs hd hs (fun h1 h2 => hc ⟨h1, h2⟩)
        obtain ⟨_, _, rest, hr⟩ := scan_len 9 _ bs hs
        have hv := (val_bounds bs).1
        have hE : encI (val bs) = bs := by rw [encI_pos _ hv, he]
        exact ⟨by omega, hv, by rw [hE], rest, by rw [hE]; exact hr⟩
end Go.Proofs.Ytpkpednemkagiaa

/-
  Contracts of isNameByte, l2NameByte and the two NameOk: each tells whether a text is a name.
-/
namespace Go.Proofs.Ytpkpednemkagiaa
open Go.RowKit

set_option maxHeartbeats 400000 in
theorem lin_any (x l h : Int) (w : World) : Calls Try.prog 15 #[.int .i64 x, .int .i64 l, .int .i64 h] w fun e w' => e = .returned (.bool (decide (l ≤ x) && decide (x ≤ h))) ∧ w' = w := by
  go_enter Try.func15, Try.ntmps15
  go_wp2
  all_goals go_ret
  all_goals (refine ⟨retB ?_, rfl⟩; rw [Bool.eq_iff_iff]; simp [*]; try omega)

end Go.Proofs.Ytpkpednemkagiaa

/-
  Contracts of impl's shapeOf, nameFits, partFits, nodeFits and PoolOk: when a node and a pool are right.
-/
namespace Go.Proofs.Ytpkpednemkagiaa
open Go.RowKit

/-- A struct in a block of its own and one value more, as results. -/
theorem results_row_tmp {P : Program} {fn : Func} {p u : Tmp} {ty : TypeId} (h : fn.results = #[.cell p ty, .tmp u]) (tmps : Array Value) (w : World) (g : Nat) (t : TypeId) (cs : Array Value) (fr : Nat × Nat) (d : TypeDesc)
    (hp : tmps.getD p undef = .pointer (some ⟨g, 0, none⟩)) (hg : w.heap[g]? = some (.cells cs t fr))
    (hu : P.underlying ty = some d) (hd : (match d with | .struct _ | .array _ _ => true | _ => false) = true) (hi : (P.info? ty).map (·.size) = some cs.size) :
    (results fn tmps).run P w = .ok (.tuple #[.agg cs, tmps.getD u undef]) w := by
  rw [results_cell_tmp h, hp]
  simp [asAddr, run_loadVar_row w g t ty cs fr d hg hu hd hi]

/-- What shapeOf tells of a kind. -/
def shapeV (k : Int) : Value :=
  if 1 ≤ k ∧ k ≤ 9 then .tuple #[.agg #[.int .i64 (lo k), .int .i64 (hi k), .bool (hasS k), .bool (hasA k), .bool (hasB k)], .bool true]
  else .tuple #[.agg #[.int .i64 0, .int .i64 0, .bool false, .bool false, .bool false], .bool false]

end Go.Proofs.Ytpkpednemkagiaa
