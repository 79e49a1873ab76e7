/-
  Texts that stood by themselves, laid into one.
-/
import Derived.Test.YtbhfooafhbfniaaGreatDoorSR8M
import Derived.Test.YtbhfooafhbfniaaGreatDoorR8bM
import Derived.Test.YtbhfooafhbfniaaGreatDoorShapeM
import Derived.Deep.RegionHeld3
/-
  One text more is read: plain mathematics. No condition.
-/
namespace Go.Proofs.YtbhfooafhbfniaaGreatDoor
open Go.RowKit
def rt (zs : List Int) (a : Int) : Option (ByteArray × Int) := if (gT zs a).2.2 then some ((gT zs a).1, (gT zs a).2.1) else none
def txt8 (zs : List Int) (at_ : Int) (ok : Bool) : ByteArray × Int × Bool := if ok && (gT zs at_).2.2 then ((gT zs at_).1, (gT zs at_).2.1, true) else (⟨#[]⟩, at_, false)
theorem gT_range (zs : List Int) (a : Int) : 0 ≤ (gT zs a).2.1 ∧ (gT zs a).2.1 ≤ zs.length := by
  unfold gT
  split
  · rename_i hc
    obtain ⟨h1, h2⟩ := hc
    have hg := gN_ok zs a (gN zs a).1 (gN zs a).2.1 (by rw [← h1])
    show 0 ≤ (gN zs a).2.1 + (gN zs a).1 ∧ (gN zs a).2.1 + (gN zs a).1 ≤ zs.length
    omega
  · show (0 : Int) ≤ 0 ∧ (0 : Int) ≤ zs.length
    omega
end Go.Proofs.YtbhfooafhbfniaaGreatDoor
/-
  Contracts of (impl.reader).text and impl.GetText, for every slice of bytes within the form's reach and every place.
-/
namespace Go.Proofs.YtbhfooafhbfniaaGreatDoor
open Go.RowKit
set_option maxRecDepth 100000 in
set_option maxHeartbeats 800000 in
theorem text_any (v : Value) (zs : List Int) (P : Nat) (a : Int) (w0 w : World) (R : Row w0 v zs) (hb : Below w0.heap.size w0 w) (hP : w0.heap.size ≤ P) (h : One w P a) :
    Calls Tryz.prog 182 #[.agg #[v, .pointer (some ⟨P, 0, none⟩)]] w fun e w' =>
      e = .returned (.tuple #[.string (gT zs a).1, .bool (gT zs a).2.2]) ∧ (∃ q, One w' P q ∧ ((gT zs a).2.2 = true → q = (gT zs a).2.1)) ∧ w.grownBy w' (some P) := by
  have R' := R
  obtain ⟨ao, cap, rfl, hcap, hm, hz, hcell⟩ := R'
  clear hz
  have hPs := h.lt
  go_enter Tryz.func182, Tryz.ntmps182
  go_wp2_with fail
  have hbel : Below w0.heap.size w0 (w.alloc (Obj.cells #[Value.slice ao zs.length cap, Value.pointer (some ⟨P, 0, none⟩)] 177)) := hb.alloc hb.size _
  have hone : One (w.alloc (Obj.cells #[Value.slice ao zs.length cap, Value.pointer (some ⟨P, 0, none⟩)] 177)) P a := h.kept (World.grownBy_alloc w _ none) (by simp)
  refine (num_any _ zs P a w0 _ R hbel hP hone).mono ?_
  rintro e w1 ⟨rfl, ⟨q, hone1, hq⟩, hgr⟩
  have hsz : w.heap.size < (w.alloc (Obj.cells #[Value.slice ao zs.length cap, Value.pointer (some ⟨P, 0, none⟩)] 177)).heap.size := by simp
  have hbox : w1.heap[w.heap.size]? = some (.cells #[Value.slice ao zs.length cap, Value.pointer (some ⟨P, 0, none⟩)] 177 (0, 0)) := (hgr.block _ hsz (by simp; omega)).trans (heap_alloc_new w _)
  have hb0 : w1.cell? ⟨w.heap.size, 0, none⟩ = some (.slice ao zs.length cap) := by rw [cell_of_row w1 _ 0 _ 177 (0, 0) hbox]; rfl
  have hb1 : w1.cell? ⟨w.heap.size, 1, none⟩ = some (.pointer (some ⟨P, 0, none⟩)) := by rw [cell_of_row w1 _ 1 _ 177 (0, 0) hbox]; rfl
  have hc := hone1.cell
  have hf := hone1.free
  have hgr1 : w.grownBy w1 (some P) := grown_trans (World.grownBy_alloc w _ _) hgr
  have hbel1 : Below w0.heap.size w0 w1 := hbel.grown hgr hbel.size (fun k hk => by simp at hk; omega)
  clear hbel hone hsz hbox hgr R
  generalize hg : gN zs a = r at hq ⊢
  obtain ⟨n, next, ok⟩ := r
  have HG : Hid (gN zs a = (n, next, ok)) := hg
  clear hg
  cases ok with
  | false =>
    have HT : Hid (gT zs a = (⟨#[]⟩, 0, false)) := gT_no zs a n next false HG.out (Or.inl rfl)
    clear hq
    go_wp2_with fail
    go_ret2
    exact ⟨by rw [HT.out]; rfl, ⟨q, hone1, by rw [HT.out]; intro h; cases h⟩, hgr1⟩
  | true =>
    obtain ⟨h1, h2, h3, h4⟩ := gN_ok zs a n next HG.out
    obtain ⟨n, rfl⟩ := Int.eq_ofNat_of_zero_le h1
    obtain ⟨next, rfl⟩ := Int.eq_ofNat_of_zero_le h3
    obtain rfl : q = (next : Int) := hq rfl
    clear hq
    by_cases hout : (zs.length : Int) - next < n
    · have HT : Hid (gT zs a = (⟨#[]⟩, 0, false)) := gT_no zs a _ _ true HG.out (Or.inr hout)
      go_wp2_with fail
      go_ret2
      exact ⟨by rw [HT.out]; rfl, ⟨_, hone1, by rw [HT.out]; intro h; cases h⟩, hgr1⟩
    · have HT : Hid (gT zs a = (strOfNums ((zs.drop next).take n), (next : Int) + n, true)) := gT_yes zs a n next HG.out (by omega)
      have hle : next + n ≤ zs.length := by omega
      have hcell2 : zs ≠ [] → ∃ g o, ao = some ⟨g, o, none⟩ ∧ g < (w1.setCell ⟨P, 0, none⟩ (.int .i64 ((next : Int) + n))).heap.size ∧ ∀ i, i < zs.length → (w1.setCell ⟨P, 0, none⟩ (.int .i64 ((next : Int) + n))).cell? ⟨g, o + i, none⟩ = some (.int .u8 (zs.getD i 0)) := by
        intro hne
        obtain ⟨g, o, rfl, hg, hcell⟩ := hcell hne
        have hs := hbel1.size
        refine ⟨g, o, rfl, by simp [World.setCell]; omega, fun i hi => ?_⟩
        rw [World.cell?_of_block (w := w1) (heap_setCell_other w1 ⟨P, 0, none⟩ g _ (by simp; omega)), hbel1.cell (p := ⟨g, o + i, none⟩) hg]
        exact hcell i hi
      clear hcell
      go_wp2_with (refine wpList_bytes_string _ rfl _ 143 9 5 rfl Tryz.underlying143 Tryz.underlying9 Tryz.underlying5 _ _ _ ((zs.drop next).take n) rfl (by rw [cut_length zs next n hle]; omega) (by rw [Nat.add_sub_cancel_left]; simpa using cut_cells hcell2 next n hle hcap) ?_)
      all_goals go_ret2
      all_goals exact ⟨by rw [HT.out]; rfl, ⟨_, hone1.set _, by rw [HT.out]; intro _; rfl⟩, grown_trans hgr1 (grown_set w1 P 0 _)⟩
end Go.Proofs.YtbhfooafhbfniaaGreatDoor
/-
  Contracts of impl.readerOf and (impl.reader).end. No condition but bounds.
-/
namespace Go.Proofs.YtbhfooafhbfniaaGreatDoor
open Go.RowKit
theorem strN_size (l : List Int) : (strOfNums l).size = l.length := by
  unfold strOfNums
  simp [ByteArray.size]
def badV (p : Int) : Value := .iface 196 (.agg #[.int .i64 p])
def EndAns (b : Int) (n : Nat) (r : Value) : Prop := (b < n ∧ ∃ p, r = badV p) ∨ (¬ b < n ∧ r = .nilIface)
set_option maxHeartbeats 800000 in
theorem rend_any (v : Value) (zs : List Int) (P : Nat) (b : Int) (w : World) (R : ∃ ao cap, v = .slice ao zs.length cap) (h1 : One w P b) :
    Calls Tryz.prog 146 #[.agg #[v, .pointer (some ⟨P, 0, none⟩)]] w fun e w' => ∃ r, e = .returned r ∧ EndAns b zs.length r ∧ Below w.heap.size w w' := by
  obtain ⟨ao, cap, rfl⟩ := R
  have hB0 : Below w.heap.size w (w.alloc (Obj.cells #[Value.slice ao zs.length cap, Value.pointer (some ⟨P, 0, none⟩)] 177)) := (Below.refl _ _).alloc (Nat.le_refl _) _
  have h2 := h1.below hB0 h1.lt
  have hc := h2.cell
  obtain ⟨W, hW⟩ : ∃ W, w.alloc (Obj.cells #[Value.slice ao zs.length cap, Value.pointer (some ⟨P, 0, none⟩)] 177) = W := ⟨_, rfl⟩
  have hx : W.heap[w.heap.size]? = some (.cells #[Value.slice ao zs.length cap, Value.pointer (some ⟨P, 0, none⟩)] 177 (0, 0)) := by rw [← hW]; exact heap_alloc_new _ _
  rw [hW] at hB0 h2 hc
  have b0 : W.cell? ⟨w.heap.size, 0, none⟩ = some (.slice ao zs.length cap) := cell_of_row W _ 0 _ _ _ hx
  have b1 : W.cell? ⟨w.heap.size, 1, none⟩ = some (.pointer (some ⟨P, 0, none⟩)) := cell_of_row W _ 1 _ _ _ hx
  go_enter Tryz.func146, Tryz.ntmps146
  go_wp2_with fail
  go_quiet (fail)
  by_cases hlt : b < zs.length
  · have HE : ∀ p, EndAns b zs.length (badV p) := fun p => Or.inl ⟨hlt, p, rfl⟩
    go_wp2
    go_ret
    exact ⟨_, rfl, HE _, hB0.trans ⟨rfl, rfl, rfl, Nat.le_refl _, fun _ _ => rfl⟩⟩
  · have HE : EndAns b zs.length .nilIface := Or.inr ⟨hlt, rfl⟩
    go_wp2
    go_ret
    exact ⟨_, rfl, HE, hB0.trans ⟨rfl, rfl, rfl, Nat.le_refl _, fun _ _ => rfl⟩⟩
theorem wpList_bytes8 {P : Program} (w : World) {ops : Array Oper} {rest : List Oper} {o : Oper} {a : Act} {Q : Exit → Act → World → Prop} (hg : o.guard = none) (x : Operand) (src dst e : TypeId) (ho : o.op = .convert src dst x)
    (hs : P.underlying src = some .string) (hd : P.underlying dst = some (.slice e)) (he : P.underlying e = some (.int .u8)) (s : ByteArray) (hx : a.eval x = .string s)
    (h : ∀ cap w', s.size ≤ cap → (∀ j u, (bv (sb s))[j]? = some u → w'.cell? ((⟨w.heap.size, 0, none⟩ : Addr).add j) = some u) → w.grownBy w' none → w.heap.size < w'.heap.size → wpList P ops Q rest (a.put o.dst (.slice (some ⟨w.heap.size, 0, none⟩) s.size cap)) w') :
    wpList P ops Q (o :: rest) a w := by
  refine wpList_plain hg fun K hK => ?_
  obtain ⟨cap, w', hrun, h0, h1, h2, h3⟩ : ∃ cap w', (convert src dst (.string s)).run P w = .ok (.slice (some ⟨w.heap.size, 0, none⟩) s.size cap) w' ∧ s.size ≤ cap ∧
      (∀ j u, (bv (sb s))[j]? = some u → w'.cell? ((⟨w.heap.size, 0, none⟩ : Addr).add j) = some u) ∧ w.grownBy w' none ∧ w.heap.size < w'.heap.size := by
    refine ⟨_, _, run_bytes_of_string w src dst e s hs hd he, ?_, ?_, ?_, ?_⟩
    · exact grownCap_ge _ _ _ _
    · intro j u hu
      rw [Addr.add_lit, Nat.zero_add, cell_of_row _ w.heap.size j _ e _ (heap_alloc_new w.drew _)]
      exact bytesRow_get s _ j u hu
    · have hga := World.grownBy_alloc w.drew (Obj.cells (bytesRow s (grownCap w s.size 0 e)) e ((bytesRow s (grownCap w s.size 0 e)).size, (bytesRow s (grownCap w s.size 0 e)).size + 1)) none
      exact ⟨hga.os, hga.tape, hga.output, hga.size, hga.block⟩
    · show w.heap.size < (w.heap.push _).size
      simp
  unfold Oper.wp
  simp [execOp, ho, hx, hrun, Result.andThen]
  exact hK _ _ (h cap w' h0 h1 h2 h3)
theorem Tryz.sizeRd : (Tryz.prog.info? 177).map (·.size) = some 2 := by kernel_rfl
theorem row_of_bytes {w w' : World} {s : ByteArray} {cap : Nat} (hs : s.size ≤ 140737488351232) (h0 : s.size ≤ cap) (h1 : ∀ j u, (bv (sb s))[j]? = some u → w'.cell? ((⟨w.heap.size, 0, none⟩ : Addr).add j) = some u) (h3 : w.heap.size < w'.heap.size) : Row w' (.slice (some ⟨w.heap.size, 0, none⟩) s.size cap) (sb s) := by
  refine ⟨some ⟨w.heap.size, 0, none⟩, cap, by rw [sb_length], by rw [sb_length]; exact h0, by rw [sb_length]; exact hs, sb_wf s, fun _ => ⟨w.heap.size, 0, rfl, h3, fun i hi => ?_⟩⟩
  have := h1 i (.int .u8 ((sb s).getD i 0)) (by rw [bv_get (sb s) i hi])
  rwa [Addr.add_lit] at this
set_option maxRecDepth 100000 in
set_option maxHeartbeats 1600000 in
theorem readerof_any (s : ByteArray) (w : World) (hs : s.size ≤ 140737488351232) :
    Calls Tryz.prog 123 #[.string s] w fun e w' => ∃ v W0 P, e = .returned (.agg #[v, .pointer (some ⟨P, 0, none⟩)]) ∧ Row W0 v (sb s) ∧ Below w.heap.size w W0 ∧ Below W0.heap.size W0 w' ∧ W0.heap.size ≤ P ∧ One w' P 0 := by
  go_enter Tryz.func123, Tryz.ntmps123
  go_wp2_with (first
    | (refine wpList_bytes8 _ rfl _ 9 143 5 rfl Tryz.underlying9 Tryz.underlying143 Tryz.underlying5 s rfl ?_; intro cap w2 h0 h1 h2 h3; have x2 := (h2.block w.heap.size (by simp) (by simp)).trans (heap_alloc_new w _); have hbx := (heap_alloc_old w2 (Obj.cells #[Value.int .i64 0] 3) (Array.getElem?_eq_some_iff.1 x2).1).trans x2)
    | (refine wpList_store_row rfl 177 _ _ rfl w.heap.size #[.slice (some ⟨w.heap.size + 1, 0, none⟩) s.size cap, .pointer (some ⟨w2.heap.size, 0, none⟩)] rfl rfl 177 _ hbx Tryz.sizeRd rfl (by simp [Value.oneCell']) ?_))
  have e1 : (w.alloc (Obj.cells #[Value.slice none 0 0, Value.pointer none] 177)).heap.size = w.heap.size + 1 := by simp
  have RR := row_of_bytes (w := w.alloc (Obj.cells #[Value.slice none 0 0, Value.pointer none] 177)) hs h0 h1 h3
  rw [e1] at RR h3
  have hx2 := setRow_heap w2 w.heap.size _ #[.slice (some ⟨w.heap.size + 1, 0, none⟩) s.size cap, .pointer (some ⟨w2.heap.size, 0, none⟩)] _ _ x2
  have hx3 := setRow_heap (w2.alloc (Obj.cells #[Value.int .i64 0] 3)) w.heap.size _ #[.slice (some ⟨w.heap.size + 1, 0, none⟩) s.size cap, .pointer (some ⟨w2.heap.size, 0, none⟩)] _ _ hbx
  have hRow : Row (w2.setRow w.heap.size #[.slice (some ⟨w.heap.size + 1, 0, none⟩) s.size cap, .pointer (some ⟨w2.heap.size, 0, none⟩)]) (.slice (some ⟨w.heap.size + 1, 0, none⟩) s.size cap) (sb s) := by
    obtain ⟨ao, c, q1, q2, q3, q4, q5⟩ := RR
    refine ⟨ao, c, q1, q2, q3, q4, fun hne => ?_⟩
    obtain ⟨g, o, rfl, hg, hc⟩ := q5 hne
    obtain ⟨rfl, rfl⟩ : g = w.heap.size + 1 ∧ o = 0 := by
      simp only [Value.slice.injEq, Option.some.injEq, Addr.mk.injEq] at q1
      exact ⟨q1.1.1.symm, q1.1.2.1.symm⟩
    refine ⟨_, _, rfl, by rw [size_setRow]; exact hg, fun i hi => ?_⟩
    rw [World.cell?_of_block (w := w2) (setRow_other w2 w.heap.size (w.heap.size + 1) _ (by omega))]
    exact hc i hi
  have hBW : Below w.heap.size w (w2.setRow w.heap.size #[.slice (some ⟨w.heap.size + 1, 0, none⟩) s.size cap, .pointer (some ⟨w2.heap.size, 0, none⟩)]) := by
    have hB0 : Below w.heap.size w (w.alloc (Obj.cells #[Value.slice none 0 0, Value.pointer none] 177)) := (Below.refl _ _).alloc (Nat.le_refl _) _
    have hB2 : Below w.heap.size w w2 := hB0.grown h2 hB0.size (fun k hk => by cases hk)
    exact below_setRow hB2 (Nat.le_refl _) _
  have hBF : Below w2.heap.size (w2.setRow w.heap.size #[.slice (some ⟨w.heap.size + 1, 0, none⟩) s.size cap, .pointer (some ⟨w2.heap.size, 0, none⟩)]) ((w2.alloc (Obj.cells #[Value.int .i64 0] 3)).setRow w.heap.size #[.slice (some ⟨w.heap.size + 1, 0, none⟩) s.size cap, .pointer (some ⟨w2.heap.size, 0, none⟩)]) := by
    refine ⟨rfl, rfl, rfl, by simp, fun k hk => ?_⟩
    by_cases hkk : k = w.heap.size
    · subst hkk
      rw [hx2, hx3]
    · rw [setRow_other _ _ _ _ hkk, setRow_other _ _ _ _ hkk]
      exact heap_alloc_old w2 _ hk
  have hOne : One ((w2.alloc (Obj.cells #[Value.int .i64 0] 3)).setRow w.heap.size #[.slice (some ⟨w.heap.size + 1, 0, none⟩) s.size cap, .pointer (some ⟨w2.heap.size, 0, none⟩)]) w2.heap.size 0 := (setRow_other _ _ _ _ (by omega)).trans (heap_alloc_new w2 _)
  clear hbx h1 h2 e1
  go_wp2
  exact bodyPost_ret (results_cell_row rfl _ _ w.heap.size 177 _ (0, 0) _ rfl hx3 Tryz.underlying177 rfl Tryz.sizeRd) rfl ⟨_, _, _, rfl, hRow, hBW, by rw [size_setRow]; exact hBF, by rw [size_setRow]; exact Nat.le_refl _, hOne⟩
end Go.Proofs.YtbhfooafhbfniaaGreatDoor
/-
  The contract of (impl.reader).nums: numbers are read into cells of one block, one by one; a mistake where there is none. Bounds of the form alone.
-/
namespace Go.Proofs.YtbhfooafhbfniaaGreatDoor
open Go.RowKit
structure K2 (P M : Nat) (w w' : World) : Prop where
  os : w'.os = w.os
  tape : w'.tape = w.tape
  output : w'.output = w.output
  size : w.heap.size ≤ w'.heap.size
  block : ∀ k, k < w.heap.size → k ≠ P → k ≠ M → w'.heap[k]? = w.heap[k]?
theorem K2.refl (P M : Nat) (w : World) : K2 P M w w := ⟨rfl, rfl, rfl, Nat.le_refl _, fun _ _ _ _ => rfl⟩
theorem K2.trans {P M : Nat} {a b c : World} (h : K2 P M a b) (k : K2 P M b c) : K2 P M a c :=
  ⟨k.os.trans h.os, k.tape.trans h.tape, k.output.trans h.output, Nat.le_trans h.size k.size, fun i hi h1 h2 => (k.block i (Nat.lt_of_lt_of_le hi h.size) h1 h2).trans (h.block i hi h1 h2)⟩
theorem K2.ofP {P M : Nat} {w w' : World} (h : w.grownBy w' (some P)) : K2 P M w w' := ⟨h.os, h.tape, h.output, h.size, fun k hk h1 _ => h.block k hk (by simp [h1])⟩
theorem K2.ofM {P M : Nat} {w w' : World} (h : w.grownBy w' (some M)) : K2 P M w w' := ⟨h.os, h.tape, h.output, h.size, fun k hk _ h2 => h.block k hk (by simp [h2])⟩
theorem K2.ofB {P M : Nat} {w w' : World} (h : Below w.heap.size w w') : K2 P M w w' := ⟨h.os, h.tape, h.output, h.size, fun k hk _ _ => h.block k hk⟩
theorem K2.below {P M B : Nat} {w w' : World} (h : K2 P M w w') (hB : B ≤ w.heap.size) (hP : B ≤ P) (hM : B ≤ M) : Below B w w' := ⟨h.os, h.tape, h.output, h.size, fun k hk => h.block k (by omega) (by omega) (by omega)⟩
theorem K2.grown {P M : Nat} {w w' : World} (h : K2 P M w w') (hM : w.heap.size ≤ M) : w.grownBy w' (some P) := ⟨h.os, h.tape, h.output, h.size, fun k hk h1 => h.block k hk (by simpa using h1) (by omega)⟩
def rdK (zs : List Int) : Nat → Int → Option (List Int × Int)
  | 0, a => some ([], a)
  | n + 1, a => (rd1 zs a).bind fun p => (rdK zs n p.2).map fun q => (p.1 :: q.1, q.2)
theorem rdK_snoc (zs : List Int) : ∀ (n : Nat) (a : Int), rdK zs (n + 1) a = (rdK zs n a).bind fun q => (rd1 zs q.2).map fun p => (q.1 ++ [p.1], p.2)
  | 0, a => by
    simp only [rdK, Option.bind_some]
    cases rd1 zs a <;> rfl
  | n + 1, a => by
    rw [rdK]
    cases h : rd1 zs a with
    | none => simp [rdK, h]
    | some p =>
      simp only [Option.bind_some]
      rw [rdK_snoc zs n p.2, rdK, h]
      simp only [Option.bind_some]
      cases rdK zs n p.2 with
      | none => rfl
      | some q => simp only [Option.bind_some, Option.map_some]; cases rd1 zs q.2 <;> rfl
theorem rdK_len {zs : List Int} : ∀ {n : Nat} {a : Int} {q : List Int × Int}, rdK zs n a = some q → q.1.length = n
  | 0, a, q, h => by cases h; rfl
  | n + 1, a, q, h => by
    rw [rdK, Option.bind_eq_some_iff] at h
    obtain ⟨p, _, h2⟩ := h
    rw [Option.map_eq_some_iff] at h2
    obtain ⟨t, h3, h4⟩ := h2
    cases h4
    simp [rdK_len h3]
theorem rdK_none {zs : List Int} {a : Int} : ∀ {n m : Nat}, n ≤ m → rdK zs n a = none → rdK zs m a = none
  | n, 0, h, e => by
    obtain rfl : n = 0 := by omega
    exact e
  | n, m + 1, h, e => by
    rcases Nat.lt_or_ge n (m + 1) with h1 | h1
    · rw [rdK_snoc, rdK_none (by omega) e]; rfl
    · obtain rfl : n = m + 1 := by omega
      exact e
def tgt (M : Nat) (os : List Nat) : Array Value := (os.map fun o => Value.pointer (some ⟨M, o, none⟩)).toArray
def setL (cs : Array Value) (os : List Nat) (vs : List Int) : Array Value := (os.zip vs).foldl (fun c p => c.setIfInBounds p.1 (.int .i64 p.2)) cs
theorem setL_snoc (cs : Array Value) (os : List Nat) (vs : List Int) (x : Int) (o : Nat) (h : os[vs.length]? = some o) : setL cs (os.take (vs.length + 1)) (vs ++ [x]) = (setL cs (os.take vs.length) vs).setIfInBounds o (.int .i64 x) := by
  obtain ⟨hl, he⟩ := List.getElem?_eq_some_iff.1 h
  unfold setL
  rw [List.take_succ_eq_append_getElem hl, he, List.zip_append (by simp; omega), List.foldl_append]
  rfl
theorem setL_size (cs : Array Value) (os : List Nat) (vs : List Int) : (setL cs os vs).size = cs.size := by
  unfold setL
  generalize os.zip vs = l
  induction l generalizing cs with
  | nil => rfl
  | cons p l ih => rw [List.foldl_cons, ih]; simp
theorem gN_rd1 {zs : List Int} {a x n : Int} (h : gN zs a = (x, n, true)) : rd1 zs a = some (x, n) := by unfold rd1; rw [h]; rfl
theorem gN_rd0 {zs : List Int} {a x n : Int} (h : gN zs a = (x, n, false)) : rd1 zs a = none := by unfold rd1; rw [h]; rfl
set_option maxRecDepth 100000 in
set_option maxHeartbeats 3200000 in
theorem rnums_any (v : Value) (zs : List Int) (W0 w : World) (P M L : Nat) (a : Int) (cs : Array Value) (t : TypeId) (os : List Nat) (R : Row W0 v zs) (hb : Below W0.heap.size W0 w) (hP : W0.heap.size ≤ P) (hM : W0.heap.size ≤ M) (h1 : One w P a)
    (hm : w.heap[M]? = some (.cells cs t (0, 0))) (hos : ∀ o ∈ os, o < cs.size) (hL : w.heap[L]? = some (.cells (tgt M os) 175 (0, 0))) (hPM : P ≠ M) (hLP : L ≠ P) (hLM : L ≠ M) (hn : os.length ≤ 10) :
    Calls Tryz.prog 149 #[.agg #[v, .pointer (some ⟨P, 0, none⟩)], .slice (some ⟨L, 0, none⟩) os.length os.length] w fun e w' => K2 P M w w' ∧
      ((∃ q, rdK zs os.length a = some q ∧ e = .returned .nilIface ∧ One w' P q.2 ∧ w'.heap[M]? = some (.cells (setL cs os q.1) t (0, 0)))
        ∨ (rdK zs os.length a = none ∧ (∃ p, e = .returned (badV p)) ∧ (∃ q, One w' P q) ∧ ∃ vs : List Int, vs.length < os.length ∧ w'.heap[M]? = some (.cells (setL cs (os.take vs.length) vs) t (0, 0)))) := by
  have R' := R
  obtain ⟨ao, cap, rfl, _⟩ := R'
  have hPl := h1.lt
  have hMl := (Array.getElem?_eq_some_iff.1 hm).1
  have hLl := (Array.getElem?_eq_some_iff.1 hL).1
  have hbs := hb.size
  go_enter Tryz.func149, Tryz.ntmps149
  go_wp2_with fail
  have hK0 : K2 P M w (w.alloc (Obj.cells #[Value.slice ao zs.length cap, Value.pointer (some ⟨P, 0, none⟩)] 177)) := K2.ofB ((Below.refl _ _).alloc (Nat.le_refl _) _)
  go_loopw [12] (fun i wr => ∃ (k : Nat) (vs : List Int) (c : Int), k ≤ os.length ∧ i = .int .i64 k ∧ Hid (rdK zs k a = some (vs, c)) ∧ One wr P c ∧ wr.heap[M]? = some (.cells (setL cs (os.take k) vs) t (0, 0)) ∧
      wr.heap[w.heap.size]? = some (.cells #[Value.slice ao zs.length cap, Value.pointer (some ⟨P, 0, none⟩)] 177 (0, 0)) ∧ K2 P M w wr) (fun i _ => os.length - (intOf i).toNat)
  case atStart =>
    refine ⟨0, [], a, by omega, rfl, rfl, h1.kept (World.grownBy_alloc w _ none) (by simp), ?_, heap_alloc_new _ _, hK0⟩
    exact (heap_alloc_old _ _ hMl).trans hm
  case round =>
    obtain ⟨k, vs, c, hk, rfl, HR, hone, hmr, hbox, hK⟩ := hrel
    have hvl : vs.length = k := rdK_len HR.out
    have hb0 : wr.cell? ⟨w.heap.size, 0, none⟩ = some (.slice ao zs.length cap) := cell_of_row wr _ 0 _ _ _ hbox
    have hb1 : wr.cell? ⟨w.heap.size, 1, none⟩ = some (.pointer (some ⟨P, 0, none⟩)) := cell_of_row wr _ 1 _ _ _ hbox
    have hc := hone.cell
    by_cases hlt : k < os.length
    · obtain ⟨o, ho⟩ : ∃ o, os[k]? = some o := ⟨os[k], by simp [hlt]⟩
      have holt := hos o (List.mem_of_getElem? ho)
      have hLr := (hK.block L hLl hLP hLM).trans hL
      have hlc : wr.cell? ⟨L, k, none⟩ = some (.pointer (some ⟨M, o, none⟩)) := by
        rw [cell_of_row wr _ k _ _ _ hLr]
        simp [tgt, ho]
      have hbel : Below W0.heap.size W0 wr := hb.trans (hK.below hbs hP hM)
      obtain ⟨g, hg⟩ : ∃ g, Hid (gN zs c = g) := ⟨_, rfl⟩
      obtain ⟨gx, gn, gk⟩ := g
      have HN : Calls Tryz.prog 158 #[.agg #[.slice ao zs.length cap, .pointer (some ⟨P, 0, none⟩)]] wr fun e w' =>
          e = .returned (.tuple #[.int .i64 gx, .bool gk]) ∧ (∃ q, One w' P q ∧ (gk = true → q = gn)) ∧ wr.grownBy w' (some P) := by
        have := num_any _ zs P c W0 wr R hbel hP hone
        rw [hg.out] at this
        exact this
      go_wp2_with fail
      refine HN.mono ?_
      rintro e w1 ⟨rfl, ⟨q, hone1, hq⟩, hgr⟩
      have hMr := (Array.getElem?_eq_some_iff.1 hmr).1
      have hm1 := (hgr.block M hMr (by simpa using fun e => hPM e.symm)).trans hmr
      have hbox1 := (hgr.block _ (Array.getElem?_eq_some_iff.1 hbox).1 (by simp; omega)).trans hbox
      have hK1 := hK.trans (K2.ofP hgr)
      clear hb0 hb1 hc hlc HN
      cases gk with
      | false =>
        have HE : Hid (rdK zs os.length a = none) := rdK_none (n := k + 1) (by omega) (by rw [rdK_snoc, HR.out]; simp only [Option.bind_some]; rw [gN_rd0 hg.out]; rfl)
        go_wp2
        go_ret
        exact ⟨hK1, Or.inr ⟨HE.out, ⟨_, rfl⟩, ⟨_, hone1⟩, vs, by omega, by rw [hvl]; exact hm1⟩⟩
      | true =>
        obtain rfl := hq rfl
        have hcell : w1.cell? ⟨M, o, none⟩ = some ((setL cs (os.take k) vs)[o]'(by rw [setL_size]; exact holt)) := by rw [cell_of_row w1 _ o _ _ _ hm1, Array.getElem?_eq_getElem]
        have hfr : w1.frozen? ⟨M, o, none⟩ = false := frozen_of_row w1 _ o _ _ hm1
        have HR2 : Hid (rdK zs (k + 1) a = some (vs ++ [gx], q)) := by unfold Hid; rw [rdK_snoc, HR.out]; simp only [Option.bind_some]; rw [gN_rd1 hg.out]; rfl
        have hset := heap_setCell_same w1 M o _ _ (.int .i64 gx) hm1
        have hks : K2 P M w1 (w1.setCell ⟨M, o, none⟩ (.int .i64 gx)) := K2.ofM (grown_set w1 M o _)
        have hon2 : One (w1.setCell ⟨M, o, none⟩ (.int .i64 gx)) P q := (heap_setCell_other w1 ⟨M, o, none⟩ P _ (by simpa using hPM)).trans hone1
        have hbx2 := (heap_setCell_other w1 ⟨M, o, none⟩ w.heap.size (.int .i64 gx) (by simp; omega)).trans hbox1
        go_wp2
        go_roundw
        case rel =>
          refine ⟨k + 1, vs ++ [gx], q, by omega, by go_num, HR2, hon2, ?_, hbx2, hK1.trans hks⟩
          rw [hset, ← hvl, setL_snoc _ _ _ _ o (by rw [hvl]; exact ho)]
        case measure => simp [intOf]; omega
    · have hke : k = os.length := by omega
      subst hke
      rw [List.take_length] at hmr
      go_wp2
      go_ret
      exact ⟨hK, Or.inl ⟨_, HR.out, rfl, hone, hmr⟩⟩
end Go.Proofs.YtbhfooafhbfniaaGreatDoor
