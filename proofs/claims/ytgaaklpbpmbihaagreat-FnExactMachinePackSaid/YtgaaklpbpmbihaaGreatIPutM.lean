/-
  Texts that stood by themselves, laid into one.
-/
import Derived.Test.YtgaaklpbpmbihaaGreatNdM
import Derived.Laws.CopyOwn
/-
  What grows and turns one block alone. Nothing of the program; no condition.
-/
namespace Go.Proofs.YtgaaklpbpmbihaaGreat
open Go.RowKit

theorem grown_trans {w1 w2 w3 : World} {row : Option Nat} (h : w1.grownBy w2 row) (k : w2.grownBy w3 row) : w1.grownBy w3 row :=
  ⟨k.os.trans h.os, k.tape.trans h.tape, k.output.trans h.output, Nat.le_trans h.size k.size, fun i hi hne => (k.block i (Nat.lt_of_lt_of_le hi h.size) hne).trans (h.block i hi hne)⟩
theorem grown_set (w : World) (P : Nat) (j : Nat) (v : Value) : w.grownBy (w.setCell ⟨P, j, none⟩ v) (some P) :=
  ⟨rfl, rfl, rfl, by simp [World.setCell], fun k _ hk => heap_setCell_other w ⟨P, j, none⟩ k v (fun e => hk (by simp [e]))⟩
theorem grown_below {w w' : World} (h : Below w.heap.size w w') (row : Option Nat) : w.grownBy w' row :=
  ⟨h.os, h.tape, h.output, h.size, fun k hk _ => h.block k hk⟩

theorem grown_below2 {w w' : World} (h : Below w.heap.size w w') (row : Option Nat) : w.grownBy w' row :=
  ⟨h.os, h.tape, h.output, h.size, fun k hk _ => h.block k hk⟩
/-- A whole struct stored at the head of a block: what is known of the world behind it. -/
theorem wpList_store_own {P : Program} {ops : Array Oper} {rest : List Oper} {o : Oper} {a : Act} {w : World} {Q : Exit → Act → World → Prop} (hgd : o.guard = none) (ty : TypeId) (x y : Operand) (ho : o.op = .store ty x y)
    (g : Nat) (cells : Array Value) (hx : a.eval x = .pointer (some ⟨g, 0, none⟩)) (hy : a.eval y = .agg cells)
    (t : TypeId) (old : Array Value) (hg : w.heap[g]? = some (.cells old t (0, 0))) (hi : (P.info? ty).map (·.size) = some cells.size)
    (hold : old.size = cells.size) (h1 : cells.all (·.oneCell') = true)
    (h : ∀ w2 : World, w2.heap[g]? = some (.cells cells t (0, 0)) → Below g w w2 → w2.heap.size = w.heap.size → wpList P ops Q rest (a.put o.dst undef) w2) : wpList P ops Q (o :: rest) a w :=
  wpList_store_row hgd ty x y ho g cells hx hy t old hg hi hold h1 (h _ (setRow_heap w g old _ t _ hg) (below_setRow (Below.refl _ _) (Nat.le_refl _) _) (size_setRow w g cells))


theorem old2 (w : World) (A B : Obj) : ((w.alloc A).alloc B).heap[w.heap.size]? = some A := (heap_alloc_old _ _ (by simp)).trans (heap_alloc_new _ _)
theorem below2 (w : World) (A B : Obj) : Below w.heap.size w ((w.alloc A).alloc B) := ((Below.refl _ _).alloc (Nat.le_refl _) _).alloc (by simp) _

end Go.Proofs.YtgaaklpbpmbihaaGreat

/-
  Contract of (*impl.numForm).add: one byte more in the form.
-/
namespace Go.Proofs.YtgaaklpbpmbihaaGreat
open Go.RowKit

/-- The cells of a form that holds the bytes xs. -/
def formC (xs : List Int) : Array Value := (bv (xs ++ List.replicate (9 - xs.length) 0) ++ [Value.int .i64 xs.length]).toArray
theorem formC_size (xs : List Int) (h : xs.length ≤ 9) : (formC xs).size = 10 := by simp [formC, bv]; omega
theorem formC_get (xs : List Int) (h : xs.length ≤ 9) (i : Nat) (hi : i < 9) : (formC xs)[i]? = some (.int .u8 ((xs ++ List.replicate (9 - xs.length) 0).getD i 0)) := by
  have hl : (xs ++ List.replicate (9 - xs.length) 0).length = 9 := by simp; omega
  unfold formC
  rw [List.getElem?_toArray, List.getElem?_append_left (by rw [bv_length, hl]; exact hi)]
  exact bv_get _ i (by rw [hl]; exact hi)
theorem formC_count (xs : List Int) (h : xs.length ≤ 9) : (formC xs)[9]? = some (.int .i64 xs.length) := by
  have hl : (xs ++ List.replicate (9 - xs.length) 0).length = 9 := by simp; omega
  unfold formC
  rw [List.getElem?_toArray, List.getElem?_append_right (by rw [bv_length, hl]; exact Nat.le_refl _)]
  simp [bv_length, hl]
theorem formC_add (xs : List Int) (b : Int) (h : xs.length < 9) : ((formC xs).setIfInBounds xs.length (.int .u8 b)).setIfInBounds 9 (.int .i64 ((xs.length : Int) + 1)) = formC (xs ++ [b]) := by
  have e : List.replicate (9 - xs.length) (0 : Int) = 0 :: List.replicate (9 - (xs ++ [b]).length) 0 := by
    rw [show 9 - xs.length = (9 - (xs ++ [b]).length) + 1 by simp; omega, List.replicate_succ]
  apply Array.ext'
  simp only [formC, Array.toList_setIfInBounds, List.toList_toArray, bv, List.map_append]
  rw [e]
  simp only [List.map_cons, List.append_assoc]
  rw [List.set_append_right _ _ (by simp)]
  simp only [List.length_map, Nat.sub_self, List.cons_append, List.set_cons_zero]
  rw [List.set_append_right _ _ (by simp; omega)]
  rw [show 9 - (List.map (Value.int IntKind.u8) xs).length = 9 - (xs.length + 1) + 1 by simp; omega, List.set_cons_succ]
  rw [List.set_append_right _ _ (by simp)]
  simp

set_option maxRecDepth 100000 in
set_option maxHeartbeats 400000 in
theorem add_any (B : Nat) (b : Int) (xs : List Int) (w : World) (hx : xs.length < 9) (hh : w.heap[B]? = some (.cells (formC xs) 123 (0, 0))) :
    Calls Tryz.prog 100 #[.pointer (some ⟨B, 0, none⟩), .int .u8 b] w fun e w' => e = .returned (.tuple #[]) ∧ w'.heap[B]? = some (.cells (formC (xs ++ [b])) 123 (0, 0)) ∧ Below B w w' := by
  have h1 : ∀ i, w.cell? ⟨B, i, none⟩ = (formC xs)[i]? := fun i => cell_of_row w B i _ 123 (0, 0) hh
  have h2 : ∀ i, w.frozen? ⟨B, i, none⟩ = false := fun i => frozen_of_row w B i _ 123 hh
  have c9 : w.cell? ⟨B, 9, none⟩ = some (.int .i64 xs.length) := by rw [h1, formC_count xs (by omega)]
  have f9 := h2 9
  have ck := (h1 xs.length).trans (formC_get xs (by omega) xs.length hx)
  have fk := h2 xs.length
  clear h1 h2
  go_enter Tryz.func100, Tryz.ntmps100
  go_wp2
  go_region
  all_goals go_wp2
  all_goals go_end0
  refine ⟨rfl, ?_, (((Below.refl B w).setCell (p := ⟨B, xs.length, none⟩) (Nat.le_refl B) _).setCell (p := ⟨B, 9, none⟩) (Nat.le_refl B) _).drew⟩
  rw [← formC_add xs b hx]
  exact heap_setCell_same _ B 9 _ 123 _ (heap_setCell_same w B xs.length _ 123 _ hh)

end Go.Proofs.YtgaaklpbpmbihaaGreat

/-
  Contract of impl.formOf: the form of a number from 0 on holds the number's bytes.
-/
namespace Go.Proofs.YtgaaklpbpmbihaaGreat
open Go.RowKit

theorem Tryz.infoForm : (Tryz.prog.info? 123).map (·.size) = some 10 := by kernel_rfl
theorem formC_one (xs : List Int) : (formC xs).all (·.oneCell') = true := by
  rw [Array.all_eq_true_iff_forall_mem]
  intro v hv
  simp only [formC, bv, List.mem_toArray, List.mem_append, List.mem_map, List.mem_singleton] at hv
  rcases hv with ⟨z, _, rfl⟩ | rfl <;> rfl

theorem Tryz.infoFormC (xs : List Int) (h : xs.length ≤ 9) : Hid ((Tryz.prog.info? 123).map (·.size) = some (formC xs).size) := by
  unfold Hid; rw [formC_size xs h]; exact Tryz.infoForm
theorem formC_sizes (xs ys : List Int) (h : xs.length ≤ 9) (k : ys.length ≤ 9) : Hid ((formC xs).size = (formC ys).size) := by
  unfold Hid; rw [formC_size xs h, formC_size ys k]
theorem snoc_le (xs : List Int) (b : Int) (f : Nat) (h : xs.length + f = 8) : (xs ++ [b]).length ≤ 9 := by simp; omega

set_option maxRecDepth 100000 in
set_option maxHeartbeats 400000 in
theorem form_any (x : Int) (w : World) (hx : 0 ≤ x) (hm : x ≤ 9223372036854775807) :
    Calls Tryz.prog 73 #[.int .i64 x] w fun e w' => e = .returned (.agg (formC (enc 9 x))) ∧ Below w.heap.size w w' := by
  go_enter Tryz.func73, Tryz.ntmps73
  go_wp2_with fail
  go_loopw [0] (fun y wr => ∃ (f : Nat) (q : Int) (acc : List Int), y = .int .i64 q ∧ 0 ≤ q ∧ q ≤ 9223372036854775807 ∧ acc.length + f = 8 ∧ Hid (q < lim (f + 1)) ∧ Hid (acc ++ enc (f + 1) q = enc 9 x) ∧ wr.heap[w.heap.size + 1]? = some (.cells (formC acc) 123 (0, 0)) ∧ wr.heap[w.heap.size]? = some (.cells (formC []) 123 (0, 0)) ∧ Below w.heap.size w wr) (fun y _ => (intOf y).toNat)
  case atStart =>
    exact ⟨8, x, [], rfl, hx, hm, rfl, by unfold Hid; rw [lim_nine]; omega, rfl, heap_alloc2_new _ _ _, heap_alloc2_old _ _ _, ((Below.refl _ _).alloc (Nat.le_refl _) _).alloc (by simp) _⟩
  case round =>
    obtain ⟨f, q, acc, rfl, hq0, hq1, hlen, Hl, Ha, hh, hr, hbel⟩ := hrel
    by_cases hlt : q < 128
    · have Hi1 := Tryz.infoFormC (acc ++ [q]) (snoc_le acc q f hlen)
      have Hsz := formC_sizes [] (acc ++ [q]) (Nat.zero_le _) (snoc_le acc q f hlen)
      have HO : Hid ((formC (acc ++ [q])).all (·.oneCell') = true) := formC_one _
      go_wp2_with fail
      refine (add_any _ _ acc _ (by omega) hh).mono ?_
      rintro e w1 ⟨rfl, hh1, hbel1⟩
      have hr1 : w1.heap[w.heap.size]? = some (.cells (formC []) 123 (0, 0)) := (hbel1.block _ (by omega)).trans hr
      go_wp2_with (first | refine wpList_load_row rfl 123 _ rfl (w.heap.size + 1) rfl 123 _ (0, 0) _ hh1 Tryz.underlying123 rfl Hi1.out ?_ | refine wpList_store_row rfl 123 _ _ rfl w.heap.size _ rfl rfl 123 _ hr1 Hi1.out Hsz.out HO.out ?_)
      have e9 : enc 9 x = acc ++ [q] := by rw [← Ha.out, enc_last f q hlt]
      rw [e9]
      refine bodyPost_ret (results_cell_row rfl _ _ w.heap.size 123 _ (0, 0) _ rfl (setRow_heap w1 w.heap.size _ _ 123 _ hr1) Tryz.underlying123 rfl Hi1.out) rfl ⟨rfl, ?_⟩
      exact below_setRow (hbel.trans (hbel1.mono (by omega))) (Nat.le_refl _) _
    · go_wp2_with fail
      refine (add_any _ _ acc _ (by omega) hh).mono ?_
      rintro e w1 ⟨rfl, hh1, hbel1⟩
      go_wp2_with fail
      go_roundw
      case rel =>
        obtain ⟨f', rfl, hl⟩ := lim_more f q (by omega) Hl.out
        refine ⟨f', q / 128, acc ++ [q % 128 + 128], rfl, by omega, by omega, by simp; omega, hl, ?_, hh1, (hbel1.block _ (by omega)).trans hr, hbel.trans (hbel1.mono (by omega))⟩
        have e := enc_more (f' + 1) q (by omega)
        have e2 := Ha.out
        rw [e] at e2
        unfold Hid
        rw [← e2]
        simp
      case measure => simp [intOf]; omega

end Go.Proofs.YtgaaklpbpmbihaaGreat

/-
  Contract of impl.PutNum: for every int a new slice of its own that holds the number's bytes.
-/
namespace Go.Proofs.YtgaaklpbpmbihaaGreat
open Go.RowKit

set_option maxRecDepth 100000 in
set_option maxHeartbeats 400000 in
theorem iput_neg (x : Int) (w : World) (hx : x < 0) :
    Calls Tryz.prog 51 #[.int .i64 x] w fun e w' => ∃ v, e = .returned v ∧ w'.ownsRow w.heap.size 5 1 v 0 (bv []) ∧ Below w.heap.size w w' := by
  go_enter Tryz.func51, Tryz.ntmps51
  go_wp2
  go_ret
  exact ⟨_, rfl, World.ownsRow_made _ _ 0 (Nat.le_refl _) (by simp) (by simp), (Below.refl _ _).alloc (Nat.le_refl _) _⟩

theorem formC_start (xs : List Int) (h : xs.length ≤ 9) (w : World) (g : Nat) (hh : w.heap[g]? = some (.cells (formC xs) 123 (0, 0))) :
    ∀ j u, (bv xs)[j]? = some u → w.cell? ((⟨g, 0, none⟩ : Addr).add j) = some u := by
  intro j u hu
  have hj : j < xs.length := by have := (List.getElem?_eq_some_iff.1 hu).1; rwa [bv_length] at this
  rw [Addr.add_lit, Nat.zero_add, cell_of_row w g j _ 123 (0, 0) hh, formC_get xs h j (by omega)]
  rw [bv_get xs j hj] at hu
  rw [← hu]
  rw [List.getD_eq_getElem?_getD, List.getElem?_append_left hj, ← List.getD_eq_getElem?_getD]

theorem Tryz.arrLen : Tryz.prog.arrayLen 121 = 9 := by kernel_rfl
theorem Tryz.arrElem : Tryz.prog.elem 121 = 5 := by kernel_rfl
theorem Tryz.arrIs : Tryz.prog.underlying 121 = some (.array (Tryz.prog.arrayLen 121) (Tryz.prog.elem 121)) := by kernel_rfl
theorem slice_form (g n : Nat) (h : n ≤ 9) (w : World) :
    (Instr.sliceAt 121 (.pointer (some ⟨g, 0, none⟩)) none (some (.int .i64 (n : Int))) none).run Tryz.prog w = .ok (.slice (some ⟨g, 0, none⟩) n 9) w := by
  obtain ⟨i0, hi, hz0, hz1, hz2⟩ := info_parts Tryz.infoU8
  have h0 := run_sliceAt_array_h (P := Tryz.prog) w 121 ⟨g, 0, none⟩ Tryz.arrIs .i64 (n : Int) (by omega) (by rw [Tryz.arrLen]; omega)
  rw [h0, Tryz.arrElem, Tryz.arrLen]
  simp [sizeOf, typeInfo, hi, hz1, slicedAt, Addr.add_lit]

set_option maxRecDepth 100000 in
set_option maxHeartbeats 400000 in
theorem iput_pos (x : Int) (w : World) (hx : 0 ≤ x) (hm : x ≤ 9223372036854775807) :
    Calls Tryz.prog 51 #[.int .i64 x] w fun e w' => ∃ v, e = .returned v ∧ w'.ownsRow w.heap.size 5 1 v (enc 9 x).length (bv (enc 9 x)) ∧ Below w.heap.size w w' := by
  obtain ⟨i0, hi, hz0, hz1, hz2⟩ := info_parts Tryz.infoU8
  have hl := enc_length 9 x
  go_enter Tryz.func51, Tryz.ntmps51
  go_wp2_with fail
  refine (form_any x _ hx hm).mono ?_
  rintro e w1 ⟨rfl, hbel1⟩
  generalize hxs : enc 9 x = xs at hl ⊢
  have Hxs : Hid (enc 9 x = xs) := hxs
  clear hxs
  have HI := Tryz.infoFormC xs hl
  have Hsz := formC_sizes [] xs (Nat.zero_le _) hl
  have hsl := fun wx => slice_form w1.heap.size xs.length hl wx
  have HO : Hid ((formC xs).all (·.oneCell') = true) := formC_one _
  have hsz := hbel1.size
  go_wp2_with (first | (refine wpList_store_own rfl 123 _ _ rfl w1.heap.size _ rfl rfl 123 _ (heap_alloc_new _ _) HI.out Hsz.out HO.out ?_; intro w2 hh2 hb2 hs2; have hc9 := (cell_of_row w2 w1.heap.size 9 _ 123 (0, 0) hh2).trans (formC_count xs hl); have hs2' : w2.heap.size = w1.heap.size + 1 := by rw [hs2]; simp) | (at_builtin; refine wpList_append_own _ rfl _ _ 54 rfl w.heap.size 5 i0 (.int .u8 0) 1 1 Tryz.underlying54 hi hz0 hz1 hz2 rfl (by decide) _ 0 [] rfl ?ho ⟨w1.heap.size, 0, none⟩ xs.length 9 (bv xs) rfl ?hl ?hn ?h1 ?h63 ?hby ?hba ?_))
  case ho =>
    show (w2.alloc (Obj.cells #[] 5)).ownsRow w.heap.size 5 1 (.slice (some ⟨w1.heap.size + 1, 0, none⟩) 0 0) 0 []
    rw [← hs2']
    exact World.ownsRow_made w2 #[] 0 (by omega) (by simp) (by simp)
  case hl => rw [bv_length]; simp
  case hn => exact formC_start xs hl _ w1.heap.size ((Below.heap_alloc w2 _ _ (by omega)).trans hh2)
  case h1 => exact ints_oneCell .u8 xs
  case h63 => unfold maxLen; omega
  case hby => omega
  case hba => simp; omega
  intro v' w3 hown hgrow _
  go_wp2
  go_ret
  refine ⟨v', rfl, ?_, ?_⟩
  · rw [Hxs.out]; simpa using hown
  · refine ((((hbel1.alloc hsz _).trans (hb2.mono hsz)).alloc (by omega) _).grown hgrow (by simp; omega) ?_)
    intro k hk
    simp [Value.ownBlock] at hk
    omega

set_option maxRecDepth 100000 in
theorem iput_any (x : Int) (w : World) (hm : x ≤ 9223372036854775807) :
    Calls Tryz.prog 51 #[.int .i64 x] w fun e w' => ∃ v, e = .returned v ∧ w'.ownsRow w.heap.size 5 1 v (encI x).length (bv (encI x)) ∧ Below w.heap.size w w' := by
  by_cases hx : x < 0
  · rw [encI_neg x hx]; exact iput_neg x w hx
  · rw [encI_pos x (by omega)]; exact iput_pos x w (by omega) hm

end Go.Proofs.YtgaaklpbpmbihaaGreat
