/-
  Texts that stood by themselves, laid into one.
-/
import Derived.Test.YtpkpednemkagiaaDecM
import Derived.Test.YtpkpednemkagiaaDraw2M
import Derived.Laws.CopyOwn
/-
  Contract of (*impl.numForm).add: one byte more in the form.
-/
namespace Go.Proofs.Ytpkpednemkagiaa
open Go.RowKit

/-- The cells of a form that holds the bytes xs. -/
def formC (xs : List Int) : Array Value := (bv (xs ++ List.replicate (9 - xs.length) 0) ++ [Value.int .i64 xs.length]).toArray
theorem formC_size (xs : List Int) (h : xs.length ≤ 9) : (formC xs).size = 10 := by simp [formC, bv]; omega
theorem formC_get (xs : List Int) (h : xs.length ≤ 9) (i : Nat) (hi : i < 9) : (formC xs)[i]? = some (.int .u8 ((xs ++ List.replicate (9 - xs.length) 0).getD i 0)) := by
  have hl : (xs ++ List.replicate (9 - xs.length) 0).length = 9 := by simp; omega
  unfold formC
  rw [List.getElem?_toArray, List.getElem?_append_left (by rw [bv_length, hl]; exact hi)]
  exact bv_get _ i (by rw [hl]; exact hi)
theorem formC_count (xs : List Int) (h : xs.length ≤ 9) : (formC xs)[9]? = some (.int .i64 xs.length) := by
  have hl : (xs ++ List.replicate (9 - xs.length) 0).length = 9 := by simp; omega
  unfold formC
  rw [List.getElem?_toArray, List.getElem?_append_right (by rw [bv_length, hl]; exact Nat.le_refl _)]
  simp [bv_length, hl]
theorem formC_add (xs : List Int) (b : Int) (h : xs.length < 9) : ((formC xs).setIfInBounds xs.length (.int .u8 b)).setIfInBounds 9 (.int .i64 ((xs.length : Int) + 1)) = formC (xs ++ [b]) := by
  have e : List.replicate (9 - xs.length) (0 : Int) = 0 :: List.replicate (9 - (xs ++ [b]).length) 0 := by
    rw [show 9 - xs.length = (9 - (xs ++ [b]).length) + 1 by simp; omega, List.replicate_succ]
  apply Array.ext'
  simp only [formC, Array.toList_setIfInBounds, List.toList_toArray, bv, List.map_append]
  rw [e]
  simp only [List.map_cons, List.append_assoc]
  rw [List.set_append_right _ _ (by simp)]
  simp only [List.length_map, Nat.sub_self, List.cons_append, List.set_cons_zero]
  rw [List.set_append_right _ _ (by simp; omega)]
  rw [show 9 - (List.map (Value.int IntKind.u8) xs).length = 9 - (xs.length + 1) + 1 by simp; omega, List.set_cons_succ]
  rw [List.set_append_right _ _ (by simp)]
  simp

set_option maxRecDepth 100000 in
set_option maxHeartbeats 400000 in
theorem add_any (B : Nat) (b : Int) (xs : List Int) (w : World) (hx : xs.length < 9) (hh : w.heap[B]? = some (.cells (formC xs) 65 (0, 0))) :
    Calls Try.prog 34 #[.pointer (some ⟨B, 0, none⟩), .int .u8 b] w fun e w' => e = .returned (.tuple #[]) ∧ w'.heap[B]? = some (.cells (formC (xs ++ [b])) 65 (0, 0)) ∧ Below B w w' := by
  have h1 : ∀ i, w.cell? ⟨B, i, none⟩ = (formC xs)[i]? := fun i => cell_of_row w B i _ 65 (0, 0) hh
  have h2 : ∀ i, w.frozen? ⟨B, i, none⟩ = false := fun i => frozen_of_row w B i _ 65 hh
  have c9 : w.cell? ⟨B, 9, none⟩ = some (.int .i64 xs.length) := by rw [h1, formC_count xs (by omega)]
  have f9 := h2 9
  have ck := (h1 xs.length).trans (formC_get xs (by omega) xs.length hx)
  have fk := h2 xs.length
  clear h1 h2
  go_enter Try.func34, Try.ntmps34
  go_wp2
  go_region
  all_goals go_wp2
  all_goals go_end0
  refine ⟨rfl, ?_, (((Below.refl B w).setCell (p := ⟨B, xs.length, none⟩) (Nat.le_refl B) _).setCell (p := ⟨B, 9, none⟩) (Nat.le_refl B) _).drew⟩
  rw [← formC_add xs b hx]
  exact heap_setCell_same _ B 9 _ 65 _ (heap_setCell_same w B xs.length _ 65 _ hh)

end Go.Proofs.Ytpkpednemkagiaa

/-
  Contract of impl.formOf: the form of a number from 0 on holds the number's bytes.
-/
namespace Go.Proofs.Ytpkpednemkagiaa
open Go.RowKit

theorem Try.infoForm : (Try.prog.info? 65).map (·.size) = some 10 := by kernel_rfl
theorem formC_one (xs : List Int) : (formC xs).all (·.oneCell') = true := by
  rw [Array.all_eq_true_iff_forall_mem]
  intro v hv
  simp only [formC, bv, List.mem_toArray, List.mem_append, List.mem_map, List.mem_singleton] at hv
  rcases hv with ⟨z, _, rfl⟩ | rfl <;> rfl

theorem Try.infoFormC (xs : List Int) (h : xs.length ≤ 9) : Hid ((Try.prog.info? 65).map (·.size) = some (formC xs).size) := by
  unfold Hid; rw [formC_size xs h]; exact Try.infoForm
theorem formC_sizes (xs ys : List Int) (h : xs.length ≤ 9) (k : ys.length ≤ 9) : Hid ((formC xs).size = (formC ys).size) := by
  unfold Hid; rw [formC_size xs h, formC_size ys k]
theorem snoc_le (xs : List Int) (b : Int) (f : Nat) (h : xs.length + f = 8) : (xs ++ [b]).length ≤ 9 := by simp; omega

set_option maxRecDepth 100000 in
set_option maxHeartbeats 400000 in
theorem form_any (x : Int) (w : World) (hx : 0 ≤ x) (hm : x ≤ 9223372036854775807) :
    Calls Try.prog 41 #[.int .i64 x] w fun e w' => e = .returned (.agg (formC (enc 9 x))) ∧ Below w.heap.size w w' := by
  go_enter Try.func41, Try.ntmps41
  go_wp2_with fail
  go_loopw [0] (fun y wr => ∃ (f : Nat) (q : Int) (acc : List Int), y = .int .i64 q ∧ 0 ≤ q ∧ q ≤ 9223372036854775807 ∧ acc.length + f = 8 ∧ Hid (q < lim (f + 1)) ∧ Hid (acc ++ enc (f + 1) q = enc 9 x) ∧ wr.heap[w.heap.size + 1]? = some (.cells (formC acc) 65 (0, 0)) ∧ wr.heap[w.heap.size]? = some (.cells (formC []) 65 (0, 0)) ∧ Below w.heap.size w wr) (fun y _ => (intOf y).toNat)
  case atStart =>
    exact ⟨8, x, [], rfl, hx, hm, rfl, by unfold Hid; rw [lim_nine]; omega, rfl, heap_alloc2_new _ _ _, heap_alloc2_old _ _ _, ((Below.refl _ _).alloc (Nat.le_refl _) _).alloc (by simp) _⟩
  case round =>
    obtain ⟨f, q, acc, rfl, hq0, hq1, hlen, Hl, Ha, hh, hr, hbel⟩ := hrel
    by_cases hlt : q < 128
    · have Hi1 := Try.infoFormC (acc ++ [q]) (snoc_le acc q f hlen)
      have Hsz := formC_sizes [] (acc ++ [q]) (Nat.zero_le _) (snoc_le acc q f hlen)
      have HO : Hid ((formC (acc ++ [q])).all (·.oneCell') = true) := formC_one _
      go_wp2_with fail
      refine (add_any _ _ acc _ (by omega) hh).mono ?_
      rintro e w1 ⟨rfl, hh1, hbel1⟩
      have hr1 : w1.heap[w.heap.size]? = some (.cells (formC []) 65 (0, 0)) := (hbel1.block _ (by omega)).trans hr
      go_wp2_with (first | refine wpList_load_row rfl 65 _ rfl (w.heap.size + 1) rfl 65 _ (0, 0) _ hh1 Try.underlying65 rfl Hi1.out ?_ | refine wpList_store_row rfl 65 _ _ rfl w.heap.size _ rfl rfl 65 _ hr1 Hi1.out Hsz.out HO.out ?_)
      have e9 : enc 9 x = acc ++ [q] := by rw [← Ha.out, enc_last f q hlt]
      rw [e9]
      refine bodyPost_ret (results_cell_row rfl _ _ w.heap.size 65 _ (0, 0) _ rfl (setRow_heap w1 w.heap.size _ _ 65 _ hr1) Try.underlying65 rfl Hi1.out) rfl ⟨rfl, ?_⟩
      exact below_setRow (hbel.trans (hbel1.mono (by omega))) (Nat.le_refl _) _
    · go_wp2_with fail
      refine (add_any _ _ acc _ (by omega) hh).mono ?_
      rintro e w1 ⟨rfl, hh1, hbel1⟩
      go_wp2_with fail
      go_roundw
      case rel =>
        obtain ⟨f', rfl, hl⟩ := lim_more f q (by omega) Hl.out
        refine ⟨f', q / 128, acc ++ [q % 128 + 128], rfl, by omega, by omega, by simp; omega, hl, ?_, hh1, (hbel1.block _ (by omega)).trans hr, hbel.trans (hbel1.mono (by omega))⟩
        have e := enc_more (f' + 1) q (by omega)
        have e2 := Ha.out
        rw [e] at e2
        unfold Hid
        rw [← e2]
        simp
      case measure => simp [intOf]; omega

end Go.Proofs.Ytpkpednemkagiaa

/-
  Contract of (*impl.numForm).number: the number of the bytes that the form holds; none where the highest of several is 0.
-/
namespace Go.Proofs.Ytpkpednemkagiaa
open Go.RowKit

/-- What number answers. -/
def nV (bs : List Int) : Int × Bool := if 1 < bs.length ∧ bs.getLast? = some 0 then (0, false) else (val bs, true)

theorem form_byte (bs : List Int) (h : bs.length ≤ 9) (w : World) (F : Nat) (hh : w.heap[F]? = some (.cells (formC bs) 65 (0, 0))) (i : Nat) (hi : i < bs.length) :
    w.cell? ⟨F, i, none⟩ = some (.int .u8 bs[i]) := by
  rw [cell_of_row w F i _ 65 (0, 0) hh, formC_get bs h i (by omega), List.getD_eq_getElem?_getD, List.getElem?_append_left hi]
  simp [hi]
theorem val_drop (bs : List Int) (m : Nat) (h : m < bs.length) : val (bs.drop m) = val (bs.drop (m + 1)) * 128 + bs[m] % 128 := by
  rw [List.drop_eq_getElem_cons h]
  simp only [val]
  omega

theorem nV_bad (bs : List Int) (n : Nat) (l : Int) (hn : bs.length = n + 1) (hl : bs[n]? = some l) (h0 : 0 < n) (h : l = 0) : nV bs = (0, false) := by
  have e : bs.getLast? = some 0 := by rw [List.getLast?_eq_getElem?, hn, Nat.add_sub_cancel, hl, h]
  unfold nV
  rw [if_pos ⟨by omega, e⟩]
theorem nV_ok (bs : List Int) (n : Nat) (l : Int) (hn : bs.length = n + 1) (hl : bs[n]? = some l) (h : n = 0 ∨ (0 < n ∧ ¬ l = 0)) : nV bs = (val bs, true) := by
  have e : bs.getLast? = some l := by rw [List.getLast?_eq_getElem?, hn, Nat.add_sub_cancel, hl]
  unfold nV
  rw [if_neg]
  rw [e, hn]
  simp only [Option.some.injEq]
  omega

set_option maxHeartbeats 800000 in
theorem number_any (F : Nat) (bs : List Int) (w : World) (h1 : 1 ≤ bs.length) (h9 : bs.length ≤ 9) (hz : ∀ z ∈ bs, 0 ≤ z ∧ z ≤ 255) (hh : w.heap[F]? = some (.cells (formC bs) 65 (0, 0))) :
    Calls Try.prog 35 #[.pointer (some ⟨F, 0, none⟩)] w fun e w' => e = .returned (.tuple #[.int .i64 (nV bs).1, .bool (nV bs).2]) ∧ w' = w := by
  obtain ⟨n, hn⟩ : ∃ n, bs.length = n + 1 := ⟨bs.length - 1, by omega⟩
  have hn9 : n < 9 := by omega
  have c9 : w.cell? ⟨F, 9, none⟩ = some (.int .i64 ((n : Int) + 1)) := by
    rw [cell_of_row w F 9 _ 65 (0, 0) hh, formC_count bs h9, hn]; simp
  have hb := form_byte bs h9 w F hh
  clear hh
  obtain ⟨l, hl⟩ : ∃ l, bs[n]? = some l := ⟨bs[n], by simp⟩
  have hcl : w.cell? ⟨F, n, none⟩ = some (.int .u8 l) := by
    have := hb n (by omega)
    rw [this]
    rw [List.getElem?_eq_getElem (by omega)] at hl
    rw [Option.some.inj hl]
  have hl0 := hz l (List.mem_of_getElem? hl)
  by_cases hbad : 0 < n ∧ l = 0
  · have Hv : Hid (nV bs = (0, false)) := nV_bad bs n l hn hl hbad.1 hbad.2
    obtain ⟨hn0, rfl⟩ := hbad
    clear hb hz hl hn
    go_enter Try.func35, Try.ntmps35
    go_wp2
    go_ret2
    exact ⟨by rw [Hv.out]; rfl, rfl⟩
  · have hd : n = 0 ∨ (0 < n ∧ ¬ l = 0) := by omega
    have Hv : Hid (nV bs = (val bs, true)) := nV_ok bs n l hn hl hd
    have HN : Hid (bs.length = n + 1) := hn
    have hd : n < 1 ∨ (0 < n ∧ ¬ l = 0) := by omega
    clear hbad hn hl
    rcases hd with hd | ⟨hd, hl1⟩
    all_goals
      go_enter Try.func35, Try.ntmps35
      go_wp2
      go_loop [5, 6] (fun x i => ∃ (j : Nat) (q : Int), j ≤ n + 1 ∧ i = .int .i64 q ∧ x = .int .i64 (val (bs.drop j)) ∧ Hid (q = (j : Int) - 1)) (fun _ i => (intOf i + 1).toNat)
      case atStart => exact ⟨n + 1, n, by omega, by go_num, by rw [List.drop_eq_nil_of_le (by have := HN.out; omega)]; rfl, by unfold Hid; omega⟩
      case round =>
        obtain ⟨j, q, hj, rfl, rfl, HQ⟩ := hrel
        cases j with
        | zero =>
          have hq : q < 0 := by have := HQ.out; omega
          go_wp2
          go_ret2
          exact ⟨by rw [Hv.out]; rfl, rfl⟩
        | succ m =>
          have hq : q = (m : Int) := by have := HQ.out; omega
          subst hq
          clear HQ
          have hml : m < bs.length := by have := HN.out; omega
          have hc := hb m hml
          have hv := val_bounds (bs.drop (m + 1))
          have hlim := lim_eight (show (bs.drop (m + 1)).length ≤ 8 by simp; omega)
          have Hd : Hid (val (bs.drop m) = val (bs.drop (m + 1)) * 128 + bs[m] % 128) := val_drop bs m hml
          have hzm := hz bs[m] (List.getElem_mem _)
          clear hb hz
          go_wp2
          go_round
          case rel => exact ⟨m, _, by omega, rfl, by rw [Hd.out], rfl⟩
          case measure => simp [intOf]

end Go.Proofs.Ytpkpednemkagiaa

/-
  Contract of (impl.reader).next: the byte at the place, and the place one further; none where there is no byte.
-/
namespace Go.Proofs.Ytpkpednemkagiaa
open Go.RowKit

/-- A block of one int. -/
def One (w : World) (P : Nat) (a : Int) : Prop := w.heap[P]? = some (.cells #[.int .i64 a] 3 (0, 0))
theorem One.cell {w : World} {P : Nat} {a : Int} (h : One w P a) : w.cell? ⟨P, 0, none⟩ = some (.int .i64 a) := by
  rw [cell_of_row w P 0 _ 3 (0, 0) h]; rfl
theorem One.free {w : World} {P : Nat} {a : Int} (h : One w P a) : w.frozen? ⟨P, 0, none⟩ = false := frozen_of_row w P 0 _ 3 h
theorem One.lt {w : World} {P : Nat} {a : Int} (h : One w P a) : P < w.heap.size := (Array.getElem?_eq_some_iff.1 h).1
theorem One.set {w : World} {P : Nat} {a : Int} (h : One w P a) (b : Int) : One (w.setCell ⟨P, 0, none⟩ (.int .i64 b)) P b := heap_setCell_same w P 0 _ 3 _ h

theorem One.kept {w w' : World} {P : Nat} {a : Int} (h : One w P a) {row : Option Nat} (hg : w.grownBy w' row) (hne : some P ≠ row) : One w' P a := (hg.block P h.lt hne).trans h
theorem One.below {w w' : World} {P B : Nat} {a : Int} (h : One w P a) (hb : Below B w w') (hP : P < B) : One w' P a := (hb.block P hP).trans h
set_option maxHeartbeats 400000 in
theorem next_no (v : Value) (zs : List Int) (P : Nat) (a : Int) (w : World) (R : ∃ ao cap, v = .slice ao zs.length cap) (h : One w P a) (_hl : zs.length ≤ 140737488351232) (ha : a < 0 ∨ (zs.length : Int) ≤ a) :
    Calls Try.prog 33 #[.agg #[v, .pointer (some ⟨P, 0, none⟩)]] w fun e w' => e = .returned (.tuple #[.int .u8 0, .bool false]) ∧ One w' P a ∧ w.grownBy w' (some P) := by
  obtain ⟨ao, cap, rfl⟩ := R
  have hc := h.cell
  have hP := h.lt
  by_cases ha1 : a < 0
  · clear ha
    go_enter Try.func33, Try.ntmps33
    go_wp2
    go_ret2
    exact ⟨rfl, h.kept (World.grownBy_alloc w _ none) (by simp), World.grownBy_alloc w _ _⟩
  · have ha2 : (zs.length : Int) ≤ a := by omega
    clear ha
    go_enter Try.func33, Try.ntmps33
    go_wp2
    go_ret2
    exact ⟨rfl, h.kept (World.grownBy_alloc w _ none) (by simp), World.grownBy_alloc w _ _⟩

set_option maxHeartbeats 400000 in
theorem next_yes (zs : List Int) (P n g o cap : Nat) (w : World) (h : One w P n) (hl : zs.length ≤ 140737488351232) (hn : n < zs.length)
    (hc0 : w.cell? ⟨g, o + n, none⟩ = some (.int .u8 zs[n])) (hgP : g ≠ P) :
    Calls Try.prog 33 #[.agg #[.slice (some ⟨g, o, none⟩) zs.length cap, .pointer (some ⟨P, 0, none⟩)]] w fun e w' => e = .returned (.tuple #[.int .u8 zs[n], .bool true]) ∧ One w' P ((n : Int) + 1) ∧ w.grownBy w' (some P) := by
  have hc := h.cell
  have hf := h.free
  have hP := h.lt
  have hg := World.block_lt_of_cell? _ _ hc0
  simp only at hg
  generalize zs[n] = b at hc0 ⊢
  go_enter Try.func33, Try.ntmps33
  go_wp2
  go_ret2
  have h1 := (h.set ((n : Int) + 1)).kept (World.grownBy_alloc (w.setCell ⟨P, 0, none⟩ (.int .i64 ((n : Int) + 1))) (.cells #[.slice (some ⟨g, o, none⟩) zs.length cap, .pointer (some ⟨P, 0, none⟩)] 40) none) (by simp)
  exact ⟨rfl, h1, grown_trans (grown_set w P 0 _) (World.grownBy_alloc _ _ _)⟩

theorem grown_then {w w1 w2 : World} {row : Option Nat} {B : Nat} (h : w.grownBy w1 row) (k : Below B w1 w2) (hB : w.heap.size ≤ B) : w.grownBy w2 row :=
  ⟨k.os.trans h.os, k.tape.trans h.tape, k.output.trans h.output, Nat.le_trans h.size k.size, fun i hi hne => (k.block i (by omega)).trans (h.block i hi hne)⟩

theorem gN_nV (zs : List Int) (n : Nat) (bs : List Int) (h : scan 9 (zs.drop n) = some bs) :
    (gN zs (n : Int)).1 = (nV bs).1 ∧ (gN zs (n : Int)).2.2 = (nV bs).2 ∧ ((gN zs (n : Int)).2.2 = true → (gN zs (n : Int)).2.1 = (n : Int) + bs.length) := by
  have h1 : ¬ (n : Int) < 0 := by omega
  simp only [gN, h1, if_false, Int.toNat_natCast, h, nV]
  split <;> simp

end Go.Proofs.Ytpkpednemkagiaa
