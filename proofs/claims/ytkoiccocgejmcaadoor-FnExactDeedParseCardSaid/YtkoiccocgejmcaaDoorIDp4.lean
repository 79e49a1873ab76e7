/-
  The contracts of impl.readNone, readOne and readTwo. The listed variables read as they are laid.
-/
import Derived.Test.YtkoiccocgejmcaaDoorIDp3
namespace Go.Proofs.YtkoiccocgejmcaaDoor
open Go.RowKit

/-- An error, where something is wrong; none where not. -/
def ErrA (b : Nat) (w : World) (a : Addr) (ok : Bool) (e : Value) : Prop := (ok = true → e = .nilIface) ∧ (ok = false → BadE b w a e)
theorem ErrA.yes {b : Nat} {w : World} {a : Addr} : ErrA b w a true .nilIface := ⟨fun _ => rfl, fun h => (by cases h)⟩
theorem ErrA.no {b : Nat} {w : World} {a : Addr} {e : Value} (h : BadE b w a e) : ErrA b w a false e := ⟨fun h => (by cases h), fun _ => h⟩
theorem ErrA.low {b : Nat} {w : World} {a : Addr} {ok : Bool} {e : Value} (h : ErrA b w a ok e) : ErrA 0 w a ok e := ⟨h.1, fun hf => (h.2 hf).mono (Nat.zero_le _)⟩
theorem ErrA.keep {b : Nat} {w w' : World} {a : Addr} {ok : Bool} {e : Value} (h : ErrA b w a ok e) (hs : w.heap.size ≤ w'.heap.size) (hk : ∀ k, b ≤ k → k < w.heap.size → w'.heap[k]? = w.heap[k]?) : ErrA b w' a ok e := ⟨h.1, fun hf => (h.2 hf).keep hs hk⟩
theorem ErrA.rn (b : Nat) (w : World) (l : List UInt8) (a : Addr) : ErrA b w a (rnB l) (rnE l a) := by
  unfold rnE
  cases rnB l with
  | true => exact ErrA.yes
  | false => exact ErrA.no (Or.inl rfl)

set_option maxHeartbeats 800000 in
theorem readone_any (l : List UInt8) (B : Nat) (a : Addr) (w : World) (hE : EnvD B a w) (hl : l.length ≤ 1048576) :
    Calls Tryd.prog 32 #[.string (tx l)] w fun e w' => (∃ ev, e = .returned (.tuple #[.int .i64 (rnV l), .int .i64 0, ev]) ∧ ErrA w.heap.size w' a (rnB l) ev) ∧ Below w.heap.size w w' := by
  have N := readnum_any l B a w hE hl
  have HE := fun w' => ErrA.rn w.heap.size w' l a
  generalize rnE l a = ev at *
  generalize rnV l = rv at *
  go_enter Tryd.func32, Tryd.ntmps32
  go_wp2_with fail
  refine N.mono ?_
  rintro e w1 ⟨rfl, hb1⟩
  go_wp2_with fail
  go_ret3
  exact ⟨⟨ev, rfl, HE w1⟩, hb1⟩

set_option maxHeartbeats 800000 in
theorem readnone_any (l : List UInt8) (B : Nat) (a : Addr) (w : World) (hE : EnvD B a w) :
    Calls Tryd.prog 33 #[.string (tx l)] w fun e w' => (∃ ev, e = .returned (.tuple #[.int .i64 0, .int .i64 0, ev]) ∧ ErrA w.heap.size w' a (l == []) ev) ∧ Below w.heap.size w w' := by
  have cg := hE.2.2.2.2.2
  cases l with
  | nil =>
    have ht : tx [] = ⟨#[]⟩ := rfl
    rw [ht]
    go_enter Tryd.func33, Tryd.ntmps33
    go_wp2_with fail
    go_ret3
    exact ⟨⟨.nilIface, rfl, ErrA.yes⟩, Below.refl _ _⟩
  | cons c r =>
    have hq : ((tx (c :: r)).toList == ([] : List UInt8)) = false := by rw [ByteArray.toList_eq, tx_list]; rfl
    generalize tx (c :: r) = t at *
    go_enter Tryd.func33, Tryd.ntmps33
    go_wp2_with fail
    go_region
    all_goals
      go_wp2_with fail
      go_ret3
      exact ⟨⟨_, rfl, ErrA.no (Or.inl rfl)⟩, Below.drew (Below.refl _ _)⟩

set_option maxRecDepth 100000 in
set_option maxHeartbeats 1600000 in
theorem readtwo_any (l : List UInt8) (B : Nat) (a : Addr) (w : World) (hE : EnvD B a w) (hl : l.length ≤ 1048576) :
    Calls Tryd.prog 31 #[.string (tx l)] w fun e w' => (∃ (n : Int) (ev : Value), LastB l n ∧ e = .returned (.tuple #[.int .i64 (rnV (l.take n.toNat)), .int .i64 (rnV (l.drop n.toNat)), ev]) ∧ ErrA w.heap.size w' a (rnB (l.take n.toNat) && rnB (l.drop n.toNat)) ev) ∧ Below w.heap.size w w' := by
  have L := lastidx_any (tx l) w (by rw [tx_size]; exact hl)
  rw [tx_list] at L
  have z := tx_size l
  go_enter Tryd.func31, Tryd.ntmps31
  go_wp2_with fail
  refine L.mono ?_
  rintro e w1 ⟨⟨n, rfl, hn⟩, rfl⟩
  have hk : n.toNat ≤ l.length := by
    rcases hn with ⟨rfl, _⟩ | ⟨_, h, _⟩
    · simp
    · have := (List.getElem?_eq_some_iff.1 h).1
      omega
  obtain ⟨k, hkn⟩ : ∃ k, Hid (n.toNat = k) := ⟨_, rfl⟩
  have hmx : max n 0 = (k : Int) := by have := hkn.out; omega
  rw [hkn.out] at hk
  have hki : (k : Int) ≤ (l.length : Int) := by omega
  have e1 : (tx l).extract 0 k = tx (l.take k) := tx_head l k
  have e2 : (tx l).extract k l.length = tx (l.drop k) := tx_tail l k _ (Nat.le_refl _)
  have l1 : (l.take k).length ≤ 1048576 := by rw [List.length_take]; omega
  have l2 : (l.drop k).length ≤ 1048576 := by rw [List.length_drop]; omega
  have N1 := readnum_any (l.take k) B a w1 hE l1
  have N2 := fun w' (h : Below w1.heap.size w1 w') => readnum_any (l.drop k) B a w' (hE.on h) l2
  clear L
  have HF : Hid (∀ (w' : World) (ev : Value), ErrA w1.heap.size w' a (rnB (l.take k) && rnB (l.drop k)) ev → ∃ (n : Int) (ev' : Value), LastB l n ∧ Ending.returned (.tuple #[.int .i64 (rnV (l.take k)), .int .i64 (rnV (l.drop k)), ev]) = .returned (.tuple #[.int .i64 (rnV (l.take n.toNat)), .int .i64 (rnV (l.drop n.toNat)), ev']) ∧ ErrA w1.heap.size w' a (rnB (l.take n.toNat) && rnB (l.drop n.toNat)) ev') := by
    intro w' ev h
    refine ⟨n, ev, hn, ?_, ?_⟩
    · rw [hkn.out]
    · rw [hkn.out]; exact h
  have b1 : ∃ b, rnB (l.take k) = b ∧ rnE (l.take k) a = (if b = true then .nilIface else NL a) := ⟨_, rfl, rfl⟩
  have b2 : ∃ b, rnB (l.drop k) = b ∧ rnE (l.drop k) a = (if b = true then .nilIface else NL a) := ⟨_, rfl, rfl⟩
  obtain ⟨c1, h1, g1⟩ := b1
  obtain ⟨c2, h2, g2⟩ := b2
  rw [g1] at N1
  rw [g2] at N2
  rw [h1, h2] at HF
  generalize rnV (l.take k) = x1 at *
  generalize rnV (l.drop k) = x2 at *
  cases c1 with
  | true =>
    cases c2 with
    | true =>
      simp only [if_true] at N1 N2
      go_wp2_with fail
      refine N1.mono ?_
      rintro e wa ⟨rfl, hba⟩
      go_wp2_with fail
      refine (N2 _ hba).mono ?_
      rintro e wb ⟨rfl, hbb⟩
      have hB : Below w1.heap.size w1 wb := hba.trans (hbb.mono hba.size)
      clear N1 N2 hba hbb
      have k0 : (wb.alloc (Obj.cells #[.nilIface, .nilIface] 42)).cell? ⟨wb.heap.size, 0, none⟩ = some .nilIface := by rw [cell_of_row _ wb.heap.size 0 _ 42 (0, 0) (heap_alloc_new wb _)]; rfl
      have k1 : (wb.alloc (Obj.cells #[.nilIface, .nilIface] 42)).cell? ⟨wb.heap.size, 1, none⟩ = some .nilIface := by rw [cell_of_row _ wb.heap.size 1 _ 42 (0, 0) (heap_alloc_new wb _)]; rfl
      have hB2 : Below w1.heap.size w1 (wb.alloc (Obj.cells #[.nilIface, .nilIface] 42)) := hB.alloc hB.size _
      go_wp2_with fail
      refine (join_nn _ _ k0 k1).mono ?_
      rintro e wc ⟨rfl, rfl⟩
      go_wp2_with fail
      go_ret3
      exact ⟨HF.out _ _ ErrA.yes, hB2⟩
    | false =>
      simp only [if_true, if_false, Bool.false_eq_true] at N1 N2
      go_wp2_with fail
      refine N1.mono ?_
      rintro e wa ⟨rfl, hba⟩
      go_wp2_with fail
      refine (N2 _ hba).mono ?_
      rintro e wb ⟨rfl, hbb⟩
      have hB : Below w1.heap.size w1 wb := hba.trans (hbb.mono hba.size)
      clear N1 N2 hba hbb
      have k0 : (wb.alloc (Obj.cells #[.nilIface, NL a] 42)).cell? ⟨wb.heap.size, 0, none⟩ = some .nilIface := by rw [cell_of_row _ wb.heap.size 0 _ 42 (0, 0) (heap_alloc_new wb _)]; rfl
      have k1 : (wb.alloc (Obj.cells #[.nilIface, NL a] 42)).cell? ⟨wb.heap.size, 1, none⟩ = some (NL a) := by rw [cell_of_row _ wb.heap.size 1 _ 42 (0, 0) (heap_alloc_new wb _)]; rfl
      have hB2 : Below w1.heap.size w1 (wb.alloc (Obj.cells #[.nilIface, NL a] 42)) := hB.alloc hB.size _
      go_wp2_with fail
      refine (join_nb _ a _ k0 k1 (by simp)).mono ?_
      rintro e wc ⟨v, rfl, hv, hbc⟩
      have hB3 := hB2.trans (hbc.mono hB2.size)
      clear hbc
      go_wp2_with fail
      go_ret3
      exact ⟨HF.out _ _ (ErrA.no (hv.mono hB2.size)), hB3⟩
  | false =>
    cases c2 with
    | true =>
      simp only [if_true, if_false, Bool.false_eq_true] at N1 N2
      go_wp2_with fail
      refine N1.mono ?_
      rintro e wa ⟨rfl, hba⟩
      go_wp2_with fail
      refine (N2 _ hba).mono ?_
      rintro e wb ⟨rfl, hbb⟩
      have hB : Below w1.heap.size w1 wb := hba.trans (hbb.mono hba.size)
      clear N1 N2 hba hbb
      have k0 : (wb.alloc (Obj.cells #[NL a, .nilIface] 42)).cell? ⟨wb.heap.size, 0, none⟩ = some (NL a) := by rw [cell_of_row _ wb.heap.size 0 _ 42 (0, 0) (heap_alloc_new wb _)]; rfl
      have k1 : (wb.alloc (Obj.cells #[NL a, .nilIface] 42)).cell? ⟨wb.heap.size, 1, none⟩ = some .nilIface := by rw [cell_of_row _ wb.heap.size 1 _ 42 (0, 0) (heap_alloc_new wb _)]; rfl
      have hB2 : Below w1.heap.size w1 (wb.alloc (Obj.cells #[NL a, .nilIface] 42)) := hB.alloc hB.size _
      go_wp2_with fail
      refine (join_bn _ a _ k0 k1 (by simp)).mono ?_
      rintro e wc ⟨v, rfl, hv, hbc⟩
      have hB3 := hB2.trans (hbc.mono hB2.size)
      clear hbc
      go_wp2_with fail
      go_ret3
      exact ⟨HF.out _ _ (ErrA.no (hv.mono hB2.size)), hB3⟩
    | false =>
      simp only [if_false, Bool.false_eq_true] at N1 N2
      go_wp2_with fail
      refine N1.mono ?_
      rintro e wa ⟨rfl, hba⟩
      go_wp2_with fail
      refine (N2 _ hba).mono ?_
      rintro e wb ⟨rfl, hbb⟩
      have hB : Below w1.heap.size w1 wb := hba.trans (hbb.mono hba.size)
      clear N1 N2 hba hbb
      have k0 : (wb.alloc (Obj.cells #[NL a, NL a] 42)).cell? ⟨wb.heap.size, 0, none⟩ = some (NL a) := by rw [cell_of_row _ wb.heap.size 0 _ 42 (0, 0) (heap_alloc_new wb _)]; rfl
      have k1 : (wb.alloc (Obj.cells #[NL a, NL a] 42)).cell? ⟨wb.heap.size, 1, none⟩ = some (NL a) := by rw [cell_of_row _ wb.heap.size 1 _ 42 (0, 0) (heap_alloc_new wb _)]; rfl
      have hB2 : Below w1.heap.size w1 (wb.alloc (Obj.cells #[NL a, NL a] 42)) := hB.alloc hB.size _
      go_wp2_with fail
      refine (join_bb _ a _ k0 k1 (by simp)).mono ?_
      rintro e wc ⟨v, rfl, hv, hbc⟩
      have hB3 := hB2.trans (hbc.mono hB2.size)
      clear hbc
      go_wp2_with fail
      go_ret3
      exact ⟨HF.out _ _ (ErrA.no (hv.mono hB2.size)), hB3⟩
end Go.Proofs.YtkoiccocgejmcaaDoor
