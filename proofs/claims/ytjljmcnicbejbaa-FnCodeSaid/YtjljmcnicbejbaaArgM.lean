/-
  Texts that stood by themselves, laid into one.
-/
import Derived.Test.YtjljmcnicbejbaaDDoM
import Derived.Test.YtjljmcnicbejbaaCodeOkM
import Derived.Test.YtjljmcnicbejbaaCpM
import Derived.Test.YtjljmcnicbejbaaDraw2M
import Derived.ProofKit
import Derived.OpenShut
import Derived.ShutString
import Derived.ChangeOld
import Derived.Below
/-
  The law FnCode, walked: at every argument it returns true.
-/
namespace Go.Proofs.Ytjljmcnicbejbaa
open Go.RowKit

theorem dfIdx_spec : ∀ (ds : List Df) (s : ByteArray) (j : Nat), (dfIdx ds s j = -1 ∧ ∀ (i : Nat) (d : Df), ds[i]? = some d → (d.s.toList == s.toList) = false) ∨
    ∃ (i : Nat) (d : Df), dfIdx ds s j = ((j + i : Nat) : Int) ∧ ds[i]? = some d ∧ (d.s.toList == s.toList) = true ∧ ∀ (i' : Nat) (d' : Df), i' < i → ds[i']? = some d' → (d'.s.toList == s.toList) = false
  | [], s, j => Or.inl ⟨rfl, fun i d h => by simp at h⟩
  | d :: ds, s, j => by
    cases hb : (d.s.toList == s.toList) with
    | true => exact Or.inr ⟨0, d, by rw [dfIdx, if_pos hb]; rfl, rfl, hb, fun i' d' h => absurd h (Nat.not_lt_zero _)⟩
    | false =>
      have he : dfIdx (d :: ds) s j = dfIdx ds s (j + 1) := by rw [dfIdx, if_neg (by rw [hb]; decide)]
      rcases dfIdx_spec ds s (j + 1) with ⟨h1, h2⟩ | ⟨i, x, h1, h2, h3, h4⟩
      · refine Or.inl ⟨he.trans h1, fun i y hy => ?_⟩
        cases i with
        | zero => simp at hy; subst hy; exact hb
        | succ i => exact h2 i y (by simpa using hy)
      · refine Or.inr ⟨i + 1, x, ?_, by simpa using h2, h3, fun i' d' hi hd => ?_⟩
        · rw [he, h1]
          congr 1
          omega
        · cases i' with
          | zero => simp at hd; subst hd; exact hb
          | succ i' => exact h4 i' d' (by omega) (by simpa using hd)

set_option maxRecDepth 100000 in
set_option maxHeartbeats 400000 in
theorem fcode_big (ao : Option Addr) (len cap : Nat) (w : World) (hl : 1048576 < len) (hm : len ≤ 9223372036854775807) :
    Calls Try.prog 3 #[.slice ao len cap] w fun e w' => e = .returned (.bool true) ∧ Below w.heap.size w w' := by
  go_enter Try.func3, Try.ntmps3
  go_wp2_with (go_at_call 6; go_in)
  go_ret
  exact ⟨rfl, Below.refl _ _⟩

set_option maxRecDepth 100000 in
set_option maxHeartbeats 3200000 in
theorem fcode_small (ao : Option Addr) (cap : Nat) (zs : List Int) (w : World) (R : Row w (.slice ao zs.length cap) zs) (hl : zs.length ≤ 1048576) :
    Calls Try.prog 3 #[.slice ao zs.length cap] w fun e w' => e = .returned (.bool true) ∧ Below w.heap.size w w' := by
  go_enter Try.func3, Try.ntmps3
  go_wp2_with (go_at_call 6; go_in)
  refine (ddo_any _ zs w R hl).mono ?_
  rintro e w1 ⟨v1, v2, v3, ns, is, ds, s, rfl, hS, hs, O1, b1⟩
  obtain ⟨a1, q1, rfl⟩ := own_form O1.1
  obtain ⟨a2, q2, rfl⟩ := own_form O1.2.1
  obtain ⟨a3, q3, rfl⟩ := own_form O1.2.2
  have hBx : Below w1.heap.size w1 (w1.alloc (Obj.cells #[.slice a1 ns.length q1, .slice a2 is.length q2, .slice a3 ds.length q3] 30)) := (Below.refl _ _).alloc (Nat.le_refl _) _
  have hx2 := heap_alloc_new w1 (Obj.cells #[.slice a1 ns.length q1, .slice a2 is.length q2, .slice a3 ds.length q3] 30)
  have h1 := hS.l1
  have h2 := hS.l2
  have h3 := hS.l3
  have O2 := O1.below hBx
  have R1 := NRow.of_own O2.1 (by omega) hS.z1
  have R2 := InRow.of_own O2.2.1 (by omega) hS.z2
  have R3 := DfRow.of_own O2.2.2 (by omega) hS.z3
  have hB2 := b1.trans (hBx.mono b1.size)
  clear O1 O2 b1 hBx R
  go_wp2_with fail
  generalize w1.alloc (Obj.cells #[.slice a1 ns.length q1, .slice a2 is.length q2, .slice a3 ds.length q3] 30) = w2 at *
  generalize w1.heap.size = bx at *
  refine (icodeok_any _ _ _ ns is ds _ R1 R2 R3).mono ?_
  rintro e w3 ⟨rfl, hb3⟩
  have hx3 := (hb3.block _ (Array.getElem?_eq_some_iff.1 hx2).1).trans hx2
  obtain ⟨y0, y1, y2, _, _, _⟩ := cells3 hx3
  replace R1 := R1.below hb3
  replace R2 := R2.below hb3
  replace R3 := R3.below hb3
  have hB3 := hB2.trans (hb3.mono hB2.size)
  clear hB2 hb3 hx2
  go_wp2_with fail
  refine (idefof_any _ _ _ _ _ _ _ ds s _ R3).mono ?_
  rintro e w4 ⟨rfl, hb4⟩
  have hx4 := (hb4.block _ (Array.getElem?_eq_some_iff.1 hx3).1).trans hx3
  clear y0 y1 y2
  obtain ⟨y0, y1, y2, _, _, _⟩ := cells3 hx4
  replace R1 := R1.below hb4
  replace R2 := R2.below hb4
  replace R3 := R3.below hb4
  have hB4 := hB3.trans (hb4.mono hB3.size)
  clear hB3 hb4 hx3
  go_wp2_with fail
  refine (scodeok_any _ _ _ ns is ds _ R1 R2 R3).mono ?_
  rintro e w5 ⟨rfl, hb5⟩
  have hx5 := (hb5.block _ (Array.getElem?_eq_some_iff.1 hx4).1).trans hx4
  clear y0 y1 y2
  obtain ⟨y0, y1, y2, _, _, _⟩ := cells3 hx5
  replace R3 := R3.below hb5
  have hB5 := hB4.trans (hb5.mono hB4.size)
  clear hB4 hb5 hx4 R1 R2
  go_wp2_with fail
  refine (sdefof_any _ _ _ _ _ _ _ ds s _ R3).mono ?_
  rintro e w6 ⟨rfl, hb6⟩
  have hx6 := (hb6.block _ (Array.getElem?_eq_some_iff.1 hx5).1).trans hx5
  clear y0 y1 y2
  obtain ⟨y0, y1, y2, _, _, _⟩ := cells3 hx6
  replace R3 := R3.below hb6
  have hB6 := hB5.trans (hb6.mono hB5.size)
  clear hB5 hb6 hx5
  have HK := dfIdx_spec ds s 0
  generalize dfIdx ds s 0 = k at *
  generalize codeB ns is ds = bc at *
  go_wp2_with fail
  go_loopw [7] (fun i wr => ∃ j : Nat, j ≤ ds.length ∧ i = .int .i64 j ∧ wr = w6) (fun i _ => ds.length - (intOf i).toNat)
  case atStart => exact ⟨0, Nat.zero_le _, rfl, rfl⟩
  case round =>
    obtain ⟨j, hj, rfl, rfl⟩ := hrel
    by_cases hlt : j < ds.length
    · have hlt' : (j : Int) < ds.length := by omega
      obtain ⟨d, hd⟩ : ∃ d, ds[j]? = some d := ⟨ds[j], by simp [hlt]⟩
      obtain ⟨ao3, cap3, e3, _, _, _, hc3⟩ := R3
      obtain ⟨g, o, rfl, hg, hc3⟩ := hc3 (by intro e; subst e; simp at hlt)
      obtain ⟨rfl, _, rfl⟩ : a3 = some ⟨g, o, none⟩ ∧ True ∧ q3 = cap3 := by cases e3; exact ⟨rfl, trivial, rfl⟩
      obtain ⟨d0, _, _⟩ := hc3 j d hd
      cases hb : (d.s.toList == s.toList) with
      | false =>
        clear HK hc3
        go_wp2_with fail
        go_roundw
        case rel => exact ⟨j + 1, by omega, by go_num, by first | trivial | rfl⟩
        case measure => simp [intOf]; omega
      | true =>
        have hk0 : ¬ k < 0 := by
          rcases HK with ⟨h1, h2⟩ | ⟨i, x, h1, _⟩
          · have := h2 j d hd; rw [hb] at this; cases this
          · omega
        have hk1 : ¬ (j : Int) < k := by
          rcases HK with ⟨h1, h2⟩ | ⟨i, x, h1, _, _, h4⟩
          · omega
          · intro hh
            have := h4 j d (by omega) hd
            rw [hb] at this
            cases this
        clear HK hc3
        go_wp2_with fail
        go_roundw
        case rel => exact ⟨j + 1, by omega, by go_num, by first | trivial | rfl⟩
        case measure => simp [intOf]; omega
    · have hlt' : ¬ (j : Int) < ds.length := by omega
      rcases HK with ⟨rfl, _⟩ | ⟨i, x, rfl, h2, h3, _⟩
      · go_wp2
        go_ret
        exact ⟨rfl, hB6⟩
      · have hi : i < ds.length := (List.getElem?_eq_some_iff.1 h2).1
        have hi' : (i : Int) < ds.length := by omega
        obtain ⟨ao3, cap3, e3, _, _, _, hc3⟩ := R3
        obtain ⟨g, o, rfl, hg, hc3⟩ := hc3 (by intro e; subst e; simp at hi)
        obtain ⟨rfl, _, rfl⟩ : a3 = some ⟨g, o, none⟩ ∧ True ∧ q3 = cap3 := by cases e3; exact ⟨rfl, trivial, rfl⟩
        obtain ⟨d0, _, _⟩ := hc3 i x h2
        rw [Nat.zero_add]
        have hn : ¬ (i : Int) < 0 := by omega
        clear hc3
        go_wp2
        go_ret
        exact ⟨rfl, hB6⟩
end Go.Proofs.Ytjljmcnicbejbaa

/-
  What a slice of bytes that came in reads as. Nothing of the program; no condition.
-/
namespace Go.Proofs.Ytjljmcnicbejbaa
open Go.ChangeShapes Go.WideShapes Go.ChangeAt Go.RowKit

theorem ownKnob_none : ownKnob Try.prog.godebug = none := by kernel_rfl
theorem laidOut_true : laidOutB Try.prog = true := by kernel_rfl

/-- A slice of integers that came in: nil, or a row of 'cap' cells, the numbers zs, the first 'len' its elements. -/
def IsRow (k : IntKind) (w : World) (a : Option Addr) (len cap : Nat) (zs : List Int) : Prop :=
  (a = none ∧ len = 0 ∧ cap = 0 ∧ zs = []) ∨
  ∃ x, a = some x ∧ len ≤ cap ∧ cap ≤ maxLen ∧ zs.length = cap ∧ (∀ i, i < zs.length → w.cell? (x.add i) = some (.int k (zs.getD i 0))) ∧ ∀ n ∈ zs, (Lit.int k n).wf = true

theorem IsRow.len {w : World} {a : Option Addr} {len cap : Nat} {zs : List Int} (h : IsRow .u8 w a len cap zs) : len ≤ 9223372036854775807 ∧ (zs.take len).length = len := by
  rcases h with ⟨rfl, rfl, rfl, rfl⟩ | ⟨x, rfl, hl, hm, hz, _⟩
  · simp
  · unfold maxLen at hm
    simp only [List.length_take]
    omega

theorem IsRow.row {w : World} {a : Option Addr} {len cap : Nat} {zs : List Int} (h : IsRow .u8 w a len cap zs) (hm : len ≤ 140737488351232) : Row w (.slice a (zs.take len).length cap) (zs.take len) := by
  have hlen := h.len.2
  rcases h with ⟨rfl, rfl, rfl, rfl⟩ | ⟨x, rfl, hl, _, hz, hcell, hwf⟩
  · exact ⟨none, 0, rfl, by simp, by simp, by simp, fun h => absurd rfl h⟩
  · refine ⟨some x, cap, rfl, by omega, by omega, fun z hz' => bounds_u8 (hwf z (List.mem_of_mem_take hz')), fun hne => ?_⟩
    have hpos : 0 < len := by
      rcases Nat.eq_zero_or_pos len with h0 | h0
      · subst h0; simp at hne
      · exact h0
    obtain ⟨b, off, spot⟩ := x
    have hc := hcell 0 (by omega)
    have hspot : spot = none := by simpa [Addr.add] using World.cell?_spot hc
    subst hspot
    have hb := World.block_lt_of_cell? _ _ hc
    refine ⟨b, off, rfl, by simpa [Addr.add_lit] using hb, fun i hi => ?_⟩
    have hc := hcell i (by omega)
    rw [Addr.add_lit] at hc
    rw [hc]
    simp only [List.getD_eq_getElem?_getD, List.getElem?_take]
    rw [if_pos (by omega)]

end Go.Proofs.Ytjljmcnicbejbaa
