/-
  Texts that stood by themselves, laid into one.
-/
import Derived.Test.YtpkpednemkagiaaSMlRM
import Derived.Test.YtpkpednemkagiaaIMlRM
import Derived.Test.YtpkpednemkagiaaDMlM
import Derived.Test.YtpkpednemkagiaaDraw2M
import Derived.ProofKit
import Derived.OpenShut
import Derived.ShutString
import Derived.ChangeOld
import Derived.Below
/-
  The law FnExactMailRead, walked: for every text it returns true and writes nothing that was there.
-/
namespace Go.Proofs.Ytpkpednemkagiaa
open Go.RowKit

set_option maxRecDepth 100000 in
set_option maxHeartbeats 800000 in
theorem mailread_law (s : ByteArray) (w : World) (hm : s.size ≤ 9223372036854775807) :
    Calls Try.prog 3 #[.string s] w fun e w' => e = .returned (.bool true) ∧ Below w.heap.size w w' := by
  go_enter Try.func3, Try.ntmps3
  by_cases hs : 1048576 < s.size
  · go_wp2_with fail
    go_ret
    exact ⟨rfl, Below.refl _ _⟩
  · have H1 := smailr_any s
    have H2 := imailr_any s
    generalize mrd (sb s) = r at *
    obtain ⟨k, p, t, ok, hr⟩ : ∃ k p t ok, mrA r = .tuple #[.int .i64 k, .int .i64 p, .string t, .bool ok] := by
      cases r with
      | none => exact ⟨_, _, _, _, rfl⟩
      | some q => exact ⟨_, _, _, _, rfl⟩
    rw [hr] at H1 H2
    clear hr r
    go_wp2_with fail
    refine (H1 _ (by omega)).mono ?_
    rintro e w1 ⟨rfl, bel1⟩
    go_wp2_with fail
    refine (H2 _ (by omega)).mono ?_
    rintro e w2 ⟨rfl, bel2⟩
    have b := bel1.trans (bel2.mono bel1.size)
    clear H1 H2
    go_wp2
    go_ret
    exact ⟨rfl, b⟩
end Go.Proofs.Ytpkpednemkagiaa

/-
  The law FnMails, walked: for every slice of bytes it returns true and writes nothing that was there.
-/
namespace Go.Proofs.Ytpkpednemkagiaa
open Go.RowKit

set_option maxRecDepth 100000 in
set_option maxHeartbeats 400000 in
theorem mails_big (ao : Option Addr) (len cap : Nat) (w : World) (hl : 1048576 < len) (hm : len ≤ 9223372036854775807) :
    Calls Try.prog 4 #[.slice ao len cap] w fun e w' => e = .returned (.bool true) ∧ Below w.heap.size w w' := by
  go_enter Try.func4, Try.ntmps4
  go_wp2_with (go_at_call 7; go_in)
  go_ret
  exact ⟨rfl, Below.refl _ _⟩

set_option maxRecDepth 100000 in
set_option maxHeartbeats 6400000 in
theorem mails_small (ao : Option Addr) (cap : Nat) (zs : List Int) (w : World) (R : Row w (.slice ao zs.length cap) zs) (hl : zs.length ≤ 1048576) :
    Calls Try.prog 4 #[.slice ao zs.length cap] w fun e w' => e = .returned (.bool true) ∧ Below w.heap.size w w' := by
  go_enter Try.func4, Try.ntmps4
  go_wp2_with (go_at_call 7; go_in)
  refine (dmailw_any _ zs w R hl).mono ?_
  rintro e w1 ⟨x, s, rfl, hx0, hx1, hs, b1⟩
  have hsz := mwR_size x s
  have HW : 0 ≤ x → mrd (sb (mwR x s)) = some (1, x, s) := fun h => mrd_word x s h (by omega) (by omega)
  have HN : x < 0 → mwR x s = ⟨#[]⟩ := fun h => if_pos h
  go_wp2_with fail
  refine (imword_any x s w1 (by omega) (by omega)).mono ?_
  rintro e w2 ⟨rfl, b2⟩
  have b12 := b1.trans (b2.mono b1.size)
  clear b1 b2
  have H1 := imailr_any (mwR x s)
  obtain ⟨y, hy⟩ : ∃ y, mwR x s = y := ⟨_, rfl⟩
  rw [hy] at H1 HW HN hsz ⊢
  clear hy
  have step2 : ∀ (w3 : World), Below w.heap.size w w3 → True := fun _ _ => trivial
  obtain ⟨r, hr⟩ : ∃ r, mrd (sb y) = r := ⟨_, rfl⟩
  rw [hr] at H1 HW
  clear hr
  have tail : ∀ w3 : World, Below w.heap.size w w3 → Row w3 (.slice ao zs.length cap) zs := fun w3 h => R.below h
  by_cases hn : x < 0
  · obtain rfl := HN hn
    clear HW HN
    obtain ⟨k, p, t, ok, hA⟩ : ∃ k p t ok, mrA r = .tuple #[.int .i64 k, .int .i64 p, .string t, .bool ok] := by
      cases r with
      | none => exact ⟨_, _, _, _, rfl⟩
      | some q => exact ⟨_, _, _, _, rfl⟩
    rw [hA] at H1
    clear hA
    go_wp2_with fail
    refine (H1 _ (by decide)).mono ?_
    rintro e w3 ⟨rfl, b3⟩
    have b13 := b12.trans (b3.mono b12.size)
    clear b12 b3 H1
    go_wp2_with fail
    refine (dmailm_any _ zs w3 (R.below b13) hl).mono ?_
    rintro e w4 ⟨m, rfl, hm, b4⟩
    have b14 := b13.trans (b4.mono b13.size)
    have H2 := imailr_any (mmR m)
    rw [mrd_move m (by omega), show mrA (some (2, 0, m)) = .tuple #[.int .i64 2, .int .i64 0, .string m, .bool true] from rfl] at H2
    have hms := mmR_size m
    have H5 := immove_any m w4 (by omega)
    generalize mmR m = mm at H2 hms H5
    clear b13 b4
    go_wp2_with fail
    refine H5.mono ?_
    rintro e w5 ⟨rfl, b5⟩
    have b15 := b14.trans (b5.mono b14.size)
    clear b14 b5 H5
    go_wp2_with fail
    refine (H2 _ (by omega)).mono ?_
    rintro e w6 ⟨rfl, b6⟩
    have b16 := b15.trans (b6.mono b15.size)
    clear b15 b6 H2
    go_wp2_with fail
    refine (dmailr_any _ zs w6 (R.below b16) hl).mono ?_
    rintro e w7 ⟨raw, rfl, hraw, b7⟩
    have b17 := b16.trans (b7.mono b16.size)
    clear b16 b7
    have H3 := imailr_any raw
    have H4 := smailr_any raw
    have HB := fun k p t => mrd_back (s := raw) (k := k) (p := p) (t := t)
    cases hr : mrd (sb raw) with
    | none =>
      rw [hr] at H3 H4
      rw [show mrA none = .tuple #[.int .i64 0, .int .i64 0, .string ⟨#[]⟩, .bool false] from rfl] at H3 H4
      clear HB hr
      go_wp2_with fail
      refine (H3 _ (by omega)).mono ?_
      rintro e w8 ⟨rfl, b8⟩
      have b18 := b17.trans (b8.mono b17.size)
      clear b17 b8 H3
      go_wp2_with fail
      refine (H4 _ (by omega)).mono ?_
      rintro e w9 ⟨rfl, b9⟩
      have b19 := b18.trans (b9.mono b18.size)
      clear b18 b9 H4
      go_wp2
      go_ret
      exact ⟨rfl, b19⟩
    | some q =>
      obtain ⟨k, p, t⟩ := q
      obtain ⟨hc, hp, ht⟩ := HB k p t hr
      rw [hr] at H3 H4
      rw [show mrA (some (k, p, t)) = .tuple #[.int .i64 k, .int .i64 p, .string t, .bool true] from rfl] at H3 H4
      clear HB hr
      rcases hc with ⟨rfl, hp0, hw⟩ | ⟨rfl, rfl, hw⟩
      · have H6 := fun W => imword_any p t W hp (by omega)
        rw [hw] at H6
        clear hw
        go_wp2_with fail
        refine (H3 _ (by omega)).mono ?_
        rintro e w8 ⟨rfl, b8⟩
        have b18 := b17.trans (b8.mono b17.size)
        clear b17 b8 H3
        go_wp2_with fail
        refine (H4 _ (by omega)).mono ?_
        rintro e w9 ⟨rfl, b9⟩
        have b19 := b18.trans (b9.mono b18.size)
        clear b18 b9 H4
        go_wp2_with fail
        refine (H6 _).mono ?_
        rintro e w10 ⟨rfl, b10⟩
        have b20 := b19.trans (b10.mono b19.size)
        go_wp2
        go_ret
        exact ⟨rfl, b20⟩
      · have H6 := fun W => immove_any t W (by omega)
        rw [hw] at H6
        clear hw
        go_wp2_with fail
        refine (H3 _ (by omega)).mono ?_
        rintro e w8 ⟨rfl, b8⟩
        have b18 := b17.trans (b8.mono b17.size)
        clear b17 b8 H3
        go_wp2_with fail
        refine (H4 _ (by omega)).mono ?_
        rintro e w9 ⟨rfl, b9⟩
        have b19 := b18.trans (b9.mono b18.size)
        clear b18 b9 H4
        go_wp2_with fail
        refine (H6 _).mono ?_
        rintro e w10 ⟨rfl, b10⟩
        have b20 := b19.trans (b10.mono b19.size)
        go_wp2
        go_ret
        exact ⟨rfl, b20⟩
  · obtain rfl := HW (by omega)
    clear HW HN
    have hA : mrA (some (1, x, s)) = .tuple #[.int .i64 1, .int .i64 x, .string s, .bool true] := rfl
    rw [hA] at H1
    clear hA
    go_wp2_with fail
    refine (H1 _ (by omega)).mono ?_
    rintro e w3 ⟨rfl, b3⟩
    have b13 := b12.trans (b3.mono b12.size)
    clear b12 b3 H1
    go_wp2_with fail
    refine (dmailm_any _ zs w3 (R.below b13) hl).mono ?_
    rintro e w4 ⟨m, rfl, hm, b4⟩
    have b14 := b13.trans (b4.mono b13.size)
    have H2 := imailr_any (mmR m)
    rw [mrd_move m (by omega), show mrA (some (2, 0, m)) = .tuple #[.int .i64 2, .int .i64 0, .string m, .bool true] from rfl] at H2
    have hms := mmR_size m
    have H5 := immove_any m w4 (by omega)
    generalize mmR m = mm at H2 hms H5
    clear b13 b4
    go_wp2_with fail
    refine H5.mono ?_
    rintro e w5 ⟨rfl, b5⟩
    have b15 := b14.trans (b5.mono b14.size)
    clear b14 b5 H5
    go_wp2_with fail
    refine (H2 _ (by omega)).mono ?_
    rintro e w6 ⟨rfl, b6⟩
    have b16 := b15.trans (b6.mono b15.size)
    clear b15 b6 H2
    go_wp2_with fail
    refine (dmailr_any _ zs w6 (R.below b16) hl).mono ?_
    rintro e w7 ⟨raw, rfl, hraw, b7⟩
    have b17 := b16.trans (b7.mono b16.size)
    clear b16 b7
    have H3 := imailr_any raw
    have H4 := smailr_any raw
    have HB := fun k p t => mrd_back (s := raw) (k := k) (p := p) (t := t)
    cases hr : mrd (sb raw) with
    | none =>
      rw [hr] at H3 H4
      rw [show mrA none = .tuple #[.int .i64 0, .int .i64 0, .string ⟨#[]⟩, .bool false] from rfl] at H3 H4
      clear HB hr
      go_wp2_with fail
      refine (H3 _ (by omega)).mono ?_
      rintro e w8 ⟨rfl, b8⟩
      have b18 := b17.trans (b8.mono b17.size)
      clear b17 b8 H3
      go_wp2_with fail
      refine (H4 _ (by omega)).mono ?_
      rintro e w9 ⟨rfl, b9⟩
      have b19 := b18.trans (b9.mono b18.size)
      clear b18 b9 H4
      go_wp2
      go_ret
      exact ⟨rfl, b19⟩
    | some q =>
      obtain ⟨k, p, t⟩ := q
      obtain ⟨hc, hp, ht⟩ := HB k p t hr
      rw [hr] at H3 H4
      rw [show mrA (some (k, p, t)) = .tuple #[.int .i64 k, .int .i64 p, .string t, .bool true] from rfl] at H3 H4
      clear HB hr
      rcases hc with ⟨rfl, hp0, hw⟩ | ⟨rfl, rfl, hw⟩
      · have H6 := fun W => imword_any p t W hp (by omega)
        rw [hw] at H6
        clear hw
        go_wp2_with fail
        refine (H3 _ (by omega)).mono ?_
        rintro e w8 ⟨rfl, b8⟩
        have b18 := b17.trans (b8.mono b17.size)
        clear b17 b8 H3
        go_wp2_with fail
        refine (H4 _ (by omega)).mono ?_
        rintro e w9 ⟨rfl, b9⟩
        have b19 := b18.trans (b9.mono b18.size)
        clear b18 b9 H4
        go_wp2_with fail
        refine (H6 _).mono ?_
        rintro e w10 ⟨rfl, b10⟩
        have b20 := b19.trans (b10.mono b19.size)
        go_wp2
        go_ret
        exact ⟨rfl, b20⟩
      · have H6 := fun W => immove_any t W (by omega)
        rw [hw] at H6
        clear hw
        go_wp2_with fail
        refine (H3 _ (by omega)).mono ?_
        rintro e w8 ⟨rfl, b8⟩
        have b18 := b17.trans (b8.mono b17.size)
        clear b17 b8 H3
        go_wp2_with fail
        refine (H4 _ (by omega)).mono ?_
        rintro e w9 ⟨rfl, b9⟩
        have b19 := b18.trans (b9.mono b18.size)
        clear b18 b9 H4
        go_wp2_with fail
        refine (H6 _).mono ?_
        rintro e w10 ⟨rfl, b10⟩
        have b20 := b19.trans (b10.mono b19.size)
        go_wp2
        go_ret
        exact ⟨rfl, b20⟩
end Go.Proofs.Ytpkpednemkagiaa

/-
  What a slice of bytes that came in reads as. Nothing of the program; no condition.
-/
namespace Go.Proofs.Ytpkpednemkagiaa
open Go.ChangeShapes Go.WideShapes Go.ChangeAt Go.RowKit

theorem ownKnob_none : ownKnob Try.prog.godebug = none := by kernel_rfl
theorem laidOut_true : laidOutB Try.prog = true := by kernel_rfl

/-- A slice of integers that came in: nil, or a row of 'cap' cells, the numbers zs, the first 'len' its elements. -/
def IsRow (k : IntKind) (w : World) (a : Option Addr) (len cap : Nat) (zs : List Int) : Prop :=
  (a = none ∧ len = 0 ∧ cap = 0 ∧ zs = []) ∨
  ∃ x, a = some x ∧ len ≤ cap ∧ cap ≤ maxLen ∧ zs.length = cap ∧ (∀ i, i < zs.length → w.cell? (x.add i) = some (.int k (zs.getD i 0))) ∧ ∀ n ∈ zs, (Lit.int k n).wf = true

theorem IsRow.len {w : World} {a : Option Addr} {len cap : Nat} {zs : List Int} (h : IsRow .u8 w a len cap zs) : len ≤ 9223372036854775807 ∧ (zs.take len).length = len := by
  rcases h with ⟨rfl, rfl, rfl, rfl⟩ | ⟨x, rfl, hl, hm, hz, _⟩
  · simp
  · unfold maxLen at hm
    simp only [List.length_take]
    omega

theorem IsRow.row {w : World} {a : Option Addr} {len cap : Nat} {zs : List Int} (h : IsRow .u8 w a len cap zs) (hm : len ≤ 140737488351232) : Row w (.slice a (zs.take len).length cap) (zs.take len) := by
  have hlen := h.len.2
  rcases h with ⟨rfl, rfl, rfl, rfl⟩ | ⟨x, rfl, hl, _, hz, hcell, hwf⟩
  · exact ⟨none, 0, rfl, by simp, by simp, by simp, fun h => absurd rfl h⟩
  · refine ⟨some x, cap, rfl, by omega, by omega, fun z hz' => bounds_u8 (hwf z (List.mem_of_mem_take hz')), fun hne => ?_⟩
    have hpos : 0 < len := by
      rcases Nat.eq_zero_or_pos len with h0 | h0
      · subst h0; simp at hne
      · exact h0
    obtain ⟨b, off, spot⟩ := x
    have hc := hcell 0 (by omega)
    have hspot : spot = none := by simpa [Addr.add] using World.cell?_spot hc
    subst hspot
    have hb := World.block_lt_of_cell? _ _ hc
    refine ⟨b, off, rfl, by simpa [Addr.add_lit] using hb, fun i hi => ?_⟩
    have hc := hcell i (by omega)
    rw [Addr.add_lit] at hc
    rw [hc]
    simp only [List.getD_eq_getElem?_getD, List.getElem?_take]
    rw [if_pos (by omega)]

end Go.Proofs.Ytpkpednemkagiaa
