/-
  The law FnNums, walked: for every slice of bytes it returns true and writes nothing that was there.
-/
import Derived.Test.YthaimhgjfjcbeabDraw4
import Derived.Test.YthaimhgjfjcbeabRound
import Derived.Test.YthaimhgjfjcbeabIPText
import Derived.Test.YthaimhgjfjcbeabIGText
namespace Go.Proofs.Ythaimhgjfjcbeab
open Go.RowKit

set_option maxRecDepth 100000 in
set_option maxHeartbeats 400000 in
theorem nums_big (ao : Option Addr) (len cap : Nat) (w : World) (hl : 1048576 < len) (hm : len ≤ 9223372036854775807) :
    Calls Try.prog 3 #[.slice ao len cap] w fun e w' => e = .returned (.bool true) ∧ Below w.heap.size w w' := by
  go_enter Try.func3, Try.ntmps3
  go_wp2_with (go_at_call 4; go_in)
  go_ret
  exact ⟨rfl, Below.refl _ _⟩

theorem enc_ne (x : Int) (h0 : 0 ≤ x) (h1 : x ≤ 9223372036854775807) : 1 ≤ (enc 9 x).length := by
  have := scan_enc [] 8 x h0 (nine_lim h1)
  rcases Nat.eq_zero_or_pos (enc 9 x).length with h | h
  · rw [List.eq_nil_of_length_eq_zero h] at this
    simp [scan] at this
  · exact h

/-- A slice of the call's own that is not empty lies at the head of a block. -/
theorem own_some {w : World} {base : Nat} {v : Value} {zs : List Int} (h : w.ownsRow base 5 1 v zs.length (bv zs)) (h1 : 1 ≤ zs.length) :
    ∃ g cap, v = .slice (some ⟨g, 0, none⟩) zs.length cap ∧ base ≤ g ∧ g < w.heap.size ∧ ∀ j u, (bv zs)[j]? = some u → w.cell? ((⟨g, 0, none⟩ : Addr).add j) = some u := by
  rcases h.2 with ⟨rfl, h0⟩ | ⟨g, cap, cur, rfl, hb, hg, _⟩
  · omega
  · exact ⟨g, cap, rfl, hb, (Array.getElem?_eq_some_iff.1 hg).1, h.cells (g := g) rfl⟩

set_option maxRecDepth 100000 in
set_option maxHeartbeats 1600000 in
theorem nums_small (ao : Option Addr) (cap : Nat) (zs : List Int) (w : World) (R : Row w (.slice ao zs.length cap) zs) (hl : zs.length ≤ 1048576) :
    Calls Try.prog 3 #[.slice ao zs.length cap] w fun e w' => e = .returned (.bool true) ∧ Below w.heap.size w w' := by
  obtain ⟨i0, hi, hz0, hz1, hz2⟩ := info_parts Try.infoU8
  go_enter Try.func3, Try.ntmps3
  go_wp2_with (go_at_call 4; go_in)
  refine (drawNum_any _ zs w R hl).mono ?_
  rintro e w1 ⟨x, rfl, hx0, hx1, b1⟩
  go_wp2_with fail
  refine (iput_any x w1 hx1).mono ?_
  rintro e w2 ⟨v2, rfl, own2, b2⟩
  have b12 : Below w.heap.size w w2 := b1.trans (b2.mono b1.size)
  have hlen2 := encI_length x
  by_cases hneg : x < 0
  · rw [encI_neg x hneg] at own2
    have R2 : Row w2 v2 [] := Row.of_own own2 (by simp) (by simp)
    obtain ⟨a2, c2, rfl, _⟩ := R2
    go_wp2_with fail
    go_ret
    exact ⟨rfl, b12⟩
  · rw [encI_pos x (by omega)] at own2 hlen2
    obtain ⟨g2, c2, rfl, hg2, hg2', hcell2⟩ := own_some own2 (enc_ne x (by omega) hx1)
    have hsz12 := b12.size
    have own3 : (w2.alloc (.cells #[.int .u8 9] 5)).ownsRow w2.heap.size 5 1 (.slice (some ⟨w2.heap.size, 0, none⟩) 1 1) 1 [.int .u8 9] := World.ownsRow_lit w2 #[.int .u8 9] 1 (Nat.le_refl _) (by unfold maxLen; omega) rfl
    have hnews3 : ∀ j u, (bv (enc 9 x))[j]? = some u → (w2.alloc (.cells #[.int .u8 9] 5)).cell? ((⟨g2, 0, none⟩ : Addr).add j) = some u := by
      intro j u hu
      rw [World.cell?_of_block (w := w2) (by rw [Addr.add_lit]; exact Below.heap_alloc w2 _ g2 hg2')]
      exact hcell2 j u hu
    clear own2 hcell2
    go_wp2_with (at_builtin; refine wpList_append_own _ rfl _ _ 22 rfl w2.heap.size 5 i0 (.int .u8 0) 1 1 Try.underlying22 hi hz0 hz1 hz2 rfl (by decide) _ _ _ rfl own3 ⟨g2, 0, none⟩ (enc 9 x).length c2 (bv (enc 9 x)) rfl (by rw [bv_length]; simp) hnews3 (ints_oneCell .u8 _) (by unfold maxLen; omega) (by omega) (by simp) ?_)
    intro v3 w3 own3' grow3 _
    have b13 : Below w.heap.size w w3 := (b12.alloc hsz12 _).grown grow3 (by simp; omega) (fun k hk => (own3.lt k hk).1 |> fun h => by omega)
    have hsz13 := b13.size
    have hsz3 := grow3.size
    simp at hsz3
    clear own3 hnews3 grow3
    go_wp2_with fail
    refine (at_any _ zs w3 1 (R.below b13) hl (by omega) (by omega)).mono ?_
    rintro e w3' ⟨c, rfl, hc0, hc1, hw3⟩
    subst hw3
    go_wp2_with (at_builtin; refine wpList_append_own _ rfl _ _ 22 rfl w2.heap.size 5 i0 (.int .u8 0) 1 1 Try.underlying22 hi hz0 hz1 hz2 rfl (by decide) _ _ _ rfl (own3'.alloc _) ⟨w3'.heap.size, 0, none⟩ 1 1 [.int .u8 c] rfl rfl (cell_one_new _ _ _) (fun u hu => by simp at hu; subst hu; rfl) (by unfold maxLen; omega) (by omega) (by simp; omega) ?_)
    intro v4 w4 own4 grow4 _
    have b14 : Below w.heap.size w w4 := (b13.alloc hsz13 _).grown grow4 (by simp; omega) (fun k hk => by have := (own3'.lt k hk).1; omega)
    have hwf4 : ∀ z ∈ [9] ++ (enc 9 x ++ [c]), 0 ≤ z ∧ z ≤ 255 := by
      intro z hz
      simp only [List.mem_append, List.mem_singleton] at hz
      rcases hz with rfl | hz | rfl
      · omega
      · exact enc_wf 9 x (by omega) z hz
      · exact ⟨hc0, hc1⟩
    have R4 : Row w4 v4 ([9] ++ (enc 9 x ++ [c])) := by
      refine Row.of_own (base := w2.heap.size) ?_ (by simp; omega) hwf4
      have e1 : ([9] ++ (enc 9 x ++ [c])).length = 1 + (enc 9 x).length + 1 := by simp; omega
      have e2 : bv ([9] ++ (enc 9 x ++ [c])) = [Value.int .u8 9] ++ bv (enc 9 x) ++ [Value.int .u8 c] := by simp [bv]
      rw [e1, e2]
      exact own4
    have hgN : gN ([9] ++ (enc 9 x ++ [c])) 1 = (x, 1 + ((enc 9 x).length : Int), true) := gN_enc [9] [c] x (by omega) hx1
    have HgN : Hid (gN ([9] ++ (enc 9 x ++ [c])) 1 = (x, 1 + ((enc 9 x).length : Int), true)) := hgN
    clear own3' own4 grow4 hwf4 hgN
    go_wp2_with fail
    refine (iget_any v4 _ 1 w4 R4).mono ?_
    rintro e w5 ⟨rfl, b5⟩
    rw [HgN.out]
    have b15 : Below w.heap.size w w5 := b14.trans (b5.mono b14.size)
    clear R4 HgN b12 b13 b14 b5 b1 b2
    generalize (enc 9 x).length = n2 at hlen2 ⊢
    go_wp2_with fail
    refine (drawText_any _ zs w5 (R.below b15) hl).mono ?_
    rintro e w6 ⟨s, rfl, hs, b6⟩
    go_wp2_with fail
    refine (iptext_any s w6 (by omega)).mono ?_
    rintro e w7 ⟨v7, rfl, own7, b7⟩
    have b17 : Below w.heap.size w w7 := (b15.trans (b6.mono b15.size)).trans (b7.mono (Nat.le_trans b15.size b6.size))
    have hlen7 := encI_length s.size
    have hp7 := pt_length s
    have hne7 : 1 ≤ (pt s).length := by rw [hp7, encI_pos _ (by omega)]; have := enc_ne s.size (by omega) (by omega); omega
    obtain ⟨g7, c7, rfl, hg7, hg7', hcell7⟩ := own_some own7 hne7
    have hsz17 := b17.size
    have hlp : (pt s).length ≤ 49 := by omega
    have own8 : (w7.alloc (.cells #[] 5)).ownsRow w7.heap.size 5 1 (.slice (some ⟨w7.heap.size, 0, none⟩) 0 0) 0 [] := World.ownsRow_made w7 #[] 0 (Nat.le_refl _) (by simp) (by simp)
    have hnews8 : ∀ j u, (bv (pt s))[j]? = some u → (w7.alloc (.cells #[] 5)).cell? ((⟨g7, 0, none⟩ : Addr).add j) = some u := by
      intro j u hu
      rw [World.cell?_of_block (w := w7) (by rw [Addr.add_lit]; exact Below.heap_alloc w7 _ g7 hg7')]
      exact hcell7 j u hu
    clear own7 hcell7 b15 b6 b7 hp7
    go_wp2_with (at_builtin; refine wpList_append_own _ rfl _ _ 22 rfl w7.heap.size 5 i0 (.int .u8 0) 1 1 Try.underlying22 hi hz0 hz1 hz2 rfl (by decide) _ _ _ rfl own8 ⟨g7, 0, none⟩ (pt s).length c7 (bv (pt s)) rfl (by rw [bv_length]; simp) hnews8 (ints_oneCell .u8 _) (by unfold maxLen; omega) (by omega) (by simp) ?_)
    intro v8 w8 own8' grow8 _
    have b18 : Below w.heap.size w w8 := (b17.alloc hsz17 _).grown grow8 (by simp; omega) (fun k hk => by have := (own8.lt k hk).1; omega)
    have hsz18 := b18.size
    have hsz8 := grow8.size
    simp at hsz8
    clear own8 hnews8 grow8
    go_wp2_with fail
    refine (at_any _ zs w8 2 (R.below b18) hl (by omega) (by omega)).mono ?_
    rintro e w8' ⟨d, rfl, hd0, hd1, hw8⟩
    subst hw8
    go_wp2_with (at_builtin; refine wpList_append_own _ rfl _ _ 22 rfl w7.heap.size 5 i0 (.int .u8 0) 1 1 Try.underlying22 hi hz0 hz1 hz2 rfl (by decide) _ _ _ rfl (own8'.alloc _) ⟨w8'.heap.size, 0, none⟩ 1 1 [.int .u8 d] rfl rfl (cell_one_new _ _ _) (fun u hu => by simp at hu; subst hu; rfl) (by unfold maxLen; omega) (by omega) (by simp; omega) ?_)
    intro v9 w9 own9 grow9 _
    have b19 : Below w.heap.size w w9 := (b18.alloc hsz18 _).grown grow9 (by simp; omega) (fun k hk => by have := (own8'.lt k hk).1; omega)
    have hwf9 : ∀ z ∈ pt s ++ [d], 0 ≤ z ∧ z ≤ 255 := by
      intro z hz
      simp only [List.mem_append, List.mem_singleton] at hz
      rcases hz with hz | rfl
      · exact pt_wf s z hz
      · exact ⟨hd0, hd1⟩
    have R9 : Row w9 v9 (pt s ++ [d]) := by
      refine Row.of_own (base := w7.heap.size) ?_ (by simp; omega) hwf9
      have e1 : (pt s ++ [d]).length = (pt s).length + 1 := by simp
      have e2 : bv (pt s ++ [d]) = bv (pt s) ++ [Value.int .u8 d] := by simp [bv]
      rw [e1, e2]
      exact own9
    have HgT : Hid (gT (pt s ++ [d]) 0 = (s, ((pt s).length : Int), true)) := gT_pt s [d] (by omega)
    clear own8' own9 grow9 hwf9
    go_wp2_with fail
    refine (igtext_any v9 _ 0 w9 R9).mono ?_
    rintro e w10 ⟨rfl, b10⟩
    rw [HgT.out]
    have b20 : Below w.heap.size w w10 := b19.trans (b10.mono b19.size)
    clear R9 HgT b17 b18 b19 b10
    go_wp2_with fail
    go_ret
    exact ⟨rfl, b20⟩

end Go.Proofs.Ythaimhgjfjcbeab
