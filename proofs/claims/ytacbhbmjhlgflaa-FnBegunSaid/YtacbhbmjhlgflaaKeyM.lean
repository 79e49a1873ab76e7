/-
  Texts that stood by themselves, laid into one.
-/
import Derived.Test.YtacbhbmjhlgflaaMOfRM
import Derived.Test.YtacbhbmjhlgflaaSSizeM
import Derived.Test.YtacbhbmjhlgflaaMOf2M
import Derived.Test.YtacbhbmjhlgflaaLMakeM
import Derived.Test.YtacbhbmjhlgflaaMkListM
import Derived.Maps.OwnSet
import Derived.DeepKeys4
/-
  The contract of impl.MachineOf. No condition.
-/
namespace Go.Proofs.Ytacbhbmjhlgflaa
open Go.RowKit

set_option maxRecDepth 100000 in
set_option maxHeartbeats 6400000 in
theorem imachof_any (v1 v2 v3 v : Value) (ns : List Nd) (is : List In) (ds : List Df) (xs : List Nd) (f : Int) (w : World) (R1 : NRow w v1 ns) (R2 : InRow w v2 is) (R3 : DfRow w v3 ds) (R : NRow w v xs) :
    Calls Try.prog 10 #[.agg #[v1, v2, v3], .agg #[v], .int .i64 f] w fun e w' => ∃ v', e = .returned (.tuple #[.agg #[v', .int .i64 (ofM xs (ofD ns is ds xs f)).p, .int .i64 (ofM xs (ofD ns is ds xs f)).s, .int .i64 (ofM xs (ofD ns is ds xs f)).e, .int .i64 (ofM xs (ofD ns is ds xs f)).d, .int .i64 (ofM xs (ofD ns is ds xs f)).t, .int .i64 (ofM xs (ofD ns is ds xs f)).q, .int .i64 (ofM xs (ofD ns is ds xs f)).r], .bool (ofD ns is ds xs f).isSome]) ∧ w'.ownsRow w.heap.size 63 5 v' (ofL xs (ofD ns is ds xs f)).length (ncs (ofL xs (ofD ns is ds xs f))) ∧ Below w.heap.size w w' := by
  have R' := R
  obtain ⟨ao, cap, rfl, _, _, hz, hcell⟩ := R'
  obtain ⟨a1, c1, rfl⟩ := R1.small
  obtain ⟨a2, c2, rfl⟩ := R2.small
  obtain ⟨a3, c3, rfl⟩ := R3.small
  obtain ⟨hB0, hk0, hp0, hm0⟩ := three_boxes w (Obj.cells #[.slice a1 ns.length c1, .slice a2 is.length c2, .slice a3 ds.length c3] 41) (Obj.cells #[.slice ao xs.length cap] 33) (Obj.cells #[.slice none 0 0, .int .i64 0, .int .i64 0, .int .i64 0, .int .i64 0, .int .i64 0, .int .i64 0, .int .i64 0] 35)
  go_enter Try.func10, Try.ntmps10
  go_wp2_with fail
  refine (icodeok_any _ _ _ ns is ds _ (R1.below hB0) (R2.below hB0) (R3.below hB0)).mono ?_
  rintro e w1 ⟨rfl, hb1⟩
  have hB1 := hB0.trans (hb1.mono hB0.size)
  have hk1 := (hb1.block _ (Array.getElem?_eq_some_iff.1 hk0).1).trans hk0
  have hp1 := (hb1.block _ (Array.getElem?_eq_some_iff.1 hp0).1).trans hp0
  have hm1 := (hb1.block _ (Array.getElem?_eq_some_iff.1 hm0).1).trans hm0
  have cp1 : w1.cell? ⟨w.heap.size + 1, 0, none⟩ = some (.slice ao xs.length cap) := cell_of_row w1 _ 0 _ _ _ hp1
  clear hB0 hk0 hp0 hm0 hb1
  cases hc : codeB ns is ds with
  | false =>
    have HD : Hid (ofD ns is ds xs f = none) := by unfold Hid ofD; rw [hc]; rfl
    go_wp2_with (refine wpList_store_own2 rfl 35 _ _ rfl (w.heap.size + 1 + 1) #[.slice none 0 0, .int .i64 0, .int .i64 0, .int .i64 0, .int .i64 0, .int .i64 0, .int .i64 0, .int .i64 0] rfl rfl 35 #[.slice none 0 0, .int .i64 0, .int .i64 0, .int .i64 0, .int .i64 0, .int .i64 0, .int .i64 0, .int .i64 0] hm1 Try.sizeMach rfl (by simp [Value.oneCell']) ?_)
    intro wB hvB hbB hsB hkB
    go_wp2
    refine bodyPost_ret (results_row_tmp rfl _ _ (w.heap.size + 1 + 1) 35 _ (0, 0) _ rfl hvB Try.underlying35 rfl Try.sizeMach) rfl ⟨.slice none 0 0, by rw [HD.out]; rfl, by rw [HD.out]; exact ⟨rfl, Or.inl ⟨rfl, rfl⟩⟩, hB1.trans (hbB.mono (by omega))⟩
  | true =>
    go_wp2_with fail
    refine (ipool_any _ xs _ (R.below hB1)).mono ?_
    rintro e w2 ⟨rfl, hb2⟩
    have hB2 := hB1.trans (hb2.mono hB1.size)
    have hk2 := (hb2.block _ (Array.getElem?_eq_some_iff.1 hk1).1).trans hk1
    have hp2 := (hb2.block _ (Array.getElem?_eq_some_iff.1 hp1).1).trans hp1
    have hm2 := (hb2.block _ (Array.getElem?_eq_some_iff.1 hm1).1).trans hm1
    have cp2 : w2.cell? ⟨w.heap.size + 1, 0, none⟩ = some (.slice ao xs.length cap) := cell_of_row w2 _ 0 _ _ _ hp2
    clear hB1 hk1 hp1 hm1 hb2 cp1
    cases hp : poolB xs with
    | false =>
      have HD : Hid (ofD ns is ds xs f = none) := by unfold Hid ofD; rw [hc, hp]; rfl
      go_wp2_with (refine wpList_store_own2 rfl 35 _ _ rfl (w.heap.size + 1 + 1) #[.slice none 0 0, .int .i64 0, .int .i64 0, .int .i64 0, .int .i64 0, .int .i64 0, .int .i64 0, .int .i64 0] rfl rfl 35 #[.slice none 0 0, .int .i64 0, .int .i64 0, .int .i64 0, .int .i64 0, .int .i64 0, .int .i64 0, .int .i64 0] hm2 Try.sizeMach rfl (by simp [Value.oneCell']) ?_)
      intro wB hvB hbB hsB hkB
      go_wp2
      refine bodyPost_ret (results_row_tmp rfl _ _ (w.heap.size + 1 + 1) 35 _ (0, 0) _ rfl hvB Try.underlying35 rfl Try.sizeMach) rfl ⟨.slice none 0 0, by rw [HD.out]; rfl, by rw [HD.out]; exact ⟨rfl, Or.inl ⟨rfl, rfl⟩⟩, hB2.trans (hbB.mono (by omega))⟩
    | true =>
      have hlen : xs.length ≤ 3000 := by simp only [poolB, Bool.and_eq_true, decide_eq_true_eq] at hp; exact hp.1
      go_wp2_with fail
      refine (has_any _ xs f _ (R.below hB2)).mono ?_
      rintro e w3 ⟨rfl, hb3⟩
      have hB3 := hB2.trans (hb3.mono hB2.size)
      have hk3 := (hb3.block _ (Array.getElem?_eq_some_iff.1 hk2).1).trans hk2
      have hp3 := (hb3.block _ (Array.getElem?_eq_some_iff.1 hp2).1).trans hp2
      have hm3 := (hb3.block _ (Array.getElem?_eq_some_iff.1 hm2).1).trans hm2
      have cp3 : w3.cell? ⟨w.heap.size + 1, 0, none⟩ = some (.slice ao xs.length cap) := cell_of_row w3 _ 0 _ _ _ hp3
      clear hB2 hk2 hp2 hm2 hb3 cp2
      cases hh : hasI xs f with
      | false =>
        have HD : Hid (ofD ns is ds xs f = none) := by unfold Hid ofD; rw [hc, hp, hh]; rfl
        go_wp2_with (refine wpList_store_own2 rfl 35 _ _ rfl (w.heap.size + 1 + 1) #[.slice none 0 0, .int .i64 0, .int .i64 0, .int .i64 0, .int .i64 0, .int .i64 0, .int .i64 0, .int .i64 0] rfl rfl 35 #[.slice none 0 0, .int .i64 0, .int .i64 0, .int .i64 0, .int .i64 0, .int .i64 0, .int .i64 0, .int .i64 0] hm3 Try.sizeMach rfl (by simp [Value.oneCell']) ?_)
        intro wB hvB hbB hsB hkB
        go_wp2
        refine bodyPost_ret (results_row_tmp rfl _ _ (w.heap.size + 1 + 1) 35 _ (0, 0) _ rfl hvB Try.underlying35 rfl Try.sizeMach) rfl ⟨.slice none 0 0, by rw [HD.out]; rfl, by rw [HD.out]; exact ⟨rfl, Or.inl ⟨rfl, rfl⟩⟩, hB3.trans (hbB.mono (by omega))⟩
      | true =>
        simp only [hasI, Bool.and_eq_true, decide_eq_true_eq] at hh
        obtain ⟨k, rfl⟩ := Int.eq_ofNat_of_zero_le hh.1
        have hlt : k < xs.length := by omega
        obtain ⟨x, hx⟩ : ∃ x, xs[k]? = some x := ⟨xs[k], by simp [hlt]⟩
        have hnb := poolB_at hp hx
        have HD0 : Hid (ofD ns is ds xs k = if (decide (x.k = 6) && decide (x.n % 8 = 0) && decide (x.n / 8 < is.length) && decide (xs.length + 2 ≤ 3000)) = true then some x else none) := by
          unfold Hid ofD
          have hh' : hasI xs (k : Int) = true := by unfold hasI; simp [hlt]
          rw [hc, hp, hh', Int.toNat_natCast, hx]
          simp [Option.filter]
        obtain ⟨g, o, rfl, hg, hcell⟩ := hcell (by intro e; subst e; simp at hlt)
        obtain ⟨d0, d1, d2, d3, d4⟩ := (hcell k x hx).below hB3 hg
        have hg3 : g < w3.heap.size := Nat.lt_of_lt_of_le hg hB3.size
        have hm3l := (Array.getElem?_eq_some_iff.1 hm3).1
        clear hcell hc hp hh hx
        obtain ⟨W5, hW5⟩ : ∃ W5, w3.alloc (Obj.cells #[.int .i64 x.k, .int .i64 x.n, .string x.s, .int .i64 x.a, .int .i64 x.b] 63) = W5 := ⟨_, rfl⟩
        have hd5 : Below w3.heap.size w3 W5 := by rw [← hW5]; exact (Below.refl _ _).alloc (Nat.le_refl _) _
        have hx5 : W5.heap[w3.heap.size]? = some (.cells #[.int .i64 x.k, .int .i64 x.n, .string x.s, .int .i64 x.a, .int .i64 x.b] 63 (0, 0)) := by rw [← hW5]; exact heap_alloc_new _ _
        have hk5 := (hd5.block _ (Array.getElem?_eq_some_iff.1 hk3).1).trans hk3
        have hp5 := (hd5.block _ (Array.getElem?_eq_some_iff.1 hp3).1).trans hp3
        have hm5 := (hd5.block _ (Array.getElem?_eq_some_iff.1 hm3).1).trans hm3
        have hB5 := hB3.trans (hd5.mono hB3.size)
        have l5 := (Array.getElem?_eq_some_iff.1 hx5).1
        have lm5 := (Array.getElem?_eq_some_iff.1 hm5).1
        have lk5 := (Array.getElem?_eq_some_iff.1 hk5).1
        have lp5 := (Array.getElem?_eq_some_iff.1 hp5).1
        have hn0 : x.k = 6 → 0 ≤ x.n ∧ x.n ≤ 1000000000 := by
          intro h6
          simp only [nodeB, Bool.and_eq_true, decide_eq_true_eq, h6, lo, hi] at hnb
          obtain ⟨⟨⟨⟨_, _⟩, h3⟩, h4⟩, _⟩ := hnb
          simp at h3 h4
          omega
        obtain ⟨bb, hbb⟩ : ∃ bb, Hid ((decide (x.k = 6) && decide (x.n % 8 = 0) && decide (x.n / 8 < (is.length : Int))) = bb) := ⟨_, rfl⟩
        have q0 := cell_of_row W5 _ 0 _ _ _ hk5
        have q1 := cell_of_row W5 _ 1 _ _ _ hk5
        have q2 := cell_of_row W5 _ 2 _ _ _ hk5
        have q3 := cell_of_row W5 _ 0 _ _ _ hx5
        have q4 := cell_of_row W5 _ 1 _ _ _ hx5
        have q5 := cell_of_row W5 _ 2 _ _ _ hx5
        have q6 := cell_of_row W5 _ 3 _ _ _ hx5
        have q7 := cell_of_row W5 _ 4 _ _ _ hx5
        simp only [List.getElem?_toArray, List.getElem?_cons_zero, List.getElem?_cons_succ] at q0 q1 q2 q3 q4 q5 q6 q7
        go_wp2_with fail
        clear q0 q1 q2 q3 q4 q5 q6 q7
        refine (canbegin_any a1 a2 a3 ns.length is.length ds.length c1 c2 c3 x _ hn0).mono ?_
        rintro e w8 ⟨rfl, t8⟩
        rw [hbb.out]
        have hx8 := (t8.block _ l5).trans hx5
        have hp8 := (t8.block _ lp5).trans hp5
        have hm8 := (t8.block _ lm5).trans hm5
        have hB8 := hB5.trans (t8.mono hB5.size)
        have l8 := (Array.getElem?_eq_some_iff.1 hx8).1
        have lp8 := (Array.getElem?_eq_some_iff.1 hp8).1
        have lm8 := (Array.getElem?_eq_some_iff.1 hm8).1
        clear hd5 hx5 hk5 hp5 hm5 l5 lm5 lk5 lp5 hW5
        cases bb with
        | false =>
          have HD : Hid (ofD ns is ds xs k = none) := by unfold Hid; rw [HD0.out, hbb.out]; rfl
          clear HD0 hnb
          go_wp2_with (refine wpList_store_own2 rfl 35 _ _ rfl (w.heap.size + 1 + 1) #[.slice none 0 0, .int .i64 0, .int .i64 0, .int .i64 0, .int .i64 0, .int .i64 0, .int .i64 0, .int .i64 0] rfl rfl 35 #[.slice none 0 0, .int .i64 0, .int .i64 0, .int .i64 0, .int .i64 0, .int .i64 0, .int .i64 0, .int .i64 0] hm8 Try.sizeMach rfl (by simp [Value.oneCell']) ?_)
          intro wB hvB hbB hsB hkB
          go_wp2
          refine bodyPost_ret (results_row_tmp rfl _ _ (w.heap.size + 1 + 1) 35 _ (0, 0) _ rfl hvB Try.underlying35 rfl Try.sizeMach) rfl ⟨.slice none 0 0, by rw [HD.out]; rfl, by rw [HD.out]; exact ⟨rfl, Or.inl ⟨rfl, rfl⟩⟩, hB8.trans (hbB.mono (by omega))⟩
        | true =>
          have h6 : x.k = 6 := by have := hbb.out; simp at this; exact this.1.1
          obtain ⟨hn1, hn2⟩ := hn0 h6
          have R8 := R.below hB8
          have r3 : ∀ w', Below w8.heap.size w8 w' → w'.cell? ⟨w3.heap.size, 3, none⟩ = some (.int .i64 x.a) := fun w' h => (h.cell (p := ⟨w3.heap.size, 3, none⟩) l8).trans (cell_of_row _ _ 3 _ _ _ hx8)
          go_wp2_with fail
          refine mof_reg (w.heap.size + 1) w3.heap.size (some ⟨g, o, none⟩) cap xs x w8 _ hn1 hn2 R8 hlen ⟨cell_of_row _ _ 0 _ _ _ hp8, cell_of_row _ _ 0 _ _ _ hx8, cell_of_row _ _ 1 _ _ _ hx8, cell_of_row _ _ 2 _ _ _ hx8, cell_of_row _ _ 3 _ _ _ hx8, cell_of_row _ _ 4 _ _ _ hx8⟩ lp8 l8 ?_
          intro u47 u48 u49 u50 u51 v6 b w6 hbs hb6 ho6 hd6
          obtain ⟨a6, k6, rfl⟩ := own_form ho6
          have c3 := r3 w6 hd6
          clear r3 hx8 hp8 lp8 l8 hcell d0 d1 d2 d3 d4
          go_wp2_with fail
          have RB := rbegin_any b w8.heap.size a6 k6 xs (x.n / 8) 0 0 0 x.a w6 hb6 ho6 (by omega) hbs
          with_reducible refine RB.mono ?_
          rintro e w7 ⟨v7, rfl, hb7, ho7, bel7⟩
          have hd7 := hd6.trans bel7
          obtain ⟨k7, hk7⟩ : ∃ k7, Hid (xs.length + 1 = k7) := ⟨_, rfl⟩
          obtain ⟨L8, hL8⟩ : ∃ L8, Hid (xs ++ [nilN] ++ [(⟨5, 0, ByteArray.empty, xs.length, x.a⟩ : Nd)] = L8) := ⟨_, rfl⟩
          have hx7 : L8[k7]? = some ⟨5, 0, ByteArray.empty, xs.length, x.a⟩ := by rw [← hL8.out, ← hk7.out]; simp
          have hlL : L8.length = xs.length + 2 := by rw [← hL8.out]; simp
          have hlt7 : (k7 : Int) < L8.length := by have := hk7.out; omega
          have hz8 : ∀ y ∈ L8, y.s.size ≤ maxLen := by
            intro y hy
            rw [← hL8.out] at hy
            simp only [List.mem_append, List.mem_singleton] at hy
            rcases hy with (hy | rfl) | rfl
            · exact hz y hy
            · exact Nat.zero_le _
            · exact Nat.zero_le _
          rw [hL8.out] at ho7
          rw [hk7.out] at hb7
          have R7 := NRow.of_own ho7 (by omega) hz8
          have ho7' := ho7
          obtain ⟨a7, q7, e7, _, _, _, hc7⟩ := R7
          subst e7
          obtain ⟨g7, o7, rfl, hg7, hc7⟩ := hc7 (by intro e; rw [e] at hx7; simp at hx7)
          obtain ⟨n0, n1, n2, n3, n4⟩ := hc7 k7 _ hx7
          have y0 : w7.cell? ⟨b, 0, none⟩ = some (.slice (some ⟨g7, o7, none⟩) L8.length q7) := cell_of_row _ _ 0 _ _ _ hb7
          have y1 : w7.cell? ⟨b, 1, none⟩ = some (.int .i64 (x.n / 8)) := cell_of_row _ _ 1 _ _ _ hb7
          have y3 : w7.cell? ⟨b, 3, none⟩ = some (.int .i64 k7) := cell_of_row _ _ 3 _ _ _ hb7
          have hm7 := (hd7.block _ lm8).trans hm8
          have hB7 := hB8.trans (hd7.mono hB8.size)
          have hsz8 := hB8.size
          clear hc7 n0 n1 n2 n4 hb6 ho6 hd6 bel7 hB8 t8 RB c3 hx7 hnb hz8
          by_cases h2 : xs.length + 2 ≤ 3000
          · have HD : Hid (ofD ns is ds xs k = some x) := by unfold Hid; rw [HD0.out, hbb.out]; simp [h2]
            have h2' : ¬ ((3000 : Int) < L8.length) := by omega
            have HL : Hid (L8.length = xs.length + 2) := hlL
            clear HD0 hlL hn0
            go_wp2_with (refine wpList_store_own2 rfl 35 _ _ rfl (w.heap.size + 1 + 1) #[.slice (some ⟨g7, o7, none⟩) L8.length q7, .int .i64 (x.n / 8), .int .i64 xs.length, .int .i64 k7, .int .i64 xs.length, .int .i64 0, .int .i64 0, .int .i64 0] rfl rfl 35 #[.slice none 0 0, .int .i64 0, .int .i64 0, .int .i64 0, .int .i64 0, .int .i64 0, .int .i64 0, .int .i64 0] hm7 Try.sizeMach rfl (by simp [Value.oneCell']) ?_)
            intro wB hvB hbB hsB hkB
            have hoB := own_stored ho7 hkB (own_ne ho7 hm7 (by decide))
            go_wp2
            refine bodyPost_ret (results_row_tmp rfl _ _ (w.heap.size + 1 + 1) 35 _ (0, 0) _ rfl hvB Try.underlying35 rfl Try.sizeMach) rfl ⟨.slice (some ⟨g7, o7, none⟩) L8.length q7, by rw [HD.out, ← hk7.out]; rfl, ?_, hB7.trans (hbB.mono (by omega))⟩
            rw [HD.out]
            have eL : ofL xs (some x) = L8 := hL8.out
            rw [eL]
            exact own_mono hoB (by omega)
          · have HD : Hid (ofD ns is ds xs k = none) := by unfold Hid; rw [HD0.out, hbb.out]; simp [h2]
            have h2' : (3000 : Int) < L8.length := by omega
            have HL : Hid (L8.length = xs.length + 2) := hlL
            clear HD0 hlL hn0
            go_wp2_with (refine wpList_store_own2 rfl 35 _ _ rfl (w.heap.size + 1 + 1) #[.slice none 0 0, .int .i64 0, .int .i64 0, .int .i64 0, .int .i64 0, .int .i64 0, .int .i64 0, .int .i64 0] rfl rfl 35 #[.slice none 0 0, .int .i64 0, .int .i64 0, .int .i64 0, .int .i64 0, .int .i64 0, .int .i64 0, .int .i64 0] hm7 Try.sizeMach rfl (by simp [Value.oneCell']) ?_)
            intro wB hvB hbB hsB hkB
            go_wp2
            refine bodyPost_ret (results_row_tmp rfl _ _ (w.heap.size + 1 + 1) 35 _ (0, 0) _ rfl hvB Try.underlying35 rfl Try.sizeMach) rfl ⟨.slice none 0 0, by rw [HD.out]; rfl, by rw [HD.out]; exact ⟨rfl, Or.inl ⟨rfl, rfl⟩⟩, hB7.trans (hbB.mono (by omega))⟩
end Go.Proofs.Ytacbhbmjhlgflaa

/-
  A machine's variable (VarM), and the contracts of the laws' helpers markMachine and heldMachine. No condition.
-/
namespace Go.Proofs.Ytacbhbmjhlgflaa
open Go.RowKit

theorem stepD8 {w2 w3 : World} (h : Below w2.drew.heap.size w2.drew w3) : Below w2.heap.size w2 w3 := (Below.refl _ _).drew.trans h
/-- What a machine's variable holds: at block b, a machine whose row of nodes lies between lo and hi and reads as xs. -/
def VarM (w : World) (b lo hi : Nat) (v : Value) (xs : List Nd) (m : Mc) : Prop :=
  w.heap[b]? = some (.cells #[v, .int .i64 m.p, .int .i64 m.s, .int .i64 m.e, .int .i64 m.d, .int .i64 m.t, .int .i64 m.q, .int .i64 m.r] 35 (0, 0)) ∧ w.ownsRow lo 63 5 v xs.length (ncs xs) ∧ (∀ k, v.ownBlock = some k → k < hi) ∧ hi ≤ w.heap.size
theorem VarM.new {w5 we : World} {lo : Nat} {v : Value} {xs : List Nd} {m : Mc} (ho : w5.ownsRow lo 63 5 v xs.length (ncs xs)) (hd : Below w5.heap.size w5 we) (hb : we.heap[w5.heap.size]? = some (.cells #[v, .int .i64 m.p, .int .i64 m.s, .int .i64 m.e, .int .i64 m.d, .int .i64 m.t, .int .i64 m.q, .int .i64 m.r] 35 (0, 0))) :
    VarM we w5.heap.size lo we.heap.size v xs m := ⟨hb, own_below ho hd, fun k hk => ((own_below ho hd).lt k hk).2, Nat.le_refl _⟩
theorem VarM.below {w w' : World} {b lo hi : Nat} {v : Value} {xs : List Nd} {m : Mc} (h : VarM w b lo hi v xs m) (hb : Below w.heap.size w w') : VarM w' b lo hi v xs m :=
  ⟨(hb.block b (Array.getElem?_eq_some_iff.1 h.1).1).trans h.1, own_below h.2.1 hb, h.2.2.1, Nat.le_trans h.2.2.2 hb.size⟩
theorem VarM.row {w : World} {b lo hi : Nat} {v : Value} {xs : List Nd} {m : Mc} (h : VarM w b lo hi v xs m) (hm : xs.length ≤ 4194304) (hz : ∀ x ∈ xs, x.s.size ≤ maxLen) : NRow w v xs := NRow.of_own h.2.1 (by omega) hz
theorem VarM.lt {w : World} {b lo hi : Nat} {v : Value} {xs : List Nd} {m : Mc} (h : VarM w b lo hi v xs m) : b < w.heap.size := (Array.getElem?_eq_some_iff.1 h.1).1
theorem VarM.kept {w w' : World} {b lo hi lo' hi' b' : Nat} {v v' : Value} {xs xs' : List Nd} {m m' : Mc} (h : VarM w b lo hi v xs m) (h' : VarM w b' lo' hi' v' xs' m') (hg : w.grownBy w' v'.ownBlock) (hd : hi ≤ lo' ∨ hi' ≤ lo) : VarM w' b lo hi v xs m := by
  have hne : v'.ownBlock ≠ some b := own_ne h'.2.1 h.1 (by decide)
  refine ⟨(hg.block b h.lt (fun e => hne e.symm)).trans h.1, h.2.1.kept hg ?_, h.2.2.1, Nat.le_trans h.2.2.2 hg.size⟩
  cases hv : v.ownBlock with
  | none => exact Or.inl rfl
  | some k =>
    refine Or.inr fun e => ?_
    have k1 := h.2.2.1 k hv
    have k2 := (h.2.1.lt k hv).1
    have k3 := h'.2.2.1 k e.symm
    have k4 := (h'.2.1.lt k e.symm).1
    omega
theorem VarM.marked {w w' : World} {b lo hi : Nat} {v : Value} {xs ys : List Nd} {m : Mc} (h : VarM w b lo hi v xs m) (hg : w.grownBy w' v.ownBlock) (ho : w'.ownsRow lo 63 5 v ys.length (ncs ys)) : VarM w' b lo hi v ys m :=
  ⟨(hg.block b h.lt (fun e => own_ne h.2.1 h.1 (by decide) e.symm)).trans h.1, ho, h.2.2.1, Nat.le_trans h.2.2.2 hg.size⟩
theorem VarM.block {w w' : World} {b lo hi : Nat} {v : Value} {xs : List Nd} {m : Mc} (h : VarM w b lo hi v xs m) (hg : w.grownBy w' v.ownBlock) {j : Nat} {c : Array Value} {t : TypeId} (hj : w.heap[j]? = some (.cells c t (0, 0))) (hte : t ≠ 63) : w'.heap[j]? = some (.cells c t (0, 0)) :=
  (hg.block j (Array.getElem?_eq_some_iff.1 hj).1 (fun e => own_ne h.2.1 hj hte e.symm)).trans hj
theorem below_markM {w w' : World} {B b lo hi : Nat} {v : Value} {xs : List Nd} {m : Mc} {w0 : World} (h0 : Below B w0 w) (h : VarM w b lo hi v xs m) (hg : w.grownBy w' v.ownBlock) (hlo : B ≤ lo) (hB : B ≤ w.heap.size) : Below B w0 w' :=
  h0.grown hg hB (fun k hk => Nat.le_trans hlo (h.2.1.lt k hk).1)

set_option maxHeartbeats 400000 in
theorem markmach_any (v : Value) (k : Int) (base : Nat) (xs : List Nd) (m : Mc) (w : World) (h : w.ownsRow base 63 5 v xs.length (ncs xs)) (hm : xs.length ≤ 4194304) (hk0 : 0 ≤ k) (hk : k ≤ 2305843009213693952) :
    Calls Try.prog 16 #[.agg #[v, .int .i64 m.p, .int .i64 m.s, .int .i64 m.e, .int .i64 m.d, .int .i64 m.t, .int .i64 m.q, .int .i64 m.r], .int .i64 k] w fun e w' => e = .returned (.int .i64 (k + 5 * xs.length)) ∧ w'.ownsRow base 63 5 v xs.length (ncs (nmarked k xs xs.length)) ∧ w.grownBy w' v.ownBlock := by
  obtain ⟨ao, cap, rfl⟩ := own_form h
  go_enter Try.func16, Try.ntmps16
  go_wp2_with fail
  refine (markpool_any _ k base xs _ (h.alloc _) hm hk0 hk).mono ?_
  rintro e w2 ⟨rfl, ho2, hb2⟩
  have hB2 := (World.grownBy_alloc w (Obj.cells #[.slice ao xs.length cap, .int .i64 m.p, .int .i64 m.s, .int .i64 m.e, .int .i64 m.d, .int .i64 m.t, .int .i64 m.q, .int .i64 m.r] 35) (Value.slice ao xs.length cap).ownBlock).trans hb2
  clear hb2
  go_wp2
  go_ret
  exact ⟨rfl, ho2, hB2⟩

set_option maxHeartbeats 400000 in
theorem heldmach_any (v : Value) (k : Int) (xs : List Nd) (m : Mc) (w : World) (R : NRow w v (nmarked k xs xs.length)) (hm : xs.length ≤ 4194304) (hk0 : 0 ≤ k) (hk : k ≤ 2305843009213693952) :
    Calls Try.prog 17 #[.agg #[v, .int .i64 m.p, .int .i64 m.s, .int .i64 m.e, .int .i64 m.d, .int .i64 m.t, .int .i64 m.q, .int .i64 m.r], .int .i64 k] w fun e w' => e = .returned (.int .i64 (k + 5 * xs.length)) ∧ Below w.heap.size w w' := by
  have R' := R
  obtain ⟨ao, cap, rfl, _⟩ := R'
  rw [nmarked_length _ _ _ (Nat.le_refl _)] at R ⊢
  go_enter Try.func17, Try.ntmps17
  go_wp2_with fail
  have hbel : Below w.heap.size w (w.alloc (Obj.cells #[.slice ao xs.length cap, .int .i64 m.p, .int .i64 m.s, .int .i64 m.e, .int .i64 m.d, .int .i64 m.t, .int .i64 m.q, .int .i64 m.r] 35)) := (Below.refl _ _).alloc (Nat.le_refl _) _
  refine (heldpool_any _ k xs _ (R.below hbel) hm hk0 hk).mono ?_
  rintro e w2 ⟨rfl, hb2⟩
  have hB2 := hbel.trans (hb2.mono hbel.size)
  clear hb2 hbel
  have hpos : ¬ (k + 5 * (xs.length : Int)) < 0 := by omega
  go_wp2
  go_ret
  exact ⟨rfl, hB2⟩


/-- What another block's turning leaves. -/
theorem VarM.keptBy {w w' : World} {b lo hi : Nat} {v : Value} {xs : List Nd} {m : Mc} {o : Option Nat} (h : VarM w b lo hi v xs m) (hg : w.grownBy w' o) (hb : ∀ k, o = some k → k ≠ b ∧ (k < lo ∨ hi ≤ k)) : VarM w' b lo hi v xs m := by
  refine ⟨(hg.block b h.lt (fun e => (hb b e.symm).1 rfl)).trans h.1, h.2.1.kept hg ?_, h.2.2.1, Nat.le_trans h.2.2.2 hg.size⟩
  cases hv : v.ownBlock with
  | none => exact Or.inl rfl
  | some k =>
    refine Or.inr fun e => ?_
    have k1 := h.2.2.1 k hv
    have k2 := (h.2.1.lt k hv).1
    have k3 := (hb k e.symm).2
    omega
end Go.Proofs.Ytacbhbmjhlgflaa

/-
  A node as a key of a map. Nothing of the program; no condition.
-/
namespace Go.Proofs.Ytacbhbmjhlgflaa
open Go.RowKit Go.Maps

theorem laidOut_true3 : laidOutB Try.prog = true := by kernel_rfl
theorem Try.keyed : Keyed Try.prog 63 := Keyed.of_law (deep_law_laid laidOut_true3 (m := 8) (by decide) (of_decide_eq_true (by kernel_rfl)) (by kernel_rfl) (by kernel_rfl))

theorem key_some (x : Nd) (hk : (Lit.int .i64 x.k).wf = true) (hn : (Lit.int .i64 x.n).wf = true) (hs : x.s.size ≤ maxLen) (ha : (Lit.int .i64 x.a).wf = true) (hb : (Lit.int .i64 x.b).wf = true) :
    ∃ l, keyOf Try.prog 63 (.agg #[.int .i64 x.k, .int .i64 x.n, .string x.s, .int .i64 x.a, .int .i64 x.b]) = some l := by
  have h1 : Try.prog.keyType 63 = true := by kernel_rfl
  have h0 : 0 < Try.prog.types.size := of_decide_eq_true (by kernel_rfl)
  have i5 : Try.prog.cellsOf 63 = 5 := by kernel_rfl
  have i1 : Try.prog.cellsOf 3 = 1 := by kernel_rfl
  have i2 : Try.prog.cellsOf 9 = 1 := by kernel_rfl
  obtain ⟨d, hd⟩ : ∃ d, Try.prog.types.size = d + 1 := ⟨Try.prog.types.size - 1, by omega⟩
  have hf : (Value.agg #[.int .i64 x.k, .int .i64 x.n, .string x.s, .int .i64 x.a, .int .i64 x.b]).formed Try.prog 63 = true := by
    simp [Value.formed, Try.underlying63, i5]
  have hl : ∃ ls, Try.prog.keyLits (Try.prog.types.size + 1) 63 (Value.agg #[.int .i64 x.k, .int .i64 x.n, .string x.s, .int .i64 x.a, .int .i64 x.b]).cells.toList = some ls := by
    rw [hd]
    simp [Program.keyLits, Try.underlying63, Try.underlying3, Try.underlying9, i5, i1, i2, hk, hn, hs, ha, hb, Value.cells]
  obtain ⟨ls, hl⟩ := hl
  refine ⟨.string (keyBytes ls), ?_⟩
  unfold keyOf
  rw [Try.underlying63]
  simp only [h1, hf, Bool.and_self, if_true, hl, Option.map_some]

end Go.Proofs.Ytacbhbmjhlgflaa
