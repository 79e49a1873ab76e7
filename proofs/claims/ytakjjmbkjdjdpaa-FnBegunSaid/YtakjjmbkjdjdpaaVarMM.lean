/-
  Texts that stood by themselves, laid into one.
-/
import Derived.Test.YtakjjmbkjdjdpaaMOf2M
import Derived.Test.YtakjjmbkjdjdpaaTo2M
import Derived.Test.YtakjjmbkjdjdpaaMachRecM
import Derived.Test.YtakjjmbkjdjdpaaLMakeM
/-
  The contract of spec.MachineOf. No condition.
-/
namespace Go.Proofs.Ytakjjmbkjdjdpaa
open Go.RowKit

set_option maxRecDepth 100000 in
set_option maxHeartbeats 6400000 in
theorem smachof_any (v1 v2 v3 v : Value) (ns : List Nd) (is : List In) (ds : List Df) (xs : List Nd) (f : Int) (w : World) (R1 : NRow w v1 ns) (R2 : InRow w v2 is) (R3 : DfRow w v3 ds) (R : NRow w v xs) :
    Calls Try.prog 10 #[.agg #[v1, v2, v3], .agg #[v], .int .i64 f] w fun e w' => ∃ v', e = .returned (.tuple #[.agg #[v', .int .i64 (ofM xs (ofD ns is ds xs f)).p, .int .i64 (ofM xs (ofD ns is ds xs f)).s, .int .i64 (ofM xs (ofD ns is ds xs f)).e, .int .i64 (ofM xs (ofD ns is ds xs f)).d, .int .i64 (ofM xs (ofD ns is ds xs f)).t, .int .i64 (ofM xs (ofD ns is ds xs f)).q, .int .i64 (ofM xs (ofD ns is ds xs f)).r], .bool (ofD ns is ds xs f).isSome]) ∧ w'.ownsRow w.heap.size 45 5 v' (ofL xs (ofD ns is ds xs f)).length (ncs (ofL xs (ofD ns is ds xs f))) ∧ Below w.heap.size w w' := by
  have R' := R
  obtain ⟨ao, cap, rfl, _, _, hz, hcell⟩ := R'
  obtain ⟨a1, c1, rfl⟩ := R1.small
  obtain ⟨a2, c2, rfl⟩ := R2.small
  obtain ⟨a3, c3, rfl⟩ := R3.small
  obtain ⟨hB0, hk0, hp0, hm0⟩ := three_boxes w (Obj.cells #[.slice a1 ns.length c1, .slice a2 is.length c2, .slice a3 ds.length c3] 30) (Obj.cells #[.slice ao xs.length cap] 26) (Obj.cells #[.slice none 0 0, .int .i64 0, .int .i64 0, .int .i64 0, .int .i64 0, .int .i64 0, .int .i64 0, .int .i64 0] 34)
  go_enter Try.func10, Try.ntmps10
  go_wp2_with fail
  refine (scodeok_any _ _ _ ns is ds _ (R1.below hB0) (R2.below hB0) (R3.below hB0)).mono ?_
  rintro e w1 ⟨rfl, hb1⟩
  have hB1 := hB0.trans (hb1.mono hB0.size)
  have hk1 := (hb1.block _ (Array.getElem?_eq_some_iff.1 hk0).1).trans hk0
  have hp1 := (hb1.block _ (Array.getElem?_eq_some_iff.1 hp0).1).trans hp0
  have hm1 := (hb1.block _ (Array.getElem?_eq_some_iff.1 hm0).1).trans hm0
  have cp1 : w1.cell? ⟨w.heap.size + 1, 0, none⟩ = some (.slice ao xs.length cap) := cell_of_row w1 _ 0 _ _ _ hp1
  clear hB0 hk0 hp0 hm0 hb1
  cases hc : codeB ns is ds with
  | false =>
    have HD : Hid (ofD ns is ds xs f = none) := by unfold Hid ofD; rw [hc]; rfl
    go_wp2_with (refine wpList_store_own2 rfl 34 _ _ rfl (w.heap.size + 1 + 1) #[.slice none 0 0, .int .i64 0, .int .i64 0, .int .i64 0, .int .i64 0, .int .i64 0, .int .i64 0, .int .i64 0] rfl rfl 34 #[.slice none 0 0, .int .i64 0, .int .i64 0, .int .i64 0, .int .i64 0, .int .i64 0, .int .i64 0, .int .i64 0] hm1 Try.sizeMach rfl (by simp [Value.oneCell']) ?_)
    intro wB hvB hbB hsB hkB
    go_wp2
    refine bodyPost_ret (results_row_tmp rfl _ _ (w.heap.size + 1 + 1) 34 _ (0, 0) _ rfl hvB Try.underlying34 rfl Try.sizeMach) rfl ⟨.slice none 0 0, by rw [HD.out]; rfl, by rw [HD.out]; exact ⟨rfl, Or.inl ⟨rfl, rfl⟩⟩, hB1.trans (hbB.mono (by omega))⟩
  | true =>
    go_wp2_with fail
    refine (spool_any _ xs _ (R.below hB1)).mono ?_
    rintro e w2 ⟨rfl, hb2⟩
    have hB2 := hB1.trans (hb2.mono hB1.size)
    have hk2 := (hb2.block _ (Array.getElem?_eq_some_iff.1 hk1).1).trans hk1
    have hp2 := (hb2.block _ (Array.getElem?_eq_some_iff.1 hp1).1).trans hp1
    have hm2 := (hb2.block _ (Array.getElem?_eq_some_iff.1 hm1).1).trans hm1
    have cp2 : w2.cell? ⟨w.heap.size + 1, 0, none⟩ = some (.slice ao xs.length cap) := cell_of_row w2 _ 0 _ _ _ hp2
    clear hB1 hk1 hp1 hm1 hb2 cp1
    cases hp : poolB xs with
    | false =>
      have HD : Hid (ofD ns is ds xs f = none) := by unfold Hid ofD; rw [hc, hp]; rfl
      go_wp2_with (refine wpList_store_own2 rfl 34 _ _ rfl (w.heap.size + 1 + 1) #[.slice none 0 0, .int .i64 0, .int .i64 0, .int .i64 0, .int .i64 0, .int .i64 0, .int .i64 0, .int .i64 0] rfl rfl 34 #[.slice none 0 0, .int .i64 0, .int .i64 0, .int .i64 0, .int .i64 0, .int .i64 0, .int .i64 0, .int .i64 0] hm2 Try.sizeMach rfl (by simp [Value.oneCell']) ?_)
      intro wB hvB hbB hsB hkB
      go_wp2
      refine bodyPost_ret (results_row_tmp rfl _ _ (w.heap.size + 1 + 1) 34 _ (0, 0) _ rfl hvB Try.underlying34 rfl Try.sizeMach) rfl ⟨.slice none 0 0, by rw [HD.out]; rfl, by rw [HD.out]; exact ⟨rfl, Or.inl ⟨rfl, rfl⟩⟩, hB2.trans (hbB.mono (by omega))⟩
    | true =>
      have hlen : xs.length ≤ 3000 := by simp only [poolB, Bool.and_eq_true, decide_eq_true_eq] at hp; exact hp.1
      go_wp2_with fail
      refine (shas_any _ xs f _ (R.below hB2)).mono ?_
      rintro e w3 ⟨rfl, hb3⟩
      have hB3 := hB2.trans (hb3.mono hB2.size)
      have hk3 := (hb3.block _ (Array.getElem?_eq_some_iff.1 hk2).1).trans hk2
      have hp3 := (hb3.block _ (Array.getElem?_eq_some_iff.1 hp2).1).trans hp2
      have hm3 := (hb3.block _ (Array.getElem?_eq_some_iff.1 hm2).1).trans hm2
      have cp3 : w3.cell? ⟨w.heap.size + 1, 0, none⟩ = some (.slice ao xs.length cap) := cell_of_row w3 _ 0 _ _ _ hp3
      clear hB2 hk2 hp2 hm2 hb3 cp2
      cases hh : hasI xs f with
      | false =>
        have HD : Hid (ofD ns is ds xs f = none) := by unfold Hid ofD; rw [hc, hp, hh]; rfl
        go_wp2_with (refine wpList_store_own2 rfl 34 _ _ rfl (w.heap.size + 1 + 1) #[.slice none 0 0, .int .i64 0, .int .i64 0, .int .i64 0, .int .i64 0, .int .i64 0, .int .i64 0, .int .i64 0] rfl rfl 34 #[.slice none 0 0, .int .i64 0, .int .i64 0, .int .i64 0, .int .i64 0, .int .i64 0, .int .i64 0, .int .i64 0] hm3 Try.sizeMach rfl (by simp [Value.oneCell']) ?_)
        intro wB hvB hbB hsB hkB
        go_wp2
        refine bodyPost_ret (results_row_tmp rfl _ _ (w.heap.size + 1 + 1) 34 _ (0, 0) _ rfl hvB Try.underlying34 rfl Try.sizeMach) rfl ⟨.slice none 0 0, by rw [HD.out]; rfl, by rw [HD.out]; exact ⟨rfl, Or.inl ⟨rfl, rfl⟩⟩, hB3.trans (hbB.mono (by omega))⟩
      | true =>
        simp only [hasI, Bool.and_eq_true, decide_eq_true_eq] at hh
        obtain ⟨k, rfl⟩ := Int.eq_ofNat_of_zero_le hh.1
        have hlt : k < xs.length := by omega
        obtain ⟨x, hx⟩ : ∃ x, xs[k]? = some x := ⟨xs[k], by simp [hlt]⟩
        have hnb := poolB_at hp hx
        have HD0 : Hid (ofD ns is ds xs k = if (decide (x.k = 6) && decide (x.n % 8 = 0) && decide (x.n / 8 < is.length) && decide (xs.length + 2 ≤ 3000)) = true then some x else none) := by
          unfold Hid ofD
          have hh' : hasI xs (k : Int) = true := by unfold hasI; simp [hlt]
          rw [hc, hp, hh', Int.toNat_natCast, hx]
          simp [Option.filter]
        obtain ⟨g, o, rfl, hg, hcell⟩ := hcell (by intro e; subst e; simp at hlt)
        obtain ⟨d0, d1, d2, d3, d4⟩ := (hcell k x hx).below hB3 hg
        have hg3 : g < w3.heap.size := Nat.lt_of_lt_of_le hg hB3.size
        have hm3l := (Array.getElem?_eq_some_iff.1 hm3).1
        clear hcell hc hp hh hx
        by_cases h2 : xs.length + 2 ≤ 3000
        · have h2' : (xs.length : Int) + 2 ≤ 3000 := by omega
          obtain ⟨W5, hW5⟩ : ∃ W5, w3.alloc (Obj.cells #[.int .i64 x.k, .int .i64 x.n, .string x.s, .int .i64 x.a, .int .i64 x.b] 45) = W5 := ⟨_, rfl⟩
          have hd5 : Below w3.heap.size w3 W5 := by rw [← hW5]; exact (Below.refl _ _).alloc (Nat.le_refl _) _
          have hx5 : W5.heap[w3.heap.size]? = some (.cells #[.int .i64 x.k, .int .i64 x.n, .string x.s, .int .i64 x.a, .int .i64 x.b] 45 (0, 0)) := by rw [← hW5]; exact heap_alloc_new _ _
          have q0 : W5.cell? ⟨w3.heap.size, 0, none⟩ = some (.int .i64 x.k) := cell_of_row W5 _ 0 _ _ _ hx5
          have q1 : W5.cell? ⟨w3.heap.size, 1, none⟩ = some (.int .i64 x.n) := cell_of_row W5 _ 1 _ _ _ hx5
          have hk5 := (hd5.block _ (Array.getElem?_eq_some_iff.1 hk3).1).trans hk3
          have hp5 := (hd5.block _ (Array.getElem?_eq_some_iff.1 hp3).1).trans hp3
          have hm5 := (hd5.block _ (Array.getElem?_eq_some_iff.1 hm3).1).trans hm3
          have cl5 : W5.cell? ⟨w.heap.size, 1, none⟩ = some (.slice a2 is.length c2) := cell_of_row W5 _ 1 _ _ _ hk5
          have cp5 : W5.cell? ⟨w.heap.size + 1, 0, none⟩ = some (.slice (some ⟨g, o, none⟩) xs.length cap) := cell_of_row W5 _ 0 _ _ _ hp5
          have hB5 := hB3.trans (hd5.mono hB3.size)
          have l5 := (Array.getElem?_eq_some_iff.1 hx5).1
          have lm5 := (Array.getElem?_eq_some_iff.1 hm5).1
          by_cases h6 : x.k = 6
          · have hn0 : 0 ≤ x.n ∧ x.n ≤ 1000000000 := by
              simp only [nodeB, Bool.and_eq_true, decide_eq_true_eq, h6, lo, hi] at hnb
              obtain ⟨⟨⟨⟨_, _⟩, h3⟩, h4⟩, _⟩ := hnb
              simp at h3 h4
              omega
            obtain ⟨hn1, hn2⟩ := hn0
            have h6' : (x.k != 6) = false := by simp [h6]
            by_cases hr : x.n % 8 = 0
            · have hr' : (x.n % 8 != 0) = false := by simp [hr]
              by_cases hq : x.n / 8 < is.length
              · have HD : Hid (ofD ns is ds xs k = some x) := by unfold Hid; rw [HD0.out]; simp [h6, hr, hq, h2]
                have hq' : ¬ ((is.length : Int) ≤ x.n / 8) := by omega
                clear HD0 hnb h6 hr hq
                go_wp2_with fail
                have SC := scopy_any _ xs _ (R.below hB5) (by omega)
                with_reducible refine SC.mono ?_
                rintro e w6 ⟨v6, rfl, ho6, hb6⟩
                obtain ⟨a6, k6, rfl⟩ := own_form ho6
                have hbx6 := heap_alloc_new w6 (Obj.cells #[.slice a6 xs.length k6] 26)
                have ho6a := ho6.alloc (Obj.cells #[.slice a6 xs.length k6] 26)
                have hd6 : Below W5.heap.size W5 (w6.alloc (Obj.cells #[.slice a6 xs.length k6] 26)) := hb6.alloc hb6.size _
                have hs6 := hb6.size
                go_wp2_with fail
                have SA := sadd_any w6.heap.size W5.heap.size a6 k6 xs nilN _ hbx6 ho6a (by omega) hs6
                refine SA.mono ?_
                rintro e w7 ⟨v7, rfl, hb7, ho7, bel7⟩
                have hd7 := hd6.trans bel7
                obtain ⟨a7, k7, rfl⟩ := own_form ho7
                have r3 : w7.cell? ⟨w3.heap.size, 3, none⟩ = some (.int .i64 x.a) := (hd7.cell (p := ⟨w3.heap.size, 3, none⟩) l5).trans (cell_of_row W5 _ 3 _ _ _ hx5)
                go_wp2_with fail
                have SA2 := sadd_any w6.heap.size W5.heap.size a7 k7 (xs ++ [nilN]) ⟨5, 0, ByteArray.empty, xs.length, x.a⟩ _ hb7 ho7 (by simp; omega) hs6
                refine SA2.mono ?_
                rintro e w8 ⟨v8, rfl, hb8, ho8, bel8⟩
                have hd8 := hd7.trans bel8
                obtain ⟨L8, hL8⟩ : ∃ L8, Hid (xs ++ [nilN] ++ [(⟨5, 0, ByteArray.empty, xs.length, x.a⟩ : Nd)] = L8) := ⟨_, rfl⟩
                rw [hL8.out] at ho8
                obtain ⟨a8, k8, rfl⟩ := own_form ho8
                have e1 : ((xs ++ [nilN]).length : Int) = ((xs.length + 1 : Nat) : Int) := by simp
                rw [e1]
                clear e1
                have s1 : w8.cell? ⟨w3.heap.size, 1, none⟩ = some (.int .i64 x.n) := (hd8.cell (p := ⟨w3.heap.size, 1, none⟩) l5).trans q1
                have s0 : w8.cell? ⟨w6.heap.size, 0, none⟩ = some (.slice a8 L8.length k8) := cell_of_row w8 _ 0 _ _ _ hb8
                have hm8 := (hd8.block _ lm5).trans hm5
                have hB8 := hB5.trans (hd8.mono hB5.size)
                clear r3 q0 q1 cl5 cp5
                go_wp2_with (refine wpList_store_own2 rfl 34 _ _ rfl (w.heap.size + 1 + 1) #[.slice a8 L8.length k8, .int .i64 (x.n / 8), .int .i64 xs.length, .int .i64 (xs.length + 1 : Nat), .int .i64 xs.length, .int .i64 0, .int .i64 0, .int .i64 0] rfl rfl 34 #[.slice none 0 0, .int .i64 0, .int .i64 0, .int .i64 0, .int .i64 0, .int .i64 0, .int .i64 0, .int .i64 0] hm8 Try.sizeMach rfl (by simp [Value.oneCell']) ?_)
                intro wB hvB hbB hsB hkB
                have hoB := own_stored ho8 hkB (own_ne ho8 hm8 (by decide))
                have hsz5 := hB5.size
                go_wp2
                refine bodyPost_ret (results_row_tmp rfl _ _ (w.heap.size + 1 + 1) 34 _ (0, 0) _ rfl hvB Try.underlying34 rfl Try.sizeMach) rfl ⟨.slice a8 L8.length k8, by rw [HD.out]; rfl, ?_, hB8.trans (hbB.mono (by omega))⟩
                rw [HD.out]
                have eL : ofL xs (some x) = L8 := hL8.out
                rw [eL]
                exact own_mono hoB (by omega)
              · have HD : Hid (ofD ns is ds xs k = none) := by unfold Hid; rw [HD0.out]; simp [hq]
                have hq' : ((is.length : Int) ≤ x.n / 8) := by omega
                clear HD0 hnb h6 hr hq
                go_wp2_with (refine wpList_store_own2 rfl 34 _ _ rfl (w.heap.size + 1 + 1) #[.slice none 0 0, .int .i64 0, .int .i64 0, .int .i64 0, .int .i64 0, .int .i64 0, .int .i64 0, .int .i64 0] rfl rfl 34 #[.slice none 0 0, .int .i64 0, .int .i64 0, .int .i64 0, .int .i64 0, .int .i64 0, .int .i64 0, .int .i64 0] hm5 Try.sizeMach rfl (by simp [Value.oneCell']) ?_)
                intro wB hvB hbB hsB hkB
                go_wp2
                refine bodyPost_ret (results_row_tmp rfl _ _ (w.heap.size + 1 + 1) 34 _ (0, 0) _ rfl hvB Try.underlying34 rfl Try.sizeMach) rfl ⟨.slice none 0 0, by rw [HD.out]; rfl, by rw [HD.out]; exact ⟨rfl, Or.inl ⟨rfl, rfl⟩⟩, hB5.trans (hbB.mono (by omega))⟩
            · have HD : Hid (ofD ns is ds xs k = none) := by unfold Hid; rw [HD0.out]; simp [hr]
              have hr' : (x.n % 8 != 0) = true := by simp [hr]
              clear HD0 hnb h6 hr
              go_wp2_with (refine wpList_store_own2 rfl 34 _ _ rfl (w.heap.size + 1 + 1) #[.slice none 0 0, .int .i64 0, .int .i64 0, .int .i64 0, .int .i64 0, .int .i64 0, .int .i64 0, .int .i64 0] rfl rfl 34 #[.slice none 0 0, .int .i64 0, .int .i64 0, .int .i64 0, .int .i64 0, .int .i64 0, .int .i64 0, .int .i64 0] hm5 Try.sizeMach rfl (by simp [Value.oneCell']) ?_)
              intro wB hvB hbB hsB hkB
              go_wp2
              refine bodyPost_ret (results_row_tmp rfl _ _ (w.heap.size + 1 + 1) 34 _ (0, 0) _ rfl hvB Try.underlying34 rfl Try.sizeMach) rfl ⟨.slice none 0 0, by rw [HD.out]; rfl, by rw [HD.out]; exact ⟨rfl, Or.inl ⟨rfl, rfl⟩⟩, hB5.trans (hbB.mono (by omega))⟩
          · have HD : Hid (ofD ns is ds xs k = none) := by unfold Hid; rw [HD0.out]; simp [h6]
            have h6' : (x.k != 6) = true := by simp [h6]
            clear HD0 hnb h6
            go_wp2_with (refine wpList_store_own2 rfl 34 _ _ rfl (w.heap.size + 1 + 1) #[.slice none 0 0, .int .i64 0, .int .i64 0, .int .i64 0, .int .i64 0, .int .i64 0, .int .i64 0, .int .i64 0] rfl rfl 34 #[.slice none 0 0, .int .i64 0, .int .i64 0, .int .i64 0, .int .i64 0, .int .i64 0, .int .i64 0, .int .i64 0] hm5 Try.sizeMach rfl (by simp [Value.oneCell']) ?_)
            intro wB hvB hbB hsB hkB
            go_wp2
            refine bodyPost_ret (results_row_tmp rfl _ _ (w.heap.size + 1 + 1) 34 _ (0, 0) _ rfl hvB Try.underlying34 rfl Try.sizeMach) rfl ⟨.slice none 0 0, by rw [HD.out]; rfl, by rw [HD.out]; exact ⟨rfl, Or.inl ⟨rfl, rfl⟩⟩, hB5.trans (hbB.mono (by omega))⟩
        · have HD : Hid (ofD ns is ds xs k = none) := by unfold Hid; rw [HD0.out]; simp [h2]
          have h2' : (3000 : Int) < (xs.length : Int) + 2 := by omega
          clear HD0 hnb
          go_wp2_with (refine wpList_store_own2 rfl 34 _ _ rfl (w.heap.size + 1 + 1) #[.slice none 0 0, .int .i64 0, .int .i64 0, .int .i64 0, .int .i64 0, .int .i64 0, .int .i64 0, .int .i64 0] rfl rfl 34 #[.slice none 0 0, .int .i64 0, .int .i64 0, .int .i64 0, .int .i64 0, .int .i64 0, .int .i64 0, .int .i64 0] hm3 Try.sizeMach rfl (by simp [Value.oneCell']) ?_)
          intro wB hvB hbB hsB hkB
          go_wp2
          refine bodyPost_ret (results_row_tmp rfl _ _ (w.heap.size + 1 + 1) 34 _ (0, 0) _ rfl hvB Try.underlying34 rfl Try.sizeMach) rfl ⟨.slice none 0 0, by rw [HD.out]; rfl, by rw [HD.out]; exact ⟨rfl, Or.inl ⟨rfl, rfl⟩⟩, hB3.trans (hbB.mono (by omega))⟩
end Go.Proofs.Ytakjjmbkjdjdpaa

/-
  A machine's variable (VarM), and the contracts of the laws' helpers markMachine and heldMachine. No condition.
-/
namespace Go.Proofs.Ytakjjmbkjdjdpaa
open Go.RowKit

theorem stepD8 {w2 w3 : World} (h : Below w2.drew.heap.size w2.drew w3) : Below w2.heap.size w2 w3 := (Below.refl _ _).drew.trans h
/-- What a machine's variable holds: at block b, a machine whose row of nodes lies between lo and hi and reads as xs. -/
def VarM (w : World) (b lo hi : Nat) (v : Value) (xs : List Nd) (m : Mc) : Prop :=
  w.heap[b]? = some (.cells #[v, .int .i64 m.p, .int .i64 m.s, .int .i64 m.e, .int .i64 m.d, .int .i64 m.t, .int .i64 m.q, .int .i64 m.r] 34 (0, 0)) ∧ w.ownsRow lo 45 5 v xs.length (ncs xs) ∧ (∀ k, v.ownBlock = some k → k < hi) ∧ hi ≤ w.heap.size
theorem VarM.new {w5 we : World} {lo : Nat} {v : Value} {xs : List Nd} {m : Mc} (ho : w5.ownsRow lo 45 5 v xs.length (ncs xs)) (hd : Below w5.heap.size w5 we) (hb : we.heap[w5.heap.size]? = some (.cells #[v, .int .i64 m.p, .int .i64 m.s, .int .i64 m.e, .int .i64 m.d, .int .i64 m.t, .int .i64 m.q, .int .i64 m.r] 34 (0, 0))) :
    VarM we w5.heap.size lo we.heap.size v xs m := ⟨hb, own_below ho hd, fun k hk => ((own_below ho hd).lt k hk).2, Nat.le_refl _⟩
theorem VarM.below {w w' : World} {b lo hi : Nat} {v : Value} {xs : List Nd} {m : Mc} (h : VarM w b lo hi v xs m) (hb : Below w.heap.size w w') : VarM w' b lo hi v xs m :=
  ⟨(hb.block b (Array.getElem?_eq_some_iff.1 h.1).1).trans h.1, own_below h.2.1 hb, h.2.2.1, Nat.le_trans h.2.2.2 hb.size⟩
theorem VarM.row {w : World} {b lo hi : Nat} {v : Value} {xs : List Nd} {m : Mc} (h : VarM w b lo hi v xs m) (hm : xs.length ≤ 4194304) (hz : ∀ x ∈ xs, x.s.size ≤ maxLen) : NRow w v xs := NRow.of_own h.2.1 (by omega) hz
theorem VarM.lt {w : World} {b lo hi : Nat} {v : Value} {xs : List Nd} {m : Mc} (h : VarM w b lo hi v xs m) : b < w.heap.size := (Array.getElem?_eq_some_iff.1 h.1).1
theorem VarM.kept {w w' : World} {b lo hi lo' hi' b' : Nat} {v v' : Value} {xs xs' : List Nd} {m m' : Mc} (h : VarM w b lo hi v xs m) (h' : VarM w b' lo' hi' v' xs' m') (hg : w.grownBy w' v'.ownBlock) (hd : hi ≤ lo' ∨ hi' ≤ lo) : VarM w' b lo hi v xs m := by
  have hne : v'.ownBlock ≠ some b := own_ne h'.2.1 h.1 (by decide)
  refine ⟨(hg.block b h.lt (fun e => hne e.symm)).trans h.1, h.2.1.kept hg ?_, h.2.2.1, Nat.le_trans h.2.2.2 hg.size⟩
  cases hv : v.ownBlock with
  | none => exact Or.inl rfl
  | some k =>
    refine Or.inr fun e => ?_
    have k1 := h.2.2.1 k hv
    have k2 := (h.2.1.lt k hv).1
    have k3 := h'.2.2.1 k e.symm
    have k4 := (h'.2.1.lt k e.symm).1
    omega
theorem VarM.marked {w w' : World} {b lo hi : Nat} {v : Value} {xs ys : List Nd} {m : Mc} (h : VarM w b lo hi v xs m) (hg : w.grownBy w' v.ownBlock) (ho : w'.ownsRow lo 45 5 v ys.length (ncs ys)) : VarM w' b lo hi v ys m :=
  ⟨(hg.block b h.lt (fun e => own_ne h.2.1 h.1 (by decide) e.symm)).trans h.1, ho, h.2.2.1, Nat.le_trans h.2.2.2 hg.size⟩
theorem VarM.block {w w' : World} {b lo hi : Nat} {v : Value} {xs : List Nd} {m : Mc} (h : VarM w b lo hi v xs m) (hg : w.grownBy w' v.ownBlock) {j : Nat} {c : Array Value} {t : TypeId} (hj : w.heap[j]? = some (.cells c t (0, 0))) (hte : t ≠ 45) : w'.heap[j]? = some (.cells c t (0, 0)) :=
  (hg.block j (Array.getElem?_eq_some_iff.1 hj).1 (fun e => own_ne h.2.1 hj hte e.symm)).trans hj
theorem below_markM {w w' : World} {B b lo hi : Nat} {v : Value} {xs : List Nd} {m : Mc} {w0 : World} (h0 : Below B w0 w) (h : VarM w b lo hi v xs m) (hg : w.grownBy w' v.ownBlock) (hlo : B ≤ lo) (hB : B ≤ w.heap.size) : Below B w0 w' :=
  h0.grown hg hB (fun k hk => Nat.le_trans hlo (h.2.1.lt k hk).1)

/-- What another block's turning leaves. -/
theorem VarM.keptBy {w w' : World} {b lo hi : Nat} {v : Value} {xs : List Nd} {m : Mc} {o : Option Nat} (h : VarM w b lo hi v xs m) (hg : w.grownBy w' o) (hb : ∀ k, o = some k → k ≠ b ∧ (k < lo ∨ hi ≤ k)) : VarM w' b lo hi v xs m := by
  refine ⟨(hg.block b h.lt (fun e => (hb b e.symm).1 rfl)).trans h.1, h.2.1.kept hg ?_, h.2.2.1, Nat.le_trans h.2.2.2 hg.size⟩
  cases hv : v.ownBlock with
  | none => exact Or.inl rfl
  | some k =>
    refine Or.inr fun e => ?_
    have k1 := h.2.2.1 k hv
    have k2 := (h.2.1.lt k hv).1
    have k3 := (hb k e.symm).2
    omega
end Go.Proofs.Ytakjjmbkjdjdpaa
