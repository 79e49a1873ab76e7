/-
  Texts that stood by themselves, laid into one.
-/
import Derived.Test.YtacbhbmjhlgflaaMOf2M
import Derived.Test.YtacbhbmjhlgflaaSSizeM
import Derived.Test.YtacbhbmjhlgflaaShapeM
import Derived.Laws.BytesArg
import Derived.Lib.AppendStr
import Derived.Laws.IdiomStrings
/-
  The contract of spec.MachineOf. No condition.
-/
namespace Go.Proofs.Ytacbhbmjhlgflaa
open Go.RowKit

set_option maxRecDepth 100000 in
set_option maxHeartbeats 6400000 in
theorem smachof_any (v1 v2 v3 v : Value) (ns : List Nd) (is : List In) (ds : List Df) (xs : List Nd) (f : Int) (w : World) (R1 : NRow w v1 ns) (R2 : InRow w v2 is) (R3 : DfRow w v3 ds) (R : NRow w v xs) :
    Calls Try.prog 7 #[.agg #[v1, v2, v3], .agg #[v], .int .i64 f] w fun e w' => ∃ v', e = .returned (.tuple #[.agg #[v', .int .i64 (ofM xs (ofD ns is ds xs f)).p, .int .i64 (ofM xs (ofD ns is ds xs f)).s, .int .i64 (ofM xs (ofD ns is ds xs f)).e, .int .i64 (ofM xs (ofD ns is ds xs f)).d, .int .i64 (ofM xs (ofD ns is ds xs f)).t, .int .i64 (ofM xs (ofD ns is ds xs f)).q, .int .i64 (ofM xs (ofD ns is ds xs f)).r], .bool (ofD ns is ds xs f).isSome]) ∧ w'.ownsRow w.heap.size 63 5 v' (ofL xs (ofD ns is ds xs f)).length (ncs (ofL xs (ofD ns is ds xs f))) ∧ Below w.heap.size w w' := by
  have R' := R
  obtain ⟨ao, cap, rfl, _, _, hz, hcell⟩ := R'
  obtain ⟨a1, c1, rfl⟩ := R1.small
  obtain ⟨a2, c2, rfl⟩ := R2.small
  obtain ⟨a3, c3, rfl⟩ := R3.small
  obtain ⟨hB0, hk0, hp0, hm0⟩ := three_boxes w (Obj.cells #[.slice a1 ns.length c1, .slice a2 is.length c2, .slice a3 ds.length c3] 41) (Obj.cells #[.slice ao xs.length cap] 33) (Obj.cells #[.slice none 0 0, .int .i64 0, .int .i64 0, .int .i64 0, .int .i64 0, .int .i64 0, .int .i64 0, .int .i64 0] 35)
  go_enter Try.func7, Try.ntmps7
  go_wp2_with fail
  refine (scodeok_any _ _ _ ns is ds _ (R1.below hB0) (R2.below hB0) (R3.below hB0)).mono ?_
  rintro e w1 ⟨rfl, hb1⟩
  have hB1 := hB0.trans (hb1.mono hB0.size)
  have hk1 := (hb1.block _ (Array.getElem?_eq_some_iff.1 hk0).1).trans hk0
  have hp1 := (hb1.block _ (Array.getElem?_eq_some_iff.1 hp0).1).trans hp0
  have hm1 := (hb1.block _ (Array.getElem?_eq_some_iff.1 hm0).1).trans hm0
  have cp1 : w1.cell? ⟨w.heap.size + 1, 0, none⟩ = some (.slice ao xs.length cap) := cell_of_row w1 _ 0 _ _ _ hp1
  clear hB0 hk0 hp0 hm0 hb1
  cases hc : codeB ns is ds with
  | false =>
    have HD : Hid (ofD ns is ds xs f = none) := by unfold Hid ofD; rw [hc]; rfl
    go_wp2_with (refine wpList_store_own2 rfl 35 _ _ rfl (w.heap.size + 1 + 1) #[.slice none 0 0, .int .i64 0, .int .i64 0, .int .i64 0, .int .i64 0, .int .i64 0, .int .i64 0, .int .i64 0] rfl rfl 35 #[.slice none 0 0, .int .i64 0, .int .i64 0, .int .i64 0, .int .i64 0, .int .i64 0, .int .i64 0, .int .i64 0] hm1 Try.sizeMach rfl (by simp [Value.oneCell']) ?_)
    intro wB hvB hbB hsB hkB
    go_wp2
    refine bodyPost_ret (results_row_tmp rfl _ _ (w.heap.size + 1 + 1) 35 _ (0, 0) _ rfl hvB Try.underlying35 rfl Try.sizeMach) rfl ⟨.slice none 0 0, by rw [HD.out]; rfl, by rw [HD.out]; exact ⟨rfl, Or.inl ⟨rfl, rfl⟩⟩, hB1.trans (hbB.mono (by omega))⟩
  | true =>
    go_wp2_with fail
    refine (spool_any _ xs _ (R.below hB1)).mono ?_
    rintro e w2 ⟨rfl, hb2⟩
    have hB2 := hB1.trans (hb2.mono hB1.size)
    have hk2 := (hb2.block _ (Array.getElem?_eq_some_iff.1 hk1).1).trans hk1
    have hp2 := (hb2.block _ (Array.getElem?_eq_some_iff.1 hp1).1).trans hp1
    have hm2 := (hb2.block _ (Array.getElem?_eq_some_iff.1 hm1).1).trans hm1
    have cp2 : w2.cell? ⟨w.heap.size + 1, 0, none⟩ = some (.slice ao xs.length cap) := cell_of_row w2 _ 0 _ _ _ hp2
    clear hB1 hk1 hp1 hm1 hb2 cp1
    cases hp : poolB xs with
    | false =>
      have HD : Hid (ofD ns is ds xs f = none) := by unfold Hid ofD; rw [hc, hp]; rfl
      go_wp2_with (refine wpList_store_own2 rfl 35 _ _ rfl (w.heap.size + 1 + 1) #[.slice none 0 0, .int .i64 0, .int .i64 0, .int .i64 0, .int .i64 0, .int .i64 0, .int .i64 0, .int .i64 0] rfl rfl 35 #[.slice none 0 0, .int .i64 0, .int .i64 0, .int .i64 0, .int .i64 0, .int .i64 0, .int .i64 0, .int .i64 0] hm2 Try.sizeMach rfl (by simp [Value.oneCell']) ?_)
      intro wB hvB hbB hsB hkB
      go_wp2
      refine bodyPost_ret (results_row_tmp rfl _ _ (w.heap.size + 1 + 1) 35 _ (0, 0) _ rfl hvB Try.underlying35 rfl Try.sizeMach) rfl ⟨.slice none 0 0, by rw [HD.out]; rfl, by rw [HD.out]; exact ⟨rfl, Or.inl ⟨rfl, rfl⟩⟩, hB2.trans (hbB.mono (by omega))⟩
    | true =>
      have hlen : xs.length ≤ 3000 := by simp only [poolB, Bool.and_eq_true, decide_eq_true_eq] at hp; exact hp.1
      go_wp2_with fail
      refine (shas_any _ xs f _ (R.below hB2)).mono ?_
      rintro e w3 ⟨rfl, hb3⟩
      have hB3 := hB2.trans (hb3.mono hB2.size)
      have hk3 := (hb3.block _ (Array.getElem?_eq_some_iff.1 hk2).1).trans hk2
      have hp3 := (hb3.block _ (Array.getElem?_eq_some_iff.1 hp2).1).trans hp2
      have hm3 := (hb3.block _ (Array.getElem?_eq_some_iff.1 hm2).1).trans hm2
      have cp3 : w3.cell? ⟨w.heap.size + 1, 0, none⟩ = some (.slice ao xs.length cap) := cell_of_row w3 _ 0 _ _ _ hp3
      clear hB2 hk2 hp2 hm2 hb3 cp2
      cases hh : hasI xs f with
      | false =>
        have HD : Hid (ofD ns is ds xs f = none) := by unfold Hid ofD; rw [hc, hp, hh]; rfl
        go_wp2_with (refine wpList_store_own2 rfl 35 _ _ rfl (w.heap.size + 1 + 1) #[.slice none 0 0, .int .i64 0, .int .i64 0, .int .i64 0, .int .i64 0, .int .i64 0, .int .i64 0, .int .i64 0] rfl rfl 35 #[.slice none 0 0, .int .i64 0, .int .i64 0, .int .i64 0, .int .i64 0, .int .i64 0, .int .i64 0, .int .i64 0] hm3 Try.sizeMach rfl (by simp [Value.oneCell']) ?_)
        intro wB hvB hbB hsB hkB
        go_wp2
        refine bodyPost_ret (results_row_tmp rfl _ _ (w.heap.size + 1 + 1) 35 _ (0, 0) _ rfl hvB Try.underlying35 rfl Try.sizeMach) rfl ⟨.slice none 0 0, by rw [HD.out]; rfl, by rw [HD.out]; exact ⟨rfl, Or.inl ⟨rfl, rfl⟩⟩, hB3.trans (hbB.mono (by omega))⟩
      | true =>
        simp only [hasI, Bool.and_eq_true, decide_eq_true_eq] at hh
        obtain ⟨k, rfl⟩ := Int.eq_ofNat_of_zero_le hh.1
        have hlt : k < xs.length := by omega
        obtain ⟨x, hx⟩ : ∃ x, xs[k]? = some x := ⟨xs[k], by simp [hlt]⟩
        have hnb := poolB_at hp hx
        have HD0 : Hid (ofD ns is ds xs k = if (decide (x.k = 6) && decide (x.n % 8 = 0) && decide (x.n / 8 < is.length) && decide (xs.length + 2 ≤ 3000)) = true then some x else none) := by
          unfold Hid ofD
          have hh' : hasI xs (k : Int) = true := by unfold hasI; simp [hlt]
          rw [hc, hp, hh', Int.toNat_natCast, hx]
          simp [Option.filter]
        obtain ⟨g, o, rfl, hg, hcell⟩ := hcell (by intro e; subst e; simp at hlt)
        obtain ⟨d0, d1, d2, d3, d4⟩ := (hcell k x hx).below hB3 hg
        have hg3 : g < w3.heap.size := Nat.lt_of_lt_of_le hg hB3.size
        have hm3l := (Array.getElem?_eq_some_iff.1 hm3).1
        clear hcell hc hp hh hx
        by_cases h2 : xs.length + 2 ≤ 3000
        · have h2' : (xs.length : Int) + 2 ≤ 3000 := by omega
          obtain ⟨W5, hW5⟩ : ∃ W5, w3.alloc (Obj.cells #[.int .i64 x.k, .int .i64 x.n, .string x.s, .int .i64 x.a, .int .i64 x.b] 63) = W5 := ⟨_, rfl⟩
          have hd5 : Below w3.heap.size w3 W5 := by rw [← hW5]; exact (Below.refl _ _).alloc (Nat.le_refl _) _
          have hx5 : W5.heap[w3.heap.size]? = some (.cells #[.int .i64 x.k, .int .i64 x.n, .string x.s, .int .i64 x.a, .int .i64 x.b] 63 (0, 0)) := by rw [← hW5]; exact heap_alloc_new _ _
          have q0 : W5.cell? ⟨w3.heap.size, 0, none⟩ = some (.int .i64 x.k) := cell_of_row W5 _ 0 _ _ _ hx5
          have q1 : W5.cell? ⟨w3.heap.size, 1, none⟩ = some (.int .i64 x.n) := cell_of_row W5 _ 1 _ _ _ hx5
          have hk5 := (hd5.block _ (Array.getElem?_eq_some_iff.1 hk3).1).trans hk3
          have hp5 := (hd5.block _ (Array.getElem?_eq_some_iff.1 hp3).1).trans hp3
          have hm5 := (hd5.block _ (Array.getElem?_eq_some_iff.1 hm3).1).trans hm3
          have cl5 : W5.cell? ⟨w.heap.size, 1, none⟩ = some (.slice a2 is.length c2) := cell_of_row W5 _ 1 _ _ _ hk5
          have cp5 : W5.cell? ⟨w.heap.size + 1, 0, none⟩ = some (.slice (some ⟨g, o, none⟩) xs.length cap) := cell_of_row W5 _ 0 _ _ _ hp5
          have hB5 := hB3.trans (hd5.mono hB3.size)
          have l5 := (Array.getElem?_eq_some_iff.1 hx5).1
          have lm5 := (Array.getElem?_eq_some_iff.1 hm5).1
          by_cases h6 : x.k = 6
          · have hn0 : 0 ≤ x.n ∧ x.n ≤ 1000000000 := by
              simp only [nodeB, Bool.and_eq_true, decide_eq_true_eq, h6, lo, hi] at hnb
              obtain ⟨⟨⟨⟨_, _⟩, h3⟩, h4⟩, _⟩ := hnb
              simp at h3 h4
              omega
            obtain ⟨hn1, hn2⟩ := hn0
            have h6' : (x.k != 6) = false := by simp [h6]
            by_cases hr : x.n % 8 = 0
            · have hr' : (x.n % 8 != 0) = false := by simp [hr]
              by_cases hq : x.n / 8 < is.length
              · have HD : Hid (ofD ns is ds xs k = some x) := by unfold Hid; rw [HD0.out]; simp [h6, hr, hq, h2]
                have hq' : ¬ ((is.length : Int) ≤ x.n / 8) := by omega
                clear HD0 hnb h6 hr hq
                go_wp2_with fail
                have SC := scopy_any _ xs _ (R.below hB5) (by omega)
                with_reducible refine SC.mono ?_
                rintro e w6 ⟨v6, rfl, ho6, hb6⟩
                obtain ⟨a6, k6, rfl⟩ := own_form ho6
                have hbx6 := heap_alloc_new w6 (Obj.cells #[.slice a6 xs.length k6] 33)
                have ho6a := ho6.alloc (Obj.cells #[.slice a6 xs.length k6] 33)
                have hd6 : Below W5.heap.size W5 (w6.alloc (Obj.cells #[.slice a6 xs.length k6] 33)) := hb6.alloc hb6.size _
                have hs6 := hb6.size
                go_wp2_with fail
                have SA := sadd_any w6.heap.size W5.heap.size a6 k6 xs nilN _ hbx6 ho6a (by omega) hs6
                refine SA.mono ?_
                rintro e w7 ⟨v7, rfl, hb7, ho7, bel7⟩
                have hd7 := hd6.trans bel7
                obtain ⟨a7, k7, rfl⟩ := own_form ho7
                have r3 : w7.cell? ⟨w3.heap.size, 3, none⟩ = some (.int .i64 x.a) := (hd7.cell (p := ⟨w3.heap.size, 3, none⟩) l5).trans (cell_of_row W5 _ 3 _ _ _ hx5)
                go_wp2_with fail
                have SA2 := sadd_any w6.heap.size W5.heap.size a7 k7 (xs ++ [nilN]) ⟨5, 0, ByteArray.empty, xs.length, x.a⟩ _ hb7 ho7 (by simp; omega) hs6
                refine SA2.mono ?_
                rintro e w8 ⟨v8, rfl, hb8, ho8, bel8⟩
                have hd8 := hd7.trans bel8
                obtain ⟨L8, hL8⟩ : ∃ L8, Hid (xs ++ [nilN] ++ [(⟨5, 0, ByteArray.empty, xs.length, x.a⟩ : Nd)] = L8) := ⟨_, rfl⟩
                rw [hL8.out] at ho8
                obtain ⟨a8, k8, rfl⟩ := own_form ho8
                have e1 : ((xs ++ [nilN]).length : Int) = ((xs.length + 1 : Nat) : Int) := by simp
                rw [e1]
                clear e1
                have s1 : w8.cell? ⟨w3.heap.size, 1, none⟩ = some (.int .i64 x.n) := (hd8.cell (p := ⟨w3.heap.size, 1, none⟩) l5).trans q1
                have s0 : w8.cell? ⟨w6.heap.size, 0, none⟩ = some (.slice a8 L8.length k8) := cell_of_row w8 _ 0 _ _ _ hb8
                have hm8 := (hd8.block _ lm5).trans hm5
                have hB8 := hB5.trans (hd8.mono hB5.size)
                clear r3 q0 q1 cl5 cp5
                go_wp2_with (refine wpList_store_own2 rfl 35 _ _ rfl (w.heap.size + 1 + 1) #[.slice a8 L8.length k8, .int .i64 (x.n / 8), .int .i64 xs.length, .int .i64 (xs.length + 1 : Nat), .int .i64 xs.length, .int .i64 0, .int .i64 0, .int .i64 0] rfl rfl 35 #[.slice none 0 0, .int .i64 0, .int .i64 0, .int .i64 0, .int .i64 0, .int .i64 0, .int .i64 0, .int .i64 0] hm8 Try.sizeMach rfl (by simp [Value.oneCell']) ?_)
                intro wB hvB hbB hsB hkB
                have hoB := own_stored ho8 hkB (own_ne ho8 hm8 (by decide))
                have hsz5 := hB5.size
                go_wp2
                refine bodyPost_ret (results_row_tmp rfl _ _ (w.heap.size + 1 + 1) 35 _ (0, 0) _ rfl hvB Try.underlying35 rfl Try.sizeMach) rfl ⟨.slice a8 L8.length k8, by rw [HD.out]; rfl, ?_, hB8.trans (hbB.mono (by omega))⟩
                rw [HD.out]
                have eL : ofL xs (some x) = L8 := hL8.out
                rw [eL]
                exact own_mono hoB (by omega)
              · have HD : Hid (ofD ns is ds xs k = none) := by unfold Hid; rw [HD0.out]; simp [hq]
                have hq' : ((is.length : Int) ≤ x.n / 8) := by omega
                clear HD0 hnb h6 hr hq
                go_wp2_with (refine wpList_store_own2 rfl 35 _ _ rfl (w.heap.size + 1 + 1) #[.slice none 0 0, .int .i64 0, .int .i64 0, .int .i64 0, .int .i64 0, .int .i64 0, .int .i64 0, .int .i64 0] rfl rfl 35 #[.slice none 0 0, .int .i64 0, .int .i64 0, .int .i64 0, .int .i64 0, .int .i64 0, .int .i64 0, .int .i64 0] hm5 Try.sizeMach rfl (by simp [Value.oneCell']) ?_)
                intro wB hvB hbB hsB hkB
                go_wp2
                refine bodyPost_ret (results_row_tmp rfl _ _ (w.heap.size + 1 + 1) 35 _ (0, 0) _ rfl hvB Try.underlying35 rfl Try.sizeMach) rfl ⟨.slice none 0 0, by rw [HD.out]; rfl, by rw [HD.out]; exact ⟨rfl, Or.inl ⟨rfl, rfl⟩⟩, hB5.trans (hbB.mono (by omega))⟩
            · have HD : Hid (ofD ns is ds xs k = none) := by unfold Hid; rw [HD0.out]; simp [hr]
              have hr' : (x.n % 8 != 0) = true := by simp [hr]
              clear HD0 hnb h6 hr
              go_wp2_with (refine wpList_store_own2 rfl 35 _ _ rfl (w.heap.size + 1 + 1) #[.slice none 0 0, .int .i64 0, .int .i64 0, .int .i64 0, .int .i64 0, .int .i64 0, .int .i64 0, .int .i64 0] rfl rfl 35 #[.slice none 0 0, .int .i64 0, .int .i64 0, .int .i64 0, .int .i64 0, .int .i64 0, .int .i64 0, .int .i64 0] hm5 Try.sizeMach rfl (by simp [Value.oneCell']) ?_)
              intro wB hvB hbB hsB hkB
              go_wp2
              refine bodyPost_ret (results_row_tmp rfl _ _ (w.heap.size + 1 + 1) 35 _ (0, 0) _ rfl hvB Try.underlying35 rfl Try.sizeMach) rfl ⟨.slice none 0 0, by rw [HD.out]; rfl, by rw [HD.out]; exact ⟨rfl, Or.inl ⟨rfl, rfl⟩⟩, hB5.trans (hbB.mono (by omega))⟩
          · have HD : Hid (ofD ns is ds xs k = none) := by unfold Hid; rw [HD0.out]; simp [h6]
            have h6' : (x.k != 6) = true := by simp [h6]
            clear HD0 hnb h6
            go_wp2_with (refine wpList_store_own2 rfl 35 _ _ rfl (w.heap.size + 1 + 1) #[.slice none 0 0, .int .i64 0, .int .i64 0, .int .i64 0, .int .i64 0, .int .i64 0, .int .i64 0, .int .i64 0] rfl rfl 35 #[.slice none 0 0, .int .i64 0, .int .i64 0, .int .i64 0, .int .i64 0, .int .i64 0, .int .i64 0, .int .i64 0] hm5 Try.sizeMach rfl (by simp [Value.oneCell']) ?_)
            intro wB hvB hbB hsB hkB
            go_wp2
            refine bodyPost_ret (results_row_tmp rfl _ _ (w.heap.size + 1 + 1) 35 _ (0, 0) _ rfl hvB Try.underlying35 rfl Try.sizeMach) rfl ⟨.slice none 0 0, by rw [HD.out]; rfl, by rw [HD.out]; exact ⟨rfl, Or.inl ⟨rfl, rfl⟩⟩, hB5.trans (hbB.mono (by omega))⟩
        · have HD : Hid (ofD ns is ds xs k = none) := by unfold Hid; rw [HD0.out]; simp [h2]
          have h2' : (3000 : Int) < (xs.length : Int) + 2 := by omega
          clear HD0 hnb
          go_wp2_with (refine wpList_store_own2 rfl 35 _ _ rfl (w.heap.size + 1 + 1) #[.slice none 0 0, .int .i64 0, .int .i64 0, .int .i64 0, .int .i64 0, .int .i64 0, .int .i64 0, .int .i64 0] rfl rfl 35 #[.slice none 0 0, .int .i64 0, .int .i64 0, .int .i64 0, .int .i64 0, .int .i64 0, .int .i64 0, .int .i64 0] hm3 Try.sizeMach rfl (by simp [Value.oneCell']) ?_)
          intro wB hvB hbB hsB hkB
          go_wp2
          refine bodyPost_ret (results_row_tmp rfl _ _ (w.heap.size + 1 + 1) 35 _ (0, 0) _ rfl hvB Try.underlying35 rfl Try.sizeMach) rfl ⟨.slice none 0 0, by rw [HD.out]; rfl, by rw [HD.out]; exact ⟨rfl, Or.inl ⟨rfl, rfl⟩⟩, hB3.trans (hbB.mono (by omega))⟩
end Go.Proofs.Ytacbhbmjhlgflaa

/-
  The law of a slice of bytes turned into a text, and the laws' own markText: the same text at the same number, in whatever world. Nothing else of the program; no condition.
-/
namespace Go.Proofs.Ytacbhbmjhlgflaa
open Go.RowKit

/-- A slice of bytes turned into a text. -/
theorem wpList_bytes_text {P : Program} (w : World) {ops : Array Oper} {rest : List Oper} {o : Oper} {a : Act} {Q : Exit → Act → World → Prop} (hg : o.guard = none) (x : Operand) (src dst e : TypeId) (ho : o.op = .convert src dst x)
    (hs : P.underlying src = some (.slice e)) (hd : P.underlying dst = some .string) (he : P.underlying e = some (.int .u8)) (ao : Option Addr) (n c : Nat) (xs : List Int) (hx : a.eval x = .slice ao n c) (hl : xs.length = n)
    (hc : n ≠ 0 → ∃ g o', ao = some ⟨g, o', none⟩ ∧ ∀ i, i < n → w.cell? ⟨g, o' + i, none⟩ = some (.int .u8 (xs.getD i 0)))
    (h : wpList P ops Q rest (a.put o.dst (.string (strOfNums xs))) w) : wpList P ops Q (o :: rest) a w := by
  refine wpList_plain hg fun K hK => ?_
  have hrun : (convert src dst (.slice ao n c)).run P w = .ok (.string (strOfNums xs)) w := by
    by_cases h0 : n = 0
    · subst h0
      have : xs = [] := List.eq_nil_of_length_eq_zero hl
      subst this
      cases ao with
      | none => exact run_convert_bytes_nil w src e hs he 0 c dst hd
      | some ad => exact run_convert_bytes_back w src dst e ad c [] hs he hd (fun j hj => absurd hj (by simp))
    · obtain ⟨g, o', rfl, hcell⟩ := hc h0
      exact run_convert_bytes_arg w src e hs he g o' n c xs hl hcell dst hd
  unfold Oper.wp
  simp [execOp, ho, hx, hrun, Result.andThen]
  exact hK _ _ h

/-- The digits of k ahead of out. -/
def mtGo : Nat → Nat → ByteArray → ByteArray
  | 0, _, out => out
  | f + 1, k, out => if k = 0 then out else mtGo f (k / 10) (strOfNums [48 + (k : Int) % 10] ++ out)
/-- What markText tells of a number. -/
def mt (k : Int) : ByteArray := if k ≤ 0 then ⟨#[109, 48]⟩ else ⟨#[109]⟩ ++ mtGo k.toNat k.toNat ⟨#[]⟩
theorem mtGo_step (f k : Nat) (out : ByteArray) (h : 0 < k) (hf : k ≤ f) : mtGo f k out = mtGo (f - 1) (k / 10) (strOfNums [48 + (k : Int) % 10] ++ out) := by
  cases f with
  | zero => omega
  | succ f => simp only [mtGo, if_neg (by omega : ¬ k = 0)]; rfl
theorem mtGo_end (f : Nat) (out : ByteArray) : mtGo f 0 out = out := by
  cases f <;> simp [mtGo]

theorem digit_size (x : Int) : (strOfNums [x]).size = 1 := rfl

set_option maxHeartbeats 800000 in
theorem marktext_any (k : Int) (w : World) (hk : k ≤ 4611686018427387904) :
    Calls Try.prog 83 #[.int .i64 k] w fun e w' => e = .returned (.string (mt k)) ∧ Below w.heap.size w w' := by
  by_cases h0 : k ≤ 0
  · have HM : Hid (mt k = ⟨#[109, 48]⟩) := by unfold Hid mt; rw [if_pos h0]
    go_enter Try.func83, Try.ntmps83
    go_wp2
    go_ret
    exact ⟨by rw [HM.out]; rfl, Below.refl _ _⟩
  · obtain ⟨n, rfl⟩ := Int.eq_ofNat_of_zero_le (show 0 ≤ k by omega)
    have HM : Hid (mt n = ⟨#[109]⟩ ++ mtGo n n ⟨#[]⟩) := by unfold Hid mt; rw [if_neg h0]; rfl
    go_enter Try.func83, Try.ntmps83
    go_wp2
    go_loopw [0, 3] (fun q s wr => ∃ (f j : Nat) (t : ByteArray), q = .int .i64 j ∧ s = .string t ∧ j ≤ f ∧ t.size + j ≤ n ∧ Hid (mtGo n n ⟨#[]⟩ = mtGo f j t) ∧ Below w.heap.size w wr) (fun q _ _ => (intOf q).toNat)
    case atStart => exact ⟨n, n, ⟨#[]⟩, rfl, rfl, by omega, by show 0 + n ≤ n; omega, rfl, Below.refl _ _⟩
    case round =>
      obtain ⟨f, j, t, rfl, rfl, hjf, hjn, HG, hb⟩ := hrel
      by_cases hj : 0 < j
      · go_wp2_with (refine wpList_bytes_text _ rfl _ 51 9 5 rfl Try.underlying51 Try.underlying9 Try.underlying5 (some ⟨wr.heap.size, 0, none⟩) 1 1 [48 + (j : Int) % 10] rfl rfl ?_ ?_)
        · intro _
          refine ⟨_, 0, rfl, fun i hi => ?_⟩
          have hi0 : i = 0 := by omega
          subst hi0
          simp
        · exfalso
          have hd := digit_size (48 + (j : Int) % 10)
          omega
        · have hB := hb.alloc hb.size (Obj.cells #[Value.int .u8 (48 + (j : Int) % 10)] 5)
          refine ⟨⟨f - 1, j / 10, _, by rw [Int.natCast_ediv]; rfl, rfl, by omega, ?_, ?_, hB⟩, by simp [intOf]; omega⟩
          · rw [ByteArray.size_append, digit_size]; omega
          · unfold Hid
            rw [HG.out, mtGo_step f j t hj hjf]
      · have hj0 : j = 0 := by omega
        subst hj0
        have hcat : ¬ 9223372036854775807 < (⟨#[109]⟩ : ByteArray).size + t.size := by
          have e : (⟨#[109]⟩ : ByteArray).size = 1 := rfl
          rw [e]; omega
        go_wp2
        go_ret
        refine ⟨?_, hb⟩
        rw [HM.out, HG.out, mtGo_end]
        rfl
end Go.Proofs.Ytacbhbmjhlgflaa
