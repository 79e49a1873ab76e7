/-
  The law FnExactMachineOf, walked: at every argument the law returns true.
-/
import Derived.Test.YtacbhbmjhlgflaaBsM
import Derived.Test.YtacbhbmjhlgflaaVarMM
import Derived.Test.YtacbhbmjhlgflaaLMOfRM
import Derived.Test.YtacbhbmjhlgflaaMarkCM
import Derived.Test.YtacbhbmjhlgflaaMOf2M
import Derived.Deep.RegionHeld3
namespace Go.Proofs.Ytacbhbmjhlgflaa
open Go.RowKit

theorem ofL_small (ns : List Nd) (is : List In) (ds : List Df) (xs : List Nd) (f : Int) (hz : ∀ y ∈ xs, y.s.size ≤ maxLen) : (ofL xs (ofD ns is ds xs f)).length ≤ 4194304 ∧ ∀ y ∈ ofL xs (ofD ns is ds xs f), y.s.size ≤ maxLen := by
  cases h : ofD ns is ds xs f with
  | none => simp [ofL]
  | some x =>
    have hp : xs.length + 2 ≤ 3000 := by
      unfold ofD at h
      split at h
      · have := Option.eq_some_of_isSome (o := (xs[f.toNat]?).filter _) (by rw [h]; rfl)
        rw [Option.filter_eq_some_iff] at h
        have h2 := h.2
        simp only [Bool.and_eq_true, decide_eq_true_eq] at h2
        exact h2.2
      · cases h
    refine ⟨by simp [ofL]; omega, ?_⟩
    intro y hy
    simp only [ofL, List.mem_append, List.mem_singleton] at hy
    rcases hy with (hy | rfl) | rfl
    · exact hz y hy
    · exact Nat.zero_le _
    · exact Nat.zero_le _

set_option maxRecDepth 100000 in
set_option maxHeartbeats 6400000 in
theorem lmachof_any (v1 v2 v3 v : Value) (ns : List Nd) (is : List In) (ds : List Df) (xs : List Nd) (f : Int) (w : World) (R1 : NRow w v1 ns) (R2 : InRow w v2 is) (R3 : DfRow w v3 ds) (R : NRow w v xs) :
    Calls Try.prog 3 #[.agg #[v1, v2, v3], .agg #[v], .int .i64 f] w fun e w' => e = .returned (.bool true) ∧ Below w.heap.size w w' := by
  have hzx := R.sz
  obtain ⟨ao, cap, rfl⟩ := R.small
  obtain ⟨a1, c1, rfl⟩ := R1.small
  obtain ⟨a2, c2, rfl⟩ := R2.small
  obtain ⟨a3, c3, rfl⟩ := R3.small
  obtain ⟨hB0, hk0, hp0⟩ := two_boxes w (Obj.cells #[.slice a1 ns.length c1, .slice a2 is.length c2, .slice a3 ds.length c3] 28) (Obj.cells #[.slice ao xs.length cap] 24)
  go_enter Try.func3, Try.ntmps3
  go_wp2_with fail
  refine (szcode_any _ _ _ ns is ds _ (R1.below hB0) (R2.below hB0) (R3.below hB0)).mono ?_
  rintro e w1 ⟨r, rfl, hr0, hr1, hr2, hb1⟩
  have hk1 := (hb1.block _ (Array.getElem?_eq_some_iff.1 hk0).1).trans hk0
  have hp1 := (hb1.block _ (Array.getElem?_eq_some_iff.1 hp0).1).trans hp0
  have hB1 := hB0.trans (hb1.mono hB0.size)
  clear hB0 hb1 hk0 hp0
  by_cases hr : r < 0
  · go_wp2
    go_ret
    exact ⟨rfl, hB1⟩
  obtain ⟨l1, l2, l3⟩ := hr2 (by omega)
  clear hr2
  have cp1 : w1.cell? ⟨w.heap.size + 1, 0, none⟩ = some (.slice ao xs.length cap) := cell_of_row w1 _ 0 _ _ _ hp1
  go_wp2_with fail
  refine (szpool_gen r (by omega) hr1 _ xs _ (R.below hB1)).mono ?_
  rintro e w2 ⟨r2, rfl, hr20, hr21, hr22, hb2⟩
  have hk2 := (hb2.block _ (Array.getElem?_eq_some_iff.1 hk1).1).trans hk1
  have hp2 := (hb2.block _ (Array.getElem?_eq_some_iff.1 hp1).1).trans hp1
  have hB2 := hB1.trans (hb2.mono hB1.size)
  clear hB1 hb2 hk1 hp1 cp1
  by_cases hr2 : r2 < 0
  · go_wp2
    go_ret
    exact ⟨rfl, hB2⟩
  have l4 := (hr22 (by omega)).1
  clear hr22 hr20 hr21 hr0 hr1
  obtain ⟨hlL', hzL⟩ := ofL_small ns is ds xs f hzx
  have IT := fun (v1 v2 v3 v : Value) (w : World) (R1 : NRow w v1 ns) (R2 : InRow w v2 is) (R3 : DfRow w v3 ds) (R : NRow w v xs) => imachof_any v1 v2 v3 v ns is ds xs f w R1 R2 R3 R
  have ST := fun (v1 v2 v3 v : Value) (w : World) (R1 : NRow w v1 ns) (R2 : InRow w v2 is) (R3 : DfRow w v3 ds) (R : NRow w v xs) => smachof_any v1 v2 v3 v ns is ds xs f w R1 R2 R3 R
  generalize ofL xs (ofD ns is ds xs f) = Q at *
  generalize ofM xs (ofD ns is ds xs f) = M at *
  generalize (ofD ns is ds xs f).isSome = bb at *
  have hlm := nmarked_length 1 Q _ (Nat.le_refl _)
  have lk2 := (Array.getElem?_eq_some_iff.1 hk2).1
  have lp2 := (Array.getElem?_eq_some_iff.1 hp2).1
  go_wp2_with fail
  refine lof_reg8 w.heap.size (w.heap.size + 1) a1 a2 a3 ao c1 c2 c3 cap ns is ds xs Q M bb f w2 _ ST (R1.below hB2) (R2.below hB2) (R3.below hB2) (R.below hB2) l1 l2 l3 l4 ⟨cell_of_row _ _ 0 _ _ _ hk2, cell_of_row _ _ 1 _ _ _ hk2, cell_of_row _ _ 2 _ _ _ hk2, cell_of_row _ _ 0 _ _ _ hp2⟩ lk2 lp2 ?_
  intro u29 u30 u31 u32 u33 u34 u35 u36 u37 vs4 b4 w4 hb4 V4 hd4
  obtain ⟨ao3, cap3, rfl⟩ := own_form V4.2.1
  have hk4 := (hd4.block _ (Array.getElem?_eq_some_iff.1 hk2).1).trans hk2
  have hp4 := (hd4.block _ (Array.getElem?_eq_some_iff.1 hp2).1).trans hp2
  have hB4 := hB2.trans (hd4.mono hB2.size)
  have hsz2 := hB2.size
  have hs24 := hd4.size
  clear hB2 hd4 hk2 hp2 lk2 ST
  generalize w2.heap.size = lo4 at *
  have e0 : w4.cell? ⟨w.heap.size, 0, none⟩ = some (.slice a1 ns.length c1) := cell_of_row w4 _ 0 _ _ _ hk4
  have e1 : w4.cell? ⟨w.heap.size, 0 + 1, none⟩ = some (.slice a2 is.length c2) := cell_of_row w4 _ 1 _ _ _ hk4
  have e2 : w4.cell? ⟨w.heap.size, 0 + 2, none⟩ = some (.slice a3 ds.length c3) := cell_of_row w4 _ 2 _ _ _ hk4
  go_wp2_with fail
  refine (tocode_own _ _ _ ns is ds _ (R1.below hB4) (R2.below hB4) (R3.below hB4) (by omega) (by omega) (by omega)).mono ?_
  rintro e w5 ⟨u1, u2, u3, rfl, o1, o2, o3, hb5⟩
  obtain ⟨b1, d1, rfl⟩ := own_form o1
  obtain ⟨b2, d2, rfl⟩ := own_form o2
  obtain ⟨b3, d3, rfl⟩ := own_form o3
  have hB5 := hB4.trans (hb5.mono hB4.size)
  have hk5 := (hb5.block _ (Array.getElem?_eq_some_iff.1 hk4).1).trans hk4
  have hp5 := (hb5.block _ (Array.getElem?_eq_some_iff.1 hp4).1).trans hp4
  have hlt4 := V4.lt
  replace V4 := V4.below hb5
  have hs5 := hb5.size
  clear e0 e1 e2 hB4 hk4 hp4 hb5
  have hBa : Below w5.heap.size w5 (w5.alloc (Obj.cells #[.slice b1 ns.length d1, .slice b2 is.length d2, .slice b3 ds.length d3] 41)) := (Below.refl _ _).alloc (Nat.le_refl _) _
  have hya := heap_alloc_new w5 (Obj.cells #[.slice b1 ns.length d1, .slice b2 is.length d2, .slice b3 ds.length d3] 41)
  have hsa : (w5.alloc (Obj.cells #[.slice b1 ns.length d1, .slice b2 is.length d2, .slice b3 ds.length d3] 41)).heap.size = w5.heap.size + 1 := by simp
  have lp5 := (Array.getElem?_eq_some_iff.1 hp5).1
  have cp5 : w5.cell? ⟨w.heap.size + 1, 0, none⟩ = some (.slice ao xs.length cap) := cell_of_row w5 _ 0 _ _ _ hp5
  go_wp2_with fail
  clear cp5
  generalize w5.alloc (Obj.cells #[.slice b1 ns.length d1, .slice b2 is.length d2, .slice b3 ds.length d3] 41) = w6 at *
  have q1 := own_below o1 hBa
  have q2 := own_below o2 hBa
  have q3 := own_below o3 hBa
  have hk6 := (hBa.block _ (Array.getElem?_eq_some_iff.1 hk5).1).trans hk5
  have hp6 := (hBa.block _ (Array.getElem?_eq_some_iff.1 hp5).1).trans hp5
  replace V4 := V4.below hBa
  have hB6 := hB5.trans (hBa.mono hB5.size)
  have t1 : ∀ k, (Value.slice b1 ns.length d1).ownBlock = some k → w4.heap.size ≤ k ∧ k < w5.heap.size := fun k hk => o1.lt k hk
  have t2 : ∀ k, (Value.slice b2 is.length d2).ownBlock = some k → w4.heap.size ≤ k ∧ k < w5.heap.size := fun k hk => o2.lt k hk
  have t3 : ∀ k, (Value.slice b3 ds.length d3).ownBlock = some k → w4.heap.size ≤ k ∧ k < w5.heap.size := fun k hk => o3.lt k hk
  have hs6 : w5.heap.size < w6.heap.size := by omega
  clear o1 o2 o3 hBa hB5 hk5 hp5 hsa
  refine (topool_any _ xs _ (R.below hB6) (by omega)).mono ?_
  rintro e w7 ⟨vp, rfl, o4, hb7⟩
  obtain ⟨b7, d7, rfl⟩ := own_form o4
  have hk7 := (hb7.block _ (Array.getElem?_eq_some_iff.1 hk6).1).trans hk6
  have hp7 := (hb7.block _ (Array.getElem?_eq_some_iff.1 hp6).1).trans hp6
  have hy7 := (hb7.block _ (Array.getElem?_eq_some_iff.1 hya).1).trans hya
  have hB7 := hB6.trans (hb7.mono hB6.size)
  replace V4 := V4.below hb7
  replace q1 := own_below q1 hb7
  replace q2 := own_below q2 hb7
  replace q3 := own_below q3 hb7
  have hs7 := hb7.size
  clear hB6 hk6 hp6 hya hb7
  have hBa : Below w7.heap.size w7 (w7.alloc (Obj.cells #[.slice b7 xs.length d7] 33)) := (Below.refl _ _).alloc (Nat.le_refl _) _
  have hza := heap_alloc_new w7 (Obj.cells #[.slice b7 xs.length d7] 33)
  have hsa : (w7.alloc (Obj.cells #[.slice b7 xs.length d7] 33)).heap.size = w7.heap.size + 1 := by simp
  have ly7 := (Array.getElem?_eq_some_iff.1 hy7).1
  have k0 : w7.cell? ⟨w5.heap.size, 0, none⟩ = some (.slice b1 ns.length d1) := cell_of_row w7 _ 0 _ _ _ hy7
  have k1 : w7.cell? ⟨w5.heap.size, 0 + 1, none⟩ = some (.slice b2 is.length d2) := cell_of_row w7 _ 1 _ _ _ hy7
  have k2 : w7.cell? ⟨w5.heap.size, 0 + 2, none⟩ = some (.slice b3 ds.length d3) := cell_of_row w7 _ 2 _ _ _ hy7
  go_wp2_with fail
  clear k0 k1 k2
  generalize w7.alloc (Obj.cells #[.slice b7 xs.length d7] 33) = w8 at *
  have q4 := own_below o4 hBa
  have t4 : ∀ k, (Value.slice b7 xs.length d7).ownBlock = some k → w6.heap.size ≤ k ∧ k < w7.heap.size := fun k hk => o4.lt k hk
  replace q1 := own_below q1 hBa
  replace q2 := own_below q2 hBa
  replace q3 := own_below q3 hBa
  have hk8 := (hBa.block _ (Array.getElem?_eq_some_iff.1 hk7).1).trans hk7
  have hp8 := (hBa.block _ (Array.getElem?_eq_some_iff.1 hp7).1).trans hp7
  have hy8 := (hBa.block _ (Array.getElem?_eq_some_iff.1 hy7).1).trans hy7
  replace V4 := V4.below hBa
  have hB8 := hB7.trans (hBa.mono hB7.size)
  have hs8 : w7.heap.size < w8.heap.size := by omega
  clear o4 hBa hB7 hk7 hp7 hy7 hsa
  refine (IT _ _ _ _ _ (NRow.of_own q1 (by omega) R1.sz) (InRow.of_own q2 (by omega) R2.sz) (DfRow.of_own q3 (by omega) R3.sz) (NRow.of_own q4 (by omega) hzx)).mono ?_
  rintro e w9 ⟨v9, rfl, ho9, hb9⟩
  obtain ⟨ao7, cap7, rfl⟩ := own_form ho9
  have hk9 := (hb9.block _ (Array.getElem?_eq_some_iff.1 hk8).1).trans hk8
  have hp9 := (hb9.block _ (Array.getElem?_eq_some_iff.1 hp8).1).trans hp8
  have hy9 := (hb9.block _ (Array.getElem?_eq_some_iff.1 hy8).1).trans hy8
  have hz9 := (hb9.block _ (Array.getElem?_eq_some_iff.1 hza).1).trans hza
  have hB9 := hB8.trans (hb9.mono hB8.size)
  replace V4 := V4.below hb9
  replace q1 := own_below q1 hb9
  replace q2 := own_below q2 hb9
  replace q3 := own_below q3 hb9
  replace q4 := own_below q4 hb9
  have hs9 := hb9.size
  clear hB8 hk8 hp8 hy8 hza hb9
  go_wp2_with (refine wpList_store_own rfl 35 _ _ rfl w9.heap.size #[.slice ao7 Q.length cap7, .int .i64 M.p, .int .i64 M.s, .int .i64 M.e, .int .i64 M.d, .int .i64 M.t, .int .i64 M.q, .int .i64 M.r] rfl rfl 35 _ (heap_alloc_new _ _) Try.sizeMach rfl (by simp [Value.oneCell']) ?_)
  intro wa hnwa hbwa hswa
  have hdwa : Below w9.heap.size w9 wa := ((Below.refl _ _).alloc (Nat.le_refl _) _).trans hbwa
  have V6 := VarM.new ho9 hdwa hnwa
  have hka := (hdwa.block _ (Array.getElem?_eq_some_iff.1 hk9).1).trans hk9
  have hpa := (hdwa.block _ (Array.getElem?_eq_some_iff.1 hp9).1).trans hp9
  have hya := (hdwa.block _ (Array.getElem?_eq_some_iff.1 hy9).1).trans hy9
  have hza := (hdwa.block _ (Array.getElem?_eq_some_iff.1 hz9).1).trans hz9
  have hBa := hB9.trans (hdwa.mono hB9.size)
  replace V4 := V4.below hdwa
  replace q1 := own_below q1 hdwa
  replace q2 := own_below q2 hdwa
  replace q3 := own_below q3 hdwa
  replace q4 := own_below q4 hdwa
  clear hB9 hk9 hp9 hy9 hz9 ho9 hnwa hbwa hswa hdwa
  generalize w9.heap.size = b6 at *
  generalize wa.heap.size = hi6 at *
  go_wp2_with (first | (refine wpList_load_row rfl 35 _ rfl b6 rfl 35 #[.slice ao7 Q.length cap7, .int .i64 M.p, .int .i64 M.s, .int .i64 M.e, .int .i64 M.d, .int .i64 M.t, .int .i64 M.q, .int .i64 M.r] (0, 0) _ V6.1 Try.underlying35 rfl Try.sizeMach ?_) | (refine wpList_load_row rfl 35 _ rfl b4 rfl 35 #[.slice ao3 Q.length cap3, .int .i64 M.p, .int .i64 M.s, .int .i64 M.e, .int .i64 M.d, .int .i64 M.t, .int .i64 M.q, .int .i64 M.r] (0, 0) _ V4.1 Try.underlying35 rfl Try.sizeMach ?_))
  refine (eqmach_any _ _ Q M _ (V6.row hlL' hzL) (V4.row hlL' hzL)).mono ?_
  rintro e wb ⟨rfl, hbb⟩
  replace V4 := V4.below hbb
  replace V6 := V6.below hbb
  replace q1 := own_below q1 hbb
  replace q2 := own_below q2 hbb
  replace q3 := own_below q3 hbb
  replace q4 := own_below q4 hbb
  have hBb := hBa.trans (hbb.mono hBa.size)
  have hkb := (hbb.block _ (Array.getElem?_eq_some_iff.1 hka).1).trans hka
  have hpb := (hbb.block _ (Array.getElem?_eq_some_iff.1 hpa).1).trans hpa
  have hyb := (hbb.block _ (Array.getElem?_eq_some_iff.1 hya).1).trans hya
  have hzb := (hbb.block _ (Array.getElem?_eq_some_iff.1 hza).1).trans hza
  clear hBa hka hpa hya hza hbb
  have T1 := NRow.of_own q1 (by omega) R1.sz
  have T2 := InRow.of_own q2 (by omega) R2.sz
  have T3 := DfRow.of_own q3 (by omega) R3.sz
  go_wp2_with fail
  refine lof_reg14 w.heap.size w5.heap.size a1 a2 a3 b1 b2 b3 c1 c2 c3 d1 d2 d3 ns is ds wb _ (R1.below hBb) (R2.below hBb) (R3.below hBb) T1 T2 T3 l1 l2 l3 ⟨cell_of_row _ _ 0 _ _ _ hyb, cell_of_row _ _ 1 _ _ _ hyb, cell_of_row _ _ 2 _ _ _ hyb, cell_of_row _ _ 0 _ _ _ hkb, cell_of_row _ _ 1 _ _ _ hkb, cell_of_row _ _ 2 _ _ _ hkb⟩ (Array.getElem?_eq_some_iff.1 hkb).1 (Array.getElem?_eq_some_iff.1 hyb).1 ?_
  intro u58 u59 u60 u61 wc hbc
  replace V4 := V4.below hbc
  replace V6 := V6.below hbc
  replace q1 := own_below q1 hbc
  replace q2 := own_below q2 hbc
  replace q3 := own_below q3 hbc
  replace q4 := own_below q4 hbc
  have hBc := hBb.trans (hbc.mono hBb.size)
  have hkc := (hbc.block _ (Array.getElem?_eq_some_iff.1 hkb).1).trans hkb
  have hpc := (hbc.block _ (Array.getElem?_eq_some_iff.1 hpb).1).trans hpb
  have hyc := (hbc.block _ (Array.getElem?_eq_some_iff.1 hyb).1).trans hyb
  have hzc := (hbc.block _ (Array.getElem?_eq_some_iff.1 hzb).1).trans hzb
  clear hBb hkb hpb hyb hzb hbc T1 T2 T3
  have T4 := NRow.of_own q4 (by omega) hzx
  go_wp2_with fail
  refine lof_reg16 (w.heap.size + 1) w7.heap.size ao b7 cap d7 xs wc _ (R.below hBc) T4 l4 ⟨cell_of_row _ _ 0 _ _ _ hzc, cell_of_row _ _ 0 _ _ _ hpc⟩ (Array.getElem?_eq_some_iff.1 hpc).1 (Array.getElem?_eq_some_iff.1 hzc).1 ?_
  intro u63 u64 u65 u66 wl hbl
  replace V4 := V4.below hbl
  replace V6 := V6.below hbl
  replace q1 := own_below q1 hbl
  replace q2 := own_below q2 hbl
  replace q3 := own_below q3 hbl
  replace q4 := own_below q4 hbl
  have hBl := hBc.trans (hbl.mono hBc.size)
  have hkl := (hbl.block _ (Array.getElem?_eq_some_iff.1 hkc).1).trans hkc
  have hpl := (hbl.block _ (Array.getElem?_eq_some_iff.1 hpc).1).trans hpc
  have hyl := (hbl.block _ (Array.getElem?_eq_some_iff.1 hyc).1).trans hyc
  have hzl := (hbl.block _ (Array.getElem?_eq_some_iff.1 hzc).1).trans hzc
  clear hBc hkc hpc hyc hzc hbl T4
  have k0 : wl.cell? ⟨w5.heap.size, 0, none⟩ = some (.slice b1 ns.length d1) := cell_of_row wl _ 0 _ _ _ hyl
  have k1 : wl.cell? ⟨w5.heap.size, 0 + 1, none⟩ = some (.slice b2 is.length d2) := cell_of_row wl _ 1 _ _ _ hyl
  have k2 : wl.cell? ⟨w5.heap.size, 0 + 2, none⟩ = some (.slice b3 ds.length d3) := cell_of_row wl _ 2 _ _ _ hyl
  go_wp2_with fail
  refine (markcode_any _ _ _ 1 w4.heap.size ns is ds _ q1 q2 q3 (by omega) (by omega) (by omega) (by omega) (by omega)).mono ?_
  rintro e wm ⟨⟨rk, rfl, hrk0, hrk1⟩, wx, wy, gx, gy, gz⟩
  clear k0 k1 k2
  have j4 : ∀ k, w4.heap.size ≤ k ∧ k < w5.heap.size → k ≠ b4 ∧ (k < lo4 ∨ w4.heap.size ≤ k) := fun k hk => ⟨by omega, Or.inr hk.1⟩
  have j6 : ∀ k, w4.heap.size ≤ k ∧ k < w5.heap.size → k ≠ b6 ∧ (k < w8.heap.size ∨ hi6 ≤ k) := fun k hk => ⟨by omega, Or.inl (by omega)⟩
  replace V4 := ((V4.keptBy gx (fun k hk => j4 k (t1 k hk))).keptBy gy (fun k hk => j4 k (t2 k hk))).keptBy gz (fun k hk => j4 k (t3 k hk))
  replace V6 := ((V6.keptBy gx (fun k hk => j6 k (t1 k hk))).keptBy gy (fun k hk => j6 k (t2 k hk))).keptBy gz (fun k hk => j6 k (t3 k hk))
  have hBx := hBl.grown gx hBl.size (fun k hk => by have := t1 k hk; omega)
  have hBy := hBx.grown gy hBx.size (fun k hk => by have := t2 k hk; omega)
  have hBm := hBy.grown gz hBy.size (fun k hk => by have := t3 k hk; omega)
  have nx : ∀ (j : Nat) (o : Option Nat), (j < w4.heap.size ∨ w5.heap.size ≤ j) → (∀ k, o = some k → w4.heap.size ≤ k ∧ k < w5.heap.size) → o ≠ some j := fun j o hj ho e => by have := ho _ e; omega
  have stay : ∀ (j : Nat) (ob : Obj), (j < w4.heap.size ∨ w5.heap.size ≤ j) → wl.heap[j]? = some ob → wm.heap[j]? = some ob := fun j ob hj h => by
    have h1 := (gx.block _ (Array.getElem?_eq_some_iff.1 h).1 (fun e => nx j _ hj t1 e.symm)).trans h
    have h2 := (gy.block _ (Array.getElem?_eq_some_iff.1 h1).1 (fun e => nx j _ hj t2 e.symm)).trans h1
    exact (gz.block _ (Array.getElem?_eq_some_iff.1 h2).1 (fun e => nx j _ hj t3 e.symm)).trans h2
  have hkm := stay _ _ (Or.inl (by omega)) hkl
  have hpm := stay _ _ (Or.inl (by omega)) hpl
  have hzm := stay _ _ (Or.inr (by omega)) hzl
  have n4 : ∀ o : Option Nat, (∀ k, o = some k → w4.heap.size ≤ k ∧ k < w5.heap.size) → (Value.slice b7 xs.length d7).ownBlock = none ∨ (Value.slice b7 xs.length d7).ownBlock ≠ o := fun o ho => by
    cases hv : (Value.slice b7 xs.length d7).ownBlock with
    | none => exact Or.inl rfl
    | some k => right; intro e; have := ho k e.symm; have := t4 k hv; omega
  have p4 := ((q4.kept gx (n4 _ t1)).kept gy (n4 _ t2)).kept gz (n4 _ t3)
  clear hkl hpl hyl hzl hBl hBx hBy gx gy gz q1 q2 q3 q4 nx stay n4
  have kz : wm.cell? ⟨w7.heap.size, 0, none⟩ = some (.slice b7 xs.length d7) := cell_of_row wm _ 0 _ _ _ hzm
  go_wp2_with fail
  refine (markpool_any _ rk w6.heap.size xs _ p4 (by omega) (by omega) (by omega)).mono ?_
  rintro e wn ⟨rfl, hon, gn⟩
  replace V4 := V4.keptBy gn (fun k hk => by have := t4 k hk; omega)
  replace V6 := V6.keptBy gn (fun k hk => by have := t4 k hk; omega)
  have hBn := hBm.grown gn hBm.size (fun k hk => by have := t4 k hk; omega)
  have hkn := (gn.block _ (Array.getElem?_eq_some_iff.1 hkm).1 (fun e => by have := t4 _ e.symm; omega)).trans hkm
  have hpn := (gn.block _ (Array.getElem?_eq_some_iff.1 hpm).1 (fun e => by have := t4 _ e.symm; omega)).trans hpm
  clear hkm hpm hzm hBm gn hon p4 kz
  have hk1 : ¬ rk + 5 * (xs.length : Int) < 0 := by omega
  have e0 : wn.cell? ⟨b6, 0, none⟩ = some (.slice ao7 Q.length cap7) := cell_of_row wn _ 0 _ _ _ V6.1
  have k0 : wn.cell? ⟨b4, 0, none⟩ = some (.slice ao3 Q.length cap3) := cell_of_row wn _ 0 _ _ _ V4.1
  have e1 : wn.cell? ⟨b6, 1, none⟩ = some (.int .i64 M.p) := cell_of_row wn _ 1 _ _ _ V6.1
  have k1 : wn.cell? ⟨b4, 1, none⟩ = some (.int .i64 M.p) := cell_of_row wn _ 1 _ _ _ V4.1
  have e2 : wn.cell? ⟨b6, 2, none⟩ = some (.int .i64 M.s) := cell_of_row wn _ 2 _ _ _ V6.1
  have k2 : wn.cell? ⟨b4, 2, none⟩ = some (.int .i64 M.s) := cell_of_row wn _ 2 _ _ _ V4.1
  have e3 : wn.cell? ⟨b6, 3, none⟩ = some (.int .i64 M.e) := cell_of_row wn _ 3 _ _ _ V6.1
  have k3 : wn.cell? ⟨b4, 3, none⟩ = some (.int .i64 M.e) := cell_of_row wn _ 3 _ _ _ V4.1
  have e4 : wn.cell? ⟨b6, 4, none⟩ = some (.int .i64 M.d) := cell_of_row wn _ 4 _ _ _ V6.1
  have k4 : wn.cell? ⟨b4, 4, none⟩ = some (.int .i64 M.d) := cell_of_row wn _ 4 _ _ _ V4.1
  have e5 : wn.cell? ⟨b6, 5, none⟩ = some (.int .i64 M.t) := cell_of_row wn _ 5 _ _ _ V6.1
  have k5 : wn.cell? ⟨b4, 5, none⟩ = some (.int .i64 M.t) := cell_of_row wn _ 5 _ _ _ V4.1
  have e6 : wn.cell? ⟨b6, 6, none⟩ = some (.int .i64 M.q) := cell_of_row wn _ 6 _ _ _ V6.1
  have k6 : wn.cell? ⟨b4, 6, none⟩ = some (.int .i64 M.q) := cell_of_row wn _ 6 _ _ _ V4.1
  have e7 : wn.cell? ⟨b6, 7, none⟩ = some (.int .i64 M.r) := cell_of_row wn _ 7 _ _ _ V6.1
  have k7 : wn.cell? ⟨b4, 7, none⟩ = some (.int .i64 M.r) := cell_of_row wn _ 7 _ _ _ V4.1
  go_wp2_with fail
  refine (eqmach_any _ _ Q M _ (V6.row hlL' hzL) (V4.row hlL' hzL)).mono ?_
  rintro e wo ⟨rfl, hbo⟩
  clear e0 k0 e1 k1 e2 k2 e3 k3 e4 k4 e5 k5 e6 k6 e7 k7
  replace V4 := V4.below hbo
  replace V6 := V6.below hbo
  have hBo := hBn.trans (hbo.mono hBn.size)
  have hko := (hbo.block _ (Array.getElem?_eq_some_iff.1 hkn).1).trans hkn
  have hpo := (hbo.block _ (Array.getElem?_eq_some_iff.1 hpn).1).trans hpn
  clear hBn hkn hpn hbo
  go_wp2_with (refine wpList_load_row rfl 35 _ rfl b6 rfl 35 #[.slice ao7 Q.length cap7, .int .i64 M.p, .int .i64 M.s, .int .i64 M.e, .int .i64 M.d, .int .i64 M.t, .int .i64 M.q, .int .i64 M.r] (0, 0) _ V6.1 Try.underlying35 rfl Try.sizeMach ?_)
  refine (markmach_any _ 1 w8.heap.size Q M _ V6.2.1 hlL' (by omega) (by omega)).mono ?_
  rintro e wp ⟨rfl, hop, hgp⟩
  replace V4 := V4.kept V6 hgp (Or.inl (by omega))
  have hkp := V6.block hgp hko (by decide)
  have hpp := V6.block hgp hpo (by decide)
  have hBp := below_markM hBo V6 hgp (by omega) hBo.size
  have V6 := V6.marked (ys := nmarked 1 Q Q.length) hgp (by rw [hlm]; exact hop)
  clear hgp hop hko hpo hBo
  have hzM := nmarked_ok 1 Q (by omega) hlL'
  have hk2 : ¬ (1 + 5 * (Q.length : Int)) < 0 := by omega
  go_wp2_with (refine wpList_load_row rfl 35 _ rfl b6 rfl 35 #[.slice ao7 Q.length cap7, .int .i64 M.p, .int .i64 M.s, .int .i64 M.e, .int .i64 M.d, .int .i64 M.t, .int .i64 M.q, .int .i64 M.r] (0, 0) _ V6.1 Try.underlying35 rfl Try.sizeMach ?_)
  refine (heldmach_any _ 1 Q M _ (V6.row (by omega) hzM) hlL' (by omega) (by omega)).mono ?_
  rintro e wq ⟨rfl, hbq⟩
  replace V4 := V4.below hbq
  replace V6 := V6.below hbq
  have hBq := hBp.trans (hbq.mono hBp.size)
  have hkq := (hbq.block _ (Array.getElem?_eq_some_iff.1 hkp).1).trans hkp
  have hpq := (hbq.block _ (Array.getElem?_eq_some_iff.1 hpp).1).trans hpp
  clear hBp hkp hpp hbq
  go_wp2_with fail
  refine lof_reg31 w.heap.size (w.heap.size + 1) a1 a2 a3 ao c1 c2 c3 cap ns is ds xs Q M bb f wq _ IT (R1.below hBq) (R2.below hBq) (R3.below hBq) (R.below hBq) l1 l2 l3 l4 ⟨cell_of_row _ _ 0 _ _ _ hkq, cell_of_row _ _ 1 _ _ _ hkq, cell_of_row _ _ 2 _ _ _ hkq, cell_of_row _ _ 0 _ _ _ hpq⟩ (Array.getElem?_eq_some_iff.1 hkq).1 (Array.getElem?_eq_some_iff.1 hpq).1 ?_
  intro u98 u99 u100 u101 u102 u103 u104 u105 u106 vr b10 wr hbr0 V10 hbr
  obtain ⟨ao10, cap10, rfl⟩ := own_form V10.2.1
  replace V4 := V4.below hbr
  replace V6 := V6.below hbr
  have hBr := hBq.trans (hbr.mono hBq.size)
  clear hBq hkq hpq hbr
  go_wp2_with (first | (refine wpList_load_row rfl 35 _ rfl b10 rfl 35 #[.slice ao10 Q.length cap10, .int .i64 M.p, .int .i64 M.s, .int .i64 M.e, .int .i64 M.d, .int .i64 M.t, .int .i64 M.q, .int .i64 M.r] (0, 0) _ V10.1 Try.underlying35 rfl Try.sizeMach ?_) | (refine wpList_load_row rfl 35 _ rfl b4 rfl 35 #[.slice ao3 Q.length cap3, .int .i64 M.p, .int .i64 M.s, .int .i64 M.e, .int .i64 M.d, .int .i64 M.t, .int .i64 M.q, .int .i64 M.r] (0, 0) _ V4.1 Try.underlying35 rfl Try.sizeMach ?_))
  refine (eqmach_any _ _ Q M _ (V10.row hlL' hzL) (V4.row hlL' hzL)).mono ?_
  rintro e wh ⟨rfl, hbh⟩
  replace V6 := V6.below hbh
  have hBh := hBr.trans (hbh.mono hBr.size)
  clear hBr hbh
  go_wp2_with (refine wpList_load_row rfl 35 _ rfl b6 rfl 35 #[.slice ao7 Q.length cap7, .int .i64 M.p, .int .i64 M.s, .int .i64 M.e, .int .i64 M.d, .int .i64 M.t, .int .i64 M.q, .int .i64 M.r] (0, 0) _ V6.1 Try.underlying35 rfl Try.sizeMach ?_)
  refine (heldmach_any _ 1 Q M _ (V6.row (by omega) hzM) hlL' (by omega) (by omega)).mono ?_
  rintro e wi ⟨rfl, hbi⟩
  have hBi := hBh.trans (hbi.mono hBh.size)
  clear V6 V4 V10 hbi hBh
  go_wp2
  go_ret
  exact ⟨rfl, hBi⟩
end Go.Proofs.Ytacbhbmjhlgflaa
