/-
  Texts that stood by themselves, laid into one.
-/
import Derived.Test.YtakjjmbkjdjdpaaMNewM
import Derived.Test.YtakjjmbkjdjdpaaSList2M
import Derived.Test.YtakjjmbkjdjdpaaSNumM
import Derived.Test.YtakjjmbkjdjdpaaCodeOkM
import Derived.Test.YtakjjmbkjdjdpaaMachRecM
import Derived.Test.YtakjjmbkjdjdpaaKeyM
/-
  The contract of spec.MachineNew. No condition.
-/
namespace Go.Proofs.Ytakjjmbkjdjdpaa
open Go.RowKit

set_option maxRecDepth 100000 in
set_option maxHeartbeats 3200000 in
theorem smachnew_any (v1 v2 v3 : Value) (ns : List Nd) (is : List In) (ds : List Df) (s : ByteArray) (w : World) (R1 : NRow w v1 ns) (R2 : InRow w v2 is) (R3 : DfRow w v3 ds) :
    Calls Try.prog 7 #[.agg #[v1, v2, v3], .string s] w fun e w' => ∃ v', e = .returned (.tuple #[.agg #[v', .int .i64 (newM (newD ns is ds s)).p, .int .i64 (newM (newD ns is ds s)).s, .int .i64 (newM (newD ns is ds s)).e, .int .i64 (newM (newD ns is ds s)).d, .int .i64 (newM (newD ns is ds s)).t, .int .i64 (newM (newD ns is ds s)).q, .int .i64 (newM (newD ns is ds s)).r], .bool (newD ns is ds s).isSome]) ∧ w'.ownsRow w.heap.size 45 5 v' (newL (newD ns is ds s)).length (ncs (newL (newD ns is ds s))) ∧ Below w.heap.size w w' := by
  obtain ⟨a1, c1, rfl⟩ := R1.small
  obtain ⟨a2, c2, rfl⟩ := R2.small
  obtain ⟨a3, c3, rfl⟩ := R3.small
  obtain ⟨hB0, hx0, hy0⟩ := two_boxes w (Obj.cells #[.slice a1 ns.length c1, .slice a2 is.length c2, .slice a3 ds.length c3] 30) (Obj.cells #[.slice none 0 0, .int .i64 0, .int .i64 0, .int .i64 0, .int .i64 0, .int .i64 0, .int .i64 0, .int .i64 0] 34)
  go_enter Try.func7, Try.ntmps7
  go_wp2_with fail
  refine (sdefof_any a1 a2 _ _ _ _ _ ds s _ (R3.below hB0)).mono ?_
  rintro e w1 ⟨rfl, hb1⟩
  have hB1 := hB0.trans (hb1.mono hB0.size)
  have hx1 := (hb1.block _ (Array.getElem?_eq_some_iff.1 hx0).1).trans hx0
  have hy1 := (hb1.block _ (Array.getElem?_eq_some_iff.1 hy0).1).trans hy0
  clear hB0 hx0 hy0 hb1
  go_wp2_with (refine wpList_load_row rfl 30 _ rfl w.heap.size rfl 30 #[.slice a1 ns.length c1, .slice a2 is.length c2, .slice a3 ds.length c3] (0, 0) _ hx1 Try.underlying30 rfl Try.sizeC9 ?_)
  refine (scodeok_any _ _ _ ns is ds _ (R1.below hB1) (R2.below hB1) (R3.below hB1)).mono ?_
  rintro e w2 ⟨rfl, hb2⟩
  have hB2 := hB1.trans (hb2.mono hB1.size)
  have hx2 := (hb2.block _ (Array.getElem?_eq_some_iff.1 hx1).1).trans hx1
  have hy2 := (hb2.block _ (Array.getElem?_eq_some_iff.1 hy1).1).trans hy1
  have c2' : w2.cell? ⟨w.heap.size, 0 + 2, none⟩ = some (.slice a3 ds.length c3) := cell_of_row w2 _ 2 _ _ _ hx2
  clear hB1 hx1 hy1 hb2
  cases hc : codeB ns is ds with
  | false =>
    have HD : Hid (newD ns is ds s = none) := by unfold Hid newD; rw [hc]; rfl
    go_wp2_with (refine wpList_store_own2 rfl 34 _ _ rfl (w.heap.size + 1) #[.slice none 0 0, .int .i64 0, .int .i64 0, .int .i64 0, .int .i64 0, .int .i64 0, .int .i64 0, .int .i64 0] rfl rfl 34 #[.slice none 0 0, .int .i64 0, .int .i64 0, .int .i64 0, .int .i64 0, .int .i64 0, .int .i64 0, .int .i64 0] hy2 Try.sizeMach rfl (by simp [Value.oneCell']) ?_)
    intro wB hvB hbB hsB hkB
    go_wp2
    refine bodyPost_ret (results_row_tmp rfl _ _ (w.heap.size + 1) 34 _ (0, 0) _ rfl hvB Try.underlying34 rfl Try.sizeMach) rfl ⟨.slice none 0 0, by rw [HD.out]; rfl, by rw [HD.out]; exact ⟨rfl, Or.inl ⟨rfl, rfl⟩⟩, hB2.trans (hbB.mono (by omega))⟩
  | true =>
    have hK := dfIdx_lt ds s 0
    have HD0 : Hid (newD ns is ds s = if decide (0 ≤ dfIdx ds s 0) = true then (ds[(dfIdx ds s 0).toNat]?).filter (fun d => d.m == 0) else none) := by unfold Hid newD; rw [hc, Bool.true_and]
    rcases hK with hK | ⟨hK1, hK2⟩
    · have HD : Hid (newD ns is ds s = none) := by unfold Hid; rw [HD0.out, hK]; rfl
      rw [hK]
      go_wp2_with (refine wpList_store_own2 rfl 34 _ _ rfl (w.heap.size + 1) #[.slice none 0 0, .int .i64 0, .int .i64 0, .int .i64 0, .int .i64 0, .int .i64 0, .int .i64 0, .int .i64 0] rfl rfl 34 #[.slice none 0 0, .int .i64 0, .int .i64 0, .int .i64 0, .int .i64 0, .int .i64 0, .int .i64 0, .int .i64 0] hy2 Try.sizeMach rfl (by simp [Value.oneCell']) ?_)
      intro wB hvB hbB hsB hkB
      go_wp2
      refine bodyPost_ret (results_row_tmp rfl _ _ (w.heap.size + 1) 34 _ (0, 0) _ rfl hvB Try.underlying34 rfl Try.sizeMach) rfl ⟨.slice none 0 0, by rw [HD.out]; rfl, by rw [HD.out]; exact ⟨rfl, Or.inl ⟨rfl, rfl⟩⟩, hB2.trans (hbB.mono (by omega))⟩
    · obtain ⟨k, hk⟩ : ∃ k : Nat, dfIdx ds s 0 = k := ⟨(dfIdx ds s 0).toNat, by omega⟩
      rw [hk] at hK1 hK2 HD0 ⊢
      have hlt : k < ds.length := by omega
      obtain ⟨a3', c3', e3, _, _, _, hcell⟩ := R3
      simp only [Value.slice.injEq] at e3
      obtain ⟨e3, _, _⟩ := e3
      subst e3
      obtain ⟨g, o, rfl, hg, hcell⟩ := hcell (by intro e; subst e; simp at hlt)
      obtain ⟨x, hx⟩ : ∃ x, ds[k]? = some x := ⟨ds[k], by simp [hlt]⟩
      obtain ⟨d0, d1, d2⟩ := (hcell k x hx).below hB2 hg
      clear hcell
      have HD1 : Hid (newD ns is ds s = if (x.m == 0) = true then some x else none) := by
        unfold Hid
        rw [HD0.out]
        simp [hx, Option.filter]
      by_cases hm : x.m = 0
      · have HD : Hid (newD ns is ds s = some x) := by unfold Hid; rw [HD1.out]; simp [hm]
        have hg2 : g < w2.heap.size := Nat.lt_of_lt_of_le hg hB2.size
        have hw2 : w.heap.size < w2.heap.size := (Array.getElem?_eq_some_iff.1 hx2).1
        have hw3 : w.heap.size + 1 < w2.heap.size := (Array.getElem?_eq_some_iff.1 hy2).1
        have z0 : w2.cell? ⟨w.heap.size + 1, 0, none⟩ = some (.slice none 0 0) := cell_of_row w2 _ 0 _ _ _ hy2
        have f0 : w2.frozen? ⟨w.heap.size + 1, 0, none⟩ = false := frozen_of_row w2 _ 0 _ _ hy2
        have z1 : w2.cell? ⟨w.heap.size + 1, 1, none⟩ = some (.int .i64 0) := cell_of_row w2 _ 1 _ _ _ hy2
        have f1 : w2.frozen? ⟨w.heap.size + 1, 1, none⟩ = false := frozen_of_row w2 _ 1 _ _ hy2
        have z2 : w2.cell? ⟨w.heap.size + 1, 2, none⟩ = some (.int .i64 0) := cell_of_row w2 _ 2 _ _ _ hy2
        have f2 : w2.frozen? ⟨w.heap.size + 1, 2, none⟩ = false := frozen_of_row w2 _ 2 _ _ hy2
        have z3 : w2.cell? ⟨w.heap.size + 1, 3, none⟩ = some (.int .i64 0) := cell_of_row w2 _ 3 _ _ _ hy2
        have f3 : w2.frozen? ⟨w.heap.size + 1, 3, none⟩ = false := frozen_of_row w2 _ 3 _ _ hy2
        have z4 : w2.cell? ⟨w.heap.size + 1, 4, none⟩ = some (.int .i64 0) := cell_of_row w2 _ 4 _ _ _ hy2
        have f4 : w2.frozen? ⟨w.heap.size + 1, 4, none⟩ = false := frozen_of_row w2 _ 4 _ _ hy2
        have z5 : w2.cell? ⟨w.heap.size + 1, 5, none⟩ = some (.int .i64 0) := cell_of_row w2 _ 5 _ _ _ hy2
        have f5 : w2.frozen? ⟨w.heap.size + 1, 5, none⟩ = false := frozen_of_row w2 _ 5 _ _ hy2
        have z6 : w2.cell? ⟨w.heap.size + 1, 6, none⟩ = some (.int .i64 0) := cell_of_row w2 _ 6 _ _ _ hy2
        have f6 : w2.frozen? ⟨w.heap.size + 1, 6, none⟩ = false := frozen_of_row w2 _ 6 _ _ hy2
        have z7 : w2.cell? ⟨w.heap.size + 1, 7, none⟩ = some (.int .i64 0) := cell_of_row w2 _ 7 _ _ _ hy2
        have f7 : w2.frozen? ⟨w.heap.size + 1, 7, none⟩ = false := frozen_of_row w2 _ 7 _ _ hy2
        go_wp2_with fail
        go_region
        obtain ⟨hvC, hbC, hsC⟩ := eight_set (.slice (some ⟨w2.heap.size, 0, none⟩) 2 2) (.int .i64 x.p) (.int .i64 0) (.int .i64 1) (.int .i64 0) (.int .i64 0) (.int .i64 0) (.int .i64 0) hy2
        generalize ((((((((w2.setCell ⟨w.heap.size + 1, 0, none⟩ (.slice (some ⟨w2.heap.size, 0, none⟩) 2 2)).setCell ⟨w.heap.size + 1, 1, none⟩ (.int .i64 x.p)).setCell ⟨w.heap.size + 1, 2, none⟩ (.int .i64 0)).setCell ⟨w.heap.size + 1, 3, none⟩ (.int .i64 1)).setCell ⟨w.heap.size + 1, 4, none⟩ (.int .i64 0)).setCell ⟨w.heap.size + 1, 5, none⟩ (.int .i64 0)).setCell ⟨w.heap.size + 1, 6, none⟩ (.int .i64 0)).setCell ⟨w.heap.size + 1, 7, none⟩ (.int .i64 0)) = wC at *
        have hAC : (wC.alloc (Obj.cells #[.int .i64 1, .int .i64 0, .string ByteArray.empty, .int .i64 0, .int .i64 0, .int .i64 5, .int .i64 0, .string ByteArray.empty, .int .i64 0, .int .i64 0] 45)).heap[w2.heap.size]? = some (Obj.cells #[.int .i64 1, .int .i64 0, .string ByteArray.empty, .int .i64 0, .int .i64 0, .int .i64 5, .int .i64 0, .string ByteArray.empty, .int .i64 0, .int .i64 0] 45) := by rw [← hsC]; exact heap_alloc_new _ _
        have hBC := hB2.trans (hbC.mono (Nat.le_succ w.heap.size))
        have hBE : Below w.heap.size w ((wC.alloc (Obj.cells #[.int .i64 1, .int .i64 0, .string ByteArray.empty, .int .i64 0, .int .i64 0, .int .i64 5, .int .i64 0, .string ByteArray.empty, .int .i64 0, .int .i64 0] 45)).alloc (Obj.cells #[.slice (some ⟨w2.heap.size, 0, none⟩) 2 2] 26)).drew := ((hBC.alloc hBC.size _).alloc (by have := hBC.size; simp; omega) _).drew
        have hvE : ((wC.alloc (Obj.cells #[.int .i64 1, .int .i64 0, .string ByteArray.empty, .int .i64 0, .int .i64 0, .int .i64 5, .int .i64 0, .string ByteArray.empty, .int .i64 0, .int .i64 0] 45)).alloc (Obj.cells #[.slice (some ⟨w2.heap.size, 0, none⟩) 2 2] 26)).drew.heap[w.heap.size + 1]? = _ := (heap_alloc_old _ _ (by simp; omega)).trans ((heap_alloc_old _ _ (by omega)).trans hvC)
        have hAE : ((wC.alloc (Obj.cells #[.int .i64 1, .int .i64 0, .string ByteArray.empty, .int .i64 0, .int .i64 0, .int .i64 5, .int .i64 0, .string ByteArray.empty, .int .i64 0, .int .i64 0] 45)).alloc (Obj.cells #[.slice (some ⟨w2.heap.size, 0, none⟩) 2 2] 26)).drew.heap[w2.heap.size]? = _ := (heap_alloc_old _ _ (by simp; omega)).trans hAC
        go_wp2
        refine bodyPost_ret (results_row_tmp rfl _ _ (w.heap.size + 1) 34 _ (0, 0) _ rfl hvE Try.underlying34 rfl Try.sizeMach) rfl ⟨.slice (some ⟨w2.heap.size, 0, none⟩) 2 2, by rw [HD.out]; rfl, ?_, hBE⟩
        rw [HD.out]
        exact ⟨rfl, Or.inr ⟨w2.heap.size, 2, _, rfl, by omega, hAE, Nat.le_refl _, by unfold maxLen; omega, rfl, rfl⟩⟩
      · have HD : Hid (newD ns is ds s = none) := by unfold Hid; rw [HD1.out]; simp [hm]
        have hmb : (x.m != 0) = true := by simp [hm]
        clear hx
        go_wp2_with (refine wpList_store_own2 rfl 34 _ _ rfl (w.heap.size + 1) #[.slice none 0 0, .int .i64 0, .int .i64 0, .int .i64 0, .int .i64 0, .int .i64 0, .int .i64 0, .int .i64 0] rfl rfl 34 #[.slice none 0 0, .int .i64 0, .int .i64 0, .int .i64 0, .int .i64 0, .int .i64 0, .int .i64 0, .int .i64 0] hy2 Try.sizeMach rfl (by simp [Value.oneCell']) ?_)
        intro wB hvB hbB hsB hkB
        go_wp2
        refine bodyPost_ret (results_row_tmp rfl _ _ (w.heap.size + 1) 34 _ (0, 0) _ rfl hvB Try.underlying34 rfl Try.sizeMach) rfl ⟨.slice none 0 0, by rw [HD.out]; rfl, by rw [HD.out]; exact ⟨rfl, Or.inl ⟨rfl, rfl⟩⟩, hB2.trans (hbB.mono (by omega))⟩
end Go.Proofs.Ytakjjmbkjdjdpaa

/-
  Contracts of impl's (*registers).add, addList (of no value) and begin (of no value). No condition but bounds.
-/
namespace Go.Proofs.Ytakjjmbkjdjdpaa
open Go.RowKit

set_option maxRecDepth 100000 in
set_option maxHeartbeats 1600000 in
theorem radd_any (b base : Nat) (ao : Option Addr) (cap : Nat) (xs : List Nd) (x : Nd) (p s e d : Int) (w : World) (hb : w.heap[b]? = some (.cells #[.slice ao xs.length cap, .int .i64 p, .int .i64 s, .int .i64 e, .int .i64 d] 65 (0, 0))) (ho : w.ownsRow base 45 5 (.slice ao xs.length cap) xs.length (ncs xs))
    (hm : xs.length ≤ 2097152) (hbb : base ≤ b) :
    Calls Try.prog 51 #[.pointer (some ⟨b, 0, none⟩), .agg #[.int .i64 x.k, .int .i64 x.n, .string x.s, .int .i64 x.a, .int .i64 x.b]] w fun en w' =>
      ∃ v', en = .returned (.int .i64 xs.length) ∧ w'.heap[b]? = some (.cells #[v', .int .i64 p, .int .i64 s, .int .i64 e, .int .i64 d] 65 (0, 0)) ∧ w'.ownsRow base 45 5 v' (xs ++ [x]).length (ncs (xs ++ [x])) ∧ Below base w w' := by
  obtain ⟨i0, hi, hz0, hz1, hz2⟩ := info_parts Try.infoN
  have hlt : b < w.heap.size := (Array.getElem?_eq_some_iff.1 hb).1
  have hcb : w.cell? ⟨b, 0, none⟩ = some (.slice ao xs.length cap) := by rw [cell_of_row w b 0 _ _ _ hb]; rfl
  have hne : b ≠ w.heap.size := by omega
  go_enter Try.func51, Try.ntmps51
  go_wp2_with fail
  go_region_law (refine step_append_lies _ rfl _ _ 24 rfl base 45 i0 _ 5 48 Try.underlying24 hi hz0 hz1 hz2 rfl (by decide) _ _ _ rfl ((ho.alloc _).alloc _) ⟨w.heap.size + 1, 0, none⟩ 1 1 (ncs [x]) rfl rfl (World.news_of_block (cs := #[.int .i64 x.k, .int .i64 x.n, .string x.s, .int .i64 x.a, .int .i64 x.b]) (t := 45) (fr := (0, 0)) (heap_alloc2_new w _ _)) (ncs_one _) (by omega) (by unfold maxLen; omega) (by omega) (by simp; omega) (w.heap.size + 2) (by simp) ?_; intro g capg w1 hown hgrow hat hgl; have hb1 : w1.heap[b]? = some (.cells #[.slice ao xs.length cap, .int .i64 p, .int .i64 s, .int .i64 e, .int .i64 d] 65 (0, 0)) := (hgrow.block b (by simp; omega) (fun e => own_ne ho hb (by decide) e.symm)).trans ((heap_alloc_old _ _ (by simp; omega)).trans ((heap_alloc_old _ _ hlt).trans hb)); have kb1 : w1.cell? ⟨b, 0, none⟩ = some (.slice ao xs.length cap) := cell_of_row w1 b 0 _ _ _ hb1; have fb1 : w1.frozen? ⟨b, 0, none⟩ = false := frozen_of_row w1 b 0 _ _ hb1)
  all_goals
    have hown2 : w1.ownsRow base 45 5 (.slice (some ⟨g, 0, none⟩) (xs.length + 1) capg) (xs ++ [x]).length (ncs (xs ++ [x])) := by
      rw [ncs_append, List.length_append]
      exact hown
    have hs0 : base ≤ w.heap.size := by omega
    have hB1 : Below base w w1 := (((Below.refl base w).alloc hs0 _).drew.alloc (by simp; omega) _).grown hgrow (by simp; omega) (fun k hk => (ho.lt k hk).1)
    have hB2 := hB1.setCell (p := ⟨b, 0, none⟩) hbb (.slice (some ⟨g, 0, none⟩) (xs.length + 1) capg)
    have ho2 := ownsRow_setCell_other hown2 (a := ⟨b, 0, none⟩) (own_ne hown2 hb1 (by decide)) (.slice (some ⟨g, 0, none⟩) (xs.length + 1) capg)
    have hb2 := heap_setCell_same w1 b 0 _ _ (.slice (some ⟨g, 0, none⟩) (xs.length + 1) capg) hb1
    clear hown hgrow hat hcb hb
    go_wp2
    go_ret
    exact ⟨_, by simp, hb2, ho2, hB2⟩

theorem own_newsN {w : World} {base g cap : Nat} {xs : List Nd} (h : w.ownsRow base 45 5 (.slice (some ⟨g, 0, none⟩) xs.length cap) xs.length (ncs xs)) : ∀ (j : Nat) u, (ncs xs)[j]? = some u → w.cell? ((⟨g, 0, none⟩ : Addr).add j) = some u := by
  intro j u hu
  have hj := (List.getElem?_eq_some_iff.1 hu).1
  rw [ncs_length] at hj
  have := h.cellAt j (by omega)
  have hadd : (⟨g, 0, none⟩ : Addr).add j = ⟨g, j, none⟩ := by unfold Addr.add; split <;> simp_all
  rw [hadd, this]
  exact hu

set_option maxRecDepth 100000 in
set_option maxHeartbeats 1600000 in
theorem raddnil_any (b base : Nat) (ao : Option Addr) (cap : Nat) (xs : List Nd) (p s e d : Int) (w : World) (hb : w.heap[b]? = some (.cells #[.slice ao xs.length cap, .int .i64 p, .int .i64 s, .int .i64 e, .int .i64 d] 65 (0, 0))) (ho : w.ownsRow base 45 5 (.slice ao xs.length cap) xs.length (ncs xs))
    (hm : xs.length ≤ 1000000) (hbb : base ≤ b) :
    Calls Try.prog 52 #[.pointer (some ⟨b, 0, none⟩), .slice none 0 0] w fun en w' =>
      ∃ v', en = .returned (.int .i64 xs.length) ∧ w'.heap[b]? = some (.cells #[v', .int .i64 p, .int .i64 s, .int .i64 e, .int .i64 d] 65 (0, 0)) ∧ w'.ownsRow base 45 5 v' (xs ++ [nilN]).length (ncs (xs ++ [nilN])) ∧ Below base w w' := by
  obtain ⟨i0, hi, hz0, hz1, hz2⟩ := info_parts Try.infoN
  have hlt : b < w.heap.size := (Array.getElem?_eq_some_iff.1 hb).1
  have hcb : w.cell? ⟨b, 0, none⟩ = some (.slice ao xs.length cap) := by rw [cell_of_row w b 0 _ _ _ hb]; rfl
  have hL : ∀ w : World, IRow w (.slice none 0 0) [] := fun _ => ⟨none, 0, rfl, by simp, by simp, fun h => absurd rfl h⟩
  have hmore : more [] xs.length 0 = [nilN] := rfl
  go_enter Try.func52, Try.ntmps52
  go_wp2_with fail
  go_region_law (first
    | (refine step_append_lies _ rfl _ _ 24 rfl base 45 i0 _ 5 48 Try.underlying24 hi hz0 hz1 hz2 rfl (by decide) _ _ _ rfl hox ⟨g2, 0, none⟩ 1 c2 (ncs [nilN]) rfl rfl hnews (ncs_one _) (by omega) (by unfold maxLen; omega) (by omega) (by omega) w2.heap.size rfl ?_
       intro g capg w1 hown hgrow hat hgl
       have hb1 : w1.heap[b]? = some (.cells #[.slice ao xs.length cap, .int .i64 p, .int .i64 s, .int .i64 e, .int .i64 d] 65 (0, 0)) := (hgrow.block b (by omega) (fun e => own_ne ho hb (by decide) e.symm)).trans hb2
       have kb1 : w1.cell? ⟨b, 0, none⟩ = some (.slice ao xs.length cap) := cell_of_row w1 b 0 _ _ _ hb1
       have fb1 : w1.frozen? ⟨b, 0, none⟩ = false := frozen_of_row w1 b 0 _ _ hb1)
    | (go_simp; go_at_call 65; refine (listnodes_any xs.length _ [] _ (hL _) (by omega) (by simp)).mono ?_
       rintro e2 w2 ⟨v2, rfl, ho2, hbl⟩
       have hd2 : Below w.heap.size w w2 := (by first | exact (Below.refl _ _).drew.trans hbl | exact hbl)
       rw [hmore] at ho2
       obtain ⟨g2, c2, rfl, _, _⟩ := ho2.form (by simp)
       have hnews := own_newsN ho2
       have hb2 := (hd2.block b hlt).trans hb
       have hcb2 : w2.cell? ⟨b, 0, none⟩ = some (.slice ao xs.length cap) := by rw [cell_of_row w2 b 0 _ _ _ hb2]; rfl
       have hox := own_below ho hd2
       have hs2 := hd2.size))
  all_goals
    have hown2 : w1.ownsRow base 45 5 (.slice (some ⟨g, 0, none⟩) (xs.length + 1) capg) (xs ++ [nilN]).length (ncs (xs ++ [nilN])) := by
      rw [ncs_append, List.length_append]
      exact hown
    have hs0 : base ≤ w.heap.size := by omega
    have hB1 : Below base w w1 := ((Below.refl base w).trans (hd2.mono hs0)).grown hgrow (by omega) (fun k hk => (ho.lt k hk).1)
    have hB2 := hB1.setCell (p := ⟨b, 0, none⟩) hbb (.slice (some ⟨g, 0, none⟩) (xs.length + 1) capg)
    have ho3 := ownsRow_setCell_other hown2 (a := ⟨b, 0, none⟩) (own_ne hown2 hb1 (by decide)) (.slice (some ⟨g, 0, none⟩) (xs.length + 1) capg)
    have hb3 := heap_setCell_same w1 b 0 _ _ (.slice (some ⟨g, 0, none⟩) (xs.length + 1) capg) hb1
    clear hown hgrow hat hcb hb hcb2
    go_wp2
    go_ret
    exact ⟨_, by simp, hb3, ho3, hB2⟩

set_option maxRecDepth 100000 in
set_option maxHeartbeats 800000 in
theorem rbegin_any (b base : Nat) (ao : Option Addr) (cap : Nat) (xs : List Nd) (p s e d known : Int) (w : World) (hb : w.heap[b]? = some (.cells #[.slice ao xs.length cap, .int .i64 p, .int .i64 s, .int .i64 e, .int .i64 d] 65 (0, 0))) (ho : w.ownsRow base 45 5 (.slice ao xs.length cap) xs.length (ncs xs))
    (hm : xs.length ≤ 1000000) (hbb : base ≤ b) :
    Calls Try.prog 32 #[.pointer (some ⟨b, 0, none⟩), .slice none 0 0, .int .i64 known] w fun en w' =>
      ∃ v', en = .returned (.tuple #[]) ∧ w'.heap[b]? = some (.cells #[v', .int .i64 p, .int .i64 s, .int .i64 (xs.length + 1 : Nat), .int .i64 d] 65 (0, 0)) ∧ w'.ownsRow base 45 5 v' (xs ++ [nilN] ++ [(⟨5, 0, ByteArray.empty, xs.length, known⟩ : Nd)]).length (ncs (xs ++ [nilN] ++ [(⟨5, 0, ByteArray.empty, xs.length, known⟩ : Nd)])) ∧ Below base w w' := by
  go_enter Try.func32, Try.ntmps32
  go_wp2_with fail
  refine (raddnil_any b base ao cap xs p s e d w hb ho hm hbb).mono ?_
  rintro en w1 ⟨v1, rfl, hb1, ho1, bel1⟩
  obtain ⟨a1, k1, rfl⟩ := own_form ho1
  go_wp2_with fail
  refine (radd_any b base a1 k1 (xs ++ [nilN]) ⟨5, 0, ByteArray.empty, xs.length, known⟩ p s e d w1 hb1 ho1 (by simp; omega) hbb).mono ?_
  rintro en w2 ⟨v2, rfl, hb2, ho2, bel2⟩
  have c3 : w2.cell? ⟨b, 3, none⟩ = some (.int .i64 e) := cell_of_row w2 _ 3 _ _ _ hb2
  have f3 : w2.frozen? ⟨b, 3, none⟩ = false := frozen_of_row w2 _ 3 _ _ hb2
  have hlt2 := (Array.getElem?_eq_some_iff.1 hb2).1
  have hb3 := heap_setCell_same w2 b 3 _ _ (.int .i64 (xs.length + 1 : Nat)) hb2
  have ho3 := ownsRow_setCell_other ho2 (a := ⟨b, 3, none⟩) (own_ne ho2 hb2 (by decide)) (.int .i64 (xs.length + 1 : Nat))
  have hB3 := (bel1.trans bel2).setCell (p := ⟨b, 3, none⟩) hbb (.int .i64 (xs.length + 1 : Nat))
  have e1 : ((xs ++ [nilN]).length : Int) = ((xs.length + 1 : Nat) : Int) := by simp
  rw [e1]
  clear e1
  go_wp2
  go_end0
  exact ⟨v2, rfl, hb3, ho3, hB3⟩
end Go.Proofs.Ytakjjmbkjdjdpaa

/-
  What MachineOf answers, and contracts of impl's takes, begins. No condition.
-/
namespace Go.Proofs.Ytakjjmbkjdjdpaa
open Go.RowKit

/-- The function that a machine begins with, if it is one. -/
def ofD (ns : List Nd) (is : List In) (ds : List Df) (xs : List Nd) (f : Int) : Option Nd :=
  if codeB ns is ds && poolB xs && hasI xs f then (xs[f.toNat]?).filter (fun x => decide (x.k = 6) && decide (x.n % 8 = 0) && decide (x.n / 8 < is.length) && decide (xs.length + 2 ≤ 3000)) else none
def ofL (xs : List Nd) : Option Nd → List Nd
  | none => []
  | some x => xs ++ [nilN] ++ [⟨5, 0, ByteArray.empty, xs.length, x.a⟩]
def ofM (xs : List Nd) : Option Nd → Mc
  | none => ⟨0, 0, 0, 0, 0, 0, 0⟩
  | some x => ⟨x.n / 8, xs.length, (xs.length + 1 : Nat), xs.length, 0, 0, 0⟩

set_option maxHeartbeats 400000 in
theorem takes_any (x : Nd) (w : World) (h0 : 0 ≤ x.n) (h1 : x.n ≤ 1000000000) : Calls Try.prog 28 #[.agg #[.int .i64 x.k, .int .i64 x.n, .string x.s, .int .i64 x.a, .int .i64 x.b]] w fun e w' => e = .returned (.int .i64 (x.n % 8)) ∧ Below w.heap.size w w' := by
  go_enter Try.func28, Try.ntmps28
  go_wp2
  go_ret
  exact ⟨rfl, (Below.refl _ _).alloc (Nat.le_refl _) _⟩
set_option maxHeartbeats 400000 in
theorem begins_any (x : Nd) (w : World) (h0 : 0 ≤ x.n) (h1 : x.n ≤ 1000000000) : Calls Try.prog 30 #[.agg #[.int .i64 x.k, .int .i64 x.n, .string x.s, .int .i64 x.a, .int .i64 x.b]] w fun e w' => e = .returned (.int .i64 (x.n / 8)) ∧ Below w.heap.size w w' := by
  go_enter Try.func30, Try.ntmps30
  go_wp2
  go_ret
  exact ⟨rfl, (Below.refl _ _).alloc (Nat.le_refl _) _⟩
theorem three_boxes (w : World) (A B C : Obj) : Below w.heap.size w (((w.alloc A).alloc B).alloc C) ∧ (((w.alloc A).alloc B).alloc C).heap[w.heap.size]? = some A ∧ (((w.alloc A).alloc B).alloc C).heap[w.heap.size + 1]? = some B ∧ (((w.alloc A).alloc B).alloc C).heap[w.heap.size + 1 + 1]? = some C :=
  ⟨(((Below.refl _ _).alloc (Nat.le_refl _) _).alloc (by simp) _).alloc (by simp; omega) _, (heap_alloc_old _ _ (by simp; omega)).trans ((heap_alloc_old _ _ (by simp)).trans (heap_alloc_new _ _)), (heap_alloc_old _ _ (by simp)).trans (heap_alloc2_new _ _ _), heap_alloc3_new _ _ _ _⟩
theorem own_stored {w wB : World} {base g k n : Nat} {t : TypeId} {v : Value} {xs : List Value} (ho : w.ownsRow base t k v n xs) (hk : ∀ j, j ≠ g → wB.heap[j]? = w.heap[j]?) (hne : v.ownBlock ≠ some g) : wB.ownsRow base t k v n xs := by
  obtain ⟨h1, h2⟩ := ho
  rcases h2 with ⟨rfl, h0⟩ | ⟨g', cap, cur, rfl, hb, hg, r⟩
  · exact ⟨h1, Or.inl ⟨rfl, h0⟩⟩
  · exact ⟨h1, Or.inr ⟨g', cap, cur, rfl, hb, (hk g' (by intro e; exact hne (by rw [e]; rfl))).trans hg, r⟩⟩
end Go.Proofs.Ytakjjmbkjdjdpaa
