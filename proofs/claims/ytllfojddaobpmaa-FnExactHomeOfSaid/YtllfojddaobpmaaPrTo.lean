/-
  A process made of the law's own: toProc. No condition.
-/
import Derived.Test.YtllfojddaobpmaaPr
namespace Go.Proofs.Ytllfojddaobpmaa
open Go.RowKit

set_option maxRecDepth 100000 in
set_option maxHeartbeats 6400000 in
theorem toproc_any (i : Int) (v vb vo : Value) (xs : List Nd) (m : Mc) (bx ox : List ByteArray) (w : World) (R : NRow w v xs) (Rb : StRow w vb bx) (Ro : StRow w vo ox) (hm : xs.length ≤ 2097152) (hmb : bx.length ≤ 2097152) (hmo : ox.length ≤ 2097152) :
    Calls Try.prog 74 #[.agg #[.int .i64 i, v, .int .i64 m.p, .int .i64 m.s, .int .i64 m.e, .int .i64 m.d, .int .i64 m.t, .int .i64 m.q, .int .i64 m.r, vb, vo]] w fun e w' => ∃ v1 v2 v3, e = .returned (.agg #[.int .i64 i, v1, .int .i64 m.p, .int .i64 m.s, .int .i64 m.e, .int .i64 m.d, .int .i64 m.t, .int .i64 m.q, .int .i64 m.r, v2, v3]) ∧ w'.ownsRow w.heap.size 169 5 v1 xs.length (ncs xs) ∧ w'.ownsRow w.heap.size 9 1 v2 bx.length (stv bx) ∧ w'.ownsRow w.heap.size 9 1 v3 ox.length (stv ox) ∧ (∀ g, v3.ownBlock = some g → v2.ownBlock ≠ some g) ∧ Below w.heap.size w w' := by
  obtain ⟨ao, cap, rfl⟩ : ∃ ao cap, v = .slice ao xs.length cap := by obtain ⟨ao, cap, rfl, _⟩ := R; exact ⟨ao, cap, rfl⟩
  obtain ⟨ab, cb, rfl⟩ := Rb.small
  obtain ⟨ac, cc, rfl⟩ := Ro.small
  have hB : Below w.heap.size w (((w.alloc (Obj.cells #[.int .i64 i, .slice ao xs.length cap, .int .i64 m.p, .int .i64 m.s, .int .i64 m.e, .int .i64 m.d, .int .i64 m.t, .int .i64 m.q, .int .i64 m.r, .slice ab bx.length cb, .slice ac ox.length cc] 97)).alloc (Obj.cells #[.int .i64 0, .slice none 0 0, .int .i64 0, .int .i64 0, .int .i64 0, .int .i64 0, .int .i64 0, .int .i64 0, .int .i64 0, .slice none 0 0, .slice none 0 0] 72)).alloc (Obj.cells #[.int .i64 0, .slice none 0 0, .int .i64 0, .int .i64 0, .int .i64 0, .int .i64 0, .int .i64 0, .int .i64 0, .int .i64 0, .slice none 0 0, .slice none 0 0] 72)) := (((Below.refl _ _).alloc (Nat.le_refl _) _).alloc (by simp) _).alloc (by simp; omega) _
  have hx : (((w.alloc (Obj.cells #[.int .i64 i, .slice ao xs.length cap, .int .i64 m.p, .int .i64 m.s, .int .i64 m.e, .int .i64 m.d, .int .i64 m.t, .int .i64 m.q, .int .i64 m.r, .slice ab bx.length cb, .slice ac ox.length cc] 97)).alloc (Obj.cells #[.int .i64 0, .slice none 0 0, .int .i64 0, .int .i64 0, .int .i64 0, .int .i64 0, .int .i64 0, .int .i64 0, .int .i64 0, .slice none 0 0, .slice none 0 0] 72)).alloc (Obj.cells #[.int .i64 0, .slice none 0 0, .int .i64 0, .int .i64 0, .int .i64 0, .int .i64 0, .int .i64 0, .int .i64 0, .int .i64 0, .slice none 0 0, .slice none 0 0] 72)).heap[w.heap.size]? = some (Obj.cells #[.int .i64 i, .slice ao xs.length cap, .int .i64 m.p, .int .i64 m.s, .int .i64 m.e, .int .i64 m.d, .int .i64 m.t, .int .i64 m.q, .int .i64 m.r, .slice ab bx.length cb, .slice ac ox.length cc] 97) := (heap_alloc_old _ _ (by simp; omega)).trans ((heap_alloc_old _ _ (by simp)).trans (heap_alloc_new _ _))
  have hy : (((w.alloc (Obj.cells #[.int .i64 i, .slice ao xs.length cap, .int .i64 m.p, .int .i64 m.s, .int .i64 m.e, .int .i64 m.d, .int .i64 m.t, .int .i64 m.q, .int .i64 m.r, .slice ab bx.length cb, .slice ac ox.length cc] 97)).alloc (Obj.cells #[.int .i64 0, .slice none 0 0, .int .i64 0, .int .i64 0, .int .i64 0, .int .i64 0, .int .i64 0, .int .i64 0, .int .i64 0, .slice none 0 0, .slice none 0 0] 72)).alloc (Obj.cells #[.int .i64 0, .slice none 0 0, .int .i64 0, .int .i64 0, .int .i64 0, .int .i64 0, .int .i64 0, .int .i64 0, .int .i64 0, .slice none 0 0, .slice none 0 0] 72)).heap[w.heap.size + 1]? = some (Obj.cells #[.int .i64 0, .slice none 0 0, .int .i64 0, .int .i64 0, .int .i64 0, .int .i64 0, .int .i64 0, .int .i64 0, .int .i64 0, .slice none 0 0, .slice none 0 0] 72) := (heap_alloc_old _ _ (by simp)).trans (heap_alloc2_new _ _ _)
  have hv : (((w.alloc (Obj.cells #[.int .i64 i, .slice ao xs.length cap, .int .i64 m.p, .int .i64 m.s, .int .i64 m.e, .int .i64 m.d, .int .i64 m.t, .int .i64 m.q, .int .i64 m.r, .slice ab bx.length cb, .slice ac ox.length cc] 97)).alloc (Obj.cells #[.int .i64 0, .slice none 0 0, .int .i64 0, .int .i64 0, .int .i64 0, .int .i64 0, .int .i64 0, .int .i64 0, .int .i64 0, .slice none 0 0, .slice none 0 0] 72)).alloc (Obj.cells #[.int .i64 0, .slice none 0 0, .int .i64 0, .int .i64 0, .int .i64 0, .int .i64 0, .int .i64 0, .int .i64 0, .int .i64 0, .slice none 0 0, .slice none 0 0] 72)).heap[w.heap.size + 2]? = some (Obj.cells #[.int .i64 0, .slice none 0 0, .int .i64 0, .int .i64 0, .int .i64 0, .int .i64 0, .int .i64 0, .int .i64 0, .int .i64 0, .slice none 0 0, .slice none 0 0] 72) := by
    have h := heap_alloc_new ((w.alloc (Obj.cells #[.int .i64 i, .slice ao xs.length cap, .int .i64 m.p, .int .i64 m.s, .int .i64 m.e, .int .i64 m.d, .int .i64 m.t, .int .i64 m.q, .int .i64 m.r, .slice ab bx.length cb, .slice ac ox.length cc] 97)).alloc (Obj.cells #[.int .i64 0, .slice none 0 0, .int .i64 0, .int .i64 0, .int .i64 0, .int .i64 0, .int .i64 0, .int .i64 0, .int .i64 0, .slice none 0 0, .slice none 0 0] 72)) (Obj.cells #[.int .i64 0, .slice none 0 0, .int .i64 0, .int .i64 0, .int .i64 0, .int .i64 0, .int .i64 0, .int .i64 0, .int .i64 0, .slice none 0 0, .slice none 0 0] 72)
    simpa using h
  go_enter Try.func74, Try.ntmps74
  go_wp2_with (refine wpList_store_at rfl 3 _ _ rfl (w.heap.size + 2) 0 (.int .i64 i) #[.int .i64 i] rfl rfl rfl rfl 72 #[.int .i64 0, .slice none 0 0, .int .i64 0, .int .i64 0, .int .i64 0, .int .i64 0, .int .i64 0, .int .i64 0, .int .i64 0, .slice none 0 0, .slice none 0 0] #[.int .i64 i, .slice none 0 0, .int .i64 0, .int .i64 0, .int .i64 0, .int .i64 0, .int .i64 0, .int .i64 0, .int .i64 0, .slice none 0 0, .slice none 0 0] hv (by simp) (by kernel_rfl) rfl ?_)
  intro u0 hn0 hbl0 hsz0 hoth0
  replace hsz0 : Hid (u0.heap.size = w.heap.size + 3) := hsz0.trans (by simp)
  replace hx := (hoth0 w.heap.size (by omega)).trans hx
  replace hy := (hoth0 (w.heap.size + 1) (by omega)).trans hy
  replace hB := hB.trans (hbl0.mono (by omega))
  replace hv := hn0
  clear hn0 hbl0 hoth0
  go_wp2_with (refine wpList_load_sub rfl 95 _ rfl w.heap.size 1 rfl _ 97 #[.slice ao xs.length cap, .int .i64 m.p, .int .i64 m.s, .int .i64 m.e, .int .i64 m.d, .int .i64 m.t, .int .i64 m.q, .int .i64 m.r] _ hx rfl Try.underlying95 rfl Try.sizeLMach ?_)
  refine (tomach_any _ xs m _ (R.below hB) hm).mono ?_
  rintro e w1 ⟨v1, rfl, ho1, hb⟩
  obtain ⟨ao1, cap1, rfl⟩ := own_form ho1
  rw [hsz0.out] at ho1
  have hs1 : w.heap.size + 3 ≤ w1.heap.size := hsz0.out ▸ hb.size
  replace hx := (hb.block _ (Array.getElem?_eq_some_iff.1 hx).1).trans hx
  replace hy := (hb.block _ (Array.getElem?_eq_some_iff.1 hy).1).trans hy
  replace hv := (hb.block _ (Array.getElem?_eq_some_iff.1 hv).1).trans hv
  replace hB := hB.trans (hb.mono hB.size)
  clear hb
  go_wp2_with (refine wpList_store_sub rfl 69 _ _ rfl (w.heap.size + 2) 1 #[.slice ao1 xs.length cap1, .int .i64 m.p, .int .i64 m.s, .int .i64 m.e, .int .i64 m.d, .int .i64 m.t, .int .i64 m.q, .int .i64 m.r] rfl rfl 72 #[.int .i64 i, .slice none 0 0, .int .i64 0, .int .i64 0, .int .i64 0, .int .i64 0, .int .i64 0, .int .i64 0, .int .i64 0, .slice none 0 0, .slice none 0 0] #[.int .i64 i, .slice ao1 xs.length cap1, .int .i64 m.p, .int .i64 m.s, .int .i64 m.e, .int .i64 m.d, .int .i64 m.t, .int .i64 m.q, .int .i64 m.r, .slice none 0 0, .slice none 0 0] hv (by simp) Try.sizeMach (by simp [Value.oneCell']) rfl ?_)
  intro u1 hn1 hbl1 hsz1 hoth1
  have hs1' : w.heap.size + 3 ≤ u1.heap.size := by omega
  clear hsz1 hsz0
  replace hx := (hoth1 w.heap.size (by omega)).trans hx
  replace hy := (hoth1 (w.heap.size + 1) (by omega)).trans hy
  replace ho1 := own_keep ho1 (by omega) hoth1
  replace hB := hB.trans (hbl1.mono (by omega))
  replace hv := hn1
  clear hn1 hbl1 hoth1
  have k9 : u1.cell? ⟨w.heap.size, 0 + 9, none⟩ = some (.slice ab bx.length cb) := cell_of_row u1 _ 9 _ _ _ hx
  go_wp2_with fail
  refine (tostrs_any _ bx _ (Rb.below hB) hmb).mono ?_
  rintro e w2 ⟨v2, rfl, ho2, hb⟩
  obtain ⟨ao2, cap2, rfl⟩ := own_form ho2
  replace ho2 := own_mono (B' := w.heap.size + 3) ho2 (by omega)
  have hs2 := hb.size
  replace hx := (hb.block _ (Array.getElem?_eq_some_iff.1 hx).1).trans hx
  replace hy := (hb.block _ (Array.getElem?_eq_some_iff.1 hy).1).trans hy
  replace hv := (hb.block _ (Array.getElem?_eq_some_iff.1 hv).1).trans hv
  replace ho1 := own_below ho1 hb
  replace hB := hB.trans (hb.mono hB.size)
  clear hb k9
  go_wp2_with (refine wpList_store_at rfl 70 _ _ rfl (w.heap.size + 2) 9 (.slice ao2 bx.length cap2) #[.slice ao2 bx.length cap2] rfl rfl rfl rfl 72 #[.int .i64 i, .slice ao1 xs.length cap1, .int .i64 m.p, .int .i64 m.s, .int .i64 m.e, .int .i64 m.d, .int .i64 m.t, .int .i64 m.q, .int .i64 m.r, .slice none 0 0, .slice none 0 0] #[.int .i64 i, .slice ao1 xs.length cap1, .int .i64 m.p, .int .i64 m.s, .int .i64 m.e, .int .i64 m.d, .int .i64 m.t, .int .i64 m.q, .int .i64 m.r, .slice ao2 bx.length cap2, .slice none 0 0] hv (by simp) (by kernel_rfl) rfl ?_)
  intro u2 hn2 hbl2 hsz2 hoth2
  have hs2' : w2.heap.size ≤ u2.heap.size := by omega
  clear hsz2
  replace hx := (hoth2 w.heap.size (by omega)).trans hx
  replace hy := (hoth2 (w.heap.size + 1) (by omega)).trans hy
  replace ho1 := own_keep ho1 (by omega) hoth2
  replace ho2 := own_keep ho2 (by omega) hoth2
  replace hB := hB.trans (hbl2.mono (by omega))
  replace hv := hn2
  clear hn2 hbl2 hoth2
  have k10 : u2.cell? ⟨w.heap.size, 0 + 10, none⟩ = some (.slice ac ox.length cc) := cell_of_row u2 _ 10 _ _ _ hx
  go_wp2_with fail
  refine (tostrs_any _ ox _ (Ro.below hB) hmo).mono ?_
  rintro e w3 ⟨v3, rfl, ho3, hb⟩
  obtain ⟨ao3, cap3, rfl⟩ := own_form ho3
  have hap : ∀ g, (Value.slice ao3 ox.length cap3).ownBlock = some g → (Value.slice ao2 bx.length cap2).ownBlock ≠ some g := fun g hg e => by
    have h1 := (ho2.lt g e).2
    have h2 := (ho3.lt g hg).1
    omega
  replace ho3 := own_mono (B' := w.heap.size + 3) ho3 (by omega)
  have hs3 := hb.size
  replace hx := (hb.block _ (Array.getElem?_eq_some_iff.1 hx).1).trans hx
  replace hy := (hb.block _ (Array.getElem?_eq_some_iff.1 hy).1).trans hy
  replace hv := (hb.block _ (Array.getElem?_eq_some_iff.1 hv).1).trans hv
  replace ho1 := own_below ho1 hb
  replace ho2 := own_below ho2 hb
  replace hB := hB.trans (hb.mono hB.size)
  clear hb k10
  go_wp2_with (refine wpList_store_at rfl 70 _ _ rfl (w.heap.size + 2) 10 (.slice ao3 ox.length cap3) #[.slice ao3 ox.length cap3] rfl rfl rfl rfl 72 #[.int .i64 i, .slice ao1 xs.length cap1, .int .i64 m.p, .int .i64 m.s, .int .i64 m.e, .int .i64 m.d, .int .i64 m.t, .int .i64 m.q, .int .i64 m.r, .slice ao2 bx.length cap2, .slice none 0 0] #[.int .i64 i, .slice ao1 xs.length cap1, .int .i64 m.p, .int .i64 m.s, .int .i64 m.e, .int .i64 m.d, .int .i64 m.t, .int .i64 m.q, .int .i64 m.r, .slice ao2 bx.length cap2, .slice ao3 ox.length cap3] hv (by simp) (by kernel_rfl) rfl ?_)
  intro u3 hn3 hbl3 hsz3 hoth3
  clear hsz3
  replace hx := (hoth3 w.heap.size (by omega)).trans hx
  replace hy := (hoth3 (w.heap.size + 1) (by omega)).trans hy
  replace ho1 := own_keep ho1 (by omega) hoth3
  replace ho2 := own_keep ho2 (by omega) hoth3
  replace ho3 := own_keep ho3 (by omega) hoth3
  replace hB := hB.trans (hbl3.mono (by omega))
  replace hv := hn3
  clear hn3 hbl3 hoth3
  go_wp2_with (first
    | (refine wpList_load_row rfl 72 _ rfl (w.heap.size + 2) rfl 72 #[.int .i64 i, .slice ao1 xs.length cap1, .int .i64 m.p, .int .i64 m.s, .int .i64 m.e, .int .i64 m.d, .int .i64 m.t, .int .i64 m.q, .int .i64 m.r, .slice ao2 bx.length cap2, .slice ao3 ox.length cap3] (0, 0) _ hv Try.underlying72 rfl Try.sizeProc ?_)
    | (refine wpList_store_own2 rfl 72 _ _ rfl (w.heap.size + 1) #[.int .i64 i, .slice ao1 xs.length cap1, .int .i64 m.p, .int .i64 m.s, .int .i64 m.e, .int .i64 m.d, .int .i64 m.t, .int .i64 m.q, .int .i64 m.r, .slice ao2 bx.length cap2, .slice ao3 ox.length cap3] rfl rfl 72 #[.int .i64 0, .slice none 0 0, .int .i64 0, .int .i64 0, .int .i64 0, .int .i64 0, .int .i64 0, .int .i64 0, .int .i64 0, .slice none 0 0, .slice none 0 0] hy Try.sizeProc rfl (by simp [Value.oneCell']) ?_))
  intro w9 hh9 hb9 hs9 hoth9
  have p1 := own_mono (B' := w.heap.size) (own_keep ho1 (by omega) hoth9) (by omega)
  have p2 := own_mono (B' := w.heap.size) (own_keep ho2 (by omega) hoth9) (by omega)
  have p3 := own_mono (B' := w.heap.size) (own_keep ho3 (by omega) hoth9) (by omega)
  have hB9 : Below w.heap.size w w9 := hB.trans (hb9.mono (by omega))
  go_wp2
  exact bodyPost_ret (results_cell_row rfl _ _ (w.heap.size + 1) 72 _ (0, 0) _ rfl hh9 Try.underlying72 rfl Try.sizeProc) rfl ⟨_, _, _, rfl, p1, p2, p3, hap, hB9⟩
end Go.Proofs.Ytllfojddaobpmaa
