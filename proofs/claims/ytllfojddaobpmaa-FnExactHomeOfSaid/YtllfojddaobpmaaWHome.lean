/-
  The contracts of spec.HomeOf and impl.HomeOf. No condition.
-/
import Derived.Test.YtllfojddaobpmaaWW
namespace Go.Proofs.Ytllfojddaobpmaa
open Go.RowKit

/-- The place of the first home with that Pid, counted from i on; -1 when there is none. -/
def hmIdx : List Hm → Int → Nat → Int
  | [], _, _ => -1
  | h :: hs, p, i => if h.i == p then i else hmIdx hs p (i + 1)
theorem hmIdx_hit (hs : List Hm) (p : Int) (i : Nat) (h : Hm) (hx : hs[i]? = some h) (e : (h.i == p) = true) : hmIdx (hs.drop i) p i = i := by
  obtain ⟨hl, he⟩ := List.getElem?_eq_some_iff.1 hx
  rw [List.drop_eq_getElem_cons hl, he, hmIdx, if_pos e]
theorem hmIdx_miss (hs : List Hm) (p : Int) (i : Nat) (h : Hm) (hx : hs[i]? = some h) (e : (h.i == p) = false) : hmIdx (hs.drop i) p i = hmIdx (hs.drop (i + 1)) p (i + 1) := by
  obtain ⟨hl, he⟩ := List.getElem?_eq_some_iff.1 hx
  rw [List.drop_eq_getElem_cons hl, he, hmIdx, if_neg (by rw [e]; simp)]
theorem hmIdx_end (hs : List Hm) (p : Int) (i : Nat) (h : hs.length ≤ i) : hmIdx (hs.drop i) p i = -1 := by
  rw [List.drop_eq_nil_of_le h, hmIdx]

set_option maxRecDepth 100000 in
set_option maxHeartbeats 3200000 in
theorem shomeof_any (vn vi vf vh vl vg vp va vt : Value) (d : Wd) (p : Int) (B : Nat) (w : World) (R : WR B w vn vi vf vh vl vg vp va vt d) :
    Calls Try.prog 11 #[.agg #[vn, vi, vf, .int .i64 d.pl, vh, vl, vg, vp, .int .i64 d.nx, va, vt], .int .i64 p] w fun e w' => e = .returned (.int .i64 (hmIdx d.hs p 0)) ∧ Below w.heap.size w w' := by
  have R4 := R.rh
  obtain ⟨⟨an, cn, rfl⟩, ⟨ai, ci, rfl⟩, ⟨af, cf, rfl⟩, ⟨ah, ch, rfl⟩, ⟨al, cl, rfl⟩, ⟨ag, cg, rfl⟩, ⟨ap, cp, rfl⟩, ⟨aa, ca, rfl⟩, ⟨ab, cb, rfl⟩⟩ := R.form
  clear R
  obtain ⟨ao, cap, hh, hcap, hm, hcell⟩ := R4
  simp only [Value.slice.injEq] at hh
  obtain ⟨rfl, _, rfl⟩ := hh
  go_enter Try.func11, Try.ntmps11
  have hB0 : Below w.heap.size w (w.alloc (Obj.cells #[.slice an d.ns.length cn, .slice ai d.is.length ci, .slice af d.ds.length cf, .int .i64 d.pl, .slice ah d.hs.length ch, .slice al d.ls.length cl, .slice ag d.gs.length cg, .slice ap d.ps.length cp, .int .i64 d.nx, .slice aa d.ga.length ca, .slice ab d.tk.length cb] 54)) := (Below.refl _ _).alloc (Nat.le_refl _) _
  have hx0 := heap_alloc_new w (Obj.cells #[.slice an d.ns.length cn, .slice ai d.is.length ci, .slice af d.ds.length cf, .int .i64 d.pl, .slice ah d.hs.length ch, .slice al d.ls.length cl, .slice ag d.gs.length cg, .slice ap d.ps.length cp, .int .i64 d.nx, .slice aa d.ga.length ca, .slice ab d.tk.length cb] 54)
  go_wp2_with fail
  generalize w.alloc (Obj.cells #[.slice an d.ns.length cn, .slice ai d.is.length ci, .slice af d.ds.length cf, .int .i64 d.pl, .slice ah d.hs.length ch, .slice al d.ls.length cl, .slice ag d.gs.length cg, .slice ap d.ps.length cp, .int .i64 d.nx, .slice aa d.ga.length ca, .slice ab d.tk.length cb] 54) = w0 at *
  have hc0 : w0.cell? ⟨w.heap.size, 0 + 4, none⟩ = some (.slice ah d.hs.length ch) := by rw [cell_of_row w0 _ 4 _ _ _ hx0]; rfl
  have hs0 := (Array.getElem?_eq_some_iff.1 hx0).1
  go_loopw [5] (fun i wr => ∃ k : Nat, k ≤ d.hs.length ∧ i = .int .i64 k ∧ Hid (hmIdx d.hs p 0 = hmIdx (d.hs.drop k) p k) ∧ Below w0.heap.size w0 wr) (fun i _ => d.hs.length - (intOf i).toNat)
  case atStart => exact ⟨0, by omega, rfl, rfl, Below.refl _ _⟩
  case round =>
    obtain ⟨k, hk, rfl, HK, hb⟩ := hrel
    have hB := hB0.trans (hb.mono hB0.size)
    have hcr := (hb.cell (p := ⟨w.heap.size, 0 + 4, none⟩) hs0).trans hc0
    by_cases hlt : k < d.hs.length
    · obtain ⟨g, o, rfl, _, hg, hcell⟩ := hcell (by intro e; rw [e] at hlt; simp at hlt)
      obtain ⟨x, hx⟩ : ∃ x, d.hs[k]? = some x := ⟨d.hs[k], by simp [hlt]⟩
      obtain ⟨cs, hcs, hr, v1, v2, v3, hc, _⟩ := hcell k x hx
      obtain rfl : cs = (#[.int .i64 x.pl, .int .i64 x.i, v1, .int .i64 x.m.p, .int .i64 x.m.s, .int .i64 x.m.e, .int .i64 x.m.d, .int .i64 x.m.t, .int .i64 x.m.q, .int .i64 x.m.r, v2, v3] : Array Value).toList := congrArg Array.toList hc
      have d1 : wr.cell? ⟨g, o + k * 12 + 1, none⟩ = some (.int .i64 x.i) := range_below hr hB hg 1 _ rfl
      have d2 : wr.cell? ⟨g, o + k * 12 + 1 + 0, none⟩ = some (.int .i64 x.i) := d1
      clear hcell hc hcs hr
      cases e : (x.i == p) with
      | true =>
        have HR : Hid (hmIdx d.hs p 0 = k) := by unfold Hid; rw [HK.out, hmIdx_hit d.hs p k x hx e]
        clear hx HK
        go_wp2
        go_ret
        exact ⟨by rw [HR.out]; rfl, hB⟩
      | false =>
        have HR : Hid (hmIdx d.hs p 0 = hmIdx (d.hs.drop (k + 1)) p (k + 1)) := by unfold Hid; rw [HK.out, hmIdx_miss d.hs p k x hx e]
        clear hx HK
        go_wp2
        go_roundw
        case rel => exact ⟨k + 1, by omega, by go_num, HR, hb⟩
        case measure => simp [intOf]; omega
    · have HR : Hid (hmIdx d.hs p 0 = -1) := by unfold Hid; rw [HK.out, hmIdx_end d.hs p k (by omega)]
      clear HK hcell
      go_wp2
      go_ret
      exact ⟨by rw [HR.out]; rfl, hB⟩

set_option maxRecDepth 100000 in
set_option maxHeartbeats 800000 in
theorem ihomeofc_any (x : Hm) (v1 v2 v3 : Value) (p : Int) (q : Nat) (w : World) (hq : w.cell? ⟨q, 0, none⟩ = some (.int .i64 p)) (hl : q < w.heap.size) :
    Calls Try.prog 32 #[.agg #[.int .i64 x.pl, .int .i64 x.i, v1, .int .i64 x.m.p, .int .i64 x.m.s, .int .i64 x.m.e, .int .i64 x.m.d, .int .i64 x.m.t, .int .i64 x.m.q, .int .i64 x.m.r, v2, v3], .pointer (some ⟨q, 0, none⟩)] w fun e w' => e = .returned (.bool (x.i == p)) ∧ Below w.heap.size w w' := by
  have hx0 := heap_alloc_new w (Obj.cells #[.int .i64 x.pl, .int .i64 x.i, v1, .int .i64 x.m.p, .int .i64 x.m.s, .int .i64 x.m.e, .int .i64 x.m.d, .int .i64 x.m.t, .int .i64 x.m.q, .int .i64 x.m.r, v2, v3] 74)
  have hB0 : Below w.heap.size w (w.alloc (Obj.cells #[.int .i64 x.pl, .int .i64 x.i, v1, .int .i64 x.m.p, .int .i64 x.m.s, .int .i64 x.m.e, .int .i64 x.m.d, .int .i64 x.m.t, .int .i64 x.m.q, .int .i64 x.m.r, v2, v3] 74)) := (Below.refl _ _).alloc (Nat.le_refl _) _
  have c1 : (w.alloc (Obj.cells #[.int .i64 x.pl, .int .i64 x.i, v1, .int .i64 x.m.p, .int .i64 x.m.s, .int .i64 x.m.e, .int .i64 x.m.d, .int .i64 x.m.t, .int .i64 x.m.q, .int .i64 x.m.r, v2, v3] 74)).cell? ⟨w.heap.size, 1, none⟩ = some (.int .i64 x.i) := cell_of_row _ _ 1 _ _ _ hx0
  have c2 := (hB0.cell (p := ⟨q, 0, none⟩) hl).trans hq
  clear hx0
  go_enter Try.func32, Try.ntmps32
  go_wp2
  go_ret
  exact ⟨rfl, hB0⟩

set_option maxRecDepth 100000 in
set_option maxHeartbeats 1600000 in
theorem ixhome_any (v : Value) (hs : List Hm) (p : Int) (q B : Nat) (w : World) (R : XRow B 12 EH w v hs) (hq : w.cell? ⟨q, 0, none⟩ = some (.int .i64 p)) (hl : q < w.heap.size) :
    Calls Try.prog 31 #[v, .func (.func 32) #[] #[.pointer (some ⟨q, 0, none⟩)]] w fun e w' => e = .returned (.int .i64 (hmIdx hs p 0)) ∧ Below w.heap.size w w' := by
  obtain ⟨ao, cap, rfl, hcap, hm, hcell⟩ := R
  go_enter Try.func31, Try.ntmps31
  go_wp2_with fail
  go_loopw [8] (fun i wr => ∃ k : Nat, k ≤ hs.length ∧ i = .int .i64 k ∧ Hid (hmIdx hs p 0 = hmIdx (hs.drop k) p k) ∧ Below w.heap.size w wr) (fun i _ => hs.length - (intOf i).toNat)
  case atStart => exact ⟨0, by omega, rfl, rfl, Below.refl _ _⟩
  case round =>
    obtain ⟨k, hk, rfl, HK, hb⟩ := hrel
    have hcr := (hb.cell (p := ⟨q, 0, none⟩) hl).trans hq
    have hlr := Nat.lt_of_lt_of_le hl hb.size
    by_cases hlt : k < hs.length
    · obtain ⟨g, o, rfl, _, hg, hcell⟩ := hcell (by intro e; subst e; simp at hlt)
      obtain ⟨x, hx⟩ : ∃ x, hs[k]? = some x := ⟨hs[k], by simp [hlt]⟩
      obtain ⟨cs, hcs, hr, v1, v2, v3, hc, _⟩ := hcell k x hx
      obtain rfl : cs = (#[.int .i64 x.pl, .int .i64 x.i, v1, .int .i64 x.m.p, .int .i64 x.m.s, .int .i64 x.m.e, .int .i64 x.m.d, .int .i64 x.m.t, .int .i64 x.m.q, .int .i64 x.m.r, v2, v3] : Array Value).toList := congrArg Array.toList hc
      replace hr := range_below hr hb hg
      clear hcell hc hcs
      cases e : (x.i == p) with
      | true =>
        have HR : Hid (hmIdx hs p 0 = k) := by unfold Hid; rw [HK.out, hmIdx_hit hs p k x hx e]
        clear hx HK
        go_wp2_with (refine wpList_load_mid rfl 74 _ rfl g (o + k * 12) rfl _ _ hr Try.underlying74 rfl (by kernel_rfl) ?_)
        refine (ihomeofc_any x v1 v2 v3 p q _ hcr hlr).mono ?_
        rintro e' w2 ⟨rfl, hb2⟩
        rw [e]
        have hB2 := hb.trans (hb2.mono hb.size)
        clear hr hcr hb2
        go_wp2
        go_ret
        exact ⟨by rw [HR.out]; rfl, hB2⟩
      | false =>
        have HR : Hid (hmIdx hs p 0 = hmIdx (hs.drop (k + 1)) p (k + 1)) := by unfold Hid; rw [HK.out, hmIdx_miss hs p k x hx e]
        clear hx HK
        go_wp2_with (refine wpList_load_mid rfl 74 _ rfl g (o + k * 12) rfl _ _ hr Try.underlying74 rfl (by kernel_rfl) ?_)
        refine (ihomeofc_any x v1 v2 v3 p q _ hcr hlr).mono ?_
        rintro e' w2 ⟨rfl, hb2⟩
        rw [e]
        have hB2 := hb.trans (hb2.mono hb.size)
        clear hr hcr hb2
        go_wp2
        go_roundw
        case rel => exact ⟨k + 1, by omega, by go_num, HR, hB2⟩
        case measure => simp [intOf]; omega
    · have HR : Hid (hmIdx hs p 0 = -1) := by unfold Hid; rw [HK.out, hmIdx_end hs p k (by omega)]
      clear HK hcell
      go_wp2
      go_ret
      exact ⟨by rw [HR.out]; rfl, hb⟩

set_option maxRecDepth 100000 in
set_option maxHeartbeats 1600000 in
theorem ihomeof_any (vn vi vf vh vl vg vp va vt : Value) (d : Wd) (p : Int) (B : Nat) (w : World) (R : WR B w vn vi vf vh vl vg vp va vt d) :
    Calls Try.prog 13 #[.agg #[vn, vi, vf, .int .i64 d.pl, vh, vl, vg, vp, .int .i64 d.nx, va, vt], .int .i64 p] w fun e w' => e = .returned (.int .i64 (hmIdx d.hs p 0)) ∧ Below w.heap.size w w' := by
  have hmf : ∀ (fn : Fn) (first cap : Array Value) (w : World), (Instr.makeFunc fn first cap).run Try.prog w = .ok (.func fn first cap) w := fun _ _ _ _ => rfl
  have R4 := R.rh
  obtain ⟨⟨an, cn, rfl⟩, ⟨ai, ci, rfl⟩, ⟨af, cf, rfl⟩, ⟨ah, ch, rfl⟩, ⟨al, cl, rfl⟩, ⟨ag, cg, rfl⟩, ⟨ap, cp, rfl⟩, ⟨aa, ca, rfl⟩, ⟨ab, cb, rfl⟩⟩ := R.form
  clear R
  obtain ⟨hB0, hx, hy⟩ := two_boxes w (Obj.cells #[.slice an d.ns.length cn, .slice ai d.is.length ci, .slice af d.ds.length cf, .int .i64 d.pl, .slice ah d.hs.length ch, .slice al d.ls.length cl, .slice ag d.gs.length cg, .slice ap d.ps.length cp, .int .i64 d.nx, .slice aa d.ga.length ca, .slice ab d.tk.length cb] 54) (Obj.cells #[.int .i64 p] 3)
  have k1 := cell_of_row _ _ 0 _ _ _ hy
  go_enter Try.func13, Try.ntmps13
  go_wp2_with fail
  refine (ixhome_any _ d.hs p (w.heap.size + 1) B _ (R4.below stbH hB0) k1 (Array.getElem?_eq_some_iff.1 hy).1).mono ?_
  rintro e w1 ⟨rfl, hb1⟩
  have hB1 := hB0.trans (hb1.mono hB0.size)
  clear hB0 hb1 hx hy k1
  go_wp2
  go_ret
  exact ⟨rfl, hB1⟩
end Go.Proofs.Ytllfojddaobpmaa
