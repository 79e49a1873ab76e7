/-
  Contracts of impl's homesFit, gramsFit, parkedFits. The variable errors.errorType reads as it is laid.
-/
import Derived.Test.YtenegpbpalbpeaaGreatDoorWOkMM
import Derived.Test.YtenegpbpalbpeaaGreatDoorPrOkSM
namespace Go.Proofs.YtenegpbpalbpeaaGreatDoor
open Go.RowKit
def hmB (ns : List Nd) (is : List In) (ds : List Df) (pl : Int) (h : Hm) : Bool := hasP pl h.pl && procB ns is ds h.i h.xs h.m h.bx h.ox
set_option maxRecDepth 100000 in
set_option maxHeartbeats 6400000 in
theorem parkedfits_any (vn vi vf vh vl vg vp va vt : Value) (d : Wd) (B : Nat) (w : World) (R : WR B w vn vi vf vh vl vg vp va vt d) :
    Calls Tryz.prog 38 #[.agg #[vn, vi, vf, .int .i64 d.pl, vh, vl, vg, vp, .int .i64 d.nx, va, vt]] w fun e w' => e = .returned (.bool (decide (d.ps.length ≤ 20) && d.ps.all (pdB d.pl))) ∧ Below w.heap.size w w' := by
  have R0 := R
  obtain ⟨⟨aan, ccn, rfl⟩, ⟨aai, cci, rfl⟩, ⟨aaf, ccf, rfl⟩, ⟨aah, cch, rfl⟩, ⟨aal, ccl, rfl⟩, ⟨aag, ccg, rfl⟩, ⟨aap, ccp, rfl⟩, ⟨aaa, cca, rfl⟩, ⟨aat, cct, rfl⟩⟩ := R.form
  have hB0 := alloc_bel w (Obj.cells #[.slice aan d.ns.length ccn, .slice aai d.is.length cci, .slice aaf d.ds.length ccf, .int .i64 d.pl, .slice aah d.hs.length cch, .slice aal d.ls.length ccl, .slice aag d.gs.length ccg, .slice aap d.ps.length ccp, .int .i64 d.nx, .slice aaa d.ga.length cca, .slice aat d.tk.length cct] 50)
  have hx0 := heap_alloc_new w (Obj.cells #[.slice aan d.ns.length ccn, .slice aai d.is.length cci, .slice aaf d.ds.length ccf, .int .i64 d.pl, .slice aah d.hs.length cch, .slice aal d.ls.length ccl, .slice aag d.gs.length ccg, .slice aap d.ps.length ccp, .int .i64 d.nx, .slice aaa d.ga.length cca, .slice aat d.tk.length cct] 50)
  go_enter Tryz.func38, Tryz.ntmps38
  by_cases hmost : d.ps.length ≤ 20
  · have HM : Hid ((decide (d.ps.length ≤ 20) && d.ps.all (pdB d.pl)) = d.ps.all (pdB d.pl)) := by unfold Hid; simp [hmost]
    go_wp2_with fail
    generalize w.alloc (Obj.cells #[.slice aan d.ns.length ccn, .slice aai d.is.length cci, .slice aaf d.ds.length ccf, .int .i64 d.pl, .slice aah d.hs.length cch, .slice aal d.ls.length ccl, .slice aag d.gs.length ccg, .slice aap d.ps.length ccp, .int .i64 d.nx, .slice aaa d.ga.length cca, .slice aat d.tk.length cct] 50) = w0 at *
    have hs0 := blk_lt hx0
    have R4 := R0.rp
    obtain ⟨ao, cap, hh, hcap, hm, hcell⟩ := R4
    simp only [Value.slice.injEq] at hh
    obtain ⟨rfl, _, rfl⟩ := hh
    go_loopw [12] (fun i wr => ∃ k : Nat, k ≤ d.ps.length ∧ i = .int .i64 k ∧ Hid ((d.ps.take k).all (pdB d.pl) = true) ∧ Below w0.heap.size w0 wr) (fun i _ => d.ps.length - (intOf i).toNat)
    case atStart => exact ⟨0, by omega, rfl, by simp [Hid], Below.refl _ _⟩
    case round =>
      obtain ⟨k, hk, rfl, HK, hb⟩ := hrel
      have hB := hB0.trans (hb.mono hB0.size)
      have hx := blk_bel hx0 hb
      by_cases hlt : k < d.ps.length
      · obtain ⟨g, o, rfl, _, hg, hcell⟩ := hcell (by intro e; rw [e] at hlt; simp at hlt)
        obtain ⟨x, hx'⟩ : ∃ x, d.ps[k]? = some x := ⟨d.ps[k], by simp [hlt]⟩
        obtain ⟨cs, hcs, hr, hE⟩ := hcell k x hx'
        have HX' : Hid (d.ps[k]? = some x) := hx'
        replace hr := range_below hr hB hg
        obtain ⟨hc, _⟩ := hE
        obtain rfl : cs = (#[.int .i64 x.p, .int .i64 x.t, .string x.s] : Array Value).toList := congrArg Array.toList hc
        clear hc
        clear hcell hx' hcs
        have hb3 := alloc_bel wr (Obj.cells #[.int .i64 x.p, .int .i64 x.t, .string x.s] 142)
        have hh3 : (wr.alloc (Obj.cells #[.int .i64 x.p, .int .i64 x.t, .string x.s] 142)).heap[wr.heap.size]? = some (Obj.cells #[.int .i64 x.p, .int .i64 x.t, .string x.s] 142) := heap_alloc_new _ _
        have hx3 := blk_bel hx hb3
        have hB3 := hB.trans (hb3.mono hB.size)
        have hb3' := hb.trans (hb3.mono hb.size)
        obtain ⟨W3, hW3⟩ : ∃ W3, wr.alloc (Obj.cells #[.int .i64 x.p, .int .i64 x.t, .string x.s] 142) = W3 := ⟨_, rfl⟩
        rw [hW3] at hb3 hh3 hx3 hB3 hb3'
        have kk3 : W3.cell? ⟨wr.heap.size, 0, none⟩ = some (.int .i64 x.p) := cell_of_row W3 _ 0 _ _ _ hh3
        have kk4 : W3.cell? ⟨wr.heap.size, 0 + 0, none⟩ = some (.int .i64 x.p) := by rw [Nat.zero_add]; exact kk3
        have kw0 : W3.cell? ⟨w.heap.size, 0, none⟩ = some (.slice aan d.ns.length ccn) := cell_of_row W3 _ 0 _ _ _ hx3
        have kw1 : W3.cell? ⟨w.heap.size, 1, none⟩ = some (.slice aai d.is.length cci) := cell_of_row W3 _ 1 _ _ _ hx3
        have kw2 : W3.cell? ⟨w.heap.size, 2, none⟩ = some (.slice aaf d.ds.length ccf) := cell_of_row W3 _ 2 _ _ _ hx3
        have kw3 : W3.cell? ⟨w.heap.size, 3, none⟩ = some (.int .i64 d.pl) := cell_of_row W3 _ 3 _ _ _ hx3
        have kw4 : W3.cell? ⟨w.heap.size, 4, none⟩ = some (.slice aah d.hs.length cch) := cell_of_row W3 _ 4 _ _ _ hx3
        have kw5 : W3.cell? ⟨w.heap.size, 5, none⟩ = some (.slice aal d.ls.length ccl) := cell_of_row W3 _ 5 _ _ _ hx3
        have kw6 : W3.cell? ⟨w.heap.size, 6, none⟩ = some (.slice aag d.gs.length ccg) := cell_of_row W3 _ 6 _ _ _ hx3
        have kw7 : W3.cell? ⟨w.heap.size, 7, none⟩ = some (.slice (some ⟨g, o, none⟩) d.ps.length ccp) := cell_of_row W3 _ 7 _ _ _ hx3
        have kw8 : W3.cell? ⟨w.heap.size, 8, none⟩ = some (.int .i64 d.nx) := cell_of_row W3 _ 8 _ _ _ hx3
        have kw9 : W3.cell? ⟨w.heap.size, 9, none⟩ = some (.slice aaa d.ga.length cca) := cell_of_row W3 _ 9 _ _ _ hx3
        have kw10 : W3.cell? ⟨w.heap.size, 10, none⟩ = some (.slice aat d.tk.length cct) := cell_of_row W3 _ 10 _ _ _ hx3
        go_wp2_with (refine wpList_load_mid rfl 142 _ rfl g (o + k * 3) rfl _ _ hr Tryz.underlying142 rfl (by kernel_rfl) ?_)
        clear hW3 hr hb3 kk3 kk4 kw0 kw1 kw2 kw3 kw4 kw5 kw6 kw7 kw8 kw9 kw10
        refine (hasplace_any _ _ _ _ _ _ _ _ _ d x.p _).mono ?_
        rintro e w4 ⟨rfl, hb4⟩
        have hBQ := hB3.trans (hb4.mono hB3.size)
        have hBR := hb3'.trans (hb4.mono hb3'.size)
        clear hb4 hh3 hx3 hB3 hb3' hx
        have HF0 : Hid (pdB d.pl x = hasP d.pl x.p) := rfl
        cases hp : hasP d.pl x.p with
        | false =>
          have HF : pdB d.pl x = false := by rw [HF0.out, hp]
          have HR : Hid (d.ps.all (pdB d.pl) = false) := wall_miss HX'.out HF
          clear HK HX'
          go_wp2
          go_ret
          exact ⟨by rw [HM.out, HR.out]; rfl, hBQ⟩
        | true =>
          have HF : pdB d.pl x = true := by rw [HF0.out, hp]
          have HK2 : Hid ((d.ps.take (k + 1)).all (pdB d.pl) = true) := wall_step HK.out HX'.out HF
          clear HK HX'
          go_wp2
          go_roundw
          case rel => exact ⟨k + 1, by omega, by go_num, HK2, hBR⟩
          case measure => simp [intOf]; omega
      · have HR : Hid (d.ps.all (pdB d.pl) = true) := wall_end HK.out (by omega)
        clear HK hcell
        go_wp2
        go_ret
        exact ⟨by rw [HM.out, HR.out]; rfl, hB⟩
  · have HM : Hid ((decide (d.ps.length ≤ 20) && d.ps.all (pdB d.pl)) = false) := by unfold Hid; simp [hmost]
    go_wp2
    go_ret
    exact ⟨by rw [HM.out]; rfl, hB0⟩
set_option maxRecDepth 100000 in
set_option maxHeartbeats 6400000 in
theorem gramsfit_any (vn vi vf vh vl vg vp va vt : Value) (d : Wd) (B : Nat) (w : World) (R : WR B w vn vi vf vh vl vg vp va vt d) :
    Calls Tryz.prog 37 #[.agg #[vn, vi, vf, .int .i64 d.pl, vh, vl, vg, vp, .int .i64 d.nx, va, vt]] w fun e w' => e = .returned (.bool (decide (d.gs.length ≤ 12) && d.gs.all (gmB d.pl))) ∧ Below w.heap.size w w' := by
  have R0 := R
  obtain ⟨⟨aan, ccn, rfl⟩, ⟨aai, cci, rfl⟩, ⟨aaf, ccf, rfl⟩, ⟨aah, cch, rfl⟩, ⟨aal, ccl, rfl⟩, ⟨aag, ccg, rfl⟩, ⟨aap, ccp, rfl⟩, ⟨aaa, cca, rfl⟩, ⟨aat, cct, rfl⟩⟩ := R.form
  have hB0 := alloc_bel w (Obj.cells #[.slice aan d.ns.length ccn, .slice aai d.is.length cci, .slice aaf d.ds.length ccf, .int .i64 d.pl, .slice aah d.hs.length cch, .slice aal d.ls.length ccl, .slice aag d.gs.length ccg, .slice aap d.ps.length ccp, .int .i64 d.nx, .slice aaa d.ga.length cca, .slice aat d.tk.length cct] 50)
  have hx0 := heap_alloc_new w (Obj.cells #[.slice aan d.ns.length ccn, .slice aai d.is.length cci, .slice aaf d.ds.length ccf, .int .i64 d.pl, .slice aah d.hs.length cch, .slice aal d.ls.length ccl, .slice aag d.gs.length ccg, .slice aap d.ps.length ccp, .int .i64 d.nx, .slice aaa d.ga.length cca, .slice aat d.tk.length cct] 50)
  go_enter Tryz.func37, Tryz.ntmps37
  by_cases hmost : d.gs.length ≤ 12
  · have HM : Hid ((decide (d.gs.length ≤ 12) && d.gs.all (gmB d.pl)) = d.gs.all (gmB d.pl)) := by unfold Hid; simp [hmost]
    go_wp2_with fail
    generalize w.alloc (Obj.cells #[.slice aan d.ns.length ccn, .slice aai d.is.length cci, .slice aaf d.ds.length ccf, .int .i64 d.pl, .slice aah d.hs.length cch, .slice aal d.ls.length ccl, .slice aag d.gs.length ccg, .slice aap d.ps.length ccp, .int .i64 d.nx, .slice aaa d.ga.length cca, .slice aat d.tk.length cct] 50) = w0 at *
    have hs0 := blk_lt hx0
    have R4 := R0.rg
    obtain ⟨ao, cap, hh, hcap, hm, hcell⟩ := R4
    simp only [Value.slice.injEq] at hh
    obtain ⟨rfl, _, rfl⟩ := hh
    go_loopw [12] (fun i wr => ∃ k : Nat, k ≤ d.gs.length ∧ i = .int .i64 k ∧ Hid ((d.gs.take k).all (gmB d.pl) = true) ∧ Below w0.heap.size w0 wr) (fun i _ => d.gs.length - (intOf i).toNat)
    case atStart => exact ⟨0, by omega, rfl, by simp [Hid], Below.refl _ _⟩
    case round =>
      obtain ⟨k, hk, rfl, HK, hb⟩ := hrel
      have hB := hB0.trans (hb.mono hB0.size)
      have hx := blk_bel hx0 hb
      by_cases hlt : k < d.gs.length
      · obtain ⟨g, o, rfl, _, hg, hcell⟩ := hcell (by intro e; rw [e] at hlt; simp at hlt)
        obtain ⟨x, hx'⟩ : ∃ x, d.gs[k]? = some x := ⟨d.gs[k], by simp [hlt]⟩
        obtain ⟨cs, hcs, hr, hE⟩ := hcell k x hx'
        have HX' : Hid (d.gs[k]? = some x) := hx'
        replace hr := range_below hr hB hg
        obtain ⟨hc, _⟩ := hE
        obtain rfl : cs = (#[.int .i64 x.k, .int .i64 x.f, .int .i64 x.t, .int .i64 x.n, .string x.s] : Array Value).toList := congrArg Array.toList hc
        clear hc
        clear hcell hx' hcs
        have hb3 := alloc_bel wr (Obj.cells #[.int .i64 x.k, .int .i64 x.f, .int .i64 x.t, .int .i64 x.n, .string x.s] 141)
        have hh3 : (wr.alloc (Obj.cells #[.int .i64 x.k, .int .i64 x.f, .int .i64 x.t, .int .i64 x.n, .string x.s] 141)).heap[wr.heap.size]? = some (Obj.cells #[.int .i64 x.k, .int .i64 x.f, .int .i64 x.t, .int .i64 x.n, .string x.s] 141) := heap_alloc_new _ _
        have hx3 := blk_bel hx hb3
        have hB3 := hB.trans (hb3.mono hB.size)
        have hb3' := hb.trans (hb3.mono hb.size)
        obtain ⟨W3, hW3⟩ : ∃ W3, wr.alloc (Obj.cells #[.int .i64 x.k, .int .i64 x.f, .int .i64 x.t, .int .i64 x.n, .string x.s] 141) = W3 := ⟨_, rfl⟩
        rw [hW3] at hb3 hh3 hx3 hB3 hb3'
        have kk3 : W3.cell? ⟨wr.heap.size, 1, none⟩ = some (.int .i64 x.f) := cell_of_row W3 _ 1 _ _ _ hh3
        have kk4 : W3.cell? ⟨wr.heap.size, 0 + 1, none⟩ = some (.int .i64 x.f) := by rw [Nat.zero_add]; exact kk3
        have kw0 : W3.cell? ⟨w.heap.size, 0, none⟩ = some (.slice aan d.ns.length ccn) := cell_of_row W3 _ 0 _ _ _ hx3
        have kw1 : W3.cell? ⟨w.heap.size, 1, none⟩ = some (.slice aai d.is.length cci) := cell_of_row W3 _ 1 _ _ _ hx3
        have kw2 : W3.cell? ⟨w.heap.size, 2, none⟩ = some (.slice aaf d.ds.length ccf) := cell_of_row W3 _ 2 _ _ _ hx3
        have kw3 : W3.cell? ⟨w.heap.size, 3, none⟩ = some (.int .i64 d.pl) := cell_of_row W3 _ 3 _ _ _ hx3
        have kw4 : W3.cell? ⟨w.heap.size, 4, none⟩ = some (.slice aah d.hs.length cch) := cell_of_row W3 _ 4 _ _ _ hx3
        have kw5 : W3.cell? ⟨w.heap.size, 5, none⟩ = some (.slice aal d.ls.length ccl) := cell_of_row W3 _ 5 _ _ _ hx3
        have kw6 : W3.cell? ⟨w.heap.size, 6, none⟩ = some (.slice (some ⟨g, o, none⟩) d.gs.length ccg) := cell_of_row W3 _ 6 _ _ _ hx3
        have kw7 : W3.cell? ⟨w.heap.size, 7, none⟩ = some (.slice aap d.ps.length ccp) := cell_of_row W3 _ 7 _ _ _ hx3
        have kw8 : W3.cell? ⟨w.heap.size, 8, none⟩ = some (.int .i64 d.nx) := cell_of_row W3 _ 8 _ _ _ hx3
        have kw9 : W3.cell? ⟨w.heap.size, 9, none⟩ = some (.slice aaa d.ga.length cca) := cell_of_row W3 _ 9 _ _ _ hx3
        have kw10 : W3.cell? ⟨w.heap.size, 10, none⟩ = some (.slice aat d.tk.length cct) := cell_of_row W3 _ 10 _ _ _ hx3
        go_wp2_with (refine wpList_load_mid rfl 141 _ rfl g (o + k * 5) rfl _ _ hr Tryz.underlying141 rfl (by kernel_rfl) ?_)
        clear hW3 hr hb3 kk3 kk4 kw0 kw1 kw2 kw3 kw4 kw5 kw6 kw7 kw8 kw9 kw10
        refine (hasplace_any _ _ _ _ _ _ _ _ _ d x.f _).mono ?_
        rintro e w4 ⟨rfl, hb4⟩
        replace hh3 := blk_bel hh3 hb4
        replace hx3 := blk_bel hx3 hb4
        replace hB3 := hB3.trans (hb4.mono hB3.size)
        replace hb3' := hb3'.trans (hb4.mono hb3'.size)
        clear hb4
        cases h1 : hasP d.pl x.f with
        | false =>
          have HF : gmB d.pl x = false := by unfold gmB; rw [h1]; rfl
          have HR : Hid (d.gs.all (gmB d.pl) = false) := wall_miss HX'.out HF
          clear HK HX'
          go_wp2
          go_ret
          exact ⟨by rw [HM.out, HR.out]; rfl, hB3⟩
        | true =>
          have kc : w4.cell? ⟨wr.heap.size, 0 + 2, none⟩ = some (.int .i64 x.t) := cell_of_row _ _ 2 _ _ _ hh3
          have kw0 : w4.cell? ⟨w.heap.size, 0, none⟩ = some (.slice aan d.ns.length ccn) := cell_of_row w4 _ 0 _ _ _ hx3
          have kw1 : w4.cell? ⟨w.heap.size, 1, none⟩ = some (.slice aai d.is.length cci) := cell_of_row w4 _ 1 _ _ _ hx3
          have kw2 : w4.cell? ⟨w.heap.size, 2, none⟩ = some (.slice aaf d.ds.length ccf) := cell_of_row w4 _ 2 _ _ _ hx3
          have kw3 : w4.cell? ⟨w.heap.size, 3, none⟩ = some (.int .i64 d.pl) := cell_of_row w4 _ 3 _ _ _ hx3
          have kw4 : w4.cell? ⟨w.heap.size, 4, none⟩ = some (.slice aah d.hs.length cch) := cell_of_row w4 _ 4 _ _ _ hx3
          have kw5 : w4.cell? ⟨w.heap.size, 5, none⟩ = some (.slice aal d.ls.length ccl) := cell_of_row w4 _ 5 _ _ _ hx3
          have kw6 : w4.cell? ⟨w.heap.size, 6, none⟩ = some (.slice (some ⟨g, o, none⟩) d.gs.length ccg) := cell_of_row w4 _ 6 _ _ _ hx3
          have kw7 : w4.cell? ⟨w.heap.size, 7, none⟩ = some (.slice aap d.ps.length ccp) := cell_of_row w4 _ 7 _ _ _ hx3
          have kw8 : w4.cell? ⟨w.heap.size, 8, none⟩ = some (.int .i64 d.nx) := cell_of_row w4 _ 8 _ _ _ hx3
          have kw9 : w4.cell? ⟨w.heap.size, 9, none⟩ = some (.slice aaa d.ga.length cca) := cell_of_row w4 _ 9 _ _ _ hx3
          have kw10 : w4.cell? ⟨w.heap.size, 10, none⟩ = some (.slice aat d.tk.length cct) := cell_of_row w4 _ 10 _ _ _ hx3
          go_wp2_with fail
          clear kc kw0 kw1 kw2 kw3 kw4 kw5 kw6 kw7 kw8 kw9 kw10
          refine (hasplace_any _ _ _ _ _ _ _ _ _ d x.t _).mono ?_
          rintro e w5 ⟨rfl, hb5⟩
          replace hh3 := blk_bel hh3 hb5
          replace hx3 := blk_bel hx3 hb5
          replace hB3 := hB3.trans (hb5.mono hB3.size)
          replace hb3' := hb3'.trans (hb5.mono hb3'.size)
          clear hb5
          cases h2 : hasP d.pl x.t with
          | false =>
            have HF : gmB d.pl x = false := by unfold gmB; rw [h1, h2]; rfl
            have HR : Hid (d.gs.all (gmB d.pl) = false) := wall_miss HX'.out HF
            clear HK HX'
            go_wp2
            go_ret
            exact ⟨by rw [HM.out, HR.out]; rfl, hB3⟩
          | true =>
            have kg0 : w5.cell? ⟨wr.heap.size, 0, none⟩ = some (.int .i64 x.k) := cell_of_row w5 _ 0 _ _ _ hh3
            have kg1 : w5.cell? ⟨wr.heap.size, 1, none⟩ = some (.int .i64 x.f) := cell_of_row w5 _ 1 _ _ _ hh3
            have kg2 : w5.cell? ⟨wr.heap.size, 2, none⟩ = some (.int .i64 x.t) := cell_of_row w5 _ 2 _ _ _ hh3
            have kg3 : w5.cell? ⟨wr.heap.size, 3, none⟩ = some (.int .i64 x.n) := cell_of_row w5 _ 3 _ _ _ hh3
            have kg4 : w5.cell? ⟨wr.heap.size, 4, none⟩ = some (.string x.s) := cell_of_row w5 _ 4 _ _ _ hh3
            go_wp2_with fail
            clear kg0 kg1 kg2 kg3 kg4
            refine (isknown_any x _).mono ?_
            rintro e w6 ⟨rfl, hb6⟩
            replace hh3 := blk_bel hh3 hb6
            replace hx3 := blk_bel hx3 hb6
            replace hB3 := hB3.trans (hb6.mono hB3.size)
            replace hb3' := hb3'.trans (hb6.mono hb3'.size)
            clear hb6
            have HF0 : Hid (gmB d.pl x = knB x) := by unfold Hid gmB; rw [h1, h2]; simp
            obtain ⟨kb, hkb⟩ : ∃ b, Hid (knB x = b) := ⟨_, rfl⟩
            rw [hkb.out] at HF0 ⊢
            clear hkb
            cases kb with
            | false =>
              have HF : gmB d.pl x = false := HF0.out
              have HR : Hid (d.gs.all (gmB d.pl) = false) := wall_miss HX'.out HF
              clear HK HX'
              go_wp2
              go_ret
              exact ⟨by rw [HM.out, HR.out]; rfl, hB3⟩
            | true =>
              have HF : gmB d.pl x = true := HF0.out
              have HK2 : Hid ((d.gs.take (k + 1)).all (gmB d.pl) = true) := wall_step HK.out HX'.out HF
              clear HK HX'
              go_wp2
              go_roundw
              case rel => exact ⟨k + 1, by omega, by go_num, HK2, hb3'⟩
              case measure => simp [intOf]; omega
      · have HR : Hid (d.gs.all (gmB d.pl) = true) := wall_end HK.out (by omega)
        clear HK hcell
        go_wp2
        go_ret
        exact ⟨by rw [HM.out, HR.out]; rfl, hB⟩
  · have HM : Hid ((decide (d.gs.length ≤ 12) && d.gs.all (gmB d.pl)) = false) := by unfold Hid; simp [hmost]
    go_wp2
    go_ret
    exact ⟨by rw [HM.out]; rfl, hB0⟩
set_option maxRecDepth 100000 in
set_option maxHeartbeats 6400000 in
theorem homesfit_any (vn vi vf vh vl vg vp va vt : Value) (d : Wd) (B : Nat) (w : World) (R : WR B w vn vi vf vh vl vg vp va vt d) (hsm : ∀ x ∈ d.hs, SmH x) (hgE : ErrT w) :
    Calls Tryz.prog 35 #[.agg #[vn, vi, vf, .int .i64 d.pl, vh, vl, vg, vp, .int .i64 d.nx, va, vt]] w fun e w' => e = .returned (.bool (decide (d.hs.length ≤ 8) && d.hs.all (hmB d.ns d.is d.ds d.pl))) ∧ Below w.heap.size w w' := by
  have R0 := R
  obtain ⟨⟨aan, ccn, rfl⟩, ⟨aai, cci, rfl⟩, ⟨aaf, ccf, rfl⟩, ⟨aah, cch, rfl⟩, ⟨aal, ccl, rfl⟩, ⟨aag, ccg, rfl⟩, ⟨aap, ccp, rfl⟩, ⟨aaa, cca, rfl⟩, ⟨aat, cct, rfl⟩⟩ := R.form
  have hB0 := alloc_bel w (Obj.cells #[.slice aan d.ns.length ccn, .slice aai d.is.length cci, .slice aaf d.ds.length ccf, .int .i64 d.pl, .slice aah d.hs.length cch, .slice aal d.ls.length ccl, .slice aag d.gs.length ccg, .slice aap d.ps.length ccp, .int .i64 d.nx, .slice aaa d.ga.length cca, .slice aat d.tk.length cct] 50)
  have hx0 := heap_alloc_new w (Obj.cells #[.slice aan d.ns.length ccn, .slice aai d.is.length cci, .slice aaf d.ds.length ccf, .int .i64 d.pl, .slice aah d.hs.length cch, .slice aal d.ls.length ccl, .slice aag d.gs.length ccg, .slice aap d.ps.length ccp, .int .i64 d.nx, .slice aaa d.ga.length cca, .slice aat d.tk.length cct] 50)
  go_enter Tryz.func35, Tryz.ntmps35
  by_cases hmost : d.hs.length ≤ 8
  · have HM : Hid ((decide (d.hs.length ≤ 8) && d.hs.all (hmB d.ns d.is d.ds d.pl)) = d.hs.all (hmB d.ns d.is d.ds d.pl)) := by unfold Hid; simp [hmost]
    go_wp2_with fail
    generalize w.alloc (Obj.cells #[.slice aan d.ns.length ccn, .slice aai d.is.length cci, .slice aaf d.ds.length ccf, .int .i64 d.pl, .slice aah d.hs.length cch, .slice aal d.ls.length ccl, .slice aag d.gs.length ccg, .slice aap d.ps.length ccp, .int .i64 d.nx, .slice aaa d.ga.length cca, .slice aat d.tk.length cct] 50) = w0 at *
    have hs0 := blk_lt hx0
    have R4 := R0.rh
    obtain ⟨ao, cap, hh, hcap, hm, hcell⟩ := R4
    simp only [Value.slice.injEq] at hh
    obtain ⟨rfl, _, rfl⟩ := hh
    go_loopw [12] (fun i wr => ∃ k : Nat, k ≤ d.hs.length ∧ i = .int .i64 k ∧ Hid ((d.hs.take k).all (hmB d.ns d.is d.ds d.pl) = true) ∧ Below w0.heap.size w0 wr) (fun i _ => d.hs.length - (intOf i).toNat)
    case atStart => exact ⟨0, by omega, rfl, by simp [Hid], Below.refl _ _⟩
    case round =>
      obtain ⟨k, hk, rfl, HK, hb⟩ := hrel
      have hB := hB0.trans (hb.mono hB0.size)
      have hx := blk_bel hx0 hb
      by_cases hlt : k < d.hs.length
      · obtain ⟨g, o, rfl, _, hg, hcell⟩ := hcell (by intro e; rw [e] at hlt; simp at hlt)
        obtain ⟨x, hx'⟩ : ∃ x, d.hs[k]? = some x := ⟨d.hs[k], by simp [hlt]⟩
        obtain ⟨cs, hcs, hr, hE⟩ := hcell k x hx'
        have HX' : Hid (d.hs[k]? = some x) := hx'
        replace hr := range_below hr hB hg
        obtain ⟨v1, v2, v3, hc, P1, P2, P3, _, _, _⟩ := hE
        obtain ⟨p1, q1, rfl⟩ := P1.small8
        obtain ⟨p2, q2, rfl⟩ := P2.small
        obtain ⟨p3, q3, rfl⟩ := P3.small
        obtain rfl : cs = (#[.int .i64 x.pl, .int .i64 x.i, .slice p1 x.xs.length q1, .int .i64 x.m.p, .int .i64 x.m.s, .int .i64 x.m.e, .int .i64 x.m.d, .int .i64 x.m.t, .int .i64 x.m.q, .int .i64 x.m.r, .slice p2 x.bx.length q2, .slice p3 x.ox.length q3] : Array Value).toList := congrArg Array.toList hc
        have hzx : ∀ y ∈ x.bx, y.size ≤ 140737488351232 := fun y hy => Nat.le_trans ((hsm x (List.mem_of_getElem? hx')).2.2.2 y hy) (by decide)
        clear hc
        clear hcell hx' hcs
        have hb3 := alloc_bel wr (Obj.cells #[.int .i64 x.pl, .int .i64 x.i, .slice p1 x.xs.length q1, .int .i64 x.m.p, .int .i64 x.m.s, .int .i64 x.m.e, .int .i64 x.m.d, .int .i64 x.m.t, .int .i64 x.m.q, .int .i64 x.m.r, .slice p2 x.bx.length q2, .slice p3 x.ox.length q3] 93)
        have hh3 : (wr.alloc (Obj.cells #[.int .i64 x.pl, .int .i64 x.i, .slice p1 x.xs.length q1, .int .i64 x.m.p, .int .i64 x.m.s, .int .i64 x.m.e, .int .i64 x.m.d, .int .i64 x.m.t, .int .i64 x.m.q, .int .i64 x.m.r, .slice p2 x.bx.length q2, .slice p3 x.ox.length q3] 93)).heap[wr.heap.size]? = some (Obj.cells #[.int .i64 x.pl, .int .i64 x.i, .slice p1 x.xs.length q1, .int .i64 x.m.p, .int .i64 x.m.s, .int .i64 x.m.e, .int .i64 x.m.d, .int .i64 x.m.t, .int .i64 x.m.q, .int .i64 x.m.r, .slice p2 x.bx.length q2, .slice p3 x.ox.length q3] 93) := heap_alloc_new _ _
        have hx3 := blk_bel hx hb3
        have hB3 := hB.trans (hb3.mono hB.size)
        have hb3' := hb.trans (hb3.mono hb.size)
        obtain ⟨W3, hW3⟩ : ∃ W3, wr.alloc (Obj.cells #[.int .i64 x.pl, .int .i64 x.i, .slice p1 x.xs.length q1, .int .i64 x.m.p, .int .i64 x.m.s, .int .i64 x.m.e, .int .i64 x.m.d, .int .i64 x.m.t, .int .i64 x.m.q, .int .i64 x.m.r, .slice p2 x.bx.length q2, .slice p3 x.ox.length q3] 93) = W3 := ⟨_, rfl⟩
        rw [hW3] at hb3 hh3 hx3 hB3 hb3'
        have kk3 : W3.cell? ⟨wr.heap.size, 0, none⟩ = some (.int .i64 x.pl) := cell_of_row W3 _ 0 _ _ _ hh3
        have kk4 : W3.cell? ⟨wr.heap.size, 0 + 0, none⟩ = some (.int .i64 x.pl) := by rw [Nat.zero_add]; exact kk3
        have kw0 : W3.cell? ⟨w.heap.size, 0, none⟩ = some (.slice aan d.ns.length ccn) := cell_of_row W3 _ 0 _ _ _ hx3
        have kw1 : W3.cell? ⟨w.heap.size, 1, none⟩ = some (.slice aai d.is.length cci) := cell_of_row W3 _ 1 _ _ _ hx3
        have kw2 : W3.cell? ⟨w.heap.size, 2, none⟩ = some (.slice aaf d.ds.length ccf) := cell_of_row W3 _ 2 _ _ _ hx3
        have kw3 : W3.cell? ⟨w.heap.size, 3, none⟩ = some (.int .i64 d.pl) := cell_of_row W3 _ 3 _ _ _ hx3
        have kw4 : W3.cell? ⟨w.heap.size, 4, none⟩ = some (.slice (some ⟨g, o, none⟩) d.hs.length cch) := cell_of_row W3 _ 4 _ _ _ hx3
        have kw5 : W3.cell? ⟨w.heap.size, 5, none⟩ = some (.slice aal d.ls.length ccl) := cell_of_row W3 _ 5 _ _ _ hx3
        have kw6 : W3.cell? ⟨w.heap.size, 6, none⟩ = some (.slice aag d.gs.length ccg) := cell_of_row W3 _ 6 _ _ _ hx3
        have kw7 : W3.cell? ⟨w.heap.size, 7, none⟩ = some (.slice aap d.ps.length ccp) := cell_of_row W3 _ 7 _ _ _ hx3
        have kw8 : W3.cell? ⟨w.heap.size, 8, none⟩ = some (.int .i64 d.nx) := cell_of_row W3 _ 8 _ _ _ hx3
        have kw9 : W3.cell? ⟨w.heap.size, 9, none⟩ = some (.slice aaa d.ga.length cca) := cell_of_row W3 _ 9 _ _ _ hx3
        have kw10 : W3.cell? ⟨w.heap.size, 10, none⟩ = some (.slice aat d.tk.length cct) := cell_of_row W3 _ 10 _ _ _ hx3
        go_wp2_with (refine wpList_load_mid rfl 93 _ rfl g (o + k * 12) rfl _ _ hr Tryz.underlying93 rfl (by kernel_rfl) ?_)
        clear hW3 hr hb3 kk3 kk4 kw0 kw1 kw2 kw3 kw4 kw5 kw6 kw7 kw8 kw9 kw10
        refine (hasplace_any _ _ _ _ _ _ _ _ _ d x.pl _).mono ?_
        rintro e w4 ⟨rfl, hb4⟩
        replace hh3 := blk_bel hh3 hb4
        replace hx3 := blk_bel hx3 hb4
        replace hB3 := hB3.trans (hb4.mono hB3.size)
        replace hb3' := hb3'.trans (hb4.mono hb3'.size)
        clear hb4
        cases h1 : hasP d.pl x.pl with
        | false =>
          have HF : hmB d.ns d.is d.ds d.pl x = false := by unfold hmB; rw [h1]; rfl
          have HR : Hid (d.hs.all (hmB d.ns d.is d.ds d.pl) = false) := wall_miss HX'.out HF
          clear HK HX'
          go_wp2
          go_ret
          exact ⟨by rw [HM.out, HR.out]; rfl, hB3⟩
        | true =>
          have hg4 : ErrT w4 := hgE.below hB3 (Nat.le_refl _)
          have kw0 : w4.cell? ⟨w.heap.size, 0, none⟩ = some (.slice aan d.ns.length ccn) := cell_of_row w4 _ 0 _ _ _ hx3
          have kw1 : w4.cell? ⟨w.heap.size, 1, none⟩ = some (.slice aai d.is.length cci) := cell_of_row w4 _ 1 _ _ _ hx3
          have kw2 : w4.cell? ⟨w.heap.size, 2, none⟩ = some (.slice aaf d.ds.length ccf) := cell_of_row w4 _ 2 _ _ _ hx3
          have kh0 : w4.cell? ⟨wr.heap.size, 1, none⟩ = some (.int .i64 x.i) := cell_of_row w4 _ 1 _ _ _ hh3
          have kh1 : w4.cell? ⟨wr.heap.size, 2, none⟩ = some (.slice p1 x.xs.length q1) := cell_of_row w4 _ 2 _ _ _ hh3
          have kh2 : w4.cell? ⟨wr.heap.size, 3, none⟩ = some (.int .i64 x.m.p) := cell_of_row w4 _ 3 _ _ _ hh3
          have kh3 : w4.cell? ⟨wr.heap.size, 4, none⟩ = some (.int .i64 x.m.s) := cell_of_row w4 _ 4 _ _ _ hh3
          have kh4 : w4.cell? ⟨wr.heap.size, 5, none⟩ = some (.int .i64 x.m.e) := cell_of_row w4 _ 5 _ _ _ hh3
          have kh5 : w4.cell? ⟨wr.heap.size, 6, none⟩ = some (.int .i64 x.m.d) := cell_of_row w4 _ 6 _ _ _ hh3
          have kh6 : w4.cell? ⟨wr.heap.size, 7, none⟩ = some (.int .i64 x.m.t) := cell_of_row w4 _ 7 _ _ _ hh3
          have kh7 : w4.cell? ⟨wr.heap.size, 8, none⟩ = some (.int .i64 x.m.q) := cell_of_row w4 _ 8 _ _ _ hh3
          have kh8 : w4.cell? ⟨wr.heap.size, 9, none⟩ = some (.int .i64 x.m.r) := cell_of_row w4 _ 9 _ _ _ hh3
          have kh9 : w4.cell? ⟨wr.heap.size, 10, none⟩ = some (.slice p2 x.bx.length q2) := cell_of_row w4 _ 10 _ _ _ hh3
          have kh10 : w4.cell? ⟨wr.heap.size, 11, none⟩ = some (.slice p3 x.ox.length q3) := cell_of_row w4 _ 11 _ _ _ hh3
          go_wp2_with fail
          clear kw0 kw1 kw2 kh0 kh1 kh2 kh3 kh4 kh5 kh6 kh7 kh8 kh9 kh10
          refine (iprocok_any _ _ _ _ _ _ d.ns d.is d.ds x.i x.xs x.m x.bx x.ox _ (R0.rn.below hB3) (R0.ri.below hB3) (R0.rf.below hB3) (P1.below hB3) (P2.below hB3) (P3.below hB3) hzx hg4).mono ?_
          rintro e w5 ⟨rfl, hb5⟩
          replace hh3 := blk_bel hh3 hb5
          replace hx3 := blk_bel hx3 hb5
          replace hB3 := hB3.trans (hb5.mono hB3.size)
          replace hb3' := hb3'.trans (hb5.mono hb3'.size)
          clear hb5
          have HF0 : Hid (hmB d.ns d.is d.ds d.pl x = procB d.ns d.is d.ds x.i x.xs x.m x.bx x.ox) := by unfold Hid hmB; rw [h1]; simp
          obtain ⟨kb, hkb⟩ : ∃ b, Hid (procB d.ns d.is d.ds x.i x.xs x.m x.bx x.ox = b) := ⟨_, rfl⟩
          rw [hkb.out] at HF0 ⊢
          clear hkb
          cases kb with
          | false =>
            have HF : hmB d.ns d.is d.ds d.pl x = false := HF0.out
            have HR : Hid (d.hs.all (hmB d.ns d.is d.ds d.pl) = false) := wall_miss HX'.out HF
            clear HK HX'
            go_wp2
            go_ret
            exact ⟨by rw [HM.out, HR.out]; rfl, hB3⟩
          | true =>
            have HF : hmB d.ns d.is d.ds d.pl x = true := HF0.out
            have HK2 : Hid ((d.hs.take (k + 1)).all (hmB d.ns d.is d.ds d.pl) = true) := wall_step HK.out HX'.out HF
            clear HK HX'
            go_wp2
            go_roundw
            case rel => exact ⟨k + 1, by omega, by go_num, HK2, hb3'⟩
            case measure => simp [intOf]; omega
      · have HR : Hid (d.hs.all (hmB d.ns d.is d.ds d.pl) = true) := wall_end HK.out (by omega)
        clear HK hcell
        go_wp2
        go_ret
        exact ⟨by rw [HM.out, HR.out]; rfl, hB⟩
  · have HM : Hid ((decide (d.hs.length ≤ 8) && d.hs.all (hmB d.ns d.is d.ds d.pl)) = false) := by unfold Hid; simp [hmost]
    go_wp2
    go_ret
    exact ⟨by rw [HM.out]; rfl, hB0⟩
end Go.Proofs.YtenegpbpalbpeaaGreatDoor
