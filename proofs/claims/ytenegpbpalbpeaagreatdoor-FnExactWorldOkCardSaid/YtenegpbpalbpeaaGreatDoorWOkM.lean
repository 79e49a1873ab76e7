/-
  Contracts of impl.WorldOk and spec.WorldOk. The variable errors.errorType reads as it is laid.
-/
import Derived.Test.YtenegpbpalbpeaaGreatDoorLkOkM
import Derived.Test.YtenegpbpalbpeaaGreatDoorWOkLM
import Derived.Test.YtenegpbpalbpeaaGreatDoorCodeOkM
namespace Go.Proofs.YtenegpbpalbpeaaGreatDoor
open Go.RowKit
def worldB (d : Wd) : Bool := (codeB d.ns d.is d.ds && (placesB d.pl && pidB d.nx)) && ((d.hs.all (hmB d.ns d.is d.ds d.pl) && decide (d.hs.length ≤ 8)) && (lksB d && ((d.gs.all (gmB d.pl) && decide (d.gs.length ≤ 12)) && (d.ps.all (pdB d.pl) && decide (d.ps.length ≤ 20)))))
theorem pid_in {n : Int} {b : Bool} (h : (decide (1 ≤ n) && decide (n ≤ 1000000000)) = b) : pidB n = b := by
  unfold pidB
  rw [← h, Bool.eq_iff_iff]
  simp
theorem placesB_nums {pl : Int} (h : placesB pl = true) : 1 ≤ pl ∧ pl ≤ 3 := by
  unfold placesB at h
  simp at h
  exact h
set_option maxRecDepth 100000 in
set_option maxHeartbeats 6400000 in
theorem iworldok_any (vn vi vf vh vl vg vp va vt : Value) (d : Wd) (B : Nat) (w : World) (R : WR B w vn vi vf vh vl vg vp va vt d) (hsm : ∀ x ∈ d.hs, SmH x) (hg : ErrT w) :
    Calls Tryz.prog 8 #[.agg #[vn, vi, vf, .int .i64 d.pl, vh, vl, vg, vp, .int .i64 d.nx, va, vt]] w fun e w' => e = .returned (.bool (worldB d)) ∧ Below w.heap.size w w' := by
  have R0 := R
  obtain ⟨⟨aan, ccn, rfl⟩, ⟨aai, cci, rfl⟩, ⟨aaf, ccf, rfl⟩, ⟨aah, cch, rfl⟩, ⟨aal, ccl, rfl⟩, ⟨aag, ccg, rfl⟩, ⟨aap, ccp, rfl⟩, ⟨aaa, cca, rfl⟩, ⟨aat, cct, rfl⟩⟩ := R.form
  have hB := alloc_bel w (Obj.cells #[.slice aan d.ns.length ccn, .slice aai d.is.length cci, .slice aaf d.ds.length ccf, .int .i64 d.pl, .slice aah d.hs.length cch, .slice aal d.ls.length ccl, .slice aag d.gs.length ccg, .slice aap d.ps.length ccp, .int .i64 d.nx, .slice aaa d.ga.length cca, .slice aat d.tk.length cct] 50)
  have hx := heap_alloc_new w (Obj.cells #[.slice aan d.ns.length ccn, .slice aai d.is.length cci, .slice aaf d.ds.length ccf, .int .i64 d.pl, .slice aah d.hs.length cch, .slice aal d.ls.length ccl, .slice aag d.gs.length ccg, .slice aap d.ps.length ccp, .int .i64 d.nx, .slice aaa d.ga.length cca, .slice aat d.tk.length cct] 50)
  go_enter Tryz.func8, Tryz.ntmps8
  go_wp2_with (refine wpList_load_sub rfl 44 _ rfl w.heap.size 0 rfl _ 50 #[.slice aan d.ns.length ccn, .slice aai d.is.length cci, .slice aaf d.ds.length ccf] _ hx rfl Tryz.underlying44 rfl Tryz.sizeCode8 ?_)
  refine (icodeok_any _ _ _ d.ns d.is d.ds _ (R0.rn.below hB) (R0.ri.below hB) (R0.rf.below hB)).mono ?_
  rintro e wh1 ⟨rfl, hb⟩
  replace hx := blk_bel hx hb
  replace hB := hB.trans (hb.mono hB.size)
  clear hb
  obtain ⟨bh1, h1⟩ : ∃ b, codeB d.ns d.is d.ds = b := ⟨_, rfl⟩
  rw [h1]
  cases bh1 with
  | false =>
    have HR : Hid (worldB d = false) := by
      unfold Hid worldB
      rw [h1]; rfl
    go_wp2
    go_ret
    exact ⟨by rw [HR.out]; rfl, hB⟩
  | true =>
    have kc : wh1.cell? ⟨w.heap.size, 0 + 3, none⟩ = some (.int .i64 d.pl) := cell_of_row _ _ 3 _ _ _ hx
    go_wp2_with fail
    clear kc
    refine (placesfit_any d.pl _).mono ?_
    rintro e wE ⟨rfl, rfl⟩
    obtain ⟨bh2, h2⟩ : ∃ b, placesB d.pl = b := ⟨_, rfl⟩
    rw [h2]
    cases bh2 with
    | false =>
      have HR : Hid (worldB d = false) := by
        unfold Hid worldB
        rw [h1, h2]; rfl
      go_wp2
      go_ret
      exact ⟨by rw [HR.out]; rfl, hB⟩
    | true =>
      have hpl := placesB_nums h2
      have kw0 : wE.cell? ⟨w.heap.size, 0, none⟩ = some (.slice aan d.ns.length ccn) := cell_of_row wE _ 0 _ _ _ hx
      have kw1 : wE.cell? ⟨w.heap.size, 1, none⟩ = some (.slice aai d.is.length cci) := cell_of_row wE _ 1 _ _ _ hx
      have kw2 : wE.cell? ⟨w.heap.size, 2, none⟩ = some (.slice aaf d.ds.length ccf) := cell_of_row wE _ 2 _ _ _ hx
      have kw3 : wE.cell? ⟨w.heap.size, 3, none⟩ = some (.int .i64 d.pl) := cell_of_row wE _ 3 _ _ _ hx
      have kw4 : wE.cell? ⟨w.heap.size, 4, none⟩ = some (.slice aah d.hs.length cch) := cell_of_row wE _ 4 _ _ _ hx
      have kw5 : wE.cell? ⟨w.heap.size, 5, none⟩ = some (.slice aal d.ls.length ccl) := cell_of_row wE _ 5 _ _ _ hx
      have kw6 : wE.cell? ⟨w.heap.size, 6, none⟩ = some (.slice aag d.gs.length ccg) := cell_of_row wE _ 6 _ _ _ hx
      have kw7 : wE.cell? ⟨w.heap.size, 7, none⟩ = some (.slice aap d.ps.length ccp) := cell_of_row wE _ 7 _ _ _ hx
      have kw8 : wE.cell? ⟨w.heap.size, 8, none⟩ = some (.int .i64 d.nx) := cell_of_row wE _ 8 _ _ _ hx
      have kw9 : wE.cell? ⟨w.heap.size, 9, none⟩ = some (.slice aaa d.ga.length cca) := cell_of_row wE _ 9 _ _ _ hx
      have kw10 : wE.cell? ⟨w.heap.size, 10, none⟩ = some (.slice aat d.tk.length cct) := cell_of_row wE _ 10 _ _ _ hx
      go_wp2_with fail
      clear kw0 kw1 kw2 kw3 kw4 kw5 kw6 kw7 kw8 kw9 kw10
      refine (homesfit_any _ _ _ _ _ _ _ _ _ d B _ (R0.below hB) hsm (hg.below hB (Nat.le_refl _))).mono ?_
      rintro e wh3 ⟨rfl, hb⟩
      replace hx := blk_bel hx hb
      replace hB := hB.trans (hb.mono hB.size)
      clear hb
      obtain ⟨bh3, h3⟩ : ∃ b, (decide (d.hs.length ≤ 8) && d.hs.all (hmB d.ns d.is d.ds d.pl)) = b := ⟨_, rfl⟩
      rw [h3]
      cases bh3 with
      | false =>
        have HR : Hid (worldB d = false) := by
          unfold Hid worldB
          have q : (d.hs.all (hmB d.ns d.is d.ds d.pl) && decide (d.hs.length ≤ 8)) = false := by rw [Bool.and_comm]; exact h3
          rw [q]; simp
        go_wp2
        go_ret
        exact ⟨by rw [HR.out]; rfl, hB⟩
      | true =>
        have kw0 : wh3.cell? ⟨w.heap.size, 0, none⟩ = some (.slice aan d.ns.length ccn) := cell_of_row wh3 _ 0 _ _ _ hx
        have kw1 : wh3.cell? ⟨w.heap.size, 1, none⟩ = some (.slice aai d.is.length cci) := cell_of_row wh3 _ 1 _ _ _ hx
        have kw2 : wh3.cell? ⟨w.heap.size, 2, none⟩ = some (.slice aaf d.ds.length ccf) := cell_of_row wh3 _ 2 _ _ _ hx
        have kw3 : wh3.cell? ⟨w.heap.size, 3, none⟩ = some (.int .i64 d.pl) := cell_of_row wh3 _ 3 _ _ _ hx
        have kw4 : wh3.cell? ⟨w.heap.size, 4, none⟩ = some (.slice aah d.hs.length cch) := cell_of_row wh3 _ 4 _ _ _ hx
        have kw5 : wh3.cell? ⟨w.heap.size, 5, none⟩ = some (.slice aal d.ls.length ccl) := cell_of_row wh3 _ 5 _ _ _ hx
        have kw6 : wh3.cell? ⟨w.heap.size, 6, none⟩ = some (.slice aag d.gs.length ccg) := cell_of_row wh3 _ 6 _ _ _ hx
        have kw7 : wh3.cell? ⟨w.heap.size, 7, none⟩ = some (.slice aap d.ps.length ccp) := cell_of_row wh3 _ 7 _ _ _ hx
        have kw8 : wh3.cell? ⟨w.heap.size, 8, none⟩ = some (.int .i64 d.nx) := cell_of_row wh3 _ 8 _ _ _ hx
        have kw9 : wh3.cell? ⟨w.heap.size, 9, none⟩ = some (.slice aaa d.ga.length cca) := cell_of_row wh3 _ 9 _ _ _ hx
        have kw10 : wh3.cell? ⟨w.heap.size, 10, none⟩ = some (.slice aat d.tk.length cct) := cell_of_row wh3 _ 10 _ _ _ hx
        go_wp2_with fail
        clear kw0 kw1 kw2 kw3 kw4 kw5 kw6 kw7 kw8 kw9 kw10
        refine (linksfit_any _ _ _ _ _ _ _ _ _ d B _ (R0.below hB) hpl.1 hpl.2).mono ?_
        rintro e wh4 ⟨rfl, hb⟩
        replace hx := blk_bel hx hb
        replace hB := hB.trans (hb.mono hB.size)
        clear hb
        obtain ⟨bh4, h4⟩ : ∃ b, lksB d = b := ⟨_, rfl⟩
        rw [h4]
        cases bh4 with
        | false =>
          have HR : Hid (worldB d = false) := by
            unfold Hid worldB
            rw [h4]; simp
          go_wp2
          go_ret
          exact ⟨by rw [HR.out]; rfl, hB⟩
        | true =>
          have kw0 : wh4.cell? ⟨w.heap.size, 0, none⟩ = some (.slice aan d.ns.length ccn) := cell_of_row wh4 _ 0 _ _ _ hx
          have kw1 : wh4.cell? ⟨w.heap.size, 1, none⟩ = some (.slice aai d.is.length cci) := cell_of_row wh4 _ 1 _ _ _ hx
          have kw2 : wh4.cell? ⟨w.heap.size, 2, none⟩ = some (.slice aaf d.ds.length ccf) := cell_of_row wh4 _ 2 _ _ _ hx
          have kw3 : wh4.cell? ⟨w.heap.size, 3, none⟩ = some (.int .i64 d.pl) := cell_of_row wh4 _ 3 _ _ _ hx
          have kw4 : wh4.cell? ⟨w.heap.size, 4, none⟩ = some (.slice aah d.hs.length cch) := cell_of_row wh4 _ 4 _ _ _ hx
          have kw5 : wh4.cell? ⟨w.heap.size, 5, none⟩ = some (.slice aal d.ls.length ccl) := cell_of_row wh4 _ 5 _ _ _ hx
          have kw6 : wh4.cell? ⟨w.heap.size, 6, none⟩ = some (.slice aag d.gs.length ccg) := cell_of_row wh4 _ 6 _ _ _ hx
          have kw7 : wh4.cell? ⟨w.heap.size, 7, none⟩ = some (.slice aap d.ps.length ccp) := cell_of_row wh4 _ 7 _ _ _ hx
          have kw8 : wh4.cell? ⟨w.heap.size, 8, none⟩ = some (.int .i64 d.nx) := cell_of_row wh4 _ 8 _ _ _ hx
          have kw9 : wh4.cell? ⟨w.heap.size, 9, none⟩ = some (.slice aaa d.ga.length cca) := cell_of_row wh4 _ 9 _ _ _ hx
          have kw10 : wh4.cell? ⟨w.heap.size, 10, none⟩ = some (.slice aat d.tk.length cct) := cell_of_row wh4 _ 10 _ _ _ hx
          go_wp2_with fail
          clear kw0 kw1 kw2 kw3 kw4 kw5 kw6 kw7 kw8 kw9 kw10
          refine (gramsfit_any _ _ _ _ _ _ _ _ _ d B _ (R0.below hB)).mono ?_
          rintro e wh5 ⟨rfl, hb⟩
          replace hx := blk_bel hx hb
          replace hB := hB.trans (hb.mono hB.size)
          clear hb
          obtain ⟨bh5, h5⟩ : ∃ b, (decide (d.gs.length ≤ 12) && d.gs.all (gmB d.pl)) = b := ⟨_, rfl⟩
          rw [h5]
          cases bh5 with
          | false =>
            have HR : Hid (worldB d = false) := by
              unfold Hid worldB
              have q : (d.gs.all (gmB d.pl) && decide (d.gs.length ≤ 12)) = false := by rw [Bool.and_comm]; exact h5
              rw [q]; simp
            go_wp2
            go_ret
            exact ⟨by rw [HR.out]; rfl, hB⟩
          | true =>
            have kw0 : wh5.cell? ⟨w.heap.size, 0, none⟩ = some (.slice aan d.ns.length ccn) := cell_of_row wh5 _ 0 _ _ _ hx
            have kw1 : wh5.cell? ⟨w.heap.size, 1, none⟩ = some (.slice aai d.is.length cci) := cell_of_row wh5 _ 1 _ _ _ hx
            have kw2 : wh5.cell? ⟨w.heap.size, 2, none⟩ = some (.slice aaf d.ds.length ccf) := cell_of_row wh5 _ 2 _ _ _ hx
            have kw3 : wh5.cell? ⟨w.heap.size, 3, none⟩ = some (.int .i64 d.pl) := cell_of_row wh5 _ 3 _ _ _ hx
            have kw4 : wh5.cell? ⟨w.heap.size, 4, none⟩ = some (.slice aah d.hs.length cch) := cell_of_row wh5 _ 4 _ _ _ hx
            have kw5 : wh5.cell? ⟨w.heap.size, 5, none⟩ = some (.slice aal d.ls.length ccl) := cell_of_row wh5 _ 5 _ _ _ hx
            have kw6 : wh5.cell? ⟨w.heap.size, 6, none⟩ = some (.slice aag d.gs.length ccg) := cell_of_row wh5 _ 6 _ _ _ hx
            have kw7 : wh5.cell? ⟨w.heap.size, 7, none⟩ = some (.slice aap d.ps.length ccp) := cell_of_row wh5 _ 7 _ _ _ hx
            have kw8 : wh5.cell? ⟨w.heap.size, 8, none⟩ = some (.int .i64 d.nx) := cell_of_row wh5 _ 8 _ _ _ hx
            have kw9 : wh5.cell? ⟨w.heap.size, 9, none⟩ = some (.slice aaa d.ga.length cca) := cell_of_row wh5 _ 9 _ _ _ hx
            have kw10 : wh5.cell? ⟨w.heap.size, 10, none⟩ = some (.slice aat d.tk.length cct) := cell_of_row wh5 _ 10 _ _ _ hx
            go_wp2_with fail
            clear kw0 kw1 kw2 kw3 kw4 kw5 kw6 kw7 kw8 kw9 kw10
            refine (parkedfits_any _ _ _ _ _ _ _ _ _ d B _ (R0.below hB)).mono ?_
            rintro e wh6 ⟨rfl, hb⟩
            replace hx := blk_bel hx hb
            replace hB := hB.trans (hb.mono hB.size)
            clear hb
            obtain ⟨bh6, h6⟩ : ∃ b, (decide (d.ps.length ≤ 20) && d.ps.all (pdB d.pl)) = b := ⟨_, rfl⟩
            rw [h6]
            cases bh6 with
            | false =>
              have HR : Hid (worldB d = false) := by
                unfold Hid worldB
                have q : (d.ps.all (pdB d.pl) && decide (d.ps.length ≤ 20)) = false := by rw [Bool.and_comm]; exact h6
                rw [q]; simp
              go_wp2
              go_ret
              exact ⟨by rw [HR.out]; rfl, hB⟩
            | true =>
              have kc : wh6.cell? ⟨w.heap.size, 0 + 8, none⟩ = some (.int .i64 d.nx) := cell_of_row _ _ 8 _ _ _ hx
              go_wp2_with fail
              clear kc
              refine (ispid_any d.nx _).mono ?_
              rintro e wE ⟨rfl, rfl⟩
              obtain ⟨bh7, h7⟩ : ∃ b, pidB d.nx = b := ⟨_, rfl⟩
              rw [h7]
              cases bh7 with
              | false =>
                have HR : Hid (worldB d = false) := by
                  unfold Hid worldB
                  rw [h7]; simp
                go_wp2
                go_ret
                exact ⟨by rw [HR.out]; rfl, hB⟩
              | true =>
                have HR : Hid (worldB d = true) := by unfold Hid worldB; rw [Bool.and_comm] at h3 h5 h6; rw [h1, h2, h4, h7, h3, h5, h6]; rfl
                go_wp2
                go_ret
                exact ⟨by rw [HR.out]; rfl, hB⟩
set_option maxRecDepth 100000 in
set_option maxHeartbeats 6400000 in
theorem sworldok_any (vn vi vf vh vl vg vp va vt : Value) (d : Wd) (B : Nat) (w : World) (R : WR B w vn vi vf vh vl vg vp va vt d) (hsm : ∀ x ∈ d.hs, SmH x) :
    Calls Tryz.prog 6 #[.agg #[vn, vi, vf, .int .i64 d.pl, vh, vl, vg, vp, .int .i64 d.nx, va, vt]] w fun e w' => e = .returned (.bool (worldB d)) ∧ Below w.heap.size w w' := by
  have R0 := R
  obtain ⟨⟨aan, ccn, rfl⟩, ⟨aai, cci, rfl⟩, ⟨aaf, ccf, rfl⟩, ⟨aah, cch, rfl⟩, ⟨aal, ccl, rfl⟩, ⟨aag, ccg, rfl⟩, ⟨aap, ccp, rfl⟩, ⟨aaa, cca, rfl⟩, ⟨aat, cct, rfl⟩⟩ := R.form
  have hB := alloc_bel w (Obj.cells #[.slice aan d.ns.length ccn, .slice aai d.is.length cci, .slice aaf d.ds.length ccf, .int .i64 d.pl, .slice aah d.hs.length cch, .slice aal d.ls.length ccl, .slice aag d.gs.length ccg, .slice aap d.ps.length ccp, .int .i64 d.nx, .slice aaa d.ga.length cca, .slice aat d.tk.length cct] 50)
  have hx := heap_alloc_new w (Obj.cells #[.slice aan d.ns.length ccn, .slice aai d.is.length cci, .slice aaf d.ds.length ccf, .int .i64 d.pl, .slice aah d.hs.length cch, .slice aal d.ls.length ccl, .slice aag d.gs.length ccg, .slice aap d.ps.length ccp, .int .i64 d.nx, .slice aaa d.ga.length cca, .slice aat d.tk.length cct] 50)
  go_enter Tryz.func6, Tryz.ntmps6
  go_wp2_with fail
  refine (lin_any _ _ _ _).mono ?_
  rintro e wE ⟨rfl, rfl⟩
  obtain ⟨bh2, h2⟩ : ∃ b, (decide (1 ≤ d.pl) && decide (d.pl ≤ 3)) = b := ⟨_, rfl⟩
  rw [h2]
  cases bh2 with
  | false =>
    have HR : Hid (worldB d = false) := by
      unfold Hid worldB
      have q : placesB d.pl = false := h2
      rw [q]; simp
    go_wp2
    go_ret
    exact ⟨by rw [HR.out]; rfl, hB⟩
  | true =>
    have kc : (w.alloc (Obj.cells #[.slice aan d.ns.length ccn, .slice aai d.is.length cci, .slice aaf d.ds.length ccf, .int .i64 d.pl, .slice aah d.hs.length cch, .slice aal d.ls.length ccl, .slice aag d.gs.length ccg, .slice aap d.ps.length ccp, .int .i64 d.nx, .slice aaa d.ga.length cca, .slice aat d.tk.length cct] 50)).cell? ⟨w.heap.size, 0 + 8, none⟩ = some (.int .i64 d.nx) := cell_of_row _ _ 8 _ _ _ hx
    go_wp2_with fail
    clear kc
    refine (lin_any _ _ _ _).mono ?_
    rintro e wE ⟨rfl, rfl⟩
    obtain ⟨bh7, h7⟩ : ∃ b, (decide (1 ≤ d.nx) && decide (d.nx ≤ 1000000000)) = b := ⟨_, rfl⟩
    rw [h7]
    cases bh7 with
    | false =>
      have HR : Hid (worldB d = false) := by
        unfold Hid worldB
        rw [pid_in h7]; simp
      go_wp2
      go_ret
      exact ⟨by rw [HR.out]; rfl, hB⟩
    | true =>
      have hpl := placesB_nums h2
      have kw0 : (w.alloc (Obj.cells #[.slice aan d.ns.length ccn, .slice aai d.is.length cci, .slice aaf d.ds.length ccf, .int .i64 d.pl, .slice aah d.hs.length cch, .slice aal d.ls.length ccl, .slice aag d.gs.length ccg, .slice aap d.ps.length ccp, .int .i64 d.nx, .slice aaa d.ga.length cca, .slice aat d.tk.length cct] 50)).cell? ⟨w.heap.size, 0, none⟩ = some (.slice aan d.ns.length ccn) := cell_of_row (w.alloc (Obj.cells #[.slice aan d.ns.length ccn, .slice aai d.is.length cci, .slice aaf d.ds.length ccf, .int .i64 d.pl, .slice aah d.hs.length cch, .slice aal d.ls.length ccl, .slice aag d.gs.length ccg, .slice aap d.ps.length ccp, .int .i64 d.nx, .slice aaa d.ga.length cca, .slice aat d.tk.length cct] 50)) _ 0 _ _ _ hx
      have kw1 : (w.alloc (Obj.cells #[.slice aan d.ns.length ccn, .slice aai d.is.length cci, .slice aaf d.ds.length ccf, .int .i64 d.pl, .slice aah d.hs.length cch, .slice aal d.ls.length ccl, .slice aag d.gs.length ccg, .slice aap d.ps.length ccp, .int .i64 d.nx, .slice aaa d.ga.length cca, .slice aat d.tk.length cct] 50)).cell? ⟨w.heap.size, 1, none⟩ = some (.slice aai d.is.length cci) := cell_of_row (w.alloc (Obj.cells #[.slice aan d.ns.length ccn, .slice aai d.is.length cci, .slice aaf d.ds.length ccf, .int .i64 d.pl, .slice aah d.hs.length cch, .slice aal d.ls.length ccl, .slice aag d.gs.length ccg, .slice aap d.ps.length ccp, .int .i64 d.nx, .slice aaa d.ga.length cca, .slice aat d.tk.length cct] 50)) _ 1 _ _ _ hx
      have kw2 : (w.alloc (Obj.cells #[.slice aan d.ns.length ccn, .slice aai d.is.length cci, .slice aaf d.ds.length ccf, .int .i64 d.pl, .slice aah d.hs.length cch, .slice aal d.ls.length ccl, .slice aag d.gs.length ccg, .slice aap d.ps.length ccp, .int .i64 d.nx, .slice aaa d.ga.length cca, .slice aat d.tk.length cct] 50)).cell? ⟨w.heap.size, 2, none⟩ = some (.slice aaf d.ds.length ccf) := cell_of_row (w.alloc (Obj.cells #[.slice aan d.ns.length ccn, .slice aai d.is.length cci, .slice aaf d.ds.length ccf, .int .i64 d.pl, .slice aah d.hs.length cch, .slice aal d.ls.length ccl, .slice aag d.gs.length ccg, .slice aap d.ps.length ccp, .int .i64 d.nx, .slice aaa d.ga.length cca, .slice aat d.tk.length cct] 50)) _ 2 _ _ _ hx
      go_wp2_with fail
      clear kw0 kw1 kw2
      refine (scodeok_any _ _ _ d.ns d.is d.ds _ (R0.rn.below hB) (R0.ri.below hB) (R0.rf.below hB)).mono ?_
      rintro e wh1 ⟨rfl, hb⟩
      replace hx := blk_bel hx hb
      replace hB := hB.trans (hb.mono hB.size)
      clear hb
      obtain ⟨bh1, h1⟩ : ∃ b, codeB d.ns d.is d.ds = b := ⟨_, rfl⟩
      rw [h1]
      cases bh1 with
      | false =>
        have HR : Hid (worldB d = false) := by
          unfold Hid worldB
          rw [h1]; rfl
        go_wp2
        go_ret
        exact ⟨by rw [HR.out]; rfl, hB⟩
      | true =>
        have kw0 : wh1.cell? ⟨w.heap.size, 0, none⟩ = some (.slice aan d.ns.length ccn) := cell_of_row wh1 _ 0 _ _ _ hx
        have kw1 : wh1.cell? ⟨w.heap.size, 1, none⟩ = some (.slice aai d.is.length cci) := cell_of_row wh1 _ 1 _ _ _ hx
        have kw2 : wh1.cell? ⟨w.heap.size, 2, none⟩ = some (.slice aaf d.ds.length ccf) := cell_of_row wh1 _ 2 _ _ _ hx
        have kw3 : wh1.cell? ⟨w.heap.size, 3, none⟩ = some (.int .i64 d.pl) := cell_of_row wh1 _ 3 _ _ _ hx
        have kw4 : wh1.cell? ⟨w.heap.size, 4, none⟩ = some (.slice aah d.hs.length cch) := cell_of_row wh1 _ 4 _ _ _ hx
        have kw5 : wh1.cell? ⟨w.heap.size, 5, none⟩ = some (.slice aal d.ls.length ccl) := cell_of_row wh1 _ 5 _ _ _ hx
        have kw6 : wh1.cell? ⟨w.heap.size, 6, none⟩ = some (.slice aag d.gs.length ccg) := cell_of_row wh1 _ 6 _ _ _ hx
        have kw7 : wh1.cell? ⟨w.heap.size, 7, none⟩ = some (.slice aap d.ps.length ccp) := cell_of_row wh1 _ 7 _ _ _ hx
        have kw8 : wh1.cell? ⟨w.heap.size, 8, none⟩ = some (.int .i64 d.nx) := cell_of_row wh1 _ 8 _ _ _ hx
        have kw9 : wh1.cell? ⟨w.heap.size, 9, none⟩ = some (.slice aaa d.ga.length cca) := cell_of_row wh1 _ 9 _ _ _ hx
        have kw10 : wh1.cell? ⟨w.heap.size, 10, none⟩ = some (.slice aat d.tk.length cct) := cell_of_row wh1 _ 10 _ _ _ hx
        go_wp2_with fail
        clear kw0 kw1 kw2 kw3 kw4 kw5 kw6 kw7 kw8 kw9 kw10
        refine (s13homes_any _ _ _ _ _ _ _ _ _ d B _ (R0.below hB) hpl.1 hpl.2 hsm).mono ?_
        rintro e wh3 ⟨rfl, hb⟩
        replace hx := blk_bel hx hb
        replace hB := hB.trans (hb.mono hB.size)
        clear hb
        obtain ⟨bh3, h3⟩ : ∃ b, (d.hs.all (hmB d.ns d.is d.ds d.pl) && decide (d.hs.length ≤ 8)) = b := ⟨_, rfl⟩
        rw [h3]
        cases bh3 with
        | false =>
          have HR : Hid (worldB d = false) := by
            unfold Hid worldB
            rw [h3]; simp
          go_wp2
          go_ret
          exact ⟨by rw [HR.out]; rfl, hB⟩
        | true =>
          have kw0 : wh3.cell? ⟨w.heap.size, 0, none⟩ = some (.slice aan d.ns.length ccn) := cell_of_row wh3 _ 0 _ _ _ hx
          have kw1 : wh3.cell? ⟨w.heap.size, 1, none⟩ = some (.slice aai d.is.length cci) := cell_of_row wh3 _ 1 _ _ _ hx
          have kw2 : wh3.cell? ⟨w.heap.size, 2, none⟩ = some (.slice aaf d.ds.length ccf) := cell_of_row wh3 _ 2 _ _ _ hx
          have kw3 : wh3.cell? ⟨w.heap.size, 3, none⟩ = some (.int .i64 d.pl) := cell_of_row wh3 _ 3 _ _ _ hx
          have kw4 : wh3.cell? ⟨w.heap.size, 4, none⟩ = some (.slice aah d.hs.length cch) := cell_of_row wh3 _ 4 _ _ _ hx
          have kw5 : wh3.cell? ⟨w.heap.size, 5, none⟩ = some (.slice aal d.ls.length ccl) := cell_of_row wh3 _ 5 _ _ _ hx
          have kw6 : wh3.cell? ⟨w.heap.size, 6, none⟩ = some (.slice aag d.gs.length ccg) := cell_of_row wh3 _ 6 _ _ _ hx
          have kw7 : wh3.cell? ⟨w.heap.size, 7, none⟩ = some (.slice aap d.ps.length ccp) := cell_of_row wh3 _ 7 _ _ _ hx
          have kw8 : wh3.cell? ⟨w.heap.size, 8, none⟩ = some (.int .i64 d.nx) := cell_of_row wh3 _ 8 _ _ _ hx
          have kw9 : wh3.cell? ⟨w.heap.size, 9, none⟩ = some (.slice aaa d.ga.length cca) := cell_of_row wh3 _ 9 _ _ _ hx
          have kw10 : wh3.cell? ⟨w.heap.size, 10, none⟩ = some (.slice aat d.tk.length cct) := cell_of_row wh3 _ 10 _ _ _ hx
          go_wp2_with fail
          clear kw0 kw1 kw2 kw3 kw4 kw5 kw6 kw7 kw8 kw9 kw10
          refine (s13links_any _ _ _ _ _ _ _ _ _ d B _ (R0.below hB) hpl.1 hpl.2).mono ?_
          rintro e wh4 ⟨rfl, hb⟩
          replace hx := blk_bel hx hb
          replace hB := hB.trans (hb.mono hB.size)
          clear hb
          obtain ⟨bh4, h4⟩ : ∃ b, lksB d = b := ⟨_, rfl⟩
          rw [h4]
          cases bh4 with
          | false =>
            have HR : Hid (worldB d = false) := by
              unfold Hid worldB
              rw [h4]; simp
            go_wp2
            go_ret
            exact ⟨by rw [HR.out]; rfl, hB⟩
          | true =>
            have kw0 : wh4.cell? ⟨w.heap.size, 0, none⟩ = some (.slice aan d.ns.length ccn) := cell_of_row wh4 _ 0 _ _ _ hx
            have kw1 : wh4.cell? ⟨w.heap.size, 1, none⟩ = some (.slice aai d.is.length cci) := cell_of_row wh4 _ 1 _ _ _ hx
            have kw2 : wh4.cell? ⟨w.heap.size, 2, none⟩ = some (.slice aaf d.ds.length ccf) := cell_of_row wh4 _ 2 _ _ _ hx
            have kw3 : wh4.cell? ⟨w.heap.size, 3, none⟩ = some (.int .i64 d.pl) := cell_of_row wh4 _ 3 _ _ _ hx
            have kw4 : wh4.cell? ⟨w.heap.size, 4, none⟩ = some (.slice aah d.hs.length cch) := cell_of_row wh4 _ 4 _ _ _ hx
            have kw5 : wh4.cell? ⟨w.heap.size, 5, none⟩ = some (.slice aal d.ls.length ccl) := cell_of_row wh4 _ 5 _ _ _ hx
            have kw6 : wh4.cell? ⟨w.heap.size, 6, none⟩ = some (.slice aag d.gs.length ccg) := cell_of_row wh4 _ 6 _ _ _ hx
            have kw7 : wh4.cell? ⟨w.heap.size, 7, none⟩ = some (.slice aap d.ps.length ccp) := cell_of_row wh4 _ 7 _ _ _ hx
            have kw8 : wh4.cell? ⟨w.heap.size, 8, none⟩ = some (.int .i64 d.nx) := cell_of_row wh4 _ 8 _ _ _ hx
            have kw9 : wh4.cell? ⟨w.heap.size, 9, none⟩ = some (.slice aaa d.ga.length cca) := cell_of_row wh4 _ 9 _ _ _ hx
            have kw10 : wh4.cell? ⟨w.heap.size, 10, none⟩ = some (.slice aat d.tk.length cct) := cell_of_row wh4 _ 10 _ _ _ hx
            go_wp2_with fail
            clear kw0 kw1 kw2 kw3 kw4 kw5 kw6 kw7 kw8 kw9 kw10
            refine (s13grams_any _ _ _ _ _ _ _ _ _ d B _ (R0.below hB) hpl.1 hpl.2).mono ?_
            rintro e wh5 ⟨rfl, hb⟩
            replace hx := blk_bel hx hb
            replace hB := hB.trans (hb.mono hB.size)
            clear hb
            obtain ⟨bh5, h5⟩ : ∃ b, ((d.gs.all (gmB d.pl) && d.ps.all (pdB d.pl)) && (decide (d.gs.length ≤ 12) && decide (d.ps.length ≤ 20))) = b := ⟨_, rfl⟩
            rw [h5]
            cases bh5 with
            | false =>
              have HR : Hid (worldB d = false) := by
                unfold Hid worldB
                cases q1 : d.gs.all (gmB d.pl) <;> cases q2 : d.ps.all (pdB d.pl) <;> cases q3 : decide (d.gs.length ≤ 12) <;> cases q4 : decide (d.ps.length ≤ 20) <;> simp [q1, q2, q3, q4] at h5 ⊢
              go_wp2
              go_ret
              exact ⟨by rw [HR.out]; rfl, hB⟩
            | true =>
              have HR : Hid (worldB d = true) := by unfold Hid worldB; have q2 : placesB d.pl = true := h2; simp only [Bool.and_eq_true] at h5; obtain ⟨⟨g1, g2⟩, g3, g4⟩ := h5; rw [h1, h4, q2, pid_in h7, h3, g1, g2, g3, g4]; rfl
              go_wp2
              go_ret
              exact ⟨by rw [HR.out]; rfl, hB⟩
end Go.Proofs.YtenegpbpalbpeaaGreatDoor
