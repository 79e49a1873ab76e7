/-
  Texts that stood by themselves, laid into one.
-/
import Derived.Test.YtenegpbpalbpeaaGreatDoorWOkRM
import Derived.Test.YtenegpbpalbpeaaGreatDoorWOkIM
import Derived.Test.YtenegpbpalbpeaaGreatDoorPrRegM
import Derived.Test.YtenegpbpalbpeaaGreatDoorSIntoM
/-
  Contracts of spec's l13Homes and l13Grams. No condition but that there are 1 to 3 places.
-/
namespace Go.Proofs.YtenegpbpalbpeaaGreatDoor
open Go.RowKit
theorem hasP_in (pl a : Int) : (decide (0 ≤ a) && decide (a ≤ pl - 1)) = hasP pl a := by
  unfold hasP
  congr 1
  rw [Bool.eq_iff_iff]
  simp
  omega
set_option maxRecDepth 100000 in
set_option maxHeartbeats 6400000 in
theorem s13homes_any (vn vi vf vh vl vg vp va vt : Value) (d : Wd) (B : Nat) (w : World) (R : WR B w vn vi vf vh vl vg vp va vt d) (hp1 : 1 ≤ d.pl) (hp2 : d.pl ≤ 3) (hsm : ∀ x ∈ d.hs, SmH x) :
    Calls Tryz.prog 25 #[.agg #[vn, vi, vf, .int .i64 d.pl, vh, vl, vg, vp, .int .i64 d.nx, va, vt]] w fun e w' => e = .returned (.bool (d.hs.all (hmB d.ns d.is d.ds d.pl) && decide (d.hs.length ≤ 8))) ∧ Below w.heap.size w w' := by
  have R0 := R
  obtain ⟨⟨aan, ccn, rfl⟩, ⟨aai, cci, rfl⟩, ⟨aaf, ccf, rfl⟩, ⟨aah, cch, rfl⟩, ⟨aal, ccl, rfl⟩, ⟨aag, ccg, rfl⟩, ⟨aap, ccp, rfl⟩, ⟨aaa, cca, rfl⟩, ⟨aat, cct, rfl⟩⟩ := R.form
  have hB0 := alloc_bel w (Obj.cells #[.slice aan d.ns.length ccn, .slice aai d.is.length cci, .slice aaf d.ds.length ccf, .int .i64 d.pl, .slice aah d.hs.length cch, .slice aal d.ls.length ccl, .slice aag d.gs.length ccg, .slice aap d.ps.length ccp, .int .i64 d.nx, .slice aaa d.ga.length cca, .slice aat d.tk.length cct] 50)
  have hx0 := heap_alloc_new w (Obj.cells #[.slice aan d.ns.length ccn, .slice aai d.is.length cci, .slice aaf d.ds.length ccf, .int .i64 d.pl, .slice aah d.hs.length cch, .slice aal d.ls.length ccl, .slice aag d.gs.length ccg, .slice aap d.ps.length ccp, .int .i64 d.nx, .slice aaa d.ga.length cca, .slice aat d.tk.length cct] 50)
  go_enter Tryz.func25, Tryz.ntmps25
  go_wp2_with fail
  generalize w.alloc (Obj.cells #[.slice aan d.ns.length ccn, .slice aai d.is.length cci, .slice aaf d.ds.length ccf, .int .i64 d.pl, .slice aah d.hs.length cch, .slice aal d.ls.length ccl, .slice aag d.gs.length ccg, .slice aap d.ps.length ccp, .int .i64 d.nx, .slice aaa d.ga.length cca, .slice aat d.tk.length cct] 50) = w0 at *
  obtain ⟨ao, cap, hh, hcap, hm, hcell⟩ := R0.rh
  simp only [Value.slice.injEq] at hh
  obtain ⟨rfl, _, rfl⟩ := hh
  go_loopw [3] (fun i wr => ∃ k : Nat, k ≤ d.hs.length ∧ i = .int .i64 k ∧ Hid ((d.hs.take k).all (hmB d.ns d.is d.ds d.pl) = true) ∧ Below w0.heap.size w0 wr) (fun i _ => d.hs.length - (intOf i).toNat)
  case atStart => exact ⟨0, by omega, rfl, by simp [Hid], Below.refl _ _⟩
  case round =>
    obtain ⟨k, hk, rfl, HK, hb⟩ := hrel
    have hB := hB0.trans (hb.mono hB0.size)
    have hx := blk_bel hx0 hb
    have kh : wr.cell? ⟨w.heap.size, 0 + 4, none⟩ = some (.slice aah d.hs.length cch) := cell_of_row _ _ 4 _ _ _ hx
    by_cases hlt : k < d.hs.length
    · obtain ⟨g, o, rfl, _, hg, hcell⟩ := hcell (by intro e; rw [e] at hlt; simp at hlt)
      obtain ⟨x, hx'⟩ : ∃ x, d.hs[k]? = some x := ⟨d.hs[k], by simp [hlt]⟩
      obtain ⟨cs, hcs, hr, v1, v2, v3, hc, P1, P2, P3, _, _, _⟩ := hcell k x hx'
      obtain ⟨p1, q1, rfl⟩ := P1.small8
      obtain ⟨p2, q2, rfl⟩ := P2.small
      obtain ⟨p3, q3, rfl⟩ := P3.small
      have HX' : Hid (d.hs[k]? = some x) := hx'
      have hzx : ∀ y ∈ x.bx, y.size ≤ 140737488351232 := fun y hy => Nat.le_trans ((hsm x (List.mem_of_getElem? hx')).2.2.2 y hy) (by decide)
      obtain rfl : cs = (#[.int .i64 x.pl, .int .i64 x.i, .slice p1 x.xs.length q1, .int .i64 x.m.p, .int .i64 x.m.s, .int .i64 x.m.e, .int .i64 x.m.d, .int .i64 x.m.t, .int .i64 x.m.q, .int .i64 x.m.r, .slice p2 x.bx.length q2, .slice p3 x.ox.length q3] : Array Value).toList := congrArg Array.toList hc
      replace hr := range_below hr hB hg
      have hg' := Nat.lt_of_lt_of_le hg hB.size
      clear hcell hx' hcs hc
      have hin := hasP_in d.pl x.pl
      go_wp2_with fail
      clear kh
      cases h1 : hasP d.pl x.pl with
      | false =>
        rw [h1] at hin
        have HF : hmB d.ns d.is d.ds d.pl x = false := by unfold hmB; rw [h1]; rfl
        refine s13h_r4n w.heap.size g o k aan aai aaf aal aag aap aaa aat ccn cci ccf cch ccl ccg ccp cca cct d x _ _ _ wr _ hx hr hg' hlt hp1 hp2 hin ?_
        intro u11 u12 u13 u14 u15 u16 u17 u18 u19 u20 u21 u22 u23 u24 u25 u26 u27 u28 u29 u30 u31 u32 W hW
        have hBQ := hB.trans (hW.mono hB.size)
        have HR : Hid (d.hs.all (hmB d.ns d.is d.ds d.pl) = false) := wall_miss HX'.out HF
        clear HK HX'
        go_wp2
        go_ret
        exact ⟨by rw [HR.out]; rfl, hBQ⟩
      | true =>
        rw [h1] at hin
        have HF0 : Hid (hmB d.ns d.is d.ds d.pl x = procB d.ns d.is d.ds x.i x.xs x.m x.bx x.ox) := by unfold Hid hmB; rw [h1]; simp
        have HC := fun (W : World) (hW : Below wr.heap.size wr W) => sprocok_any _ _ _ _ _ _ d.ns d.is d.ds x.i x.xs x.m x.bx x.ox W (R0.rn.below (hB.trans (hW.mono hB.size))) (R0.ri.below (hB.trans (hW.mono hB.size))) (R0.rf.below (hB.trans (hW.mono hB.size))) (P1.below (hB.trans (hW.mono hB.size))) (P2.below (hB.trans (hW.mono hB.size))) (P3.below (hB.trans (hW.mono hB.size))) hzx
        obtain ⟨kb, hkb⟩ : ∃ b, procB d.ns d.is d.ds x.i x.xs x.m x.bx x.ox = b := ⟨_, rfl⟩
        rw [hkb] at HC HF0
        clear hkb
        refine s13h_r4y w.heap.size g o k aan aai aaf aal aag aap aaa aat ccn cci ccf cch ccl ccg ccp cca cct d x _ _ _ wr _ hx hr hg' hlt hp1 hp2 hin kb HC ?_
        intro u11 u12 u13 u14 u15 u16 u17 u18 u19 u20 u21 u22 u23 u24 u25 u26 u27 u28 u29 u30 u31 u32 W hW
        have hBQ := hB.trans (hW.mono hB.size)
        have hBR := hb.trans (hW.mono hb.size)
        clear HC
        cases kb with
        | false =>
          have HF : hmB d.ns d.is d.ds d.pl x = false := HF0.out
          have HR : Hid (d.hs.all (hmB d.ns d.is d.ds d.pl) = false) := wall_miss HX'.out HF
          clear HK HX'
          go_wp2
          go_ret
          exact ⟨by rw [HR.out]; rfl, hBQ⟩
        | true =>
          have HF : hmB d.ns d.is d.ds d.pl x = true := HF0.out
          have HK2 : Hid ((d.hs.take (k + 1)).all (hmB d.ns d.is d.ds d.pl) = true) := wall_step HK.out HX'.out HF
          clear HK HX'
          go_wp2
          go_roundw
          case rel => exact ⟨k + 1, by omega, by go_num, HK2, hBR⟩
          case measure => simp [intOf]; omega
    · have HR : Hid (d.hs.all (hmB d.ns d.is d.ds d.pl) = true) := wall_end HK.out (by omega)
      clear HK hcell
      by_cases h8 : d.hs.length ≤ 8
      · go_wp2
        go_ret
        exact ⟨by rw [HR.out]; simp [h8] <;> omega, hB⟩
      · go_wp2
        go_ret
        exact ⟨by rw [HR.out]; simp [h8] <;> omega, hB⟩
set_option maxRecDepth 100000 in
set_option maxHeartbeats 6400000 in
theorem s13grams_any (vn vi vf vh vl vg vp va vt : Value) (d : Wd) (B : Nat) (w : World) (R : WR B w vn vi vf vh vl vg vp va vt d) (hp1 : 1 ≤ d.pl) (hp2 : d.pl ≤ 3) :
    Calls Tryz.prog 27 #[.agg #[vn, vi, vf, .int .i64 d.pl, vh, vl, vg, vp, .int .i64 d.nx, va, vt]] w fun e w' => e = .returned (.bool ((d.gs.all (gmB d.pl) && d.ps.all (pdB d.pl)) && (decide (d.gs.length ≤ 12) && decide (d.ps.length ≤ 20)))) ∧ Below w.heap.size w w' := by
  have R0 := R
  obtain ⟨⟨aan, ccn, rfl⟩, ⟨aai, cci, rfl⟩, ⟨aaf, ccf, rfl⟩, ⟨aah, cch, rfl⟩, ⟨aal, ccl, rfl⟩, ⟨aag, ccg, rfl⟩, ⟨aap, ccp, rfl⟩, ⟨aaa, cca, rfl⟩, ⟨aat, cct, rfl⟩⟩ := R.form
  have hB0 := alloc_bel w (Obj.cells #[.slice aan d.ns.length ccn, .slice aai d.is.length cci, .slice aaf d.ds.length ccf, .int .i64 d.pl, .slice aah d.hs.length cch, .slice aal d.ls.length ccl, .slice aag d.gs.length ccg, .slice aap d.ps.length ccp, .int .i64 d.nx, .slice aaa d.ga.length cca, .slice aat d.tk.length cct] 50)
  have hx0 := heap_alloc_new w (Obj.cells #[.slice aan d.ns.length ccn, .slice aai d.is.length cci, .slice aaf d.ds.length ccf, .int .i64 d.pl, .slice aah d.hs.length cch, .slice aal d.ls.length ccl, .slice aag d.gs.length ccg, .slice aap d.ps.length ccp, .int .i64 d.nx, .slice aaa d.ga.length cca, .slice aat d.tk.length cct] 50)
  go_enter Tryz.func27, Tryz.ntmps27
  go_wp2_with fail
  generalize w.alloc (Obj.cells #[.slice aan d.ns.length ccn, .slice aai d.is.length cci, .slice aaf d.ds.length ccf, .int .i64 d.pl, .slice aah d.hs.length cch, .slice aal d.ls.length ccl, .slice aag d.gs.length ccg, .slice aap d.ps.length ccp, .int .i64 d.nx, .slice aaa d.ga.length cca, .slice aat d.tk.length cct] 50) = w0 at *
  obtain ⟨ao, cap, hh, hcap, hm, hcell⟩ := R0.rg
  simp only [Value.slice.injEq] at hh
  obtain ⟨rfl, _, rfl⟩ := hh
  go_loopw [3] (fun i wr => ∃ k : Nat, k ≤ d.gs.length ∧ i = .int .i64 k ∧ Hid ((d.gs.take k).all (gmB d.pl) = true) ∧ Below w0.heap.size w0 wr) (fun i _ => d.gs.length - (intOf i).toNat)
  case atStart => exact ⟨0, by omega, rfl, by simp [Hid], Below.refl _ _⟩
  case round =>
    obtain ⟨k, hk, rfl, HK, hb⟩ := hrel
    have hB := hB0.trans (hb.mono hB0.size)
    have hx := blk_bel hx0 hb
    have kh : wr.cell? ⟨w.heap.size, 0 + 6, none⟩ = some (.slice aag d.gs.length ccg) := cell_of_row _ _ 6 _ _ _ hx
    by_cases hlt : k < d.gs.length
    · obtain ⟨g, o, rfl, _, hg, hcell⟩ := hcell (by intro e; rw [e] at hlt; simp at hlt)
      obtain ⟨x, hx'⟩ : ∃ x, d.gs[k]? = some x := ⟨d.gs[k], by simp [hlt]⟩
      obtain ⟨cs, hcs, hr, hc, _⟩ := hcell k x hx'
      have HX' : Hid (d.gs[k]? = some x) := hx'
      obtain rfl : cs = (#[.int .i64 x.k, .int .i64 x.f, .int .i64 x.t, .int .i64 x.n, .string x.s] : Array Value).toList := congrArg Array.toList hc
      replace hr := range_below hr hB hg
      clear hcell hx' hcs hc
      have hb3 := alloc_bel wr (Obj.cells #[.int .i64 x.k, .int .i64 x.f, .int .i64 x.t, .int .i64 x.n, .string x.s] 141)
      have hh3 : (wr.alloc (Obj.cells #[.int .i64 x.k, .int .i64 x.f, .int .i64 x.t, .int .i64 x.n, .string x.s] 141)).heap[wr.heap.size]? = some (Obj.cells #[.int .i64 x.k, .int .i64 x.f, .int .i64 x.t, .int .i64 x.n, .string x.s] 141) := heap_alloc_new _ _
      have hx3 := blk_bel hx hb3
      have hB3 := hB.trans (hb3.mono hB.size)
      have hbR := hb.trans (hb3.mono hb.size)
      have hE : Hid (gmB d.pl x = ((hasP d.pl x.f && hasP d.pl x.t) && ((decide (0 ≤ x.n) && decide (x.n ≤ 100000)) && (decide (x.k = 1) || (decide (x.k = 2) && x.s.toList.isEmpty))))) := rfl
      have f0 := hasP_in d.pl x.f
      have t0 := hasP_in d.pl x.t
      obtain ⟨W3, hW3⟩ : ∃ W3, Hid (wr.alloc (Obj.cells #[.int .i64 x.k, .int .i64 x.f, .int .i64 x.t, .int .i64 x.n, .string x.s] 141) = W3) := ⟨_, rfl⟩
      go_wp2_with (refine wpList_load_mid rfl 141 _ rfl g (o + k * 5) rfl _ _ hr Tryz.underlying141 rfl (by kernel_rfl) ?_)
      rw [hW3.out] at hb3 hh3 hx3 hB3 hbR ⊢
      clear hW3 hr hb3 kh
      have g1 : W3.cell? ⟨wr.heap.size, 0 + 1, none⟩ = some (.int .i64 x.f) := cell_of_row _ _ 1 _ _ _ hh3
      have g2 : W3.cell? ⟨wr.heap.size, 0 + 2, none⟩ = some (.int .i64 x.t) := cell_of_row _ _ 2 _ _ _ hh3
      have g3 : W3.cell? ⟨wr.heap.size, 3, none⟩ = some (.int .i64 x.n) := cell_of_row _ _ 3 _ _ _ hh3
      have g3' : W3.cell? ⟨wr.heap.size, 0 + 3, none⟩ = some (.int .i64 x.n) := g3
      have g4 : W3.cell? ⟨wr.heap.size, 0 + 3 + 1, none⟩ = some (.string x.s) := cell_of_row _ _ 4 _ _ _ hh3
      have g0 : W3.cell? ⟨wr.heap.size, 0, none⟩ = some (.int .i64 x.k) := cell_of_row _ _ 0 _ _ _ hh3
      have gp : W3.cell? ⟨w.heap.size, 0 + 3, none⟩ = some (.int .i64 d.pl) := cell_of_row _ _ 3 _ _ _ hx3
      refine (lin_any _ _ _ _).mono ?_
      rintro e wE ⟨rfl, rfl⟩
      cases hk1 : (decide (1 ≤ x.k) && decide (x.k ≤ 2)) with
      | false =>
        have HF : gmB d.pl x = false := by rw [hE.out]; have q : ¬ (x.k = 1) ∧ ¬ (x.k = 2) := (by simp at hk1; omega); simp [q.1, q.2]
        have HR : Hid (d.gs.all (gmB d.pl) = false) := wall_miss HX'.out HF
        clear HK HX'
        go_wp2
        go_ret
        exact ⟨by rw [HR.out]; rfl, hB3⟩
      | true =>
        go_wp2_with fail
        refine (lin_any _ _ _ _).mono ?_
        rintro e wE ⟨rfl, rfl⟩
        rw [f0]
        cases hf : hasP d.pl x.f with
        | false =>
          have HF : gmB d.pl x = false := by rw [hE.out, hf]; rfl
          have HR : Hid (d.gs.all (gmB d.pl) = false) := wall_miss HX'.out HF
          clear HK HX'
          go_wp2
          go_ret
          exact ⟨by rw [HR.out]; rfl, hB3⟩
        | true =>
          go_wp2_with fail
          refine (lin_any _ _ _ _).mono ?_
          rintro e wE ⟨rfl, rfl⟩
          rw [t0]
          cases ht : hasP d.pl x.t with
          | false =>
            have HF : gmB d.pl x = false := by rw [hE.out, hf, ht]; rfl
            have HR : Hid (d.gs.all (gmB d.pl) = false) := wall_miss HX'.out HF
            clear HK HX'
            go_wp2
            go_ret
            exact ⟨by rw [HR.out]; rfl, hB3⟩
          | true =>
            go_wp2_with fail
            refine (lin_any _ _ _ _).mono ?_
            rintro e wE ⟨rfl, rfl⟩
            cases hn : (decide (0 ≤ x.n) && decide (x.n ≤ 100000)) with
            | false =>
              have HF : gmB d.pl x = false := by rw [hE.out, hf, ht, hn]; rfl
              have HR : Hid (d.gs.all (gmB d.pl) = false) := wall_miss HX'.out HF
              clear HK HX'
              go_wp2
              go_ret
              exact ⟨by rw [HR.out]; rfl, hB3⟩
            | true =>
              by_cases h2 : x.k = 2
              · have e2 : (x.k == 2) = true := by simp [h2]
                cases hs : x.s.toList.isEmpty with
                | false =>
                  have es : (x.s.toList != ([] : List UInt8)) = true := by cases h : x.s.toList with | nil => rw [h] at hs; cases hs | cons a b => rfl
                  have HF : gmB d.pl x = false := by rw [hE.out, hf, ht, hn, hs]; simp [h2]
                  have HR : Hid (d.gs.all (gmB d.pl) = false) := wall_miss HX'.out HF
                  clear HK HX'
                  go_wp2
                  go_ret
                  exact ⟨by rw [HR.out]; rfl, hB3⟩
                | true =>
                  have es : (x.s.toList != ([] : List UInt8)) = false := by cases h : x.s.toList with | nil => rfl | cons a b => rw [h] at hs; cases hs
                  have HF : gmB d.pl x = true := by rw [hE.out, hf, ht, hn, hs]; simp [h2]
                  have HK2 : Hid ((d.gs.take (k + 1)).all (gmB d.pl) = true) := wall_step HK.out HX'.out HF
                  clear HK HX'
                  go_wp2
                  go_roundw
                  case rel => exact ⟨k + 1, by omega, by go_num, HK2, hbR⟩
                  case measure => simp [intOf]; omega
              · have e2 : (x.k == 2) = false := by simp [h2]
                have HF : gmB d.pl x = true := by rw [hE.out, hf, ht, hn]; simp at hk1; have : x.k = 1 := (by omega); simp [this]
                have HK2 : Hid ((d.gs.take (k + 1)).all (gmB d.pl) = true) := wall_step HK.out HX'.out HF
                clear HK HX'
                go_wp2
                go_roundw
                case rel => exact ⟨k + 1, by omega, by go_num, HK2, hbR⟩
                case measure => simp [intOf]; omega
    · have HR : Hid (d.gs.all (gmB d.pl) = true) := wall_end HK.out (by omega)
      clear HK hcell
      obtain ⟨ao, cap, hh, hcap2, hm2, hcell⟩ := R0.rp
      simp only [Value.slice.injEq] at hh
      obtain ⟨rfl, _, rfl⟩ := hh
      go_wp2_with fail
      clear kh
      go_loopw [5] (fun i wr => ∃ k : Nat, k ≤ d.ps.length ∧ i = .int .i64 k ∧ Hid ((d.ps.take k).all (pdB d.pl) = true) ∧ Below w0.heap.size w0 wr) (fun i _ => d.ps.length - (intOf i).toNat)
      case atStart => exact ⟨0, by omega, rfl, by simp [Hid], hb⟩
      case round =>
        clear hx hb hB
        obtain ⟨k, hk, rfl, HK, hb⟩ := hrel
        have hB := hB0.trans (hb.mono hB0.size)
        have hx := blk_bel hx0 hb
        have kp : wr.cell? ⟨w.heap.size, 0 + 7, none⟩ = some (.slice aap d.ps.length ccp) := cell_of_row _ _ 7 _ _ _ hx
        have kg : wr.cell? ⟨w.heap.size, 0 + 6, none⟩ = some (.slice aag d.gs.length ccg) := cell_of_row _ _ 6 _ _ _ hx
        by_cases hlt : k < d.ps.length
        · obtain ⟨g, o, rfl, _, hg, hcell⟩ := hcell (by intro e; rw [e] at hlt; simp at hlt)
          obtain ⟨x, hx'⟩ : ∃ x, d.ps[k]? = some x := ⟨d.ps[k], by simp [hlt]⟩
          obtain ⟨cs, hcs, hr, hc, _⟩ := hcell k x hx'
          have HX' : Hid (d.ps[k]? = some x) := hx'
          obtain rfl : cs = (#[.int .i64 x.p, .int .i64 x.t, .string x.s] : Array Value).toList := congrArg Array.toList hc
          replace hr := range_below hr hB hg
          have hg' := Nat.lt_of_lt_of_le hg hB.size
          clear hcell hx' hcs hc
          have hin := hasP_in d.pl x.p
          have HF0 : Hid (pdB d.pl x = hasP d.pl x.p) := rfl
          go_wp2_with fail
          clear kp kg
          obtain ⟨pb, hpb⟩ : ∃ b, hasP d.pl x.p = b := ⟨_, rfl⟩
          rw [hpb] at hin HF0
          clear hpb
          refine s13g_r10 w.heap.size g o k aan aai aaf aah aal aag aaa aat ccn cci ccf cch ccl ccg ccp cca cct d x wr _ hx hr hg' hlt hp1 hp2 pb hin ?_
          intro u65 u66 u67 u68 u69 u70 u71 u72 u73 u74 W hW
          have hBQ := hB.trans (hW.mono hB.size)
          have hBR := hb.trans (hW.mono hb.size)
          cases pb with
          | false =>
            have HF : pdB d.pl x = false := HF0.out
            have HP : Hid (d.ps.all (pdB d.pl) = false) := wall_miss HX'.out HF
            clear HK HX'
            go_wp2
            go_ret
            exact ⟨by rw [HR.out, HP.out]; rfl, hBQ⟩
          | true =>
            have HF : pdB d.pl x = true := HF0.out
            have HK2 : Hid ((d.ps.take (k + 1)).all (pdB d.pl) = true) := wall_step HK.out HX'.out HF
            clear HK HX'
            go_wp2
            go_roundw
            case rel => exact ⟨k + 1, by omega, by go_num, HK2, hBR⟩
            case measure => simp [intOf]; omega
        · have HP : Hid (d.ps.all (pdB d.pl) = true) := wall_end HK.out (by omega)
          clear HK hcell
          by_cases h12 : d.gs.length ≤ 12
          · by_cases h20 : d.ps.length ≤ 20
            · go_wp2
              go_ret
              exact ⟨by rw [HR.out, HP.out]; simp [h12, h20] <;> omega, hB⟩
            · go_wp2
              go_ret
              exact ⟨by rw [HR.out, HP.out]; simp [h12, h20] <;> omega, hB⟩
          · go_wp2
            go_ret
            exact ⟨by first | (rw [HR.out, HP.out]; simp [h12] <;> omega) | rfl | (simp [h12] <;> omega), hB⟩
end Go.Proofs.YtenegpbpalbpeaaGreatDoor
/-
  Contracts of impl's windowEnd, heldFits and LinkOk, and of spec's LinkOk: which links are right. No condition.
-/
namespace Go.Proofs.YtenegpbpalbpeaaGreatDoor
open Go.RowKit
def heldB (e : Int) : Int → List Pc → Bool
  | _, [] => true
  | last, p :: ps => decide (last < p.n) && (decide (p.n < e) && heldB e p.n ps)
def lend (l : Lk) : Int := if l.got + 4 ≤ l.sent then l.got + 4 else l.sent
def linkB (l : Lk) : Bool :=
  decide (0 ≤ l.acked ∧ l.acked ≤ l.got ∧ l.got ≤ l.sent ∧ l.sent ≤ 100000 ∧ (l.q.length : Int) = l.sent - l.acked ∧ l.q.length ≤ 30) && heldB (lend l) l.got l.h
theorem linkB_not {l : Lk} (h : ¬ (0 ≤ l.acked ∧ l.acked ≤ l.got ∧ l.got ≤ l.sent ∧ l.sent ≤ 100000 ∧ (l.q.length : Int) = l.sent - l.acked ∧ l.q.length ≤ 30)) : linkB l = false := by
  unfold linkB
  rw [decide_eq_false h]
  rfl
theorem linkB_held {l : Lk} (h : 0 ≤ l.acked ∧ l.acked ≤ l.got ∧ l.got ≤ l.sent ∧ l.sent ≤ 100000 ∧ (l.q.length : Int) = l.sent - l.acked ∧ l.q.length ≤ 30) : linkB l = heldB (lend l) l.got l.h := by
  unfold linkB
  rw [decide_eq_true h]
  rfl
set_option maxHeartbeats 400000 in
theorem lwinend_any (v1 v2 : Value) (l : Lk) (w : World) (h0 : 0 ≤ l.got) (h1 : l.got ≤ l.sent) (h2 : l.sent ≤ 100000) (a1 : Option Addr) (n1 c1 : Nat) (e1 : v1 = .slice a1 n1 c1) (a2 : Option Addr) (n2 c2 : Nat) (e2 : v2 = .slice a2 n2 c2) :
    Calls Tryz.prog 175 #[.agg #[.int .i64 l.sent, .int .i64 l.acked, v1, .int .i64 l.got, v2]] w fun e w' => e = .returned (.int .i64 (lend l)) ∧ Below w.heap.size w w' := by
  subst e1 e2
  have hB0 : Below w.heap.size w (w.alloc (Obj.cells #[.int .i64 l.sent, .int .i64 l.acked, .slice a1 n1 c1, .int .i64 l.got, .slice a2 n2 c2] 138)) := (Below.refl _ _).alloc (Nat.le_refl _) _
  by_cases hle : l.got + 4 ≤ l.sent
  · have HL : Hid (lend l = l.got + 4) := by unfold Hid lend; rw [if_pos hle]
    go_enter Tryz.func175, Tryz.ntmps175
    go_wp2
    go_ret
    exact ⟨by rw [HL.out]; rfl, hB0⟩
  · have HL : Hid (lend l = l.sent) := by unfold Hid lend; rw [if_neg hle]
    go_enter Tryz.func175, Tryz.ntmps175
    go_wp2
    go_ret
    exact ⟨by rw [HL.out]; rfl, hB0⟩
theorem heldB_cons {e z : Int} {h : List Pc} {j : Nat} {x : Pc} (hx : h[j]? = some x) : heldB e z (h.drop j) = (decide (z < x.n) && (decide (x.n < e) && heldB e x.n (h.drop (j + 1)))) := by
  obtain ⟨hl, rfl⟩ := List.getElem?_eq_some_iff.1 hx
  rw [List.drop_eq_getElem_cons hl]
  rfl
theorem heldB_end {e z : Int} {h : List Pc} : heldB e z (h.drop h.length) = true := by rw [List.drop_length]; rfl
set_option maxHeartbeats 800000 in
theorem lheldfits_any (v1 v2 : Value) (l : Lk) (w : World) (h0 : 0 ≤ l.got) (h1 : l.got ≤ l.sent) (h2 : l.sent ≤ 100000) (a1 : Option Addr) (n1 c1 : Nat) (e1 : v1 = .slice a1 n1 c1) (R : PcRow w v2 l.h) :
    Calls Tryz.prog 145 #[.agg #[.int .i64 l.sent, .int .i64 l.acked, v1, .int .i64 l.got, v2]] w fun e w' => e = .returned (.bool (heldB (lend l) l.got l.h)) ∧ Below w.heap.size w w' := by
  subst e1
  obtain ⟨a2, c2, rfl, hcap, hm, hz, hcell⟩ := R
  have hB0 : Below w.heap.size w (w.alloc (Obj.cells #[.int .i64 l.sent, .int .i64 l.acked, .slice a1 n1 c1, .int .i64 l.got, .slice a2 l.h.length c2] 138)) := (Below.refl _ _).alloc (Nat.le_refl _) _
  have LW := fun w => lwinend_any (.slice a1 n1 c1) (.slice a2 l.h.length c2) l w h0 h1 h2 a1 n1 c1 rfl a2 l.h.length c2 rfl
  obtain ⟨r, hr⟩ : ∃ r, heldB (lend l) l.got l.h = r := ⟨_, rfl⟩
  rw [hr]
  generalize lend l = E at LW hr
  have HR : Hid (heldB E l.got l.h = r) := hr
  clear hr
  go_enter Tryz.func145, Tryz.ntmps145
  go_wp2_with fail
  go_region_with (go_at_call 175; refine (LW _).mono ?_; rintro e w1 ⟨rfl, hb1⟩; have hx1 : w1.heap[w.heap.size]? = some (.cells #[.int .i64 l.sent, .int .i64 l.acked, .slice a1 n1 c1, .int .i64 l.got, .slice a2 l.h.length c2] 138 (0, 0)) := (hb1.block _ (by simp)).trans (heap_alloc_new _ _); have cx3 : w1.cell? ⟨w.heap.size, 0 + 3, none⟩ = some (.int .i64 l.got) := by rw [cell_of_row w1 _ 3 _ _ _ hx1]; rfl)
  all_goals
    have hB1 : Below w.heap.size w w1 := hB0.drew.trans (hb1.mono (by simp))
    have cx4 : w1.cell? ⟨w.heap.size, 0 + 4, none⟩ = some (.slice a2 l.h.length c2) := by rw [cell_of_row w1 _ 4 _ _ _ hx1]; rfl
    clear hb1
    go_wp2
    go_loopw [3, 14] (fun q i wr => ∃ (j : Nat) (z : Int), j ≤ l.h.length ∧ i = .int .i64 j ∧ q = .int .i64 z ∧ Hid (heldB E l.got l.h = heldB E z (l.h.drop j)) ∧ Below w.heap.size w wr) (fun _ i _ => l.h.length - (intOf i).toNat)
    case atStart => exact ⟨0, l.got, by omega, rfl, rfl, rfl, hB1⟩
    case round =>
      clear hx1 cx3 cx4 hB1 hB0
      obtain ⟨j, z, hj, rfl, rfl, HA, hb⟩ := hrel
      by_cases hlt : j < l.h.length
      · obtain ⟨g, o, rfl, hg, hcell⟩ := hcell (by intro e; rw [e] at hlt; simp at hlt)
        obtain ⟨x, hx⟩ : ∃ x, l.h[j]? = some x := ⟨l.h[j], by simp [hlt]⟩
        obtain ⟨k0, k1⟩ := (hcell j x hx).below hb hg
        have HC : Hid (heldB E l.got l.h = (decide (z < x.n) && (decide (x.n < E) && heldB E x.n (l.h.drop (j + 1))))) := by unfold Hid; rw [HA.out, heldB_cons hx]
        clear hcell HA hx
        have hBn := hb.alloc hb.size (Obj.cells #[.int .i64 x.n, .string x.s] 139)
        by_cases hz1 : x.n ≤ z
        · go_wp2
          go_ret
          exact ⟨retB (by rw [← HR.out, HC.out, decide_eq_false (p := z < x.n) (by omega)]; rfl), hBn⟩
        · by_cases hz2 : E ≤ x.n
          · go_wp2
            go_ret
            exact ⟨retB (by rw [← HR.out, HC.out, decide_eq_false (p := x.n < E) (by omega), Bool.false_and, Bool.and_false]), hBn⟩
          · go_wp2
            go_roundw
            case rel => exact ⟨j + 1, x.n, by omega, by go_num, rfl, by unfold Hid; rw [HC.out, decide_eq_true (p := z < x.n) (by omega), decide_eq_true (p := x.n < E) (by omega), Bool.true_and, Bool.true_and], hBn⟩
            case measure => simp [intOf]; omega
      · go_wp2
        go_ret
        have : j = l.h.length := by omega
        subst this
        exact ⟨retB (by rw [← HR.out, HA.out, heldB_end]), hb⟩
set_option maxHeartbeats 800000 in
theorem ilinkok_any (v1 v2 : Value) (l : Lk) (w : World) (R1 : StRow w v1 l.q) (R2 : PcRow w v2 l.h) :
    Calls Tryz.prog 94 #[.agg #[.int .i64 l.sent, .int .i64 l.acked, v1, .int .i64 l.got, v2]] w fun e w' => e = .returned (.bool (linkB l)) ∧ Below w.heap.size w w' := by
  obtain ⟨a1, c1, rfl⟩ := R1.small
  obtain ⟨a2, c2, rfl⟩ := R2.small
  have hq := R1.le
  have hB0 : Below w.heap.size w (w.alloc (Obj.cells #[.int .i64 l.sent, .int .i64 l.acked, .slice a1 l.q.length c1, .int .i64 l.got, .slice a2 l.h.length c2] 138)) := (Below.refl _ _).alloc (Nat.le_refl _) _
  by_cases i1 : 0 ≤ l.acked
  rotate_left
  · have HF : Hid (linkB l = false) := linkB_not (by omega)
    go_enter Tryz.func94, Tryz.ntmps94
    go_wp2
    go_ret
    exact ⟨retB HF.out.symm, hB0⟩
  by_cases i2 : l.acked ≤ l.got
  rotate_left
  · have HF : Hid (linkB l = false) := linkB_not (by omega)
    go_enter Tryz.func94, Tryz.ntmps94
    go_wp2
    go_ret
    exact ⟨retB HF.out.symm, hB0⟩
  by_cases i3 : l.got ≤ l.sent
  rotate_left
  · have HF : Hid (linkB l = false) := linkB_not (by omega)
    go_enter Tryz.func94, Tryz.ntmps94
    go_wp2
    go_ret
    exact ⟨retB HF.out.symm, hB0⟩
  by_cases i4 : l.sent ≤ 100000
  rotate_left
  · have HF : Hid (linkB l = false) := linkB_not (by omega)
    go_enter Tryz.func94, Tryz.ntmps94
    go_wp2
    go_ret
    exact ⟨retB HF.out.symm, hB0⟩
  by_cases i5 : (l.q.length : Int) = l.sent - l.acked
  rotate_left
  · have HF : Hid (linkB l = false) := linkB_not (by omega)
    have c5 : ((l.q.length : Int) == l.sent - l.acked) = false := by simpa using i5
    go_enter Tryz.func94, Tryz.ntmps94
    go_wp2
    go_ret
    exact ⟨retB HF.out.symm, hB0⟩
  have c5 : ((l.q.length : Int) == l.sent - l.acked) = true := by simpa using i5
  by_cases i6 : l.q.length ≤ 30
  rotate_left
  · have HF : Hid (linkB l = false) := linkB_not (by omega)
    have i6' : ¬ (l.q.length : Int) ≤ 30 := by omega
    have I5 : Hid ((l.q.length : Int) = l.sent - l.acked) := i5
    clear i5
    go_enter Tryz.func94, Tryz.ntmps94
    go_wp2
    go_ret
    exact ⟨retB HF.out.symm, hB0⟩
  have HF : Hid (linkB l = heldB (lend l) l.got l.h) := linkB_held ⟨i1, i2, i3, i4, i5, i6⟩
  have i6' : (l.q.length : Int) ≤ 30 := by omega
  clear i5
  go_enter Tryz.func94, Tryz.ntmps94
  go_wp2_with fail
  refine (lheldfits_any _ _ l _ (by omega) i3 i4 a1 l.q.length c1 rfl (R2.below hB0)).mono ?_
  rintro e w1 ⟨rfl, hb1⟩
  have hB1 := hB0.trans (hb1.mono hB0.size)
  generalize heldB (lend l) l.got l.h = r at *
  clear hb1 hB0
  cases r
  all_goals
    go_wp2
    go_ret
    exact ⟨retB HF.out.symm, hB1⟩
end Go.Proofs.YtenegpbpalbpeaaGreatDoor
