/-
  Texts that stood by themselves, laid into one.
-/
import Derived.Test.YtfmafkebddojjaaGreatDoorWOkRM
import Derived.Test.YtfmafkebddojjaaGreatDoorWOkIM
import Derived.Test.YtfmafkebddojjaaGreatDoorSR8M
import Derived.Test.YtfmafkebddojjaaGreatDoorSEqM
import Derived.Lib.SlicesCompact
import Derived.Test.YtfmafkebddojjaaGreatDoorJgRM
import Derived.Test.YtfmafkebddojjaaGreatDoorSubM
/-
  Contracts of spec's l13Homes and l13Grams. No condition but that there are 1 to 3 places.
-/
namespace Go.Proofs.YtfmafkebddojjaaGreatDoor
open Go.RowKit
theorem ZdW (pl a : Int) : (decide (0 <= a) && decide (a <= pl - 1)) = hasP pl a := by
 unfold hasP
 congr 1
 rw [Bool.eq_iff_iff]
 simp
 omega
set_option maxRecDepth 100000 in
set_option maxHeartbeats 6400000 in
theorem Zep (vn vi vf vh vl vg vp va vt : Value) (d : Wd) (B : Nat) (w : World) (R : WR B w vn vi vf vh vl vg vp va vt d) (hp1 : 1 <= d.pl) (hp2 : d.pl <= 3) (hsm : ∀ x ∈ d.hs, SmH x) :
  Calls Tryz.prog 76 #[.agg #[vn, vi, vf, .int .i64 d.pl, vh, vl, vg, vp, .int .i64 d.nx, va, vt]] w fun e w' => e = .returned (.bool (d.hs.all (hmB d.ns d.is d.ds d.pl) && decide (d.hs.length <= 8))) /\ Below w.heap.size w w' := by
 have R0 := R
 obtain ⟨⟨aan, ccn, rfl⟩, ⟨aai, cci, rfl⟩, ⟨aaf, ccf, rfl⟩, ⟨aah, cch, rfl⟩, ⟨aal, ccl, rfl⟩, ⟨aag, ccg, rfl⟩, ⟨aap, ccp, rfl⟩, ⟨aaa, cca, rfl⟩, ⟨aat, cct, rfl⟩⟩ := R.form
 have hB0 := Zam w (Obj.cells #[.slice aan d.ns.length ccn, .slice aai d.is.length cci, .slice aaf d.ds.length ccf, .int .i64 d.pl, .slice aah d.hs.length cch, .slice aal d.ls.length ccl, .slice aag d.gs.length ccg, .slice aap d.ps.length ccp, .int .i64 d.nx, .slice aaa d.ga.length cca, .slice aat d.tk.length cct] 50)
 have hx0 := heap_alloc_new w (Obj.cells #[.slice aan d.ns.length ccn, .slice aai d.is.length cci, .slice aaf d.ds.length ccf, .int .i64 d.pl, .slice aah d.hs.length cch, .slice aal d.ls.length ccl, .slice aag d.gs.length ccg, .slice aap d.ps.length ccp, .int .i64 d.nx, .slice aaa d.ga.length cca, .slice aat d.tk.length cct] 50)
 go_enter Tryz.func76, Tryz.ntmps76
 go_wp2_with fail
 generalize w.alloc (Obj.cells #[.slice aan d.ns.length ccn, .slice aai d.is.length cci, .slice aaf d.ds.length ccf, .int .i64 d.pl, .slice aah d.hs.length cch, .slice aal d.ls.length ccl, .slice aag d.gs.length ccg, .slice aap d.ps.length ccp, .int .i64 d.nx, .slice aaa d.ga.length cca, .slice aat d.tk.length cct] 50) = w0 at *
 obtain ⟨ao, cap, hh, hcap, hm, hcell⟩ := R0.rh
 simp only [Value.slice.injEq] at hh
 obtain ⟨rfl, _, rfl⟩ := hh
 go_loopw [3] (fun i wr => ∃ k : Nat, k <= d.hs.length /\ i = .int .i64 k /\ Hid ((d.hs.take k).all (hmB d.ns d.is d.ds d.pl) = true) /\ Below w0.heap.size w0 wr) (fun i _ => d.hs.length - (intOf i).toNat)
 case atStart => exact ⟨0, by omega, rfl, by simp [Hid], Below.refl _ _⟩
 case round =>
  obtain ⟨k, hk, rfl, HK, hb⟩ := hrel
  have hB := hB0.trans (hb.mono hB0.size)
  have hx := Zab hx0 hb
  have kh : wr.cell? ⟨w.heap.size, 0 + 4, none⟩ = some (.slice aah d.hs.length cch) := cell_of_row _ _ 4 _ _ _ hx
  by_cases hlt : k < d.hs.length
  ·obtain ⟨g, o, rfl, _, hg, hcell⟩ := hcell (by intro e; rw [e] at hlt; simp at hlt)
   obtain ⟨x, hx'⟩ : ∃ x, d.hs[k]? = some x := ⟨d.hs[k], by simp [hlt]⟩
   obtain ⟨cs, hcs, hr, v1, v2, v3, hc, P1, P2, P3, _, _, _⟩ := hcell k x hx'
   obtain ⟨p1, q1, rfl⟩ := P1.small8
   obtain ⟨p2, q2, rfl⟩ := P2.small
   obtain ⟨p3, q3, rfl⟩ := P3.small
   have HX' : Hid (d.hs[k]? = some x) := hx'
   have hzx : ∀ y ∈ x.bx, y.size <= 140737488351232 := fun y hy => Nat.le_trans ((hsm x (List.mem_of_getElem? hx')).2.2.2 y hy) (by decide)
   obtain rfl : cs = (#[.int .i64 x.pl, .int .i64 x.i, .slice p1 x.xs.length q1, .int .i64 x.m.p, .int .i64 x.m.s, .int .i64 x.m.e, .int .i64 x.m.d, .int .i64 x.m.t, .int .i64 x.m.q, .int .i64 x.m.r, .slice p2 x.bx.length q2, .slice p3 x.ox.length q3] : Array Value).toList := congrArg Array.toList hc
   replace hr := Zaa hr hB hg
   have hg' := Nat.lt_of_lt_of_le hg hB.size
   clear hcell hx' hcs hc
   have hin := ZdW d.pl x.pl
   go_wp2_with fail
   clear kh
   cases h1 : hasP d.pl x.pl with
   | false =>
    rw [h1] at hin
    have HF : hmB d.ns d.is d.ds d.pl x = false := by unfold hmB; rw [h1]; rfl
    refine Zjk w.heap.size g o k aan aai aaf aal aag aap aaa aat ccn cci ccf cch ccl ccg ccp cca cct d x _ _ _ wr _ hx hr hg' hlt hp1 hp2 hin ?_
    intro u11 u12 u13 u14 u15 u16 u17 u18 u19 u20 u21 u22 u23 u24 u25 u26 u27 u28 u29 u30 u31 u32 W hW
    have hBQ := hB.trans (hW.mono hB.size)
    have HR : Hid (d.hs.all (hmB d.ns d.is d.ds d.pl) = false) := Zas HX'.out HF
    clear HK HX'
    go_wp2
    go_ret
    exact ⟨by rw [HR.out]; rfl, hBQ⟩
   | true =>
    rw [h1] at hin
    have HF0 : Hid (hmB d.ns d.is d.ds d.pl x = Zdq d.ns d.is d.ds x.i x.xs x.m x.bx x.ox) := by unfold Hid hmB; rw [h1]; simp
    have HC := fun (W : World) (hW : Below wr.heap.size wr W) => ZfD _ _ _ _ _ _ d.ns d.is d.ds x.i x.xs x.m x.bx x.ox W (R0.rn.below (hB.trans (hW.mono hB.size))) (R0.ri.below (hB.trans (hW.mono hB.size))) (R0.rf.below (hB.trans (hW.mono hB.size))) (P1.below (hB.trans (hW.mono hB.size))) (P2.below (hB.trans (hW.mono hB.size))) (P3.below (hB.trans (hW.mono hB.size))) hzx
    obtain ⟨kb, hkb⟩ : ∃ b, Zdq d.ns d.is d.ds x.i x.xs x.m x.bx x.ox = b := ⟨_, rfl⟩
    rw [hkb] at HC HF0
    clear hkb
    refine Zi1 w.heap.size g o k aan aai aaf aal aag aap aaa aat ccn cci ccf cch ccl ccg ccp cca cct d x _ _ _ wr _ hx hr hg' hlt hp1 hp2 hin kb HC ?_
    intro u11 u12 u13 u14 u15 u16 u17 u18 u19 u20 u21 u22 u23 u24 u25 u26 u27 u28 u29 u30 u31 u32 W hW
    have hBQ := hB.trans (hW.mono hB.size)
    have hBR := hb.trans (hW.mono hb.size)
    clear HC
    cases kb with
    | false =>
     have HF : hmB d.ns d.is d.ds d.pl x = false := HF0.out
     have HR : Hid (d.hs.all (hmB d.ns d.is d.ds d.pl) = false) := Zas HX'.out HF
     clear HK HX'
     go_wp2
     go_ret
     exact ⟨by rw [HR.out]; rfl, hBQ⟩
    | true =>
     have HF : hmB d.ns d.is d.ds d.pl x = true := HF0.out
     have HK2 : Hid ((d.hs.take (k + 1)).all (hmB d.ns d.is d.ds d.pl) = true) := ZaX HK.out HX'.out HF
     clear HK HX'
     go_wp2
     go_roundw
     case rel => exact ⟨k + 1, by omega, by go_num, HK2, hBR⟩
     case measure => simp [intOf]; omega
  ·have HR : Hid (d.hs.all (hmB d.ns d.is d.ds d.pl) = true) := Zbs HK.out (by omega)
   clear HK hcell
   by_cases h8 : d.hs.length <= 8
   ·go_wp2
    go_ret
    exact ⟨by rw [HR.out]; simp [h8] <;> omega, hB⟩
   ·go_wp2
    go_ret
    exact ⟨by rw [HR.out]; simp [h8] <;> omega, hB⟩
set_option maxRecDepth 100000 in
set_option maxHeartbeats 6400000 in
theorem Zfa (vn vi vf vh vl vg vp va vt : Value) (d : Wd) (B : Nat) (w : World) (R : WR B w vn vi vf vh vl vg vp va vt d) (hp1 : 1 <= d.pl) (hp2 : d.pl <= 3) :
  Calls Tryz.prog 78 #[.agg #[vn, vi, vf, .int .i64 d.pl, vh, vl, vg, vp, .int .i64 d.nx, va, vt]] w fun e w' => e = .returned (.bool ((d.gs.all (gmB d.pl) && d.ps.all (pdB d.pl)) && (decide (d.gs.length <= 12) && decide (d.ps.length <= 20)))) /\ Below w.heap.size w w' := by
 have R0 := R
 obtain ⟨⟨aan, ccn, rfl⟩, ⟨aai, cci, rfl⟩, ⟨aaf, ccf, rfl⟩, ⟨aah, cch, rfl⟩, ⟨aal, ccl, rfl⟩, ⟨aag, ccg, rfl⟩, ⟨aap, ccp, rfl⟩, ⟨aaa, cca, rfl⟩, ⟨aat, cct, rfl⟩⟩ := R.form
 have hB0 := Zam w (Obj.cells #[.slice aan d.ns.length ccn, .slice aai d.is.length cci, .slice aaf d.ds.length ccf, .int .i64 d.pl, .slice aah d.hs.length cch, .slice aal d.ls.length ccl, .slice aag d.gs.length ccg, .slice aap d.ps.length ccp, .int .i64 d.nx, .slice aaa d.ga.length cca, .slice aat d.tk.length cct] 50)
 have hx0 := heap_alloc_new w (Obj.cells #[.slice aan d.ns.length ccn, .slice aai d.is.length cci, .slice aaf d.ds.length ccf, .int .i64 d.pl, .slice aah d.hs.length cch, .slice aal d.ls.length ccl, .slice aag d.gs.length ccg, .slice aap d.ps.length ccp, .int .i64 d.nx, .slice aaa d.ga.length cca, .slice aat d.tk.length cct] 50)
 go_enter Tryz.func78, Tryz.ntmps78
 go_wp2_with fail
 generalize w.alloc (Obj.cells #[.slice aan d.ns.length ccn, .slice aai d.is.length cci, .slice aaf d.ds.length ccf, .int .i64 d.pl, .slice aah d.hs.length cch, .slice aal d.ls.length ccl, .slice aag d.gs.length ccg, .slice aap d.ps.length ccp, .int .i64 d.nx, .slice aaa d.ga.length cca, .slice aat d.tk.length cct] 50) = w0 at *
 obtain ⟨ao, cap, hh, hcap, hm, hcell⟩ := R0.rg
 simp only [Value.slice.injEq] at hh
 obtain ⟨rfl, _, rfl⟩ := hh
 go_loopw [3] (fun i wr => ∃ k : Nat, k <= d.gs.length /\ i = .int .i64 k /\ Hid ((d.gs.take k).all (gmB d.pl) = true) /\ Below w0.heap.size w0 wr) (fun i _ => d.gs.length - (intOf i).toNat)
 case atStart => exact ⟨0, by omega, rfl, by simp [Hid], Below.refl _ _⟩
 case round =>
  obtain ⟨k, hk, rfl, HK, hb⟩ := hrel
  have hB := hB0.trans (hb.mono hB0.size)
  have hx := Zab hx0 hb
  have kh : wr.cell? ⟨w.heap.size, 0 + 6, none⟩ = some (.slice aag d.gs.length ccg) := cell_of_row _ _ 6 _ _ _ hx
  by_cases hlt : k < d.gs.length
  ·obtain ⟨g, o, rfl, _, hg, hcell⟩ := hcell (by intro e; rw [e] at hlt; simp at hlt)
   obtain ⟨x, hx'⟩ : ∃ x, d.gs[k]? = some x := ⟨d.gs[k], by simp [hlt]⟩
   obtain ⟨cs, hcs, hr, hc, _⟩ := hcell k x hx'
   have HX' : Hid (d.gs[k]? = some x) := hx'
   obtain rfl : cs = (#[.int .i64 x.k, .int .i64 x.f, .int .i64 x.t, .int .i64 x.n, .string x.s] : Array Value).toList := congrArg Array.toList hc
   replace hr := Zaa hr hB hg
   clear hcell hx' hcs hc
   have hb3 := Zam wr (Obj.cells #[.int .i64 x.k, .int .i64 x.f, .int .i64 x.t, .int .i64 x.n, .string x.s] 131)
   have hh3 : (wr.alloc (Obj.cells #[.int .i64 x.k, .int .i64 x.f, .int .i64 x.t, .int .i64 x.n, .string x.s] 131)).heap[wr.heap.size]? = some (Obj.cells #[.int .i64 x.k, .int .i64 x.f, .int .i64 x.t, .int .i64 x.n, .string x.s] 131) := heap_alloc_new _ _
   have hx3 := Zab hx hb3
   have hB3 := hB.trans (hb3.mono hB.size)
   have hbR := hb.trans (hb3.mono hb.size)
   have hE : Hid (gmB d.pl x = ((hasP d.pl x.f && hasP d.pl x.t) && ((decide (0 <= x.n) && decide (x.n <= 100000)) && (decide (x.k = 1) || (decide (x.k = 2) && x.s.toList.isEmpty))))) := rfl
   have f0 := ZdW d.pl x.f
   have t0 := ZdW d.pl x.t
   obtain ⟨W3, hW3⟩ : ∃ W3, Hid (wr.alloc (Obj.cells #[.int .i64 x.k, .int .i64 x.f, .int .i64 x.t, .int .i64 x.n, .string x.s] 131) = W3) := ⟨_, rfl⟩
   go_wp2_with (refine wpList_load_mid rfl 131 _ rfl g (o + k * 5) rfl _ _ hr Tryz.underlying131 rfl (by kernel_rfl) ?_)
   rw [hW3.out] at hb3 hh3 hx3 hB3 hbR ⊢
   clear hW3 hr hb3 kh
   have g1 : W3.cell? ⟨wr.heap.size, 0 + 1, none⟩ = some (.int .i64 x.f) := cell_of_row _ _ 1 _ _ _ hh3
   have g2 : W3.cell? ⟨wr.heap.size, 0 + 2, none⟩ = some (.int .i64 x.t) := cell_of_row _ _ 2 _ _ _ hh3
   have g3 : W3.cell? ⟨wr.heap.size, 3, none⟩ = some (.int .i64 x.n) := cell_of_row _ _ 3 _ _ _ hh3
   have g3' : W3.cell? ⟨wr.heap.size, 0 + 3, none⟩ = some (.int .i64 x.n) := g3
   have g4 : W3.cell? ⟨wr.heap.size, 0 + 3 + 1, none⟩ = some (.string x.s) := cell_of_row _ _ 4 _ _ _ hh3
   have g0 : W3.cell? ⟨wr.heap.size, 0, none⟩ = some (.int .i64 x.k) := cell_of_row _ _ 0 _ _ _ hh3
   have gp : W3.cell? ⟨w.heap.size, 0 + 3, none⟩ = some (.int .i64 d.pl) := cell_of_row _ _ 3 _ _ _ hx3
   refine (Zao _ _ _ _).mono ?_
   rintro e wE ⟨rfl, rfl⟩
   cases hk1 : (decide (1 <= x.k) && decide (x.k <= 2)) with
   | false =>
    have HF : gmB d.pl x = false := by rw [hE.out]; have q : ¬ (x.k = 1) /\ ¬ (x.k = 2) := (by simp at hk1; omega); simp [q.1, q.2]
    have HR : Hid (d.gs.all (gmB d.pl) = false) := Zas HX'.out HF
    clear HK HX'
    go_wp2
    go_ret
    exact ⟨by rw [HR.out]; rfl, hB3⟩
   | true =>
    go_wp2_with fail
    refine (Zao _ _ _ _).mono ?_
    rintro e wE ⟨rfl, rfl⟩
    rw [f0]
    cases hf : hasP d.pl x.f with
    | false =>
     have HF : gmB d.pl x = false := by rw [hE.out, hf]; rfl
     have HR : Hid (d.gs.all (gmB d.pl) = false) := Zas HX'.out HF
     clear HK HX'
     go_wp2
     go_ret
     exact ⟨by rw [HR.out]; rfl, hB3⟩
    | true =>
     go_wp2_with fail
     refine (Zao _ _ _ _).mono ?_
     rintro e wE ⟨rfl, rfl⟩
     rw [t0]
     cases ht : hasP d.pl x.t with
     | false =>
      have HF : gmB d.pl x = false := by rw [hE.out, hf, ht]; rfl
      have HR : Hid (d.gs.all (gmB d.pl) = false) := Zas HX'.out HF
      clear HK HX'
      go_wp2
      go_ret
      exact ⟨by rw [HR.out]; rfl, hB3⟩
     | true =>
      go_wp2_with fail
      refine (Zao _ _ _ _).mono ?_
      rintro e wE ⟨rfl, rfl⟩
      cases hn : (decide (0 <= x.n) && decide (x.n <= 100000)) with
      | false =>
       have HF : gmB d.pl x = false := by rw [hE.out, hf, ht, hn]; rfl
       have HR : Hid (d.gs.all (gmB d.pl) = false) := Zas HX'.out HF
       clear HK HX'
       go_wp2
       go_ret
       exact ⟨by rw [HR.out]; rfl, hB3⟩
      | true =>
       by_cases h2 : x.k = 2
       ·have e2 : (x.k == 2) = true := by simp [h2]
        cases hs : x.s.toList.isEmpty with
        | false =>
         have es : (x.s.toList != ([] : List UInt8)) = true := by cases h : x.s.toList with | nil => rw [h] at hs; cases hs | cons a b => rfl
         have HF : gmB d.pl x = false := by rw [hE.out, hf, ht, hn, hs]; simp [h2]
         have HR : Hid (d.gs.all (gmB d.pl) = false) := Zas HX'.out HF
         clear HK HX'
         go_wp2
         go_ret
         exact ⟨by rw [HR.out]; rfl, hB3⟩
        | true =>
         have es : (x.s.toList != ([] : List UInt8)) = false := by cases h : x.s.toList with | nil => rfl | cons a b => rw [h] at hs; cases hs
         have HF : gmB d.pl x = true := by rw [hE.out, hf, ht, hn, hs]; simp [h2]
         have HK2 : Hid ((d.gs.take (k + 1)).all (gmB d.pl) = true) := ZaX HK.out HX'.out HF
         clear HK HX'
         go_wp2
         go_roundw
         case rel => exact ⟨k + 1, by omega, by go_num, HK2, hbR⟩
         case measure => simp [intOf]; omega
       ·have e2 : (x.k == 2) = false := by simp [h2]
        have HF : gmB d.pl x = true := by rw [hE.out, hf, ht, hn]; simp at hk1; have : x.k = 1 := (by omega); simp [this]
        have HK2 : Hid ((d.gs.take (k + 1)).all (gmB d.pl) = true) := ZaX HK.out HX'.out HF
        clear HK HX'
        go_wp2
        go_roundw
        case rel => exact ⟨k + 1, by omega, by go_num, HK2, hbR⟩
        case measure => simp [intOf]; omega
  ·have HR : Hid (d.gs.all (gmB d.pl) = true) := Zbs HK.out (by omega)
   clear HK hcell
   obtain ⟨ao, cap, hh, hcap2, hm2, hcell⟩ := R0.rp
   simp only [Value.slice.injEq] at hh
   obtain ⟨rfl, _, rfl⟩ := hh
   go_wp2_with fail
   clear kh
   go_loopw [5] (fun i wr => ∃ k : Nat, k <= d.ps.length /\ i = .int .i64 k /\ Hid ((d.ps.take k).all (pdB d.pl) = true) /\ Below w0.heap.size w0 wr) (fun i _ => d.ps.length - (intOf i).toNat)
   case atStart => exact ⟨0, by omega, rfl, by simp [Hid], hb⟩
   case round =>
    clear hx hb hB
    obtain ⟨k, hk, rfl, HK, hb⟩ := hrel
    have hB := hB0.trans (hb.mono hB0.size)
    have hx := Zab hx0 hb
    have kp : wr.cell? ⟨w.heap.size, 0 + 7, none⟩ = some (.slice aap d.ps.length ccp) := cell_of_row _ _ 7 _ _ _ hx
    have kg : wr.cell? ⟨w.heap.size, 0 + 6, none⟩ = some (.slice aag d.gs.length ccg) := cell_of_row _ _ 6 _ _ _ hx
    by_cases hlt : k < d.ps.length
    ·obtain ⟨g, o, rfl, _, hg, hcell⟩ := hcell (by intro e; rw [e] at hlt; simp at hlt)
     obtain ⟨x, hx'⟩ : ∃ x, d.ps[k]? = some x := ⟨d.ps[k], by simp [hlt]⟩
     obtain ⟨cs, hcs, hr, hc, _⟩ := hcell k x hx'
     have HX' : Hid (d.ps[k]? = some x) := hx'
     obtain rfl : cs = (#[.int .i64 x.p, .int .i64 x.t, .string x.s] : Array Value).toList := congrArg Array.toList hc
     replace hr := Zaa hr hB hg
     have hg' := Nat.lt_of_lt_of_le hg hB.size
     clear hcell hx' hcs hc
     have hin := ZdW d.pl x.p
     have HF0 : Hid (pdB d.pl x = hasP d.pl x.p) := rfl
     go_wp2_with fail
     clear kp kg
     obtain ⟨pb, hpb⟩ : ∃ b, hasP d.pl x.p = b := ⟨_, rfl⟩
     rw [hpb] at hin HF0
     clear hpb
     refine ZiN w.heap.size g o k aan aai aaf aah aal aag aaa aat ccn cci ccf cch ccl ccg ccp cca cct d x wr _ hx hr hg' hlt hp1 hp2 pb hin ?_
     intro u65 u66 u67 u68 u69 u70 u71 u72 u73 u74 W hW
     have hBQ := hB.trans (hW.mono hB.size)
     have hBR := hb.trans (hW.mono hb.size)
     cases pb with
     | false =>
      have HF : pdB d.pl x = false := HF0.out
      have HP : Hid (d.ps.all (pdB d.pl) = false) := Zas HX'.out HF
      clear HK HX'
      go_wp2
      go_ret
      exact ⟨by rw [HR.out, HP.out]; rfl, hBQ⟩
     | true =>
      have HF : pdB d.pl x = true := HF0.out
      have HK2 : Hid ((d.ps.take (k + 1)).all (pdB d.pl) = true) := ZaX HK.out HX'.out HF
      clear HK HX'
      go_wp2
      go_roundw
      case rel => exact ⟨k + 1, by omega, by go_num, HK2, hBR⟩
      case measure => simp [intOf]; omega
    ·have HP : Hid (d.ps.all (pdB d.pl) = true) := Zbs HK.out (by omega)
     clear HK hcell
     by_cases h12 : d.gs.length <= 12
     ·by_cases h20 : d.ps.length <= 20
      ·go_wp2
       go_ret
       exact ⟨by rw [HR.out, HP.out]; simp [h12, h20] <;> omega, hB⟩
      ·go_wp2
       go_ret
       exact ⟨by rw [HR.out, HP.out]; simp [h12, h20] <;> omega, hB⟩
     ·go_wp2
      go_ret
      exact ⟨by first | (rw [HR.out, HP.out]; simp [h12] <;> omega) | rfl | (simp [h12] <;> omega), hB⟩
def Zap (d : Wd) : Bool := (ZaM d.ns d.is d.ds && (Zbp d.pl && pidB d.nx)) && ((d.hs.all (hmB d.ns d.is d.ds d.pl) && decide (d.hs.length <= 8)) && (lksB d && ((d.gs.all (gmB d.pl) && decide (d.gs.length <= 12)) && (d.ps.all (pdB d.pl) && decide (d.ps.length <= 20)))))
theorem ZjK {n : Int} {b : Bool} (h : (decide (1 <= n) && decide (n <= 1000000000)) = b) : pidB n = b := by
 unfold pidB
 rw [<- h, Bool.eq_iff_iff]
 simp
theorem ZcF {pl : Int} (h : Zbp pl = true) : 1 <= pl /\ pl <= 3 := by
 unfold Zbp at h
 simp at h
 exact h
set_option maxRecDepth 100000 in
set_option maxHeartbeats 6400000 in
theorem Zex (vn vi vf vh vl vg vp va vt : Value) (d : Wd) (B : Nat) (w : World) (R : WR B w vn vi vf vh vl vg vp va vt d) (hsm : ∀ x ∈ d.hs, SmH x) (hg : ErrT w) :
  Calls Tryz.prog 55 #[.agg #[vn, vi, vf, .int .i64 d.pl, vh, vl, vg, vp, .int .i64 d.nx, va, vt]] w fun e w' => e = .returned (.bool (Zap d)) /\ Below w.heap.size w w' := by
 have R0 := R
 obtain ⟨⟨aan, ccn, rfl⟩, ⟨aai, cci, rfl⟩, ⟨aaf, ccf, rfl⟩, ⟨aah, cch, rfl⟩, ⟨aal, ccl, rfl⟩, ⟨aag, ccg, rfl⟩, ⟨aap, ccp, rfl⟩, ⟨aaa, cca, rfl⟩, ⟨aat, cct, rfl⟩⟩ := R.form
 have hB := Zam w (Obj.cells #[.slice aan d.ns.length ccn, .slice aai d.is.length cci, .slice aaf d.ds.length ccf, .int .i64 d.pl, .slice aah d.hs.length cch, .slice aal d.ls.length ccl, .slice aag d.gs.length ccg, .slice aap d.ps.length ccp, .int .i64 d.nx, .slice aaa d.ga.length cca, .slice aat d.tk.length cct] 50)
 have hx := heap_alloc_new w (Obj.cells #[.slice aan d.ns.length ccn, .slice aai d.is.length cci, .slice aaf d.ds.length ccf, .int .i64 d.pl, .slice aah d.hs.length cch, .slice aal d.ls.length ccl, .slice aag d.gs.length ccg, .slice aap d.ps.length ccp, .int .i64 d.nx, .slice aaa d.ga.length cca, .slice aat d.tk.length cct] 50)
 go_enter Tryz.func55, Tryz.ntmps55
 go_wp2_with (refine Zag rfl 44 _ rfl w.heap.size 0 rfl _ 50 #[.slice aan d.ns.length ccn, .slice aai d.is.length cci, .slice aaf d.ds.length ccf] _ hx rfl Tryz.underlying44 rfl Zk2 ?_)
 refine (Zc1 _ _ _ d.ns d.is d.ds _ (R0.rn.below hB) (R0.ri.below hB) (R0.rf.below hB)).mono ?_
 rintro e wh1 ⟨rfl, hb⟩
 replace hx := Zab hx hb
 replace hB := hB.trans (hb.mono hB.size)
 clear hb
 obtain ⟨bh1, h1⟩ : ∃ b, ZaM d.ns d.is d.ds = b := ⟨_, rfl⟩
 rw [h1]
 cases bh1 with
 | false =>
  have HR : Hid (Zap d = false) := by
   unfold Hid Zap
   rw [h1]; rfl
  go_wp2
  go_ret
  exact ⟨by rw [HR.out]; rfl, hB⟩
 | true =>
  have kc : wh1.cell? ⟨w.heap.size, 0 + 3, none⟩ = some (.int .i64 d.pl) := cell_of_row _ _ 3 _ _ _ hx
  go_wp2_with fail
  clear kc
  refine (Zd7 d.pl _).mono ?_
  rintro e wE ⟨rfl, rfl⟩
  obtain ⟨bh2, h2⟩ : ∃ b, Zbp d.pl = b := ⟨_, rfl⟩
  rw [h2]
  cases bh2 with
  | false =>
   have HR : Hid (Zap d = false) := by
    unfold Hid Zap
    rw [h1, h2]; rfl
   go_wp2
   go_ret
   exact ⟨by rw [HR.out]; rfl, hB⟩
  | true =>
   have hpl := ZcF h2
   have kw0 : wE.cell? ⟨w.heap.size, 0, none⟩ = some (.slice aan d.ns.length ccn) := cell_of_row wE _ 0 _ _ _ hx
   have kw1 : wE.cell? ⟨w.heap.size, 1, none⟩ = some (.slice aai d.is.length cci) := cell_of_row wE _ 1 _ _ _ hx
   have kw2 : wE.cell? ⟨w.heap.size, 2, none⟩ = some (.slice aaf d.ds.length ccf) := cell_of_row wE _ 2 _ _ _ hx
   have kw3 : wE.cell? ⟨w.heap.size, 3, none⟩ = some (.int .i64 d.pl) := cell_of_row wE _ 3 _ _ _ hx
   have kw4 : wE.cell? ⟨w.heap.size, 4, none⟩ = some (.slice aah d.hs.length cch) := cell_of_row wE _ 4 _ _ _ hx
   have kw5 : wE.cell? ⟨w.heap.size, 5, none⟩ = some (.slice aal d.ls.length ccl) := cell_of_row wE _ 5 _ _ _ hx
   have kw6 : wE.cell? ⟨w.heap.size, 6, none⟩ = some (.slice aag d.gs.length ccg) := cell_of_row wE _ 6 _ _ _ hx
   have kw7 : wE.cell? ⟨w.heap.size, 7, none⟩ = some (.slice aap d.ps.length ccp) := cell_of_row wE _ 7 _ _ _ hx
   have kw8 : wE.cell? ⟨w.heap.size, 8, none⟩ = some (.int .i64 d.nx) := cell_of_row wE _ 8 _ _ _ hx
   have kw9 : wE.cell? ⟨w.heap.size, 9, none⟩ = some (.slice aaa d.ga.length cca) := cell_of_row wE _ 9 _ _ _ hx
   have kw10 : wE.cell? ⟨w.heap.size, 10, none⟩ = some (.slice aat d.tk.length cct) := cell_of_row wE _ 10 _ _ _ hx
   go_wp2_with fail
   clear kw0 kw1 kw2 kw3 kw4 kw5 kw6 kw7 kw8 kw9 kw10
   refine (Zeq _ _ _ _ _ _ _ _ _ d B _ (R0.below hB) hsm (hg.below hB (Nat.le_refl _))).mono ?_
   rintro e wh3 ⟨rfl, hb⟩
   replace hx := Zab hx hb
   replace hB := hB.trans (hb.mono hB.size)
   clear hb
   obtain ⟨bh3, h3⟩ : ∃ b, (decide (d.hs.length <= 8) && d.hs.all (hmB d.ns d.is d.ds d.pl)) = b := ⟨_, rfl⟩
   rw [h3]
   cases bh3 with
   | false =>
    have HR : Hid (Zap d = false) := by
     unfold Hid Zap
     have q : (d.hs.all (hmB d.ns d.is d.ds d.pl) && decide (d.hs.length <= 8)) = false := by rw [Bool.and_comm]; exact h3
     rw [q]; simp
    go_wp2
    go_ret
    exact ⟨by rw [HR.out]; rfl, hB⟩
   | true =>
    have kw0 : wh3.cell? ⟨w.heap.size, 0, none⟩ = some (.slice aan d.ns.length ccn) := cell_of_row wh3 _ 0 _ _ _ hx
    have kw1 : wh3.cell? ⟨w.heap.size, 1, none⟩ = some (.slice aai d.is.length cci) := cell_of_row wh3 _ 1 _ _ _ hx
    have kw2 : wh3.cell? ⟨w.heap.size, 2, none⟩ = some (.slice aaf d.ds.length ccf) := cell_of_row wh3 _ 2 _ _ _ hx
    have kw3 : wh3.cell? ⟨w.heap.size, 3, none⟩ = some (.int .i64 d.pl) := cell_of_row wh3 _ 3 _ _ _ hx
    have kw4 : wh3.cell? ⟨w.heap.size, 4, none⟩ = some (.slice aah d.hs.length cch) := cell_of_row wh3 _ 4 _ _ _ hx
    have kw5 : wh3.cell? ⟨w.heap.size, 5, none⟩ = some (.slice aal d.ls.length ccl) := cell_of_row wh3 _ 5 _ _ _ hx
    have kw6 : wh3.cell? ⟨w.heap.size, 6, none⟩ = some (.slice aag d.gs.length ccg) := cell_of_row wh3 _ 6 _ _ _ hx
    have kw7 : wh3.cell? ⟨w.heap.size, 7, none⟩ = some (.slice aap d.ps.length ccp) := cell_of_row wh3 _ 7 _ _ _ hx
    have kw8 : wh3.cell? ⟨w.heap.size, 8, none⟩ = some (.int .i64 d.nx) := cell_of_row wh3 _ 8 _ _ _ hx
    have kw9 : wh3.cell? ⟨w.heap.size, 9, none⟩ = some (.slice aaa d.ga.length cca) := cell_of_row wh3 _ 9 _ _ _ hx
    have kw10 : wh3.cell? ⟨w.heap.size, 10, none⟩ = some (.slice aat d.tk.length cct) := cell_of_row wh3 _ 10 _ _ _ hx
    go_wp2_with fail
    clear kw0 kw1 kw2 kw3 kw4 kw5 kw6 kw7 kw8 kw9 kw10
    refine (ZeW _ _ _ _ _ _ _ _ _ d B _ (R0.below hB) hpl.1 hpl.2).mono ?_
    rintro e wh4 ⟨rfl, hb⟩
    replace hx := Zab hx hb
    replace hB := hB.trans (hb.mono hB.size)
    clear hb
    obtain ⟨bh4, h4⟩ : ∃ b, lksB d = b := ⟨_, rfl⟩
    rw [h4]
    cases bh4 with
    | false =>
     have HR : Hid (Zap d = false) := by
      unfold Hid Zap
      rw [h4]; simp
     go_wp2
     go_ret
     exact ⟨by rw [HR.out]; rfl, hB⟩
    | true =>
     have kw0 : wh4.cell? ⟨w.heap.size, 0, none⟩ = some (.slice aan d.ns.length ccn) := cell_of_row wh4 _ 0 _ _ _ hx
     have kw1 : wh4.cell? ⟨w.heap.size, 1, none⟩ = some (.slice aai d.is.length cci) := cell_of_row wh4 _ 1 _ _ _ hx
     have kw2 : wh4.cell? ⟨w.heap.size, 2, none⟩ = some (.slice aaf d.ds.length ccf) := cell_of_row wh4 _ 2 _ _ _ hx
     have kw3 : wh4.cell? ⟨w.heap.size, 3, none⟩ = some (.int .i64 d.pl) := cell_of_row wh4 _ 3 _ _ _ hx
     have kw4 : wh4.cell? ⟨w.heap.size, 4, none⟩ = some (.slice aah d.hs.length cch) := cell_of_row wh4 _ 4 _ _ _ hx
     have kw5 : wh4.cell? ⟨w.heap.size, 5, none⟩ = some (.slice aal d.ls.length ccl) := cell_of_row wh4 _ 5 _ _ _ hx
     have kw6 : wh4.cell? ⟨w.heap.size, 6, none⟩ = some (.slice aag d.gs.length ccg) := cell_of_row wh4 _ 6 _ _ _ hx
     have kw7 : wh4.cell? ⟨w.heap.size, 7, none⟩ = some (.slice aap d.ps.length ccp) := cell_of_row wh4 _ 7 _ _ _ hx
     have kw8 : wh4.cell? ⟨w.heap.size, 8, none⟩ = some (.int .i64 d.nx) := cell_of_row wh4 _ 8 _ _ _ hx
     have kw9 : wh4.cell? ⟨w.heap.size, 9, none⟩ = some (.slice aaa d.ga.length cca) := cell_of_row wh4 _ 9 _ _ _ hx
     have kw10 : wh4.cell? ⟨w.heap.size, 10, none⟩ = some (.slice aat d.tk.length cct) := cell_of_row wh4 _ 10 _ _ _ hx
     go_wp2_with fail
     clear kw0 kw1 kw2 kw3 kw4 kw5 kw6 kw7 kw8 kw9 kw10
     refine (ZeQ _ _ _ _ _ _ _ _ _ d B _ (R0.below hB)).mono ?_
     rintro e wh5 ⟨rfl, hb⟩
     replace hx := Zab hx hb
     replace hB := hB.trans (hb.mono hB.size)
     clear hb
     obtain ⟨bh5, h5⟩ : ∃ b, (decide (d.gs.length <= 12) && d.gs.all (gmB d.pl)) = b := ⟨_, rfl⟩
     rw [h5]
     cases bh5 with
     | false =>
      have HR : Hid (Zap d = false) := by
       unfold Hid Zap
       have q : (d.gs.all (gmB d.pl) && decide (d.gs.length <= 12)) = false := by rw [Bool.and_comm]; exact h5
       rw [q]; simp
      go_wp2
      go_ret
      exact ⟨by rw [HR.out]; rfl, hB⟩
     | true =>
      have kw0 : wh5.cell? ⟨w.heap.size, 0, none⟩ = some (.slice aan d.ns.length ccn) := cell_of_row wh5 _ 0 _ _ _ hx
      have kw1 : wh5.cell? ⟨w.heap.size, 1, none⟩ = some (.slice aai d.is.length cci) := cell_of_row wh5 _ 1 _ _ _ hx
      have kw2 : wh5.cell? ⟨w.heap.size, 2, none⟩ = some (.slice aaf d.ds.length ccf) := cell_of_row wh5 _ 2 _ _ _ hx
      have kw3 : wh5.cell? ⟨w.heap.size, 3, none⟩ = some (.int .i64 d.pl) := cell_of_row wh5 _ 3 _ _ _ hx
      have kw4 : wh5.cell? ⟨w.heap.size, 4, none⟩ = some (.slice aah d.hs.length cch) := cell_of_row wh5 _ 4 _ _ _ hx
      have kw5 : wh5.cell? ⟨w.heap.size, 5, none⟩ = some (.slice aal d.ls.length ccl) := cell_of_row wh5 _ 5 _ _ _ hx
      have kw6 : wh5.cell? ⟨w.heap.size, 6, none⟩ = some (.slice aag d.gs.length ccg) := cell_of_row wh5 _ 6 _ _ _ hx
      have kw7 : wh5.cell? ⟨w.heap.size, 7, none⟩ = some (.slice aap d.ps.length ccp) := cell_of_row wh5 _ 7 _ _ _ hx
      have kw8 : wh5.cell? ⟨w.heap.size, 8, none⟩ = some (.int .i64 d.nx) := cell_of_row wh5 _ 8 _ _ _ hx
      have kw9 : wh5.cell? ⟨w.heap.size, 9, none⟩ = some (.slice aaa d.ga.length cca) := cell_of_row wh5 _ 9 _ _ _ hx
      have kw10 : wh5.cell? ⟨w.heap.size, 10, none⟩ = some (.slice aat d.tk.length cct) := cell_of_row wh5 _ 10 _ _ _ hx
      go_wp2_with fail
      clear kw0 kw1 kw2 kw3 kw4 kw5 kw6 kw7 kw8 kw9 kw10
      refine (Zdo _ _ _ _ _ _ _ _ _ d B _ (R0.below hB)).mono ?_
      rintro e wh6 ⟨rfl, hb⟩
      replace hx := Zab hx hb
      replace hB := hB.trans (hb.mono hB.size)
      clear hb
      obtain ⟨bh6, h6⟩ : ∃ b, (decide (d.ps.length <= 20) && d.ps.all (pdB d.pl)) = b := ⟨_, rfl⟩
      rw [h6]
      cases bh6 with
      | false =>
       have HR : Hid (Zap d = false) := by
        unfold Hid Zap
        have q : (d.ps.all (pdB d.pl) && decide (d.ps.length <= 20)) = false := by rw [Bool.and_comm]; exact h6
        rw [q]; simp
       go_wp2
       go_ret
       exact ⟨by rw [HR.out]; rfl, hB⟩
      | true =>
       have kc : wh6.cell? ⟨w.heap.size, 0 + 8, none⟩ = some (.int .i64 d.nx) := cell_of_row _ _ 8 _ _ _ hx
       go_wp2_with fail
       clear kc
       refine (Zeu d.nx _).mono ?_
       rintro e wE ⟨rfl, rfl⟩
       obtain ⟨bh7, h7⟩ : ∃ b, pidB d.nx = b := ⟨_, rfl⟩
       rw [h7]
       cases bh7 with
       | false =>
        have HR : Hid (Zap d = false) := by
         unfold Hid Zap
         rw [h7]; simp
        go_wp2
        go_ret
        exact ⟨by rw [HR.out]; rfl, hB⟩
       | true =>
        have HR : Hid (Zap d = true) := by unfold Hid Zap; rw [Bool.and_comm] at h3 h5 h6; rw [h1, h2, h4, h7, h3, h5, h6]; rfl
        go_wp2
        go_ret
        exact ⟨by rw [HR.out]; rfl, hB⟩
set_option maxRecDepth 100000 in
set_option maxHeartbeats 6400000 in
theorem Zcy (vn vi vf vh vl vg vp va vt : Value) (d : Wd) (B : Nat) (w : World) (R : WR B w vn vi vf vh vl vg vp va vt d) (hsm : ∀ x ∈ d.hs, SmH x) :
  Calls Tryz.prog 34 #[.agg #[vn, vi, vf, .int .i64 d.pl, vh, vl, vg, vp, .int .i64 d.nx, va, vt]] w fun e w' => e = .returned (.bool (Zap d)) /\ Below w.heap.size w w' := by
 have R0 := R
 obtain ⟨⟨aan, ccn, rfl⟩, ⟨aai, cci, rfl⟩, ⟨aaf, ccf, rfl⟩, ⟨aah, cch, rfl⟩, ⟨aal, ccl, rfl⟩, ⟨aag, ccg, rfl⟩, ⟨aap, ccp, rfl⟩, ⟨aaa, cca, rfl⟩, ⟨aat, cct, rfl⟩⟩ := R.form
 have hB := Zam w (Obj.cells #[.slice aan d.ns.length ccn, .slice aai d.is.length cci, .slice aaf d.ds.length ccf, .int .i64 d.pl, .slice aah d.hs.length cch, .slice aal d.ls.length ccl, .slice aag d.gs.length ccg, .slice aap d.ps.length ccp, .int .i64 d.nx, .slice aaa d.ga.length cca, .slice aat d.tk.length cct] 50)
 have hx := heap_alloc_new w (Obj.cells #[.slice aan d.ns.length ccn, .slice aai d.is.length cci, .slice aaf d.ds.length ccf, .int .i64 d.pl, .slice aah d.hs.length cch, .slice aal d.ls.length ccl, .slice aag d.gs.length ccg, .slice aap d.ps.length ccp, .int .i64 d.nx, .slice aaa d.ga.length cca, .slice aat d.tk.length cct] 50)
 go_enter Tryz.func34, Tryz.ntmps34
 go_wp2_with fail
 refine (Zao _ _ _ _).mono ?_
 rintro e wE ⟨rfl, rfl⟩
 obtain ⟨bh2, h2⟩ : ∃ b, (decide (1 <= d.pl) && decide (d.pl <= 3)) = b := ⟨_, rfl⟩
 rw [h2]
 cases bh2 with
 | false =>
  have HR : Hid (Zap d = false) := by
   unfold Hid Zap
   have q : Zbp d.pl = false := h2
   rw [q]; simp
  go_wp2
  go_ret
  exact ⟨by rw [HR.out]; rfl, hB⟩
 | true =>
  have kc : (w.alloc (Obj.cells #[.slice aan d.ns.length ccn, .slice aai d.is.length cci, .slice aaf d.ds.length ccf, .int .i64 d.pl, .slice aah d.hs.length cch, .slice aal d.ls.length ccl, .slice aag d.gs.length ccg, .slice aap d.ps.length ccp, .int .i64 d.nx, .slice aaa d.ga.length cca, .slice aat d.tk.length cct] 50)).cell? ⟨w.heap.size, 0 + 8, none⟩ = some (.int .i64 d.nx) := cell_of_row _ _ 8 _ _ _ hx
  go_wp2_with fail
  clear kc
  refine (Zao _ _ _ _).mono ?_
  rintro e wE ⟨rfl, rfl⟩
  obtain ⟨bh7, h7⟩ : ∃ b, (decide (1 <= d.nx) && decide (d.nx <= 1000000000)) = b := ⟨_, rfl⟩
  rw [h7]
  cases bh7 with
  | false =>
   have HR : Hid (Zap d = false) := by
    unfold Hid Zap
    rw [ZjK h7]; simp
   go_wp2
   go_ret
   exact ⟨by rw [HR.out]; rfl, hB⟩
  | true =>
   have hpl := ZcF h2
   have kw0 : (w.alloc (Obj.cells #[.slice aan d.ns.length ccn, .slice aai d.is.length cci, .slice aaf d.ds.length ccf, .int .i64 d.pl, .slice aah d.hs.length cch, .slice aal d.ls.length ccl, .slice aag d.gs.length ccg, .slice aap d.ps.length ccp, .int .i64 d.nx, .slice aaa d.ga.length cca, .slice aat d.tk.length cct] 50)).cell? ⟨w.heap.size, 0, none⟩ = some (.slice aan d.ns.length ccn) := cell_of_row (w.alloc (Obj.cells #[.slice aan d.ns.length ccn, .slice aai d.is.length cci, .slice aaf d.ds.length ccf, .int .i64 d.pl, .slice aah d.hs.length cch, .slice aal d.ls.length ccl, .slice aag d.gs.length ccg, .slice aap d.ps.length ccp, .int .i64 d.nx, .slice aaa d.ga.length cca, .slice aat d.tk.length cct] 50)) _ 0 _ _ _ hx
   have kw1 : (w.alloc (Obj.cells #[.slice aan d.ns.length ccn, .slice aai d.is.length cci, .slice aaf d.ds.length ccf, .int .i64 d.pl, .slice aah d.hs.length cch, .slice aal d.ls.length ccl, .slice aag d.gs.length ccg, .slice aap d.ps.length ccp, .int .i64 d.nx, .slice aaa d.ga.length cca, .slice aat d.tk.length cct] 50)).cell? ⟨w.heap.size, 1, none⟩ = some (.slice aai d.is.length cci) := cell_of_row (w.alloc (Obj.cells #[.slice aan d.ns.length ccn, .slice aai d.is.length cci, .slice aaf d.ds.length ccf, .int .i64 d.pl, .slice aah d.hs.length cch, .slice aal d.ls.length ccl, .slice aag d.gs.length ccg, .slice aap d.ps.length ccp, .int .i64 d.nx, .slice aaa d.ga.length cca, .slice aat d.tk.length cct] 50)) _ 1 _ _ _ hx
   have kw2 : (w.alloc (Obj.cells #[.slice aan d.ns.length ccn, .slice aai d.is.length cci, .slice aaf d.ds.length ccf, .int .i64 d.pl, .slice aah d.hs.length cch, .slice aal d.ls.length ccl, .slice aag d.gs.length ccg, .slice aap d.ps.length ccp, .int .i64 d.nx, .slice aaa d.ga.length cca, .slice aat d.tk.length cct] 50)).cell? ⟨w.heap.size, 2, none⟩ = some (.slice aaf d.ds.length ccf) := cell_of_row (w.alloc (Obj.cells #[.slice aan d.ns.length ccn, .slice aai d.is.length cci, .slice aaf d.ds.length ccf, .int .i64 d.pl, .slice aah d.hs.length cch, .slice aal d.ls.length ccl, .slice aag d.gs.length ccg, .slice aap d.ps.length ccp, .int .i64 d.nx, .slice aaa d.ga.length cca, .slice aat d.tk.length cct] 50)) _ 2 _ _ _ hx
   go_wp2_with fail
   clear kw0 kw1 kw2
   refine (ZcZ _ _ _ d.ns d.is d.ds _ (R0.rn.below hB) (R0.ri.below hB) (R0.rf.below hB)).mono ?_
   rintro e wh1 ⟨rfl, hb⟩
   replace hx := Zab hx hb
   replace hB := hB.trans (hb.mono hB.size)
   clear hb
   obtain ⟨bh1, h1⟩ : ∃ b, ZaM d.ns d.is d.ds = b := ⟨_, rfl⟩
   rw [h1]
   cases bh1 with
   | false =>
    have HR : Hid (Zap d = false) := by
     unfold Hid Zap
     rw [h1]; rfl
    go_wp2
    go_ret
    exact ⟨by rw [HR.out]; rfl, hB⟩
   | true =>
    have kw0 : wh1.cell? ⟨w.heap.size, 0, none⟩ = some (.slice aan d.ns.length ccn) := cell_of_row wh1 _ 0 _ _ _ hx
    have kw1 : wh1.cell? ⟨w.heap.size, 1, none⟩ = some (.slice aai d.is.length cci) := cell_of_row wh1 _ 1 _ _ _ hx
    have kw2 : wh1.cell? ⟨w.heap.size, 2, none⟩ = some (.slice aaf d.ds.length ccf) := cell_of_row wh1 _ 2 _ _ _ hx
    have kw3 : wh1.cell? ⟨w.heap.size, 3, none⟩ = some (.int .i64 d.pl) := cell_of_row wh1 _ 3 _ _ _ hx
    have kw4 : wh1.cell? ⟨w.heap.size, 4, none⟩ = some (.slice aah d.hs.length cch) := cell_of_row wh1 _ 4 _ _ _ hx
    have kw5 : wh1.cell? ⟨w.heap.size, 5, none⟩ = some (.slice aal d.ls.length ccl) := cell_of_row wh1 _ 5 _ _ _ hx
    have kw6 : wh1.cell? ⟨w.heap.size, 6, none⟩ = some (.slice aag d.gs.length ccg) := cell_of_row wh1 _ 6 _ _ _ hx
    have kw7 : wh1.cell? ⟨w.heap.size, 7, none⟩ = some (.slice aap d.ps.length ccp) := cell_of_row wh1 _ 7 _ _ _ hx
    have kw8 : wh1.cell? ⟨w.heap.size, 8, none⟩ = some (.int .i64 d.nx) := cell_of_row wh1 _ 8 _ _ _ hx
    have kw9 : wh1.cell? ⟨w.heap.size, 9, none⟩ = some (.slice aaa d.ga.length cca) := cell_of_row wh1 _ 9 _ _ _ hx
    have kw10 : wh1.cell? ⟨w.heap.size, 10, none⟩ = some (.slice aat d.tk.length cct) := cell_of_row wh1 _ 10 _ _ _ hx
    go_wp2_with fail
    clear kw0 kw1 kw2 kw3 kw4 kw5 kw6 kw7 kw8 kw9 kw10
    refine (Zep _ _ _ _ _ _ _ _ _ d B _ (R0.below hB) hpl.1 hpl.2 hsm).mono ?_
    rintro e wh3 ⟨rfl, hb⟩
    replace hx := Zab hx hb
    replace hB := hB.trans (hb.mono hB.size)
    clear hb
    obtain ⟨bh3, h3⟩ : ∃ b, (d.hs.all (hmB d.ns d.is d.ds d.pl) && decide (d.hs.length <= 8)) = b := ⟨_, rfl⟩
    rw [h3]
    cases bh3 with
    | false =>
     have HR : Hid (Zap d = false) := by
      unfold Hid Zap
      rw [h3]; simp
     go_wp2
     go_ret
     exact ⟨by rw [HR.out]; rfl, hB⟩
    | true =>
     have kw0 : wh3.cell? ⟨w.heap.size, 0, none⟩ = some (.slice aan d.ns.length ccn) := cell_of_row wh3 _ 0 _ _ _ hx
     have kw1 : wh3.cell? ⟨w.heap.size, 1, none⟩ = some (.slice aai d.is.length cci) := cell_of_row wh3 _ 1 _ _ _ hx
     have kw2 : wh3.cell? ⟨w.heap.size, 2, none⟩ = some (.slice aaf d.ds.length ccf) := cell_of_row wh3 _ 2 _ _ _ hx
     have kw3 : wh3.cell? ⟨w.heap.size, 3, none⟩ = some (.int .i64 d.pl) := cell_of_row wh3 _ 3 _ _ _ hx
     have kw4 : wh3.cell? ⟨w.heap.size, 4, none⟩ = some (.slice aah d.hs.length cch) := cell_of_row wh3 _ 4 _ _ _ hx
     have kw5 : wh3.cell? ⟨w.heap.size, 5, none⟩ = some (.slice aal d.ls.length ccl) := cell_of_row wh3 _ 5 _ _ _ hx
     have kw6 : wh3.cell? ⟨w.heap.size, 6, none⟩ = some (.slice aag d.gs.length ccg) := cell_of_row wh3 _ 6 _ _ _ hx
     have kw7 : wh3.cell? ⟨w.heap.size, 7, none⟩ = some (.slice aap d.ps.length ccp) := cell_of_row wh3 _ 7 _ _ _ hx
     have kw8 : wh3.cell? ⟨w.heap.size, 8, none⟩ = some (.int .i64 d.nx) := cell_of_row wh3 _ 8 _ _ _ hx
     have kw9 : wh3.cell? ⟨w.heap.size, 9, none⟩ = some (.slice aaa d.ga.length cca) := cell_of_row wh3 _ 9 _ _ _ hx
     have kw10 : wh3.cell? ⟨w.heap.size, 10, none⟩ = some (.slice aat d.tk.length cct) := cell_of_row wh3 _ 10 _ _ _ hx
     go_wp2_with fail
     clear kw0 kw1 kw2 kw3 kw4 kw5 kw6 kw7 kw8 kw9 kw10
     refine (ZeN _ _ _ _ _ _ _ _ _ d B _ (R0.below hB) hpl.1 hpl.2).mono ?_
     rintro e wh4 ⟨rfl, hb⟩
     replace hx := Zab hx hb
     replace hB := hB.trans (hb.mono hB.size)
     clear hb
     obtain ⟨bh4, h4⟩ : ∃ b, lksB d = b := ⟨_, rfl⟩
     rw [h4]
     cases bh4 with
     | false =>
      have HR : Hid (Zap d = false) := by
       unfold Hid Zap
       rw [h4]; simp
      go_wp2
      go_ret
      exact ⟨by rw [HR.out]; rfl, hB⟩
     | true =>
      have kw0 : wh4.cell? ⟨w.heap.size, 0, none⟩ = some (.slice aan d.ns.length ccn) := cell_of_row wh4 _ 0 _ _ _ hx
      have kw1 : wh4.cell? ⟨w.heap.size, 1, none⟩ = some (.slice aai d.is.length cci) := cell_of_row wh4 _ 1 _ _ _ hx
      have kw2 : wh4.cell? ⟨w.heap.size, 2, none⟩ = some (.slice aaf d.ds.length ccf) := cell_of_row wh4 _ 2 _ _ _ hx
      have kw3 : wh4.cell? ⟨w.heap.size, 3, none⟩ = some (.int .i64 d.pl) := cell_of_row wh4 _ 3 _ _ _ hx
      have kw4 : wh4.cell? ⟨w.heap.size, 4, none⟩ = some (.slice aah d.hs.length cch) := cell_of_row wh4 _ 4 _ _ _ hx
      have kw5 : wh4.cell? ⟨w.heap.size, 5, none⟩ = some (.slice aal d.ls.length ccl) := cell_of_row wh4 _ 5 _ _ _ hx
      have kw6 : wh4.cell? ⟨w.heap.size, 6, none⟩ = some (.slice aag d.gs.length ccg) := cell_of_row wh4 _ 6 _ _ _ hx
      have kw7 : wh4.cell? ⟨w.heap.size, 7, none⟩ = some (.slice aap d.ps.length ccp) := cell_of_row wh4 _ 7 _ _ _ hx
      have kw8 : wh4.cell? ⟨w.heap.size, 8, none⟩ = some (.int .i64 d.nx) := cell_of_row wh4 _ 8 _ _ _ hx
      have kw9 : wh4.cell? ⟨w.heap.size, 9, none⟩ = some (.slice aaa d.ga.length cca) := cell_of_row wh4 _ 9 _ _ _ hx
      have kw10 : wh4.cell? ⟨w.heap.size, 10, none⟩ = some (.slice aat d.tk.length cct) := cell_of_row wh4 _ 10 _ _ _ hx
      go_wp2_with fail
      clear kw0 kw1 kw2 kw3 kw4 kw5 kw6 kw7 kw8 kw9 kw10
      refine (Zfa _ _ _ _ _ _ _ _ _ d B _ (R0.below hB) hpl.1 hpl.2).mono ?_
      rintro e wh5 ⟨rfl, hb⟩
      replace hx := Zab hx hb
      replace hB := hB.trans (hb.mono hB.size)
      clear hb
      obtain ⟨bh5, h5⟩ : ∃ b, ((d.gs.all (gmB d.pl) && d.ps.all (pdB d.pl)) && (decide (d.gs.length <= 12) && decide (d.ps.length <= 20))) = b := ⟨_, rfl⟩
      rw [h5]
      cases bh5 with
      | false =>
       have HR : Hid (Zap d = false) := by
        unfold Hid Zap
        cases q1 : d.gs.all (gmB d.pl) <;> cases q2 : d.ps.all (pdB d.pl) <;> cases q3 : decide (d.gs.length <= 12) <;> cases q4 : decide (d.ps.length <= 20) <;> simp [q1, q2, q3, q4] at h5 ⊢
       go_wp2
       go_ret
       exact ⟨by rw [HR.out]; rfl, hB⟩
      | true =>
       have HR : Hid (Zap d = true) := by unfold Hid Zap; have q2 : Zbp d.pl = true := h2; simp only [Bool.and_eq_true] at h5; obtain ⟨⟨g1, g2⟩, g3, g4⟩ := h5; rw [h1, h4, q2, ZjK h7, h3, g1, g2, g3, g4]; rfl
       go_wp2
       go_ret
       exact ⟨by rw [HR.out]; rfl, hB⟩
def allN (f : Nat -> Bool) : Nat -> Nat -> Bool
 | 0, _ => true
 | n + 1, i => f i && allN f n (i + 1)
theorem Zce {f : Nat -> Bool} {m k : Nat} (hk : k < m) : allN f (m - k) k = (f k && allN f (m - (k + 1)) (k + 1)) := by
 obtain ⟨n, hn⟩ : ∃ n, m - k = n + 1 := ⟨m - k - 1, by omega⟩
 rw [hn, allN, show m - (k + 1) = n by omega]
theorem ZcM {f : Nat -> Bool} {m k : Nat} (hk : m <= k) : allN f (m - k) k = true := by
 rw [show m - k = 0 by omega, allN]
def Zb9 (d : Wd) (i : Nat) : Bool := eqTs (d.tk.getD i []) ((d.ga.getD i []).take (d.tk.getD i []).length)
def ordB (d : Wd) : Bool := allN (Zb9 d) d.ls.length 0
theorem Zgb {d : Wd} {i : Nat} {us ts : List ByteArray} (hu : d.tk[i]? = some us) (ht : d.ga[i]? = some ts) : Zb9 d i = eqTs us (ts.take us.length) := by
 unfold Zb9
 rw [List.getD_eq_getElem?_getD, List.getD_eq_getElem?_getD, hu, ht]
 rfl
def hAt (h : List Pc) (ts : List ByteArray) : Bool := h.all fun p => p.s.toList == (ts.getD p.n.toNat ⟨#[]⟩).toList
def qAt (l : Lk) (ts : List ByteArray) : Bool := eqTs l.q (ts.drop l.acked.toNat)
def hqAt (l : Lk) (ts : List ByteArray) : Bool := hAt l.h ts && qAt l ts
def quAt (d : Wd) (i : Nat) : Bool := match d.ls[i]? with
 | some l => hqAt l (d.ga.getD i [])
 | none => true
def queB (d : Wd) : Bool := allN (quAt d) d.ls.length 0
theorem Ziw {d : Wd} {i : Nat} {l : Lk} {ts : List ByteArray} (hl : d.ls[i]? = some l) (ht : d.ga[i]? = some ts) : quAt d i = hqAt l ts := by
 unfold quAt
 rw [hl, List.getD_eq_getElem?_getD, ht]
 rfl
structure LkAll (d : Wd) : Prop where
 lg : d.ga.length = d.ls.length
 lt : d.tk.length = d.ls.length
 at' : ∀ (k : Nat) (l : Lk), d.ls[k]? = some l -> ZaN l = true /\ (((d.ga.getD k []).length : Int) = l.sent) /\ (((d.tk.getD k []).length : Int) = l.got)
theorem ZcL {d : Wd} (h : Zap d = true) : LkAll d := by
 have hl : lksB d = true := by
  unfold Zap at h
  simp only [Bool.and_eq_true] at h
  exact h.2.2.1
 unfold lksB at hl
 simp only [Bool.and_eq_true, decide_eq_true_eq] at hl
 obtain ⟨⟨h1, h2, h3⟩, h4⟩ := hl
 refine ⟨by omega, by omega, fun k l hk => ?_⟩
 have hm : (l, k) ∈ d.ls.zipIdx := List.mem_of_getElem? (ZhM hk)
 have := List.all_eq_true.1 h4 _ hm
 unfold lkB at this
 simp only [Bool.and_eq_true, decide_eq_true_eq] at this
 exact ⟨this.1, this.2.1, this.2.2⟩
theorem LkAll.ts {d : Wd} (L : LkAll d) {k : Nat} {l : Lk} {ts : List ByteArray} (hl : d.ls[k]? = some l) (ht : d.ga[k]? = some ts) : ZaN l = true /\ (ts.length : Int) = l.sent := by
 obtain ⟨h1, h2, _⟩ := L.at' k l hl
 rw [List.getD_eq_getElem?_getD, ht] at h2
 exact ⟨h1, h2⟩
theorem LkAll.us {d : Wd} (L : LkAll d) {k : Nat} {l : Lk} {us : List ByteArray} (hl : d.ls[k]? = some l) (hu : d.tk[k]? = some us) : (us.length : Int) = l.got := by
 obtain ⟨_, _, h3⟩ := L.at' k l hl
 rw [List.getD_eq_getElem?_getD, hu] at h3
 exact h3
theorem Zgf {e : Int} : ∀ {h : List Pc} {last : Int}, Zbq e last h = true -> ∀ p ∈ h, last < p.n /\ p.n < e
 | [], _, _, p, hp => by cases hp
 | q :: h, last, hh, p, hp => by
  rw [Zbq] at hh
  simp only [Bool.and_eq_true, decide_eq_true_eq] at hh
  rcases List.mem_cons.1 hp with rfl | hp
  ·exact ⟨hh.1, hh.2.1⟩
  ·have := Zgf hh.2.2 p hp
   omega
theorem Zil {l : Lk} (h : ZaN l = true) : ∀ p ∈ l.h, 0 <= p.n /\ p.n < l.sent := by
 intro p hp
 have hn := Za6 h
 unfold ZaN at h
 simp only [Bool.and_eq_true] at h
 have := Zgf h.2 p hp
 have hle : lend l <= l.sent := by unfold lend; split <;> omega
 omega
def mvs (d : Wd) (ts : List ByteArray) : List Int := (ts.map (movN d.ns d.is d.ds)).filter (· ≠ 0)
def wayP (d : Wd) : Nat -> Nat -> List Int
 | 0, _ => []
 | n + 1, i => mvs d (wayT d i) ++ wayP d n (i + 1)
def pidL (d : Wd) : List Int := d.hs.map Hm.i ++ wayP d d.ls.length 0
def okP (d : Wd) (p : Int) : Bool := !(decide (p < d.nx)) || decide ((pidL d).count p <= 1)
def oneB (d : Wd) : Bool := (pidL d).all (okP d)
theorem Zgi {h : List Pc} {ts : List ByteArray} {j : Nat} {x : Pc} {y : ByteArray} {n : Nat} (hx : h[j]? = some x) (hn : x.n = n) (hy : ts[n]? = some y) : hAt (h.drop j) ts = ((x.s.toList == y.toList) && hAt (h.drop (j + 1)) ts) := by
 obtain ⟨hl, rfl⟩ := List.getElem?_eq_some_iff.1 hx
 unfold hAt
 rw [List.drop_eq_getElem_cons hl, List.all_cons, hn, List.getD_eq_getElem?_getD, show ((n : Int)).toNat = n by omega, hy]
 rfl
theorem ZiG {h : List Pc} {ts : List ByteArray} {j : Nat} (hj : h.length <= j) : hAt (h.drop j) ts = true := by
 rw [List.drop_eq_nil_of_le hj]
 rfl
set_option maxRecDepth 100000 in
set_option maxHeartbeats 3200000 in
theorem Zem (vq vh va : Value) (l : Lk) (ts : List ByteArray) (w : World) (R1 : StRow w vq l.q) (R2 : PcRow w vh l.h) (RA : StRow w va ts) (hlk : ZaN l = true) (hsn : (ts.length : Int) = l.sent) :
  Calls Tryz.prog 102 #[.agg #[.int .i64 l.sent, .int .i64 l.acked, vq, .int .i64 l.got, vh], va] w fun e w' => e = .returned (.bool (hqAt l ts)) /\ Below w.heap.size w w' := by
 obtain ⟨pq, qq, rfl⟩ := R1.small
 obtain ⟨pa, qa, rfl⟩ := RA.small
 have hno := Zil hlk
 have hnum := Za6 hlk
 have hB0 := Zam w (Obj.cells #[.int .i64 l.sent, .int .i64 l.acked, .slice pq l.q.length qq, .int .i64 l.got, vh] 88)
 have hcA : (ts.length <= qa /\ (pa = none -> qa = 0)) /\ ts.length <= 9223372036854775807 := by
  obtain ⟨ao, cap, e, hc, hm, _⟩ := RA
  simp only [Value.slice.injEq] at e
  obtain ⟨rfl, _, rfl⟩ := e
  exact ⟨hc, hm⟩
 have RA0 := RA
 have R10 := R1
 obtain ⟨aoa, capa, e, _, _, _, hcA2⟩ := RA
 simp only [Value.slice.injEq] at e
 obtain ⟨rfl, _, rfl⟩ := e
 obtain ⟨ph, qh, rfl, hcap, hm, hz, hcell⟩ := R2
 have hx0 := heap_alloc_new w (Obj.cells #[.int .i64 l.sent, .int .i64 l.acked, .slice pq l.q.length qq, .int .i64 l.got, .slice ph l.h.length qh] 88)
 have HV : Hid (hqAt l ts = (hAt (l.h.drop 0) ts && qAt l ts)) := rfl
 have NO : Hid (∀ p ∈ l.h, 0 <= p.n /\ p.n < (ts.length : Int)) := by intro p hp; rw [hsn]; exact hno p hp
 have NU : Hid (0 <= l.acked /\ l.acked <= (ts.length : Int)) := by unfold Hid; rw [hsn]; omega
 clear hno hnum hlk hsn R1
 have k4 := cell_of_row _ _ 4 _ _ _ hx0
 go_enter Tryz.func102, Tryz.ntmps102
 go_wp2_with fail
 generalize w.alloc (Obj.cells #[.int .i64 l.sent, .int .i64 l.acked, .slice pq l.q.length qq, .int .i64 l.got, .slice ph l.h.length qh] 88) = w0 at *
 go_loopw [10] (fun i wr => ∃ j : Nat, j <= l.h.length /\ i = .int .i64 j /\ Hid (hqAt l ts = (hAt (l.h.drop j) ts && qAt l ts)) /\ Below w0.heap.size w0 wr) (fun i _ => l.h.length - (intOf i).toNat)
 case atStart => exact ⟨0, by omega, rfl, HV, Below.refl _ _⟩
 case round =>
  clear HV k4
  obtain ⟨j, hj, rfl, HK, hb⟩ := hrel
  have hB := hB0.trans (hb.mono hB0.size)
  by_cases hlt : j < l.h.length
  ·obtain ⟨g, o, rfl, hg, hcell⟩ := hcell (by intro e; rw [e] at hlt; simp at hlt)
   obtain ⟨x, hx⟩ : ∃ x, l.h[j]? = some x := ⟨l.h[j], by simp [hlt]⟩
   obtain ⟨k0, k1⟩ := (hcell j x hx).below hB hg
   obtain ⟨n0, n1⟩ := NO.out x (List.mem_of_getElem? hx)
   obtain ⟨n, hn⟩ : ∃ n : Nat, x.n = n := ⟨x.n.toNat, by omega⟩
   have hnt : n < ts.length := by omega
   have hni : (n : Int) < (ts.length : Int) := by omega
   obtain ⟨y, hy⟩ : ∃ y, ts[n]? = some y := ⟨ts[n], List.getElem?_eq_getElem _⟩
   have HS : Hid (hqAt l ts = (((x.s.toList == y.toList) && hAt (l.h.drop (j + 1)) ts) && qAt l ts)) := by unfold Hid; rw [HK.out, Zgi hx hn hy]
   obtain ⟨g2, o2, rfl, hg2, hcA2⟩ := hcA2 (by intro e; rw [e] at hnt; simp at hnt)
   have ky := (hB.cell (p := ⟨g2, o2 + n, none⟩) hg2).trans (hcA2 n y hy)
   have hg2' := Nat.lt_of_lt_of_le hg2 hB.size
   have hBn := hB.alloc hB.size (Obj.cells #[.int .i64 x.n, .string x.s] 91)
   have hbn := hb.alloc hb.size (Obj.cells #[.int .i64 x.n, .string x.s] 91)
   clear hcell hx hcA2 hy HK n0 n1 NO
   rw [hn] at k0 hBn hbn
   clear hn
   cases e : (x.s.toList == y.toList) with
   | true =>
    have HB : Hid (hqAt l ts = (hAt (l.h.drop (j + 1)) ts && qAt l ts)) := by unfold Hid; rw [HS.out, e]; rfl
    clear HS
    go_wp2
    go_quiet (fail)
    go_wp2
    go_roundw
    case rel => exact ⟨j + 1, by omega, by go_num, HB, hbn.trans ((ZaU _ _).mono hbn.size)⟩
    case measure => simp [intOf]; omega
   | false =>
    have HB : Hid (hqAt l ts = false) := by unfold Hid; rw [HS.out, e]; rfl
    clear HS
    go_wp2
    go_quiet (fail)
    go_wp2
    go_ret
    exact ⟨retB HB.out.symm, hBn.trans ((ZaU _ _).mono hBn.size)⟩
  ·have HB : Hid (hqAt l ts = qAt l ts) := by unfold Hid; rw [HK.out, ZiG (by omega)]; rfl
   have hx := Zab hx0 hb
   obtain ⟨a, ha⟩ : ∃ a : Nat, l.acked = a := ⟨l.acked.toNat, by have := NU.out; omega⟩
   have hat : a <= ts.length := by have := NU.out; omega
   have HQ : Hid (qAt l ts = eqTs l.q (ts.drop a)) := by unfold Hid qAt; rw [ha, show ((a : Int)).toNat = a by omega]
   have RAr := RA0.below hB
   have R1r := R10.below hB
   obtain ⟨r, hr⟩ : ∃ r, qAt l ts = r := ⟨_, rfl⟩
   rw [hr] at HB HQ
   clear HK hcell hcA2 hr NO NU hx0
   by_cases hc : qa = a
   ·obtain rfl : a = ts.length := by have := hcA.1.1; omega
    have HC : ∀ W, Below wr.heap.size wr W -> Calls Tryz.prog 87 #[.slice pq l.q.length qq, .slice pa 0 0] W fun e w' => e = .returned (.bool r) /\ Below W.heap.size W w' := by
     intro W hW
     rw [HQ.out]
     refine Zcs _ _ l.q (ts.drop ts.length) W (R1r.below hW) ?_
     have := ZjF (RAr.below hW) rfl ts.length ts.length (by omega) pa (ts.length - ts.length) (qa - ts.length) (Or.inl ⟨hc, rfl⟩) rfl rfl
     rw [show ts.length - ts.length = 0 by omega, show qa - ts.length = 0 by omega] at this
     exact this
    obtain rfl := hc
    clear hcA RAr RA0 R1r R10
    go_wp2_with fail
    refine ZhX w.heap.size ts.length qq qh pa pq ph l r _ _ hx ha HC ?_
    intro u23 u24 u25 u26 u27 u28 u29 W hW
    have hBW := hB.trans (hW.mono hB.size)
    clear hW HC hx
    go_wp2
    go_ret
    exact ⟨retB HB.out.symm, hBW⟩
   ·have HC : ∀ W, Below wr.heap.size wr W -> Calls Tryz.prog 87 #[.slice pq l.q.length qq, .slice (pa.map fun x => x.add a) (ts.length - a) (qa - a)] W fun e w' => e = .returned (.bool r) /\ Below W.heap.size W w' := by
     intro W hW
     rw [HQ.out]
     refine Zcs _ _ l.q (ts.drop a) W (R1r.below hW) ?_
     have := ZjF (RAr.below hW) rfl a a (by omega) (pa.map fun x => x.add a) (ts.length - a) (qa - a) (Or.inr ⟨by have := hcA.1.1; omega, rfl⟩) rfl rfl
     exact this
    go_wp2_with fail
    refine Ziq w.heap.size ts.length qa a qq qh pa pq ph l r _ _ hx ha hat hcA.1.1 (by have := hcA.1.1; omega) HC ?_
    intro u23 u24 u25 u26 u27 u28 u29 W hW
    have hBW := hB.trans (hW.mono hB.size)
    clear hW HC hx
    go_wp2
    go_ret
    exact ⟨retB HB.out.symm, hBW⟩
set_option maxRecDepth 100000 in
set_option maxHeartbeats 3200000 in
theorem Zeg (vn vi vf vh vl vg vp va vt : Value) (d : Wd) (B : Nat) (w : World) (R : WR B w vn vi vf vh vl vg vp va vt d) (L : LkAll d) :
  Calls Tryz.prog 52 #[.agg #[vn, vi, vf, .int .i64 d.pl, vh, vl, vg, vp, .int .i64 d.nx, va, vt]] w fun e w' => e = .returned (.bool (queB d)) /\ Below w.heap.size w w' := by
 have R0 := R
 obtain ⟨⟨an, cn, rfl⟩, ⟨ai, ci, rfl⟩, ⟨af, cf, rfl⟩, ⟨ah, ch, rfl⟩, ⟨al, cl, rfl⟩, ⟨ag, cg, rfl⟩, ⟨ap, cp, rfl⟩, ⟨aa, ca, rfl⟩, ⟨ab, cb, rfl⟩⟩ := R.form
 clear R
 have hB0 := Zam w (Obj.cells #[.slice an d.ns.length cn, .slice ai d.is.length ci, .slice af d.ds.length cf, .int .i64 d.pl, .slice ah d.hs.length ch, .slice al d.ls.length cl, .slice ag d.gs.length cg, .slice ap d.ps.length cp, .int .i64 d.nx, .slice aa d.ga.length ca, .slice ab d.tk.length cb] 50)
 have hx0 := heap_alloc_new w (Obj.cells #[.slice an d.ns.length cn, .slice ai d.is.length ci, .slice af d.ds.length cf, .int .i64 d.pl, .slice ah d.hs.length ch, .slice al d.ls.length cl, .slice ag d.gs.length cg, .slice ap d.ps.length cp, .int .i64 d.nx, .slice aa d.ga.length ca, .slice ab d.tk.length cb] 50)
 obtain ⟨aoa, capa, hha, _, _, hcella⟩ := R0.ra
 simp only [Value.slice.injEq] at hha
 obtain ⟨rfl, _, rfl⟩ := hha
 obtain ⟨aol, capl, hhl, _, _, hcelll⟩ := R0.rl
 simp only [Value.slice.injEq] at hhl
 obtain ⟨rfl, _, rfl⟩ := hhl
 have HV : Hid (queB d = allN (quAt d) (d.ls.length - 0) 0) := by unfold Hid queB; rfl
 have hle : d.ls.length <= d.ga.length := by have := L.lg; omega
 have L0 : Hid (LkAll d) := L
 clear L
 have k1 := cell_of_row _ _ 5 _ _ _ hx0
 go_enter Tryz.func52, Tryz.ntmps52
 go_wp2_with fail
 clear k1
 generalize w.alloc (Obj.cells #[.slice an d.ns.length cn, .slice ai d.is.length ci, .slice af d.ds.length cf, .int .i64 d.pl, .slice ah d.hs.length ch, .slice al d.ls.length cl, .slice ag d.gs.length cg, .slice ap d.ps.length cp, .int .i64 d.nx, .slice aa d.ga.length ca, .slice ab d.tk.length cb] 50) = w0 at *
 go_loopw [8] (fun i wr => ∃ k : Nat, k <= d.ls.length /\ i = .int .i64 k /\ Hid (queB d = allN (quAt d) (d.ls.length - k) k) /\ Below w0.heap.size w0 wr) (fun i _ => d.ls.length - (intOf i).toNat)
 case atStart => exact ⟨0, by omega, rfl, HV, Below.refl _ _⟩
 case round =>
  clear HV
  obtain ⟨k, hk, rfl, HK, hb⟩ := hrel
  have hB := hB0.trans (hb.mono hB0.size)
  have hx := Zab hx0 hb
  clear hx0
  by_cases hlt : k < d.ls.length
  ·have h2 : k < d.ga.length := by omega
   obtain ⟨ga, oa, rfl, _, hga, hcella⟩ := hcella (by intro e; rw [e] at h2; simp at h2)
   obtain ⟨gl, ol, rfl, _, hgl, hcelll⟩ := hcelll (by intro e; rw [e] at hlt; simp at hlt)
   obtain ⟨l, hl⟩ : ∃ x, d.ls[k]? = some x := ⟨d.ls[k], List.getElem?_eq_getElem _⟩
   obtain ⟨ts, hta⟩ : ∃ x, d.ga[k]? = some x := ⟨d.ga[k], List.getElem?_eq_getElem _⟩
   obtain ⟨cs, hcs, hr, vq, vh', hc, L1, L2, _, _⟩ := hcelll k l hl
   obtain ⟨_, _, hra, ua, rfl, A1, _⟩ := hcella k ts hta
   obtain ⟨pq, qq, rfl⟩ := L1.small
   obtain ⟨ph, qh, rfl⟩ := L2.small
   obtain ⟨pa, qa, rfl⟩ := A1.small
   obtain rfl : cs = (#[.int .i64 l.sent, .int .i64 l.acked, .slice pq l.q.length qq, .int .i64 l.got, .slice ph l.h.length qh] : Array Value).toList := congrArg Array.toList hc
   obtain ⟨hlk, hsn⟩ := L0.out.ts hl hta
   have HS : Hid (queB d = (hqAt l ts && allN (quAt d) (d.ls.length - (k + 1)) (k + 1))) := by unfold Hid; rw [HK.out, Zce hlt, Ziw hl hta]
   replace hr := Zaa hr hB hgl
   have ka := ZaC (Zaa hra hB hga)
   rw [Nat.mul_one] at ka
   have hgl' := Nat.lt_of_lt_of_le hgl hB.size
   have hga' := Nat.lt_of_lt_of_le hga hB.size
   have L1' := L1.below hB
   have L2' := L2.below hB
   have A1' := A1.below hB
   clear hcelll hcella hl hta hc hcs hra HK L1 L2 A1
   have hb3 := Zam wr (Obj.cells #[.int .i64 l.sent, .int .i64 l.acked, .slice pq l.q.length qq, .int .i64 l.got, .slice ph l.h.length qh] 88)
   have hh3 : (wr.alloc (Obj.cells #[.int .i64 l.sent, .int .i64 l.acked, .slice pq l.q.length qq, .int .i64 l.got, .slice ph l.h.length qh] 88)).heap[wr.heap.size]? = some (Obj.cells #[.int .i64 l.sent, .int .i64 l.acked, .slice pq l.q.length qq, .int .i64 l.got, .slice ph l.h.length qh] 88) := heap_alloc_new _ _
   have hx3 := Zab hx hb3
   have hB3 := hB.trans (hb3.mono hB.size)
   have hbR := hb.trans (hb3.mono hb.size)
   have ka3 := (hb3.cell (p := ⟨ga, oa + k, none⟩) hga').trans ka
   have L13 := L1'.below hb3
   have L23 := L2'.below hb3
   have A13 := A1'.below hb3
   have hga3 := Nat.lt_of_lt_of_le hga' hb3.size
   obtain ⟨W3, hW3⟩ : ∃ W3, Hid (wr.alloc (Obj.cells #[.int .i64 l.sent, .int .i64 l.acked, .slice pq l.q.length qq, .int .i64 l.got, .slice ph l.h.length qh] 88) = W3) := ⟨_, rfl⟩
   go_wp2_with (refine wpList_load_mid rfl 88 _ rfl gl (ol + k * 5) rfl _ _ hr Tryz.underlying88 rfl (by kernel_rfl) ?_)
   rw [hW3.out] at hb3 hh3 hx3 hB3 hbR ka3 L13 L23 A13 hga3 ⊢
   have HC : ∀ W, Below W3.heap.size W3 W -> Calls Tryz.prog 102 #[.agg #[.int .i64 l.sent, .int .i64 l.acked, .slice pq l.q.length qq, .int .i64 l.got, .slice ph l.h.length qh], .slice pa ts.length qa] W fun e w' => e = .returned (.bool (hqAt l ts)) /\ Below W.heap.size W w' := fun W hW => Zem _ _ _ l ts W (L13.below hW) (L23.below hW) (A13.below hW) hlk hsn
   obtain ⟨r, hr⟩ : ∃ r, hqAt l ts = r := ⟨_, rfl⟩
   rw [hr] at HS HC
   clear hW3 hr ka hx L13 L23 A13 hb3 hlk hsn L1' L2' A1'
   refine ZjP w.heap.size wr.heap.size ga oa k ts.length qa qq qh pa pq ph an ai af ah (some ⟨gl, ol, none⟩) ag ap ab cn ci cf ch cl cg cp ca cb d l r W3 _ hx3 hh3 hga3 ka3 h2 HC ?_
   intro u13 u14 u15 u16 u17 u18 u19 W hW
   have hBW := hB3.trans (hW.mono hB3.size)
   have hbW := hbR.trans (hW.mono hbR.size)
   clear HC hW hx3 hh3 ka3
   cases r with
   | true =>
    have HB : Hid (queB d = allN (quAt d) (d.ls.length - (k + 1)) (k + 1)) := by unfold Hid; rw [HS.out]; rfl
    clear HS
    go_wp2
    go_roundw
    case rel => exact ⟨k + 1, by omega, by go_num, HB, hbW⟩
    case measure => simp [intOf]; omega
   | false =>
    have HB : Hid (queB d = false) := by unfold Hid; rw [HS.out]; rfl
    clear HS
    go_wp2
    go_ret
    exact ⟨retB HB.out.symm, hBW⟩
  ·have HB : Hid (queB d = true) := by unfold Hid; rw [HK.out, ZcM (by omega)]
   clear HK hcella hcelll
   go_wp2
   go_ret
   exact ⟨retB HB.out.symm, hB⟩
set_option maxRecDepth 100000 in
set_option maxHeartbeats 3200000 in
theorem Zfw (vn vi vf vh vl vg vp va vt : Value) (d : Wd) (B : Nat) (w : World) (R : WR B w vn vi vf vh vl vg vp va vt d) (hsm : ∀ x ∈ d.hs, SmH x) :
  Calls Tryz.prog 16 #[.agg #[vn, vi, vf, .int .i64 d.pl, vh, vl, vg, vp, .int .i64 d.nx, va, vt]] w fun e w' => e = .returned (.bool (Zap d && queB d)) /\ Below w.heap.size w w' := by
 have R0 := R
 obtain ⟨⟨an, cn, rfl⟩, ⟨ai, ci, rfl⟩, ⟨af, cf, rfl⟩, ⟨ah, ch, rfl⟩, ⟨al, cl, rfl⟩, ⟨ag, cg, rfl⟩, ⟨ap, cp, rfl⟩, ⟨aa, ca, rfl⟩, ⟨ab, cb, rfl⟩⟩ := R.form
 clear R
 have hB0 := Zam w (Obj.cells #[.slice an d.ns.length cn, .slice ai d.is.length ci, .slice af d.ds.length cf, .int .i64 d.pl, .slice ah d.hs.length ch, .slice al d.ls.length cl, .slice ag d.gs.length cg, .slice ap d.ps.length cp, .int .i64 d.nx, .slice aa d.ga.length ca, .slice ab d.tk.length cb] 50)
 have hx0 := heap_alloc_new w (Obj.cells #[.slice an d.ns.length cn, .slice ai d.is.length ci, .slice af d.ds.length cf, .int .i64 d.pl, .slice ah d.hs.length ch, .slice al d.ls.length cl, .slice ag d.gs.length cg, .slice ap d.ps.length cp, .int .i64 d.nx, .slice aa d.ga.length ca, .slice ab d.tk.length cb] 50)
 go_enter Tryz.func16, Tryz.ntmps16
 go_wp2_with (refine wpList_load_row rfl 50 _ rfl w.heap.size rfl 50 #[.slice an d.ns.length cn, .slice ai d.is.length ci, .slice af d.ds.length cf, .int .i64 d.pl, .slice ah d.hs.length ch, .slice al d.ls.length cl, .slice ag d.gs.length cg, .slice ap d.ps.length cp, .int .i64 d.nx, .slice aa d.ga.length ca, .slice ab d.tk.length cb] (0, 0) _ hx0 Tryz.underlying50 rfl Zle ?_)
 refine (Zcy _ _ _ _ _ _ _ _ _ d B _ (R0.below hB0) hsm).mono ?_
 rintro e w1 ⟨rfl, hb⟩
 have hx1 := Zab hx0 hb
 have hB1 := hB0.trans (hb.mono hB0.size)
 clear hb hx0 hB0
 cases hw : Zap d with
 | false =>
  go_wp2
  go_ret
  exact ⟨retB (by rw [hw]; rfl), hB1⟩
 | true =>
  have L := ZcL hw
  have HW : Hid (Zap d = true) := hw
  have HV : Hid (queB d = allN (quAt d) (d.ls.length - 0) 0) := by unfold Hid queB; rfl
  have hle : d.ls.length <= d.ga.length := by have := L.lg; omega
  have L0 : Hid (LkAll d) := L
  clear L hw
  obtain ⟨aoa, capa, hha, _, _, hcella⟩ := R0.ra
  simp only [Value.slice.injEq] at hha
  obtain ⟨rfl, _, rfl⟩ := hha
  obtain ⟨aol, capl, hhl, _, _, hcelll⟩ := R0.rl
  simp only [Value.slice.injEq] at hhl
  obtain ⟨rfl, _, rfl⟩ := hhl
  have k1 := cell_of_row _ _ 9 _ _ _ hx1
  have k3 := cell_of_row _ _ 5 _ _ _ hx1
  have hs1 := Zbc hx1
  go_wp2_with fail
  go_loopw [3] (fun i wr => ∃ k : Nat, k <= d.ls.length /\ i = .int .i64 k /\ Hid (queB d = allN (quAt d) (d.ls.length - k) k) /\ Below w1.heap.size w1 wr) (fun i _ => d.ls.length - (intOf i).toNat)
  case atStart => exact ⟨0, by omega, rfl, HV, Below.refl _ _⟩
  case round =>
   clear HV
   obtain ⟨k, hk, rfl, HK, hb⟩ := hrel
   have hB := hB1.trans (hb.mono hB1.size)
   have hx := Zab hx1 hb
   have c5 := (hb.cell (p := ⟨w.heap.size, 0 + 5, none⟩) hs1).trans k3
   by_cases hlt : k < d.ls.length
   ·have h2 : k < d.ga.length := by omega
    have h2i : (k : Int) < (d.ga.length : Int) := by omega
    obtain ⟨ga, oa, rfl, _, hga, hcella⟩ := hcella (by intro e; rw [e] at h2; simp at h2)
    obtain ⟨gl, ol, rfl, _, hgl, hcelll⟩ := hcelll (by intro e; rw [e] at hlt; simp at hlt)
    obtain ⟨l, hl⟩ : ∃ x, d.ls[k]? = some x := ⟨d.ls[k], List.getElem?_eq_getElem _⟩
    obtain ⟨ts, hta⟩ : ∃ x, d.ga[k]? = some x := ⟨d.ga[k], List.getElem?_eq_getElem _⟩
    obtain ⟨cs, hcs, hr, vq, vh', hc, L1, L2, _, _⟩ := hcelll k l hl
    obtain ⟨_, _, hra, ua, rfl, A1, _⟩ := hcella k ts hta
    obtain ⟨pq, qq, rfl⟩ := L1.small
    obtain ⟨ph, qh, rfl⟩ := L2.small
    obtain ⟨pa, qa, rfl⟩ := A1.small
    obtain rfl : cs = (#[.int .i64 l.sent, .int .i64 l.acked, .slice pq l.q.length qq, .int .i64 l.got, .slice ph l.h.length qh] : Array Value).toList := congrArg Array.toList hc
    obtain ⟨hlk, hsn⟩ := L0.out.ts hl hta
    have HS : Hid (queB d = (hqAt l ts && allN (quAt d) (d.ls.length - (k + 1)) (k + 1))) := by unfold Hid; rw [HK.out, Zce hlt, Ziw hl hta]
    replace hr := Zaa hr hB hgl
    have ka := ZaC (Zaa hra hB hga)
    rw [Nat.mul_one] at ka
    have hgl' := Nat.lt_of_lt_of_le hgl hB.size
    have hga' := Nat.lt_of_lt_of_le hga hB.size
    have L1' := L1.below hB
    have L2' := L2.below hB
    have A1' := A1.below hB
    clear hcelll hcella hl hta hc hcs hra HK L1 L2 A1
    obtain ⟨a, ha⟩ : ∃ a : Nat, l.acked = a := ⟨l.acked.toNat, by have := Za6 hlk; omega⟩
    have hat : a + l.q.length = ts.length := by have := Za6 hlk; omega
    have htm : ts.length <= 100000 := by have := Za6 hlk; omega
    have HQ : Hid (queB d = ((hAt l.h ts && eqTs (l.q.drop 0) ((ts.drop a).drop 0)) && allN (quAt d) (d.ls.length - (k + 1)) (k + 1))) := by unfold Hid; rw [HS.out]; unfold hqAt qAt; rw [ha, show ((a : Int)).toNat = a by omega]; rfl
    have NO : Hid (∀ p ∈ l.h, 0 <= p.n /\ p.n < (ts.length : Int)) := by intro p hp; rw [hsn]; exact Zil hlk p hp
    have HAT : Hid (a + l.q.length = ts.length) := hat
    have HA : Hid (l.acked = (a : Int)) := ha
    clear hlk hsn hat HS ha L0
    have hb3 := Zam wr (Obj.cells #[.int .i64 l.sent, .int .i64 l.acked, .slice pq l.q.length qq, .int .i64 l.got, .slice ph l.h.length qh] 88)
    have hh3 : (wr.alloc (Obj.cells #[.int .i64 l.sent, .int .i64 l.acked, .slice pq l.q.length qq, .int .i64 l.got, .slice ph l.h.length qh] 88)).heap[wr.heap.size]? = some (Obj.cells #[.int .i64 l.sent, .int .i64 l.acked, .slice pq l.q.length qq, .int .i64 l.got, .slice ph l.h.length qh] 88) := heap_alloc_new _ _
    have hx3 := Zab hx hb3
    have hB3 := hB.trans (hb3.mono hB.size)
    have hbR := hb.trans (hb3.mono hb.size)
    have ka3 := (hb3.cell (p := ⟨ga, oa + k, none⟩) hga').trans ka
    have L13 := L1'.below hb3
    have L23 := L2'.below hb3
    have A13 := A1'.below hb3
    have hga3 := Nat.lt_of_lt_of_le hga' hb3.size
    obtain ⟨W3, hW3⟩ : ∃ W3, Hid (wr.alloc (Obj.cells #[.int .i64 l.sent, .int .i64 l.acked, .slice pq l.q.length qq, .int .i64 l.got, .slice ph l.h.length qh] 88) = W3) := ⟨_, rfl⟩
    go_wp2_with (refine wpList_load_mid rfl 88 _ rfl gl (ol + k * 5) rfl _ _ hr Tryz.underlying88 rfl (by kernel_rfl) ?_)
    rw [hW3.out] at hb3 hh3 hx3 hB3 hbR ka3 L13 L23 A13 hga3 ⊢
    clear hW3 hr ka hx hb3 L1' L2' A1' c5 hb hB
    have hs3 := Zbc hh3
    have hsw3 := Zbc hx3
    obtain ⟨aoq, capq, eq', _, _, _, hcq⟩ := L13
    simp only [Value.slice.injEq] at eq'
    obtain ⟨rfl, _, rfl⟩ := eq'
    obtain ⟨aoh, caph, eh', _, _, _, hch⟩ := L23
    simp only [Value.slice.injEq] at eh'
    obtain ⟨rfl, _, rfl⟩ := eh'
    obtain ⟨aot, capt, et', _, _, _, hct⟩ := A13
    simp only [Value.slice.injEq] at et'
    obtain ⟨rfl, _, rfl⟩ := et'
    have d1 := cell_of_row _ _ 1 _ _ _ hh3
    have d2 := cell_of_row _ _ 2 _ _ _ hh3
    have d4 := cell_of_row _ _ 4 _ _ _ hh3
    have e9 := cell_of_row _ _ 9 _ _ _ hx3
    rw [HA.out] at d1
    obtain ⟨bL, hbL⟩ : ∃ bL, bL = wr.heap.size := ⟨_, rfl⟩
    rw [<- hbL] at hs3 d1 d2 d4 ⊢
    clear hh3 hx3 hbL
    obtain ⟨REST, hREST⟩ : ∃ x, allN (quAt d) (d.ls.length - (k + 1)) (k + 1) = x := ⟨_, rfl⟩
    have HREST : Hid (allN (quAt d) (d.ls.length - (k + 1)) (k + 1) = REST) := hREST
    rw [hREST] at HQ
    clear hREST
    go_wp2_with fail
    go_loopw [5] (fun i wx => ∃ j : Nat, j <= l.q.length /\ i = .int .i64 j /\ Hid (queB d = ((hAt l.h ts && eqTs (l.q.drop j) ((ts.drop a).drop j)) && REST)) /\ Below W3.heap.size W3 wx) (fun i _ => l.q.length - (intOf i).toNat)
    case atStart => exact ⟨0, by omega, rfl, HQ, Below.refl _ _⟩
    case round =>
     clear HQ
     obtain ⟨j, hj, rfl, HJ, hb⟩ := hrel
     have q2 : _ = some (Value.slice pq l.q.length qq) := (hb.cell (p := ⟨bL, 0 + 2, none⟩) hs3).trans d2
     by_cases hjl : j < l.q.length
     ·have q1 : _ = some (Value.int .i64 (a : Int)) := (hb.cell (p := ⟨bL, 0 + 1, none⟩) hs3).trans d1
      have c9 := (hb.cell (p := ⟨w.heap.size, 0 + 9, none⟩) hsw3).trans e9
      have ka4 := (hb.cell (p := ⟨ga, oa + k, none⟩) hga3).trans ka3
      have hjt : a + j < ts.length := by have := HAT.out; omega
      have hji : (j : Int) < (l.q.length : Int) := by omega
      have hjti : (a : Int) + (j : Int) < (ts.length : Int) := by omega
      have hw9 : IntKind.i64.wrap ((a : Int) + (j : Int)) = (a : Int) + (j : Int) := by rw [IntKind.wrap_i64]; omega
      obtain ⟨g1, o1, rfl, hg1, hct⟩ := hct (by intro e; rw [e] at hjt; simp at hjt)
      obtain ⟨g2, o2, rfl, hg2, hcq⟩ := hcq (by intro e; rw [e] at hjl; simp at hjl)
      obtain ⟨x, hx⟩ : ∃ x, l.q[j]? = some x := ⟨l.q[j], List.getElem?_eq_getElem _⟩
      obtain ⟨y, hy⟩ : ∃ x, ts[a + j]? = some x := ⟨ts[a + j], List.getElem?_eq_getElem _⟩
      have hy' : (ts.drop a)[j]? = some y := by rw [List.getElem?_drop, hy]
      have kx := (hb.cell (p := ⟨g2, o2 + j, none⟩) hg2).trans (hcq j x hx)
      have ky := (hb.cell (p := ⟨g1, o1 + (a + j), none⟩) hg1).trans (hct (a + j) y hy)
      have HX : Hid (queB d = ((hAt l.h ts && ((x.toList == y.toList) && eqTs (l.q.drop (j + 1)) ((ts.drop a).drop (j + 1)))) && REST)) := by unfold Hid; rw [HJ.out, Zdh hx hy']
      clear hcq hct hch hx hy hy' HJ d1 d2 d4 e9 ka3
      cases e : (x.toList == y.toList) with
      | true =>
       have HB : Hid (queB d = ((hAt l.h ts && eqTs (l.q.drop (j + 1)) ((ts.drop a).drop (j + 1))) && REST)) := by unfold Hid; rw [HX.out, e]; rfl
       clear HX
       go_wp2
       go_quiet (fail)
       go_wp2
       go_roundw
       case rel => exact ⟨j + 1, by omega, by go_num, HB, hb.trans ((ZaU _ _).mono hb.size)⟩
       case measure => simp [intOf]; omega
      | false =>
       have HB : Hid (queB d = false) := by unfold Hid; rw [HX.out, e]; simp
       clear HX
       go_wp2
       go_quiet (fail)
       go_wp2
       go_ret
       exact ⟨retB (by rw [HW.out, HB.out]; rfl), (hB3.trans (hb.mono hB3.size)).trans ((ZaU _ _).mono (hB3.trans (hb.mono hB3.size)).size)⟩
     ·have HB : Hid (queB d = (hAt (l.h.drop 0) ts && REST)) := by unfold Hid; rw [HJ.out, ZdU (by omega) (by rw [List.length_drop]; have := HAT.out; omega), Bool.and_true]; rfl
      clear HJ hcq
      go_wp2_with fail
      clear q2
      go_loopw [6] (fun i wx => ∃ j : Nat, j <= l.h.length /\ i = .int .i64 j /\ Hid (queB d = (hAt (l.h.drop j) ts && REST)) /\ Below W3.heap.size W3 wx) (fun i _ => l.h.length - (intOf i).toNat)
      case atStart => exact ⟨0, by omega, rfl, HB, hb⟩
      case round =>
       clear HB hb
       obtain ⟨j, hj, rfl, HJ, hb⟩ := hrel
       have q4 : _ = some (Value.slice ph l.h.length qh) := (hb.cell (p := ⟨bL, 0 + 4, none⟩) hs3).trans d4
       by_cases hjl : j < l.h.length
       ·have c9 := (hb.cell (p := ⟨w.heap.size, 0 + 9, none⟩) hsw3).trans e9
        have ka4 := (hb.cell (p := ⟨ga, oa + k, none⟩) hga3).trans ka3
        obtain ⟨g, o, rfl, hg, hch⟩ := hch (by intro e; rw [e] at hjl; simp at hjl)
        obtain ⟨x, hx⟩ : ∃ x, l.h[j]? = some x := ⟨l.h[j], by simp [hjl]⟩
        obtain ⟨k0, k1⟩ := (hch j x hx).below hb hg
        obtain ⟨n0, n1⟩ := NO.out x (List.mem_of_getElem? hx)
        obtain ⟨n, hn⟩ : ∃ n : Nat, x.n = n := ⟨x.n.toNat, by omega⟩
        have hnt : n < ts.length := by omega
        have hni : (n : Int) < (ts.length : Int) := by omega
        have hji : (j : Int) < (l.h.length : Int) := by omega
        obtain ⟨y, hy⟩ : ∃ y, ts[n]? = some y := ⟨ts[n], List.getElem?_eq_getElem _⟩
        have HS : Hid (queB d = (((x.s.toList == y.toList) && hAt (l.h.drop (j + 1)) ts) && REST)) := by unfold Hid; rw [HJ.out, Zgi hx hn hy]
        obtain ⟨g2, o2, rfl, hg2, hct⟩ := hct (by intro e; rw [e] at hnt; simp at hnt)
        have ky := (hb.cell (p := ⟨g2, o2 + n, none⟩) hg2).trans (hct n y hy)
        clear hch hx hct hy HJ n0 n1 NO d1 d2 d4 e9 ka3
        rw [hn] at k0
        clear hn
        cases e : (x.s.toList == y.toList) with
        | true =>
         have HB : Hid (queB d = (hAt (l.h.drop (j + 1)) ts && REST)) := by unfold Hid; rw [HS.out, e]; rfl
         clear HS
         go_wp2
         go_quiet (fail)
         go_wp2
         go_roundw
         case rel => exact ⟨j + 1, by omega, by go_num, HB, hb.trans ((ZaU _ _).mono hb.size)⟩
         case measure => simp [intOf]; omega
        | false =>
         have HB : Hid (queB d = false) := by unfold Hid; rw [HS.out, e]; rfl
         clear HS
         go_wp2
         go_quiet (fail)
         go_wp2
         go_ret
         exact ⟨retB (by rw [HW.out, HB.out]; rfl), (hB3.trans (hb.mono hB3.size)).trans ((ZaU _ _).mono (hB3.trans (hb.mono hB3.size)).size)⟩
       ·have HB : Hid (queB d = allN (quAt d) (d.ls.length - (k + 1)) (k + 1)) := by unfold Hid; rw [HJ.out, ZiG (by omega), HREST.out]; rfl
        clear HJ hch
        go_wp2
        go_roundw
        case rel => exact ⟨k + 1, by omega, by go_num, HB, hbR.trans (hb.mono hbR.size)⟩
        case measure => simp [intOf]; omega
   ·have HB : Hid (queB d = true) := by unfold Hid; rw [HK.out, ZcM (by omega)]
    clear HK hcella hcelll
    go_wp2
    go_ret
    exact ⟨retB (by rw [HW.out, HB.out]; rfl), hB⟩
theorem StRow.take {w : World} {ao : Option Addr} {n cap k : Nat} {xs : List ByteArray} (h : StRow w (.slice ao n cap) xs) (hk : k <= xs.length) : StRow w (.slice ao k cap) (xs.take k) := by
 obtain ⟨ao', cap', e, hc, hm, hz, hcell⟩ := h
 simp only [Value.slice.injEq] at e
 obtain ⟨rfl, rfl, rfl⟩ := e
 have hl : (xs.take k).length = k := by rw [List.length_take]; omega
 refine ⟨ao, cap, by rw [hl], ⟨by rw [hl]; omega, hc.2⟩, by omega, fun x hx => hz x (List.mem_of_mem_take hx), fun hne => ?_⟩
 obtain ⟨g, o, rfl, hg, hcell⟩ := hcell (fun e => hne (by rw [e]; simp))
 refine ⟨g, o, rfl, hg, fun i x hi => hcell i x ?_⟩
 rw [List.getElem?_take] at hi
 split at hi
 ·exact hi
 ·cases hi
end Go.Proofs.YtfmafkebddojjaaGreatDoor
