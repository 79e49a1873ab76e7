/-
  Contracts of impl's linksFit and spec's l13Links. No condition but that there are 1 to 3 places.
-/
import Derived.Test.YtenegpbpalbpeaaGreatDoorWOkRM
import Derived.Test.YtenegpbpalbpeaaGreatDoorLkOkSM
namespace Go.Proofs.YtenegpbpalbpeaaGreatDoor
open Go.RowKit
def lkB (ga tk : List (List ByteArray)) (p : Lk × Nat) : Bool := linkB p.1 && (decide (((ga.getD p.2 []).length : Int) = p.1.sent) && decide (((tk.getD p.2 []).length : Int) = p.1.got))
def lksB (d : Wd) : Bool := (decide ((d.ls.length : Int) = d.pl * d.pl) && (decide ((d.ga.length : Int) = d.pl * d.pl) && decide ((d.tk.length : Int) = d.pl * d.pl))) && d.ls.zipIdx.all (lkB d.ga d.tk)
theorem zip_at {α : Type} {xs : List α} {k : Nat} {x : α} (h : xs[k]? = some x) : xs.zipIdx[k]? = some (x, k) := by
  rw [List.getElem?_zipIdx, h]
  simp
theorem zip_len {α : Type} (xs : List α) : xs.zipIdx.length = xs.length := by simp
set_option maxRecDepth 100000 in
set_option maxHeartbeats 6400000 in
theorem linksfit_any (vn vi vf vh vl vg vp va vt : Value) (d : Wd) (B : Nat) (w : World) (R : WR B w vn vi vf vh vl vg vp va vt d) (hp1 : 1 ≤ d.pl) (hp2 : d.pl ≤ 3) :
    Calls Tryz.prog 36 #[.agg #[vn, vi, vf, .int .i64 d.pl, vh, vl, vg, vp, .int .i64 d.nx, va, vt]] w fun e w' => e = .returned (.bool (lksB d)) ∧ Below w.heap.size w w' := by
  have R0 := R
  obtain ⟨⟨aan, ccn, rfl⟩, ⟨aai, cci, rfl⟩, ⟨aaf, ccf, rfl⟩, ⟨aah, cch, rfl⟩, ⟨aal, ccl, rfl⟩, ⟨aag, ccg, rfl⟩, ⟨aap, ccp, rfl⟩, ⟨aaa, cca, rfl⟩, ⟨aat, cct, rfl⟩⟩ := R.form
  have hB0 := alloc_bel w (Obj.cells #[.slice aan d.ns.length ccn, .slice aai d.is.length cci, .slice aaf d.ds.length ccf, .int .i64 d.pl, .slice aah d.hs.length cch, .slice aal d.ls.length ccl, .slice aag d.gs.length ccg, .slice aap d.ps.length ccp, .int .i64 d.nx, .slice aaa d.ga.length cca, .slice aat d.tk.length cct] 50)
  have hx0 := heap_alloc_new w (Obj.cells #[.slice aan d.ns.length ccn, .slice aai d.is.length cci, .slice aaf d.ds.length ccf, .int .i64 d.pl, .slice aah d.hs.length cch, .slice aal d.ls.length ccl, .slice aag d.gs.length ccg, .slice aap d.ps.length ccp, .int .i64 d.nx, .slice aaa d.ga.length cca, .slice aat d.tk.length cct] 50)
  obtain ⟨q, hq⟩ : ∃ q : Nat, (q : Int) = d.pl * d.pl := by
    have h3 : d.pl = 1 ∨ d.pl = 2 ∨ d.pl = 3 := by omega
    rcases h3 with h | h | h
    · exact ⟨1, by rw [h]; rfl⟩
    · exact ⟨4, by rw [h]; rfl⟩
    · exact ⟨9, by rw [h]; rfl⟩
  have hq9 : q ≤ 9 := by
    have h3 : d.pl = 1 ∨ d.pl = 2 ∨ d.pl = 3 := by omega
    rcases h3 with h | h | h <;> rw [h] at hq <;> omega
  have hq' : d.pl * d.pl = (q : Int) := hq.symm
  have HL : Hid (lksB d = ((decide ((d.ls.length : Int) = (q : Int)) && (decide ((d.ga.length : Int) = (q : Int)) && decide ((d.tk.length : Int) = (q : Int)))) && d.ls.zipIdx.all (lkB d.ga d.tk))) := by unfold Hid lksB; rw [hq']
  clear hq
  have c3 : (w.alloc (Obj.cells #[.slice aan d.ns.length ccn, .slice aai d.is.length cci, .slice aaf d.ds.length ccf, .int .i64 d.pl, .slice aah d.hs.length cch, .slice aal d.ls.length ccl, .slice aag d.gs.length ccg, .slice aap d.ps.length ccp, .int .i64 d.nx, .slice aaa d.ga.length cca, .slice aat d.tk.length cct] 50)).cell? ⟨w.heap.size, 0 + 3, none⟩ = some (.int .i64 d.pl) := cell_of_row _ _ 3 _ _ _ hx0
  go_enter Tryz.func36, Tryz.ntmps36
  by_cases h1 : d.ls.length = q
  · by_cases h2 : d.ga.length = q
    · by_cases h3 : d.tk.length = q
      · have HM : Hid (lksB d = d.ls.zipIdx.all (lkB d.ga d.tk)) := by unfold Hid; rw [HL.out]; simp [h1, h2, h3]
        have n1 : ((d.ls.length : Int) != (q : Int)) = false := by simp [h1]
        have n2 : ((d.ga.length : Int) != (q : Int)) = false := by simp [h2]
        have n3 : ((d.tk.length : Int) != (q : Int)) = false := by simp [h3]
        replace h1 : Hid (d.ls.length = q) := h1
        replace h2 : Hid (d.ga.length = q) := h2
        replace h3 : Hid (d.tk.length = q) := h3
        clear HL
        go_wp2_with fail
        generalize w.alloc (Obj.cells #[.slice aan d.ns.length ccn, .slice aai d.is.length cci, .slice aaf d.ds.length ccf, .int .i64 d.pl, .slice aah d.hs.length cch, .slice aal d.ls.length ccl, .slice aag d.gs.length ccg, .slice aap d.ps.length ccp, .int .i64 d.nx, .slice aaa d.ga.length cca, .slice aat d.tk.length cct] 50) = w0 at *
        have hs0 := blk_lt hx0
        obtain ⟨aol, capl, hhl, _, _, hcelll⟩ := R0.rl
        obtain ⟨aoa, capa, hha, _, _, hcella⟩ := R0.ra
        obtain ⟨aot, capt, hht, _, _, hcellt⟩ := R0.rt
        simp only [Value.slice.injEq] at hhl hha hht
        obtain ⟨rfl, _, rfl⟩ := hhl
        obtain ⟨rfl, _, rfl⟩ := hha
        obtain ⟨rfl, _, rfl⟩ := hht
        go_loopw [33] (fun i wr => ∃ k : Nat, k ≤ q ∧ i = .int .i64 k ∧ Hid ((d.ls.zipIdx.take k).all (lkB d.ga d.tk) = true) ∧ Below w0.heap.size w0 wr) (fun i _ => q - (intOf i).toNat)
        case atStart => exact ⟨0, by omega, rfl, by simp [Hid], Below.refl _ _⟩
        case round =>
          obtain ⟨k, hk, rfl, HK, hb⟩ := hrel
          have hB := hB0.trans (hb.mono hB0.size)
          have hx := blk_bel hx0 hb
          by_cases hlt : k < q
          · have hl1 : k < d.ls.length := by rw [h1.out]; exact hlt
            have hl2 : k < d.ga.length := by rw [h2.out]; exact hlt
            have hl3 : k < d.tk.length := by rw [h3.out]; exact hlt
            obtain ⟨gl, ol, rfl, _, hgl, hcelll⟩ := hcelll (by intro e; have hh := h1.out; rw [e] at hh; simp at hh; omega)
            obtain ⟨ga, oa, rfl, _, hga, hcella⟩ := hcella (by intro e; have hh := h2.out; rw [e] at hh; simp at hh; omega)
            obtain ⟨gt, ot, rfl, _, hgt, hcellt⟩ := hcellt (by intro e; have hh := h3.out; rw [e] at hh; simp at hh; omega)
            obtain ⟨l, hl⟩ : ∃ x, d.ls[k]? = some x := ⟨d.ls[k]'(by rw [h1.out]; exact hlt), List.getElem?_eq_getElem _⟩
            obtain ⟨ta, hta⟩ : ∃ x, d.ga[k]? = some x := ⟨d.ga[k]'(by rw [h2.out]; exact hlt), List.getElem?_eq_getElem _⟩
            obtain ⟨tt, htt⟩ : ∃ x, d.tk[k]? = some x := ⟨d.tk[k]'(by rw [h3.out]; exact hlt), List.getElem?_eq_getElem _⟩
            obtain ⟨cs, hcs, hr, vq, vh, hc, L1, L2, _, _⟩ := hcelll k l hl
            obtain ⟨ca, _, hra, ua, rfl, A1, _⟩ := hcella k ta hta
            obtain ⟨ct, _, hrt, ut, rfl, T1, _⟩ := hcellt k tt htt
            obtain ⟨pq, qq, rfl⟩ := L1.small
            obtain ⟨ph, qh, rfl⟩ := L2.small
            obtain ⟨pa, qa, rfl⟩ := A1.small
            obtain ⟨pt, qt, rfl⟩ := T1.small
            obtain rfl : cs = (#[.int .i64 l.sent, .int .i64 l.acked, .slice pq l.q.length qq, .int .i64 l.got, .slice ph l.h.length qh] : Array Value).toList := congrArg Array.toList hc
            have HZ : Hid (d.ls.zipIdx[k]? = some (l, k)) := zip_at hl
            have HF0 : Hid (lkB d.ga d.tk (l, k) = (linkB l && (decide ((ta.length : Int) = l.sent) && decide ((tt.length : Int) = l.got)))) := by
              unfold Hid lkB
              simp [List.getD_eq_getElem?_getD, hta, htt]
            have hgl' := Nat.lt_of_lt_of_le hgl hB.size
            have hga' := Nat.lt_of_lt_of_le hga hB.size
            have hgt' := Nat.lt_of_lt_of_le hgt hB.size
            replace hr := range_below hr hB hgl
            have ka := range_one (range_below hra hB hga)
            have kt := range_one (range_below hrt hB hgt)
            rw [Nat.mul_one] at ka kt
            clear hcelll hcella hcellt hl hta htt hc hcs hra hrt
            have hb3 := alloc_bel wr (Obj.cells #[.int .i64 l.sent, .int .i64 l.acked, .slice pq l.q.length qq, .int .i64 l.got, .slice ph l.h.length qh] 138)
            have hh3 : (wr.alloc (Obj.cells #[.int .i64 l.sent, .int .i64 l.acked, .slice pq l.q.length qq, .int .i64 l.got, .slice ph l.h.length qh] 138)).heap[wr.heap.size]? = some (Obj.cells #[.int .i64 l.sent, .int .i64 l.acked, .slice pq l.q.length qq, .int .i64 l.got, .slice ph l.h.length qh] 138) := heap_alloc_new _ _
            have hx3 := blk_bel hx hb3
            have hB3 := hB.trans (hb3.mono hB.size)
            have hbR := hb.trans (hb3.mono hb.size)
            have ka3 := (hb3.cell (p := ⟨ga, oa + k, none⟩) hga').trans ka
            have kt3 := (hb3.cell (p := ⟨gt, ot + k, none⟩) hgt').trans kt
            have hs3 := hb3.size
            obtain ⟨W3, hW3⟩ : ∃ W3, Hid (wr.alloc (Obj.cells #[.int .i64 l.sent, .int .i64 l.acked, .slice pq l.q.length qq, .int .i64 l.got, .slice ph l.h.length qh] 138) = W3) := ⟨_, rfl⟩
            go_wp2_with (refine wpList_load_mid rfl 138 _ rfl gl (ol + k * 5) rfl _ _ hr Tryz.underlying138 rfl (by kernel_rfl) ?_)
            rw [hW3.out] at hb3 hh3 hx3 hB3 hbR ka3 kt3 hs3 ⊢
            clear hW3 hr hb3 ka kt
            cases hlk : linkB l with
            | false =>
              have HF : lkB d.ga d.tk (l, k) = false := by rw [HF0.out, hlk]; rfl
              refine lkf_r7n w.heap.size wr.heap.size ga oa gt ot k ta.length tt.length pa pt qa qt aan aai aaf aah (some ⟨gl, ol, none⟩) aag aap ccn cci ccf cch ccl ccg ccp cca cct d l _ _ W3 _ hx3 hh3 (by omega) (by omega) ka3 kt3 hl2 hl3 (fun W hW => by have h := ilinkok_any _ _ l W (L1.below (hB3.trans (hW.mono hB3.size))) (L2.below (hB3.trans (hW.mono hB3.size))); rw [hlk] at h; exact h) ?_
              intro u38 u39 u40 u41 u42 u43 u44 u45 u46 u47 u48 u49 u50 u51 u52 u53 u54 u55 u56 u57 u58 u59 u60 u61 W hW
              have HR : Hid (d.ls.zipIdx.all (lkB d.ga d.tk) = false) := wall_miss HZ.out HF
              clear HK HZ HF0
              go_wp2
              go_ret
              exact ⟨by rw [HM.out, HR.out]; rfl, hB3.trans (hW.mono hB3.size)⟩
            | true =>
              cases e1 : ((ta.length : Int) != l.sent) with
              | true =>
                have HF : lkB d.ga d.tk (l, k) = false := by rw [HF0.out, hlk]; simp at e1; simp [e1]
                refine lkf_r7a w.heap.size wr.heap.size ga oa gt ot k ta.length tt.length pa pt qa qt aan aai aaf aah (some ⟨gl, ol, none⟩) aag aap ccn cci ccf cch ccl ccg ccp cca cct d l _ _ W3 _ hx3 hh3 (by omega) (by omega) ka3 kt3 hl2 hl3 (fun W hW => by have h := ilinkok_any _ _ l W (L1.below (hB3.trans (hW.mono hB3.size))) (L2.below (hB3.trans (hW.mono hB3.size))); rw [hlk] at h; exact h) e1 ?_
                intro u38 u39 u40 u41 u42 u43 u44 u45 u46 u47 u48 u49 u50 u51 u52 u53 u54 u55 u56 u57 u58 u59 u60 u61 W hW
                have HR : Hid (d.ls.zipIdx.all (lkB d.ga d.tk) = false) := wall_miss HZ.out HF
                clear HK HZ HF0
                go_wp2
                go_ret
                exact ⟨by rw [HM.out, HR.out]; rfl, hB3.trans (hW.mono hB3.size)⟩
              | false =>
                cases e2 : ((tt.length : Int) != l.got) with
                | true =>
                  have HF : lkB d.ga d.tk (l, k) = false := by rw [HF0.out, hlk]; simp at e2; simp [e2]
                  refine lkf_r7b w.heap.size wr.heap.size ga oa gt ot k ta.length tt.length pa pt qa qt aan aai aaf aah (some ⟨gl, ol, none⟩) aag aap ccn cci ccf cch ccl ccg ccp cca cct d l _ _ W3 _ hx3 hh3 (by omega) (by omega) ka3 kt3 hl2 hl3 (fun W hW => by have h := ilinkok_any _ _ l W (L1.below (hB3.trans (hW.mono hB3.size))) (L2.below (hB3.trans (hW.mono hB3.size))); rw [hlk] at h; exact h) true e1 e2 ?_
                  intro u38 u39 u40 u41 u42 u43 u44 u45 u46 u47 u48 u49 u50 u51 u52 u53 u54 u55 u56 u57 u58 u59 u60 u61 W hW
                  have HR : Hid (d.ls.zipIdx.all (lkB d.ga d.tk) = false) := wall_miss HZ.out HF
                  clear HK HZ HF0
                  go_wp2
                  go_ret
                  exact ⟨by rw [HM.out, HR.out]; rfl, hB3.trans (hW.mono hB3.size)⟩
                | false =>
                  have HF : lkB d.ga d.tk (l, k) = true := by rw [HF0.out, hlk]; simp at e1 e2; simp [e1, e2]
                  refine lkf_r7b w.heap.size wr.heap.size ga oa gt ot k ta.length tt.length pa pt qa qt aan aai aaf aah (some ⟨gl, ol, none⟩) aag aap ccn cci ccf cch ccl ccg ccp cca cct d l _ _ W3 _ hx3 hh3 (by omega) (by omega) ka3 kt3 hl2 hl3 (fun W hW => by have h := ilinkok_any _ _ l W (L1.below (hB3.trans (hW.mono hB3.size))) (L2.below (hB3.trans (hW.mono hB3.size))); rw [hlk] at h; exact h) false e1 e2 ?_
                  intro u38 u39 u40 u41 u42 u43 u44 u45 u46 u47 u48 u49 u50 u51 u52 u53 u54 u55 u56 u57 u58 u59 u60 u61 W hW
                  have HK2 : Hid ((d.ls.zipIdx.take (k + 1)).all (lkB d.ga d.tk) = true) := wall_step HK.out HZ.out HF
                  have hbW := hbR.trans (hW.mono hbR.size)
                  clear HK HZ HF0
                  go_wp2
                  go_roundw
                  case rel => first | exact ⟨k + 1, by omega, by go_num, HK2, hbW⟩ | exact ⟨_, ⟨k + 1, by omega, by go_num, HK2, hbW⟩, rfl⟩ | exact ⟨_, _, ⟨k + 1, by omega, by go_num, HK2, hbW⟩, rfl, rfl⟩
                  case measure => simp [intOf]; omega
          · have HR : Hid (d.ls.zipIdx.all (lkB d.ga d.tk) = true) := wall_end HK.out (by rw [zip_len, h1.out]; omega)
            have hle : ¬ k < d.ls.length := by rw [h1.out]; exact hlt
            clear HK hcelll hcella hcellt
            go_wp2
            go_ret
            exact ⟨by rw [HM.out, HR.out]; rfl, hB⟩
      · have HM : Hid (lksB d = false) := by unfold Hid; rw [HL.out]; simp [show ¬ ((d.tk.length : Int) = (q : Int)) by omega]
        have n1 : ((d.ls.length : Int) != (q : Int)) = false := by simp [h1]
        have n2 : ((d.ga.length : Int) != (q : Int)) = false := by simp [h2]
        have n3 : ((d.tk.length : Int) != (q : Int)) = true := by simp; omega
        clear HL h1 h2 h3
        go_wp2
        go_ret
        exact ⟨by rw [HM.out]; rfl, hB0⟩
    · have HM : Hid (lksB d = false) := by unfold Hid; rw [HL.out]; simp [show ¬ ((d.ga.length : Int) = (q : Int)) by omega]
      have n1 : ((d.ls.length : Int) != (q : Int)) = false := by simp [h1]
      have n2 : ((d.ga.length : Int) != (q : Int)) = true := by simp; omega
      clear HL h1 h2
      go_wp2
      go_ret
      exact ⟨by rw [HM.out]; rfl, hB0⟩
  · have HM : Hid (lksB d = false) := by unfold Hid; rw [HL.out]; simp [show ¬ ((d.ls.length : Int) = (q : Int)) by omega]
    have n1 : ((d.ls.length : Int) != (q : Int)) = true := by simp; omega
    clear HL h1
    go_wp2
    go_ret
    exact ⟨by rw [HM.out]; rfl, hB0⟩
set_option maxRecDepth 100000 in
set_option maxHeartbeats 6400000 in
theorem s13links_any (vn vi vf vh vl vg vp va vt : Value) (d : Wd) (B : Nat) (w : World) (R : WR B w vn vi vf vh vl vg vp va vt d) (hp1 : 1 ≤ d.pl) (hp2 : d.pl ≤ 3) :
    Calls Tryz.prog 26 #[.agg #[vn, vi, vf, .int .i64 d.pl, vh, vl, vg, vp, .int .i64 d.nx, va, vt]] w fun e w' => e = .returned (.bool (lksB d)) ∧ Below w.heap.size w w' := by
  have R0 := R
  obtain ⟨⟨aan, ccn, rfl⟩, ⟨aai, cci, rfl⟩, ⟨aaf, ccf, rfl⟩, ⟨aah, cch, rfl⟩, ⟨aal, ccl, rfl⟩, ⟨aag, ccg, rfl⟩, ⟨aap, ccp, rfl⟩, ⟨aaa, cca, rfl⟩, ⟨aat, cct, rfl⟩⟩ := R.form
  have hB0 := alloc_bel w (Obj.cells #[.slice aan d.ns.length ccn, .slice aai d.is.length cci, .slice aaf d.ds.length ccf, .int .i64 d.pl, .slice aah d.hs.length cch, .slice aal d.ls.length ccl, .slice aag d.gs.length ccg, .slice aap d.ps.length ccp, .int .i64 d.nx, .slice aaa d.ga.length cca, .slice aat d.tk.length cct] 50)
  have hx0 := heap_alloc_new w (Obj.cells #[.slice aan d.ns.length ccn, .slice aai d.is.length cci, .slice aaf d.ds.length ccf, .int .i64 d.pl, .slice aah d.hs.length cch, .slice aal d.ls.length ccl, .slice aag d.gs.length ccg, .slice aap d.ps.length ccp, .int .i64 d.nx, .slice aaa d.ga.length cca, .slice aat d.tk.length cct] 50)
  obtain ⟨q, hq⟩ : ∃ q : Nat, (q : Int) = d.pl * d.pl := by
    have h3 : d.pl = 1 ∨ d.pl = 2 ∨ d.pl = 3 := by omega
    rcases h3 with h | h | h
    · exact ⟨1, by rw [h]; rfl⟩
    · exact ⟨4, by rw [h]; rfl⟩
    · exact ⟨9, by rw [h]; rfl⟩
  have hq9 : q ≤ 9 := by
    have h3 : d.pl = 1 ∨ d.pl = 2 ∨ d.pl = 3 := by omega
    rcases h3 with h | h | h <;> rw [h] at hq <;> omega
  have hq' : d.pl * d.pl = (q : Int) := hq.symm
  have HL : Hid (lksB d = ((decide ((d.ls.length : Int) = (q : Int)) && (decide ((d.ga.length : Int) = (q : Int)) && decide ((d.tk.length : Int) = (q : Int)))) && d.ls.zipIdx.all (lkB d.ga d.tk))) := by unfold Hid lksB; rw [hq']
  clear hq
  have c3 : (w.alloc (Obj.cells #[.slice aan d.ns.length ccn, .slice aai d.is.length cci, .slice aaf d.ds.length ccf, .int .i64 d.pl, .slice aah d.hs.length cch, .slice aal d.ls.length ccl, .slice aag d.gs.length ccg, .slice aap d.ps.length ccp, .int .i64 d.nx, .slice aaa d.ga.length cca, .slice aat d.tk.length cct] 50)).cell? ⟨w.heap.size, 0 + 3, none⟩ = some (.int .i64 d.pl) := cell_of_row _ _ 3 _ _ _ hx0
  go_enter Tryz.func26, Tryz.ntmps26
  by_cases h1 : d.ls.length = q
  · by_cases h2 : d.ga.length = q
    · by_cases h3 : d.tk.length = q
      · have HM : Hid (lksB d = d.ls.zipIdx.all (lkB d.ga d.tk)) := by unfold Hid; rw [HL.out]; simp [h1, h2, h3]
        have n1 : ((d.ls.length : Int) != (q : Int)) = false := by simp [h1]
        have n2 : ((d.ga.length : Int) != (q : Int)) = false := by simp [h2]
        have n3 : ((d.tk.length : Int) != (q : Int)) = false := by simp [h3]
        replace h1 : Hid (d.ls.length = q) := h1
        replace h2 : Hid (d.ga.length = q) := h2
        replace h3 : Hid (d.tk.length = q) := h3
        clear HL
        go_wp2_with fail
        generalize w.alloc (Obj.cells #[.slice aan d.ns.length ccn, .slice aai d.is.length cci, .slice aaf d.ds.length ccf, .int .i64 d.pl, .slice aah d.hs.length cch, .slice aal d.ls.length ccl, .slice aag d.gs.length ccg, .slice aap d.ps.length ccp, .int .i64 d.nx, .slice aaa d.ga.length cca, .slice aat d.tk.length cct] 50) = w0 at *
        have hs0 := blk_lt hx0
        obtain ⟨aol, capl, hhl, _, _, hcelll⟩ := R0.rl
        obtain ⟨aoa, capa, hha, _, _, hcella⟩ := R0.ra
        obtain ⟨aot, capt, hht, _, _, hcellt⟩ := R0.rt
        simp only [Value.slice.injEq] at hhl hha hht
        obtain ⟨rfl, _, rfl⟩ := hhl
        obtain ⟨rfl, _, rfl⟩ := hha
        obtain ⟨rfl, _, rfl⟩ := hht
        go_loopw [4] (fun i wr => ∃ k : Nat, k ≤ q ∧ i = .int .i64 k ∧ Hid ((d.ls.zipIdx.take k).all (lkB d.ga d.tk) = true) ∧ Below w0.heap.size w0 wr) (fun i _ => q - (intOf i).toNat)
        case atStart => exact ⟨0, by omega, rfl, by simp [Hid], Below.refl _ _⟩
        case round =>
          obtain ⟨k, hk, rfl, HK, hb⟩ := hrel
          have hB := hB0.trans (hb.mono hB0.size)
          have hx := blk_bel hx0 hb
          by_cases hlt : k < q
          · have hl1 : k < d.ls.length := by rw [h1.out]; exact hlt
            have hl2 : k < d.ga.length := by rw [h2.out]; exact hlt
            have hl3 : k < d.tk.length := by rw [h3.out]; exact hlt
            obtain ⟨gl, ol, rfl, _, hgl, hcelll⟩ := hcelll (by intro e; have hh := h1.out; rw [e] at hh; simp at hh; omega)
            obtain ⟨ga, oa, rfl, _, hga, hcella⟩ := hcella (by intro e; have hh := h2.out; rw [e] at hh; simp at hh; omega)
            obtain ⟨gt, ot, rfl, _, hgt, hcellt⟩ := hcellt (by intro e; have hh := h3.out; rw [e] at hh; simp at hh; omega)
            obtain ⟨l, hl⟩ : ∃ x, d.ls[k]? = some x := ⟨d.ls[k]'(by rw [h1.out]; exact hlt), List.getElem?_eq_getElem _⟩
            obtain ⟨ta, hta⟩ : ∃ x, d.ga[k]? = some x := ⟨d.ga[k]'(by rw [h2.out]; exact hlt), List.getElem?_eq_getElem _⟩
            obtain ⟨tt, htt⟩ : ∃ x, d.tk[k]? = some x := ⟨d.tk[k]'(by rw [h3.out]; exact hlt), List.getElem?_eq_getElem _⟩
            obtain ⟨cs, hcs, hr, vq, vh, hc, L1, L2, _, _⟩ := hcelll k l hl
            obtain ⟨ca, _, hra, ua, rfl, A1, _⟩ := hcella k ta hta
            obtain ⟨ct, _, hrt, ut, rfl, T1, _⟩ := hcellt k tt htt
            obtain ⟨pq, qq, rfl⟩ := L1.small
            obtain ⟨ph, qh, rfl⟩ := L2.small
            obtain ⟨pa, qa, rfl⟩ := A1.small
            obtain ⟨pt, qt, rfl⟩ := T1.small
            obtain rfl : cs = (#[.int .i64 l.sent, .int .i64 l.acked, .slice pq l.q.length qq, .int .i64 l.got, .slice ph l.h.length qh] : Array Value).toList := congrArg Array.toList hc
            have HZ : Hid (d.ls.zipIdx[k]? = some (l, k)) := zip_at hl
            have HF0 : Hid (lkB d.ga d.tk (l, k) = (linkB l && (decide ((ta.length : Int) = l.sent) && decide ((tt.length : Int) = l.got)))) := by
              unfold Hid lkB
              simp [List.getD_eq_getElem?_getD, hta, htt]
            have hgl' := Nat.lt_of_lt_of_le hgl hB.size
            have hga' := Nat.lt_of_lt_of_le hga hB.size
            have hgt' := Nat.lt_of_lt_of_le hgt hB.size
            replace hr := range_below hr hB hgl
            have ka := range_one (range_below hra hB hga)
            have kt := range_one (range_below hrt hB hgt)
            rw [Nat.mul_one] at ka kt
            clear hcelll hcella hcellt hl hta htt hc hcs hra hrt
            have hbR := hb
            have hB3 := hB
            go_wp2_with fail
            cases hlk : linkB l with
            | false =>
              have HF : lkB d.ga d.tk (l, k) = false := by rw [HF0.out, hlk]; rfl
              refine s13l_r7n w.heap.size gl ol ga oa gt ot k ta.length tt.length pa pt qa qt aan aai aaf aah aag aap ccn cci ccf cch ccl ccg ccp cca cct d l _ _ wr _ hx hr hgl' hl1 hga' hgt' ka kt hl2 hl3 (fun W hW => by have h := slinkok_any _ _ l W (L1.below (hB3.trans (hW.mono hB3.size))) (L2.below (hB3.trans (hW.mono hB3.size))); rw [hlk] at h; exact h) ?_
              intro u34 u35 u36 u37 u38 u39 u40 u41 u42 u43 u44 u45 u46 u47 u48 u49 u50 u51 u52 u53 u54 u55 u56 u57 u58 u59 u60 u61 u62 u63 u64 u65 u66 u67 u68 u69 W hW
              have HR : Hid (d.ls.zipIdx.all (lkB d.ga d.tk) = false) := wall_miss HZ.out HF
              clear HK HZ HF0
              go_wp2
              go_ret
              exact ⟨by rw [HM.out, HR.out]; rfl, hB3.trans (hW.mono hB3.size)⟩
            | true =>
              cases e1 : ((ta.length : Int) != l.sent) with
              | true =>
                have HF : lkB d.ga d.tk (l, k) = false := by rw [HF0.out, hlk]; simp at e1; simp [e1]
                refine s13l_r7a w.heap.size gl ol ga oa gt ot k ta.length tt.length pa pt qa qt aan aai aaf aah aag aap ccn cci ccf cch ccl ccg ccp cca cct d l _ _ wr _ hx hr hgl' hl1 hga' hgt' ka kt hl2 hl3 (fun W hW => by have h := slinkok_any _ _ l W (L1.below (hB3.trans (hW.mono hB3.size))) (L2.below (hB3.trans (hW.mono hB3.size))); rw [hlk] at h; exact h) e1 ?_
                intro u34 u35 u36 u37 u38 u39 u40 u41 u42 u43 u44 u45 u46 u47 u48 u49 u50 u51 u52 u53 u54 u55 u56 u57 u58 u59 u60 u61 u62 u63 u64 u65 u66 u67 u68 u69 W hW
                have HR : Hid (d.ls.zipIdx.all (lkB d.ga d.tk) = false) := wall_miss HZ.out HF
                clear HK HZ HF0
                go_wp2
                go_ret
                exact ⟨by rw [HM.out, HR.out]; rfl, hB3.trans (hW.mono hB3.size)⟩
              | false =>
                cases e2 : ((tt.length : Int) != l.got) with
                | true =>
                  have HF : lkB d.ga d.tk (l, k) = false := by rw [HF0.out, hlk]; simp at e2; simp [e2]
                  refine s13l_r7b w.heap.size gl ol ga oa gt ot k ta.length tt.length pa pt qa qt aan aai aaf aah aag aap ccn cci ccf cch ccl ccg ccp cca cct d l _ _ wr _ hx hr hgl' hl1 hga' hgt' ka kt hl2 hl3 (fun W hW => by have h := slinkok_any _ _ l W (L1.below (hB3.trans (hW.mono hB3.size))) (L2.below (hB3.trans (hW.mono hB3.size))); rw [hlk] at h; exact h) true e1 e2 ?_
                  intro u34 u35 u36 u37 u38 u39 u40 u41 u42 u43 u44 u45 u46 u47 u48 u49 u50 u51 u52 u53 u54 u55 u56 u57 u58 u59 u60 u61 u62 u63 u64 u65 u66 u67 u68 u69 W hW
                  have HR : Hid (d.ls.zipIdx.all (lkB d.ga d.tk) = false) := wall_miss HZ.out HF
                  clear HK HZ HF0
                  go_wp2
                  go_ret
                  exact ⟨by rw [HM.out, HR.out]; rfl, hB3.trans (hW.mono hB3.size)⟩
                | false =>
                  have HF : lkB d.ga d.tk (l, k) = true := by rw [HF0.out, hlk]; simp at e1 e2; simp [e1, e2]
                  refine s13l_r7b w.heap.size gl ol ga oa gt ot k ta.length tt.length pa pt qa qt aan aai aaf aah aag aap ccn cci ccf cch ccl ccg ccp cca cct d l _ _ wr _ hx hr hgl' hl1 hga' hgt' ka kt hl2 hl3 (fun W hW => by have h := slinkok_any _ _ l W (L1.below (hB3.trans (hW.mono hB3.size))) (L2.below (hB3.trans (hW.mono hB3.size))); rw [hlk] at h; exact h) false e1 e2 ?_
                  intro u34 u35 u36 u37 u38 u39 u40 u41 u42 u43 u44 u45 u46 u47 u48 u49 u50 u51 u52 u53 u54 u55 u56 u57 u58 u59 u60 u61 u62 u63 u64 u65 u66 u67 u68 u69 W hW
                  have HK2 : Hid ((d.ls.zipIdx.take (k + 1)).all (lkB d.ga d.tk) = true) := wall_step HK.out HZ.out HF
                  have hbW := hbR.trans (hW.mono hbR.size)
                  clear HK HZ HF0
                  go_wp2
                  go_roundw
                  case rel => first | exact ⟨k + 1, by omega, by go_num, HK2, hbW⟩ | exact ⟨_, ⟨k + 1, by omega, by go_num, HK2, hbW⟩, rfl⟩ | exact ⟨_, _, ⟨k + 1, by omega, by go_num, HK2, hbW⟩, rfl, rfl⟩
                  case measure => simp [intOf]; omega
          · have HR : Hid (d.ls.zipIdx.all (lkB d.ga d.tk) = true) := wall_end HK.out (by rw [zip_len, h1.out]; omega)
            have hle : ¬ k < d.ls.length := by rw [h1.out]; exact hlt
            clear HK hcelll hcella hcellt
            go_wp2
            go_ret
            exact ⟨by rw [HM.out, HR.out]; rfl, hB⟩
      · have HM : Hid (lksB d = false) := by unfold Hid; rw [HL.out]; simp [show ¬ ((d.tk.length : Int) = (q : Int)) by omega]
        have n1 : ((d.ls.length : Int) != (q : Int)) = false := by simp [h1]
        have n2 : ((d.ga.length : Int) != (q : Int)) = false := by simp [h2]
        have n3 : ((d.tk.length : Int) != (q : Int)) = true := by simp; omega
        clear HL h1 h2 h3
        go_wp2
        go_ret
        exact ⟨by rw [HM.out]; rfl, hB0⟩
    · have HM : Hid (lksB d = false) := by unfold Hid; rw [HL.out]; simp [show ¬ ((d.ga.length : Int) = (q : Int)) by omega]
      have n1 : ((d.ls.length : Int) != (q : Int)) = false := by simp [h1]
      have n2 : ((d.ga.length : Int) != (q : Int)) = true := by simp; omega
      clear HL h1 h2
      go_wp2
      go_ret
      exact ⟨by rw [HM.out]; rfl, hB0⟩
  · have HM : Hid (lksB d = false) := by unfold Hid; rw [HL.out]; simp [show ¬ ((d.ls.length : Int) = (q : Int)) by omega]
    have n1 : ((d.ls.length : Int) != (q : Int)) = true := by simp; omega
    clear HL h1
    go_wp2
    go_ret
    exact ⟨by rw [HM.out]; rfl, hB0⟩
end Go.Proofs.YtenegpbpalbpeaaGreatDoor
