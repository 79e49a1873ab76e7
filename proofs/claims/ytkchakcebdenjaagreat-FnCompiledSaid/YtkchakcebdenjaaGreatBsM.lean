/-
  Texts that stood by themselves, laid into one.
-/
import Derived.Test.YtkchakcebdenjaaGreatSCp7M
import Derived.Deep.CutRange
import Derived.Deep.DeepCutAuto
import Derived.Test.YtkchakcebdenjaaGreatShapeM
import Derived.Laws.BytesArg
import Derived.Lib.AppendStr
import Derived.Laws.IdiomStrings
/-
  The contract of spec's l4Expr. No condition beyond the compiler's memory, and that the value is there.
-/
namespace Go.Proofs.YtkchakcebdenjaaGreat
open Go.RowKit
theorem cexp_stay (xs : List Nd) : ∀ f, Stay (cexp xs f) := by
  intro f v env s h
  cases f with
  | zero => rfl
  | succ f => show cone _ _ _ _ _ = s; unfold cone; rw [if_neg h]
theorem chain_ne {xs : List Nd} {v : Nat} {x : Nd} (hx : xs[v]? = some x) (h5 : x.k = 5) (h : (chainR xs v).2 = true) : 0 < (chainR xs v).1.length := by
  unfold chainR at h ⊢
  cases hc : chain xs (v + 1) v [] with
  | none => rw [hc] at h; cases h
  | some l =>
    rw [chain, hx] at hc
    dsimp only at hc
    rw [if_pos h5] at hc
    have grow : ∀ (f j : Nat) (acc l : List Int), chain xs f j acc = some l → acc.length ≤ l.length := by
      intro f
      induction f with
      | zero => intro j acc l h; simp [chain] at h
      | succ f ih =>
        intro j acc l h
        rw [chain] at h
        cases hy : xs[j]? with
        | none => rw [hy] at h; cases h
        | some y =>
          rw [hy] at h
          dsimp only at h
          split at h
          · have := ih _ _ _ h; simp at this; omega
          · split at h
            · cases h; exact Nat.le_refl _
            · cases h
    have := grow _ _ _ _ hc
    simp at this
    show 0 < l.length
    omega
set_option maxRecDepth 100000 in
set_option maxHeartbeats 6400000 in
theorem s4expr_any (xs : List Nd) (hp : poolB xs = true) (M d : Nat) : ∀ (v : Nat), v < xs.length → ∀ f, v < f → CE xs M d (cexp xs f) v := by
  intro v
  induction v using Nat.strongRecOn with
  | _ v ih =>
  intro hv f hf
  obtain ⟨f, rfl⟩ : ∃ f', f = f' + 1 := ⟨f - 1, by omega⟩
  have ih' : ∀ (n : Nat), n < v → CE xs M d (cexp xs f) n := fun n hn => ih n hn (by omega) f (by omega)
  have HI : Hid (∀ (n : Nat), n < v → CE xs M d (cexp xs f) n) := ih'
  clear ih ih'
  have hmono := cexp_mono xs f
  have hstay := cexp_stay xs f
  intro s env ev w h E hlen
  rw [Int.toNat_natCast] at hlen
  obtain ⟨x, hx⟩ : ∃ x, xs[v]? = some x := ⟨xs[v], by simp [hv]⟩
  have hnd : ndAt xs (v : Int) = x := ndAt_some hx
  have HC : Hid (cexp xs (f + 1) v env s = cone (cexp xs f) xs v env s) := rfl
  have HX : Hid (xs[v]? = some x) := hx
  obtain ⟨ae, ce, rfl⟩ := E.form
  have HE : Hid (ERow w (.slice ae env.length ce) env) := E
  clear E
  have hk0 := h
  obtain ⟨pv, lv, dv, L, D, h2⟩ := hk0
  have hM := h2.lt
  obtain ⟨c0, _, _, c3, _, _, f3⟩ := h2.cells
  have HPS := pool_s2 hp
  go_enter Tryz.func114, Tryz.ntmps114
  by_cases h0 : s.how = 0
  · rw [h0] at c3
    have HH : Hid (s.how = 0) := h0
    obtain ⟨g, cap, rfl, hg, d0, d1, d2, d3, d4⟩ := own_node h2.pool v x hx
    have hv' : (v : Int) < xs.length := by omega
    have hgn : g ≠ w.heap.size := by omega
    have hB0 : Below w.heap.size w (w.alloc (.cells #[.int .i64 x.k, .int .i64 x.n, .string x.s, .int .i64 x.a, .int .i64 x.b] 92)) := (Below.refl _ _).alloc (Nat.le_refl _) _
    have hbx : (w.alloc (.cells #[.int .i64 x.k, .int .i64 x.n, .string x.s, .int .i64 x.a, .int .i64 x.b] 92)).heap[w.heap.size]? = some (.cells #[.int .i64 x.k, .int .i64 x.n, .string x.s, .int .i64 x.a, .int .i64 x.b] 92 (0, 0)) := heap_alloc_new w _
    have HC2 : Hid (cexp xs (f + 1) v env s = (if x.k = 1 ∨ x.k = 2 ∨ x.k = 3 then s.emit (ins 1 v 0)
     else if x.k = 4 then (if rsv x.s then { s with how := 1 } else match findV env x.s 0 with
       | some (n, i) => s.emit (ins 2 n i)
       | none => s.emit ⟨3, 0, 0, x.s⟩)
     else if x.k = 5 then (if (chainR xs v).2 then
        (if (ndAt xs ((chainR xs v).1.getD 0 0)).k = 4 ∧ rsv (ndAt xs ((chainR xs v).1.getD 0 0)).s then cform (cexp xs f) xs (ndAt xs ((chainR xs v).1.getD 0 0)).s (chainR xs v).1 env s else if 5 < (chainR xs v).1.length then { s with how := 1 } else ccall (cexp xs f) (chainR xs v).1 env s)
       else { s with how := 1 })
     else { s with how := 1 })) := by
      unfold Hid
      rw [HC.out]
      unfold cone
      rw [if_pos HH.out, hnd, Int.toNat_natCast]
      all_goals rfl
    have h1 := h2.on hB0
    have k1 := h.on hB0
    have f1 := CF.of_below (M := M) hB0 (by omega)
    have e0 : (w.alloc (.cells #[.int .i64 x.k, .int .i64 x.n, .string x.s, .int .i64 x.a, .int .i64 x.b] 92)).cell? ⟨w.heap.size, 0, none⟩ = some (.int .i64 x.k) := cell_of_row _ _ 0 _ _ _ hbx
    have e2 : (w.alloc (.cells #[.int .i64 x.k, .int .i64 x.n, .string x.s, .int .i64 x.a, .int .i64 x.b] 92)).cell? ⟨w.heap.size, 2, none⟩ = some (.string x.s) := cell_of_row _ _ 2 _ _ _ hbx
    have E1 := HE.out.below hB0
    clear HC h0 hnd hx
    go_upto_region 2 with fail
    generalize w.alloc (.cells #[.int .i64 x.k, .int .i64 x.n, .string x.s, .int .i64 x.a, .int .i64 x.b] 92) = w1 at *
    obtain ⟨c10, _, _, c13, _, _, f13⟩ := h1.cells
    rw [HH.out] at c13
    clear c0 c3 f3 d0 d1 d2 d3 d4
    obtain ⟨sb, esb, kb, fb⟩ : ∃ (s' : CS), s' = { s with how := 1 } ∧ Mk xs M d (w1.setCell ⟨M, 3, none⟩ (.int .i64 1)) s' ∧ CF M w1 (w1.setCell ⟨M, 3, none⟩ (.int .i64 1)) := ⟨_, rfl, h1.wrong 1 (by decide) _ rfl⟩
    by_cases h123 : x.k = 1 ∨ x.k = 2 ∨ x.k = 3
    · have HR : Hid (cexp xs (f + 1) v env s = s.emit (ins 1 v 0)) := by unfold Hid; rw [HC2.out, if_pos h123]
      clear HC2
      rcases h123 with hk | hk | hk
      all_goals
        go_wp2_with fail
        refine (semit_any xs M d s (ins 1 v 0) _ k1).mono ?_
        rintro r w3 ⟨rfl, k3, f3⟩
        go_wp2_with fail
        exact bodyPost_ret (results_none rfl _ _ _) rfl ⟨rfl, by rw [HR.out]; exact k3, f1.trans f3⟩
    · rw [if_neg h123] at HC2
      have n1 : (x.k == 1) = false := by simp; omega
      have n2 : (x.k == 2) = false := by simp; omega
      have n3 : (x.k == 3) = false := by simp; omega
      have n1' : ¬ x.k = 1 := by omega
      have n2' : ¬ x.k = 2 := by omega
      have n3' : ¬ x.k = 3 := by omega
      clear h123
      by_cases h4 : x.k = 4
      · rw [if_pos h4] at HC2
        clear n1 n2 n3 n1' n2' n3'
        go_wp2_with fail
        refine (srsv_any x.s _).mono ?_
        rintro r w2 ⟨rfl, rfl⟩
        cases hr : rsv x.s with
        | true =>
          have HR : Hid (cexp xs (f + 1) v env s = sb) := by unfold Hid; rw [HC2.out, hr, esb]; rfl
          clear HC2
          go_wp2_with fail
          exact bodyPost_ret (results_none rfl _ _ _) rfl ⟨rfl, by rw [HR.out]; exact kb, f1.trans fb⟩
        | false =>
          rw [hr] at HC2
          go_wp2_with fail
          refine (s4var_any env _ x.s _ E1).mono ?_
          rintro r w2 ⟨rfl, rfl⟩
          cases hf2 : findV env x.s 0 with
          | none =>
            have HR : Hid (cexp xs (f + 1) v env s = s.emit ⟨3, 0, 0, x.s⟩) := by unfold Hid; rw [HC2.out, hf2]; rfl
            clear HC2
            unfold varV
            go_wp2_with fail
            refine (semit_any xs M d s ⟨3, 0, 0, x.s⟩ _ k1).mono ?_
            rintro r w3 ⟨rfl, k3, f3⟩
            go_wp2_with fail
            exact bodyPost_ret (results_none rfl _ _ _) rfl ⟨rfl, by rw [HR.out]; exact k3, f1.trans f3⟩
          | some ni =>
            obtain ⟨n, i⟩ := ni
            have HR : Hid (cexp xs (f + 1) v env s = s.emit (ins 2 n i)) := by unfold Hid; rw [HC2.out, hf2]; rfl
            clear HC2
            have hn0 : (0 : Int) ≤ n := by omega
            unfold varV
            go_wp2_with fail
            refine (semit_any xs M d s (ins 2 n i) _ k1).mono ?_
            rintro r w3 ⟨rfl, k3, f3⟩
            go_wp2_with fail
            exact bodyPost_ret (results_none rfl _ _ _) rfl ⟨rfl, by rw [HR.out]; exact k3, f1.trans f3⟩
      · rw [if_neg h4] at HC2
        have n4 : (x.k == 4) = false := by simp; omega
        by_cases h5 : x.k = 5
        · rw [if_pos h5] at HC2
          clear n1 n2 n3 n4 n1' n2' n3' h4
          have R1 := NRow.of_own h1.pool (by omega) HPS.2
          go_wp2_with fail
          refine (slistof_in _ _ xs v _ R1 hp hv).mono ?_
          rintro r w2 ⟨v2, rfl, ho2, hb2⟩
          have k2 := k1.on hb2
          have h12 := h1.on hb2
          have f2 := f1.trans (CF.of_below (M := M) hb2 k1.lt)
          have T2 := TRow.of_own ho2
          have E2 := E1.below hb2
          have hmem := chainR_mem hp v
          have hcn : (chainR xs v).2 = true → 0 < (chainR xs v).1.length := chain_ne HX.out h5
          obtain ⟨c20, _, _, c23, _, _, f23⟩ := h12.cells
          rw [HH.out] at c23
          cases hch : (chainR xs v).2 with
          | false =>
            have HR : Hid (cexp xs (f + 1) v env s = { s with how := 1 }) := by unfold Hid; rw [HC2.out, hch]; rfl
            obtain ⟨kb1, fb1⟩ := h12.wrong 1 (by decide) { s with how := 1 } rfl
            clear HC2 hmem hcn
            go_wp2_with fail
            exact bodyPost_ret (results_none rfl _ _ _) rfl ⟨rfl, by rw [HR.out]; exact kb1, f2.trans fb1⟩
          | true =>
            have hl0 := hcn hch
            rw [hch] at HC2
            have HM : Hid (∀ z ∈ (chainR xs v).1, ∃ n : Nat, z = n ∧ n < v) := hmem
            clear hcn hch hmem
            generalize (chainR xs v).1 = l at *
            obtain ⟨al, cl, rfl, hlc, hcm⟩ := T2.form
            obtain ⟨gl, ol, rfl, hgl, hc0⟩ := T2.cell 0 hl0
            obtain ⟨n0, hn0, hn0v⟩ := HM.out (l.getD 0 0) (by rw [List.getD_eq_getElem?_getD, List.getElem?_eq_getElem hl0]; exact List.getElem_mem _)
            rw [hn0, Nat.add_zero] at hc0
            obtain ⟨y, hy⟩ : ∃ y, xs[n0]? = some y := ⟨xs[n0]'(by omega), by simp [show n0 < xs.length by omega]⟩
            have hyn : ndAt xs (l.getD 0 0) = y := by rw [hn0]; exact ndAt_some hy
            obtain ⟨g', cap', eg, hg', d0, d1, d2, d3, d4⟩ := own_node h12.pool n0 y hy
            simp only [Value.slice.injEq, Option.some.injEq, Addr.mk.injEq, and_true, true_and] at eg
            obtain ⟨rfl, rfl⟩ := eg
            rw [hyn] at HC2
            have hn0' : (n0 : Int) < xs.length := by omega
            have hl0' : (0 : Int) < l.length := by omega
            have HT2 : Hid (TRow w2 (.slice (some ⟨gl, ol, none⟩) l.length cl) l) := T2
            have HE2 : Hid (ERow w2 (.slice ae env.length ce) env) := E2
            clear T2 E2 E1 hn0 hyn hy c10 c13 f13 kb fb ho2
            have q1 := World.new_ne w2 _ hc0
            have q2 := World.new_ne w2 _ c20
            have q3 := World.new_ne w2 _ d0
            dsimp only at q1 q2 q3
            go_wp2_with fail
            go_region_held (fun w' => w'.cell? ⟨M, 0, none⟩ = some (.slice (some ⟨g, 0, none⟩) xs.length cap) ∧ w'.cell? ⟨gl, ol, none⟩ = some (.int .i64 n0) ∧ w'.cell? ⟨g, n0 * 5, none⟩ = some (.int .i64 y.k) ∧ w'.cell? ⟨g, n0 * 5 + 1, none⟩ = some (.int .i64 y.n) ∧ w'.cell? ⟨g, n0 * 5 + 2, none⟩ = some (.string y.s) ∧ w'.cell? ⟨g, n0 * 5 + 3, none⟩ = some (.int .i64 y.a) ∧ w'.cell? ⟨g, n0 * 5 + 4, none⟩ = some (.int .i64 y.b)) (go_keep) (fail)
            have hB3 : Below w2.heap.size w2 (w2.alloc (Obj.cells #[.int .i64 y.k, .int .i64 y.n, .string y.s, .int .i64 y.a, .int .i64 y.b] 92)).drew := ((Below.refl _ _).alloc (Nat.le_refl _) _).drew
            have hby : (w2.alloc (Obj.cells #[.int .i64 y.k, .int .i64 y.n, .string y.s, .int .i64 y.a, .int .i64 y.b] 92)).drew.heap[w2.heap.size]? = some (.cells #[.int .i64 y.k, .int .i64 y.n, .string y.s, .int .i64 y.a, .int .i64 y.b] 92 (0, 0)) := heap_alloc_new w2 _
            go_upto_region 20 with fail
            generalize (w2.alloc (Obj.cells #[.int .i64 y.k, .int .i64 y.n, .string y.s, .int .i64 y.a, .int .i64 y.b] 92)).drew = w3 at hB3 hby ⊢
            have a0 : w3.cell? ⟨w2.heap.size, 0, none⟩ = some (.int .i64 y.k) := cell_of_row _ _ 0 _ _ _ hby
            have a2 : w3.cell? ⟨w2.heap.size, 2, none⟩ = some (.string y.s) := cell_of_row _ _ 2 _ _ _ hby
            have k3 := k2.on hB3
            have h13 := h12.on hB3
            have f3 := f2.trans (CF.of_below (M := M) hB3 k2.lt)
            have HT3 : Hid (TRow w3 (.slice (some ⟨gl, ol, none⟩) l.length cl) l) := HT2.out.below hB3
            have HE3 : Hid (ERow w3 (.slice ae env.length ce) env) := HE2.out.below hB3
            clear c20 c23 f23 d0 d1 d2 d3 d4 hc0 h12 k2 f2 hB3 hby hb2
            go_cut [100] from 13 (fun s100 wx => s100 = .bool (decide (y.k = 4) && rsv y.s) ∧ wx = w3)
            case first =>
              by_cases y4 : y.k = 4
              · go_wp2_with fail
                refine (srsv_any y.s _).mono ?_
                rintro r w9 ⟨rfl, rfl⟩
                go_wp2_with fail
                go_meet
                case rel => exact ⟨by simp [y4], rfl⟩
              · have yb : (y.k == 4) = false := by simpa using y4
                go_wp2_with fail
                go_meet
                case rel => exact ⟨by simp [y4], rfl⟩
            case rest =>
              obtain ⟨rfl, rfl⟩ := hcut
              obtain ⟨_, _, _, c33, _, _, f33⟩ := h13.cells
              rw [HH.out] at c33
              cases hb : (decide (y.k = 4) && rsv y.s) with
              | true =>
                have hyy : y.k = 4 ∧ rsv y.s = true := by simpa using hb
                have HR : Hid (cexp xs (f + 1) v env s = cform (cexp xs f) xs y.s l env s) := by unfold Hid; rw [HC2.out, if_pos trivial, if_pos hyy]
                clear HC2 hyy a0
                go_wp2_with fail
                refine (s4form_any xs hp M d (cexp xs f) hmono hstay y.s l _ s env _ wc k3 HH.out HT3.out HE3.out (fun z hz => by
                  obtain ⟨n, e, hn⟩ := HM.out z hz
                  exact ⟨n, e, by omega, HI.out n hn, by omega⟩) hl0).mono ?_
                rintro r w4 ⟨rfl, k4, f4⟩
                go_wp2_with fail
                exact bodyPost_ret (results_none rfl _ _ _) rfl ⟨rfl, by rw [HR.out]; exact k4, f3.trans f4⟩
              | false =>
                have hyy : ¬ (y.k = 4 ∧ rsv y.s = true) := by
                  intro h
                  rw [h.2] at hb
                  simp [h.1] at hb
                have HR : Hid (cexp xs (f + 1) v env s = if 5 < l.length then { s with how := 1 } else ccall (cexp xs f) l env s) := by unfold Hid; rw [HC2.out, if_pos trivial, if_neg hyy]
                clear HC2 hyy a0 a2
                by_cases h5l : 5 < l.length
                · have HR2 : Hid (cexp xs (f + 1) v env s = { s with how := 1 }) := by unfold Hid; rw [HR.out, if_pos h5l]
                  obtain ⟨kb1, fb1⟩ := h13.wrong 1 (by decide) { s with how := 1 } rfl
                  have h5l' : (5 : Int) < l.length := by omega
                  clear HR
                  go_wp2_with fail
                  exact bodyPost_ret (results_none rfl _ _ _) rfl ⟨rfl, by rw [HR2.out]; exact kb1, f3.trans fb1⟩
                · have HR2 : Hid (cexp xs (f + 1) v env s = ccall (cexp xs f) l env s) := by unfold Hid; rw [HR.out, if_neg h5l]
                  have h5l' : ¬ (5 : Int) < l.length := by omega
                  clear HR c33 f33 h13
                  go_wp2_with fail
                  go_loopw [12] (fun i wr => ∃ (k : Nat) (sk : CS), k ≤ l.length ∧ i = .int .i64 k ∧ Mk xs M d wr sk ∧ CF M w wr ∧ CF M wc wr ∧ Hid (l.foldl (fun s u => cexp xs f u env s) s = (l.drop k).foldl (fun s u => cexp xs f u env s) sk)) (fun i _ => l.length - (intOf i).toNat)
                  case atStart => exact ⟨0, s, by omega, rfl, k3, f3, CF.refl _ _, rfl⟩
                  case round =>
                    obtain ⟨k, sk, hkl, rfl, kr, fr, fr2, HK⟩ := hrel
                    by_cases hlt : k < l.length
                    · obtain ⟨z, hz⟩ : ∃ z, l[k]? = some z := ⟨l[k], by simp [hlt]⟩
                      obtain ⟨n, rfl, hn⟩ := HM.out z (List.mem_of_getElem? hz)
                      have HD : Hid (l.foldl (fun s u => cexp xs f u env s) s = (l.drop (k + 1)).foldl (fun s u => cexp xs f u env s) (cexp xs f n env sk)) := by
                        obtain ⟨hl, he⟩ := List.getElem?_eq_some_iff.1 hz
                        unfold Hid
                        rw [HK.out, List.drop_eq_getElem_cons hl, he]
                        rfl
                      obtain ⟨g2, o2, e2', _, hc⟩ := (fr2.trow' k3 HT3.out).cell k hlt
                      simp only [Option.some.injEq, Addr.mk.injEq, and_true] at e2'
                      obtain ⟨rfl, rfl⟩ := e2'
                      rw [show l.getD k 0 = (n : Int) by rw [List.getD_eq_getElem?_getD, hz]; rfl] at hc
                      have hlt' : (k : Int) < l.length := by omega
                      clear hz HK
                      go_wp2_with fail
                      refine (HI.out n hn sk env _ wr kr (fr2.erow' k3 HE3.out) (by rw [Int.toNat_natCast]; omega)).mono ?_
                      rintro r w5 ⟨rfl, k5, f5⟩
                      have f5' := fr.trans f5
                      have f5'' := fr2.trans f5
                      go_wp2_with fail
                      go_roundw
                      case rel => exact ⟨k + 1, _, by omega, by go_num, k5, f5', f5'', HD⟩
                      case measure => simp [intOf]; omega
                    · have hlt' : ¬ (k : Int) < l.length := by omega
                      have HK2 : Hid (l.foldl (fun s u => cexp xs f u env s) s = sk) := by unfold Hid; rw [HK.out, List.drop_eq_nil_of_le (by omega)]; rfl
                      go_wp2_with fail
                      refine (semit_any xs M d sk (ins 7 0 ((l.length : Int) - 1)) _ kr).mono ?_
                      rintro r w5 ⟨rfl, k5, f5⟩
                      go_wp2_with fail
                      go_end0
                      exact ⟨rfl, by rw [HR2.out]; unfold ccall; rw [HK2.out]; exact k5, fr.trans f5⟩
        · have HR : Hid (cexp xs (f + 1) v env s = sb) := by unfold Hid; rw [HC2.out, if_neg h5, esb]
          have n5 : (x.k == 5) = false := by simp; omega
          clear HC2
          go_wp2_with fail
          exact bodyPost_ret (results_none rfl _ _ _) rfl ⟨rfl, by rw [HR.out]; exact kb, f1.trans fb⟩
  · have HR : Hid (cexp xs (f + 1) v env s = s) := cexp_stay xs (f + 1) _ _ _ h0
    have hb1 : (s.how == 0) = false := by simpa using h0
    go_wp2_with fail
    exact bodyPost_ret (results_none rfl _ _ _) rfl ⟨rfl, by rw [HR.out]; exact h, CF.refl _ _⟩
end Go.Proofs.YtkchakcebdenjaaGreat
/-
  The law of a slice of bytes turned into a text, and the laws' own markText: the same text at the same number, in whatever world. Nothing else of the program; no condition.
-/
namespace Go.Proofs.YtkchakcebdenjaaGreat
open Go.RowKit
theorem wpList_bytes_text {P : Program} (w : World) {ops : Array Oper} {rest : List Oper} {o : Oper} {a : Act} {Q : Exit → Act → World → Prop} (hg : o.guard = none) (x : Operand) (src dst e : TypeId) (ho : o.op = .convert src dst x)
    (hs : P.underlying src = some (.slice e)) (hd : P.underlying dst = some .string) (he : P.underlying e = some (.int .u8)) (ao : Option Addr) (n c : Nat) (xs : List Int) (hx : a.eval x = .slice ao n c) (hl : xs.length = n)
    (hc : n ≠ 0 → ∃ g o', ao = some ⟨g, o', none⟩ ∧ ∀ i, i < n → w.cell? ⟨g, o' + i, none⟩ = some (.int .u8 (xs.getD i 0)))
    (h : wpList P ops Q rest (a.put o.dst (.string (strOfNums xs))) w) : wpList P ops Q (o :: rest) a w := by
  refine wpList_plain hg fun K hK => ?_
  have hrun : (convert src dst (.slice ao n c)).run P w = .ok (.string (strOfNums xs)) w := by
    by_cases h0 : n = 0
    · subst h0
      have : xs = [] := List.eq_nil_of_length_eq_zero hl
      subst this
      cases ao with
      | none => exact run_convert_bytes_nil w src e hs he 0 c dst hd
      | some ad => exact run_convert_bytes_back w src dst e ad c [] hs he hd (fun j hj => absurd hj (by simp))
    · obtain ⟨g, o', rfl, hcell⟩ := hc h0
      exact run_convert_bytes_arg w src e hs he g o' n c xs hl hcell dst hd
  unfold Oper.wp
  simp [execOp, ho, hx, hrun, Result.andThen]
  exact hK _ _ h
def mtGo : Nat → Nat → ByteArray → ByteArray
  | 0, _, out => out
  | f + 1, k, out => if k = 0 then out else mtGo f (k / 10) (strOfNums [48 + (k : Int) % 10] ++ out)
def mt (k : Int) : ByteArray := if k ≤ 0 then ⟨#[109, 48]⟩ else ⟨#[109]⟩ ++ mtGo k.toNat k.toNat ⟨#[]⟩
theorem mtGo_step (f k : Nat) (out : ByteArray) (h : 0 < k) (hf : k ≤ f) : mtGo f k out = mtGo (f - 1) (k / 10) (strOfNums [48 + (k : Int) % 10] ++ out) := by
  cases f with
  | zero => omega
  | succ f => simp only [mtGo, if_neg (by omega : ¬ k = 0)]; rfl
theorem mtGo_end (f : Nat) (out : ByteArray) : mtGo f 0 out = out := by
  cases f <;> simp [mtGo]
theorem digit_size (x : Int) : (strOfNums [x]).size = 1 := rfl
end Go.Proofs.YtkchakcebdenjaaGreat
