/-
  The contract of spec.Read. No condition beyond the pool's and the text's length.
-/
import Derived.Test.YtkchakcebdenjaaGreatSList2M
import Derived.Test.YtkchakcebdenjaaGreatStepAppM
import Derived.Test.YtkchakcebdenjaaGreatDefOfM
import Derived.Deep.LoopGhost
import Derived.Deep.CutRange
import Derived.Deep.DeepCutAuto
import Derived.Deep.RegionHeld
namespace Go.Proofs.YtkchakcebdenjaaGreat
open Go.RowKit
def readR (xs : List Nd) (t : ByteArray) : List Nd × List Int × Int × Int :=
  if poolB xs = true then (if t.size ≤ 400 then (match rd t 0 0 ⟨xs, [], 0, []⟩ with
    | .bad h p => (xs, [], h, p)
    | .ok s => if s.lo = [] then (if poolB s.ns = true then (s.ns, s.vs, 0, (t.size : Int)) else (xs, [], 6, 0)) else (xs, [], 4, s.a)) else (xs, [], 1, 0)) else ([], [], 6, 0)
theorem results_row_tmp3 {P : Program} {fn : Func} {p u u' u'' : Tmp} {ty : TypeId} (h : fn.results = #[.cell p ty, .tmp u, .tmp u', .tmp u'']) (tmps : Array Value) (w : World) (g : Nat) (t : TypeId) (cs : Array Value) (fr : Nat × Nat) (d : TypeDesc)
    (hp : tmps.getD p undef = .pointer (some ⟨g, 0, none⟩)) (hg : w.heap[g]? = some (.cells cs t fr))
    (hu : P.underlying ty = some d) (hd : (match d with | .struct _ | .array _ _ => true | _ => false) = true) (hi : (P.info? ty).map (·.size) = some cs.size) :
    (results fn tmps).run P w = .ok (.tuple #[.agg cs, tmps.getD u undef, tmps.getD u' undef, tmps.getD u'' undef]) w := by
  have hp' : tmps[p]?.getD undef = .pointer (some ⟨g, 0, none⟩) := by simpa using hp
  simp [results, h, hp', asAddr, run_loadVar_row w g t ty cs fr d hg hu hd hi]
theorem Tryz.infoO : (Tryz.prog.info? 132).map (fun i => (i.zero, i.size, i.bytes)) = some (some (.agg #[.int .i64 0, .slice none 0 0]), 2, 32) := by kernel_rfl
theorem own_news {w : World} {base n c : Nat} {e : TypeId} {ao : Option Addr} {l : List Value} (h : w.ownsRow base e 1 (.slice ao n c) n l) : (ao = none → n = 0 ∧ c = 0) ∧ ∀ ad, ao = some ad → ∀ j u, l[j]? = some u → w.cell? (ad.add j) = some u := by
  have hl := h.1
  rcases h.2 with ⟨e1, hn⟩ | ⟨g, cap, cur, e1, _⟩
  · simp only [Value.slice.injEq] at e1
    obtain ⟨e2, _, e3⟩ := e1
    subst e2
    exact ⟨fun _ => ⟨hn, e3⟩, fun ad h => by cases h⟩
  · simp only [Value.slice.injEq] at e1
    have e2 := e1.1
    subst e2
    refine ⟨fun h => (by cases h), fun ad hd j u hu => ?_⟩
    cases hd
    have hj : j < l.length := (List.getElem?_eq_some_iff.1 hu).1
    have hc := h.cellAt j (by omega)
    have hadd : (⟨g, 0, none⟩ : Addr).add j = ⟨g, j, none⟩ := by unfold Addr.add; split <;> simp_all
    rw [hadd, hc, hu]
theorem wordNd_size (s : ByteArray) : (wordNd s).s.size ≤ s.size := by
  unfold wordNd
  repeat' split
  all_goals first | exact Nat.le_refl _ | exact Nat.zero_le _
def ReadAns (w : World) (r : List Nd × List Int × Int × Int) (e : Ending) (w' : World) : Prop :=
  ∃ v' vl : Value, e = .returned (.tuple #[.agg #[v'], vl, .int .i64 r.2.2.1, .int .i64 r.2.2.2]) ∧ w'.ownsRow w.heap.size 92 5 v' r.1.length (ncs r.1) ∧ w'.ownsRow w.heap.size 3 1 vl r.2.1.length (iv r.2.1) ∧ Below w.heap.size w w'
structure Kp (w W : World) (v : Value) : Prop where
  below : Below w.heap.size w W
  arg : W.heap[w.heap.size]? = some (.cells #[v] 29 (0, 0))
  res : W.heap[w.heap.size + 1]? = some (.cells #[.slice none 0 0] 29 (0, 0))
  non : W.heap[w.heap.size + 1 + 1]? = some (.cells #[] 3 (0, 0))
theorem Kp.lt {w W : World} {v : Value} (k : Kp w W v) : w.heap.size + 1 + 1 < W.heap.size := (Array.getElem?_eq_some_iff.1 k.non).1
theorem Kp.on {w W W' : World} {v : Value} (k : Kp w W v) (hb : Below (w.heap.size + 1 + 1 + 1) W W') : Kp w W' v :=
  ⟨k.below.trans (hb.mono (by omega)), (hb.block _ (by omega)).trans k.arg, (hb.block _ (by omega)).trans k.res, (hb.block _ (by omega)).trans k.non⟩
theorem Kp.cell {w W : World} {v : Value} (k : Kp w W v) : W.cell? ⟨w.heap.size, 0, none⟩ = some v := by rw [cell_of_row W _ 0 _ _ _ k.arg]; rfl
theorem Kp.froz {w W : World} {v : Value} (k : Kp w W v) : W.frozen? ⟨w.heap.size + 1, 0, none⟩ = false := frozen_of_row W _ 0 _ _ k.res
theorem Kp.rcell {w W : World} {v : Value} (k : Kp w W v) : W.cell? ⟨w.heap.size + 1, 0, none⟩ = some (.slice none 0 0) := by rw [cell_of_row W _ 0 _ _ _ k.res]; rfl
theorem Kp.ans {w W : World} {v v2 : Value} {xs : List Nd} (k : Kp w W v) (ho : W.ownsRow (w.heap.size + 1 + 1 + 1) 92 5 v2 xs.length (ncs xs)) :
    (W.setCell ⟨w.heap.size + 1, 0, none⟩ v2).heap[w.heap.size + 1]? = some (.cells #[v2] 29 (0, 0)) ∧
    ∀ h p : Int, ReadAns w (xs, [], h, p) (.returned (.tuple #[.agg #[v2], .slice (some ⟨w.heap.size + 1 + 1, 0, none⟩) 0 0, .int .i64 h, .int .i64 p])) (W.setCell ⟨w.heap.size + 1, 0, none⟩ v2) := by
  refine ⟨heap_setCell_same W _ 0 _ _ v2 k.res, fun h p => ⟨v2, _, rfl, ?_, ?_, k.below.setCell (p := ⟨w.heap.size + 1, 0, none⟩) (by simp) v2⟩⟩
  · exact own_mono (ownsRow_setCell_below ho (a := ⟨w.heap.size + 1, 0, none⟩) (by simp) v2) (by omega)
  · refine ⟨rfl, .inr ⟨w.heap.size + 1 + 1, 0, #[], rfl, by omega, ?_, Nat.le_refl _, by unfold maxLen; omega, rfl, rfl⟩⟩
    rw [heap_setCell_other W ⟨w.heap.size + 1, 0, none⟩ _ _ (by simp)]
    exact k.non
set_option maxRecDepth 100000 in
set_option maxHeartbeats 3200000 in
theorem sread_any (v : Value) (xs : List Nd) (t : ByteArray) (w : World) (R : NRow w v xs) (ht : t.size ≤ maxLen) :
    Calls Tryz.prog 46 #[.agg #[v], .string t] w fun e w' => ReadAns w (readR xs t) e w' := by
  unfold maxLen at ht
  have R' := R
  obtain ⟨ao, cap, rfl, hcap, hm, hz, _⟩ := R'
  have K0 : Kp w (((w.alloc (Obj.cells #[.slice ao xs.length cap] 29)).alloc (Obj.cells #[.slice none 0 0] 29)).alloc (Obj.cells #[] 3)) (.slice ao xs.length cap) := by
    refine ⟨(((Below.refl _ _).alloc (Nat.le_refl _) _).alloc (by simp) _).alloc (by simp; omega) _, ?_, ?_, ?_⟩
    · exact (heap_alloc_old _ _ (by simp; omega)).trans (heap_alloc2_old _ _ _)
    · exact (heap_alloc_old _ _ (by simp)).trans (heap_alloc2_new _ _ _)
    · have h := heap_alloc_new ((w.alloc (Obj.cells #[.slice ao xs.length cap] 29)).alloc (Obj.cells #[.slice none 0 0] 29)) (Obj.cells #[] 3)
      simpa using h
  obtain ⟨iO, hiO, hzO0, hzO1, hzO2⟩ := info_parts Tryz.infoO
  obtain ⟨iI, hiI, hzI0, hzI1, hzI2⟩ := info_parts Tryz.infoI2
  go_enter Tryz.func46, Tryz.ntmps46
  go_wp2_with fail
  refine (spool_any _ xs _ (R.below K0.below)).mono ?_
  rintro e w1 ⟨rfl, hb1⟩
  have K1 : Kp w w1 (.slice ao xs.length cap) := K0.on (hb1.mono (by simp))
  clear K0 hb1
  have c1 := K1.cell
  have f1 := K1.froz
  have r1 := K1.rcell
  have l1 := K1.lt
  by_cases hp : poolB xs = true
  · have hlen : xs.length ≤ 3000 := by simp only [poolB, Bool.and_eq_true, decide_eq_true_eq] at hp; exact hp.1
    rw [hp]
    by_cases h4 : t.size ≤ 400
    · have HR : Hid (readR xs t = (match rd t 0 0 ⟨xs, [], 0, []⟩ with
        | .bad h p => (xs, [], h, p)
        | .ok s => if s.lo = [] then (if poolB s.ns = true then (s.ns, s.vs, 0, (t.size : Int)) else (xs, [], 6, 0)) else (xs, [], 4, s.a))) := by unfold Hid readR; rw [if_pos hp, if_pos h4]
      have h4' : ¬ (400 : Int) < t.size := by omega
      go_wp2_with fail
      refine (scopy_any _ xs _ (R.below K1.below) (by omega)).mono ?_
      rintro e w2 ⟨v2, rfl, ho2, hb2⟩
      obtain ⟨ao2, cap2, rfl⟩ := own_form ho2
      have K2 : Kp w w2 (.slice ao xs.length cap) := K1.on (hb2.mono (by omega))
      have ho3 := own_mono ho2 (show w.heap.size + 1 + 1 + 1 ≤ w1.heap.size by omega)
      have hs12 := hb2.size
      clear K1 c1 f1 r1 ho2 hb2
      have hb0 : (w2.alloc (Obj.cells #[.slice ao2 xs.length cap2] 29)).heap[w2.heap.size]? = some (.cells #[.slice ao2 xs.length cap2] 29 (0, 0)) := heap_alloc_new _ _
      have hB3 : Below w2.heap.size w2 ((w2.alloc (Obj.cells #[.slice ao2 xs.length cap2] 29)).alloc (Obj.cells #[.int .i64 0, .slice none 0 0] 132)) := ((Below.refl _ _).alloc (Nat.le_refl _) _).alloc (by simp) _
      have K3 := K2.on (hB3.mono (by have := K2.lt; omega))
      have hbx := (heap_alloc_old (w2.alloc (Obj.cells #[.slice ao2 xs.length cap2] 29)) (Obj.cells #[.int .i64 0, .slice none 0 0] 132) (by simp)).trans hb0
      have ho4 := own_below ho3 hB3
      have S3 : Stk (w.heap.size + 1 + 1 + 1) ((w2.alloc (Obj.cells #[.slice ao2 xs.length cap2] 29)).alloc (Obj.cells #[.int .i64 0, .slice none 0 0] 132)) (.slice (some ⟨w2.heap.size + 1, 0, none⟩) 1 1) [((0 : Int), Value.slice none 0 0, ([] : List Int))] := by
        refine ⟨⟨rfl, .inr ⟨w2.heap.size + 1, 1, #[.int .i64 0, .slice none 0 0], rfl, by have := K2.lt; omega, ?_, Nat.le_refl _, by unfold maxLen; omega, rfl, rfl⟩⟩, ?_, List.pairwise_singleton _ _⟩
        · exact heap_alloc2_new _ _ _
        · intro e he
          rw [List.mem_singleton] at he
          subst he
          exact ⟨rfl, .inl ⟨rfl, rfl⟩⟩
      have F0 : Fits xs.length 0 ⟨xs, [], 0, []⟩ := ⟨by simp, by simp, by simp, by simp, hz⟩
      have hbl : w.heap.size + 1 + 1 < w2.heap.size := K2.lt
      clear K2 ho3 hB3 hb0
      go_wp2_with fail
      generalize hbg : w2.heap.size = b at hbx S3 hbl ⊢
      go_loopw [10, 11] (fun o i wr => ∃ (k : Nat) (s : RS) (st : List Rec) (lv V : Value), i = .int .i64 k ∧ k ≤ t.size ∧ Kp w wr (.slice ao xs.length cap) ∧ Fits xs.length k s ∧ Hid (st.map (fun e => (e.1, e.2.2)) = s.lo) ∧ Stk (w.heap.size + 1 + 1 + 1) wr o (st ++ [(s.a, lv, s.vs)]) ∧ wr.heap[b]? = some (.cells #[V] 29 (0, 0)) ∧ wr.ownsRow (w.heap.size + 1 + 1 + 1) 92 5 V s.ns.length (ncs s.ns) ∧ Hid (rd t 0 0 ⟨xs, [], 0, []⟩ = rd t k k s)) (fun _ i _ => t.size - (intOf i).toNat)
      case atStart => exact ⟨0, ⟨xs, [], 0, []⟩, [], .slice none 0 0, .slice ao2 xs.length cap2, rfl, by omega, K3, F0, rfl, S3, hbx, ho4, rfl⟩
      case round =>
        clear K3 hbx ho4 S3 F0 hbg
        obtain ⟨k, s, st, lv, V, rfl, hk, K, F, HL, S, hbr, hor, HD⟩ := hrel
        have cK := K.cell
        have fK := K.froz
        have rK := K.rcell
        have lK := K.lt
        obtain ⟨g, capo, hoe, hgb, hgl⟩ := S.recs.form (by simp)
        rw [List.length_append, List.length_singleton] at hoe
        subst hoe
        have hsl : Hid (st.length = s.lo.length) := by unfold Hid; rw [← HL.out, List.length_map]
        have hst4 : st.length ≤ 400 := by have := F.lo; have := hsl.out; omega
        by_cases hlt : k < t.size
        · by_cases h32 : t[k].toNat = 32
          · have HD2 : Hid (rd t 0 0 ⟨xs, [], 0, []⟩ = rd t (k + 1) (k + 1) s) := by
              unfold Hid
              rw [HD.out, rd_mark hlt (by rw [h32]; decide), h32]
              rfl
            clear HD
            go_wp2_with fail
            go_roundw
            case rel => exact ⟨k + 1, s, st, lv, V, by go_num, by omega, K, F.mono (by omega), HL, S, hbr, hor, HD2⟩
            case measure => (simp [intOf] <;> omega)
          · have h32' : ((t[k].toNat : Int) == 32) = false := by simp; omega
            by_cases h40 : t[k].toNat = 40
            · have HD2 : Hid (rd t 0 0 ⟨xs, [], 0, []⟩ = rd t (k + 1) (k + 1) ⟨s.ns, s.lo ++ [(s.a, s.vs)], k, []⟩) := by
                unfold Hid
                rw [HD.out, rd_mark hlt (by rw [h40]; decide), h40]
                rfl
              have F2 : Fits xs.length (k + 1) ⟨s.ns, s.lo ++ [(s.a, s.vs)], k, []⟩ := F.mark (b := 40) (p := k) (by omega) rfl
              have SA := S.below ((Below.refl wr.heap.size wr).alloc (Nat.le_refl _) (Obj.cells #[.int .i64 k, .slice none 0 0] 132))
              have hrl : (st ++ [(s.a, lv, s.vs)]).length = st.length + 1 := by simp
              have SR := SA.recs
              rw [hrl] at SR
              clear HD
              go_wp2_with (refine wpList_append_lies _ rfl _ _ 133 rfl (w.heap.size + 1 + 1 + 1) 132 iO _ 2 32 Tryz.underlying133 hiO hzO0 hzO1 hzO2 rfl (by decide) _ _ _ rfl SR ⟨wr.heap.size, 0, none⟩ 1 1 [.int .i64 k, .slice none 0 0] rfl rfl (World.news_of_block (cs := #[.int .i64 k, .slice none 0 0]) (t := 132) (fr := (0, 0)) (heap_alloc_new wr _)) (by simp [Value.oneCell']) (by omega) (by unfold maxLen; omega) (by omega) (by simp; omega) (wr.heap.size + 1) (by simp) ?_)
              intro g2 cap3 w3 hown hgrow hat hgl2
              have hbl2 : b < wr.heap.size := (Array.getElem?_eq_some_iff.1 hbr).1
              have S3 := SA.push k (by rw [hrl]; exact hown) hgrow
              have hB3 : Below (w.heap.size + 1 + 1 + 1) wr w3 := ((Below.refl _ wr).alloc (by omega) _).grown hgrow (by simp; omega) (fun q hq => (SR.lt q hq).1)
              have hbr3 := (hgrow.block b (by simp; omega) (fun e => own_ne S.recs hbr (by decide) e.symm)).trans ((heap_alloc_old _ _ hbl2).trans hbr)
              have hor3 := (hor.alloc (.cells #[.int .i64 k, .slice none 0 0] 132)).kept hgrow (own_apart hor S.recs (by decide))
              have K3 := K.on hB3
              have HL3 : Hid ((st ++ [(s.a, lv, s.vs)]).map (fun e => (e.1, e.2.2)) = s.lo ++ [(s.a, s.vs)]) := by unfold Hid; rw [List.map_append, HL.out]; rfl
              clear SR SA hown hgrow hat K cK fK rK hbr hor S
              go_wp2_with fail
              go_roundw
              case rel => exact ⟨k + 1, ⟨s.ns, s.lo ++ [(s.a, s.vs)], k, []⟩, st ++ [(s.a, lv, s.vs)], .slice none 0 0, V, by go_num, by omega, K3, F2, HL3, S3, hbr3, hor3, HD2⟩
              case measure => (simp [intOf] <;> omega)
            · have h40' : ((t[k].toNat : Int) == 40) = false := by simp; omega
              by_cases h41 : t[k].toNat = 41
              · rcases List.eq_nil_or_concat st with rfl | ⟨st0, ⟨a0, lv0, zs0⟩, rfl⟩
                ·
                  have HB : Hid (readR xs t = (xs, [], 5, (k : Int))) := by
                    have h1 : s.lo = [] := by rw [← HL.out]; rfl
                    have h2 : rdMark (41 : Int) k s = .bad 5 k := by
                      show rdClose k s = _
                      unfold rdClose
                      rw [h1]
                      rfl
                    unfold Hid
                    rw [HR.out, HD.out, rd_mark hlt (by rw [h41]; decide), h41, show ((41 : Nat) : Int) = 41 from rfl, h2]
                    rfl
                  clear HD HR
                  go_wp2_with fail
                  refine (scopy_any _ xs _ (R.below K.below) (by omega)).mono ?_
                  rintro e w5 ⟨v5, rfl, ho5, hb5⟩
                  have K5 : Kp w w5 (.slice ao xs.length cap) := K.on (hb5.mono (by omega))
                  have A := K5.ans (own_mono ho5 (by omega))
                  have f5 := K5.froz
                  have r5 := K5.rcell
                  obtain ⟨ao5, cap5, rfl⟩ := own_form ho5
                  clear K cK fK rK S hbr hor
                  go_wp2_with fail
                  exact bodyPost_ret (results_row_tmp3 rfl _ _ (w.heap.size + 1) 29 _ (0, 0) _ rfl A.1 Tryz.underlying29 rfl Tryz.sizeP) rfl (by rw [HB.out]; exact A.2 5 k)
                · rw [List.concat_eq_append] at *
                  have hlo : Hid (s.lo = st0.map (fun e => (e.1, e.2.2)) ++ [(a0, zs0)]) := by unfold Hid; rw [← HL.out, List.map_append]; rfl
                  have hmk : Hid (rdMark (41 : Int) k s = .ok ⟨s.ns ++ more s.vs s.ns.length 0, st0.map (fun e => (e.1, e.2.2)), a0, zs0 ++ [((s.ns.length + s.vs.length : Nat) : Int)]⟩) := by
                    unfold Hid
                    show rdClose k s = _
                    unfold rdClose
                    rw [hlo.out]
                    simp only [List.getLast?_concat, List.dropLast_concat, RS.put, more_length]
                    rfl
                  have HD2 : Hid (rd t 0 0 ⟨xs, [], 0, []⟩ = rd t (k + 1) (k + 1) ⟨s.ns ++ more s.vs s.ns.length 0, st0.map (fun e => (e.1, e.2.2)), a0, zs0 ++ [((s.ns.length + s.vs.length : Nat) : Int)]⟩) := by
                    unfold Hid
                    rw [HD.out, rd_mark hlt (by rw [h41]; decide), h41, show ((41 : Nat) : Int) = 41 from rfl, hmk.out]
                    rfl
                  have F2 := F.mark (by omega) hmk.out
                  have hnl := F.ns
                  have hvl := F.vs
                  have hzl0 : zs0.length ≤ 400 := by have := F.all (a0, zs0) (by rw [hlo.out]; simp); simp only at this; omega
                  have hl1 : (st0 ++ [(a0, lv0, zs0)]).length = st0.length + 1 := by simp
                  rw [hl1] at S hst4 ⊢
                  have SR := S.recs
                  rw [List.length_append, hl1, List.length_singleton] at SR
                  have cT := SR.cellAt ((st0.length + 1) * 2 + 1) (by omega)
                  have q1 := (stC_at (st0 ++ [(a0, lv0, zs0)]) (s.a, lv, s.vs) []).2
                  rw [hl1] at q1
                  rw [q1] at cT
                  clear HD q1 SR
                  go_wp2_with fail
                  refine (slist_fr b _ V lv s.ns s.vs wr hbr hor (S.own (s.a, lv, s.vs) (by simp)) (by omega) (by omega) (by omega)).mono ?_
                  rintro e w4 ⟨V4, rfl, hb4, ho4, hx4⟩
                  clear hmk
                  generalize ((s.ns.length + s.vs.length : Nat) : Int) = X at HD2 F2 ⊢
                  have S4 := S.pool hbr hor hx4
                  have K4 := K.on hx4.below
                  rw [← hl1] at S4
                  have S5 := S4.pop
                  rw [hl1] at S5
                  have SR5 := S5.recs
                  rw [hl1] at SR5
                  have c5 := SR5.cellAt (st0.length * 2 + 1) (by omega)
                  rw [(stC_at st0 (a0, lv0, zs0) []).2] at c5
                  have hcap5 : st0.length + 1 ≤ capo := by
                    rcases SR5.2 with ⟨e, _⟩ | ⟨g', c', cur, e, _, _, h1, _⟩
                    · cases e
                    · simp only [Value.slice.injEq] at e
                      rw [e.2.2]; exact h1
                  clear K cK fK rK hbr hor S cT SR5 S4 hx4
                  have l4 := K4.lt
                  have SA := S5.below ((Below.refl w4.heap.size w4).alloc (Nat.le_refl _) (Obj.cells #[.int .i64 X] 3))
                  have own0 : (w4.alloc (Obj.cells #[.int .i64 X] 3)).ownsRow (w.heap.size + 1 + 1 + 1) 3 1 lv0 zs0.length (iv zs0) := SA.own (a0, lv0, zs0) (by simp)
                  go_wp2_with (refine wpList_append_lies _ rfl _ _ 25 rfl (w.heap.size + 1 + 1 + 1) 3 iI _ 1 8 Tryz.underlying25 hiI hzI0 hzI1 hzI2 rfl (by decide) _ _ _ rfl own0 ⟨w4.heap.size, 0, none⟩ 1 1 [.int .i64 X] rfl rfl (World.news_of_block (cs := #[.int .i64 X]) (t := 3) (fr := (0, 0)) (heap_alloc_new w4 _)) (by simp [Value.oneCell']) (by omega) (by unfold maxLen; omega) (by omega) (by simp; omega) (w4.heap.size + 1) (by simp) ?_)
                  intro g6 cap6 w6 hown hgrow hat hgl6
                  have SRA := SA.recs
                  rw [hl1] at SRA
                  have SR6 := SRA.kept hgrow (own_apart SRA own0 (by decide))
                  have c6 := SR6.cellAt (st0.length * 2 + 1) (by omega)
                  rw [(stC_at st0 (a0, lv0, zs0) []).2] at c6
                  have f6 := SR6.frozenAt (st0.length * 2 + 1)
                  have S6 := SA.more hown hgrow (fun q hq => by
                    simp only [Value.ownBlock, Option.some.injEq] at hq
                    subst hq
                    rcases hat with e | e
                    · exact .inl e
                    · exact .inr (by simp; omega))
                  have hbl4 : b < w4.heap.size := (Array.getElem?_eq_some_iff.1 hb4).1
                  have hB6 : Below (w.heap.size + 1 + 1 + 1) w4 w6 := ((Below.refl _ w4).alloc (by omega) _).grown hgrow (by simp; omega) (fun q hq => (own0.lt q hq).1)
                  have hB7 := hB6.setCell (p := ⟨g, st0.length * 2 + 1, none⟩) (by simpa using hgb) (.slice (some ⟨g6, 0, none⟩) (zs0.length + 1) cap6)
                  have K7 := K4.on hB7
                  have hbr6 := (hgrow.block b (by simp; omega) (fun e => own_ne own0 ((heap_alloc_old _ _ hbl4).trans hb4) (by decide) e.symm)).trans ((heap_alloc_old _ _ hbl4).trans hb4)
                  have hgne : g ≠ b := by
                    intro e
                    have := own_ne SRA ((heap_alloc_old w4 (Obj.cells #[.int .i64 X] 3) hbl4).trans hb4) (by decide)
                    exact this (by rw [e]; rfl)
                  have hbr7 := (heap_setCell_other w6 ⟨g, st0.length * 2 + 1, none⟩ b (.slice (some ⟨g6, 0, none⟩) (zs0.length + 1) cap6) (fun e => hgne e.symm)).trans hbr6
                  have hor6 := (ho4.alloc (.cells #[.int .i64 X] 3)).kept hgrow (own_apart (ho4.alloc _) own0 (by decide))
                  have hor7 := ownsRow_setCell_other hor6 (a := ⟨g, st0.length * 2 + 1, none⟩) (fun e => by
                    rcases own_apart hor6 SR6 (by decide) with q | q
                    · rw [e] at q; cases q
                    · exact q e) (.slice (some ⟨g6, 0, none⟩) (zs0.length + 1) cap6)
                  clear SA own0 SRA SR6 hown hgrow hat S5 ho4 hb4 K4 hor6 hbr6 hB6 hB7 c5
                  go_wp2_with fail
                  go_roundw
                  case rel => exact ⟨k + 1, ⟨s.ns ++ more s.vs s.ns.length 0, st0.map (fun e => (e.1, e.2.2)), a0, zs0 ++ [X]⟩, st0, _, V4, by go_num, by omega, K7, F2, rfl, S6, hbr7, hor7, HD2⟩
                  case measure => (simp [intOf] <;> omega)
              · have h41' : ((t[k].toNat : Int) == 41) = false := by simp; omega
                cases hwb : wb (t[k].toNat : Int) with
                | false =>
                  have HB : Hid (readR xs t = (xs, [], 2, (k : Int))) := by
                    have h2 : rdMark (t[k].toNat : Int) k s = .bad 2 k := by
                      unfold rdMark
                      rw [if_neg (by omega), if_neg (by omega), if_neg (by omega)]
                    unfold Hid
                    rw [HR.out, HD.out, rd_mark hlt hwb, h2]
                    rfl
                  clear HD HR
                  go_wp2_with fail
                  refine (swordbyte_any _ _).mono ?_
                  rintro e w4 ⟨rfl, rfl⟩
                  rw [hwb]
                  go_wp2_with fail
                  refine (scopy_any _ xs _ (R.below K.below) (by omega)).mono ?_
                  rintro e w5 ⟨v5, rfl, ho5, hb5⟩
                  have K5 : Kp w w5 (.slice ao xs.length cap) := K.on (hb5.mono (by omega))
                  have A := K5.ans (own_mono ho5 (by omega))
                  have f5 := K5.froz
                  have r5 := K5.rcell
                  obtain ⟨ao5, cap5, rfl⟩ := own_form ho5
                  clear K cK fK rK S hbr hor
                  go_wp2_with fail
                  exact bodyPost_ret (results_row_tmp3 rfl _ _ (w.heap.size + 1) 29 _ (0, 0) _ rfl A.1 Tryz.underlying29 rfl Tryz.sizeP) rfl (by rw [HB.out]; exact A.2 2 k)
                | true =>
                  go_wp2_with fail
                  refine (swordbyte_any _ _).mono ?_
                  rintro e w4 ⟨rfl, rfl⟩
                  rw [hwb]
                  go_wp2_with fail
                  go_loop [11] (fun i => ∃ j : Nat, k ≤ j ∧ j ≤ t.size ∧ i = .int .i64 j ∧ Hid (∀ m (h : m < t.size), k ≤ m → m < j → wb (t[m].toNat : Int) = true)) (fun i => t.size - (intOf i).toNat)
                  case atStart => exact ⟨k, Nat.le_refl _, hk, rfl, fun m h h1 h2 => by omega⟩
                  case round =>
                    obtain ⟨j, hkj, hjt, rfl, HW⟩ := hrel
                    by_cases hgo : ∃ h : j < t.size, wb (t[j].toNat : Int) = true
                    · obtain ⟨hjl, hwj⟩ := hgo
                      go_wp2_with fail
                      refine (swordbyte_any _ _).mono ?_
                      rintro e w5 ⟨rfl, rfl⟩
                      rw [hwj]
                      go_wp2_with fail
                      go_round
                      case rel =>
                        refine ⟨j + 1, by omega, by omega, by go_num, fun m h h1 h2 => ?_⟩
                        by_cases hmj : m = j
                        · subst hmj; exact hwj
                        · exact HW.out m h h1 (by omega)
                      case measure => (simp [intOf] <;> omega)
                    · have HE : ∀ h : j < t.size, wb (t[j].toNat : Int) = false := fun h => by
                        cases q : wb (t[j].toNat : Int) with
                        | false => rfl
                        | true => exact absurd ⟨h, q⟩ hgo
                      have hkj' : k < j := by
                        rcases Nat.lt_or_ge k j with h | h
                        · exact h
                        · have e : j = k := by omega
                          subst e
                          rw [HE hlt] at hwb
                          cases hwb
                      have HD2 : Hid (rd t 0 0 ⟨xs, [], 0, []⟩ = (rdWord t k j s).andThen fun s1 => rd t j j s1) := by
                        unfold Hid
                        rw [HD.out, rd_skip j k hkj hjt HW.out, rd_end hkj' hjt HE]
                      have hkj2 : (k : Int) ≤ j := by omega
                      have hjt2 : (j : Int) ≤ t.size := by omega
                      clear HD HW hgo
                      have hjl := Nat.lt_or_ge j t.size
                      rcases hjl with hjl | hjl
                      case' inl =>
                        have hwj := HE hjl
                        go_wp2_with fail
                        refine (swordbyte_any _ _).mono ?_
                        rintro e w4 ⟨rfl, rfl⟩
                        rw [hwj]
                        go_wp2_with fail
                      case' inr =>
                        have hjl' : ¬ (j : Int) < t.size := by omega
                        go_wp2_with fail
                      all_goals
                        refine (sword_any (t.extract k j) _ (by rw [ByteArray.size_extract]; unfold maxLen; omega)).mono ?_
                        rintro e w6 ⟨rfl, hb6⟩
                        have hbl4 : b < w4.heap.size := (Array.getElem?_eq_some_iff.1 hbr).1
                        have hq : (w6.alloc (ndO zeroN)).heap[w6.heap.size]? = some (ndO zeroN) := heap_alloc_new _ _
                        have hs46 := hb6.size
                        generalize hX : wordNd (t.extract k j) = X
                        go_wp2_with (refine wpList_store_nd rfl _ _ rfl w6.heap.size X rfl rfl zeroN hq ?_)
                        intro w7 hx7 hb7 hs7
                        have hB7 : Below w4.heap.size w4 w7 := hb6.trans ((((Below.refl _ _).alloc (Nat.le_refl _) _).trans hb7).mono hs46)
                        have K7 : Kp w w7 (.slice ao xs.length cap) := K.on (hB7.mono (by omega))
                        cases hok : wordOk (t.extract k j) with
                        | false =>
                          have HB : Hid (readR xs t = (xs, [], 3, (k : Int))) := by
                            unfold Hid
                            rw [HR.out, HD2.out]
                            unfold rdWord
                            rw [hok]
                            rfl
                          have c7 := K7.cell
                          have l7 := K7.lt
                          clear HD2 HR K cK fK rK S hbr hor
                          go_wp2_with fail
                          refine (scopy_any _ xs _ (R.below K7.below) (by omega)).mono ?_
                          rintro e w5 ⟨v5, rfl, ho5, hb5⟩
                          have K5 : Kp w w5 (.slice ao xs.length cap) := K7.on (hb5.mono (by omega))
                          have A := K5.ans (own_mono ho5 (by omega))
                          have f5 := K5.froz
                          have r5 := K5.rcell
                          obtain ⟨ao5, cap5, rfl⟩ := own_form ho5
                          go_wp2_with fail
                          exact bodyPost_ret (results_row_tmp3 rfl _ _ (w.heap.size + 1) 29 _ (0, 0) _ rfl A.1 Tryz.underlying29 rfl Tryz.sizeP) rfl (by rw [HB.out]; exact A.2 3 k)
                        | true =>
                          have HD3 : Hid (rd t 0 0 ⟨xs, [], 0, []⟩ = rd t j j ⟨s.ns ++ [X], s.lo, s.a, s.vs ++ [(s.ns.length : Int)]⟩) := by
                            unfold Hid
                            rw [HD2.out]
                            unfold rdWord
                            rw [hok, hX]
                            rfl
                          have hXs : X.s.size ≤ maxLen := by
                            subst hX
                            refine Nat.le_trans (wordNd_size _) ?_
                            rw [ByteArray.size_extract]
                            unfold maxLen
                            omega
                          have F2 : Fits xs.length j ⟨s.ns ++ [X], s.lo, s.a, s.vs ++ [(s.ns.length : Int)]⟩ := (F.word X hXs).mono hkj'
                          have S7 := S.below hB7.drew
                          have hbr7 : w7.drew.heap[b]? = _ := (hB7.drew.block b hbl4).trans hbr
                          have hor7 := own_below hor hB7.drew
                          have K7d : Kp w w7.drew (.slice ao xs.length cap) := K.on (hB7.drew.mono (by omega))
                          have l7 := K7.lt
                          have hnl := F.ns
                          have hvl := F.vs
                          have SR7 := S7.recs
                          rw [List.length_append, List.length_singleton] at SR7
                          have cT7 : w7.cell? ⟨g, st.length * 2 + 1, none⟩ = _ := SR7.cellAt (st.length * 2 + 1) (by omega)
                          rw [(stC_at st (s.a, lv, s.vs) []).2] at cT7
                          have n0 : w7.cell? ⟨w6.heap.size, 0, none⟩ = some (.int .i64 X.k) := by rw [cell_of_row w7 _ 0 _ _ _ hx7]; rfl
                          have n1 : w7.cell? ⟨w6.heap.size, 1, none⟩ = some (.int .i64 X.n) := by rw [cell_of_row w7 _ 1 _ _ _ hx7]; rfl
                          have n2 : w7.cell? ⟨w6.heap.size, 2, none⟩ = some (.string X.s) := by rw [cell_of_row w7 _ 2 _ _ _ hx7]; rfl
                          have n3 : w7.cell? ⟨w6.heap.size, 3, none⟩ = some (.int .i64 X.a) := by rw [cell_of_row w7 _ 3 _ _ _ hx7]; rfl
                          have n4 : w7.cell? ⟨w6.heap.size, 4, none⟩ = some (.int .i64 X.b) := by rw [cell_of_row w7 _ 4 _ _ _ hx7]; rfl
                          obtain ⟨aV, cV, rfl⟩ := own_form hor7
                          clear HD2 HR K cK fK rK S hbr hor hX hok K7
                          go_wp2_with fail
                          obtain ⟨n1, hn1⟩ : ∃ n1, Hid (n1 = st.length + 1) := ⟨_, rfl⟩
                          have hd1 : (st.length : Int) < n1 := by have := hn1.out; omega
                          have hd2 : st.length < n1 := by have := hn1.out; omega
                          rw [← hn1.out] at S7 SR7 ⊢
                          go_region_law (first
                            | (refine step_append_lies _ rfl _ _ 25 rfl (w.heap.size + 1 + 1 + 1) 3 iI _ 1 8 Tryz.underlying25 hiI hzI0 hzI1 hzI2 rfl (by decide) _ _ _ rfl own0 ⟨w8.heap.size, 0, none⟩ 1 1 [.int .i64 s.ns.length] rfl rfl (World.news_of_block (cs := #[.int .i64 s.ns.length]) (t := 3) (fr := (0, 0)) (heap_alloc_new w8 _)) (by simp [Value.oneCell']) (by omega) (by unfold maxLen; omega) (by omega) (by simp; omega) (w8.heap.size + 1) (by simp) ?_
                               intro g9 cap9 w9 hown hgrow hat hgl9
                               have SR9 := SRA.kept hgrow (own_apart SRA own0 (by decide))
                               have c9 := SR9.cellAt (st.length * 2 + 1) (by omega)
                               rw [(stC_at st (s.a, lv, s.vs) []).2] at c9
                               have f9 := SR9.frozenAt (st.length * 2 + 1))
                            | (go_simp; go_at_call 50; refine (sadd_fr b (w.heap.size + 1 + 1 + 1) aV cV s.ns X _ hbr7 hor7 (by omega) (by omega)).mono ?_
                               rintro e w8 ⟨V8, rfl, hb8, ho8, hx8⟩
                               have S8 := S7.pool hbr7 hor7 hx8
                               have K8 := K7d.on hx8.below
                               have l8 := K8.lt
                               have SA := S8.below ((Below.refl w8.heap.size w8).alloc (Nat.le_refl _) (Obj.cells #[.int .i64 s.ns.length] 3))
                               have own0 : (w8.alloc (Obj.cells #[.int .i64 s.ns.length] 3)).ownsRow (w.heap.size + 1 + 1 + 1) 3 1 lv s.vs.length (iv s.vs) := SA.own (s.a, lv, s.vs) (by simp)
                               have SR8 := S8.recs
                               rw [List.length_append, List.length_singleton, ← hn1.out] at SR8
                               have SRA := SA.recs
                               rw [List.length_append, List.length_singleton, ← hn1.out] at SRA
                               have cT8 := SR8.cellAt (st.length * 2 + 1) (by omega)
                               rw [(stC_at st (s.a, lv, s.vs) []).2] at cT8
                               have cTA := SRA.cellAt (st.length * 2 + 1) (by omega)
                               rw [(stC_at st (s.a, lv, s.vs) []).2] at cTA))
                          all_goals
                            have S9 := SA.more hown hgrow (fun q hq => by
                              simp only [Value.ownBlock, Option.some.injEq] at hq
                              subst hq
                              rcases hat with e | e
                              · exact .inl e
                              · exact .inr (by simp; omega))
                            have hbl8 : b < w8.heap.size := (Array.getElem?_eq_some_iff.1 hb8).1
                            have hB9 : Below (w.heap.size + 1 + 1 + 1) w8 w9 := ((Below.refl _ w8).alloc (by omega) _).grown hgrow (by simp; omega) (fun q hq => (own0.lt q hq).1)
                            have hB9s := hB9.setCell (p := ⟨g, st.length * 2 + 1, none⟩) (by simpa using hgb) (.slice (some ⟨g9, 0, none⟩) (s.vs.length + 1) cap9)
                            have K9 := K8.on hB9s
                            have hbr9 := (hgrow.block b (by simp; omega) (fun e => own_ne own0 ((heap_alloc_old _ _ hbl8).trans hb8) (by decide) e.symm)).trans ((heap_alloc_old _ _ hbl8).trans hb8)
                            have hgne : g ≠ b := by
                              intro e
                              have := own_ne SRA ((heap_alloc_old w8 (Obj.cells #[.int .i64 s.ns.length] 3) hbl8).trans hb8) (by decide)
                              exact this (by rw [e]; rfl)
                            have hbr10 := (heap_setCell_other w9 ⟨g, st.length * 2 + 1, none⟩ b (.slice (some ⟨g9, 0, none⟩) (s.vs.length + 1) cap9) (fun e => hgne e.symm)).trans hbr9
                            have hor9 := (ho8.alloc (.cells #[.int .i64 s.ns.length] 3)).kept hgrow (own_apart (ho8.alloc _) own0 (by decide))
                            have hor10 := ownsRow_setCell_other hor9 (a := ⟨g, st.length * 2 + 1, none⟩) (fun e => by
                              rcases own_apart hor9 SR9 (by decide) with q | q
                              · rw [e] at q; cases q
                              · exact q e) (.slice (some ⟨g9, 0, none⟩) (s.vs.length + 1) cap9)
                            clear SA own0 SRA SR9 hown hgrow hat ho8 hb8 K8 hor9 hbr9 hB9 hB9s c9 f9
                            go_wp2_with fail
                            go_roundw
                            case rel => exact ⟨j, ⟨s.ns ++ [X], s.lo, s.a, s.vs ++ [(s.ns.length : Int)]⟩, st, _, V8, rfl, hjt, K9, F2, HL, S9, hbr10, hor10, HD3⟩
                            case measure => (simp [intOf] <;> omega)
        · have hke : k = t.size := by omega
          subst hke
          have HRK : Hid (readR xs t = if s.lo = [] then (if poolB s.ns = true then (s.ns, s.vs, 0, (t.size : Int)) else (xs, [], 6, 0)) else (xs, [], 4, s.a)) := by
            unfold Hid
            rw [HR.out, HD.out, rd_done]
          clear HR HD
          by_cases hs0 : st.length = 0
          · have hst0 : st = [] := List.length_eq_zero_iff.1 hs0
            subst hst0
            have hlo0 : Hid (s.lo = []) := by unfold Hid; rw [← HL.out]; rfl
            have cB : wr.cell? ⟨b, 0, none⟩ = some V := by rw [cell_of_row wr _ 0 _ _ _ hbr]; rfl
            obtain ⟨aV, cV, rfl⟩ := own_form hor
            have hnl := F.ns
            have htx := F.txt
            go_wp2_with fail
            refine (spool_any _ s.ns _ (NRow.of_own hor (by omega) htx)).mono ?_
            rintro e w4 ⟨rfl, hb4⟩
            have K4 := K.on (hb4.mono (by omega))
            have c4 := K4.cell
            have l4 := K4.lt
            have l4' := l4
            cases hq : poolB s.ns with
            | false =>
              have HB : Hid (readR xs t = (xs, [], 6, 0)) := by unfold Hid; rw [HRK.out, if_pos hlo0.out, if_neg (by rw [hq]; decide)]
              clear K cK fK rK S hbr hor cB HRK
              go_wp2_with fail
              refine (scopy_any _ xs _ (R.below K4.below) (by omega)).mono ?_
              rintro e w5 ⟨v5, rfl, ho5, hb5⟩
              have K5 : Kp w w5 (.slice ao xs.length cap) := K4.on (hb5.mono (by omega))
              have A := K5.ans (own_mono ho5 (by omega))
              have f5 := K5.froz
              have r5 := K5.rcell
              obtain ⟨ao5, cap5, rfl⟩ := own_form ho5
              clear K4 c4
              go_wp2_with fail
              exact bodyPost_ret (results_row_tmp3 rfl _ _ (w.heap.size + 1) 29 _ (0, 0) _ rfl A.1 Tryz.underlying29 rfl Tryz.sizeP) rfl (by rw [HB.out]; exact A.2 6 0)
            | true =>
              have HB : Hid (readR xs t = (s.ns, s.vs, 0, (t.size : Int))) := by unfold Hid; rw [HRK.out, if_pos hlo0.out, if_pos hq]
              have S4 := S.below hb4
              have hbr4 := (hb4.block _ (Array.getElem?_eq_some_iff.1 hbr).1).trans hbr
              have hor4 := own_below hor hb4
              have cB4 : w4.cell? ⟨b, 0, none⟩ = some (.slice aV s.ns.length cV) := by rw [cell_of_row w4 _ 0 _ _ _ hbr4]; rfl
              have f4 := K4.froz
              have r4 := K4.rcell
              have SR4 : w4.ownsRow (w.heap.size + 1 + 1 + 1) 132 2 (.slice (some ⟨g, 0, none⟩) 1 capo) 1 (stC [(s.a, lv, s.vs)]) := S4.recs
              have cL4 : w4.cell? ⟨g, 1, none⟩ = some lv := (SR4.cellAt 1 (by omega)).trans rfl
              clear K cK fK rK S hbr hor cB HRK
              have OL : w4.ownsRow (w.heap.size + 1 + 1 + 1) 3 1 lv s.vs.length (iv s.vs) := S4.own (s.a, lv, s.vs) (by simp)
              obtain ⟨aL, cL, rfl⟩ := own_form OL
              have hvl := F.vs
              have OA : (w4.drew.alloc (Obj.cells #[] 3)).ownsRow (w.heap.size + 1 + 1 + 1) 3 1 (.slice (some ⟨w4.heap.size, 0, none⟩) 0 0) 0 [] := ⟨rfl, .inr ⟨w4.heap.size, 0, #[], rfl, by omega, heap_alloc_new w4.drew _, Nat.le_refl _, by unfold maxLen; omega, rfl, rfl⟩⟩
              have BA : Below w4.heap.size w4 (w4.drew.alloc (Obj.cells #[] 3)) := (Below.refl _ _).drew.alloc (Nat.le_refl _) _
              have NL := own_news (own_below OL BA)
              have hgl4 : g < w4.heap.size := Nat.lt_of_lt_of_le hgl hb4.size
              have hbl4 : b < w4.heap.size := (Array.getElem?_eq_some_iff.1 hbr4).1
              have cLA : (w4.alloc (Obj.cells #[] 3)).cell? ⟨g, 1, none⟩ = some (.slice aL s.vs.length cL) := (BA.cell (p := ⟨g, 1, none⟩) hgl4).trans cL4
              have cBA : (w4.alloc (Obj.cells #[] 3)).cell? ⟨b, 0, none⟩ = some (.slice aV s.ns.length cV) := (BA.cell (p := ⟨b, 0, none⟩) hbl4).trans cB4
              go_wp2_with fail
              go_region_law (refine step_append_own_any _ rfl _ _ 25 rfl (w.heap.size + 1 + 1 + 1) 3 iI _ 1 8 Tryz.underlying25 hiI hzI0 hzI1 hzI2 rfl (by decide) _ 0 [] rfl OA aL s.vs.length cL (iv s.vs) rfl (by simp [iv]) NL.1 NL.2 (by simp [iv, Value.oneCell']) (by unfold maxLen; omega) (by omega) (by simp; omega) ?_; intro v6 w6 hown hgrow; have hB6 : Below (w.heap.size + 1 + 1 + 1) w4 w6 := (BA.mono (by omega)).grown hgrow (by simp; omega) (fun q hq => (OA.lt q hq).1); have K6 := K4.on hB6; have f6 := K6.froz; have r6 := K6.rcell; have cB6 : w6.cell? ⟨b, 0, none⟩ = some (.slice aV s.ns.length cV) := (hgrow.cell_far ⟨b, 0, none⟩ (by simp; omega) (fun e => Nat.ne_of_lt hbl4 (Option.some.inj e))).trans cBA)
              all_goals
                have hor6 := (own_below hor4 BA).kept hgrow (own_apart (own_below hor4 BA) OA (by decide))
                have hres := heap_setCell_same w6 _ 0 _ _ (.slice aV s.ns.length cV) K6.res
                go_wp2_with fail
                refine bodyPost_ret (results_row_tmp3 rfl _ _ (w.heap.size + 1) 29 _ (0, 0) _ rfl hres Tryz.underlying29 rfl Tryz.sizeP) rfl ?_
                rw [HB.out]
                rw [Nat.zero_add, List.nil_append] at hown
                exact ⟨_, _, rfl, own_mono (ownsRow_setCell_below hor6 (a := ⟨w.heap.size + 1, 0, none⟩) (by simp) _) (by omega), own_mono (ownsRow_setCell_below hown (a := ⟨w.heap.size + 1, 0, none⟩) (by simp) _) (by omega), K6.below.setCell (p := ⟨w.heap.size + 1, 0, none⟩) (by simp) _⟩
          · have hlo : s.lo ≠ [] := by
              intro e
              have := hsl.out
              rw [e] at this
              exact hs0 (by simpa using this)
            have HB : Hid (readR xs t = (xs, [], 4, s.a)) := by unfold Hid; rw [HRK.out, if_neg hlo]
            have SR := S.recs
            rw [List.length_append, List.length_singleton] at SR
            have cA := SR.cellAt (st.length * 2) (by omega)
            rw [(stC_at st (s.a, lv, s.vs) []).1] at cA
            go_wp2_with fail
            obtain ⟨n1, hn1⟩ : ∃ n1, Hid (n1 = st.length + 1) := ⟨_, rfl⟩
            have hd1 : (st.length : Int) < n1 := by have := hn1.out; omega
            have hd2 : (n1 : Int) - 1 = st.length := by have := hn1.out; omega
            have hd3 : IntKind.i64.wrap (st.length : Int) = st.length := by rw [IntKind.wrap_i64]; omega
            have hd4 : (0 : Int) ≤ st.length := by omega
            rw [← hn1.out] at SR ⊢
            go_region_law (first | (go_simp; go_at_call 24; refine (scopy_any _ xs _ (R.below K.below.drew) (by omega)).mono ?_; rintro e w5 ⟨v5, rfl, ho5, hb5⟩; obtain ⟨ao5, cap5, rfl⟩ := own_form ho5; have hb5' : Below wr.heap.size wr w5 := (Below.refl _ _).drew.trans hb5; have K5 := K.on (hb5'.mono (by omega)); have cK5 := K5.cell; have rK5 := K5.rcell; have fK5 := K5.froz; have cA5 := (hb5'.cell (p := ⟨g, st.length * 2, none⟩) hgl).trans cA))
            all_goals
              have A := K5.ans (own_mono ho5 (show w.heap.size + 1 + 1 + 1 ≤ wr.heap.size by omega))
              go_wp2_with fail
              exact bodyPost_ret (results_row_tmp3 rfl _ _ (w.heap.size + 1) 29 _ (0, 0) _ rfl A.1 Tryz.underlying29 rfl Tryz.sizeP) rfl (by rw [HB.out]; exact A.2 4 s.a)
    · have HR : Hid (readR xs t = (xs, [], 1, 0)) := by unfold Hid readR; rw [if_pos hp, if_neg h4]
      have h4' : (400 : Int) < t.size := by omega
      go_wp2_with fail
      refine (scopy_any _ xs _ (R.below K1.below) (by omega)).mono ?_
      rintro e w2 ⟨v2, rfl, ho2, hb2⟩
      have K2 : Kp w w2 (.slice ao xs.length cap) := K1.on (hb2.mono (by omega))
      have A := K2.ans (own_mono ho2 (by omega))
      have f2 := K2.froz
      have r2 := K2.rcell
      obtain ⟨ao2, cap2, rfl⟩ := own_form ho2
      clear K1 c1 f1 r1
      go_wp2_with fail
      exact bodyPost_ret (results_row_tmp3 rfl _ _ (w.heap.size + 1) 29 _ (0, 0) _ rfl A.1 Tryz.underlying29 rfl Tryz.sizeP) rfl (by rw [HR.out]; exact A.2 1 0)
  · have hp' : poolB xs = false := by simpa using hp
    have HR : Hid (readR xs t = ([], [], 6, 0)) := by unfold Hid readR; rw [if_neg hp]
    have A := K1.ans (xs := []) (v2 := .slice none 0 0) ⟨rfl, .inl ⟨rfl, rfl⟩⟩
    rw [hp']
    go_wp2_with fail
    exact bodyPost_ret (results_row_tmp3 rfl _ _ (w.heap.size + 1) 29 _ (0, 0) _ rfl A.1 Tryz.underlying29 rfl Tryz.sizeP) rfl (by rw [HR.out]; exact A.2 6 0)
end Go.Proofs.YtkchakcebdenjaaGreat
