/-
  Texts that stood by themselves, laid into one.
-/
import Derived.Test.YtnhepegkjejfcaaDoorSIntoM
import Derived.Test.YtnhepegkjejfcaaDoorDraw2M
import Derived.Deep.RegionHeld
import Derived.Test.YtnhepegkjejfcaaDoorIntsM
import Derived.Test.YtnhepegkjejfcaaDoorNameM
import Derived.Test.YtnhepegkjejfcaaDoorGrowM
/-
  Contracts of spec's l7Keep and Keep. Conditions of l7Keep: the pool is right, and all roots are nodes of it.
-/
namespace Go.Proofs.YtnhepegkjejfcaaDoor
open Go.RowKit

theorem drew_step {w w' : World} (h : Below w.drew.heap.size w.drew w') : Below w.heap.size w w' := (Below.refl w.heap.size w).drew.trans h

set_option maxRecDepth 100000 in
set_option maxHeartbeats 3200000 in
theorem slkeep_any (ao : Option Addr) (cap : Nat) (vl : Value) (xs : List Nd) (rs : List Int) (w : World) (R : NRow w (.slice ao xs.length cap) xs) (L : IRow w vl rs) (hp : poolB xs = true) (hr : allI xs rs = true) (hrs : rs.length ≤ 1048576) :
    Calls Tryd.prog 22 #[.agg #[.slice ao xs.length cap], vl] w fun e w' => ∃ v1 v2, e = .returned (.tuple #[.agg #[v1], v2]) ∧ w'.ownsRow w.heap.size 40 5 v1 (mvN 0 xs rs).length (ncs (mvN 0 xs rs)) ∧ w'.ownsRow w.heap.size 3 1 v2 rs.length (iv (mvR 0 xs rs rs)) ∧ Below w.heap.size w w' := by
  obtain ⟨i0, hi, hz0, hz1, hz2⟩ := info_parts Tryd.infoI9
  have hlen := poolB_len hp
  have hB2 : Below w.heap.size w ((w.alloc (Obj.cells #[.slice ao xs.length cap] 26)).alloc (Obj.cells #[.slice none 0 0] 26)) := below2 w _ _
  have hs2 : ((w.alloc (Obj.cells #[.slice ao xs.length cap] 26)).alloc (Obj.cells #[.slice none 0 0] 26)).heap.size = w.heap.size + 1 + 1 := by simp
  have hx2 := old2 w (Obj.cells #[.slice ao xs.length cap] 26) (Obj.cells #[.slice none 0 0] 26)
  have hy2 := heap_alloc2_new w (Obj.cells #[.slice ao xs.length cap] 26) (Obj.cells #[.slice none 0 0] 26)
  have hrl := reachL_length xs rs
  go_enter Tryd.func22, Tryd.ntmps22
  go_wp2_with fail
  have hb3 := heap_alloc_new ((w.alloc (Obj.cells #[.slice ao xs.length cap] 26)).alloc (Obj.cells #[.slice none 0 0] 26)) (Obj.cells #[.slice none 0 0] 26)
  have h23 : Below (w.heap.size + 1 + 1) ((w.alloc (Obj.cells #[.slice ao xs.length cap] 26)).alloc (Obj.cells #[.slice none 0 0] 26)) (((w.alloc (Obj.cells #[.slice ao xs.length cap] 26)).alloc (Obj.cells #[.slice none 0 0] 26)).alloc (Obj.cells #[.slice none 0 0] 26)) := (Below.refl _ _).alloc (by rw [hs2]; exact Nat.le_refl _) _
  have hs3 : (((w.alloc (Obj.cells #[.slice ao xs.length cap] 26)).alloc (Obj.cells #[.slice none 0 0] 26)).alloc (Obj.cells #[.slice none 0 0] 26)).heap.size = w.heap.size + 1 + 1 + 1 := by simp
  rw [hs2] at hb3
  generalize ((w.alloc (Obj.cells #[.slice ao xs.length cap] 26)).alloc (Obj.cells #[.slice none 0 0] 26)).alloc (Obj.cells #[.slice none 0 0] 26) = W3 at *
  generalize (w.alloc (Obj.cells #[.slice ao xs.length cap] 26)).alloc (Obj.cells #[.slice none 0 0] 26) = W2 at *
  have hB3 := hB2.trans (h23.mono (by omega))
  have R2 := R.below hB2
  have k3 : W3.cell? ⟨w.heap.size, 0, none⟩ = some (.slice ao xs.length cap) := by rw [cell_of_row W3 _ 0 _ _ _ ((h23.block _ (by omega)).trans hx2)]; rfl
  have hl3 : w.heap.size < W3.heap.size := by omega
  go_region_held (fun w' => w'.cell? ⟨w.heap.size, 0, none⟩ = some (.slice ao xs.length cap)) (first | exact k5 | exact k4 | go_keep) (first
    | (go_at_call 42; refine (slreach_any ao cap vl xs rs _ ?_ ?_ hp hr).mono ?_; exact R.below hB3.drew; exact L.below hB3.drew; rintro e wk ⟨vk, rfl, hok, hbk⟩; obtain ⟨aok, capk, rfl⟩ := own_form hok
       have hb34 : Below W3.heap.size W3 wk := drew_step hbk
       have k4 := (hb34.cell (p := ⟨w.heap.size, 0, none⟩) hl3).trans k3)
    | (go_at_call 41; refine (sinto_any (w.heap.size + 1 + 1) (w.heap.size + 1 + 1) none 0 [] xs (reachL xs rs) ao cap _ W2 _ ((hb34.block _ (by omega)).trans hb3) (World.ownsRow_nil _ _ _ _) (Nat.le_refl _) R2 (by omega) (h23.trans (hb34.mono (by omega))) (own_mono hok (by show w.heap.size + 1 + 1 ≤ W3.heap.size; omega)) hrl hp (by simp)).mono ?_; rintro e w5 ⟨v5, vp, rfl, hb5, ho5, hi5, hB5⟩; obtain ⟨a5, q5, rfl⟩ := own_form hi5
       have k5 : w5.cell? ⟨w.heap.size, 0, none⟩ = some (.slice ao xs.length cap) := by rw [cell_of_row w5 _ 0 _ _ _ ((hB5.block _ (by omega)).trans hx2)]; rfl))
  have HN : Hid (mvN 0 xs rs = (mvAll 0 xs (reachL xs rs)).1) := rfl
  have HR : Hid (mvR 0 xs rs rs = rs.map (fun r => (mvAll 0 xs (reachL xs rs)).2.getD r.toNat 0)) := rfl
  have hl2 : (mvAll 0 xs (reachL xs rs)).2.length = xs.length := (mvF_len _ _ _).2
  rw [List.nil_append] at ho5
  rw [show ([] : List Nd).length = 0 from rfl] at ho5 hi5
  generalize mvAll 0 xs (reachL xs rs) = M at *
  obtain ⟨S1, S2⟩ := M
  simp only at hl2 ho5 hi5 HN HR
  obtain ⟨ap, qp, rfl⟩ := own_form ho5
  have hBw := hB2.trans (hB5.mono (by omega))
  have hy5 := (hB5.block (w.heap.size + 1) (by omega)).trans hy2
  have hlw5 := (Array.getElem?_eq_some_iff.1 hb5).1
  obtain ⟨al, cl, rfl, hcl, _, hlc⟩ := L
  have hB6 : Below w5.heap.size w5 (w5.alloc (Obj.cells #[] 3)) := (Below.refl _ _).alloc (Nat.le_refl _) _
  have hi6 := own_none0 w5 3 1 w5.heap.size (Nat.le_refl _)
  clear k5 k4 hok hbk hb34 k3 hb3 h23 hx2 hy2 hB3 hB5 R2 R hB2 hrl
  go_wp2_with fail
  go_loopw [8, 9] (fun s i wr => ∃ (j : Nat), j ≤ rs.length ∧ i = .int .i64 j ∧ wr.ownsRow w5.heap.size 3 1 s j (iv ((rs.take j).map (fun r => S2.getD r.toNat 0))) ∧ Below w5.heap.size w5 wr) (fun _ i _ => rs.length - (intOf i).toNat)
  case atStart => exact ⟨0, by omega, rfl, hi6, hB6⟩
  case round =>
    clear hi6 hB6
    obtain ⟨j, hj, rfl, hownj, hBj⟩ := hrel
    by_cases hlt : j < rs.length
    · obtain ⟨g, o, rfl, hg, hlc⟩ := hlc (by intro e; subst e; simp at hlt)
      have ez := (hBj.cell (p := ⟨g, o + j, none⟩) (Nat.lt_of_lt_of_le hg hBw.size)).trans ((hBw.cell (p := ⟨g, o + j, none⟩) hg).trans (hlc j hlt))
      obtain ⟨z0, z1⟩ := allI_at hr j hlt
      have HT : Hid (iv ((rs.take (j + 1)).map (fun r => S2.getD r.toNat 0)) = iv ((rs.take j).map (fun r => S2.getD r.toNat 0)) ++ [.int .i64 (S2.getD (rs.getD j 0).toNat 0)]) := by
        unfold Hid
        rw [List.take_succ_eq_append_getElem hlt, List.map_append, iv_append, List.getD_eq_getElem?_getD (l := rs), List.getElem?_eq_getElem hlt]
        rfl
      generalize rs.getD j 0 = z at ez z0 z1 HT
      obtain ⟨nz, rfl⟩ := Int.eq_ofNat_of_zero_le z0
      rw [Int.toNat_natCast] at HT
      rcases hi5.2 with ⟨hnil, hn0⟩ | ⟨g5, cap5, cur5, e5, _, _, _⟩
      · omega
      simp only [Value.slice.injEq, true_and] at e5
      obtain ⟨rfl, rfl⟩ := e5
      have e9 := (hBj.cell (p := ⟨g5, nz, none⟩) (hi5.lt _ rfl).2).trans ((hi5.cellAt nz (by omega)).trans (iv_get _ _ (by omega)))
      generalize S2.getD nz 0 = y at e9 HT
      obtain ⟨asj, qsj, rfl⟩ := own_form hownj
      clear hlc hr
      have hsj := hBj.size
      go_wp2_with (at_builtin; refine wpList_append_own _ rfl _ _ 27 rfl w5.heap.size 3 i0 (.int .i64 0) 1 8 Tryd.underlying27 hi hz0 hz1 hz2 rfl (by decide) _ _ _ rfl (hownj.alloc _) ⟨wr.heap.size, 0, none⟩ 1 1 [.int .i64 y] rfl rfl (cell_one_new _ _ _) (by simp [Value.oneCell']) (by unfold maxLen; omega) (by omega) (by simp; omega) ?_)
      intro v7 w8 hown8 hg8' _
      have hB8 : Below w5.heap.size w5 w8 := (hBj.alloc hsj _).grown hg8' (by simp; omega) (fun k hk => (hownj.lt k hk).1)
      have hown8' : w8.ownsRow w5.heap.size 3 1 v7 (j + 1) (iv ((rs.take (j + 1)).map (fun r => S2.getD r.toNat 0))) := by rw [HT.out]; simpa only [List.map_take, List.getD_eq_getElem?_getD] using hown8
      clear hg8' hown8
      go_wp2_with fail
      go_roundw
      case rel => exact ⟨j + 1, by omega, by go_num, hown8', hB8⟩
      case measure => simp [intOf]; omega
    · have hje : j = rs.length := by omega
      subst hje
      have hbj := (hBj.block _ hlw5).trans hb5
      have hyj := (hBj.block _ (by omega)).trans hy5
      have c6 : wr.cell? ⟨w.heap.size + 1 + 1, 0, none⟩ = some (.slice ap S1.length qp) := by rw [cell_of_row wr _ 0 _ _ _ hbj]; rfl
      have c4 : wr.cell? ⟨w.heap.size + 1, 0, none⟩ = some (.slice none 0 0) := by rw [cell_of_row wr _ 0 _ _ _ hyj]; rfl
      have f4 : wr.frozen? ⟨w.heap.size + 1, 0, none⟩ = false := frozen_of_row wr _ 0 _ _ hyj
      have ho6 := own_below ho5 hBj
      rw [List.take_length, ← HR.out] at hownj
      obtain ⟨asj, qsj, rfl⟩ := own_form hownj
      have hBr := hBw.trans (hBj.mono hBw.size)
      obtain ⟨p1, p2, p3⟩ := put_pool hyj ho6 hBr (by omega) (by omega)
      have p4 := own_mono (B' := w.heap.size) (ownsRow_setCell_below hownj (a := ⟨w.heap.size + 1, 0, none⟩) (by show w.heap.size + 1 < w5.heap.size; omega) (.slice ap S1.length qp)) (by omega)
      go_wp2_with fail
      refine bodyPost_ret (results_row_tmp rfl _ _ (w.heap.size + 1) 26 _ (0, 0) _ rfl p1 Tryd.underlying26 rfl Tryd.sizeP) rfl ⟨_, .slice asj rs.length qsj, rfl, ?_, p4, p3⟩
      rw [HN.out]
      exact p2

set_option maxRecDepth 100000 in
set_option maxHeartbeats 1600000 in
theorem skeep_any (v vl : Value) (xs : List Nd) (rs : List Int) (w : World) (R : NRow w v xs) (L : IRow w vl rs) (hrs : rs.length ≤ 1048576) :
    Calls Tryd.prog 8 #[.agg #[v], vl] w fun e w' => ∃ v1 v2, e = .returned (.tuple #[.agg #[v1], v2]) ∧ w'.ownsRow w.heap.size 40 5 v1 (keepL xs rs).length (ncs (keepL xs rs)) ∧ w'.ownsRow w.heap.size 3 1 v2 (keepR xs rs).length (iv (keepR xs rs)) ∧ Below w.heap.size w w' := by
  have R' := R
  obtain ⟨ao, cap, rfl, _⟩ := R'
  go_enter Tryd.func8, Tryd.ntmps8
  go_wp2_with fail
  have hB0 : Below w.heap.size w ((w.alloc (Obj.cells #[.slice ao xs.length cap] 26)).alloc (Obj.cells #[.slice none 0 0] 26)) := ((Below.refl _ _).alloc (Nat.le_refl _) _).alloc (by simp) _
  refine (slroots_any _ _ xs rs _ (R.below hB0) (L.below hB0)).mono ?_
  rintro e w2 ⟨rfl, hb1⟩
  have hx2 : w2.heap[w.heap.size]? = some (.cells #[.slice ao xs.length cap] 26 (0, 0)) := (hb1.block _ (by simp; omega)).trans (heap_alloc2_old _ _ _)
  have hy2 : w2.heap[w.heap.size + 1]? = some (.cells #[.slice none 0 0] 26 (0, 0)) := (hb1.block _ (by simp)).trans (heap_alloc2_new _ _ _)
  have hB2 := hB0.trans (hb1.mono hB0.size)
  have hsz2 := (Array.getElem?_eq_some_iff.1 hy2).1
  clear hB0 hb1
  have hc2 : w2.cell? ⟨w.heap.size, 0, none⟩ = some (.slice ao xs.length cap) := by rw [cell_of_row w2 _ 0 _ _ _ hx2]; rfl
  have hd2 : w2.cell? ⟨w.heap.size + 1, 0, none⟩ = some (.slice none 0 0) := by rw [cell_of_row w2 _ 0 _ _ _ hy2]; rfl
  have hf2 : w2.frozen? ⟨w.heap.size + 1, 0, none⟩ = false := frozen_of_row w2 _ 0 _ _ hy2
  cases hal : (allI xs rs && poolB xs) with
  | true =>
    have h2 := hal
    simp only [Bool.and_eq_true] at h2
    have HL : Hid (keepL xs rs = mvN 0 xs rs) := by unfold Hid keepL; rw [h2.1, h2.2]; rfl
    have HR : Hid (keepR xs rs = mvR 0 xs rs rs) := by unfold Hid keepR; rw [h2.1, h2.2]; rfl
    have hlr : (mvR 0 xs rs rs).length = rs.length := by simp [mvR]
    go_wp2_with fail
    refine (slkeep_any ao cap vl xs rs _ (R.below hB2) (L.below hB2) h2.2 h2.1 hrs).mono ?_
    rintro e w3 ⟨v1, v2, rfl, ho1, ho2, hb3⟩
    obtain ⟨a1, q1, rfl⟩ := own_form ho1
    obtain ⟨a2, q2, rfl⟩ := own_form ho2
    have hy3 := (hb3.block _ hsz2).trans hy2
    have hd3 : w3.cell? ⟨w.heap.size + 1, 0, none⟩ = some (.slice none 0 0) := by rw [cell_of_row w3 _ 0 _ _ _ hy3]; rfl
    have hf3 : w3.frozen? ⟨w.heap.size + 1, 0, none⟩ = false := frozen_of_row w3 _ 0 _ _ hy3
    have hB3 := hB2.trans (hb3.mono hB2.size)
    obtain ⟨p1, p2, p3⟩ := put_pool hy3 ho1 hB3 hsz2 (by omega)
    have p4 := own_mono (B' := w.heap.size) (ownsRow_setCell_below ho2 (a := ⟨w.heap.size + 1, 0, none⟩) hsz2 (.slice a1 (mvN 0 xs rs).length q1)) (by omega)
    go_wp2
    refine bodyPost_ret (results_row_tmp rfl _ _ (w.heap.size + 1) 26 _ (0, 0) _ rfl p1 Tryd.underlying26 rfl Tryd.sizeP) rfl ⟨_, _, rfl, ?_, ?_, p3⟩
    · rw [HL.out]; exact p2
    · rw [HR.out, hlr]; exact p4
  | false =>
    have HL : Hid (keepL xs rs = []) := by unfold Hid keepL; rw [Bool.and_comm, hal]; rfl
    have HR : Hid (keepR xs rs = []) := by unfold Hid keepR; rw [Bool.and_comm, hal]; rfl
    obtain ⟨p1, p2, p4, p3⟩ := none_pair hy2 hB2 (by omega)
    go_wp2
    refine bodyPost_ret (results_row_tmp rfl _ _ (w.heap.size + 1) 26 _ (0, 0) _ rfl p1 Tryd.underlying26 rfl Tryd.sizeP) rfl ⟨_, _, rfl, ?_, ?_, p3⟩
    · rw [HL.out]; exact p2
    · rw [HR.out]; exact p4
end Go.Proofs.YtnhepegkjejfcaaDoor

/-
  Contract of the laws' sameInts: of two rows that read alike it tells yes.
-/
namespace Go.Proofs.YtnhepegkjejfcaaDoor
open Go.RowKit

set_option maxRecDepth 100000 in
set_option maxHeartbeats 800000 in
theorem sameints_any (v v' : Value) (zs : List Int) (w : World) (L : IRow w v zs) (L' : IRow w v' zs) :
    Calls Tryd.prog 9 #[v, v'] w fun e w' => e = .returned (.bool true) ∧ Below w.heap.size w w' := by
  obtain ⟨ao, cap, rfl, hcap, hm, hcell⟩ := L
  obtain ⟨ao', cap', rfl, hcap', _, hcell'⟩ := L'
  go_enter Tryd.func9, Tryd.ntmps9
  go_wp2_with fail
  go_loopw [5] (fun i wr => ∃ (k m : Nat), k ≤ zs.length ∧ i = .int .i64 k ∧ wr = w.drewN m) (fun i _ => zs.length - (intOf i).toNat)
  case atStart => exact ⟨0, 0, by omega, rfl, rfl⟩
  case round =>
    obtain ⟨k, m, hk, rfl, rfl⟩ := hrel
    by_cases hlt : k < zs.length
    · obtain ⟨g, o, rfl, hg, hcell⟩ := hcell (by intro e; subst e; simp at hlt)
      obtain ⟨g', o', rfl, hg', hcell'⟩ := hcell' (by intro e; subst e; simp at hlt)
      have c0 := hcell k hlt
      have c1 := hcell' k hlt
      generalize zs.getD k 0 = z at c0 c1
      clear hcell hcell'
      go_wp2_with fail
      go_quiet (fail)
      go_wp2_with fail
      go_roundw
      case rel => exact ⟨k + 1, _, by omega, by go_num, rfl⟩
      case measure => simp [intOf]; omega
    · clear hcell hcell'
      go_wp2_with fail
      go_ret
      exact ⟨rfl, ⟨rfl, rfl, rfl, Nat.le_refl _, fun _ _ => rfl⟩⟩
end Go.Proofs.YtnhepegkjejfcaaDoor

/-
  The writer's memory (one block with the pool and the bytes so far) and the contract of its method put. No condition.
-/
namespace Go.Proofs.YtnhepegkjejfcaaDoor
open Go.RowKit

/-- The cells of bytes. -/
def cb (l : List UInt8) : List Value := l.map fun b => Value.int .u8 b.toNat
theorem cb_length (l : List UInt8) : (cb l).length = l.length := by simp [cb]
theorem cb_append (a b : List UInt8) : cb (a ++ b) = cb a ++ cb b := by simp [cb]
theorem cb_str (s : ByteArray) : Lib.strCells s = cb s.data.toList := rfl

/-- All that is there stays, but for block p and rows of bytes from lo on. -/
structure Fr (p lo : Nat) (w w' : World) : Prop where
  os : w'.os = w.os
  tape : w'.tape = w.tape
  output : w'.output = w.output
  size : w.heap.size ≤ w'.heap.size
  block : ∀ k, k < w.heap.size → k ≠ p → (k < lo ∨ ∀ cur fr, w.heap[k]? ≠ some (.cells cur 5 fr)) → w'.heap[k]? = w.heap[k]?
theorem Fr.refl (p lo : Nat) (w : World) : Fr p lo w w := ⟨rfl, rfl, rfl, Nat.le_refl _, fun _ _ _ _ => rfl⟩
theorem Fr.trans {p lo : Nat} {a b c : World} (h : Fr p lo a b) (k : Fr p lo b c) : Fr p lo a c :=
  ⟨k.os.trans h.os, k.tape.trans h.tape, k.output.trans h.output, Nat.le_trans h.size k.size, fun i hi hp hc => by
    have e := h.block i hi hp hc
    rw [k.block i (Nat.lt_of_lt_of_le hi h.size) hp (by rw [e]; exact hc), e]⟩
theorem Fr.of_below {p lo : Nat} {w w' : World} (h : Below w.heap.size w w') : Fr p lo w w' := ⟨h.os, h.tape, h.output, h.size, fun k hk _ _ => h.block k hk⟩
theorem Fr.below {p lo : Nat} {w w' : World} (h : Fr p lo w w') (hp : lo ≤ w.heap.size) (hpl : p < lo) : Below p w w' := ⟨h.os, h.tape, h.output, h.size, fun k hk => h.block k (by omega) (by omega) (Or.inl (by omega))⟩
theorem Fr.of_grown {p lo : Nat} {w w' : World} {v : Value} {n : Nat} {xs : List Value} (ho : w.ownsRow lo 5 1 v n xs) (h : w.grownBy w' v.ownBlock) : Fr p lo w w' :=
  ⟨h.os, h.tape, h.output, h.size, fun k hk _ hc => h.block k hk (fun e => by
    rcases ho.2 with ⟨rfl, _⟩ | ⟨g, cap, cur, rfl, hb, hg, _⟩
    · cases e
    · simp only [Value.ownBlock, Option.some.injEq] at e
      subst e
      rcases hc with hc | hc
      · omega
      · exact hc _ _ hg)⟩
/-- A block that is no row of bytes stays. -/
theorem Fr.keep {p lo : Nat} {w w' : World} {k : Nat} {cs : Array Value} {t : TypeId} {fr : Nat × Nat} (h : Fr p lo w w') (hk : w.heap[k]? = some (.cells cs t fr)) (hp : k ≠ p) (ht : t ≠ 5) : w'.heap[k]? = some (.cells cs t fr) := by
  rw [h.block k (Array.getElem?_eq_some_iff.1 hk).1 hp (Or.inr fun cur fr' e => by rw [hk] at e; cases e; exact ht rfl), hk]

/-- The writer: block p holds the pool and the bytes so far, which it owns. -/
def Wr (w : World) (p lo : Nat) (pv v : Value) (l : List UInt8) : Prop :=
  w.heap[p]? = some (.cells #[pv, v] 52 (0, 0)) ∧ w.ownsRow lo 5 1 v l.length (cb l)
theorem Wr.below {w w' : World} {p lo : Nat} {pv v : Value} {l : List UInt8} (h : Wr w p lo pv v l) (hb : Below w.heap.size w w') : Wr w' p lo pv v l :=
  ⟨(hb.block _ (Array.getElem?_eq_some_iff.1 h.1).1).trans h.1, own_below h.2 hb⟩

/-- What put panics with. -/
def tooLong : List PanicEntry := [{ v := .iface 94 (.agg #[.int .i64 1, .int .i64 0]), recovered := false }]

/-- How put ends where so many bytes are there then. -/
def putEnd (n : Nat) : Ending := if n ≤ 400 then .returned (.tuple #[]) else .panicked tooLong
theorem putEnd_ok {n : Nat} (h : n ≤ 400) : putEnd n = .returned (.tuple #[]) := by rw [putEnd, if_pos h]
theorem putEnd_no {n : Nat} (h : ¬ n ≤ 400) : putEnd n = .panicked tooLong := by rw [putEnd, if_neg h]

set_option maxRecDepth 100000 in
set_option maxHeartbeats 1600000 in
theorem wput_any (p lo : Nat) (ao : Option Addr) (n cap : Nat) (v : Value) (l : List UInt8) (s : ByteArray) (w : World) (W : Wr w p lo (.slice ao n cap) v l) (hp : p < lo) (hlo : lo ≤ w.heap.size) (hl : l.length ≤ 400) (hs : s.size ≤ 1048576) :
    Calls Tryd.prog 44 #[.pointer (some ⟨p, 0, none⟩), .string s] w fun e w' => Fr p lo w w' ∧ e = putEnd (l.length + s.size) ∧ ∃ v', Wr w' p lo (.slice ao n cap) v' (l ++ s.data.toList) := by
  obtain ⟨hblk, hown⟩ := W
  obtain ⟨i0, hi, hz0, hz1, hz2⟩ := info_parts Tryd.infoU8
  obtain ⟨a2, c2, rfl⟩ := own_form hown
  have hps := (Array.getElem?_eq_some_iff.1 hblk).1
  have c1 : w.cell? ⟨p, 0 + 1, none⟩ = some (.slice a2 l.length c2) := by rw [cell_of_row w _ 1 _ _ _ hblk]; rfl
  go_enter Tryd.func44, Tryd.ntmps44
  go_wp2_with (at_builtin; refine Lib.wpList_append_own_string _ rfl _ _ 22 9 rfl lo 5 i0 Tryd.underlying22 Tryd.underlying9 hi hz0 hz1 hz2 _ _ _ rfl hown s rfl (by unfold maxLen; omega) (by omega) hlo ?_)
  intro v2 w2 own2 hgrow _
  obtain ⟨m, hm⟩ : ∃ m, m = l.length + s.size := ⟨_, rfl⟩
  rw [← hm] at own2
  have hme : (l ++ s.data.toList).length = m := by rw [hm, List.length_append, Array.length_toList]; rfl
  have hne : some p ≠ (Value.slice a2 l.length c2).ownBlock := fun e => by
    have := (hown.lt p e.symm).1
    omega
  have hblk2 : w2.heap[p]? = some (.cells #[.slice ao n cap, .slice a2 l.length c2] 52 (0, 0)) := (hgrow.block p hps hne).trans hblk
  have hF : Fr p lo w w2 := Fr.of_grown hown hgrow
  obtain ⟨a3, c3, rfl⟩ := own_form own2
  have d1 : w2.cell? ⟨p, 0 + 1, none⟩ = some (.slice a2 l.length c2) := by rw [cell_of_row w2 _ 1 _ _ _ hblk2]; rfl
  have f1 : w2.frozen? ⟨p, 0 + 1, none⟩ = false := frozen_of_row w2 _ 1 _ _ hblk2
  have hblk3 := heap_setCell_same w2 p 1 _ _ (.slice a3 m c3) hblk2
  have own3 : (w2.setCell ⟨p, 1, none⟩ (.slice a3 m c3)).ownsRow lo 5 1 (.slice a3 m c3) (l ++ s.data.toList).length (cb (l ++ s.data.toList)) := by
    have := ownsRow_setCell_below own2 (a := ⟨p, 1, none⟩) (by simpa using hp) (.slice a3 m c3)
    rw [cb_append, hme]
    exact this
  have hF3 : Fr p lo w (w2.setCell ⟨p, 1, none⟩ (.slice a3 m c3)) :=
    hF.trans ⟨rfl, rfl, rfl, by simp, fun k _ hk _ => heap_setCell_other w2 ⟨p, 1, none⟩ k _ (by simpa using hk)⟩
  have HE : Hid (putEnd (l.length + s.size) = putEnd m) := by unfold Hid; rw [hm]
  clear hgrow hF c1 hown own2 hm hme
  by_cases hb : m ≤ 400
  · go_wp2
    go_end0
    exact ⟨hF3, by rw [HE.out, putEnd_ok hb], _, hblk3, own3⟩
  · go_wp2
    exact ⟨rfl, hF3, by rw [HE.out, putEnd_no hb]; rfl, _, hblk3, own3⟩
end Go.Proofs.YtnhepegkjejfcaaDoor
