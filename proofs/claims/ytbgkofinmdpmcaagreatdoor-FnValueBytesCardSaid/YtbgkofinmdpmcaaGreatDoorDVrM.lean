/-
  Texts that stood by themselves, laid into one.
-/
import Derived.Test.YtbgkofinmdpmcaaGreatDoorIKeepM
import Derived.Deep.RegionHeld
import Derived.Test.YtbgkofinmdpmcaaGreatDoorNdM
import Derived.Laws.BytesArg
import Derived.Lib.AppendStr
import Derived.Laws.IdiomStrings
import Derived.Test.YtbgkofinmdpmcaaGreatDoorIWire2M
import Derived.Test.YtbgkofinmdpmcaaGreatDoorVMoveM
import Derived.Test.YtbgkofinmdpmcaaGreatDoorMv2M
import Derived.Test.YtbgkofinmdpmcaaGreatDoorSNodeM
import Derived.Test.YtbgkofinmdpmcaaGreatDoorDSpoilM
import Derived.Test.YtbgkofinmdpmcaaGreatDoorRNumsM
/-
  Contracts of spec's l7Keep and Keep. Conditions of l7Keep: the pool is right, and all roots are nodes of it.
-/
namespace Go.Proofs.YtbgkofinmdpmcaaGreatDoor
open Go.RowKit

theorem drew_step {w w' : World} (h : Below w.drew.heap.size w.drew w') : Below w.heap.size w w' := (Below.refl w.heap.size w).drew.trans h

set_option maxRecDepth 100000 in
set_option maxHeartbeats 3200000 in
theorem slkeep_any (ao : Option Addr) (cap : Nat) (vl : Value) (xs : List Nd) (rs : List Int) (w : World) (R : NRow w (.slice ao xs.length cap) xs) (L : IRow w vl rs) (hp : poolB xs = true) (hr : allI xs rs = true) (hrs : rs.length ≤ 1048576) :
    Calls Tryz.prog 22 #[.agg #[.slice ao xs.length cap], vl] w fun e w' => ∃ v1 v2, e = .returned (.tuple #[.agg #[v1], v2]) ∧ w'.ownsRow w.heap.size 64 5 v1 (mvN 0 xs rs).length (ncs (mvN 0 xs rs)) ∧ w'.ownsRow w.heap.size 3 1 v2 rs.length (iv (mvR 0 xs rs rs)) ∧ Below w.heap.size w w' := by
  obtain ⟨i0, hi, hz0, hz1, hz2⟩ := info_parts Tryz.infoI9
  have hlen := poolB_len hp
  have hB2 : Below w.heap.size w ((w.alloc (Obj.cells #[.slice ao xs.length cap] 26)).alloc (Obj.cells #[.slice none 0 0] 26)) := below2 w _ _
  have hs2 : ((w.alloc (Obj.cells #[.slice ao xs.length cap] 26)).alloc (Obj.cells #[.slice none 0 0] 26)).heap.size = w.heap.size + 1 + 1 := by simp
  have hx2 := old2 w (Obj.cells #[.slice ao xs.length cap] 26) (Obj.cells #[.slice none 0 0] 26)
  have hy2 := heap_alloc2_new w (Obj.cells #[.slice ao xs.length cap] 26) (Obj.cells #[.slice none 0 0] 26)
  have hrl := reachL_length xs rs
  go_enter Tryz.func22, Tryz.ntmps22
  go_wp2_with fail
  have hb3 := heap_alloc_new ((w.alloc (Obj.cells #[.slice ao xs.length cap] 26)).alloc (Obj.cells #[.slice none 0 0] 26)) (Obj.cells #[.slice none 0 0] 26)
  have h23 : Below (w.heap.size + 1 + 1) ((w.alloc (Obj.cells #[.slice ao xs.length cap] 26)).alloc (Obj.cells #[.slice none 0 0] 26)) (((w.alloc (Obj.cells #[.slice ao xs.length cap] 26)).alloc (Obj.cells #[.slice none 0 0] 26)).alloc (Obj.cells #[.slice none 0 0] 26)) := (Below.refl _ _).alloc (by rw [hs2]; exact Nat.le_refl _) _
  have hs3 : (((w.alloc (Obj.cells #[.slice ao xs.length cap] 26)).alloc (Obj.cells #[.slice none 0 0] 26)).alloc (Obj.cells #[.slice none 0 0] 26)).heap.size = w.heap.size + 1 + 1 + 1 := by simp
  rw [hs2] at hb3
  generalize ((w.alloc (Obj.cells #[.slice ao xs.length cap] 26)).alloc (Obj.cells #[.slice none 0 0] 26)).alloc (Obj.cells #[.slice none 0 0] 26) = W3 at *
  generalize (w.alloc (Obj.cells #[.slice ao xs.length cap] 26)).alloc (Obj.cells #[.slice none 0 0] 26) = W2 at *
  have hB3 := hB2.trans (h23.mono (by omega))
  have R2 := R.below hB2
  have k3 : W3.cell? ⟨w.heap.size, 0, none⟩ = some (.slice ao xs.length cap) := by rw [cell_of_row W3 _ 0 _ _ _ ((h23.block _ (by omega)).trans hx2)]; rfl
  have hl3 : w.heap.size < W3.heap.size := by omega
  go_region_held (fun w' => w'.cell? ⟨w.heap.size, 0, none⟩ = some (.slice ao xs.length cap)) (first | exact k5 | exact k4 | go_keep) (first
    | (go_at_call 46; refine (slreach_any ao cap vl xs rs _ ?_ ?_ hp hr).mono ?_; exact R.below hB3.drew; exact L.below hB3.drew; rintro e wk ⟨vk, rfl, hok, hbk⟩; obtain ⟨aok, capk, rfl⟩ := own_form hok
       have hb34 : Below W3.heap.size W3 wk := drew_step hbk
       have k4 := (hb34.cell (p := ⟨w.heap.size, 0, none⟩) hl3).trans k3)
    | (go_at_call 45; refine (sinto_any (w.heap.size + 1 + 1) (w.heap.size + 1 + 1) none 0 [] xs (reachL xs rs) ao cap _ W2 _ ((hb34.block _ (by omega)).trans hb3) (World.ownsRow_nil _ _ _ _) (Nat.le_refl _) R2 (by omega) (h23.trans (hb34.mono (by omega))) (own_mono hok (by show w.heap.size + 1 + 1 ≤ W3.heap.size; omega)) hrl hp (by simp)).mono ?_; rintro e w5 ⟨v5, vp, rfl, hb5, ho5, hi5, hB5⟩; obtain ⟨a5, q5, rfl⟩ := own_form hi5
       have k5 : w5.cell? ⟨w.heap.size, 0, none⟩ = some (.slice ao xs.length cap) := by rw [cell_of_row w5 _ 0 _ _ _ ((hB5.block _ (by omega)).trans hx2)]; rfl))
  have HN : Hid (mvN 0 xs rs = (mvAll 0 xs (reachL xs rs)).1) := rfl
  have HR : Hid (mvR 0 xs rs rs = rs.map (fun r => (mvAll 0 xs (reachL xs rs)).2.getD r.toNat 0)) := rfl
  have hl2 : (mvAll 0 xs (reachL xs rs)).2.length = xs.length := (mvF_len _ _ _).2
  rw [List.nil_append] at ho5
  rw [show ([] : List Nd).length = 0 from rfl] at ho5 hi5
  generalize mvAll 0 xs (reachL xs rs) = M at *
  obtain ⟨S1, S2⟩ := M
  simp only at hl2 ho5 hi5 HN HR
  obtain ⟨ap, qp, rfl⟩ := own_form ho5
  have hBw := hB2.trans (hB5.mono (by omega))
  have hy5 := (hB5.block (w.heap.size + 1) (by omega)).trans hy2
  have hlw5 := (Array.getElem?_eq_some_iff.1 hb5).1
  obtain ⟨al, cl, rfl, hcl, _, hlc⟩ := L
  have hB6 : Below w5.heap.size w5 (w5.alloc (Obj.cells #[] 3)) := (Below.refl _ _).alloc (Nat.le_refl _) _
  have hi6 := own_none0 w5 3 1 w5.heap.size (Nat.le_refl _)
  clear k5 k4 hok hbk hb34 k3 hb3 h23 hx2 hy2 hB3 hB5 R2 R hB2 hrl
  go_wp2_with fail
  go_loopw [8, 9] (fun s i wr => ∃ (j : Nat), j ≤ rs.length ∧ i = .int .i64 j ∧ wr.ownsRow w5.heap.size 3 1 s j (iv ((rs.take j).map (fun r => S2.getD r.toNat 0))) ∧ Below w5.heap.size w5 wr) (fun _ i _ => rs.length - (intOf i).toNat)
  case atStart => exact ⟨0, by omega, rfl, hi6, hB6⟩
  case round =>
    clear hi6 hB6
    obtain ⟨j, hj, rfl, hownj, hBj⟩ := hrel
    by_cases hlt : j < rs.length
    · obtain ⟨g, o, rfl, hg, hlc⟩ := hlc (by intro e; subst e; simp at hlt)
      have ez := (hBj.cell (p := ⟨g, o + j, none⟩) (Nat.lt_of_lt_of_le hg hBw.size)).trans ((hBw.cell (p := ⟨g, o + j, none⟩) hg).trans (hlc j hlt))
      obtain ⟨z0, z1⟩ := allI_at hr j hlt
      have HT : Hid (iv ((rs.take (j + 1)).map (fun r => S2.getD r.toNat 0)) = iv ((rs.take j).map (fun r => S2.getD r.toNat 0)) ++ [.int .i64 (S2.getD (rs.getD j 0).toNat 0)]) := by
        unfold Hid
        rw [List.take_succ_eq_append_getElem hlt, List.map_append, iv_append, List.getD_eq_getElem?_getD (l := rs), List.getElem?_eq_getElem hlt]
        rfl
      generalize rs.getD j 0 = z at ez z0 z1 HT
      obtain ⟨nz, rfl⟩ := Int.eq_ofNat_of_zero_le z0
      rw [Int.toNat_natCast] at HT
      rcases hi5.2 with ⟨hnil, hn0⟩ | ⟨g5, cap5, cur5, e5, _, _, _⟩
      · omega
      simp only [Value.slice.injEq, true_and] at e5
      obtain ⟨rfl, rfl⟩ := e5
      have e9 := (hBj.cell (p := ⟨g5, nz, none⟩) (hi5.lt _ rfl).2).trans ((hi5.cellAt nz (by omega)).trans (iv_get _ _ (by omega)))
      generalize S2.getD nz 0 = y at e9 HT
      obtain ⟨asj, qsj, rfl⟩ := own_form hownj
      clear hlc hr
      have hsj := hBj.size
      go_wp2_with (at_builtin; refine wpList_append_own _ rfl _ _ 42 rfl w5.heap.size 3 i0 (.int .i64 0) 1 8 Tryz.underlying42 hi hz0 hz1 hz2 rfl (by decide) _ _ _ rfl (hownj.alloc _) ⟨wr.heap.size, 0, none⟩ 1 1 [.int .i64 y] rfl rfl (cell_one_new _ _ _) (by simp [Value.oneCell']) (by unfold maxLen; omega) (by omega) (by simp; omega) ?_)
      intro v7 w8 hown8 hg8' _
      have hB8 : Below w5.heap.size w5 w8 := (hBj.alloc hsj _).grown hg8' (by simp; omega) (fun k hk => (hownj.lt k hk).1)
      have hown8' : w8.ownsRow w5.heap.size 3 1 v7 (j + 1) (iv ((rs.take (j + 1)).map (fun r => S2.getD r.toNat 0))) := by rw [HT.out]; simpa only [List.map_take, List.getD_eq_getElem?_getD] using hown8
      clear hg8' hown8
      go_wp2_with fail
      go_roundw
      case rel => exact ⟨j + 1, by omega, by go_num, hown8', hB8⟩
      case measure => simp [intOf]; omega
    · have hje : j = rs.length := by omega
      subst hje
      have hbj := (hBj.block _ hlw5).trans hb5
      have hyj := (hBj.block _ (by omega)).trans hy5
      have c6 : wr.cell? ⟨w.heap.size + 1 + 1, 0, none⟩ = some (.slice ap S1.length qp) := by rw [cell_of_row wr _ 0 _ _ _ hbj]; rfl
      have c4 : wr.cell? ⟨w.heap.size + 1, 0, none⟩ = some (.slice none 0 0) := by rw [cell_of_row wr _ 0 _ _ _ hyj]; rfl
      have f4 : wr.frozen? ⟨w.heap.size + 1, 0, none⟩ = false := frozen_of_row wr _ 0 _ _ hyj
      have ho6 := own_below ho5 hBj
      rw [List.take_length, ← HR.out] at hownj
      obtain ⟨asj, qsj, rfl⟩ := own_form hownj
      have hBr := hBw.trans (hBj.mono hBw.size)
      obtain ⟨p1, p2, p3⟩ := put_pool hyj ho6 hBr (by omega) (by omega)
      have p4 := own_mono (B' := w.heap.size) (ownsRow_setCell_below hownj (a := ⟨w.heap.size + 1, 0, none⟩) (by show w.heap.size + 1 < w5.heap.size; omega) (.slice ap S1.length qp)) (by omega)
      go_wp2_with fail
      refine bodyPost_ret (results_row_tmp rfl _ _ (w.heap.size + 1) 26 _ (0, 0) _ rfl p1 Tryz.underlying26 rfl Tryz.sizeP) rfl ⟨_, .slice asj rs.length qsj, rfl, ?_, p4, p3⟩
      rw [HN.out]
      exact p2

end Go.Proofs.YtbgkofinmdpmcaaGreatDoor

/-
  The law of a slice of bytes turned into a text, and the laws' own markText: the same text at the same number, in whatever world. Nothing else of the program; no condition.
-/
namespace Go.Proofs.YtbgkofinmdpmcaaGreatDoor
open Go.RowKit

/-- A slice of bytes turned into a text. -/
theorem wpList_bytes_text {P : Program} (w : World) {ops : Array Oper} {rest : List Oper} {o : Oper} {a : Act} {Q : Exit → Act → World → Prop} (hg : o.guard = none) (x : Operand) (src dst e : TypeId) (ho : o.op = .convert src dst x)
    (hs : P.underlying src = some (.slice e)) (hd : P.underlying dst = some .string) (he : P.underlying e = some (.int .u8)) (ao : Option Addr) (n c : Nat) (xs : List Int) (hx : a.eval x = .slice ao n c) (hl : xs.length = n)
    (hc : n ≠ 0 → ∃ g o', ao = some ⟨g, o', none⟩ ∧ ∀ i, i < n → w.cell? ⟨g, o' + i, none⟩ = some (.int .u8 (xs.getD i 0)))
    (h : wpList P ops Q rest (a.put o.dst (.string (strOfNums xs))) w) : wpList P ops Q (o :: rest) a w := by
  refine wpList_plain hg fun K hK => ?_
  have hrun : (convert src dst (.slice ao n c)).run P w = .ok (.string (strOfNums xs)) w := by
    by_cases h0 : n = 0
    · subst h0
      have : xs = [] := List.eq_nil_of_length_eq_zero hl
      subst this
      cases ao with
      | none => exact run_convert_bytes_nil w src e hs he 0 c dst hd
      | some ad => exact run_convert_bytes_back w src dst e ad c [] hs he hd (fun j hj => absurd hj (by simp))
    · obtain ⟨g, o', rfl, hcell⟩ := hc h0
      exact run_convert_bytes_arg w src e hs he g o' n c xs hl hcell dst hd
  unfold Oper.wp
  simp [execOp, ho, hx, hrun, Result.andThen]
  exact hK _ _ h

/-- The digits of k ahead of out. -/
def mtGo : Nat → Nat → ByteArray → ByteArray
  | 0, _, out => out
  | f + 1, k, out => if k = 0 then out else mtGo f (k / 10) (strOfNums [48 + (k : Int) % 10] ++ out)
/-- What markText tells of a number. -/
def mt (k : Int) : ByteArray := if k ≤ 0 then ⟨#[109, 48]⟩ else ⟨#[109]⟩ ++ mtGo k.toNat k.toNat ⟨#[]⟩
theorem mtGo_step (f k : Nat) (out : ByteArray) (h : 0 < k) (hf : k ≤ f) : mtGo f k out = mtGo (f - 1) (k / 10) (strOfNums [48 + (k : Int) % 10] ++ out) := by
  cases f with
  | zero => omega
  | succ f => simp only [mtGo, if_neg (by omega : ¬ k = 0)]; rfl
theorem mtGo_end (f : Nat) (out : ByteArray) : mtGo f 0 out = out := by
  cases f <;> simp [mtGo]

theorem digit_size (x : Int) : (strOfNums [x]).size = 1 := rfl

end Go.Proofs.YtbgkofinmdpmcaaGreatDoor

/-
  What ValuePack answers, and the contracts of both ValuePack. No condition.
-/
namespace Go.Proofs.YtbgkofinmdpmcaaGreatDoor
open Go.RowKit

def vpB (xs : List Nd) (v : Int) : Bool := poolB xs && hasI xs v
def vpR (xs : List Nd) (v : Int) : ByteArray := if vpB xs v then strOfNums (wireL (mvN 0 xs [v])) else ByteArray.empty

set_option maxRecDepth 100000 in
set_option maxHeartbeats 3200000 in
theorem ivpack_any (v : Value) (xs : List Nd) (a : Int) (w : World) (R : NRow w v xs) :
    Calls Tryz.prog 6 #[.agg #[v], .int .i64 a] w fun e w' => e = .returned (.tuple #[.string (vpR xs a), .bool (vpB xs a)]) ∧ Below w.heap.size w w' := by
  have R' := R
  obtain ⟨ao, cap, rfl, _⟩ := R'
  have hB0 : Below w.heap.size w (w.alloc (Obj.cells #[.slice ao xs.length cap] 26)) := (Below.refl _ _).alloc (Nat.le_refl _) _
  go_enter Tryz.func6, Tryz.ntmps6
  go_wp2_with fail
  refine (ipool_any _ xs _ (R.below hB0)).mono ?_
  rintro e w1 ⟨rfl, hb1⟩
  have hx1 : w1.heap[w.heap.size]? = some (.cells #[.slice ao xs.length cap] 26 (0, 0)) := (hb1.block _ (by simp)).trans (heap_alloc_new _ _)
  have hB1 := hB0.trans (hb1.mono hB0.size)
  have c1 : w1.cell? ⟨w.heap.size, 0, none⟩ = some (.slice ao xs.length cap) := cell_of_row w1 _ 0 _ _ _ hx1
  clear hB0 hb1
  cases hp : poolB xs with
  | false =>
    have HB : Hid (vpB xs a = false) := by unfold Hid vpB; rw [hp]; rfl
    have HR : Hid (vpR xs a = ByteArray.empty) := by unfold Hid vpR; rw [HB.out]; rfl
    go_wp2
    go_ret2
    exact ⟨by rw [HB.out, HR.out]; rfl, hB1⟩
  | true =>
    have hlen := pool_small hp
    go_wp2_with fail
    refine (has_any _ xs a _ (R.below hB1)).mono ?_
    rintro e w2 ⟨rfl, hb2⟩
    have hx2 := (hb2.block _ (Array.getElem?_eq_some_iff.1 hx1).1).trans hx1
    have hB2 := hB1.trans (hb2.mono hB1.size)
    have c2 : w2.cell? ⟨w.heap.size, 0, none⟩ = some (.slice ao xs.length cap) := cell_of_row w2 _ 0 _ _ _ hx2
    clear hB1 hb2 hx1 c1
    cases hh : hasI xs a with
    | false =>
      have HB : Hid (vpB xs a = false) := by unfold Hid vpB; rw [hh, Bool.and_false]
      have HR : Hid (vpR xs a = ByteArray.empty) := by unfold Hid vpR; rw [HB.out]; rfl
      go_wp2
      go_ret2
      exact ⟨by rw [HB.out, HR.out]; rfl, hB2⟩
    | true =>
      have HB : Hid (vpB xs a = true) := by unfold Hid vpB; rw [hh, hp]; rfl
      have HR : Hid (vpR xs a = strOfNums (wireL (mvN 0 xs [a]))) := by unfold Hid vpR; rw [HB.out]; rfl
      have hall : allI xs [a] = true := by simp [allI, hh]
      have hml := mvN_len 0 xs [a]
      have hok := mv_right 0 xs [a] hp (by omega)
      have hB3 : Below w2.heap.size w2 (w2.alloc (Obj.cells #[.int .i64 a] 3)) := (Below.refl _ _).alloc (Nat.le_refl _) _
      go_wp2_with fail
      refine (moved_any ao cap _ xs [a] 0 _ (R.below (hB2.trans (hB3.mono hB2.size))) (irow_one (heap_alloc_new w2 _)) hp hall (by omega) (by simp)).mono ?_
      rintro e w3 ⟨v1, v2, rfl, ho1, _, hb3⟩
      have hB4 := (hB2.trans (hB3.mono hB2.size)).trans (hb3.mono (hB2.trans (hB3.mono hB2.size)).size)
      clear hB2 hB3 hb3 hx2 c2
      generalize mvN 0 xs [a] = ys at *
      have R1 := NRow.of_own ho1 (by omega) (ndok_max hok)
      obtain ⟨a1, k1, rfl⟩ := own_form ho1
      go_wp2_with fail
      refine (putnodes_any w3 w3 _ _ [] ys ⟨rfl, Or.inl ⟨rfl, rfl⟩⟩ (Below.refl _ _) R1 hok (by omega) (by simp)).mono ?_
      rintro e w4 ⟨v4, rfl, ho4, hb4⟩
      rw [List.nil_append] at ho4
      obtain ⟨a4, k4, rfl⟩ := own_form ho4
      have hB5 := hB4.trans (hb4.mono hB4.size)
      have hT := own_text ho4
      go_wp2_with (refine wpList_bytes_text _ rfl _ 22 9 5 rfl Tryz.underlying22 Tryz.underlying9 Tryz.underlying5 a4 (wireL ys).length k4 (wireL ys) rfl rfl hT ?_)
      go_ret2
      exact ⟨by rw [HB.out, HR.out]; rfl, hB5⟩

set_option maxRecDepth 100000 in
set_option maxHeartbeats 3200000 in
theorem svpack_any (v : Value) (xs : List Nd) (a : Int) (w : World) (R : NRow w v xs) :
    Calls Tryz.prog 7 #[.agg #[v], .int .i64 a] w fun e w' => e = .returned (.tuple #[.string (vpR xs a), .bool (vpB xs a)]) ∧ Below w.heap.size w w' := by
  have R' := R
  obtain ⟨ao, cap, rfl, _⟩ := R'
  have hB0 : Below w.heap.size w (w.alloc (Obj.cells #[.slice ao xs.length cap] 26)) := (Below.refl _ _).alloc (Nat.le_refl _) _
  go_enter Tryz.func7, Tryz.ntmps7
  go_wp2_with fail
  refine (spool_any _ xs _ (R.below hB0)).mono ?_
  rintro e w1 ⟨rfl, hb1⟩
  have hx1 : w1.heap[w.heap.size]? = some (.cells #[.slice ao xs.length cap] 26 (0, 0)) := (hb1.block _ (by simp)).trans (heap_alloc_new _ _)
  have hB1 := hB0.trans (hb1.mono hB0.size)
  have c1 : w1.cell? ⟨w.heap.size, 0, none⟩ = some (.slice ao xs.length cap) := cell_of_row w1 _ 0 _ _ _ hx1
  clear hB0 hb1
  cases hp : poolB xs with
  | false =>
    have HB : Hid (vpB xs a = false) := by unfold Hid vpB; rw [hp]; rfl
    have HR : Hid (vpR xs a = ByteArray.empty) := by unfold Hid vpR; rw [HB.out]; rfl
    go_wp2
    go_ret2
    exact ⟨by rw [HB.out, HR.out]; rfl, hB1⟩
  | true =>
    have hlen := pool_small hp
    go_wp2_with fail
    refine (shas_any _ xs a _ (R.below hB1)).mono ?_
    rintro e w2 ⟨rfl, hb2⟩
    have hx2 := (hb2.block _ (Array.getElem?_eq_some_iff.1 hx1).1).trans hx1
    have hB2 := hB1.trans (hb2.mono hB1.size)
    have c2 : w2.cell? ⟨w.heap.size, 0, none⟩ = some (.slice ao xs.length cap) := cell_of_row w2 _ 0 _ _ _ hx2
    clear hB1 hb2 hx1 c1
    cases hh : hasI xs a with
    | false =>
      have HB : Hid (vpB xs a = false) := by unfold Hid vpB; rw [hh, Bool.and_false]
      have HR : Hid (vpR xs a = ByteArray.empty) := by unfold Hid vpR; rw [HB.out]; rfl
      go_wp2
      go_ret2
      exact ⟨by rw [HB.out, HR.out]; rfl, hB2⟩
    | true =>
      have HB : Hid (vpB xs a = true) := by unfold Hid vpB; rw [hh, hp]; rfl
      have HR : Hid (vpR xs a = strOfNums (wireL (mvN 0 xs [a]))) := by unfold Hid vpR; rw [HB.out]; rfl
      have hall : allI xs [a] = true := by simp [allI, hh]
      have hml := mvN_len 0 xs [a]
      have hok := mv_right 0 xs [a] hp (by omega)
      have hB3 : Below w2.heap.size w2 (w2.alloc (Obj.cells #[.int .i64 a] 3)) := (Below.refl _ _).alloc (Nat.le_refl _) _
      go_wp2_with fail
      refine (slkeep_any ao cap _ xs [a] _ (R.below (hB2.trans (hB3.mono hB2.size))) (irow_one (heap_alloc_new w2 _)) hp hall (by simp)).mono ?_
      rintro e w3 ⟨v1, v2, rfl, ho1, _, hb3⟩
      have hB4 := (hB2.trans (hB3.mono hB2.size)).trans (hb3.mono (hB2.trans (hB3.mono hB2.size)).size)
      clear hB2 hB3 hb3 hx2 c2
      generalize mvN 0 xs [a] = ys at *
      obtain ⟨a1, k1, rfl⟩ := own_form ho1
      have hB6 : Below w3.heap.size w3 (w3.alloc (Obj.cells #[.slice a1 ys.length k1] 26)) := (Below.refl _ _).alloc (Nat.le_refl _) _
      have R1 := NRow.of_own ho1 (by omega) (ndok_max hok)
      go_wp2_with fail
      refine (snodes8_any _ ys _ (R1.below hB6) hok (by omega)).mono ?_
      rintro e w4 ⟨v4, rfl, ho4, hb4⟩
      obtain ⟨a4, k4, rfl⟩ := own_form ho4
      have hB5 := (hB4.trans (hB6.mono hB4.size)).trans (hb4.mono (hB4.trans (hB6.mono hB4.size)).size)
      have hT := own_text ho4
      go_wp2_with (refine wpList_bytes_text _ rfl _ 22 9 5 rfl Tryz.underlying22 Tryz.underlying9 Tryz.underlying5 a4 (wireL ys).length k4 (wireL ys) rfl rfl hT ?_)
      go_ret2
      exact ⟨by rw [HB.out, HR.out]; rfl, hB5⟩
end Go.Proofs.YtbgkofinmdpmcaaGreatDoor

/-
  The contract of the draws' DrawValueRead: some text. No condition beyond how many bytes there are.
-/
namespace Go.Proofs.YtbgkofinmdpmcaaGreatDoor
open Go.RowKit

theorem vpR_size (xs : List Nd) (v : Int) (hx : xs.length ≤ 3000) : (vpR xs v).size ≤ 200000 := by
  unfold vpR
  split
  · rename_i h
    unfold vpB at h
    rw [Bool.and_eq_true] at h
    rw [strN_size]
    have hm := mvN_len 0 xs [v]
    have hr := mv_right 0 xs [v] h.1 (by omega)
    have := wires_len (mvN 0 xs [v]) hr
    have h2 := encI_length ((mvN 0 xs [v]).length : Int)
    unfold wireL
    rw [List.length_append]
    omega
  · show (0 : Nat) ≤ _
    omega

set_option maxRecDepth 100000 in
set_option maxHeartbeats 3200000 in
theorem dvread8_any (v : Value) (zs : List Int) (w : World) (R : Row w v zs) (hl : zs.length ≤ 1048576) :
    Calls Tryz.prog 11 #[v] w fun e w' => ∃ t : ByteArray, e = .returned (.string t) ∧ t.size ≤ 200001 ∧ Below w.heap.size w w' := by
  go_enter Tryz.func11, Tryz.ntmps11
  go_wp2_with fail
  refine (new_any v zs w R hl).mono ?_
  rintro e w1 ⟨rfl, c1, b1⟩
  have hP1 := c1.lt
  obtain ⟨P, hP⟩ : ∃ P, Hid (w.heap.size = P) := ⟨_, rfl⟩
  have hwP : w.heap.size ≤ P := by rw [hP.out]; omega
  rw [hP.out] at c1 hP1
  have HG : ∀ w', w1.grownBy w' (some P) → Below w.heap.size w w' := fun w' h => b1.grown h b1.size (fun k hk => by cases hk; exact hwP)
  rw [show (Value.pointer (some ⟨w.heap.size, 0, none⟩)) = .pointer (some ⟨P, 0, none⟩) by rw [hP.out]]
  clear hP b1
  go_wp2_with fail
  refine (dright_any w v zs w1 P c1).mono ?_
  rintro e w2 ⟨v2, xs, rfl, hxl, hz, ho2, c2, g2⟩
  obtain ⟨a2, q2, rfl⟩ := own_form ho2
  have hs2 := g2.size
  have B3 : Below w2.heap.size w2 (w2.alloc (.cells #[.slice a2 xs.length q2] 26)) := (Below.refl _ _).alloc (Nat.le_refl _) _
  have q3 : (w2.alloc (.cells #[.slice a2 xs.length q2] 26)).heap[w2.heap.size]? = some (.cells #[.slice a2 xs.length q2] 26 (0, 0)) := heap_alloc_new _ _
  have c3 := c2.kept (B3.mono (by omega))
  have o3 := own_below ho2 B3
  have G3 : w1.grownBy (w2.alloc (.cells #[.slice a2 xs.length q2] 26)) (some P) := grown_trans g2 (grown_below B3 _)
  clear c2 g2 ho2 c1
  go_wp2_with fail
  have hb3 : P < w2.heap.size := by omega
  generalize w2.alloc (.cells #[.slice a2 xs.length q2] 26) = w3 at *
  generalize w2.heap.size = b at *
  have k3 : w3.cell? ⟨b, 0, none⟩ = some (.slice a2 xs.length q2) := cell_of_row w3 _ 0 _ _ _ q3
  have HD : Calls Tryz.prog 15 #[.pointer (some ⟨P, 0, none⟩), .agg #[.slice a2 xs.length q2]] w3.drew fun e w' => ∃ x : Int, e = .returned (.int .i64 x) ∧ Cur w v zs w' P ∧ w3.grownBy w' (some P) := by
    refine (ddrawat_any w v zs w3.drew P a2 xs.length q2 (c3.kept ⟨rfl, rfl, rfl, Nat.le_refl _, fun _ _ => rfl⟩) (by omega)).mono ?_
    rintro e w' ⟨x, rfl, _, _, c', g'⟩
    exact ⟨x, rfl, c', ⟨g'.os, g'.tape, g'.output, g'.size, fun k hk hn => g'.block k hk hn⟩⟩
  have HV : ∀ (W : World) (x : Int), w3.grownBy W (some P) → Calls Tryz.prog 7 #[.agg #[.slice a2 xs.length q2], .int .i64 x] W fun e w' => ∃ tx tb, e = .returned (.tuple #[.string tx, .bool tb]) ∧ tx.size ≤ 200000 ∧ Below W.heap.size W w' := fun W x hW => by
    have o4 := o3.kept hW (own_not o3 (by omega))
    have R4 : NRow W (.slice a2 xs.length q2) xs := NRow.of_own o4 (by omega) (fun y hy => by have := hz y hy; unfold maxLen; omega)
    refine (svpack_any _ xs x W R4).mono ?_
    rintro e w' ⟨rfl, hb'⟩
    exact ⟨_, _, rfl, vpR_size xs x (by omega), hb'⟩
  have KK : ∀ W : World, w3.grownBy W (some P) → W.cell? ⟨b, 0, none⟩ = some (.slice a2 xs.length q2) := fun W hW => cell_of_row W _ 0 _ _ _ ((hW.block b (Array.getElem?_eq_some_iff.1 q3).1 (by simp; omega)).trans q3)
  go_region_held (fun w' => w'.cell? ⟨b, 0, none⟩ = some (.slice a2 xs.length q2)) (first | exact k4 | exact k5 | go_keep) (first
    | (go_at_call 15; refine HD.mono ?_; rintro e w4 ⟨x, rfl, c4, g4⟩; have k4 := KK w4 g4)
    | (go_at_call 7; refine (HV w4 x g4).mono ?_; rintro e w5 ⟨tx, tb, rfl, ht, hb5⟩; have g5 : w3.grownBy w5 (some P) := grown_trans g4 (grown_below hb5 _); have k5 := KK w5 g5))
  all_goals
    have hP4 := c4.lt
    have c5 := c4.kept (hb5.mono (by omega))
    have G5 := grown_trans G3 g5
    clear k4 k5 KK HV HD k3 c4 g4 hb5
    go_wp2_with fail
    refine (spoil_any w v zs _ P tx c5 (by omega)).mono ?_
    rintro e w6 ⟨t, rfl, ht6, c6, g6⟩
    have BF := HG _ (grown_trans G5 g6)
    go_wp2
    go_ret
    exact ⟨t, rfl, by omega, BF⟩
end Go.Proofs.YtbgkofinmdpmcaaGreatDoor
