/-
  Texts that stood by themselves, laid into one.
-/
import Derived.Test.YtjnhocefnfmhmaaGreatDoorMPackM
import Derived.Test.YtjnhocefnfmhmaaGreatDoorBoolsM
import Derived.Test.YtjnhocefnfmhmaaGreatDoorSbM
import Derived.Test.YtjnhocefnfmhmaaGreatDoorIWireM
/-
  The contract of spec.MachinePack. No condition.
-/
namespace Go.Proofs.YtjnhocefnfmhmaaGreatDoor
open Go.RowKit

set_option maxRecDepth 100000 in
set_option maxHeartbeats 6400000 in
theorem smpack_any (v1 v2 v3 v : Value) (ns : List Nd) (is : List In) (ds : List Df) (xs : List Nd) (m : Mc) (w : World) (R1 : NRow w v1 ns) (R2 : InRow w v2 is) (R3 : DfRow w v3 ds) (R : NRow w v xs) :
    Calls Tryz.prog 24 #[.agg #[v1, v2, v3], .agg #[v, .int .i64 m.p, .int .i64 m.s, .int .i64 m.e, .int .i64 m.d, .int .i64 m.t, .int .i64 m.q, .int .i64 m.r]] w fun e w' => e = .returned (.tuple #[.string (mpR ns is ds xs m), .bool (machB ns is ds xs m)]) ∧ Below w.heap.size w w' := by
  have R' := R
  obtain ⟨ao, cap, rfl, _⟩ := R'
  obtain ⟨a1, c1, rfl⟩ := R1.small
  obtain ⟨a2, c2, rfl⟩ := R2.small
  obtain ⟨a3, c3, rfl⟩ := R3.small
  obtain ⟨hB0, hk0, hx0⟩ := two_boxes w (Obj.cells #[.slice a1 ns.length c1, .slice a2 is.length c2, .slice a3 ds.length c3] 44) (Obj.cells #[.slice ao xs.length cap, .int .i64 m.p, .int .i64 m.s, .int .i64 m.e, .int .i64 m.d, .int .i64 m.t, .int .i64 m.q, .int .i64 m.r] 47)
  go_enter Tryz.func24, Tryz.ntmps24
  go_wp2_with fail
  refine (smachok_any _ _ _ _ ns is ds xs m _ (R1.below hB0) (R2.below hB0) (R3.below hB0) (R.below hB0)).mono ?_
  rintro e w1 ⟨rfl, hb1⟩
  have hB1 := hB0.trans (hb1.mono hB0.size)
  have hx1 := (hb1.block _ (Array.getElem?_eq_some_iff.1 hx0).1).trans hx0
  clear hB0 hk0 hx0 hb1
  cases hm : machB ns is ds xs m with
  | false =>
    have HR : Hid (mpR ns is ds xs m = ByteArray.empty) := by unfold Hid mpR; rw [hm]; rfl
    go_wp2
    go_ret2
    exact ⟨by rw [HR.out, hm]; rfl, hB1⟩
  | true =>
    have HR : Hid (mpR ns is ds xs m = strOfNums (mpL xs m)) := by unfold Hid mpR; rw [hm]; rfl
    have HL : Hid (mpL xs m = (mpN (tdM xs m)).flatMap encI ++ wireL (tdL xs m)) := rfl
    obtain ⟨hz, hok, hlq⟩ := td_small hm
    have hlx := pool_small (machB_parts hm).1
    have IT := fun (v : Value) (w : World) (R : NRow w v xs) => stidy_any v xs m w R (by omega)
    generalize tdL xs m = Q at *
    generalize tdM xs m = M at *
    go_wp2_with (refine wpList_load_row rfl 47 _ rfl (w.heap.size + 1) rfl 47 #[.slice ao xs.length cap, .int .i64 m.p, .int .i64 m.s, .int .i64 m.e, .int .i64 m.d, .int .i64 m.t, .int .i64 m.q, .int .i64 m.r] (0, 0) _ hx1 Tryz.underlying47 rfl Tryz.sizeMach ?_)
    refine (IT _ _ (R.below hB1)).mono ?_
    rintro e w3 ⟨v3, rfl, ho3, hb3⟩
    obtain ⟨aq, cq, rfl⟩ := own_form ho3
    have hB3 := hB1.trans (hb3.mono hB1.size)
    clear hB1 hx1 hb3
    go_wp2_with (refine wpList_store_own rfl 47 _ _ rfl w3.heap.size #[.slice aq Q.length cq, .int .i64 M.p, .int .i64 M.s, .int .i64 M.e, .int .i64 M.d, .int .i64 M.t, .int .i64 M.q, .int .i64 M.r] rfl rfl 47 _ (heap_alloc_new _ _) Tryz.sizeMach rfl (by simp [Value.oneCell']) ?_)
    intro wB hvB hbB hsB
    have hdB : Below w3.heap.size w3 wB := ((Below.refl _ _).alloc (Nat.le_refl _) _).trans hbB
    have hBB := hB3.trans (hdB.mono hB3.size)
    have RQ : NRow wB (.slice aq Q.length cq) Q := (NRow.of_own ho3 (by omega) (ndok_max hok)).below hdB
    have hltB : w3.heap.size < wB.heap.size := (Array.getElem?_eq_some_iff.1 hvB).1
    clear ho3 hbB hsB hdB hB3
    have hdE : Below wB.heap.size wB (wB.alloc (Obj.cells #[] 5)) := (Below.refl _ _).alloc (Nat.le_refl _) _
    have hvE := (hdE.block _ hltB).trans hvB
    have ownE := own_none0 wB 5 1 wB.heap.size (Nat.le_refl _)
    generalize hWE : wB.alloc (Obj.cells #[] 5) = WE at hdE hvE ownE
    have e0 : WE.cell? ⟨w3.heap.size, 0, none⟩ = some (.slice aq Q.length cq) := cell_of_row WE _ 0 _ _ _ hvE
    have e1 : WE.cell? ⟨w3.heap.size, 1, none⟩ = some (.int .i64 M.p) := cell_of_row WE _ 1 _ _ _ hvE
    have e2 : WE.cell? ⟨w3.heap.size, 2, none⟩ = some (.int .i64 M.s) := cell_of_row WE _ 2 _ _ _ hvE
    have e3 : WE.cell? ⟨w3.heap.size, 3, none⟩ = some (.int .i64 M.e) := cell_of_row WE _ 3 _ _ _ hvE
    have e4 : WE.cell? ⟨w3.heap.size, 4, none⟩ = some (.int .i64 M.d) := cell_of_row WE _ 4 _ _ _ hvE
    have e5 : WE.cell? ⟨w3.heap.size, 5, none⟩ = some (.int .i64 M.t) := cell_of_row WE _ 5 _ _ _ hvE
    have e6 : WE.cell? ⟨w3.heap.size, 6, none⟩ = some (.int .i64 M.q) := cell_of_row WE _ 6 _ _ _ hvE
    have e7 : WE.cell? ⟨w3.heap.size, 7, none⟩ = some (.int .i64 M.r) := cell_of_row WE _ 7 _ _ _ hvE
    have hltE : w3.heap.size < WE.heap.size := (Array.getElem?_eq_some_iff.1 hvE).1
    have hdl : Below WE.heap.size WE (WE.alloc (Obj.cells (iv (mpN M)).toArray 3)) := (Below.refl _ _).alloc (Nat.le_refl _) _
    have hng : (WE.alloc (Obj.cells (iv (mpN M)).toArray 3)).heap[WE.heap.size]? = some (.cells (iv (mpN M)).toArray 3 (0, 0)) := heap_alloc_new _ _
    have hll := mpN_len M
    have hl7 : (mpN M).length = 7 := rfl
    have ownL := own_below ownE hdl
    have hBL := hdE.trans (hdl.mono hdE.size)
    go_wp2_with fail
    go_loopw [7, 9] (fun vo i wr => ∃ k : Nat, k ≤ 7 ∧ i = .int .i64 k ∧ OwnB wr wB.heap.size vo (((mpN M).take k).flatMap encI) ∧ Below wB.heap.size wB wr ∧ wr.heap[WE.heap.size]? = some (.cells (iv (mpN M)).toArray 3 (0, 0))) (fun _ i _ => 7 - (intOf i).toNat)
    case atStart => exact ⟨0, by omega, rfl, ownL, hBL, hng⟩
    case round =>
      obtain ⟨k, hk, rfl, ho, hbel, hgr⟩ := hrel
      clear e0 e1 e2 e3 e4 e5 e6 e7
      by_cases hlt : k < 7
      · have hgl : WE.heap.size < wr.heap.size := (Array.getElem?_eq_some_iff.1 hgr).1
        have c0 : wr.cell? ⟨WE.heap.size, k, none⟩ = some (.int .i64 ((mpN M).getD k 0)) := by
          rw [cell_of_row wr _ k _ _ _ hgr]
          simpa using iv_get (mpN M) k (by omega)
        have hzk : (mpN M).getD k 0 ≤ 9223372036854775807 := hz _ (by simp [List.getD_eq_getElem?_getD, List.getElem?_eq_getElem (show k < (mpN M).length by omega)])
        have HT : Hid (((mpN M).take (k + 1)).flatMap encI = ((mpN M).take k).flatMap encI ++ encI ((mpN M).getD k 0)) := nums_take (mpN M) k (by omega)
        have hlb : (((mpN M).take k).flatMap encI).length ≤ 63 := by
          have := nums_len ((mpN M).take k)
          rw [List.length_take] at this
          omega
        obtain ⟨z, hzz⟩ : ∃ z, Hid ((mpN M).getD k 0 = z) := ⟨_, rfl⟩
        rw [hzz.out] at c0 hzk HT
        have hle := encI_length z
        generalize ((mpN M).take k).flatMap encI = cs at *
        go_wp2_with fail
        refine (sput_any z _ hzk).mono ?_
        rintro e wc ⟨vc, rfl, oc, bc⟩
        obtain ⟨ac, cc, rfl⟩ := own_form oc
        clear c0
        have ho2 := own_below ho bc
        go_wp2_with (at_builtin; refine wpList_put2 rfl _ _ rfl rfl ho2 (by have := hbel.size; have := bc.size; omega) rfl oc (by omega) ?_)
        intro vd wd od bd sd
        have hB2 := (hbel.trans (bc.mono hbel.size)).trans bd
        have hg2 := sd _ _ _ (by decide) ((bc.block _ hgl).trans hgr)
        rw [← HT.out] at od
        clear oc bc ho2 ho bd sd hbel hgr
        go_wp2
        go_roundw
        case rel => exact ⟨k + 1, by omega, by go_num, od, hB2, hg2⟩
        case measure => simp [intOf]; omega
      · have hke : k = 7 := by omega
        subst hke
        have eT : (mpN M).take 7 = mpN M := rfl
        rw [eT] at ho
        have hvr := (hbel.block _ hltB).trans hvB
        have f0 : wr.cell? ⟨w3.heap.size, 0, none⟩ = some (.slice aq Q.length cq) := cell_of_row wr _ 0 _ _ _ hvr
        have hwl : (wireL Q).length ≤ 90009 := by
          have := wires_len Q hok
          have := encI_length Q.length
          unfold wireL
          rw [List.length_append]
          omega
        generalize (mpN M).flatMap encI = cs at *
        go_wp2_with fail
        refine (snodes8_any _ Q _ (RQ.below hbel) hok hlq).mono ?_
        rintro e wc ⟨vc, rfl, oc, bc⟩
        obtain ⟨ac, cc, rfl⟩ := own_form oc
        have ho2 := own_below ho bc
        clear f0
        go_wp2_with (at_builtin; refine wpList_put2 rfl _ _ rfl rfl ho2 (by have := hbel.size; have := bc.size; omega) rfl oc (by omega) ?_)
        intro vd wd od bd sd
        have hB6 := hBB.trans (((hbel.trans (bc.mono hbel.size)).trans bd).mono hBB.size)
        obtain ⟨bb, hbb⟩ : ∃ bb, Hid (cs ++ wireL Q = bb) := ⟨_, rfl⟩
        rw [hbb.out] at od
        obtain ⟨a6, k6, rfl⟩ := own_form od
        have hT := own_text od
        go_wp2_with (refine wpList_bytes_text _ rfl _ 66 9 5 rfl Tryz.underlying66 Tryz.underlying9 Tryz.underlying5 a6 bb.length k6 bb rfl rfl hT ?_)
        go_ret2
        exact ⟨by rw [HR.out, HL.out, hbb.out, hm]; rfl, hB6⟩
end Go.Proofs.YtjnhocefnfmhmaaGreatDoor

/-
  Plain mathematics of reading a number from bytes. Nothing of the program; no condition.
-/
namespace Go.Proofs.YtjnhocefnfmhmaaGreatDoor
open Go.RowKit

/-- The bytes of the form that stands ahead, f of them at most: up to the first below 128. -/
def scan : Nat → List Int → Option (List Int)
  | 0, _ => none
  | _ + 1, [] => none
  | f + 1, b :: bs => if b < 128 then some [b] else (scan f bs).map (b :: ·)
/-- The number of a form. -/
def val : List Int → Int
  | [] => 0
  | b :: bs => b % 128 + 128 * val bs
theorem val_bounds (bs : List Int) : 0 ≤ val bs ∧ val bs < lim bs.length := by
  induction bs with
  | nil => simp [val, lim]
  | cons b bs ih => simp only [val, List.length_cons, lim]; omega
theorem val_snoc (bs : List Int) (b : Int) : val (bs ++ [b]) = val bs + b % 128 * lim bs.length := by
  induction bs with
  | nil => simp [val, lim]
  | cons c bs ih =>
    simp only [List.cons_append, val, ih, List.length_cons, lim]
    rw [Int.mul_add, ← Int.mul_assoc, ← Int.mul_assoc, Int.mul_comm (b % 128) 128]
    omega
theorem lim_mono {a b : Nat} (h : a ≤ b) : lim a ≤ lim b := by
  induction h with
  | refl => exact Int.le_refl _
  | step h ih => rename_i m; have := lim_pos m; simp only [lim]; omega
theorem mul_lim (b : Int) (k : Nat) : 0 ≤ b % 128 * lim k ∧ b % 128 * lim k ≤ 127 * lim k := by
  have h1 : 0 ≤ b % 128 := by omega
  have h2 : b % 128 ≤ 127 := by omega
  have h3 := lim_pos k
  exact ⟨Int.mul_nonneg h1 (by omega), Int.mul_le_mul_of_nonneg_right h2 (by omega)⟩

def gN (zs : List Int) (a : Int) : Int × Int × Bool :=
  if a < 0 then (0, 0, false) else
  match scan 9 (zs.drop a.toNat) with
  | none => (0, 0, false)
  | some bs => if 1 < bs.length ∧ bs.getLast? = some 0 then (0, 0, false) else (val bs, a + bs.length, true)
theorem gN_neg (zs : List Int) (a : Int) (h : a < 0) : gN zs a = (0, 0, false) := by simp [gN, h]
theorem gN_none (zs : List Int) (a : Nat) (h : scan 9 (zs.drop a) = none) : gN zs (a : Int) = (0, 0, false) := by
  have : ¬ (a : Int) < 0 := by omega
  simp [gN, h]
theorem gN_zero (zs : List Int) (a : Nat) (acc : List Int) (h : scan 9 (zs.drop a) = some (acc ++ [0])) (hk : 0 < acc.length) : gN zs (a : Int) = (0, 0, false) := by
  have : ¬ (a : Int) < 0 := by omega
  simp [gN, h]
  intro h0; subst h0; simp at hk
theorem gN_some (zs : List Int) (a : Nat) (acc : List Int) (b : Int) (h : scan 9 (zs.drop a) = some (acc ++ [b])) (hk : ¬ (b = 0 ∧ 0 < acc.length)) :
    gN zs (a : Int) = (val acc + b % 128 * lim acc.length, (a : Int) + acc.length + 1, true) := by
  have h1 : ¬ (a : Int) < 0 := by omega
  have h2 : ¬ (1 < (acc ++ [b]).length ∧ (acc ++ [b]).getLast? = some 0) := by
    simp only [List.length_append, List.length_cons, List.length_nil, List.getLast?_append, List.getLast?_singleton, Option.some_or, Option.some.injEq]
    omega
  simp only [gN, h1, if_false, Int.toNat_natCast, h]
  rw [if_neg h2, val_snoc]
  simp only [List.length_append, List.length_cons, List.length_nil]
  congr 2

/-- k bytes of the form have gone by. -/
def Sc (zs : List Int) (a k : Nat) (acc : List Int) : Prop := acc.length = k ∧ scan 9 (zs.drop a) = (scan (9 - k) (zs.drop (a + k))).map (acc ++ ·)
theorem Sc.start (zs : List Int) (a : Nat) : Sc zs a 0 [] := ⟨rfl, by simp⟩
theorem Sc.more {zs : List Int} {a k : Nat} {acc : List Int} (h : Sc zs a k acc) (hk : k < 9) (hl : a + k < zs.length) (hb : 128 ≤ zs[a + k]) : Sc zs a (k + 1) (acc ++ [zs[a + k]]) := by
  refine ⟨by simp [h.1], ?_⟩
  rw [h.2, show 9 - k = 9 - (k + 1) + 1 by omega, List.drop_eq_getElem_cons hl]
  simp only [scan]
  rw [if_neg (by omega), Option.map_map]
  congr 1
  funext x
  simp
theorem Sc.last {zs : List Int} {a k : Nat} {acc : List Int} (h : Sc zs a k acc) (hk : k < 9) (hl : a + k < zs.length) (hb : zs[a + k] < 128) : scan 9 (zs.drop a) = some (acc ++ [zs[a + k]]) := by
  rw [h.2, show 9 - k = 9 - (k + 1) + 1 by omega, List.drop_eq_getElem_cons hl]
  simp only [scan]
  rw [if_pos hb]
  rfl
theorem Sc.out {zs : List Int} {a k : Nat} {acc : List Int} (h : Sc zs a k acc) (hk : 9 ≤ k ∨ zs.length ≤ a + k) : scan 9 (zs.drop a) = none := by
  rw [h.2]
  rcases hk with hk | hk
  · rw [show 9 - k = 0 by omega]; rfl
  · rw [List.drop_eq_nil_of_le hk]
    cases 9 - k <;> rfl

/-- What GetNum answers, as a value. -/
abbrev gV (r : Int × Int × Bool) : Value := .tuple #[.int .i64 r.1, .int .i64 r.2.1, .bool r.2.2]

theorem lim_eight {k : Nat} (h : k ≤ 8) : lim k ≤ 72057594037927936 := by
  have := lim_mono h
  rw [show lim 8 = 72057594037927936 from by simp [lim]] at this
  exact this
theorem lim_seven {k : Nat} (h : k ≤ 7) : lim k ≤ 562949953421312 := by
  have := lim_mono h
  rw [show lim 7 = 562949953421312 from by simp [lim]] at this
  exact this

end Go.Proofs.YtjnhocefnfmhmaaGreatDoor

/-
  Contract of spec.GetNum, for every slice of bytes within the form's reach and every place.
-/
namespace Go.Proofs.YtjnhocefnfmhmaaGreatDoor
open Go.RowKit

theorem unit_step (k : Nat) (h : k + 1 < 9) : wrap64 (lim k * 128) = lim (k + 1) := by
  have h1 := lim_pos k
  have h2 := lim_eight (show k ≤ 8 by omega)
  have h3 := lim_seven (show k ≤ 7 by omega)
  rw [IntWalk.wrap64_in _ ⟨by omega, by omega⟩]
  simp only [lim]
  omega

set_option maxHeartbeats 800000 in
theorem sget_any (v : Value) (zs : List Int) (a : Int) (w : World) (h : Row w v zs) (hlo : -9223372036854775808 ≤ a) (hhi : a ≤ 9223372036854775807) :
    Calls Tryz.prog 78 #[v, .int .i64 a] w fun e w' => e = .returned (gV (gN zs a)) ∧ w' = w := by
  obtain ⟨ao, cap, rfl, hcap, hm, hz, hcell⟩ := h
  by_cases hneg : a < 0
  · rw [gN_neg zs a hneg]
    go_enter Tryz.func78, Tryz.ntmps78
    go_wp2
    go_ret3
    exact ⟨rfl, rfl⟩
  by_cases hout : (zs.length : Int) ≤ a
  · obtain ⟨n, rfl⟩ := Int.eq_ofNat_of_zero_le (show 0 ≤ a by omega)
    rw [gN_none zs n ((Sc.start zs n).out (Or.inr (by omega)))]
    go_enter Tryz.func78, Tryz.ntmps78
    go_wp2
    go_ret3
    exact ⟨rfl, rfl⟩
  obtain ⟨n, rfl⟩ := Int.eq_ofNat_of_zero_le (show 0 ≤ a by omega)
  obtain ⟨g, o, rfl, hg, hcell⟩ := hcell (by intro e; subst e; simp at hout)
  have hn : n < zs.length := by omega
  clear hneg hout hlo hhi
  go_enter Tryz.func78, Tryz.ntmps78
  go_wp2
  go_loop [7, 8, 9] (fun x u i => ∃ (k : Nat) (U : Int) (acc : List Int), k ≤ 9 ∧ n + k ≤ zs.length ∧ i = .int .i64 k ∧ u = .int .i64 U ∧ x = .int .i64 (val acc) ∧ Hid (k < 9 → U = lim k) ∧ Hid (Sc zs n k acc)) (fun _ _ i => 9 - (intOf i).toNat)
  case atStart => exact ⟨0, 1, [], by omega, by omega, rfl, rfl, rfl, fun _ => rfl, Sc.start zs n⟩
  case round =>
    obtain ⟨k, U, acc, hk, hkl, rfl, rfl, rfl, HU, HS⟩ := hrel
    by_cases h9 : k < 9
    · by_cases hlt : n + k < zs.length
      · have hc := hcell (n + k) hlt
        have hU := HU.out h9
        have hvb := val_bounds acc
        rw [HS.out.1] at hvb
        subst hU
        clear HU
        have hml := mul_lim zs[n + k] k
        have hl8 := lim_eight (show k ≤ 8 by omega)
        have hb := hz zs[n + k] (List.getElem_mem _)
        clear hcell hz
        by_cases hb128 : zs[n + k] < 128
        · have hlast := HS.out.last h9 hlt hb128
          have hal := HS.out.1
          by_cases hz0 : zs[n + k] = 0
          · by_cases hk0 : 0 < k
            · have Hv : Hid (gN zs (n : Int) = (0, 0, false)) := gN_zero zs n acc (by rw [hlast, hz0]) (by omega)
              clear hlast hal
              go_wp2
              go_ret3
              exact ⟨by rw [Hv.out]; rfl, rfl⟩
            · have Hv : Hid (gN zs (n : Int) = (val acc, (n : Int) + k + 1, true)) := by
                have := gN_some zs n acc zs[n + k] hlast (by omega)
                rw [hal, hz0] at this
                simpa [Hid] using this
              clear hlast hal
              go_wp2
              go_ret3
              exact ⟨by rw [Hv.out]; rfl, rfl⟩
          · have Hv : Hid (gN zs (n : Int) = (val acc + zs[n + k] % 128 * lim k, (n : Int) + k + 1, true)) := by
              have := gN_some zs n acc zs[n + k] hlast (by omega)
              rw [hal] at this; exact this
            clear hlast hal
            go_wp2
            go_ret3
            exact ⟨by rw [Hv.out]; rfl, rfl⟩
        · go_wp2
          refine ⟨⟨_, _, _, _, _, _, ⟨k + 1, by omega, by omega, ?ra, wrap64 (lim k * 128), ?rb, acc ++ [zs[n + k]], ?rc, ?rd, HS.out.more h9 hlt (by omega)⟩, rfl, rfl, rfl, rfl, rfl, rfl⟩, by simp [intOf]; omega⟩
          case ra => go_num
          case rb => rfl
          case rc => rw [val_snoc, HS.out.1]
          case rd => exact fun h => unit_step k h
      · have Hv : Hid (gN zs (n : Int) = (0, 0, false)) := gN_none zs n (HS.out.out (Or.inr (by omega)))
        go_wp2
        go_ret3
        exact ⟨by rw [Hv.out]; rfl, rfl⟩
    · have Hv : Hid (gN zs (n : Int) = (0, 0, false)) := gN_none zs n (HS.out.out (Or.inl (by omega)))
      go_wp2
      go_ret3
      exact ⟨by rw [Hv.out]; rfl, rfl⟩

end Go.Proofs.YtjnhocefnfmhmaaGreatDoor

/-
  Plain mathematics: a number that is got stands there in just the bytes that it is put in. Nothing of the program; no condition.
-/
namespace Go.Proofs.YtjnhocefnfmhmaaGreatDoor

theorem scan_len : ∀ (f : Nat) (ys bs : List Int), scan f ys = some bs → bs ≠ [] ∧ bs.length ≤ f ∧ ∃ rest, ys = bs ++ rest
  | 0, _, _, h => by simp [scan] at h
  | _ + 1, [], _, h => by simp [scan] at h
  | f + 1, b :: ys, bs, h => by
    simp only [scan] at h
    split at h
    · cases h; exact ⟨by simp, by simp, ys, rfl⟩
    · cases hs : scan f ys with
      | none => rw [hs] at h; cases h
      | some cs =>
        rw [hs] at h
        cases h
        obtain ⟨h1, h2, rest, h3⟩ := scan_len f ys cs hs
        exact ⟨by simp, by simp; omega, rest, by rw [h3]; rfl⟩
theorem enc_scan : ∀ (f : Nat) (ys bs : List Int), (∀ z ∈ ys, 0 ≤ z ∧ z ≤ 255) → scan f ys = some bs → (1 < bs.length → bs.getLast? ≠ some 0) → enc f (val bs) = bs
  | 0, _, _, _, h, _ => by simp [scan] at h
  | _ + 1, [], _, _, h, _ => by simp [scan] at h
  | f + 1, b :: ys, bs, hz, h, hl => by
    have hb := hz b (by simp)
    simp only [scan] at h
    split at h
    · rename_i hlt
      cases h
      have e : val [b] = b := by simp only [val]; omega
      rw [e, enc_last f b hlt]
    · rename_i hge
      cases hs : scan f ys with
      | none => rw [hs] at h; cases h
      | some cs =>
        rw [hs] at h
        cases h
        obtain ⟨hne, hlen, _⟩ := scan_len f ys cs hs
        have hlast : (b :: cs).getLast? = cs.getLast? := List.getLast?_cons_of_ne_nil hne
        have hl2 : cs.getLast? ≠ some 0 := by
          rw [← hlast]
          apply hl
          have := List.length_pos_iff.2 hne
          simp
          omega
        have ih := enc_scan f ys cs (fun z h => hz z (by simp [h])) hs (fun _ => hl2)
        have hv := (val_bounds cs).1
        have hv1 : 1 ≤ val cs := by
          rcases Int.lt_or_le 0 (val cs) with h0 | h0
          · omega
          · have h00 : val cs = 0 := by omega
            rw [h00] at ih
            cases f with
            | zero => rw [← ih] at hne; simp [enc] at hne
            | succ f =>
              rw [enc_last f 0 (by omega)] at ih
              rw [← ih] at hl2
              simp at hl2
        have e : val (b :: cs) = b % 128 + 128 * val cs := rfl
        rw [e, enc_more f _ (by omega)]
        have e1 : (b % 128 + 128 * val cs) % 128 + 128 = b := by omega
        have e2 : (b % 128 + 128 * val cs) / 128 = val cs := by omega
        rw [e1, e2, ih]
/-- A number that is got: its bytes are there. -/
theorem gN_bytes {zs : List Int} {a x next : Int} (hz : ∀ z ∈ zs, 0 ≤ z ∧ z ≤ 255) (h : gN zs a = (x, next, true)) : 0 ≤ a ∧ 0 ≤ x ∧ next = a + (encI x).length ∧ ∃ rest, zs.drop a.toNat = encI x ++ rest := by
  unfold gN at h
  split at h
  · cases h
  · rename_i ha
    cases hs : scan 9 (zs.drop a.toNat) with
    | none => rw [hs] at h; cases h
    | some bs =>
      rw [hs] at h
      simp only at h
      split at h
      · cases h
      · rename_i hc
        cases h
        have hd : ∀ z ∈ zs.drop a.toNat, 0 ≤ z ∧ z ≤ 255 := fun z h => hz z (List.mem_of_mem_drop h)
        have he := enc_scan 9 _ bs hd hs (fun h1 h2 => hc ⟨h1, h2⟩)
        obtain ⟨_, _, rest, hr⟩ := scan_len 9 _ bs hs
        have hv := (val_bounds bs).1
        have hE : encI (val bs) = bs := by rw [encI_pos _ hv, he]
        exact ⟨by omega, hv, by rw [hE], rest, by rw [hE]; exact hr⟩
end Go.Proofs.YtjnhocefnfmhmaaGreatDoor

/-
  Contract of (*impl.numForm).number: the number of the bytes that the form holds; none where the highest of several is 0.
-/
namespace Go.Proofs.YtjnhocefnfmhmaaGreatDoor
open Go.RowKit

/-- What number answers. -/
def nV (bs : List Int) : Int × Bool := if 1 < bs.length ∧ bs.getLast? = some 0 then (0, false) else (val bs, true)

theorem form_byte (bs : List Int) (h : bs.length ≤ 9) (w : World) (F : Nat) (hh : w.heap[F]? = some (.cells (formC bs) 123 (0, 0))) (i : Nat) (hi : i < bs.length) :
    w.cell? ⟨F, i, none⟩ = some (.int .u8 bs[i]) := by
  rw [cell_of_row w F i _ 123 (0, 0) hh, formC_get bs h i (by omega), List.getD_eq_getElem?_getD, List.getElem?_append_left hi]
  simp [hi]
theorem val_drop (bs : List Int) (m : Nat) (h : m < bs.length) : val (bs.drop m) = val (bs.drop (m + 1)) * 128 + bs[m] % 128 := by
  rw [List.drop_eq_getElem_cons h]
  simp only [val]
  omega

theorem nV_bad (bs : List Int) (n : Nat) (l : Int) (hn : bs.length = n + 1) (hl : bs[n]? = some l) (h0 : 0 < n) (h : l = 0) : nV bs = (0, false) := by
  have e : bs.getLast? = some 0 := by rw [List.getLast?_eq_getElem?, hn, Nat.add_sub_cancel, hl, h]
  unfold nV
  rw [if_pos ⟨by omega, e⟩]
theorem nV_ok (bs : List Int) (n : Nat) (l : Int) (hn : bs.length = n + 1) (hl : bs[n]? = some l) (h : n = 0 ∨ (0 < n ∧ ¬ l = 0)) : nV bs = (val bs, true) := by
  have e : bs.getLast? = some l := by rw [List.getLast?_eq_getElem?, hn, Nat.add_sub_cancel, hl]
  unfold nV
  rw [if_neg]
  rw [e, hn]
  simp only [Option.some.injEq]
  omega

set_option maxHeartbeats 800000 in
theorem number_any (F : Nat) (bs : List Int) (w : World) (h1 : 1 ≤ bs.length) (h9 : bs.length ≤ 9) (hz : ∀ z ∈ bs, 0 ≤ z ∧ z ≤ 255) (hh : w.heap[F]? = some (.cells (formC bs) 123 (0, 0))) :
    Calls Tryz.prog 111 #[.pointer (some ⟨F, 0, none⟩)] w fun e w' => e = .returned (.tuple #[.int .i64 (nV bs).1, .bool (nV bs).2]) ∧ w' = w := by
  obtain ⟨n, hn⟩ : ∃ n, bs.length = n + 1 := ⟨bs.length - 1, by omega⟩
  have hn9 : n < 9 := by omega
  have c9 : w.cell? ⟨F, 9, none⟩ = some (.int .i64 ((n : Int) + 1)) := by
    rw [cell_of_row w F 9 _ 123 (0, 0) hh, formC_count bs h9, hn]; simp
  have hb := form_byte bs h9 w F hh
  clear hh
  obtain ⟨l, hl⟩ : ∃ l, bs[n]? = some l := ⟨bs[n], by simp⟩
  have hcl : w.cell? ⟨F, n, none⟩ = some (.int .u8 l) := by
    have := hb n (by omega)
    rw [this]
    rw [List.getElem?_eq_getElem (by omega)] at hl
    rw [Option.some.inj hl]
  have hl0 := hz l (List.mem_of_getElem? hl)
  by_cases hbad : 0 < n ∧ l = 0
  · have Hv : Hid (nV bs = (0, false)) := nV_bad bs n l hn hl hbad.1 hbad.2
    obtain ⟨hn0, rfl⟩ := hbad
    clear hb hz hl hn
    go_enter Tryz.func111, Tryz.ntmps111
    go_wp2
    go_ret2
    exact ⟨by rw [Hv.out]; rfl, rfl⟩
  · have hd : n = 0 ∨ (0 < n ∧ ¬ l = 0) := by omega
    have Hv : Hid (nV bs = (val bs, true)) := nV_ok bs n l hn hl hd
    have HN : Hid (bs.length = n + 1) := hn
    have hd : n < 1 ∨ (0 < n ∧ ¬ l = 0) := by omega
    clear hbad hn hl
    rcases hd with hd | ⟨hd, hl1⟩
    all_goals
      go_enter Tryz.func111, Tryz.ntmps111
      go_wp2
      go_loop [5, 6] (fun x i => ∃ (j : Nat) (q : Int), j ≤ n + 1 ∧ i = .int .i64 q ∧ x = .int .i64 (val (bs.drop j)) ∧ Hid (q = (j : Int) - 1)) (fun _ i => (intOf i + 1).toNat)
      case atStart => exact ⟨n + 1, n, by omega, by go_num, by rw [List.drop_eq_nil_of_le (by have := HN.out; omega)]; rfl, by unfold Hid; omega⟩
      case round =>
        obtain ⟨j, q, hj, rfl, rfl, HQ⟩ := hrel
        cases j with
        | zero =>
          have hq : q < 0 := by have := HQ.out; omega
          go_wp2
          go_ret2
          exact ⟨by rw [Hv.out]; rfl, rfl⟩
        | succ m =>
          have hq : q = (m : Int) := by have := HQ.out; omega
          subst hq
          clear HQ
          have hml : m < bs.length := by have := HN.out; omega
          have hc := hb m hml
          have hv := val_bounds (bs.drop (m + 1))
          have hlim := lim_eight (show (bs.drop (m + 1)).length ≤ 8 by simp; omega)
          have Hd : Hid (val (bs.drop m) = val (bs.drop (m + 1)) * 128 + bs[m] % 128) := val_drop bs m hml
          have hzm := hz bs[m] (List.getElem_mem _)
          clear hb hz
          go_wp2
          go_round
          case rel => exact ⟨m, _, by omega, rfl, by rw [Hd.out], rfl⟩
          case measure => simp [intOf]

end Go.Proofs.YtjnhocefnfmhmaaGreatDoor
