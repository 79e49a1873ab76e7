/-
  The contract of impl.readNumber. The listed variables read as they are laid.
-/
import Derived.Test.YtkoiccocgejmcaaDoorIDp1
namespace Go.Proofs.YtkoiccocgejmcaaDoor
open Go.RowKit

/-- The error of what is no line. -/
@[reducible] def NL (a : Addr) : Value := .iface 115 (.pointer (some a))
/-- The library's two errors of numbers are there, whatever is done from B on. -/
def ErrD (B : Nat) (w : World) : Prop := ∀ w', Below B w w' → (∃ t p, w'.var? Tryd.prog "strconv.ErrSyntax" = some #[.iface t p]) ∧ (∃ t p, w'.var? Tryd.prog "strconv.ErrRange" = some #[.iface t p])
theorem ErrD.on {B : Nat} {w w' : World} (h : ErrD B w) (hb : Below B w w') : ErrD B w' := fun w2 h2 => h w2 (hb.trans h2)
/-- What the listed variables hold. -/
def EnvD (B : Nat) (a : Addr) (w : World) : Prop := B ≤ w.heap.size ∧ Pow B w ∧ ErrD B w ∧ Wds w ∧ 1 < w.heap.size ∧ w.cell? ⟨1, 0, none⟩ = some (NL a)
theorem EnvD.on {B : Nat} {a : Addr} {w w' : World} (h : EnvD B a w) (hb : Below w.heap.size w w') : EnvD B a w' :=
  ⟨Nat.le_trans h.1 hb.size, h.2.1.on (hb.mono h.1), h.2.2.1.on (hb.mono h.1), h.2.2.2.1.on hb, Nat.lt_of_lt_of_le h.2.2.2.2.1 hb.size, (hb.cell (p := ⟨1, 0, none⟩) h.2.2.2.2.1).trans h.2.2.2.2.2⟩

/-- Whether a number stands there behind a blank, and which. -/
def rnB (l : List UInt8) : Bool := pre [32] l && n9 (l.drop 1)
def rnV (l : List UInt8) : Int := if rnB l = true then tval (l.drop 1) else 0
def rnE (l : List UInt8) (a : Addr) : Value := if rnB l = true then .nilIface else NL a

theorem n9_of {l : List UInt8} {x : Int} (h : Lib.atoiAll l = .ok x) (h9 : l.length ≤ 9) : n9 l = (!decide (x < 0) && (Lib.itoa x == l)) ∧ (n9 l = true → tval l = x) := by
  obtain ⟨h1, h2⟩ := atoi_ok h
  have key : n9 l = (!decide (x < 0) && (Lib.itoa x == l)) := by
    rw [Bool.eq_iff_iff]
    unfold n9
    rw [decide_eq_false (show ¬ 9 < l.length by omega)]
    simp only [Bool.and_eq_true, Bool.not_eq_true', decide_eq_false_iff_not, Bool.not_false, and_true]
    constructor
    · rintro ⟨hn, h0⟩
      have e := h2 hn
      rw [h1] at hn
      simp only [Bool.and_eq_true] at hn
      exact ⟨by rw [e]; exact h0, hn.2⟩
    · rintro ⟨h0, he⟩
      have hl : Lib.itoa x = l := eq_of_beq he
      have hx : x ≤ 999999999 := (itoa_nine (by omega)).1 (by rw [hl]; exact h9)
      have hn : numB l = true := by rw [h1]; simp only [Bool.and_eq_true, decide_eq_true_eq]; exact ⟨⟨by omega, by omega⟩, he⟩
      exact ⟨hn, by rw [← h2 hn]; exact h0⟩
  refine ⟨key, fun h => ?_⟩
  unfold n9 at h
  simp only [Bool.and_eq_true] at h
  exact (h2 h.1.1).symm

set_option maxRecDepth 100000 in
set_option maxHeartbeats 3200000 in
theorem readnum_any (l : List UInt8) (B : Nat) (a : Addr) (w : World) (hE : EnvD B a w) (hl : l.length ≤ 1048576) :
    Calls Tryd.prog 40 #[.string (tx l)] w fun e w' => e = .returned (.tuple #[.int .i64 (rnV l), rnE l a]) ∧ Below w.heap.size w w' := by
  obtain ⟨hB, hT, hEr, _, lg, cg⟩ := hE
  obtain ⟨⟨t1, p1, hv1⟩, ⟨t2, p2, hv2⟩⟩ := hEr w (Below.refl _ _)
  have C : Calls Tryd.prog 25 #[.string (tx l), .string ⟨#[32]⟩] w fun e w' => e = .returned (.tuple #[.string (tx (if pre [32] l then l.drop 1 else l)), .bool (pre [32] l)]) ∧ w' = w := cutpre_any l [32] w
  have HR : Hid (∀ b, rnB l = b → rnV l = (if b = true then tval (l.drop 1) else 0) ∧ rnE l a = (if b = true then .nilIface else NL a)) := by
    rintro b rfl
    exact ⟨rfl, rfl⟩
  have HB : Hid (rnB l = (pre [32] l && n9 (l.drop 1))) := rfl
  generalize rnV l = rv at *
  generalize rnE l a = re at *
  cases hp : pre [32] l with
  | false =>
    have h1 := HR.out false (by rw [HB.out, hp]; rfl)
    obtain ⟨rfl, rfl⟩ := h1
    rw [hp] at C
    go_enter Tryd.func40, Tryd.ntmps40
    go_wp2_with fail
    refine C.mono ?_
    rintro e w1 ⟨rfl, rfl⟩
    clear C hv1 hv2
    go_wp2_with fail
    go_region
    all_goals
      go_wp2_with fail
      go_ret2
      exact ⟨rfl, Below.drew (Below.refl _ _)⟩
  | true =>
    rw [hp] at C
    simp only [if_true] at C
    have hld : (l.drop 1).length ≤ 1048576 := by rw [List.length_drop]; omega
    generalize l.drop 1 = d at *
    have z := tx_size d
    have HT : Hid (Lib.atoiAll (tx d).data.toList = Lib.atoiAll d) := by unfold Hid; rw [tx_list]
    have HB2 : Hid (rnB l = n9 d) := by unfold Hid; rw [HB.out, hp]; simp
    clear HB
    by_cases h9 : 9 < d.length
    · have h1 := HR.out false (by rw [HB2.out]; unfold n9; rw [decide_eq_true h9]; simp)
      obtain ⟨rfl, rfl⟩ := h1
      have h9' : (9 : Int) < (d.length : Int) := by omega
      go_enter Tryd.func40, Tryd.ntmps40
      go_wp2_with fail
      refine C.mono ?_
      rintro e w1 ⟨rfl, rfl⟩
      clear C hv1 hv2
      go_wp2_with fail
      go_region
      all_goals
        go_wp2_with fail
        go_ret2
        exact ⟨rfl, Below.drew (Below.refl _ _)⟩
    · have h9' : ¬ (9 : Int) < (d.length : Int) := by omega
      cases ha : Lib.atoiAll d with
      | «syntax» =>
        have h1 := HR.out false (by rw [HB2.out]; unfold n9; rw [atoi_bad (fun x => by rw [ha]; simp)]; rfl)
        obtain ⟨rfl, rfl⟩ := h1
        have A := Tryd.strconv_Atoi_syntax_var (tx d) (by rw [z]; omega) (by rw [HT.out]; exact ha) t1 p1 w hv1
        go_enter Tryd.func40, Tryd.ntmps40
        go_wp2_with fail
        refine C.mono ?_
        rintro e w1 ⟨rfl, rfl⟩
        clear C hv2
        go_wp2_with fail
        refine A.mono ?_
        rintro e w2 ⟨N, rfl, _, _, hb2⟩
        have cg2 := (hb2.cell (p := ⟨1, 0, none⟩) lg).trans cg
        clear A hv1
        go_wp2_with fail
        go_region
        all_goals
          go_wp2_with fail
          go_ret2
          exact ⟨rfl, Below.drew hb2⟩
      | range =>
        have h1 := HR.out false (by rw [HB2.out]; unfold n9; rw [atoi_bad (fun x => by rw [ha]; simp)]; rfl)
        obtain ⟨rfl, rfl⟩ := h1
        have A := Tryd.strconv_Atoi_range_var (tx d) (by rw [z]; omega) (by rw [HT.out]; exact ha) t2 p2 w hv2
        generalize Lib.atoiSat (tx d).data.toList = y at A
        go_enter Tryd.func40, Tryd.ntmps40
        go_wp2_with fail
        refine C.mono ?_
        rintro e w1 ⟨rfl, rfl⟩
        clear C hv1
        go_wp2_with fail
        refine A.mono ?_
        rintro e w2 ⟨N, rfl, _, _, hb2⟩
        have cg2 := (hb2.cell (p := ⟨1, 0, none⟩) lg).trans cg
        clear A hv2
        go_wp2_with fail
        go_region
        all_goals
          go_wp2_with fail
          go_ret2
          exact ⟨rfl, Below.drew hb2⟩
      | ok x =>
        obtain ⟨HN, HV⟩ := n9_of ha (by omega)
        have HNN : Hid (n9 d = (!decide (x < 0) && (Lib.itoa x == d))) := HN
        have HVV : Hid (n9 d = true → tval d = x) := HV
        have A := Tryd.strconv_Atoi_ok (tx d) (by rw [z]; omega) x (by rw [HT.out]; exact ha) w
        clear hv1 hv2 HN HV
        by_cases h0 : x < 0
        · have h1 := HR.out false (by rw [HB2.out, HNN.out, decide_eq_true h0]; rfl)
          obtain ⟨rfl, rfl⟩ := h1
          go_enter Tryd.func40, Tryd.ntmps40
          go_wp2_with fail
          refine C.mono ?_
          rintro e w1 ⟨rfl, rfl⟩
          clear C
          go_wp2_with fail
          refine A.mono ?_
          rintro e w2 ⟨rfl, hw2⟩
          have hb2 : Below w1.heap.size w1 w2 := by
            rcases hw2 with rfl | ⟨t, rfl⟩
            · exact Below.refl _ _
            · exact Lib.bytesWorld_below _ _ _
          have cg2 := (hb2.cell (p := ⟨1, 0, none⟩) lg).trans cg
          clear A hw2
          go_wp2_with fail
          go_region
          all_goals
            go_wp2_with fail
            go_ret2
            exact ⟨rfl, Below.drew hb2⟩
        · have hxb := Lib.atoiAll_bounds ha
          have e1 : (⟨(Lib.itoa x).toArray⟩ : ByteArray) = tx (Lib.itoa x) := rfl
          by_cases he : Lib.itoa x = d
          · have hr := HR.out true (by rw [HB2.out, HNN.out, decide_eq_false h0, he]; simp)
            have hv : tval d = x := HVV.out (by rw [HNN.out, decide_eq_false h0, he]; simp)
            rw [hv] at hr
            rw [hr.1, hr.2]
            clear hr
            have hq : ((tx (Lib.itoa x)).toList == (tx d).toList) = true := by rw [he, beq_iff_eq]
            go_enter Tryd.func40, Tryd.ntmps40
            go_wp2_with fail
            refine C.mono ?_
            rintro e w1 ⟨rfl, rfl⟩
            clear C
            go_wp2_with fail
            refine A.mono ?_
            rintro e w2 ⟨rfl, hw2⟩
            have hb2 : Below w1.heap.size w1 w2 := by
              rcases hw2 with rfl | ⟨t, rfl⟩
              · exact Below.refl _ _
              · exact Lib.bytesWorld_below _ _ _
            clear A hw2
            go_wp2_with fail
            refine (Tryd.strconv_Itoa x (by omega) (by omega) _ (hT.on (hb2.mono hB)).here).mono ?_
            rintro e w3 ⟨rfl, q, os, hw3⟩
            have hb3 : Below w2.heap.size w2 w3 := by rw [hw3]; exact Lib.below_grow _ _ (Nat.le_refl _) q os
            have hB3 := hb2.trans (hb3.mono hb2.size)
            have cg3 := (hB3.cell (p := ⟨1, 0, none⟩) lg).trans cg
            clear hw3 hb3 hb2
            rw [e1]
            generalize tx (Lib.itoa x) = ti at *
            go_wp2_with fail
            go_ret2
            exact ⟨rfl, hB3⟩
          · have hr := HR.out false (by rw [HB2.out, HNN.out, decide_eq_false h0]; simpa using he)
            rw [hr.1, hr.2]
            clear hr
            have hq : ((tx (Lib.itoa x)).toList == (tx d).toList) = false := by
              rw [ByteArray.toList_eq, ByteArray.toList_eq, tx_list, tx_list, beq_eq_false_iff_ne]
              exact he
            go_enter Tryd.func40, Tryd.ntmps40
            go_wp2_with fail
            refine C.mono ?_
            rintro e w1 ⟨rfl, rfl⟩
            clear C
            go_wp2_with fail
            refine A.mono ?_
            rintro e w2 ⟨rfl, hw2⟩
            have hb2 : Below w1.heap.size w1 w2 := by
              rcases hw2 with rfl | ⟨t, rfl⟩
              · exact Below.refl _ _
              · exact Lib.bytesWorld_below _ _ _
            clear A hw2
            go_wp2_with fail
            refine (Tryd.strconv_Itoa x (by omega) (by omega) _ (hT.on (hb2.mono hB)).here).mono ?_
            rintro e w3 ⟨rfl, q, os, hw3⟩
            have hb3 : Below w2.heap.size w2 w3 := by rw [hw3]; exact Lib.below_grow _ _ (Nat.le_refl _) q os
            have hB3 := hb2.trans (hb3.mono hb2.size)
            have cg3 := (hB3.cell (p := ⟨1, 0, none⟩) lg).trans cg
            clear hw3 hb3 hb2
            rw [e1]
            generalize tx (Lib.itoa x) = ti at *
            go_wp2_with fail
            go_region
            all_goals
              go_wp2_with fail
              go_ret2
              exact ⟨rfl, Below.drew hB3⟩
end Go.Proofs.YtkoiccocgejmcaaDoor
