/-
  Texts that stood by themselves, laid into one.
-/
import Derived.Test.YtaojlmoppbknbaaGreatDoorMach2M
import Derived.Test.YtaojlmoppbknbaaGreatDoorSNodeM
import Derived.Test.YtaojlmoppbknbaaGreatDoorNdM
import Derived.Laws.BytesArg
import Derived.Lib.AppendStr
import Derived.Laws.IdiomStrings
import Derived.Test.YtaojlmoppbknbaaGreatDoorIWire2M
import Derived.Test.YtaojlmoppbknbaaGreatDoorRVal2M
import Derived.Test.YtaojlmoppbknbaaGreatDoorITdM
import Derived.Test.YtaojlmoppbknbaaGreatDoorSTdM
/-
  A machine that is right, on the specification's side: MachineOk. No condition.
-/
namespace Go.Proofs.YtaojlmoppbknbaaGreatDoor
open Go.RowKit

/-- The boxes of a code and a machine, in a world. -/
structure MBox (w : World) (b : Nat) (cc mc : Array Value) : Prop where
  code : w.heap[b]? = some (.cells cc 40 (0, 0))
  mach : w.heap[b + 1]? = some (.cells mc 34 (0, 0))
theorem MBox.below {w w' : World} {b : Nat} {cc mc : Array Value} (h : MBox w b cc mc) (hb : Below w.heap.size w w') : MBox w' b cc mc :=
  ⟨(hb.block _ (Array.getElem?_eq_some_iff.1 h.code).1).trans h.code, (hb.block _ (Array.getElem?_eq_some_iff.1 h.mach).1).trans h.mach⟩

set_option maxRecDepth 100000 in
set_option maxHeartbeats 6400000 in
theorem smachok_any (v1 v2 v3 v : Value) (ns : List Nd) (is : List In) (ds : List Df) (xs : List Nd) (m : Mc) (w : World) (R1 : NRow w v1 ns) (R2 : InRow w v2 is) (R3 : DfRow w v3 ds) (R : NRow w v xs) :
    Calls Tryz.prog 38 #[.agg #[v1, v2, v3], .agg #[v, .int .i64 m.p, .int .i64 m.s, .int .i64 m.e, .int .i64 m.d, .int .i64 m.t, .int .i64 m.q, .int .i64 m.r]] w fun e w' => e = .returned (.bool (machB ns is ds xs m)) ∧ Below w.heap.size w w' := by
  have hn2 : is.length ≤ 9223372036854775807 := by obtain ⟨_, _, _, _, hm, _⟩ := R2; exact hm
  have R' := R
  obtain ⟨ao, cap, rfl, _⟩ := R'
  obtain ⟨a1, c1, rfl⟩ := R1.small
  obtain ⟨a2, c2, rfl⟩ := R2.small
  obtain ⟨a3, c3, rfl⟩ := R3.small
  obtain ⟨mp, ms, me, md, mt, mq, mr⟩ := m
  obtain ⟨hB0, hk0, hx0⟩ := two_boxes w (Obj.cells #[.slice a1 ns.length c1, .slice a2 is.length c2, .slice a3 ds.length c3] 40) (Obj.cells #[.slice ao xs.length cap, .int .i64 mp, .int .i64 ms, .int .i64 me, .int .i64 md, .int .i64 mt, .int .i64 mq, .int .i64 mr] 34)
  have X0 : MBox _ w.heap.size #[.slice a1 ns.length c1, .slice a2 is.length c2, .slice a3 ds.length c3] #[.slice ao xs.length cap, .int .i64 mp, .int .i64 ms, .int .i64 me, .int .i64 md, .int .i64 mt, .int .i64 mq, .int .i64 mr] := ⟨hk0, hx0⟩
  go_enter Tryz.func38, Tryz.ntmps38
  go_wp2_with fail
  refine (scodeok_any _ _ _ ns is ds _ (R1.below hB0) (R2.below hB0) (R3.below hB0)).mono ?_
  rintro e w1 ⟨rfl, hb1⟩
  have hB1 := hB0.trans (hb1.mono hB0.size)
  have X1 := X0.below hb1
  clear hB0 hk0 hx0 hb1 X0
  have HM : Hid (machB ns is ds xs ⟨mp, ms, me, md, mt, mq, mr⟩ = (codeB ns is ds && poolB xs && (hasI xs ms && (hasI xs me && (hasI xs md && true))) && stateB is.length xs ⟨mp, ms, me, md, mt, mq, mr⟩)) := rfl
  have k0 : w1.cell? ⟨w.heap.size + 1, 0, none⟩ = some (.slice ao xs.length cap) := cell_of_row w1 _ 0 _ _ _ X1.mach
  generalize codeB ns is ds = b1 at HM ⊢
  cases b1 with
  | false =>
    go_wp2
    go_ret
    exact ⟨retB (by rw [HM.out]; rfl), hB1⟩
  | true =>
    go_wp2_with fail
    refine (spool_any _ xs _ (R.below hB1)).mono ?_
    rintro e w2 ⟨rfl, hb2⟩
    have hB2 := hB1.trans (hb2.mono hB1.size)
    have X2 := X1.below hb2
    clear hB1 X1 hb2 k0
    have k0 : w2.cell? ⟨w.heap.size + 1, 0, none⟩ = some (.slice ao xs.length cap) := cell_of_row w2 _ 0 _ _ _ X2.mach
    have k2 : w2.cell? ⟨w.heap.size + 1, 0 + 2, none⟩ = some (.int .i64 ms) := cell_of_row w2 _ 2 _ _ _ X2.mach
    generalize poolB xs = b2 at HM ⊢
    cases b2 with
    | false =>
      go_wp2
      go_ret
      exact ⟨retB (by rw [HM.out]; rfl), hB2⟩
    | true =>
      go_wp2_with fail
      refine (shas_all _ xs _ _ (R.below hB2)).mono ?_
      rintro e w3 ⟨rfl, hb3⟩
      have hB3 := hB2.trans (hb3.mono hB2.size)
      have X3 := X2.below hb3
      clear hB2 X2 hb3 k0 k2
      have k0 : w3.cell? ⟨w.heap.size + 1, 0, none⟩ = some (.slice ao xs.length cap) := cell_of_row w3 _ 0 _ _ _ X3.mach
      have k3 : w3.cell? ⟨w.heap.size + 1, 0 + 3, none⟩ = some (.int .i64 me) := cell_of_row w3 _ 3 _ _ _ X3.mach
      generalize hasI xs ms = b3 at HM ⊢
      cases b3 with
      | false =>
        go_wp2
        go_ret
        exact ⟨retB (by rw [HM.out]; simp), hB3⟩
      | true =>
        go_wp2_with fail
        refine (shas_all _ xs _ _ (R.below hB3)).mono ?_
        rintro e w4 ⟨rfl, hb4⟩
        have hB4 := hB3.trans (hb4.mono hB3.size)
        have X4 := X3.below hb4
        clear hB3 X3 hb4 k0 k3
        have k0 : w4.cell? ⟨w.heap.size + 1, 0, none⟩ = some (.slice ao xs.length cap) := cell_of_row w4 _ 0 _ _ _ X4.mach
        have k4 : w4.cell? ⟨w.heap.size + 1, 0 + 4, none⟩ = some (.int .i64 md) := cell_of_row w4 _ 4 _ _ _ X4.mach
        generalize hasI xs me = b4 at HM ⊢
        cases b4 with
        | false =>
          go_wp2
          go_ret
          exact ⟨retB (by rw [HM.out]; simp), hB4⟩
        | true =>
          go_wp2_with fail
          refine (shas_all _ xs _ _ (R.below hB4)).mono ?_
          rintro e w5 ⟨rfl, hb5⟩
          have hB5 := hB4.trans (hb5.mono hB4.size)
          have X5 := X4.below hb5
          clear hB4 X4 hb5 k0 k4
          have k0 : w5.cell? ⟨w.heap.size + 1, 0, none⟩ = some (.slice ao xs.length cap) := cell_of_row w5 _ 0 _ _ _ X5.mach
          generalize hasI xs md = b5 at HM ⊢
          cases b5 with
          | false =>
            go_wp2
            go_ret
            exact ⟨retB (by rw [HM.out]; simp), hB5⟩
          | true =>
            have HS : Hid (machB ns is ds xs ⟨mp, ms, me, md, mt, mq, mr⟩ = stateB is.length xs ⟨mp, ms, me, md, mt, mq, mr⟩) := by unfold Hid; rw [HM.out]; simp
            clear HM
            have hBx := hB5
            have k1 : w5.cell? ⟨w.heap.size + 1, 0 + 1, none⟩ = some (.int .i64 mp) := cell_of_row w5 _ 1 _ _ _ X5.mach
            have k5 : w5.cell? ⟨w.heap.size + 1, 0 + 5, none⟩ = some (.int .i64 mt) := cell_of_row w5 _ 5 _ _ _ X5.mach
            have k6 : w5.cell? ⟨w.heap.size + 1, 0 + 6, none⟩ = some (.int .i64 mq) := cell_of_row w5 _ 6 _ _ _ X5.mach
            have k7 : w5.cell? ⟨w.heap.size + 1, 0 + 7, none⟩ = some (.int .i64 mr) := cell_of_row w5 _ 7 _ _ _ X5.mach
            have l1 : w5.cell? ⟨w.heap.size, 0 + 1, none⟩ = some (.slice a2 is.length c2) := cell_of_row w5 _ 1 _ _ _ X5.code
            have R5 := R.below hB5
            clear X5
            go_wp2_with fail
            refine (lin_any mp 0 ((is.length : Int) - 1) _).mono ?_
            rintro e w6 ⟨rfl, rfl⟩
            have hpl : (decide (0 ≤ mp) && decide (mp ≤ (is.length : Int) - 1)) = placeB is.length mp := by
              unfold placeB
              congr 1
              rw [decide_eq_decide]
              omega
            rw [hpl]
            by_cases t0 : mt = 0
            · subst t0
              replace HS : Hid (machB ns is ds xs ⟨mp, ms, me, md, 0, mq, mr⟩ = (placeB is.length mp && decide (mq = 0) && decide (mr = 0))) := HS
              generalize placeB is.length mp = bb at HS ⊢
              cases bb with
              | true =>
                by_cases q0 : mq = 0
                · subst q0
                  by_cases r0 : mr = 0
                  · subst r0
                    go_wp2
                    go_ret
                    exact ⟨retB (by rw [HS.out]; rfl), hBx⟩
                  · have g1 : (mr == 0) = false := by simp [r0]
                    have g2 : decide (mr = 0) = false := by simp [r0]
                    go_wp2
                    go_ret
                    exact ⟨retB (by rw [HS.out, g2]; rfl), hBx⟩
                · have g1 : (mq == 0) = false := by simp [q0]
                  have g2 : decide (mq = 0) = false := by simp [q0]
                  go_wp2
                  go_ret
                  exact ⟨retB (by rw [HS.out, g2]; rfl), hBx⟩
              | false =>
                go_wp2
                go_ret
                exact ⟨retB (by rw [HS.out]; rfl), hBx⟩
            · by_cases t1 : mt = 1
              · subst t1
                replace HS : Hid (machB ns is ds xs ⟨mp, ms, me, md, 1, mq, mr⟩ = (placeB is.length mp && askB mq && hasI xs mr)) := HS
                generalize placeB is.length mp = bb at HS ⊢
                cases bb with
                | true =>
                  go_wp2_with fail
                  refine (lin_any mq 13 19 _).mono ?_
                  rintro e w7 ⟨rfl, rfl⟩
                  have hask : askB mq = ((decide (13 ≤ mq) && decide (mq ≤ 19)) && decide (mq ≠ 18)) := by
                    unfold askB
                    congr 2
                  rw [hask] at HS
                  generalize (decide (13 ≤ mq) && decide (mq ≤ 19)) = b7 at HS ⊢
                  cases b7 with
                  | true =>
                    by_cases q18 : mq = 18
                    · subst q18
                      go_wp2
                      go_ret
                      exact ⟨retB (by rw [HS.out]; rfl), hBx⟩
                    · have g1 : (mq == 18) = false := by simp [q18]
                      have g2 : decide (mq = 18) = false := by simp [q18]
                      have g3 : decide (mq ≠ 18) = true := by simp [q18]
                      go_wp2_with fail
                      refine (shas_all _ xs _ _ R5).mono ?_
                      rintro e w8 ⟨rfl, hb8⟩
                      have hB8 := hBx.trans (hb8.mono hBx.size)
                      generalize hasI xs mr = b8 at HS ⊢
                      cases b8 <;>
                        (go_wp2
                         go_ret
                         exact ⟨retB (by rw [HS.out, g3]; first | rfl | simp [q18]), hB8⟩)
                  | false =>
                    go_wp2
                    go_ret
                    exact ⟨retB (by rw [HS.out]; rfl), hBx⟩
                | false =>
                  go_wp2
                  go_ret
                  exact ⟨retB (by rw [HS.out]; rfl), hBx⟩
              · generalize placeB is.length mp = bb
                by_cases t2 : mt = 2
                · subst t2
                  replace HS : Hid (machB ns is ds xs ⟨mp, ms, me, md, 2, mq, mr⟩ = (decide (mp = 0) && decide (mq = 0) && hasI xs mr)) := HS
                  by_cases p0 : mp = 0
                  · subst p0
                    by_cases q0 : mq = 0
                    · subst q0
                      go_wp2_with fail
                      refine (shas_all _ xs _ _ R5).mono ?_
                      rintro e w8 ⟨rfl, hb8⟩
                      have hB8 := hBx.trans (hb8.mono hBx.size)
                      generalize hasI xs mr = b8 at HS ⊢
                      cases b8 <;>
                        (go_wp2
                         go_ret
                         exact ⟨retB (by rw [HS.out]; rfl), hB8⟩)
                    · have g1 : (mq == 0) = false := by simp [q0]
                      have g2 : decide (mq = 0) = false := by simp [q0]
                      go_wp2
                      go_ret
                      exact ⟨retB (by rw [HS.out, g2]; rfl), hBx⟩
                  · have g1 : (mp == 0) = false := by simp [p0]
                    have g2 : decide (mp = 0) = false := by simp [p0]
                    go_wp2
                    go_ret
                    exact ⟨retB (by rw [HS.out, g2]; rfl), hBx⟩
                · by_cases t3 : mt = 3
                  · subst t3
                    replace HS : Hid (machB ns is ds xs ⟨mp, ms, me, md, 3, mq, mr⟩ = (decide (mp = 0) && decide (1 ≤ mq) && decide (mq ≤ 7) && decide (mr = 0))) := HS
                    by_cases p0 : mp = 0
                    · subst p0
                      go_wp2_with fail
                      refine (lin_any mq 1 7 _).mono ?_
                      rintro e w7 ⟨rfl, rfl⟩
                      replace HS : Hid (machB ns is ds xs ⟨0, ms, me, md, 3, mq, mr⟩ = ((decide (1 ≤ mq) && decide (mq ≤ 7)) && decide (mr = 0))) := by unfold Hid; rw [HS.out]; simp
                      generalize (decide (1 ≤ mq) && decide (mq ≤ 7)) = b7 at HS ⊢
                      cases b7 with
                      | true =>
                        by_cases r0 : mr = 0
                        · subst r0
                          go_wp2
                          go_ret
                          exact ⟨retB (by rw [HS.out]; rfl), hBx⟩
                        · have g1 : (mr == 0) = false := by simp [r0]
                          have g2 : decide (mr = 0) = false := by simp [r0]
                          go_wp2
                          go_ret
                          exact ⟨retB (by rw [HS.out, g2]; rfl), hBx⟩
                      | false =>
                        go_wp2
                        go_ret
                        exact ⟨retB (by rw [HS.out]; rfl), hBx⟩
                    · have g1 : (mp == 0) = false := by simp [p0]
                      have g2 : decide (mp = 0) = false := by simp [p0]
                      go_wp2
                      go_ret
                      exact ⟨retB (by rw [HS.out, g2]; rfl), hBx⟩
                  · replace HS : Hid (machB ns is ds xs ⟨mp, ms, me, md, mt, mq, mr⟩ = false) := by unfold Hid; rw [HS.out]; unfold stateB; simp [t0, t1, t2, t3]
                    have g0 : (mt == 0) = false := by simp [t0]
                    have g1 : (mt == 1) = false := by simp [t1]
                    have g2 : (mt == 2) = false := by simp [t2]
                    have g3 : (mt == 3) = false := by simp [t3]
                    have f0 : decide (mt = 0) = false := by simp [t0]
                    have f1 : decide (mt = 1) = false := by simp [t1]
                    have f2 : decide (mt = 2) = false := by simp [t2]
                    have f3 : decide (mt = 3) = false := by simp [t3]
                    go_wp2
                    go_ret
                    exact ⟨retB (by rw [HS.out]), hBx⟩
end Go.Proofs.YtaojlmoppbknbaaGreatDoor

/-
  The law of a slice of bytes turned into a text, and the laws' own markText: the same text at the same number, in whatever world. Nothing else of the program; no condition.
-/
namespace Go.Proofs.YtaojlmoppbknbaaGreatDoor
open Go.RowKit

/-- A slice of bytes turned into a text. -/
theorem wpList_bytes_text {P : Program} (w : World) {ops : Array Oper} {rest : List Oper} {o : Oper} {a : Act} {Q : Exit → Act → World → Prop} (hg : o.guard = none) (x : Operand) (src dst e : TypeId) (ho : o.op = .convert src dst x)
    (hs : P.underlying src = some (.slice e)) (hd : P.underlying dst = some .string) (he : P.underlying e = some (.int .u8)) (ao : Option Addr) (n c : Nat) (xs : List Int) (hx : a.eval x = .slice ao n c) (hl : xs.length = n)
    (hc : n ≠ 0 → ∃ g o', ao = some ⟨g, o', none⟩ ∧ ∀ i, i < n → w.cell? ⟨g, o' + i, none⟩ = some (.int .u8 (xs.getD i 0)))
    (h : wpList P ops Q rest (a.put o.dst (.string (strOfNums xs))) w) : wpList P ops Q (o :: rest) a w := by
  refine wpList_plain hg fun K hK => ?_
  have hrun : (convert src dst (.slice ao n c)).run P w = .ok (.string (strOfNums xs)) w := by
    by_cases h0 : n = 0
    · subst h0
      have : xs = [] := List.eq_nil_of_length_eq_zero hl
      subst this
      cases ao with
      | none => exact run_convert_bytes_nil w src e hs he 0 c dst hd
      | some ad => exact run_convert_bytes_back w src dst e ad c [] hs he hd (fun j hj => absurd hj (by simp))
    · obtain ⟨g, o', rfl, hcell⟩ := hc h0
      exact run_convert_bytes_arg w src e hs he g o' n c xs hl hcell dst hd
  unfold Oper.wp
  simp [execOp, ho, hx, hrun, Result.andThen]
  exact hK _ _ h

/-- The digits of k ahead of out. -/
def mtGo : Nat → Nat → ByteArray → ByteArray
  | 0, _, out => out
  | f + 1, k, out => if k = 0 then out else mtGo f (k / 10) (strOfNums [48 + (k : Int) % 10] ++ out)
/-- What markText tells of a number. -/
def mt (k : Int) : ByteArray := if k ≤ 0 then ⟨#[109, 48]⟩ else ⟨#[109]⟩ ++ mtGo k.toNat k.toNat ⟨#[]⟩
theorem mtGo_step (f k : Nat) (out : ByteArray) (h : 0 < k) (hf : k ≤ f) : mtGo f k out = mtGo (f - 1) (k / 10) (strOfNums [48 + (k : Int) % 10] ++ out) := by
  cases f with
  | zero => omega
  | succ f => simp only [mtGo, if_neg (by omega : ¬ k = 0)]; rfl
theorem mtGo_end (f : Nat) (out : ByteArray) : mtGo f 0 out = out := by
  cases f <;> simp [mtGo]

theorem digit_size (x : Int) : (strOfNums [x]).size = 1 := rfl

set_option maxHeartbeats 800000 in
theorem marktext_any (k : Int) (w : World) (hk : k ≤ 4611686018427387904) :
    Calls Tryz.prog 56 #[.int .i64 k] w fun e w' => e = .returned (.string (mt k)) ∧ Below w.heap.size w w' := by
  by_cases h0 : k ≤ 0
  · have HM : Hid (mt k = ⟨#[109, 48]⟩) := by unfold Hid mt; rw [if_pos h0]
    go_enter Tryz.func56, Tryz.ntmps56
    go_wp2
    go_ret
    exact ⟨by rw [HM.out]; rfl, Below.refl _ _⟩
  · obtain ⟨n, rfl⟩ := Int.eq_ofNat_of_zero_le (show 0 ≤ k by omega)
    have HM : Hid (mt n = ⟨#[109]⟩ ++ mtGo n n ⟨#[]⟩) := by unfold Hid mt; rw [if_neg h0]; rfl
    go_enter Tryz.func56, Tryz.ntmps56
    go_wp2
    go_loopw [0, 3] (fun q s wr => ∃ (f j : Nat) (t : ByteArray), q = .int .i64 j ∧ s = .string t ∧ j ≤ f ∧ t.size + j ≤ n ∧ Hid (mtGo n n ⟨#[]⟩ = mtGo f j t) ∧ Below w.heap.size w wr) (fun q _ _ => (intOf q).toNat)
    case atStart => exact ⟨n, n, ⟨#[]⟩, rfl, rfl, by omega, by show 0 + n ≤ n; omega, rfl, Below.refl _ _⟩
    case round =>
      obtain ⟨f, j, t, rfl, rfl, hjf, hjn, HG, hb⟩ := hrel
      by_cases hj : 0 < j
      · go_wp2_with (refine wpList_bytes_text _ rfl _ 51 9 5 rfl Tryz.underlying51 Tryz.underlying9 Tryz.underlying5 (some ⟨wr.heap.size, 0, none⟩) 1 1 [48 + (j : Int) % 10] rfl rfl ?_ ?_)
        · intro _
          refine ⟨_, 0, rfl, fun i hi => ?_⟩
          have hi0 : i = 0 := by omega
          subst hi0
          simp
        · exfalso
          have hd := digit_size (48 + (j : Int) % 10)
          omega
        · have hB := hb.alloc hb.size (Obj.cells #[Value.int .u8 (48 + (j : Int) % 10)] 5)
          refine ⟨⟨f - 1, j / 10, _, by rw [Int.natCast_ediv]; rfl, rfl, by omega, ?_, ?_, hB⟩, by simp [intOf]; omega⟩
          · rw [ByteArray.size_append, digit_size]; omega
          · unfold Hid
            rw [HG.out, mtGo_step f j t hj hjf]
      · have hj0 : j = 0 := by omega
        subst hj0
        have hcat : ¬ 9223372036854775807 < (⟨#[109]⟩ : ByteArray).size + t.size := by
          have e : (⟨#[109]⟩ : ByteArray).size = 1 := rfl
          rw [e]; omega
        go_wp2
        go_ret
        refine ⟨?_, hb⟩
        rw [HM.out, HG.out, mtGo_end]
        rfl
end Go.Proofs.YtaojlmoppbknbaaGreatDoor

/-
  What MachinePack answers, and the contracts of both MachinePack. No condition.
-/
namespace Go.Proofs.YtaojlmoppbknbaaGreatDoor
open Go.RowKit

def mpN (M : Mc) : List Int := [M.p, M.t, M.q, M.s, M.e, M.d, M.r]
def mpL (xs : List Nd) (m : Mc) : List Int := (mpN (tdM xs m)).flatMap encI ++ wireL (tdL xs m)
def mpR (ns : List Nd) (is : List In) (ds : List Df) (xs : List Nd) (m : Mc) : ByteArray := if machB ns is ds xs m then strOfNums (mpL xs m) else ByteArray.empty

theorem machB_parts {ns : List Nd} {is : List In} {ds : List Df} {xs : List Nd} {m : Mc} (h : machB ns is ds xs m = true) : poolB xs = true ∧ allI xs (tdR m) = true ∧ m.p ≤ 400 ∧ m.t ≤ 3 ∧ m.q ≤ 19 ∧ m.r ≤ 3000 := by
  simp only [machB, Bool.and_eq_true] at h
  obtain ⟨⟨⟨hc, hp⟩, ha⟩, hs⟩ := h
  have hl := pool_small hp
  have hi : is.length ≤ 400 := by simp only [codeB, Bool.and_eq_true, decide_eq_true_eq] at hc; exact hc.1.2.1
  refine ⟨hp, ?_⟩
  unfold stateB at hs
  split at hs
  · rename_i h0
    simp only [placeB, Bool.and_eq_true, decide_eq_true_eq] at hs
    refine ⟨?_, by omega, by omega, by omega, by omega⟩
    unfold tdR argB
    simpa [h0] using ha
  · split at hs
    · rename_i h0
      simp only [placeB, askB, hasI, Bool.and_eq_true, decide_eq_true_eq] at hs
      refine ⟨?_, by omega, by omega, by omega, by omega⟩
      unfold tdR argB
      simp only [allI, List.all_cons, List.all_nil, Bool.and_true, Bool.and_eq_true, hasI, decide_eq_true_eq] at ha
      simp [h0, allI, hasI]
      omega
    · split at hs
      · rename_i h0
        simp only [hasI, Bool.and_eq_true, decide_eq_true_eq] at hs
        refine ⟨?_, by omega, by omega, by omega, by omega⟩
        unfold tdR argB
        simp only [allI, List.all_cons, List.all_nil, Bool.and_true, Bool.and_eq_true, hasI, decide_eq_true_eq] at ha
        simp [h0, allI, hasI]
        omega
      · split at hs
        · rename_i h0
          simp only [Bool.and_eq_true, decide_eq_true_eq] at hs
          refine ⟨?_, by omega, by omega, by omega, by omega⟩
          unfold tdR argB
          simpa [h0] using ha
        · cases hs

theorem tdF_small (xs : List Nd) (m : Mc) (hp : poolB xs = true) (ha : allI xs (tdR m) = true) (r : Int) (hr : r ∈ tdR m) : tdF xs m r ≤ 3000 := by
  have hl := pool_small hp
  have hh : hasI xs r = true := by
    unfold allI at ha
    exact List.all_eq_true.1 ha r hr
  simp only [hasI, Bool.and_eq_true, decide_eq_true_eq] at hh
  have ht := reach_root xs (tdR m) r hr hh.1 hh.2
  have I := mv_all 0 xs (reachL xs (tdR m)) (fun i x h => poolB_at hp h) (reach_closed xs (tdR m) (fun i x h => poolB_at hp h))
  obtain ⟨x, hx⟩ : ∃ x, xs[r.toNat]? = some x := ⟨xs[r.toNat]'(by omega), by simp⟩
  obtain ⟨p, e1, e2, _⟩ := I.at_ r.toNat x (by omega) hx ht
  unfold tdF
  rw [e1]
  omega
theorem td_small {ns : List Nd} {is : List In} {ds : List Df} {xs : List Nd} {m : Mc} (h : machB ns is ds xs m = true) : (∀ z ∈ mpN (tdM xs m), z ≤ 9223372036854775807) ∧ (∀ x ∈ tdL xs m, NdOk x) ∧ (tdL xs m).length ≤ 3000 := by
  obtain ⟨hp, ha, h1, h2, h3, h4⟩ := machB_parts h
  have hl := pool_small hp
  have hok : tdOk xs m = true := by unfold tdOk; rw [hp, ha]; rfl
  have hm := mvN_len 0 xs (tdR m)
  refine ⟨?_, ?_, ?_⟩
  · have e1 := tdF_small xs m hp ha m.s (by unfold tdR; split <;> simp)
    have e2 := tdF_small xs m hp ha m.e (by unfold tdR; split <;> simp)
    have e3 := tdF_small xs m hp ha m.d (by unfold tdR; split <;> simp)
    have e4 : (if argB m then tdF xs m m.r else m.r) ≤ 3000 := by
      split
      · rename_i hA; exact tdF_small xs m hp ha m.r (by unfold tdR; rw [if_pos hA]; simp)
      · exact h4
    intro z hz
    unfold mpN tdM at hz
    rw [hok, if_pos rfl] at hz
    simp only [List.mem_cons, List.not_mem_nil, or_false] at hz
    rcases hz with rfl | rfl | rfl | rfl | rfl | rfl | rfl <;> omega
  · unfold tdL
    rw [hok, if_pos rfl]
    exact mv_right 0 xs (tdR m) hp (by omega)
  · unfold tdL
    rw [hok, if_pos rfl]
    omega
theorem mpN_len (M : Mc) : ((mpN M).flatMap encI).length ≤ 63 := nums_len (mpN M)

end Go.Proofs.YtaojlmoppbknbaaGreatDoor
