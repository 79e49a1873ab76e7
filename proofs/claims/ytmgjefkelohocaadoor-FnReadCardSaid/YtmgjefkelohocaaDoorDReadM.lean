/-
  Texts that stood by themselves, laid into one.
-/
import Derived.Test.YtmgjefkelohocaaDoorBsM
import Derived.Deep.LoopGhost
import Derived.Test.YtmgjefkelohocaaDoorDraw7M
import Derived.Test.YtmgjefkelohocaaDoorSSizeM
import Derived.Deep.CutRange
import Derived.Deep.DeepCutAuto
/-
  The contract of spec.l3Digits: a number's digits are those of strconv.Itoa. No condition beyond its size.
-/
namespace Go.Proofs.YtmgjefkelohocaaDoor
open Go.RowKit

/-- A text of bytes. -/
def tx (l : List UInt8) : ByteArray := ⟨l.toArray⟩
theorem tx_list (l : List UInt8) : (tx l).data.toList = l := by simp [tx]
theorem tx_size (l : List UInt8) : (tx l).size = l.length := by simp [tx, ByteArray.size]
theorem tx_append (a b : List UInt8) : tx a ++ tx b = tx (a ++ b) := by
  apply ByteArray.ext
  simp [tx, ByteArray.data_append]
theorem retS {a b : ByteArray} (h : a = b) : Ending.returned (.string a) = .returned (.string b) := by rw [h]
theorem addS (a b : List UInt8) (w : World) (h : a.length + b.length ≤ 1000000) : (Op.stringOp .add (tx a) (tx b)).run Tryd.prog w = .ok (.string (tx (a ++ b))) w := by
  rw [run_string_add_sum w _ _ (by rw [tx_size, tx_size]; omega), tx_append]

theorem digit_tx (j : Nat) : strOfNums [48 + (j : Int) % 10] = tx [UInt8.ofNat (48 + j % 10)] := by
  have e : (48 + (j : Int) % 10).toNat = 48 + j % 10 := by omega
  apply ByteArray.ext
  simp [strOfNums, tx, e]
theorem mtGo_dec : ∀ (f k : Nat) (l : List UInt8), 0 < k → k ≤ f → mtGo f k (tx l) = tx (Lib.decDigits k ++ l) := by
  intro f
  induction f with
  | zero => intro k l h0 h; omega
  | succ f ih =>
    intro k l h0 h
    rw [mtGo, if_neg (by omega), digit_tx, tx_append, Lib.decDigits]
    by_cases h10 : k < 10
    · rw [dif_pos h10, show k / 10 = 0 by omega, mtGo_end, show k % 10 = k by omega]
    · rw [dif_neg h10, ih (k / 10) _ (by omega) (by omega)]
      simp

set_option maxHeartbeats 800000 in
theorem sdigits_pos (n : Nat) (w : World) (hn : n ≤ 4611686018427387904) :
    Calls Tryd.prog 78 #[.int .i64 n] w fun e w' => e = .returned (.string (tx (Lib.decDigits n))) ∧ Below w.heap.size w w' := by
  by_cases h0 : n = 0
  · subst h0
    have HD : Hid (tx (Lib.decDigits 0) = ⟨#[48]⟩) := by unfold Hid; rw [Lib.decDigits]; rfl
    go_enter Tryd.func78, Tryd.ntmps78
    go_wp2
    go_ret
    exact ⟨by rw [HD.out]; rfl, Below.refl _ _⟩
  · have HM : Hid (tx (Lib.decDigits n) = mtGo n n ⟨#[]⟩) := by
      unfold Hid
      have := mtGo_dec n n [] (by omega) (Nat.le_refl _)
      rw [List.append_nil] at this
      exact this.symm
    have hne : ((n : Int) == 0) = false := by simp; omega
    have hnl : decide ((n : Int) < 0) = false := by simp
    go_enter Tryd.func78, Tryd.ntmps78
    go_wp2_with fail
    go_loopg [0, 3] n (fun j q s wr => ∃ (f : Nat) (t : ByteArray), q = .int .i64 j ∧ s = .string t ∧ j ≤ f ∧ t.size + j ≤ n ∧ mtGo n n ⟨#[]⟩ = mtGo f j t ∧ Below w.heap.size w wr)
    case atStart => exact ⟨n, ⟨#[]⟩, rfl, rfl, by omega, by show 0 + n ≤ n; omega, rfl, Below.refl _ _⟩
    case round =>
      obtain ⟨f, t, rfl, rfl, hjf, hjn, HG', hb⟩ := hrel
      have HG : Hid (mtGo n n ⟨#[]⟩ = mtGo f gk t) := HG'
      clear HG'
      by_cases hj : 0 < gk
      · have hd := digit_size (48 + (gk : Int) % 10)
        have hadd : ∀ w : World, (Op.stringOp .add (strOfNums [48 + (gk : Int) % 10]) t).run Tryd.prog w = .ok (.string (strOfNums [48 + (gk : Int) % 10] ++ t)) w := fun w => run_string_add_sum w _ _ (by rw [hd]; omega)
        go_wp2_with (refine wpList_bytes_text _ rfl _ 22 9 5 rfl Tryd.underlying22 Tryd.underlying9 Tryd.underlying5 (some ⟨wr.heap.size, 0, none⟩) 1 1 [48 + (gk : Int) % 10] rfl rfl ?_ ?_)
        · intro _
          refine ⟨_, 0, rfl, fun i hi => ?_⟩
          have hi0 : i = 0 := by omega
          subst hi0
          simp
        · have hB := hb.alloc hb.size (Obj.cells #[Value.int .u8 (48 + (gk : Int) % 10)] 5)
          go_roundg (gk / 10)
          case measure => omega
          case rel =>
            refine ⟨f - 1, _, by rw [Int.natCast_ediv]; rfl, rfl, by omega, ?_, ?_, hB⟩
            · rw [ByteArray.size_append, digit_size]; omega
            · rw [HG.out, mtGo_step f gk t hj hjf]
      · have hj0 : gk = 0 := by omega
        subst hj0
        go_wp2_with fail
        go_ret
        refine ⟨?_, hb⟩
        rw [HM.out, HG.out, mtGo_end]
        rfl

set_option maxHeartbeats 800000 in
theorem sdigits_any (n : Int) (w : World) (hn : -1000000000 ≤ n ∧ n ≤ 1000000000) :
    Calls Tryd.prog 78 #[.int .i64 n] w fun e w' => e = .returned (.string (tx (Lib.itoa n))) ∧ Below w.heap.size w w' := by
  by_cases h0 : n < 0
  · have HI : Hid (Lib.itoa n = [45] ++ Lib.decDigits n.natAbs) := by unfold Hid Lib.itoa; rw [if_pos h0]; rfl
    have hlen := dec_len 9 n.natAbs (by omega)
    have hadd : ∀ w : World, (Op.stringOp .add ⟨#[45]⟩ (tx (Lib.decDigits n.natAbs))).run Tryd.prog w = .ok (.string (tx ([45] ++ Lib.decDigits n.natAbs))) w := fun w => addS [45] _ w (by simp; omega)
    have hm := sdigits_pos n.natAbs w (by omega)
    rw [show ((n.natAbs : Nat) : Int) = -n by omega] at hm
    clear hlen
    generalize Lib.decDigits n.natAbs = dd at *
    go_enter Tryd.func78, Tryd.ntmps78
    go_wp2_with fail
    refine hm.mono ?_
    rintro e w1 ⟨rfl, hb1⟩
    go_wp2_with fail
    go_ret
    exact ⟨retS (by rw [HI.out]; rfl), hb1⟩
  · obtain ⟨m, rfl⟩ := Int.eq_ofNat_of_zero_le (show 0 ≤ n by omega)
    have HI : Hid (Lib.itoa (m : Int) = Lib.decDigits m) := by unfold Hid Lib.itoa; rw [if_neg h0]; rfl
    rw [HI.out]
    exact sdigits_pos m w (by omega)
end Go.Proofs.YtmgjefkelohocaaDoor

/-
  The contract of spec.l3DrawText: a text as a value may be written. No condition beyond how deep it is.
-/
namespace Go.Proofs.YtmgjefkelohocaaDoor
open Go.RowKit

theorem addB (a b : ByteArray) (w : World) (h : a.size + b.size ≤ 1000000) : (Op.stringOp .add a b).run Tryd.prog w = .ok (.string (a ++ b)) w := by
  have e := addS a.data.toList b.data.toList w (by simpa using h)
  have t : ∀ c : ByteArray, tx c.data.toList = c := fun c => by apply ByteArray.ext; simp [tx]
  rw [t, t] at e
  rw [e]
  congr 2
def picks13 : List ByteArray := [⟨#[97]⟩, ⟨#[98, 99]⟩, ⟨#[49, 50]⟩, ⟨#[45, 51]⟩, ⟨#[48]⟩, ⟨#[35, 116]⟩, ⟨#[35, 102]⟩, ⟨#[40, 41]⟩, ⟨#[43]⟩, ⟨#[105, 102]⟩, ⟨#[120]⟩, ⟨#[110, 117, 108, 108, 63]⟩, ⟨#[49, 48, 48, 48, 48, 48, 48, 48, 48, 48]⟩]
theorem picks13_size : ∀ s ∈ picks13, s.size ≤ 10 := by decide
def picksB : List ByteArray := [⟨#[32]⟩, ⟨#[32]⟩, ⟨#[32, 32]⟩]
theorem picksB_size : ∀ s ∈ picksB, s.size ≤ 2 := by decide
/-- How long such a text may be. -/
def tB : Nat → Nat
  | 0 => 10
  | d + 1 => 12 + 4 * (tB d + 2)
theorem tB_le {d : Nat} (h : d ≤ 4) : tB d ≤ 5000 := by
  have : ∀ d, d ≤ 4 → tB d ≤ 5000 := by decide
  exact this d h
theorem tB_ge (d : Nat) : 10 ≤ tB d := by cases d <;> simp [tB] <;> omega

set_option maxRecDepth 100000 in
set_option maxHeartbeats 1600000 in
theorem dtext_any (w0 : World) (v : Value) (zs : List Int) (P : Nat) (d : Nat) (hd : d ≤ 4) : ∀ w, Cur w0 v zs w P →
    Calls Tryd.prog 42 #[.pointer (some ⟨P, 0, none⟩), .int .i64 d] w fun e w' => ∃ s : ByteArray, e = .returned (.string s) ∧ s.size ≤ tB d ∧ Cur w0 v zs w' P ∧ w.grownBy w' (some P) := by
  induction d with
  | zero =>
    intro w c
    have hP := c.lt
    have hB1 : Below w.heap.size w (w.alloc (Obj.cells (picks13.map Value.string).toArray 9)) := (Below.refl _ _).alloc (Nat.le_refl _) _
    go_enter Tryd.func42, Tryd.ntmps42
    go_wp2_with fail
    refine (picks_any w0 v zs _ P w.heap.size 13 picks13 (c.kept (hB1.mono (by omega))) (by omega) (by decide) (by decide) (fun i hi => strs_new w picks13 9 i hi)).mono ?_
    rintro e w2 ⟨s, hs, rfl, c2, g2⟩
    have hs10 := picks13_size s hs
    have g2' := draw_step hB1 g2
    go_wp2_with fail
    go_ret
    exact ⟨s, rfl, hs10, c2, g2'⟩
  | succ d ih =>
    intro w c
    have htB := tB_le (show d ≤ 4 by omega)
    have hd1 : ¬ ((d + 1 : Nat) : Int) ≤ 0 := by omega
    have hd2 : ((d + 1 : Nat) : Int) - 1 = d := by omega
    go_enter Tryd.func42, Tryd.ntmps42
    go_wp2_with fail
    refine (once_any w0 v zs _ P 3 c (by omega)).mono ?_
    rintro e w1 ⟨b, rfl, c1, g1⟩
    have hP := c1.lt
    cases b with
    | true =>
      have hB1 : Below w1.heap.size w1 (w1.alloc (Obj.cells (picks13.map Value.string).toArray 9)) := (Below.refl _ _).alloc (Nat.le_refl _) _
      go_wp2_with fail
      refine (picks_any w0 v zs _ P w1.heap.size 13 picks13 (c1.kept (hB1.mono (by omega))) (by omega) (by decide) (by decide) (fun i hi => strs_new w1 picks13 9 i hi)).mono ?_
      rintro e w2 ⟨s, hs, rfl, c2, g2⟩
      have hs10 := picks13_size s hs
      have g2' := grown_trans g1 (draw_step hB1 g2)
      go_wp2_with fail
      go_ret
      exact ⟨s, rfl, Nat.le_trans hs10 (tB_ge _), c2, g2'⟩
    | false =>
      go_wp2_with fail
      refine (below_any w0 v zs _ P 5 c1 (by omega)).mono ?_
      rintro e w2 ⟨n, rfl, hn0, hn1, c2, g2⟩
      have hn := hn1 (by omega)
      have g2' := grown_trans g1 g2
      clear hn1 g1 g2 c1 hP
      go_wp2_with fail
      obtain ⟨T, hT⟩ : ∃ T, Hid (T = tB d + 2) := ⟨_, rfl⟩
      go_loopw [5, 7] (fun o i wr => ∃ (k : Nat) (so : ByteArray), (k : Int) ≤ n ∧ i = .int .i64 k ∧ o = .string so ∧ Hid (so.size ≤ 1 + k * T) ∧ Cur w0 v zs wr P ∧ w.grownBy wr (some P)) (fun _ i _ => (n - intOf i).toNat)
      case atStart => exact ⟨0, _, by omega, rfl, rfl, by unfold Hid; show 1 ≤ _; omega, c2, g2'⟩
      case round =>
        obtain ⟨k, so, hkn, rfl, rfl, hso, cr, gr⟩ := hrel
        have hPr := cr.lt
        have hso5 : so.size ≤ 21000 := by
          have h1 := hT.out
          have h2 := hso.out
          have h3 : k * T ≤ 4 * T := Nat.mul_le_mul_right T (by omega)
          omega
        by_cases hlt : (k : Int) < n
        · by_cases hk0 : k = 0
          case' pos =>
            subst hk0
            go_wp2_with fail
            refine (ih (by omega) _ cr).mono ?_
            rintro e w4 ⟨s, rfl, hs, c4, g4⟩
            have g4' := grown_trans gr g4
            have hadd : ∀ u : World, (Op.stringOp .add so s).run Tryd.prog u = .ok (.string (so ++ s)) u := fun u => addB so s u (by omega)
            have hsz : Hid ((so ++ s).size ≤ 1 + (0 + 1) * T) := by
              unfold Hid
              have := hT.out
              have := hso.out
              rw [ByteArray.size_append]
              omega
          case' neg =>
            have hk1 : (0 : Int) < k := by omega
            have hB1 : Below wr.heap.size wr (wr.alloc (Obj.cells (picksB.map Value.string).toArray 9)) := (Below.refl _ _).alloc (Nat.le_refl _) _
            go_wp2_with fail
            refine (picks_any w0 v zs _ P wr.heap.size 3 picksB (cr.kept (hB1.mono (by omega))) (by omega) (by decide) (by decide) (fun i hi => strs_new wr picksB 9 i hi)).mono ?_
            rintro e w3 ⟨s3, hs3, rfl, c3, g3⟩
            have hs2 := picksB_size s3 hs3
            have g3' := grown_trans gr (draw_step hB1 g3)
            clear hs3 g3 hB1
            have hadd3 : ∀ u : World, (Op.stringOp .add so s3).run Tryd.prog u = .ok (.string (so ++ s3)) u := fun u => addB so s3 u (by omega)
            go_wp2_with fail
            refine (ih (by omega) _ c3).mono ?_
            rintro e w4 ⟨s, rfl, hs, c4, g4⟩
            have g4' := grown_trans g3' g4
            have hadd : ∀ u : World, (Op.stringOp .add (so ++ s3) s).run Tryd.prog u = .ok (.string (so ++ s3 ++ s)) u := fun u => addB (so ++ s3) s u (by rw [ByteArray.size_append]; omega)
            have hsz : Hid ((so ++ s3 ++ s).size ≤ 1 + (k + 1) * T) := by
              unfold Hid
              have := hT.out
              have := hso.out
              rw [ByteArray.size_append, ByteArray.size_append, Nat.succ_mul]
              omega
          all_goals
            go_wp2_with fail
            go_roundw
            case rel => exact ⟨_, _, by omega, by first | rfl | go_num, rfl, hsz, c4, g4'⟩
            case measure => (simp [intOf] <;> omega)
        · have hk4 : k ≤ 4 := by omega
          have hsz : Hid ((so ++ (⟨#[41]⟩ : ByteArray)).size ≤ tB (d + 1)) := by
            unfold Hid
            have h1 := hT.out
            have h2 := hso.out
            have h3 : k * T ≤ 4 * T := Nat.mul_le_mul_right T hk4
            rw [ByteArray.size_append]
            have h4 : (⟨#[41]⟩ : ByteArray).size = 1 := rfl
            have h5 : tB (d + 1) = 12 + 4 * (tB d + 2) := rfl
            omega
          have hadd : ∀ u : World, (Op.stringOp .add so ⟨#[41]⟩).run Tryd.prog u = .ok (.string (so ++ (⟨#[41]⟩ : ByteArray))) u := fun u => addB so ⟨#[41]⟩ u (by have : (⟨#[41]⟩ : ByteArray).size = 1 := rfl; omega)
          go_wp2_with fail
          go_ret
          exact ⟨_, rfl, hsz.out, cr, gr⟩
end Go.Proofs.YtmgjefkelohocaaDoor

/-
  The contracts of spec.l3Dent and of the draws' DrawRead. No condition beyond how many bytes there are.
-/
namespace Go.Proofs.YtmgjefkelohocaaDoor
open Go.RowKit

set_option maxRecDepth 100000 in
set_option maxHeartbeats 3200000 in
theorem ddent_any (w0 : World) (v : Value) (zs : List Int) (w : World) (P g cap : Nat) (bits : List ByteArray) (s : ByteArray) (c : Cur w0 v zs w P) (hg : g ≠ P) (h1 : 1 ≤ bits.length) (h2 : bits.length ≤ 1048576)
    (hc : ∀ i, i < bits.length → w.cell? ⟨g, i, none⟩ = some (.string (bits.getD i ByteArray.empty))) (hb : ∀ x ∈ bits, x.size ≤ 10) (hs : s.size ≤ 100000) :
    Calls Tryd.prog 43 #[.pointer (some ⟨P, 0, none⟩), .string s, .slice (some ⟨g, 0, none⟩) bits.length cap] w fun e w' => ∃ s' : ByteArray, e = .returned (.string s') ∧ s'.size ≤ s.size + 10 ∧ Cur w0 v zs w' P ∧ w.grownBy w' (some P) := by
  have hgl := World.block_lt_of_cell? _ _ (hc 0 (by omega))
  have HC : Hid (∀ i, i < bits.length → w.cell? ⟨g, i, none⟩ = some (.string (bits.getD i ByteArray.empty))) := hc
  have HB : Hid (∀ x ∈ bits, x.size ≤ 10) := hb
  clear hc hb
  go_enter Tryd.func43, Tryd.ntmps43
  go_wp2_with fail
  refine (below_any w0 v zs _ P _ c (by omega)).mono ?_
  rintro e w1 ⟨x1, rfl, hx0, hx1, c1, g1⟩
  have hx := hx1 (by omega)
  obtain ⟨k, rfl⟩ := Int.eq_ofNat_of_zero_le hx0
  have hk : k ≤ s.size := by omega
  clear hx0 hx1 hx
  go_wp2_with fail
  refine (below_any w0 v zs _ P 3 c1 (by omega)).mono ?_
  rintro e w2 ⟨x2, rfl, hx0, hx1, c2, g2⟩
  have hx := hx1 (by omega)
  have g2' := grown_trans g1 g2
  have HC2 : Hid (∀ i, i < bits.length → w2.cell? ⟨g, i, none⟩ = some (.string (bits.getD i ByteArray.empty))) := fun i hi => (World.cell?_of_block (g2'.block g hgl (by simpa using hg))).trans (HC.out i hi)
  clear hx1 g1 g2 c1 HC
  have hsk : (s.extract 0 k).size ≤ s.size := by rw [ByteArray.size_extract]; omega
  by_cases e0 : x2 = 0
  · go_wp2_with fail
    go_ret
    exact ⟨_, rfl, by rw [ByteArray.size_extract]; omega, c2, g2'⟩
  · by_cases e1 : x2 = 1
    · obtain ⟨m, hm, hm2⟩ : ∃ m : Nat, Hid (min ((k : Int) + 1) (s.size : Int) = m) ∧ m ≤ s.size := ⟨min (k + 1) s.size, by unfold Hid; omega, by omega⟩
      have hsm : (s.extract m s.size).size ≤ s.size - m := by rw [ByteArray.size_extract]; omega
      have hkm : k ≤ m := by have := hm.out; omega
      have hwk : IntKind.i64.wrap ((k : Int) + 1) = (k : Int) + 1 := by rw [IntKind.wrap_i64]; omega
      have hsk2 : (s.extract 0 k).size ≤ k := by rw [ByteArray.size_extract]; omega
      go_wp2_with fail
      go_region_with (first
        | (go_at_call 64; refine (lmin_any _ _ _).mono ?_; rintro e w9 ⟨rfl, rfl⟩; (try rw [hwk]); rw [hm.out])
        | (go_at_call 70; refine (picks_any w0 v zs _ P g cap bits ?_ hg h1 h2 ?_).mono ?_; exact c2.kept ⟨rfl, rfl, rfl, Nat.le_refl _, fun _ _ => rfl⟩; exact fun i hi => HC2.out i hi; rintro e w3 ⟨s3, hs3, rfl, c3, g3⟩; have hs10 := HB.out s3 hs3; have g3' : w2.grownBy w3 (some P) := ⟨g3.os, g3.tape, g3.output, g3.size, g3.block⟩; have hadd1 : ∀ u : World, (Op.stringOp .add (s.extract 0 k) s3).run Tryd.prog u = .ok (.string (s.extract 0 k ++ s3)) u := fun u => addB _ _ u (by omega); have hadd2 : ∀ u : World, (Op.stringOp .add (s.extract 0 k ++ s3) (s.extract m s.size)).run Tryd.prog u = .ok (.string (s.extract 0 k ++ s3 ++ s.extract m s.size)) u := fun u => addB _ _ u (by rw [ByteArray.size_append]; omega)))
      all_goals
        go_wp2_with fail
        go_ret
        exact ⟨_, rfl, by rw [ByteArray.size_append, ByteArray.size_append]; omega, c3.kept ⟨rfl, rfl, rfl, Nat.le_refl _, fun _ _ => rfl⟩, grown_trans g2' ⟨g3'.os, g3'.tape, g3'.output, g3'.size, g3'.block⟩⟩
    · have hsm : (s.extract k s.size).size ≤ s.size - k := by rw [ByteArray.size_extract]; omega
      have hsk2 : (s.extract 0 k).size ≤ k := by rw [ByteArray.size_extract]; omega
      go_wp2_with fail
      go_region_with (first
        | (go_at_call 70; refine (picks_any w0 v zs _ P g cap bits ?_ hg h1 h2 ?_).mono ?_; exact c2.kept ⟨rfl, rfl, rfl, Nat.le_refl _, fun _ _ => rfl⟩; exact fun i hi => HC2.out i hi; rintro e w3 ⟨s3, hs3, rfl, c3, g3⟩; have hs10 := HB.out s3 hs3; have g3' : w2.grownBy w3 (some P) := ⟨g3.os, g3.tape, g3.output, g3.size, g3.block⟩; have hadd1 : ∀ u : World, (Op.stringOp .add (s.extract 0 k) s3).run Tryd.prog u = .ok (.string (s.extract 0 k ++ s3)) u := fun u => addB _ _ u (by omega); have hadd2 : ∀ u : World, (Op.stringOp .add (s.extract 0 k ++ s3) (s.extract k s.size)).run Tryd.prog u = .ok (.string (s.extract 0 k ++ s3 ++ s.extract k s.size)) u := fun u => addB _ _ u (by rw [ByteArray.size_append]; omega)))
      all_goals
        go_wp2_with fail
        go_ret
        exact ⟨_, rfl, by rw [ByteArray.size_append, ByteArray.size_append]; omega, c3.kept ⟨rfl, rfl, rfl, Nat.le_refl _, fun _ _ => rfl⟩, grown_trans g2' ⟨g3'.os, g3'.tape, g3'.output, g3'.size, g3'.block⟩⟩
end Go.Proofs.YtmgjefkelohocaaDoor
