/-
  Texts that stood by themselves, laid into one.
-/
import Derived.Test.YtmbomhcnmjhbnaaGreatDoorBsM
import Derived.Deep.LoopGhost
import Derived.Test.YtmbomhcnmjhbnaaGreatDoorTo2M
/-
  The contract of spec.l3Digits: a number's digits are those of strconv.Itoa. No condition beyond its size.
-/
namespace Go.Proofs.YtmbomhcnmjhbnaaGreatDoor
open Go.RowKit

/-- A text of bytes. -/
def tx (l : List UInt8) : ByteArray := ⟨l.toArray⟩
theorem tx_list (l : List UInt8) : (tx l).data.toList = l := by simp [tx]
theorem tx_size (l : List UInt8) : (tx l).size = l.length := by simp [tx, ByteArray.size]
theorem tx_append (a b : List UInt8) : tx a ++ tx b = tx (a ++ b) := by
  apply ByteArray.ext
  simp [tx, ByteArray.data_append]
theorem retS {a b : ByteArray} (h : a = b) : Ending.returned (.string a) = .returned (.string b) := by rw [h]
theorem addS (a b : List UInt8) (w : World) (h : a.length + b.length ≤ 1000000) : (Op.stringOp .add (tx a) (tx b)).run Tryz.prog w = .ok (.string (tx (a ++ b))) w := by
  rw [run_string_add_sum w _ _ (by rw [tx_size, tx_size]; omega), tx_append]

theorem digit_tx (j : Nat) : strOfNums [48 + (j : Int) % 10] = tx [UInt8.ofNat (48 + j % 10)] := by
  have e : (48 + (j : Int) % 10).toNat = 48 + j % 10 := by omega
  apply ByteArray.ext
  simp [strOfNums, tx, e]
theorem mtGo_dec : ∀ (f k : Nat) (l : List UInt8), 0 < k → k ≤ f → mtGo f k (tx l) = tx (Lib.decDigits k ++ l) := by
  intro f
  induction f with
  | zero => intro k l h0 h; omega
  | succ f ih =>
    intro k l h0 h
    rw [mtGo, if_neg (by omega), digit_tx, tx_append, Lib.decDigits]
    by_cases h10 : k < 10
    · rw [dif_pos h10, show k / 10 = 0 by omega, mtGo_end, show k % 10 = k by omega]
    · rw [dif_neg h10, ih (k / 10) _ (by omega) (by omega)]
      simp

set_option maxHeartbeats 800000 in
theorem sdigits_pos (n : Nat) (w : World) (hn : n ≤ 4611686018427387904) :
    Calls Tryz.prog 113 #[.int .i64 n] w fun e w' => e = .returned (.string (tx (Lib.decDigits n))) ∧ Below w.heap.size w w' := by
  by_cases h0 : n = 0
  · subst h0
    have HD : Hid (tx (Lib.decDigits 0) = ⟨#[48]⟩) := by unfold Hid; rw [Lib.decDigits]; rfl
    go_enter Tryz.func113, Tryz.ntmps113
    go_wp2
    go_ret
    exact ⟨by rw [HD.out]; rfl, Below.refl _ _⟩
  · have HM : Hid (tx (Lib.decDigits n) = mtGo n n ⟨#[]⟩) := by
      unfold Hid
      have := mtGo_dec n n [] (by omega) (Nat.le_refl _)
      rw [List.append_nil] at this
      exact this.symm
    have hne : ((n : Int) == 0) = false := by simp; omega
    have hnl : decide ((n : Int) < 0) = false := by simp
    go_enter Tryz.func113, Tryz.ntmps113
    go_wp2_with fail
    go_loopg [0, 3] n (fun j q s wr => ∃ (f : Nat) (t : ByteArray), q = .int .i64 j ∧ s = .string t ∧ j ≤ f ∧ t.size + j ≤ n ∧ mtGo n n ⟨#[]⟩ = mtGo f j t ∧ Below w.heap.size w wr)
    case atStart => exact ⟨n, ⟨#[]⟩, rfl, rfl, by omega, by show 0 + n ≤ n; omega, rfl, Below.refl _ _⟩
    case round =>
      obtain ⟨f, t, rfl, rfl, hjf, hjn, HG', hb⟩ := hrel
      have HG : Hid (mtGo n n ⟨#[]⟩ = mtGo f gk t) := HG'
      clear HG'
      by_cases hj : 0 < gk
      · have hd := digit_size (48 + (gk : Int) % 10)
        have hadd : ∀ w : World, (Op.stringOp .add (strOfNums [48 + (gk : Int) % 10]) t).run Tryz.prog w = .ok (.string (strOfNums [48 + (gk : Int) % 10] ++ t)) w := fun w => run_string_add_sum w _ _ (by rw [hd]; omega)
        go_wp2_with (refine wpList_bytes_text _ rfl _ 22 9 5 rfl Tryz.underlying22 Tryz.underlying9 Tryz.underlying5 (some ⟨wr.heap.size, 0, none⟩) 1 1 [48 + (gk : Int) % 10] rfl rfl ?_ ?_)
        · intro _
          refine ⟨_, 0, rfl, fun i hi => ?_⟩
          have hi0 : i = 0 := by omega
          subst hi0
          simp
        · have hB := hb.alloc hb.size (Obj.cells #[Value.int .u8 (48 + (gk : Int) % 10)] 5)
          go_roundg (gk / 10)
          case measure => omega
          case rel =>
            refine ⟨f - 1, _, by rw [Int.natCast_ediv]; rfl, rfl, by omega, ?_, ?_, hB⟩
            · rw [ByteArray.size_append, digit_size]; omega
            · rw [HG.out, mtGo_step f gk t hj hjf]
      · have hj0 : gk = 0 := by omega
        subst hj0
        go_wp2_with fail
        go_ret
        refine ⟨?_, hb⟩
        rw [HM.out, HG.out, mtGo_end]
        rfl

set_option maxHeartbeats 800000 in
theorem sdigits_any (n : Int) (w : World) (hn : -1000000000 ≤ n ∧ n ≤ 1000000000) :
    Calls Tryz.prog 113 #[.int .i64 n] w fun e w' => e = .returned (.string (tx (Lib.itoa n))) ∧ Below w.heap.size w w' := by
  by_cases h0 : n < 0
  · have HI : Hid (Lib.itoa n = [45] ++ Lib.decDigits n.natAbs) := by unfold Hid Lib.itoa; rw [if_pos h0]; rfl
    have hlen := dec_len 9 n.natAbs (by omega)
    have hadd : ∀ w : World, (Op.stringOp .add ⟨#[45]⟩ (tx (Lib.decDigits n.natAbs))).run Tryz.prog w = .ok (.string (tx ([45] ++ Lib.decDigits n.natAbs))) w := fun w => addS [45] _ w (by simp; omega)
    have hm := sdigits_pos n.natAbs w (by omega)
    rw [show ((n.natAbs : Nat) : Int) = -n by omega] at hm
    clear hlen
    generalize Lib.decDigits n.natAbs = dd at *
    go_enter Tryz.func113, Tryz.ntmps113
    go_wp2_with fail
    refine hm.mono ?_
    rintro e w1 ⟨rfl, hb1⟩
    go_wp2_with fail
    go_ret
    exact ⟨retS (by rw [HI.out]; rfl), hb1⟩
  · obtain ⟨m, rfl⟩ := Int.eq_ofNat_of_zero_le (show 0 ≤ n by omega)
    have HI : Hid (Lib.itoa (m : Int) = Lib.decDigits m) := by unfold Hid Lib.itoa; rw [if_neg h0]; rfl
    rw [HI.out]
    exact sdigits_pos m w (by omega)
end Go.Proofs.YtmbomhcnmjhbnaaGreatDoor

/-
  The contract of spec.l3DrawText: a text as a value may be written. No condition beyond how deep it is.
-/
namespace Go.Proofs.YtmbomhcnmjhbnaaGreatDoor
open Go.RowKit

theorem addB (a b : ByteArray) (w : World) (h : a.size + b.size ≤ 1000000) : (Op.stringOp .add a b).run Tryz.prog w = .ok (.string (a ++ b)) w := by
  have e := addS a.data.toList b.data.toList w (by simpa using h)
  have t : ∀ c : ByteArray, tx c.data.toList = c := fun c => by apply ByteArray.ext; simp [tx]
  rw [t, t] at e
  rw [e]
  congr 2
def picks13 : List ByteArray := [⟨#[97]⟩, ⟨#[98, 99]⟩, ⟨#[49, 50]⟩, ⟨#[45, 51]⟩, ⟨#[48]⟩, ⟨#[35, 116]⟩, ⟨#[35, 102]⟩, ⟨#[40, 41]⟩, ⟨#[43]⟩, ⟨#[105, 102]⟩, ⟨#[120]⟩, ⟨#[110, 117, 108, 108, 63]⟩, ⟨#[49, 48, 48, 48, 48, 48, 48, 48, 48, 48]⟩]
theorem picks13_size : ∀ s ∈ picks13, s.size ≤ 10 := by decide
def picksB : List ByteArray := [⟨#[32]⟩, ⟨#[32]⟩, ⟨#[32, 32]⟩]
theorem picksB_size : ∀ s ∈ picksB, s.size ≤ 2 := by decide
/-- How long such a text may be. -/
def tB : Nat → Nat
  | 0 => 10
  | d + 1 => 12 + 4 * (tB d + 2)
theorem tB_le {d : Nat} (h : d ≤ 4) : tB d ≤ 5000 := by
  have : ∀ d, d ≤ 4 → tB d ≤ 5000 := by decide
  exact this d h
theorem tB_ge (d : Nat) : 10 ≤ tB d := by cases d <;> simp [tB] <;> omega

end Go.Proofs.YtmbomhcnmjhbnaaGreatDoor

/-
  Helpers: an instruction as 4 cells, a slice of these read as a list, and the contracts of the laws' helpers on them. No condition.
-/
namespace Go.Proofs.YtmbomhcnmjhbnaaGreatDoor
open Go.RowKit

structure In where
  o : Int
  n : Int
  i : Int
  s : ByteArray

def In.cs (x : In) : List Value := [.int .i64 x.o, .int .i64 x.n, .int .i64 x.i, .string x.s]
def incs (xs : List In) : List Value := xs.flatMap In.cs

theorem incs_nil : incs [] = [] := rfl
theorem incs_cons (x : In) (xs : List In) : incs (x :: xs) = x.cs ++ incs xs := rfl
theorem incs_append (a b : List In) : incs (a ++ b) = incs a ++ incs b := by simp [incs]
theorem incs_length (xs : List In) : (incs xs).length = xs.length * 4 := by
  induction xs with
  | nil => rfl
  | cons x xs ih => rw [incs_cons, List.length_append, ih, List.length_cons]; simp [In.cs]; omega
theorem incs_get (xs : List In) (i : Nat) (x : In) (h : xs[i]? = some x) (j : Nat) (hj : j < 4) : (incs xs)[i * 4 + j]? = x.cs[j]? := by
  induction xs generalizing i with
  | nil => simp at h
  | cons y ys ih =>
    rw [incs_cons]
    cases i with
    | zero =>
      simp at h; subst h
      rw [Nat.zero_mul, Nat.zero_add, List.getElem?_append_left (by simpa [In.cs] using hj)]
    | succ i =>
      rw [List.getElem?_append_right (by simp [In.cs]; omega)]
      rw [show (i + 1) * 4 + j - y.cs.length = i * 4 + j by simp [In.cs]; omega]
      exact ih i (by simpa using h)

theorem incs_set (xs : List In) (i : Nat) (x x' : In) (h : xs[i]? = some x) (j : Nat) (hj : j < 4) (u : Value) (e : x.cs.set j u = x'.cs) : (incs xs).set (i * 4 + j) u = incs (xs.set i x') := by
  induction xs generalizing i with
  | nil => simp at h
  | cons y ys ih =>
    rw [incs_cons]
    cases i with
    | zero =>
      simp at h; subst h
      rw [Nat.zero_mul, Nat.zero_add, List.set_append_left _ _ (by simpa [In.cs] using hj), e]
      rfl
    | succ i =>
      rw [List.set_append_right _ _ (by simp [In.cs]; omega)]
      rw [show (i + 1) * 4 + j - y.cs.length = i * 4 + j by simp [In.cs]; omega, ih i (by simpa using h)]
      rfl
theorem incs_set0 (xs : List In) (i : Nat) (x x' : In) (h : xs[i]? = some x) (u : Value) (e : x.cs.set 0 u = x'.cs) : (incs xs).set (i * 4) u = incs (xs.set i x') :=
  incs_set xs i x x' h 0 (by omega) u e
theorem In.one (x : In) : ∀ u ∈ x.cs, u.oneCell' = true := by
  intro u hu
  simp only [In.cs, List.mem_cons, List.not_mem_nil, or_false] at hu
  rcases hu with rfl | rfl | rfl | rfl <;> rfl
theorem incs_one (xs : List In) : ∀ u ∈ incs xs, u.oneCell' = true := by
  intro u hu
  simp only [incs, List.mem_flatMap] at hu
  obtain ⟨x, _, hx⟩ := hu
  exact x.one u hx

/-- The cells of x from the place o of block g on. -/
def InAt (w : World) (g o : Nat) (x : In) : Prop :=
  w.cell? ⟨g, o, none⟩ = some (.int .i64 x.o) ∧ w.cell? ⟨g, o + 1, none⟩ = some (.int .i64 x.n) ∧ w.cell? ⟨g, o + 2, none⟩ = some (.int .i64 x.i) ∧ w.cell? ⟨g, o + 3, none⟩ = some (.string x.s)

theorem InAt.below {w w' : World} {g o B : Nat} {x : In} (h : InAt w g o x) (hb : Below B w w') (hg : g < B) : InAt w' g o x :=
  ⟨(hb.cell (p := ⟨g, o, none⟩) hg).trans h.1, (hb.cell (p := ⟨g, o + 1, none⟩) hg).trans h.2.1, (hb.cell (p := ⟨g, o + 2, none⟩) hg).trans h.2.2.1, (hb.cell (p := ⟨g, o + 3, none⟩) hg).trans h.2.2.2⟩

/-- The slice value v reads in w as xs. -/
def InRow (w : World) (v : Value) (xs : List In) : Prop :=
  ∃ ao cap, v = .slice ao xs.length cap ∧ (xs.length ≤ cap ∧ (ao = none → cap = 0)) ∧ xs.length ≤ 9223372036854775807 ∧ (∀ x ∈ xs, x.s.size ≤ maxLen) ∧
    (xs ≠ [] → ∃ g o, ao = some ⟨g, o, none⟩ ∧ g < w.heap.size ∧ ∀ i x, xs[i]? = some x → InAt w g (o + i * 4) x)

theorem InRow.small {w : World} {v : Value} {xs : List In} (R : InRow w v xs) : ∃ ao cap, v = .slice ao xs.length cap := by
  obtain ⟨ao, cap, rfl, _⟩ := R
  exact ⟨ao, cap, rfl⟩

theorem InRow.below {w w' : World} {v : Value} {xs : List In} (h : InRow w v xs) (hb : Below w.heap.size w w') : InRow w' v xs := by
  obtain ⟨ao, cap, rfl, hc, hm, hz, hcell⟩ := h
  refine ⟨ao, cap, rfl, hc, hm, hz, fun hne => ?_⟩
  obtain ⟨g, o, rfl, hg, hcell⟩ := hcell hne
  exact ⟨g, o, rfl, Nat.lt_of_lt_of_le hg hb.size, fun i x hi => (hcell i x hi).below hb hg⟩

/-- What the call owns reads as what it holds. -/
theorem InRow.of_own {w : World} {base : Nat} {v : Value} {xs : List In} (h : w.ownsRow base 54 4 v xs.length (incs xs)) (hm : xs.length ≤ 9223372036854775807) (hz : ∀ x ∈ xs, x.s.size ≤ maxLen) : InRow w v xs := by
  rcases h.2 with ⟨rfl, h0⟩ | ⟨g, cap, cur, rfl, hb, hg, hnc, hcm, hcs, htake⟩
  · have : xs = [] := List.eq_nil_of_length_eq_zero h0
    subst this
    exact ⟨none, 0, rfl, by simp, by simp, by simp, fun h => absurd rfl h⟩
  · refine ⟨_, cap, rfl, ⟨hnc, fun h => by cases h⟩, hm, hz, fun _ => ⟨g, 0, rfl, (Array.getElem?_eq_some_iff.1 hg).1, fun i x hi => ?_⟩⟩
    have hl : i < xs.length := (List.getElem?_eq_some_iff.1 hi).1
    have e : ∀ j, j < 4 → w.cell? ⟨g, 0 + i * 4 + j, none⟩ = x.cs[j]? := fun j hj => by
      have := h.cellAt (i * 4 + j) (by omega)
      rw [Nat.zero_add, this, incs_get xs i x hi j hj]
    exact ⟨e 0 (by omega), e 1 (by omega), e 2 (by omega), e 3 (by omega)⟩

theorem Tryz.infoIn : (Tryz.prog.info? 54).map (fun i => (i.zero, i.size, i.bytes)) = some (some (.agg #[.int .i64 0, .int .i64 0, .int .i64 0, .string ByteArray.empty]), 4, 40) := by kernel_rfl
theorem Tryz.sizeIn : (Tryz.prog.info? 54).map (·.size) = some 4 := by kernel_rfl

/-- A record stored whole into the call's own row. -/
theorem wpList_store_in {ops : Array Oper} {rest : List Oper} {op : Oper} {a : Act} {w : World} {Q : Exit → Act → World → Prop} (hgd : op.guard = none) (x y : Operand) (ho : op.op = .store 54 x y)
    (base g i cap : Nat) (xs : List In) (nd : In) (hx : a.eval x = .pointer (some ⟨g, i * 4, none⟩)) (hy : a.eval y = .agg #[.int .i64 nd.o, .int .i64 nd.n, .int .i64 nd.i, .string nd.s])
    (hi : i < xs.length) (hown : w.ownsRow base 54 4 (.slice (some ⟨g, 0, none⟩) xs.length cap) xs.length (incs xs))
    (h : ∀ w2 : World, w2.ownsRow base 54 4 (.slice (some ⟨g, 0, none⟩) xs.length cap) xs.length (incs (xs.set i nd)) → w.grownBy w2 (some g) → wpList Tryz.prog ops Q rest (a.put op.dst undef) w2) : wpList Tryz.prog ops Q (op :: rest) a w := by
  have ht : w.there g (i * 4) 4 := fun j hj => by
    have := hown.cellAt (i * 4 + j) (by omega)
    refine ⟨?_, hown.frozenAt _⟩
    rw [this, List.getElem?_eq_getElem (by rw [incs_length]; omega)]
    rfl
  refine wpList_store_mid hgd 54 x y ho g (i * 4) _ hx hy ht Tryz.sizeIn (all_oneCell_toArray nd.one) ?_
  have e0 : xs[i]? = some xs[i] := List.getElem?_eq_getElem hi
  have get : ∀ y : In, (xs.set i y)[i]? = some y := fun y => by simp [hi]
  have s0 := hown.stored (i * 4) (.int .i64 nd.o)
  rw [incs_set0 xs i xs[i] ⟨nd.o, xs[i].n, xs[i].i, xs[i].s⟩ e0 _ rfl] at s0
  have s1 := s0.1.stored (i * 4 + 1) (.int .i64 nd.n)
  rw [incs_set (xs.set i ⟨nd.o, xs[i].n, xs[i].i, xs[i].s⟩) i ⟨nd.o, xs[i].n, xs[i].i, xs[i].s⟩ ⟨nd.o, nd.n, xs[i].i, xs[i].s⟩ (get _) 1 (by omega) (.int .i64 nd.n) rfl, List.set_set] at s1
  have s2 := s1.1.stored (i * 4 + 2) (.int .i64 nd.i)
  rw [incs_set (xs.set i ⟨nd.o, nd.n, xs[i].i, xs[i].s⟩) i ⟨nd.o, nd.n, xs[i].i, xs[i].s⟩ ⟨nd.o, nd.n, nd.i, xs[i].s⟩ (get _) 2 (by omega) (.int .i64 nd.i) rfl, List.set_set] at s2
  have s3 := s2.1.stored (i * 4 + 3) (.string nd.s)
  rw [incs_set (xs.set i ⟨nd.o, nd.n, nd.i, xs[i].s⟩) i ⟨nd.o, nd.n, nd.i, xs[i].s⟩ ⟨nd.o, nd.n, nd.i, nd.s⟩ (get _) 3 (by omega) (.string nd.s) rfl, List.set_set] at s3
  exact h _ s3.1 (((s0.2.trans s1.2).trans s2.2).trans s3.2)

/-- The first j of xs, and zero ones behind them. -/
def zeroIn : In := ⟨0, 0, 0, ByteArray.empty⟩
def incopied (xs : List In) (j : Nat) : List In := xs.take j ++ List.replicate (xs.length - j) zeroIn
theorem incopied_length (xs : List In) (j : Nat) (h : j ≤ xs.length) : (incopied xs j).length = xs.length := by simp [incopied]; omega
theorem incopied_full (xs : List In) : incopied xs xs.length = xs := by simp [incopied]
theorem incs_zeros (n : Nat) : incs (List.replicate n zeroIn) = (madeCells #[Value.int .i64 0, .int .i64 0, .int .i64 0, .string ByteArray.empty] (n * 4)).toList := by
  apply List.ext_getElem?
  intro j
  by_cases hj : j < n * 4
  · have hq : j / 4 < n := by omega
    rw [show j = j / 4 * 4 + j % 4 by omega, incs_get _ (j / 4) zeroIn (by simp [hq]) (j % 4) (by omega)]
    rw [show j / 4 * 4 + j % 4 = j by omega]
    have h5 : j % 4 = 0 ∨ j % 4 = 1 ∨ j % 4 = 2 ∨ j % 4 = 3 := by omega
    rcases h5 with h5 | h5 | h5 | h5 <;> simp [madeCells, hj, h5, zeroIn, In.cs]
  · rw [List.getElem?_eq_none (by rw [incs_length, List.length_replicate]; omega), List.getElem?_eq_none (by simp [madeCells]; omega)]
theorem incopied_zero (xs : List In) : incs (incopied xs 0) = (madeCells #[Value.int .i64 0, .int .i64 0, .int .i64 0, .string ByteArray.empty] (xs.length * 4)).toList := by
  rw [← incs_zeros]; simp [incopied]
theorem incopied_set (xs : List In) (j : Nat) (h : j < xs.length) : (incopied xs j).set j xs[j] = incopied xs (j + 1) := by
  unfold incopied
  rw [show xs.length - j = xs.length - (j + 1) + 1 by omega, List.replicate_succ, List.take_succ_eq_append_getElem h]
  rw [List.set_append_right _ _ (by simp; omega)]
  have e : j - (List.take j xs).length = 0 := by simp; omega
  rw [e, List.set_cons_zero, List.append_assoc]
  rfl

end Go.Proofs.YtmbomhcnmjhbnaaGreatDoor
