/-
  Texts that stood by themselves, laid into one.
-/
import Derived.Test.YtnhepegkjejfcaaDoorNameM
import Derived.Lib.ItoaNum
import Derived.Laws.BytesArg
import Derived.Lib.AppendStr
import Derived.Laws.IdiomStrings
import Derived.Deep.LoopGhost
import Derived.Test.YtnhepegkjejfcaaDoorKeyM
import Derived.Deep.RegionWith
/-
  How values are written, as lists of bytes. Nothing of the program; no condition.
-/
namespace Go.Proofs.YtnhepegkjejfcaaDoor
open Go.RowKit

theorem dec_len : ∀ (k u : Nat), u < 10 ^ (k + 1) → (Lib.decDigits u).length ≤ k + 1 := by
  intro k
  induction k with
  | zero => intro u h; rw [Lib.decDigits, dif_pos (by simpa using h)]; simp
  | succ k ih =>
    intro u h
    rw [Lib.decDigits]
    split
    · simp
    · have := ih (u / 10) (by rw [Nat.pow_succ] at h; omega)
      simp
      omega
theorem itoa_len {n : Int} (h : -1000000000 ≤ n ∧ n ≤ 1000000000) : (Lib.itoa n).length ≤ 11 := by
  unfold Lib.itoa
  split
  · have := dec_len 9 n.natAbs (by omega)
    simp; omega
  · have := dec_len 9 n.toNat (by omega)
    omega

/-- A node that is no pair, as it is written. -/
def wordL (x : Nd) : List UInt8 :=
  if x.k = 1 then [40, 41] else if x.k = 2 then (if x.n = 0 then [35, 102] else [35, 116]) else if x.k = 3 then Lib.itoa x.n
  else if x.k = 4 then x.s.data.toList else if x.k = 6 then [35, 102, 117, 110] ++ Lib.itoa x.n else if x.k = 7 then [35, 107, 111, 110, 116] ++ Lib.itoa x.n
  else if x.k = 8 then [35, 112, 114, 105, 109] ++ Lib.itoa x.n else if x.k = 9 then [35, 112, 105, 100] ++ Lib.itoa x.n else []

theorem wordL_len {x : Nd} (h : -1000000000 ≤ x.n ∧ x.n ≤ 1000000000) (hs : x.s.size ≤ 1000) : (wordL x).length ≤ 1100 := by
  have := itoa_len h
  have e : x.s.data.toList.length = x.s.size := by rw [Array.length_toList]; rfl
  unfold wordL
  split
  · simp
  · split
    · split <;> simp
    · split
      · omega
      · split
        · omega
        · split
          · simp; omega
          · split
            · simp; omega
            · split
              · simp; omega
              · split
                · simp; omega
                · simp

/-- The node v as it is written, and as it is written as the rest of a list. -/
def ft (xs : List Nd) : Nat → Nat → List UInt8 × List UInt8
  | 0, _ => ([], [])
  | f + 1, v => match xs[v]? with
    | none => ([], [])
    | some x => if x.k = 5 then ([40] ++ (ft xs f x.a.toNat).1 ++ (ft xs f x.b.toNat).2 ++ [41], [32] ++ (ft xs f x.a.toNat).1 ++ (ft xs f x.b.toNat).2)
      else (wordL x, if x.k = 1 then [] else [32, 46, 32] ++ wordL x)
def fullT (xs : List Nd) (v : Nat) : List UInt8 := (ft xs (v + 1) v).1
def restT (xs : List Nd) (v : Nat) : List UInt8 := (ft xs (v + 1) v).2

theorem nodesB_at {xs : List Nd} : ∀ {k i : Nat} {x : Nd}, nodesB xs k = true → xs[i]? = some x → nodeB x ((k + i : Nat) : Int) = true := by
  induction xs with
  | nil => intro k i x _ h; simp at h
  | cons y ys ih =>
    intro k i x h hx
    rw [nodesB, Bool.and_eq_true] at h
    cases i with
    | zero => simp at hx; subst hx; simpa using h.1
    | succ i =>
      have := ih (k := k + 1) (i := i) h.2 (by simpa using hx)
      rw [show k + (i + 1) = k + 1 + i by omega]
      exact this
theorem pool_at {xs : List Nd} (hp : poolB xs = true) {i : Nat} {x : Nd} (hx : xs[i]? = some x) : nodeB x (i : Int) = true := by
  simp only [poolB, Bool.and_eq_true] at hp
  have := nodesB_at hp.2 hx
  simpa using this
theorem pool_pair {xs : List Nd} (hp : poolB xs = true) {i : Nat} {x : Nd} (hx : xs[i]? = some x) (h5 : x.k = 5) : ∃ a b : Nat, x.a = a ∧ x.b = b ∧ a < i ∧ b < i := by
  have h := pool_at hp hx
  simp only [nodeB, Bool.and_eq_true, partB, hasA, hasB, h5] at h
  obtain ⟨_, ⟨_, hA⟩, hB⟩ := h
  simp only [true_or, decide_true, if_true, Bool.and_eq_true, decide_eq_true_eq] at hA hB
  exact ⟨x.a.toNat, x.b.toNat, by omega, by omega, by omega, by omega⟩
theorem lo_ge (k : Int) : -1000000000 ≤ lo k := by unfold lo; split <;> decide
theorem hi_le (k : Int) : hi k ≤ 1000000000 := by
  unfold hi
  split
  · decide
  · split
    · decide
    · split <;> decide
theorem pool_num {xs : List Nd} (hp : poolB xs = true) {i : Nat} {x : Nd} (hx : xs[i]? = some x) : (1 ≤ x.k ∧ x.k ≤ 9) ∧ (-1000000000 ≤ x.n ∧ x.n ≤ 1000000000) := by
  have h := pool_at hp hx
  simp only [nodeB, Bool.and_eq_true, decide_eq_true_eq] at h
  obtain ⟨⟨⟨⟨h1, h2⟩, h3⟩, h4⟩, _⟩ := h
  exact ⟨⟨h1, h2⟩, Int.le_trans (lo_ge _) h3, Int.le_trans h4 (hi_le _)⟩

theorem ft_fuel {xs : List Nd} (hp : poolB xs = true) : ∀ (v f : Nat), v < f → ft xs f v = ft xs (v + 1) v := by
  intro v
  induction v using Nat.strongRecOn with
  | _ v ih =>
    intro f hf
    cases f with
    | zero => omega
    | succ f =>
      rw [ft, ft]
      cases hx : xs[v]? with
      | none => rfl
      | some x =>
        dsimp only
        by_cases h5 : x.k = 5
        · obtain ⟨a, b, ha, hb, hal, hbl⟩ := pool_pair hp hx h5
          rw [if_pos h5, if_pos h5, ha, hb, Int.toNat_natCast, Int.toNat_natCast, ih a hal f (by omega), ih b hbl f (by omega), ih a hal v hal, ih b hbl v hbl]
        · rw [if_neg h5, if_neg h5]
theorem fullT_pair {xs : List Nd} (hp : poolB xs = true) {v : Nat} {x : Nd} (hx : xs[v]? = some x) (h5 : x.k = 5) {a b : Nat} (ha : x.a = a) (hb : x.b = b) (hal : a < v) (hbl : b < v) : fullT xs v = [40] ++ fullT xs a ++ restT xs b ++ [41] := by
  rw [fullT, ft, hx]
  dsimp only
  rw [if_pos h5, ha, hb, Int.toNat_natCast, Int.toNat_natCast, ft_fuel hp a v hal, ft_fuel hp b v hbl]
  rfl
theorem restT_pair {xs : List Nd} (hp : poolB xs = true) {v : Nat} {x : Nd} (hx : xs[v]? = some x) (h5 : x.k = 5) {a b : Nat} (ha : x.a = a) (hb : x.b = b) (hal : a < v) (hbl : b < v) : restT xs v = [32] ++ fullT xs a ++ restT xs b := by
  rw [restT, ft, hx]
  dsimp only
  rw [if_pos h5, ha, hb, Int.toNat_natCast, Int.toNat_natCast, ft_fuel hp a v hal, ft_fuel hp b v hbl]
  rfl
theorem fullT_word {xs : List Nd} {v : Nat} {x : Nd} (hx : xs[v]? = some x) (h5 : ¬ x.k = 5) : fullT xs v = wordL x := by
  rw [fullT, ft, hx]
  dsimp only
  rw [if_neg h5]
theorem restT_nil {xs : List Nd} {v : Nat} {x : Nd} (hx : xs[v]? = some x) (h1 : x.k = 1) : restT xs v = [] := by
  rw [restT, ft, hx]
  dsimp only
  rw [if_neg (by omega), if_pos h1]
theorem restT_word {xs : List Nd} {v : Nat} {x : Nd} (hx : xs[v]? = some x) (h5 : ¬ x.k = 5) (h1 : ¬ x.k = 1) : restT xs v = [32, 46, 32] ++ wordL x := by
  rw [restT, ft, hx]
  dsimp only
  rw [if_neg h5, if_neg h1]
end Go.Proofs.YtnhepegkjejfcaaDoor

/-
  The law of a slice of bytes turned into a text, and the laws' own markText: the same text at the same number, in whatever world. Nothing else of the program; no condition.
-/
namespace Go.Proofs.YtnhepegkjejfcaaDoor
open Go.RowKit

/-- A slice of bytes turned into a text. -/
theorem wpList_bytes_text {P : Program} (w : World) {ops : Array Oper} {rest : List Oper} {o : Oper} {a : Act} {Q : Exit → Act → World → Prop} (hg : o.guard = none) (x : Operand) (src dst e : TypeId) (ho : o.op = .convert src dst x)
    (hs : P.underlying src = some (.slice e)) (hd : P.underlying dst = some .string) (he : P.underlying e = some (.int .u8)) (ao : Option Addr) (n c : Nat) (xs : List Int) (hx : a.eval x = .slice ao n c) (hl : xs.length = n)
    (hc : n ≠ 0 → ∃ g o', ao = some ⟨g, o', none⟩ ∧ ∀ i, i < n → w.cell? ⟨g, o' + i, none⟩ = some (.int .u8 (xs.getD i 0)))
    (h : wpList P ops Q rest (a.put o.dst (.string (strOfNums xs))) w) : wpList P ops Q (o :: rest) a w := by
  refine wpList_plain hg fun K hK => ?_
  have hrun : (convert src dst (.slice ao n c)).run P w = .ok (.string (strOfNums xs)) w := by
    by_cases h0 : n = 0
    · subst h0
      have : xs = [] := List.eq_nil_of_length_eq_zero hl
      subst this
      cases ao with
      | none => exact run_convert_bytes_nil w src e hs he 0 c dst hd
      | some ad => exact run_convert_bytes_back w src dst e ad c [] hs he hd (fun j hj => absurd hj (by simp))
    · obtain ⟨g, o', rfl, hcell⟩ := hc h0
      exact run_convert_bytes_arg w src e hs he g o' n c xs hl hcell dst hd
  unfold Oper.wp
  simp [execOp, ho, hx, hrun, Result.andThen]
  exact hK _ _ h

/-- The digits of k ahead of out. -/
def mtGo : Nat → Nat → ByteArray → ByteArray
  | 0, _, out => out
  | f + 1, k, out => if k = 0 then out else mtGo f (k / 10) (strOfNums [48 + (k : Int) % 10] ++ out)
/-- What markText tells of a number. -/
def mt (k : Int) : ByteArray := if k ≤ 0 then ⟨#[109, 48]⟩ else ⟨#[109]⟩ ++ mtGo k.toNat k.toNat ⟨#[]⟩
theorem mtGo_step (f k : Nat) (out : ByteArray) (h : 0 < k) (hf : k ≤ f) : mtGo f k out = mtGo (f - 1) (k / 10) (strOfNums [48 + (k : Int) % 10] ++ out) := by
  cases f with
  | zero => omega
  | succ f => simp only [mtGo, if_neg (by omega : ¬ k = 0)]; rfl
theorem mtGo_end (f : Nat) (out : ByteArray) : mtGo f 0 out = out := by
  cases f <;> simp [mtGo]

theorem digit_size (x : Int) : (strOfNums [x]).size = 1 := rfl

end Go.Proofs.YtnhepegkjejfcaaDoor

/-
  The contract of spec.l3Digits: a number's digits are those of strconv.Itoa. No condition beyond its size.
-/
namespace Go.Proofs.YtnhepegkjejfcaaDoor
open Go.RowKit

/-- A text of bytes. -/
def tx (l : List UInt8) : ByteArray := ⟨l.toArray⟩
theorem tx_list (l : List UInt8) : (tx l).data.toList = l := by simp [tx]
theorem tx_size (l : List UInt8) : (tx l).size = l.length := by simp [tx, ByteArray.size]
theorem tx_append (a b : List UInt8) : tx a ++ tx b = tx (a ++ b) := by
  apply ByteArray.ext
  simp [tx, ByteArray.data_append]
theorem retS {a b : ByteArray} (h : a = b) : Ending.returned (.string a) = .returned (.string b) := by rw [h]
theorem addS (a b : List UInt8) (w : World) (h : a.length + b.length ≤ 1000000) : (Op.stringOp .add (tx a) (tx b)).run Tryd.prog w = .ok (.string (tx (a ++ b))) w := by
  rw [run_string_add_sum w _ _ (by rw [tx_size, tx_size]; omega), tx_append]

theorem digit_tx (j : Nat) : strOfNums [48 + (j : Int) % 10] = tx [UInt8.ofNat (48 + j % 10)] := by
  have e : (48 + (j : Int) % 10).toNat = 48 + j % 10 := by omega
  apply ByteArray.ext
  simp [strOfNums, tx, e]
theorem mtGo_dec : ∀ (f k : Nat) (l : List UInt8), 0 < k → k ≤ f → mtGo f k (tx l) = tx (Lib.decDigits k ++ l) := by
  intro f
  induction f with
  | zero => intro k l h0 h; omega
  | succ f ih =>
    intro k l h0 h
    rw [mtGo, if_neg (by omega), digit_tx, tx_append, Lib.decDigits]
    by_cases h10 : k < 10
    · rw [dif_pos h10, show k / 10 = 0 by omega, mtGo_end, show k % 10 = k by omega]
    · rw [dif_neg h10, ih (k / 10) _ (by omega) (by omega)]
      simp

end Go.Proofs.YtnhepegkjejfcaaDoor

/-
  Contracts of the laws' own helpers toNode, toNodeS, toPool, szNode, szNodeS, szPool, eqNode, eqNodeS, eqPool.
-/
namespace Go.Proofs.YtnhepegkjejfcaaDoor
open Go.RowKit

/-- How much room is left behind so many bytes; -1 when there is not as much. -/
def less (l n : Int) : Int := if l < n then -1 else l - n

/-- The first j of xs, and zero nodes behind them. -/
def zeroN : Nd := ⟨0, 0, ByteArray.empty, 0, 0⟩
def ncopied (xs : List Nd) (j : Nat) : List Nd := xs.take j ++ List.replicate (xs.length - j) zeroN
theorem ncopied_length (xs : List Nd) (j : Nat) (h : j ≤ xs.length) : (ncopied xs j).length = xs.length := by simp [ncopied]; omega
theorem ncopied_full (xs : List Nd) : ncopied xs xs.length = xs := by simp [ncopied]
theorem ncs_zeros (n : Nat) : ncs (List.replicate n zeroN) = (madeCells #[Value.int .i64 0, .int .i64 0, .string ByteArray.empty, .int .i64 0, .int .i64 0] (n * 5)).toList := by
  apply List.ext_getElem?
  intro j
  by_cases hj : j < n * 5
  · have hq : j / 5 < n := by omega
    rw [show j = j / 5 * 5 + j % 5 by omega, ncs_get _ (j / 5) zeroN (by simp [hq]) (j % 5) (by omega)]
    rw [show j / 5 * 5 + j % 5 = j by omega]
    have h5 : j % 5 = 0 ∨ j % 5 = 1 ∨ j % 5 = 2 ∨ j % 5 = 3 ∨ j % 5 = 4 := by omega
    rcases h5 with h5 | h5 | h5 | h5 | h5 <;> simp [madeCells, hj, h5, zeroN, Nd.cs]
  · rw [List.getElem?_eq_none (by rw [ncs_length, List.length_replicate]; omega), List.getElem?_eq_none (by simp [madeCells]; omega)]
theorem ncopied_zero (xs : List Nd) : ncs (ncopied xs 0) = (madeCells #[Value.int .i64 0, .int .i64 0, .string ByteArray.empty, .int .i64 0, .int .i64 0] (xs.length * 5)).toList := by
  rw [← ncs_zeros]; simp [ncopied]
theorem ncopied_set (xs : List Nd) (j : Nat) (h : j < xs.length) : (ncopied xs j).set j xs[j] = ncopied xs (j + 1) := by
  unfold ncopied
  rw [show xs.length - j = xs.length - (j + 1) + 1 by omega, List.replicate_succ, List.take_succ_eq_append_getElem h]
  rw [List.set_append_right _ _ (by simp; omega)]
  have e : j - (List.take j xs).length = 0 := by simp; omega
  rw [e, List.set_cons_zero, List.append_assoc]
  rfl

theorem heap_alloc3_new (w : World) (A B C : Obj) : (((w.alloc A).alloc B).alloc C).heap[w.heap.size + 1 + 1]? = some C := by
  have h := heap_alloc_new ((w.alloc A).alloc B) C
  simpa using h

end Go.Proofs.YtnhepegkjejfcaaDoor
