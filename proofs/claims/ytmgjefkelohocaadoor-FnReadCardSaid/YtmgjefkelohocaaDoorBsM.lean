/-
  Texts that stood by themselves, laid into one.
-/
import Derived.Test.YtmgjefkelohocaaDoorDraw10M
import Derived.Test.YtmgjefkelohocaaDoorNameM
import Derived.Lib.ItoaNum
import Derived.Laws.BytesArg
import Derived.Lib.AppendStr
import Derived.Laws.IdiomStrings
/-
  Contract of the draws' DrawSizeOf.
-/
namespace Go.Proofs.YtmgjefkelohocaaDoor
open Go.RowKit

theorem PV.below {w w' : World} {b base : Nat} {xs : List Nd} (h : PV w b base xs) (hb : Below w.heap.size w w') : PV w' b base xs := by
  obtain ⟨v', h1, h2⟩ := h
  exact ⟨v', (hb.block b (Array.getElem?_eq_some_iff.1 h1).1).trans h1, own_below h2 hb⟩
theorem PV.turn {w w' : World} {b P : Nat} {xs : List Nd} (h : PV w b (P + 1) xs) (hg : w.grownBy w' (some P)) (hb : P < b) : PV w' b (P + 1) xs := h.kept hg (by omega) (by omega)
theorem below_own {w0 w w' : World} {v : Value} {zs : List Int} {P : Nat} (c : Cur w0 v zs w P) (hb : Below (P + 1) w w') : Cur w0 v zs w' P := c.kept hb

set_option maxRecDepth 100000 in
set_option maxHeartbeats 3200000 in
theorem dsizeof_any (v : Value) (zs : List Int) (w : World) (R : Row w v zs) (hl : zs.length ≤ 1048576) :
    Calls Tryd.prog 52 #[v] w fun e w' => ∃ (v' : Value) (xs : List Nd) (x : Int), e = .returned (.tuple #[.agg #[v'], .int .i64 x]) ∧ xs.length ≤ 3001 ∧ (∀ x ∈ xs, x.s.size ≤ 40) ∧ w'.ownsRow w.heap.size 55 5 v' xs.length (ncs xs) ∧ -9223372036854775808 ≤ x ∧ x ≤ 9223372036854775807 ∧ Below w.heap.size w w' := by
  have hB0 : Below w.heap.size w (w.alloc (.cells #[.slice none 0 0] 26)) := (Below.refl _ _).alloc (Nat.le_refl _) _
  have hr0 : (w.alloc (.cells #[.slice none 0 0] 26)).heap[w.heap.size]? = some (.cells #[.slice none 0 0] 26 (0, 0)) := heap_alloc_new _ _
  have R0 := R.below hB0
  go_enter Tryd.func52, Tryd.ntmps52
  go_wp2_with fail
  generalize hA : w.alloc (Obj.cells #[Value.slice none 0 0] 26) = wA at hB0 hr0 R0 ⊢
  have hA1 : wA.heap.size = w.heap.size + 1 := by rw [← hA]; simp
  have HA1 : Hid (wA.heap.size = w.heap.size + 1) := hA1
  clear hA hA1
  refine (new_any v zs wA R0 hl).mono ?_
  rintro e w1 ⟨rfl, c1, b1⟩
  have hlr : w.heap.size < wA.heap.size := by rw [HA1.out]; omega
  have hP1 := c1.lt
  have hlrA := hlr
  generalize wA.heap.size = P at c1 hlr hP1 HA1 ⊢
  clear b1
  go_wp2_with fail
  refine (ddraw_any wA v zs w1 P c1).mono ?_
  rintro e w2 ⟨v2, xs, rfl, hxl, hz, ho2, c2, g2⟩
  obtain ⟨a2, q2, rfl⟩ := own_form ho2
  have hb2 := c2.lt
  have pv2 : PV (w2.alloc (.cells #[.slice a2 xs.length q2] 26)) w2.heap.size (P + 1) xs := ⟨_, heap_alloc_new _ _, own_mono (ho2.alloc _) (by omega)⟩
  have c3 := c2.kept ((Below.refl (P + 1) w2).alloc (by omega) (.cells #[.slice a2 xs.length q2] 26))
  clear ho2 c2 g2 c1
  go_wp2_with fail
  generalize w2.alloc (Obj.cells #[Value.slice a2 xs.length q2] 26) = w3 at pv2 c3 ⊢
  generalize w2.heap.size = b at pv2 hb2 ⊢
  refine (once_any wA v zs w3 P 12 c3 (by omega)).mono ?_
  rintro e w4 ⟨bb, rfl, c4, g4⟩
  have pv4 := pv2.turn g4 hb2
  have HZ : Hid (∀ x ∈ xs, x.s.size ≤ 40) := hz
  clear pv2 c3 g4 hz
  go_upto_if 12 with fail
  go_cut [] from 7 (fun wx => ∃ ys : List Nd, ys.length ≤ 3001 ∧ Hid (∀ x ∈ ys, x.s.size ≤ 40) ∧ PV wx b (P + 1) ys ∧ Cur wA v zs wx P)
  case first =>
    cases bb with
    | false =>
      go_wp2_with fail
      go_meet
      case rel => exact ⟨xs, hxl, HZ, pv4, c4⟩
    | true =>
      obtain ⟨v4, hb4, ho4⟩ := pv4
      have hc4 : w4.cell? ⟨b, 0, none⟩ = some v4 := by rw [cell_of_row w4 _ 0 _ _ _ hb4]; rfl
      have hf4 : w4.frozen? ⟨b, 0, none⟩ = false := frozen_of_row w4 _ 0 _ _ hb4
      have hlt4 := (Array.getElem?_eq_some_iff.1 hb4).1
      have hne : b ≠ w4.heap.size := by omega
      have hb5 := heap_setCell_same w4 b 0 _ _ (.slice (some ⟨w4.heap.size, 0, none⟩) 1 1) hb4
      have hs5 : (w4.setCell ⟨b, 0, none⟩ (.slice (some ⟨w4.heap.size, 0, none⟩) 1 1)).heap.size = w4.heap.size := by simp [World.setCell]
      have hb6 := (heap_alloc_old _ (Obj.cells #[.int .i64 1, .int .i64 0, .string ByteArray.empty, .int .i64 0, .int .i64 0] 55) (by rw [hs5]; exact hlt4)).trans hb5
      have own6 := own_lit1 (w4.setCell ⟨b, 0, none⟩ (.slice (some ⟨w4.heap.size, 0, none⟩) 1 1)) ⟨1, 0, ByteArray.empty, 0, 0⟩ (P + 1) (by rw [hs5]; omega)
      rw [hs5] at own6
      have c6 := c4.kept (((Below.refl (P + 1) w4).setCell (p := ⟨b, 0, none⟩) (by simp; omega) (.slice (some ⟨w4.heap.size, 0, none⟩) 1 1)).alloc (by omega) (Obj.cells #[.int .i64 1, .int .i64 0, .string ByteArray.empty, .int .i64 0, .int .i64 0] 55))
      clear hs5
      go_wp2_with fail
      go_loopw [6] (fun i wr => ∃ (ys : List Nd), 1 ≤ ys.length ∧ ys.length ≤ 41 ∧ i = .int .i64 ((ys.length : Int) - 1) ∧ Hid (∀ x ∈ ys, x.s.size ≤ 40) ∧ PV wr b (P + 1) ys ∧ Cur wA v zs wr P) (fun i _ => 40 - (intOf i).toNat)
      case atStart => exact ⟨[⟨1, 0, ByteArray.empty, 0, 0⟩], by simp, by simp, rfl, (fun x hx => by simp at hx; rw [hx]; exact empty40), ⟨_, hb6, own6⟩, c6⟩
      case round =>
        clear hc4 hf4 hb5 own6 hb6 c6 hb4 ho4 c4
        obtain ⟨ys, h1, h41, rfl, HY, pvr, cr⟩ := hrel
        by_cases hlt : (ys.length : Int) - 1 < 40
        · obtain ⟨v5, hb5, ho5⟩ := pvr
          obtain ⟨a5, q5, rfl⟩ := own_form ho5
          go_wp2_with fail
          refine (sadd_any b (P + 1) a5 q5 ys ⟨5, 0, ByteArray.empty, (ys.length : Int) - 1, (ys.length : Int) - 1⟩ wr hb5 ho5 (by omega) (by omega)).mono ?_
          rintro e w6 ⟨v6, rfl, hb6, ho6, hB6⟩
          have c6 := cr.kept hB6
          clear hb5 ho5 hB6 cr
          go_wp2_with fail
          go_roundw
          case rel =>
            refine ⟨ys ++ [_], by simp, by simp; omega, by simp, ?_, ⟨_, hb6, ho6⟩, c6⟩
            intro z hz
            simp only [List.mem_append, List.mem_singleton] at hz
            rcases hz with hz | rfl
            · exact HY.out z hz
            · exact empty40
          case measure => simp [intOf]; omega
        · go_wp2_with fail
          go_meet
          case rel => exact ⟨ys, by omega, HY, pvr, cr⟩
  case rest =>
    obtain ⟨ys, hyl, HY, ⟨v5, hb5, ho5⟩, c5⟩ := hcut
    clear pv4 c4 HZ hxl
    obtain ⟨a5, q5, rfl⟩ := own_form ho5
    obtain ⟨w5, hw5⟩ : ∃ w5, w5 = wc := ⟨_, rfl⟩
    subst hw5
    have hc5 : w5.cell? ⟨b, 0, none⟩ = some (.slice a5 ys.length q5) := by rw [cell_of_row w5 _ 0 _ _ _ hb5]; rfl
    have hlt5 := (Array.getElem?_eq_some_iff.1 hb5).1
    go_wp2_with fail
    go_region_with (go_at_call 34; refine (ddrawat_any wA v zs _ P a5 ys.length q5 ?_ (by omega)).mono ?_; exact c5.kept ⟨rfl, rfl, rfl, Nat.le_refl _, fun _ _ => rfl⟩; rintro e w6 ⟨x, rfl, hx0, hx1, c6, g6⟩; have g6' : w5.grownBy w6 (some P) := ⟨g6.os, g6.tape, g6.output, g6.size, g6.block⟩; have hb6 := (g6'.block b hlt5 (by simp; omega)).trans hb5; have ho6 := ho5.kept g6' (own_not ho5 (by omega)); have hc6 : w6.cell? ⟨b, 0, none⟩ = some (.slice a5 ys.length q5) := cell_of_row w6 b 0 _ _ _ hb6; have hr6 : w6.heap[w.heap.size]? = some (.cells #[.slice none 0 0] 26 (0, 0)) := (c6.2.1.block _ (by omega)).trans hr0; have hd6 : w6.cell? ⟨w.heap.size, 0, none⟩ = some (.slice none 0 0) := cell_of_row w6 _ 0 _ _ _ hr6; have hf6 : w6.frozen? ⟨w.heap.size, 0, none⟩ = false := frozen_of_row w6 _ 0 _ _ hr6)
    all_goals
      have hBA : Below w.heap.size w w6 := hB0.trans (c6.2.1.mono hB0.size)
      obtain ⟨p1, p2, p3⟩ := put_pool hr6 ho6 hBA (by omega) (Nat.le_refl _)
      clear hd6 hf6 hc6 hc5
      go_wp2_with fail
      refine bodyPost_ret (results_row_tmp rfl _ _ w.heap.size 26 _ (0, 0) _ rfl p1 Tryd.underlying26 rfl Tryd.sizeP) rfl ⟨_, ys, x, rfl, hyl, HY.out, p2, hx0, hx1, p3⟩
end Go.Proofs.YtmgjefkelohocaaDoor

/-
  How values are written, as lists of bytes. Nothing of the program; no condition.
-/
namespace Go.Proofs.YtmgjefkelohocaaDoor
open Go.RowKit

theorem dec_len : ∀ (k u : Nat), u < 10 ^ (k + 1) → (Lib.decDigits u).length ≤ k + 1 := by
  intro k
  induction k with
  | zero => intro u h; rw [Lib.decDigits, dif_pos (by simpa using h)]; simp
  | succ k ih =>
    intro u h
    rw [Lib.decDigits]
    split
    · simp
    · have := ih (u / 10) (by rw [Nat.pow_succ] at h; omega)
      simp
      omega
theorem itoa_len {n : Int} (h : -1000000000 ≤ n ∧ n ≤ 1000000000) : (Lib.itoa n).length ≤ 11 := by
  unfold Lib.itoa
  split
  · have := dec_len 9 n.natAbs (by omega)
    simp; omega
  · have := dec_len 9 n.toNat (by omega)
    omega

/-- A node that is no pair, as it is written. -/
def wordL (x : Nd) : List UInt8 :=
  if x.k = 1 then [40, 41] else if x.k = 2 then (if x.n = 0 then [35, 102] else [35, 116]) else if x.k = 3 then Lib.itoa x.n
  else if x.k = 4 then x.s.data.toList else if x.k = 6 then [35, 102, 117, 110] ++ Lib.itoa x.n else if x.k = 7 then [35, 107, 111, 110, 116] ++ Lib.itoa x.n
  else if x.k = 8 then [35, 112, 114, 105, 109] ++ Lib.itoa x.n else if x.k = 9 then [35, 112, 105, 100] ++ Lib.itoa x.n else []

theorem wordL_len {x : Nd} (h : -1000000000 ≤ x.n ∧ x.n ≤ 1000000000) (hs : x.s.size ≤ 1000) : (wordL x).length ≤ 1100 := by
  have := itoa_len h
  have e : x.s.data.toList.length = x.s.size := by rw [Array.length_toList]; rfl
  unfold wordL
  split
  · simp
  · split
    · split <;> simp
    · split
      · omega
      · split
        · omega
        · split
          · simp; omega
          · split
            · simp; omega
            · split
              · simp; omega
              · split
                · simp; omega
                · simp

/-- The node v as it is written, and as it is written as the rest of a list. -/
def ft (xs : List Nd) : Nat → Nat → List UInt8 × List UInt8
  | 0, _ => ([], [])
  | f + 1, v => match xs[v]? with
    | none => ([], [])
    | some x => if x.k = 5 then ([40] ++ (ft xs f x.a.toNat).1 ++ (ft xs f x.b.toNat).2 ++ [41], [32] ++ (ft xs f x.a.toNat).1 ++ (ft xs f x.b.toNat).2)
      else (wordL x, if x.k = 1 then [] else [32, 46, 32] ++ wordL x)
def fullT (xs : List Nd) (v : Nat) : List UInt8 := (ft xs (v + 1) v).1
def restT (xs : List Nd) (v : Nat) : List UInt8 := (ft xs (v + 1) v).2

theorem nodesB_at {xs : List Nd} : ∀ {k i : Nat} {x : Nd}, nodesB xs k = true → xs[i]? = some x → nodeB x ((k + i : Nat) : Int) = true := by
  induction xs with
  | nil => intro k i x _ h; simp at h
  | cons y ys ih =>
    intro k i x h hx
    rw [nodesB, Bool.and_eq_true] at h
    cases i with
    | zero => simp at hx; subst hx; simpa using h.1
    | succ i =>
      have := ih (k := k + 1) (i := i) h.2 (by simpa using hx)
      rw [show k + (i + 1) = k + 1 + i by omega]
      exact this
theorem pool_at {xs : List Nd} (hp : poolB xs = true) {i : Nat} {x : Nd} (hx : xs[i]? = some x) : nodeB x (i : Int) = true := by
  simp only [poolB, Bool.and_eq_true] at hp
  have := nodesB_at hp.2 hx
  simpa using this
theorem pool_pair {xs : List Nd} (hp : poolB xs = true) {i : Nat} {x : Nd} (hx : xs[i]? = some x) (h5 : x.k = 5) : ∃ a b : Nat, x.a = a ∧ x.b = b ∧ a < i ∧ b < i := by
  have h := pool_at hp hx
  simp only [nodeB, Bool.and_eq_true, partB, hasA, hasB, h5] at h
  obtain ⟨_, ⟨_, hA⟩, hB⟩ := h
  simp only [true_or, decide_true, if_true, Bool.and_eq_true, decide_eq_true_eq] at hA hB
  exact ⟨x.a.toNat, x.b.toNat, by omega, by omega, by omega, by omega⟩
theorem lo_ge (k : Int) : -1000000000 ≤ lo k := by unfold lo; split <;> decide
theorem hi_le (k : Int) : hi k ≤ 1000000000 := by
  unfold hi
  split
  · decide
  · split
    · decide
    · split <;> decide
theorem pool_num {xs : List Nd} (hp : poolB xs = true) {i : Nat} {x : Nd} (hx : xs[i]? = some x) : (1 ≤ x.k ∧ x.k ≤ 9) ∧ (-1000000000 ≤ x.n ∧ x.n ≤ 1000000000) := by
  have h := pool_at hp hx
  simp only [nodeB, Bool.and_eq_true, decide_eq_true_eq] at h
  obtain ⟨⟨⟨⟨h1, h2⟩, h3⟩, h4⟩, _⟩ := h
  exact ⟨⟨h1, h2⟩, Int.le_trans (lo_ge _) h3, Int.le_trans h4 (hi_le _)⟩

theorem ft_fuel {xs : List Nd} (hp : poolB xs = true) : ∀ (v f : Nat), v < f → ft xs f v = ft xs (v + 1) v := by
  intro v
  induction v using Nat.strongRecOn with
  | _ v ih =>
    intro f hf
    cases f with
    | zero => omega
    | succ f =>
      rw [ft, ft]
      cases hx : xs[v]? with
      | none => rfl
      | some x =>
        dsimp only
        by_cases h5 : x.k = 5
        · obtain ⟨a, b, ha, hb, hal, hbl⟩ := pool_pair hp hx h5
          rw [if_pos h5, if_pos h5, ha, hb, Int.toNat_natCast, Int.toNat_natCast, ih a hal f (by omega), ih b hbl f (by omega), ih a hal v hal, ih b hbl v hbl]
        · rw [if_neg h5, if_neg h5]
theorem fullT_pair {xs : List Nd} (hp : poolB xs = true) {v : Nat} {x : Nd} (hx : xs[v]? = some x) (h5 : x.k = 5) {a b : Nat} (ha : x.a = a) (hb : x.b = b) (hal : a < v) (hbl : b < v) : fullT xs v = [40] ++ fullT xs a ++ restT xs b ++ [41] := by
  rw [fullT, ft, hx]
  dsimp only
  rw [if_pos h5, ha, hb, Int.toNat_natCast, Int.toNat_natCast, ft_fuel hp a v hal, ft_fuel hp b v hbl]
  rfl
theorem restT_pair {xs : List Nd} (hp : poolB xs = true) {v : Nat} {x : Nd} (hx : xs[v]? = some x) (h5 : x.k = 5) {a b : Nat} (ha : x.a = a) (hb : x.b = b) (hal : a < v) (hbl : b < v) : restT xs v = [32] ++ fullT xs a ++ restT xs b := by
  rw [restT, ft, hx]
  dsimp only
  rw [if_pos h5, ha, hb, Int.toNat_natCast, Int.toNat_natCast, ft_fuel hp a v hal, ft_fuel hp b v hbl]
  rfl
theorem fullT_word {xs : List Nd} {v : Nat} {x : Nd} (hx : xs[v]? = some x) (h5 : ¬ x.k = 5) : fullT xs v = wordL x := by
  rw [fullT, ft, hx]
  dsimp only
  rw [if_neg h5]
theorem restT_nil {xs : List Nd} {v : Nat} {x : Nd} (hx : xs[v]? = some x) (h1 : x.k = 1) : restT xs v = [] := by
  rw [restT, ft, hx]
  dsimp only
  rw [if_neg (by omega), if_pos h1]
theorem restT_word {xs : List Nd} {v : Nat} {x : Nd} (hx : xs[v]? = some x) (h5 : ¬ x.k = 5) (h1 : ¬ x.k = 1) : restT xs v = [32, 46, 32] ++ wordL x := by
  rw [restT, ft, hx]
  dsimp only
  rw [if_neg h5, if_neg h1]
end Go.Proofs.YtmgjefkelohocaaDoor

/-
  The law of a slice of bytes turned into a text, and the laws' own markText: the same text at the same number, in whatever world. Nothing else of the program; no condition.
-/
namespace Go.Proofs.YtmgjefkelohocaaDoor
open Go.RowKit

/-- A slice of bytes turned into a text. -/
theorem wpList_bytes_text {P : Program} (w : World) {ops : Array Oper} {rest : List Oper} {o : Oper} {a : Act} {Q : Exit → Act → World → Prop} (hg : o.guard = none) (x : Operand) (src dst e : TypeId) (ho : o.op = .convert src dst x)
    (hs : P.underlying src = some (.slice e)) (hd : P.underlying dst = some .string) (he : P.underlying e = some (.int .u8)) (ao : Option Addr) (n c : Nat) (xs : List Int) (hx : a.eval x = .slice ao n c) (hl : xs.length = n)
    (hc : n ≠ 0 → ∃ g o', ao = some ⟨g, o', none⟩ ∧ ∀ i, i < n → w.cell? ⟨g, o' + i, none⟩ = some (.int .u8 (xs.getD i 0)))
    (h : wpList P ops Q rest (a.put o.dst (.string (strOfNums xs))) w) : wpList P ops Q (o :: rest) a w := by
  refine wpList_plain hg fun K hK => ?_
  have hrun : (convert src dst (.slice ao n c)).run P w = .ok (.string (strOfNums xs)) w := by
    by_cases h0 : n = 0
    · subst h0
      have : xs = [] := List.eq_nil_of_length_eq_zero hl
      subst this
      cases ao with
      | none => exact run_convert_bytes_nil w src e hs he 0 c dst hd
      | some ad => exact run_convert_bytes_back w src dst e ad c [] hs he hd (fun j hj => absurd hj (by simp))
    · obtain ⟨g, o', rfl, hcell⟩ := hc h0
      exact run_convert_bytes_arg w src e hs he g o' n c xs hl hcell dst hd
  unfold Oper.wp
  simp [execOp, ho, hx, hrun, Result.andThen]
  exact hK _ _ h

/-- The digits of k ahead of out. -/
def mtGo : Nat → Nat → ByteArray → ByteArray
  | 0, _, out => out
  | f + 1, k, out => if k = 0 then out else mtGo f (k / 10) (strOfNums [48 + (k : Int) % 10] ++ out)
/-- What markText tells of a number. -/
def mt (k : Int) : ByteArray := if k ≤ 0 then ⟨#[109, 48]⟩ else ⟨#[109]⟩ ++ mtGo k.toNat k.toNat ⟨#[]⟩
theorem mtGo_step (f k : Nat) (out : ByteArray) (h : 0 < k) (hf : k ≤ f) : mtGo f k out = mtGo (f - 1) (k / 10) (strOfNums [48 + (k : Int) % 10] ++ out) := by
  cases f with
  | zero => omega
  | succ f => simp only [mtGo, if_neg (by omega : ¬ k = 0)]; rfl
theorem mtGo_end (f : Nat) (out : ByteArray) : mtGo f 0 out = out := by
  cases f <;> simp [mtGo]

theorem digit_size (x : Int) : (strOfNums [x]).size = 1 := rfl

set_option maxHeartbeats 800000 in
theorem marktext_any (k : Int) (w : World) (hk : k ≤ 4611686018427387904) :
    Calls Tryd.prog 82 #[.int .i64 k] w fun e w' => e = .returned (.string (mt k)) ∧ Below w.heap.size w w' := by
  by_cases h0 : k ≤ 0
  · have HM : Hid (mt k = ⟨#[109, 48]⟩) := by unfold Hid mt; rw [if_pos h0]
    go_enter Tryd.func82, Tryd.ntmps82
    go_wp2
    go_ret
    exact ⟨by rw [HM.out]; rfl, Below.refl _ _⟩
  · obtain ⟨n, rfl⟩ := Int.eq_ofNat_of_zero_le (show 0 ≤ k by omega)
    have HM : Hid (mt n = ⟨#[109]⟩ ++ mtGo n n ⟨#[]⟩) := by unfold Hid mt; rw [if_neg h0]; rfl
    go_enter Tryd.func82, Tryd.ntmps82
    go_wp2
    go_loopw [0, 3] (fun q s wr => ∃ (f j : Nat) (t : ByteArray), q = .int .i64 j ∧ s = .string t ∧ j ≤ f ∧ t.size + j ≤ n ∧ Hid (mtGo n n ⟨#[]⟩ = mtGo f j t) ∧ Below w.heap.size w wr) (fun q _ _ => (intOf q).toNat)
    case atStart => exact ⟨n, n, ⟨#[]⟩, rfl, rfl, by omega, by show 0 + n ≤ n; omega, rfl, Below.refl _ _⟩
    case round =>
      obtain ⟨f, j, t, rfl, rfl, hjf, hjn, HG, hb⟩ := hrel
      by_cases hj : 0 < j
      · go_wp2_with (refine wpList_bytes_text _ rfl _ 22 9 5 rfl Tryd.underlying22 Tryd.underlying9 Tryd.underlying5 (some ⟨wr.heap.size, 0, none⟩) 1 1 [48 + (j : Int) % 10] rfl rfl ?_ ?_)
        · intro _
          refine ⟨_, 0, rfl, fun i hi => ?_⟩
          have hi0 : i = 0 := by omega
          subst hi0
          simp
        · exfalso
          have hd := digit_size (48 + (j : Int) % 10)
          omega
        · have hB := hb.alloc hb.size (Obj.cells #[Value.int .u8 (48 + (j : Int) % 10)] 5)
          refine ⟨⟨f - 1, j / 10, _, by rw [Int.natCast_ediv]; rfl, rfl, by omega, ?_, ?_, hB⟩, by simp [intOf]; omega⟩
          · rw [ByteArray.size_append, digit_size]; omega
          · unfold Hid
            rw [HG.out, mtGo_step f j t hj hjf]
      · have hj0 : j = 0 := by omega
        subst hj0
        have hcat : ¬ 9223372036854775807 < (⟨#[109]⟩ : ByteArray).size + t.size := by
          have e : (⟨#[109]⟩ : ByteArray).size = 1 := rfl
          rw [e]; omega
        go_wp2
        go_ret
        refine ⟨?_, hb⟩
        rw [HM.out, HG.out, mtGo_end]
        rfl
end Go.Proofs.YtmgjefkelohocaaDoor
