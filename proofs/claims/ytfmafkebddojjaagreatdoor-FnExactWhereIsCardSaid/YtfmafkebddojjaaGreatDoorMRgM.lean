/-
  Texts that stood by themselves, laid into one.
-/
import Derived.Test.YtfmafkebddojjaaGreatDoorVMoveM
import Derived.Test.YtfmafkebddojjaaGreatDoorSPTextM
import Derived.Test.YtfmafkebddojjaaGreatDoorMPackM
import Derived.Test.YtfmafkebddojjaaGreatDoorMcTM
import Derived.Test.YtfmafkebddojjaaGreatDoorITdM
import Derived.Test.YtfmafkebddojjaaGreatDoorBsM
import Derived.Deep.MidRow
import Derived.Deep.RegionHeld3
import Derived.Test.YtfmafkebddojjaaGreatDoorSGTextM
import Derived.Test.YtfmafkebddojjaaGreatDoorInM
import Derived.Test.YtfmafkebddojjaaGreatDoorS8RgM
import Derived.Test.YtfmafkebddojjaaGreatDoorMach2M
import Derived.Test.YtfmafkebddojjaaGreatDoorSAddM
/-
  When what is read of bytes is a machine: plain mathematics. Both ways of asking whether nothing else is there come to the same. No condition.
-/
set_option maxRecDepth 100000
set_option maxHeartbeats 6400000
namespace Go.Proofs.YtfmafkebddojjaaGreatDoor
open Go.RowKit
def mcOf : List Int -> Mc
 | [p, t, q, s, e, d, r] => ⟨p, s, e, d, t, q, r⟩
 | _ => ⟨0, 0, 0, 0, 0, 0, 0⟩
theorem Zlk {l : List Int} (h : l.length = 7) : mpN (mcOf l) = l := by
 match l, h with
 | [p, t, q, s, e, d, r], _ => rfl
def Zdj (zs : List Int) : Nat -> Int -> Bool -> List Int × Int × Bool
 | 0, a, ok => ([], a, ok)
 | n + 1, a, ok => ((num8 zs a ok).1 :: (Zdj zs n (num8 zs a ok).2.1 (num8 zs a ok).2.2).1, (Zdj zs n (num8 zs a ok).2.1 (num8 zs a ok).2.2).2)
theorem Zdk (zs : List Int) : ∀ (n : Nat) (a : Int), (Zdj zs n a false).2.2 = false
 | 0, a => rfl
 | n + 1, a => by rw [Zdj, Zbq]; exact Zdk zs n a
theorem ZgN (zs : List Int) : ∀ (n : Nat) (a : Int), (∀ q, rdK zs n a = some q -> Zdj zs n a true = (q.1, q.2, true)) /\ (rdK zs n a = none -> (Zdj zs n a true).2.2 = false)
 | 0, a => ⟨fun q h => by cases h; rfl, fun h => by cases h⟩
 | n + 1, a => by
  rw [rdK, Zdj]
  cases h : rd1 zs a with
  | none => rw [ZaA h]; exact ⟨fun q hq => by (simp at hq), fun _ => Zdk zs n a⟩
  | some p =>
   rw [(ZaG zs a).2 p h]
   obtain ⟨i1, i2⟩ := ZgN zs n p.2
   simp only [Option.bind_some]
   cases h2 : rdK zs n p.2 with
   | none => exact ⟨fun q hq => by (simp at hq), fun _ => i2 h2⟩
   | some t => rw [i1 t h2]; exact ⟨fun q hq => by (simp at hq; subst hq; rfl), fun hq => by (simp at hq)⟩
theorem ZgB {zs : List Int} (hz : ∀ z ∈ zs, 0 <= z /\ z <= 255) : ∀ (n : Nat) (a : Int) (q : List Int × Int), 0 <= a -> rdK zs n a = some q -> Lies zs a (q.1.flatMap encI) q.2 /\ ∀ x ∈ q.1, 0 <= x /\ x <= 9223372036854775807
 | 0, a, q, ha, h => by cases h; exact ⟨Lies.nil ha, by intro x hx; cases hx⟩
 | n + 1, a, q, ha, h => by
  rw [rdK, Option.bind_eq_some_iff] at h
  obtain ⟨p, h1, h2⟩ := h
  rw [Option.map_eq_some_iff] at h2
  obtain ⟨t, h3, rfl⟩ := h2
  obtain ⟨L1, _⟩ := ZaW (x := p.1) (b := p.2) hz h1
  obtain ⟨r1, r2, r3, _⟩ := Za5 h1
  obtain ⟨L2, h5⟩ := ZgB hz n p.2 t r3 h3
  refine ⟨by rw [List.flatMap_cons]; exact L1.append L2, fun x hx => ?_⟩
  rcases List.mem_cons.1 hx with rfl | hx
  ·exact ⟨r1, r2⟩
  ·exact h5 x hx
theorem Zgy {zs : List Int} {xs : List Nd} {a b : Int} (hz : ∀ z ∈ zs, 0 <= z /\ z <= 255) (h : rdP zs a = some (xs, b)) : Zap xs = true /\ Lies zs a (Zbw xs) b := by
 unfold rdP at h
 rw [Option.bind_eq_some_iff] at h
 obtain ⟨⟨n, a1⟩, h1, h2⟩ := h
 split at h2
 ·cases h2
 rw [Option.bind_eq_some_iff] at h2
 obtain ⟨⟨ys, c⟩, h3, h4⟩ := h2
 split at h4
 ·rename_i hp
  cases h4
  obtain ⟨L1, hn⟩ := ZaW hz h1
  obtain ⟨L2, hl⟩ := Zcb hz n.toNat a1 _ xs (by have := L1.1; have := L1.2.1; omega) h3
  refine ⟨hp, ?_⟩
  unfold Zbw
  rw [show (xs.length : Int) = n by omega]
  exact L1.append L2
 ·cases h4
theorem Lies.whole {zs L : List Int} (h : Lies zs 0 L zs.length) : L = zs := by
 obtain ⟨_, hlen, rest, hr⟩ := h
 rw [Int.toNat_zero, List.drop_zero] at hr
 have hlen2 := congrArg List.length hr
 rw [List.length_append] at hlen2
 have : rest = [] := List.eq_nil_of_length_eq_zero (by omega)
 rw [this, List.append_nil] at hr
 exact hr.symm
theorem ZfH : ∀ (l m : List Int) (p q : List Int), l.length = m.length -> (∀ x ∈ l, 0 <= x /\ x <= 9223372036854775807) -> (∀ x ∈ m, 0 <= x /\ x <= 9223372036854775807) -> l.flatMap encI ++ p = m.flatMap encI ++ q -> l = m /\ p = q
 | [], [], p, q, _, _, _, h => ⟨rfl, h⟩
 | x :: l, y :: m, p, q, hl, h1, h2, h => by
  rw [List.flatMap_cons, List.flatMap_cons, List.append_assoc, List.append_assoc] at h
  have hx := h1 x (by simp)
  have hy := h2 y (by simp)
  have e := Zfn hx.1 hy.1 hx.2 hy.2 h
  subst e
  obtain ⟨e1, e2⟩ := ZfH l m p q (by simpa using hl) (fun z hz => h1 z (by simp [hz])) (fun z hz => h2 z (by simp [hz])) (List.append_cancel_left h)
  exact ⟨by rw [e1], e2⟩
theorem Zg3 {ns : List Nd} {is : List In} {ds : List Df} {xs : List Nd} {m : Mc} (h : Za0 ns is ds xs m = true) (hm : ∀ x ∈ mpN m, 0 <= x /\ x <= 9223372036854775807) : mpL xs m = (mpN m).flatMap encI ++ Zbw xs <-> allR xs (tdR m) = true := by
 obtain ⟨hp, ha, _⟩ := Zbt h
 have hok : tdOk xs m = true := by unfold tdOk; rw [hp, ha]; rfl
 have eL : tdL xs m = mvN 0 xs (tdR m) := by unfold tdL; rw [if_pos hok]
 have hf0 : ∀ r ∈ tdR m, 0 <= tdF xs m r := fun r hr => (ZjL xs (tdR m) hp ha 0 r hr).2.2
 have hs : ∀ r, r ∈ [m.s, m.e, m.d] -> r ∈ tdR m := fun r hr => by
  unfold tdR
  split
  ·simp only [List.mem_cons, List.mem_nil_iff, or_false] at hr ⊢; rcases hr with h | h | h <;> simp [h]
  ·exact hr
 constructor
 ·intro e
  unfold mpL at e
  obtain ⟨b1, _, _⟩ := Zgw h
  have hn0 : ∀ x ∈ mpN (tdM xs m), 0 <= x := by
   unfold tdM
   rw [if_pos hok]
   intro x hx
   have hall := hm
   simp only [mpN, List.mem_cons, List.mem_nil_iff, or_false] at hx hall
   rcases hx with rfl | rfl | rfl | rfl | rfl | rfl | rfl
   ·exact (hall _ (by simp)).1
   ·exact (hall _ (by simp)).1
   ·exact (hall _ (by simp)).1
   ·exact hf0 _ (hs _ (by simp))
   ·exact hf0 _ (hs _ (by simp))
   ·exact hf0 _ (hs _ (by simp))
   ·show 0 <= (if argB m then tdF xs m m.r else m.r)
    split
    ·rename_i hb; exact hf0 _ (by unfold tdR; rw [if_pos hb]; simp)
    ·exact (hall _ (by simp)).1
  obtain ⟨_, e2⟩ := ZfH (mpN (tdM xs m)) (mpN m) _ _ rfl (fun x hx => ⟨hn0 x hx, b1 x hx⟩) hm e
  rw [eL] at e2
  exact (ZdB xs (tdR m) hp ha).1 e2
 ·intro hr
  have hk := ZfA xs (tdR m) hp ha ((ZgU xs (tdR m)).1 hr)
  have hF : ∀ r ∈ tdR m, tdF xs m r = r := by
   intro r hr'
   have := hk.2
   unfold mvR at this
   have h2 := List.map_inj_left.1 (this.trans (List.map_id _).symm) r hr'
   exact h2
  have eM : tdM xs m = m := by
   unfold tdM
   rw [if_pos hok, hF _ (hs _ (by simp)), hF _ (hs _ (by simp)), hF _ (hs _ (by simp))]
   split
   ·rename_i hb; rw [hF m.r (by unfold tdR; rw [if_pos hb]; simp)]
   ·rfl
  unfold mpL
  rw [eL, eM, hk.1]
def mrR (ns : List Nd) (is : List In) (ds : List Df) (zs : List Int) : Option (List Nd × Mc) :=
 (rdK zs 7 0).bind fun q => (rdP zs q.2).bind fun r => if r.2 = zs.length /\ Za0 ns is ds r.1 (mcOf q.1) = true /\ allR r.1 (tdR (mcOf q.1)) = true then some (r.1, mcOf q.1) else none
theorem Zj4 {ns : List Nd} {is : List In} {ds : List Df} {zs l : List Int} {a : Int} {k : Bool} (hz : ∀ z ∈ zs, 0 <= z /\ z <= 255) (hl : Zdj zs 7 0 true = (l, a, k)) (xs : List Nd) (m : Mc) :
  mrR ns is ds zs = some (xs, m) <-> (sOk zs a k = true /\ (sP zs a k).1 = xs) /\ m = mcOf l /\ Za0 ns is ds xs m = true /\ mpL xs m = zs := by
 obtain ⟨n1, n2⟩ := ZgN zs 7 0
 unfold mrR
 cases hr : rdK zs 7 0 with
 | none =>
  have hk := n2 hr
  rw [hl] at hk
  have hk : k = false := hk
  subst hk
  simp only [Option.bind_none, reduceCtorEq, false_iff]
  rintro ⟨⟨h1, _⟩, _⟩
  have : sOk zs a false = false := by unfold sOk sP Zg0; rw [Zbq]; simp [sNs]
  rw [this] at h1
  cases h1
 | some q =>
  have hq := n1 q hr
  rw [hl] at hq
  obtain ⟨q1, q2⟩ := q
  cases hq
  obtain ⟨L1, hrg⟩ := ZgB hz 7 0 (q1, q2) (by omega) hr
  have h7 : q1.length = 7 := Zem hr
  have hmp := Zlk h7
  simp only [Option.bind_some]
  rw [ZkD, Option.bind_eq_some_iff]
  constructor
  ·rintro ⟨⟨ys, b⟩, h1, h2⟩
   split at h2
   ·rename_i hc
    cases h2
    obtain ⟨c1, c2, c3⟩ := hc
    simp only at c1 c2 c3
    subst c1
    obtain ⟨_, L2⟩ := Zgy hz h1
    have hw := (L1.append L2).whole
    refine ⟨h1, rfl, c2, ?_⟩
    rw [(Zg3 c2 (by rw [hmp]; exact hrg)).2 c3, hmp]
    exact hw
   ·cases h2
  ·rintro ⟨h1, rfl, h3, h4⟩
   obtain ⟨_, L2⟩ := Zgy hz h1
   have hw := (L1.append L2).whole
   refine ⟨_, h1, ?_⟩
   rw [if_pos ⟨rfl, h3, (Zg3 h3 (by rw [hmp]; exact hrg)).1 (by rw [h4, hmp]; exact hw.symm)⟩]
def rdTs (zs : List Int) : Nat -> Int -> Option (List ByteArray × Int)
 | 0, a => some ([], a)
 | n + 1, a => (rt zs a).bind fun p => (rdTs zs n p.2).map fun q => (p.1 :: q.1, q.2)
def rdTL (zs : List Int) (a : Int) : Option (List ByteArray × Int) := (rd1 zs a).bind fun p => rdTs zs p.1.toNat p.2
def rdTB (zs : List Int) (most : Nat) (a : Int) : Option (List ByteArray × Int) := (rd1 zs a).bind fun p => if p.1 > most then none else rdTs zs p.1.toNat p.2
theorem Zdi (zs : List Int) : ∀ (n : Nat) (a : Int), rdTs zs (n + 1) a = (rdTs zs n a).bind fun q => (rt zs q.2).map fun p => (q.1 ++ [p.1], p.2)
 | 0, a => by
  simp only [rdTs, Option.bind_some]
  cases rt zs a <;> rfl
 | n + 1, a => by
  rw [rdTs]
  cases h : rt zs a with
  | none => simp [rdTs, h]
  | some p =>
   simp only [Option.bind_some]
   rw [Zdi zs n p.2, rdTs, h]
   simp only [Option.bind_some]
   cases rdTs zs n p.2 with
   | none => rfl
   | some q => simp only [Option.bind_some, Option.map_some]; cases rt zs q.2 <;> rfl
theorem ZeI {zs : List Int} : ∀ {n : Nat} {a : Int} {q : List ByteArray × Int}, rdTs zs n a = some q -> q.1.length = n
 | 0, a, q, h => by cases h; rfl
 | n + 1, a, q, h => by
  rw [rdTs, Option.bind_eq_some_iff] at h
  obtain ⟨p, _, h2⟩ := h
  rw [Option.map_eq_some_iff] at h2
  obtain ⟨t, h3, h4⟩ := h2
  cases h4
  simp [ZeI h3]
theorem Zft {zs : List Int} {a : Int} : ∀ {n m : Nat}, n <= m -> rdTs zs n a = none -> rdTs zs m a = none
 | n, 0, h, e => by
  obtain rfl : n = 0 := by omega
  exact e
 | n, m + 1, h, e => by
  rcases Nat.lt_or_ge n (m + 1) with h1 | h1
  ·rw [Zdi, Zft (by omega) e]; rfl
  ·obtain rfl : n = m + 1 := by omega
   exact e
def pdR (ns : List Nd) (is : List In) (ds : List Df) (zs : List Int) : Option (Int × (List Nd × Mc) × List ByteArray × List ByteArray) :=
 (rd1 zs 0).bind fun p => (rt zs p.2).bind fun t => (rdTL zs t.2).bind fun b => (rdTL zs b.2).bind fun o => if o.2 = zs.length then (mrR ns is ds (sb t.1)).bind fun r => if ZbJ ns is ds p.1 r.1 r.2 b.1 o.1 then some (p.1, r, b.1, o.1) else none else none
theorem ZcO {zs : List Int} {most : Nat} {a : Int} {q : List ByteArray × Int} (h : rdTB zs most a = some q) : rdTL zs a = some q /\ q.1.length <= most := by
 unfold rdTB at h
 rw [Option.bind_eq_some_iff] at h
 obtain ⟨p, h1, h2⟩ := h
 split at h2
 ·cases h2
 ·refine ⟨by unfold rdTL; rw [h1]; exact h2, ?_⟩
  rw [ZeI h2]
  omega
theorem ZiW {zs : List Int} {most : Nat} {a : Int} (h : rdTB zs most a = none) : rdTL zs a = none \/ ∃ q, rdTL zs a = some q /\ most < q.1.length := by
 unfold rdTB at h
 unfold rdTL
 cases h1 : rd1 zs a with
 | none => exact Or.inl rfl
 | some p =>
  rw [h1] at h
  simp only [Option.bind_some] at h ⊢
  split at h
  ·cases h2 : rdTs zs p.1.toNat p.2 with
   | none => exact Or.inl rfl
   | some q => exact Or.inr ⟨q, rfl, by rw [ZeI h2]; omega⟩
  ·exact Or.inl h
theorem Zh6 {ns : List Nd} {is : List In} {ds : List Df} {i : Int} {xs : List Nd} {m : Mc} {bx ox : List ByteArray} (h : 20 < bx.length \/ 40 < ox.length) : ZbJ ns is ds i xs m bx ox = false := by
 unfold ZbJ boxB outB
 rcases h with h | h
 ·have : decide (bx.length <= 20) = false := by simp; omega
  rw [this]
  simp
 ·have : decide (ox.length <= 40) = false := by simp; omega
  rw [this]
  simp
theorem ZjS (ns : List Nd) (is : List In) (ds : List Df) (zs : List Int) : pdR ns is ds zs = ((rd1 zs 0).bind fun p => (rt zs p.2).bind fun t => (rdTB zs 20 t.2).bind fun b => (rdTB zs 40 b.2).bind fun o => if o.2 = zs.length then (mrR ns is ds (sb t.1)).bind fun r => if ZbJ ns is ds p.1 r.1 r.2 b.1 o.1 then some (p.1, r, b.1, o.1) else none else none) := by
 unfold pdR
 cases rd1 zs 0 with
 | none => rfl
 | some p =>
  simp only [Option.bind_some]
  cases rt zs p.2 with
  | none => rfl
  | some t =>
   simp only [Option.bind_some]
   have dead : ∀ (b o : List ByteArray × Int), (20 < b.1.length \/ 40 < o.1.length) -> (if o.2 = (zs.length : Int) then (mrR ns is ds (sb t.1)).bind fun r => if ZbJ ns is ds p.1 r.1 r.2 b.1 o.1 then some (p.1, r, b.1, o.1) else none else none) = none := fun b o h => by
    split
    ·cases mrR ns is ds (sb t.1) with
     | none => rfl
     | some r => simp only [Option.bind_some]; rw [Zh6 h]; rfl
    ·rfl
   cases hb : rdTB zs 20 t.2 with
   | some b =>
    rw [(ZcO hb).1]
    simp only [Option.bind_some]
    cases ho : rdTB zs 40 b.2 with
    | some o => rw [(ZcO ho).1]
    | none =>
     rcases ZiW ho with h | ⟨q, h, hl⟩
     ·rw [h]
     ·rw [h]
      exact dead b q (Or.inr hl)
   | none =>
    rcases ZiW hb with h | ⟨q, h, hl⟩
    ·rw [h]
     rfl
    ·rw [h]
     simp only [Option.bind_some, Option.bind_none]
     cases rdTL zs q.2 with
     | none => rfl
     | some o => exact dead q o (Or.inl hl)
theorem ZbD {P : Program} {ops : Array Oper} {S : World -> Prop} {op : Oper} {a : Act} (hw : Region.wanted op (yielded ops a.tmps) = true) (ty : TypeId) (x : Operand) (ho : op.op = .load ty x)
  (b : Nat) (hx : a.eval x = .pointer (some ⟨b, 0, none⟩)) (cs : Array Value) (t : TypeId) (d : TypeDesc) (hS : ∀ w, S w -> w.heap[b]? = some (.cells cs t (0, 0)))
  (hu : P.underlying ty = some d) (hd : d.isRow = true) (hi : (P.info? ty).map (·.size) = some cs.size) : YieldsIf P ops S op (.agg cs) a := by
 have h := yieldsIf_load_mid (P := P) (ops := ops) (S := S) (op := op) (a := a) hw ty x ho b 0 hx cs.toList d (fun w hw' => by
  have hr := World.rangeAt_of_block (hS w hw') 0 cs.size
  simpa using hr) hu hd (by simpa using hi)
 simpa using h
theorem ZaC {w w' : World} {B k n g : Nat} {e : TypeId} {v : Value} {l : List Value} (h : w.ownsRow B e k v n l) (hg : v.ownBlock ≠ some g) (hb : ∀ j, j ≠ g -> w'.heap[j]? = w.heap[j]?) : w'.ownsRow B e k v n l := by
 refine ⟨h.1, ?_⟩
 rcases h.2 with ⟨rfl, h0⟩ | ⟨gg, cap, cur, rfl, hB, hgg, hr⟩
 ·exact Or.inl ⟨rfl, h0⟩
 ·exact Or.inr ⟨gg, cap, cur, rfl, hB, (hb gg (fun e => hg (by rw [e]; rfl))).trans hgg, hr⟩
theorem ZaX (w : World) : Below w.heap.size w w.drew := (Below.refl _ _).drew
theorem ZaE (w : World) (o : Obj) : Below w.heap.size w (w.alloc o) := (Below.refl _ _).alloc (Nat.le_refl _) _
theorem Zao {w : World} {b : Nat} {o : Obj} (h : w.heap[b]? = some o) : b < w.heap.size := (bl h)
theorem Zal {w w' : World} {b : Nat} {o : Obj} (h : w.heap[b]? = some o) (hb : Below w.heap.size w w') : w'.heap[b]? = some o := (hb.block _ (Zao h)).trans h
theorem Zaz {w a b : World} {P : Nat} {o : Option Nat} (h : w.grownBy a (some P)) (hg : a.grownBy b o) (ho : ∀ k, o = some k -> k = P \/ w.heap.size <= k) : w.grownBy b (some P) :=
 ⟨hg.os.trans h.os, hg.tape.trans h.tape, hg.output.trans h.output, Nat.le_trans h.size hg.size, fun k hk hne => (hg.block k (Nat.lt_of_lt_of_le hk h.size) (fun e => by rcases ho k e.symm with rfl | h2; exact hne rfl; omega)).trans (h.block k hk hne)⟩
theorem Zb9 {w w' : World} {B P k n : Nat} {e : TypeId} {v : Value} {l : List Value} (h : w.ownsRow B e k v n l) (hP : P < B) (hg : w.grownBy w' (some P)) : w'.ownsRow B e k v n l := h.kept hg (by
 cases hv : v.ownBlock with
 | none => exact Or.inl rfl
 | some g => exact Or.inr (fun e => by have := (h.lt g hv).1; cases e; omega))
theorem StRow.one9 (w : World) (s : ByteArray) (hs : s.size <= maxLen) : StRow (w.alloc (Obj.cells #[.string s] 9)) (.slice (some ⟨w.heap.size, 0, none⟩) 1 1) [s] := by
 refine ⟨_, 1, rfl, ⟨by simp, fun h => by cases h⟩, by simp, by simpa using hs, fun _ => ⟨_, 0, rfl, by simp, fun j x hj => ?_⟩⟩
 rw [cell_of_row _ w.heap.size (0 + j) _ 9 (0, 0) (heap_alloc_new w _)]
 cases j with
 | zero => simp at hj; subst hj; rfl
 | succ j => simp at hj
theorem Zhz (v : Value) (zs : List Int) (W0 w : World) (P : Nat) (a : Int) (most : Nat) (R : Row W0 v zs) (hb : Below W0.heap.size W0 w) (hP : W0.heap.size <= P) (h1 : One w P a) (hmost : most <= 40) (hzl : zs.length <= 140737488351232) :
  Calls Tryz.prog 241 #[.agg #[v, .pointer (some ⟨P, 0, none⟩)], .int .i64 most] w fun e w' => w.grownBy w' (some P) /\
   ((∃ q v', rdTB zs most a = some q /\ e = .returned (.tuple #[v', .bool true]) /\ One w' P q.2 /\ w'.ownsRow w.heap.size 9 1 v' q.1.length (stv q.1)) \/ (rdTB zs most a = none /\ e = .returned (.tuple #[.slice none 0 0, .bool false]) /\ ∃ q, One w' P q)) := by
 have R' := R
 obtain ⟨ao, cap, rfl, _⟩ := R'
 have hPl := h1.lt
 have hbs := hb.size
 obtain ⟨i0, hi, hz0, hz1, hz2⟩ := info_parts Zmh
 have hbel : Below W0.heap.size W0 (w.alloc (Obj.cells #[Value.slice ao zs.length cap, Value.pointer (some ⟨P, 0, none⟩)] 254)) := hb.alloc hb.size _
 have h2 : One (w.alloc (Obj.cells #[Value.slice ao zs.length cap, Value.pointer (some ⟨P, 0, none⟩)] 254)) P a := h1.below ((Below.refl _ _).alloc (Nat.le_refl _) _) hPl
 have hx := heap_alloc_new w (Obj.cells #[Value.slice ao zs.length cap, Value.pointer (some ⟨P, 0, none⟩)] 254)
 have hG := World.grownBy_alloc w (Obj.cells #[Value.slice ao zs.length cap, Value.pointer (some ⟨P, 0, none⟩)] 254) (some P)
 obtain ⟨g, hgn⟩ : ∃ g, Hid (gN zs a = g) := ⟨_, rfl⟩
 obtain ⟨gx, gn, gk⟩ := g
 have HN := Zdu _ zs P a W0 _ R hbel hP h2
 rw [hgn.out] at HN
 simp only at HN
 have HB : Hid (rdTB zs most a = if gk then (if gx > most then none else rdTs zs gx.toNat gn) else none) := by
  unfold Hid rdTB rd1
  rw [hgn.out]
  cases gk <;> rfl
 have hgr : gk = true -> 0 <= gx /\ gx <= 9223372036854775807 := fun h => by
  have := Za5 (zs := zs) (a := a) (p := (gx, gn)) (by unfold rd1; rw [hgn.out]; simp [h])
  exact ⟨this.1, this.2.1⟩
 clear hgn
 go_enter Tryz.func241, Tryz.ntmps241
 go_wp2_with fail
 refine HN.mono ?_
 rintro e w1 ⟨rfl, ⟨q1, o1, hq1⟩, g1⟩
 replace hG := Zaz hG g1 (fun k hk => Or.inl (by cases hk; rfl))
 have hx1 := (g1.block w.heap.size (by simp) (by simp; omega)).trans hx
 clear HN g1 hbel h2 hx
 cases gk with
 | false =>
  replace HB : Hid (rdTB zs most a = none) := HB.out
  go_wp2
  go_ret2
  exact ⟨hG, Or.inr ⟨HB.out, rfl, q1, o1⟩⟩
 | true =>
  obtain ⟨r0, r1⟩ := hgr rfl
  obtain rfl := hq1 rfl
  clear hgr hq1
  by_cases hm : (most : Int) < gx
  ·replace HB : Hid (rdTB zs most a = none) := by unfold Hid; rw [HB.out]; simp [hm]
   go_wp2
   go_ret2
   exact ⟨hG, Or.inr ⟨HB.out, rfl, q1, o1⟩⟩
  ·replace HB : Hid (rdTB zs most a = rdTs zs gx.toNat q1) := by unfold Hid; rw [HB.out]; simp [hm]
   have hgx : gx <= 40 := by omega
   have hbE : Below w1.heap.size w1 (w1.alloc (Obj.cells #[] 9)) := (Below.refl _ _).alloc (Nat.le_refl _) _
   have hGE := Zaz hG (World.grownBy_alloc w1 (Obj.cells #[] 9) none) (fun k hk => by cases hk)
   have oE := ZcL w1 9 1 w.heap.size hG.size
   have oneE := o1.below hbE o1.lt
   have hxE := Zal hx1 hbE
   go_wp2_with fail
   generalize w1.alloc (Obj.cells #[] 9) = wE at hbE hGE oE oneE hxE ⊢
   clear hG o1 hx1 hbE
   go_loopw [8, 25] (fun vo i wr => ∃ (k : Nat) (ts : List ByteArray) (c : Int), (k : Int) <= gx /\ i = .int .i64 k /\ ts.length = k /\ Hid (rdTs zs k q1 = some (ts, c)) /\ One wr P c /\ wr.ownsRow w.heap.size 9 1 vo ts.length (stv ts) /\ wr.heap[w.heap.size]? = some (.cells #[Value.slice ao zs.length cap, Value.pointer (some ⟨P, 0, none⟩)] 254 (0, 0)) /\ w.grownBy wr (some P)) (fun _ i _ => gx.toNat - (intOf i).toNat)
   case atStart => exact ⟨0, [], q1, by omega, rfl, rfl, rfl, oneE, oE, hxE, hGE⟩
   case round =>
    clear hGE oE oneE hxE
    obtain ⟨k, ts, c, hk, rfl, hlk, HR, hone, own, hbox, hGr⟩ := hrel
    have hb0 : wr.cell? ⟨w.heap.size, 0, none⟩ = some (.slice ao zs.length cap) := cell_of_row wr _ 0 _ _ _ hbox
    have hb1 : wr.cell? ⟨w.heap.size, 1, none⟩ = some (.pointer (some ⟨P, 0, none⟩)) := cell_of_row wr _ 1 _ _ _ hbox
    by_cases hlt : (k : Int) < gx
    ·have hbel : Below W0.heap.size W0 wr := hb.grown hGr hbs (fun j hj => by cases hj; exact hP)
     have HT := Zc2 _ zs P c W0 wr R hbel hP hone
     have hsz := Zcx zs c
     obtain ⟨gg, hgt⟩ : ∃ g, Hid (gT zs c = g) := ⟨_, rfl⟩
     obtain ⟨tx, tn, tk⟩ := gg
     rw [hgt.out] at HT hsz
     simp only at HT hsz
     have HS : Hid (rdTs zs (k + 1) q1 = if tk then some (ts ++ [tx], tn) else none) := by
      unfold Hid
      rw [Zdi, HR.out]
      unfold rt
      simp only [Option.bind_some]
      rw [hgt.out]
      cases tk <;> rfl
     clear hgt
     go_wp2_with fail
     refine HT.mono ?_
     rintro e w2 ⟨rfl, ⟨q2, o2, hq2⟩, g2⟩
     have own2 := Zb9 own hPl g2
     have hG2 := Zaz hGr g2 (fun j hj => Or.inl (by cases hj; rfl))
     have hbox2 := (g2.block _ (Zao hbox) (by simp; omega)).trans hbox
     clear HT g2 own hGr hbox hb0 hb1 hone hbel
     cases tk with
     | false =>
      have HN : Hid (rdTB zs most a = none) := by unfold Hid; rw [HB.out]; exact Zft (n := k + 1) (by omega) HS.out
      clear HB HS HR
      go_wp2
      go_ret2
      exact ⟨hG2, Or.inr ⟨HN.out, rfl, q2, o2⟩⟩
     | true =>
      obtain rfl := hq2 rfl
      have hsm : tx.size <= maxLen := by unfold maxLen; omega
      have S1 := StRow.one9 w2 tx hsm
      have hbA : Below w2.heap.size w2 (w2.alloc (Obj.cells #[.string tx] 9)) := (Below.refl _ _).alloc (Nat.le_refl _) _
      have P2 := Zad own2 hbA
      have o3 := o2.below hbA o2.lt
      have hbox3 := Zal hbox2 hbA
      have hG3 := Zaz hG2 (World.grownBy_alloc w2 (Obj.cells #[.string tx] 9) none) (fun j hj => by cases hj)
      have hle : w.heap.size <= (w2.alloc (Obj.cells #[.string tx] 9)).heap.size := hG3.size
      have HS2 : Hid (rdTs zs (k + 1) q1 = some (ts ++ [tx], q2)) := HS.out
      clear own2 hG2 hbox2 o2 hq2 HS hbA HR hsz
      go_wp2_with (at_builtin; refine Zax _ rfl _ _ 54 rfl w.heap.size 9 i0 _ 1 16 Tryz.underlying54 hi hz0 hz1 hz2 rfl (by decide) _ ts.length _ rfl P2 (some ⟨w2.heap.size, 0, none⟩) 1 1 (stv [tx]) rfl (by simp [stv]) S1.nilcap S1.cells (Zio [tx]) (by unfold maxLen; omega) (by omega) hle ?_)
      intro v4 w4 O4 hgr4
      have o4 : One w4 P q2 := o3.kept hgr4 (by intro e; have := (P2.lt P e.symm).1; omega)
      have hbox4 := (hgr4.block _ (Zao hbox3) (fun e => ZaR P2 hbox3 (by decide) e.symm)).trans hbox3
      have hG4 := Zaz hG3 hgr4 (fun j hj => Or.inr (P2.lt j hj).1)
      have O5 : w4.ownsRow w.heap.size 9 1 v4 (ts ++ [tx]).length (stv (ts ++ [tx])) := by rw [Zej, List.length_append, hlk]; exact O4
      clear O4 hgr4 P2 o3 hbox3 hG3 S1 hle
      go_wp2
      go_roundw
      case rel => exact ⟨k + 1, ts ++ [tx], q2, by omega, by go_num, by simp [hlk], HS2, o4, O5, hbox4, hG4⟩
      case measure => simp [intOf]; omega
    ·have hke : k = gx.toNat := by omega
     rw [hke] at HR
     go_wp2
     go_ret2
     exact ⟨hGr, Or.inl ⟨ts, c, HB.out.trans HR.out, u8, rfl, hone, own⟩⟩
theorem Zkn {t0 t1 t2 t4 t5 t7 t9 t10 t11 t12 t13 t14 t15 t16 t17 t18 t19 t20 t21 t22 t23 t24 t25 t26 t27 t28 t29 t30 t31 t32 t33 t34 t35 t36 t37 t38 t39 t40 t41 t42 t43 t44 t45 t46 t47 t48 t49 t50 t51 : Value} {fs : List Deferred} (bc bm bp np cp : Nat) (ap : Option Addr) (v1 v2 v3 : Value) (m : Mc) (w : World) (Q : Exit -> Act -> World -> Prop)
  (hc : w.heap[bc]? = some (.cells #[v1, v2, v3] 44 (0, 0))) (hm : w.heap[bm]? = some (.cells #[.slice ap np cp, .int .i64 m.p, .int .i64 m.s, .int .i64 m.e, .int .i64 m.d, .int .i64 m.t, .int .i64 m.q, .int .i64 m.r] 81 (0, 0))) (hp : w.heap[bp]? = some (.cells #[.slice ap np cp] 40 (0, 0)))
  (HM : ∀ W, Below w.heap.size w W -> Calls Tryz.prog 198 #[.agg #[v1, v2, v3], .agg #[.slice ap np cp, .int .i64 m.p, .int .i64 m.s, .int .i64 m.e, .int .i64 m.d, .int .i64 m.t, .int .i64 m.q, .int .i64 m.r]] W fun e w' => e = .returned (.bool false) /\ Below W.heap.size W w')
  (hQ : ∀ u35 u36 u37 u38 u39 u40 u41 u42 u43 u44 (wx : World), Below w.heap.size w wx -> Q .normal ⟨#[t0, t1, t2, .pointer (some ⟨bc, 0, none⟩), t4, t5, .pointer (some ⟨bm, 0, none⟩), t7, .pointer (some ⟨bp, 0, none⟩), t9, t10, t11, t12, t13, t14, t15, t16, t17, t18, t19, t20, t21, t22, t23, t24, t25, t26, t27, t28, t29, t30, t31, t32, t33, t34, u35, u36, u37, u38, u39, u40, u41, u42, u43, u44, .bool true, t46, t47, t48, t49, t50, t51], fs⟩ wx) :
  (Code.region 9 (List.toArray (⟨some 35, .load 44 (.tmp 3), 44, "l08_wire.go:224", #[], none⟩ :: ⟨some 36, .load 81 (.tmp 6), 81, "l08_wire.go:224", #[], none⟩ :: ⟨some 37, .call { callee := .value (.func 198), args := #[.tmp 35, .tmp 36], argTypes := #[44, 81] }, 4, "l08_wire.go:224", #[⟨0, .data⟩, ⟨1, .data⟩], none⟩ :: ⟨some 38, .unOp .not 4 (.tmp 37), 4, "l08_wire.go:224", #[⟨2, .data⟩], none⟩ :: ⟨some 39, .move (.tmp 38), 4, "l08_wire.go:224", #[⟨3, .data⟩, ⟨2, .chain⟩], none⟩ :: ⟨some 40, .load 40 (.tmp 8), 40, "l08_wire.go:224", #[⟨4, .guard⟩], some (4, false)⟩ :: ⟨some 41, .load 81 (.tmp 6), 81, "l08_wire.go:224", #[⟨4, .guard⟩], some (4, false)⟩ :: ⟨some 42, .call { callee := .value (.func 257), args := #[.tmp 41], argTypes := #[81] }, 148, "l08_wire.go:224", #[⟨6, .data⟩, ⟨4, .chain⟩, ⟨4, .guard⟩], some (4, false)⟩ :: ⟨some 43, .call { callee := .value (.func 253), args := #[.tmp 40, .tmp 42], argTypes := #[40, 148] }, 4, "l08_wire.go:224", #[⟨5, .data⟩, ⟨7, .data⟩, ⟨7, .chain⟩, ⟨4, .guard⟩], some (4, false)⟩ :: ⟨some 44, .unOp .not 4 (.tmp 43), 4, "l08_wire.go:224", #[⟨8, .data⟩, ⟨4, .guard⟩], some (4, false)⟩ :: ⟨some 45, .pick (.tmp 39) (.const (.bool true)) (.tmp 44), 4, "l08_wire.go:224", #[⟨4, .data⟩, ⟨9, .data⟩], none⟩ :: [])) true).wp Tryz.prog Q ⟨#[t0, t1, t2, .pointer (some ⟨bc, 0, none⟩), t4, t5, .pointer (some ⟨bm, 0, none⟩), t7, .pointer (some ⟨bp, 0, none⟩), t9, t10, t11, t12, t13, t14, t15, t16, t17, t18, t19, t20, t21, t22, t23, t24, t25, t26, t27, t28, t29, t30, t31, t32, t33, t34, t35, t36, t37, t38, t39, t40, t41, t42, t43, t44, t45, t46, t47, t48, t49, t50, t51], fs⟩ w := by
 have hS : ∀ w', Below w.heap.size w w' -> ((w'.cell? ⟨bc, 0, none⟩ = some v1 /\ w'.cell? ⟨bc, 1, none⟩ = some v2 /\ w'.cell? ⟨bc, 2, none⟩ = some v3) /\ (w'.cell? ⟨bm, 0, none⟩ = some (.slice ap np cp) /\ w'.cell? ⟨bm, 1, none⟩ = some (.int .i64 m.p) /\ w'.cell? ⟨bm, 2, none⟩ = some (.int .i64 m.s) /\ w'.cell? ⟨bm, 3, none⟩ = some (.int .i64 m.e) /\ w'.cell? ⟨bm, 4, none⟩ = some (.int .i64 m.d) /\ w'.cell? ⟨bm, 5, none⟩ = some (.int .i64 m.t) /\ w'.cell? ⟨bm, 6, none⟩ = some (.int .i64 m.q) /\ w'.cell? ⟨bm, 7, none⟩ = some (.int .i64 m.r)) /\ w'.cell? ⟨bp, 0, none⟩ = some (.slice ap np cp)) := fun w' hb => by
  have g1 := (bb hc hb)
  have g2 := (bb hm hb)
  have g3 := (bb hp hb)
  exact ⟨⟨cell_of_row w' _ 0 _ _ _ g1, cell_of_row w' _ 1 _ _ _ g1, cell_of_row w' _ 2 _ _ _ g1⟩, ⟨cell_of_row w' _ 0 _ _ _ g2, cell_of_row w' _ 1 _ _ _ g2, cell_of_row w' _ 2 _ _ _ g2, cell_of_row w' _ 3 _ _ _ g2, cell_of_row w' _ 4 _ _ _ g2, cell_of_row w' _ 5 _ _ _ g2, cell_of_row w' _ 6 _ _ _ g2, cell_of_row w' _ 7 _ _ _ g2⟩, cell_of_row w' _ 0 _ _ _ g3⟩
 have b0 : Below w.heap.size w w.drew := (Below.refl _ _).drew
 have s0 := hS _ b0
 refine wp_region_noPanic ?_
 refine wp_region_held_drew (S := fun w' => (w'.cell? ⟨bc, 0, none⟩ = some v1 /\ w'.cell? ⟨bc, 1, none⟩ = some v2 /\ w'.cell? ⟨bc, 2, none⟩ = some v3) /\ (w'.cell? ⟨bm, 0, none⟩ = some (.slice ap np cp) /\ w'.cell? ⟨bm, 1, none⟩ = some (.int .i64 m.p) /\ w'.cell? ⟨bm, 2, none⟩ = some (.int .i64 m.s) /\ w'.cell? ⟨bm, 3, none⟩ = some (.int .i64 m.e) /\ w'.cell? ⟨bm, 4, none⟩ = some (.int .i64 m.d) /\ w'.cell? ⟨bm, 5, none⟩ = some (.int .i64 m.t) /\ w'.cell? ⟨bm, 6, none⟩ = some (.int .i64 m.q) /\ w'.cell? ⟨bm, 7, none⟩ = some (.int .i64 m.r)) /\ w'.cell? ⟨bp, 0, none⟩ = some (.slice ap np cp)) (by kernel_rfl) s0 (fun hHeld => ?_)
 refine wpAnyH_take (i := 0) (oi := ⟨some 35, .load 44 (.tmp 3), 44, "l08_wire.go:224", #[], none⟩) (v := .agg #[v1, v2, v3]) rfl (by kernel_rfl) (by kernel_rfl) (by kernel_rfl) (fun _ _ _ h => h) (Or.inl ⟨by rfl, by intro w hSw; (try dsimp only at hSw); go_simp⟩) (by assumption) ?_
 simp only [Act.put, sit, sc0, scs]
 refine wpAnyH_take (i := 1) (oi := ⟨some 36, .load 81 (.tmp 6), 81, "l08_wire.go:224", #[], none⟩) (v := .agg #[.slice ap np cp, .int .i64 m.p, .int .i64 m.s, .int .i64 m.e, .int .i64 m.d, .int .i64 m.t, .int .i64 m.q, .int .i64 m.r]) rfl (by kernel_rfl) (by kernel_rfl) (by kernel_rfl) (fun _ _ _ h => h) (Or.inl ⟨by rfl, by intro w hSw; (try dsimp only at hSw); go_simp⟩) (by assumption) ?_
 simp only [Act.put, sit, sc0, scs]
 refine wpAnyH_ready (rs := [2]) (by kernel_rfl) (by simp) ?_
 refine AllReadyH.cons rfl (fun K hK => ?_) AllReadyH.nil
 go_simp
 go_wp2_with (go_at_call 198; with_reducible refine (HM _ b0).mono ?_; rintro e w1 ⟨rfl, hb1⟩)
 have b1 : Below w.heap.size w w1 := b0.trans (hb1.mono b0.size)
 have s1 := hS _ b1
 refine hK.out _ _ s1 (fun hHeld1 => ?_)
 clear hK
 refine wpAnyH_take (i := 3) (oi := ⟨some 38, .unOp .not 4 (.tmp 37), 4, "l08_wire.go:224", #[⟨2, .data⟩], none⟩) (v := .bool true) rfl (by kernel_rfl) (by kernel_rfl) (by kernel_rfl) (fun _ _ _ h => h) (Or.inl ⟨by rfl, by intro w hSw; (try dsimp only at hSw); go_simp⟩) (by assumption) ?_
 simp only [Act.put, sit, sc0, scs]
 refine wpAnyH_take (i := 4) (oi := ⟨some 39, .move (.tmp 38), 4, "l08_wire.go:224", #[⟨3, .data⟩, ⟨2, .chain⟩], none⟩) (v := .bool true) rfl (by kernel_rfl) (by kernel_rfl) (by kernel_rfl) (fun _ _ _ h => h) (Or.inl ⟨by rfl, by intro w hSw; (try dsimp only at hSw); go_simp⟩) (by assumption) ?_
 simp only [Act.put, sit, sc0, scs]
 refine wpAnyH_take (i := 5) (oi := ⟨some 40, .load 40 (.tmp 8), 40, "l08_wire.go:224", #[⟨4, .guard⟩], some (4, false)⟩) (v := undef) rfl (by kernel_rfl) (by kernel_rfl) (by kernel_rfl) (fun _ _ _ h => h) (Or.inr ⟨by rfl, rfl⟩) (by assumption) ?_
 simp only [Act.put, sit, sc0, scs]
 refine wpAnyH_take (i := 6) (oi := ⟨some 41, .load 81 (.tmp 6), 81, "l08_wire.go:224", #[⟨4, .guard⟩], some (4, false)⟩) (v := undef) rfl (by kernel_rfl) (by kernel_rfl) (by kernel_rfl) (fun _ _ _ h => h) (Or.inr ⟨by rfl, rfl⟩) (by assumption) ?_
 simp only [Act.put, sit, sc0, scs]
 refine wpAnyH_take (i := 7) (oi := ⟨some 42, .call { callee := .value (.func 257), args := #[.tmp 41], argTypes := #[81] }, 148, "l08_wire.go:224", #[⟨6, .data⟩, ⟨4, .chain⟩, ⟨4, .guard⟩], some (4, false)⟩) (v := undef) rfl (by kernel_rfl) (by kernel_rfl) (by kernel_rfl) (fun _ _ _ h => h) (Or.inr ⟨by rfl, rfl⟩) (by assumption) ?_
 simp only [Act.put, sit, sc0, scs]
 refine wpAnyH_take (i := 8) (oi := ⟨some 43, .call { callee := .value (.func 253), args := #[.tmp 40, .tmp 42], argTypes := #[40, 148] }, 4, "l08_wire.go:224", #[⟨5, .data⟩, ⟨7, .data⟩, ⟨7, .chain⟩, ⟨4, .guard⟩], some (4, false)⟩) (v := undef) rfl (by kernel_rfl) (by kernel_rfl) (by kernel_rfl) (fun _ _ _ h => h) (Or.inr ⟨by rfl, rfl⟩) (by assumption) ?_
 simp only [Act.put, sit, sc0, scs]
 refine wpAnyH_take (i := 9) (oi := ⟨some 44, .unOp .not 4 (.tmp 43), 4, "l08_wire.go:224", #[⟨8, .data⟩, ⟨4, .guard⟩], some (4, false)⟩) (v := undef) rfl (by kernel_rfl) (by kernel_rfl) (by kernel_rfl) (fun _ _ _ h => h) (Or.inr ⟨by rfl, rfl⟩) (by assumption) ?_
 simp only [Act.put, sit, sc0, scs]
 refine wpAnyH_take (i := 10) (oi := ⟨some 45, .pick (.tmp 39) (.const (.bool true)) (.tmp 44), 4, "l08_wire.go:224", #[⟨4, .data⟩, ⟨9, .data⟩], none⟩) (v := .bool true) rfl (by kernel_rfl) (by kernel_rfl) (by kernel_rfl) (fun _ _ _ h => h) (Or.inl ⟨by rfl, by intro w hSw; (try dsimp only at hSw); go_simp⟩) (by assumption) ?_
 simp only [Act.put, sit, sc0, scs]
 refine wpAnyH_done (by kernel_rfl) ?_ _
 exact NoPanic.normal <| hQ _ _ _ _ _ _ _ _ _ _ _ b1
theorem Zkd {t0 t1 t2 t4 t5 t7 t9 t10 t11 t12 t13 t14 t15 t16 t17 t18 t19 t20 t21 t22 t23 t24 t25 t26 t27 t28 t29 t30 t31 t32 t33 t34 t35 t36 t37 t38 t39 t40 t41 t42 t43 t44 t45 t46 t47 t48 t49 t50 t51 : Value} {fs : List Deferred} (bc bm bp np cp : Nat) (ap : Option Addr) (v1 v2 v3 : Value) (m : Mc) (w : World) (Q : Exit -> Act -> World -> Prop)
  (hc : w.heap[bc]? = some (.cells #[v1, v2, v3] 44 (0, 0))) (hm : w.heap[bm]? = some (.cells #[.slice ap np cp, .int .i64 m.p, .int .i64 m.s, .int .i64 m.e, .int .i64 m.d, .int .i64 m.t, .int .i64 m.q, .int .i64 m.r] 81 (0, 0))) (hp : w.heap[bp]? = some (.cells #[.slice ap np cp] 40 (0, 0)))
  (HM : ∀ W, Below w.heap.size w W -> Calls Tryz.prog 198 #[.agg #[v1, v2, v3], .agg #[.slice ap np cp, .int .i64 m.p, .int .i64 m.s, .int .i64 m.e, .int .i64 m.d, .int .i64 m.t, .int .i64 m.q, .int .i64 m.r]] W fun e w' => e = .returned (.bool true) /\ Below W.heap.size W w') (kb : Bool) (HR : ∀ W, Below w.heap.size w W -> Calls Tryz.prog 257 #[.agg #[.slice ap np cp, .int .i64 m.p, .int .i64 m.s, .int .i64 m.e, .int .i64 m.d, .int .i64 m.t, .int .i64 m.q, .int .i64 m.r]] W fun e w' => ∃ v', e = .returned v' /\ IRow w' v' (tdR m) /\ Below W.heap.size W w') (HK : ∀ W vl, Below w.heap.size w W -> IRow W vl (tdR m) -> Calls Tryz.prog 253 #[.agg #[.slice ap np cp], vl] W fun e w' => e = .returned (.bool kb) /\ Below W.heap.size W w')
  (hQ : ∀ u35 u36 u37 u38 u39 u40 u41 u42 u43 u44 (wx : World), Below w.heap.size w wx -> Q .normal ⟨#[t0, t1, t2, .pointer (some ⟨bc, 0, none⟩), t4, t5, .pointer (some ⟨bm, 0, none⟩), t7, .pointer (some ⟨bp, 0, none⟩), t9, t10, t11, t12, t13, t14, t15, t16, t17, t18, t19, t20, t21, t22, t23, t24, t25, t26, t27, t28, t29, t30, t31, t32, t33, t34, u35, u36, u37, u38, u39, u40, u41, u42, u43, u44, .bool (!kb), t46, t47, t48, t49, t50, t51], fs⟩ wx) :
  (Code.region 9 (List.toArray (⟨some 35, .load 44 (.tmp 3), 44, "l08_wire.go:224", #[], none⟩ :: ⟨some 36, .load 81 (.tmp 6), 81, "l08_wire.go:224", #[], none⟩ :: ⟨some 37, .call { callee := .value (.func 198), args := #[.tmp 35, .tmp 36], argTypes := #[44, 81] }, 4, "l08_wire.go:224", #[⟨0, .data⟩, ⟨1, .data⟩], none⟩ :: ⟨some 38, .unOp .not 4 (.tmp 37), 4, "l08_wire.go:224", #[⟨2, .data⟩], none⟩ :: ⟨some 39, .move (.tmp 38), 4, "l08_wire.go:224", #[⟨3, .data⟩, ⟨2, .chain⟩], none⟩ :: ⟨some 40, .load 40 (.tmp 8), 40, "l08_wire.go:224", #[⟨4, .guard⟩], some (4, false)⟩ :: ⟨some 41, .load 81 (.tmp 6), 81, "l08_wire.go:224", #[⟨4, .guard⟩], some (4, false)⟩ :: ⟨some 42, .call { callee := .value (.func 257), args := #[.tmp 41], argTypes := #[81] }, 148, "l08_wire.go:224", #[⟨6, .data⟩, ⟨4, .chain⟩, ⟨4, .guard⟩], some (4, false)⟩ :: ⟨some 43, .call { callee := .value (.func 253), args := #[.tmp 40, .tmp 42], argTypes := #[40, 148] }, 4, "l08_wire.go:224", #[⟨5, .data⟩, ⟨7, .data⟩, ⟨7, .chain⟩, ⟨4, .guard⟩], some (4, false)⟩ :: ⟨some 44, .unOp .not 4 (.tmp 43), 4, "l08_wire.go:224", #[⟨8, .data⟩, ⟨4, .guard⟩], some (4, false)⟩ :: ⟨some 45, .pick (.tmp 39) (.const (.bool true)) (.tmp 44), 4, "l08_wire.go:224", #[⟨4, .data⟩, ⟨9, .data⟩], none⟩ :: [])) true).wp Tryz.prog Q ⟨#[t0, t1, t2, .pointer (some ⟨bc, 0, none⟩), t4, t5, .pointer (some ⟨bm, 0, none⟩), t7, .pointer (some ⟨bp, 0, none⟩), t9, t10, t11, t12, t13, t14, t15, t16, t17, t18, t19, t20, t21, t22, t23, t24, t25, t26, t27, t28, t29, t30, t31, t32, t33, t34, t35, t36, t37, t38, t39, t40, t41, t42, t43, t44, t45, t46, t47, t48, t49, t50, t51], fs⟩ w := by
 have hS : ∀ w', Below w.heap.size w w' -> ((w'.cell? ⟨bc, 0, none⟩ = some v1 /\ w'.cell? ⟨bc, 1, none⟩ = some v2 /\ w'.cell? ⟨bc, 2, none⟩ = some v3) /\ (w'.cell? ⟨bm, 0, none⟩ = some (.slice ap np cp) /\ w'.cell? ⟨bm, 1, none⟩ = some (.int .i64 m.p) /\ w'.cell? ⟨bm, 2, none⟩ = some (.int .i64 m.s) /\ w'.cell? ⟨bm, 3, none⟩ = some (.int .i64 m.e) /\ w'.cell? ⟨bm, 4, none⟩ = some (.int .i64 m.d) /\ w'.cell? ⟨bm, 5, none⟩ = some (.int .i64 m.t) /\ w'.cell? ⟨bm, 6, none⟩ = some (.int .i64 m.q) /\ w'.cell? ⟨bm, 7, none⟩ = some (.int .i64 m.r)) /\ w'.cell? ⟨bp, 0, none⟩ = some (.slice ap np cp)) := fun w' hb => by
  have g1 := (bb hc hb)
  have g2 := (bb hm hb)
  have g3 := (bb hp hb)
  exact ⟨⟨cell_of_row w' _ 0 _ _ _ g1, cell_of_row w' _ 1 _ _ _ g1, cell_of_row w' _ 2 _ _ _ g1⟩, ⟨cell_of_row w' _ 0 _ _ _ g2, cell_of_row w' _ 1 _ _ _ g2, cell_of_row w' _ 2 _ _ _ g2, cell_of_row w' _ 3 _ _ _ g2, cell_of_row w' _ 4 _ _ _ g2, cell_of_row w' _ 5 _ _ _ g2, cell_of_row w' _ 6 _ _ _ g2, cell_of_row w' _ 7 _ _ _ g2⟩, cell_of_row w' _ 0 _ _ _ g3⟩
 have b0 : Below w.heap.size w w.drew := (Below.refl _ _).drew
 have s0 := hS _ b0
 refine wp_region_noPanic ?_
 refine wp_region_held_drew (S := fun w' => (w'.cell? ⟨bc, 0, none⟩ = some v1 /\ w'.cell? ⟨bc, 1, none⟩ = some v2 /\ w'.cell? ⟨bc, 2, none⟩ = some v3) /\ (w'.cell? ⟨bm, 0, none⟩ = some (.slice ap np cp) /\ w'.cell? ⟨bm, 1, none⟩ = some (.int .i64 m.p) /\ w'.cell? ⟨bm, 2, none⟩ = some (.int .i64 m.s) /\ w'.cell? ⟨bm, 3, none⟩ = some (.int .i64 m.e) /\ w'.cell? ⟨bm, 4, none⟩ = some (.int .i64 m.d) /\ w'.cell? ⟨bm, 5, none⟩ = some (.int .i64 m.t) /\ w'.cell? ⟨bm, 6, none⟩ = some (.int .i64 m.q) /\ w'.cell? ⟨bm, 7, none⟩ = some (.int .i64 m.r)) /\ w'.cell? ⟨bp, 0, none⟩ = some (.slice ap np cp)) (by kernel_rfl) s0 (fun hHeld => ?_)
 refine wpAnyH_take (i := 0) (oi := ⟨some 35, .load 44 (.tmp 3), 44, "l08_wire.go:224", #[], none⟩) (v := .agg #[v1, v2, v3]) rfl (by kernel_rfl) (by kernel_rfl) (by kernel_rfl) (fun _ _ _ h => h) (Or.inl ⟨by rfl, by intro w hSw; (try dsimp only at hSw); go_simp⟩) (by assumption) ?_
 simp only [Act.put, sit, sc0, scs]
 refine wpAnyH_take (i := 1) (oi := ⟨some 36, .load 81 (.tmp 6), 81, "l08_wire.go:224", #[], none⟩) (v := .agg #[.slice ap np cp, .int .i64 m.p, .int .i64 m.s, .int .i64 m.e, .int .i64 m.d, .int .i64 m.t, .int .i64 m.q, .int .i64 m.r]) rfl (by kernel_rfl) (by kernel_rfl) (by kernel_rfl) (fun _ _ _ h => h) (Or.inl ⟨by rfl, by intro w hSw; (try dsimp only at hSw); go_simp⟩) (by assumption) ?_
 simp only [Act.put, sit, sc0, scs]
 refine wpAnyH_ready (rs := [2]) (by kernel_rfl) (by simp) ?_
 refine AllReadyH.cons rfl (fun K hK => ?_) AllReadyH.nil
 go_simp
 go_wp2_with (go_at_call 198; with_reducible refine (HM _ b0).mono ?_; rintro e w1 ⟨rfl, hb1⟩)
 have b1 : Below w.heap.size w w1 := b0.trans (hb1.mono b0.size)
 have s1 := hS _ b1
 refine hK.out _ _ s1 (fun hHeld1 => ?_)
 clear hK
 refine wpAnyH_take (i := 3) (oi := ⟨some 38, .unOp .not 4 (.tmp 37), 4, "l08_wire.go:224", #[⟨2, .data⟩], none⟩) (v := .bool false) rfl (by kernel_rfl) (by kernel_rfl) (by kernel_rfl) (fun _ _ _ h => h) (Or.inl ⟨by rfl, by intro w hSw; (try dsimp only at hSw); go_simp⟩) (by assumption) ?_
 simp only [Act.put, sit, sc0, scs]
 refine wpAnyH_take (i := 4) (oi := ⟨some 39, .move (.tmp 38), 4, "l08_wire.go:224", #[⟨3, .data⟩, ⟨2, .chain⟩], none⟩) (v := .bool false) rfl (by kernel_rfl) (by kernel_rfl) (by kernel_rfl) (fun _ _ _ h => h) (Or.inl ⟨by rfl, by intro w hSw; (try dsimp only at hSw); go_simp⟩) (by assumption) ?_
 simp only [Act.put, sit, sc0, scs]
 refine wpAnyH_take (i := 5) (oi := ⟨some 40, .load 40 (.tmp 8), 40, "l08_wire.go:224", #[⟨4, .guard⟩], some (4, false)⟩) (v := .agg #[.slice ap np cp]) rfl (by kernel_rfl) (by kernel_rfl) (by kernel_rfl) (fun _ _ _ h => h) (Or.inl ⟨by rfl, by intro w hSw; (try dsimp only at hSw); go_simp⟩) (by assumption) ?_
 simp only [Act.put, sit, sc0, scs]
 refine wpAnyH_take (i := 6) (oi := ⟨some 41, .load 81 (.tmp 6), 81, "l08_wire.go:224", #[⟨4, .guard⟩], some (4, false)⟩) (v := .agg #[.slice ap np cp, .int .i64 m.p, .int .i64 m.s, .int .i64 m.e, .int .i64 m.d, .int .i64 m.t, .int .i64 m.q, .int .i64 m.r]) rfl (by kernel_rfl) (by kernel_rfl) (by kernel_rfl) (fun _ _ _ h => h) (Or.inl ⟨by rfl, by intro w hSw; (try dsimp only at hSw); go_simp⟩) (by assumption) ?_
 simp only [Act.put, sit, sc0, scs]
 refine wpAnyH_ready (rs := [7]) (by kernel_rfl) (by simp) ?_
 refine AllReadyH.cons rfl (fun K hK => ?_) AllReadyH.nil
 go_simp
 go_wp2_with (go_at_call 257; with_reducible refine (HR _ b1).mono ?_; rintro e w2 ⟨vl, rfl, RL, hb2⟩)
 have b2 : Below w.heap.size w w2 := b1.trans (hb2.mono b1.size)
 have s2 := hS _ b2
 refine hK.out _ _ s2 (fun hHeld2 => ?_)
 clear hK
 refine wpAnyH_ready (rs := [8]) (by kernel_rfl) (by simp) ?_
 refine AllReadyH.cons rfl (fun K hK => ?_) AllReadyH.nil
 go_simp
 go_wp2_with (go_at_call 253; with_reducible refine (HK _ vl b2 RL).mono ?_; rintro e w3 ⟨rfl, hb3⟩)
 have b3 : Below w.heap.size w w3 := b2.trans (hb3.mono b2.size)
 have s3 := hS _ b3
 refine hK.out _ _ s3 (fun hHeld3 => ?_)
 clear hK
 refine wpAnyH_take (i := 9) (oi := ⟨some 44, .unOp .not 4 (.tmp 43), 4, "l08_wire.go:224", #[⟨8, .data⟩, ⟨4, .guard⟩], some (4, false)⟩) (v := .bool (!kb)) rfl (by kernel_rfl) (by kernel_rfl) (by kernel_rfl) (fun _ _ _ h => h) (Or.inl ⟨by rfl, by intro w hSw; (try dsimp only at hSw); go_simp⟩) (by assumption) ?_
 simp only [Act.put, sit, sc0, scs]
 refine wpAnyH_take (i := 10) (oi := ⟨some 45, .pick (.tmp 39) (.const (.bool true)) (.tmp 44), 4, "l08_wire.go:224", #[⟨4, .data⟩, ⟨9, .data⟩], none⟩) (v := .bool (!kb)) rfl (by kernel_rfl) (by kernel_rfl) (by kernel_rfl) (fun _ _ _ h => h) (Or.inl ⟨by rfl, by intro w hSw; (try dsimp only at hSw); go_simp⟩) (by assumption) ?_
 simp only [Act.put, sit, sc0, scs]
 refine wpAnyH_done (by kernel_rfl) ?_ _
 exact NoPanic.normal <| hQ _ _ _ _ _ _ _ _ _ _ _ b3
theorem Zkb {t0 t1 t3 t5 t7 t8 t9 t10 t11 t12 t13 t14 t15 t16 t17 t18 t19 t20 t21 t22 t23 t24 t25 t26 t27 t28 t29 t30 t31 t32 t33 t34 t35 t36 t37 t38 t39 t40 t41 t42 t43 t44 t45 t46 t47 t48 t49 t50 t51 : Value} {fs : List Deferred} (br bo bm np cp : Nat) (ap : Option Addr) (vb vP : Value) (m : Mc) (old : Array Value) (Pr : Value -> Prop) (w : World) (Q : Exit -> Act -> World -> Prop)
  (hr : w.heap[br]? = some (.cells #[vb, vP] 254 (0, 0))) (hm : w.heap[bm]? = some (.cells #[.slice ap np cp, .int .i64 m.p, .int .i64 m.s, .int .i64 m.e, .int .i64 m.d, .int .i64 m.t, .int .i64 m.q, .int .i64 m.r] 81 (0, 0))) (ho : w.heap[bo]? = some (.cells old 81 (0, 0))) (h8 : old.size = 8) (n1 : br ≠ bo) (n2 : bm ≠ bo)
  (HE : ∀ W, Below w.heap.size w W -> Calls Tryz.prog 209 #[.agg #[vb, vP]] W fun e w' => ∃ r, e = .returned r /\ Pr r /\ Below W.heap.size W w')
  (hQ : ∀ u49 u50 u51 r (W : World), Pr r -> Below w.heap.size w W -> W.heap[bo]? = some (.cells old 81 (0, 0)) -> Q .normal ⟨#[t0, t1, .pointer (some ⟨br, 0, none⟩), t3, .pointer (some ⟨bo, 0, none⟩), r, .pointer (some ⟨bm, 0, none⟩), t7, t8, t9, t10, t11, t12, t13, t14, t15, t16, t17, t18, t19, t20, t21, t22, t23, t24, t25, t26, t27, t28, t29, t30, t31, t32, t33, t34, t35, t36, t37, t38, t39, t40, t41, t42, t43, t44, t45, t46, t47, t48, u49, u50, u51], fs⟩ (W.setRow bo #[.slice ap np cp, .int .i64 m.p, .int .i64 m.s, .int .i64 m.e, .int .i64 m.d, .int .i64 m.t, .int .i64 m.q, .int .i64 m.r])) :
  (Code.region 11 (List.toArray (⟨some 49, .load 81 (.tmp 6), 81, "l08_wire.go:227", #[], none⟩ :: ⟨some 50, .load 254 (.tmp 2), 254, "l08_wire.go:227", #[], none⟩ :: ⟨some 51, .call { callee := .value (.func 209), args := #[.tmp 50], argTypes := #[254] }, 259, "l08_wire.go:227", #[⟨1, .data⟩], none⟩ :: ⟨none, .store 81 (.tmp 4) (.tmp 49), 0, "l08_wire.go:227", #[⟨0, .data⟩, ⟨2, .chain⟩, ⟨0, .phase⟩, { on := 1, ground := Ground.textOnly Departure.lateStores }, { on := 2, ground := Ground.textOnly Departure.lateStoresUnsure }], none⟩ :: ⟨some 5, .assign (.tmp 51), 259, "l08_wire.go:227", #[⟨2, .data⟩, ⟨3, .chain⟩, ⟨0, .phase⟩, ⟨1, .phase⟩, ⟨2, .phase⟩, ⟨3, .phase⟩], none⟩ :: [])) true).wp Tryz.prog Q ⟨#[t0, t1, .pointer (some ⟨br, 0, none⟩), t3, .pointer (some ⟨bo, 0, none⟩), t5, .pointer (some ⟨bm, 0, none⟩), t7, t8, t9, t10, t11, t12, t13, t14, t15, t16, t17, t18, t19, t20, t21, t22, t23, t24, t25, t26, t27, t28, t29, t30, t31, t32, t33, t34, t35, t36, t37, t38, t39, t40, t41, t42, t43, t44, t45, t46, t47, t48, t49, t50, t51], fs⟩ w := by
 have hS : ∀ w' : World, w'.heap[br]? = some (.cells #[vb, vP] 254 (0, 0)) -> w'.heap[bm]? = some (.cells #[.slice ap np cp, .int .i64 m.p, .int .i64 m.s, .int .i64 m.e, .int .i64 m.d, .int .i64 m.t, .int .i64 m.q, .int .i64 m.r] 81 (0, 0)) -> (w'.cell? ⟨br, 0, none⟩ = some vb /\ w'.cell? ⟨br, 1, none⟩ = some vP /\ (w'.cell? ⟨bm, 0, none⟩ = some (.slice ap np cp) /\ w'.cell? ⟨bm, 1, none⟩ = some (.int .i64 m.p) /\ w'.cell? ⟨bm, 2, none⟩ = some (.int .i64 m.s) /\ w'.cell? ⟨bm, 3, none⟩ = some (.int .i64 m.e) /\ w'.cell? ⟨bm, 4, none⟩ = some (.int .i64 m.d) /\ w'.cell? ⟨bm, 5, none⟩ = some (.int .i64 m.t) /\ w'.cell? ⟨bm, 6, none⟩ = some (.int .i64 m.q) /\ w'.cell? ⟨bm, 7, none⟩ = some (.int .i64 m.r))) := fun w' g1 g2 =>
  ⟨cell_of_row w' _ 0 _ _ _ g1, cell_of_row w' _ 1 _ _ _ g1, ⟨cell_of_row w' _ 0 _ _ _ g2, cell_of_row w' _ 1 _ _ _ g2, cell_of_row w' _ 2 _ _ _ g2, cell_of_row w' _ 3 _ _ _ g2, cell_of_row w' _ 4 _ _ _ g2, cell_of_row w' _ 5 _ _ _ g2, cell_of_row w' _ 6 _ _ _ g2, cell_of_row w' _ 7 _ _ _ g2⟩⟩
 have b0 : Below w.heap.size w w.drew := (Below.refl _ _).drew
 have lr := (bl hr)
 have lm := (bl hm)
 have lo' := (bl ho)
 have s0 := hS w.drew hr hm
 refine wp_region_noPanic ?_
 refine wp_region_held_drew (S := fun w' => w'.cell? ⟨br, 0, none⟩ = some vb /\ w'.cell? ⟨br, 1, none⟩ = some vP /\ (w'.cell? ⟨bm, 0, none⟩ = some (.slice ap np cp) /\ w'.cell? ⟨bm, 1, none⟩ = some (.int .i64 m.p) /\ w'.cell? ⟨bm, 2, none⟩ = some (.int .i64 m.s) /\ w'.cell? ⟨bm, 3, none⟩ = some (.int .i64 m.e) /\ w'.cell? ⟨bm, 4, none⟩ = some (.int .i64 m.d) /\ w'.cell? ⟨bm, 5, none⟩ = some (.int .i64 m.t) /\ w'.cell? ⟨bm, 6, none⟩ = some (.int .i64 m.q) /\ w'.cell? ⟨bm, 7, none⟩ = some (.int .i64 m.r))) (by kernel_rfl) s0 (fun hHeld => ?_)
 refine wpAnyH_take (i := 0) (oi := ⟨some 49, .load 81 (.tmp 6), 81, "l08_wire.go:227", #[], none⟩) (v := .agg #[.slice ap np cp, .int .i64 m.p, .int .i64 m.s, .int .i64 m.e, .int .i64 m.d, .int .i64 m.t, .int .i64 m.q, .int .i64 m.r]) rfl (by kernel_rfl) (by kernel_rfl) (by kernel_rfl) (fun _ _ _ h => h) (Or.inl ⟨by rfl, by intro w hSw; (try dsimp only at hSw); go_simp⟩) (by assumption) ?_
 simp only [Act.put, sit, sc0, scs]
 refine wpAnyH_take (i := 1) (oi := ⟨some 50, .load 254 (.tmp 2), 254, "l08_wire.go:227", #[], none⟩) (v := .agg #[vb, vP]) rfl (by kernel_rfl) (by kernel_rfl) (by kernel_rfl) (fun _ _ _ h => h) (Or.inl ⟨by rfl, by intro w hSw; (try dsimp only at hSw); go_simp⟩) (by assumption) ?_
 simp only [Act.put, sit, sc0, scs]
 refine wpAnyH_ready (rs := [2]) (by kernel_rfl) (by simp) ?_
 refine AllReadyH.cons rfl (fun K hK => ?_) AllReadyH.nil
 go_simp
 go_wp2_with (go_at_call 209; with_reducible refine (HE _ b0).mono ?_; rintro e w1 ⟨r, rfl, hr1, hb1⟩)
 have b1 : Below w.heap.size w w1 := b0.trans (hb1.mono b0.size)
 have r1 := (b1.block _ lr).trans hr
 have m1 := (b1.block _ lm).trans hm
 have o1 := (b1.block _ lo').trans ho
 refine hK.out _ _ (hS w1 r1 m1) (fun hHeld1 => ?_)
 clear hK
 refine wpAnyH_ready (rs := [3]) (by kernel_rfl) (by simp) ?_
 refine AllReadyH.cons rfl (fun K hK => ?_) AllReadyH.nil
 rw [if_pos (by rfl)]
 refine wp_store_row 81 _ _ rfl bo #[.slice ap np cp, .int .i64 m.p, .int .i64 m.s, .int .i64 m.e, .int .i64 m.d, .int .i64 m.t, .int .i64 m.q, .int .i64 m.r] rfl rfl 81 old o1 Zmc h8 (by simp [Value.oneCell']) ?_
 refine hK.out _ _ (hS _ ((setRow_other _ _ _ _ n1).trans r1) ((setRow_other _ _ _ _ n2).trans m1)) (fun hHeld2 => ?_)
 clear hK
 simp only [Act.put]
 refine wpAnyH_take (i := 4) (oi := ⟨some 5, .assign (.tmp 51), 259, "l08_wire.go:227", #[⟨2, .data⟩, ⟨3, .chain⟩, ⟨0, .phase⟩, ⟨1, .phase⟩, ⟨2, .phase⟩, ⟨3, .phase⟩], none⟩) (v := r) rfl (by kernel_rfl) (by kernel_rfl) (by kernel_rfl) (fun _ _ _ h => h) (Or.inl ⟨by rfl, by intro w hSw; (try dsimp only at hSw); go_simp⟩) (by assumption) ?_
 simp only [Act.put]
 refine wpAnyH_done (by kernel_rfl) ?_ _
 exact NoPanic.normal <| hQ _ _ _ _ w1 hr1 b1 o1
end Go.Proofs.YtfmafkebddojjaaGreatDoor
