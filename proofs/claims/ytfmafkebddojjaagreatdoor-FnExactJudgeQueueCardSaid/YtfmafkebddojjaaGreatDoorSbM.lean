/-
  Texts that stood by themselves, laid into one.
-/
import Derived.Test.YtfmafkebddojjaaGreatDoorRows
import Derived.WalkKit
import Derived.WalkLawsBesides
import Derived.WalkSpells
import Derived.Deep.QuietTactic
import Derived.BigQuiet
import Derived.Laws.CopyOwn
import Derived.Lib.AppendStr
import Derived.Laws.IdiomStrings
/-
  Helpers for the proofs over this seat: what it is for a slice of bytes to read as a list of numbers in a world. Nothing of the program is proved here; no condition.
-/
namespace Go.Proofs.YtfmafkebddojjaaGreatDoor
open Go.RowKit
theorem sit {α : Type} (l : List α) (i : Nat) (a : α) : l.toArray.setIfInBounds i a = (l.set i a).toArray := List.setIfInBounds_toArray ..
theorem sc0 {α : Type} (a b : α) (l : List α) : (a :: l).set 0 b = b :: l := rfl
theorem scs {α : Type} (a b : α) (l : List α) (i : Nat) : (a :: l).set (i + 1) b = a :: l.set i b := rfl
theorem bl {α : Type} {xs : Array α} {i : Nat} {b : α} (h : xs[i]? = some b) : i < xs.size := (Array.getElem?_eq_some_iff.1 h).1
theorem bb {w w' : World} {k : Nat} {o : Obj} (h : w.heap[k]? = some o) (hb : Below w.heap.size w w') : w'.heap[k]? = some o := (hb.block _ (bl h)).trans h
def Row (w : World) (v : Value) (zs : List Int) : Prop :=
 ∃ ao cap, v = .slice ao zs.length cap /\ zs.length <= cap /\ zs.length <= 140737488351232 /\ (∀ z ∈ zs, 0 <= z /\ z <= 255) /\
  (zs ≠ [] -> ∃ g o, ao = some ⟨g, o, none⟩ /\ g < w.heap.size /\ ∀ i, i < zs.length -> w.cell? ⟨g, o + i, none⟩ = some (.int .u8 (zs.getD i 0)))
theorem Row.below {w w' : World} {v : Value} {zs : List Int} (h : Row w v zs) (hb : Below w.heap.size w w') : Row w' v zs := by
 obtain ⟨ao, cap, rfl, hc, hm, hz, hcell⟩ := h
 refine ⟨ao, cap, rfl, hc, hm, hz, fun hne => ?_⟩
 obtain ⟨g, o, rfl, hg, hcell⟩ := hcell hne
 exact ⟨g, o, rfl, Nat.lt_of_lt_of_le hg hb.size, fun i hi => (hb.cell (p := ⟨g, o + i, none⟩) hg).trans (hcell i hi)⟩
theorem Zlf : (Tryz.prog.info? 5).map (fun i => (i.zero, i.size, i.bytes)) = some (some (.int .u8 0), 1, 1) := by kernel_rfl
def bv (zs : List Int) : List Value := zs.map (Value.int .u8)
theorem Za2 (zs : List Int) : (bv zs).length = zs.length := by simp [bv]
theorem Zci (a b : List Int) : bv (a ++ b) = bv a ++ bv b := by simp [bv]
theorem Zf5 (zs : List Int) (i : Nat) (h : i < zs.length) : (bv zs)[i]? = some (.int .u8 (zs.getD i 0)) := by
 simp [bv, List.getD, h]
theorem Row.of_own {w : World} {base : Nat} {v : Value} {zs : List Int} (h : w.ownsRow base 5 1 v zs.length (bv zs)) (hm : zs.length <= 140737488351232) (hz : ∀ z ∈ zs, 0 <= z /\ z <= 255) : Row w v zs := by
 rcases h.2 with ⟨rfl, h0⟩ | ⟨g, cap, cur, rfl, hb, hg, hnc, hcm, hcs, htake⟩
 ·have : zs = [] := List.eq_nil_of_length_eq_zero h0
  subst this
  exact ⟨none, 0, rfl, by simp, by simp, by simp, fun h => absurd rfl h⟩
 ·refine ⟨_, cap, rfl, hnc, hm, hz, fun _ => ⟨g, 0, rfl, (bl hg), fun i hi => ?_⟩⟩
  have := h.cellAt i (by omega)
  rw [Nat.zero_add, this, Zf5 zs i hi]
end Go.Proofs.YtfmafkebddojjaaGreatDoor
namespace Go.Proofs.YtfmafkebddojjaaGreatDoor
def enc : Nat -> Int -> List Int
 | 0, _ => []
 | f + 1, x => if x < 128 then [x] else (x % 128 + 128) :: enc f (x / 128)
def lim : Nat -> Int
 | 0 => 1
 | f + 1 => 128 * lim f
theorem ZdS : lim 9 = 9223372036854775808 := by simp [lim]
theorem ZfG (f : Nat) : 1 <= lim f := by
 induction f with
 | zero => simp [lim]
 | succ f ih => simp only [lim]; omega
theorem ZaY (f : Nat) (x : Int) (h : x < 128) : enc (f + 1) x = [x] := by simp [enc, h]
theorem ZbX (f : Nat) (x : Int) (h : 128 <= x) : enc (f + 1) x = (x % 128 + 128) :: enc f (x / 128) := by
 have : ¬ x < 128 := by omega
 simp [enc, this]
theorem ZcK (f : Nat) (y : Int) (h : 128 <= y) (hy : y < lim (f + 1)) : ∃ f', f = f' + 1 /\ y / 128 < lim f := by
 cases f with
 | zero => simp [lim] at hy; omega
 | succ f' => exact ⟨f', rfl, by simp only [lim] at hy ⊢; omega⟩
theorem Zhl (f : Nat) (x : Int) : (enc f x).length <= f := by
 induction f generalizing x with
 | zero => simp [enc]
 | succ f ih =>
  simp only [enc]
  split
  ·simp
  ·simp only [List.length_cons]; have := ih (x / 128); omega
theorem Zkx (f : Nat) (x : Int) (h : 0 <= x) : ∀ z ∈ enc f x, 0 <= z /\ z <= 255 := by
 induction f generalizing x with
 | zero => simp [enc]
 | succ f ih =>
  simp only [enc]
  split
  ·intro z hz; simp at hz; omega
  ·intro z hz
   simp only [List.mem_cons] at hz
   rcases hz with rfl | hz
   ·omega
   ·exact ih _ (by omega) z hz
def encI (x : Int) : List Int := if x < 0 then [] else enc 9 x
theorem ZjA (x : Int) (h : x < 0) : encI x = [] := by simp [encI, h]
theorem Zcn (x : Int) (h : 0 <= x) : encI x = enc 9 x := by
 have : ¬ x < 0 := by omega
 simp [encI, this]
theorem Zar (x : Int) : (encI x).length <= 9 := by
 unfold encI; split
 ·simp
 ·exact Zhl 9 x
theorem ZbT (x : Int) : ∀ z ∈ encI x, 0 <= z /\ z <= 255 := by
 unfold encI; split
 ·simp
 ·exact Zkx 9 x (by omega)
end Go.Proofs.YtfmafkebddojjaaGreatDoor
namespace Go.Proofs.YtfmafkebddojjaaGreatDoor
open Go.RowKit
def scan : Nat -> List Int -> Option (List Int)
 | 0, _ => none
 | _ + 1, [] => none
 | f + 1, b :: bs => if b < 128 then some [b] else (scan f bs).map (b :: ·)
def val : List Int -> Int
 | [] => 0
 | b :: bs => b % 128 + 128 * val bs
theorem Zbx (bs : List Int) : 0 <= val bs /\ val bs < lim bs.length := by
 induction bs with
 | nil => simp [val, lim]
 | cons b bs ih => simp only [val, List.length_cons, lim]; omega
theorem Zf6 (bs : List Int) (b : Int) : val (bs ++ [b]) = val bs + b % 128 * lim bs.length := by
 induction bs with
 | nil => simp [val, lim]
 | cons c bs ih =>
  simp only [List.cons_append, val, ih, List.length_cons, lim]
  rw [Int.mul_add, <- Int.mul_assoc, <- Int.mul_assoc, Int.mul_comm (b % 128) 128]
  omega
theorem Zd9 {a b : Nat} (h : a <= b) : lim a <= lim b := by
 induction h with
 | refl => exact Int.le_refl _
 | step h ih => rename_i m; have := ZfG m; simp only [lim]; omega
theorem Zj1 (b : Int) (k : Nat) : 0 <= b % 128 * lim k /\ b % 128 * lim k <= 127 * lim k := by
 have h1 : 0 <= b % 128 := by omega
 have h2 : b % 128 <= 127 := by omega
 have h3 := ZfG k
 exact ⟨Int.mul_nonneg h1 (by omega), Int.mul_le_mul_of_nonneg_right h2 (by omega)⟩
def gN (zs : List Int) (a : Int) : Int × Int × Bool :=
 if a < 0 then (0, 0, false) else
 match scan 9 (zs.drop a.toNat) with
 | none => (0, 0, false)
 | some bs => if 1 < bs.length /\ bs.getLast? = some 0 then (0, 0, false) else (val bs, a + bs.length, true)
theorem ZjN (zs : List Int) (a : Int) (h : a < 0) : gN zs a = (0, 0, false) := by simp [gN, h]
theorem Zct (zs : List Int) (a : Nat) (h : scan 9 (zs.drop a) = none) : gN zs (a : Int) = (0, 0, false) := by
 have : ¬ (a : Int) < 0 := by omega
 simp [gN, h]
theorem Zj7 (zs : List Int) (a : Nat) (acc : List Int) (h : scan 9 (zs.drop a) = some (acc ++ [0])) (hk : 0 < acc.length) : gN zs (a : Int) = (0, 0, false) := by
 have : ¬ (a : Int) < 0 := by omega
 simp [gN, h]
 intro h0; subst h0; simp at hk
theorem ZhP (zs : List Int) (a : Nat) (acc : List Int) (b : Int) (h : scan 9 (zs.drop a) = some (acc ++ [b])) (hk : ¬ (b = 0 /\ 0 < acc.length)) :
  gN zs (a : Int) = (val acc + b % 128 * lim acc.length, (a : Int) + acc.length + 1, true) := by
 have h1 : ¬ (a : Int) < 0 := by omega
 have h2 : ¬ (1 < (acc ++ [b]).length /\ (acc ++ [b]).getLast? = some 0) := by
  simp only [List.length_append, List.length_cons, List.length_nil, List.getLast?_append, List.getLast?_singleton, Option.some_or, Option.some.injEq]
  omega
 simp only [gN, h1, if_false, Int.toNat_natCast, h]
 rw [if_neg h2, Zf6]
 simp only [List.length_append, List.length_cons, List.length_nil]
 congr 2
def Sc (zs : List Int) (a k : Nat) (acc : List Int) : Prop := acc.length = k /\ scan 9 (zs.drop a) = (scan (9 - k) (zs.drop (a + k))).map (acc ++ ·)
theorem Sc.start (zs : List Int) (a : Nat) : Sc zs a 0 [] := ⟨rfl, by simp⟩
theorem Sc.more {zs : List Int} {a k : Nat} {acc : List Int} (h : Sc zs a k acc) (hk : k < 9) (hl : a + k < zs.length) (hb : 128 <= zs[a + k]) : Sc zs a (k + 1) (acc ++ [zs[a + k]]) := by
 refine ⟨by simp [h.1], ?_⟩
 rw [h.2, show 9 - k = 9 - (k + 1) + 1 by omega, List.drop_eq_getElem_cons hl]
 simp only [scan]
 rw [if_neg (by omega), Option.map_map]
 congr 1
 funext x
 simp
theorem Sc.last {zs : List Int} {a k : Nat} {acc : List Int} (h : Sc zs a k acc) (hk : k < 9) (hl : a + k < zs.length) (hb : zs[a + k] < 128) : scan 9 (zs.drop a) = some (acc ++ [zs[a + k]]) := by
 rw [h.2, show 9 - k = 9 - (k + 1) + 1 by omega, List.drop_eq_getElem_cons hl]
 simp only [scan]
 rw [if_pos hb]
 rfl
theorem Sc.out {zs : List Int} {a k : Nat} {acc : List Int} (h : Sc zs a k acc) (hk : 9 <= k \/ zs.length <= a + k) : scan 9 (zs.drop a) = none := by
 rw [h.2]
 rcases hk with hk | hk
 ·rw [show 9 - k = 0 by omega]; rfl
 ·rw [List.drop_eq_nil_of_le hk]
  cases 9 - k <;> rfl
abbrev gV (r : Int × Int × Bool) : Value := .tuple #[.int .i64 r.1, .int .i64 r.2.1, .bool r.2.2]
theorem Zc0 {k : Nat} (h : k <= 8) : lim k <= 72057594037927936 := by
 have := Zd9 h
 rw [show lim 8 = 72057594037927936 from by simp [lim]] at this
 exact this
theorem ZhV {k : Nat} (h : k <= 7) : lim k <= 562949953421312 := by
 have := Zd9 h
 rw [show lim 7 = 562949953421312 from by simp [lim]] at this
 exact this
end Go.Proofs.YtfmafkebddojjaaGreatDoor
namespace Go.Proofs.YtfmafkebddojjaaGreatDoor
theorem Zec : ∀ (f : Nat) (ys bs : List Int), scan f ys = some bs -> bs ≠ [] /\ bs.length <= f /\ ∃ rest, ys = bs ++ rest
 | 0, _, _, h => by simp [scan] at h
 | _ + 1, [], _, h => by simp [scan] at h
 | f + 1, b :: ys, bs, h => by
  simp only [scan] at h
  split at h
  ·cases h; exact ⟨by simp, by simp, ys, rfl⟩
  ·cases hs : scan f ys with
   | none => rw [hs] at h; cases h
   | some cs =>
    rw [hs] at h
    cases h
    obtain ⟨h1, h2, rest, h3⟩ := Zec f ys cs hs
    exact ⟨by simp, by simp; omega, rest, by rw [h3]; rfl⟩
theorem ZfT : ∀ (f : Nat) (ys bs : List Int), (∀ z ∈ ys, 0 <= z /\ z <= 255) -> scan f ys = some bs -> (1 < bs.length -> bs.getLast? ≠ some 0) -> enc f (val bs) = bs
 | 0, _, _, _, h, _ => by simp [scan] at h
 | _ + 1, [], _, _, h, _ => by simp [scan] at h
 | f + 1, b :: ys, bs, hz, h, hl => by
  have hb := hz b (by simp)
  simp only [scan] at h
  split at h
  ·rename_i hlt
   cases h
   have e : val [b] = b := by simp only [val]; omega
   rw [e, ZaY f b hlt]
  ·rename_i hge
   cases hs : scan f ys with
   | none => rw [hs] at h; cases h
   | some cs =>
    rw [hs] at h
    cases h
    obtain ⟨hne, hlen, _⟩ := Zec f ys cs hs
    have hlast : (b :: cs).getLast? = cs.getLast? := List.getLast?_cons_of_ne_nil hne
    have hl2 : cs.getLast? ≠ some 0 := by
     rw [<- hlast]
     apply hl
     have := List.length_pos_iff.2 hne
     simp
     omega
    have ih := ZfT f ys cs (fun z h => hz z (by simp [h])) hs (fun _ => hl2)
    have hv := (Zbx cs).1
    have hv1 : 1 <= val cs := by
     rcases Int.lt_or_le 0 (val cs) with h0 | h0
     ·omega
     ·have h00 : val cs = 0 := by omega
      rw [h00] at ih
      cases f with
      | zero => rw [<- ih] at hne; simp [enc] at hne
      | succ f =>
       rw [ZaY f 0 (by omega)] at ih
       rw [<- ih] at hl2
       simp at hl2
    have e : val (b :: cs) = b % 128 + 128 * val cs := rfl
    rw [e, ZbX f _ (by omega)]
    have e1 : (b % 128 + 128 * val cs) % 128 + 128 = b := by omega
    have e2 : (b % 128 + 128 * val cs) / 128 = val cs := by omega
    rw [e1, e2, ih]
theorem Zgh {zs : List Int} {a x next : Int} (hz : ∀ z ∈ zs, 0 <= z /\ z <= 255) (h : gN zs a = (x, next, true)) : 0 <= a /\ 0 <= x /\ next = a + (encI x).length /\ ∃ rest, zs.drop a.toNat = encI x ++ rest := by
 unfold gN at h
 split at h
 ·cases h
 ·rename_i ha
  cases hs : scan 9 (zs.drop a.toNat) with
  | none => rw [hs] at h; cases h
  | some bs =>
   rw [hs] at h
   simp only at h
   split at h
   ·cases h
   ·rename_i hc
    cases h
    have hd : ∀ z ∈ zs.drop a.toNat, 0 <= z /\ z <= 255 := fun z h => hz z (List.mem_of_mem_drop h)
    have he := ZfT 9 _ bs hd hs (fun h1 h2 => hc ⟨h1, h2⟩)
    obtain ⟨_, _, rest, hr⟩ := Zec 9 _ bs hs
    have hv := (Zbx bs).1
    have hE : encI (val bs) = bs := by rw [Zcn _ hv, he]
    exact ⟨by omega, hv, by rw [hE], rest, by rw [hE]; exact hr⟩
end Go.Proofs.YtfmafkebddojjaaGreatDoor
namespace Go.Proofs.YtfmafkebddojjaaGreatDoor
open Go.RowKit
theorem Zai {w1 w2 w3 : World} {row : Option Nat} (h : w1.grownBy w2 row) (k : w2.grownBy w3 row) : w1.grownBy w3 row :=
 ⟨k.os.trans h.os, k.tape.trans h.tape, k.output.trans h.output, Nat.le_trans h.size k.size, fun i hi hne => (k.block i (Nat.lt_of_lt_of_le hi h.size) hne).trans (h.block i hi hne)⟩
theorem Zae (w : World) (P : Nat) (j : Nat) (v : Value) : w.grownBy (w.setCell ⟨P, j, none⟩ v) (some P) :=
 ⟨rfl, rfl, rfl, by simp [World.setCell], fun k _ hk => heap_setCell_other w ⟨P, j, none⟩ k v (fun e => hk (by simp [e]))⟩
theorem ZcY {w w' : World} (h : Below w.heap.size w w') (row : Option Nat) : w.grownBy w' row :=
 ⟨h.os, h.tape, h.output, h.size, fun k hk _ => h.block k hk⟩
theorem Zaj {P : Program} {ops : Array Oper} {rest : List Oper} {o : Oper} {a : Act} {w : World} {Q : Exit -> Act -> World -> Prop} (hgd : o.guard = none) (ty : TypeId) (x y : Operand) (ho : o.op = .store ty x y)
  (g : Nat) (cells : Array Value) (hx : a.eval x = .pointer (some ⟨g, 0, none⟩)) (hy : a.eval y = .agg cells)
  (t : TypeId) (old : Array Value) (hg : w.heap[g]? = some (.cells old t (0, 0))) (hi : (P.info? ty).map (·.size) = some cells.size)
  (hold : old.size = cells.size) (h1 : cells.all (·.oneCell') = true)
  (h : ∀ w2 : World, w2.heap[g]? = some (.cells cells t (0, 0)) -> Below g w w2 -> w2.heap.size = w.heap.size -> wpList P ops Q rest (a.put o.dst undef) w2) : wpList P ops Q (o :: rest) a w :=
 wpList_store_row hgd ty x y ho g cells hx hy t old hg hi hold h1 (h _ (setRow_heap w g old _ t _ hg) (below_setRow (Below.refl _ _) (Nat.le_refl _) _) (size_setRow w g cells))
theorem old2 (w : World) (A B : Obj) : ((w.alloc A).alloc B).heap[w.heap.size]? = some A := (heap_alloc_old _ _ (by simp)).trans (heap_alloc_new _ _)
theorem Zkc (w : World) (A B : Obj) : Below w.heap.size w ((w.alloc A).alloc B) := ((Below.refl _ _).alloc (Nat.le_refl _) _).alloc (by simp) _
def ZbS (xs : List Int) : Array Value := (bv (xs ++ List.replicate (9 - xs.length) 0) ++ [Value.int .i64 xs.length]).toArray
theorem Zek (xs : List Int) (h : xs.length <= 9) (i : Nat) (hi : i < 9) : (ZbS xs)[i]? = some (.int .u8 ((xs ++ List.replicate (9 - xs.length) 0).getD i 0)) := by
 have hl : (xs ++ List.replicate (9 - xs.length) 0).length = 9 := by simp; omega
 unfold ZbS
 rw [List.getElem?_toArray, List.getElem?_append_left (by rw [Za2, hl]; exact hi)]
 exact Zf5 _ i (by rw [hl]; exact hi)
theorem Zbz (xs : List Int) (h : xs.length <= 9) : (ZbS xs)[9]? = some (.int .i64 xs.length) := by
 have hl : (xs ++ List.replicate (9 - xs.length) 0).length = 9 := by simp; omega
 unfold ZbS
 rw [List.getElem?_toArray, List.getElem?_append_right (by rw [Za2, hl]; exact Nat.le_refl _)]
 simp [Za2, hl]
theorem Zh5 (xs : List Int) (b : Int) (h : xs.length < 9) : ((ZbS xs).setIfInBounds xs.length (.int .u8 b)).setIfInBounds 9 (.int .i64 ((xs.length : Int) + 1)) = ZbS (xs ++ [b]) := by
 have e : List.replicate (9 - xs.length) (0 : Int) = 0 :: List.replicate (9 - (xs ++ [b]).length) 0 := by
  rw [show 9 - xs.length = (9 - (xs ++ [b]).length) + 1 by simp; omega, List.replicate_succ]
 apply Array.ext'
 simp only [ZbS, Array.toList_setIfInBounds, List.toList_toArray, bv, List.map_append]
 rw [e]
 simp only [List.map_cons, List.append_assoc]
 rw [List.set_append_right _ _ (by simp)]
 simp only [List.length_map, Nat.sub_self, List.cons_append, List.set_cons_zero]
 rw [List.set_append_right _ _ (by simp; omega)]
 rw [show 9 - (List.map (Value.int IntKind.u8) xs).length = 9 - (xs.length + 1) + 1 by simp; omega, List.set_cons_succ]
 rw [List.set_append_right _ _ (by simp)]
 simp
set_option maxRecDepth 100000 in
set_option maxHeartbeats 400000 in
theorem ZjT (B : Nat) (b : Int) (xs : List Int) (w : World) (hx : xs.length < 9) (hh : w.heap[B]? = some (.cells (ZbS xs) 284 (0, 0))) :
  Calls Tryz.prog 239 #[.pointer (some ⟨B, 0, none⟩), .int .u8 b] w fun e w' => e = .returned (.tuple #[]) /\ w'.heap[B]? = some (.cells (ZbS (xs ++ [b])) 284 (0, 0)) /\ Below B w w' := by
 have h1 : ∀ i, w.cell? ⟨B, i, none⟩ = (ZbS xs)[i]? := fun i => cell_of_row w B i _ 284 (0, 0) hh
 have h2 : ∀ i, w.frozen? ⟨B, i, none⟩ = false := fun i => frozen_of_row w B i _ 284 hh
 have c9 : w.cell? ⟨B, 9, none⟩ = some (.int .i64 xs.length) := by rw [h1, Zbz xs (by omega)]
 have f9 := h2 9
 have ck := (h1 xs.length).trans (Zek xs (by omega) xs.length hx)
 have fk := h2 xs.length
 clear h1 h2
 go_enter Tryz.func239, Tryz.ntmps239
 go_wp2
 go_region
 all_goals go_wp2
 all_goals go_end0
 refine ⟨rfl, ?_, (((Below.refl B w).setCell (p := ⟨B, xs.length, none⟩) (Nat.le_refl B) _).setCell (p := ⟨B, 9, none⟩) (Nat.le_refl B) _).drew⟩
 rw [<- Zh5 xs b hx]
 exact heap_setCell_same _ B 9 _ 284 _ (heap_setCell_same w B xs.length _ 284 _ hh)
def nV (bs : List Int) : Int × Bool := if 1 < bs.length /\ bs.getLast? = some 0 then (0, false) else (val bs, true)
theorem Zhq (bs : List Int) (h : bs.length <= 9) (w : World) (F : Nat) (hh : w.heap[F]? = some (.cells (ZbS bs) 284 (0, 0))) (i : Nat) (hi : i < bs.length) :
  w.cell? ⟨F, i, none⟩ = some (.int .u8 bs[i]) := by
 rw [cell_of_row w F i _ 284 (0, 0) hh, Zek bs h i (by omega), List.getD_eq_getElem?_getD, List.getElem?_append_left hi]
 simp [hi]
theorem ZiZ (bs : List Int) (m : Nat) (h : m < bs.length) : val (bs.drop m) = val (bs.drop (m + 1)) * 128 + bs[m] % 128 := by
 rw [List.drop_eq_getElem_cons h]
 simp only [val]
 omega
theorem Zke (bs : List Int) (n : Nat) (l : Int) (hn : bs.length = n + 1) (hl : bs[n]? = some l) (h0 : 0 < n) (h : l = 0) : nV bs = (0, false) := by
 have e : bs.getLast? = some 0 := by rw [List.getLast?_eq_getElem?, hn, Nat.add_sub_cancel, hl, h]
 unfold nV
 rw [if_pos ⟨by omega, e⟩]
theorem ZkH (bs : List Int) (n : Nat) (l : Int) (hn : bs.length = n + 1) (hl : bs[n]? = some l) (h : n = 0 \/ (0 < n /\ ¬ l = 0)) : nV bs = (val bs, true) := by
 have e : bs.getLast? = some l := by rw [List.getLast?_eq_getElem?, hn, Nat.add_sub_cancel, hl]
 unfold nV
 rw [if_neg]
 rw [e, hn]
 simp only [Option.some.injEq]
 omega
set_option maxHeartbeats 800000 in
theorem Zgt (F : Nat) (bs : List Int) (w : World) (h1 : 1 <= bs.length) (h9 : bs.length <= 9) (hz : ∀ z ∈ bs, 0 <= z /\ z <= 255) (hh : w.heap[F]? = some (.cells (ZbS bs) 284 (0, 0))) :
  Calls Tryz.prog 240 #[.pointer (some ⟨F, 0, none⟩)] w fun e w' => e = .returned (.tuple #[.int .i64 (nV bs).1, .bool (nV bs).2]) /\ w' = w := by
 obtain ⟨n, hn⟩ : ∃ n, bs.length = n + 1 := ⟨bs.length - 1, by omega⟩
 have hn9 : n < 9 := by omega
 have c9 : w.cell? ⟨F, 9, none⟩ = some (.int .i64 ((n : Int) + 1)) := by
  rw [cell_of_row w F 9 _ 284 (0, 0) hh, Zbz bs h9, hn]; simp
 have hb := Zhq bs h9 w F hh
 clear hh
 obtain ⟨l, hl⟩ : ∃ l, bs[n]? = some l := ⟨bs[n], by simp⟩
 have hcl : w.cell? ⟨F, n, none⟩ = some (.int .u8 l) := by
  have := hb n (by omega)
  rw [this]
  rw [List.getElem?_eq_getElem (by omega)] at hl
  rw [Option.some.inj hl]
 have hl0 := hz l (List.mem_of_getElem? hl)
 by_cases hbad : 0 < n /\ l = 0
 ·have Hv : Hid (nV bs = (0, false)) := Zke bs n l hn hl hbad.1 hbad.2
  obtain ⟨hn0, rfl⟩ := hbad
  clear hb hz hl hn
  go_enter Tryz.func240, Tryz.ntmps240
  go_wp2
  go_ret2
  exact ⟨by rw [Hv.out]; rfl, rfl⟩
 ·have hd : n = 0 \/ (0 < n /\ ¬ l = 0) := by omega
  have Hv : Hid (nV bs = (val bs, true)) := ZkH bs n l hn hl hd
  have HN : Hid (bs.length = n + 1) := hn
  have hd : n < 1 \/ (0 < n /\ ¬ l = 0) := by omega
  clear hbad hn hl
  rcases hd with hd | ⟨hd, hl1⟩
  all_goals
   go_enter Tryz.func240, Tryz.ntmps240
   go_wp2
   go_loop [5, 6] (fun x i => ∃ (j : Nat) (q : Int), j <= n + 1 /\ i = .int .i64 q /\ x = .int .i64 (val (bs.drop j)) /\ Hid (q = (j : Int) - 1)) (fun _ i => (intOf i + 1).toNat)
   case atStart => exact ⟨n + 1, n, by omega, by go_num, by rw [List.drop_eq_nil_of_le (by have := HN.out; omega)]; rfl, by unfold Hid; omega⟩
   case round =>
    obtain ⟨j, q, hj, rfl, rfl, HQ⟩ := hrel
    cases j with
    | zero =>
     have hq : q < 0 := by have := HQ.out; omega
     go_wp2
     go_ret2
     exact ⟨by rw [Hv.out]; rfl, rfl⟩
    | succ m =>
     have hq : q = (m : Int) := by have := HQ.out; omega
     subst hq
     clear HQ
     have hml : m < bs.length := by have := HN.out; omega
     have hc := hb m hml
     have hv := Zbx (bs.drop (m + 1))
     have hlim := Zc0 (show (bs.drop (m + 1)).length <= 8 by simp; omega)
     have Hd : Hid (val (bs.drop m) = val (bs.drop (m + 1)) * 128 + bs[m] % 128) := ZiZ bs m hml
     have hzm := hz bs[m] (List.getElem_mem _)
     clear hb hz
     go_wp2
     go_round
     case rel => exact ⟨m, _, by omega, rfl, by rw [Hd.out], rfl⟩
     case measure => simp [intOf]
def One (w : World) (P : Nat) (a : Int) : Prop := w.heap[P]? = some (.cells #[.int .i64 a] 3 (0, 0))
theorem One.cell {w : World} {P : Nat} {a : Int} (h : One w P a) : w.cell? ⟨P, 0, none⟩ = some (.int .i64 a) := by
 rw [cell_of_row w P 0 _ 3 (0, 0) h]; rfl
theorem One.free {w : World} {P : Nat} {a : Int} (h : One w P a) : w.frozen? ⟨P, 0, none⟩ = false := frozen_of_row w P 0 _ 3 h
theorem One.lt {w : World} {P : Nat} {a : Int} (h : One w P a) : P < w.heap.size := (bl h)
theorem One.set {w : World} {P : Nat} {a : Int} (h : One w P a) (b : Int) : One (w.setCell ⟨P, 0, none⟩ (.int .i64 b)) P b := heap_setCell_same w P 0 _ 3 _ h
theorem One.kept {w w' : World} {P : Nat} {a : Int} (h : One w P a) {row : Option Nat} (hg : w.grownBy w' row) (hne : some P ≠ row) : One w' P a := (hg.block P h.lt hne).trans h
theorem One.below {w w' : World} {P B : Nat} {a : Int} (h : One w P a) (hb : Below B w w') (hP : P < B) : One w' P a := (hb.block P hP).trans h
set_option maxHeartbeats 400000 in
theorem Zhy (v : Value) (zs : List Int) (P : Nat) (a : Int) (w : World) (R : ∃ ao cap, v = .slice ao zs.length cap) (h : One w P a) (_hl : zs.length <= 140737488351232) (ha : a < 0 \/ (zs.length : Int) <= a) :
  Calls Tryz.prog 238 #[.agg #[v, .pointer (some ⟨P, 0, none⟩)]] w fun e w' => e = .returned (.tuple #[.int .u8 0, .bool false]) /\ One w' P a /\ w.grownBy w' (some P) := by
 obtain ⟨ao, cap, rfl⟩ := R
 have hc := h.cell
 have hP := h.lt
 by_cases ha1 : a < 0
 ·clear ha
  go_enter Tryz.func238, Tryz.ntmps238
  go_wp2
  go_ret2
  exact ⟨rfl, h.kept (World.grownBy_alloc w _ none) (by simp), World.grownBy_alloc w _ _⟩
 ·have ha2 : (zs.length : Int) <= a := by omega
  clear ha
  go_enter Tryz.func238, Tryz.ntmps238
  go_wp2
  go_ret2
  exact ⟨rfl, h.kept (World.grownBy_alloc w _ none) (by simp), World.grownBy_alloc w _ _⟩
set_option maxHeartbeats 400000 in
theorem Zjm (zs : List Int) (P n g o cap : Nat) (w : World) (h : One w P n) (hl : zs.length <= 140737488351232) (hn : n < zs.length)
  (hc0 : w.cell? ⟨g, o + n, none⟩ = some (.int .u8 zs[n])) (hgP : g ≠ P) :
  Calls Tryz.prog 238 #[.agg #[.slice (some ⟨g, o, none⟩) zs.length cap, .pointer (some ⟨P, 0, none⟩)]] w fun e w' => e = .returned (.tuple #[.int .u8 zs[n], .bool true]) /\ One w' P ((n : Int) + 1) /\ w.grownBy w' (some P) := by
 have hc := h.cell
 have hf := h.free
 have hP := h.lt
 have hg := World.block_lt_of_cell? _ _ hc0
 simp only at hg
 generalize zs[n] = b at hc0 ⊢
 go_enter Tryz.func238, Tryz.ntmps238
 go_wp2
 go_ret2
 have h1 := (h.set ((n : Int) + 1)).kept (World.grownBy_alloc (w.setCell ⟨P, 0, none⟩ (.int .i64 ((n : Int) + 1))) (.cells #[.slice (some ⟨g, o, none⟩) zs.length cap, .pointer (some ⟨P, 0, none⟩)] 254) none) (by simp)
 exact ⟨rfl, h1, Zai (Zae w P 0 _) (World.grownBy_alloc _ _ _)⟩
theorem Zak {w w1 w2 : World} {row : Option Nat} {B : Nat} (h : w.grownBy w1 row) (k : Below B w1 w2) (hB : w.heap.size <= B) : w.grownBy w2 row :=
 ⟨k.os.trans h.os, k.tape.trans h.tape, k.output.trans h.output, Nat.le_trans h.size k.size, fun i hi hne => (k.block i (by omega)).trans (h.block i hi hne)⟩
theorem ZkI (zs : List Int) (n : Nat) (bs : List Int) (h : scan 9 (zs.drop n) = some bs) :
  (gN zs (n : Int)).1 = (nV bs).1 /\ (gN zs (n : Int)).2.2 = (nV bs).2 /\ ((gN zs (n : Int)).2.2 = true -> (gN zs (n : Int)).2.1 = (n : Int) + bs.length) := by
 have h1 : ¬ (n : Int) < 0 := by omega
 simp only [gN, h1, if_false, Int.toNat_natCast, h, nV]
 split <;> simp
def Zfs (w : World) (F : Nat) : Nat :=
 match w.cell? ⟨F, 9, none⟩ with
 | some v => (intOf v).toNat
 | none => 0
theorem Zdv {w : World} {F : Nat} {bs : List Int} (h : bs.length <= 9) (hh : w.heap[F]? = some (.cells (ZbS bs) 284 (0, 0))) : Zfs w F = bs.length := by
 unfold Zfs
 rw [cell_of_row w F 9 _ 284 (0, 0) hh, Zbz bs h]
 simp [intOf]
set_option maxHeartbeats 800000 in
theorem ZjZ (v : Value) (zs : List Int) (P : Nat) (a : Int) (w : World) (R : ∃ ao cap, v = .slice ao zs.length cap) (h : One w P a) (hl : zs.length <= 140737488351232) (ha : a < 0 \/ (zs.length : Int) <= a) :
  Calls Tryz.prog 207 #[.agg #[v, .pointer (some ⟨P, 0, none⟩)]] w fun e w' => e = .returned (.tuple #[.int .i64 0, .bool false]) /\ (∃ q, One w' P q) /\ w.grownBy w' (some P) := by
 have hP := h.lt
 obtain ⟨ao, cap, rfl⟩ := R
 go_enter Tryz.func207, Tryz.ntmps207
 go_wp2_with fail
 refine wp_loop_rounds 1 ?_
 rw [rounds_succ]
 go_wp2_with fail
 have hg2 : w.grownBy ((w.alloc (Obj.cells #[Value.slice ao zs.length cap, Value.pointer (some ⟨P, 0, none⟩)] 254)).alloc (Obj.cells (ZbS []) 284)) (some P) :=
  Zai (World.grownBy_alloc _ _ _) (World.grownBy_alloc _ _ _)
 have h2 : One ((w.alloc (Obj.cells #[Value.slice ao zs.length cap, Value.pointer (some ⟨P, 0, none⟩)] 254)).alloc (Obj.cells (ZbS []) 284)) P a :=
  (h.kept (World.grownBy_alloc w _ none) (by simp)).kept (World.grownBy_alloc _ _ none) (by simp)
 refine (Zhy _ zs P a _ ⟨ao, cap, rfl⟩ h2 hl ha).mono ?_
 rintro e w1 ⟨rfl, hone, hgrow⟩
 have hg3 := Zai hg2 hgrow
 clear hg2 h2 hgrow
 go_wp2_with fail
 go_ret2
 exact ⟨rfl, ⟨_, hone⟩, hg3⟩
set_option maxHeartbeats 1600000 in
theorem Zkf (zs : List Int) (P n g o cap : Nat) (w : World) (h : One w P n) (hl : zs.length <= 140737488351232) (hn : n < zs.length) (hz : ∀ z ∈ zs, 0 <= z /\ z <= 255)
  (hc0 : ∀ i, i < zs.length -> w.cell? ⟨g, o + i, none⟩ = some (.int .u8 (zs.getD i 0))) (hg : g < w.heap.size) (hgP : g ≠ P) :
  Calls Tryz.prog 207 #[.agg #[.slice (some ⟨g, o, none⟩) zs.length cap, .pointer (some ⟨P, 0, none⟩)]] w fun e w' =>
   e = .returned (.tuple #[.int .i64 (gN zs n).1, .bool (gN zs n).2.2]) /\ (∃ q, One w' P q /\ ((gN zs n).2.2 = true -> q = (gN zs n).2.1)) /\ w.grownBy w' (some P) := by
 have hP := h.lt
 go_enter Tryz.func207, Tryz.ntmps207
 go_wp2_with fail
 go_loopw [5] (fun _ wr => ∃ (k : Nat) (acc : List Int), k <= 9 /\ n + k <= zs.length /\ Hid (Sc zs n k acc) /\ Hid (∀ z ∈ acc, 0 <= z /\ z <= 255) /\ One wr P ((n : Int) + k) /\ wr.heap[w.heap.size + 1]? = some (.cells (ZbS acc) 284 (0, 0)) /\
   wr.heap[w.heap.size]? = some (.cells #[.slice (some ⟨g, o, none⟩) zs.length cap, .pointer (some ⟨P, 0, none⟩)] 254 (0, 0)) /\ w.grownBy wr (some P)) (fun _ wr => 9 - Zfs wr (w.heap.size + 1))
 case atStart =>
  refine ⟨0, [], by omega, by omega, Sc.start zs n, by simp [Hid], ?_, heap_alloc2_new _ _ _, heap_alloc2_old _ _ _, Zai (World.grownBy_alloc _ _ _) (World.grownBy_alloc _ _ _)⟩
  rw [show (n : Int) + ((0 : Nat) : Int) = (n : Int) by omega]
  exact (h.kept (World.grownBy_alloc w _ none) (by simp)).kept (World.grownBy_alloc _ _ none) (by simp)
 case round =>
  obtain ⟨k, acc, hk, hkl, HS, HZ, hone, hform, hbox, hgr⟩ := hrel
  have hal := HS.out.1
  have hc9 : wr.cell? ⟨w.heap.size + 1, 9, none⟩ = some (.int .i64 k) := by
   rw [cell_of_row wr _ 9 _ 284 (0, 0) hform, Zbz acc (by omega), hal]
  have hb0 : wr.cell? ⟨w.heap.size, 0, none⟩ = some (.slice (some ⟨g, o, none⟩) zs.length cap) := by rw [cell_of_row wr _ 0 _ 254 (0, 0) hbox]; rfl
  have hb1 : wr.cell? ⟨w.heap.size, 1, none⟩ = some (.pointer (some ⟨P, 0, none⟩)) := by rw [cell_of_row wr _ 1 _ 254 (0, 0) hbox]; rfl
  have HL : Hid (acc.length = k) := hal
  clear hal
  by_cases h9 : k < 9
  ·by_cases hlt : n + k < zs.length
   ·have hcb : wr.cell? ⟨g, o + (n + k), none⟩ = some (.int .u8 zs[n + k]) := by
     rw [World.cell?_of_block (w := w) (hgr.block g hg (by simpa using hgP)), hc0 (n + k) hlt]
     simp [hlt]
    have hone' : One wr P ((n + k : Nat) : Int) := by rw [show ((n + k : Nat) : Int) = (n : Int) + k by omega]; exact hone
    have hzb := hz zs[n + k] (List.getElem_mem _)
    have hne1 : some (w.heap.size + 1) ≠ some P := by simp; omega
    have hne0 : some w.heap.size ≠ some P := by simp; omega
    have hs1 := (bl hform)
    have hs0 := (bl hbox)
    have HZ1 : Hid (∀ z ∈ acc ++ [zs[n + k]], 0 <= z /\ z <= 255) := by
     intro z hz'; simp only [List.mem_append, List.mem_singleton] at hz'
     rcases hz' with hz' | rfl
     ·exact HZ.out z hz'
     ·exact hzb
    have HL1 : Hid ((acc ++ [zs[n + k]]).length = k + 1) := by unfold Hid; rw [List.length_append, HL.out]; rfl
    go_wp2_with fail
    refine (Zjm zs P (n + k) g o cap wr hone' hl hlt hcb hgP).mono ?_
    rintro e w1 ⟨rfl, hone1, hgr1⟩
    have hform1 : w1.heap[w.heap.size + 1]? = some (.cells (ZbS acc) 284 (0, 0)) := (hgr1.block _ hs1 hne1).trans hform
    have hbox1 : w1.heap[w.heap.size]? = some (.cells #[.slice (some ⟨g, o, none⟩) zs.length cap, .pointer (some ⟨P, 0, none⟩)] 254 (0, 0)) := (hgr1.block _ hs0 hne0).trans hbox
    clear hc9 hb0 hb1 hone hone' hcb
    go_wp2_with fail
    refine (ZjT (w.heap.size + 1) zs[n + k] acc w1 (by have := HL.out; omega) hform1).mono ?_
    rintro e w2 ⟨rfl, hform2, hbel2⟩
    have hone2 := hone1.below hbel2 (by omega)
    have hbox2 := (hbel2.block _ (by omega)).trans hbox1
    have hgr2 := Zak (Zai hgr hgr1) hbel2 (by omega)
    clear hform1 hbox1 hone1 hgr1 hbel2
    by_cases hb128 : zs[n + k] < 128
    ·have hsc := HS.out.last h9 hlt hb128
     have HG : Hid _ := ZkI zs n _ hsc
     clear hsc
     go_wp2_with fail
     refine (Zgt (w.heap.size + 1) (acc ++ [zs[n + k]]) w2 (by rw [HL1.out]; omega) (by rw [HL1.out]; omega) HZ1.out hform2).mono ?_
     rintro e w3 ⟨rfl, rfl⟩
     go_wp2_with fail
     go_ret2
     obtain ⟨e1, e2, e3⟩ := HG.out
     refine ⟨by rw [e1, e2]; rfl, ⟨_, hone2, fun hok => ?_⟩, hgr2⟩
     rw [e3 hok, HL1.out]
     omega
    ·go_wp2_with fail
     go_roundw
     case rel =>
      exact ⟨k + 1, acc ++ [zs[n + k]], by omega, by omega, HS.out.more h9 hlt (by omega), HZ1, by rw [show (n : Int) + ((k + 1 : Nat) : Int) = ((n + k : Nat) : Int) + 1 by omega]; exact hone2, hform2, hbox2, hgr2⟩
     case measure =>
      rw [Zdv (by rw [HL1.out]; omega) hform2, Zdv (by rw [HL.out]; omega) hform, HL1.out, HL.out]
      omega
   ·have HG : Hid (gN zs (n : Int) = (0, 0, false)) := Zct zs n (HS.out.out (Or.inr (by omega)))
    go_wp2_with fail
    refine (Zhy _ zs P _ wr ⟨_, _, rfl⟩ hone hl (Or.inr (by omega))).mono ?_
    rintro e w1 ⟨rfl, hone1, hgr1⟩
    have hgr2 := Zai hgr hgr1
    go_wp2_with fail
    go_ret2
    exact ⟨by rw [HG.out]; rfl, ⟨_, hone1, by rw [HG.out]; intro h; cases h⟩, hgr2⟩
  ·have HG : Hid (gN zs (n : Int) = (0, 0, false)) := Zct zs n (HS.out.out (Or.inl (by omega)))
   go_wp2_with fail
   go_ret2
   exact ⟨by rw [HG.out]; rfl, ⟨_, hone, by rw [HG.out]; intro h; cases h⟩, hgr⟩
theorem Zfu (v : Value) (zs : List Int) (P : Nat) (a : Int) (w0 w : World) (R : Row w0 v zs) (hb : Below w0.heap.size w0 w) (hP : w0.heap.size <= P) (h : One w P a) :
  Calls Tryz.prog 207 #[.agg #[v, .pointer (some ⟨P, 0, none⟩)]] w fun e w' =>
   e = .returned (.tuple #[.int .i64 (gN zs a).1, .bool (gN zs a).2.2]) /\ (∃ q, One w' P q /\ ((gN zs a).2.2 = true -> q = (gN zs a).2.1)) /\ w.grownBy w' (some P) := by
 obtain ⟨ao, cap, rfl, hcap, hm, hz, hcell⟩ := R
 by_cases hout : a < 0 \/ (zs.length : Int) <= a
 ·have hg : gN zs a = (0, 0, false) := by
   by_cases ha : a < 0
   ·exact ZjN zs a ha
   ·obtain ⟨n, rfl⟩ := Int.eq_ofNat_of_zero_le (show 0 <= a by omega)
    exact Zct zs n ((Sc.start zs n).out (Or.inr (by omega)))
  rw [hg]
  refine (ZjZ _ zs P a w ⟨ao, cap, rfl⟩ h hm hout).mono ?_
  rintro e w' ⟨rfl, ⟨q, hq⟩, hgr⟩
  exact ⟨rfl, ⟨q, hq, by intro h; cases h⟩, hgr⟩
 ·obtain ⟨n, rfl⟩ := Int.eq_ofNat_of_zero_le (show 0 <= a by omega)
  obtain ⟨g, o, rfl, hg, hcell⟩ := hcell (by intro e; subst e; simp at hout)
  exact Zkf zs P n g o cap w h hm (by omega) hz (fun i hi => (hb.cell (p := ⟨g, o + i, none⟩) hg).trans (hcell i hi)) (Nat.lt_of_lt_of_le hg hb.size) (by omega)
def sb (s : ByteArray) : List Int := s.data.toList.map fun b => (b.toNat : Int)
theorem Zbj (s : ByteArray) : (sb s).length = s.size := by rw [sb, List.length_map, Array.length_toList]; rfl
theorem Zjn (s : ByteArray) : ∀ z ∈ sb s, 0 <= z /\ z <= 255 := by
 intro z hz
 simp only [sb, List.mem_map] at hz
 obtain ⟨b, _, rfl⟩ := hz
 have := b.toNat_lt
 omega
def pt (s : ByteArray) : List Int := encI s.size ++ sb s
theorem ZcT (s : ByteArray) : (pt s).length = (encI s.size).length + s.size := by rw [pt, List.length_append, Zbj]
theorem ZkJ (s : ByteArray) : ∀ z ∈ pt s, 0 <= z /\ z <= 255 := by
 intro z hz
 simp only [pt, List.mem_append] at hz
 rcases hz with hz | hz
 ·exact ZbT _ z hz
 ·exact Zjn s z hz
theorem ZcC (s : ByteArray) (cap j : Nat) (u : Value) (h : (bv (sb s))[j]? = some u) : (bytesRow s cap)[j]? = some u := by
 have hj : j < s.data.size := by
  have := (List.getElem?_eq_some_iff.1 h).1
  rw [Za2, Zbj] at this
  exact this
 unfold bytesRow
 rw [Array.getElem?_append_left (by simpa using hj)]
 simp only [bv, sb, List.map_map, List.getElem?_map, Array.getElem?_toList] at h
 simpa using h
theorem Zb5 {P : Program} (w : World) {ops : Array Oper} {rest : List Oper} {o : Oper} {a : Act} {Q : Exit -> Act -> World -> Prop} (hg : o.guard = none) (x : Operand) (src dst e : TypeId) (ho : o.op = .convert src dst x)
  (hs : P.underlying src = some .string) (hd : P.underlying dst = some (.slice e)) (he : P.underlying e = some (.int .u8)) (s : ByteArray) (hx : a.eval x = .string s)
  (h : ∀ cap w', (∀ j u, (bv (sb s))[j]? = some u -> w'.cell? ((⟨w.heap.size, 0, none⟩ : Addr).add j) = some u) -> w.grownBy w' none -> w.heap.size < w'.heap.size -> wpList P ops Q rest (a.put o.dst (.slice (some ⟨w.heap.size, 0, none⟩) s.size cap)) w') :
  wpList P ops Q (o :: rest) a w := by
 refine wpList_plain hg fun K hK => ?_
 obtain ⟨cap, w', hrun, h1, h2, h3⟩ : ∃ cap w', (convert src dst (.string s)).run P w = .ok (.slice (some ⟨w.heap.size, 0, none⟩) s.size cap) w' /\
   (∀ j u, (bv (sb s))[j]? = some u -> w'.cell? ((⟨w.heap.size, 0, none⟩ : Addr).add j) = some u) /\ w.grownBy w' none /\ w.heap.size < w'.heap.size := by
  refine ⟨_, _, run_bytes_of_string w src dst e s hs hd he, ?_, ?_, ?_⟩
  ·intro j u hu
   rw [Addr.add_lit, Nat.zero_add, cell_of_row _ w.heap.size j _ e _ (heap_alloc_new w.drew _)]
   exact ZcC s _ j u hu
  ·have hga := World.grownBy_alloc w.drew (Obj.cells (bytesRow s (grownCap w s.size 0 e)) e ((bytesRow s (grownCap w s.size 0 e)).size, (bytesRow s (grownCap w s.size 0 e)).size + 1)) none
   exact ⟨hga.os, hga.tape, hga.output, hga.size, hga.block⟩
  ·show w.heap.size < (w.heap.push _).size
   simp
 unfold Oper.wp
 simp [execOp, ho, hx, hrun, Result.andThen]
 exact hK _ _ (h cap w' h1 h2 h3)
end Go.Proofs.YtfmafkebddojjaaGreatDoor
