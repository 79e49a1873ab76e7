/-
  Texts that stood by themselves, laid into one.
-/
import Derived.Test.YtfmafkebddojjaaGreatDoorRows
import Derived.WalkKit
import Derived.WalkLawsBesides
import Derived.WalkSpells
import Derived.Deep.QuietTactic
import Derived.BigQuiet
import Derived.Laws.CopyOwn
/-
  Helpers for the proofs over this seat: what it is for a slice of bytes to read as a list of numbers in a world. Nothing of the program is proved here; no condition.
-/
set_option maxRecDepth 100000
set_option maxHeartbeats 800000
namespace Go.Proofs.YtfmafkebddojjaaGreatDoor
open Go.RowKit
theorem sit {α : Type} (l : List α) (i : Nat) (a : α) : l.toArray.setIfInBounds i a = (l.set i a).toArray := List.setIfInBounds_toArray ..
theorem sc0 {α : Type} (a b : α) (l : List α) : (a :: l).set 0 b = b :: l := rfl
theorem scs {α : Type} (a b : α) (l : List α) (i : Nat) : (a :: l).set (i + 1) b = a :: l.set i b := rfl
theorem bl {α : Type} {xs : Array α} {i : Nat} {b : α} (h : xs[i]? = some b) : i < xs.size := (Array.getElem?_eq_some_iff.1 h).1
theorem bb {w w' : World} {k : Nat} {o : Obj} (h : w.heap[k]? = some o) (hb : Below w.heap.size w w') : w'.heap[k]? = some o := (hb.block _ (bl h)).trans h
def Row (w : World) (v : Value) (zs : List Int) : Prop :=
 ∃ ao cap, v = .slice ao zs.length cap /\ zs.length <= cap /\ zs.length <= 140737488351232 /\ (∀ z ∈ zs, 0 <= z /\ z <= 255) /\
  (zs ≠ [] -> ∃ g o, ao = some ⟨g, o, none⟩ /\ g < w.heap.size /\ ∀ i, i < zs.length -> w.cell? ⟨g, o + i, none⟩ = some (.int .u8 (zs.getD i 0)))
theorem Row.below {w w' : World} {v : Value} {zs : List Int} (h : Row w v zs) (hb : Below w.heap.size w w') : Row w' v zs := by
 obtain ⟨ao, cap, rfl, hc, hm, hz, hcell⟩ := h
 refine ⟨ao, cap, rfl, hc, hm, hz, fun hne => ?_⟩
 obtain ⟨g, o, rfl, hg, hcell⟩ := hcell hne
 exact ⟨g, o, rfl, Nat.lt_of_lt_of_le hg hb.size, fun i hi => (hb.cell (p := ⟨g, o + i, none⟩) hg).trans (hcell i hi)⟩
theorem Zmn : (Tryz.prog.info? 5).map (fun i => (i.zero, i.size, i.bytes)) = some (some (.int .u8 0), 1, 1) := by kernel_rfl
def bv (zs : List Int) : List Value := zs.map (Value.int .u8)
theorem ZaO (zs : List Int) : (bv zs).length = zs.length := by simp [bv]
theorem ZbS (a b : List Int) : bv (a ++ b) = bv a ++ bv b := by simp [bv]
theorem Ziu (zs : List Int) (i : Nat) (h : i < zs.length) : (bv zs)[i]? = some (.int .u8 (zs.getD i 0)) := by
 simp [bv, List.getD, h]
end Go.Proofs.YtfmafkebddojjaaGreatDoor
namespace Go.Proofs.YtfmafkebddojjaaGreatDoor
def enc : Nat -> Int -> List Int
 | 0, _ => []
 | f + 1, x => if x < 128 then [x] else (x % 128 + 128) :: enc f (x / 128)
def lim : Nat -> Int
 | 0 => 1
 | f + 1 => 128 * lim f
theorem Zel : lim 9 = 9223372036854775808 := by simp [lim]
theorem Zf3 (f : Nat) : 1 <= lim f := by
 induction f with
 | zero => simp [lim]
 | succ f ih => simp only [lim]; omega
theorem Za8 (f : Nat) (x : Int) (h : x < 128) : enc (f + 1) x = [x] := by simp [enc, h]
theorem Zck (f : Nat) (x : Int) (h : 128 <= x) : enc (f + 1) x = (x % 128 + 128) :: enc f (x / 128) := by
 have : ¬ x < 128 := by omega
 simp [enc, this]
theorem Zc1 (f : Nat) (y : Int) (h : 128 <= y) (hy : y < lim (f + 1)) : ∃ f', f = f' + 1 /\ y / 128 < lim f := by
 cases f with
 | zero => simp [lim] at hy; omega
 | succ f' => exact ⟨f', rfl, by simp only [lim] at hy ⊢; omega⟩
theorem ZhT (f : Nat) (x : Int) : (enc f x).length <= f := by
 induction f generalizing x with
 | zero => simp [enc]
 | succ f ih =>
  simp only [enc]
  split
  ·simp
  ·simp only [List.length_cons]; have := ih (x / 128); omega
theorem Zlh (f : Nat) (x : Int) (h : 0 <= x) : ∀ z ∈ enc f x, 0 <= z /\ z <= 255 := by
 induction f generalizing x with
 | zero => simp [enc]
 | succ f ih =>
  simp only [enc]
  split
  ·intro z hz; simp at hz; omega
  ·intro z hz
   simp only [List.mem_cons] at hz
   rcases hz with rfl | hz
   ·omega
   ·exact ih _ (by omega) z hz
def encI (x : Int) : List Int := if x < 0 then [] else enc 9 x
theorem ZjZ (x : Int) (h : x < 0) : encI x = [] := by simp [encI, h]
theorem Zci (x : Int) (h : 0 <= x) : encI x = enc 9 x := by
 have : ¬ x < 0 := by omega
 simp [encI, this]
theorem Zaq (x : Int) : (encI x).length <= 9 := by
 unfold encI; split
 ·simp
 ·exact ZhT 9 x
theorem ZbO (x : Int) : ∀ z ∈ encI x, 0 <= z /\ z <= 255 := by
 unfold encI; split
 ·simp
 ·exact Zlh 9 x (by omega)
end Go.Proofs.YtfmafkebddojjaaGreatDoor
namespace Go.Proofs.YtfmafkebddojjaaGreatDoor
open Go.RowKit
def scan : Nat -> List Int -> Option (List Int)
 | 0, _ => none
 | _ + 1, [] => none
 | f + 1, b :: bs => if b < 128 then some [b] else (scan f bs).map (b :: ·)
def val : List Int -> Int
 | [] => 0
 | b :: bs => b % 128 + 128 * val bs
theorem ZbH (bs : List Int) : 0 <= val bs /\ val bs < lim bs.length := by
 induction bs with
 | nil => simp [val, lim]
 | cons b bs ih => simp only [val, List.length_cons, lim]; omega
theorem ZgM (bs : List Int) (b : Int) : val (bs ++ [b]) = val bs + b % 128 * lim bs.length := by
 induction bs with
 | nil => simp [val, lim]
 | cons c bs ih =>
  simp only [List.cons_append, val, ih, List.length_cons, lim]
  rw [Int.mul_add, <- Int.mul_assoc, <- Int.mul_assoc, Int.mul_comm (b % 128) 128]
  omega
theorem ZeH {a b : Nat} (h : a <= b) : lim a <= lim b := by
 induction h with
 | refl => exact Int.le_refl _
 | step h ih => rename_i m; have := Zf3 m; simp only [lim]; omega
theorem ZkR (b : Int) (k : Nat) : 0 <= b % 128 * lim k /\ b % 128 * lim k <= 127 * lim k := by
 have h1 : 0 <= b % 128 := by omega
 have h2 : b % 128 <= 127 := by omega
 have h3 := Zf3 k
 exact ⟨Int.mul_nonneg h1 (by omega), Int.mul_le_mul_of_nonneg_right h2 (by omega)⟩
def gN (zs : List Int) (a : Int) : Int × Int × Bool :=
 if a < 0 then (0, 0, false) else
 match scan 9 (zs.drop a.toNat) with
 | none => (0, 0, false)
 | some bs => if 1 < bs.length /\ bs.getLast? = some 0 then (0, 0, false) else (val bs, a + bs.length, true)
theorem ZkB (zs : List Int) (a : Int) (h : a < 0) : gN zs a = (0, 0, false) := by simp [gN, h]
theorem ZcQ (zs : List Int) (a : Nat) (h : scan 9 (zs.drop a) = none) : gN zs (a : Int) = (0, 0, false) := by
 have : ¬ (a : Int) < 0 := by omega
 simp [gN, h]
theorem Zld (zs : List Int) (a : Nat) (acc : List Int) (h : scan 9 (zs.drop a) = some (acc ++ [0])) (hk : 0 < acc.length) : gN zs (a : Int) = (0, 0, false) := by
 have : ¬ (a : Int) < 0 := by omega
 simp [gN, h]
 intro h0; subst h0; simp at hk
theorem ZjC (zs : List Int) (a : Nat) (acc : List Int) (b : Int) (h : scan 9 (zs.drop a) = some (acc ++ [b])) (hk : ¬ (b = 0 /\ 0 < acc.length)) :
  gN zs (a : Int) = (val acc + b % 128 * lim acc.length, (a : Int) + acc.length + 1, true) := by
 have h1 : ¬ (a : Int) < 0 := by omega
 have h2 : ¬ (1 < (acc ++ [b]).length /\ (acc ++ [b]).getLast? = some 0) := by
  simp only [List.length_append, List.length_cons, List.length_nil, List.getLast?_append, List.getLast?_singleton, Option.some_or, Option.some.injEq]
  omega
 simp only [gN, h1, if_false, Int.toNat_natCast, h]
 rw [if_neg h2, ZgM]
 simp only [List.length_append, List.length_cons, List.length_nil]
 congr 2
def Sc (zs : List Int) (a k : Nat) (acc : List Int) : Prop := acc.length = k /\ scan 9 (zs.drop a) = (scan (9 - k) (zs.drop (a + k))).map (acc ++ ·)
theorem Sc.start (zs : List Int) (a : Nat) : Sc zs a 0 [] := ⟨rfl, by simp⟩
theorem Sc.more {zs : List Int} {a k : Nat} {acc : List Int} (h : Sc zs a k acc) (hk : k < 9) (hl : a + k < zs.length) (hb : 128 <= zs[a + k]) : Sc zs a (k + 1) (acc ++ [zs[a + k]]) := by
 refine ⟨by simp [h.1], ?_⟩
 rw [h.2, show 9 - k = 9 - (k + 1) + 1 by omega, List.drop_eq_getElem_cons hl]
 simp only [scan]
 rw [if_neg (by omega), Option.map_map]
 congr 1
 funext x
 simp
theorem Sc.last {zs : List Int} {a k : Nat} {acc : List Int} (h : Sc zs a k acc) (hk : k < 9) (hl : a + k < zs.length) (hb : zs[a + k] < 128) : scan 9 (zs.drop a) = some (acc ++ [zs[a + k]]) := by
 rw [h.2, show 9 - k = 9 - (k + 1) + 1 by omega, List.drop_eq_getElem_cons hl]
 simp only [scan]
 rw [if_pos hb]
 rfl
theorem Sc.out {zs : List Int} {a k : Nat} {acc : List Int} (h : Sc zs a k acc) (hk : 9 <= k \/ zs.length <= a + k) : scan 9 (zs.drop a) = none := by
 rw [h.2]
 rcases hk with hk | hk
 ·rw [show 9 - k = 0 by omega]; rfl
 ·rw [List.drop_eq_nil_of_le hk]
  cases 9 - k <;> rfl
abbrev gV (r : Int × Int × Bool) : Value := .tuple #[.int .i64 r.1, .int .i64 r.2.1, .bool r.2.2]
theorem ZdH {k : Nat} (h : k <= 8) : lim k <= 72057594037927936 := by
 have := ZeH h
 rw [show lim 8 = 72057594037927936 from by simp [lim]] at this
 exact this
theorem Zjn {k : Nat} (h : k <= 7) : lim k <= 562949953421312 := by
 have := ZeH h
 rw [show lim 7 = 562949953421312 from by simp [lim]] at this
 exact this
end Go.Proofs.YtfmafkebddojjaaGreatDoor
namespace Go.Proofs.YtfmafkebddojjaaGreatDoor
theorem Zex : ∀ (f : Nat) (ys bs : List Int), scan f ys = some bs -> bs ≠ [] /\ bs.length <= f /\ ∃ rest, ys = bs ++ rest
 | 0, _, _, h => by simp [scan] at h
 | _ + 1, [], _, h => by simp [scan] at h
 | f + 1, b :: ys, bs, h => by
  simp only [scan] at h
  split at h
  ·cases h; exact ⟨by simp, by simp, ys, rfl⟩
  ·cases hs : scan f ys with
   | none => rw [hs] at h; cases h
   | some cs =>
    rw [hs] at h
    cases h
    obtain ⟨h1, h2, rest, h3⟩ := Zex f ys cs hs
    exact ⟨by simp, by simp; omega, rest, by rw [h3]; rfl⟩
theorem Zg5 : ∀ (f : Nat) (ys bs : List Int), (∀ z ∈ ys, 0 <= z /\ z <= 255) -> scan f ys = some bs -> (1 < bs.length -> bs.getLast? ≠ some 0) -> enc f (val bs) = bs
 | 0, _, _, _, h, _ => by simp [scan] at h
 | _ + 1, [], _, _, h, _ => by simp [scan] at h
 | f + 1, b :: ys, bs, hz, h, hl => by
  have hb := hz b (by simp)
  simp only [scan] at h
  split at h
  ·rename_i hlt
   cases h
   have e : val [b] = b := by simp only [val]; omega
   rw [e, Za8 f b hlt]
  ·rename_i hge
   cases hs : scan f ys with
   | none => rw [hs] at h; cases h
   | some cs =>
    rw [hs] at h
    cases h
    obtain ⟨hne, hlen, _⟩ := Zex f ys cs hs
    have hlast : (b :: cs).getLast? = cs.getLast? := List.getLast?_cons_of_ne_nil hne
    have hl2 : cs.getLast? ≠ some 0 := by
     rw [<- hlast]
     apply hl
     have := List.length_pos_iff.2 hne
     simp
     omega
    have ih := Zg5 f ys cs (fun z h => hz z (by simp [h])) hs (fun _ => hl2)
    have hv := (ZbH cs).1
    have hv1 : 1 <= val cs := by
     rcases Int.lt_or_le 0 (val cs) with h0 | h0
     ·omega
     ·have h00 : val cs = 0 := by omega
      rw [h00] at ih
      cases f with
      | zero => rw [<- ih] at hne; simp [enc] at hne
      | succ f =>
       rw [Za8 f 0 (by omega)] at ih
       rw [<- ih] at hl2
       simp at hl2
    have e : val (b :: cs) = b % 128 + 128 * val cs := rfl
    rw [e, Zck f _ (by omega)]
    have e1 : (b % 128 + 128 * val cs) % 128 + 128 = b := by omega
    have e2 : (b % 128 + 128 * val cs) / 128 = val cs := by omega
    rw [e1, e2, ih]
theorem Zgv {zs : List Int} {a x next : Int} (hz : ∀ z ∈ zs, 0 <= z /\ z <= 255) (h : gN zs a = (x, next, true)) : 0 <= a /\ 0 <= x /\ next = a + (encI x).length /\ ∃ rest, zs.drop a.toNat = encI x ++ rest := by
 unfold gN at h
 split at h
 ·cases h
 ·rename_i ha
  cases hs : scan 9 (zs.drop a.toNat) with
  | none => rw [hs] at h; cases h
  | some bs =>
   rw [hs] at h
   simp only at h
   split at h
   ·cases h
   ·rename_i hc
    cases h
    have hd : ∀ z ∈ zs.drop a.toNat, 0 <= z /\ z <= 255 := fun z h => hz z (List.mem_of_mem_drop h)
    have he := Zg5 9 _ bs hd hs (fun h1 h2 => hc ⟨h1, h2⟩)
    obtain ⟨_, _, rest, hr⟩ := Zex 9 _ bs hs
    have hv := (ZbH bs).1
    have hE : encI (val bs) = bs := by rw [Zci _ hv, he]
    exact ⟨by omega, hv, by rw [hE], rest, by rw [hE]; exact hr⟩
end Go.Proofs.YtfmafkebddojjaaGreatDoor
namespace Go.Proofs.YtfmafkebddojjaaGreatDoor
open Go.RowKit
theorem Zai {w1 w2 w3 : World} {row : Option Nat} (h : w1.grownBy w2 row) (k : w2.grownBy w3 row) : w1.grownBy w3 row :=
 ⟨k.os.trans h.os, k.tape.trans h.tape, k.output.trans h.output, Nat.le_trans h.size k.size, fun i hi hne => (k.block i (Nat.lt_of_lt_of_le hi h.size) hne).trans (h.block i hi hne)⟩
theorem Zag (w : World) (P : Nat) (j : Nat) (v : Value) : w.grownBy (w.setCell ⟨P, j, none⟩ v) (some P) :=
 ⟨rfl, rfl, rfl, by simp [World.setCell], fun k _ hk => heap_setCell_other w ⟨P, j, none⟩ k v (fun e => hk (by simp [e]))⟩
theorem Zcw {w w' : World} (h : Below w.heap.size w w') (row : Option Nat) : w.grownBy w' row :=
 ⟨h.os, h.tape, h.output, h.size, fun k hk _ => h.block k hk⟩
theorem Zb4 {w w' : World} (h : Below w.heap.size w w') (row : Option Nat) : w.grownBy w' row :=
 ⟨h.os, h.tape, h.output, h.size, fun k hk _ => h.block k hk⟩
theorem Zah {P : Program} {ops : Array Oper} {rest : List Oper} {o : Oper} {a : Act} {w : World} {Q : Exit -> Act -> World -> Prop} (hgd : o.guard = none) (ty : TypeId) (x y : Operand) (ho : o.op = .store ty x y)
  (g : Nat) (cells : Array Value) (hx : a.eval x = .pointer (some ⟨g, 0, none⟩)) (hy : a.eval y = .agg cells)
  (t : TypeId) (old : Array Value) (hg : w.heap[g]? = some (.cells old t (0, 0))) (hi : (P.info? ty).map (·.size) = some cells.size)
  (hold : old.size = cells.size) (h1 : cells.all (·.oneCell') = true)
  (h : ∀ w2 : World, w2.heap[g]? = some (.cells cells t (0, 0)) -> Below g w w2 -> w2.heap.size = w.heap.size -> wpList P ops Q rest (a.put o.dst undef) w2) : wpList P ops Q (o :: rest) a w :=
 wpList_store_row hgd ty x y ho g cells hx hy t old hg hi hold h1 (h _ (setRow_heap w g old _ t _ hg) (below_setRow (Below.refl _ _) (Nat.le_refl _) _) (size_setRow w g cells))
theorem old2 (w : World) (A B : Obj) : ((w.alloc A).alloc B).heap[w.heap.size]? = some A := (heap_alloc_old _ _ (by simp)).trans (heap_alloc_new _ _)
theorem ZkF (w : World) (A B : Obj) : Below w.heap.size w ((w.alloc A).alloc B) := ((Below.refl _ _).alloc (Nat.le_refl _) _).alloc (by simp) _
def ZbY (xs : List Int) : Array Value := (bv (xs ++ List.replicate (9 - xs.length) 0) ++ [Value.int .i64 xs.length]).toArray
theorem Zfw (xs : List Int) (h : xs.length <= 9) (i : Nat) (hi : i < 9) : (ZbY xs)[i]? = some (.int .u8 ((xs ++ List.replicate (9 - xs.length) 0).getD i 0)) := by
 have hl : (xs ++ List.replicate (9 - xs.length) 0).length = 9 := by simp; omega
 unfold ZbY
 rw [List.getElem?_toArray, List.getElem?_append_left (by rw [ZaO, hl]; exact hi)]
 exact Ziu _ i (by rw [hl]; exact hi)
theorem ZbP (xs : List Int) (h : xs.length <= 9) : (ZbY xs)[9]? = some (.int .i64 xs.length) := by
 have hl : (xs ++ List.replicate (9 - xs.length) 0).length = 9 := by simp; omega
 unfold ZbY
 rw [List.getElem?_toArray, List.getElem?_append_right (by rw [ZaO, hl]; exact Nat.le_refl _)]
 simp [ZaO, hl]
theorem Zjr (xs : List Int) (b : Int) (h : xs.length < 9) : ((ZbY xs).setIfInBounds xs.length (.int .u8 b)).setIfInBounds 9 (.int .i64 ((xs.length : Int) + 1)) = ZbY (xs ++ [b]) := by
 have e : List.replicate (9 - xs.length) (0 : Int) = 0 :: List.replicate (9 - (xs ++ [b]).length) 0 := by
  rw [show 9 - xs.length = (9 - (xs ++ [b]).length) + 1 by simp; omega, List.replicate_succ]
 apply Array.ext'
 simp only [ZbY, Array.toList_setIfInBounds, List.toList_toArray, bv, List.map_append]
 rw [e]
 simp only [List.map_cons, List.append_assoc]
 rw [List.set_append_right _ _ (by simp)]
 simp only [List.length_map, Nat.sub_self, List.cons_append, List.set_cons_zero]
 rw [List.set_append_right _ _ (by simp; omega)]
 rw [show 9 - (List.map (Value.int IntKind.u8) xs).length = 9 - (xs.length + 1) + 1 by simp; omega, List.set_cons_succ]
 rw [List.set_append_right _ _ (by simp)]
 simp
theorem Zla (B : Nat) (b : Int) (xs : List Int) (w : World) (hx : xs.length < 9) (hh : w.heap[B]? = some (.cells (ZbY xs) 284 (0, 0))) :
  Calls Tryz.prog 239 #[.pointer (some ⟨B, 0, none⟩), .int .u8 b] w fun e w' => e = .returned (.tuple #[]) /\ w'.heap[B]? = some (.cells (ZbY (xs ++ [b])) 284 (0, 0)) /\ Below B w w' := by
 have h1 : ∀ i, w.cell? ⟨B, i, none⟩ = (ZbY xs)[i]? := fun i => cell_of_row w B i _ 284 (0, 0) hh
 have h2 : ∀ i, w.frozen? ⟨B, i, none⟩ = false := fun i => frozen_of_row w B i _ 284 hh
 have c9 : w.cell? ⟨B, 9, none⟩ = some (.int .i64 xs.length) := by rw [h1, ZbP xs (by omega)]
 have f9 := h2 9
 have ck := (h1 xs.length).trans (Zfw xs (by omega) xs.length hx)
 have fk := h2 xs.length
 clear h1 h2
 go_enter Tryz.func239, Tryz.ntmps239
 go_wp2
 go_region
 all_goals go_wp2
 all_goals go_end0
 refine ⟨rfl, ?_, (((Below.refl B w).setCell (p := ⟨B, xs.length, none⟩) (Nat.le_refl B) _).setCell (p := ⟨B, 9, none⟩) (Nat.le_refl B) _).drew⟩
 rw [<- Zjr xs b hx]
 exact heap_setCell_same _ B 9 _ 284 _ (heap_setCell_same w B xs.length _ 284 _ hh)
def nV (bs : List Int) : Int × Bool := if 1 < bs.length /\ bs.getLast? = some 0 then (0, false) else (val bs, true)
theorem Zin (bs : List Int) (h : bs.length <= 9) (w : World) (F : Nat) (hh : w.heap[F]? = some (.cells (ZbY bs) 284 (0, 0))) (i : Nat) (hi : i < bs.length) :
  w.cell? ⟨F, i, none⟩ = some (.int .u8 bs[i]) := by
 rw [cell_of_row w F i _ 284 (0, 0) hh, Zfw bs h i (by omega), List.getD_eq_getElem?_getD, List.getElem?_append_left hi]
 simp [hi]
theorem ZjV (bs : List Int) (m : Nat) (h : m < bs.length) : val (bs.drop m) = val (bs.drop (m + 1)) * 128 + bs[m] % 128 := by
 rw [List.drop_eq_getElem_cons h]
 simp only [val]
 omega
theorem Zlg (bs : List Int) (n : Nat) (l : Int) (hn : bs.length = n + 1) (hl : bs[n]? = some l) (h0 : 0 < n) (h : l = 0) : nV bs = (0, false) := by
 have e : bs.getLast? = some 0 := by rw [List.getLast?_eq_getElem?, hn, Nat.add_sub_cancel, hl, h]
 unfold nV
 rw [if_pos ⟨by omega, e⟩]
theorem ZlH (bs : List Int) (n : Nat) (l : Int) (hn : bs.length = n + 1) (hl : bs[n]? = some l) (h : n = 0 \/ (0 < n /\ ¬ l = 0)) : nV bs = (val bs, true) := by
 have e : bs.getLast? = some l := by rw [List.getLast?_eq_getElem?, hn, Nat.add_sub_cancel, hl]
 unfold nV
 rw [if_neg]
 rw [e, hn]
 simp only [Option.some.injEq]
 omega
theorem ZhE (F : Nat) (bs : List Int) (w : World) (h1 : 1 <= bs.length) (h9 : bs.length <= 9) (hz : ∀ z ∈ bs, 0 <= z /\ z <= 255) (hh : w.heap[F]? = some (.cells (ZbY bs) 284 (0, 0))) :
  Calls Tryz.prog 240 #[.pointer (some ⟨F, 0, none⟩)] w fun e w' => e = .returned (.tuple #[.int .i64 (nV bs).1, .bool (nV bs).2]) /\ w' = w := by
 obtain ⟨n, hn⟩ : ∃ n, bs.length = n + 1 := ⟨bs.length - 1, by omega⟩
 have hn9 : n < 9 := by omega
 have c9 : w.cell? ⟨F, 9, none⟩ = some (.int .i64 ((n : Int) + 1)) := by
  rw [cell_of_row w F 9 _ 284 (0, 0) hh, ZbP bs h9, hn]; simp
 have hb := Zin bs h9 w F hh
 clear hh
 obtain ⟨l, hl⟩ : ∃ l, bs[n]? = some l := ⟨bs[n], by simp⟩
 have hcl : w.cell? ⟨F, n, none⟩ = some (.int .u8 l) := by
  have := hb n (by omega)
  rw [this]
  rw [List.getElem?_eq_getElem (by omega)] at hl
  rw [Option.some.inj hl]
 have hl0 := hz l (List.mem_of_getElem? hl)
 by_cases hbad : 0 < n /\ l = 0
 ·have Hv : Hid (nV bs = (0, false)) := Zlg bs n l hn hl hbad.1 hbad.2
  obtain ⟨hn0, rfl⟩ := hbad
  clear hb hz hl hn
  go_enter Tryz.func240, Tryz.ntmps240
  go_wp2
  go_ret2
  exact ⟨by rw [Hv.out]; rfl, rfl⟩
 ·have hd : n = 0 \/ (0 < n /\ ¬ l = 0) := by omega
  have Hv : Hid (nV bs = (val bs, true)) := ZlH bs n l hn hl hd
  have HN : Hid (bs.length = n + 1) := hn
  have hd : n < 1 \/ (0 < n /\ ¬ l = 0) := by omega
  clear hbad hn hl
  rcases hd with hd | ⟨hd, hl1⟩
  all_goals
   go_enter Tryz.func240, Tryz.ntmps240
   go_wp2
   go_loop [5, 6] (fun x i => ∃ (j : Nat) (q : Int), j <= n + 1 /\ i = .int .i64 q /\ x = .int .i64 (val (bs.drop j)) /\ Hid (q = (j : Int) - 1)) (fun _ i => (intOf i + 1).toNat)
   case atStart => exact ⟨n + 1, n, by omega, by go_num, by rw [List.drop_eq_nil_of_le (by have := HN.out; omega)]; rfl, by unfold Hid; omega⟩
   case round =>
    obtain ⟨j, q, hj, rfl, rfl, HQ⟩ := hrel
    cases j with
    | zero =>
     have hq : q < 0 := by have := HQ.out; omega
     go_wp2
     go_ret2
     exact ⟨by rw [Hv.out]; rfl, rfl⟩
    | succ m =>
     have hq : q = (m : Int) := by have := HQ.out; omega
     subst hq
     clear HQ
     have hml : m < bs.length := by have := HN.out; omega
     have hc := hb m hml
     have hv := ZbH (bs.drop (m + 1))
     have hlim := ZdH (show (bs.drop (m + 1)).length <= 8 by simp; omega)
     have Hd : Hid (val (bs.drop m) = val (bs.drop (m + 1)) * 128 + bs[m] % 128) := ZjV bs m hml
     have hzm := hz bs[m] (List.getElem_mem _)
     clear hb hz
     go_wp2
     go_round
     case rel => exact ⟨m, _, by omega, rfl, by rw [Hd.out], rfl⟩
     case measure => simp [intOf]
end Go.Proofs.YtfmafkebddojjaaGreatDoor
