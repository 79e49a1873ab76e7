/-
  Texts that stood by themselves, laid into one.
-/
import Derived.Test.YtfmafkebddojjaaGreatDoorNumberM
import Derived.Lib.AppendStr
import Derived.Laws.IdiomStrings
import Derived.Laws.BytesArg
import Derived.Laws.CopyOwn
import Derived.Below
import Derived.Deep.MidRow
import Derived.Laws.ResultCell
/-
  Contract of (impl.reader).next: the byte at the place, and the place one further; none where there is no byte.
-/
set_option maxHeartbeats 1600000
namespace Go.Proofs.YtfmafkebddojjaaGreatDoor
open Go.RowKit
def One (w : World) (P : Nat) (a : Int) : Prop := w.heap[P]? = some (.cells #[.int .i64 a] 3 (0, 0))
theorem One.cell {w : World} {P : Nat} {a : Int} (h : One w P a) : w.cell? ⟨P, 0, none⟩ = some (.int .i64 a) := by
 rw [cell_of_row w P 0 _ 3 (0, 0) h]; rfl
theorem One.free {w : World} {P : Nat} {a : Int} (h : One w P a) : w.frozen? ⟨P, 0, none⟩ = false := frozen_of_row w P 0 _ 3 h
theorem One.lt {w : World} {P : Nat} {a : Int} (h : One w P a) : P < w.heap.size := (bl h)
theorem One.set {w : World} {P : Nat} {a : Int} (h : One w P a) (b : Int) : One (w.setCell ⟨P, 0, none⟩ (.int .i64 b)) P b := heap_setCell_same w P 0 _ 3 _ h
theorem One.kept {w w' : World} {P : Nat} {a : Int} (h : One w P a) {row : Option Nat} (hg : w.grownBy w' row) (hne : some P ≠ row) : One w' P a := (hg.block P h.lt hne).trans h
theorem One.below {w w' : World} {P B : Nat} {a : Int} (h : One w P a) (hb : Below B w w') (hP : P < B) : One w' P a := (hb.block P hP).trans h
theorem ZiG (v : Value) (zs : List Int) (P : Nat) (a : Int) (w : World) (R : ∃ ao cap, v = .slice ao zs.length cap) (h : One w P a) (_hl : zs.length <= 140737488351232) (ha : a < 0 \/ (zs.length : Int) <= a) :
  Calls Tryz.prog 238 #[.agg #[v, .pointer (some ⟨P, 0, none⟩)]] w fun e w' => e = .returned (.tuple #[.int .u8 0, .bool false]) /\ One w' P a /\ w.grownBy w' (some P) := by
 obtain ⟨ao, cap, rfl⟩ := R
 have hc := h.cell
 have hP := h.lt
 by_cases ha1 : a < 0
 ·clear ha
  go_enter Tryz.func238, Tryz.ntmps238
  go_wp2
  go_ret2
  exact ⟨rfl, h.kept (World.grownBy_alloc w _ none) (by simp), World.grownBy_alloc w _ _⟩
 ·have ha2 : (zs.length : Int) <= a := by omega
  clear ha
  go_enter Tryz.func238, Tryz.ntmps238
  go_wp2
  go_ret2
  exact ⟨rfl, h.kept (World.grownBy_alloc w _ none) (by simp), World.grownBy_alloc w _ _⟩
theorem Zkw (zs : List Int) (P n g o cap : Nat) (w : World) (h : One w P n) (hl : zs.length <= 140737488351232) (hn : n < zs.length)
  (hc0 : w.cell? ⟨g, o + n, none⟩ = some (.int .u8 zs[n])) (hgP : g ≠ P) :
  Calls Tryz.prog 238 #[.agg #[.slice (some ⟨g, o, none⟩) zs.length cap, .pointer (some ⟨P, 0, none⟩)]] w fun e w' => e = .returned (.tuple #[.int .u8 zs[n], .bool true]) /\ One w' P ((n : Int) + 1) /\ w.grownBy w' (some P) := by
 have hc := h.cell
 have hf := h.free
 have hP := h.lt
 have hg := World.block_lt_of_cell? _ _ hc0
 simp only at hg
 generalize zs[n] = b at hc0 ⊢
 go_enter Tryz.func238, Tryz.ntmps238
 go_wp2
 go_ret2
 have h1 := (h.set ((n : Int) + 1)).kept (World.grownBy_alloc (w.setCell ⟨P, 0, none⟩ (.int .i64 ((n : Int) + 1))) (.cells #[.slice (some ⟨g, o, none⟩) zs.length cap, .pointer (some ⟨P, 0, none⟩)] 254) none) (by simp)
 exact ⟨rfl, h1, Zai (Zag w P 0 _) (World.grownBy_alloc _ _ _)⟩
theorem Zam {w w1 w2 : World} {row : Option Nat} {B : Nat} (h : w.grownBy w1 row) (k : Below B w1 w2) (hB : w.heap.size <= B) : w.grownBy w2 row :=
 ⟨k.os.trans h.os, k.tape.trans h.tape, k.output.trans h.output, Nat.le_trans h.size k.size, fun i hi hne => (k.block i (by omega)).trans (h.block i hi hne)⟩
theorem ZlJ (zs : List Int) (n : Nat) (bs : List Int) (h : scan 9 (zs.drop n) = some bs) :
  (gN zs (n : Int)).1 = (nV bs).1 /\ (gN zs (n : Int)).2.2 = (nV bs).2 /\ ((gN zs (n : Int)).2.2 = true -> (gN zs (n : Int)).2.1 = (n : Int) + bs.length) := by
 have h1 : ¬ (n : Int) < 0 := by omega
 simp only [gN, h1, if_false, Int.toNat_natCast, h, nV]
 split <;> simp
def ZfZ (w : World) (F : Nat) : Nat :=
 match w.cell? ⟨F, 9, none⟩ with
 | some v => (intOf v).toNat
 | none => 0
theorem Zd7 {w : World} {F : Nat} {bs : List Int} (h : bs.length <= 9) (hh : w.heap[F]? = some (.cells (ZbY bs) 284 (0, 0))) : ZfZ w F = bs.length := by
 unfold ZfZ
 rw [cell_of_row w F 9 _ 284 (0, 0) hh, ZbP bs h]
 simp [intOf]
theorem Zk4 (v : Value) (zs : List Int) (P : Nat) (a : Int) (w : World) (R : ∃ ao cap, v = .slice ao zs.length cap) (h : One w P a) (hl : zs.length <= 140737488351232) (ha : a < 0 \/ (zs.length : Int) <= a) :
  Calls Tryz.prog 207 #[.agg #[v, .pointer (some ⟨P, 0, none⟩)]] w fun e w' => e = .returned (.tuple #[.int .i64 0, .bool false]) /\ (∃ q, One w' P q) /\ w.grownBy w' (some P) := by
 have hP := h.lt
 obtain ⟨ao, cap, rfl⟩ := R
 go_enter Tryz.func207, Tryz.ntmps207
 go_wp2_with fail
 refine wp_loop_rounds 1 ?_
 rw [rounds_succ]
 go_wp2_with fail
 have hg2 : w.grownBy ((w.alloc (Obj.cells #[Value.slice ao zs.length cap, Value.pointer (some ⟨P, 0, none⟩)] 254)).alloc (Obj.cells (ZbY []) 284)) (some P) :=
  Zai (World.grownBy_alloc _ _ _) (World.grownBy_alloc _ _ _)
 have h2 : One ((w.alloc (Obj.cells #[Value.slice ao zs.length cap, Value.pointer (some ⟨P, 0, none⟩)] 254)).alloc (Obj.cells (ZbY []) 284)) P a :=
  (h.kept (World.grownBy_alloc w _ none) (by simp)).kept (World.grownBy_alloc _ _ none) (by simp)
 refine (ZiG _ zs P a _ ⟨ao, cap, rfl⟩ h2 hl ha).mono ?_
 rintro e w1 ⟨rfl, hone, hgrow⟩
 have hg3 := Zai hg2 hgrow
 clear hg2 h2 hgrow
 go_wp2_with fail
 go_ret2
 exact ⟨rfl, ⟨_, hone⟩, hg3⟩
theorem Zll (zs : List Int) (P n g o cap : Nat) (w : World) (h : One w P n) (hl : zs.length <= 140737488351232) (hn : n < zs.length) (hz : ∀ z ∈ zs, 0 <= z /\ z <= 255)
  (hc0 : ∀ i, i < zs.length -> w.cell? ⟨g, o + i, none⟩ = some (.int .u8 (zs.getD i 0))) (hg : g < w.heap.size) (hgP : g ≠ P) :
  Calls Tryz.prog 207 #[.agg #[.slice (some ⟨g, o, none⟩) zs.length cap, .pointer (some ⟨P, 0, none⟩)]] w fun e w' =>
   e = .returned (.tuple #[.int .i64 (gN zs n).1, .bool (gN zs n).2.2]) /\ (∃ q, One w' P q /\ ((gN zs n).2.2 = true -> q = (gN zs n).2.1)) /\ w.grownBy w' (some P) := by
 have hP := h.lt
 go_enter Tryz.func207, Tryz.ntmps207
 go_wp2_with fail
 go_loopw [5] (fun _ wr => ∃ (k : Nat) (acc : List Int), k <= 9 /\ n + k <= zs.length /\ Hid (Sc zs n k acc) /\ Hid (∀ z ∈ acc, 0 <= z /\ z <= 255) /\ One wr P ((n : Int) + k) /\ wr.heap[w.heap.size + 1]? = some (.cells (ZbY acc) 284 (0, 0)) /\
   wr.heap[w.heap.size]? = some (.cells #[.slice (some ⟨g, o, none⟩) zs.length cap, .pointer (some ⟨P, 0, none⟩)] 254 (0, 0)) /\ w.grownBy wr (some P)) (fun _ wr => 9 - ZfZ wr (w.heap.size + 1))
 case atStart =>
  refine ⟨0, [], by omega, by omega, Sc.start zs n, by simp [Hid], ?_, heap_alloc2_new _ _ _, heap_alloc2_old _ _ _, Zai (World.grownBy_alloc _ _ _) (World.grownBy_alloc _ _ _)⟩
  rw [show (n : Int) + ((0 : Nat) : Int) = (n : Int) by omega]
  exact (h.kept (World.grownBy_alloc w _ none) (by simp)).kept (World.grownBy_alloc _ _ none) (by simp)
 case round =>
  obtain ⟨k, acc, hk, hkl, HS, HZ, hone, hform, hbox, hgr⟩ := hrel
  have hal := HS.out.1
  have hc9 : wr.cell? ⟨w.heap.size + 1, 9, none⟩ = some (.int .i64 k) := by
   rw [cell_of_row wr _ 9 _ 284 (0, 0) hform, ZbP acc (by omega), hal]
  have hb0 : wr.cell? ⟨w.heap.size, 0, none⟩ = some (.slice (some ⟨g, o, none⟩) zs.length cap) := by rw [cell_of_row wr _ 0 _ 254 (0, 0) hbox]; rfl
  have hb1 : wr.cell? ⟨w.heap.size, 1, none⟩ = some (.pointer (some ⟨P, 0, none⟩)) := by rw [cell_of_row wr _ 1 _ 254 (0, 0) hbox]; rfl
  have HL : Hid (acc.length = k) := hal
  clear hal
  by_cases h9 : k < 9
  ·by_cases hlt : n + k < zs.length
   ·have hcb : wr.cell? ⟨g, o + (n + k), none⟩ = some (.int .u8 zs[n + k]) := by
     rw [World.cell?_of_block (w := w) (hgr.block g hg (by simpa using hgP)), hc0 (n + k) hlt]
     simp [hlt]
    have hone' : One wr P ((n + k : Nat) : Int) := by rw [show ((n + k : Nat) : Int) = (n : Int) + k by omega]; exact hone
    have hzb := hz zs[n + k] (List.getElem_mem _)
    have hne1 : some (w.heap.size + 1) ≠ some P := by simp; omega
    have hne0 : some w.heap.size ≠ some P := by simp; omega
    have hs1 := (bl hform)
    have hs0 := (bl hbox)
    have HZ1 : Hid (∀ z ∈ acc ++ [zs[n + k]], 0 <= z /\ z <= 255) := by
     intro z hz'; simp only [List.mem_append, List.mem_singleton] at hz'
     rcases hz' with hz' | rfl
     ·exact HZ.out z hz'
     ·exact hzb
    have HL1 : Hid ((acc ++ [zs[n + k]]).length = k + 1) := by unfold Hid; rw [List.length_append, HL.out]; rfl
    go_wp2_with fail
    refine (Zkw zs P (n + k) g o cap wr hone' hl hlt hcb hgP).mono ?_
    rintro e w1 ⟨rfl, hone1, hgr1⟩
    have hform1 : w1.heap[w.heap.size + 1]? = some (.cells (ZbY acc) 284 (0, 0)) := (hgr1.block _ hs1 hne1).trans hform
    have hbox1 : w1.heap[w.heap.size]? = some (.cells #[.slice (some ⟨g, o, none⟩) zs.length cap, .pointer (some ⟨P, 0, none⟩)] 254 (0, 0)) := (hgr1.block _ hs0 hne0).trans hbox
    clear hc9 hb0 hb1 hone hone' hcb
    go_wp2_with fail
    refine (Zla (w.heap.size + 1) zs[n + k] acc w1 (by have := HL.out; omega) hform1).mono ?_
    rintro e w2 ⟨rfl, hform2, hbel2⟩
    have hone2 := hone1.below hbel2 (by omega)
    have hbox2 := (hbel2.block _ (by omega)).trans hbox1
    have hgr2 := Zam (Zai hgr hgr1) hbel2 (by omega)
    clear hform1 hbox1 hone1 hgr1 hbel2
    by_cases hb128 : zs[n + k] < 128
    ·have hsc := HS.out.last h9 hlt hb128
     have HG : Hid _ := ZlJ zs n _ hsc
     clear hsc
     go_wp2_with fail
     refine (ZhE (w.heap.size + 1) (acc ++ [zs[n + k]]) w2 (by rw [HL1.out]; omega) (by rw [HL1.out]; omega) HZ1.out hform2).mono ?_
     rintro e w3 ⟨rfl, rfl⟩
     go_wp2_with fail
     go_ret2
     obtain ⟨e1, e2, e3⟩ := HG.out
     refine ⟨by rw [e1, e2]; rfl, ⟨_, hone2, fun hok => ?_⟩, hgr2⟩
     rw [e3 hok, HL1.out]
     omega
    ·go_wp2_with fail
     go_roundw
     case rel =>
      exact ⟨k + 1, acc ++ [zs[n + k]], by omega, by omega, HS.out.more h9 hlt (by omega), HZ1, by rw [show (n : Int) + ((k + 1 : Nat) : Int) = ((n + k : Nat) : Int) + 1 by omega]; exact hone2, hform2, hbox2, hgr2⟩
     case measure =>
      rw [Zd7 (by rw [HL1.out]; omega) hform2, Zd7 (by rw [HL.out]; omega) hform, HL1.out, HL.out]
      omega
   ·have HG : Hid (gN zs (n : Int) = (0, 0, false)) := ZcQ zs n (HS.out.out (Or.inr (by omega)))
    go_wp2_with fail
    refine (ZiG _ zs P _ wr ⟨_, _, rfl⟩ hone hl (Or.inr (by omega))).mono ?_
    rintro e w1 ⟨rfl, hone1, hgr1⟩
    have hgr2 := Zai hgr hgr1
    go_wp2_with fail
    go_ret2
    exact ⟨by rw [HG.out]; rfl, ⟨_, hone1, by rw [HG.out]; intro h; cases h⟩, hgr2⟩
  ·have HG : Hid (gN zs (n : Int) = (0, 0, false)) := ZcQ zs n (HS.out.out (Or.inl (by omega)))
   go_wp2_with fail
   go_ret2
   exact ⟨by rw [HG.out]; rfl, ⟨_, hone, by rw [HG.out]; intro h; cases h⟩, hgr⟩
theorem Zdu (v : Value) (zs : List Int) (P : Nat) (a : Int) (w0 w : World) (R : Row w0 v zs) (hb : Below w0.heap.size w0 w) (hP : w0.heap.size <= P) (h : One w P a) :
  Calls Tryz.prog 207 #[.agg #[v, .pointer (some ⟨P, 0, none⟩)]] w fun e w' =>
   e = .returned (.tuple #[.int .i64 (gN zs a).1, .bool (gN zs a).2.2]) /\ (∃ q, One w' P q /\ ((gN zs a).2.2 = true -> q = (gN zs a).2.1)) /\ w.grownBy w' (some P) := by
 obtain ⟨ao, cap, rfl, hcap, hm, hz, hcell⟩ := R
 by_cases hout : a < 0 \/ (zs.length : Int) <= a
 ·have hg : gN zs a = (0, 0, false) := by
   by_cases ha : a < 0
   ·exact ZkB zs a ha
   ·obtain ⟨n, rfl⟩ := Int.eq_ofNat_of_zero_le (show 0 <= a by omega)
    exact ZcQ zs n ((Sc.start zs n).out (Or.inr (by omega)))
  rw [hg]
  refine (Zk4 _ zs P a w ⟨ao, cap, rfl⟩ h hm hout).mono ?_
  rintro e w' ⟨rfl, ⟨q, hq⟩, hgr⟩
  exact ⟨rfl, ⟨q, hq, by intro h; cases h⟩, hgr⟩
 ·obtain ⟨n, rfl⟩ := Int.eq_ofNat_of_zero_le (show 0 <= a by omega)
  obtain ⟨g, o, rfl, hg, hcell⟩ := hcell (by intro e; subst e; simp at hout)
  exact Zll zs P n g o cap w h hm (by omega) hz (fun i hi => (hb.cell (p := ⟨g, o + i, none⟩) hg).trans (hcell i hi)) (Nat.lt_of_lt_of_le hg hb.size) (by omega)
def sb (s : ByteArray) : List Int := s.data.toList.map fun b => (b.toNat : Int)
theorem ZaF (s : ByteArray) : (sb s).length = s.size := by rw [sb, List.length_map, Array.length_toList]; rfl
theorem Zif (s : ByteArray) : ∀ z ∈ sb s, 0 <= z /\ z <= 255 := by
 intro z hz
 simp only [sb, List.mem_map] at hz
 obtain ⟨b, _, rfl⟩ := hz
 have := b.toNat_lt
 omega
def pt (s : ByteArray) : List Int := encI s.size ++ sb s
theorem ZcG (s : ByteArray) : (pt s).length = (encI s.size).length + s.size := by rw [pt, List.length_append, ZaF]
theorem ZlO (s : ByteArray) : ∀ z ∈ pt s, 0 <= z /\ z <= 255 := by
 intro z hz
 simp only [pt, List.mem_append] at hz
 rcases hz with hz | hz
 ·exact ZbO _ z hz
 ·exact Zif s z hz
theorem ZcX (s : ByteArray) (cap j : Nat) (u : Value) (h : (bv (sb s))[j]? = some u) : (bytesRow s cap)[j]? = some u := by
 have hj : j < s.data.size := by
  have := (List.getElem?_eq_some_iff.1 h).1
  rw [ZaO, ZaF] at this
  exact this
 unfold bytesRow
 rw [Array.getElem?_append_left (by simpa using hj)]
 simp only [bv, sb, List.map_map, List.getElem?_map, Array.getElem?_toList] at h
 simpa using h
theorem Zcv {P : Program} (w : World) {ops : Array Oper} {rest : List Oper} {o : Oper} {a : Act} {Q : Exit -> Act -> World -> Prop} (hg : o.guard = none) (x : Operand) (src dst e : TypeId) (ho : o.op = .convert src dst x)
  (hs : P.underlying src = some .string) (hd : P.underlying dst = some (.slice e)) (he : P.underlying e = some (.int .u8)) (s : ByteArray) (hx : a.eval x = .string s)
  (h : ∀ cap w', (∀ j u, (bv (sb s))[j]? = some u -> w'.cell? ((⟨w.heap.size, 0, none⟩ : Addr).add j) = some u) -> w.grownBy w' none -> w.heap.size < w'.heap.size -> wpList P ops Q rest (a.put o.dst (.slice (some ⟨w.heap.size, 0, none⟩) s.size cap)) w') :
  wpList P ops Q (o :: rest) a w := by
 refine wpList_plain hg fun K hK => ?_
 obtain ⟨cap, w', hrun, h1, h2, h3⟩ : ∃ cap w', (convert src dst (.string s)).run P w = .ok (.slice (some ⟨w.heap.size, 0, none⟩) s.size cap) w' /\
   (∀ j u, (bv (sb s))[j]? = some u -> w'.cell? ((⟨w.heap.size, 0, none⟩ : Addr).add j) = some u) /\ w.grownBy w' none /\ w.heap.size < w'.heap.size := by
  refine ⟨_, _, run_bytes_of_string w src dst e s hs hd he, ?_, ?_, ?_⟩
  ·intro j u hu
   rw [Addr.add_lit, Nat.zero_add, cell_of_row _ w.heap.size j _ e _ (heap_alloc_new w.drew _)]
   exact ZcX s _ j u hu
  ·have hga := World.grownBy_alloc w.drew (Obj.cells (bytesRow s (grownCap w s.size 0 e)) e ((bytesRow s (grownCap w s.size 0 e)).size, (bytesRow s (grownCap w s.size 0 e)).size + 1)) none
   exact ⟨hga.os, hga.tape, hga.output, hga.size, hga.block⟩
  ·show w.heap.size < (w.heap.push _).size
   simp
 unfold Oper.wp
 simp [execOp, ho, hx, hrun, Result.andThen]
 exact hK _ _ (h cap w' h1 h2 h3)
theorem Zf1 (f : Nat) (l bs : List Int) (h : scan f l = some bs) : bs.length <= f /\ bs.length <= l.length := by
 induction f generalizing l bs with
 | zero => simp [scan] at h
 | succ f ih =>
  cases l with
  | nil => simp [scan] at h
  | cons b l =>
   simp only [scan] at h
   split at h
   ·simp at h; subst h; simp
   ·simp only [Option.map_eq_some_iff] at h
    obtain ⟨bs', h1, rfl⟩ := h
    have := ih l bs' h1
    simp only [List.length_cons]; omega
theorem Zj6 (zs : List Int) (a n next : Int) (h : gN zs a = (n, next, true)) : 0 <= n /\ n <= 9223372036854775807 /\ 0 <= next /\ next <= zs.length := by
 unfold gN at h
 by_cases h0 : a < 0
 ·simp [h0] at h
 ·simp only [h0, if_false] at h
  cases hs : scan 9 (zs.drop a.toNat) with
  | none => simp [hs] at h
  | some bs =>
   simp only [hs] at h
   have hb := Zf1 9 _ bs hs
   have hv := ZbH bs
   have hl := ZeH hb.1
   rw [Zel] at hl
   by_cases h1 : 1 < bs.length /\ bs.getLast? = some 0
   ·rw [if_pos h1] at h; simp at h
   ·rw [if_neg h1] at h
    simp only [Prod.mk.injEq, and_true] at h
    obtain ⟨rfl, rfl⟩ := h
    have hb2 := hb.2
    simp only [List.length_drop] at hb2
    have hpos : 0 < bs.length := by
     rcases Nat.eq_zero_or_pos bs.length with h | h
     ·rw [List.eq_nil_of_length_eq_zero h] at hs
      exfalso
      cases hd : zs.drop a.toNat with
      | nil => rw [hd] at hs; simp [scan] at hs
      | cons b l =>
       rw [hd] at hs
       simp only [scan] at hs
       split at hs
       ·simp at hs
       ·simp at hs
     ·exact h
    omega
def gT (zs : List Int) (a : Int) : ByteArray × Int × Bool :=
 if (gN zs a).2.2 = true /\ (gN zs a).1 <= (zs.length : Int) - (gN zs a).2.1 then
  (strOfNums ((zs.drop (gN zs a).2.1.toNat).take (gN zs a).1.toNat), (gN zs a).2.1 + (gN zs a).1, true)
 else (⟨#[]⟩, 0, false)
abbrev tV (r : ByteArray × Int × Bool) : Value := .tuple #[.string r.1, .int .i64 r.2.1, .bool r.2.2]
theorem Zj1 (zs : List Int) (a n next : Int) (ok : Bool) (h : gN zs a = (n, next, ok)) (hn : ok = false \/ (zs.length : Int) - next < n) : gT zs a = (⟨#[]⟩, 0, false) := by
 unfold gT
 rw [h, if_neg]
 rcases hn with rfl | hn
 ·simp
 ·intro h; have := h.2; simp only at this; omega
theorem ZkE (zs : List Int) (a : Int) (n next : Nat) (h : gN zs a = ((n : Int), (next : Int), true)) (hn : (n : Int) <= (zs.length : Int) - next) : gT zs a = (strOfNums ((zs.drop next).take n), (next : Int) + n, true) := by
 unfold gT
 rw [h, if_pos ⟨rfl, hn⟩]
 simp
theorem Zj8 {w : World} {g o : Nat} {zs : List Int} (hcell : ∀ i, i < zs.length -> w.cell? ⟨g, o + i, none⟩ = some (.int .u8 (zs.getD i 0))) (next n : Nat) (hle : next + n <= zs.length) (i : Nat) (hi : i < n) :
  w.cell? ⟨g, o + next + i, none⟩ = some (.int .u8 (((zs.drop next).take n).getD i 0)) := by
 rw [Nat.add_assoc, hcell (next + i) (by omega)]
 simp only [List.getD_eq_getElem?_getD, List.getElem?_take, List.getElem?_drop]
 rw [if_pos hi]
theorem Zeh (zs : List Int) (next n : Nat) (hle : next + n <= zs.length) : ((zs.drop next).take n).length = n := by
 simp only [List.length_take, List.length_drop]; omega
theorem Zfk {w : World} {ao : Option Addr} {cap : Nat} {zs : List Int} (hcell : zs ≠ [] -> ∃ g o, ao = some ⟨g, o, none⟩ /\ g < w.heap.size /\ ∀ i, i < zs.length -> w.cell? ⟨g, o + i, none⟩ = some (.int .u8 (zs.getD i 0)))
  (next n : Nat) (hle : next + n <= zs.length) (hcap : zs.length <= cap) :
  n ≠ 0 -> ∃ g o', (if cap = next then ao else ao.map (·.add next)) = some ⟨g, o', none⟩ /\ ∀ i, i < n -> w.cell? ⟨g, o' + i, none⟩ = some (.int .u8 (((zs.drop next).take n).getD i 0)) := by
 intro hn
 obtain ⟨g, o, rfl, _, hc⟩ := hcell (by intro e; subst e; simp at hle; omega)
 rw [if_neg (by omega)]
 exact ⟨g, o + next, by simp [Addr.add_lit], Zj8 hc next n hle⟩
theorem Zbr {P : Program} (w : World) {ops : Array Oper} {rest : List Oper} {o : Oper} {a : Act} {Q : Exit -> Act -> World -> Prop} (hg : o.guard = none) (x : Operand) (src dst e : TypeId) (ho : o.op = .convert src dst x)
  (hs : P.underlying src = some (.slice e)) (hd : P.underlying dst = some .string) (he : P.underlying e = some (.int .u8)) (ao : Option Addr) (n c : Nat) (xs : List Int) (hx : a.eval x = .slice ao n c) (hl : xs.length = n)
  (hc : n ≠ 0 -> ∃ g o', ao = some ⟨g, o', none⟩ /\ ∀ i, i < n -> w.cell? ⟨g, o' + i, none⟩ = some (.int .u8 (xs.getD i 0)))
  (h : wpList P ops Q rest (a.put o.dst (.string (strOfNums xs))) w) : wpList P ops Q (o :: rest) a w := by
 refine wpList_plain hg fun K hK => ?_
 have hrun : (convert src dst (.slice ao n c)).run P w = .ok (.string (strOfNums xs)) w := by
  by_cases h0 : n = 0
  ·subst h0
   have : xs = [] := List.eq_nil_of_length_eq_zero hl
   subst this
   cases ao with
   | none => exact run_convert_bytes_nil w src e hs he 0 c dst hd
   | some ad => exact run_convert_bytes_back w src dst e ad c [] hs he hd (fun j hj => absurd hj (by simp))
  ·obtain ⟨g, o', rfl, hcell⟩ := hc h0
   exact run_convert_bytes_arg w src e hs he g o' n c xs hl hcell dst hd
 unfold Oper.wp
 simp [execOp, ho, hx, hrun, Result.andThen]
 exact hK _ _ h
structure Nd where
 k : Int
 n : Int
 s : ByteArray
 a : Int
 b : Int
def Nd.cs (x : Nd) : List Value := [.int .i64 x.k, .int .i64 x.n, .string x.s, .int .i64 x.a, .int .i64 x.b]
def ncs (xs : List Nd) : List Value := xs.flatMap Nd.cs
theorem Zjh : ncs [] = [] := rfl
theorem Zez (x : Nd) (xs : List Nd) : ncs (x :: xs) = x.cs ++ ncs xs := rfl
theorem Zay (a b : List Nd) : ncs (a ++ b) = ncs a ++ ncs b := by simp [ncs]
theorem Zcd (xs : List Nd) : (ncs xs).length = xs.length * 5 := by
 induction xs with
 | nil => rfl
 | cons x xs ih => rw [Zez, List.length_append, ih, List.length_cons]; simp [Nd.cs]; omega
theorem ZfX (xs : List Nd) (i : Nat) (x : Nd) (h : xs[i]? = some x) (j : Nat) (hj : j < 5) : (ncs xs)[i * 5 + j]? = x.cs[j]? := by
 induction xs generalizing i with
 | nil => simp at h
 | cons y ys ih =>
  rw [Zez]
  cases i with
  | zero =>
   simp at h; subst h
   rw [Nat.zero_mul, Nat.zero_add, List.getElem?_append_left (by simpa [Nd.cs] using hj)]
  | succ i =>
   rw [List.getElem?_append_right (by simp [Nd.cs]; omega)]
   rw [show (i + 1) * 5 + j - y.cs.length = i * 5 + j by simp [Nd.cs]; omega]
   exact ih i (by simpa using h)
theorem ZdC (xs : List Nd) (i : Nat) (x x' : Nd) (h : xs[i]? = some x) (j : Nat) (hj : j < 5) (u : Value) (e : x.cs.set j u = x'.cs) : (ncs xs).set (i * 5 + j) u = ncs (xs.set i x') := by
 induction xs generalizing i with
 | nil => simp at h
 | cons y ys ih =>
  rw [Zez]
  cases i with
  | zero =>
   simp at h; subst h
   rw [Nat.zero_mul, Nat.zero_add, List.set_append_left _ _ (by simpa [Nd.cs] using hj), e]
   rfl
  | succ i =>
   rw [List.set_append_right _ _ (by simp [Nd.cs]; omega)]
   rw [show (i + 1) * 5 + j - y.cs.length = i * 5 + j by simp [Nd.cs]; omega, ih i (by simpa using h)]
   rfl
theorem Zku (xs : List Nd) (i : Nat) (x x' : Nd) (h : xs[i]? = some x) (u : Value) (e : x.cs.set 0 u = x'.cs) : (ncs xs).set (i * 5) u = ncs (xs.set i x') :=
 ZdC xs i x x' h 0 (by omega) u e
theorem Nd.one (x : Nd) : ∀ u ∈ x.cs, u.oneCell' = true := by
 intro u hu
 simp only [Nd.cs, List.mem_cons, List.not_mem_nil, or_false] at hu
 rcases hu with rfl | rfl | rfl | rfl | rfl <;> rfl
theorem ZaZ (xs : List Nd) : ∀ u ∈ ncs xs, u.oneCell' = true := by
 intro u hu
 simp only [ncs, List.mem_flatMap] at hu
 obtain ⟨x, _, hx⟩ := hu
 exact x.one u hx
def NAt (w : World) (g o : Nat) (x : Nd) : Prop :=
 w.cell? ⟨g, o, none⟩ = some (.int .i64 x.k) /\ w.cell? ⟨g, o + 1, none⟩ = some (.int .i64 x.n) /\ w.cell? ⟨g, o + 2, none⟩ = some (.string x.s) /\
  w.cell? ⟨g, o + 3, none⟩ = some (.int .i64 x.a) /\ w.cell? ⟨g, o + 4, none⟩ = some (.int .i64 x.b)
theorem NAt.below {w w' : World} {g o B : Nat} {x : Nd} (h : NAt w g o x) (hb : Below B w w') (hg : g < B) : NAt w' g o x :=
 ⟨(hb.cell (p := ⟨g, o, none⟩) hg).trans h.1, (hb.cell (p := ⟨g, o + 1, none⟩) hg).trans h.2.1, (hb.cell (p := ⟨g, o + 2, none⟩) hg).trans h.2.2.1,
  (hb.cell (p := ⟨g, o + 3, none⟩) hg).trans h.2.2.2.1, (hb.cell (p := ⟨g, o + 4, none⟩) hg).trans h.2.2.2.2⟩
def NRow (w : World) (v : Value) (xs : List Nd) : Prop :=
 ∃ ao cap, v = .slice ao xs.length cap /\ (xs.length <= cap /\ (ao = none -> cap = 0)) /\ xs.length <= 9223372036854775807 /\ (∀ x ∈ xs, x.s.size <= maxLen) /\
  (xs ≠ [] -> ∃ g o, ao = some ⟨g, o, none⟩ /\ g < w.heap.size /\ ∀ i x, xs[i]? = some x -> NAt w g (o + i * 5) x)
theorem NRow.below {w w' : World} {v : Value} {xs : List Nd} (h : NRow w v xs) (hb : Below w.heap.size w w') : NRow w' v xs := by
 obtain ⟨ao, cap, rfl, hc, hm, hz, hcell⟩ := h
 refine ⟨ao, cap, rfl, hc, hm, hz, fun hne => ?_⟩
 obtain ⟨g, o, rfl, hg, hcell⟩ := hcell hne
 exact ⟨g, o, rfl, Nat.lt_of_lt_of_le hg hb.size, fun i x hi => (hcell i x hi).below hb hg⟩
theorem NRow.of_own {w : World} {base : Nat} {v : Value} {xs : List Nd} (h : w.ownsRow base 210 5 v xs.length (ncs xs)) (hm : xs.length <= 9223372036854775807) (hz : ∀ x ∈ xs, x.s.size <= maxLen) : NRow w v xs := by
 rcases h.2 with ⟨rfl, h0⟩ | ⟨g, cap, cur, rfl, hb, hg, hnc, hcm, hcs, htake⟩
 ·have : xs = [] := List.eq_nil_of_length_eq_zero h0
  subst this
  exact ⟨none, 0, rfl, by simp, by simp, by simp, fun h => absurd rfl h⟩
 ·refine ⟨_, cap, rfl, ⟨hnc, fun h => by cases h⟩, hm, hz, fun _ => ⟨g, 0, rfl, (bl hg), fun i x hi => ?_⟩⟩
  have hl : i < xs.length := (List.getElem?_eq_some_iff.1 hi).1
  have e : ∀ j, j < 5 -> w.cell? ⟨g, 0 + i * 5 + j, none⟩ = x.cs[j]? := fun j hj => by
   have := h.cellAt (i * 5 + j) (by omega)
   rw [Nat.zero_add, this, ZfX xs i x hi j hj]
  exact ⟨e 0 (by omega), e 1 (by omega), e 2 (by omega), e 3 (by omega), e 4 (by omega)⟩
theorem ZmD : (Tryz.prog.info? 210).map (fun i => (i.zero, i.size, i.bytes)) = some (some (.agg #[.int .i64 0, .int .i64 0, .string ByteArray.empty, .int .i64 0, .int .i64 0]), 5, 48) := by kernel_rfl
theorem retB {p q : Bool} (h : p = q) : Ending.returned (.bool p) = .returned (.bool q) := by rw [h]
theorem NRow.cells {w : World} {ao : Option Addr} {n cap : Nat} {xs : List Nd} (h : NRow w (.slice ao n cap) xs) : ∀ ad, ao = some ad -> ∀ j u, (ncs xs)[j]? = some u -> w.cell? (ad.add j) = some u := by
 obtain ⟨ao', cap', e, _, _, _, hcell⟩ := h
 simp only [Value.slice.injEq] at e
 obtain ⟨rfl, _, _⟩ := e
 intro ad had j u hu
 have hj : j < xs.length * 5 := by rw [<- Zcd]; exact (List.getElem?_eq_some_iff.1 hu).1
 obtain ⟨g, o, e, _, hcell⟩ := hcell (by intro h; subst h; simp at hj)
 rw [e] at had
 cases had
 have hi : j / 5 < xs.length := by omega
 have hx : xs[j / 5]? = some xs[j / 5] := List.getElem?_eq_getElem hi
 have hg := ZfX xs (j / 5) _ hx (j % 5) (by omega)
 rw [show j / 5 * 5 + j % 5 = j by omega, hu] at hg
 obtain ⟨c0, c1, c2, c3, c4⟩ := hcell (j / 5) _ hx
 rw [Addr.add_lit]
 have h5 : j % 5 = 0 \/ j % 5 = 1 \/ j % 5 = 2 \/ j % 5 = 3 \/ j % 5 = 4 := by omega
 rcases h5 with h5 | h5 | h5 | h5 | h5
 ·rw [show o + j = o + j / 5 * 5 by omega, c0, hg, h5]; rfl
 ·rw [show o + j = o + j / 5 * 5 + 1 by omega, c1, hg, h5]; rfl
 ·rw [show o + j = o + j / 5 * 5 + 2 by omega, c2, hg, h5]; rfl
 ·rw [show o + j = o + j / 5 * 5 + 3 by omega, c3, hg, h5]; rfl
 ·rw [show o + j = o + j / 5 * 5 + 4 by omega, c4, hg, h5]; rfl
theorem Zad {w w' : World} {B : Nat} {e : TypeId} {k : Nat} {v : Value} {n : Nat} {xs : List Value} (h : w.ownsRow B e k v n xs) (hb : Below w.heap.size w w') : w'.ownsRow B e k v n xs := by
 refine ⟨h.1, ?_⟩
 rcases h.2 with ⟨rfl, h0⟩ | ⟨g, cap, cur, rfl, hB, hg, hr⟩
 ·exact Or.inl ⟨rfl, h0⟩
 ·exact Or.inr ⟨g, cap, cur, rfl, hB, (hb.block g (bl hg)).trans hg, hr⟩
theorem Zae {w : World} {B : Nat} {e : TypeId} {k : Nat} {v : Value} {n : Nat} {xs : List Value} (h : w.ownsRow B e k v n xs) : ∃ ao cap, v = .slice ao n cap := by
 rcases h.2 with ⟨rfl, h0⟩ | ⟨g, cap, cur, rfl, _⟩
 ·exact ⟨none, 0, by rw [h0]⟩
 ·exact ⟨_, _, rfl⟩
theorem Zaf {w : World} {B B' : Nat} {e : TypeId} {k : Nat} {v : Value} {n : Nat} {xs : List Value} (h : w.ownsRow B e k v n xs) (hb : B' <= B) : w.ownsRow B' e k v n xs := by
 refine ⟨h.1, ?_⟩
 rcases h.2 with ⟨rfl, h0⟩ | ⟨g, cap, cur, rfl, hB, hr⟩
 ·exact Or.inl ⟨rfl, h0⟩
 ·exact Or.inr ⟨g, cap, cur, rfl, Nat.le_trans hb hB, hr⟩
theorem Zmz : (Tryz.prog.info? 210).map (·.size) = some 5 := by kernel_rfl
theorem ZcR {ops : Array Oper} {rest : List Oper} {op : Oper} {a : Act} {w : World} {Q : Exit -> Act -> World -> Prop} (hgd : op.guard = none) (x y : Operand) (ho : op.op = .store 210 x y)
  (base g i cap : Nat) (xs : List Nd) (nd : Nd) (hx : a.eval x = .pointer (some ⟨g, i * 5, none⟩)) (hy : a.eval y = .agg #[.int .i64 nd.k, .int .i64 nd.n, .string nd.s, .int .i64 nd.a, .int .i64 nd.b])
  (hi : i < xs.length) (hown : w.ownsRow base 210 5 (.slice (some ⟨g, 0, none⟩) xs.length cap) xs.length (ncs xs))
  (h : ∀ w2 : World, w2.ownsRow base 210 5 (.slice (some ⟨g, 0, none⟩) xs.length cap) xs.length (ncs (xs.set i nd)) -> w.grownBy w2 (some g) -> wpList Tryz.prog ops Q rest (a.put op.dst undef) w2) : wpList Tryz.prog ops Q (op :: rest) a w := by
 have ht : w.there g (i * 5) 5 := fun j hj => by
  have := hown.cellAt (i * 5 + j) (by omega)
  refine ⟨?_, hown.frozenAt _⟩
  rw [this, List.getElem?_eq_getElem (by rw [Zcd]; omega)]
  rfl
 refine wpList_store_mid hgd 210 x y ho g (i * 5) _ hx hy ht Zmz (all_oneCell_toArray nd.one) ?_
 have e0 : xs[i]? = some xs[i] := List.getElem?_eq_getElem hi
 have get : ∀ y : Nd, (xs.set i y)[i]? = some y := fun y => by simp [hi]
 have s0 := hown.stored (i * 5) (.int .i64 nd.k)
 rw [Zku xs i xs[i] ⟨nd.k, xs[i].n, xs[i].s, xs[i].a, xs[i].b⟩ e0 _ rfl] at s0
 have s1 := s0.1.stored (i * 5 + 1) (.int .i64 nd.n)
 rw [ZdC (xs.set i ⟨nd.k, xs[i].n, xs[i].s, xs[i].a, xs[i].b⟩) i ⟨nd.k, xs[i].n, xs[i].s, xs[i].a, xs[i].b⟩ ⟨nd.k, nd.n, xs[i].s, xs[i].a, xs[i].b⟩ (get _) 1 (by omega) (.int .i64 nd.n) rfl, List.set_set] at s1
 have s2 := s1.1.stored (i * 5 + 2) (.string nd.s)
 rw [ZdC (xs.set i ⟨nd.k, nd.n, xs[i].s, xs[i].a, xs[i].b⟩) i ⟨nd.k, nd.n, xs[i].s, xs[i].a, xs[i].b⟩ ⟨nd.k, nd.n, nd.s, xs[i].a, xs[i].b⟩ (get _) 2 (by omega) (.string nd.s) rfl, List.set_set] at s2
 have s3 := s2.1.stored (i * 5 + 3) (.int .i64 nd.a)
 rw [ZdC (xs.set i ⟨nd.k, nd.n, nd.s, xs[i].a, xs[i].b⟩) i ⟨nd.k, nd.n, nd.s, xs[i].a, xs[i].b⟩ ⟨nd.k, nd.n, nd.s, nd.a, xs[i].b⟩ (get _) 3 (by omega) (.int .i64 nd.a) rfl, List.set_set] at s3
 have s4 := s3.1.stored (i * 5 + 4) (.int .i64 nd.b)
 rw [ZdC (xs.set i ⟨nd.k, nd.n, nd.s, nd.a, xs[i].b⟩) i ⟨nd.k, nd.n, nd.s, nd.a, xs[i].b⟩ ⟨nd.k, nd.n, nd.s, nd.a, nd.b⟩ (get _) 4 (by omega) (.int .i64 nd.b) rfl, List.set_set] at s4
 exact h _ s4.1 ((((s0.2.trans s1.2).trans s2.2).trans s3.2).trans s4.2)
def nb (b : Int) : Bool := b == 43 || b == 45 || b == 42 || b == 60 || b == 61 || b == 63 || b == 33 || b == 47 || (decide (97 <= b) && decide (b <= 122))
def ZbQ (s : ByteArray) : Bool := decide (1 <= s.size) && decide (s.size <= 12) && decide (∀ i : Fin s.size, nb (s[i].toNat) = true)
theorem Zfd {s : ByteArray} (h1 : 1 <= s.size) (h2 : s.size <= 12) (h : ∀ j (hj : j < s.size), nb (s[j].toNat) = true) : ZbQ s = true := by
 simp only [ZbQ, Bool.and_eq_true, decide_eq_true_eq]
 exact ⟨⟨h1, h2⟩, fun i => h i.1 i.2⟩
theorem Zfc {s : ByteArray} (j : Nat) (hj : j < s.size) (h : nb (s[j].toNat) = false) : ZbQ s = false := by
 rw [Bool.eq_false_iff]
 intro h'
 simp only [ZbQ, Bool.and_eq_true, decide_eq_true_eq] at h'
 have := h'.2 ⟨j, hj⟩
 simp only [Fin.getElem_fin] at this
 rw [this] at h
 cases h
theorem Zeb {s : ByteArray} (h : ¬ (1 <= s.size /\ s.size <= 12)) : ZbQ s = false := by
 rw [Bool.eq_false_iff]
 intro h'
 simp only [ZbQ, Bool.and_eq_true, decide_eq_true_eq] at h'
 exact h h'.1
def lo (k : Int) : Int := if k = 3 then -1000000000 else 0
def hi (k : Int) : Int := if k = 2 then 1 else if k = 3 \/ k = 6 \/ k = 9 then 1000000000 else if k = 8 then 99 else 0
def hasS (k : Int) : Bool := decide (k = 4)
def hasA (k : Int) : Bool := decide (k = 5 \/ k = 6 \/ k = 7)
def hasB (k : Int) : Bool := decide (k = 5)
def Zbl (p : Int) (named : Bool) (at_ : Int) : Bool := if named then decide (0 <= p) && decide (p < at_) else p == 0
def Zbm (s : ByteArray) (named : Bool) : Bool := if named then ZbQ s else s.toList == []
def Zaw (x : Nd) (at_ : Int) : Bool :=
 decide (1 <= x.k) && decide (x.k <= 9) && decide (lo x.k <= x.n) && decide (x.n <= hi x.k) && (Zbm x.s (hasS x.k) && Zbl x.a (hasA x.k) at_ && Zbl x.b (hasB x.k) at_)
def ZaB (xs : List Nd) (i : Nat) : Bool := match xs with
 | [] => true
 | x :: xs => Zaw x i && ZaB xs (i + 1)
def Zap (xs : List Nd) : Bool := decide (xs.length <= 3000) && ZaB xs 0
theorem Zdq (xs : List Nd) (i : Nat) (x : Nd) (h : xs[i]? = some x) : ZaB (xs.drop i) i = (Zaw x i && ZaB (xs.drop (i + 1)) (i + 1)) := by
 obtain ⟨hl, he⟩ := List.getElem?_eq_some_iff.1 h
 rw [List.drop_eq_getElem_cons hl, he]
 rfl
theorem ZkQ (b : Int) (w : World) : Calls Tryz.prog 227 #[.int .u8 b] w fun e w' => e = .returned (.bool (nb b)) /\ w' = w := by
 go_enter Tryz.func227, Tryz.ntmps227
 go_wp2
 all_goals go_ret
 all_goals (refine ⟨retB ?_, rfl⟩; rw [Bool.eq_iff_iff]; simp [nb, *]; try omega)
theorem Zlc (b : Int) (w : World) : Calls Tryz.prog 165 #[.int .u8 b] w fun e w' => e = .returned (.bool (nb b)) /\ w' = w := by
 go_enter Tryz.func165, Tryz.ntmps165
 go_wp2
 all_goals go_ret
 all_goals (refine ⟨retB ?_, rfl⟩; rw [Bool.eq_iff_iff]; simp [nb, *]; try omega)
theorem Zau (x l h : Int) (w : World) : Calls Tryz.prog 74 #[.int .i64 x, .int .i64 l, .int .i64 h] w fun e w' => e = .returned (.bool (decide (l <= x) && decide (x <= h))) /\ w' = w := by
 go_enter Tryz.func74, Tryz.ntmps74
 go_wp2
 all_goals go_ret
 all_goals (refine ⟨retB ?_, rfl⟩; rw [Bool.eq_iff_iff]; simp [*]; try omega)
theorem Zdo (s : ByteArray) (w : World) (_ : s.size <= maxLen) : Calls Tryz.prog 192 #[.string s] w fun e w' => e = .returned (.bool (ZbQ s)) /\ w' = w := by
 by_cases h0 : 1 <= s.size /\ s.size <= 12
 ·go_enter Tryz.func192, Tryz.ntmps192
  go_wp2
  go_loop [3] (fun i => ∃ k : Nat, k <= s.size /\ i = .int .i64 k /\ Hid (∀ j (hj : j < s.size), j < k -> nb (s[j].toNat) = true)) (fun i => s.size - (intOf i).toNat)
  case atStart => exact ⟨0, by omega, rfl, fun j hj hk => by omega⟩
  case round =>
   obtain ⟨k, hk, rfl, H⟩ := hrel
   by_cases hlt : k < s.size
   ·go_wp2_with fail
    refine (ZkQ _ _).mono ?_
    rintro e w1 ⟨rfl, rfl⟩
    by_cases hn : nb (s[k].toNat) = true
    ·rw [hn]
     go_wp2
     go_round
     case rel =>
      refine ⟨k + 1, by omega, by go_num, fun j hj hk => ?_⟩
      by_cases e : j = k
      ·subst e; exact hn
      ·exact H.out j hj (by omega)
     case measure => simp [intOf]; omega
    ·have hn' : nb (s[k].toNat) = false := by simpa using hn
     have HN : Hid (ZbQ s = false) := Zfc k hlt hn'
     rw [hn']
     go_wp2
     go_ret
     exact ⟨by rw [HN.out]; rfl, rfl⟩
   ·have HN : Hid (ZbQ s = true) := Zfd h0.1 h0.2 fun j hj => H.out j hj (by omega)
    go_wp2
    go_ret
    exact ⟨by rw [HN.out]; rfl, rfl⟩
 ·have HN : Hid (ZbQ s = false) := Zeb h0
  go_enter Tryz.func192, Tryz.ntmps192
  go_wp2
  all_goals go_ret
  all_goals first | exact ⟨by rw [HN.out]; rfl, rfl⟩ | (exfalso; omega)
theorem ZaN (s : ByteArray) (w : World) (hs : s.size <= maxLen) : Calls Tryz.prog 127 #[.string s] w fun e w' => e = .returned (.bool (ZbQ s)) /\ w' = w := by
 unfold maxLen at hs
 go_enter Tryz.func127, Tryz.ntmps127
 go_wp2
 go_loop [3] (fun i => ∃ k : Nat, k <= s.size /\ i = .int .i64 k /\ Hid (∀ j (hj : j < s.size), j < k -> nb (s[j].toNat) = true)) (fun i => s.size - (intOf i).toNat)
 case atStart => exact ⟨0, by omega, rfl, fun j hj hk => by omega⟩
 case round =>
  obtain ⟨k, hk, rfl, H⟩ := hrel
  by_cases hlt : k < s.size
  ·go_wp2_with fail
   refine (Zlc _ _).mono ?_
   rintro e w1 ⟨rfl, rfl⟩
   by_cases hn : nb (s[k].toNat) = true
   ·rw [hn]
    go_wp2
    go_round
    case rel =>
     refine ⟨k + 1, by omega, by go_num, fun j hj hk => ?_⟩
     by_cases e : j = k
     ·subst e; exact hn
     ·exact H.out j hj (by omega)
    case measure => simp [intOf]; omega
   ·have hn' : nb (s[k].toNat) = false := by simpa using hn
    have HN : Hid (ZbQ s = false) := Zfc k hlt hn'
    rw [hn']
    go_wp2
    go_ret
    exact ⟨by rw [HN.out]; rfl, rfl⟩
  ·have HA : Hid (∀ j (hj : j < s.size), nb (s[j].toNat) = true) := fun j hj => H.out j hj (by omega)
   go_wp2_with fail
   refine (Zau _ _ _ _).mono ?_
   rintro e w1 ⟨rfl, rfl⟩
   go_wp2
   go_ret
   refine ⟨retB ?_, rfl⟩
   by_cases h0 : 1 <= s.size /\ s.size <= 12
   ·rw [Zfd h0.1 h0.2 HA.out]
    simp; omega
   ·rw [Zeb h0]
    simp; omega
theorem Zab {P : Program} {fn : Func} {p u : Tmp} {ty : TypeId} (h : fn.results = #[.cell p ty, .tmp u]) (tmps : Array Value) (w : World) (g : Nat) (t : TypeId) (cs : Array Value) (fr : Nat × Nat) (d : TypeDesc)
  (hp : tmps.getD p undef = .pointer (some ⟨g, 0, none⟩)) (hg : w.heap[g]? = some (.cells cs t fr))
  (hu : P.underlying ty = some d) (hd : (match d with | .struct _ | .array _ _ => true | _ => false) = true) (hi : (P.info? ty).map (·.size) = some cs.size) :
  (results fn tmps).run P w = .ok (.tuple #[.agg cs, tmps.getD u undef]) w := by
 rw [results_cell_tmp h, hp]
 simp [asAddr, run_loadVar_row w g t ty cs fr d hg hu hd hi]
theorem Zl7 : (Tryz.prog.info? 268).map (·.size) = some 5 := by kernel_rfl
def ZfI (k : Int) : Value :=
 if 1 <= k /\ k <= 9 then .tuple #[.agg #[.int .i64 (lo k), .int .i64 (hi k), .bool (hasS k), .bool (hasA k), .bool (hasB k)], .bool true]
 else .tuple #[.agg #[.int .i64 0, .int .i64 0, .bool false, .bool false, .bool false], .bool false]
theorem Zde (k : Int) (w : World) : Calls Tryz.prog 217 #[.int .i64 k] w fun e w' => e = .returned (ZfI k) /\ Below w.heap.size w w' := by
 go_enter Tryz.func217, Tryz.ntmps217
 go_wp2
 all_goals refine bodyPost_ret (Zab rfl _ _ w.heap.size 268 _ (0, 0) _ rfl (heap_alloc_new _ _) Tryz.underlying268 rfl Zl7) rfl ⟨?_, (Below.refl _ _).alloc (Nat.le_refl _) _⟩
 all_goals simp only [beq_iff_eq, beq_eq_false_iff_ne] at *
 all_goals (try subst k)
 all_goals first | rfl | (rw [ZfI, if_neg (by omega)]; rfl)
theorem Ze0 (s : ByteArray) (b : Bool) (w : World) (hs : s.size <= maxLen) : Calls Tryz.prog 218 #[.string s, .bool b] w fun e w' => e = .returned (.bool (Zbm s b)) /\ w' = w := by
 cases b with
 | false =>
  go_enter Tryz.func218, Tryz.ntmps218
  go_wp2
  all_goals go_ret
  all_goals simp [Zbm]
 | true =>
  go_enter Tryz.func218, Tryz.ntmps218
  go_wp2_with fail
  refine (Zdo s _ hs).mono ?_
  rintro e w1 ⟨rfl, rfl⟩
  go_wp2
  go_ret
  simp [Zbm]
theorem ZcU (p : Int) (b : Bool) (n : Int) (w : World) : Calls Tryz.prog 219 #[.int .i64 p, .bool b, .int .i64 n] w fun e w' => e = .returned (.bool (Zbl p b n)) /\ w' = w := by
 cases b with
 | false =>
  go_enter Tryz.func219, Tryz.ntmps219
  go_wp2
  all_goals go_ret
  all_goals simp [Zbl]
 | true =>
  go_enter Tryz.func219, Tryz.ntmps219
  go_wp2
  all_goals go_ret
  all_goals (refine ⟨retB ?_, rfl⟩; rw [Bool.eq_iff_iff]; simp [Zbl, *]; try omega)
end Go.Proofs.YtfmafkebddojjaaGreatDoor
