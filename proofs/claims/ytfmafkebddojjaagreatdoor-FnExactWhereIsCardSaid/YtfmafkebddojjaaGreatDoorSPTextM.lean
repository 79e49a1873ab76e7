/-
  Texts that stood by themselves, laid into one.
-/
import Derived.Test.YtfmafkebddojjaaGreatDoorShapeM
import Derived.Test.YtfmafkebddojjaaGreatDoorBsM
import Derived.Deep.RegionHeld3
import Derived.Test.YtfmafkebddojjaaGreatDoorMcTM
import Derived.Deep.RegionHeld
import Derived.Test.YtfmafkebddojjaaGreatDoorMach2M
import Derived.Deep.AppendLies
import Derived.Deep.RegionLawGrows
import Derived.OneCell
import Derived.Test.YtfmafkebddojjaaGreatDoorNumberM
/-
  Contracts of (impl.reader).text and impl.GetText, for every slice of bytes within the form's reach and every place.
-/
set_option maxRecDepth 100000
set_option maxHeartbeats 3200000
namespace Go.Proofs.YtfmafkebddojjaaGreatDoor
open Go.RowKit
theorem Zc2 (v : Value) (zs : List Int) (P : Nat) (a : Int) (w0 w : World) (R : Row w0 v zs) (hb : Below w0.heap.size w0 w) (hP : w0.heap.size <= P) (h : One w P a) :
  Calls Tryz.prog 208 #[.agg #[v, .pointer (some ⟨P, 0, none⟩)]] w fun e w' =>
   e = .returned (.tuple #[.string (gT zs a).1, .bool (gT zs a).2.2]) /\ (∃ q, One w' P q /\ ((gT zs a).2.2 = true -> q = (gT zs a).2.1)) /\ w.grownBy w' (some P) := by
 have R' := R
 obtain ⟨ao, cap, rfl, hcap, hm, hz, hcell⟩ := R'
 clear hz
 have hPs := h.lt
 go_enter Tryz.func208, Tryz.ntmps208
 go_wp2_with fail
 have hbel : Below w0.heap.size w0 (w.alloc (Obj.cells #[Value.slice ao zs.length cap, Value.pointer (some ⟨P, 0, none⟩)] 254)) := hb.alloc hb.size _
 have hone : One (w.alloc (Obj.cells #[Value.slice ao zs.length cap, Value.pointer (some ⟨P, 0, none⟩)] 254)) P a := h.kept (World.grownBy_alloc w _ none) (by simp)
 refine (Zdu _ zs P a w0 _ R hbel hP hone).mono ?_
 rintro e w1 ⟨rfl, ⟨q, hone1, hq⟩, hgr⟩
 have hsz : w.heap.size < (w.alloc (Obj.cells #[Value.slice ao zs.length cap, Value.pointer (some ⟨P, 0, none⟩)] 254)).heap.size := by simp
 have hbox : w1.heap[w.heap.size]? = some (.cells #[Value.slice ao zs.length cap, Value.pointer (some ⟨P, 0, none⟩)] 254 (0, 0)) := (hgr.block _ hsz (by simp; omega)).trans (heap_alloc_new w _)
 have hb0 : w1.cell? ⟨w.heap.size, 0, none⟩ = some (.slice ao zs.length cap) := by rw [cell_of_row w1 _ 0 _ 254 (0, 0) hbox]; rfl
 have hb1 : w1.cell? ⟨w.heap.size, 1, none⟩ = some (.pointer (some ⟨P, 0, none⟩)) := by rw [cell_of_row w1 _ 1 _ 254 (0, 0) hbox]; rfl
 have hc := hone1.cell
 have hf := hone1.free
 have hgr1 : w.grownBy w1 (some P) := Zai (World.grownBy_alloc w _ _) hgr
 have hbel1 : Below w0.heap.size w0 w1 := hbel.grown hgr hbel.size (fun k hk => by simp at hk; omega)
 clear hbel hone hsz hbox hgr R
 generalize hg : gN zs a = r at hq ⊢
 obtain ⟨n, next, ok⟩ := r
 have HG : Hid (gN zs a = (n, next, ok)) := hg
 clear hg
 cases ok with
 | false =>
  have HT : Hid (gT zs a = (⟨#[]⟩, 0, false)) := Zj1 zs a n next false HG.out (Or.inl rfl)
  clear hq
  go_wp2_with fail
  go_ret2
  exact ⟨by rw [HT.out]; rfl, ⟨q, hone1, by rw [HT.out]; intro h; cases h⟩, hgr1⟩
 | true =>
  obtain ⟨h1, h2, h3, h4⟩ := Zj6 zs a n next HG.out
  obtain ⟨n, rfl⟩ := Int.eq_ofNat_of_zero_le h1
  obtain ⟨next, rfl⟩ := Int.eq_ofNat_of_zero_le h3
  obtain rfl : q = (next : Int) := hq rfl
  clear hq
  by_cases hout : (zs.length : Int) - next < n
  ·have HT : Hid (gT zs a = (⟨#[]⟩, 0, false)) := Zj1 zs a _ _ true HG.out (Or.inr hout)
   go_wp2_with fail
   go_ret2
   exact ⟨by rw [HT.out]; rfl, ⟨_, hone1, by rw [HT.out]; intro h; cases h⟩, hgr1⟩
  ·have HT : Hid (gT zs a = (strOfNums ((zs.drop next).take n), (next : Int) + n, true)) := ZkE zs a n next HG.out (by omega)
   have hle : next + n <= zs.length := by omega
   have hcell2 : zs ≠ [] -> ∃ g o, ao = some ⟨g, o, none⟩ /\ g < (w1.setCell ⟨P, 0, none⟩ (.int .i64 ((next : Int) + n))).heap.size /\ ∀ i, i < zs.length -> (w1.setCell ⟨P, 0, none⟩ (.int .i64 ((next : Int) + n))).cell? ⟨g, o + i, none⟩ = some (.int .u8 (zs.getD i 0)) := by
    intro hne
    obtain ⟨g, o, rfl, hg, hcell⟩ := hcell hne
    have hs := hbel1.size
    refine ⟨g, o, rfl, by simp [World.setCell]; omega, fun i hi => ?_⟩
    rw [World.cell?_of_block (w := w1) (heap_setCell_other w1 ⟨P, 0, none⟩ g _ (by simp; omega)), hbel1.cell (p := ⟨g, o + i, none⟩) hg]
    exact hcell i hi
   clear hcell
   go_wp2_with (refine Zbr _ rfl _ 162 9 5 rfl Tryz.underlying162 Tryz.underlying9 Tryz.underlying5 _ _ _ ((zs.drop next).take n) rfl (by rw [Zeh zs next n hle]; omega) (by rw [Nat.add_sub_cancel_left]; simpa using Zfk hcell2 next n hle hcap) ?_)
   all_goals go_ret2
   all_goals exact ⟨by rw [HT.out]; rfl, ⟨_, hone1.set _, by rw [HT.out]; intro _; rfl⟩, Zai hgr1 (Zag w1 P 0 _)⟩
theorem Zjo (l : List Int) : (strOfNums l).size = l.length := by
 unfold strOfNums
 simp [ByteArray.size]
def badV (p : Int) : Value := .iface 289 (.agg #[.int .i64 p])
def ZgZ (b : Int) (n : Nat) (r : Value) : Prop := (b < n /\ ∃ p, r = badV p) \/ (¬ b < n /\ r = .nilIface)
theorem Zc4 (v : Value) (zs : List Int) (P : Nat) (b : Int) (w : World) (R : ∃ ao cap, v = .slice ao zs.length cap) (h1 : One w P b) :
  Calls Tryz.prog 209 #[.agg #[v, .pointer (some ⟨P, 0, none⟩)]] w fun e w' => ∃ r, e = .returned r /\ ZgZ b zs.length r /\ Below w.heap.size w w' := by
 obtain ⟨ao, cap, rfl⟩ := R
 have hB0 : Below w.heap.size w (w.alloc (Obj.cells #[Value.slice ao zs.length cap, Value.pointer (some ⟨P, 0, none⟩)] 254)) := (Below.refl _ _).alloc (Nat.le_refl _) _
 have h2 := h1.below hB0 h1.lt
 have hc := h2.cell
 obtain ⟨W, hW⟩ : ∃ W, w.alloc (Obj.cells #[Value.slice ao zs.length cap, Value.pointer (some ⟨P, 0, none⟩)] 254) = W := ⟨_, rfl⟩
 have hx : W.heap[w.heap.size]? = some (.cells #[Value.slice ao zs.length cap, Value.pointer (some ⟨P, 0, none⟩)] 254 (0, 0)) := by rw [<- hW]; exact heap_alloc_new _ _
 rw [hW] at hB0 h2 hc
 have b0 : W.cell? ⟨w.heap.size, 0, none⟩ = some (.slice ao zs.length cap) := cell_of_row W _ 0 _ _ _ hx
 have b1 : W.cell? ⟨w.heap.size, 1, none⟩ = some (.pointer (some ⟨P, 0, none⟩)) := cell_of_row W _ 1 _ _ _ hx
 go_enter Tryz.func209, Tryz.ntmps209
 go_wp2_with fail
 go_quiet (fail)
 by_cases hlt : b < zs.length
 ·have HE : ∀ p, ZgZ b zs.length (badV p) := fun p => Or.inl ⟨hlt, p, rfl⟩
  go_wp2
  go_ret
  exact ⟨_, rfl, HE _, hB0.trans ⟨rfl, rfl, rfl, Nat.le_refl _, fun _ _ => rfl⟩⟩
 ·have HE : ZgZ b zs.length .nilIface := Or.inr ⟨hlt, rfl⟩
  go_wp2
  go_ret
  exact ⟨_, rfl, HE, hB0.trans ⟨rfl, rfl, rfl, Nat.le_refl _, fun _ _ => rfl⟩⟩
theorem Za7 {P : Program} (w : World) {ops : Array Oper} {rest : List Oper} {o : Oper} {a : Act} {Q : Exit -> Act -> World -> Prop} (hg : o.guard = none) (x : Operand) (src dst e : TypeId) (ho : o.op = .convert src dst x)
  (hs : P.underlying src = some .string) (hd : P.underlying dst = some (.slice e)) (he : P.underlying e = some (.int .u8)) (s : ByteArray) (hx : a.eval x = .string s)
  (h : ∀ cap w', s.size <= cap -> (∀ j u, (bv (sb s))[j]? = some u -> w'.cell? ((⟨w.heap.size, 0, none⟩ : Addr).add j) = some u) -> w.grownBy w' none -> w.heap.size < w'.heap.size -> wpList P ops Q rest (a.put o.dst (.slice (some ⟨w.heap.size, 0, none⟩) s.size cap)) w') :
  wpList P ops Q (o :: rest) a w := by
 refine wpList_plain hg fun K hK => ?_
 obtain ⟨cap, w', hrun, h0, h1, h2, h3⟩ : ∃ cap w', (convert src dst (.string s)).run P w = .ok (.slice (some ⟨w.heap.size, 0, none⟩) s.size cap) w' /\ s.size <= cap /\
   (∀ j u, (bv (sb s))[j]? = some u -> w'.cell? ((⟨w.heap.size, 0, none⟩ : Addr).add j) = some u) /\ w.grownBy w' none /\ w.heap.size < w'.heap.size := by
  refine ⟨_, _, run_bytes_of_string w src dst e s hs hd he, ?_, ?_, ?_, ?_⟩
  ·exact grownCap_ge _ _ _ _
  ·intro j u hu
   rw [Addr.add_lit, Nat.zero_add, cell_of_row _ w.heap.size j _ e _ (heap_alloc_new w.drew _)]
   exact ZcX s _ j u hu
  ·have hga := World.grownBy_alloc w.drew (Obj.cells (bytesRow s (grownCap w s.size 0 e)) e ((bytesRow s (grownCap w s.size 0 e)).size, (bytesRow s (grownCap w s.size 0 e)).size + 1)) none
   exact ⟨hga.os, hga.tape, hga.output, hga.size, hga.block⟩
  ·show w.heap.size < (w.heap.push _).size
   simp
 unfold Oper.wp
 simp [execOp, ho, hx, hrun, Result.andThen]
 exact hK _ _ (h cap w' h0 h1 h2 h3)
theorem Zms : (Tryz.prog.info? 254).map (·.size) = some 2 := by kernel_rfl
theorem Zbj {w w' : World} {s : ByteArray} {cap : Nat} (hs : s.size <= 140737488351232) (h0 : s.size <= cap) (h1 : ∀ j u, (bv (sb s))[j]? = some u -> w'.cell? ((⟨w.heap.size, 0, none⟩ : Addr).add j) = some u) (h3 : w.heap.size < w'.heap.size) : Row w' (.slice (some ⟨w.heap.size, 0, none⟩) s.size cap) (sb s) := by
 refine ⟨some ⟨w.heap.size, 0, none⟩, cap, by rw [ZaF], by rw [ZaF]; exact h0, by rw [ZaF]; exact hs, Zif s, fun _ => ⟨w.heap.size, 0, rfl, h3, fun i hi => ?_⟩⟩
 have := h1 i (.int .u8 ((sb s).getD i 0)) (by rw [Ziu (sb s) i hi])
 rwa [Addr.add_lit] at this
theorem Za1 (s : ByteArray) (w : World) (hs : s.size <= 140737488351232) :
  Calls Tryz.prog 206 #[.string s] w fun e w' => ∃ v W0 P, e = .returned (.agg #[v, .pointer (some ⟨P, 0, none⟩)]) /\ Row W0 v (sb s) /\ Below w.heap.size w W0 /\ Below W0.heap.size W0 w' /\ W0.heap.size <= P /\ One w' P 0 := by
 go_enter Tryz.func206, Tryz.ntmps206
 go_wp2_with (first
  | (refine Za7 _ rfl _ 9 162 5 rfl Tryz.underlying9 Tryz.underlying162 Tryz.underlying5 s rfl ?_; intro cap w2 h0 h1 h2 h3; have x2 := (h2.block w.heap.size (by simp) (by simp)).trans (heap_alloc_new w _); have hbx := (heap_alloc_old w2 (Obj.cells #[Value.int .i64 0] 3) (bl x2)).trans x2)
  | (refine wpList_store_row rfl 254 _ _ rfl w.heap.size #[.slice (some ⟨w.heap.size + 1, 0, none⟩) s.size cap, .pointer (some ⟨w2.heap.size, 0, none⟩)] rfl rfl 254 _ hbx Zms rfl (by simp [Value.oneCell']) ?_))
 have e1 : (w.alloc (Obj.cells #[Value.slice none 0 0, Value.pointer none] 254)).heap.size = w.heap.size + 1 := by simp
 have RR := Zbj (w := w.alloc (Obj.cells #[Value.slice none 0 0, Value.pointer none] 254)) hs h0 h1 h3
 rw [e1] at RR h3
 have hx2 := setRow_heap w2 w.heap.size _ #[.slice (some ⟨w.heap.size + 1, 0, none⟩) s.size cap, .pointer (some ⟨w2.heap.size, 0, none⟩)] _ _ x2
 have hx3 := setRow_heap (w2.alloc (Obj.cells #[Value.int .i64 0] 3)) w.heap.size _ #[.slice (some ⟨w.heap.size + 1, 0, none⟩) s.size cap, .pointer (some ⟨w2.heap.size, 0, none⟩)] _ _ hbx
 have hRow : Row (w2.setRow w.heap.size #[.slice (some ⟨w.heap.size + 1, 0, none⟩) s.size cap, .pointer (some ⟨w2.heap.size, 0, none⟩)]) (.slice (some ⟨w.heap.size + 1, 0, none⟩) s.size cap) (sb s) := by
  obtain ⟨ao, c, q1, q2, q3, q4, q5⟩ := RR
  refine ⟨ao, c, q1, q2, q3, q4, fun hne => ?_⟩
  obtain ⟨g, o, rfl, hg, hc⟩ := q5 hne
  obtain ⟨rfl, rfl⟩ : g = w.heap.size + 1 /\ o = 0 := by
   simp only [Value.slice.injEq, Option.some.injEq, Addr.mk.injEq] at q1
   exact ⟨q1.1.1.symm, q1.1.2.1.symm⟩
  refine ⟨_, _, rfl, by rw [size_setRow]; exact hg, fun i hi => ?_⟩
  rw [World.cell?_of_block (w := w2) (setRow_other w2 w.heap.size (w.heap.size + 1) _ (by omega))]
  exact hc i hi
 have hBW : Below w.heap.size w (w2.setRow w.heap.size #[.slice (some ⟨w.heap.size + 1, 0, none⟩) s.size cap, .pointer (some ⟨w2.heap.size, 0, none⟩)]) := by
  have hB0 : Below w.heap.size w (w.alloc (Obj.cells #[Value.slice none 0 0, Value.pointer none] 254)) := (Below.refl _ _).alloc (Nat.le_refl _) _
  have hB2 : Below w.heap.size w w2 := hB0.grown h2 hB0.size (fun k hk => by cases hk)
  exact below_setRow hB2 (Nat.le_refl _) _
 have hBF : Below w2.heap.size (w2.setRow w.heap.size #[.slice (some ⟨w.heap.size + 1, 0, none⟩) s.size cap, .pointer (some ⟨w2.heap.size, 0, none⟩)]) ((w2.alloc (Obj.cells #[Value.int .i64 0] 3)).setRow w.heap.size #[.slice (some ⟨w.heap.size + 1, 0, none⟩) s.size cap, .pointer (some ⟨w2.heap.size, 0, none⟩)]) := by
  refine ⟨rfl, rfl, rfl, by simp, fun k hk => ?_⟩
  by_cases hkk : k = w.heap.size
  ·subst hkk
   rw [hx2, hx3]
  ·rw [setRow_other _ _ _ _ hkk, setRow_other _ _ _ _ hkk]
   exact heap_alloc_old w2 _ hk
 have hOne : One ((w2.alloc (Obj.cells #[Value.int .i64 0] 3)).setRow w.heap.size #[.slice (some ⟨w.heap.size + 1, 0, none⟩) s.size cap, .pointer (some ⟨w2.heap.size, 0, none⟩)]) w2.heap.size 0 := (setRow_other _ _ _ _ (by omega)).trans (heap_alloc_new w2 _)
 clear hbx h1 h2 e1
 go_wp2
 exact bodyPost_ret (results_cell_row rfl _ _ w.heap.size 254 _ (0, 0) _ rfl hx3 Tryz.underlying254 rfl Zms) rfl ⟨_, _, _, rfl, hRow, hBW, by rw [size_setRow]; exact hBF, by rw [size_setRow]; exact Nat.le_refl _, hOne⟩
structure K2 (P M : Nat) (w w' : World) : Prop where
 os : w'.os = w.os
 tape : w'.tape = w.tape
 output : w'.output = w.output
 size : w.heap.size <= w'.heap.size
 block : ∀ k, k < w.heap.size -> k ≠ P -> k ≠ M -> w'.heap[k]? = w.heap[k]?
theorem K2.refl (P M : Nat) (w : World) : K2 P M w w := ⟨rfl, rfl, rfl, Nat.le_refl _, fun _ _ _ _ => rfl⟩
theorem K2.trans {P M : Nat} {a b c : World} (h : K2 P M a b) (k : K2 P M b c) : K2 P M a c :=
 ⟨k.os.trans h.os, k.tape.trans h.tape, k.output.trans h.output, Nat.le_trans h.size k.size, fun i hi h1 h2 => (k.block i (Nat.lt_of_lt_of_le hi h.size) h1 h2).trans (h.block i hi h1 h2)⟩
theorem K2.ofP {P M : Nat} {w w' : World} (h : w.grownBy w' (some P)) : K2 P M w w' := ⟨h.os, h.tape, h.output, h.size, fun k hk h1 _ => h.block k hk (by simp [h1])⟩
theorem K2.ofM {P M : Nat} {w w' : World} (h : w.grownBy w' (some M)) : K2 P M w w' := ⟨h.os, h.tape, h.output, h.size, fun k hk _ h2 => h.block k hk (by simp [h2])⟩
theorem K2.ofB {P M : Nat} {w w' : World} (h : Below w.heap.size w w') : K2 P M w w' := ⟨h.os, h.tape, h.output, h.size, fun k hk _ _ => h.block k hk⟩
theorem K2.below {P M B : Nat} {w w' : World} (h : K2 P M w w') (hB : B <= w.heap.size) (hP : B <= P) (hM : B <= M) : Below B w w' := ⟨h.os, h.tape, h.output, h.size, fun k hk => h.block k (by omega) (by omega) (by omega)⟩
theorem K2.grown {P M : Nat} {w w' : World} (h : K2 P M w w') (hM : w.heap.size <= M) : w.grownBy w' (some P) := ⟨h.os, h.tape, h.output, h.size, fun k hk h1 => h.block k hk (by simpa using h1) (by omega)⟩
def rdK (zs : List Int) : Nat -> Int -> Option (List Int × Int)
 | 0, a => some ([], a)
 | n + 1, a => (rd1 zs a).bind fun p => (rdK zs n p.2).map fun q => (p.1 :: q.1, q.2)
theorem Zc7 (zs : List Int) : ∀ (n : Nat) (a : Int), rdK zs (n + 1) a = (rdK zs n a).bind fun q => (rd1 zs q.2).map fun p => (q.1 ++ [p.1], p.2)
 | 0, a => by
  simp only [rdK, Option.bind_some]
  cases rd1 zs a <;> rfl
 | n + 1, a => by
  rw [rdK]
  cases h : rd1 zs a with
  | none => simp [rdK, h]
  | some p =>
   simp only [Option.bind_some]
   rw [Zc7 zs n p.2, rdK, h]
   simp only [Option.bind_some]
   cases rdK zs n p.2 with
   | none => rfl
   | some q => simp only [Option.bind_some, Option.map_some]; cases rd1 zs q.2 <;> rfl
theorem Zem {zs : List Int} : ∀ {n : Nat} {a : Int} {q : List Int × Int}, rdK zs n a = some q -> q.1.length = n
 | 0, a, q, h => by cases h; rfl
 | n + 1, a, q, h => by
  rw [rdK, Option.bind_eq_some_iff] at h
  obtain ⟨p, _, h2⟩ := h
  rw [Option.map_eq_some_iff] at h2
  obtain ⟨t, h3, h4⟩ := h2
  cases h4
  simp [Zem h3]
theorem Zgt {zs : List Int} {a : Int} : ∀ {n m : Nat}, n <= m -> rdK zs n a = none -> rdK zs m a = none
 | n, 0, h, e => by
  obtain rfl : n = 0 := by omega
  exact e
 | n, m + 1, h, e => by
  rcases Nat.lt_or_ge n (m + 1) with h1 | h1
  ·rw [Zc7, Zgt (by omega) e]; rfl
  ·obtain rfl : n = m + 1 := by omega
   exact e
def tgt (M : Nat) (os : List Nat) : Array Value := (os.map fun o => Value.pointer (some ⟨M, o, none⟩)).toArray
def setL (cs : Array Value) (os : List Nat) (vs : List Int) : Array Value := (os.zip vs).foldl (fun c p => c.setIfInBounds p.1 (.int .i64 p.2)) cs
theorem ZiQ (cs : Array Value) (os : List Nat) (vs : List Int) (x : Int) (o : Nat) (h : os[vs.length]? = some o) : setL cs (os.take (vs.length + 1)) (vs ++ [x]) = (setL cs (os.take vs.length) vs).setIfInBounds o (.int .i64 x) := by
 obtain ⟨hl, he⟩ := List.getElem?_eq_some_iff.1 h
 unfold setL
 rw [List.take_succ_eq_append_getElem hl, he, List.zip_append (by simp; omega), List.foldl_append]
 rfl
theorem Zij (cs : Array Value) (os : List Nat) (vs : List Int) : (setL cs os vs).size = cs.size := by
 unfold setL
 generalize os.zip vs = l
 induction l generalizing cs with
 | nil => rfl
 | cons p l ih => rw [List.foldl_cons, ih]; simp
theorem Zln {zs : List Int} {a x n : Int} (h : gN zs a = (x, n, true)) : rd1 zs a = some (x, n) := by unfold rd1; rw [h]; rfl
theorem ZlB {zs : List Int} {a x n : Int} (h : gN zs a = (x, n, false)) : rd1 zs a = none := by unfold rd1; rw [h]; rfl
theorem ZcC (v : Value) (zs : List Int) (W0 w : World) (P M L : Nat) (a : Int) (cs : Array Value) (t : TypeId) (os : List Nat) (R : Row W0 v zs) (hb : Below W0.heap.size W0 w) (hP : W0.heap.size <= P) (hM : W0.heap.size <= M) (h1 : One w P a)
  (hm : w.heap[M]? = some (.cells cs t (0, 0))) (hos : ∀ o ∈ os, o < cs.size) (hL : w.heap[L]? = some (.cells (tgt M os) 252 (0, 0))) (hPM : P ≠ M) (hLP : L ≠ P) (hLM : L ≠ M) (hn : os.length <= 10) :
  Calls Tryz.prog 256 #[.agg #[v, .pointer (some ⟨P, 0, none⟩)], .slice (some ⟨L, 0, none⟩) os.length os.length] w fun e w' => K2 P M w w' /\
   ((∃ q, rdK zs os.length a = some q /\ e = .returned .nilIface /\ One w' P q.2 /\ w'.heap[M]? = some (.cells (setL cs os q.1) t (0, 0)))
    \/ (rdK zs os.length a = none /\ (∃ p, e = .returned (badV p)) /\ (∃ q, One w' P q) /\ ∃ vs : List Int, vs.length < os.length /\ w'.heap[M]? = some (.cells (setL cs (os.take vs.length) vs) t (0, 0)))) := by
 have R' := R
 obtain ⟨ao, cap, rfl, _⟩ := R'
 have hPl := h1.lt
 have hMl := (bl hm)
 have hLl := (bl hL)
 have hbs := hb.size
 go_enter Tryz.func256, Tryz.ntmps256
 go_wp2_with fail
 have hK0 : K2 P M w (w.alloc (Obj.cells #[Value.slice ao zs.length cap, Value.pointer (some ⟨P, 0, none⟩)] 254)) := K2.ofB ((Below.refl _ _).alloc (Nat.le_refl _) _)
 go_loopw [12] (fun i wr => ∃ (k : Nat) (vs : List Int) (c : Int), k <= os.length /\ i = .int .i64 k /\ Hid (rdK zs k a = some (vs, c)) /\ One wr P c /\ wr.heap[M]? = some (.cells (setL cs (os.take k) vs) t (0, 0)) /\
   wr.heap[w.heap.size]? = some (.cells #[Value.slice ao zs.length cap, Value.pointer (some ⟨P, 0, none⟩)] 254 (0, 0)) /\ K2 P M w wr) (fun i _ => os.length - (intOf i).toNat)
 case atStart =>
  refine ⟨0, [], a, by omega, rfl, rfl, h1.kept (World.grownBy_alloc w _ none) (by simp), ?_, heap_alloc_new _ _, hK0⟩
  exact (heap_alloc_old _ _ hMl).trans hm
 case round =>
  obtain ⟨k, vs, c, hk, rfl, HR, hone, hmr, hbox, hK⟩ := hrel
  have hvl : vs.length = k := Zem HR.out
  have hb0 : wr.cell? ⟨w.heap.size, 0, none⟩ = some (.slice ao zs.length cap) := cell_of_row wr _ 0 _ _ _ hbox
  have hb1 : wr.cell? ⟨w.heap.size, 1, none⟩ = some (.pointer (some ⟨P, 0, none⟩)) := cell_of_row wr _ 1 _ _ _ hbox
  have hc := hone.cell
  by_cases hlt : k < os.length
  ·obtain ⟨o, ho⟩ : ∃ o, os[k]? = some o := ⟨os[k], by simp [hlt]⟩
   have holt := hos o (List.mem_of_getElem? ho)
   have hLr := (hK.block L hLl hLP hLM).trans hL
   have hlc : wr.cell? ⟨L, k, none⟩ = some (.pointer (some ⟨M, o, none⟩)) := by
    rw [cell_of_row wr _ k _ _ _ hLr]
    simp [tgt, ho]
   have hbel : Below W0.heap.size W0 wr := hb.trans (hK.below hbs hP hM)
   obtain ⟨g, hg⟩ : ∃ g, Hid (gN zs c = g) := ⟨_, rfl⟩
   obtain ⟨gx, gn, gk⟩ := g
   have HN : Calls Tryz.prog 207 #[.agg #[.slice ao zs.length cap, .pointer (some ⟨P, 0, none⟩)]] wr fun e w' =>
     e = .returned (.tuple #[.int .i64 gx, .bool gk]) /\ (∃ q, One w' P q /\ (gk = true -> q = gn)) /\ wr.grownBy w' (some P) := by
    have := Zdu _ zs P c W0 wr R hbel hP hone
    rw [hg.out] at this
    exact this
   go_wp2_with fail
   refine HN.mono ?_
   rintro e w1 ⟨rfl, ⟨q, hone1, hq⟩, hgr⟩
   have hMr := (bl hmr)
   have hm1 := (hgr.block M hMr (by simpa using fun e => hPM e.symm)).trans hmr
   have hbox1 := (hgr.block _ (bl hbox) (by simp; omega)).trans hbox
   have hK1 := hK.trans (K2.ofP hgr)
   clear hb0 hb1 hc hlc HN
   cases gk with
   | false =>
    have HE : Hid (rdK zs os.length a = none) := Zgt (n := k + 1) (by omega) (by rw [Zc7, HR.out]; simp only [Option.bind_some]; rw [ZlB hg.out]; rfl)
    go_wp2
    go_ret
    exact ⟨hK1, Or.inr ⟨HE.out, ⟨_, rfl⟩, ⟨_, hone1⟩, vs, by omega, by rw [hvl]; exact hm1⟩⟩
   | true =>
    obtain rfl := hq rfl
    have hcell : w1.cell? ⟨M, o, none⟩ = some ((setL cs (os.take k) vs)[o]'(by rw [Zij]; exact holt)) := by rw [cell_of_row w1 _ o _ _ _ hm1, Array.getElem?_eq_getElem]
    have hfr : w1.frozen? ⟨M, o, none⟩ = false := frozen_of_row w1 _ o _ _ hm1
    have HR2 : Hid (rdK zs (k + 1) a = some (vs ++ [gx], q)) := by unfold Hid; rw [Zc7, HR.out]; simp only [Option.bind_some]; rw [Zln hg.out]; rfl
    have hset := heap_setCell_same w1 M o _ _ (.int .i64 gx) hm1
    have hks : K2 P M w1 (w1.setCell ⟨M, o, none⟩ (.int .i64 gx)) := K2.ofM (Zag w1 M o _)
    have hon2 : One (w1.setCell ⟨M, o, none⟩ (.int .i64 gx)) P q := (heap_setCell_other w1 ⟨M, o, none⟩ P _ (by simpa using hPM)).trans hone1
    have hbx2 := (heap_setCell_other w1 ⟨M, o, none⟩ w.heap.size (.int .i64 gx) (by simp; omega)).trans hbox1
    go_wp2
    go_roundw
    case rel =>
     refine ⟨k + 1, vs ++ [gx], q, by omega, by go_num, HR2, hon2, ?_, hbx2, hK1.trans hks⟩
     rw [hset, <- hvl, ZiQ _ _ _ _ o (by rw [hvl]; exact ho)]
    case measure => simp [intOf]; omega
  ·have hke : k = os.length := by omega
   subst hke
   rw [List.take_length] at hmr
   go_wp2
   go_ret
   exact ⟨hK, Or.inl ⟨_, HR.out, rfl, hone, hmr⟩⟩
def ndA (x : Nd) : Array Value := #[.int .i64 x.k, .int .i64 x.n, .string x.s, .int .i64 x.a, .int .i64 x.b]
def nd0 (k : Int) : Nd := ⟨k, 0, ByteArray.empty, 0, 0⟩
def Gets (f : Nat) (k : Int) : Prop := ∀ (v : Value) (zs : List Int) (W0 w : World) (P nb : Nat) (a : Int), Row W0 v zs -> Below W0.heap.size W0 w -> W0.heap.size <= P -> W0.heap.size <= nb -> P ≠ nb -> One w P a -> w.heap[nb]? = some (.cells (ndA (nd0 k)) 210 (0, 0)) ->
 Calls Tryz.prog f #[.agg #[v, .pointer (some ⟨P, 0, none⟩)], .pointer (some ⟨nb, 0, none⟩)] w fun e w' => K2 P nb w w' /\
  ((∃ x b, rdB zs k a = some (x, b) /\ e = .returned .nilIface /\ One w' P b /\ w'.heap[nb]? = some (.cells (ndA x) 210 (0, 0)))
   \/ (rdB zs k a = none /\ (∃ p, e = .returned (badV p)) /\ (∃ q, One w' P q) /\ ∃ x, x.k = k /\ w'.heap[nb]? = some (.cells (ndA x) 210 (0, 0))))
theorem Zlo {zs : List Int} {k a b : Int} {x : Nd} (h : rdB zs k a = some (x, b)) : x.k = k := by
 unfold rdB at h
 repeat' split at h
 all_goals first
  | (cases h; done)
  | (cases h; first | rfl | (symm; assumption))
  | (rw [Option.map_eq_some_iff] at h; obtain ⟨_, _, h⟩ := h; cases h; first | rfl | (symm; assumption))
  | (rw [Option.bind_eq_some_iff] at h; obtain ⟨_, _, h⟩ := h; rw [Option.map_eq_some_iff] at h; obtain ⟨_, _, h⟩ := h; cases h; first | rfl | (symm; assumption))
theorem ZdM : Gets 268 1 := by
 intro v zs W0 w P nb a R hb hP hM hne h1 hm
 obtain ⟨ao, cap, rfl, _⟩ := R
 go_enter Tryz.func268, Tryz.ntmps268
 go_wp2
 go_ret
 have hB : Below w.heap.size w (w.alloc (Obj.cells #[Value.slice ao zs.length cap, Value.pointer (some ⟨P, 0, none⟩)] 254)) := (Below.refl _ _).alloc (Nat.le_refl _) _
 exact ⟨K2.ofB hB, Or.inl ⟨nd0 1, a, rfl, rfl, h1.below hB h1.lt, (bb hm hB)⟩⟩
theorem ZcM (v : Value) (zs : List Int) (W0 w : World) (P nb : Nat) (a : Int) (cs : Array Value) (bx : Obj) (os : List Nat) (R : Row W0 v zs) (hb : Below W0.heap.size W0 w) (hP : W0.heap.size <= P) (hM : W0.heap.size <= nb) (hne : P ≠ nb) (h1 : One w P a)
  (hm : w.heap[nb]? = some (.cells cs 210 (0, 0))) (hos : ∀ o ∈ os, o < cs.size) (hn : os.length <= 10) :
  Calls Tryz.prog 256 #[.agg #[v, .pointer (some ⟨P, 0, none⟩)], .slice (some ⟨w.heap.size + 1, 0, none⟩) os.length os.length] ((w.alloc bx).alloc (Obj.cells (tgt nb os) 252)).drew fun e w' => ∃ r, e = .returned r /\ K2 P nb w w' /\ w'.heap[w.heap.size]? = some bx /\
   ((∃ q, rdK zs os.length a = some q /\ r = .nilIface /\ One w' P q.2 /\ w'.heap[nb]? = some (.cells (setL cs os q.1) 210 (0, 0)))
    \/ (rdK zs os.length a = none /\ (∃ p, r = badV p) /\ (∃ q, One w' P q) /\ ∃ vs : List Int, vs.length < os.length /\ w'.heap[nb]? = some (.cells (setL cs (os.take vs.length) vs) 210 (0, 0)))) := by
 have hPl := h1.lt
 have hml := (bl hm)
 have hB1 : Below w.heap.size w (w.alloc bx) := (Below.refl _ _).alloc (Nat.le_refl _) _
 have hB2 : Below w.heap.size w ((w.alloc bx).alloc (Obj.cells (tgt nb os) 252)).drew := (hB1.alloc hB1.size _).drew
 have hs : (w.alloc bx).heap.size = w.heap.size + 1 := by simp
 have hL : ((w.alloc bx).alloc (Obj.cells (tgt nb os) 252)).drew.heap[w.heap.size + 1]? = some (.cells (tgt nb os) 252 (0, 0)) := by rw [<- hs]; exact heap_alloc_new _ _
 have hx : ((w.alloc bx).alloc (Obj.cells (tgt nb os) 252)).drew.heap[w.heap.size]? = some bx := (heap_alloc_old (w.alloc bx) _ (by rw [hs]; omega)).trans (heap_alloc_new w bx)
 have hbs := hb.size
 refine (ZcC v zs W0 _ P nb (w.heap.size + 1) a cs 210 os R (hb.trans (hB2.mono hbs)) hP hM (h1.below hB2 hPl) ((hB2.block _ hml).trans hm) hos hL hne (by omega) (by omega) hn).mono ?_
 rintro e w' ⟨hK, h⟩
 have hxl : w.heap.size < ((w.alloc bx).alloc (Obj.cells (tgt nb os) 252)).drew.heap.size := (bl hx)
 have hx' := (hK.block _ hxl (by omega) (by omega)).trans hx
 rcases h with ⟨q, e1, rfl, e3, e4⟩ | ⟨e1, ⟨p, rfl⟩, e3, e4⟩
 ·exact ⟨_, rfl, (K2.ofB hB2).trans hK, hx', Or.inl ⟨q, e1, rfl, e3, e4⟩⟩
 ·exact ⟨_, rfl, (K2.ofB hB2).trans hK, hx', Or.inr ⟨e1, ⟨p, rfl⟩, e3, e4⟩⟩
theorem Zb3 (zs : List Int) (a : Int) : rdK zs 1 a = (rd1 zs a).map fun p => ([p.1], p.2) := by
 simp only [rdK]
 cases rd1 zs a <;> rfl
theorem ZkW (zs : List Int) (a : Int) : rdK zs 2 a = (rd1 zs a).bind fun p => (rd1 zs p.2).map fun q => ([p.1, q.1], q.2) := by
 rw [rdK]
 cases rd1 zs a with
 | none => rfl
 | some p => simp only [Option.bind_some]; rw [Zb3]; cases rd1 zs p.2 <;> rfl
theorem Zi1 {zs : List Int} {k a : Int} {o : Nat} {f : Int -> Nd} (hf : ∀ x, setL (ndA (nd0 k)) [o] [x] = ndA (f x)) (hr : rdB zs k a = (rd1 zs a).map fun p => (f p.1, p.2)) {P nb : Nat} {w' : World} {r : Value}
  (h : (∃ q, rdK zs 1 a = some q /\ r = .nilIface /\ One w' P q.2 /\ w'.heap[nb]? = some (.cells (setL (ndA (nd0 k)) [o] q.1) 210 (0, 0)))
    \/ (rdK zs 1 a = none /\ (∃ p, r = badV p) /\ (∃ q, One w' P q) /\ ∃ vs : List Int, vs.length < 1 /\ w'.heap[nb]? = some (.cells (setL (ndA (nd0 k)) ([o].take vs.length) vs) 210 (0, 0)))) :
  (∃ x b, rdB zs k a = some (x, b) /\ r = .nilIface /\ One w' P b /\ w'.heap[nb]? = some (.cells (ndA x) 210 (0, 0)))
   \/ (rdB zs k a = none /\ (∃ p, r = badV p) /\ (∃ q, One w' P q) /\ w'.heap[nb]? = some (.cells (ndA (nd0 k)) 210 (0, 0))) := by
 rw [Zb3] at h
 rw [hr]
 cases hd : rd1 zs a with
 | some p =>
  rw [hd] at h
  rcases h with ⟨q, e1, rfl, e3, e4⟩ | ⟨e1, -⟩
  ·cases e1
   rw [hf] at e4
   exact Or.inl ⟨_, _, rfl, rfl, e3, e4⟩
  ·cases e1
 | none =>
  rw [hd] at h
  rcases h with ⟨q, e1, -⟩ | ⟨-, ⟨p, rfl⟩, e3, vs, hv, e4⟩
  ·cases e1
  ·obtain rfl : vs = [] := List.eq_nil_of_length_eq_zero (by omega)
   exact Or.inr ⟨rfl, ⟨p, rfl⟩, e3, e4⟩
theorem ZjE {zs : List Int} {k a : Int} {o o2 : Nat} {f : Int -> Int -> Nd} {g : Int -> Nd} (hf : ∀ x y, setL (ndA (nd0 k)) [o, o2] [x, y] = ndA (f x y)) (hg : ∀ x, setL (ndA (nd0 k)) [o] [x] = ndA (g x)) (hgk : ∀ x, (g x).k = k) (hr : rdB zs k a = (rd1 zs a).bind fun p => (rd1 zs p.2).map fun q => (f p.1 q.1, q.2)) {P nb : Nat} {w' : World} {r : Value}
  (h : (∃ q, rdK zs 2 a = some q /\ r = .nilIface /\ One w' P q.2 /\ w'.heap[nb]? = some (.cells (setL (ndA (nd0 k)) [o, o2] q.1) 210 (0, 0)))
    \/ (rdK zs 2 a = none /\ (∃ p, r = badV p) /\ (∃ q, One w' P q) /\ ∃ vs : List Int, vs.length < 2 /\ w'.heap[nb]? = some (.cells (setL (ndA (nd0 k)) ([o, o2].take vs.length) vs) 210 (0, 0)))) :
  (∃ x b, rdB zs k a = some (x, b) /\ r = .nilIface /\ One w' P b /\ w'.heap[nb]? = some (.cells (ndA x) 210 (0, 0)))
   \/ (rdB zs k a = none /\ (∃ p, r = badV p) /\ (∃ q, One w' P q) /\ ∃ x, x.k = k /\ w'.heap[nb]? = some (.cells (ndA x) 210 (0, 0))) := by
 rw [ZkW] at h
 rw [hr]
 have hbad : ∀ vs : List Int, vs.length < 2 -> w'.heap[nb]? = some (.cells (setL (ndA (nd0 k)) ([o, o2].take vs.length) vs) 210 (0, 0)) -> ∃ x, x.k = k /\ w'.heap[nb]? = some (.cells (ndA x) 210 (0, 0)) := by
  intro vs hv e4
  match vs, hv with
  | [], _ => exact ⟨nd0 k, rfl, e4⟩
  | [y], _ => exact ⟨g y, hgk y, by rw [<- hg]; exact e4⟩
 rcases h with ⟨q, e1, rfl, e3, e4⟩ | ⟨e1, ⟨p, rfl⟩, e3, vs, hv, e4⟩
 ·rw [Option.bind_eq_some_iff] at e1
  obtain ⟨p, e1, e2⟩ := e1
  rw [Option.map_eq_some_iff] at e2
  obtain ⟨t, e2, e5⟩ := e2
  cases e5
  rw [hf] at e4
  refine Or.inl ⟨_, _, ?_, rfl, e3, e4⟩
  rw [e1]
  simp only [Option.bind_some]
  rw [e2]
  rfl
 ·refine Or.inr ⟨?_, ⟨p, rfl⟩, e3, hbad vs hv e4⟩
  cases hd : rd1 zs a with
  | none => rfl
  | some t =>
   rw [hd] at e1
   simp only [Option.bind_some] at e1 ⊢
   cases hd2 : rd1 zs t.2 with
   | none => rfl
   | some u => rw [hd2] at e1; cases e1
theorem ZjM (v : Value) (zs : List Int) (W0 w : World) (P nb : Nat) (a : Int) (k : Int) (R : Row W0 v zs) (hb : Below W0.heap.size W0 w) (hP : W0.heap.size <= P) (hM : W0.heap.size <= nb) (hne : P ≠ nb) (h1 : One w P a) (hm : w.heap[nb]? = some (.cells (ndA (nd0 k)) 210 (0, 0))) :
  Calls Tryz.prog 270 #[.agg #[v, .pointer (some ⟨P, 0, none⟩)], .pointer (some ⟨nb, 0, none⟩)] w fun e w' => ∃ r, e = .returned r /\ K2 P nb w w' /\
   ((∃ q, rdK zs 1 a = some q /\ r = .nilIface /\ One w' P q.2 /\ w'.heap[nb]? = some (.cells (setL (ndA (nd0 k)) [1] q.1) 210 (0, 0)))
    \/ (rdK zs 1 a = none /\ (∃ p, r = badV p) /\ (∃ q, One w' P q) /\ ∃ vs : List Int, vs.length < 1 /\ w'.heap[nb]? = some (.cells (setL (ndA (nd0 k)) ([1].take vs.length) vs) 210 (0, 0)))) := by
 obtain ⟨ao, cap, rfl, _⟩ := id R
 have HC := ZcM _ zs W0 w P nb a (ndA (nd0 k)) (Obj.cells #[Value.slice ao zs.length cap, Value.pointer (some ⟨P, 0, none⟩)] 254) [1] R hb hP hM hne h1 hm (by intro o ho; simp at ho; simp [ndA]; omega) (by simp)
 go_enter Tryz.func270, Tryz.ntmps270
 go_wp2_with fail
 go_region_held (fun w' => w'.cell? ⟨w.heap.size, 0, none⟩ = some (.slice ao zs.length cap) /\ w'.cell? ⟨w.heap.size, 1, none⟩ = some (.pointer (some ⟨P, 0, none⟩))) (first | exact s1 | go_keep) (first
  | (go_at_call 256; refine HC.mono ?_; rintro e w1 ⟨r, rfl, hK, hbx, hr⟩; have s1 : w1.cell? ⟨w.heap.size, 0, none⟩ = some (.slice ao zs.length cap) /\ w1.cell? ⟨w.heap.size, 1, none⟩ = some (.pointer (some ⟨P, 0, none⟩)) := ⟨cell_of_row w1 _ 0 _ _ _ hbx, cell_of_row w1 _ 1 _ _ _ hbx⟩))
 all_goals
  clear HC s1
  go_wp2
  go_ret
  exact ⟨r, rfl, hK, hr⟩
theorem Zkg (v : Value) (zs : List Int) (W0 w : World) (P nb : Nat) (a : Int) (k : Int) (R : Row W0 v zs) (hb : Below W0.heap.size W0 w) (hP : W0.heap.size <= P) (hM : W0.heap.size <= nb) (hne : P ≠ nb) (h1 : One w P a) (hm : w.heap[nb]? = some (.cells (ndA (nd0 k)) 210 (0, 0))) :
  Calls Tryz.prog 280 #[.agg #[v, .pointer (some ⟨P, 0, none⟩)], .pointer (some ⟨nb, 0, none⟩)] w fun e w' => ∃ r, e = .returned r /\ K2 P nb w w' /\
   ((∃ q, rdK zs 1 a = some q /\ r = .nilIface /\ One w' P q.2 /\ w'.heap[nb]? = some (.cells (setL (ndA (nd0 k)) [3] q.1) 210 (0, 0)))
    \/ (rdK zs 1 a = none /\ (∃ p, r = badV p) /\ (∃ q, One w' P q) /\ ∃ vs : List Int, vs.length < 1 /\ w'.heap[nb]? = some (.cells (setL (ndA (nd0 k)) ([3].take vs.length) vs) 210 (0, 0)))) := by
 obtain ⟨ao, cap, rfl, _⟩ := id R
 have HC := ZcM _ zs W0 w P nb a (ndA (nd0 k)) (Obj.cells #[Value.slice ao zs.length cap, Value.pointer (some ⟨P, 0, none⟩)] 254) [3] R hb hP hM hne h1 hm (by intro o ho; simp at ho; simp [ndA]; omega) (by simp)
 go_enter Tryz.func280, Tryz.ntmps280
 go_wp2_with fail
 go_region_held (fun w' => w'.cell? ⟨w.heap.size, 0, none⟩ = some (.slice ao zs.length cap) /\ w'.cell? ⟨w.heap.size, 1, none⟩ = some (.pointer (some ⟨P, 0, none⟩))) (first | exact s1 | go_keep) (first
  | (go_at_call 256; refine HC.mono ?_; rintro e w1 ⟨r, rfl, hK, hbx, hr⟩; have s1 : w1.cell? ⟨w.heap.size, 0, none⟩ = some (.slice ao zs.length cap) /\ w1.cell? ⟨w.heap.size, 1, none⟩ = some (.pointer (some ⟨P, 0, none⟩)) := ⟨cell_of_row w1 _ 0 _ _ _ hbx, cell_of_row w1 _ 1 _ _ _ hbx⟩))
 all_goals
  clear HC s1
  go_wp2
  go_ret
  exact ⟨r, rfl, hK, hr⟩
theorem Zfr (v : Value) (zs : List Int) (W0 w : World) (P nb : Nat) (a : Int) (k : Int) (R : Row W0 v zs) (hb : Below W0.heap.size W0 w) (hP : W0.heap.size <= P) (hM : W0.heap.size <= nb) (hne : P ≠ nb) (h1 : One w P a) (hm : w.heap[nb]? = some (.cells (ndA (nd0 k)) 210 (0, 0))) :
  Calls Tryz.prog 276 #[.agg #[v, .pointer (some ⟨P, 0, none⟩)], .pointer (some ⟨nb, 0, none⟩)] w fun e w' => ∃ r, e = .returned r /\ K2 P nb w w' /\
   ((∃ q, rdK zs 2 a = some q /\ r = .nilIface /\ One w' P q.2 /\ w'.heap[nb]? = some (.cells (setL (ndA (nd0 k)) [3, 4] q.1) 210 (0, 0)))
    \/ (rdK zs 2 a = none /\ (∃ p, r = badV p) /\ (∃ q, One w' P q) /\ ∃ vs : List Int, vs.length < 2 /\ w'.heap[nb]? = some (.cells (setL (ndA (nd0 k)) ([3, 4].take vs.length) vs) 210 (0, 0)))) := by
 obtain ⟨ao, cap, rfl, _⟩ := id R
 have HC := ZcM _ zs W0 w P nb a (ndA (nd0 k)) (Obj.cells #[Value.slice ao zs.length cap, Value.pointer (some ⟨P, 0, none⟩)] 254) [3, 4] R hb hP hM hne h1 hm (by intro o ho; simp at ho; simp [ndA]; omega) (by simp)
 go_enter Tryz.func276, Tryz.ntmps276
 go_wp2_with fail
 go_region_held (fun w' => w'.cell? ⟨w.heap.size, 0, none⟩ = some (.slice ao zs.length cap) /\ w'.cell? ⟨w.heap.size, 1, none⟩ = some (.pointer (some ⟨P, 0, none⟩))) (first | exact s1 | go_keep) (first
  | (go_at_call 256; refine HC.mono ?_; rintro e w1 ⟨r, rfl, hK, hbx, hr⟩; have s1 : w1.cell? ⟨w.heap.size, 0, none⟩ = some (.slice ao zs.length cap) /\ w1.cell? ⟨w.heap.size, 1, none⟩ = some (.pointer (some ⟨P, 0, none⟩)) := ⟨cell_of_row w1 _ 0 _ _ _ hbx, cell_of_row w1 _ 1 _ _ _ hbx⟩))
 all_goals
  clear HC s1
  go_wp2
  go_ret
  exact ⟨r, rfl, hK, hr⟩
theorem Zhq (v : Value) (zs : List Int) (W0 w : World) (P nb : Nat) (a : Int) (k : Int) (R : Row W0 v zs) (hb : Below W0.heap.size W0 w) (hP : W0.heap.size <= P) (hM : W0.heap.size <= nb) (hne : P ≠ nb) (h1 : One w P a) (hm : w.heap[nb]? = some (.cells (ndA (nd0 k)) 210 (0, 0))) :
  Calls Tryz.prog 278 #[.agg #[v, .pointer (some ⟨P, 0, none⟩)], .pointer (some ⟨nb, 0, none⟩)] w fun e w' => ∃ r, e = .returned r /\ K2 P nb w w' /\
   ((∃ q, rdK zs 2 a = some q /\ r = .nilIface /\ One w' P q.2 /\ w'.heap[nb]? = some (.cells (setL (ndA (nd0 k)) [1, 3] q.1) 210 (0, 0)))
    \/ (rdK zs 2 a = none /\ (∃ p, r = badV p) /\ (∃ q, One w' P q) /\ ∃ vs : List Int, vs.length < 2 /\ w'.heap[nb]? = some (.cells (setL (ndA (nd0 k)) ([1, 3].take vs.length) vs) 210 (0, 0)))) := by
 obtain ⟨ao, cap, rfl, _⟩ := id R
 have HC := ZcM _ zs W0 w P nb a (ndA (nd0 k)) (Obj.cells #[Value.slice ao zs.length cap, Value.pointer (some ⟨P, 0, none⟩)] 254) [1, 3] R hb hP hM hne h1 hm (by intro o ho; simp at ho; simp [ndA]; omega) (by simp)
 go_enter Tryz.func278, Tryz.ntmps278
 go_wp2_with fail
 go_region_held (fun w' => w'.cell? ⟨w.heap.size, 0, none⟩ = some (.slice ao zs.length cap) /\ w'.cell? ⟨w.heap.size, 1, none⟩ = some (.pointer (some ⟨P, 0, none⟩))) (first | exact s1 | go_keep) (first
  | (go_at_call 256; refine HC.mono ?_; rintro e w1 ⟨r, rfl, hK, hbx, hr⟩; have s1 : w1.cell? ⟨w.heap.size, 0, none⟩ = some (.slice ao zs.length cap) /\ w1.cell? ⟨w.heap.size, 1, none⟩ = some (.pointer (some ⟨P, 0, none⟩)) := ⟨cell_of_row w1 _ 0 _ _ _ hbx, cell_of_row w1 _ 1 _ _ _ hbx⟩))
 all_goals
  clear HC s1
  go_wp2
  go_ret
  exact ⟨r, rfl, hK, hr⟩
theorem ZeR (k : Int) (hk : k = 2 \/ k = 8 \/ k = 9) : Gets 270 k := by
 intro v zs W0 w P nb a R hb hP hM hne h1 hm
 refine (ZjM v zs W0 w P nb a k R hb hP hM hne h1 hm).mono ?_
 rintro e w' ⟨r, rfl, hK, h⟩
 have h2 := Zi1 (f := fun x => ⟨k, x, ByteArray.empty, 0, 0⟩) (fun x => rfl) (by unfold rdB; rw [if_neg (by omega), if_pos hk]) h
 refine ⟨hK, ?_⟩
 rcases h2 with ⟨x, b, e1, rfl, e3, e4⟩ | ⟨e1, ⟨p, rfl⟩, e3, e4⟩
 ·exact Or.inl ⟨x, b, e1, rfl, e3, e4⟩
 ·exact Or.inr ⟨e1, ⟨p, rfl⟩, e3, _, rfl, e4⟩
theorem ZjR : Gets 280 7 := by
 intro v zs W0 w P nb a R hb hP hM hne h1 hm
 refine (Zkg v zs W0 w P nb a 7 R hb hP hM hne h1 hm).mono ?_
 rintro e w' ⟨r, rfl, hK, h⟩
 have h2 := Zi1 (f := fun x => ⟨7, 0, ByteArray.empty, x, 0⟩) (fun x => rfl) (by rfl) h
 refine ⟨hK, ?_⟩
 rcases h2 with ⟨x, b, e1, rfl, e3, e4⟩ | ⟨e1, ⟨p, rfl⟩, e3, e4⟩
 ·exact Or.inl ⟨x, b, e1, rfl, e3, e4⟩
 ·exact Or.inr ⟨e1, ⟨p, rfl⟩, e3, _, rfl, e4⟩
theorem ZfB : Gets 276 5 := by
 intro v zs W0 w P nb a R hb hP hM hne h1 hm
 refine (Zfr v zs W0 w P nb a 5 R hb hP hM hne h1 hm).mono ?_
 rintro e w' ⟨r, rfl, hK, h⟩
 have h2 := ZjE (f := fun x y => ⟨5, 0, ByteArray.empty, x, y⟩) (g := fun x => ⟨5, 0, ByteArray.empty, x, 0⟩) (fun x y => rfl) (fun x => rfl) (fun x => rfl) (by rfl) h
 refine ⟨hK, ?_⟩
 rcases h2 with ⟨x, b, e1, rfl, e3, e4⟩ | ⟨e1, ⟨p, rfl⟩, e3, e4⟩
 ·exact Or.inl ⟨x, b, e1, rfl, e3, e4⟩
 ·exact Or.inr ⟨e1, ⟨p, rfl⟩, e3, e4⟩
theorem Zha : Gets 278 6 := by
 intro v zs W0 w P nb a R hb hP hM hne h1 hm
 refine (Zhq v zs W0 w P nb a 6 R hb hP hM hne h1 hm).mono ?_
 rintro e w' ⟨r, rfl, hK, h⟩
 have h2 := ZjE (f := fun x y => ⟨6, x, ByteArray.empty, y, 0⟩) (g := fun x => ⟨6, x, ByteArray.empty, 0, 0⟩) (fun x y => rfl) (fun x => rfl) (fun x => rfl) (by rfl) h
 refine ⟨hK, ?_⟩
 rcases h2 with ⟨x, b, e1, rfl, e3, e4⟩ | ⟨e1, ⟨p, rfl⟩, e3, e4⟩
 ·exact Or.inl ⟨x, b, e1, rfl, e3, e4⟩
 ·exact Or.inr ⟨e1, ⟨p, rfl⟩, e3, e4⟩
theorem Zhr : Gets 272 3 := by
 intro v zs W0 w P nb a R hb hP hM hne h1 hm
 obtain ⟨ao, cap, rfl, _⟩ := id R
 have HC := ZcM _ zs W0 w P nb a (ndA (nd0 3)) (Obj.cells #[Value.slice ao zs.length cap, Value.pointer (some ⟨P, 0, none⟩)] 254) [1] R hb hP hM hne h1 hm (by intro o ho; simp at ho; simp [ndA]; omega) (by simp)
 go_enter Tryz.func272, Tryz.ntmps272
 go_wp2_with fail
 go_region_held (fun w' => w'.cell? ⟨w.heap.size, 0, none⟩ = some (.slice ao zs.length cap) /\ w'.cell? ⟨w.heap.size, 1, none⟩ = some (.pointer (some ⟨P, 0, none⟩))) (first | exact s1 | go_keep) (first
  | (go_at_call 256; refine HC.mono ?_; rintro e w1 ⟨r, rfl, hK, hbx, hr⟩; have s1 : w1.cell? ⟨w.heap.size, 0, none⟩ = some (.slice ao zs.length cap) /\ w1.cell? ⟨w.heap.size, 1, none⟩ = some (.pointer (some ⟨P, 0, none⟩)) := ⟨cell_of_row w1 _ 0 _ _ _ hbx, cell_of_row w1 _ 1 _ _ _ hbx⟩))
 all_goals
  have h2 : ∃ z b, 0 <= z /\ z <= 9223372036854775807 /\ w1.heap[nb]? = some (.cells (ndA ⟨3, z, ByteArray.empty, 0, 0⟩) 210 (0, 0)) /\ One w1 P b /\ Hid ((rd1 zs a = some (z, b) /\ r = .nilIface) \/ (rd1 zs a = none /\ ∃ p, r = badV p)) := by
   rcases hr with ⟨q, e1, e2, e3, e4⟩ | ⟨e1, e2, ⟨q, e3⟩, vs, hv, e4⟩
   ·rw [show [1].length = 1 from rfl, Zb3, Option.map_eq_some_iff] at e1
    obtain ⟨p, e1, rfl⟩ := e1
    obtain ⟨r1, r2, _⟩ := Za5 e1
    exact ⟨p.1, p.2, r1, r2, e4, e3, Or.inl ⟨e1, e2⟩⟩
   ·rw [show [1].length = 1 from rfl, Zb3, Option.map_eq_none_iff] at e1
    obtain rfl : vs = [] := List.eq_nil_of_length_eq_zero (by have : vs.length < 1 := hv; omega)
    exact ⟨0, q, by omega, by omega, e4, e3, Or.inr ⟨e1, e2⟩⟩
  obtain ⟨z, b, z0, z1, e4, e3, HD⟩ := h2
  clear HC s1 hbx hr
  have c1 : w1.cell? ⟨nb, 1, none⟩ = some (.int .i64 z) := cell_of_row w1 _ 1 _ _ _ e4
  have f1 : w1.frozen? ⟨nb, 1, none⟩ = false := frozen_of_row w1 _ 1 _ _ e4
  have hset : (w1.setCell ⟨nb, 1, none⟩ (.int .i64 (z - 1000000000))).heap[nb]? = some (.cells (ndA ⟨3, z - 1000000000, ByteArray.empty, 0, 0⟩) 210 (0, 0)) := heap_setCell_same w1 nb 1 _ _ (.int .i64 (z - 1000000000)) e4
  have hK2 := hK.trans (K2.ofM (Zag w1 nb 1 (.int .i64 (z - 1000000000))))
  have ho2 : One (w1.setCell ⟨nb, 1, none⟩ (.int .i64 (z - 1000000000))) P b := (heap_setCell_other w1 ⟨nb, 1, none⟩ P _ (by simpa using hne)).trans e3
  go_wp2
  go_ret
  refine ⟨hK2, ?_⟩
  rcases HD.out with ⟨d1, rfl⟩ | ⟨d1, p, rfl⟩
  ·exact Or.inl ⟨_, b, by unfold rdB; rw [if_neg (by omega), if_neg (by omega), if_pos rfl, d1]; rfl, rfl, ho2, hset⟩
  ·exact Or.inr ⟨by unfold rdB; rw [if_neg (by omega), if_neg (by omega), if_pos rfl, d1]; rfl, ⟨p, rfl⟩, ⟨_, ho2⟩, _, rfl, hset⟩
theorem Zgb : Gets 274 4 := by
 intro v zs W0 w P nb a R hb hP hM hne h1 hm
 obtain ⟨ao, cap, rfl, _⟩ := id R
 have hB : Below w.heap.size w (w.alloc (Obj.cells #[Value.slice ao zs.length cap, Value.pointer (some ⟨P, 0, none⟩)] 254)) := (Below.refl _ _).alloc (Nat.le_refl _) _
 have h1' := h1.below hB h1.lt
 have hc := h1'.cell
 obtain ⟨g, hg⟩ : ∃ g, Hid (gT zs a = g) := ⟨_, rfl⟩
 obtain ⟨gs, gn, gk⟩ := g
 have HT : Calls Tryz.prog 208 #[.agg #[.slice ao zs.length cap, .pointer (some ⟨P, 0, none⟩)]] (w.alloc (Obj.cells #[Value.slice ao zs.length cap, Value.pointer (some ⟨P, 0, none⟩)] 254)) fun e w' =>
   e = .returned (.tuple #[.string gs, .bool gk]) /\ (∃ q, One w' P q /\ (gk = true -> q = gn)) /\ (w.alloc (Obj.cells #[Value.slice ao zs.length cap, Value.pointer (some ⟨P, 0, none⟩)] 254)).grownBy w' (some P) := by
  have := Zc2 _ zs P a W0 _ R (hb.trans (hB.mono hb.size)) hP h1'
  rw [hg.out] at this
  exact this
 go_enter Tryz.func274, Tryz.ntmps274
 go_wp2_with fail
 refine HT.mono ?_
 rintro e w1 ⟨rfl, ⟨q, ho, hq⟩, hgr⟩
 have hml := (bl hm)
 have hm1 := (hgr.block nb (Nat.lt_of_lt_of_le hml hB.size) (by simpa using fun e => hne e.symm)).trans ((hB.block nb hml).trans hm)
 have hK1 : K2 P nb w w1 := (K2.ofB hB).trans (K2.ofP hgr)
 clear HT hc
 cases gk with
 | false =>
  go_wp2
  go_ret
  exact ⟨hK1, Or.inr ⟨by unfold rdB; rw [if_neg (by omega), if_neg (by omega), if_neg (by omega), if_pos rfl, hg.out]; rfl, ⟨_, rfl⟩, ⟨_, ho⟩, _, rfl, hm1⟩⟩
 | true =>
  obtain rfl := hq rfl
  have c2 : w1.cell? ⟨nb, 2, none⟩ = some (.string ByteArray.empty) := cell_of_row w1 _ 2 _ _ _ hm1
  have f2 : w1.frozen? ⟨nb, 2, none⟩ = false := frozen_of_row w1 _ 2 _ _ hm1
  have hset : (w1.setCell ⟨nb, 2, none⟩ (.string gs)).heap[nb]? = some (.cells (ndA ⟨4, 0, gs, 0, 0⟩) 210 (0, 0)) := heap_setCell_same w1 nb 2 _ _ (.string gs) hm1
  have hK2 := hK1.trans (K2.ofM (Zag w1 nb 2 (.string gs)))
  have ho2 : One (w1.setCell ⟨nb, 2, none⟩ (.string gs)) P q := (heap_setCell_other w1 ⟨nb, 2, none⟩ P _ (by simpa using hne)).trans ho
  go_wp2
  go_ret
  exact ⟨hK2, Or.inl ⟨_, q, by unfold rdB; rw [if_neg (by omega), if_neg (by omega), if_neg (by omega), if_pos rfl, hg.out]; rfl, rfl, ho2, hset⟩⟩
theorem Ziw {w : World} {base : Nat} {ad : Addr} {n c : Nat} {zs : List Value} (h : w.ownsRow base 5 1 (.slice (some ad) n c) n zs) (hn : 0 < n) : ∃ g, ad = ⟨g, 0, none⟩ := by
 obtain ⟨g, cap, e, _⟩ := h.form hn
 simp only [Value.slice.injEq, Option.some.injEq] at e
 exact ⟨g, e.1⟩
theorem Zdv {w : World} {base : Nat} {ao : Option Addr} {n c : Nat} {zs : List Value} (h : w.ownsRow base 5 1 (.slice ao n c) n zs) : ao = none -> n = 0 /\ c = 0 := by
 intro e
 subst e
 rcases h.2 with ⟨h1, h2⟩ | ⟨g, cap, cur, h1, _⟩
 ·simp only [Value.slice.injEq, true_and] at h1; exact h1
 ·simp at h1
theorem ZdF {w : World} {base : Nat} {ao : Option Addr} {n c : Nat} {zs : List Value} (h : w.ownsRow base 5 1 (.slice ao n c) n zs) (hl : zs.length = n) : ∀ ad, ao = some ad -> ∀ (j : Nat) u, zs[j]? = some u -> w.cell? (ad.add j) = some u := by
 intro ad e j u hu
 subst e
 have hj := (List.getElem?_eq_some_iff.1 hu).1
 have hf := Ziw h (by omega)
 obtain ⟨g, rfl⟩ := hf
 have := h.cellAt j (by omega)
 have hadd : (⟨g, 0, none⟩ : Addr).add j = ⟨g, j, none⟩ := by unfold Addr.add; split <;> simp_all
 rw [hadd, this]
 exact hu
theorem Zgs {w : World} {base : Nat} {ao : Option Addr} {c : Nat} {zs : List Int} (h : w.ownsRow base 5 1 (.slice ao zs.length c) zs.length (bv zs)) : zs.length ≠ 0 -> ∃ g o', ao = some ⟨g, o', none⟩ /\ ∀ i, i < zs.length -> w.cell? ⟨g, o' + i, none⟩ = some (.int .u8 (zs.getD i 0)) := by
 intro hn
 obtain ⟨g, cap, e, _⟩ := h.form (by omega)
 simp only [Value.slice.injEq] at e
 obtain ⟨rfl, _, _⟩ := e
 refine ⟨g, 0, rfl, fun i hi => ?_⟩
 have := h.cellAt i (by omega)
 rw [Nat.zero_add, this, Ziu zs i hi]
def ZlT (zs : List Int) (j : Nat) : List Int := zs.take j ++ List.replicate (zs.length - j) 0
theorem ZjT (x : Int) (w : World) (hx : x < 0) :
  Calls Tryz.prog 203 #[.int .i64 x] w fun e w' => ∃ v, e = .returned v /\ w'.ownsRow w.heap.size 5 1 v 0 (bv []) /\ Below w.heap.size w w' := by
 go_enter Tryz.func203, Tryz.ntmps203
 go_wp2
 go_ret
 exact ⟨_, rfl, World.ownsRow_made _ _ 0 (Nat.le_refl _) (by simp) (by simp), (Below.refl _ _).alloc (Nat.le_refl _) _⟩
theorem Zkf (x : Int) (w : World) (hx : 0 <= x) (hm : x <= 9223372036854775807) :
  Calls Tryz.prog 203 #[.int .i64 x] w fun e w' => ∃ v, e = .returned v /\ w'.ownsRow w.heap.size 5 1 v (enc 9 x).length (bv (enc 9 x)) /\ Below w.heap.size w w' := by
 obtain ⟨i0, hi, hz0, hz1, hz2⟩ := info_parts Zmn
 go_enter Tryz.func203, Tryz.ntmps203
 go_wp2
 go_loopw [0, 3] (fun y v wr => ∃ (f : Nat) (q : Int) (acc : List Int), y = .int .i64 q /\ 0 <= q /\ q <= 9223372036854775807 /\ acc.length + f = 8 /\ Hid (q < lim (f + 1)) /\ Hid (acc ++ enc (f + 1) q = enc 9 x) /\ wr.ownsRow w.heap.size 5 1 v acc.length (bv acc) /\ Below w.heap.size w wr) (fun y _ _ => (intOf y).toNat)
 case atStart =>
  exact ⟨8, x, [], rfl, hx, hm, rfl, by unfold Hid; rw [Zel]; omega, rfl, World.ownsRow_made _ _ 0 (Nat.le_refl _) (by simp) (by simp), (Below.refl _ _).alloc (Nat.le_refl _) _⟩
 case round =>
  obtain ⟨f, q, acc, rfl, hq0, hq1, hlen, Hl, Ha, hown, hbel⟩ := hrel
  have hsz := hbel.size
  by_cases hlt : q < 128
  ·go_wp2_with (at_builtin; refine wpList_append_own _ rfl _ _ 162 rfl w.heap.size 5 i0 (.int .u8 0) 1 1 Tryz.underlying162 hi hz0 hz1 hz2 rfl (by decide) _ _ _ rfl (hown.alloc _) ⟨wr.heap.size, 0, none⟩ 1 1 [.int .u8 q] rfl rfl (cell_one_new _ _ _) (fun u hu => by simp at hu; subst hu; rfl) (by unfold maxLen; omega) (by omega) (by simp; omega) ?_)
   intro v' w1 hown' hgrow _
   go_wp2
   go_ret
   refine ⟨v', rfl, ?_, ?_⟩
   ·have e : enc 9 x = acc ++ [q] := by rw [<- Ha.out, Za8 f q hlt]
    rw [e, ZbS]
    simpa [bv] using hown'
   ·exact (hbel.alloc hsz _).grown hgrow (by simp; omega) (fun k hk => (hown.lt k hk).1)
  ·go_wp2_with (at_builtin; refine wpList_append_own _ rfl _ _ 162 rfl w.heap.size 5 i0 (.int .u8 0) 1 1 Tryz.underlying162 hi hz0 hz1 hz2 rfl (by decide) _ _ _ rfl (hown.alloc _) ⟨wr.heap.size, 0, none⟩ 1 1 [.int .u8 (q % 128 + 128)] rfl rfl (cell_one_new _ _ _) (fun u hu => by simp at hu; subst hu; rfl) (by unfold maxLen; omega) (by omega) (by simp; omega) ?_)
   intro v' w1 hown' hgrow _
   go_wp2
   go_roundw
   case rel =>
    obtain ⟨f', rfl, hl⟩ := Zc1 f q (by omega) Hl.out
    refine ⟨f', q / 128, acc ++ [q % 128 + 128], rfl, by omega, by omega, by simp; omega, hl, ?_, ?_, ?_⟩
    ·have e := Zck (f' + 1) q (by omega)
     have e2 := Ha.out
     rw [e] at e2
     unfold Hid
     rw [<- e2]
     simp
    ·rw [ZbS]
     simpa [bv] using hown'
    ·exact (hbel.alloc hsz _).grown hgrow (by simp; omega) (fun k hk => (hown.lt k hk).1)
   case measure => simp [intOf]; omega
theorem ZaQ (x : Int) (w : World) (hm : x <= 9223372036854775807) :
  Calls Tryz.prog 203 #[.int .i64 x] w fun e w' => ∃ v, e = .returned v /\ w'.ownsRow w.heap.size 5 1 v (encI x).length (bv (encI x)) /\ Below w.heap.size w w' := by
 by_cases hx : x < 0
 ·rw [ZjZ x hx]; exact ZjT x w hx
 ·rw [Zci x (by omega)]; exact Zkf x w (by omega) hm
theorem Zhk (s : ByteArray) (w : World) (hs : s.size <= 2097152) :
  Calls Tryz.prog 237 #[.string s] w fun e w' => ∃ v, e = .returned v /\ w'.ownsRow w.heap.size 5 1 v (pt s).length (bv (pt s)) /\ Below w.heap.size w w' := by
 obtain ⟨i0, hi, hz0, hz1, hz2⟩ := info_parts Zmn
 have hl := Zaq s.size
 go_enter Tryz.func237, Tryz.ntmps237
 go_wp2_with fail
 refine (ZaQ (s.size : Int) _ (by omega)).mono ?_
 rintro e w1 ⟨v1, rfl, own1, bel1⟩
 have hsz := bel1.size
 go_wp2_with (first | (refine Zcv _ rfl _ 9 162 5 rfl Tryz.underlying9 Tryz.underlying162 Tryz.underlying5 s rfl ?_; intro cap w2 hcell hg2 hs2) | (at_builtin; refine wpList_append_own _ rfl _ _ 162 rfl w.heap.size 5 i0 (.int .u8 0) 1 1 Tryz.underlying162 hi hz0 hz1 hz2 rfl (by decide) v1 (encI s.size).length (bv (encI s.size)) rfl ?ho ⟨w1.heap.size, 0, none⟩ s.size _ (bv (sb s)) rfl ?hl ?hn ?h1 ?h63 ?hby ?hba ?_))
 case ho => exact own1.kept hg2 (by cases v1.ownBlock <;> simp)
 case hl => rw [ZaO, ZaF]; simp
 case hn => exact hcell
 case h1 => exact ints_oneCell .u8 _
 case h63 => unfold maxLen; omega
 case hby => omega
 case hba => omega
 intro v3 w3 own3 hgrow _
 go_wp2_with fail
 go_ret
 refine ⟨v3, rfl, ?_, (bel1.grown hg2 hsz (fun k hk => by cases hk)).grown hgrow (by omega) (fun k hk => (own1.lt k hk).1)⟩
 rw [ZcG, pt, ZbS]
 exact own3
end Go.Proofs.YtfmafkebddojjaaGreatDoor
