/-
  Texts that stood by themselves, laid into one.
-/
import Derived.Test.YtbgkofinmdpmcaaGreatDoorS8RdM
import Derived.Test.YtbgkofinmdpmcaaGreatDoorRVal3M
import Derived.Test.YtbgkofinmdpmcaaGreatDoorDVrM
import Derived.Test.YtbgkofinmdpmcaaGreatDoorNdM
import Derived.Test.YtbgkofinmdpmcaaGreatDoorFormM
/-
  The contract of spec.ValueRead: the value of the bytes, or nothing. No condition but a bound on the text.
-/
namespace Go.Proofs.YtbgkofinmdpmcaaGreatDoor
open Go.RowKit

theorem Tryz.sizeC8 : (Tryz.prog.info? 72).map (·.size) = some 3 := by kernel_rfl
theorem str_eq {l : List Int} {s : ByteArray} (hl : ∀ z ∈ l, 0 ≤ z ∧ z ≤ 255) : strOfNums l = s ↔ l = sb s := by
  constructor
  · intro h
    rw [← h, sb_str hl]
  · intro h
    rw [h, strOfNums_sb]
/-- What the specification comes to, by what l8Read leaves. -/
theorem vr_by {s : ByteArray} {xs : List Nd} {at_ : Int} {k : Bool} (hs : sP (sb s) 0 true = (xs, at_, k)) : 
    (sOk (sb s) 0 true = false → vrR (sb s) = none) ∧ (xs = [] → vrR (sb s) = none) ∧ (sOk (sb s) 0 true = true → xs ≠ [] → (poolB xs = true ∧ vpB xs ((xs.length : Int) - 1) = true) ∧ (vpR xs ((xs.length : Int) - 1) = s → vrR (sb s) = some xs) ∧ (vpR xs ((xs.length : Int) - 1) ≠ s → vrR (sb s) = none)) := by
  have key := fun ys => vrR_spec (sb s) (sb_wf s) ys
  rw [hs] at key
  refine ⟨fun h => ?_, fun h => ?_, fun h hne => ?_⟩
  · cases hv : vrR (sb s) with
    | none => rfl
    | some ys => have := ((key ys).1 hv).1.1; rw [h] at this; cases this
  · cases hv : vrR (sb s) with
    | none => rfl
    | some ys => obtain ⟨⟨_, h2⟩, h3, _⟩ := (key ys).1 hv; exact absurd (h2.symm.trans h) h3
  · have hp : poolB xs = true := by
      unfold sOk at h
      rw [hs] at h
      simp only [Bool.and_eq_true] at h
      exact h.2
    have hpos := List.length_pos_iff.2 hne
    have hvp : vpB xs ((xs.length : Int) - 1) = true := by unfold vpB hasI; rw [hp]; simp; omega
    have hR : vpR xs ((xs.length : Int) - 1) = strOfNums (wireL (mvN 0 xs [(xs.length : Int) - 1])) := by unfold vpR; rw [if_pos hvp]
    refine ⟨⟨hp, hvp⟩, fun e => ?_, fun e => ?_⟩
    · rw [hR, str_eq (wireL_wf _)] at e
      exact (key xs).2 ⟨⟨h, rfl⟩, hne, e⟩
    · cases hv : vrR (sb s) with
      | none => rfl
      | some ys =>
        obtain ⟨⟨_, h2⟩, _, h4⟩ := (key ys).1 hv
        have h2 : xs = ys := h2
        subst h2
        exact absurd (by rw [hR, str_eq (wireL_wf _)]; exact h4) e

set_option maxRecDepth 100000 in
set_option maxHeartbeats 3200000 in
theorem svread_any (s : ByteArray) (w : World) (hs : s.size ≤ 140737488351232) :
    Calls Tryz.prog 12 #[.string s] w fun e w' => VrAns w.heap.size (sb s) e w' ∧ Below w.heap.size w w' := by
  have hB0 : Below w.heap.size w (w.alloc (Obj.cells #[.slice none 0 0] 26)) := (Below.refl _ _).alloc (Nat.le_refl _) _
  go_enter Tryz.func12, Tryz.ntmps12
  go_wp2_with (first
    | (refine wpList_bytes8 _ rfl _ 9 22 5 rfl Tryz.underlying9 Tryz.underlying22 Tryz.underlying5 s rfl ?_; intro cap w2 g0 g1 g2 g3))
  have e1 : (w.alloc (Obj.cells #[.slice none 0 0] 26)).heap.size = w.heap.size + 1 := by simp
  have RR := row_of_bytes (w := w.alloc (Obj.cells #[.slice none 0 0] 26)) hs g0 g1 g3
  rw [e1] at RR g3
  have x2 := (g2.block w.heap.size (by rw [e1]; omega) (by simp)).trans (heap_alloc_new w _)
  have B2 : Below w.heap.size w w2 := hB0.grown g2 hB0.size (fun k hk => by cases hk)
  clear e1 g1 g2
  have B3 : Below w2.heap.size w2 (w2.alloc (Obj.cells #[.slice (some ⟨w.heap.size + 1, 0, none⟩) s.size cap, .int .i64 0, .bool true] 72)) := (Below.refl _ _).alloc (Nat.le_refl _) _
  have hC3 : C8 (w2.alloc (Obj.cells #[.slice (some ⟨w.heap.size + 1, 0, none⟩) s.size cap, .int .i64 0, .bool true] 72)) w2.heap.size (.slice (some ⟨w.heap.size + 1, 0, none⟩) s.size cap) 0 true := heap_alloc_new _ _
  have x3 := (B3.block w.heap.size (by omega)).trans x2
  have B03 := B2.trans (B3.mono B2.size)
  have HRD := s8read_any w2.heap.size _ (sb s) 0 true _ (RR.below B3) hC3 (by omega) (by omega)
  have s3 : (w2.alloc (Obj.cells #[.slice (some ⟨w.heap.size + 1, 0, none⟩) s.size cap, .int .i64 0, .bool true] 72)).heap.size = w2.heap.size + 1 := by simp
  obtain ⟨p, hp⟩ : ∃ p, Hid (sP (sb s) 0 true = p) := ⟨_, rfl⟩
  obtain ⟨xs, at_, k⟩ := p
  obtain ⟨b, hb⟩ : ∃ b, Hid (sOk (sb s) 0 true = b) := ⟨_, rfl⟩
  have HV := vr_by hp.out
  rw [hb.out] at HV
  rw [hp.out, hb.out] at HRD
  dsimp only at HRD
  refine HRD.mono ?_
  rintro e w4 ⟨vs, rfl, o4, c4, hg4, hz4⟩
  have x4 := (hg4.block w.heap.size (by rw [s3]; omega) (by simp; omega)).trans x3
  have B04 : Below w.heap.size w w4 := B03.grown hg4 B03.size (fun k hk => by simp at hk; omega)
  have hs4 : w2.heap.size + 1 ≤ w4.heap.size := by have := hg4.size; omega
  rw [s3] at o4
  have hw2 : w.heap.size + 1 < w2.heap.size := g3
  clear HRD hg4 x3 B03 hC3 B3 s3 hB0 x2 B2 g3 RR
  obtain ⟨av, cv, rfl⟩ := own_form o4
  have B5 : Below w4.heap.size w4 (w4.alloc (Obj.cells #[.slice av xs.length cv] 26)) := (Below.refl _ _).alloc (Nat.le_refl _) _
  have x5 := (B5.block _ (by omega)).trans x4
  have c5 := c4.below B5
  have o5 := own_below o4 B5
  have B05 := B04.trans (B5.mono B04.size)
  have y5 : (w4.alloc (Obj.cells #[.slice av xs.length cv] 26)).heap[w4.heap.size]? = some (.cells #[.slice av xs.length cv] 26 (0, 0)) := heap_alloc_new _ _
  have cok : (w4.alloc (Obj.cells #[.slice av xs.length cv] 26)).cell? ⟨w2.heap.size, 2, none⟩ = some (.bool b) := cell_of_row _ _ 2 _ _ _ c5
  have cp : (w4.alloc (Obj.cells #[.slice av xs.length cv] 26)).cell? ⟨w4.heap.size, 0, none⟩ = some (.slice av xs.length cv) := cell_of_row _ _ 0 _ _ _ y5
  cases b with
  | false =>
    have hN := HV.1 rfl
    have HA : Hid (vrL (sb s) = [] ∧ vrI (sb s) = 0 ∧ vrB (sb s) = false) := vr_no hN
    clear HV hN
    have r0 : (w4.alloc (Obj.cells #[.slice av xs.length cv] 26)).cell? ⟨w.heap.size, 0, none⟩ = some (.slice none 0 0) := cell_of_row (w4.alloc (Obj.cells #[.slice av xs.length cv] 26)) _ 0 _ _ _ x5
    have rf : (w4.alloc (Obj.cells #[.slice av xs.length cv] 26)).frozen? ⟨w.heap.size, 0, none⟩ = false := frozen_of_row (w4.alloc (Obj.cells #[.slice av xs.length cv] 26)) _ 0 _ _ x5
    have hset := heap_setCell_same (w4.alloc (Obj.cells #[.slice av xs.length cv] 26)) w.heap.size 0 _ _ (.slice none 0 0) x5
    have hBF := B05.setCell (p := ⟨w.heap.size, 0, none⟩) (Nat.le_refl _) (.slice none 0 0)
    go_wp2
    refine bodyPost_ret (results_row_2 rfl _ _ w.heap.size 26 _ (0, 0) _ rfl hset Tryz.underlying26 rfl Tryz.sizeP) rfl ⟨VrAns.intro (.slice none 0 0) ?_ ?_, hBF⟩
    · rw [HA.out.2.1, HA.out.2.2]; rfl
    · rw [HA.out.1]; exact World.ownsRow_nil _ _ _ _
  | true =>
    by_cases hxe : xs = []
    · have HA : Hid (vrL (sb s) = [] ∧ vrI (sb s) = 0 ∧ vrB (sb s) = false) := vr_no (HV.2.1 hxe)
      have hl0 : (xs.length : Int) = 0 := by rw [hxe]; rfl
      clear HV hxe
      have r0 : (w4.alloc (Obj.cells #[.slice av xs.length cv] 26)).cell? ⟨w.heap.size, 0, none⟩ = some (.slice none 0 0) := cell_of_row (w4.alloc (Obj.cells #[.slice av xs.length cv] 26)) _ 0 _ _ _ x5
      have rf : (w4.alloc (Obj.cells #[.slice av xs.length cv] 26)).frozen? ⟨w.heap.size, 0, none⟩ = false := frozen_of_row (w4.alloc (Obj.cells #[.slice av xs.length cv] 26)) _ 0 _ _ x5
      have hset := heap_setCell_same (w4.alloc (Obj.cells #[.slice av xs.length cv] 26)) w.heap.size 0 _ _ (.slice none 0 0) x5
      have hBF := B05.setCell (p := ⟨w.heap.size, 0, none⟩) (Nat.le_refl _) (.slice none 0 0)
      go_wp2
      refine bodyPost_ret (results_row_2 rfl _ _ w.heap.size 26 _ (0, 0) _ rfl hset Tryz.underlying26 rfl Tryz.sizeP) rfl ⟨VrAns.intro (.slice none 0 0) ?_ ?_, hBF⟩
      · rw [HA.out.2.1, HA.out.2.2]; rfl
      · rw [HA.out.1]; exact World.ownsRow_nil _ _ _ _
    · obtain ⟨⟨hpool, hvp⟩, hyes, hno⟩ := HV.2.2 rfl hxe
      have hpos := List.length_pos_iff.2 hxe
      have hlen := poolB_len hpool
      have hl0 : ¬ (xs.length : Int) = 0 := by omega
      have R5 : NRow (w4.alloc (Obj.cells #[.slice av xs.length cv] 26)) (.slice av xs.length cv) xs := NRow.of_own o5 (by omega) (ndok_max (pool_ndok hpool))
      have HK := svpack_any _ xs ((xs.length : Int) - 1) _ R5
      obtain ⟨tx, htx⟩ : ∃ tx, Hid (vpR xs ((xs.length : Int) - 1) = tx) := ⟨_, rfl⟩
      obtain ⟨tb, htb⟩ : ∃ tb, Hid (vpB xs ((xs.length : Int) - 1) = tb) := ⟨_, rfl⟩
      rw [htx.out, htb.out] at HK
      rw [htx.out] at hyes hno
      clear HV htx htb hvp
      go_wp2_with fail
      refine HK.mono ?_
      rintro e w6 ⟨rfl, hb6⟩
      have x6 := (hb6.block _ (Array.getElem?_eq_some_iff.1 x5).1).trans x5
      have y6 := (hb6.block _ (Array.getElem?_eq_some_iff.1 y5).1).trans y5
      have o6 := own_below o5 hb6
      have B06 := B05.trans (hb6.mono B05.size)
      clear HK hb6 B05 B5 B04 x4 x5 y5 o4 o5 c4 c5 cok cp R5
      by_cases heq : tx = s
      · have HA : Hid (vrL (sb s) = xs ∧ vrI (sb s) = (xs.length : Int) - 1 ∧ vrB (sb s) = true) := vr_yes (hyes heq)
        clear hyes hno
        have q0 : w6.cell? ⟨w4.heap.size, 0, none⟩ = some (.slice av xs.length cv) := cell_of_row w6 _ 0 _ _ _ y6
        have r0 : w6.cell? ⟨w.heap.size, 0, none⟩ = some (.slice none 0 0) := cell_of_row w6 _ 0 _ _ _ x6
        have rf : w6.frozen? ⟨w.heap.size, 0, none⟩ = false := frozen_of_row w6 _ 0 _ _ x6
        have hne : w4.heap.size ≠ w.heap.size := by omega
        have hset := heap_setCell_same w6 w.heap.size 0 _ _ (.slice av xs.length cv) x6
        have hBF := B06.setCell (p := ⟨w.heap.size, 0, none⟩) (Nat.le_refl _) (.slice av xs.length cv)
        have hoF := own_mono (ownsRow_setCell_below o6 (a := ⟨w.heap.size, 0, none⟩) (by show w.heap.size < w2.heap.size + 1; omega) (.slice av xs.length cv)) (show w.heap.size ≤ w2.heap.size + 1 by omega)
        go_wp2_with fail
        go_region
        all_goals
          go_wp2
          refine bodyPost_ret (results_row_2 rfl _ _ w.heap.size 26 _ (0, 0) _ rfl hset Tryz.underlying26 rfl Tryz.sizeP) rfl ⟨VrAns.intro (.slice av xs.length cv) ?_ ?_, hBF.drew⟩
          · rw [HA.out.2.1, HA.out.2.2]; rfl
          · rw [HA.out.1]; exact hoF
      · have HA : Hid (vrL (sb s) = [] ∧ vrI (sb s) = 0 ∧ vrB (sb s) = false) := vr_no (hno heq)
        have hl2 : (tx.toList == s.toList) = false := by
          rw [← Bool.not_eq_true, beq_iff_eq, ByteArray.toList_eq, ByteArray.toList_eq]
          intro h
          apply heq
          cases tx
          cases s
          congr 1
          exact Array.toList_inj.1 h
        clear hyes hno
        have r0 : w6.cell? ⟨w.heap.size, 0, none⟩ = some (.slice none 0 0) := cell_of_row w6 _ 0 _ _ _ x6
        have rf : w6.frozen? ⟨w.heap.size, 0, none⟩ = false := frozen_of_row w6 _ 0 _ _ x6
        have hset := heap_setCell_same w6 w.heap.size 0 _ _ (.slice none 0 0) x6
        have hBF := B06.setCell (p := ⟨w.heap.size, 0, none⟩) (Nat.le_refl _) (.slice none 0 0)
        go_wp2
        refine bodyPost_ret (results_row_2 rfl _ _ w.heap.size 26 _ (0, 0) _ rfl hset Tryz.underlying26 rfl Tryz.sizeP) rfl ⟨VrAns.intro (.slice none 0 0) ?_ ?_, hBF⟩
        · rw [HA.out.2.1, HA.out.2.2]; rfl
        · rw [HA.out.1]; exact World.ownsRow_nil _ _ _ _
end Go.Proofs.YtbgkofinmdpmcaaGreatDoor

/-
  The writer's memory (one block with the pool and the bytes so far) and the contract of its method put. No condition.
-/
namespace Go.Proofs.YtbgkofinmdpmcaaGreatDoor
open Go.RowKit

/-- The cells of bytes. -/
def cb (l : List UInt8) : List Value := l.map fun b => Value.int .u8 b.toNat
theorem cb_length (l : List UInt8) : (cb l).length = l.length := by simp [cb]
theorem cb_append (a b : List UInt8) : cb (a ++ b) = cb a ++ cb b := by simp [cb]
theorem cb_str (s : ByteArray) : Lib.strCells s = cb s.data.toList := rfl

/-- All that is there stays, but for block p and rows of bytes from lo on. -/
structure Fr (p lo : Nat) (w w' : World) : Prop where
  os : w'.os = w.os
  tape : w'.tape = w.tape
  output : w'.output = w.output
  size : w.heap.size ≤ w'.heap.size
  block : ∀ k, k < w.heap.size → k ≠ p → (k < lo ∨ ∀ cur fr, w.heap[k]? ≠ some (.cells cur 5 fr)) → w'.heap[k]? = w.heap[k]?
theorem Fr.refl (p lo : Nat) (w : World) : Fr p lo w w := ⟨rfl, rfl, rfl, Nat.le_refl _, fun _ _ _ _ => rfl⟩
theorem Fr.trans {p lo : Nat} {a b c : World} (h : Fr p lo a b) (k : Fr p lo b c) : Fr p lo a c :=
  ⟨k.os.trans h.os, k.tape.trans h.tape, k.output.trans h.output, Nat.le_trans h.size k.size, fun i hi hp hc => by
    have e := h.block i hi hp hc
    rw [k.block i (Nat.lt_of_lt_of_le hi h.size) hp (by rw [e]; exact hc), e]⟩
theorem Fr.of_below {p lo : Nat} {w w' : World} (h : Below w.heap.size w w') : Fr p lo w w' := ⟨h.os, h.tape, h.output, h.size, fun k hk _ _ => h.block k hk⟩
theorem Fr.below {p lo : Nat} {w w' : World} (h : Fr p lo w w') (hp : lo ≤ w.heap.size) (hpl : p < lo) : Below p w w' := ⟨h.os, h.tape, h.output, h.size, fun k hk => h.block k (by omega) (by omega) (Or.inl (by omega))⟩
theorem Fr.of_grown {p lo : Nat} {w w' : World} {v : Value} {n : Nat} {xs : List Value} (ho : w.ownsRow lo 5 1 v n xs) (h : w.grownBy w' v.ownBlock) : Fr p lo w w' :=
  ⟨h.os, h.tape, h.output, h.size, fun k hk _ hc => h.block k hk (fun e => by
    rcases ho.2 with ⟨rfl, _⟩ | ⟨g, cap, cur, rfl, hb, hg, _⟩
    · cases e
    · simp only [Value.ownBlock, Option.some.injEq] at e
      subst e
      rcases hc with hc | hc
      · omega
      · exact hc _ _ hg)⟩
/-- A block that is no row of bytes stays. -/
theorem Fr.keep {p lo : Nat} {w w' : World} {k : Nat} {cs : Array Value} {t : TypeId} {fr : Nat × Nat} (h : Fr p lo w w') (hk : w.heap[k]? = some (.cells cs t fr)) (hp : k ≠ p) (ht : t ≠ 5) : w'.heap[k]? = some (.cells cs t fr) := by
  rw [h.block k (Array.getElem?_eq_some_iff.1 hk).1 hp (Or.inr fun cur fr' e => by rw [hk] at e; cases e; exact ht rfl), hk]

/-- The writer: block p holds the pool and the bytes so far, which it owns. -/
def Wr (w : World) (p lo : Nat) (pv v : Value) (l : List UInt8) : Prop :=
  w.heap[p]? = some (.cells #[pv, v] 61 (0, 0)) ∧ w.ownsRow lo 5 1 v l.length (cb l)
theorem Wr.below {w w' : World} {p lo : Nat} {pv v : Value} {l : List UInt8} (h : Wr w p lo pv v l) (hb : Below w.heap.size w w') : Wr w' p lo pv v l :=
  ⟨(hb.block _ (Array.getElem?_eq_some_iff.1 h.1).1).trans h.1, own_below h.2 hb⟩

/-- What put panics with. -/
def tooLong : List PanicEntry := [{ v := .iface 140 (.agg #[.int .i64 1, .int .i64 0]), recovered := false }]

/-- How put ends where so many bytes are there then. -/
def putEnd (n : Nat) : Ending := if n ≤ 400 then .returned (.tuple #[]) else .panicked tooLong
theorem putEnd_ok {n : Nat} (h : n ≤ 400) : putEnd n = .returned (.tuple #[]) := by rw [putEnd, if_pos h]
theorem putEnd_no {n : Nat} (h : ¬ n ≤ 400) : putEnd n = .panicked tooLong := by rw [putEnd, if_neg h]

set_option maxRecDepth 100000 in
set_option maxHeartbeats 1600000 in
theorem wput_any (p lo : Nat) (ao : Option Addr) (n cap : Nat) (v : Value) (l : List UInt8) (s : ByteArray) (w : World) (W : Wr w p lo (.slice ao n cap) v l) (hp : p < lo) (hlo : lo ≤ w.heap.size) (hl : l.length ≤ 400) (hs : s.size ≤ 1048576) :
    Calls Tryz.prog 54 #[.pointer (some ⟨p, 0, none⟩), .string s] w fun e w' => Fr p lo w w' ∧ e = putEnd (l.length + s.size) ∧ ∃ v', Wr w' p lo (.slice ao n cap) v' (l ++ s.data.toList) := by
  obtain ⟨hblk, hown⟩ := W
  obtain ⟨i0, hi, hz0, hz1, hz2⟩ := info_parts Tryz.infoU8
  obtain ⟨a2, c2, rfl⟩ := own_form hown
  have hps := (Array.getElem?_eq_some_iff.1 hblk).1
  have c1 : w.cell? ⟨p, 0 + 1, none⟩ = some (.slice a2 l.length c2) := by rw [cell_of_row w _ 1 _ _ _ hblk]; rfl
  go_enter Tryz.func54, Tryz.ntmps54
  go_wp2_with (at_builtin; refine Lib.wpList_append_own_string _ rfl _ _ 22 9 rfl lo 5 i0 Tryz.underlying22 Tryz.underlying9 hi hz0 hz1 hz2 _ _ _ rfl hown s rfl (by unfold maxLen; omega) (by omega) hlo ?_)
  intro v2 w2 own2 hgrow _
  obtain ⟨m, hm⟩ : ∃ m, m = l.length + s.size := ⟨_, rfl⟩
  rw [← hm] at own2
  have hme : (l ++ s.data.toList).length = m := by rw [hm, List.length_append, Array.length_toList]; rfl
  have hne : some p ≠ (Value.slice a2 l.length c2).ownBlock := fun e => by
    have := (hown.lt p e.symm).1
    omega
  have hblk2 : w2.heap[p]? = some (.cells #[.slice ao n cap, .slice a2 l.length c2] 61 (0, 0)) := (hgrow.block p hps hne).trans hblk
  have hF : Fr p lo w w2 := Fr.of_grown hown hgrow
  obtain ⟨a3, c3, rfl⟩ := own_form own2
  have d1 : w2.cell? ⟨p, 0 + 1, none⟩ = some (.slice a2 l.length c2) := by rw [cell_of_row w2 _ 1 _ _ _ hblk2]; rfl
  have f1 : w2.frozen? ⟨p, 0 + 1, none⟩ = false := frozen_of_row w2 _ 1 _ _ hblk2
  have hblk3 := heap_setCell_same w2 p 1 _ _ (.slice a3 m c3) hblk2
  have own3 : (w2.setCell ⟨p, 1, none⟩ (.slice a3 m c3)).ownsRow lo 5 1 (.slice a3 m c3) (l ++ s.data.toList).length (cb (l ++ s.data.toList)) := by
    have := ownsRow_setCell_below own2 (a := ⟨p, 1, none⟩) (by simpa using hp) (.slice a3 m c3)
    rw [cb_append, hme]
    exact this
  have hF3 : Fr p lo w (w2.setCell ⟨p, 1, none⟩ (.slice a3 m c3)) :=
    hF.trans ⟨rfl, rfl, rfl, by simp, fun k _ hk _ => heap_setCell_other w2 ⟨p, 1, none⟩ k _ (by simpa using hk)⟩
  have HE : Hid (putEnd (l.length + s.size) = putEnd m) := by unfold Hid; rw [hm]
  clear hgrow hF c1 hown own2 hm hme
  by_cases hb : m ≤ 400
  · go_wp2
    go_end0
    exact ⟨hF3, by rw [HE.out, putEnd_ok hb], _, hblk3, own3⟩
  · go_wp2
    exact ⟨rfl, hF3, by rw [HE.out, putEnd_no hb]; rfl, _, hblk3, own3⟩
end Go.Proofs.YtbgkofinmdpmcaaGreatDoor
