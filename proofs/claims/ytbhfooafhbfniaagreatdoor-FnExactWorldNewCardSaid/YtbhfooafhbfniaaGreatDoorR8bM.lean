/-
  Texts that stood by themselves, laid into one.
-/
import Derived.Test.YtbhfooafhbfniaaGreatDoorNextM
import Derived.Test.YtbhfooafhbfniaaGreatDoorDecM
import Derived.Lib.AppendStr
import Derived.Laws.IdiomStrings
import Derived.Laws.BytesArg
import Derived.Test.YtbhfooafhbfniaaGreatDoorBsM
/-
  Contract of (impl.reader).num: the number that stands at the place, and the place behind it.
-/
namespace Go.Proofs.YtbhfooafhbfniaaGreatDoor
open Go.RowKit
def formLen (w : World) (F : Nat) : Nat :=
  match w.cell? ⟨F, 9, none⟩ with
  | some v => (intOf v).toNat
  | none => 0
theorem formLen_of {w : World} {F : Nat} {bs : List Int} (h : bs.length ≤ 9) (hh : w.heap[F]? = some (.cells (formC bs) 245 (0, 0))) : formLen w F = bs.length := by
  unfold formLen
  rw [cell_of_row w F 9 _ 245 (0, 0) hh, formC_count bs h]
  simp [intOf]
set_option maxHeartbeats 800000 in
theorem num_out (v : Value) (zs : List Int) (P : Nat) (a : Int) (w : World) (R : ∃ ao cap, v = .slice ao zs.length cap) (h : One w P a) (hl : zs.length ≤ 140737488351232) (ha : a < 0 ∨ (zs.length : Int) ≤ a) :
    Calls Tryz.prog 158 #[.agg #[v, .pointer (some ⟨P, 0, none⟩)]] w fun e w' => e = .returned (.tuple #[.int .i64 0, .bool false]) ∧ (∃ q, One w' P q) ∧ w.grownBy w' (some P) := by
  have hP := h.lt
  obtain ⟨ao, cap, rfl⟩ := R
  go_enter Tryz.func158, Tryz.ntmps158
  go_wp2_with fail
  refine wp_loop_rounds 1 ?_
  rw [rounds_succ]
  go_wp2_with fail
  have hg2 : w.grownBy ((w.alloc (Obj.cells #[Value.slice ao zs.length cap, Value.pointer (some ⟨P, 0, none⟩)] 177)).alloc (Obj.cells (formC []) 245)) (some P) :=
    grown_trans (World.grownBy_alloc _ _ _) (World.grownBy_alloc _ _ _)
  have h2 : One ((w.alloc (Obj.cells #[Value.slice ao zs.length cap, Value.pointer (some ⟨P, 0, none⟩)] 177)).alloc (Obj.cells (formC []) 245)) P a :=
    (h.kept (World.grownBy_alloc w _ none) (by simp)).kept (World.grownBy_alloc _ _ none) (by simp)
  refine (next_no _ zs P a _ ⟨ao, cap, rfl⟩ h2 hl ha).mono ?_
  rintro e w1 ⟨rfl, hone, hgrow⟩
  have hg3 := grown_trans hg2 hgrow
  clear hg2 h2 hgrow
  go_wp2_with fail
  go_ret2
  exact ⟨rfl, ⟨_, hone⟩, hg3⟩
set_option maxHeartbeats 1600000 in
theorem num_in (zs : List Int) (P n g o cap : Nat) (w : World) (h : One w P n) (hl : zs.length ≤ 140737488351232) (hn : n < zs.length) (hz : ∀ z ∈ zs, 0 ≤ z ∧ z ≤ 255)
    (hc0 : ∀ i, i < zs.length → w.cell? ⟨g, o + i, none⟩ = some (.int .u8 (zs.getD i 0))) (hg : g < w.heap.size) (hgP : g ≠ P) :
    Calls Tryz.prog 158 #[.agg #[.slice (some ⟨g, o, none⟩) zs.length cap, .pointer (some ⟨P, 0, none⟩)]] w fun e w' =>
      e = .returned (.tuple #[.int .i64 (gN zs n).1, .bool (gN zs n).2.2]) ∧ (∃ q, One w' P q ∧ ((gN zs n).2.2 = true → q = (gN zs n).2.1)) ∧ w.grownBy w' (some P) := by
  have hP := h.lt
  go_enter Tryz.func158, Tryz.ntmps158
  go_wp2_with fail
  go_loopw [5] (fun _ wr => ∃ (k : Nat) (acc : List Int), k ≤ 9 ∧ n + k ≤ zs.length ∧ Hid (Sc zs n k acc) ∧ Hid (∀ z ∈ acc, 0 ≤ z ∧ z ≤ 255) ∧ One wr P ((n : Int) + k) ∧ wr.heap[w.heap.size + 1]? = some (.cells (formC acc) 245 (0, 0)) ∧
      wr.heap[w.heap.size]? = some (.cells #[.slice (some ⟨g, o, none⟩) zs.length cap, .pointer (some ⟨P, 0, none⟩)] 177 (0, 0)) ∧ w.grownBy wr (some P)) (fun _ wr => 9 - formLen wr (w.heap.size + 1))
  case atStart =>
    refine ⟨0, [], by omega, by omega, Sc.start zs n, by simp [Hid], ?_, heap_alloc2_new _ _ _, heap_alloc2_old _ _ _, grown_trans (World.grownBy_alloc _ _ _) (World.grownBy_alloc _ _ _)⟩
    rw [show (n : Int) + ((0 : Nat) : Int) = (n : Int) by omega]
    exact (h.kept (World.grownBy_alloc w _ none) (by simp)).kept (World.grownBy_alloc _ _ none) (by simp)
  case round =>
    obtain ⟨k, acc, hk, hkl, HS, HZ, hone, hform, hbox, hgr⟩ := hrel
    have hal := HS.out.1
    have hc9 : wr.cell? ⟨w.heap.size + 1, 9, none⟩ = some (.int .i64 k) := by
      rw [cell_of_row wr _ 9 _ 245 (0, 0) hform, formC_count acc (by omega), hal]
    have hb0 : wr.cell? ⟨w.heap.size, 0, none⟩ = some (.slice (some ⟨g, o, none⟩) zs.length cap) := by rw [cell_of_row wr _ 0 _ 177 (0, 0) hbox]; rfl
    have hb1 : wr.cell? ⟨w.heap.size, 1, none⟩ = some (.pointer (some ⟨P, 0, none⟩)) := by rw [cell_of_row wr _ 1 _ 177 (0, 0) hbox]; rfl
    have HL : Hid (acc.length = k) := hal
    clear hal
    by_cases h9 : k < 9
    · by_cases hlt : n + k < zs.length
      · have hcb : wr.cell? ⟨g, o + (n + k), none⟩ = some (.int .u8 zs[n + k]) := by
          rw [World.cell?_of_block (w := w) (hgr.block g hg (by simpa using hgP)), hc0 (n + k) hlt]
          simp [hlt]
        have hone' : One wr P ((n + k : Nat) : Int) := by rw [show ((n + k : Nat) : Int) = (n : Int) + k by omega]; exact hone
        have hzb := hz zs[n + k] (List.getElem_mem _)
        have hne1 : some (w.heap.size + 1) ≠ some P := by simp; omega
        have hne0 : some w.heap.size ≠ some P := by simp; omega
        have hs1 := (Array.getElem?_eq_some_iff.1 hform).1
        have hs0 := (Array.getElem?_eq_some_iff.1 hbox).1
        have HZ1 : Hid (∀ z ∈ acc ++ [zs[n + k]], 0 ≤ z ∧ z ≤ 255) := by
          intro z hz'; simp only [List.mem_append, List.mem_singleton] at hz'
          rcases hz' with hz' | rfl
          · exact HZ.out z hz'
          · exact hzb
        have HL1 : Hid ((acc ++ [zs[n + k]]).length = k + 1) := by unfold Hid; rw [List.length_append, HL.out]; rfl
        go_wp2_with fail
        refine (next_yes zs P (n + k) g o cap wr hone' hl hlt hcb hgP).mono ?_
        rintro e w1 ⟨rfl, hone1, hgr1⟩
        have hform1 : w1.heap[w.heap.size + 1]? = some (.cells (formC acc) 245 (0, 0)) := (hgr1.block _ hs1 hne1).trans hform
        have hbox1 : w1.heap[w.heap.size]? = some (.cells #[.slice (some ⟨g, o, none⟩) zs.length cap, .pointer (some ⟨P, 0, none⟩)] 177 (0, 0)) := (hgr1.block _ hs0 hne0).trans hbox
        clear hc9 hb0 hb1 hone hone' hcb
        go_wp2_with fail
        refine (add_any (w.heap.size + 1) zs[n + k] acc w1 (by have := HL.out; omega) hform1).mono ?_
        rintro e w2 ⟨rfl, hform2, hbel2⟩
        have hone2 := hone1.below hbel2 (by omega)
        have hbox2 := (hbel2.block _ (by omega)).trans hbox1
        have hgr2 := grown_then (grown_trans hgr hgr1) hbel2 (by omega)
        clear hform1 hbox1 hone1 hgr1 hbel2
        by_cases hb128 : zs[n + k] < 128
        · have hsc := HS.out.last h9 hlt hb128
          have HG : Hid _ := gN_nV zs n _ hsc
          clear hsc
          go_wp2_with fail
          refine (number_any (w.heap.size + 1) (acc ++ [zs[n + k]]) w2 (by rw [HL1.out]; omega) (by rw [HL1.out]; omega) HZ1.out hform2).mono ?_
          rintro e w3 ⟨rfl, rfl⟩
          go_wp2_with fail
          go_ret2
          obtain ⟨e1, e2, e3⟩ := HG.out
          refine ⟨by rw [e1, e2]; rfl, ⟨_, hone2, fun hok => ?_⟩, hgr2⟩
          rw [e3 hok, HL1.out]
          omega
        · go_wp2_with fail
          go_roundw
          case rel =>
            exact ⟨k + 1, acc ++ [zs[n + k]], by omega, by omega, HS.out.more h9 hlt (by omega), HZ1, by rw [show (n : Int) + ((k + 1 : Nat) : Int) = ((n + k : Nat) : Int) + 1 by omega]; exact hone2, hform2, hbox2, hgr2⟩
          case measure =>
            rw [formLen_of (by rw [HL1.out]; omega) hform2, formLen_of (by rw [HL.out]; omega) hform, HL1.out, HL.out]
            omega
      · have HG : Hid (gN zs (n : Int) = (0, 0, false)) := gN_none zs n (HS.out.out (Or.inr (by omega)))
        go_wp2_with fail
        refine (next_no _ zs P _ wr ⟨_, _, rfl⟩ hone hl (Or.inr (by omega))).mono ?_
        rintro e w1 ⟨rfl, hone1, hgr1⟩
        have hgr2 := grown_trans hgr hgr1
        go_wp2_with fail
        go_ret2
        exact ⟨by rw [HG.out]; rfl, ⟨_, hone1, by rw [HG.out]; intro h; cases h⟩, hgr2⟩
    · have HG : Hid (gN zs (n : Int) = (0, 0, false)) := gN_none zs n (HS.out.out (Or.inl (by omega)))
      go_wp2_with fail
      go_ret2
      exact ⟨by rw [HG.out]; rfl, ⟨_, hone, by rw [HG.out]; intro h; cases h⟩, hgr⟩
end Go.Proofs.YtbhfooafhbfniaaGreatDoor
/-
  Contract of impl.GetNum, for every slice of bytes within the form's reach and every place.
-/
namespace Go.Proofs.YtbhfooafhbfniaaGreatDoor
open Go.RowKit
theorem num_any (v : Value) (zs : List Int) (P : Nat) (a : Int) (w0 w : World) (R : Row w0 v zs) (hb : Below w0.heap.size w0 w) (hP : w0.heap.size ≤ P) (h : One w P a) :
    Calls Tryz.prog 158 #[.agg #[v, .pointer (some ⟨P, 0, none⟩)]] w fun e w' =>
      e = .returned (.tuple #[.int .i64 (gN zs a).1, .bool (gN zs a).2.2]) ∧ (∃ q, One w' P q ∧ ((gN zs a).2.2 = true → q = (gN zs a).2.1)) ∧ w.grownBy w' (some P) := by
  obtain ⟨ao, cap, rfl, hcap, hm, hz, hcell⟩ := R
  by_cases hout : a < 0 ∨ (zs.length : Int) ≤ a
  · have hg : gN zs a = (0, 0, false) := by
      by_cases ha : a < 0
      · exact gN_neg zs a ha
      · obtain ⟨n, rfl⟩ := Int.eq_ofNat_of_zero_le (show 0 ≤ a by omega)
        exact gN_none zs n ((Sc.start zs n).out (Or.inr (by omega)))
    rw [hg]
    refine (num_out _ zs P a w ⟨ao, cap, rfl⟩ h hm hout).mono ?_
    rintro e w' ⟨rfl, ⟨q, hq⟩, hgr⟩
    exact ⟨rfl, ⟨q, hq, by intro h; cases h⟩, hgr⟩
  · obtain ⟨n, rfl⟩ := Int.eq_ofNat_of_zero_le (show 0 ≤ a by omega)
    obtain ⟨g, o, rfl, hg, hcell⟩ := hcell (by intro e; subst e; simp at hout)
    exact num_in zs P n g o cap w h hm (by omega) hz (fun i hi => (hb.cell (p := ⟨g, o + i, none⟩) hg).trans (hcell i hi)) (Nat.lt_of_lt_of_le hg hb.size) (by omega)
end Go.Proofs.YtbhfooafhbfniaaGreatDoor
/-
  Plain facts on a text's bytes, and the law of a text turned into bytes. Nothing of the program; no condition.
-/
namespace Go.Proofs.YtbhfooafhbfniaaGreatDoor
open Go.RowKit
def sb (s : ByteArray) : List Int := s.data.toList.map fun b => (b.toNat : Int)
theorem sb_length (s : ByteArray) : (sb s).length = s.size := by rw [sb, List.length_map, Array.length_toList]; rfl
theorem sb_wf (s : ByteArray) : ∀ z ∈ sb s, 0 ≤ z ∧ z ≤ 255 := by
  intro z hz
  simp only [sb, List.mem_map] at hz
  obtain ⟨b, _, rfl⟩ := hz
  have := b.toNat_lt
  omega
def pt (s : ByteArray) : List Int := encI s.size ++ sb s
theorem pt_length (s : ByteArray) : (pt s).length = (encI s.size).length + s.size := by rw [pt, List.length_append, sb_length]
theorem pt_wf (s : ByteArray) : ∀ z ∈ pt s, 0 ≤ z ∧ z ≤ 255 := by
  intro z hz
  simp only [pt, List.mem_append] at hz
  rcases hz with hz | hz
  · exact encI_wf _ z hz
  · exact sb_wf s z hz
theorem bytesRow_get (s : ByteArray) (cap j : Nat) (u : Value) (h : (bv (sb s))[j]? = some u) : (bytesRow s cap)[j]? = some u := by
  have hj : j < s.data.size := by
    have := (List.getElem?_eq_some_iff.1 h).1
    rw [bv_length, sb_length] at this
    exact this
  unfold bytesRow
  rw [Array.getElem?_append_left (by simpa using hj)]
  simp only [bv, sb, List.map_map, List.getElem?_map, Array.getElem?_toList] at h
  simpa using h
theorem wpList_string_bytes {P : Program} (w : World) {ops : Array Oper} {rest : List Oper} {o : Oper} {a : Act} {Q : Exit → Act → World → Prop} (hg : o.guard = none) (x : Operand) (src dst e : TypeId) (ho : o.op = .convert src dst x)
    (hs : P.underlying src = some .string) (hd : P.underlying dst = some (.slice e)) (he : P.underlying e = some (.int .u8)) (s : ByteArray) (hx : a.eval x = .string s)
    (h : ∀ cap w', (∀ j u, (bv (sb s))[j]? = some u → w'.cell? ((⟨w.heap.size, 0, none⟩ : Addr).add j) = some u) → w.grownBy w' none → w.heap.size < w'.heap.size → wpList P ops Q rest (a.put o.dst (.slice (some ⟨w.heap.size, 0, none⟩) s.size cap)) w') :
    wpList P ops Q (o :: rest) a w := by
  refine wpList_plain hg fun K hK => ?_
  obtain ⟨cap, w', hrun, h1, h2, h3⟩ : ∃ cap w', (convert src dst (.string s)).run P w = .ok (.slice (some ⟨w.heap.size, 0, none⟩) s.size cap) w' ∧
      (∀ j u, (bv (sb s))[j]? = some u → w'.cell? ((⟨w.heap.size, 0, none⟩ : Addr).add j) = some u) ∧ w.grownBy w' none ∧ w.heap.size < w'.heap.size := by
    refine ⟨_, _, run_bytes_of_string w src dst e s hs hd he, ?_, ?_, ?_⟩
    · intro j u hu
      rw [Addr.add_lit, Nat.zero_add, cell_of_row _ w.heap.size j _ e _ (heap_alloc_new w.drew _)]
      exact bytesRow_get s _ j u hu
    · have hga := World.grownBy_alloc w.drew (Obj.cells (bytesRow s (grownCap w s.size 0 e)) e ((bytesRow s (grownCap w s.size 0 e)).size, (bytesRow s (grownCap w s.size 0 e)).size + 1)) none
      exact ⟨hga.os, hga.tape, hga.output, hga.size, hga.block⟩
    · show w.heap.size < (w.heap.push _).size
      simp
  unfold Oper.wp
  simp [execOp, ho, hx, hrun, Result.andThen]
  exact hK _ _ (h cap w' h1 h2 h3)
end Go.Proofs.YtbhfooafhbfniaaGreatDoor
/-
  Plain mathematics of reading a text, and the law of a slice of bytes turned into a text. Nothing of the program; no condition.
-/
namespace Go.Proofs.YtbhfooafhbfniaaGreatDoor
open Go.RowKit
theorem scan_bounds (f : Nat) (l bs : List Int) (h : scan f l = some bs) : bs.length ≤ f ∧ bs.length ≤ l.length := by
  induction f generalizing l bs with
  | zero => simp [scan] at h
  | succ f ih =>
    cases l with
    | nil => simp [scan] at h
    | cons b l =>
      simp only [scan] at h
      split at h
      · simp at h; subst h; simp
      · simp only [Option.map_eq_some_iff] at h
        obtain ⟨bs', h1, rfl⟩ := h
        have := ih l bs' h1
        simp only [List.length_cons]; omega
theorem gN_ok (zs : List Int) (a n next : Int) (h : gN zs a = (n, next, true)) : 0 ≤ n ∧ n ≤ 9223372036854775807 ∧ 0 ≤ next ∧ next ≤ zs.length := by
  unfold gN at h
  by_cases h0 : a < 0
  · simp [h0] at h
  · simp only [h0, if_false] at h
    cases hs : scan 9 (zs.drop a.toNat) with
    | none => simp [hs] at h
    | some bs =>
      simp only [hs] at h
      have hb := scan_bounds 9 _ bs hs
      have hv := val_bounds bs
      have hl := lim_mono hb.1
      rw [lim_nine] at hl
      by_cases h1 : 1 < bs.length ∧ bs.getLast? = some 0
      · rw [if_pos h1] at h; simp at h
      · rw [if_neg h1] at h
        simp only [Prod.mk.injEq, and_true] at h
        obtain ⟨rfl, rfl⟩ := h
        have hb2 := hb.2
        simp only [List.length_drop] at hb2
        have hpos : 0 < bs.length := by
          rcases Nat.eq_zero_or_pos bs.length with h | h
          · rw [List.eq_nil_of_length_eq_zero h] at hs
            exfalso
            cases hd : zs.drop a.toNat with
            | nil => rw [hd] at hs; simp [scan] at hs
            | cons b l =>
              rw [hd] at hs
              simp only [scan] at hs
              split at hs
              · simp at hs
              · simp at hs
          · exact h
        omega
def gT (zs : List Int) (a : Int) : ByteArray × Int × Bool :=
  if (gN zs a).2.2 = true ∧ (gN zs a).1 ≤ (zs.length : Int) - (gN zs a).2.1 then
    (strOfNums ((zs.drop (gN zs a).2.1.toNat).take (gN zs a).1.toNat), (gN zs a).2.1 + (gN zs a).1, true)
  else (⟨#[]⟩, 0, false)
abbrev tV (r : ByteArray × Int × Bool) : Value := .tuple #[.string r.1, .int .i64 r.2.1, .bool r.2.2]
theorem gT_no (zs : List Int) (a n next : Int) (ok : Bool) (h : gN zs a = (n, next, ok)) (hn : ok = false ∨ (zs.length : Int) - next < n) : gT zs a = (⟨#[]⟩, 0, false) := by
  unfold gT
  rw [h, if_neg]
  rcases hn with rfl | hn
  · simp
  · intro h; have := h.2; simp only at this; omega
theorem gT_yes (zs : List Int) (a : Int) (n next : Nat) (h : gN zs a = ((n : Int), (next : Int), true)) (hn : (n : Int) ≤ (zs.length : Int) - next) : gT zs a = (strOfNums ((zs.drop next).take n), (next : Int) + n, true) := by
  unfold gT
  rw [h, if_pos ⟨rfl, hn⟩]
  simp
theorem cut_cell {w : World} {g o : Nat} {zs : List Int} (hcell : ∀ i, i < zs.length → w.cell? ⟨g, o + i, none⟩ = some (.int .u8 (zs.getD i 0))) (next n : Nat) (hle : next + n ≤ zs.length) (i : Nat) (hi : i < n) :
    w.cell? ⟨g, o + next + i, none⟩ = some (.int .u8 (((zs.drop next).take n).getD i 0)) := by
  rw [Nat.add_assoc, hcell (next + i) (by omega)]
  simp only [List.getD_eq_getElem?_getD, List.getElem?_take, List.getElem?_drop]
  rw [if_pos hi]
theorem cut_length (zs : List Int) (next n : Nat) (hle : next + n ≤ zs.length) : ((zs.drop next).take n).length = n := by
  simp only [List.length_take, List.length_drop]; omega
theorem cut_cells {w : World} {ao : Option Addr} {cap : Nat} {zs : List Int} (hcell : zs ≠ [] → ∃ g o, ao = some ⟨g, o, none⟩ ∧ g < w.heap.size ∧ ∀ i, i < zs.length → w.cell? ⟨g, o + i, none⟩ = some (.int .u8 (zs.getD i 0)))
    (next n : Nat) (hle : next + n ≤ zs.length) (hcap : zs.length ≤ cap) :
    n ≠ 0 → ∃ g o', (if cap = next then ao else ao.map (·.add next)) = some ⟨g, o', none⟩ ∧ ∀ i, i < n → w.cell? ⟨g, o' + i, none⟩ = some (.int .u8 (((zs.drop next).take n).getD i 0)) := by
  intro hn
  obtain ⟨g, o, rfl, _, hc⟩ := hcell (by intro e; subst e; simp at hle; omega)
  rw [if_neg (by omega)]
  exact ⟨g, o + next, by simp [Addr.add_lit], cut_cell hc next n hle⟩
theorem wpList_bytes_string {P : Program} (w : World) {ops : Array Oper} {rest : List Oper} {o : Oper} {a : Act} {Q : Exit → Act → World → Prop} (hg : o.guard = none) (x : Operand) (src dst e : TypeId) (ho : o.op = .convert src dst x)
    (hs : P.underlying src = some (.slice e)) (hd : P.underlying dst = some .string) (he : P.underlying e = some (.int .u8)) (ao : Option Addr) (n c : Nat) (xs : List Int) (hx : a.eval x = .slice ao n c) (hl : xs.length = n)
    (hc : n ≠ 0 → ∃ g o', ao = some ⟨g, o', none⟩ ∧ ∀ i, i < n → w.cell? ⟨g, o' + i, none⟩ = some (.int .u8 (xs.getD i 0)))
    (h : wpList P ops Q rest (a.put o.dst (.string (strOfNums xs))) w) : wpList P ops Q (o :: rest) a w := by
  refine wpList_plain hg fun K hK => ?_
  have hrun : (convert src dst (.slice ao n c)).run P w = .ok (.string (strOfNums xs)) w := by
    by_cases h0 : n = 0
    · subst h0
      have : xs = [] := List.eq_nil_of_length_eq_zero hl
      subst this
      cases ao with
      | none => exact run_convert_bytes_nil w src e hs he 0 c dst hd
      | some ad => exact run_convert_bytes_back w src dst e ad c [] hs he hd (fun j hj => absurd hj (by simp))
    · obtain ⟨g, o', rfl, hcell⟩ := hc h0
      exact run_convert_bytes_arg w src e hs he g o' n c xs hl hcell dst hd
  unfold Oper.wp
  simp [execOp, ho, hx, hrun, Result.andThen]
  exact hK _ _ h
end Go.Proofs.YtbhfooafhbfniaaGreatDoor
/-
  How nodes are written as bytes: plain mathematics. Nothing of the program; no condition.
-/
namespace Go.Proofs.YtbhfooafhbfniaaGreatDoor
open Go.RowKit
def wireB (x : Nd) : List Int :=
  if x.k = 2 ∨ x.k = 8 ∨ x.k = 9 then encI x.n else if x.k = 3 then encI (x.n + 1000000000) else if x.k = 4 then pt x.s
  else if x.k = 5 then encI x.a ++ encI x.b else if x.k = 6 then encI x.n ++ encI x.a else if x.k = 7 then encI x.a else []
def wireN (x : Nd) : List Int := encI x.k ++ wireB x
def wireL (xs : List Nd) : List Int := encI xs.length ++ xs.flatMap wireN
def NdOk (x : Nd) : Prop := (1 ≤ x.k ∧ x.k ≤ 9) ∧ (-1000000000 ≤ x.n ∧ x.n ≤ 1000000000) ∧ x.s.size ≤ 12 ∧ (x.a ≤ 3000 ∧ x.b ≤ 3000)
theorem ndok_of {x : Nd} {i : Int} (h : nodeB x i = true) (hle : i ≤ 3000) : NdOk x := by
  have hlo : -1000000000 ≤ lo x.k := by unfold lo; split <;> decide
  have hhi : hi x.k ≤ 1000000000 := by
    unfold hi
    split
    · decide
    · split
      · decide
      · split <;> decide
  simp only [nodeB, Bool.and_eq_true, decide_eq_true_eq] at h
  obtain ⟨⟨⟨⟨h1, h2⟩, h3⟩, h4⟩, ⟨h5, h6⟩, h7⟩ := h
  refine ⟨⟨h1, h2⟩, ⟨by omega, by omega⟩, ?_, ?_, ?_⟩
  · unfold nameFB at h5
    split at h5
    · simp only [nameB, Bool.and_eq_true, decide_eq_true_eq] at h5
      exact h5.1.2
    · have e : x.s.toList = [] := by simpa using h5
      rw [ByteArray.toList_eq] at e
      have : x.s.size = 0 := by
        rw [show x.s.size = x.s.data.toList.length by rw [Array.length_toList]; rfl, e]; rfl
      omega
  · unfold partB at h6
    split at h6
    · simp only [Bool.and_eq_true, decide_eq_true_eq] at h6; omega
    · have : x.a = 0 := by simpa using h6
      omega
  · unfold partB at h7
    split at h7
    · simp only [Bool.and_eq_true, decide_eq_true_eq] at h7; omega
    · have : x.b = 0 := by simpa using h7
      omega
theorem pool_ndok {xs : List Nd} (h : poolB xs = true) : ∀ x ∈ xs, NdOk x := by
  intro x hx
  obtain ⟨i, hi⟩ := List.getElem?_of_mem hx
  have hl : i < xs.length := (List.getElem?_eq_some_iff.1 hi).1
  have hm : xs.length ≤ 3000 := by simp only [poolB, Bool.and_eq_true, decide_eq_true_eq] at h; exact h.1
  exact ndok_of (poolB_at h hi) (by omega)
theorem wireB_len (x : Nd) (h : x.s.size ≤ 12) : (wireB x).length ≤ 21 := by
  have e := encI_length
  unfold wireB
  split
  · have := e x.n; omega
  · split
    · have := e (x.n + 1000000000); omega
    · split
      · rw [pt_length]; have := e x.s.size; omega
      · split
        · rw [List.length_append]; have := e x.a; have := e x.b; omega
        · split
          · rw [List.length_append]; have := e x.n; have := e x.a; omega
          · split
            · have := e x.a; omega
            · simp
theorem wireN_len (x : Nd) (h : x.s.size ≤ 12) : (wireN x).length ≤ 30 := by
  have := wireB_len x h
  have := encI_length x.k
  unfold wireN
  rw [List.length_append]
  omega
theorem wires_len (xs : List Nd) (h : ∀ x ∈ xs, NdOk x) : (xs.flatMap wireN).length ≤ 30 * xs.length := by
  induction xs with
  | nil => simp
  | cons x xs ih =>
    have h1 := wireN_len x (h x List.mem_cons_self).2.2.1
    have h2 := ih (fun y hy => h y (List.mem_cons_of_mem _ hy))
    rw [List.flatMap_cons, List.length_append, List.length_cons]
    omega
theorem wireB_wf (x : Nd) : ∀ z ∈ wireB x, 0 ≤ z ∧ z ≤ 255 := by
  intro z hz
  unfold wireB at hz
  split at hz
  · exact encI_wf _ z hz
  · split at hz
    · exact encI_wf _ z hz
    · split at hz
      · exact pt_wf _ z hz
      · split at hz
        · rcases List.mem_append.1 hz with h | h <;> exact encI_wf _ z h
        · split at hz
          · rcases List.mem_append.1 hz with h | h <;> exact encI_wf _ z h
          · split at hz
            · exact encI_wf _ z hz
            · simp at hz
theorem wires_wf (xs : List Nd) : ∀ z ∈ xs.flatMap wireN, 0 ≤ z ∧ z ≤ 255 := by
  intro z hz
  obtain ⟨x, _, h⟩ := List.mem_flatMap.1 hz
  unfold wireN at h
  rcases List.mem_append.1 h with h | h
  · exact encI_wf _ z h
  · exact wireB_wf x z h
theorem wireL_wf (xs : List Nd) : ∀ z ∈ wireL xs, 0 ≤ z ∧ z ≤ 255 := by
  intro z hz
  unfold wireL at hz
  rcases List.mem_append.1 hz with h | h
  · exact encI_wf _ z h
  · exact wires_wf xs z h
theorem wires_take (xs : List Nd) (k : Nat) (x : Nd) (h : xs[k]? = some x) : (xs.take (k + 1)).flatMap wireN = (xs.take k).flatMap wireN ++ wireN x := by
  rw [List.take_add_one, h]; simp
end Go.Proofs.YtbhfooafhbfniaaGreatDoor
/-
  How nodes are read from bytes, and that what is read stands there in just the bytes that it is written in: plain mathematics. Nothing of the program; no condition.
-/
namespace Go.Proofs.YtbhfooafhbfniaaGreatDoor
open Go.RowKit
def Lies (zs : List Int) (a : Int) (L : List Int) (b : Int) : Prop := 0 ≤ a ∧ b = a + L.length ∧ ∃ rest, zs.drop a.toNat = L ++ rest
theorem Lies.append {zs L M : List Int} {a b c : Int} (h : Lies zs a L b) (k : Lies zs b M c) : Lies zs a (L ++ M) c := by
  obtain ⟨h1, h2, r, h3⟩ := h
  obtain ⟨k1, k2, t, k3⟩ := k
  refine ⟨h1, by rw [k2, h2]; simp; omega, t, ?_⟩
  have e : b.toNat = a.toNat + L.length := by omega
  rw [e, ← List.drop_drop, h3, List.drop_left] at k3
  rw [h3, k3, List.append_assoc]
theorem Lies.nil {zs : List Int} {a : Int} (h : 0 ≤ a) : Lies zs a [] a := ⟨h, by simp, _, rfl⟩
theorem sb_str {l : List Int} (h : ∀ z ∈ l, 0 ≤ z ∧ z ≤ 255) : sb (strOfNums l) = l := by
  unfold sb strOfNums
  simp only [List.map_map]
  conv => rhs; rw [← List.map_id l]
  apply List.map_congr_left
  intro z hz
  have := h z hz
  simp only [Function.comp, id]
  rw [UInt8.toNat_ofNat']
  omega
theorem gT_lies {zs : List Int} {a next : Int} {s : ByteArray} (hz : ∀ z ∈ zs, 0 ≤ z ∧ z ≤ 255) (h : gT zs a = (s, next, true)) : Lies zs a (pt s) next := by
  unfold gT at h
  split at h
  · rename_i hc
    obtain ⟨h1, h2⟩ := hc
    have hg : gN zs a = ((gN zs a).1, (gN zs a).2.1, true) := by rw [← h1]
    obtain ⟨g1, g2, g3, r, g4⟩ := gN_bytes hz hg
    generalize (gN zs a).1 = n at *
    generalize (gN zs a).2.1 = m at *
    cases h
    have hm : 0 ≤ m := by omega
    have hlen : ((zs.drop m.toNat).take n.toNat).length = n.toNat := by rw [List.length_take, List.length_drop]; omega
    have hsb : sb (strOfNums ((zs.drop m.toNat).take n.toNat)) = (zs.drop m.toNat).take n.toNat := sb_str (fun z h => hz z (List.mem_of_mem_drop (List.mem_of_mem_take h)))
    have hsz : ((strOfNums ((zs.drop m.toNat).take n.toNat)).size : Int) = n := by
      have := congrArg List.length hsb
      rw [sb_length, hlen] at this
      omega
    have L1 : Lies zs a (encI n) m := ⟨g1, g3, r, g4⟩
    have L2 : Lies zs m ((zs.drop m.toNat).take n.toNat) (m + n) := ⟨hm, by rw [hlen]; omega, (zs.drop m.toNat).drop n.toNat, (List.take_append_drop _ _).symm⟩
    have := L1.append L2
    unfold pt
    rw [hsz, hsb]
    exact this
  · cases h
def rd1 (zs : List Int) (a : Int) : Option (Int × Int) := if (gN zs a).2.2 then some ((gN zs a).1, (gN zs a).2.1) else none
def rdB (zs : List Int) (k a : Int) : Option (Nd × Int) :=
  if k = 1 then some (⟨1, 0, ByteArray.empty, 0, 0⟩, a)
  else if k = 2 ∨ k = 8 ∨ k = 9 then (rd1 zs a).map fun p => (⟨k, p.1, ByteArray.empty, 0, 0⟩, p.2)
  else if k = 3 then (rd1 zs a).map fun p => (⟨3, p.1 - 1000000000, ByteArray.empty, 0, 0⟩, p.2)
  else if k = 4 then (if (gT zs a).2.2 then some (⟨4, 0, (gT zs a).1, 0, 0⟩, (gT zs a).2.1) else none)
  else if k = 5 then (rd1 zs a).bind fun p => (rd1 zs p.2).map fun q => (⟨5, 0, ByteArray.empty, p.1, q.1⟩, q.2)
  else if k = 6 then (rd1 zs a).bind fun p => (rd1 zs p.2).map fun q => (⟨6, p.1, ByteArray.empty, q.1, 0⟩, q.2)
  else if k = 7 then (rd1 zs a).map fun p => (⟨7, 0, ByteArray.empty, p.1, 0⟩, p.2)
  else none
def rdNd (zs : List Int) (a : Int) : Option (Nd × Int) := (rd1 zs a).bind fun p => rdB zs p.1 p.2
def rdNds (zs : List Int) : Nat → Int → Option (List Nd × Int)
  | 0, a => some ([], a)
  | n + 1, a => (rdNd zs a).bind fun p => (rdNds zs n p.2).map fun q => (p.1 :: q.1, q.2)
theorem rd1_lies {zs : List Int} {a x b : Int} (hz : ∀ z ∈ zs, 0 ≤ z ∧ z ≤ 255) (h : rd1 zs a = some (x, b)) : Lies zs a (encI x) b ∧ 0 ≤ x := by
  unfold rd1 at h
  split at h
  · rename_i h1
    cases h
    have hg : gN zs a = ((gN zs a).1, (gN zs a).2.1, true) := by rw [← h1]
    obtain ⟨g1, g2, g3, g4⟩ := gN_bytes hz hg
    exact ⟨⟨g1, g3, g4⟩, g2⟩
  · cases h
theorem rdB_lies {zs : List Int} {k a b : Int} {x : Nd} (hz : ∀ z ∈ zs, 0 ≤ z ∧ z ≤ 255) (ha : 0 ≤ a) (h : rdB zs k a = some (x, b)) : Lies zs a (wireB x) b ∧ x.k = k := by
  unfold rdB at h
  split at h
  · rename_i hk; subst hk
    cases h
    exact ⟨Lies.nil ha, rfl⟩
  split at h
  · rename_i hk
    rw [Option.map_eq_some_iff] at h
    obtain ⟨⟨n, c⟩, h1, h2⟩ := h
    cases h2
    refine ⟨?_, rfl⟩
    unfold wireB
    rw [if_pos hk]
    exact (rd1_lies hz h1).1
  rename_i hk1 hk2
  split at h
  · rename_i hk; subst hk
    rw [Option.map_eq_some_iff] at h
    obtain ⟨⟨n, c⟩, h1, h2⟩ := h
    cases h2
    refine ⟨?_, rfl⟩
    show Lies zs a (encI (n - 1000000000 + 1000000000)) c
    rw [show n - 1000000000 + 1000000000 = n by omega]
    exact (rd1_lies hz h1).1
  split at h
  · rename_i hk; subst hk
    split at h
    · rename_i hg
      cases h
      refine ⟨?_, rfl⟩
      have e : gT zs a = ((gT zs a).1, (gT zs a).2.1, true) := by rw [← hg]
      exact gT_lies hz e
    · cases h
  split at h
  · rename_i hk; subst hk
    rw [Option.bind_eq_some_iff] at h
    obtain ⟨⟨n, c⟩, h1, h2⟩ := h
    rw [Option.map_eq_some_iff] at h2
    obtain ⟨⟨m, d⟩, h3, h4⟩ := h2
    cases h4
    exact ⟨(rd1_lies hz h1).1.append (rd1_lies hz h3).1, rfl⟩
  split at h
  · rename_i hk; subst hk
    rw [Option.bind_eq_some_iff] at h
    obtain ⟨⟨n, c⟩, h1, h2⟩ := h
    rw [Option.map_eq_some_iff] at h2
    obtain ⟨⟨m, d⟩, h3, h4⟩ := h2
    cases h4
    exact ⟨(rd1_lies hz h1).1.append (rd1_lies hz h3).1, rfl⟩
  split at h
  · rename_i hk; subst hk
    rw [Option.map_eq_some_iff] at h
    obtain ⟨⟨n, c⟩, h1, h2⟩ := h
    cases h2
    exact ⟨(rd1_lies hz h1).1, rfl⟩
  · cases h
theorem rdNd_lies {zs : List Int} {a b : Int} {x : Nd} (hz : ∀ z ∈ zs, 0 ≤ z ∧ z ≤ 255) (h : rdNd zs a = some (x, b)) : Lies zs a (wireN x) b := by
  unfold rdNd at h
  rw [Option.bind_eq_some_iff] at h
  obtain ⟨⟨k, c⟩, h1, h2⟩ := h
  obtain ⟨l1, _⟩ := rd1_lies hz h1
  obtain ⟨l2, hk⟩ := rdB_lies hz (by have := l1.1; have := l1.2.1; omega) h2
  unfold wireN
  rw [hk]
  exact l1.append l2
theorem rdNds_lies {zs : List Int} (hz : ∀ z ∈ zs, 0 ≤ z ∧ z ≤ 255) : ∀ (n : Nat) (a b : Int) (xs : List Nd), 0 ≤ a → rdNds zs n a = some (xs, b) → Lies zs a (xs.flatMap wireN) b ∧ xs.length = n
  | 0, a, b, xs, ha, h => by cases h; exact ⟨Lies.nil ha, rfl⟩
  | n + 1, a, b, xs, ha, h => by
    rw [rdNds, Option.bind_eq_some_iff] at h
    obtain ⟨⟨x, c⟩, h1, h2⟩ := h
    rw [Option.map_eq_some_iff] at h2
    obtain ⟨⟨ys, d⟩, h3, h4⟩ := h2
    cases h4
    have l1 := rdNd_lies hz h1
    obtain ⟨l2, hl⟩ := rdNds_lies hz n c d ys (by have := l1.1; have := l1.2.1; omega) h3
    exact ⟨l1.append l2, by simp [hl]⟩
end Go.Proofs.YtbhfooafhbfniaaGreatDoor
