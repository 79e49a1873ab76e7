/-
  The contract of spec.l17Words: the words of a line. No condition but the line's length.
-/
import Derived.Test.YtkoiccocgejmcaaDoorSDl
import Derived.Test.YtkoiccocgejmcaaDoorStrs
import Derived.Test.YtkoiccocgejmcaaDoorStepApp
import Derived.Test.YtkoiccocgejmcaaDoorOwn8
namespace Go.Proofs.YtkoiccocgejmcaaDoor
open Go.RowKit

theorem ext_list (s : ByteArray) (a b : Nat) : (s.extract a b).data.toList = (s.data.toList.drop a).take (b - a) := by
  rw [ByteArray.data_extract, Array.toList_extract]
theorem take_next (l : List UInt8) (a i : Nat) (c : UInt8) (ha : a ≤ i) (h : l[i]? = some c) : (l.drop a).take (i + 1 - a) = (l.drop a).take (i - a) ++ [c] := by
  have h1 : (l.drop a)[i - a]? = some c := by rw [List.getElem?_drop, show a + (i - a) = i by omega]; exact h
  rw [show i + 1 - a = (i - a) + 1 by omega, List.take_add_one, h1]
  rfl
theorem drop_next (l : List UInt8) (i : Nat) (c : UInt8) (h : l[i]? = some c) : l.drop i = c :: l.drop (i + 1) := by
  obtain ⟨h1, h2⟩ := List.getElem?_eq_some_iff.1 h
  rw [List.drop_eq_getElem_cons h1, h2]
/-- The texts of words. -/
def txs (ws : List (List UInt8)) : List ByteArray := ws.map tx
theorem txs_append (a b : List (List UInt8)) : txs (a ++ b) = txs a ++ txs b := by simp [txs]
theorem txs_length (a : List (List UInt8)) : (txs a).length = a.length := by simp [txs]
theorem tx_ext (s : ByteArray) (a b : Nat) : s.extract a b = tx ((s.data.toList.drop a).take (b - a)) := by
  apply ByteArray.ext
  show (s.extract a b).data = (((s.data.toList.drop a).take (b - a))).toArray
  rw [← ext_list, Array.toArray_toList]
theorem spl_len (l : List UInt8) : (spl l).length ≤ l.length + 1 := by
  induction l with
  | nil => simp [spl]
  | cons c r ih =>
    unfold spl
    split
    · simp; omega
    · split
      · simp
      · rename_i h; rw [h] at ih; simp at ih ⊢; omega
/-- Where the reading of words stands: the words so far, where the next one begins, and where one is. -/
def WSt (L : List UInt8) (n : Nat) (ws : List (List UInt8)) (f k : Nat) : Prop :=
  (k ≤ n ∧ f ≤ k ∧ ws.length ≤ k ∧ spl L = ws ++ glue ((L.drop f).take (k - f)) (spl (L.drop k))) ∨ (k = n + 1 ∧ ws.length ≤ k ∧ spl L = ws)
theorem WSt.start (L : List UInt8) (n : Nat) : WSt L n [] 0 0 := by
  refine Or.inl ⟨by omega, by omega, by simp, ?_⟩
  simp [glue_nil (spl_ne L)]
theorem WSt.last {L : List UInt8} {n f : Nat} {ws : List (List UInt8)} (h : WSt L n ws f n) (hn : L.length = n) : WSt L n (ws ++ [(L.drop f).take (n - f)]) (n + 1) (n + 1) := by
  rcases h with ⟨_, h2, h3, h4⟩ | ⟨h1, _⟩
  · refine Or.inr ⟨rfl, by simp; omega, ?_⟩
    have hd : L.drop n = [] := List.drop_eq_nil_of_le (by omega)
    rw [h4, hd]
    simp [spl, glue]
  · omega
theorem WSt.blank {L : List UInt8} {n f k : Nat} {ws : List (List UInt8)} (h : WSt L n ws f k) (hk : k < n) (hc : L[k]? = some 32) : WSt L n (ws ++ [(L.drop f).take (k - f)]) (k + 1) (k + 1) := by
  rcases h with ⟨_, h2, h3, h4⟩ | ⟨h1, _⟩
  · refine Or.inl ⟨by omega, by omega, by simp; omega, ?_⟩
    rw [h4, drop_next L k 32 hc, spl_blank]
    simp [glue_nil (spl_ne _)]
  · omega
theorem WSt.byte {L : List UInt8} {n f k : Nat} {c : UInt8} {ws : List (List UInt8)} (h : WSt L n ws f k) (hk : k < n) (hc : L[k]? = some c) (hne : c ≠ 32) : WSt L n ws f (k + 1) := by
  rcases h with ⟨_, h2, h3, h4⟩ | ⟨h1, _⟩
  · refine Or.inl ⟨by omega, by omega, by omega, ?_⟩
    rw [h4, drop_next L k c hc, spl_byte hne, take_next L f k c h2 hc]
  · omega
theorem WSt.end_ {L : List UInt8} {n f k : Nat} {ws : List (List UInt8)} (h : WSt L n ws f k) (hk : n < k) : spl L = ws ∧ ws.length ≤ n + 1 := by
  rcases h with ⟨h1, _⟩ | ⟨h1, h2, h3⟩
  · omega
  · exact ⟨h3, by omega⟩
theorem WSt.lens {L : List UInt8} {n f k : Nat} {ws : List (List UInt8)} (h : WSt L n ws f k) (hk : k ≤ n) : f ≤ k ∧ ws.length ≤ k := by
  rcases h with ⟨_, h2, h3, _⟩ | ⟨h1, _⟩
  · exact ⟨h2, h3⟩
  · omega

theorem StRow.one17 (w : World) (s : ByteArray) (hs : s.size ≤ maxLen) : StRow (w.alloc (Obj.cells #[.string s] 9)) (.slice (some ⟨w.heap.size, 0, none⟩) 1 1) [s] := by
  refine ⟨_, 1, rfl, ⟨by simp, fun h => by cases h⟩, by simp, by simpa using hs, fun _ => ⟨_, 0, rfl, by simp, fun j x hj => ?_⟩⟩
  rw [cell_of_row _ w.heap.size (0 + j) _ 9 (0, 0) (heap_alloc_new w _)]
  cases j with
  | zero => simp at hj; subst hj; rfl
  | succ j => simp at hj
theorem get_list17 (s : ByteArray) (k : Nat) (h : k < s.size) : s.data.toList[k]? = some s[k] := by
  rw [Array.getElem?_toList]
  exact Array.getElem?_eq_some_iff.2 ⟨h, rfl⟩

set_option maxRecDepth 100000 in
set_option maxHeartbeats 3200000 in
theorem swords_any (s : ByteArray) (w : World) (hs : s.size ≤ 1048576) :
    Calls Tryd.prog 18 #[.string s] w fun e w' => ∃ v', e = .returned v' ∧ w'.ownsRow w.heap.size 9 1 v' (txs (spl s.data.toList)).length (stv (txs (spl s.data.toList))) ∧ Below w.heap.size w w' := by
  obtain ⟨i0, hi, hz0, hz1, hz2⟩ := info_parts Tryd.infoStr
  have HL : Hid (s.data.toList.length = s.size) := by unfold Hid; rw [Array.length_toList]; rfl
  have hbE : Below w.heap.size w (w.alloc (Obj.cells #[] 9)) := (Below.refl _ _).alloc (Nat.le_refl _) _
  have oE := own_none0 w 9 1 w.heap.size (Nat.le_refl _)
  go_enter Tryd.func18, Tryd.ntmps18
  go_wp2_with fail
  generalize w.alloc (Obj.cells #[] 9) = wE at *
  go_loopw [3, 4, 5] (fun vo vf vi wr => ∃ (k f : Nat) (ws : List (List UInt8)), vi = .int .i64 k ∧ vf = .int .i64 f ∧ Hid (WSt s.data.toList s.size ws f k) ∧ wr.ownsRow w.heap.size 9 1 vo (txs ws).length (stv (txs ws)) ∧ Below w.heap.size w wr) (fun _ _ vi _ => s.size + 1 - (intOf vi).toNat)
  case atStart => exact ⟨0, 0, [], rfl, rfl, WSt.start _ _, by simpa [txs, stv] using oE, hbE⟩
  case round =>
    clear oE hbE
    obtain ⟨k, f, ws, rfl, rfl, HW, own, hb⟩ := hrel
    by_cases hkn : k ≤ s.size
    · have hkn' : (k : Int) ≤ s.size := by omega
      obtain ⟨l1, l2⟩ := HW.out.lens hkn
      have l1' : (f : Int) ≤ (k : Int) := by omega
      have l3 : (txs ws).length ≤ 1048576 := by rw [txs_length]; omega
      have HX : Hid (s.extract f k = tx ((s.data.toList.drop f).take (k - f))) := tx_ext s f k
      have hsm : (s.extract f k).size ≤ maxLen := by rw [ByteArray.size_extract]; unfold maxLen; omega
      by_cases hlast : k = s.size
      · subst hlast
        have HN : Hid (WSt s.data.toList s.size (ws ++ [(s.data.toList.drop f).take (s.size - f)]) (s.size + 1) (s.size + 1)) := HW.out.last HL.out
        clear HW
        have S1 := StRow.one17 wr (s.extract f s.size) hsm
        have hbA : Below wr.heap.size wr (wr.alloc (Obj.cells #[.string (s.extract f s.size)] 9)) := (Below.refl _ _).alloc (Nat.le_refl _) _
        have P2 := own_below own hbA
        have hB2 : Below w.heap.size w (wr.alloc (Obj.cells #[.string (s.extract f s.size)] 9)) := hb.trans (hbA.mono hb.size)
        have hle : w.heap.size ≤ (wr.alloc (Obj.cells #[.string (s.extract f s.size)] 9)).heap.size := hB2.size
        clear own hb hbA
        go_wp2_with (at_builtin; refine wpList_append_own_any _ rfl _ _ 37 rfl w.heap.size 9 i0 _ 1 16 Tryd.underlying37 hi hz0 hz1 hz2 rfl (by decide) _ (txs ws).length _ rfl P2 (some ⟨wr.heap.size, 0, none⟩) 1 1 (stv [(s.extract f s.size)]) rfl (by simp [stv]) S1.nilcap S1.cells (stv_one [(s.extract f s.size)]) (by unfold maxLen; omega) (by omega) hle ?_)
        intro v5 w5 O5 hgr5
        have hB5 : Below w.heap.size w w5 := hB2.grown hgr5 hB2.size (fun j hj => (P2.lt j hj).1)
        have O6 : w5.ownsRow w.heap.size 9 1 v5 (txs (ws ++ [(s.data.toList.drop f).take (s.size - f)])).length (stv (txs (ws ++ [(s.data.toList.drop f).take (s.size - f)]))) := by
          rw [txs_append, stv_append, List.length_append, show txs [(s.data.toList.drop f).take (s.size - f)] = [(s.extract f s.size)] by rw [HX.out]; rfl]
          exact O5
        clear O5 hgr5 P2 hB2 S1 hle
        go_wp2
        go_roundw
        case rel => exact ⟨s.size + 1, s.size + 1, _, by go_num, by go_num, HN, O6, hB5⟩
        case measure => first | (simp [intOf]; done) | (simp [intOf]; omega)
      · have hlt : k < s.size := by omega
        have hlti : (k : Int) < s.size := by omega
        have hq : ((k : Int) == (s.size : Int)) = false := by rw [beq_eq_false_iff_ne]; omega
        by_cases hc : s[k].toNat = 32
        · have hc' : ((s[k].toNat : Int) == 32) = true := by rw [beq_iff_eq]; omega
          have HN : Hid (WSt s.data.toList s.size (ws ++ [(s.data.toList.drop f).take (k - f)]) (k + 1) (k + 1)) := HW.out.blank hlt (by rw [get_list17 s k hlt]; congr 1; exact UInt8.toNat_inj.1 hc)
          clear HW
          have S1 := StRow.one17 wr (s.extract f k) hsm
          have hbA : Below wr.heap.size wr (wr.alloc (Obj.cells #[.string (s.extract f k)] 9)) := (Below.refl _ _).alloc (Nat.le_refl _) _
          have P2 := own_below own hbA
          have hB2 : Below w.heap.size w (wr.alloc (Obj.cells #[.string (s.extract f k)] 9)) := hb.trans (hbA.mono hb.size)
          have hle : w.heap.size ≤ (wr.alloc (Obj.cells #[.string (s.extract f k)] 9)).heap.size := hB2.size
          clear own hb hbA
          go_wp2_with (at_builtin; refine wpList_append_own_any _ rfl _ _ 37 rfl w.heap.size 9 i0 _ 1 16 Tryd.underlying37 hi hz0 hz1 hz2 rfl (by decide) _ (txs ws).length _ rfl P2 (some ⟨wr.heap.size, 0, none⟩) 1 1 (stv [(s.extract f k)]) rfl (by simp [stv]) S1.nilcap S1.cells (stv_one [(s.extract f k)]) (by unfold maxLen; omega) (by omega) hle ?_)
          intro v5 w5 O5 hgr5
          have hB5 : Below w.heap.size w w5 := hB2.grown hgr5 hB2.size (fun j hj => (P2.lt j hj).1)
          have O6 : w5.ownsRow w.heap.size 9 1 v5 (txs (ws ++ [(s.data.toList.drop f).take (k - f)])).length (stv (txs (ws ++ [(s.data.toList.drop f).take (k - f)]))) := by
            rw [txs_append, stv_append, List.length_append, show txs [(s.data.toList.drop f).take (k - f)] = [(s.extract f k)] by rw [HX.out]; rfl]
            exact O5
          clear O5 hgr5 P2 hB2 S1 hle
          go_wp2
          go_roundw
          case rel => exact ⟨k + 1, k + 1, _, by go_num, by go_num, HN, O6, hB5⟩
          case measure => first | (simp [intOf]; done) | (simp [intOf]; omega)
        · have hc' : ((s[k].toNat : Int) == 32) = false := by rw [beq_eq_false_iff_ne]; omega
          have HN : Hid (WSt s.data.toList s.size ws f (k + 1)) := HW.out.byte hlt (get_list17 s k hlt) (fun e => hc (by rw [e]; rfl))
          clear HW
          go_wp2_with fail
          go_roundw
          case rel => exact ⟨k + 1, f, ws, by go_num, rfl, HN, own, hb⟩
          case measure => first | (simp [intOf]; done) | (simp [intOf]; omega)
    · have HE : Hid (spl s.data.toList = ws) := (HW.out.end_ (by omega)).1
      have hkn' : ¬ (k : Int) ≤ s.size := by omega
      go_wp2_with fail
      go_ret
      rw [HE.out]
      exact ⟨_, rfl, own, hb⟩
end Go.Proofs.YtkoiccocgejmcaaDoor
