/-
  The place of the first definition of a name, and the contracts of spec.DefOf and impl.DefOf. No condition.
-/
import Derived.Test.YtmnmljmbicepjaaCode
namespace Go.Proofs.Ytmnmljmbicepjaa
open Go.RowKit

/-- The place of the first of ds that has the name s, counted from i on; -1 when there is none. -/
def dfIdx : List Df → ByteArray → Nat → Int
  | [], _, _ => -1
  | d :: ds, s, i => if d.s.toList == s.toList then i else dfIdx ds s (i + 1)
theorem dfIdx_hit (ds : List Df) (s : ByteArray) (i : Nat) (d : Df) (h : ds[i]? = some d) (e : (d.s.toList == s.toList) = true) : dfIdx (ds.drop i) s i = i := by
  obtain ⟨hl, he⟩ := List.getElem?_eq_some_iff.1 h
  rw [List.drop_eq_getElem_cons hl, he, dfIdx, if_pos e]
theorem dfIdx_miss (ds : List Df) (s : ByteArray) (i : Nat) (d : Df) (h : ds[i]? = some d) (e : (d.s.toList == s.toList) = false) : dfIdx (ds.drop i) s i = dfIdx (ds.drop (i + 1)) s (i + 1) := by
  obtain ⟨hl, he⟩ := List.getElem?_eq_some_iff.1 h
  rw [List.drop_eq_getElem_cons hl, he, dfIdx, if_neg (by rw [e]; simp)]
theorem dfIdx_end (ds : List Df) (s : ByteArray) (i : Nat) (h : ds.length ≤ i) : dfIdx (ds.drop i) s i = -1 := by
  rw [List.drop_eq_nil_of_le h, dfIdx]

set_option maxHeartbeats 800000 in
theorem sdefof_any (a1 a2 : Option Addr) (n1 c1 n2 c2 : Nat) (v3 : Value) (ds : List Df) (s : ByteArray) (w : World) (R : DfRow w v3 ds) :
    Calls Try.prog 22 #[.agg #[.slice a1 n1 c1, .slice a2 n2 c2, v3], .string s] w fun e w' => e = .returned (.int .i64 (dfIdx ds s 0)) ∧ Below w.heap.size w w' := by
  obtain ⟨ao, cap, rfl, hcap, hm, hz, hcell⟩ := R
  go_enter Try.func22, Try.ntmps22
  have hB0 : Below w.heap.size w (w.alloc (Obj.cells #[.slice a1 n1 c1, .slice a2 n2 c2, .slice ao ds.length cap] 40)) := (Below.refl _ _).alloc (Nat.le_refl _) _
  have hx0 := heap_alloc_new w (Obj.cells #[.slice a1 n1 c1, .slice a2 n2 c2, .slice ao ds.length cap] 40)
  go_wp2_with fail
  generalize w.alloc (Obj.cells #[.slice a1 n1 c1, .slice a2 n2 c2, .slice ao ds.length cap] 40) = w0 at *
  have hc0 : w0.cell? ⟨w.heap.size, 0 + 2, none⟩ = some (.slice ao ds.length cap) := by rw [cell_of_row w0 _ 2 _ _ _ hx0]; rfl
  have hs0 := (Array.getElem?_eq_some_iff.1 hx0).1
  go_loopw [5] (fun i wr => ∃ k : Nat, k ≤ ds.length ∧ i = .int .i64 k ∧ Hid (dfIdx ds s 0 = dfIdx (ds.drop k) s k) ∧ Below w0.heap.size w0 wr) (fun i _ => ds.length - (intOf i).toNat)
  case atStart => exact ⟨0, by omega, rfl, rfl, Below.refl _ _⟩
  case round =>
    obtain ⟨k, hk, rfl, HK, hb⟩ := hrel
    have hB := hB0.trans (hb.mono hB0.size)
    have hcr := (hb.cell (p := ⟨w.heap.size, 0 + 2, none⟩) hs0).trans hc0
    by_cases hlt : k < ds.length
    · obtain ⟨g, o, rfl, hg, hcell⟩ := hcell (by intro e; subst e; simp at hlt)
      obtain ⟨x, hx⟩ : ∃ x, ds[k]? = some x := ⟨ds[k], by simp [hlt]⟩
      obtain ⟨d0, d1, d2⟩ := (hcell k x hx).below hB hg
      clear hcell
      cases e : (x.s.toList == s.toList) with
      | true =>
        have HR : Hid (dfIdx ds s 0 = k) := by unfold Hid; rw [HK.out, dfIdx_hit ds s k x hx e]
        clear hx HK
        go_wp2
        go_ret
        exact ⟨by rw [HR.out]; rfl, hB⟩
      | false =>
        have HR : Hid (dfIdx ds s 0 = dfIdx (ds.drop (k + 1)) s (k + 1)) := by unfold Hid; rw [HK.out, dfIdx_miss ds s k x hx e]
        clear hx HK
        go_wp2
        go_roundw
        case rel => exact ⟨k + 1, by omega, by go_num, HR, hb⟩
        case measure => simp [intOf]; omega
    · have HR : Hid (dfIdx ds s 0 = -1) := by unfold Hid; rw [HK.out, dfIdx_end ds s k (by omega)]
      clear HK hcell
      go_wp2
      go_ret
      exact ⟨by rw [HR.out]; rfl, hB⟩

set_option maxHeartbeats 400000 in
theorem defofc_any (d : Df) (s : ByteArray) (q : Nat) (w : World) (hq : w.cell? ⟨q, 0, none⟩ = some (.string s)) (hl : q < w.heap.size) :
    Calls Try.prog 58 #[.agg #[.string d.s, .int .i64 d.p, .int .i64 d.m], .pointer (some ⟨q, 0, none⟩)] w fun e w' => e = .returned (.bool (d.s.toList == s.toList)) ∧ Below w.heap.size w w' := by
  have hne : ¬ q = w.heap.size := by omega
  go_enter Try.func58, Try.ntmps58
  go_wp2
  go_ret
  exact ⟨rfl, (Below.refl _ _).alloc (Nat.le_refl _) _⟩

set_option maxHeartbeats 800000 in
theorem indexfunc_any (v3 : Value) (ds : List Df) (s : ByteArray) (q : Nat) (w : World) (R : DfRow w v3 ds) (hq : w.cell? ⟨q, 0, none⟩ = some (.string s)) (hl : q < w.heap.size) :
    Calls Try.prog 57 #[v3, .func (.func 58) #[] #[.pointer (some ⟨q, 0, none⟩)]] w fun e w' => e = .returned (.int .i64 (dfIdx ds s 0)) ∧ Below w.heap.size w w' := by
  obtain ⟨ao, cap, rfl, hcap, hm, hz, hcell⟩ := R
  go_enter Try.func57, Try.ntmps57
  go_wp2_with fail
  go_loopw [8] (fun i wr => ∃ k : Nat, k ≤ ds.length ∧ i = .int .i64 k ∧ Hid (dfIdx ds s 0 = dfIdx (ds.drop k) s k) ∧ Below w.heap.size w wr) (fun i _ => ds.length - (intOf i).toNat)
  case atStart => exact ⟨0, by omega, rfl, rfl, Below.refl _ _⟩
  case round =>
    obtain ⟨k, hk, rfl, HK, hb⟩ := hrel
    have hcr := (hb.cell (p := ⟨q, 0, none⟩) hl).trans hq
    have hlr := Nat.lt_of_lt_of_le hl hb.size
    by_cases hlt : k < ds.length
    · obtain ⟨g, o, rfl, hg, hcell⟩ := hcell (by intro e; subst e; simp at hlt)
      obtain ⟨x, hx⟩ : ∃ x, ds[k]? = some x := ⟨ds[k], by simp [hlt]⟩
      obtain ⟨d0, d1, d2⟩ := (hcell k x hx).below hb hg
      clear hcell
      cases e : (x.s.toList == s.toList) with
      | true =>
        have HR : Hid (dfIdx ds s 0 = k) := by unfold Hid; rw [HK.out, dfIdx_hit ds s k x hx e]
        clear hx HK
        go_wp2_with fail
        refine (defofc_any x s q _ hcr hlr).mono ?_
        rintro e' w2 ⟨rfl, hb2⟩
        rw [e]
        have hB2 := hb.trans (hb2.mono hb.size)
        clear d0 d1 d2 hcr hb2
        go_wp2
        go_ret
        exact ⟨by rw [HR.out]; rfl, hB2⟩
      | false =>
        have HR : Hid (dfIdx ds s 0 = dfIdx (ds.drop (k + 1)) s (k + 1)) := by unfold Hid; rw [HK.out, dfIdx_miss ds s k x hx e]
        clear hx HK
        go_wp2_with fail
        refine (defofc_any x s q _ hcr hlr).mono ?_
        rintro e' w2 ⟨rfl, hb2⟩
        rw [e]
        have hB2 := hb.trans (hb2.mono hb.size)
        clear d0 d1 d2 hcr hb2
        go_wp2
        go_roundw
        case rel => exact ⟨k + 1, by omega, by go_num, HR, hB2⟩
        case measure => simp [intOf]; omega
    · have HR : Hid (dfIdx ds s 0 = -1) := by unfold Hid; rw [HK.out, dfIdx_end ds s k (by omega)]
      clear HK hcell
      go_wp2
      go_ret
      exact ⟨by rw [HR.out]; rfl, hb⟩

set_option maxHeartbeats 800000 in
theorem idefof_any (a1 a2 : Option Addr) (n1 c1 n2 c2 : Nat) (v3 : Value) (ds : List Df) (s : ByteArray) (w : World) (R : DfRow w v3 ds) :
    Calls Try.prog 27 #[.agg #[.slice a1 n1 c1, .slice a2 n2 c2, v3], .string s] w fun e w' => e = .returned (.int .i64 (dfIdx ds s 0)) ∧ Below w.heap.size w w' := by
  have hmf : ∀ (fn : Fn) (first cap : Array Value) (w : World), (Instr.makeFunc fn first cap).run Try.prog w = .ok (.func fn first cap) w := fun _ _ _ _ => rfl
  obtain ⟨a3, c3, rfl⟩ := R.small
  go_enter Try.func27, Try.ntmps27
  go_wp2_with fail
  have hB0 : Below w.heap.size w ((w.alloc (Obj.cells #[.slice a1 n1 c1, .slice a2 n2 c2, .slice a3 ds.length c3] 40)).alloc (Obj.cells #[.string s] 9)) := ((Below.refl _ _).alloc (Nat.le_refl _) _).alloc (by simp) _
  refine (indexfunc_any _ ds s (w.heap.size + 1) _ (R.below hB0) ?_ ?_).mono ?_
  · rw [cell_of_row _ _ 0 _ _ _ (heap_alloc2_new _ _ _)]; rfl
  · simp
  rintro e w1 ⟨rfl, hb1⟩
  have hB1 := hB0.trans (hb1.mono hB0.size)
  clear hB0 hb1
  go_wp2
  go_ret
  exact ⟨rfl, hB1⟩
end Go.Proofs.Ytmnmljmbicepjaa
