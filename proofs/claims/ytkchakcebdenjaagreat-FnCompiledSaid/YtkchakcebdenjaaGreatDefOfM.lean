/-
  Texts that stood by themselves, laid into one.
-/
import Derived.Test.YtkchakcebdenjaaGreatSNodeM
import Derived.Test.YtkchakcebdenjaaGreatInM
/-
  What a list is read as, and the contracts of impl.ListOf and spec.ListOf.
-/
namespace Go.Proofs.YtkchakcebdenjaaGreat
open Go.RowKit
theorem Tryz.infoI2 : (Tryz.prog.info? 3).map (fun i => (i.zero, i.size, i.bytes)) = some (some (.int .i64 0), 1, 8) := by kernel_rfl
def chain (xs : List Nd) : Nat → Nat → List Int → Option (List Int)
  | 0, _, _ => none
  | f + 1, j, acc => match xs[j]? with
    | none => none
    | some x => if x.k = 5 then chain xs f x.b.toNat (acc ++ [x.a]) else if x.k = 1 then some acc else none
def chainR (xs : List Nd) (v : Nat) : List Int × Bool := match chain xs (v + 1) v [] with
  | some l => (l, true)
  | none => ([], false)
def listR (xs : List Nd) (v : Int) : List Int × Bool := if poolB xs && hasI xs v then chainR xs v.toNat else ([], false)
theorem chain_pair (xs : List Nd) (f j : Nat) (acc : List Int) (x : Nd) (hx : xs[j]? = some x) (h5 : x.k = 5) (hf : j < f) : chain xs f j acc = chain xs (f - 1) x.b.toNat (acc ++ [x.a]) := by
  cases f with
  | zero => omega
  | succ f => simp [chain, hx, h5]
theorem chain_nil (xs : List Nd) (f j : Nat) (acc : List Int) (x : Nd) (hx : xs[j]? = some x) (h1 : x.k = 1) (hf : j < f) : chain xs f j acc = some acc := by
  cases f with
  | zero => omega
  | succ f => simp [chain, hx, h1]
theorem chain_none (xs : List Nd) (f j : Nat) (acc : List Int) (x : Nd) (hx : xs[j]? = some x) (h5 : ¬ x.k = 5) (h1 : ¬ x.k = 1) (hf : j < f) : chain xs f j acc = none := by
  cases f with
  | zero => omega
  | succ f => simp [chain, hx, h5, h1]
set_option maxHeartbeats 400000 in
theorem shas_all (v : Value) (xs : List Nd) (a : Int) (w : World) (R : NRow w v xs) :
    Calls Tryz.prog 23 #[.agg #[v], .int .i64 a] w fun e w' => e = .returned (.bool (hasI xs a)) ∧ Below w.heap.size w w' := by
  obtain ⟨ao, cap, rfl, _, hm, _⟩ := R
  go_enter Tryz.func23, Tryz.ntmps23
  go_wp2_with fail
  refine (lin_any _ _ _ _).mono ?_
  rintro e w1 ⟨rfl, rfl⟩
  go_wp2
  go_ret
  refine ⟨retB ?_, (Below.refl _ _).alloc (Nat.le_refl _) _⟩
  rw [Bool.eq_iff_iff]
  simp [hasI]
  omega
set_option maxRecDepth 100000 in
set_option maxHeartbeats 1600000 in
theorem ilistof_in (ao : Option Addr) (cap : Nat) (xs : List Nd) (v : Nat) (w : World) (R : NRow w (.slice ao xs.length cap) xs) (hp : poolB xs = true) (hv : v < xs.length) :
    Calls Tryz.prog 98 #[.agg #[.slice ao xs.length cap], .int .i64 v] w fun e w' => ∃ v', e = .returned (.tuple #[v', .bool (chainR xs v).2]) ∧ w'.ownsRow w.heap.size 3 1 v' (chainR xs v).1.length (iv (chainR xs v).1) ∧ Below w.heap.size w w' := by
  have hlen := poolB_len hp
  have R' := R
  obtain ⟨ao', cap', e', ⟨hcap, _⟩, _, hz, hcell⟩ := R'
  simp only [Value.slice.injEq, true_and] at e'
  obtain ⟨rfl, rfl⟩ := e'
  obtain ⟨g, o, rfl, hg, hcell⟩ := hcell (by intro e; subst e; simp at hv)
  obtain ⟨i0, hi, hz0, hz1, hz2⟩ := info_parts Tryz.infoI2
  go_enter Tryz.func98, Tryz.ntmps98
  have hB2 : Below w.heap.size w (w.alloc (Obj.cells #[.slice (some ⟨g, o, none⟩) xs.length cap] 29)) := (Below.refl _ _).alloc (Nat.le_refl _) _
  have hc2 : (w.alloc (Obj.cells #[.slice (some ⟨g, o, none⟩) xs.length cap] 29)).cell? ⟨w.heap.size, 0, none⟩ = some (.slice (some ⟨g, o, none⟩) xs.length cap) := by simp
  have hsz2 : w.heap.size < (w.alloc (Obj.cells #[.slice (some ⟨g, o, none⟩) xs.length cap] 29)).heap.size := by simp
  have HS2 : Hid ((w.alloc (Obj.cells #[.slice (some ⟨g, o, none⟩) xs.length cap] 29)).heap.size = w.heap.size + 1) := by unfold Hid; simp
  go_wp2_with fail
  generalize w.alloc (Obj.cells #[.slice (some ⟨g, o, none⟩) xs.length cap] 29) = w2 at *
  go_loopw [1, 6] (fun q s wr => ∃ (f j : Nat) (acc : List Int), q = .int .i64 j ∧ j < f ∧ acc.length + j ≤ v ∧ Hid (chain xs f j acc = chain xs (v + 1) v []) ∧ wr.ownsRow w2.heap.size 3 1 s acc.length (iv acc) ∧ Below w2.heap.size w2 wr) (fun q _ _ => (intOf q).toNat)
  case atStart => exact ⟨v + 1, v, [], rfl, by omega, by simp, rfl, (by rw [← HS2.out]; exact World.ownsRow_made _ _ 0 (Nat.le_refl _) (by simp) (by simp)), (Below.refl _ _).alloc (Nat.le_refl _) _⟩
  case round =>
    obtain ⟨f, j, acc, rfl, hjf, hal, HC, hown, hb⟩ := hrel
    have hB := hB2.trans (hb.mono hB2.size)
    have hcr := (hb.cell (p := ⟨w.heap.size, 0, none⟩) hsz2).trans hc2
    have hbs := hb.size
    obtain ⟨x, hx⟩ : ∃ x, xs[j]? = some x := ⟨xs[j], by simp [show j < xs.length by omega]⟩
    obtain ⟨c0, c1, c2, c3, c4⟩ := (hcell j x hx).below hB hg
    have hnb := poolB_at hp hx
    clear hcell
    by_cases h5 : x.k = 5
    · have HS : Hid (chain xs f j acc = chain xs (f - 1) x.b.toNat (acc ++ [x.a])) := chain_pair xs f j acc x hx h5 hjf
      have hBB : hasB x.k = true := by unfold hasB; simp [h5]
      have hrb := nodeB_B hnb hBB
      obtain ⟨nb', hnb'⟩ := Int.eq_ofNat_of_zero_le hrb.1
      rw [hnb'] at c4 hrb HS
      have hgn : g ≠ wr.heap.size := by have := hB.size; omega
      have hgl : g < wr.heap.size := by have := hB.size; omega
      have hwl : w.heap.size < wr.heap.size := by omega
      clear hx hnb hBB
      go_wp2_with (at_builtin; refine wpList_append_own _ rfl _ _ 25 rfl w2.heap.size 3 i0 (.int .i64 0) 1 8 Tryz.underlying25 hi hz0 hz1 hz2 rfl (by decide) _ _ _ rfl (hown.alloc _) ⟨wr.heap.size, 0, none⟩ 1 1 [.int .i64 x.a] rfl rfl (cell_one_new _ _ _) (fun u hu => by simp at hu; subst hu; rfl) (by unfold maxLen; omega) (by omega) (by simp; omega) ?_)
      intro v' w6 hown' hgrow _
      have hown6 : w6.ownsRow w2.heap.size 3 1 v' (acc ++ [x.a]).length (iv (acc ++ [x.a])) := by
        rw [iv_append, List.length_append]
        exact hown'
      have hb6 : Below w2.heap.size w2 w6 := (hb.alloc hbs _).grown hgrow (by simp; omega) (fun j hj => (hown.lt j hj).1)
      have hcr6 := (hb6.cell (p := ⟨w.heap.size, 0, none⟩) hsz2).trans hc2
      have hg6 : w6.cell? ⟨g, o + j * 5 + 4, none⟩ = some (.int .i64 nb') := by
        have hgw2 : g < w2.heap.size := Nat.lt_of_lt_of_le hg hB2.size
        rw [hb6.cell (p := ⟨g, o + j * 5 + 4, none⟩) hgw2, ← hb.cell (p := ⟨g, o + j * 5 + 4, none⟩) hgw2]
        exact c4
      generalize hacc : acc ++ [x.a] = acc' at hown6 HS
      have hal' : acc'.length = acc.length + 1 := by rw [← hacc]; simp
      clear hown' hgrow c0 c1 c2 c3 c4 hcr hown hacc
      go_wp2
      go_roundw
      case rel => exact ⟨f - 1, nb', acc', rfl, by omega, by omega, by unfold Hid; rw [← HC.out, HS.out]; rfl, hown6, hb6⟩
      case measure => simp [intOf]; omega
    · by_cases h1 : x.k = 1
      · have HR : Hid (chainR xs v = (acc, true)) := by unfold Hid chainR; rw [← HC.out, chain_nil xs f j acc x hx h1 hjf]
        clear hx hnb h5
        go_wp2
        go_ret2
        exact ⟨_, by rw [HR.out]; rfl, by rw [HR.out]; exact own_mono hown (by omega), hB⟩
      · have HR : Hid (chainR xs v = ([], false)) := by unfold Hid chainR; rw [← HC.out, chain_none xs f j acc x hx h5 h1 hjf]
        clear hx hnb
        go_wp2
        go_ret2
        exact ⟨_, by rw [HR.out]; rfl, by rw [HR.out]; exact World.ownsRow_made _ _ 0 (by have := hB.size; omega) (by simp) (by simp), hB.alloc hB.size _⟩
set_option maxRecDepth 100000 in
set_option maxHeartbeats 1600000 in
theorem slistof_in (ao : Option Addr) (cap : Nat) (xs : List Nd) (v : Nat) (w : World) (R : NRow w (.slice ao xs.length cap) xs) (hp : poolB xs = true) (hv : v < xs.length) :
    Calls Tryz.prog 58 #[.agg #[.slice ao xs.length cap], .int .i64 v] w fun e w' => ∃ v', e = .returned (.tuple #[v', .bool (chainR xs v).2]) ∧ w'.ownsRow w.heap.size 3 1 v' (chainR xs v).1.length (iv (chainR xs v).1) ∧ Below w.heap.size w w' := by
  have hlen := poolB_len hp
  have R' := R
  obtain ⟨ao', cap', e', ⟨hcap, _⟩, _, hz, hcell⟩ := R'
  simp only [Value.slice.injEq, true_and] at e'
  obtain ⟨rfl, rfl⟩ := e'
  obtain ⟨g, o, rfl, hg, hcell⟩ := hcell (by intro e; subst e; simp at hv)
  obtain ⟨i0, hi, hz0, hz1, hz2⟩ := info_parts Tryz.infoI2
  go_enter Tryz.func58, Tryz.ntmps58
  have hB2 : Below w.heap.size w (w.alloc (Obj.cells #[.slice (some ⟨g, o, none⟩) xs.length cap] 29)) := (Below.refl _ _).alloc (Nat.le_refl _) _
  have hc2 : (w.alloc (Obj.cells #[.slice (some ⟨g, o, none⟩) xs.length cap] 29)).cell? ⟨w.heap.size, 0, none⟩ = some (.slice (some ⟨g, o, none⟩) xs.length cap) := by simp
  have hsz2 : w.heap.size < (w.alloc (Obj.cells #[.slice (some ⟨g, o, none⟩) xs.length cap] 29)).heap.size := by simp
  have HS2 : Hid ((w.alloc (Obj.cells #[.slice (some ⟨g, o, none⟩) xs.length cap] 29)).heap.size = w.heap.size + 1) := by unfold Hid; simp
  go_wp2_with fail
  generalize w.alloc (Obj.cells #[.slice (some ⟨g, o, none⟩) xs.length cap] 29) = w2 at *
  go_loopw [1, 6] (fun q s wr => ∃ (f j : Nat) (acc : List Int), q = .int .i64 j ∧ j < f ∧ acc.length + j ≤ v ∧ Hid (chain xs f j acc = chain xs (v + 1) v []) ∧ wr.ownsRow w2.heap.size 3 1 s acc.length (iv acc) ∧ Below w2.heap.size w2 wr) (fun q _ _ => (intOf q).toNat)
  case atStart => exact ⟨v + 1, v, [], rfl, by omega, by simp, rfl, (by rw [← HS2.out]; exact World.ownsRow_made _ _ 0 (Nat.le_refl _) (by simp) (by simp)), (Below.refl _ _).alloc (Nat.le_refl _) _⟩
  case round =>
    obtain ⟨f, j, acc, rfl, hjf, hal, HC, hown, hb⟩ := hrel
    have hB := hB2.trans (hb.mono hB2.size)
    have hcr := (hb.cell (p := ⟨w.heap.size, 0, none⟩) hsz2).trans hc2
    have hbs := hb.size
    obtain ⟨x, hx⟩ : ∃ x, xs[j]? = some x := ⟨xs[j], by simp [show j < xs.length by omega]⟩
    obtain ⟨c0, c1, c2, c3, c4⟩ := (hcell j x hx).below hB hg
    have hnb := poolB_at hp hx
    clear hcell
    by_cases h5 : x.k = 5
    · have HS : Hid (chain xs f j acc = chain xs (f - 1) x.b.toNat (acc ++ [x.a])) := chain_pair xs f j acc x hx h5 hjf
      have hBB : hasB x.k = true := by unfold hasB; simp [h5]
      have hrb := nodeB_B hnb hBB
      obtain ⟨nb', hnb'⟩ := Int.eq_ofNat_of_zero_le hrb.1
      rw [hnb'] at c4 hrb HS
      have hgn : g ≠ wr.heap.size := by have := hB.size; omega
      have hgl : g < wr.heap.size := by have := hB.size; omega
      have hwl : w.heap.size < wr.heap.size := by omega
      clear hx hnb hBB
      go_wp2_with (at_builtin; refine wpList_append_own _ rfl _ _ 25 rfl w2.heap.size 3 i0 (.int .i64 0) 1 8 Tryz.underlying25 hi hz0 hz1 hz2 rfl (by decide) _ _ _ rfl (hown.alloc _) ⟨wr.heap.size, 0, none⟩ 1 1 [.int .i64 x.a] rfl rfl (cell_one_new _ _ _) (fun u hu => by simp at hu; subst hu; rfl) (by unfold maxLen; omega) (by omega) (by simp; omega) ?_)
      intro v' w6 hown' hgrow _
      have hown6 : w6.ownsRow w2.heap.size 3 1 v' (acc ++ [x.a]).length (iv (acc ++ [x.a])) := by
        rw [iv_append, List.length_append]
        exact hown'
      have hb6 : Below w2.heap.size w2 w6 := (hb.alloc hbs _).grown hgrow (by simp; omega) (fun j hj => (hown.lt j hj).1)
      have hcr6 := (hb6.cell (p := ⟨w.heap.size, 0, none⟩) hsz2).trans hc2
      have hg6 : w6.cell? ⟨g, o + j * 5 + 4, none⟩ = some (.int .i64 nb') := by
        have hgw2 : g < w2.heap.size := Nat.lt_of_lt_of_le hg hB2.size
        rw [hb6.cell (p := ⟨g, o + j * 5 + 4, none⟩) hgw2, ← hb.cell (p := ⟨g, o + j * 5 + 4, none⟩) hgw2]
        exact c4
      generalize hacc : acc ++ [x.a] = acc' at hown6 HS
      have hal' : acc'.length = acc.length + 1 := by rw [← hacc]; simp
      clear hown' hgrow c0 c1 c2 c3 c4 hcr hown hacc
      go_wp2
      go_roundw
      case rel => exact ⟨f - 1, nb', acc', rfl, by omega, by omega, by unfold Hid; rw [← HC.out, HS.out]; rfl, hown6, hb6⟩
      case measure => simp [intOf]; omega
    · by_cases h1 : x.k = 1
      · have HR : Hid (chainR xs v = (acc, true)) := by unfold Hid chainR; rw [← HC.out, chain_nil xs f j acc x hx h1 hjf]
        clear hx hnb h5
        go_wp2
        go_ret2
        exact ⟨_, by rw [HR.out]; rfl, by rw [HR.out]; exact own_mono hown (by omega), hB⟩
      · have HR : Hid (chainR xs v = ([], false)) := by unfold Hid chainR; rw [← HC.out, chain_none xs f j acc x hx h5 h1 hjf]
        clear hx hnb
        go_wp2
        go_ret2
        exact ⟨_, by rw [HR.out]; rfl, by rw [HR.out]; exact World.ownsRow_made _ _ 0 (by have := hB.size; omega) (by simp) (by simp), hB.alloc hB.size _⟩
end Go.Proofs.YtkchakcebdenjaaGreat
/-
  The laws FnExactPoolOk and FnExactNameOk, walked: at every argument the law returns true.
-/
namespace Go.Proofs.YtkchakcebdenjaaGreat
open Go.RowKit
theorem NRow.small {w : World} {v : Value} {xs : List Nd} (R : NRow w v xs) : ∃ ao cap, v = .slice ao xs.length cap := by
  obtain ⟨ao, cap, rfl, _⟩ := R
  exact ⟨ao, cap, rfl⟩
end Go.Proofs.YtkchakcebdenjaaGreat
/-
  Contracts of the laws' helpers szCode, toCode, eqCode: a code is three slices, of nodes, of instructions and of definitions. No condition.
-/
namespace Go.Proofs.YtkchakcebdenjaaGreat
open Go.RowKit
theorem NRow.sz {w : World} {v : Value} {xs : List Nd} (R : NRow w v xs) : ∀ x ∈ xs, x.s.size ≤ maxLen := by obtain ⟨_, _, _, _, _, hz, _⟩ := R; exact hz
theorem Tryz.sizeC : (Tryz.prog.info? 33).map (·.size) = some 3 := by kernel_rfl
end Go.Proofs.YtkchakcebdenjaaGreat
/-
  The place of the first definition of a name, and the contracts of spec.DefOf and impl.DefOf. No condition.
-/
namespace Go.Proofs.YtkchakcebdenjaaGreat
open Go.RowKit
def dfIdx : List Df → ByteArray → Nat → Int
  | [], _, _ => -1
  | d :: ds, s, i => if d.s.toList == s.toList then i else dfIdx ds s (i + 1)
theorem dfIdx_hit (ds : List Df) (s : ByteArray) (i : Nat) (d : Df) (h : ds[i]? = some d) (e : (d.s.toList == s.toList) = true) : dfIdx (ds.drop i) s i = i := by
  obtain ⟨hl, he⟩ := List.getElem?_eq_some_iff.1 h
  rw [List.drop_eq_getElem_cons hl, he, dfIdx, if_pos e]
theorem dfIdx_miss (ds : List Df) (s : ByteArray) (i : Nat) (d : Df) (h : ds[i]? = some d) (e : (d.s.toList == s.toList) = false) : dfIdx (ds.drop i) s i = dfIdx (ds.drop (i + 1)) s (i + 1) := by
  obtain ⟨hl, he⟩ := List.getElem?_eq_some_iff.1 h
  rw [List.drop_eq_getElem_cons hl, he, dfIdx, if_neg (by rw [e]; simp)]
theorem dfIdx_end (ds : List Df) (s : ByteArray) (i : Nat) (h : ds.length ≤ i) : dfIdx (ds.drop i) s i = -1 := by
  rw [List.drop_eq_nil_of_le h, dfIdx]
set_option maxHeartbeats 800000 in
theorem sdefof_any (a1 a2 : Option Addr) (n1 c1 n2 c2 : Nat) (v3 : Value) (ds : List Df) (s : ByteArray) (w : World) (R : DfRow w v3 ds) :
    Calls Tryz.prog 64 #[.agg #[.slice a1 n1 c1, .slice a2 n2 c2, v3], .string s] w fun e w' => e = .returned (.int .i64 (dfIdx ds s 0)) ∧ Below w.heap.size w w' := by
  obtain ⟨ao, cap, rfl, hcap, hm, hz, hcell⟩ := R
  go_enter Tryz.func64, Tryz.ntmps64
  have hB0 : Below w.heap.size w (w.alloc (Obj.cells #[.slice a1 n1 c1, .slice a2 n2 c2, .slice ao ds.length cap] 33)) := (Below.refl _ _).alloc (Nat.le_refl _) _
  have hx0 := heap_alloc_new w (Obj.cells #[.slice a1 n1 c1, .slice a2 n2 c2, .slice ao ds.length cap] 33)
  go_wp2_with fail
  generalize w.alloc (Obj.cells #[.slice a1 n1 c1, .slice a2 n2 c2, .slice ao ds.length cap] 33) = w0 at *
  have hc0 : w0.cell? ⟨w.heap.size, 0 + 2, none⟩ = some (.slice ao ds.length cap) := by rw [cell_of_row w0 _ 2 _ _ _ hx0]; rfl
  have hs0 := (Array.getElem?_eq_some_iff.1 hx0).1
  go_loopw [5] (fun i wr => ∃ k : Nat, k ≤ ds.length ∧ i = .int .i64 k ∧ Hid (dfIdx ds s 0 = dfIdx (ds.drop k) s k) ∧ Below w0.heap.size w0 wr) (fun i _ => ds.length - (intOf i).toNat)
  case atStart => exact ⟨0, by omega, rfl, rfl, Below.refl _ _⟩
  case round =>
    obtain ⟨k, hk, rfl, HK, hb⟩ := hrel
    have hB := hB0.trans (hb.mono hB0.size)
    have hcr := (hb.cell (p := ⟨w.heap.size, 0 + 2, none⟩) hs0).trans hc0
    by_cases hlt : k < ds.length
    · obtain ⟨g, o, rfl, hg, hcell⟩ := hcell (by intro e; subst e; simp at hlt)
      obtain ⟨x, hx⟩ : ∃ x, ds[k]? = some x := ⟨ds[k], by simp [hlt]⟩
      obtain ⟨d0, d1, d2⟩ := (hcell k x hx).below hB hg
      clear hcell
      cases e : (x.s.toList == s.toList) with
      | true =>
        have HR : Hid (dfIdx ds s 0 = k) := by unfold Hid; rw [HK.out, dfIdx_hit ds s k x hx e]
        clear hx HK
        go_wp2
        go_ret
        exact ⟨by rw [HR.out]; rfl, hB⟩
      | false =>
        have HR : Hid (dfIdx ds s 0 = dfIdx (ds.drop (k + 1)) s (k + 1)) := by unfold Hid; rw [HK.out, dfIdx_miss ds s k x hx e]
        clear hx HK
        go_wp2
        go_roundw
        case rel => exact ⟨k + 1, by omega, by go_num, HR, hb⟩
        case measure => simp [intOf]; omega
    · have HR : Hid (dfIdx ds s 0 = -1) := by unfold Hid; rw [HK.out, dfIdx_end ds s k (by omega)]
      clear HK hcell
      go_wp2
      go_ret
      exact ⟨by rw [HR.out]; rfl, hB⟩
set_option maxHeartbeats 400000 in
theorem defofc_any (d : Df) (s : ByteArray) (q : Nat) (w : World) (hq : w.cell? ⟨q, 0, none⟩ = some (.string s)) (hl : q < w.heap.size) :
    Calls Tryz.prog 52 #[.agg #[.string d.s, .int .i64 d.p, .int .i64 d.m], .pointer (some ⟨q, 0, none⟩)] w fun e w' => e = .returned (.bool (d.s.toList == s.toList)) ∧ Below w.heap.size w w' := by
  have hne : ¬ q = w.heap.size := by omega
  go_enter Tryz.func52, Tryz.ntmps52
  go_wp2
  go_ret
  exact ⟨rfl, (Below.refl _ _).alloc (Nat.le_refl _) _⟩
set_option maxHeartbeats 800000 in
theorem indexfunc_any (v3 : Value) (ds : List Df) (s : ByteArray) (q : Nat) (w : World) (R : DfRow w v3 ds) (hq : w.cell? ⟨q, 0, none⟩ = some (.string s)) (hl : q < w.heap.size) :
    Calls Tryz.prog 51 #[v3, .func (.func 52) #[] #[.pointer (some ⟨q, 0, none⟩)]] w fun e w' => e = .returned (.int .i64 (dfIdx ds s 0)) ∧ Below w.heap.size w w' := by
  obtain ⟨ao, cap, rfl, hcap, hm, hz, hcell⟩ := R
  go_enter Tryz.func51, Tryz.ntmps51
  go_wp2_with fail
  go_loopw [8] (fun i wr => ∃ k : Nat, k ≤ ds.length ∧ i = .int .i64 k ∧ Hid (dfIdx ds s 0 = dfIdx (ds.drop k) s k) ∧ Below w.heap.size w wr) (fun i _ => ds.length - (intOf i).toNat)
  case atStart => exact ⟨0, by omega, rfl, rfl, Below.refl _ _⟩
  case round =>
    obtain ⟨k, hk, rfl, HK, hb⟩ := hrel
    have hcr := (hb.cell (p := ⟨q, 0, none⟩) hl).trans hq
    have hlr := Nat.lt_of_lt_of_le hl hb.size
    by_cases hlt : k < ds.length
    · obtain ⟨g, o, rfl, hg, hcell⟩ := hcell (by intro e; subst e; simp at hlt)
      obtain ⟨x, hx⟩ : ∃ x, ds[k]? = some x := ⟨ds[k], by simp [hlt]⟩
      obtain ⟨d0, d1, d2⟩ := (hcell k x hx).below hb hg
      clear hcell
      cases e : (x.s.toList == s.toList) with
      | true =>
        have HR : Hid (dfIdx ds s 0 = k) := by unfold Hid; rw [HK.out, dfIdx_hit ds s k x hx e]
        clear hx HK
        go_wp2_with fail
        refine (defofc_any x s q _ hcr hlr).mono ?_
        rintro e' w2 ⟨rfl, hb2⟩
        rw [e]
        have hB2 := hb.trans (hb2.mono hb.size)
        clear d0 d1 d2 hcr hb2
        go_wp2
        go_ret
        exact ⟨by rw [HR.out]; rfl, hB2⟩
      | false =>
        have HR : Hid (dfIdx ds s 0 = dfIdx (ds.drop (k + 1)) s (k + 1)) := by unfold Hid; rw [HK.out, dfIdx_miss ds s k x hx e]
        clear hx HK
        go_wp2_with fail
        refine (defofc_any x s q _ hcr hlr).mono ?_
        rintro e' w2 ⟨rfl, hb2⟩
        rw [e]
        have hB2 := hb.trans (hb2.mono hb.size)
        clear d0 d1 d2 hcr hb2
        go_wp2
        go_roundw
        case rel => exact ⟨k + 1, by omega, by go_num, HR, hB2⟩
        case measure => simp [intOf]; omega
    · have HR : Hid (dfIdx ds s 0 = -1) := by unfold Hid; rw [HK.out, dfIdx_end ds s k (by omega)]
      clear HK hcell
      go_wp2
      go_ret
      exact ⟨by rw [HR.out]; rfl, hb⟩
set_option maxHeartbeats 800000 in
theorem idefof_any (a1 a2 : Option Addr) (n1 c1 n2 c2 : Nat) (v3 : Value) (ds : List Df) (s : ByteArray) (w : World) (R : DfRow w v3 ds) :
    Calls Tryz.prog 19 #[.agg #[.slice a1 n1 c1, .slice a2 n2 c2, v3], .string s] w fun e w' => e = .returned (.int .i64 (dfIdx ds s 0)) ∧ Below w.heap.size w w' := by
  have hmf : ∀ (fn : Fn) (first cap : Array Value) (w : World), (Instr.makeFunc fn first cap).run Tryz.prog w = .ok (.func fn first cap) w := fun _ _ _ _ => rfl
  obtain ⟨a3, c3, rfl⟩ := R.small
  go_enter Tryz.func19, Tryz.ntmps19
  go_wp2_with fail
  have hB0 : Below w.heap.size w ((w.alloc (Obj.cells #[.slice a1 n1 c1, .slice a2 n2 c2, .slice a3 ds.length c3] 33)).alloc (Obj.cells #[.string s] 9)) := ((Below.refl _ _).alloc (Nat.le_refl _) _).alloc (by simp) _
  refine (indexfunc_any _ ds s (w.heap.size + 1) _ (R.below hB0) ?_ ?_).mono ?_
  · rw [cell_of_row _ _ 0 _ _ _ (heap_alloc2_new _ _ _)]; rfl
  · simp
  rintro e w1 ⟨rfl, hb1⟩
  have hB1 := hB0.trans (hb1.mono hB0.size)
  clear hB0 hb1
  go_wp2
  go_ret
  exact ⟨rfl, hB1⟩
end Go.Proofs.YtkchakcebdenjaaGreat
