/-
  Texts that stood by themselves, laid into one.
-/
import Derived.Test.YtacbhbmjhlgflaaMkListM
import Derived.Test.YtacbhbmjhlgflaaWithM
import Derived.Test.YtacbhbmjhlgflaaTo2M
import Derived.Test.YtacbhbmjhlgflaaMcTM
import Derived.Laws.IdiomCopy
import Derived.Test.YtacbhbmjhlgflaaSMakeM
import Derived.Test.YtacbhbmjhlgflaaMOf1M
/-
  What a list is read as, and the contracts of impl.ListOf and spec.ListOf.
-/
namespace Go.Proofs.Ytacbhbmjhlgflaa
open Go.RowKit

theorem Try.infoI2 : (Try.prog.info? 3).map (fun i => (i.zero, i.size, i.bytes)) = some (some (.int .i64 0), 1, 8) := by kernel_rfl

/-- The values from the node j on, behind acc; none when it does not end with a KNil. -/
def chain (xs : List Nd) : Nat → Nat → List Int → Option (List Int)
  | 0, _, _ => none
  | f + 1, j, acc => match xs[j]? with
    | none => none
    | some x => if x.k = 5 then chain xs f x.b.toNat (acc ++ [x.a]) else if x.k = 1 then some acc else none
def chainR (xs : List Nd) (v : Nat) : List Int × Bool := match chain xs (v + 1) v [] with
  | some l => (l, true)
  | none => ([], false)
/-- What ListOf answers. -/
def listR (xs : List Nd) (v : Int) : List Int × Bool := if poolB xs && hasI xs v then chainR xs v.toNat else ([], false)
theorem chain_pair (xs : List Nd) (f j : Nat) (acc : List Int) (x : Nd) (hx : xs[j]? = some x) (h5 : x.k = 5) (hf : j < f) : chain xs f j acc = chain xs (f - 1) x.b.toNat (acc ++ [x.a]) := by
  cases f with
  | zero => omega
  | succ f => simp [chain, hx, h5]
theorem chain_nil (xs : List Nd) (f j : Nat) (acc : List Int) (x : Nd) (hx : xs[j]? = some x) (h1 : x.k = 1) (hf : j < f) : chain xs f j acc = some acc := by
  cases f with
  | zero => omega
  | succ f => simp [chain, hx, h1]
theorem chain_none (xs : List Nd) (f j : Nat) (acc : List Int) (x : Nd) (hx : xs[j]? = some x) (h5 : ¬ x.k = 5) (h1 : ¬ x.k = 1) (hf : j < f) : chain xs f j acc = none := by
  cases f with
  | zero => omega
  | succ f => simp [chain, hx, h5, h1]

set_option maxHeartbeats 400000 in
theorem shas_all (v : Value) (xs : List Nd) (a : Int) (w : World) (R : NRow w v xs) :
    Calls Try.prog 30 #[.agg #[v], .int .i64 a] w fun e w' => e = .returned (.bool (hasI xs a)) ∧ Below w.heap.size w w' := by
  obtain ⟨ao, cap, rfl, _, hm, _⟩ := R
  go_enter Try.func30, Try.ntmps30
  go_wp2_with fail
  refine (lin_any _ _ _ _).mono ?_
  rintro e w1 ⟨rfl, rfl⟩
  go_wp2
  go_ret
  refine ⟨retB ?_, (Below.refl _ _).alloc (Nat.le_refl _) _⟩
  rw [Bool.eq_iff_iff]
  simp [hasI]
  omega

set_option maxRecDepth 100000 in
set_option maxHeartbeats 1600000 in
theorem slistof_in (ao : Option Addr) (cap : Nat) (xs : List Nd) (v : Nat) (w : World) (R : NRow w (.slice ao xs.length cap) xs) (hp : poolB xs = true) (hv : v < xs.length) :
    Calls Try.prog 120 #[.agg #[.slice ao xs.length cap], .int .i64 v] w fun e w' => ∃ v', e = .returned (.tuple #[v', .bool (chainR xs v).2]) ∧ w'.ownsRow w.heap.size 3 1 v' (chainR xs v).1.length (iv (chainR xs v).1) ∧ Below w.heap.size w w' := by
  have hlen := poolB_len hp
  have R' := R
  obtain ⟨ao', cap', e', ⟨hcap, _⟩, _, hz, hcell⟩ := R'
  simp only [Value.slice.injEq, true_and] at e'
  obtain ⟨rfl, rfl⟩ := e'
  obtain ⟨g, o, rfl, hg, hcell⟩ := hcell (by intro e; subst e; simp at hv)
  obtain ⟨i0, hi, hz0, hz1, hz2⟩ := info_parts Try.infoI2
  go_enter Try.func120, Try.ntmps120
  have hB2 : Below w.heap.size w (w.alloc (Obj.cells #[.slice (some ⟨g, o, none⟩) xs.length cap] 33)) := (Below.refl _ _).alloc (Nat.le_refl _) _
  have hc2 : (w.alloc (Obj.cells #[.slice (some ⟨g, o, none⟩) xs.length cap] 33)).cell? ⟨w.heap.size, 0, none⟩ = some (.slice (some ⟨g, o, none⟩) xs.length cap) := by simp
  have hsz2 : w.heap.size < (w.alloc (Obj.cells #[.slice (some ⟨g, o, none⟩) xs.length cap] 33)).heap.size := by simp
  have HS2 : Hid ((w.alloc (Obj.cells #[.slice (some ⟨g, o, none⟩) xs.length cap] 33)).heap.size = w.heap.size + 1) := by unfold Hid; simp
  go_wp2_with fail
  generalize w.alloc (Obj.cells #[.slice (some ⟨g, o, none⟩) xs.length cap] 33) = w2 at *
  go_loopw [1, 6] (fun q s wr => ∃ (f j : Nat) (acc : List Int), q = .int .i64 j ∧ j < f ∧ acc.length + j ≤ v ∧ Hid (chain xs f j acc = chain xs (v + 1) v []) ∧ wr.ownsRow w2.heap.size 3 1 s acc.length (iv acc) ∧ Below w2.heap.size w2 wr) (fun q _ _ => (intOf q).toNat)
  case atStart => exact ⟨v + 1, v, [], rfl, by omega, by simp, rfl, (by rw [← HS2.out]; exact World.ownsRow_made _ _ 0 (Nat.le_refl _) (by simp) (by simp)), (Below.refl _ _).alloc (Nat.le_refl _) _⟩
  case round =>
    obtain ⟨f, j, acc, rfl, hjf, hal, HC, hown, hb⟩ := hrel
    have hB := hB2.trans (hb.mono hB2.size)
    have hcr := (hb.cell (p := ⟨w.heap.size, 0, none⟩) hsz2).trans hc2
    have hbs := hb.size
    obtain ⟨x, hx⟩ : ∃ x, xs[j]? = some x := ⟨xs[j], by simp [show j < xs.length by omega]⟩
    obtain ⟨c0, c1, c2, c3, c4⟩ := (hcell j x hx).below hB hg
    have hnb := poolB_at hp hx
    clear hcell
    by_cases h5 : x.k = 5
    · have HS : Hid (chain xs f j acc = chain xs (f - 1) x.b.toNat (acc ++ [x.a])) := chain_pair xs f j acc x hx h5 hjf
      have hBB : hasB x.k = true := by unfold hasB; simp [h5]
      have hrb := nodeB_B hnb hBB
      obtain ⟨nb', hnb'⟩ := Int.eq_ofNat_of_zero_le hrb.1
      rw [hnb'] at c4 hrb HS
      have hgn : g ≠ wr.heap.size := by have := hB.size; omega
      have hgl : g < wr.heap.size := by have := hB.size; omega
      have hwl : w.heap.size < wr.heap.size := by omega
      clear hx hnb hBB
      go_wp2_with (at_builtin; refine wpList_append_own _ rfl _ _ 97 rfl w2.heap.size 3 i0 (.int .i64 0) 1 8 Try.underlying97 hi hz0 hz1 hz2 rfl (by decide) _ _ _ rfl (hown.alloc _) ⟨wr.heap.size, 0, none⟩ 1 1 [.int .i64 x.a] rfl rfl (cell_one_new _ _ _) (fun u hu => by simp at hu; subst hu; rfl) (by unfold maxLen; omega) (by omega) (by simp; omega) ?_)
      intro v' w6 hown' hgrow _
      have hown6 : w6.ownsRow w2.heap.size 3 1 v' (acc ++ [x.a]).length (iv (acc ++ [x.a])) := by
        rw [iv_append, List.length_append]
        exact hown'
      have hb6 : Below w2.heap.size w2 w6 := (hb.alloc hbs _).grown hgrow (by simp; omega) (fun j hj => (hown.lt j hj).1)
      have hcr6 := (hb6.cell (p := ⟨w.heap.size, 0, none⟩) hsz2).trans hc2
      have hg6 : w6.cell? ⟨g, o + j * 5 + 4, none⟩ = some (.int .i64 nb') := by
        have hgw2 : g < w2.heap.size := Nat.lt_of_lt_of_le hg hB2.size
        rw [hb6.cell (p := ⟨g, o + j * 5 + 4, none⟩) hgw2, ← hb.cell (p := ⟨g, o + j * 5 + 4, none⟩) hgw2]
        exact c4
      generalize hacc : acc ++ [x.a] = acc' at hown6 HS
      have hal' : acc'.length = acc.length + 1 := by rw [← hacc]; simp
      clear hown' hgrow c0 c1 c2 c3 c4 hcr hown hacc
      go_wp2
      go_roundw
      case rel => exact ⟨f - 1, nb', acc', rfl, by omega, by omega, by unfold Hid; rw [← HC.out, HS.out]; rfl, hown6, hb6⟩
      case measure => simp [intOf]; omega
    · by_cases h1 : x.k = 1
      · have HR : Hid (chainR xs v = (acc, true)) := by unfold Hid chainR; rw [← HC.out, chain_nil xs f j acc x hx h1 hjf]
        clear hx hnb h5
        go_wp2
        go_ret2
        exact ⟨_, by rw [HR.out]; rfl, by rw [HR.out]; exact own_mono hown (by omega), hB⟩
      · have HR : Hid (chainR xs v = ([], false)) := by unfold Hid chainR; rw [← HC.out, chain_none xs f j acc x hx h5 h1 hjf]
        clear hx hnb
        go_wp2
        go_ret2
        exact ⟨_, by rw [HR.out]; rfl, by rw [HR.out]; exact World.ownsRow_made _ _ 0 (by have := hB.size; omega) (by simp) (by simp), hB.alloc hB.size _⟩

end Go.Proofs.Ytacbhbmjhlgflaa

/-
  How great a pool is, whatever is left: contracts of the laws' own helpers szNodeS and szPool. Condition: what is left is no more than at the start.
-/
namespace Go.Proofs.Ytacbhbmjhlgflaa
open Go.RowKit

set_option maxHeartbeats 800000 in
theorem sznodes_gen (l0 : Int) (hl0 : 0 ≤ l0) (hl1 : l0 ≤ 1048576) (v : Value) (xs : List Nd) (w : World) (R : NRow w v xs) :
    Calls Try.prog 27 #[v, .int .i64 l0] w fun e w' => ∃ r : Int, e = .returned (.int .i64 r) ∧ -1 ≤ r ∧ r ≤ 1048576 ∧ (0 ≤ r → xs.length ≤ 1048576 ∧ ∀ x ∈ xs, x.s.size ≤ 1048576) ∧ Below w.heap.size w w' := by
  obtain ⟨ao, cap, rfl, hcap, hm, hz, hcell⟩ := R
  by_cases hlen : (xs.length : Int) ≤ l0
  · go_enter Try.func27, Try.ntmps27
    go_wp2
    go_loopw [1, 5] (fun l i wr => ∃ (k : Nat) (r : Int), k ≤ xs.length ∧ i = .int .i64 k ∧ l = .int .i64 r ∧ 0 ≤ r ∧ r ≤ 1048576 ∧ Hid (∀ j x, xs[j]? = some x → j < k → x.s.size ≤ 1048576) ∧ Below w.heap.size w wr) (fun _ i _ => xs.length - (intOf i).toNat)
    case atStart => exact ⟨0, _, by omega, rfl, rfl, by omega, by omega, fun j x _ h => by omega, Below.refl _ _⟩
    case round =>
      obtain ⟨k, r, hk, rfl, rfl, hr0, hr1, HA, hb⟩ := hrel
      by_cases hlt : k < xs.length
      · obtain ⟨g, o, rfl, hg, hcell⟩ := hcell (by intro e; subst e; simp at hlt)
        obtain ⟨x, hx⟩ : ∃ x, xs[k]? = some x := ⟨xs[k], by simp [hlt]⟩
        obtain ⟨c0, c1, c2, c3, c4⟩ := (hcell k x hx).below hb hg
        have hxs := hz x (List.mem_of_getElem? hx)
        have HX : Hid (xs[k]? = some x) := hx
        clear hcell hx
        go_wp2_with fail
        refine (sznode_any x _ _ hxs hr0 hr1).mono ?_
        rintro e w2 ⟨rfl, hb2⟩
        have hB2 := hb.trans (hb2.mono hb.size)
        clear c0 c1 c2 c3 c4 hb2
        by_cases hl : r < x.s.size
        · rw [less, if_pos hl]
          go_wp2
          go_ret
          exact ⟨-1, rfl, by omega, by omega, fun h => by omega, hB2⟩
        · rw [less, if_neg hl]
          go_wp2
          go_roundw
          case rel =>
            refine ⟨k + 1, _, by omega, by go_num, rfl, by omega, by omega, fun j y hy hj => ?_, hB2⟩
            by_cases e : j = k
            · subst e
              rw [HX.out] at hy
              cases hy
              omega
            · exact HA.out j y hy (by omega)
          case measure => simp [intOf]; omega
      · go_wp2
        go_ret
        refine ⟨r, rfl, by omega, by omega, fun _ => ⟨by omega, fun x hx => ?_⟩, hb⟩
        obtain ⟨j, hj, e⟩ := List.getElem_of_mem hx
        exact HA.out j x (by rw [← e]; simp [hj]) (by omega)
  · go_enter Try.func27, Try.ntmps27
    go_wp2
    go_ret
    exact ⟨-1, rfl, by omega, by omega, fun h => by omega, Below.refl _ _⟩

set_option maxHeartbeats 400000 in
theorem szpool_gen (l0 : Int) (hl0 : 0 ≤ l0) (hl1 : l0 ≤ 1048576) (v : Value) (xs : List Nd) (w : World) (R : NRow w v xs) :
    Calls Try.prog 6 #[.agg #[v], .int .i64 l0] w fun e w' => ∃ r : Int, e = .returned (.int .i64 r) ∧ -1 ≤ r ∧ r ≤ 1048576 ∧ (0 ≤ r → xs.length ≤ 1048576 ∧ ∀ x ∈ xs, x.s.size ≤ 1048576) ∧ Below w.heap.size w w' := by
  have R' := R
  obtain ⟨ao, cap, rfl, _⟩ := R'
  go_enter Try.func6, Try.ntmps6
  go_wp2_with fail
  have hbel : Below w.heap.size w (w.alloc (Obj.cells #[.slice ao xs.length cap] 24)) := (Below.refl _ _).alloc (Nat.le_refl _) _
  refine (sznodes_gen l0 hl0 hl1 _ xs _ (R.below hbel)).mono ?_
  rintro e w1 ⟨r, rfl, h0, h1, h2, hb1⟩
  have hB1 := hbel.trans (hb1.mono hbel.size)
  clear hbel hb1
  by_cases hr : r < 0
  · have HR : Hid (r = -1) := by unfold Hid; omega
    go_wp2
    go_ret
    exact ⟨-1, rfl, by omega, by omega, fun h => by omega, hB1⟩
  · go_wp2
    go_ret
    exact ⟨r, rfl, h0, h1, h2, hB1⟩

end Go.Proofs.Ytacbhbmjhlgflaa

/-
  A machine's records: how great, made of the law's, and alike. No condition.
-/
namespace Go.Proofs.Ytacbhbmjhlgflaa
open Go.RowKit

set_option maxRecDepth 100000 in
set_option maxHeartbeats 3200000 in
theorem eqmach_any (va vb : Value) (xs : List Nd) (m : Mc) (w : World) (Ra : NRow w va xs) (Rb : NRow w vb xs) :
    Calls Try.prog 11 #[.agg #[va, .int .i64 m.p, .int .i64 m.s, .int .i64 m.e, .int .i64 m.d, .int .i64 m.t, .int .i64 m.q, .int .i64 m.r], .agg #[vb, .int .i64 m.p, .int .i64 m.s, .int .i64 m.e, .int .i64 m.d, .int .i64 m.t, .int .i64 m.q, .int .i64 m.r]] w fun e w' => e = .returned (.bool true) ∧ Below w.heap.size w w' := by
  have Ra' := Ra
  have Rb' := Rb
  obtain ⟨aa, ca, rfl, _⟩ := Ra'
  obtain ⟨ab, cb, rfl, _⟩ := Rb'
  obtain ⟨hB0, hk0, hx0⟩ := two_boxes w (Obj.cells #[.slice aa xs.length ca, .int .i64 m.p, .int .i64 m.s, .int .i64 m.e, .int .i64 m.d, .int .i64 m.t, .int .i64 m.q, .int .i64 m.r] 35) (Obj.cells #[.slice ab xs.length cb, .int .i64 m.p, .int .i64 m.s, .int .i64 m.e, .int .i64 m.d, .int .i64 m.t, .int .i64 m.q, .int .i64 m.r] 35)
  go_enter Try.func11, Try.ntmps11
  go_wp2_with fail
  refine (eqpool_any _ _ xs _ (Ra.below hB0) (Rb.below hB0)).mono ?_
  rintro e w1 ⟨rfl, hb1⟩
  have hB1 := hB0.trans (hb1.mono hB0.size)
  have hk1 := (hb1.block _ (Array.getElem?_eq_some_iff.1 hk0).1).trans hk0
  have hx1 := (hb1.block _ (Array.getElem?_eq_some_iff.1 hx0).1).trans hx0
  clear hB0 hk0 hx0 hb1
  have l1 : w1.cell? ⟨w.heap.size, 0 + 1, none⟩ = some (.int .i64 m.p) := cell_of_row w1 _ 1 _ _ _ hk1
  have k1 : w1.cell? ⟨w.heap.size + 1, 0 + 1, none⟩ = some (.int .i64 m.p) := cell_of_row w1 _ 1 _ _ _ hx1
  have l2 : w1.cell? ⟨w.heap.size, 0 + 2, none⟩ = some (.int .i64 m.s) := cell_of_row w1 _ 2 _ _ _ hk1
  have k2 : w1.cell? ⟨w.heap.size + 1, 0 + 2, none⟩ = some (.int .i64 m.s) := cell_of_row w1 _ 2 _ _ _ hx1
  have l3 : w1.cell? ⟨w.heap.size, 0 + 3, none⟩ = some (.int .i64 m.e) := cell_of_row w1 _ 3 _ _ _ hk1
  have k3 : w1.cell? ⟨w.heap.size + 1, 0 + 3, none⟩ = some (.int .i64 m.e) := cell_of_row w1 _ 3 _ _ _ hx1
  have l4 : w1.cell? ⟨w.heap.size, 0 + 4, none⟩ = some (.int .i64 m.d) := cell_of_row w1 _ 4 _ _ _ hk1
  have k4 : w1.cell? ⟨w.heap.size + 1, 0 + 4, none⟩ = some (.int .i64 m.d) := cell_of_row w1 _ 4 _ _ _ hx1
  have l5 : w1.cell? ⟨w.heap.size, 0 + 5, none⟩ = some (.int .i64 m.t) := cell_of_row w1 _ 5 _ _ _ hk1
  have k5 : w1.cell? ⟨w.heap.size + 1, 0 + 5, none⟩ = some (.int .i64 m.t) := cell_of_row w1 _ 5 _ _ _ hx1
  have l6 : w1.cell? ⟨w.heap.size, 0 + 6, none⟩ = some (.int .i64 m.q) := cell_of_row w1 _ 6 _ _ _ hk1
  have k6 : w1.cell? ⟨w.heap.size + 1, 0 + 6, none⟩ = some (.int .i64 m.q) := cell_of_row w1 _ 6 _ _ _ hx1
  have l7 : w1.cell? ⟨w.heap.size, 0 + 7, none⟩ = some (.int .i64 m.r) := cell_of_row w1 _ 7 _ _ _ hk1
  have k7 : w1.cell? ⟨w.heap.size + 1, 0 + 7, none⟩ = some (.int .i64 m.r) := cell_of_row w1 _ 7 _ _ _ hx1
  clear hk1 hx1
  go_wp2
  go_ret
  exact ⟨rfl, hB1⟩

/-- One cell stored: what is known of the world behind it. -/
theorem wpList_store_at {P : Program} {ops : Array Oper} {rest : List Oper} {o : Oper} {a : Act} {w : World} {Q : Exit → Act → World → Prop} (hgd : o.guard = none) (ty : TypeId) (x y : Operand) (ho : o.op = .store ty x y)
    (g i : Nat) (v : Value) (cs : Array Value) (hx : a.eval x = .pointer (some ⟨g, i, none⟩)) (hy : a.eval y = v) (hc : v.cells = #[cs.getD 0 undef]) (hv : (cs.getD 0 undef).oneCell' = true) (t : TypeId) (old new : Array Value) (hg : w.heap[g]? = some (.cells old t (0, 0))) (hl : i < old.size) (hi : (P.info? ty).map (·.size) = some 1) (hn : new = old.setIfInBounds i (cs.getD 0 undef))
    (h : ∀ w2 : World, w2.heap[g]? = some (.cells new t (0, 0)) → Below g w w2 → w2.heap.size = w.heap.size → (∀ k, k ≠ g → w2.heap[k]? = w.heap[k]?) → wpList P ops Q rest (a.put o.dst undef) w2) : wpList P ops Q (o :: rest) a w := by
  refine wpList_plain hgd fun K hK => ?_
  generalize cs.getD 0 undef = c at hc hv hn
  have hcell : (w.cell? ⟨g, i, none⟩).isSome = true := by rw [cell_of_row w g i _ _ _ hg]; simp [hl]
  have hrun := run_storeCells_cells (P := P) g i [c] 0 w (fun j hj => by have : j = 0 := by simpa using hj
                                                                         subst this; simpa using hcell) (fun j hj => frozen_of_row w g _ _ _ hg) (fun u hu => by simp at hu; subst hu; exact hv)
  have hst : (storeVar ty ⟨g, i, none⟩ v).run P w = .ok () (w.setCell ⟨g, i, none⟩ c) := by
    cases hq : P.info? ty with
    | none => simp [hq] at hi
    | some inf =>
      have hs : inf.size = 1 := by simpa [hq] using hi
      simp only [Nat.add_zero] at hrun
      simp [storeVar, sizeOf, typeInfo, hq, hc, hs, hrun, World.setCells]
  unfold Oper.wp execOp
  simp only [ho, hx, hy, Instr.storeAt, Instr.sureAddr, Sem.run_bind, Sem.run_pure, Result.andThen_ok, hst]
  refine hK _ _ (h _ ?_ ((Below.refl g w).setCell (p := ⟨g, i, none⟩) (Nat.le_refl _) _) (by simp [World.setCell]) (fun k hk => heap_setCell_other w ⟨g, i, none⟩ k _ hk))
  rw [hn]
  exact heap_setCell_same w g i _ _ _ hg


end Go.Proofs.Ytacbhbmjhlgflaa

/-
  What MachineOf answers, and contracts of impl's takes, begins. No condition.
-/
namespace Go.Proofs.Ytacbhbmjhlgflaa
open Go.RowKit

/-- The function that a machine begins with, if it is one. -/
def ofD (ns : List Nd) (is : List In) (ds : List Df) (xs : List Nd) (f : Int) : Option Nd :=
  if codeB ns is ds && poolB xs && hasI xs f then (xs[f.toNat]?).filter (fun x => decide (x.k = 6) && decide (x.n % 8 = 0) && decide (x.n / 8 < is.length) && decide (xs.length + 2 ≤ 3000)) else none
def ofL (xs : List Nd) : Option Nd → List Nd
  | none => []
  | some x => xs ++ [nilN] ++ [⟨5, 0, ByteArray.empty, xs.length, x.a⟩]
def ofM (xs : List Nd) : Option Nd → Mc
  | none => ⟨0, 0, 0, 0, 0, 0, 0⟩
  | some x => ⟨x.n / 8, xs.length, (xs.length + 1 : Nat), xs.length, 0, 0, 0⟩

set_option maxHeartbeats 400000 in
theorem takes_any (x : Nd) (w : World) (h0 : 0 ≤ x.n) (h1 : x.n ≤ 1000000000) : Calls Try.prog 76 #[.agg #[.int .i64 x.k, .int .i64 x.n, .string x.s, .int .i64 x.a, .int .i64 x.b]] w fun e w' => e = .returned (.int .i64 (x.n % 8)) ∧ Below w.heap.size w w' := by
  go_enter Try.func76, Try.ntmps76
  go_wp2
  go_ret
  exact ⟨rfl, (Below.refl _ _).alloc (Nat.le_refl _) _⟩
set_option maxHeartbeats 400000 in
theorem begins_any (x : Nd) (w : World) (h0 : 0 ≤ x.n) (h1 : x.n ≤ 1000000000) : Calls Try.prog 41 #[.agg #[.int .i64 x.k, .int .i64 x.n, .string x.s, .int .i64 x.a, .int .i64 x.b]] w fun e w' => e = .returned (.int .i64 (x.n / 8)) ∧ Below w.heap.size w w' := by
  go_enter Try.func41, Try.ntmps41
  go_wp2
  go_ret
  exact ⟨rfl, (Below.refl _ _).alloc (Nat.le_refl _) _⟩
theorem three_boxes (w : World) (A B C : Obj) : Below w.heap.size w (((w.alloc A).alloc B).alloc C) ∧ (((w.alloc A).alloc B).alloc C).heap[w.heap.size]? = some A ∧ (((w.alloc A).alloc B).alloc C).heap[w.heap.size + 1]? = some B ∧ (((w.alloc A).alloc B).alloc C).heap[w.heap.size + 1 + 1]? = some C :=
  ⟨(((Below.refl _ _).alloc (Nat.le_refl _) _).alloc (by simp) _).alloc (by simp; omega) _, (heap_alloc_old _ _ (by simp; omega)).trans ((heap_alloc_old _ _ (by simp)).trans (heap_alloc_new _ _)), (heap_alloc_old _ _ (by simp)).trans (heap_alloc2_new _ _ _), heap_alloc3_new _ _ _ _⟩
theorem own_stored {w wB : World} {base g k n : Nat} {t : TypeId} {v : Value} {xs : List Value} (ho : w.ownsRow base t k v n xs) (hk : ∀ j, j ≠ g → wB.heap[j]? = w.heap[j]?) (hne : v.ownBlock ≠ some g) : wB.ownsRow base t k v n xs := by
  obtain ⟨h1, h2⟩ := ho
  rcases h2 with ⟨rfl, h0⟩ | ⟨g', cap, cur, rfl, hb, hg, r⟩
  · exact ⟨h1, Or.inl ⟨rfl, h0⟩⟩
  · exact ⟨h1, Or.inr ⟨g', cap, cur, rfl, hb, (hk g' (by intro e; exact hne (by rw [e]; rfl))).trans hg, r⟩⟩
end Go.Proofs.Ytacbhbmjhlgflaa
