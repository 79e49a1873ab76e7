/-
  Texts that stood by themselves, laid into one.
-/
import Derived.Test.YtdakifahedelcaaDoorBsM
import Derived.Deep.RegionLaw
import Derived.Deep.AppendLies
import Derived.Test.YtdakifahedelcaaDoorLListOfM
import Derived.Deep.RegionWith
/-
  Contract of spec's l2Add: a node behind the pool that a pointer leads to.
-/
namespace Go.Proofs.YtdakifahedelcaaDoor
open Go.RowKit

set_option maxHeartbeats 1600000 in
theorem sadd_any (b base : Nat) (ao : Option Addr) (cap : Nat) (xs : List Nd) (x : Nd) (w : World) (hb : w.heap[b]? = some (.cells #[.slice ao xs.length cap] 26 (0, 0))) (ho : w.ownsRow base 55 5 (.slice ao xs.length cap) xs.length (ncs xs))
    (hm : xs.length ≤ 2097152) (hbb : base ≤ b) :
    Calls Tryd.prog 33 #[.pointer (some ⟨b, 0, none⟩), .agg #[.int .i64 x.k, .int .i64 x.n, .string x.s, .int .i64 x.a, .int .i64 x.b]] w fun e w' =>
      ∃ v', e = .returned (.int .i64 xs.length) ∧ w'.heap[b]? = some (.cells #[v'] 26 (0, 0)) ∧ w'.ownsRow base 55 5 v' (xs ++ [x]).length (ncs (xs ++ [x])) ∧ Below base w w' := by
  obtain ⟨i0, hi, hz0, hz1, hz2⟩ := info_parts Tryd.infoN
  have hlt : b < w.heap.size := (Array.getElem?_eq_some_iff.1 hb).1
  have hcb : w.cell? ⟨b, 0, none⟩ = some (.slice ao xs.length cap) := by rw [cell_of_row w b 0 _ _ _ hb]; rfl
  have hne : b ≠ w.heap.size := by omega
  go_enter Tryd.func33, Tryd.ntmps33
  go_wp2_with fail
  go_region_law (refine step_append_lies _ rfl _ _ 24 rfl base 55 i0 _ 5 48 Tryd.underlying24 hi hz0 hz1 hz2 rfl (by decide) _ _ _ rfl ((ho.alloc _).alloc _) ⟨w.heap.size + 1, 0, none⟩ 1 1 (ncs [x]) rfl rfl (World.news_of_block (cs := #[.int .i64 x.k, .int .i64 x.n, .string x.s, .int .i64 x.a, .int .i64 x.b]) (t := 55) (fr := (0, 0)) (heap_alloc2_new w _ _)) (ncs_one _) (by omega) (by unfold maxLen; omega) (by omega) (by simp; omega) (w.heap.size + 2) (by simp) ?_; intro g capg w1 hown hgrow hat hgl; have hb1 : w1.heap[b]? = some (.cells #[.slice ao xs.length cap] 26 (0, 0)) := (hgrow.block b (by simp; omega) (fun e => own_ne ho hb (by decide) e.symm)).trans ((heap_alloc_old _ _ (by simp; omega)).trans ((heap_alloc_old _ _ hlt).trans hb)); have kb1 : w1.cell? ⟨b, 0, none⟩ = some (.slice ao xs.length cap) := cell_of_row w1 b 0 _ _ _ hb1; have fb1 : w1.frozen? ⟨b, 0, none⟩ = false := frozen_of_row w1 b 0 _ _ hb1)
  all_goals
    have hown2 : w1.ownsRow base 55 5 (.slice (some ⟨g, 0, none⟩) (xs.length + 1) capg) (xs ++ [x]).length (ncs (xs ++ [x])) := by
      rw [ncs_append, List.length_append]
      exact hown
    have hs0 : base ≤ w.heap.size := by omega
    have hB1 : Below base w w1 := (((Below.refl base w).alloc hs0 _).drew.alloc (by simp; omega) _).grown hgrow (by simp; omega) (fun k hk => (ho.lt k hk).1)
    have hB2 := hB1.setCell (p := ⟨b, 0, none⟩) hbb (.slice (some ⟨g, 0, none⟩) (xs.length + 1) capg)
    have ho2 := ownsRow_setCell_other hown2 (a := ⟨b, 0, none⟩) (own_ne hown2 hb1 (by decide)) (.slice (some ⟨g, 0, none⟩) (xs.length + 1) capg)
    have hb2 := heap_setCell_same w1 b 0 _ _ (.slice (some ⟨g, 0, none⟩) (xs.length + 1) capg) hb1
    clear hown hgrow hat hcb hb
    go_wp2
    go_ret
    exact ⟨_, by simp, hb2, ho2, hB2⟩
end Go.Proofs.YtdakifahedelcaaDoor

/-
  What MakeList makes, and the contracts of impl's hasAll and MakeList.
-/
namespace Go.Proofs.YtdakifahedelcaaDoor
open Go.RowKit

def nilN : Nd := ⟨1, 0, ByteArray.empty, 0, 0⟩
def pairN (z : Int) (last : Nat) : Nd := ⟨5, 0, ByteArray.empty, z, last⟩
/-- The pairs of the values, the last one first, from the node 'last' on. -/
def pairsR : List Int → Nat → List Nd
  | [], _ => []
  | z :: r, last => pairN z last :: pairsR r (last + 1)
theorem pairsR_snoc (r : List Int) (z : Int) (last : Nat) : pairsR (r ++ [z]) last = pairsR r last ++ [pairN z (last + r.length)] := by
  induction r generalizing last with
  | nil => rfl
  | cons y r ih => simp only [List.cons_append, pairsR, ih, List.length_cons]; rw [show last + 1 + r.length = last + (r.length + 1) by omega]
theorem pairsR_length (r : List Int) (last : Nat) : (pairsR r last).length = r.length := by
  induction r generalizing last with
  | nil => rfl
  | cons y r ih => simp [pairsR, ih]
theorem pairsR_ok (r : List Int) (last : Nat) : ∀ x ∈ pairsR r last, x.s.size ≤ maxLen := by
  induction r generalizing last with
  | nil => simp [pairsR]
  | cons y r ih =>
    intro x hx
    simp only [pairsR, List.mem_cons] at hx
    rcases hx with rfl | hx
    · simp [pairN]
    · exact ih _ x hx
/-- The list so far, when the values from m on stand. -/
def more (zs : List Int) (n m : Nat) : List Nd := nilN :: pairsR (zs.drop m).reverse n
theorem more_length (zs : List Int) (n m : Nat) : (more zs n m).length = zs.length - m + 1 := by simp [more, pairsR_length]
theorem more_ok (zs : List Int) (n m : Nat) : ∀ x ∈ more zs n m, x.s.size ≤ maxLen := by
  intro x hx
  simp only [more, List.mem_cons] at hx
  rcases hx with rfl | hx
  · simp [nilN]
  · exact pairsR_ok _ _ x hx
theorem more_step (zs : List Int) (n m : Nat) (h : m < zs.length) : more zs n m = more zs n (m + 1) ++ [pairN zs[m] (n + (zs.length - (m + 1)))] := by
  unfold more
  rw [List.drop_eq_getElem_cons h, List.reverse_cons, pairsR_snoc]
  simp

def allI (xs : List Nd) (zs : List Int) : Bool := zs.all (hasI xs)
/-- What MakeList leaves, and the number that it tells. -/
def mlOk (xs : List Nd) (zs : List Int) : Bool := decide (xs.length + 1 + zs.length ≤ 3000) && allI xs zs
def mlL (xs : List Nd) (zs : List Int) : List Nd := if poolB xs = true then (if mlOk xs zs = true then xs ++ more zs xs.length 0 else xs) else []
def mlI (xs : List Nd) (zs : List Int) : Int := if poolB xs = true then (if mlOk xs zs = true then ((xs.length + zs.length : Nat) : Int) else -1) else -1

theorem all_drop (p : Int → Bool) (zs : List Int) (k : Nat) (h : k < zs.length) : (zs.drop k).all p = (p (zs.getD k 0) && (zs.drop (k + 1)).all p) := by
  rw [List.drop_eq_getElem_cons h, List.all_cons, List.getD_eq_getElem?_getD, List.getElem?_eq_getElem h]
  rfl

theorem own_nil1 (w : World) (base : Nat) (hb : base ≤ w.heap.size) :
    (w.alloc (Obj.cells #[.int .i64 1, .int .i64 0, .string ⟨#[]⟩, .int .i64 0, .int .i64 0] 55)).ownsRow base 55 5 (.slice (some ⟨w.heap.size, 0, none⟩) 1 1) 1 (ncs [nilN]) :=
  own_lit1 w nilN base hb
theorem NRow.pair1 (w : World) (z : Int) (last : Nat) : NRow (w.alloc (Obj.cells #[.int .i64 5, .int .i64 0, .string ⟨#[]⟩, .int .i64 z, .int .i64 last] 55)) (.slice (some ⟨w.heap.size, 0, none⟩) 1 1) [pairN z last] :=
  NRow.lit1 w (pairN z last) (by simp [pairN])

set_option maxRecDepth 100000 in
set_option maxHeartbeats 1600000 in
theorem listnodes_any (n : Nat) (vl : Value) (zs : List Int) (w : World) (L : IRow w vl zs) (hn : n ≤ 1048576) (hzl : zs.length ≤ 1048576) :
    Calls Tryd.prog 99 #[.int .i64 n, vl] w fun e w' => ∃ v', e = .returned v' ∧ w'.ownsRow w.heap.size 55 5 v' (more zs n 0).length (ncs (more zs n 0)) ∧ Below w.heap.size w w' := by
  obtain ⟨al, cl, rfl, hcl, hlm, hcell⟩ := L
  obtain ⟨i0, hi, hz0, hz1, hz2⟩ := info_parts Tryd.infoN
  go_enter Tryd.func99, Tryd.ntmps99
  go_wp2_with fail
  go_loopw [5, 6] (fun s i wr => ∃ m : Nat, m ≤ zs.length ∧ i = .int .i64 ((m : Int) - 1) ∧ wr.ownsRow w.heap.size 55 5 s (more zs n m).length (ncs (more zs n m)) ∧ Below w.heap.size w wr) (fun _ i _ => (intOf i + 1).toNat)
  case atStart =>
    refine ⟨zs.length, Nat.le_refl _, rfl, ?_, (Below.refl _ _).alloc (Nat.le_refl _) _⟩
    have : more zs n zs.length = [nilN] := by simp [more, pairsR]
    rw [this]
    exact own_nil1 w _ (Nat.le_refl _)
  case round =>
    obtain ⟨m, hmz, rfl, hown, hb⟩ := hrel
    have hbs := hb.size
    by_cases hpos : 0 < m
    · obtain ⟨m, rfl⟩ : ∃ m', m = m' + 1 := ⟨m - 1, by omega⟩
      obtain ⟨g, o, rfl, hg, hcell⟩ := hcell (by intro e; subst e; simp at hmz)
      have c0 := (hb.cell (p := ⟨g, o + m, none⟩) hg).trans (hcell m (by omega))
      have HM := more_step zs n m (by omega)
      have hzm : zs.getD m 0 = zs[m] := by simp [List.getD, show m < zs.length by omega]
      rw [hzm] at c0
      have hml := more_length zs n (m + 1)
      clear hcell hzm
      obtain ⟨ar, qr, rfl⟩ := own_form hown
      have hll : (more zs n (m + 1)).length ≤ 1048577 := by omega
      have HB : Hid (((n + (zs.length - (m + 1)) : Nat) : Int) = (n : Int) + (more zs n (m + 1)).length - 1) := by unfold Hid; rw [hml]; omega
      generalize more zs n (m + 1) = LL at hown HM hll HB ⊢
      have HM' : Hid (more zs n m = LL ++ [pairN zs[m] (n + (zs.length - (m + 1)))]) := HM
      clear HM hml
      go_wp2_with (at_builtin; refine wpList_append_own_any _ rfl _ _ 24 rfl w.heap.size 55 i0 _ 5 48 Tryd.underlying24 hi hz0 hz1 hz2 rfl (by decide) _ _ _ rfl (hown.alloc _) (some ⟨wr.heap.size, 0, none⟩) 1 1 (ncs [(⟨5, 0, ⟨#[]⟩, zs[m], (n : Int) + LL.length - 1⟩ : Nd)]) rfl rfl (NRow.lit1 wr (⟨5, 0, ⟨#[]⟩, zs[m], (n : Int) + LL.length - 1⟩ : Nd) (Nat.zero_le _)).nilcap (NRow.lit1 wr (⟨5, 0, ⟨#[]⟩, zs[m], (n : Int) + LL.length - 1⟩ : Nd) (Nat.zero_le _)).cells (ncs_one _) (by unfold maxLen; omega) (by omega) (by simp; omega) ?_)
      intro v4 w4 ho4 hg4
      have hb4 : Below w.heap.size w w4 := (hb.alloc hbs _).grown hg4 (by simp; omega) (fun k hk => (hown.lt k hk).1)
      have ho5 : w4.ownsRow w.heap.size 55 5 v4 (more zs n m).length (ncs (more zs n m)) := by
        rw [HM'.out, ncs_append, List.length_append, pairN, HB.out]
        exact ho4
      clear ho4 hg4 c0 hown
      go_wp2
      go_roundw
      case rel => exact ⟨m, by omega, by go_num, ho5, hb4⟩
      case measure => (simp [intOf] <;> omega)
    · have hm0 : m = 0 := by omega
      subst hm0
      clear hcell
      go_wp2
      go_ret
      exact ⟨_, rfl, hown, hb⟩

theorem wrap_two (a b : Int) (h0 : 0 ≤ a) (h1 : a ≤ 1000000) (h2 : 0 ≤ b) (h3 : b ≤ 1000000) : IntKind.i64.wrap (IntKind.i64.wrap (a + b) - 1) = a + b - 1 := by
  rw [IntKind.wrap_i64, IntKind.wrap_i64]; omega

end Go.Proofs.YtdakifahedelcaaDoor

/-
  Contract of spec's l2List: a list behind the pool that a pointer leads to.
-/
namespace Go.Proofs.YtdakifahedelcaaDoor
open Go.RowKit

set_option maxRecDepth 100000 in
set_option maxHeartbeats 1600000 in
theorem slist_any (b base : Nat) (v vl : Value) (xs : List Nd) (zs : List Int) (w : World) (hb : w.heap[b]? = some (.cells #[v] 26 (0, 0))) (ho : w.ownsRow base 55 5 v xs.length (ncs xs)) (L : IRow w vl zs)
    (hL : ∀ g o cap, vl = .slice (some ⟨g, o, none⟩) zs.length cap → zs ≠ [] → g < base) (hm : xs.length ≤ 1048576) (hzl : zs.length ≤ 1048576) (hbb : base ≤ b) :
    Calls Tryd.prog 48 #[.pointer (some ⟨b, 0, none⟩), vl] w fun e w' =>
      ∃ v', e = .returned (.int .i64 ((xs.length + zs.length : Nat) : Int)) ∧ w'.heap[b]? = some (.cells #[v'] 26 (0, 0)) ∧ w'.ownsRow base 55 5 v' (xs ++ more zs xs.length 0).length (ncs (xs ++ more zs xs.length 0)) ∧ Below base w w' := by
  obtain ⟨ao, cap, rfl⟩ := own_form ho
  obtain ⟨al, cl, rfl, hcl, hlm, hcell⟩ := L
  go_enter Tryd.func48, Tryd.ntmps48
  go_wp2_with fail
  refine (sadd_any b base ao cap xs nilN w hb ho (by omega) hbb).mono ?_
  rintro e w1 ⟨v1, rfl, hb1, ho1, hB1⟩
  clear hb ho
  go_wp2_with fail
  go_loopw [5, 6] (fun l i wr => ∃ (m : Nat) (v' : Value), m ≤ zs.length ∧ i = .int .i64 ((m : Int) - 1) ∧ l = .int .i64 ((xs.length + (zs.length - m) : Nat) : Int) ∧ wr.heap[b]? = some (.cells #[v'] 26 (0, 0)) ∧ wr.ownsRow base 55 5 v' (xs ++ more zs xs.length m).length (ncs (xs ++ more zs xs.length m)) ∧ Below base w wr) (fun _ i _ => (intOf i + 1).toNat)
  case atStart =>
    have : more zs xs.length zs.length = [nilN] := by simp [more, pairsR]
    exact ⟨zs.length, v1, Nat.le_refl _, rfl, by simp, hb1, by rw [this]; exact ho1, hB1⟩
  case round =>
    clear hb1 ho1 hB1
    obtain ⟨m, v', hmz, rfl, rfl, hbr, hor, hBr⟩ := hrel
    by_cases hpos : 0 < m
    · obtain ⟨m, rfl⟩ : ∃ m', m = m' + 1 := ⟨m - 1, by omega⟩
      obtain ⟨g, o, rfl, hg, hcell⟩ := hcell (by intro e; subst e; simp at hmz)
      have hgb : g < base := hL g o cl rfl (by intro e; subst e; simp at hmz)
      have c0 := (hBr.cell (p := ⟨g, o + m, none⟩) hgb).trans (hcell m (by omega))
      have HM := more_step zs xs.length m (by omega)
      have hzm : zs.getD m 0 = zs[m] := by simp [List.getD, show m < zs.length by omega]
      rw [hzm] at c0
      have hml := more_length zs xs.length (m + 1)
      have hlast : Hid (xs.length + (zs.length - (m + 1)) + 1 = xs.length + (zs.length - m)) := by unfold Hid; omega
      have hlen : Hid ((xs ++ more zs xs.length (m + 1)).length = xs.length + (zs.length - (m + 1)) + 1) := by unfold Hid; rw [List.length_append, hml]; omega
      have hll : xs.length + (zs.length - (m + 1)) ≤ 2097151 := by omega
      generalize xs.length + (zs.length - (m + 1)) = last at HM hlast hll hlen ⊢
      have HM' : Hid (xs ++ more zs xs.length m = (xs ++ more zs xs.length (m + 1)) ++ [pairN zs[m] last]) := by unfold Hid; rw [HM, List.append_assoc]
      clear HM hml hzm hcell
      generalize xs ++ more zs xs.length (m + 1) = LL at hor HM' hlen
      obtain ⟨aor, capr, rfl⟩ := own_form hor
      go_wp2_with fail
      refine (sadd_any b base aor capr LL (pairN zs[m] last) wr hbr hor (by have := hlen.out; omega) hbb).mono ?_
      rintro e w2 ⟨v2, rfl, hb2, ho2, hB2⟩
      have hB3 := hBr.trans hB2
      clear hbr hor hBr hB2 c0
      have ho3 : w2.ownsRow base 55 5 v2 (xs ++ more zs xs.length m).length (ncs (xs ++ more zs xs.length m)) := by rw [HM'.out]; exact ho2
      clear ho2
      rw [hlen.out]
      go_wp2
      go_roundw
      case rel => exact ⟨m, v2, by omega, by go_num, by rw [← hlast.out]; simp, hb2, ho3, hB3⟩
      case measure => (simp [intOf] <;> omega)
    · have hm0 : m = 0 := by omega
      subst hm0
      clear hcell
      go_wp2
      go_ret
      exact ⟨_, rfl, hbr, hor, hBr⟩
end Go.Proofs.YtdakifahedelcaaDoor

/-
  Contract of spec.MakeList.
-/
namespace Go.Proofs.YtdakifahedelcaaDoor
open Go.RowKit

end Go.Proofs.YtdakifahedelcaaDoor
