/-
  What MakeList makes, and the contracts of impl's hasAll and MakeList.
-/
import Derived.Test.YtmnmljmbicepjaaMake
import Derived.Test.YtmnmljmbicepjaaInts
namespace Go.Proofs.Ytmnmljmbicepjaa
open Go.RowKit

def nilN : Nd := ⟨1, 0, ByteArray.empty, 0, 0⟩
def pairN (z : Int) (last : Nat) : Nd := ⟨5, 0, ByteArray.empty, z, last⟩
/-- The pairs of the values, the last one first, from the node 'last' on. -/
def pairsR : List Int → Nat → List Nd
  | [], _ => []
  | z :: r, last => pairN z last :: pairsR r (last + 1)
theorem pairsR_snoc (r : List Int) (z : Int) (last : Nat) : pairsR (r ++ [z]) last = pairsR r last ++ [pairN z (last + r.length)] := by
  induction r generalizing last with
  | nil => rfl
  | cons y r ih => simp only [List.cons_append, pairsR, ih, List.length_cons]; rw [show last + 1 + r.length = last + (r.length + 1) by omega]
theorem pairsR_length (r : List Int) (last : Nat) : (pairsR r last).length = r.length := by
  induction r generalizing last with
  | nil => rfl
  | cons y r ih => simp [pairsR, ih]
theorem pairsR_ok (r : List Int) (last : Nat) : ∀ x ∈ pairsR r last, x.s.size ≤ maxLen := by
  induction r generalizing last with
  | nil => simp [pairsR]
  | cons y r ih =>
    intro x hx
    simp only [pairsR, List.mem_cons] at hx
    rcases hx with rfl | hx
    · simp [pairN]
    · exact ih _ x hx
/-- The list so far, when the values from m on stand. -/
def more (zs : List Int) (n m : Nat) : List Nd := nilN :: pairsR (zs.drop m).reverse n
theorem more_length (zs : List Int) (n m : Nat) : (more zs n m).length = zs.length - m + 1 := by simp [more, pairsR_length]
theorem more_ok (zs : List Int) (n m : Nat) : ∀ x ∈ more zs n m, x.s.size ≤ maxLen := by
  intro x hx
  simp only [more, List.mem_cons] at hx
  rcases hx with rfl | hx
  · simp [nilN]
  · exact pairsR_ok _ _ x hx
theorem more_step (zs : List Int) (n m : Nat) (h : m < zs.length) : more zs n m = more zs n (m + 1) ++ [pairN zs[m] (n + (zs.length - (m + 1)))] := by
  unfold more
  rw [List.drop_eq_getElem_cons h, List.reverse_cons, pairsR_snoc]
  simp

def allI (xs : List Nd) (zs : List Int) : Bool := zs.all (hasI xs)
/-- What MakeList leaves, and the number that it tells. -/
def mlOk (xs : List Nd) (zs : List Int) : Bool := decide (xs.length + 1 + zs.length ≤ 3000) && allI xs zs
def mlL (xs : List Nd) (zs : List Int) : List Nd := if poolB xs = true then (if mlOk xs zs = true then xs ++ more zs xs.length 0 else xs) else []
def mlI (xs : List Nd) (zs : List Int) : Int := if poolB xs = true then (if mlOk xs zs = true then ((xs.length + zs.length : Nat) : Int) else -1) else -1

theorem all_drop (p : Int → Bool) (zs : List Int) (k : Nat) (h : k < zs.length) : (zs.drop k).all p = (p (zs.getD k 0) && (zs.drop (k + 1)).all p) := by
  rw [List.drop_eq_getElem_cons h, List.all_cons, List.getD_eq_getElem?_getD, List.getElem?_eq_getElem h]
  rfl

theorem own_nil1 (w : World) (base : Nat) (hb : base ≤ w.heap.size) :
    (w.alloc (Obj.cells #[.int .i64 1, .int .i64 0, .string ⟨#[]⟩, .int .i64 0, .int .i64 0] 60)).ownsRow base 60 5 (.slice (some ⟨w.heap.size, 0, none⟩) 1 1) 1 (ncs [nilN]) :=
  own_lit1 w nilN base hb
theorem NRow.pair1 (w : World) (z : Int) (last : Nat) : NRow (w.alloc (Obj.cells #[.int .i64 5, .int .i64 0, .string ⟨#[]⟩, .int .i64 z, .int .i64 last] 60)) (.slice (some ⟨w.heap.size, 0, none⟩) 1 1) [pairN z last] :=
  NRow.lit1 w (pairN z last) (by simp [pairN])

set_option maxRecDepth 100000 in
set_option maxHeartbeats 1600000 in
theorem listnodes_any (n : Nat) (vl : Value) (zs : List Int) (w : World) (L : IRow w vl zs) (hn : n ≤ 1048576) (hzl : zs.length ≤ 1048576) :
    Calls Try.prog 77 #[.int .i64 n, vl] w fun e w' => ∃ v', e = .returned v' ∧ w'.ownsRow w.heap.size 60 5 v' (more zs n 0).length (ncs (more zs n 0)) ∧ Below w.heap.size w w' := by
  obtain ⟨al, cl, rfl, hcl, hlm, hcell⟩ := L
  obtain ⟨i0, hi, hz0, hz1, hz2⟩ := info_parts Try.infoN
  go_enter Try.func77, Try.ntmps77
  go_wp2_with fail
  go_loopw [5, 6] (fun s i wr => ∃ m : Nat, m ≤ zs.length ∧ i = .int .i64 ((m : Int) - 1) ∧ wr.ownsRow w.heap.size 60 5 s (more zs n m).length (ncs (more zs n m)) ∧ Below w.heap.size w wr) (fun _ i _ => (intOf i + 1).toNat)
  case atStart =>
    refine ⟨zs.length, Nat.le_refl _, rfl, ?_, (Below.refl _ _).alloc (Nat.le_refl _) _⟩
    have : more zs n zs.length = [nilN] := by simp [more, pairsR]
    rw [this]
    exact own_nil1 w _ (Nat.le_refl _)
  case round =>
    obtain ⟨m, hmz, rfl, hown, hb⟩ := hrel
    have hbs := hb.size
    by_cases hpos : 0 < m
    · obtain ⟨m, rfl⟩ : ∃ m', m = m' + 1 := ⟨m - 1, by omega⟩
      obtain ⟨g, o, rfl, hg, hcell⟩ := hcell (by intro e; subst e; simp at hmz)
      have c0 := (hb.cell (p := ⟨g, o + m, none⟩) hg).trans (hcell m (by omega))
      have HM := more_step zs n m (by omega)
      have hzm : zs.getD m 0 = zs[m] := by simp [List.getD, show m < zs.length by omega]
      rw [hzm] at c0
      have hml := more_length zs n (m + 1)
      clear hcell hzm
      obtain ⟨ar, qr, rfl⟩ := own_form hown
      have hll : (more zs n (m + 1)).length ≤ 1048577 := by omega
      have HB : Hid (((n + (zs.length - (m + 1)) : Nat) : Int) = (n : Int) + (more zs n (m + 1)).length - 1) := by unfold Hid; rw [hml]; omega
      generalize more zs n (m + 1) = LL at hown HM hll HB ⊢
      have HM' : Hid (more zs n m = LL ++ [pairN zs[m] (n + (zs.length - (m + 1)))]) := HM
      clear HM hml
      go_wp2_with (at_builtin; refine wpList_append_own_any _ rfl _ _ 30 rfl w.heap.size 60 i0 _ 5 48 Try.underlying30 hi hz0 hz1 hz2 rfl (by decide) _ _ _ rfl (hown.alloc _) (some ⟨wr.heap.size, 0, none⟩) 1 1 (ncs [(⟨5, 0, ⟨#[]⟩, zs[m], (n : Int) + LL.length - 1⟩ : Nd)]) rfl rfl (NRow.lit1 wr (⟨5, 0, ⟨#[]⟩, zs[m], (n : Int) + LL.length - 1⟩ : Nd) (Nat.zero_le _)).nilcap (NRow.lit1 wr (⟨5, 0, ⟨#[]⟩, zs[m], (n : Int) + LL.length - 1⟩ : Nd) (Nat.zero_le _)).cells (ncs_one _) (by unfold maxLen; omega) (by omega) (by simp; omega) ?_)
      intro v4 w4 ho4 hg4
      have hb4 : Below w.heap.size w w4 := (hb.alloc hbs _).grown hg4 (by simp; omega) (fun k hk => (hown.lt k hk).1)
      have ho5 : w4.ownsRow w.heap.size 60 5 v4 (more zs n m).length (ncs (more zs n m)) := by
        rw [HM'.out, ncs_append, List.length_append, pairN, HB.out]
        exact ho4
      clear ho4 hg4 c0 hown
      go_wp2
      go_roundw
      case rel => exact ⟨m, by omega, by go_num, ho5, hb4⟩
      case measure => (simp [intOf] <;> omega)
    · have hm0 : m = 0 := by omega
      subst hm0
      clear hcell
      go_wp2
      go_ret
      exact ⟨_, rfl, hown, hb⟩

theorem wrap_two (a b : Int) (h0 : 0 ≤ a) (h1 : a ≤ 1000000) (h2 : 0 ≤ b) (h3 : b ≤ 1000000) : IntKind.i64.wrap (IntKind.i64.wrap (a + b) - 1) = a + b - 1 := by
  rw [IntKind.wrap_i64, IntKind.wrap_i64]; omega

end Go.Proofs.Ytmnmljmbicepjaa
