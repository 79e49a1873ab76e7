/-
  Texts that stood by themselves, laid into one.
-/
import Derived.Test.YtkchakcebdenjaaGreatSNum2M
import Derived.Test.YtkchakcebdenjaaGreatDraw6M
import Derived.Test.YtkchakcebdenjaaGreatMkListM
import Derived.Test.YtkchakcebdenjaaGreatIntsM
import Derived.Deep.RegionLaw
import Derived.Deep.AppendLies
import Derived.Test.YtkchakcebdenjaaGreatSClsM
/-
  What a word stands for, and the contract of spec.l3Word. No condition beyond the text's length.
-/
namespace Go.Proofs.YtkchakcebdenjaaGreat
open Go.RowKit
def isT (s : ByteArray) : Bool := s.data.toList == [35, 116]
def isF (s : ByteArray) : Bool := s.data.toList == [35, 102]
def wordNd (s : ByteArray) : Nd :=
  if isT s then ⟨2, 1, ByteArray.empty, 0, 0⟩ else if isF s then ⟨2, 0, ByteArray.empty, 0, 0⟩
  else if numB s.data.toList then ⟨3, tval s.data.toList, ByteArray.empty, 0, 0⟩ else ⟨4, 0, s, 0, 0⟩
def wordOk (s : ByteArray) : Bool := isT s || isF s || numB s.data.toList || nameB s
set_option maxRecDepth 100000 in
set_option maxHeartbeats 1600000 in
theorem sword_any (s : ByteArray) (w : World) (hs : s.size ≤ maxLen) :
    Calls Tryz.prog 82 #[.string s] w fun e w' => e = .returned (.tuple #[ndV (wordNd s), .bool (wordOk s)]) ∧ Below w.heap.size w w' := by
  have HT : Hid ((s.toList == ([35, 116] : List UInt8)) = isT s) := by unfold Hid isT; rw [ByteArray.toList_eq]
  have HF : Hid ((s.toList == ([35, 102] : List UInt8)) = isF s) := by unfold Hid isF; rw [ByteArray.toList_eq]
  have hB0 : Below w.heap.size w (w.alloc (ndO zeroN)) := (Below.refl _ _).alloc (Nat.le_refl _) _
  have hb0 : (w.alloc (ndO zeroN)).heap[w.heap.size]? = some (ndO zeroN) := heap_alloc_new _ _
  go_enter Tryz.func82, Tryz.ntmps82
  cases h1 : (s.toList == ([35, 116] : List UInt8)) with
  | true =>
    have HW : Hid (wordNd s = ⟨2, 1, ByteArray.empty, 0, 0⟩ ∧ wordOk s = true) := by
      have h2 := HT.out.symm.trans h1
      unfold Hid wordNd wordOk
      rw [h2]
      exact ⟨rfl, rfl⟩
    clear HT HF
    go_wp2_with fail
    exact bodyPost_ret (results_row_tmp rfl _ _ w.heap.size 92 _ (0, 0) _ rfl (heap_alloc_new _ _) Tryz.underlying92 rfl Tryz.sizeN) rfl ⟨by rw [HW.out.1, HW.out.2]; rfl, (Below.refl _ _).alloc (Nat.le_refl _) _⟩
  | false =>
    have HT2 : Hid (isT s = false) := HT.out.symm.trans h1
    clear HT
    cases h2 : (s.toList == ([35, 102] : List UInt8)) with
    | true =>
      have HW : Hid (wordNd s = ⟨2, 0, ByteArray.empty, 0, 0⟩ ∧ wordOk s = true) := by
        have h2 := HF.out.symm.trans h2
        unfold Hid wordNd wordOk
        rw [HT2.out, h2]
        exact ⟨rfl, rfl⟩
      clear HF
      go_wp2_with fail
      exact bodyPost_ret (results_row_tmp rfl _ _ w.heap.size 92 _ (0, 0) _ rfl (heap_alloc_new _ _) Tryz.underlying92 rfl Tryz.sizeN) rfl ⟨by rw [HW.out.1, HW.out.2]; rfl, (Below.refl _ _).alloc (Nat.le_refl _) _⟩
    | false =>
      have HF2 : Hid (isF s = false) := HF.out.symm.trans h2
      clear HF
      go_wp2_with fail
      refine (snum_any s _ hs).mono ?_
      rintro e w1 ⟨x, rfl, hx, hb1⟩
      have hq1 := (hb1.block _ (by simp)).trans hb0
      have hB1 := hB0.trans (hb1.mono hB0.size)
      clear hb0 hB0 hb1
      cases hn : numB s.data.toList with
      | true =>
        have HW : Hid (wordNd s = ⟨3, x, ByteArray.empty, 0, 0⟩ ∧ wordOk s = true) := by
          unfold Hid wordNd wordOk
          rw [HT2.out, HF2.out, hn, hx hn]
          exact ⟨rfl, rfl⟩
        clear hx
        go_wp2_with (refine wpList_store_nd rfl _ _ rfl w.heap.size (⟨3, x, ByteArray.empty, 0, 0⟩) rfl rfl zeroN hq1 ?_)
        intro w5 h5 b5 hs5
        go_wp2_with fail
        exact bodyPost_ret (results_row_tmp rfl _ _ w.heap.size 92 _ (0, 0) _ rfl h5 Tryz.underlying92 rfl Tryz.sizeN) rfl ⟨by rw [HW.out.1, HW.out.2]; rfl, hB1.trans b5⟩
      | false =>
        have HW : Hid (wordNd s = ⟨4, 0, s, 0, 0⟩ ∧ wordOk s = nameB s) := by
          unfold Hid wordNd wordOk
          rw [HT2.out, HF2.out, hn]
          exact ⟨rfl, rfl⟩
        clear hx
        go_wp2_with fail
        refine (sname_any s _ hs).mono ?_
        rintro e w2 ⟨rfl, rfl⟩
        go_wp2_with (refine wpList_store_nd rfl _ _ rfl w.heap.size (⟨4, 0, s, 0, 0⟩) rfl rfl zeroN hq1 ?_)
        intro w5 h5 b5 hs5
        go_wp2_with fail
        exact bodyPost_ret (results_row_tmp rfl _ _ w.heap.size 92 _ (0, 0) _ rfl h5 Tryz.underlying92 rfl Tryz.sizeN) rfl ⟨by rw [HW.out.1, HW.out.2]; rfl, hB1.trans b5⟩
end Go.Proofs.YtkchakcebdenjaaGreat
/-
  How a text is read, byte by byte: plain mathematics. Nothing of the program; no condition.
-/
namespace Go.Proofs.YtkchakcebdenjaaGreat
open Go.RowKit
structure RS where
  ns : List Nd
  lo : List (Int × List Int)
  a : Int
  vs : List Int
inductive RdR where
  | bad (how place : Int)
  | ok (s : RS)
def RdR.andThen : RdR → (RS → RdR) → RdR
  | .bad h p, _ => .bad h p
  | .ok s, f => f s
def RS.put (s : RS) (ys : List Nd) : RS := ⟨s.ns ++ ys, s.lo, s.a, s.vs ++ [((s.ns.length + ys.length - 1 : Nat) : Int)]⟩
def rdWord (t : ByteArray) (f i : Nat) (s : RS) : RdR := if wordOk (t.extract f i) then .ok (s.put [wordNd (t.extract f i)]) else .bad 3 f
def rdClose (i : Nat) (s : RS) : RdR := match s.lo.getLast? with
  | none => .bad 5 i
  | some p => .ok ((⟨s.ns, s.lo.dropLast, p.1, p.2⟩ : RS).put (more s.vs s.ns.length 0))
def rdMark (b : Int) (i : Nat) (s : RS) : RdR :=
  if b = 32 then .ok s else if b = 40 then .ok ⟨s.ns, s.lo ++ [(s.a, s.vs)], i, []⟩
  else if b = 41 then rdClose i s else .bad 2 i
def rd (t : ByteArray) (f i : Nat) (s : RS) : RdR :=
  if h : i < t.size then
    if wb (t[i].toNat : Int) then rd t f (i + 1) s
    else (if f < i then rdWord t f i s else .ok s).andThen fun s1 => (rdMark (t[i].toNat : Int) i s1).andThen fun s2 => rd t (i + 1) (i + 1) s2
  else if f < i then rdWord t f i s else .ok s
termination_by t.size - i
theorem rd_in {t : ByteArray} {f i : Nat} {s : RS} (h : i < t.size) (hw : wb (t[i].toNat : Int) = true) : rd t f i s = rd t f (i + 1) s := by
  rw [rd, dif_pos h, if_pos hw]
theorem rd_mark {t : ByteArray} {i : Nat} {s : RS} (h : i < t.size) (hw : wb (t[i].toNat : Int) = false) : rd t i i s = (rdMark (t[i].toNat : Int) i s).andThen fun s2 => rd t (i + 1) (i + 1) s2 := by
  rw [rd, dif_pos h, if_neg (by rw [hw]; decide), if_neg (by omega)]
  rfl
theorem rd_done (t : ByteArray) (s : RS) : rd t t.size t.size s = .ok s := by
  rw [rd, dif_neg (by omega), if_neg (by omega)]
theorem rd_end {t : ByteArray} {f i : Nat} {s : RS} (hf : f < i) (hi : i ≤ t.size) (hw : ∀ h : i < t.size, wb (t[i].toNat : Int) = false) : rd t f i s = (rdWord t f i s).andThen fun s1 => rd t i i s1 := by
  by_cases h : i < t.size
  · rw [rd, dif_pos h, if_neg (by rw [hw h]; decide), if_pos hf]
    congr 1
    funext s1
    rw [rd_mark h (hw h)]
  · have e : i = t.size := by omega
    subst e
    rw [rd, dif_neg h, if_pos hf]
    cases rdWord t f t.size s with
    | bad a b => rfl
    | ok s1 => exact (rd_done t s1).symm
theorem rd_skip {t : ByteArray} {f : Nat} {s : RS} (j : Nat) : ∀ i, i ≤ j → j ≤ t.size → (∀ k (h : k < t.size), i ≤ k → k < j → wb (t[k].toNat : Int) = true) → rd t f i s = rd t f j s := by
  intro i hij
  induction h : j - i generalizing i with
  | zero => intro _ _; rw [show i = j by omega]
  | succ n ih =>
    intro hj hk
    rw [rd_in (by omega) (hk i (by omega) (Nat.le_refl _) (by omega))]
    exact ih (i + 1) (by omega) (by omega) hj (fun k h h1 h2 => hk k h (by omega) h2)
structure Fits (n i : Nat) (s : RS) : Prop where
  ns : s.ns.length ≤ n + 401 * i
  lo : s.lo.length ≤ i
  vs : s.vs.length ≤ i
  all : ∀ p ∈ s.lo, p.2.length ≤ i
  txt : ∀ x ∈ s.ns, x.s.size ≤ maxLen
theorem Fits.mono {n i j : Nat} {s : RS} (h : Fits n i s) (hij : i ≤ j) : Fits n j s :=
  ⟨by have := h.ns; omega, by have := h.lo; omega, by have := h.vs; omega, fun p hp => by have := h.all p hp; omega, h.txt⟩
theorem Fits.word {n i : Nat} {s : RS} (h : Fits n i s) (x : Nd) (hx : x.s.size ≤ maxLen) : Fits n (i + 1) (s.put [x]) := by
  refine ⟨?_, ?_, ?_, ?_, ?_⟩
  · have := h.ns; simp [RS.put]; omega
  · have := h.lo; simp [RS.put]; omega
  · have := h.vs; simp [RS.put]; omega
  · intro p hp; have := h.all p hp; omega
  · intro y hy
    rcases List.mem_append.1 hy with hy | hy
    · exact h.txt y hy
    · rw [List.mem_singleton] at hy; subst hy; exact hx
theorem Fits.mark {n i : Nat} {s s2 : RS} {b : Int} {p : Nat} (h : Fits n i s) (hi : i ≤ 400) (e : rdMark b p s = .ok s2) : Fits n (i + 1) s2 := by
  unfold rdMark at e
  split at e
  · cases e; exact h.mono (by omega)
  split at e
  · cases e
    refine ⟨by have := h.ns; simp only; omega, by have := h.lo; simp; omega, by simp, fun q hq => ?_, h.txt⟩
    simp only [List.mem_append, List.mem_singleton] at hq
    rcases hq with hq | rfl
    · have := h.all q hq; omega
    · have := h.vs; simp only; omega
  split at e
  · unfold rdClose at e
    split at e
    · cases e
    · rename_i q hq
      cases e
      have hm := List.mem_of_getLast? hq
      have h1 := h.all q hm
      refine ⟨?_, ?_, ?_, ?_, ?_⟩
      · have := h.ns; have := h.vs; simp [RS.put, more_length]; omega
      · have := h.lo; simp [RS.put]; omega
      · simp [RS.put]; omega
      · intro r hr
        have := h.all r (List.dropLast_subset _ hr)
        omega
      · intro y hy
        rcases List.mem_append.1 hy with hy | hy
        · exact h.txt y hy
        · exact more_ok _ _ _ y hy
  · cases e
end Go.Proofs.YtkchakcebdenjaaGreat
/-
  Contract of spec's l2Add: a node behind the pool that a pointer leads to.
-/
namespace Go.Proofs.YtkchakcebdenjaaGreat
open Go.RowKit
set_option maxHeartbeats 1600000 in
theorem sadd_any (b base : Nat) (ao : Option Addr) (cap : Nat) (xs : List Nd) (x : Nd) (w : World) (hb : w.heap[b]? = some (.cells #[.slice ao xs.length cap] 29 (0, 0))) (ho : w.ownsRow base 92 5 (.slice ao xs.length cap) xs.length (ncs xs))
    (hm : xs.length ≤ 2097152) (hbb : base ≤ b) :
    Calls Tryz.prog 50 #[.pointer (some ⟨b, 0, none⟩), .agg #[.int .i64 x.k, .int .i64 x.n, .string x.s, .int .i64 x.a, .int .i64 x.b]] w fun e w' =>
      ∃ v', e = .returned (.int .i64 xs.length) ∧ w'.heap[b]? = some (.cells #[v'] 29 (0, 0)) ∧ w'.ownsRow base 92 5 v' (xs ++ [x]).length (ncs (xs ++ [x])) ∧ Below base w w' := by
  obtain ⟨i0, hi, hz0, hz1, hz2⟩ := info_parts Tryz.infoN
  have hlt : b < w.heap.size := (Array.getElem?_eq_some_iff.1 hb).1
  have hcb : w.cell? ⟨b, 0, none⟩ = some (.slice ao xs.length cap) := by rw [cell_of_row w b 0 _ _ _ hb]; rfl
  have hne : b ≠ w.heap.size := by omega
  go_enter Tryz.func50, Tryz.ntmps50
  go_wp2_with fail
  go_region_law (refine step_append_lies _ rfl _ _ 27 rfl base 92 i0 _ 5 48 Tryz.underlying27 hi hz0 hz1 hz2 rfl (by decide) _ _ _ rfl ((ho.alloc _).alloc _) ⟨w.heap.size + 1, 0, none⟩ 1 1 (ncs [x]) rfl rfl (World.news_of_block (cs := #[.int .i64 x.k, .int .i64 x.n, .string x.s, .int .i64 x.a, .int .i64 x.b]) (t := 92) (fr := (0, 0)) (heap_alloc2_new w _ _)) (ncs_one _) (by omega) (by unfold maxLen; omega) (by omega) (by simp; omega) (w.heap.size + 2) (by simp) ?_; intro g capg w1 hown hgrow hat hgl; have hb1 : w1.heap[b]? = some (.cells #[.slice ao xs.length cap] 29 (0, 0)) := (hgrow.block b (by simp; omega) (fun e => own_ne ho hb (by decide) e.symm)).trans ((heap_alloc_old _ _ (by simp; omega)).trans ((heap_alloc_old _ _ hlt).trans hb)); have kb1 : w1.cell? ⟨b, 0, none⟩ = some (.slice ao xs.length cap) := cell_of_row w1 b 0 _ _ _ hb1; have fb1 : w1.frozen? ⟨b, 0, none⟩ = false := frozen_of_row w1 b 0 _ _ hb1)
  all_goals
    have hown2 : w1.ownsRow base 92 5 (.slice (some ⟨g, 0, none⟩) (xs.length + 1) capg) (xs ++ [x]).length (ncs (xs ++ [x])) := by
      rw [ncs_append, List.length_append]
      exact hown
    have hs0 : base ≤ w.heap.size := by omega
    have hB1 : Below base w w1 := (((Below.refl base w).alloc hs0 _).drew.alloc (by simp; omega) _).grown hgrow (by simp; omega) (fun k hk => (ho.lt k hk).1)
    have hB2 := hB1.setCell (p := ⟨b, 0, none⟩) hbb (.slice (some ⟨g, 0, none⟩) (xs.length + 1) capg)
    have ho2 := ownsRow_setCell_other hown2 (a := ⟨b, 0, none⟩) (own_ne hown2 hb1 (by decide)) (.slice (some ⟨g, 0, none⟩) (xs.length + 1) capg)
    have hb2 := heap_setCell_same w1 b 0 _ _ (.slice (some ⟨g, 0, none⟩) (xs.length + 1) capg) hb1
    clear hown hgrow hat hcb hb
    go_wp2
    go_ret
    exact ⟨_, by simp, hb2, ho2, hB2⟩
end Go.Proofs.YtkchakcebdenjaaGreat
/-
  Contract of spec's l2List: a list behind the pool that a pointer leads to.
-/
namespace Go.Proofs.YtkchakcebdenjaaGreat
open Go.RowKit
end Go.Proofs.YtkchakcebdenjaaGreat
/-
  Contracts of spec's l2Add and l2List once more: where the list is a row of the call's own.
-/
namespace Go.Proofs.YtkchakcebdenjaaGreat
open Go.RowKit
theorem own_same {w w' : World} {B k n : Nat} {e : TypeId} {v : Value} {l : List Value} (h : w.ownsRow B e k v n l) (hb : ∀ j, v.ownBlock = some j → w'.heap[j]? = w.heap[j]?) : w'.ownsRow B e k v n l := by
  refine ⟨h.1, ?_⟩
  rcases h.2 with ⟨rfl, h0⟩ | ⟨g, cap, cur, rfl, hB, hg, hr⟩
  · exact Or.inl ⟨rfl, h0⟩
  · exact Or.inr ⟨g, cap, cur, rfl, hB, (hb g rfl).trans hg, hr⟩
end Go.Proofs.YtkchakcebdenjaaGreat
