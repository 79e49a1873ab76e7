/-
  Texts that stood by themselves, laid into one.
-/
import Derived.Test.YtdkkpopnoeapdaaGreatDoorListOfM
/-
  Contracts of impl's with and Make, and of spec's l2Copy and Make: a node behind a pool.
-/
namespace Go.Proofs.YtdkkpopnoeapdaaGreatDoor
open Go.RowKit

/-- 'append' onto a row of the call's own, whatever is appended. -/
theorem wpList_append_own_any {P : Program} (w : World) {ops : Array Oper} {rest : List Oper} {o : Oper} {a : Act} {Q : Exit → Act → World → Prop}
    (hg : o.guard = none) (s x : Operand) (t : TypeId) (hop : o.op = Op.call { callee := Callee.builtin Builtin.append, args := #[s, x], argTypes := #[t, t] })
    (base : Nat) (e : TypeId) (i : TypeInfo) (z : Value) (size bytes : Nat) (h1 : P.underlying t = some (.slice e)) (h2 : P.info? e = some i) (h3 : i.zero = some z) (h4 : i.size = size) (h5 : i.bytes = bytes) (h6 : z.cells.size = size) (h7 : 0 < size)
    (v : Value) (k : Nat) (xs : List Value) (hs : a.eval s = v) (hown : w.ownsRow base e size v k xs) (ao : Option Addr) (m c : Nat) (news : List Value) (hx : a.eval x = .slice ao m c) (hn : news.length = m * size)
    (hnone : ao = none → m = 0 ∧ c = 0) (hc : ∀ ad, ao = some ad → ∀ j u, news[j]? = some u → w.cell? (ad.add j) = some u) (h1c : ∀ u ∈ news, u.oneCell' = true) (b1 : k + m ≤ maxLen) (b2 : (k + m) * bytes ≤ 140737488355328) (b3 : base ≤ w.heap.size)
    (hK : ∀ v' w', w'.ownsRow base e size v' (k + m) (xs ++ news) → w.grownBy w' v.ownBlock → wpList P ops Q rest (a.put o.dst v') w') :
    wpList P ops Q (o :: rest) a w := by
  cases ao with
  | some ad => exact wpList_append_own w hg s x t hop base e i z size bytes h1 h2 h3 h4 h5 h6 h7 v k xs hs hown ad m c news hx hn (hc ad rfl) h1c b1 b2 b3 (fun v' w' h1 h2 _ => hK v' w' h1 h2)
  | none =>
    obtain ⟨rfl, rfl⟩ := hnone rfl
    have hnews : news = [] := List.eq_nil_of_length_eq_zero (by simpa using hn)
    subst hnews
    refine wpList_plain hg fun K hK' => ?_
    have hrun := run_append_owned_none (P := P) w base t o.type e i size h1 h2 _ k xs hown
    unfold Oper.wp
    simp [execOp, hop, resolve, invoke, builtin, hs, hx, hrun, Result.andThen]
    exact hK' _ _ (by simpa using hK v w (by simpa using hown) (World.grownBy.refl _ _))

theorem NRow.nilcap {w : World} {ao : Option Addr} {n cap : Nat} {xs : List Nd} (h : NRow w (.slice ao n cap) xs) : ao = none → n = 0 ∧ cap = 0 := by
  obtain ⟨ao', cap', e, ⟨h1, h2⟩, _⟩ := h
  simp only [Value.slice.injEq] at e
  obtain ⟨rfl, rfl, rfl⟩ := e
  intro h
  have := h2 h
  omega

theorem Tryz.sizeP : (Tryz.prog.info? 39).map (·.size) = some 1 := by kernel_rfl

set_option maxHeartbeats 800000 in
theorem with_any (v vm : Value) (xs ys : List Nd) (w : World) (R : NRow w v xs) (Rm : NRow w vm ys) (hm : xs.length + ys.length ≤ 4194304) :
    Calls Tryz.prog 79 #[.agg #[v], vm] w fun e w' => ∃ v', e = .returned (.agg #[v']) ∧ w'.ownsRow w.heap.size 119 5 v' (xs ++ ys).length (ncs (xs ++ ys)) ∧ Below w.heap.size w w' := by
  have R' := R
  have Rm' := Rm
  obtain ⟨ao, cap, rfl, hcap, _, _, _⟩ := R'
  obtain ⟨am, capm, rfl, hcapm, _, _, _⟩ := Rm'
  obtain ⟨i0, hi, hz0, hz1, hz2⟩ := info_parts Tryz.infoN
  have hbytes : i0.bytes * (xs.length + ys.length) ≤ 281474976710656 := by rw [hz2]; omega
  have hmax : xs.length + ys.length ≤ maxLen := by unfold maxLen; omega
  go_enter Tryz.func79, Tryz.ntmps79
  go_wp2_with (at_make; refine wpList_make_own _ rfl _ _ 37 rfl (w.heap.size + 2) 119 i0 _ 5 Tryz.underlying37 hi hz0 hz1 _ _ _ (xs.length + ys.length) rfl rfl (by omega) hbytes hmax (by simp) ?_)
  intro w1 hown hgrow
  have hbel : Below (w.heap.size + 2) ((w.alloc (Obj.cells #[.slice ao xs.length cap] 39)).alloc (Obj.cells #[.slice none 0 0] 39)) w1 := (Below.refl _ _).grown hgrow (by simp) (by intro k hk; cases hk)
  have hB0 : Below w.heap.size w ((w.alloc (Obj.cells #[.slice ao xs.length cap] 39)).alloc (Obj.cells #[.slice none 0 0] 39)) := ((Below.refl _ _).alloc (Nat.le_refl _) _).alloc (by simp) _
  have hB1 : Below w.heap.size w w1 := hB0.trans (hbel.mono (by omega))
  have hx1 : w1.heap[w.heap.size]? = some (.cells #[.slice ao xs.length cap] 39 (0, 0)) := (hbel.block _ (by omega)).trans (heap_alloc2_old _ _ _)
  have hy1 : w1.heap[w.heap.size + 1]? = some (.cells #[.slice none 0 0] 39 (0, 0)) := (hbel.block _ (by omega)).trans (heap_alloc2_new _ _ _)
  have hc1 : w1.cell? ⟨w.heap.size, 0, none⟩ = some (.slice ao xs.length cap) := by rw [cell_of_row w1 _ 0 _ _ _ hx1]; rfl
  have R1 := R.below hB1
  have Rm1 := Rm.below hB1
  clear hgrow
  go_wp2_with (at_builtin; refine wpList_append_fits_any _ rfl _ _ 37 rfl (w.heap.size + 2) 119 i0 5 Tryz.underlying37 hi hz1 _ 0 _ [] rfl hown ao xs.length cap (ncs xs) rfl (by rw [ncs_length]) R1.nilcap R1.cells (ncs_one xs) (by omega) ?_)
  intro w2 hown2 hg2
  have hbel2 : Below (w.heap.size + 2) w1 w2 := (Below.refl _ _).grown hg2 (by have := hbel.size; simp at this; omega) (fun k hk => by simp at hk; omega)
  have hB2 := hB1.trans (hbel2.mono (by omega))
  have hx2 := (hbel2.block _ (by omega)).trans hx1
  have hy2 := (hbel2.block _ (by omega)).trans hy1
  have Rm2 := Rm.below hB2
  clear hg2 hown R1 Rm1 hx1 hy1 hc1 hB1 hbel
  go_wp2_with (at_builtin; refine wpList_append_fits_any _ rfl _ _ 37 rfl (w.heap.size + 2) 119 i0 5 Tryz.underlying37 hi hz1 _ _ _ _ rfl hown2 am ys.length capm (ncs ys) rfl (by rw [ncs_length]) Rm2.nilcap Rm2.cells (ncs_one ys) (by omega) ?_)
  intro w3 hown3 hg3
  have hbel3 : Below (w.heap.size + 2) w2 w3 := (Below.refl _ _).grown hg3 (by have := hB2.size; have := (Array.getElem?_eq_some_iff.1 hy2).1; omega) (fun k hk => by simp at hk; omega)
  have hB3 := hB2.trans (hbel3.mono (by omega))
  have hy3 := (hbel3.block _ (by omega)).trans hy2
  have c3 : w3.cell? ⟨w.heap.size + 1, 0, none⟩ = some (.slice none 0 0) := by rw [cell_of_row w3 _ 0 _ _ _ hy3]; rfl
  have f3 : w3.frozen? ⟨w.heap.size + 1, 0, none⟩ = false := frozen_of_row w3 _ 0 _ _ hy3
  clear hg3 hown2 hx2 hy2 Rm2 hB2 hbel2 hbel3
  go_wp2
  have hb4 := heap_setCell_same w3 (w.heap.size + 1) 0 _ _ (.slice (some ⟨w.heap.size + 1 + 1, 0, none⟩) (xs.length + ys.length) (xs.length + ys.length)) hy3
  refine bodyPost_ret (results_cell_row rfl _ _ (w.heap.size + 1) 39 _ (0, 0) _ rfl hb4 Tryz.underlying39 rfl Tryz.sizeP) rfl ⟨_, rfl, ?_, ?_⟩
  · have := own_mono (B' := w.heap.size) (ownsRow_setCell_below hown3 (a := ⟨w.heap.size + 1, 0, none⟩) (by simp) (.slice (some ⟨w.heap.size + 1 + 1, 0, none⟩) (xs.length + ys.length) (xs.length + ys.length))) (by omega)
    simpa [ncs_append] using this
  · exact hB3.setCell (p := ⟨w.heap.size + 1, 0, none⟩) (by simp) _

set_option maxHeartbeats 800000 in
theorem scopy_any (v : Value) (xs : List Nd) (w : World) (R : NRow w v xs) (hm : xs.length ≤ 4194304) :
    Calls Tryz.prog 103 #[.agg #[v]] w fun e w' => ∃ v', e = .returned (.agg #[v']) ∧ w'.ownsRow w.heap.size 119 5 v' xs.length (ncs xs) ∧ Below w.heap.size w w' := by
  have R' := R
  obtain ⟨ao, cap, rfl, hcap, _, _, _⟩ := R'
  obtain ⟨i0, hi, hz0, hz1, hz2⟩ := info_parts Tryz.infoN
  have hB0 : Below w.heap.size w (((w.alloc (Obj.cells #[.slice ao xs.length cap] 39)).alloc (Obj.cells #[.slice none 0 0] 39)).alloc (Obj.cells #[] 119)) := (((Below.refl _ _).alloc (Nat.le_refl _) _).alloc (by simp) _).alloc (by simp; omega) _
  have R1 := R.below hB0
  have own1 : (((w.alloc (Obj.cells #[.slice ao xs.length cap] 39)).alloc (Obj.cells #[.slice none 0 0] 39)).alloc (Obj.cells #[] 119)).ownsRow (w.heap.size + 2) 119 5 (.slice (some ⟨w.heap.size + 1 + 1, 0, none⟩) 0 0) 0 (ncs []) := by
    have := World.ownsRow_made (base := w.heap.size + 2) (e := 119) (size := 5) ((w.alloc (Obj.cells #[.slice ao xs.length cap] 39)).alloc (Obj.cells #[.slice none 0 0] 39)) #[] 0 (by simp) (by simp) (by simp)
    simpa [ncs_nil] using this
  go_enter Tryz.func103, Tryz.ntmps103
  go_wp2_with (at_builtin; refine wpList_append_own_any _ rfl _ _ 37 rfl (w.heap.size + 2) 119 i0 _ 5 48 Tryz.underlying37 hi hz0 hz1 hz2 rfl (by decide) _ 0 _ rfl own1 ao xs.length cap (ncs xs) rfl (by rw [ncs_length]) R1.nilcap R1.cells (ncs_one xs) (by unfold maxLen; omega) (by omega) (by simp) ?_)
  intro v2 w2 hown2 hg2
  obtain ⟨ao2, cap2, rfl⟩ := own_form hown2
  have hbel2 : Below (w.heap.size + 2) (((w.alloc (Obj.cells #[.slice ao xs.length cap] 39)).alloc (Obj.cells #[.slice none 0 0] 39)).alloc (Obj.cells #[] 119)) w2 := (Below.refl _ _).grown hg2 (by simp) (fun k hk => by simp [Value.ownBlock] at hk; omega)
  have hB2 := hB0.trans (hbel2.mono (by omega))
  have hy2 : w2.heap[w.heap.size + 1]? = some (.cells #[.slice none 0 0] 39 (0, 0)) := (hbel2.block _ (by omega)).trans ((heap_alloc_old _ _ (by simp)).trans (heap_alloc2_new _ _ _))
  have c3 : w2.cell? ⟨w.heap.size + 1, 0, none⟩ = some (.slice none 0 0) := by rw [cell_of_row w2 _ 0 _ _ _ hy2]; rfl
  have f3 : w2.frozen? ⟨w.heap.size + 1, 0, none⟩ = false := frozen_of_row w2 _ 0 _ _ hy2
  clear hg2 R1 own1 hbel2
  go_wp2
  have hb4 := heap_setCell_same w2 (w.heap.size + 1) 0 _ _ (.slice ao2 xs.length cap2) hy2
  refine bodyPost_ret (results_cell_row rfl _ _ (w.heap.size + 1) 39 _ (0, 0) _ (by simp) hb4 Tryz.underlying39 rfl Tryz.sizeP) rfl ⟨_, rfl, ?_, ?_⟩
  · have := own_mono (B' := w.heap.size) (ownsRow_setCell_below hown2 (a := ⟨w.heap.size + 1, 0, none⟩) (by simp) (.slice ao2 xs.length cap2)) (by omega)
    simpa [ncs_nil] using this
  · exact hB2.setCell (p := ⟨w.heap.size + 1, 0, none⟩) (by simp) _
end Go.Proofs.YtdkkpopnoeapdaaGreatDoor

/-
  Contracts of impl.Make and spec.Make: a node behind a pool, or the pool as it was.
-/
namespace Go.Proofs.YtdkkpopnoeapdaaGreatDoor
open Go.RowKit

/-- What Make leaves of the nodes xs and the node x, and the number that it tells. -/
def makeL (xs : List Nd) (x : Nd) : List Nd := if poolB xs = true then (if xs.length ≠ 3000 ∧ nodeB x xs.length = true then xs ++ [x] else xs) else []
def makeI (xs : List Nd) (x : Nd) : Int := if poolB xs = true then (if xs.length ≠ 3000 ∧ nodeB x xs.length = true then xs.length else -1) else -1

theorem NRow.nil0 (w : World) : NRow w (.slice none 0 0) [] := ⟨none, 0, rfl, by simp, by simp, by simp, fun h => absurd rfl h⟩
theorem own_lit1 (w : World) (x : Nd) (base : Nat) (hb : base ≤ w.heap.size) :
    (w.alloc (Obj.cells #[.int .i64 x.k, .int .i64 x.n, .string x.s, .int .i64 x.a, .int .i64 x.b] 119)).ownsRow base 119 5 (.slice (some ⟨w.heap.size, 0, none⟩) 1 1) 1 (ncs [x]) :=
  World.ownsRow_lit (e := 119) (size := 5) w #[.int .i64 x.k, .int .i64 x.n, .string x.s, .int .i64 x.a, .int .i64 x.b] 1 hb (by unfold maxLen; omega) rfl
theorem NRow.lit1 (w : World) (x : Nd) (hs : x.s.size ≤ maxLen) : NRow (w.alloc (Obj.cells #[.int .i64 x.k, .int .i64 x.n, .string x.s, .int .i64 x.a, .int .i64 x.b] 119)) (.slice (some ⟨w.heap.size, 0, none⟩) 1 1) [x] :=
  NRow.of_own (own_lit1 w x w.heap.size (Nat.le_refl _)) (by simp) (by simpa using hs)

/-- A slice of the call's own laid into the cell of a pool. -/
theorem put_pool {B base0 base1 n cap : Nat} {w0 w2 : World} {ao : Option Addr} {xs : List Value} (hy : w2.heap[B]? = some (.cells #[.slice none 0 0] 39 (0, 0))) (ho : w2.ownsRow base1 119 5 (.slice ao n cap) n xs)
    (hB : Below base0 w0 w2) (h1 : B < base1) (h2 : base0 ≤ B) :
    (w2.setCell ⟨B, 0, none⟩ (.slice ao n cap)).heap[B]? = some (.cells #[.slice ao n cap] 39 (0, 0)) ∧ (w2.setCell ⟨B, 0, none⟩ (.slice ao n cap)).ownsRow base0 119 5 (.slice ao n cap) n xs ∧ Below base0 w0 (w2.setCell ⟨B, 0, none⟩ (.slice ao n cap)) :=
  ⟨heap_setCell_same w2 B 0 _ _ _ hy, own_mono (ownsRow_setCell_below ho (a := ⟨B, 0, none⟩) h1 _) (by omega), hB.setCell (p := ⟨B, 0, none⟩) h2 _⟩

end Go.Proofs.YtdkkpopnoeapdaaGreatDoor

/-
  Contracts of the laws' own helpers eqIntS, markIntS, heldIntS.
-/
namespace Go.Proofs.YtdkkpopnoeapdaaGreatDoor
open Go.RowKit

/-- The slice value v reads in w as the ints zs. -/
def IRow (w : World) (v : Value) (zs : List Int) : Prop :=
  ∃ ao cap, v = .slice ao zs.length cap ∧ (zs.length ≤ cap ∧ (ao = none → cap = 0)) ∧ zs.length ≤ 9223372036854775807 ∧ (zs ≠ [] → ∃ g o, ao = some ⟨g, o, none⟩ ∧ g < w.heap.size ∧ ∀ i, i < zs.length → w.cell? ⟨g, o + i, none⟩ = some (.int .i64 (zs.getD i 0)))
theorem IRow.below {w w' : World} {v : Value} {zs : List Int} (h : IRow w v zs) (hb : Below w.heap.size w w') : IRow w' v zs := by
  obtain ⟨ao, cap, rfl, hc, hm, hcell⟩ := h
  refine ⟨ao, cap, rfl, hc, hm, fun hne => ?_⟩
  obtain ⟨g, o, rfl, hg, hcell⟩ := hcell hne
  exact ⟨g, o, rfl, Nat.lt_of_lt_of_le hg hb.size, fun i hi => (hb.cell (p := ⟨g, o + i, none⟩) hg).trans (hcell i hi)⟩
theorem IRow.of_own {w : World} {base : Nat} {v : Value} {zs : List Int} (h : w.ownsRow base 3 1 v zs.length (iv zs)) (hm : zs.length ≤ 9223372036854775807) : IRow w v zs := by
  rcases h.2 with ⟨rfl, h0⟩ | ⟨g, cap, cur, rfl, hb, hg, hnc, hcm, hcs, htake⟩
  · have : zs = [] := List.eq_nil_of_length_eq_zero h0
    subst this
    exact ⟨none, 0, rfl, by simp, by simp, fun h => absurd rfl h⟩
  · refine ⟨_, cap, rfl, ⟨hnc, fun h => by cases h⟩, hm, fun _ => ⟨g, 0, rfl, (Array.getElem?_eq_some_iff.1 hg).1, fun i hi => ?_⟩⟩
    have := h.cellAt i (by omega)
    rw [Nat.zero_add, this, iv_get zs i hi]

/-- What lies in a slice of ints behind markIntS from k on, when i of them are written and zs stood there. -/
def imarked (k : Int) (zs : List Int) (i : Nat) : List Int := (List.range i).map (fun (j : Nat) => k + (j : Int)) ++ zs.drop i
theorem imarked_zero (k : Int) (zs : List Int) : imarked k zs 0 = zs := by simp [imarked]
theorem imarked_length (k : Int) (zs : List Int) (i : Nat) (h : i ≤ zs.length) : (imarked k zs i).length = zs.length := by simp [imarked]; omega
theorem imarked_set (k : Int) (zs : List Int) (i : Nat) (h : i < zs.length) : (imarked k zs i).set i (k + (i : Int)) = imarked k zs (i + 1) := by
  unfold imarked
  rw [List.range_succ, List.map_append, List.set_append_right _ _ (by simp), List.drop_eq_getElem_cons h, List.append_assoc]
  have e : i - (List.map (fun (j : Nat) => k + (j : Int)) (List.range i)).length = 0 := by simp
  rw [e]
  rfl
theorem imarked_get (k : Int) (zs : List Int) (i : Nat) (h : i < zs.length) : (imarked k zs zs.length).getD i 0 = k + (i : Int) := by
  simp [imarked, List.getD, h]

end Go.Proofs.YtdkkpopnoeapdaaGreatDoor

/-
  What MakeList makes, and the contracts of impl's hasAll and MakeList.
-/
namespace Go.Proofs.YtdkkpopnoeapdaaGreatDoor
open Go.RowKit

def nilN : Nd := ⟨1, 0, ByteArray.empty, 0, 0⟩
def pairN (z : Int) (last : Nat) : Nd := ⟨5, 0, ByteArray.empty, z, last⟩
/-- The pairs of the values, the last one first, from the node 'last' on. -/
def pairsR : List Int → Nat → List Nd
  | [], _ => []
  | z :: r, last => pairN z last :: pairsR r (last + 1)
theorem pairsR_snoc (r : List Int) (z : Int) (last : Nat) : pairsR (r ++ [z]) last = pairsR r last ++ [pairN z (last + r.length)] := by
  induction r generalizing last with
  | nil => rfl
  | cons y r ih => simp only [List.cons_append, pairsR, ih, List.length_cons]; rw [show last + 1 + r.length = last + (r.length + 1) by omega]
theorem pairsR_length (r : List Int) (last : Nat) : (pairsR r last).length = r.length := by
  induction r generalizing last with
  | nil => rfl
  | cons y r ih => simp [pairsR, ih]
theorem pairsR_ok (r : List Int) (last : Nat) : ∀ x ∈ pairsR r last, x.s.size ≤ maxLen := by
  induction r generalizing last with
  | nil => simp [pairsR]
  | cons y r ih =>
    intro x hx
    simp only [pairsR, List.mem_cons] at hx
    rcases hx with rfl | hx
    · simp [pairN]
    · exact ih _ x hx
/-- The list so far, when the values from m on stand. -/
def more (zs : List Int) (n m : Nat) : List Nd := nilN :: pairsR (zs.drop m).reverse n
theorem more_length (zs : List Int) (n m : Nat) : (more zs n m).length = zs.length - m + 1 := by simp [more, pairsR_length]
theorem more_ok (zs : List Int) (n m : Nat) : ∀ x ∈ more zs n m, x.s.size ≤ maxLen := by
  intro x hx
  simp only [more, List.mem_cons] at hx
  rcases hx with rfl | hx
  · simp [nilN]
  · exact pairsR_ok _ _ x hx
theorem more_step (zs : List Int) (n m : Nat) (h : m < zs.length) : more zs n m = more zs n (m + 1) ++ [pairN zs[m] (n + (zs.length - (m + 1)))] := by
  unfold more
  rw [List.drop_eq_getElem_cons h, List.reverse_cons, pairsR_snoc]
  simp

def allI (xs : List Nd) (zs : List Int) : Bool := zs.all (hasI xs)
/-- What MakeList leaves, and the number that it tells. -/
def mlOk (xs : List Nd) (zs : List Int) : Bool := decide (xs.length + 1 + zs.length ≤ 3000) && allI xs zs
def mlL (xs : List Nd) (zs : List Int) : List Nd := if poolB xs = true then (if mlOk xs zs = true then xs ++ more zs xs.length 0 else xs) else []
def mlI (xs : List Nd) (zs : List Int) : Int := if poolB xs = true then (if mlOk xs zs = true then ((xs.length + zs.length : Nat) : Int) else -1) else -1

theorem all_drop (p : Int → Bool) (zs : List Int) (k : Nat) (h : k < zs.length) : (zs.drop k).all p = (p (zs.getD k 0) && (zs.drop (k + 1)).all p) := by
  rw [List.drop_eq_getElem_cons h, List.all_cons, List.getD_eq_getElem?_getD, List.getElem?_eq_getElem h]
  rfl

set_option maxHeartbeats 800000 in
theorem hasall_any (v vl : Value) (xs : List Nd) (zs : List Int) (w : World) (R : NRow w v xs) (L : IRow w vl zs) :
    Calls Tryz.prog 68 #[.agg #[v], vl] w fun e w' => e = .returned (.bool (allI xs zs)) ∧ Below w.heap.size w w' := by
  have R' := R
  obtain ⟨ao, cap, rfl, _⟩ := R'
  obtain ⟨al, cl, rfl, hcl, hlm, hcell⟩ := L
  go_enter Tryz.func68, Tryz.ntmps68
  go_wp2_with fail
  go_loopw [9] (fun i wr => ∃ k : Nat, k ≤ zs.length ∧ i = .int .i64 k ∧ Hid (allI xs zs = (zs.drop k).all (hasI xs)) ∧ wr.cell? ⟨w.heap.size, 0, none⟩ = some (.slice ao xs.length cap) ∧ w.heap.size < wr.heap.size ∧ Below w.heap.size w wr) (fun i _ => zs.length - (intOf i).toNat)
  case atStart => exact ⟨0, by omega, rfl, by simp [Hid, allI], by simp, by simp, (Below.refl _ _).alloc (Nat.le_refl _) _⟩
  case round =>
    obtain ⟨k, hk, rfl, HA, hbox, hbl, hb⟩ := hrel
    by_cases hlt : k < zs.length
    · obtain ⟨g, o, rfl, hg, hcell⟩ := hcell (by intro e; subst e; simp at hlt)
      have c0 := (hb.cell (p := ⟨g, o + k, none⟩) hg).trans (hcell k hlt)
      have HS : Hid (allI xs zs = (hasI xs (zs.getD k 0) && (zs.drop (k + 1)).all (hasI xs))) := by unfold Hid; rw [HA.out, all_drop _ _ _ hlt]
      clear hcell HA
      generalize zs.getD k 0 = z at c0 HS
      go_wp2_with fail
      refine (has_any _ xs _ _ (R.below hb)).mono ?_
      rintro e w2 ⟨rfl, hb2⟩
      have hB2 := hb.trans (hb2.mono hb.size)
      have hbox2 := (hb2.cell (p := ⟨w.heap.size, 0, none⟩) hbl).trans hbox
      have hbl2 := Nat.lt_of_lt_of_le hbl hb2.size
      clear c0 hb2 hbox hb
      generalize hA : hasI xs z = bA at HS ⊢
      clear hA
      cases bA with
      | false =>
        go_wp2
        go_ret
        exact ⟨by rw [HS.out]; rfl, hB2⟩
      | true =>
        go_wp2
        go_roundw
        case rel => exact ⟨k + 1, by omega, by go_num, by rw [HS.out]; rfl, hbox2, hbl2, hB2⟩
        case measure => simp [intOf]; omega
    · have e : k = zs.length := by omega
      subst e
      have HT : Hid (allI xs zs = true) := by unfold Hid; rw [HA.out, List.drop_length]; rfl
      clear HA
      go_wp2
      go_ret
      exact ⟨by rw [HT.out]; rfl, hb⟩

theorem own_nil1 (w : World) (base : Nat) (hb : base ≤ w.heap.size) :
    (w.alloc (Obj.cells #[.int .i64 1, .int .i64 0, .string ⟨#[]⟩, .int .i64 0, .int .i64 0] 119)).ownsRow base 119 5 (.slice (some ⟨w.heap.size, 0, none⟩) 1 1) 1 (ncs [nilN]) :=
  own_lit1 w nilN base hb
theorem NRow.pair1 (w : World) (z : Int) (last : Nat) : NRow (w.alloc (Obj.cells #[.int .i64 5, .int .i64 0, .string ⟨#[]⟩, .int .i64 z, .int .i64 last] 119)) (.slice (some ⟨w.heap.size, 0, none⟩) 1 1) [pairN z last] :=
  NRow.lit1 w (pairN z last) (by simp [pairN])

theorem wrap_two (a b : Int) (h0 : 0 ≤ a) (h1 : a ≤ 1000000) (h2 : 0 ≤ b) (h3 : b ≤ 1000000) : IntKind.i64.wrap (IntKind.i64.wrap (a + b) - 1) = a + b - 1 := by
  rw [IntKind.wrap_i64, IntKind.wrap_i64]; omega

end Go.Proofs.YtdkkpopnoeapdaaGreatDoor
