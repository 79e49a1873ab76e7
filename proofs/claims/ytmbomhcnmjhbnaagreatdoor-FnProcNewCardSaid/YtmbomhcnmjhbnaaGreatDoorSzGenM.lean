/-
  Texts that stood by themselves, laid into one.
-/
import Derived.Test.YtmbomhcnmjhbnaaGreatDoorDraw2M
import Derived.Test.YtmbomhcnmjhbnaaGreatDoorNameM
import Derived.Deep.MidRow
import Derived.Test.YtmbomhcnmjhbnaaGreatDoorSMakeM
import Derived.Deep.RegionHeld3
import Derived.Test.YtmbomhcnmjhbnaaGreatDoorMach3M
import Derived.Test.YtmbomhcnmjhbnaaGreatDoorMachM
import Derived.Test.YtmbomhcnmjhbnaaGreatDoorTo2M
/-
  A part of a block loaded, and stored: where it lies within a struct's variable. Nothing of the program; no condition.
-/
namespace Go.Proofs.YtmbomhcnmjhbnaaGreatDoor
open Go.RowKit

theorem wpList_load_sub {P : Program} {ops : Array Oper} {rest : List Oper} {op : Oper} {a : Act} {w : World} {Q : Exit → Act → World → Prop} (hgd : op.guard = none) (ty : TypeId) (x : Operand) (ho : op.op = .load ty x)
    (b o : Nat) (hx : a.eval x = .pointer (some ⟨b, o, none⟩)) (C : Array Value) (t : TypeId) (cs : Array Value) (d : TypeDesc) (hb : w.heap[b]? = some (.cells C t (0, 0))) (hc : C.extract o (o + cs.size) = cs)
    (hu : P.underlying ty = some d) (hd : d.isRow = true) (hi : (P.info? ty).map (·.size) = some cs.size)
    (h : wpList P ops Q rest (a.put op.dst (.agg cs)) w) : wpList P ops Q (op :: rest) a w := by
  have hr := World.rangeAt_of_block hb o cs.size
  rw [hc] at hr
  exact wpList_load_mid hgd ty x ho b o hx cs.toList d hr hu hd (by simpa using hi) (by simpa using h)

theorem setCells_blk (g : Nat) (e : TypeId) : ∀ (vs : List Value) (o : Nat) (w : World) (cur : Array Value), w.heap[g]? = some (.cells cur e (0, 0)) → o + vs.length ≤ cur.size →
    ∃ cur' : Array Value, (w.setCells g o vs).heap[g]? = some (.cells cur' e (0, 0)) ∧ cur'.toList = cur.toList.take o ++ (vs ++ cur.toList.drop (o + vs.length))
  | [], o, w, cur, h, hb => ⟨cur, h, by simp⟩
  | v :: r, o, w, cur, h, hb => by
    simp only [List.length_cons] at hb
    obtain ⟨cur', h1, h2⟩ := setCells_blk g e r (o + 1) (w.setCell ⟨g, o, none⟩ v) _ (heap_setCell_same w g o cur e v h) (by simp; omega)
    refine ⟨cur', h1, h2.trans ?_⟩
    obtain ⟨A, c, B, hc, hA⟩ : ∃ A c B, cur.toList = A ++ c :: B ∧ A.length = o := ⟨cur.toList.take o, cur.toList[o]'(by simp; omega), cur.toList.drop (o + 1), by rw [← List.drop_eq_getElem_cons]; exact (List.take_append_drop _ _).symm, by simp; omega⟩
    subst hA
    rw [Array.toList_setIfInBounds, hc]
    have e1 : A.length + 1 + r.length - A.length = r.length + 1 := by omega
    have e2 : A.length ≤ A.length + 1 + r.length := by omega
    simp [List.take_append, List.drop_append, List.take_of_length_le, List.drop_of_length_le, e1, e2]
theorem setCells_oth (g : Nat) : ∀ (vs : List Value) (o : Nat) (w : World) (k : Nat), k ≠ g → (w.setCells g o vs).heap[k]? = w.heap[k]?
  | [], _, _, _, _ => rfl
  | v :: r, o, w, k, hk => (setCells_oth g r (o + 1) _ k hk).trans (heap_setCell_other w ⟨g, o, none⟩ k v hk)
theorem setCells_sz (g : Nat) : ∀ (vs : List Value) (o : Nat) (w : World), (w.setCells g o vs).heap.size = w.heap.size
  | [], _, _ => rfl
  | v :: r, o, _ => (setCells_sz g r (o + 1) _).trans (by simp [World.setCell])
theorem setCells_bel (g : Nat) : ∀ (vs : List Value) (o : Nat) (w w0 : World), Below g w0 w → Below g w0 (w.setCells g o vs)
  | [], _, _, _, h => h
  | v :: r, o, _, w0, h => setCells_bel g r (o + 1) _ w0 (h.setCell (p := ⟨g, o, none⟩) (Nat.le_refl _) v)

theorem wpList_store_sub {P : Program} {ops : Array Oper} {rest : List Oper} {op : Oper} {a : Act} {w : World} {Q : Exit → Act → World → Prop} (hgd : op.guard = none) (ty : TypeId) (x y : Operand) (ho : op.op = .store ty x y)
    (g o : Nat) (cells : Array Value) (hx : a.eval x = .pointer (some ⟨g, o, none⟩)) (hy : a.eval y = .agg cells) (t : TypeId) (old new : Array Value) (hg : w.heap[g]? = some (.cells old t (0, 0))) (hl : o + cells.size ≤ old.size)
    (hi : (P.info? ty).map (·.size) = some cells.size) (h1 : cells.all (·.oneCell') = true) (hn : new.toList = old.toList.take o ++ (cells.toList ++ old.toList.drop (o + cells.size)))
    (h : ∀ w2 : World, w2.heap[g]? = some (.cells new t (0, 0)) → Below g w w2 → w2.heap.size = w.heap.size → (∀ k, k ≠ g → w2.heap[k]? = w.heap[k]?) → wpList P ops Q rest (a.put op.dst undef) w2) : wpList P ops Q (op :: rest) a w := by
  refine wpList_store_mid hgd ty x y ho g o cells hx hy (fun j hj => ⟨?_, frozen_of_row w g _ _ _ hg⟩) hi h1 (h _ ?_ (setCells_bel g _ _ _ _ (Below.refl _ _)) (setCells_sz _ _ _ _) (fun k hk => setCells_oth g _ _ _ k hk))
  · rw [cell_of_row w g (o + j) _ _ _ hg]
    simp
    omega
  · obtain ⟨cur', h2, h3⟩ := setCells_blk g t cells.toList o w old hg (by simpa using hl)
    rw [h2]
    have : cur' = new := Array.toList_inj.1 (h3.trans (by rw [hn]; simp))
    rw [this]
end Go.Proofs.YtmbomhcnmjhbnaaGreatDoor

/-
  Helpers for regions that draw their order and load whole structs. Nothing of the program; no condition.
-/
namespace Go.Proofs.YtmbomhcnmjhbnaaGreatDoor
open Go.RowKit

/-- A whole struct's load yields in every world in which its block is so. -/
theorem yields_row {P : Program} {ops : Array Oper} {S : World → Prop} {op : Oper} {a : Act} (hw : Region.wanted op (yielded ops a.tmps) = true) (ty : TypeId) (x : Operand) (ho : op.op = .load ty x)
    (b : Nat) (hx : a.eval x = .pointer (some ⟨b, 0, none⟩)) (cs : Array Value) (t : TypeId) (d : TypeDesc) (hS : ∀ w, S w → w.heap[b]? = some (.cells cs t (0, 0)))
    (hu : P.underlying ty = some d) (hd : d.isRow = true) (hi : (P.info? ty).map (·.size) = some cs.size) : YieldsIf P ops S op (.agg cs) a := by
  have h := yieldsIf_load_mid (P := P) (ops := ops) (S := S) (op := op) (a := a) hw ty x ho b 0 hx cs.toList d (fun w hw' => by
    have hr := World.rangeAt_of_block (hS w hw') 0 cs.size
    simpa using hr) hu hd (by simpa using hi)
  simpa using h

theorem own_other {w w' : World} {B k n g : Nat} {e : TypeId} {v : Value} {l : List Value} (h : w.ownsRow B e k v n l) (hg : v.ownBlock ≠ some g) (hb : ∀ j, j ≠ g → w'.heap[j]? = w.heap[j]?) : w'.ownsRow B e k v n l := by
  refine ⟨h.1, ?_⟩
  rcases h.2 with ⟨rfl, h0⟩ | ⟨gg, cap, cur, rfl, hB, hgg, hr⟩
  · exact Or.inl ⟨rfl, h0⟩
  · exact Or.inr ⟨gg, cap, cur, rfl, hB, (hb gg (fun e => hg (by rw [e]; rfl))).trans hgg, hr⟩
theorem drew_bel (w : World) : Below w.heap.size w w.drew := (Below.refl _ _).drew
theorem alloc_bel (w : World) (o : Obj) : Below w.heap.size w (w.alloc o) := (Below.refl _ _).alloc (Nat.le_refl _) _
theorem blk_lt {w : World} {b : Nat} {o : Obj} (h : w.heap[b]? = some o) : b < w.heap.size := (Array.getElem?_eq_some_iff.1 h).1
theorem blk_bel {w w' : World} {b : Nat} {o : Obj} (h : w.heap[b]? = some o) (hb : Below w.heap.size w w') : w'.heap[b]? = some o := (hb.block _ (blk_lt h)).trans h
end Go.Proofs.YtmbomhcnmjhbnaaGreatDoor

/-
  A process with an empty box that printed nothing: ProcOk on both sides. No condition.
-/
namespace Go.Proofs.YtmbomhcnmjhbnaaGreatDoor
open Go.RowKit

theorem Tryz.sizeProc : (Tryz.prog.info? 37).map (·.size) = some 11 := by kernel_rfl
def pidB (i : Int) : Bool := decide (1 ≤ i ∧ i ≤ 1000000000)
def procB0 (ns : List Nd) (is : List In) (ds : List Df) (i : Int) (xs : List Nd) (m : Mc) : Bool := pidB i && machB ns is ds xs m

set_option maxHeartbeats 400000 in
theorem ispid_any (i : Int) (w : World) : Calls Tryz.prog 16 #[.int .i64 i] w fun e w' => e = .returned (.bool (pidB i)) ∧ w' = w := by
  by_cases h1 : 1 ≤ i
  · by_cases h2 : i ≤ 1000000000
    · go_enter Tryz.func16, Tryz.ntmps16
      go_wp2
      go_ret
      exact ⟨retB (by simp [pidB, h1, h2]), rfl⟩
    · go_enter Tryz.func16, Tryz.ntmps16
      go_wp2
      go_ret
      exact ⟨retB (by simp [pidB, h2]), rfl⟩
  · go_enter Tryz.func16, Tryz.ntmps16
    go_wp2
    go_ret
    exact ⟨retB (by unfold pidB; rw [decide_eq_false_iff_not.2 (by omega)]), rfl⟩

set_option maxHeartbeats 400000 in
theorem boxfits0 (w : World) : Calls Tryz.prog 17 #[.slice none 0 0] w fun e w' => e = .returned (.bool true) ∧ w' = w := by
  go_enter Tryz.func17, Tryz.ntmps17
  go_wp2
  refine wp_loop_rounds 1 ?_
  rw [rounds_succ]
  go_wp2
  go_ret
  exact ⟨rfl, rfl⟩
set_option maxHeartbeats 400000 in
theorem outfits0 (w : World) : Calls Tryz.prog 18 #[.slice none 0 0] w fun e w' => e = .returned (.bool true) ∧ w' = w := by
  go_enter Tryz.func18, Tryz.ntmps18
  go_wp2
  refine wp_loop_rounds 1 ?_
  rw [rounds_succ]
  go_wp2
  go_ret
  exact ⟨rfl, rfl⟩

set_option maxRecDepth 100000 in
set_option maxHeartbeats 3200000 in
theorem iprocok0_any (v1 v2 v3 v : Value) (ns : List Nd) (is : List In) (ds : List Df) (i : Int) (xs : List Nd) (m : Mc) (w : World) (R1 : NRow w v1 ns) (R2 : InRow w v2 is) (R3 : DfRow w v3 ds) (R : NRow w v xs) :
    Calls Tryz.prog 8 #[.agg #[v1, v2, v3], .agg #[.int .i64 i, v, .int .i64 m.p, .int .i64 m.s, .int .i64 m.e, .int .i64 m.d, .int .i64 m.t, .int .i64 m.q, .int .i64 m.r, .slice none 0 0, .slice none 0 0]] w fun e w' => e = .returned (.bool (procB0 ns is ds i xs m)) ∧ Below w.heap.size w w' := by
  obtain ⟨ao, cap, rfl⟩ : ∃ ao cap, v = .slice ao xs.length cap := by obtain ⟨ao, cap, rfl, _⟩ := R; exact ⟨ao, cap, rfl⟩
  obtain ⟨a1, c1, rfl⟩ := R1.small
  obtain ⟨a2, c2, rfl⟩ := R2.small
  obtain ⟨a3, c3, rfl⟩ := R3.small
  obtain ⟨hB0, hk0, hx0⟩ := two_boxes w (Obj.cells #[.slice a1 ns.length c1, .slice a2 is.length c2, .slice a3 ds.length c3] 30) (Obj.cells #[.int .i64 i, .slice ao xs.length cap, .int .i64 m.p, .int .i64 m.s, .int .i64 m.e, .int .i64 m.d, .int .i64 m.t, .int .i64 m.q, .int .i64 m.r, .slice none 0 0, .slice none 0 0] 37)
  have HM : Hid (procB0 ns is ds i xs m = (pidB i && machB ns is ds xs m)) := rfl
  go_enter Tryz.func8, Tryz.ntmps8
  go_wp2_with fail
  refine (ispid_any _ _).mono ?_
  rintro e w1 ⟨rfl, rfl⟩
  generalize pidB i = b1 at HM ⊢
  cases b1 with
  | false =>
    go_wp2
    go_ret
    exact ⟨retB (by rw [HM.out]; rfl), hB0⟩
  | true =>
    go_wp2_with fail
    refine (boxfits0 _).mono ?_
    rintro e w2 ⟨rfl, rfl⟩
    have k0 : ((w.alloc (Obj.cells #[.slice a1 ns.length c1, .slice a2 is.length c2, .slice a3 ds.length c3] 30)).alloc (Obj.cells #[.int .i64 i, .slice ao xs.length cap, .int .i64 m.p, .int .i64 m.s, .int .i64 m.e, .int .i64 m.d, .int .i64 m.t, .int .i64 m.q, .int .i64 m.r, .slice none 0 0, .slice none 0 0] 37)).cell? ⟨w.heap.size + 1, 0 + 10, none⟩ = some (.slice none 0 0) := cell_of_row _ _ 10 _ _ _ hx0
    go_wp2_with fail
    refine (outfits0 _).mono ?_
    rintro e w3 ⟨rfl, rfl⟩
    clear k0
    obtain ⟨w3, hw3⟩ : ∃ z, z = (w.alloc (Obj.cells #[.slice a1 ns.length c1, .slice a2 is.length c2, .slice a3 ds.length c3] 30)).alloc (Obj.cells #[.int .i64 i, .slice ao xs.length cap, .int .i64 m.p, .int .i64 m.s, .int .i64 m.e, .int .i64 m.d, .int .i64 m.t, .int .i64 m.q, .int .i64 m.r, .slice none 0 0, .slice none 0 0] 37) := ⟨_, rfl⟩
    have hB3 : Below w.heap.size w w3 := hw3 ▸ hB0
    have hk3 := hw3 ▸ hk0
    have hx3 := hw3 ▸ hx0
    rw [← hw3]
    clear hB0 hk0 hx0 hw3
    have l0 : w3.cell? ⟨w.heap.size, 0, none⟩ = some (.slice a1 ns.length c1) := cell_of_row w3 _ 0 _ _ _ hk3
    have l1 : w3.cell? ⟨w.heap.size, 0 + 1, none⟩ = some (.slice a2 is.length c2) := cell_of_row w3 _ 1 _ _ _ hk3
    have l2 : w3.cell? ⟨w.heap.size, 0 + 2, none⟩ = some (.slice a3 ds.length c3) := cell_of_row w3 _ 2 _ _ _ hk3
    have k1 : w3.cell? ⟨w.heap.size + 1, 0 + 1, none⟩ = some (.slice ao xs.length cap) := cell_of_row w3 _ 1 _ _ _ hx3
    have k2 : w3.cell? ⟨w.heap.size + 1, 0 + 1 + 1, none⟩ = some (.int .i64 m.p) := cell_of_row w3 _ 2 _ _ _ hx3
    have k3 : w3.cell? ⟨w.heap.size + 1, 0 + 1 + 2, none⟩ = some (.int .i64 m.s) := cell_of_row w3 _ 3 _ _ _ hx3
    have k4 : w3.cell? ⟨w.heap.size + 1, 0 + 1 + 3, none⟩ = some (.int .i64 m.e) := cell_of_row w3 _ 4 _ _ _ hx3
    have k5 : w3.cell? ⟨w.heap.size + 1, 0 + 1 + 4, none⟩ = some (.int .i64 m.d) := cell_of_row w3 _ 5 _ _ _ hx3
    have k6 : w3.cell? ⟨w.heap.size + 1, 0 + 1 + 5, none⟩ = some (.int .i64 m.t) := cell_of_row w3 _ 6 _ _ _ hx3
    have k7 : w3.cell? ⟨w.heap.size + 1, 0 + 1 + 6, none⟩ = some (.int .i64 m.q) := cell_of_row w3 _ 7 _ _ _ hx3
    have k8 : w3.cell? ⟨w.heap.size + 1, 0 + 1 + 7, none⟩ = some (.int .i64 m.r) := cell_of_row w3 _ 8 _ _ _ hx3
    go_wp2_with fail
    refine (imachok_any _ _ _ _ ns is ds xs m _ (R1.below hB3) (R2.below hB3) (R3.below hB3) (R.below hB3)).mono ?_
    rintro e w4 ⟨rfl, hb4⟩
    have hB4 := hB3.trans (hb4.mono hB3.size)
    clear hB3 hk3 hx3 hb4 l0 l1 l2
    generalize machB ns is ds xs m = b4 at HM ⊢
    cases b4 with
    | false =>
      go_wp2
      go_ret
      exact ⟨retB (by rw [HM.out]; rfl), hB4⟩
    | true =>
      go_wp2
      go_ret
      exact ⟨retB (by rw [HM.out]; rfl), hB4⟩
theorem lin_pid (x : Int) (w : World) : Calls Tryz.prog 28 #[.int .i64 x, .int .i64 1, .int .i64 1000000000] w fun e w' => e = .returned (.bool (pidB x)) ∧ w' = w := by
  refine (lin_any x 1 1000000000 w).mono ?_
  rintro e w' ⟨rfl, rfl⟩
  exact ⟨retB (by simp [pidB]), rfl⟩

set_option maxRecDepth 100000 in
set_option maxHeartbeats 6400000 in
theorem sprocok0_any (v1 v2 v3 v : Value) (ns : List Nd) (is : List In) (ds : List Df) (i : Int) (xs : List Nd) (m : Mc) (w : World) (R1 : NRow w v1 ns) (R2 : InRow w v2 is) (R3 : DfRow w v3 ds) (R : NRow w v xs) :
    Calls Tryz.prog 15 #[.agg #[v1, v2, v3], .agg #[.int .i64 i, v, .int .i64 m.p, .int .i64 m.s, .int .i64 m.e, .int .i64 m.d, .int .i64 m.t, .int .i64 m.q, .int .i64 m.r, .slice none 0 0, .slice none 0 0]] w fun e w' => e = .returned (.bool (procB0 ns is ds i xs m)) ∧ Below w.heap.size w w' := by
  obtain ⟨ao, cap, rfl⟩ : ∃ ao cap, v = .slice ao xs.length cap := by obtain ⟨ao, cap, rfl, _⟩ := R; exact ⟨ao, cap, rfl⟩
  obtain ⟨a1, c1, rfl⟩ := R1.small
  obtain ⟨a2, c2, rfl⟩ := R2.small
  obtain ⟨a3, c3, rfl⟩ := R3.small
  obtain ⟨hB0, hk0, hx0⟩ := two_boxes w (Obj.cells #[.slice a1 ns.length c1, .slice a2 is.length c2, .slice a3 ds.length c3] 30) (Obj.cells #[.int .i64 i, .slice ao xs.length cap, .int .i64 m.p, .int .i64 m.s, .int .i64 m.e, .int .i64 m.d, .int .i64 m.t, .int .i64 m.q, .int .i64 m.r, .slice none 0 0, .slice none 0 0] 37)
  have HM : Hid (procB0 ns is ds i xs m = (pidB i && machB ns is ds xs m)) := rfl
  go_enter Tryz.func15, Tryz.ntmps15
  go_wp2_with fail
  refine (lin_pid _ _).mono ?_
  rintro e w1 ⟨rfl, rfl⟩
  generalize pidB i = b1 at HM ⊢
  cases b1 with
  | false =>
    go_wp2
    go_ret
    exact ⟨retB (by rw [HM.out]; rfl), hB0⟩
  | true =>
    go_wp2_with fail
    refine (smachok_any _ _ _ _ ns is ds xs m _ (R1.below hB0) (R2.below hB0) (R3.below hB0) (R.below hB0)).mono ?_
    rintro e w2 ⟨rfl, hb2⟩
    have hB2 := hB0.trans (hb2.mono hB0.size)
    have hx2 := (hb2.block _ (Array.getElem?_eq_some_iff.1 hx0).1).trans hx0
    clear hB0 hk0 hx0 hb2 R R1 R2 R3
    generalize machB ns is ds xs m = b2 at HM ⊢
    cases b2 with
    | false =>
      go_wp2
      go_ret
      exact ⟨retB (by rw [HM.out]; simp), hB2⟩
    | true =>
      have k9 : w2.cell? ⟨w.heap.size + 1, 0 + 9, none⟩ = some (.slice none 0 0) := cell_of_row w2 _ 9 _ _ _ hx2
      have k10 : w2.cell? ⟨w.heap.size + 1, 0 + 10, none⟩ = some (.slice none 0 0) := cell_of_row w2 _ 10 _ _ _ hx2
      go_wp2
      refine wp_loop_rounds 1 ?_
      rw [rounds_succ]
      go_wp2
      refine wp_loop_rounds 1 ?_
      rw [rounds_succ]
      go_wp2
      go_ret
      exact ⟨retB (by rw [HM.out]; rfl), hB2⟩
end Go.Proofs.YtmbomhcnmjhbnaaGreatDoor

/-
  How great a pool is, whatever is left: contracts of the laws' own helpers szNodeS and szPool. Condition: what is left is no more than at the start.
-/
namespace Go.Proofs.YtmbomhcnmjhbnaaGreatDoor
open Go.RowKit

end Go.Proofs.YtmbomhcnmjhbnaaGreatDoor
