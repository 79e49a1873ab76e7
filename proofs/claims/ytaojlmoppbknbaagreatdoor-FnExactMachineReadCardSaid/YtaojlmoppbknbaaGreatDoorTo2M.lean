/-
  Texts that stood by themselves, laid into one.
-/
import Derived.Test.YtaojlmoppbknbaaGreatDoorMv1M
import Derived.Deep.AppendLies
import Derived.Test.YtaojlmoppbknbaaGreatDoorSizeIM
import Derived.Test.YtaojlmoppbknbaaGreatDoorSNodeM
import Derived.Deep.RegionWith
/-
  One statement of impl's moved, within a round: the node with its parts where they are then is put behind the others. Conditions: its parts are told of.
-/
namespace Go.Proofs.YtaojlmoppbknbaaGreatDoor
open Go.RowKit Go.Shelf
attribute [local go_sem] Oper.semAt_some

theorem upon_in {P : Program} {o : Oper} {a : Act} {K : Act → World → Prop} {Q : Exit → Act → World → Prop} (l n : Nat) (v : Value) (w' : World) (h : o.upon P a K Q (.ok (.value v) w')) : o.uponIn (Fence.wide.inRound l) n P a K Q (.ok (.value v) w') := h
/-- append onto a row of the call's own, as a step of a region that draws, within a round. -/
theorem stepIn_append {P : Program} {n : Nat} (l : Nat) (w : World) {ops : Array Oper} {o : Oper} {a : Act} {K : Act → World → Prop} {Q : Exit → Act → World → Prop} {E : Prop} (hgd : o.guard = none) (s x : Operand) (t : TypeId)
    (ho : o.op = .call { callee := .builtin .append, args := #[s, x], argTypes := #[t, t] })
    (base : Nat) (e : TypeId) (i : TypeInfo) (z : Value) (size bytes : Nat) (ht : P.underlying t = some (.slice e)) (hi : P.info? e = some i) (hz : i.zero = some z)
    (hsize : i.size = size) (hby : i.bytes = bytes) (hzs : z.cells.size = size) (hsz : 0 < size)
    (v : Value) (m0 : Nat) (xs : List Value) (hs : a.eval s = v) (hown : w.ownsRow base e size v m0 xs)
    (ad : Addr) (m c : Nat) (news : List Value) (hx : a.eval x = .slice (some ad) m c) (hl : news.length = m * size) (hnews : ∀ j u, news[j]? = some u → w.cell? (ad.add j) = some u) (h1 : ∀ u ∈ news, u.oneCell' = true)
    (hm : 0 < m) (h63 : m0 + m ≤ maxLen) (hbytes : (m0 + m) * bytes ≤ 140737488355328) (hbase : base ≤ w.heap.size) (H : Nat) (hH : w.heap.size = H)
    (h : ∀ g cap w', w'.ownsRow base e size (.slice (some ⟨g, 0, none⟩) (m0 + m) cap) (m0 + m) (xs ++ news) → w.grownBy w' v.ownBlock → (v.ownBlock = some g ∨ g = H) → g < w'.heap.size → K (a.put o.dst (.slice (some ⟨g, 0, none⟩) (m0 + m) cap)) w') :
    if Region.wanted o (yielded ops a.tmps) = true then Oper.wpIn (Fence.wide.inRound l) n P o a w K Q else E := by
  have hw : Region.wanted o (yielded ops a.tmps) = true := by simp [Region.wanted, hgd]
  rw [if_pos hw]
  refine ⟨fun _ _ => trivial, ?_⟩
  rw [Oper.semAt_eq _ _ _ (by rw [ho]; intro c hc; cases hc)]
  obtain ⟨g, cap, w', hrun, r1, r2, r3, r4⟩ := run_append_lies (P := P) w t o.type base e i z size bytes ht hi hz hsize hby hzs hsz v m0 xs hown ad m c news hl hnews h1 hm h63 hbytes hbase H hH
  simp [execOp, ho, resolve, invoke, builtin, hs, hx, hrun, Result.andThen]
  exact h g cap w' r1 r2 r3 r4

end Go.Proofs.YtaojlmoppbknbaaGreatDoor

/-
  Contract of impl's moved: what the nodes that are reached come to behind so many others, and where the roots are then. Conditions: the pool is right, all roots are nodes of it.
-/
namespace Go.Proofs.YtaojlmoppbknbaaGreatDoor
open Go.RowKit Go.Shelf
attribute [local go_sem] Oper.semAt_some

theorem wpListIn_full {F : Fence} {n : Nat} {P : Program} (w : World) {ops : Array Oper} {rest : List Oper} {o : Oper} {a : Act} {Q : Exit → Act → World → Prop}
    (hg : o.guard = none) (l c : Operand) (t : TypeId) (hop : o.op = Op.makeSlice t l c)
    (base : Nat) (e : TypeId) (i : TypeInfo) (z : Value) (size : Nat) (h1 : P.underlying t = some (.slice e)) (h2 : P.info? e = some i) (h3 : i.zero = some z) (h4 : i.size = size)
    (kl kc : IntKind) (L C : Int) (m : Nat) (hl : a.eval l = .int kl L) (hc : a.eval c = .int kc C) (hL : L = (m : Int)) (hC : C = (m : Int)) (b2 : i.bytes * m ≤ 281474976710656) (b3 : m ≤ maxLen) (b4 : base ≤ w.heap.size)
    (hK : ∀ w', w'.ownsRow base e size (.slice (some ⟨w.heap.size, 0, none⟩) m m) m (madeCells z.cells (m * size)).toList → w.grownBy w' none → wpListIn F n P ops Q rest (a.put o.dst (.slice (some ⟨w.heap.size, 0, none⟩) m m)) w') :
    wpListIn F n P ops Q (o :: rest) a w := by
  refine wpListIn_plain hg fun K hK' => ?_
  obtain ⟨w', hrun, r1, r2⟩ := run_make_full (P := P) w base t e i z size h1 h2 h3 h4 kl kc m b2 b3 b4
  subst hL
  subst hC
  unfold Oper.wpIn
  refine ⟨?_, ?_⟩
  · simp [Oper.about, hop]
  · rw [Oper.semAt_plain F _ _ (by rw [hop]; intro c hc'; cases hc')]
    simp [execOp, hop, hl, hc, hrun, Result.andThen]
    exact hK' _ _ (hK w' r1 r2)

theorem own_split7 {w : World} {B B' : Nat} {e e' : TypeId} {k k' : Nat} {v v' : Value} {n n' : Nat} {xs xs' : List Value} (h : w.ownsRow B e k v n xs) (h' : w.ownsRow B' e' k' v' n' xs') (hne : e ≠ e') : v.ownBlock = none ∨ v.ownBlock ≠ v'.ownBlock := by
  rcases h.2 with ⟨rfl, _⟩ | ⟨g, cap, cur, rfl, hB, hg, _⟩
  · exact Or.inl rfl
  · refine Or.inr fun e => ?_
    rcases h'.2 with ⟨rfl, _⟩ | ⟨g', cap', cur', rfl, hB', hg', _⟩
    · cases e
    · simp only [Value.ownBlock, Option.some.injEq] at e
      subst e
      rw [hg] at hg'
      injection hg' with h1
      injection h1 with _ h2 _
      exact hne h2
theorem own_ne7 {w : World} {B : Nat} {e t : TypeId} {k j : Nat} {v : Value} {n : Nat} {xs : List Value} {c : Array Value} (h : w.ownsRow B e k v n xs) (hj : w.heap[j]? = some (.cells c t (0, 0))) (ht : t ≠ e) : v.ownBlock ≠ some j := by
  rcases h.2 with ⟨rfl, _⟩ | ⟨g, cap, cur, rfl, hB, hg, _⟩
  · simp [Value.ownBlock]
  · intro e'
    simp only [Value.ownBlock, Option.some.injEq] at e'
    subst e'
    rw [hg] at hj
    injection hj with h1
    injection h1 with _ h2 _
    exact ht h2.symm
theorem Tryz.infoI8 : (Tryz.prog.info? 3).map (fun i => (i.zero, i.size, i.bytes)) = some (some (.int .i64 0), 1, 8) := by kernel_rfl

end Go.Proofs.YtaojlmoppbknbaaGreatDoor

/-
  What a list is read as, and the contracts of impl.ListOf and spec.ListOf.
-/
namespace Go.Proofs.YtaojlmoppbknbaaGreatDoor
open Go.RowKit

theorem Tryz.infoI2 : (Tryz.prog.info? 3).map (fun i => (i.zero, i.size, i.bytes)) = some (some (.int .i64 0), 1, 8) := by kernel_rfl

/-- The values from the node j on, behind acc; none when it does not end with a KNil. -/
def chain (xs : List Nd) : Nat → Nat → List Int → Option (List Int)
  | 0, _, _ => none
  | f + 1, j, acc => match xs[j]? with
    | none => none
    | some x => if x.k = 5 then chain xs f x.b.toNat (acc ++ [x.a]) else if x.k = 1 then some acc else none
def chainR (xs : List Nd) (v : Nat) : List Int × Bool := match chain xs (v + 1) v [] with
  | some l => (l, true)
  | none => ([], false)
/-- What ListOf answers. -/
def listR (xs : List Nd) (v : Int) : List Int × Bool := if poolB xs && hasI xs v then chainR xs v.toNat else ([], false)
theorem chain_pair (xs : List Nd) (f j : Nat) (acc : List Int) (x : Nd) (hx : xs[j]? = some x) (h5 : x.k = 5) (hf : j < f) : chain xs f j acc = chain xs (f - 1) x.b.toNat (acc ++ [x.a]) := by
  cases f with
  | zero => omega
  | succ f => simp [chain, hx, h5]
theorem chain_nil (xs : List Nd) (f j : Nat) (acc : List Int) (x : Nd) (hx : xs[j]? = some x) (h1 : x.k = 1) (hf : j < f) : chain xs f j acc = some acc := by
  cases f with
  | zero => omega
  | succ f => simp [chain, hx, h1]
theorem chain_none (xs : List Nd) (f j : Nat) (acc : List Int) (x : Nd) (hx : xs[j]? = some x) (h5 : ¬ x.k = 5) (h1 : ¬ x.k = 1) (hf : j < f) : chain xs f j acc = none := by
  cases f with
  | zero => omega
  | succ f => simp [chain, hx, h5, h1]

set_option maxHeartbeats 400000 in
theorem shas_all (v : Value) (xs : List Nd) (a : Int) (w : World) (R : NRow w v xs) :
    Calls Tryz.prog 61 #[.agg #[v], .int .i64 a] w fun e w' => e = .returned (.bool (hasI xs a)) ∧ Below w.heap.size w w' := by
  obtain ⟨ao, cap, rfl, _, hm, _⟩ := R
  go_enter Tryz.func61, Tryz.ntmps61
  go_wp2_with fail
  refine (lin_any _ _ _ _).mono ?_
  rintro e w1 ⟨rfl, rfl⟩
  go_wp2
  go_ret
  refine ⟨retB ?_, (Below.refl _ _).alloc (Nat.le_refl _) _⟩
  rw [Bool.eq_iff_iff]
  simp [hasI]
  omega

end Go.Proofs.YtaojlmoppbknbaaGreatDoor

/-
  Contracts of the laws' own helpers toNode, toNodeS, toPool, szNode, szNodeS, szPool, eqNode, eqNodeS, eqPool.
-/
namespace Go.Proofs.YtaojlmoppbknbaaGreatDoor
open Go.RowKit

theorem Tryz.sizeLN : (Tryz.prog.info? 116).map (·.size) = some 5 := by kernel_rfl

set_option maxHeartbeats 400000 in
theorem tonode_any (x : Nd) (w : World) :
    Calls Tryz.prog 67 #[.agg #[.int .i64 x.k, .int .i64 x.n, .string x.s, .int .i64 x.a, .int .i64 x.b]] w fun e w' => e = .returned (.agg #[.int .i64 x.k, .int .i64 x.n, .string x.s, .int .i64 x.a, .int .i64 x.b]) ∧ Below w.heap.size w w' := by
  go_enter Tryz.func67, Tryz.ntmps67
  go_wp2
  exact bodyPost_ret (results_cell_row rfl _ _ (w.heap.size + 1) 86 _ (0, 0) _ rfl ((heap_alloc_old _ _ (by simp)).trans (heap_alloc2_new _ _ _)) Tryz.underlying86 rfl Tryz.sizeN) rfl
    ⟨rfl, (((Below.refl _ _).alloc (Nat.le_refl _) _).alloc (by simp) _).alloc (by simp; omega) _⟩

/-- How much room is left behind so many bytes; -1 when there is not as much. -/
def less (l n : Int) : Int := if l < n then -1 else l - n

set_option maxHeartbeats 400000 in
theorem sznode_any (x : Nd) (l : Int) (w : World) (hs : x.s.size ≤ maxLen) (hl : 0 ≤ l) (hl2 : l ≤ 1048576) :
    Calls Tryz.prog 58 #[.agg #[.int .i64 x.k, .int .i64 x.n, .string x.s, .int .i64 x.a, .int .i64 x.b], .int .i64 l] w fun e w' => e = .returned (.int .i64 (less l x.s.size)) ∧ Below w.heap.size w w' := by
  unfold maxLen at hs
  go_enter Tryz.func58, Tryz.ntmps58
  by_cases h : l < x.s.size
  · have HL : Hid (less l x.s.size = -1) := by unfold Hid less; rw [if_pos h]
    go_wp2
    go_ret
    exact ⟨by rw [HL.out]; rfl, (Below.refl _ _).alloc (Nat.le_refl _) _⟩
  · have HL : Hid (less l x.s.size = l - x.s.size) := by unfold Hid less; rw [if_neg h]
    go_wp2
    go_ret
    exact ⟨by rw [HL.out]; rfl, (Below.refl _ _).alloc (Nat.le_refl _) _⟩

set_option maxHeartbeats 800000 in
theorem eqnode_any (x : Nd) (w : World) :
    Calls Tryz.prog 83 #[.agg #[.int .i64 x.k, .int .i64 x.n, .string x.s, .int .i64 x.a, .int .i64 x.b], .agg #[.int .i64 x.k, .int .i64 x.n, .string x.s, .int .i64 x.a, .int .i64 x.b]] w fun e w' => e = .returned (.bool true) ∧ Below w.heap.size w w' := by
  go_enter Tryz.func83, Tryz.ntmps83
  go_wp2
  go_ret
  exact ⟨rfl, ((Below.refl _ _).alloc (Nat.le_refl _) _).alloc (by simp) _⟩

/-- The first j of xs, and zero nodes behind them. -/
def zeroN : Nd := ⟨0, 0, ByteArray.empty, 0, 0⟩
def ncopied (xs : List Nd) (j : Nat) : List Nd := xs.take j ++ List.replicate (xs.length - j) zeroN
theorem ncopied_length (xs : List Nd) (j : Nat) (h : j ≤ xs.length) : (ncopied xs j).length = xs.length := by simp [ncopied]; omega
theorem ncopied_full (xs : List Nd) : ncopied xs xs.length = xs := by simp [ncopied]
theorem ncs_zeros (n : Nat) : ncs (List.replicate n zeroN) = (madeCells #[Value.int .i64 0, .int .i64 0, .string ByteArray.empty, .int .i64 0, .int .i64 0] (n * 5)).toList := by
  apply List.ext_getElem?
  intro j
  by_cases hj : j < n * 5
  · have hq : j / 5 < n := by omega
    rw [show j = j / 5 * 5 + j % 5 by omega, ncs_get _ (j / 5) zeroN (by simp [hq]) (j % 5) (by omega)]
    rw [show j / 5 * 5 + j % 5 = j by omega]
    have h5 : j % 5 = 0 ∨ j % 5 = 1 ∨ j % 5 = 2 ∨ j % 5 = 3 ∨ j % 5 = 4 := by omega
    rcases h5 with h5 | h5 | h5 | h5 | h5 <;> simp [madeCells, hj, h5, zeroN, Nd.cs]
  · rw [List.getElem?_eq_none (by rw [ncs_length, List.length_replicate]; omega), List.getElem?_eq_none (by simp [madeCells]; omega)]
theorem ncopied_zero (xs : List Nd) : ncs (ncopied xs 0) = (madeCells #[Value.int .i64 0, .int .i64 0, .string ByteArray.empty, .int .i64 0, .int .i64 0] (xs.length * 5)).toList := by
  rw [← ncs_zeros]; simp [ncopied]
theorem ncopied_set (xs : List Nd) (j : Nat) (h : j < xs.length) : (ncopied xs j).set j xs[j] = ncopied xs (j + 1) := by
  unfold ncopied
  rw [show xs.length - j = xs.length - (j + 1) + 1 by omega, List.replicate_succ, List.take_succ_eq_append_getElem h]
  rw [List.set_append_right _ _ (by simp; omega)]
  have e : j - (List.take j xs).length = 0 := by simp; omega
  rw [e, List.set_cons_zero, List.append_assoc]
  rfl

set_option maxHeartbeats 800000 in
theorem tonodes_any (v : Value) (xs : List Nd) (w : World) (R : NRow w v xs) (hm : xs.length ≤ 2097152) :
    Calls Tryz.prog 42 #[v] w fun e w' => ∃ v', e = .returned v' ∧ w'.ownsRow w.heap.size 86 5 v' xs.length (ncs xs) ∧ Below w.heap.size w w' := by
  obtain ⟨ao, cap, rfl, hcap, _, hz, hcell⟩ := R
  obtain ⟨i0, hi, hz0, hz1, hz2⟩ := info_parts Tryz.infoN
  have hbytes : i0.bytes * xs.length ≤ 281474976710656 := by rw [hz2]; omega
  have hmax : xs.length ≤ maxLen := by unfold maxLen; omega
  go_enter Tryz.func42, Tryz.ntmps42
  go_wp2_with (at_make; refine wpList_make_full _ rfl _ _ 30 rfl w.heap.size 86 i0 _ 5 Tryz.underlying30 hi hz0 hz1 _ _ _ _ xs.length rfl rfl rfl rfl hbytes hmax (Nat.le_refl _) ?_)
  intro w1 hown hgrow
  have hbel : Below w.heap.size w w1 := (Below.refl _ _).grown hgrow (Nat.le_refl _) (by intro k hk; cases hk)
  clear hgrow
  go_wp2
  go_loopw [4] (fun i wr => ∃ j : Nat, j ≤ xs.length ∧ i = .int .i64 j ∧ wr.ownsRow w.heap.size 86 5 (.slice (some ⟨w.heap.size, 0, none⟩) xs.length xs.length) xs.length (ncs (ncopied xs j)) ∧ Below w.heap.size w wr) (fun i _ => xs.length - (intOf i).toNat)
  case atStart => exact ⟨0, by omega, rfl, by rw [ncopied_zero]; exact hown, hbel⟩
  case round =>
    clear hown hbel hbytes hmax
    obtain ⟨j, hj, rfl, hown, hbel⟩ := hrel
    by_cases hlt : j < xs.length
    · obtain ⟨g, o, rfl, hg, hcell⟩ := hcell (by intro e; subst e; simp at hlt)
      obtain ⟨c0, c1, c2, c3, c4⟩ := (hcell j xs[j] (by simp [hlt])).below hbel hg
      have HC := ncopied_length xs j hj
      clear hcell
      go_wp2_with fail
      refine (tonode_any xs[j] _).mono ?_
      rintro e w2 ⟨rfl, hb2⟩
      have hown2 : w2.ownsRow w.heap.size 86 5 (.slice (some ⟨w.heap.size, 0, none⟩) (ncopied xs j).length xs.length) (ncopied xs j).length (ncs (ncopied xs j)) := by
        rw [HC]; exact own_below hown hb2
      have hB2 := hbel.trans (hb2.mono hbel.size)
      clear c0 c1 c2 c3 c4 hown hb2 hbel
      go_wp2_with (refine wpList_store_node rfl _ _ rfl w.heap.size w.heap.size j xs.length (ncopied xs j) xs[j] rfl rfl (by omega) hown2 ?_)
      intro w3 hown3 hg3
      rw [ncopied_set xs j hlt] at hown3
      have hB3 : Below w.heap.size w w3 := hB2.grown hg3 hB2.size (fun k hk => by simp at hk; omega)
      clear hown2 hg3
      go_wp2
      go_roundw
      case rel => exact ⟨j + 1, by omega, by go_num, hown3, hB3⟩
      case measure => simp [intOf]; omega
    · go_wp2
      go_ret
      have : j = xs.length := by omega
      subst this
      rw [ncopied_full] at hown
      exact ⟨_, rfl, hown, hbel⟩

theorem heap_alloc3_new (w : World) (A B C : Obj) : (((w.alloc A).alloc B).alloc C).heap[w.heap.size + 1 + 1]? = some C := by
  have h := heap_alloc_new ((w.alloc A).alloc B) C
  simpa using h

set_option maxHeartbeats 400000 in
theorem topool_any (v : Value) (xs : List Nd) (w : World) (R : NRow w v xs) (hm : xs.length ≤ 2097152) :
    Calls Tryz.prog 19 #[.agg #[v]] w fun e w' => ∃ v', e = .returned (.agg #[v']) ∧ w'.ownsRow w.heap.size 86 5 v' xs.length (ncs xs) ∧ Below w.heap.size w w' := by
  have R' := R
  obtain ⟨ao, cap, rfl, _⟩ := R'
  go_enter Tryz.func19, Tryz.ntmps19
  go_wp2_with fail
  have hbel : Below w.heap.size w (((w.alloc (Obj.cells #[.slice ao xs.length cap] 24)).alloc (Obj.cells #[.slice none 0 0] 32)).alloc (Obj.cells #[.slice none 0 0] 32)) :=
    (((Below.refl _ _).alloc (Nat.le_refl _) _).alloc (by simp) _).alloc (by simp; omega) _
  refine (tonodes_any _ xs _ (R.below hbel) hm).mono ?_
  rintro e w1 ⟨v', rfl, hown, hb1⟩
  obtain ⟨ao', cap', rfl⟩ := own_form hown
  have hbox : w1.heap[w.heap.size + 1 + 1]? = some (.cells #[.slice none 0 0] 32 (0, 0)) := (hb1.block _ (by simp)).trans (heap_alloc3_new _ _ _ _)
  have hbox2 : w1.heap[w.heap.size + 1]? = some (.cells #[.slice none 0 0] 32 (0, 0)) := (hb1.block _ (by simp)).trans ((heap_alloc_old _ _ (by simp)).trans (heap_alloc2_new _ _ _))
  have c2 : w1.cell? ⟨w.heap.size + 1 + 1, 0, none⟩ = some (.slice none 0 0) := by rw [cell_of_row w1 _ 0 _ _ _ hbox]; rfl
  have c1 : w1.cell? ⟨w.heap.size + 1, 0, none⟩ = some (.slice none 0 0) := by rw [cell_of_row w1 _ 0 _ _ _ hbox2]; rfl
  have f2 : w1.frozen? ⟨w.heap.size + 1 + 1, 0, none⟩ = false := frozen_of_row w1 _ 0 _ _ hbox
  have f1 : w1.frozen? ⟨w.heap.size + 1, 0, none⟩ = false := frozen_of_row w1 _ 0 _ _ hbox2
  have hB1 := hbel.trans (hb1.mono hbel.size)
  have hown1 : w1.ownsRow (w.heap.size + 3) 86 5 (.slice ao' xs.length cap') xs.length (ncs xs) := by simpa using hown
  go_wp2
  have hb3 := heap_setCell_same (w1.setCell ⟨w.heap.size + 1 + 1, 0, none⟩ (.slice ao' xs.length cap')) (w.heap.size + 1) 0 _ _ (.slice ao' xs.length cap') ((heap_setCell_other w1 ⟨w.heap.size + 1 + 1, 0, none⟩ (w.heap.size + 1) _ (by simp)).trans hbox2)
  refine bodyPost_ret (results_cell_row rfl _ _ (w.heap.size + 1) 32 _ (0, 0) _ rfl hb3 Tryz.underlying32 rfl (by kernel_rfl)) rfl ⟨_, rfl, ?_, ?_⟩
  · exact own_mono (ownsRow_setCell_below (ownsRow_setCell_below hown1 (by simp) _) (by simp) _) (by omega)
  · exact (hB1.setCell (p := ⟨w.heap.size + 1 + 1, 0, none⟩) (by simp; omega) _).setCell (p := ⟨w.heap.size + 1, 0, none⟩) (by simp) _

set_option maxHeartbeats 800000 in
theorem sznodes_any (v : Value) (xs : List Nd) (w : World) (R : NRow w v xs) :
    Calls Tryz.prog 32 #[v, .int .i64 1048576] w fun e w' => ∃ r : Int, e = .returned (.int .i64 r) ∧ -1 ≤ r ∧ r ≤ 1048576 ∧ (0 ≤ r → xs.length ≤ 1048576 ∧ ∀ x ∈ xs, x.s.size ≤ 1048576) ∧ Below w.heap.size w w' := by
  obtain ⟨ao, cap, rfl, hcap, hm, hz, hcell⟩ := R
  by_cases hlen : xs.length ≤ 1048576
  · go_enter Tryz.func32, Tryz.ntmps32
    go_wp2
    go_loopw [1, 5] (fun l i wr => ∃ (k : Nat) (r : Int), k ≤ xs.length ∧ i = .int .i64 k ∧ l = .int .i64 r ∧ 0 ≤ r ∧ r ≤ 1048576 ∧ Hid (∀ j x, xs[j]? = some x → j < k → x.s.size ≤ 1048576) ∧ Below w.heap.size w wr) (fun _ i _ => xs.length - (intOf i).toNat)
    case atStart => exact ⟨0, _, by omega, rfl, rfl, by omega, by omega, fun j x _ h => by omega, Below.refl _ _⟩
    case round =>
      obtain ⟨k, r, hk, rfl, rfl, hr0, hr1, HA, hb⟩ := hrel
      by_cases hlt : k < xs.length
      · obtain ⟨g, o, rfl, hg, hcell⟩ := hcell (by intro e; subst e; simp at hlt)
        obtain ⟨x, hx⟩ : ∃ x, xs[k]? = some x := ⟨xs[k], by simp [hlt]⟩
        obtain ⟨c0, c1, c2, c3, c4⟩ := (hcell k x hx).below hb hg
        have hxs := hz x (List.mem_of_getElem? hx)
        have HX : Hid (xs[k]? = some x) := hx
        clear hcell hx
        go_wp2_with fail
        refine (sznode_any x _ _ hxs hr0 hr1).mono ?_
        rintro e w2 ⟨rfl, hb2⟩
        have hB2 := hb.trans (hb2.mono hb.size)
        clear c0 c1 c2 c3 c4 hb2
        by_cases hl : r < x.s.size
        · rw [less, if_pos hl]
          go_wp2
          go_ret
          exact ⟨-1, rfl, by omega, by omega, fun h => by omega, hB2⟩
        · rw [less, if_neg hl]
          go_wp2
          go_roundw
          case rel =>
            refine ⟨k + 1, _, by omega, by go_num, rfl, by omega, by omega, fun j y hy hj => ?_, hB2⟩
            by_cases e : j = k
            · subst e
              rw [HX.out] at hy
              cases hy
              omega
            · exact HA.out j y hy (by omega)
          case measure => simp [intOf]; omega
      · go_wp2
        go_ret
        refine ⟨r, rfl, by omega, by omega, fun _ => ⟨hlen, fun x hx => ?_⟩, hb⟩
        obtain ⟨j, hj, e⟩ := List.getElem_of_mem hx
        exact HA.out j x (by rw [← e]; simp [hj]) (by omega)
  · go_enter Tryz.func32, Tryz.ntmps32
    go_wp2
    go_ret
    exact ⟨-1, rfl, by omega, by omega, fun h => by omega, Below.refl _ _⟩

set_option maxHeartbeats 800000 in
theorem eqnodes_any (va vb : Value) (xs : List Nd) (w : World) (Ra : NRow w va xs) (Rb : NRow w vb xs) :
    Calls Tryz.prog 52 #[va, vb] w fun e w' => e = .returned (.bool true) ∧ Below w.heap.size w w' := by
  obtain ⟨aa, ca, rfl, hca, hm, hz, hcella⟩ := Ra
  obtain ⟨ab, cb, rfl, hcb, _, _, hcellb⟩ := Rb
  have hn : ((xs.length : Int) != (xs.length : Int)) = false := by simp
  go_enter Tryz.func52, Tryz.ntmps52
  go_wp2
  go_loopw [5] (fun i wr => ∃ k : Nat, k ≤ xs.length ∧ i = .int .i64 k ∧ Below w.heap.size w wr) (fun i _ => xs.length - (intOf i).toNat)
  case atStart => exact ⟨0, by omega, rfl, Below.refl _ _⟩
  case round =>
    obtain ⟨k, hk, rfl, hb⟩ := hrel
    by_cases hlt : k < xs.length
    · obtain ⟨ga, oa, rfl, hga, hcella⟩ := hcella (by intro e; subst e; simp at hlt)
      obtain ⟨gb, ob, rfl, hgb, hcellb⟩ := hcellb (by intro e; subst e; simp at hlt)
      obtain ⟨x, hx⟩ : ∃ x, xs[k]? = some x := ⟨xs[k], by simp [hlt]⟩
      obtain ⟨c0, c1, c2, c3, c4⟩ := (hcella k x hx).below hb hga
      obtain ⟨d0, d1, d2, d3, d4⟩ := (hcellb k x hx).below hb hgb
      clear hcella hcellb hx
      go_wp2_with fail
      go_region_with (go_at_call 83; refine (eqnode_any x _).mono ?_; rintro e w2 ⟨rfl, hb2⟩)
      all_goals
        have hB2 : Below w.heap.size w w2 := hb.drew.trans (hb2.mono hb.size)
        clear c0 c1 c2 c3 c4 d0 d1 d2 d3 d4 hb2
        go_wp2
        go_roundw
        case rel => exact ⟨k + 1, by omega, by go_num, hB2⟩
        case measure => simp [intOf]; omega
    · go_wp2
      go_ret
      exact ⟨rfl, hb⟩

set_option maxHeartbeats 400000 in
theorem eqpool_any (va vb : Value) (xs : List Nd) (w : World) (Ra : NRow w va xs) (Rb : NRow w vb xs) :
    Calls Tryz.prog 25 #[.agg #[va], .agg #[vb]] w fun e w' => e = .returned (.bool true) ∧ Below w.heap.size w w' := by
  have Ra' := Ra
  have Rb' := Rb
  obtain ⟨aa, ca, rfl, _⟩ := Ra'
  obtain ⟨ab, cb, rfl, _⟩ := Rb'
  go_enter Tryz.func25, Tryz.ntmps25
  go_wp2_with fail
  have hbel : Below w.heap.size w ((w.alloc (Obj.cells #[.slice aa xs.length ca] 32)).alloc (Obj.cells #[.slice ab xs.length cb] 32)) :=
    ((Below.refl _ _).alloc (Nat.le_refl _) _).alloc (by simp) _
  refine (eqnodes_any _ _ xs _ (Ra.below hbel) (Rb.below hbel)).mono ?_
  rintro e w2 ⟨rfl, hb2⟩
  have hB2 := hbel.trans (hb2.mono hbel.size)
  clear hbel hb2
  go_wp2
  go_ret
  exact ⟨rfl, hB2⟩

set_option maxHeartbeats 400000 in
theorem szpool_any (v : Value) (xs : List Nd) (w : World) (R : NRow w v xs) :
    Calls Tryz.prog 13 #[.agg #[v], .int .i64 1048576] w fun e w' => ∃ r : Int, e = .returned (.int .i64 r) ∧ -1 ≤ r ∧ r ≤ 1048576 ∧ (0 ≤ r → xs.length ≤ 1048576 ∧ ∀ x ∈ xs, x.s.size ≤ 1048576) ∧ Below w.heap.size w w' := by
  have R' := R
  obtain ⟨ao, cap, rfl, _⟩ := R'
  go_enter Tryz.func13, Tryz.ntmps13
  go_wp2_with fail
  have hbel : Below w.heap.size w (w.alloc (Obj.cells #[.slice ao xs.length cap] 24)) := (Below.refl _ _).alloc (Nat.le_refl _) _
  refine (sznodes_any _ xs _ (R.below hbel)).mono ?_
  rintro e w1 ⟨r, rfl, h0, h1, h2, hb1⟩
  have hB1 := hbel.trans (hb1.mono hbel.size)
  clear hbel hb1
  by_cases hr : r < 0
  · have HR : Hid (r = -1) := by unfold Hid; omega
    go_wp2
    go_ret
    exact ⟨-1, rfl, by omega, by omega, fun h => by omega, hB1⟩
  · go_wp2
    go_ret
    exact ⟨r, rfl, h0, h1, h2, hB1⟩
end Go.Proofs.YtaojlmoppbknbaaGreatDoor
