/-
  Texts that stood by themselves, laid into one.
-/
import Derived.Test.YtacbhbmjhlgflaaShapeM
/-
  Contracts of impl's nodeFits and PoolOk: when a node and a pool are right.
-/
namespace Go.Proofs.Ytacbhbmjhlgflaa
open Go.RowKit

set_option maxHeartbeats 1600000 in
theorem nodefits_any (x : Nd) (n : Int) (w : World) (hs : x.s.size ≤ maxLen) :
    Calls Try.prog 75 #[.agg #[.int .i64 x.k, .int .i64 x.n, .string x.s, .int .i64 x.a, .int .i64 x.b], .int .i64 n] w fun e w' => e = .returned (.bool (nodeB x n)) ∧ Below w.heap.size w w' := by
  go_enter Try.func75, Try.ntmps75
  go_wp2_with fail
  have hb0 : Below w.heap.size w (w.alloc (Obj.cells #[.int .i64 x.k, .int .i64 x.n, .string x.s, .int .i64 x.a, .int .i64 x.b] 63)) := (Below.refl _ _).alloc (Nat.le_refl _) _
  refine (shapeof_any x.k _).mono ?_
  rintro e w1 ⟨rfl, hb1⟩
  have hbox := (hb1.block w.heap.size (by simp)).trans (heap_alloc_new _ _)
  have hcell : ∀ j, w1.cell? ⟨w.heap.size, j, none⟩ = #[Value.int .i64 x.k, .int .i64 x.n, .string x.s, .int .i64 x.a, .int .i64 x.b][j]? := fun j => cell_of_row w1 _ j _ _ _ hbox
  have c1 := hcell 1
  have c2 := hcell 2
  have c3 := hcell 3
  have c4 := hcell 4
  simp only [List.getElem?_toArray, List.getElem?_cons_succ, List.getElem?_cons_zero] at c1 c2 c3 c4
  have hbl : w.heap.size < w1.heap.size := (Array.getElem?_eq_some_iff.1 hbox).1
  have hB1 : Below w.heap.size w w1 := hb0.trans (hb1.mono (by simp))
  clear hcell hbox hb0 hb1
  by_cases hk : 1 ≤ x.k ∧ x.k ≤ 9
  · rw [shapeV, if_pos hk]
    by_cases h1 : lo x.k ≤ x.n ∧ x.n ≤ hi x.k
    · have HN : Hid (nodeB x n = (nameFB x.s (hasS x.k) && partB x.a (hasA x.k) n && partB x.b (hasB x.k) n)) := by
        unfold Hid nodeB; simp [hk, h1]
      obtain ⟨h1a, h1b⟩ := h1
      go_wp2_with fail
      refine (namefits_any _ _ _ hs).mono ?_
      rintro e w2 ⟨rfl, rfl⟩
      generalize hA : nameFB x.s (hasS x.k) = bA at HN ⊢
      clear hA
      cases bA with
      | false =>
        go_wp2
        go_ret
        exact ⟨by rw [HN.out]; rfl, hB1.alloc hB1.size _⟩
      | true =>
        go_wp2_with fail
        refine (partfits_any _ _ _ _).mono ?_
        rintro e w2 ⟨rfl, rfl⟩
        generalize hA : partB x.a (hasA x.k) n = bA at HN ⊢
        clear hA
        cases bA with
        | false =>
          go_wp2
          go_ret
          exact ⟨by rw [HN.out]; rfl, hB1.alloc hB1.size _⟩
        | true =>
          go_wp2_with fail
          refine (partfits_any _ _ _ _).mono ?_
          rintro e w2 ⟨rfl, rfl⟩
          go_wp2
          go_ret
          exact ⟨by rw [HN.out]; rfl, hB1.alloc hB1.size _⟩
    · have HN : Hid (nodeB x n = false) := by
        unfold Hid nodeB
        rw [Bool.eq_false_iff]
        intro h
        simp only [Bool.and_eq_true, decide_eq_true_eq] at h
        exact h1 ⟨h.1.1.2, h.1.2⟩
      go_wp2_with fail
      all_goals go_ret
      all_goals first | exact ⟨by rw [HN.out]; rfl, hB1.alloc hB1.size _⟩ | (exfalso; omega)
  · have HN : Hid (nodeB x n = false) := by
      unfold Hid nodeB
      rw [Bool.eq_false_iff]
      intro h
      simp only [Bool.and_eq_true, decide_eq_true_eq] at h
      exact hk h.1.1.1
    rw [shapeV, if_neg hk]
    go_wp2_with fail
    all_goals go_ret
    all_goals exact ⟨by rw [HN.out]; rfl, hB1.alloc hB1.size _⟩

set_option maxHeartbeats 1600000 in
theorem ipool_any (v : Value) (xs : List Nd) (w : World) (R : NRow w v xs) :
    Calls Try.prog 37 #[.agg #[v]] w fun e w' => e = .returned (.bool (poolB xs)) ∧ Below w.heap.size w w' := by
  have R' := R
  obtain ⟨ao, cap, rfl, hcap, hm, hz, hcell⟩ := R'
  by_cases hlen : xs.length ≤ 3000
  · have HP : Hid (poolB xs = nodesB (xs.drop 0) 0) := by unfold Hid poolB; simp [hlen]
    go_enter Try.func37, Try.ntmps37
    go_wp2_with fail
    go_loopw [12] (fun i wr => ∃ k : Nat, k ≤ xs.length ∧ i = .int .i64 k ∧ Hid (poolB xs = nodesB (xs.drop k) k) ∧ Below w.heap.size w wr) (fun i _ => xs.length - (intOf i).toNat)
    case atStart => exact ⟨0, by omega, rfl, HP.out, (Below.refl _ _).alloc (Nat.le_refl _) _⟩
    case round =>
      clear HP
      obtain ⟨k, hk, rfl, HP, hb⟩ := hrel
      by_cases hlt : k < xs.length
      · obtain ⟨g, o, rfl, hg, hcell⟩ := hcell (by intro e; subst e; simp at hlt)
        obtain ⟨x, hx⟩ : ∃ x, xs[k]? = some x := ⟨xs[k], by simp [hlt]⟩
        obtain ⟨c0, c1, c2, c3, c4⟩ := (hcell k x hx).below hb hg
        have HS : Hid (nodesB (xs.drop k) k = (nodeB x k && nodesB (xs.drop (k + 1)) (k + 1))) := nodesB_drop xs k x hx
        have hxs := hz x (List.mem_of_getElem? hx)
        clear hcell hx
        go_wp2_with fail
        refine (nodefits_any x _ _ hxs).mono ?_
        rintro e w2 ⟨rfl, hb2⟩
        have hB : Below w.heap.size w w2 := (hb.alloc hb.size _).trans (hb2.mono (by have := hb.size; simp; omega))
        clear c0 c1 c2 c3 c4 hb2
        have HN : Hid (poolB xs = (nodeB x k && nodesB (xs.drop (k + 1)) (k + 1))) := by unfold Hid; rw [HP.out, HS.out]
        clear HS HP
        generalize hA : nodeB x k = bA at HN ⊢
        clear hA
        cases bA with
        | false =>
          go_wp2
          go_ret
          exact ⟨by rw [HN.out]; rfl, hB⟩
        | true =>
          go_wp2
          go_roundw
          case rel => exact ⟨k + 1, by omega, by go_num, HN.out, hB⟩
          case measure => simp [intOf]; omega
      · have e : k = xs.length := by omega
        subst e
        have HT : Hid (poolB xs = true) := by unfold Hid; rw [HP.out, List.drop_length]; rfl
        clear HP
        go_wp2
        go_ret
        exact ⟨by rw [HT.out]; rfl, hb⟩
  · have HP : Hid (poolB xs = false) := by unfold Hid poolB; simp [hlen]
    go_enter Try.func37, Try.ntmps37
    go_wp2_with fail
    go_ret
    exact ⟨by rw [HP.out]; rfl, (Below.refl _ _).alloc (Nat.le_refl _) _⟩
end Go.Proofs.Ytacbhbmjhlgflaa

/-
  Contracts of spec's l2Node and PoolOk: when a node and a pool are right.
-/
namespace Go.Proofs.Ytacbhbmjhlgflaa
open Go.RowKit

set_option maxHeartbeats 3200000 in
theorem snode_cells (k n a b : Int) (s : ByteArray) (m : Nat) (w : World) (hs : s.size ≤ maxLen) (hm : m ≤ 9223372036854775807) :
    Calls Try.prog 69 #[.agg #[.int .i64 k, .int .i64 n, .string s, .int .i64 a, .int .i64 b], .int .i64 m] w fun e w' => e = .returned (.bool (nodeB ⟨k, n, s, a, b⟩ m)) ∧ Below w.heap.size w w' := by
  go_enter Try.func69, Try.ntmps69
  go_wp2_with fail
  refine (lin_any _ _ _ _).mono ?_
  rintro e w1 ⟨rfl, rfl⟩
  go_wp2_with fail
  refine (lin_any _ _ _ _).mono ?_
  rintro e w1 ⟨rfl, rfl⟩
  by_cases h1 : k = 1
  · subst h1
    go_wp2_with fail
    all_goals go_ret
    all_goals (refine ⟨retB ?_, (Below.refl _ _).alloc (Nat.le_refl _) _⟩; rw [Bool.eq_iff_iff]; simp [nodeB, nameFB, partB, lo, hi, hasS, hasA, hasB, *]; try first | omega | (by_cases hsl : s.toList = [] <;> simp [hsl] <;> omega))
  by_cases h2 : k = 2
  · subst h2
    go_wp2_with fail
    all_goals first | (refine (lin_any _ _ _ _).mono ?_; rintro e w1 ⟨rfl, rfl⟩; go_wp2_with fail) | skip
    all_goals go_ret
    all_goals (refine ⟨retB ?_, (Below.refl _ _).alloc (Nat.le_refl _) _⟩; rw [Bool.eq_iff_iff]; simp [nodeB, nameFB, partB, lo, hi, hasS, hasA, hasB, *]; try first | omega | (by_cases hsl : s.toList = [] <;> simp [hsl] <;> omega))
  by_cases h3 : k = 3
  · subst h3
    go_wp2_with fail
    all_goals first | (refine (lin_any _ _ _ _).mono ?_; rintro e w1 ⟨rfl, rfl⟩; go_wp2_with fail) | skip
    all_goals go_ret
    all_goals (refine ⟨retB ?_, (Below.refl _ _).alloc (Nat.le_refl _) _⟩; rw [Bool.eq_iff_iff]; simp [nodeB, nameFB, partB, lo, hi, hasS, hasA, hasB, *]; try first | omega | (by_cases hsl : s.toList = [] <;> simp [hsl] <;> omega))
  by_cases h4 : k = 4
  · subst h4
    go_wp2_with fail
    all_goals first | (refine (sname_any s _ hs).mono ?_; rintro e w1 ⟨rfl, rfl⟩; go_wp2_with fail) | skip
    all_goals go_ret
    all_goals (refine ⟨retB ?_, (Below.refl _ _).alloc (Nat.le_refl _) _⟩; rw [Bool.eq_iff_iff]; simp [nodeB, nameFB, partB, lo, hi, hasS, hasA, hasB, *]; try first | omega | (by_cases hsl : s.toList = [] <;> simp [hsl] <;> omega))
  by_cases h5 : k = 5
  · subst h5
    go_wp2_with fail
    all_goals go_ret
    all_goals (refine ⟨retB ?_, (Below.refl _ _).alloc (Nat.le_refl _) _⟩; rw [Bool.eq_iff_iff]; simp [nodeB, nameFB, partB, lo, hi, hasS, hasA, hasB, *]; try first | omega | (by_cases hsl : s.toList = [] <;> simp [hsl] <;> omega))
  by_cases h6 : k = 6
  · subst h6
    go_wp2_with fail
    all_goals first | (refine (lin_any _ _ _ _).mono ?_; rintro e w1 ⟨rfl, rfl⟩; go_wp2_with fail) | skip
    all_goals go_ret
    all_goals (refine ⟨retB ?_, (Below.refl _ _).alloc (Nat.le_refl _) _⟩; rw [Bool.eq_iff_iff]; simp [nodeB, nameFB, partB, lo, hi, hasS, hasA, hasB, *]; try first | omega | (by_cases hsl : s.toList = [] <;> simp [hsl] <;> omega))
  by_cases h7 : k = 7
  · subst h7
    go_wp2_with fail
    all_goals go_ret
    all_goals (refine ⟨retB ?_, (Below.refl _ _).alloc (Nat.le_refl _) _⟩; rw [Bool.eq_iff_iff]; simp [nodeB, nameFB, partB, lo, hi, hasS, hasA, hasB, *]; try first | omega | (by_cases hsl : s.toList = [] <;> simp [hsl] <;> omega))
  by_cases h8 : k = 8
  · subst h8
    go_wp2_with fail
    all_goals first | (refine (lin_any _ _ _ _).mono ?_; rintro e w1 ⟨rfl, rfl⟩; go_wp2_with fail) | skip
    all_goals go_ret
    all_goals (refine ⟨retB ?_, (Below.refl _ _).alloc (Nat.le_refl _) _⟩; rw [Bool.eq_iff_iff]; simp [nodeB, nameFB, partB, lo, hi, hasS, hasA, hasB, *]; try first | omega | (by_cases hsl : s.toList = [] <;> simp [hsl] <;> omega))
  by_cases h9 : k = 9
  · subst h9
    go_wp2_with fail
    all_goals first | (refine (lin_any _ _ _ _).mono ?_; rintro e w1 ⟨rfl, rfl⟩; go_wp2_with fail) | skip
    all_goals go_ret
    all_goals (refine ⟨retB ?_, (Below.refl _ _).alloc (Nat.le_refl _) _⟩; rw [Bool.eq_iff_iff]; simp [nodeB, nameFB, partB, lo, hi, hasS, hasA, hasB, *]; try first | omega | (by_cases hsl : s.toList = [] <;> simp [hsl] <;> omega))
  have HN : Hid (nodeB ⟨k, n, s, a, b⟩ m = false) := by
    unfold Hid nodeB
    rw [Bool.eq_false_iff]
    intro h
    simp only [Bool.and_eq_true, decide_eq_true_eq] at h
    have := h.1.1.1
    omega
  go_wp2_with fail
  go_ret
  exact ⟨by rw [HN.out]; rfl, (Below.refl _ _).alloc (Nat.le_refl _) _⟩

theorem snode_any (x : Nd) (m : Nat) (w : World) (hs : x.s.size ≤ maxLen) (hm : m ≤ 9223372036854775807) :
    Calls Try.prog 69 #[.agg #[.int .i64 x.k, .int .i64 x.n, .string x.s, .int .i64 x.a, .int .i64 x.b], .int .i64 m] w fun e w' => e = .returned (.bool (nodeB x m)) ∧ Below w.heap.size w w' :=
  snode_cells x.k x.n x.a x.b x.s m w hs hm

set_option maxHeartbeats 1600000 in
theorem spool_any (v : Value) (xs : List Nd) (w : World) (R : NRow w v xs) :
    Calls Try.prog 29 #[.agg #[v]] w fun e w' => e = .returned (.bool (poolB xs)) ∧ Below w.heap.size w w' := by
  have R' := R
  obtain ⟨ao, cap, rfl, hcap, hm, hz, hcell⟩ := R'
  go_enter Try.func29, Try.ntmps29
  go_wp2_with fail
  go_loopw [3] (fun i wr => ∃ k : Nat, k ≤ xs.length ∧ i = .int .i64 k ∧ Hid (nodesB xs 0 = nodesB (xs.drop k) k) ∧ wr.cell? ⟨w.heap.size, 0, none⟩ = some (.slice ao xs.length cap) ∧ Below w.heap.size w wr ∧ w.heap.size < wr.heap.size) (fun i _ => xs.length - (intOf i).toNat)
  case atStart => exact ⟨0, by omega, rfl, rfl, by simp, (Below.refl _ _).alloc (Nat.le_refl _) _, by simp⟩
  case round =>
    obtain ⟨k, hk, rfl, HP, hbox, hb, hbl⟩ := hrel
    by_cases hlt : k < xs.length
    · obtain ⟨g, o, rfl, hg, hcell⟩ := hcell (by intro e; subst e; simp at hlt)
      obtain ⟨x, hx⟩ : ∃ x, xs[k]? = some x := ⟨xs[k], by simp [hlt]⟩
      obtain ⟨c0, c1, c2, c3, c4⟩ := (hcell k x hx).below hb hg
      have HS : Hid (nodesB (xs.drop k) k = (nodeB x k && nodesB (xs.drop (k + 1)) (k + 1))) := nodesB_drop xs k x hx
      have hxs := hz x (List.mem_of_getElem? hx)
      clear hcell hx
      go_wp2_with fail
      refine (snode_any x _ _ hxs (by omega)).mono ?_
      rintro e w2 ⟨rfl, hb2⟩
      have hB : Below w.heap.size w w2 := hb.trans (hb2.mono (by omega))
      have hbox2 := (hb2.cell (p := ⟨w.heap.size, 0, none⟩) hbl).trans hbox
      have hbl2 := Nat.lt_of_lt_of_le hbl hb2.size
      have HN : Hid (nodesB xs 0 = (nodeB x k && nodesB (xs.drop (k + 1)) (k + 1))) := by unfold Hid; rw [HP.out, HS.out]
      clear c0 c1 c2 c3 c4 hb2 hbox HS HP
      generalize hA : nodeB x k = bA at HN ⊢
      clear hA
      cases bA with
      | false =>
        have HF : Hid (poolB xs = false) := by unfold Hid poolB; rw [HN.out]; simp
        clear HN
        go_wp2
        go_ret
        exact ⟨by rw [HF.out]; rfl, hB⟩
      | true =>
        go_wp2
        go_roundw
        case rel => exact ⟨k + 1, by omega, by go_num, HN.out, hbox2, hB, hbl2⟩
        case measure => simp [intOf]; omega
    · have e : k = xs.length := by omega
      have HT : Hid (poolB xs = decide (xs.length ≤ 3000)) := by unfold Hid poolB; rw [HP.out, e, List.drop_length]; simp [nodesB]
      clear HP
      go_wp2
      go_ret
      refine ⟨retB ?_, hb⟩
      rw [HT.out, Bool.eq_iff_iff]
      simp
      omega
end Go.Proofs.Ytacbhbmjhlgflaa

/-
  Contracts of impl's with and Make, and of spec's l2Copy and Make: a node behind a pool.
-/
namespace Go.Proofs.Ytacbhbmjhlgflaa
open Go.RowKit

/-- 'append' onto a row of the call's own, whatever is appended. -/
theorem wpList_append_own_any {P : Program} (w : World) {ops : Array Oper} {rest : List Oper} {o : Oper} {a : Act} {Q : Exit → Act → World → Prop}
    (hg : o.guard = none) (s x : Operand) (t : TypeId) (hop : o.op = Op.call { callee := Callee.builtin Builtin.append, args := #[s, x], argTypes := #[t, t] })
    (base : Nat) (e : TypeId) (i : TypeInfo) (z : Value) (size bytes : Nat) (h1 : P.underlying t = some (.slice e)) (h2 : P.info? e = some i) (h3 : i.zero = some z) (h4 : i.size = size) (h5 : i.bytes = bytes) (h6 : z.cells.size = size) (h7 : 0 < size)
    (v : Value) (k : Nat) (xs : List Value) (hs : a.eval s = v) (hown : w.ownsRow base e size v k xs) (ao : Option Addr) (m c : Nat) (news : List Value) (hx : a.eval x = .slice ao m c) (hn : news.length = m * size)
    (hnone : ao = none → m = 0 ∧ c = 0) (hc : ∀ ad, ao = some ad → ∀ j u, news[j]? = some u → w.cell? (ad.add j) = some u) (h1c : ∀ u ∈ news, u.oneCell' = true) (b1 : k + m ≤ maxLen) (b2 : (k + m) * bytes ≤ 140737488355328) (b3 : base ≤ w.heap.size)
    (hK : ∀ v' w', w'.ownsRow base e size v' (k + m) (xs ++ news) → w.grownBy w' v.ownBlock → wpList P ops Q rest (a.put o.dst v') w') :
    wpList P ops Q (o :: rest) a w := by
  cases ao with
  | some ad => exact wpList_append_own w hg s x t hop base e i z size bytes h1 h2 h3 h4 h5 h6 h7 v k xs hs hown ad m c news hx hn (hc ad rfl) h1c b1 b2 b3 (fun v' w' h1 h2 _ => hK v' w' h1 h2)
  | none =>
    obtain ⟨rfl, rfl⟩ := hnone rfl
    have hnews : news = [] := List.eq_nil_of_length_eq_zero (by simpa using hn)
    subst hnews
    refine wpList_plain hg fun K hK' => ?_
    have hrun := run_append_owned_none (P := P) w base t o.type e i size h1 h2 _ k xs hown
    unfold Oper.wp
    simp [execOp, hop, resolve, invoke, builtin, hs, hx, hrun, Result.andThen]
    exact hK' _ _ (by simpa using hK v w (by simpa using hown) (World.grownBy.refl _ _))

theorem NRow.nilcap {w : World} {ao : Option Addr} {n cap : Nat} {xs : List Nd} (h : NRow w (.slice ao n cap) xs) : ao = none → n = 0 ∧ cap = 0 := by
  obtain ⟨ao', cap', e, ⟨h1, h2⟩, _⟩ := h
  simp only [Value.slice.injEq] at e
  obtain ⟨rfl, rfl, rfl⟩ := e
  intro h
  have := h2 h
  omega

theorem Try.sizeP : (Try.prog.info? 33).map (·.size) = some 1 := by kernel_rfl

set_option maxHeartbeats 800000 in
theorem with_any (v vm : Value) (xs ys : List Nd) (w : World) (R : NRow w v xs) (Rm : NRow w vm ys) (hm : xs.length + ys.length ≤ 4194304) :
    Calls Try.prog 40 #[.agg #[v], vm] w fun e w' => ∃ v', e = .returned (.agg #[v']) ∧ w'.ownsRow w.heap.size 63 5 v' (xs ++ ys).length (ncs (xs ++ ys)) ∧ Below w.heap.size w w' := by
  have R' := R
  have Rm' := Rm
  obtain ⟨ao, cap, rfl, hcap, _, _, _⟩ := R'
  obtain ⟨am, capm, rfl, hcapm, _, _, _⟩ := Rm'
  obtain ⟨i0, hi, hz0, hz1, hz2⟩ := info_parts Try.infoN
  have hbytes : i0.bytes * (xs.length + ys.length) ≤ 281474976710656 := by rw [hz2]; omega
  have hmax : xs.length + ys.length ≤ maxLen := by unfold maxLen; omega
  go_enter Try.func40, Try.ntmps40
  go_wp2_with (at_make; refine wpList_make_own _ rfl _ _ 31 rfl (w.heap.size + 2) 63 i0 _ 5 Try.underlying31 hi hz0 hz1 _ _ _ (xs.length + ys.length) rfl rfl (by omega) hbytes hmax (by simp) ?_)
  intro w1 hown hgrow
  have hbel : Below (w.heap.size + 2) ((w.alloc (Obj.cells #[.slice ao xs.length cap] 33)).alloc (Obj.cells #[.slice none 0 0] 33)) w1 := (Below.refl _ _).grown hgrow (by simp) (by intro k hk; cases hk)
  have hB0 : Below w.heap.size w ((w.alloc (Obj.cells #[.slice ao xs.length cap] 33)).alloc (Obj.cells #[.slice none 0 0] 33)) := ((Below.refl _ _).alloc (Nat.le_refl _) _).alloc (by simp) _
  have hB1 : Below w.heap.size w w1 := hB0.trans (hbel.mono (by omega))
  have hx1 : w1.heap[w.heap.size]? = some (.cells #[.slice ao xs.length cap] 33 (0, 0)) := (hbel.block _ (by omega)).trans (heap_alloc2_old _ _ _)
  have hy1 : w1.heap[w.heap.size + 1]? = some (.cells #[.slice none 0 0] 33 (0, 0)) := (hbel.block _ (by omega)).trans (heap_alloc2_new _ _ _)
  have hc1 : w1.cell? ⟨w.heap.size, 0, none⟩ = some (.slice ao xs.length cap) := by rw [cell_of_row w1 _ 0 _ _ _ hx1]; rfl
  have R1 := R.below hB1
  have Rm1 := Rm.below hB1
  clear hgrow
  go_wp2_with (at_builtin; refine wpList_append_fits_any _ rfl _ _ 31 rfl (w.heap.size + 2) 63 i0 5 Try.underlying31 hi hz1 _ 0 _ [] rfl hown ao xs.length cap (ncs xs) rfl (by rw [ncs_length]) R1.nilcap R1.cells (ncs_one xs) (by omega) ?_)
  intro w2 hown2 hg2
  have hbel2 : Below (w.heap.size + 2) w1 w2 := (Below.refl _ _).grown hg2 (by have := hbel.size; simp at this; omega) (fun k hk => by simp at hk; omega)
  have hB2 := hB1.trans (hbel2.mono (by omega))
  have hx2 := (hbel2.block _ (by omega)).trans hx1
  have hy2 := (hbel2.block _ (by omega)).trans hy1
  have Rm2 := Rm.below hB2
  clear hg2 hown R1 Rm1 hx1 hy1 hc1 hB1 hbel
  go_wp2_with (at_builtin; refine wpList_append_fits_any _ rfl _ _ 31 rfl (w.heap.size + 2) 63 i0 5 Try.underlying31 hi hz1 _ _ _ _ rfl hown2 am ys.length capm (ncs ys) rfl (by rw [ncs_length]) Rm2.nilcap Rm2.cells (ncs_one ys) (by omega) ?_)
  intro w3 hown3 hg3
  have hbel3 : Below (w.heap.size + 2) w2 w3 := (Below.refl _ _).grown hg3 (by have := hB2.size; have := (Array.getElem?_eq_some_iff.1 hy2).1; omega) (fun k hk => by simp at hk; omega)
  have hB3 := hB2.trans (hbel3.mono (by omega))
  have hy3 := (hbel3.block _ (by omega)).trans hy2
  have c3 : w3.cell? ⟨w.heap.size + 1, 0, none⟩ = some (.slice none 0 0) := by rw [cell_of_row w3 _ 0 _ _ _ hy3]; rfl
  have f3 : w3.frozen? ⟨w.heap.size + 1, 0, none⟩ = false := frozen_of_row w3 _ 0 _ _ hy3
  clear hg3 hown2 hx2 hy2 Rm2 hB2 hbel2 hbel3
  go_wp2
  have hb4 := heap_setCell_same w3 (w.heap.size + 1) 0 _ _ (.slice (some ⟨w.heap.size + 1 + 1, 0, none⟩) (xs.length + ys.length) (xs.length + ys.length)) hy3
  refine bodyPost_ret (results_cell_row rfl _ _ (w.heap.size + 1) 33 _ (0, 0) _ rfl hb4 Try.underlying33 rfl Try.sizeP) rfl ⟨_, rfl, ?_, ?_⟩
  · have := own_mono (B' := w.heap.size) (ownsRow_setCell_below hown3 (a := ⟨w.heap.size + 1, 0, none⟩) (by simp) (.slice (some ⟨w.heap.size + 1 + 1, 0, none⟩) (xs.length + ys.length) (xs.length + ys.length))) (by omega)
    simpa [ncs_append] using this
  · exact hB3.setCell (p := ⟨w.heap.size + 1, 0, none⟩) (by simp) _

set_option maxHeartbeats 800000 in
theorem scopy_any (v : Value) (xs : List Nd) (w : World) (R : NRow w v xs) (hm : xs.length ≤ 4194304) :
    Calls Try.prog 31 #[.agg #[v]] w fun e w' => ∃ v', e = .returned (.agg #[v']) ∧ w'.ownsRow w.heap.size 63 5 v' xs.length (ncs xs) ∧ Below w.heap.size w w' := by
  have R' := R
  obtain ⟨ao, cap, rfl, hcap, _, _, _⟩ := R'
  obtain ⟨i0, hi, hz0, hz1, hz2⟩ := info_parts Try.infoN
  have hB0 : Below w.heap.size w (((w.alloc (Obj.cells #[.slice ao xs.length cap] 33)).alloc (Obj.cells #[.slice none 0 0] 33)).alloc (Obj.cells #[] 63)) := (((Below.refl _ _).alloc (Nat.le_refl _) _).alloc (by simp) _).alloc (by simp; omega) _
  have R1 := R.below hB0
  have own1 : (((w.alloc (Obj.cells #[.slice ao xs.length cap] 33)).alloc (Obj.cells #[.slice none 0 0] 33)).alloc (Obj.cells #[] 63)).ownsRow (w.heap.size + 2) 63 5 (.slice (some ⟨w.heap.size + 1 + 1, 0, none⟩) 0 0) 0 (ncs []) := by
    have := World.ownsRow_made (base := w.heap.size + 2) (e := 63) (size := 5) ((w.alloc (Obj.cells #[.slice ao xs.length cap] 33)).alloc (Obj.cells #[.slice none 0 0] 33)) #[] 0 (by simp) (by simp) (by simp)
    simpa [ncs_nil] using this
  go_enter Try.func31, Try.ntmps31
  go_wp2_with (at_builtin; refine wpList_append_own_any _ rfl _ _ 31 rfl (w.heap.size + 2) 63 i0 _ 5 48 Try.underlying31 hi hz0 hz1 hz2 rfl (by decide) _ 0 _ rfl own1 ao xs.length cap (ncs xs) rfl (by rw [ncs_length]) R1.nilcap R1.cells (ncs_one xs) (by unfold maxLen; omega) (by omega) (by simp) ?_)
  intro v2 w2 hown2 hg2
  obtain ⟨ao2, cap2, rfl⟩ := own_form hown2
  have hbel2 : Below (w.heap.size + 2) (((w.alloc (Obj.cells #[.slice ao xs.length cap] 33)).alloc (Obj.cells #[.slice none 0 0] 33)).alloc (Obj.cells #[] 63)) w2 := (Below.refl _ _).grown hg2 (by simp) (fun k hk => by simp [Value.ownBlock] at hk; omega)
  have hB2 := hB0.trans (hbel2.mono (by omega))
  have hy2 : w2.heap[w.heap.size + 1]? = some (.cells #[.slice none 0 0] 33 (0, 0)) := (hbel2.block _ (by omega)).trans ((heap_alloc_old _ _ (by simp)).trans (heap_alloc2_new _ _ _))
  have c3 : w2.cell? ⟨w.heap.size + 1, 0, none⟩ = some (.slice none 0 0) := by rw [cell_of_row w2 _ 0 _ _ _ hy2]; rfl
  have f3 : w2.frozen? ⟨w.heap.size + 1, 0, none⟩ = false := frozen_of_row w2 _ 0 _ _ hy2
  clear hg2 R1 own1 hbel2
  go_wp2
  have hb4 := heap_setCell_same w2 (w.heap.size + 1) 0 _ _ (.slice ao2 xs.length cap2) hy2
  refine bodyPost_ret (results_cell_row rfl _ _ (w.heap.size + 1) 33 _ (0, 0) _ (by simp) hb4 Try.underlying33 rfl Try.sizeP) rfl ⟨_, rfl, ?_, ?_⟩
  · have := own_mono (B' := w.heap.size) (ownsRow_setCell_below hown2 (a := ⟨w.heap.size + 1, 0, none⟩) (by simp) (.slice ao2 xs.length cap2)) (by omega)
    simpa [ncs_nil] using this
  · exact hB2.setCell (p := ⟨w.heap.size + 1, 0, none⟩) (by simp) _
end Go.Proofs.Ytacbhbmjhlgflaa
