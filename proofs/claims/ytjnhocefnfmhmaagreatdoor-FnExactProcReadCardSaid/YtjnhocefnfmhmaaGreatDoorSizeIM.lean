/-
  Texts that stood by themselves, laid into one.
-/
import Derived.Test.YtjnhocefnfmhmaaGreatDoorPrRegM
import Derived.Laws.CopyOwn
import Derived.Laws.ResultCell
/-
  A machine but for its pool. No condition.
-/
namespace Go.Proofs.YtjnhocefnfmhmaaGreatDoor
open Go.RowKit

/-- A machine but for its pool: where it is, its stack, frames, what waits, its state, what it asks, and with what. -/
structure Mc where
  p : Int
  s : Int
  e : Int
  d : Int
  t : Int
  q : Int
  r : Int

theorem Tryz.sizeMach : (Tryz.prog.info? 47).map (·.size) = some 8 := by kernel_rfl

theorem two_boxes (w : World) (A B : Obj) : Below w.heap.size w ((w.alloc A).alloc B) ∧ ((w.alloc A).alloc B).heap[w.heap.size]? = some A ∧ ((w.alloc A).alloc B).heap[w.heap.size + 1]? = some B :=
  ⟨((Below.refl _ _).alloc (Nat.le_refl _) _).alloc (by simp) _, (heap_alloc_old _ _ (by simp)).trans (heap_alloc_new _ _), heap_alloc2_new _ _ _⟩

end Go.Proofs.YtjnhocefnfmhmaaGreatDoor

/-
  Contracts of isNameByte, l2NameByte and the two NameOk: each tells whether a text is a name.
-/
namespace Go.Proofs.YtjnhocefnfmhmaaGreatDoor
open Go.RowKit

set_option maxHeartbeats 400000 in
theorem inb_any (b : Int) (w : World) : Calls Tryz.prog 173 #[.int .u8 b] w fun e w' => e = .returned (.bool (nb b)) ∧ w' = w := by
  go_enter Tryz.func173, Tryz.ntmps173
  go_wp2
  all_goals go_ret
  all_goals (refine ⟨retB ?_, rfl⟩; rw [Bool.eq_iff_iff]; simp [nb, *]; try omega)

set_option maxHeartbeats 400000 in
theorem snb_any (b : Int) (w : World) : Calls Tryz.prog 149 #[.int .u8 b] w fun e w' => e = .returned (.bool (nb b)) ∧ w' = w := by
  go_enter Tryz.func149, Tryz.ntmps149
  go_wp2
  all_goals go_ret
  all_goals (refine ⟨retB ?_, rfl⟩; rw [Bool.eq_iff_iff]; simp [nb, *]; try omega)

set_option maxHeartbeats 400000 in
theorem lin_any (x l h : Int) (w : World) : Calls Tryz.prog 59 #[.int .i64 x, .int .i64 l, .int .i64 h] w fun e w' => e = .returned (.bool (decide (l ≤ x) && decide (x ≤ h))) ∧ w' = w := by
  go_enter Tryz.func59, Tryz.ntmps59
  go_wp2
  all_goals go_ret
  all_goals (refine ⟨retB ?_, rfl⟩; rw [Bool.eq_iff_iff]; simp [*]; try omega)

set_option maxHeartbeats 400000 in
theorem iname_any (s : ByteArray) (w : World) (_ : s.size ≤ maxLen) : Calls Tryz.prog 152 #[.string s] w fun e w' => e = .returned (.bool (nameB s)) ∧ w' = w := by
  by_cases h0 : 1 ≤ s.size ∧ s.size ≤ 12
  · go_enter Tryz.func152, Tryz.ntmps152
    go_wp2
    go_loop [3] (fun i => ∃ k : Nat, k ≤ s.size ∧ i = .int .i64 k ∧ Hid (∀ j (hj : j < s.size), j < k → nb (s[j].toNat) = true)) (fun i => s.size - (intOf i).toNat)
    case atStart => exact ⟨0, by omega, rfl, fun j hj hk => by omega⟩
    case round =>
      obtain ⟨k, hk, rfl, H⟩ := hrel
      by_cases hlt : k < s.size
      · go_wp2_with fail
        refine (inb_any _ _).mono ?_
        rintro e w1 ⟨rfl, rfl⟩
        by_cases hn : nb (s[k].toNat) = true
        · rw [hn]
          go_wp2
          go_round
          case rel =>
            refine ⟨k + 1, by omega, by go_num, fun j hj hk => ?_⟩
            by_cases e : j = k
            · subst e; exact hn
            · exact H.out j hj (by omega)
          case measure => simp [intOf]; omega
        · have hn' : nb (s[k].toNat) = false := by simpa using hn
          have HN : Hid (nameB s = false) := nameB_not k hlt hn'
          rw [hn']
          go_wp2
          go_ret
          exact ⟨by rw [HN.out]; rfl, rfl⟩
      · have HN : Hid (nameB s = true) := nameB_all h0.1 h0.2 fun j hj => H.out j hj (by omega)
        go_wp2
        go_ret
        exact ⟨by rw [HN.out]; rfl, rfl⟩
  · have HN : Hid (nameB s = false) := nameB_size h0
    go_enter Tryz.func152, Tryz.ntmps152
    go_wp2
    all_goals go_ret
    all_goals first | exact ⟨by rw [HN.out]; rfl, rfl⟩ | (exfalso; omega)

set_option maxHeartbeats 400000 in
theorem sname_any (s : ByteArray) (w : World) (hs : s.size ≤ maxLen) : Calls Tryz.prog 116 #[.string s] w fun e w' => e = .returned (.bool (nameB s)) ∧ w' = w := by
  unfold maxLen at hs
  go_enter Tryz.func116, Tryz.ntmps116
  go_wp2
  go_loop [3] (fun i => ∃ k : Nat, k ≤ s.size ∧ i = .int .i64 k ∧ Hid (∀ j (hj : j < s.size), j < k → nb (s[j].toNat) = true)) (fun i => s.size - (intOf i).toNat)
  case atStart => exact ⟨0, by omega, rfl, fun j hj hk => by omega⟩
  case round =>
    obtain ⟨k, hk, rfl, H⟩ := hrel
    by_cases hlt : k < s.size
    · go_wp2_with fail
      refine (snb_any _ _).mono ?_
      rintro e w1 ⟨rfl, rfl⟩
      by_cases hn : nb (s[k].toNat) = true
      · rw [hn]
        go_wp2
        go_round
        case rel =>
          refine ⟨k + 1, by omega, by go_num, fun j hj hk => ?_⟩
          by_cases e : j = k
          · subst e; exact hn
          · exact H.out j hj (by omega)
        case measure => simp [intOf]; omega
      · have hn' : nb (s[k].toNat) = false := by simpa using hn
        have HN : Hid (nameB s = false) := nameB_not k hlt hn'
        rw [hn']
        go_wp2
        go_ret
        exact ⟨by rw [HN.out]; rfl, rfl⟩
    · have HA : Hid (∀ j (hj : j < s.size), nb (s[j].toNat) = true) := fun j hj => H.out j hj (by omega)
      go_wp2_with fail
      refine (lin_any _ _ _ _).mono ?_
      rintro e w1 ⟨rfl, rfl⟩
      go_wp2
      go_ret
      refine ⟨retB ?_, rfl⟩
      by_cases h0 : 1 ≤ s.size ∧ s.size ≤ 12
      · rw [nameB_all h0.1 h0.2 HA.out]
        simp; omega
      · rw [nameB_size h0]
        simp; omega
end Go.Proofs.YtjnhocefnfmhmaaGreatDoor

/-
  Contracts of impl's shapeOf, nameFits, partFits, nodeFits and PoolOk: when a node and a pool are right.
-/
namespace Go.Proofs.YtjnhocefnfmhmaaGreatDoor
open Go.RowKit

/-- A struct in a block of its own and one value more, as results. -/
theorem results_row_tmp {P : Program} {fn : Func} {p u : Tmp} {ty : TypeId} (h : fn.results = #[.cell p ty, .tmp u]) (tmps : Array Value) (w : World) (g : Nat) (t : TypeId) (cs : Array Value) (fr : Nat × Nat) (d : TypeDesc)
    (hp : tmps.getD p undef = .pointer (some ⟨g, 0, none⟩)) (hg : w.heap[g]? = some (.cells cs t fr))
    (hu : P.underlying ty = some d) (hd : (match d with | .struct _ | .array _ _ => true | _ => false) = true) (hi : (P.info? ty).map (·.size) = some cs.size) :
    (results fn tmps).run P w = .ok (.tuple #[.agg cs, tmps.getD u undef]) w := by
  rw [results_cell_tmp h, hp]
  simp [asAddr, run_loadVar_row w g t ty cs fr d hg hu hd hi]

theorem Tryz.sizeShape : (Tryz.prog.info? 203).map (·.size) = some 5 := by kernel_rfl

/-- What shapeOf tells of a kind. -/
def shapeV (k : Int) : Value :=
  if 1 ≤ k ∧ k ≤ 9 then .tuple #[.agg #[.int .i64 (lo k), .int .i64 (hi k), .bool (hasS k), .bool (hasA k), .bool (hasB k)], .bool true]
  else .tuple #[.agg #[.int .i64 0, .int .i64 0, .bool false, .bool false, .bool false], .bool false]

set_option maxHeartbeats 1600000 in
theorem shapeof_any (k : Int) (w : World) : Calls Tryz.prog 155 #[.int .i64 k] w fun e w' => e = .returned (shapeV k) ∧ Below w.heap.size w w' := by
  go_enter Tryz.func155, Tryz.ntmps155
  go_wp2
  all_goals refine bodyPost_ret (results_row_tmp rfl _ _ w.heap.size 203 _ (0, 0) _ rfl (heap_alloc_new _ _) Tryz.underlying203 rfl Tryz.sizeShape) rfl ⟨?_, (Below.refl _ _).alloc (Nat.le_refl _) _⟩
  all_goals simp only [beq_iff_eq, beq_eq_false_iff_ne] at *
  all_goals (try subst k)
  all_goals first | rfl | (rw [shapeV, if_neg (by omega)]; rfl)

set_option maxHeartbeats 400000 in
theorem namefits_any (s : ByteArray) (b : Bool) (w : World) (hs : s.size ≤ maxLen) : Calls Tryz.prog 156 #[.string s, .bool b] w fun e w' => e = .returned (.bool (nameFB s b)) ∧ w' = w := by
  cases b with
  | false =>
    go_enter Tryz.func156, Tryz.ntmps156
    go_wp2
    all_goals go_ret
    all_goals simp [nameFB]
  | true =>
    go_enter Tryz.func156, Tryz.ntmps156
    go_wp2_with fail
    refine (iname_any s _ hs).mono ?_
    rintro e w1 ⟨rfl, rfl⟩
    go_wp2
    go_ret
    simp [nameFB]

set_option maxHeartbeats 400000 in
theorem partfits_any (p : Int) (b : Bool) (n : Int) (w : World) : Calls Tryz.prog 157 #[.int .i64 p, .bool b, .int .i64 n] w fun e w' => e = .returned (.bool (partB p b n)) ∧ w' = w := by
  cases b with
  | false =>
    go_enter Tryz.func157, Tryz.ntmps157
    go_wp2
    all_goals go_ret
    all_goals simp [partB]
  | true =>
    go_enter Tryz.func157, Tryz.ntmps157
    go_wp2
    all_goals go_ret
    all_goals (refine ⟨retB ?_, rfl⟩; rw [Bool.eq_iff_iff]; simp [partB, *]; try omega)

end Go.Proofs.YtjnhocefnfmhmaaGreatDoor

/-
  Contracts of impl's nodeFits and PoolOk: when a node and a pool are right.
-/
namespace Go.Proofs.YtjnhocefnfmhmaaGreatDoor
open Go.RowKit

set_option maxHeartbeats 1600000 in
theorem nodefits_any (x : Nd) (n : Int) (w : World) (hs : x.s.size ≤ maxLen) :
    Calls Tryz.prog 125 #[.agg #[.int .i64 x.k, .int .i64 x.n, .string x.s, .int .i64 x.a, .int .i64 x.b], .int .i64 n] w fun e w' => e = .returned (.bool (nodeB x n)) ∧ Below w.heap.size w w' := by
  go_enter Tryz.func125, Tryz.ntmps125
  go_wp2_with fail
  have hb0 : Below w.heap.size w (w.alloc (Obj.cells #[.int .i64 x.k, .int .i64 x.n, .string x.s, .int .i64 x.a, .int .i64 x.b] 153)) := (Below.refl _ _).alloc (Nat.le_refl _) _
  refine (shapeof_any x.k _).mono ?_
  rintro e w1 ⟨rfl, hb1⟩
  have hbox := (hb1.block w.heap.size (by simp)).trans (heap_alloc_new _ _)
  have hcell : ∀ j, w1.cell? ⟨w.heap.size, j, none⟩ = #[Value.int .i64 x.k, .int .i64 x.n, .string x.s, .int .i64 x.a, .int .i64 x.b][j]? := fun j => cell_of_row w1 _ j _ _ _ hbox
  have c1 := hcell 1
  have c2 := hcell 2
  have c3 := hcell 3
  have c4 := hcell 4
  simp only [List.getElem?_toArray, List.getElem?_cons_succ, List.getElem?_cons_zero] at c1 c2 c3 c4
  have hbl : w.heap.size < w1.heap.size := (Array.getElem?_eq_some_iff.1 hbox).1
  have hB1 : Below w.heap.size w w1 := hb0.trans (hb1.mono (by simp))
  clear hcell hbox hb0 hb1
  by_cases hk : 1 ≤ x.k ∧ x.k ≤ 9
  · rw [shapeV, if_pos hk]
    by_cases h1 : lo x.k ≤ x.n ∧ x.n ≤ hi x.k
    · have HN : Hid (nodeB x n = (nameFB x.s (hasS x.k) && partB x.a (hasA x.k) n && partB x.b (hasB x.k) n)) := by
        unfold Hid nodeB; simp [hk, h1]
      obtain ⟨h1a, h1b⟩ := h1
      go_wp2_with fail
      refine (namefits_any _ _ _ hs).mono ?_
      rintro e w2 ⟨rfl, rfl⟩
      generalize hA : nameFB x.s (hasS x.k) = bA at HN ⊢
      clear hA
      cases bA with
      | false =>
        go_wp2
        go_ret
        exact ⟨by rw [HN.out]; rfl, hB1.alloc hB1.size _⟩
      | true =>
        go_wp2_with fail
        refine (partfits_any _ _ _ _).mono ?_
        rintro e w2 ⟨rfl, rfl⟩
        generalize hA : partB x.a (hasA x.k) n = bA at HN ⊢
        clear hA
        cases bA with
        | false =>
          go_wp2
          go_ret
          exact ⟨by rw [HN.out]; rfl, hB1.alloc hB1.size _⟩
        | true =>
          go_wp2_with fail
          refine (partfits_any _ _ _ _).mono ?_
          rintro e w2 ⟨rfl, rfl⟩
          go_wp2
          go_ret
          exact ⟨by rw [HN.out]; rfl, hB1.alloc hB1.size _⟩
    · have HN : Hid (nodeB x n = false) := by
        unfold Hid nodeB
        rw [Bool.eq_false_iff]
        intro h
        simp only [Bool.and_eq_true, decide_eq_true_eq] at h
        exact h1 ⟨h.1.1.2, h.1.2⟩
      go_wp2_with fail
      all_goals go_ret
      all_goals first | exact ⟨by rw [HN.out]; rfl, hB1.alloc hB1.size _⟩ | (exfalso; omega)
  · have HN : Hid (nodeB x n = false) := by
      unfold Hid nodeB
      rw [Bool.eq_false_iff]
      intro h
      simp only [Bool.and_eq_true, decide_eq_true_eq] at h
      exact hk h.1.1.1
    rw [shapeV, if_neg hk]
    go_wp2_with fail
    all_goals go_ret
    all_goals exact ⟨by rw [HN.out]; rfl, hB1.alloc hB1.size _⟩

set_option maxHeartbeats 1600000 in
theorem ipool_any (v : Value) (xs : List Nd) (w : World) (R : NRow w v xs) :
    Calls Tryz.prog 100 #[.agg #[v]] w fun e w' => e = .returned (.bool (poolB xs)) ∧ Below w.heap.size w w' := by
  have R' := R
  obtain ⟨ao, cap, rfl, hcap, hm, hz, hcell⟩ := R'
  by_cases hlen : xs.length ≤ 3000
  · have HP : Hid (poolB xs = nodesB (xs.drop 0) 0) := by unfold Hid poolB; simp [hlen]
    go_enter Tryz.func100, Tryz.ntmps100
    go_wp2_with fail
    go_loopw [12] (fun i wr => ∃ k : Nat, k ≤ xs.length ∧ i = .int .i64 k ∧ Hid (poolB xs = nodesB (xs.drop k) k) ∧ Below w.heap.size w wr) (fun i _ => xs.length - (intOf i).toNat)
    case atStart => exact ⟨0, by omega, rfl, HP.out, (Below.refl _ _).alloc (Nat.le_refl _) _⟩
    case round =>
      clear HP
      obtain ⟨k, hk, rfl, HP, hb⟩ := hrel
      by_cases hlt : k < xs.length
      · obtain ⟨g, o, rfl, hg, hcell⟩ := hcell (by intro e; subst e; simp at hlt)
        obtain ⟨x, hx⟩ : ∃ x, xs[k]? = some x := ⟨xs[k], by simp [hlt]⟩
        obtain ⟨c0, c1, c2, c3, c4⟩ := (hcell k x hx).below hb hg
        have HS : Hid (nodesB (xs.drop k) k = (nodeB x k && nodesB (xs.drop (k + 1)) (k + 1))) := nodesB_drop xs k x hx
        have hxs := hz x (List.mem_of_getElem? hx)
        clear hcell hx
        go_wp2_with fail
        refine (nodefits_any x _ _ hxs).mono ?_
        rintro e w2 ⟨rfl, hb2⟩
        have hB : Below w.heap.size w w2 := (hb.alloc hb.size _).trans (hb2.mono (by have := hb.size; simp; omega))
        clear c0 c1 c2 c3 c4 hb2
        have HN : Hid (poolB xs = (nodeB x k && nodesB (xs.drop (k + 1)) (k + 1))) := by unfold Hid; rw [HP.out, HS.out]
        clear HS HP
        generalize hA : nodeB x k = bA at HN ⊢
        clear hA
        cases bA with
        | false =>
          go_wp2
          go_ret
          exact ⟨by rw [HN.out]; rfl, hB⟩
        | true =>
          go_wp2
          go_roundw
          case rel => exact ⟨k + 1, by omega, by go_num, HN.out, hB⟩
          case measure => simp [intOf]; omega
      · have e : k = xs.length := by omega
        subst e
        have HT : Hid (poolB xs = true) := by unfold Hid; rw [HP.out, List.drop_length]; rfl
        clear HP
        go_wp2
        go_ret
        exact ⟨by rw [HT.out]; rfl, hb⟩
  · have HP : Hid (poolB xs = false) := by unfold Hid poolB; simp [hlen]
    go_enter Tryz.func100, Tryz.ntmps100
    go_wp2_with fail
    go_ret
    exact ⟨by rw [HP.out]; rfl, (Below.refl _ _).alloc (Nat.le_refl _) _⟩
end Go.Proofs.YtjnhocefnfmhmaaGreatDoor

/-
  What the sizes of a pool's nodes are, and the contract of impl.SizeOf.
-/
namespace Go.Proofs.YtjnhocefnfmhmaaGreatDoor
open Go.RowKit

/-- The cells of ints. -/
def iv (zs : List Int) : List Value := zs.map (Value.int .i64)
theorem iv_length (zs : List Int) : (iv zs).length = zs.length := by simp [iv]
theorem iv_get (zs : List Int) (i : Nat) (h : i < zs.length) : (iv zs)[i]? = some (.int .i64 (zs.getD i 0)) := by simp [iv, List.getD, h]
theorem iv_set (zs : List Int) (i : Nat) (z : Int) : (iv zs).set i (.int .i64 z) = iv (zs.set i z) := by simp [iv, List.map_set]
theorem iv_append (a b : List Int) : iv (a ++ b) = iv a ++ iv b := by simp [iv]
theorem iv_one (zs : List Int) : ∀ u ∈ iv zs, u.oneCell' = true := by
  intro u hu
  simp only [iv, List.mem_map] at hu
  obtain ⟨z, _, rfl⟩ := hu
  rfl

/-- The size of the node x, when acc are those ahead of it. -/
def szA (acc : List Int) (x : Nd) : Int := if hasA x.k then acc.getD x.a.toNat 0 else 0
def szB (acc : List Int) (x : Nd) : Int := if hasB x.k then acc.getD x.b.toNat 0 else 0
def szN (acc : List Int) (x : Nd) : Int := min (1 + szA acc x + szB acc x) 1000000000
def sizes : List Nd → List Int → List Int
  | [], acc => acc
  | x :: xs, acc => sizes xs (acc ++ [szN acc x])
/-- The sizes of the first k nodes. -/
def sizesTo (xs : List Nd) (k : Nat) : List Int := sizes (xs.take k) []
theorem sizes_append (a b : List Nd) (acc : List Int) : sizes (a ++ b) acc = sizes b (sizes a acc) := by
  induction a generalizing acc with
  | nil => rfl
  | cons x a ih => exact ih _
theorem sizes_length (a : List Nd) (acc : List Int) : (sizes a acc).length = acc.length + a.length := by
  induction a generalizing acc with
  | nil => simp [sizes]
  | cons x a ih => simp only [sizes]; rw [ih]; simp; omega
theorem sizesTo_length (xs : List Nd) (k : Nat) (h : k ≤ xs.length) : (sizesTo xs k).length = k := by
  unfold sizesTo; rw [sizes_length]; simp; omega
theorem sizesTo_succ (xs : List Nd) (k : Nat) (x : Nd) (h : xs[k]? = some x) : sizesTo xs (k + 1) = sizesTo xs k ++ [szN (sizesTo xs k) x] := by
  obtain ⟨hl, he⟩ := List.getElem?_eq_some_iff.1 h
  unfold sizesTo
  rw [List.take_succ_eq_append_getElem hl, sizes_append, he]
  rfl
theorem getD_mem_bounds (acc : List Int) (i : Nat) (h : ∀ z ∈ acc, 1 ≤ z ∧ z ≤ 1000000000) : 0 ≤ acc.getD i 0 ∧ acc.getD i 0 ≤ 1000000000 := by
  rw [List.getD_eq_getElem?_getD]
  cases he : acc[i]? with
  | none => simp
  | some z => have := h z (List.mem_of_getElem? he); simp; omega
theorem szA_bounds (acc : List Int) (x : Nd) (h : ∀ z ∈ acc, 1 ≤ z ∧ z ≤ 1000000000) : 0 ≤ szA acc x ∧ szA acc x ≤ 1000000000 := by
  unfold szA; split
  · exact getD_mem_bounds acc _ h
  · omega
theorem szB_bounds (acc : List Int) (x : Nd) (h : ∀ z ∈ acc, 1 ≤ z ∧ z ≤ 1000000000) : 0 ≤ szB acc x ∧ szB acc x ≤ 1000000000 := by
  unfold szB; split
  · exact getD_mem_bounds acc _ h
  · omega
theorem szN_bounds (acc : List Int) (x : Nd) (h : ∀ z ∈ acc, 1 ≤ z ∧ z ≤ 1000000000) : 1 ≤ szN acc x ∧ szN acc x ≤ 1000000000 := by
  have h1 := szA_bounds acc x h
  have h2 := szB_bounds acc x h
  unfold szN; omega
theorem sizes_bounds (a : List Nd) (acc : List Int) (h : ∀ z ∈ acc, 1 ≤ z ∧ z ≤ 1000000000) : ∀ z ∈ sizes a acc, 1 ≤ z ∧ z ≤ 1000000000 := by
  induction a generalizing acc with
  | nil => exact h
  | cons x a ih =>
    refine ih _ fun z hz => ?_
    simp only [List.mem_append, List.mem_singleton] at hz
    rcases hz with hz | rfl
    · exact h z hz
    · exact szN_bounds acc x h
theorem sizesTo_bounds (xs : List Nd) (k : Nat) : ∀ z ∈ sizesTo xs k, 1 ≤ z ∧ z ≤ 1000000000 := sizes_bounds _ _ (by simp)

theorem nodesB_get (xs : List Nd) (i0 i : Nat) (x : Nd) (h : nodesB xs i0 = true) (hx : xs[i]? = some x) : nodeB x (i0 + i : Nat) = true := by
  induction xs generalizing i i0 with
  | nil => simp at hx
  | cons y ys ih =>
    simp only [nodesB, Bool.and_eq_true] at h
    cases i with
    | zero => simp at hx; subst hx; exact h.1
    | succ i =>
      have := ih (i0 + 1) i h.2 (by simpa using hx)
      rwa [show i0 + 1 + i = i0 + (i + 1) by omega] at this
theorem poolB_at {xs : List Nd} (h : poolB xs = true) {i : Nat} {x : Nd} (hx : xs[i]? = some x) : nodeB x i = true := by
  simp only [poolB, Bool.and_eq_true] at h
  have := nodesB_get xs 0 i x h.2 hx
  simpa using this
theorem nodeB_kind {x : Nd} {n : Int} (h : nodeB x n = true) : 1 ≤ x.k ∧ x.k ≤ 9 := by
  simp only [nodeB, Bool.and_eq_true, decide_eq_true_eq] at h
  exact h.1.1.1
theorem nodeB_A {x : Nd} {n : Int} (h : nodeB x n = true) (ha : hasA x.k = true) : 0 ≤ x.a ∧ x.a < n := by
  simp only [nodeB, Bool.and_eq_true, decide_eq_true_eq] at h
  have := h.2.1.2
  rw [ha] at this
  simpa [partB] using this
theorem nodeB_B {x : Nd} {n : Int} (h : nodeB x n = true) (ha : hasB x.k = true) : 0 ≤ x.b ∧ x.b < n := by
  simp only [nodeB, Bool.and_eq_true, decide_eq_true_eq] at h
  have := h.2.2
  rw [ha] at this
  simpa [partB] using this
theorem poolB_len {xs : List Nd} (h : poolB xs = true) : xs.length ≤ 3000 := by
  simp only [poolB, Bool.and_eq_true, decide_eq_true_eq] at h; exact h.1

/-- v is a node of xs. -/
def hasI (xs : List Nd) (v : Int) : Bool := decide (0 ≤ v) && decide (v < xs.length)
/-- What SizeOf answers. -/
def sizeR (xs : List Nd) (v : Int) : Int := if poolB xs && hasI xs v then (sizesTo xs xs.length).getD v.toNat 0 else 0
theorem sizesTo_prefix (xs : List Nd) (k i : Nat) (hk : k ≤ xs.length) (hi : i < k) : (sizesTo xs xs.length).getD i 0 = (sizesTo xs k).getD i 0 := by
  have e : sizesTo xs xs.length = sizes (xs.drop k) (sizesTo xs k) := by
    unfold sizesTo
    rw [List.take_length, ← sizes_append, List.take_append_drop]
  rw [e]
  have hl := sizesTo_length xs k hk
  generalize sizesTo xs k = acc at hl ⊢
  generalize xs.drop k = b
  clear e
  have gen : ∀ (b : List Nd) (acc : List Int), i < acc.length → (sizes b acc).getD i 0 = acc.getD i 0 := by
    intro b
    induction b with
    | nil => intro acc _; rfl
    | cons y b ih =>
      intro acc h
      simp only [sizes]
      rw [ih _ (by simp; omega)]
      simp only [List.getD_eq_getElem?_getD]
      rw [List.getElem?_append_left h]
  exact gen b acc (by omega)

set_option maxHeartbeats 400000 in
theorem has_any (v : Value) (xs : List Nd) (a : Int) (w : World) (R : NRow w v xs) :
    Calls Tryz.prog 126 #[.agg #[v], .int .i64 a] w fun e w' => e = .returned (.bool (hasI xs a)) ∧ Below w.heap.size w w' := by
  obtain ⟨ao, cap, rfl, _⟩ := R
  go_enter Tryz.func126, Tryz.ntmps126
  go_wp2
  all_goals go_ret
  all_goals (refine ⟨retB ?_, (Below.refl _ _).alloc (Nat.le_refl _) _⟩; rw [Bool.eq_iff_iff]; simp [hasI, *]; try omega)
end Go.Proofs.YtjnhocefnfmhmaaGreatDoor
