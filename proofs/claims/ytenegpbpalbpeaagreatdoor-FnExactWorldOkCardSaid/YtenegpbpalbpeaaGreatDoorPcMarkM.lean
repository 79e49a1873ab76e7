/-
  Texts that stood by themselves, laid into one.
-/
import Derived.Test.YtenegpbpalbpeaaGreatDoorTo2M
import Derived.Test.YtenegpbpalbpeaaGreatDoorStrsM
/-
  Helpers: a piece as 2 cells, a slice of these read as a list, and the contracts of the laws' helpers on them. No condition.
-/
namespace Go.Proofs.YtenegpbpalbpeaaGreatDoor
open Go.RowKit
structure Pc where
  n : Int
  s : ByteArray
def Pc.cs (x : Pc) : List Value := [.int .i64 x.n, .string x.s]
def pccs (xs : List Pc) : List Value := xs.flatMap Pc.cs
theorem pccs_cons (x : Pc) (xs : List Pc) : pccs (x :: xs) = x.cs ++ pccs xs := rfl
theorem pccs_length (xs : List Pc) : (pccs xs).length = xs.length * 2 := by
  induction xs with
  | nil => rfl
  | cons x xs ih => rw [pccs_cons, List.length_append, ih, List.length_cons]; simp [Pc.cs]; omega
theorem pccs_get (xs : List Pc) (i : Nat) (x : Pc) (h : xs[i]? = some x) (j : Nat) (hj : j < 2) : (pccs xs)[i * 2 + j]? = x.cs[j]? := by
  induction xs generalizing i with
  | nil => simp at h
  | cons y ys ih =>
    rw [pccs_cons]
    cases i with
    | zero =>
      simp at h; subst h
      rw [Nat.zero_mul, Nat.zero_add, List.getElem?_append_left (by simpa [Pc.cs] using hj)]
    | succ i =>
      rw [List.getElem?_append_right (by simp [Pc.cs]; omega)]
      rw [show (i + 1) * 2 + j - y.cs.length = i * 2 + j by simp [Pc.cs]; omega]
      exact ih i (by simpa using h)
theorem pccs_set (xs : List Pc) (i : Nat) (x x' : Pc) (h : xs[i]? = some x) (j : Nat) (hj : j < 2) (u : Value) (e : x.cs.set j u = x'.cs) : (pccs xs).set (i * 2 + j) u = pccs (xs.set i x') := by
  induction xs generalizing i with
  | nil => simp at h
  | cons y ys ih =>
    rw [pccs_cons]
    cases i with
    | zero =>
      simp at h; subst h
      rw [Nat.zero_mul, Nat.zero_add, List.set_append_left _ _ (by simpa [Pc.cs] using hj), e]
      rfl
    | succ i =>
      rw [List.set_append_right _ _ (by simp [Pc.cs]; omega)]
      rw [show (i + 1) * 2 + j - y.cs.length = i * 2 + j by simp [Pc.cs]; omega, ih i (by simpa using h)]
      rfl
theorem pccs_set0 (xs : List Pc) (i : Nat) (x x' : Pc) (h : xs[i]? = some x) (u : Value) (e : x.cs.set 0 u = x'.cs) : (pccs xs).set (i * 2) u = pccs (xs.set i x') :=
  pccs_set xs i x x' h 0 (by omega) u e
theorem Pc.one (x : Pc) : ∀ u ∈ x.cs, u.oneCell' = true := by
  intro u hu
  simp only [Pc.cs, List.mem_cons, List.not_mem_nil, or_false] at hu
  rcases hu with rfl | rfl <;> rfl
def PcAt (w : World) (g o : Nat) (x : Pc) : Prop :=
  w.cell? ⟨g, o, none⟩ = some (.int .i64 x.n) ∧ w.cell? ⟨g, o + 1, none⟩ = some (.string x.s)
theorem PcAt.below {w w' : World} {g o B : Nat} {x : Pc} (h : PcAt w g o x) (hb : Below B w w') (hg : g < B) : PcAt w' g o x :=
  ⟨(hb.cell (p := ⟨g, o, none⟩) hg).trans h.1, (hb.cell (p := ⟨g, o + 1, none⟩) hg).trans h.2⟩
def PcRow (w : World) (v : Value) (xs : List Pc) : Prop :=
  ∃ ao cap, v = .slice ao xs.length cap ∧ (xs.length ≤ cap ∧ (ao = none → cap = 0)) ∧ xs.length ≤ 9223372036854775807 ∧ (∀ x ∈ xs, x.s.size ≤ maxLen) ∧
    (xs ≠ [] → ∃ g o, ao = some ⟨g, o, none⟩ ∧ g < w.heap.size ∧ ∀ i x, xs[i]? = some x → PcAt w g (o + i * 2) x)
theorem PcRow.small {w : World} {v : Value} {xs : List Pc} (R : PcRow w v xs) : ∃ ao cap, v = .slice ao xs.length cap := by
  obtain ⟨ao, cap, rfl, _⟩ := R
  exact ⟨ao, cap, rfl⟩
theorem PcRow.below {w w' : World} {v : Value} {xs : List Pc} (h : PcRow w v xs) (hb : Below w.heap.size w w') : PcRow w' v xs := by
  obtain ⟨ao, cap, rfl, hc, hm, hz, hcell⟩ := h
  refine ⟨ao, cap, rfl, hc, hm, hz, fun hne => ?_⟩
  obtain ⟨g, o, rfl, hg, hcell⟩ := hcell hne
  exact ⟨g, o, rfl, Nat.lt_of_lt_of_le hg hb.size, fun i x hi => (hcell i x hi).below hb hg⟩
theorem PcRow.of_own {w : World} {base : Nat} {v : Value} {xs : List Pc} (h : w.ownsRow base 139 2 v xs.length (pccs xs)) (hm : xs.length ≤ 9223372036854775807) (hz : ∀ x ∈ xs, x.s.size ≤ maxLen) : PcRow w v xs := by
  rcases h.2 with ⟨rfl, h0⟩ | ⟨g, cap, cur, rfl, hb, hg, hnc, hcm, hcs, htake⟩
  · have : xs = [] := List.eq_nil_of_length_eq_zero h0
    subst this
    exact ⟨none, 0, rfl, by simp, by simp, by simp, fun h => absurd rfl h⟩
  · refine ⟨_, cap, rfl, ⟨hnc, fun h => by cases h⟩, hm, hz, fun _ => ⟨g, 0, rfl, (Array.getElem?_eq_some_iff.1 hg).1, fun i x hi => ?_⟩⟩
    have hl : i < xs.length := (List.getElem?_eq_some_iff.1 hi).1
    have e : ∀ j, j < 2 → w.cell? ⟨g, 0 + i * 2 + j, none⟩ = x.cs[j]? := fun j hj => by
      have := h.cellAt (i * 2 + j) (by omega)
      rw [Nat.zero_add, this, pccs_get xs i x hi j hj]
    exact ⟨e 0 (by omega), e 1 (by omega)⟩
theorem Tryz.infoPc : (Tryz.prog.info? 139).map (fun i => (i.zero, i.size, i.bytes)) = some (some (.agg #[.int .i64 0, .string ByteArray.empty]), 2, 24) := by kernel_rfl
theorem Tryz.sizePc : (Tryz.prog.info? 139).map (·.size) = some 2 := by kernel_rfl
theorem wpList_store_pc {ops : Array Oper} {rest : List Oper} {op : Oper} {a : Act} {w : World} {Q : Exit → Act → World → Prop} (hgd : op.guard = none) (x y : Operand) (ho : op.op = .store 139 x y)
    (base g i cap : Nat) (xs : List Pc) (nd : Pc) (hx : a.eval x = .pointer (some ⟨g, i * 2, none⟩)) (hy : a.eval y = .agg #[.int .i64 nd.n, .string nd.s])
    (hi : i < xs.length) (hown : w.ownsRow base 139 2 (.slice (some ⟨g, 0, none⟩) xs.length cap) xs.length (pccs xs))
    (h : ∀ w2 : World, w2.ownsRow base 139 2 (.slice (some ⟨g, 0, none⟩) xs.length cap) xs.length (pccs (xs.set i nd)) → w.grownBy w2 (some g) → wpList Tryz.prog ops Q rest (a.put op.dst undef) w2) : wpList Tryz.prog ops Q (op :: rest) a w := by
  have ht : w.there g (i * 2) 2 := fun j hj => by
    have := hown.cellAt (i * 2 + j) (by omega)
    refine ⟨?_, hown.frozenAt _⟩
    rw [this, List.getElem?_eq_getElem (by rw [pccs_length]; omega)]
    rfl
  refine wpList_store_mid hgd 139 x y ho g (i * 2) _ hx hy ht Tryz.sizePc (all_oneCell_toArray nd.one) ?_
  have e0 : xs[i]? = some xs[i] := List.getElem?_eq_getElem hi
  have get : ∀ y : Pc, (xs.set i y)[i]? = some y := fun y => by simp [hi]
  have s0 := hown.stored (i * 2) (.int .i64 nd.n)
  rw [pccs_set0 xs i xs[i] ⟨nd.n, xs[i].s⟩ e0 _ rfl] at s0
  have s1 := s0.1.stored (i * 2 + 1) (.string nd.s)
  rw [pccs_set (xs.set i ⟨nd.n, xs[i].s⟩) i ⟨nd.n, xs[i].s⟩ ⟨nd.n, nd.s⟩ (get _) 1 (by omega) (.string nd.s) rfl, List.set_set] at s1
  exact h _ s1.1 (s0.2.trans s1.2)
set_option maxHeartbeats 400000 in
theorem topc_any (x : Pc) (w : World) :
    Calls Tryz.prog 135 #[.agg #[.int .i64 x.n, .string x.s]] w fun e w' => e = .returned (.agg #[.int .i64 x.n, .string x.s]) ∧ Below w.heap.size w w' := by
  go_enter Tryz.func135, Tryz.ntmps135
  go_wp2
  exact bodyPost_ret (results_cell_row rfl _ _ (w.heap.size + 1) 139 _ (0, 0) _ rfl ((heap_alloc_old _ _ (by simp)).trans (heap_alloc2_new _ _ _)) Tryz.underlying139 rfl Tryz.sizePc) rfl
    ⟨rfl, (((Below.refl _ _).alloc (Nat.le_refl _) _).alloc (by simp) _).alloc (by simp; omega) _⟩
set_option maxHeartbeats 400000 in
theorem szpc_any (x : Pc) (l : Int) (w : World) (hs : x.s.size ≤ maxLen) (hl : 0 ≤ l) (hl2 : l ≤ 1048576) :
    Calls Tryz.prog 126 #[.agg #[.int .i64 x.n, .string x.s], .int .i64 l] w fun e w' => e = .returned (.int .i64 (less l x.s.size)) ∧ Below w.heap.size w w' := by
  unfold maxLen at hs
  go_enter Tryz.func126, Tryz.ntmps126
  by_cases h : l < x.s.size
  · have HL : Hid (less l x.s.size = -1) := by unfold Hid less; rw [if_pos h]
    go_wp2
    go_ret
    exact ⟨by rw [HL.out]; rfl, (Below.refl _ _).alloc (Nat.le_refl _) _⟩
  · have HL : Hid (less l x.s.size = l - x.s.size) := by unfold Hid less; rw [if_neg h]
    go_wp2
    go_ret
    exact ⟨by rw [HL.out]; rfl, (Below.refl _ _).alloc (Nat.le_refl _) _⟩
set_option maxHeartbeats 800000 in
theorem eqpc_any (x : Pc) (w : World) :
    Calls Tryz.prog 148 #[.agg #[.int .i64 x.n, .string x.s], .agg #[.int .i64 x.n, .string x.s]] w fun e w' => e = .returned (.bool true) ∧ Below w.heap.size w w' := by
  go_enter Tryz.func148, Tryz.ntmps148
  go_wp2
  go_ret
  exact ⟨rfl, ((Below.refl _ _).alloc (Nat.le_refl _) _).alloc (by simp) _⟩
def zeroPc : Pc := ⟨0, ByteArray.empty⟩
def pccopied (xs : List Pc) (j : Nat) : List Pc := xs.take j ++ List.replicate (xs.length - j) zeroPc
theorem pccopied_length (xs : List Pc) (j : Nat) (h : j ≤ xs.length) : (pccopied xs j).length = xs.length := by simp [pccopied]; omega
theorem pccopied_full (xs : List Pc) : pccopied xs xs.length = xs := by simp [pccopied]
theorem pccs_zeros (n : Nat) : pccs (List.replicate n zeroPc) = (madeCells #[Value.int .i64 0, .string ByteArray.empty] (n * 2)).toList := by
  apply List.ext_getElem?
  intro j
  by_cases hj : j < n * 2
  · have hq : j / 2 < n := by omega
    rw [show j = j / 2 * 2 + j % 2 by omega, pccs_get _ (j / 2) zeroPc (by simp [hq]) (j % 2) (by omega)]
    rw [show j / 2 * 2 + j % 2 = j by omega]
    have h5 : j % 2 = 0 ∨ j % 2 = 1 := by omega
    rcases h5 with h5 | h5 <;> simp [madeCells, hj, h5, zeroPc, Pc.cs]
  · rw [List.getElem?_eq_none (by rw [pccs_length, List.length_replicate]; omega), List.getElem?_eq_none (by simp [madeCells]; omega)]
theorem pccopied_zero (xs : List Pc) : pccs (pccopied xs 0) = (madeCells #[Value.int .i64 0, .string ByteArray.empty] (xs.length * 2)).toList := by
  rw [← pccs_zeros]; simp [pccopied]
theorem pccopied_set (xs : List Pc) (j : Nat) (h : j < xs.length) : (pccopied xs j).set j xs[j] = pccopied xs (j + 1) := by
  unfold pccopied
  rw [show xs.length - j = xs.length - (j + 1) + 1 by omega, List.replicate_succ, List.take_succ_eq_append_getElem h]
  rw [List.set_append_right _ _ (by simp; omega)]
  have e : j - (List.take j xs).length = 0 := by simp; omega
  rw [e, List.set_cons_zero, List.append_assoc]
  rfl
set_option maxHeartbeats 800000 in
theorem topcs_any (v : Value) (xs : List Pc) (w : World) (R : PcRow w v xs) (hm : xs.length ≤ 2097152) :
    Calls Tryz.prog 134 #[v] w fun e w' => ∃ v', e = .returned v' ∧ w'.ownsRow w.heap.size 139 2 v' xs.length (pccs xs) ∧ Below w.heap.size w w' := by
  obtain ⟨ao, cap, rfl, hcap, _, hz, hcell⟩ := R
  obtain ⟨i0, hi, hz0, hz1, hz2⟩ := info_parts Tryz.infoPc
  have hbytes : i0.bytes * xs.length ≤ 281474976710656 := by rw [hz2]; omega
  have hmax : xs.length ≤ maxLen := by unfold maxLen; omega
  go_enter Tryz.func134, Tryz.ntmps134
  go_wp2_with (at_make; refine wpList_make_full _ rfl _ _ 136 rfl w.heap.size 139 i0 _ 2 Tryz.underlying136 hi hz0 hz1 _ _ _ _ xs.length rfl rfl rfl rfl hbytes hmax (Nat.le_refl _) ?_)
  intro w1 hown hgrow
  have hbel : Below w.heap.size w w1 := (Below.refl _ _).grown hgrow (Nat.le_refl _) (by intro k hk; cases hk)
  clear hgrow
  go_wp2
  go_loopw [4] (fun i wr => ∃ j : Nat, j ≤ xs.length ∧ i = .int .i64 j ∧ wr.ownsRow w.heap.size 139 2 (.slice (some ⟨w.heap.size, 0, none⟩) xs.length xs.length) xs.length (pccs (pccopied xs j)) ∧ Below w.heap.size w wr) (fun i _ => xs.length - (intOf i).toNat)
  case atStart => exact ⟨0, by omega, rfl, by rw [pccopied_zero]; exact hown, hbel⟩
  case round =>
    clear hown hbel hbytes hmax
    obtain ⟨j, hj, rfl, hown, hbel⟩ := hrel
    by_cases hlt : j < xs.length
    · obtain ⟨g, o, rfl, hg, hcell⟩ := hcell (by intro e; subst e; simp at hlt)
      obtain ⟨c0, c1⟩ := (hcell j xs[j] (by simp [hlt])).below hbel hg
      have HC := pccopied_length xs j hj
      clear hcell
      go_wp2_with fail
      refine (topc_any xs[j] _).mono ?_
      rintro e w2 ⟨rfl, hb2⟩
      have hown2 : w2.ownsRow w.heap.size 139 2 (.slice (some ⟨w.heap.size, 0, none⟩) (pccopied xs j).length xs.length) (pccopied xs j).length (pccs (pccopied xs j)) := by
        rw [HC]; exact own_below hown hb2
      have hB2 := hbel.trans (hb2.mono hbel.size)
      clear c0 c1 hown hb2 hbel
      go_wp2_with (refine wpList_store_pc rfl _ _ rfl w.heap.size w.heap.size j xs.length (pccopied xs j) xs[j] rfl rfl (by omega) hown2 ?_)
      intro w3 hown3 hg3
      rw [pccopied_set xs j hlt] at hown3
      have hB3 : Below w.heap.size w w3 := hB2.grown hg3 hB2.size (fun k hk => by simp at hk; omega)
      clear hown2 hg3
      go_wp2
      go_roundw
      case rel => exact ⟨j + 1, by omega, by go_num, hown3, hB3⟩
      case measure => simp [intOf]; omega
    · go_wp2
      go_ret
      have : j = xs.length := by omega
      subst this
      rw [pccopied_full] at hown
      exact ⟨_, rfl, hown, hbel⟩
set_option maxHeartbeats 800000 in
theorem szpcs_any (v : Value) (xs : List Pc) (l : Int) (w : World) (R : PcRow w v xs) (hl0 : 0 ≤ l) (hl1 : l ≤ 1048576) :
    Calls Tryz.prog 125 #[v, .int .i64 l] w fun e w' => ∃ r : Int, e = .returned (.int .i64 r) ∧ -1 ≤ r ∧ r ≤ 1048576 ∧ (0 ≤ r → xs.length ≤ 1048576 ∧ ∀ x ∈ xs, x.s.size ≤ 1048576) ∧ Below w.heap.size w w' := by
  obtain ⟨ao, cap, rfl, hcap, hm, hz, hcell⟩ := R
  by_cases hlen : (xs.length : Int) ≤ l
  · go_enter Tryz.func125, Tryz.ntmps125
    go_wp2
    go_loopw [1, 5] (fun l i wr => ∃ (k : Nat) (r : Int), k ≤ xs.length ∧ i = .int .i64 k ∧ l = .int .i64 r ∧ 0 ≤ r ∧ r ≤ 1048576 ∧ Hid (∀ j x, xs[j]? = some x → j < k → x.s.size ≤ 1048576) ∧ Below w.heap.size w wr) (fun _ i _ => xs.length - (intOf i).toNat)
    case atStart => exact ⟨0, _, by omega, rfl, rfl, by omega, by omega, fun j x _ h => by omega, Below.refl _ _⟩
    case round =>
      obtain ⟨k, r, hk, rfl, rfl, hr0, hr1, HA, hb⟩ := hrel
      by_cases hlt : k < xs.length
      · obtain ⟨g, o, rfl, hg, hcell⟩ := hcell (by intro e; subst e; simp at hlt)
        obtain ⟨x, hx⟩ : ∃ x, xs[k]? = some x := ⟨xs[k], by simp [hlt]⟩
        obtain ⟨c0, c1⟩ := (hcell k x hx).below hb hg
        have hxs := hz x (List.mem_of_getElem? hx)
        have HX : Hid (xs[k]? = some x) := hx
        clear hcell hx
        go_wp2_with fail
        refine (szpc_any x _ _ hxs hr0 hr1).mono ?_
        rintro e w2 ⟨rfl, hb2⟩
        have hB2 := hb.trans (hb2.mono hb.size)
        clear c0 c1 hb2
        by_cases hl : r < x.s.size
        · rw [less, if_pos hl]
          go_wp2
          go_ret
          exact ⟨-1, rfl, by omega, by omega, fun h => by omega, hB2⟩
        · rw [less, if_neg hl]
          go_wp2
          go_roundw
          case rel =>
            refine ⟨k + 1, _, by omega, by go_num, rfl, by omega, by omega, fun j y hy hj => ?_, hB2⟩
            by_cases e : j = k
            · subst e
              rw [HX.out] at hy
              cases hy
              omega
            · exact HA.out j y hy (by omega)
          case measure => simp [intOf]; omega
      · go_wp2
        go_ret
        refine ⟨r, rfl, by omega, by omega, fun _ => ⟨by omega, fun x hx => ?_⟩, hb⟩
        obtain ⟨j, hj, e⟩ := List.getElem_of_mem hx
        exact HA.out j x (by rw [← e]; simp [hj]) (by omega)
  · go_enter Tryz.func125, Tryz.ntmps125
    go_wp2
    go_ret
    exact ⟨-1, rfl, by omega, by omega, fun h => by omega, Below.refl _ _⟩
set_option maxHeartbeats 800000 in
theorem eqpcs_any (va vb : Value) (xs : List Pc) (w : World) (Ra : PcRow w va xs) (Rb : PcRow w vb xs) :
    Calls Tryz.prog 147 #[va, vb] w fun e w' => e = .returned (.bool true) ∧ Below w.heap.size w w' := by
  obtain ⟨aa, ca, rfl, hca, hm, hz, hcella⟩ := Ra
  obtain ⟨ab, cb, rfl, hcb, _, _, hcellb⟩ := Rb
  have hn : ((xs.length : Int) != (xs.length : Int)) = false := by simp
  go_enter Tryz.func147, Tryz.ntmps147
  go_wp2
  go_loopw [5] (fun i wr => ∃ k : Nat, k ≤ xs.length ∧ i = .int .i64 k ∧ Below w.heap.size w wr) (fun i _ => xs.length - (intOf i).toNat)
  case atStart => exact ⟨0, by omega, rfl, Below.refl _ _⟩
  case round =>
    obtain ⟨k, hk, rfl, hb⟩ := hrel
    by_cases hlt : k < xs.length
    · obtain ⟨ga, oa, rfl, hga, hcella⟩ := hcella (by intro e; subst e; simp at hlt)
      obtain ⟨gb, ob, rfl, hgb, hcellb⟩ := hcellb (by intro e; subst e; simp at hlt)
      obtain ⟨x, hx⟩ : ∃ x, xs[k]? = some x := ⟨xs[k], by simp [hlt]⟩
      obtain ⟨c0, c1⟩ := (hcella k x hx).below hb hga
      obtain ⟨d0, d1⟩ := (hcellb k x hx).below hb hgb
      clear hcella hcellb hx
      go_wp2_with fail
      go_region_with (go_at_call 148; refine (eqpc_any x _).mono ?_; rintro e w2 ⟨rfl, hb2⟩)
      all_goals
        have hB2 : Below w.heap.size w w2 := hb.drew.trans (hb2.mono hb.size)
        clear c0 c1 d0 d1 hb2
        go_wp2
        go_roundw
        case rel => exact ⟨k + 1, by omega, by go_num, hB2⟩
        case measure => simp [intOf]; omega
    · go_wp2
      go_ret
      exact ⟨rfl, hb⟩
end Go.Proofs.YtenegpbpalbpeaaGreatDoor
/-
  Contracts of the laws' own helpers markPieceS, heldPieceS: what is marked in a slice of the call's own is found there.
-/
namespace Go.Proofs.YtenegpbpalbpeaaGreatDoor
open Go.RowKit
theorem PcRow.sz {w : World} {v : Value} {xs : List Pc} (R : PcRow w v xs) : ∀ x ∈ xs, x.s.size ≤ maxLen := by obtain ⟨_, _, _, _, _, hz, _⟩ := R; exact hz
theorem PcRow.le {w : World} {v : Value} {xs : List Pc} (R : PcRow w v xs) : xs.length ≤ 9223372036854775807 := by obtain ⟨_, _, _, _, h, _⟩ := R; exact h
theorem PcRow.nilcap {w : World} {ao : Option Addr} {n cap : Nat} {xs : List Pc} (h : PcRow w (.slice ao n cap) xs) : ao = none → n = 0 ∧ cap = 0 := by
  obtain ⟨ao', cap', e, ⟨h1, h2⟩, _⟩ := h
  simp only [Value.slice.injEq] at e
  obtain ⟨rfl, rfl, rfl⟩ := e
  intro h
  have := h2 h
  omega
theorem PcRow.cells {w : World} {ao : Option Addr} {n cap : Nat} {xs : List Pc} (h : PcRow w (.slice ao n cap) xs) : ∀ ad, ao = some ad → ∀ j u, (pccs xs)[j]? = some u → w.cell? (ad.add j) = some u := by
  obtain ⟨ao', cap', e, _, _, _, hc⟩ := h
  simp only [Value.slice.injEq] at e
  obtain ⟨rfl, rfl, rfl⟩ := e
  intro ad had j u hu
  have hj : j < xs.length * 2 := by have := (List.getElem?_eq_some_iff.1 hu).1; rwa [pccs_length] at this
  have hq : j / 2 < xs.length := by omega
  obtain ⟨g, o, e, _, hcell⟩ := hc (by intro e; subst e; simp at hq)
  rw [had] at e
  cases e
  have hx : xs[j / 2]? = some xs[j / 2] := List.getElem?_eq_getElem hq
  obtain ⟨c0, c1⟩ := hcell (j / 2) _ hx
  have hg := pccs_get xs (j / 2) _ hx (j % 2) (by omega)
  rw [show j / 2 * 2 + j % 2 = j by omega, hu] at hg
  have h2 : j % 2 = 0 ∨ j % 2 = 1 := by omega
  rcases h2 with h2 | h2
  · rw [h2] at hg
    simp only [Pc.cs, List.getElem?_cons_zero, Option.some.injEq] at hg
    subst hg
    have : o + j = o + j / 2 * 2 := by omega
    rw [Addr.add_lit, this]
    exact c0
  · rw [h2] at hg
    simp only [Pc.cs, List.getElem?_cons_succ, List.getElem?_cons_zero, Option.some.injEq] at hg
    subst hg
    have : o + j = o + j / 2 * 2 + 1 := by omega
    rw [Addr.add_lit, this]
    exact c1
def pmk (k : Int) : Pc := ⟨k, mt (k + 1)⟩
def pmarked (k : Int) (xs : List Pc) (i : Nat) : List Pc := (List.range i).map (fun (j : Nat) => pmk (k + 2 * (j : Int))) ++ xs.drop i
end Go.Proofs.YtenegpbpalbpeaaGreatDoor
