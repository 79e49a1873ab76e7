/-
  Texts that stood by themselves, laid into one.
-/
import Derived.Test.YtdkkpopnoeapdaaGreatDoorStore2M
import Derived.Deep.MidRow
import Derived.Deep.RegionHeld3
import Derived.Laws.CopyOwn
import Derived.Laws.ResultCell
/-
  Helpers for regions that draw their order and load whole structs. Nothing of the program; no condition.
-/
namespace Go.Proofs.YtdkkpopnoeapdaaGreatDoor
open Go.RowKit

/-- A whole struct's load yields in every world in which its block is so. -/
theorem yields_row {P : Program} {ops : Array Oper} {S : World → Prop} {op : Oper} {a : Act} (hw : Region.wanted op (yielded ops a.tmps) = true) (ty : TypeId) (x : Operand) (ho : op.op = .load ty x)
    (b : Nat) (hx : a.eval x = .pointer (some ⟨b, 0, none⟩)) (cs : Array Value) (t : TypeId) (d : TypeDesc) (hS : ∀ w, S w → w.heap[b]? = some (.cells cs t (0, 0)))
    (hu : P.underlying ty = some d) (hd : d.isRow = true) (hi : (P.info? ty).map (·.size) = some cs.size) : YieldsIf P ops S op (.agg cs) a := by
  have h := yieldsIf_load_mid (P := P) (ops := ops) (S := S) (op := op) (a := a) hw ty x ho b 0 hx cs.toList d (fun w hw' => by
    have hr := World.rangeAt_of_block (hS w hw') 0 cs.size
    simpa using hr) hu hd (by simpa using hi)
  simpa using h

theorem own_other {w w' : World} {B k n g : Nat} {e : TypeId} {v : Value} {l : List Value} (h : w.ownsRow B e k v n l) (hg : v.ownBlock ≠ some g) (hb : ∀ j, j ≠ g → w'.heap[j]? = w.heap[j]?) : w'.ownsRow B e k v n l := by
  refine ⟨h.1, ?_⟩
  rcases h.2 with ⟨rfl, h0⟩ | ⟨gg, cap, cur, rfl, hB, hgg, hr⟩
  · exact Or.inl ⟨rfl, h0⟩
  · exact Or.inr ⟨gg, cap, cur, rfl, hB, (hb gg (fun e => hg (by rw [e]; rfl))).trans hgg, hr⟩
theorem drew_bel (w : World) : Below w.heap.size w w.drew := (Below.refl _ _).drew
theorem alloc_bel (w : World) (o : Obj) : Below w.heap.size w (w.alloc o) := (Below.refl _ _).alloc (Nat.le_refl _) _
theorem blk_lt {w : World} {b : Nat} {o : Obj} (h : w.heap[b]? = some o) : b < w.heap.size := (Array.getElem?_eq_some_iff.1 h).1
theorem blk_bel {w w' : World} {b : Nat} {o : Obj} (h : w.heap[b]? = some o) (hb : Below w.heap.size w w') : w'.heap[b]? = some o := (hb.block _ (blk_lt h)).trans h
end Go.Proofs.YtdkkpopnoeapdaaGreatDoor

/-
  A machine but for its pool. No condition.
-/
namespace Go.Proofs.YtdkkpopnoeapdaaGreatDoor
open Go.RowKit

/-- A machine but for its pool: where it is, its stack, frames, what waits, its state, what it asks, and with what. -/
structure Mc where
  p : Int
  s : Int
  e : Int
  d : Int
  t : Int
  q : Int
  r : Int

theorem Tryz.sizeMach : (Tryz.prog.info? 46).map (·.size) = some 8 := by kernel_rfl

theorem two_boxes (w : World) (A B : Obj) : Below w.heap.size w ((w.alloc A).alloc B) ∧ ((w.alloc A).alloc B).heap[w.heap.size]? = some A ∧ ((w.alloc A).alloc B).heap[w.heap.size + 1]? = some B :=
  ⟨((Below.refl _ _).alloc (Nat.le_refl _) _).alloc (by simp) _, (heap_alloc_old _ _ (by simp)).trans (heap_alloc_new _ _), heap_alloc2_new _ _ _⟩

end Go.Proofs.YtdkkpopnoeapdaaGreatDoor

/-
  Contracts of isNameByte, l2NameByte and the two NameOk: each tells whether a text is a name.
-/
namespace Go.Proofs.YtdkkpopnoeapdaaGreatDoor
open Go.RowKit

set_option maxHeartbeats 400000 in
theorem inb_any (b : Int) (w : World) : Calls Tryz.prog 137 #[.int .u8 b] w fun e w' => e = .returned (.bool (nb b)) ∧ w' = w := by
  go_enter Tryz.func137, Tryz.ntmps137
  go_wp2
  all_goals go_ret
  all_goals (refine ⟨retB ?_, rfl⟩; rw [Bool.eq_iff_iff]; simp [nb, *]; try omega)

set_option maxHeartbeats 400000 in
theorem snb_any (b : Int) (w : World) : Calls Tryz.prog 104 #[.int .u8 b] w fun e w' => e = .returned (.bool (nb b)) ∧ w' = w := by
  go_enter Tryz.func104, Tryz.ntmps104
  go_wp2
  all_goals go_ret
  all_goals (refine ⟨retB ?_, rfl⟩; rw [Bool.eq_iff_iff]; simp [nb, *]; try omega)

set_option maxHeartbeats 400000 in
theorem lin_any (x l h : Int) (w : World) : Calls Tryz.prog 26 #[.int .i64 x, .int .i64 l, .int .i64 h] w fun e w' => e = .returned (.bool (decide (l ≤ x) && decide (x ≤ h))) ∧ w' = w := by
  go_enter Tryz.func26, Tryz.ntmps26
  go_wp2
  all_goals go_ret
  all_goals (refine ⟨retB ?_, rfl⟩; rw [Bool.eq_iff_iff]; simp [*]; try omega)

set_option maxHeartbeats 400000 in
theorem iname_any (s : ByteArray) (w : World) (_ : s.size ≤ maxLen) : Calls Tryz.prog 115 #[.string s] w fun e w' => e = .returned (.bool (nameB s)) ∧ w' = w := by
  by_cases h0 : 1 ≤ s.size ∧ s.size ≤ 12
  · go_enter Tryz.func115, Tryz.ntmps115
    go_wp2
    go_loop [3] (fun i => ∃ k : Nat, k ≤ s.size ∧ i = .int .i64 k ∧ Hid (∀ j (hj : j < s.size), j < k → nb (s[j].toNat) = true)) (fun i => s.size - (intOf i).toNat)
    case atStart => exact ⟨0, by omega, rfl, fun j hj hk => by omega⟩
    case round =>
      obtain ⟨k, hk, rfl, H⟩ := hrel
      by_cases hlt : k < s.size
      · go_wp2_with fail
        refine (inb_any _ _).mono ?_
        rintro e w1 ⟨rfl, rfl⟩
        by_cases hn : nb (s[k].toNat) = true
        · rw [hn]
          go_wp2
          go_round
          case rel =>
            refine ⟨k + 1, by omega, by go_num, fun j hj hk => ?_⟩
            by_cases e : j = k
            · subst e; exact hn
            · exact H.out j hj (by omega)
          case measure => simp [intOf]; omega
        · have hn' : nb (s[k].toNat) = false := by simpa using hn
          have HN : Hid (nameB s = false) := nameB_not k hlt hn'
          rw [hn']
          go_wp2
          go_ret
          exact ⟨by rw [HN.out]; rfl, rfl⟩
      · have HN : Hid (nameB s = true) := nameB_all h0.1 h0.2 fun j hj => H.out j hj (by omega)
        go_wp2
        go_ret
        exact ⟨by rw [HN.out]; rfl, rfl⟩
  · have HN : Hid (nameB s = false) := nameB_size h0
    go_enter Tryz.func115, Tryz.ntmps115
    go_wp2
    all_goals go_ret
    all_goals first | exact ⟨by rw [HN.out]; rfl, rfl⟩ | (exfalso; omega)

set_option maxHeartbeats 400000 in
theorem sname_any (s : ByteArray) (w : World) (hs : s.size ≤ maxLen) : Calls Tryz.prog 83 #[.string s] w fun e w' => e = .returned (.bool (nameB s)) ∧ w' = w := by
  unfold maxLen at hs
  go_enter Tryz.func83, Tryz.ntmps83
  go_wp2
  go_loop [3] (fun i => ∃ k : Nat, k ≤ s.size ∧ i = .int .i64 k ∧ Hid (∀ j (hj : j < s.size), j < k → nb (s[j].toNat) = true)) (fun i => s.size - (intOf i).toNat)
  case atStart => exact ⟨0, by omega, rfl, fun j hj hk => by omega⟩
  case round =>
    obtain ⟨k, hk, rfl, H⟩ := hrel
    by_cases hlt : k < s.size
    · go_wp2_with fail
      refine (snb_any _ _).mono ?_
      rintro e w1 ⟨rfl, rfl⟩
      by_cases hn : nb (s[k].toNat) = true
      · rw [hn]
        go_wp2
        go_round
        case rel =>
          refine ⟨k + 1, by omega, by go_num, fun j hj hk => ?_⟩
          by_cases e : j = k
          · subst e; exact hn
          · exact H.out j hj (by omega)
        case measure => simp [intOf]; omega
      · have hn' : nb (s[k].toNat) = false := by simpa using hn
        have HN : Hid (nameB s = false) := nameB_not k hlt hn'
        rw [hn']
        go_wp2
        go_ret
        exact ⟨by rw [HN.out]; rfl, rfl⟩
    · have HA : Hid (∀ j (hj : j < s.size), nb (s[j].toNat) = true) := fun j hj => H.out j hj (by omega)
      go_wp2_with fail
      refine (lin_any _ _ _ _).mono ?_
      rintro e w1 ⟨rfl, rfl⟩
      go_wp2
      go_ret
      refine ⟨retB ?_, rfl⟩
      by_cases h0 : 1 ≤ s.size ∧ s.size ≤ 12
      · rw [nameB_all h0.1 h0.2 HA.out]
        simp; omega
      · rw [nameB_size h0]
        simp; omega
end Go.Proofs.YtdkkpopnoeapdaaGreatDoor

/-
  Contracts of impl's shapeOf, nameFits, partFits, nodeFits and PoolOk: when a node and a pool are right.
-/
namespace Go.Proofs.YtdkkpopnoeapdaaGreatDoor
open Go.RowKit

/-- A struct in a block of its own and one value more, as results. -/
theorem results_row_tmp {P : Program} {fn : Func} {p u : Tmp} {ty : TypeId} (h : fn.results = #[.cell p ty, .tmp u]) (tmps : Array Value) (w : World) (g : Nat) (t : TypeId) (cs : Array Value) (fr : Nat × Nat) (d : TypeDesc)
    (hp : tmps.getD p undef = .pointer (some ⟨g, 0, none⟩)) (hg : w.heap[g]? = some (.cells cs t fr))
    (hu : P.underlying ty = some d) (hd : (match d with | .struct _ | .array _ _ => true | _ => false) = true) (hi : (P.info? ty).map (·.size) = some cs.size) :
    (results fn tmps).run P w = .ok (.tuple #[.agg cs, tmps.getD u undef]) w := by
  rw [results_cell_tmp h, hp]
  simp [asAddr, run_loadVar_row w g t ty cs fr d hg hu hd hi]

theorem Tryz.sizeShape : (Tryz.prog.info? 168).map (·.size) = some 5 := by kernel_rfl

/-- What shapeOf tells of a kind. -/
def shapeV (k : Int) : Value :=
  if 1 ≤ k ∧ k ≤ 9 then .tuple #[.agg #[.int .i64 (lo k), .int .i64 (hi k), .bool (hasS k), .bool (hasA k), .bool (hasB k)], .bool true]
  else .tuple #[.agg #[.int .i64 0, .int .i64 0, .bool false, .bool false, .bool false], .bool false]

set_option maxHeartbeats 1600000 in
theorem shapeof_any (k : Int) (w : World) : Calls Tryz.prog 117 #[.int .i64 k] w fun e w' => e = .returned (shapeV k) ∧ Below w.heap.size w w' := by
  go_enter Tryz.func117, Tryz.ntmps117
  go_wp2
  all_goals refine bodyPost_ret (results_row_tmp rfl _ _ w.heap.size 168 _ (0, 0) _ rfl (heap_alloc_new _ _) Tryz.underlying168 rfl Tryz.sizeShape) rfl ⟨?_, (Below.refl _ _).alloc (Nat.le_refl _) _⟩
  all_goals simp only [beq_iff_eq, beq_eq_false_iff_ne] at *
  all_goals (try subst k)
  all_goals first | rfl | (rw [shapeV, if_neg (by omega)]; rfl)

set_option maxHeartbeats 400000 in
theorem namefits_any (s : ByteArray) (b : Bool) (w : World) (hs : s.size ≤ maxLen) : Calls Tryz.prog 118 #[.string s, .bool b] w fun e w' => e = .returned (.bool (nameFB s b)) ∧ w' = w := by
  cases b with
  | false =>
    go_enter Tryz.func118, Tryz.ntmps118
    go_wp2
    all_goals go_ret
    all_goals simp [nameFB]
  | true =>
    go_enter Tryz.func118, Tryz.ntmps118
    go_wp2_with fail
    refine (iname_any s _ hs).mono ?_
    rintro e w1 ⟨rfl, rfl⟩
    go_wp2
    go_ret
    simp [nameFB]

set_option maxHeartbeats 400000 in
theorem partfits_any (p : Int) (b : Bool) (n : Int) (w : World) : Calls Tryz.prog 119 #[.int .i64 p, .bool b, .int .i64 n] w fun e w' => e = .returned (.bool (partB p b n)) ∧ w' = w := by
  cases b with
  | false =>
    go_enter Tryz.func119, Tryz.ntmps119
    go_wp2
    all_goals go_ret
    all_goals simp [partB]
  | true =>
    go_enter Tryz.func119, Tryz.ntmps119
    go_wp2
    all_goals go_ret
    all_goals (refine ⟨retB ?_, rfl⟩; rw [Bool.eq_iff_iff]; simp [partB, *]; try omega)

end Go.Proofs.YtdkkpopnoeapdaaGreatDoor
