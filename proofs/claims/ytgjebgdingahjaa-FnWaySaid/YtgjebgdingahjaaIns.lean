/-
  The library's slices.Insert and slices.BinarySearch on a row of numbers of one's own. No condition but the row's length.
-/
import Derived.Test.YtgjebgdingahjaaShelfW
import Derived.Test.YtgjebgdingahjaaWinM
import Derived.Lib.LazyBuf
namespace Go.Proofs.Ytgjebgdingahjaa
open Go.RowKit Go.Lib

def nv (zs : List Int) : List Value := zs.map (Value.int .i64)
theorem nv_length (zs : List Int) : (nv zs).length = zs.length := by simp [nv]
theorem nv_one (zs : List Int) : ∀ u ∈ nv zs, u.oneCell' = true := by
  intro u hu
  simp only [nv, List.mem_map] at hu
  obtain ⟨z, _, rfl⟩ := hu
  rfl
theorem cellAt {w : World} {g : Nat} {cs : Array Value} {t : TypeId} (h : w.heap[g]? = some (.cells cs t (0, 0))) (j : Nat) : w.cell? ⟨g, j, none⟩ = cs[j]? := by simp [World.cell?, h]
theorem setCells_block (g : Nat) (e : TypeId) : ∀ (vs : List Value) (o : Nat) (w : World) (cur : Array Value), w.heap[g]? = some (.cells cur e (0, 0)) → o + vs.length ≤ cur.size →
    ∃ cur' : Array Value, (w.setCells g o vs).heap[g]? = some (.cells cur' e (0, 0)) ∧ cur'.toList = cur.toList.take o ++ (vs ++ cur.toList.drop (o + vs.length))
  | [], o, w, cur, h, hb => ⟨cur, h, by simp⟩
  | v :: r, o, w, cur, h, hb => by
    simp only [List.length_cons] at hb
    obtain ⟨cur', h1, h2⟩ := setCells_block g e r (o + 1) (w.setCell ⟨g, o, none⟩ v) _ (heap_setCell_same w g o cur e v h) (by simp; omega)
    refine ⟨cur', h1, h2.trans ?_⟩
    obtain ⟨A, c, B, hc, hA⟩ : ∃ A c B, cur.toList = A ++ c :: B ∧ A.length = o := ⟨cur.toList.take o, cur.toList[o]'(by simp; omega), cur.toList.drop (o + 1), by rw [← List.drop_eq_getElem_cons]; exact (List.take_append_drop _ _).symm, by simp; omega⟩
    subst hA
    rw [Array.toList_setIfInBounds, hc]
    have e1 : A.length + 1 + r.length - A.length = r.length + 1 := by omega
    have e2 : A.length ≤ A.length + 1 + r.length := by omega
    simp [List.take_append, List.drop_append, List.take_of_length_le, List.drop_of_length_le, e1, e2]
theorem grown_setCells (g : Nat) : ∀ (vs : List Value) (o : Nat) (w : World), w.grownBy (w.setCells g o vs) (some g)
  | [], _, _ => World.grownBy.refl _ _
  | v :: r, o, w => grown_trans (grown_set w g o v) (grown_setCells g r (o + 1) _)

theorem grown_drew {w w' : World} {o : Option Nat} (h : w.drew.grownBy w' o) : w.grownBy w' o := ⟨h.os, h.tape, h.output, h.size, h.block⟩
/-- slices.Insert: one number, at a place. -/
theorem ins_any (v : Value) (ns : List Int) (i : Nat) (x : Int) (base vb : Nat) (w : World) (ho : w.ownsRow base 3 1 v ns.length (nv ns)) (hlen : ns.length ≤ 100000) (hi : i ≤ ns.length)
    (hx : w.heap[vb]? = some (.cells #[.int .i64 x] 3 (0, 0))) (hne : v.ownBlock ≠ some vb) (hbase : base ≤ w.heap.size) :
    Calls Try.prog 21 #[v, .int .i64 (i : Int), .slice (some ⟨vb, 0, none⟩) 1 1] w fun e w' => ∃ v', e = .returned v' ∧ w'.ownsRow base 3 1 v' (ns.length + 1) (nv (ns.take i ++ x :: ns.drop i)) ∧ w.grownBy w' v.ownBlock := by
  have hvs : ∀ j u, [Value.int .i64 x][j]? = some u → w.cell? ⟨vb, 0 + j, none⟩ = some u := by
    intro j u hj
    rw [cellAt hx]
    simpa using hj
  have h1v : ∀ u ∈ [Value.int .i64 x], u.oneCell' = true := by simp [Value.oneCell']
  have hfv : ∀ j, w.frozen? ⟨vb, j, none⟩ = false := fun j => frozen_of_row w vb j _ _ hx
  have hml : (100000 : Nat) + 1 ≤ maxLen := by decide
  rcases ho.2 with ⟨rfl, h0⟩ | ⟨g, cap, cur, rfl, hB, hg, hn, hcap, hsz, htk⟩
  · have hns : ns = [] := List.eq_nil_of_length_eq_zero h0
    subst hns
    obtain rfl : i = 0 := by simpa using hi
    refine (Any2.slices_Insert_int_end_grow Try.laysNm221 none 0 0 vb 0 1 1 [] [.int .i64 x] w (by omega) (by omega) (by omega) (by omega) rfl rfl (fun _ => rfl) (fun a ha => by cases ha) hvs h1v).mono ?_
    rintro e w' ⟨rfl, rfl⟩
    refine ⟨_, rfl, ?_, ?_⟩
    · refine ⟨by simp [nv], Or.inr ⟨_, _, _, rfl, hbase, heap_alloc_new _ _, grownCap_ge _ _ _ _, grownCap_le_maxLen _ _ _ _ (by decide), ?_, ?_⟩⟩
      · have := grownCap_ge w (0 + 1) 0 (Try.laysNm221_ren.t 3)
        rw [Array.size_append, size_zeroCells, show (Value.int .i64 0).cells.size = 1 from rfl]
        simp only [List.nil_append, List.size_toArray, List.length_cons, List.length_nil]
        omega
      · simp [nv]
    · exact grown_drew (grown_below ((Below.refl _ _).alloc (Nat.le_refl _) _) _)
  · have hcs : ∀ j u, (nv ns)[j]? = some u → w.cell? ⟨g, 0 + j, none⟩ = some u := by
      intro j u hj
      rw [cellAt hg, ← Array.getElem?_toList, Nat.zero_add]
      have hjl := (List.getElem?_eq_some_iff.1 hj).1
      rw [nv_length] at hjl
      rw [← hj, ← htk, List.getElem?_take_of_lt (by omega)]
    have hsp : ∀ j, j < cap → (w.cell? ⟨g, 0 + j, none⟩).isSome = true := by
      intro j hj
      rw [cellAt hg]
      simp
      omega
    have hfz : ∀ j, w.frozen? ⟨g, j, none⟩ = false := fun j => frozen_of_row w g j _ _ hg
    have hgne : vb ≠ g := fun e => hne (by simp [Value.ownBlock, e])
    have hc63 : cap ≤ 9223372036854775807 := Nat.le_trans hcap (by decide)
    have hsz1 : cur.size = cap := by omega
    have htk1 : cur.toList.take ns.length = nv ns := by simpa using htk
    by_cases hroom : ns.length + 1 ≤ cap
    · by_cases hlt : i < ns.length
      · refine (Any2.slices_Insert_int_shift Try.laysNm221 g 0 ns.length cap i vb 0 1 1 (nv ns) [.int .i64 x] w hlt (by omega) hroom hc63 hgne (nv_length _) rfl hcs (fun j hj => hsp j (by omega)) (fun j _ => hfz _) hvs (nv_one _) h1v 3 3 1 cap (by simp [World.shape?, hx]) (by simp [World.shape?, hg, hsz1]) (by omega) (hfv _) (hfv _)).mono ?_
        rintro e w' ⟨rfl, rfl⟩
        obtain ⟨c1, k1, k2⟩ := setCells_block g 3 ((nv ns).drop i) (0 + (i + 1)) w.drew cur hg (by simp [nv_length]; omega)
        have hc1 : c1.size = cur.size := by
          have := congrArg List.length k2
          simp [nv_length] at this
          omega
        obtain ⟨c2, k3, k4⟩ := setCells_block g 3 [.int .i64 x] (0 + i) _ c1 k1 (by simp; omega)
        have hc2 : c2.size = cur.size := by
          have := congrArg List.length k4
          simp at this
          omega
        refine ⟨_, rfl, ⟨by simp [nv]; omega, Or.inr ⟨g, cap, c2, rfl, hB, k3, hroom, hcap, by omega, ?_⟩⟩, ?_⟩
        · rw [k4, k2]
          simp only [Nat.mul_one, Nat.zero_add, List.length_cons, List.length_nil]
          have hP : cur.toList.take i = nv (ns.take i) := by
            rw [show cur.toList.take i = (cur.toList.take ns.length).take i by rw [List.take_take, Nat.min_eq_left hi], htk1]
            simp [nv, List.map_take]
          have e1 : ∀ Y, List.take i (List.take (i + 1) cur.toList ++ Y) = nv (ns.take i) := fun Y => by rw [List.take_append_of_le_length (by simp; omega), List.take_take, Nat.min_eq_left (by omega), hP]
          have e2 : ∀ Y, List.drop (i + 1) (List.take (i + 1) cur.toList ++ Y) = Y := fun Y => List.drop_left' (by simp; omega)
          rw [e1, e2, ← List.append_assoc, ← List.append_assoc, List.take_left' (by simp [nv]; omega)]
          simp [nv, List.map_drop]
        · exact grown_drew (grown_trans (grown_setCells g _ _ _) (grown_setCells g _ _ _))
      · obtain rfl : i = ns.length := by omega
        refine (Any2.slices_Insert_int_end_room Try.laysNm221 g 0 ns.length cap vb 0 1 1 [.int .i64 x] w (by omega) hroom hc63 rfl (fun j hj => by rw [Nat.add_assoc]; exact hsp _ (by omega)) (fun j _ => hfz _) hvs h1v).mono ?_
        rintro e w' ⟨rfl, rfl⟩
        obtain ⟨c1, k1, k2⟩ := setCells_block g 3 [.int .i64 x] (0 + ns.length) w cur hg (by simp; omega)
        have hc1 : c1.size = cur.size := by
          have := congrArg List.length k2
          simp at this
          omega
        refine ⟨_, rfl, ⟨by simp [nv], Or.inr ⟨g, cap, c1, rfl, hB, k1, hroom, hcap, by omega, ?_⟩⟩, grown_setCells g _ _ _⟩
        rw [k2, Nat.zero_add, htk1]
        simp [nv, List.take_append, List.take_of_length_le]
    · have hcn : cap = ns.length := by omega
      by_cases hlt : i < ns.length
      · refine (Any2.slices_Insert_int_grow Try.laysNm221 g 0 ns.length cap i vb 0 1 1 (nv ns) [.int .i64 x] w hlt (by omega) hn (by omega) (by omega) (nv_length _) rfl hcs hvs (nv_one _) h1v).mono ?_
        rintro e w' ⟨rfl, rfl⟩
        have hG := grownCap_ge w (ns.length + 1) cap (Try.laysNm221_ren.t 3)
        have hGm := grownCap_le_maxLen w (ns.length + 1) cap (Try.laysNm221_ren.t 3) (by omega)
        generalize hC : ((nv ns).take i).toArray ++ Builtin.zeroCells (Value.int .i64 0).cells (ns.length + 1 - i) ++ Builtin.zeroCells (Value.int .i64 0).cells (grownCap w (ns.length + 1) cap (Try.laysNm221_ren.t 3) - (ns.length + 1)) = C
        generalize grownCap w (ns.length + 1) cap (Try.laysNm221_ren.t 3) = G at hG hGm hC
        have hCs : C.size = G := by
          rw [← hC, Array.size_append, Array.size_append, size_zeroCells, size_zeroCells, show (Value.int .i64 0).cells.size = 1 from rfl]
          simp only [List.size_toArray, List.length_take, nv_length]
          omega
        have hCt : C.toList.take i = nv (ns.take i) := by
          rw [← hC, Array.toList_append, Array.toList_append, List.append_assoc, List.take_left' (by simp [nv]; omega)]
          simp [nv, List.map_take]
        obtain ⟨c1, k1, k2⟩ := setCells_block w.heap.size 3 [.int .i64 x] i (w.alloc (.cells C 3)).drew C (heap_alloc_new _ _) (by simp; omega)
        have hc1 : c1.size = C.size := by
          have := congrArg List.length k2
          simp at this
          omega
        obtain ⟨c2, k3, k4⟩ := setCells_block w.heap.size 3 ((nv ns).drop i) (i + 1) (((w.alloc (.cells C 3)).drew.setCells w.heap.size i [.int .i64 x]).drew) c1 k1 (by simp [nv_length]; omega)
        have hc2 : c2.size = C.size := by
          have := congrArg List.length k4
          simp [nv_length] at this
          omega
        refine ⟨_, rfl, ⟨by simp [nv]; omega, Or.inr ⟨w.heap.size, G, c2, rfl, hbase, k3, hG, hGm, by omega, ?_⟩⟩, ?_⟩
        · rw [k4, k2, hCt]
          simp only [Nat.mul_one]
          have e1 : ∀ Y, List.take (i + 1) (nv (ns.take i) ++ ([Value.int .i64 x] ++ Y)) = nv (ns.take i) ++ [Value.int .i64 x] := fun Y => by rw [← List.append_assoc, List.take_left' (by simp [nv]; omega)]
          rw [e1, ← List.append_assoc, List.take_left' (by simp [nv]; omega)]
          simp [nv, List.map_drop]
        · have hb1 : Below w.heap.size w (w.alloc (.cells C 3)) := (Below.refl _ _).alloc (Nat.le_refl _) _
          have hb0 : Below w.heap.size w (w.alloc (.cells C 3)).drew := ⟨hb1.os, hb1.tape, hb1.output, hb1.size, hb1.block⟩
          have hb2 := below_setCells (Nat.le_refl _) [Value.int .i64 x] i _ hb0
          have hb3 : Below w.heap.size w (((w.alloc (.cells C 3)).drew.setCells w.heap.size i [.int .i64 x]).drew) := ⟨hb2.os, hb2.tape, hb2.output, hb2.size, hb2.block⟩
          exact grown_below (below_setCells (Nat.le_refl _) _ _ _ hb3) _
      · obtain rfl : i = ns.length := by omega
        refine (Any2.slices_Insert_int_end_grow Try.laysNm221 (some ⟨g, 0, none⟩) ns.length cap vb 0 1 1 (nv ns) [.int .i64 x] w (by omega) hn (by omega) (by omega) (nv_length _) rfl (fun h => by cases h) (fun a ha j u hj => by cases ha; rw [Addr.add_lit]; exact hcs j u hj) hvs h1v).mono ?_
        rintro e w' ⟨rfl, rfl⟩
        refine ⟨_, rfl, ?_, ?_⟩
        · refine ⟨by simp [nv], Or.inr ⟨_, _, _, rfl, hbase, heap_alloc_new _ _, grownCap_ge _ _ _ _, grownCap_le_maxLen _ _ _ _ (by omega), ?_, ?_⟩⟩
          · have := grownCap_ge w (ns.length + 1) cap (Try.laysNm221_ren.t 3)
            rw [Array.size_append, size_zeroCells, show (Value.int .i64 0).cells.size = 1 from rfl]
            simp only [List.size_toArray, List.length_append, nv_length, List.length_cons, List.length_nil]
            omega
          · simp [nv, List.take_append, List.take_of_length_le]
        · exact grown_drew (grown_below ((Below.refl _ _).alloc (Nat.le_refl _) _) _)
/-- slices.BinarySearch: how many are less, and whether it is there. -/
theorem bs_any (v : Value) (ns : List Int) (x : Int) (base : Nat) (w : World) (ho : w.ownsRow base 3 1 v ns.length (nv ns)) (hlen : ns.length ≤ 100000) (hs : ns.Pairwise (· < ·)) :
    Calls Try.prog 20 #[v, .int .i64 x] w fun e w' => e = .returned (.tuple #[.int .i64 (ns.countP (· < x) : Nat), .bool (ns.contains x)]) ∧ ∃ q, w' = w.drewN q := by
  rcases ho.2 with ⟨rfl, h0⟩ | ⟨g, cap, cur, rfl, hB, hg, hn, hcap, hsz, htk⟩
  · have hns : ns = [] := List.eq_nil_of_length_eq_zero h0
    subst hns
    refine (Any.slices_BinarySearch_int_empty Try.laysNm225 none 0 x w).mono ?_
    rintro e w' ⟨rfl, rfl⟩
    exact ⟨rfl, 0, rfl⟩
  · have hcs : ∀ j, j < ns.length → w.cell? ⟨g, 0 + j, none⟩ = some (.int .i64 (ns.getD j 0)) := by
      intro j hj
      rw [cellAt hg, ← Array.getElem?_toList, Nat.zero_add]
      have := congrArg (·[j]?) htk
      rw [List.getElem?_take_of_lt (by omega)] at this
      rw [this]
      simp [nv, hj]
    have h := Any.slices_BinarySearch_int Try.laysNm225 g 0 ns.length cap ns x w (Nat.le_refl _) (by omega) hcs (by rw [List.take_length]; exact hs.imp (fun h => Int.le_of_lt h))
    rw [List.take_length] at h
    exact h
end Go.Proofs.Ytgjebgdingahjaa
