/-
  Texts that stood by themselves, laid into one.
-/
import Derived.Test.YtenegpbpalbpeaaGreatDoorNameM
import Derived.Test.YtenegpbpalbpeaaGreatDoorTo2M
import Derived.Deep.MidRow
import Derived.Deep.AppendLies
import Derived.Deep.RegionLawGrows
import Derived.OneCell
/-
  Slices of elements of k cells each, where the cells may lie elsewhere (structs that have slices): how they read, and stores into one's own. Nothing of the program; no condition.
-/
namespace Go.Proofs.YtenegpbpalbpeaaGreatDoor
open Go.RowKit
theorem range_below {w w' : World} {g o B : Nat} {cs : List Value} (h : w.rangeAt g o cs) (hb : Below B w w') (hg : g < B) : w'.rangeAt g o cs :=
  fun j v hj => (hb.cell (p := ⟨g, o + j, none⟩) hg).trans (h j v hj)
def Kp (B : Nat) (w w' : World) : Prop := w.heap.size ≤ w'.heap.size ∧ ∀ k, B ≤ k → k < w.heap.size → w'.heap[k]? = w.heap[k]?
theorem Kp.of_below {B : Nat} {w w' : World} (h : Below w.heap.size w w') : Kp B w w' := ⟨h.size, fun k _ hk => h.block k hk⟩
theorem Kp.refl (B : Nat) (w : World) : Kp B w w := ⟨Nat.le_refl _, fun _ _ _ => rfl⟩
theorem Kp.trans {B : Nat} {a b c : World} (h : Kp B a b) (k : Kp B b c) : Kp B a c := ⟨Nat.le_trans h.1 k.1, fun i h1 h2 => (k.2 i h1 (Nat.lt_of_lt_of_le h2 h.1)).trans (h.2 i h1 h2)⟩
theorem Kp.mono {B C : Nat} {w w' : World} (h : Kp B w w') (hc : B ≤ C) : Kp C w w' := ⟨h.1, fun k h1 h2 => h.2 k (Nat.le_trans hc h1) h2⟩
theorem Kp.of_grown {B g : Nat} {w w' : World} (h : w.grownBy w' (some g)) (hg : g < B) : Kp B w w' := ⟨h.size, fun k h1 h2 => h.block k h2 (by simp; omega)⟩
theorem Kp.of_set {B g o : Nat} {w : World} {u : Value} (hg : g < B) : Kp B w (w.setCell ⟨g, o, none⟩ u) := ⟨by simp, fun k h1 _ => heap_setCell_other w ⟨g, o, none⟩ k u (by show k ≠ g; omega)⟩
theorem Kp.of_oth {B g : Nat} {w w' : World} (hs : w.heap.size ≤ w'.heap.size) (h : ∀ j, j ≠ g → w'.heap[j]? = w.heap[j]?) (hg : g < B) : Kp B w w' := ⟨hs, fun k h1 _ => h k (by omega)⟩
theorem range_kp {w w' : World} {g o B : Nat} {cs : List Value} (h : w.rangeAt g o cs) (hk : Kp B w w') (hB : B ≤ g) (hg : g < w.heap.size) : w'.rangeAt g o cs :=
  fun j v hj => (World.cell?_of_block (w := w) (hk.2 g hB hg)).trans (h j v hj)
def Stb {α : Type} (E : Nat → World → List Value → α → Prop) : Prop := (∀ B w w' cs x, E B w cs x → Kp B w w' → E B w' cs x) ∧ ∀ B C w cs x, E B w cs x → C ≤ B → E C w cs x
def XRow {α : Type} (B k : Nat) (E : Nat → World → List Value → α → Prop) (w : World) (v : Value) (xs : List α) : Prop :=
  ∃ ao cap, v = .slice ao xs.length cap ∧ (xs.length ≤ cap ∧ (ao = none → cap = 0)) ∧ xs.length ≤ 9223372036854775807 ∧
    (xs ≠ [] → ∃ g o, ao = some ⟨g, o, none⟩ ∧ B ≤ g ∧ g < w.heap.size ∧ ∀ i x, xs[i]? = some x → ∃ cs, cs.length = k ∧ w.rangeAt g (o + i * k) cs ∧ E B w cs x)
theorem XRow.small {α : Type} {B k : Nat} {E : Nat → World → List Value → α → Prop} {w : World} {v : Value} {xs : List α} (R : XRow B k E w v xs) : ∃ ao cap, v = .slice ao xs.length cap := by
  obtain ⟨ao, cap, rfl, _⟩ := R
  exact ⟨ao, cap, rfl⟩
theorem XRow.kp {α : Type} {B k : Nat} {E : Nat → World → List Value → α → Prop} {w w' : World} {v : Value} {xs : List α} (h : XRow B k E w v xs) (hE : Stb E) (hb : Kp B w w') : XRow B k E w' v xs := by
  obtain ⟨ao, cap, rfl, hc, hm, hcell⟩ := h
  refine ⟨ao, cap, rfl, hc, hm, fun hne => ?_⟩
  obtain ⟨g, o, rfl, hB, hg, hcell⟩ := hcell hne
  refine ⟨g, o, rfl, hB, Nat.lt_of_lt_of_le hg hb.1, fun i x hi => ?_⟩
  obtain ⟨cs, h1, h2, h3⟩ := hcell i x hi
  exact ⟨cs, h1, range_kp h2 hb hB hg, hE.1 _ _ _ _ _ h3 hb⟩
theorem XRow.below {α : Type} {B k : Nat} {E : Nat → World → List Value → α → Prop} {w w' : World} {v : Value} {xs : List α} (h : XRow B k E w v xs) (hE : Stb E) (hb : Below w.heap.size w w') : XRow B k E w' v xs := h.kp hE (Kp.of_below hb)
theorem XRow.mono {α : Type} {B C k : Nat} {E : Nat → World → List Value → α → Prop} {w : World} {v : Value} {xs : List α} (h : XRow B k E w v xs) (hE : Stb E) (hc : C ≤ B) : XRow C k E w v xs := by
  obtain ⟨ao, cap, rfl, hc', hm, hcell⟩ := h
  refine ⟨ao, cap, rfl, hc', hm, fun hne => ?_⟩
  obtain ⟨g, o, rfl, hB, hg, hcell⟩ := hcell hne
  refine ⟨g, o, rfl, Nat.le_trans hc hB, hg, fun i x hi => ?_⟩
  obtain ⟨cs, h1, h2, h3⟩ := hcell i x hi
  exact ⟨cs, h1, h2, hE.2 _ _ _ _ _ h3 hc⟩
theorem flat_len {k : Nat} : ∀ {css : List (List Value)}, (∀ c ∈ css, c.length = k) → css.flatten.length = css.length * k
  | [], _ => by simp
  | c :: css, h => by
    rw [List.flatten_cons, List.length_append, flat_len (fun d hd => h d (List.mem_cons_of_mem _ hd)), h c (List.mem_cons_self ..), List.length_cons, Nat.succ_mul]
    omega
theorem flat_get {k : Nat} : ∀ {css : List (List Value)} {i : Nat} {c : List Value}, (∀ c ∈ css, c.length = k) → css[i]? = some c → ∀ j, j < k → css.flatten[i * k + j]? = c[j]?
  | [], _, _, _, h, _, _ => by simp at h
  | d :: css, 0, c, hl, h, j, hj => by
    simp at h
    subst h
    rw [List.flatten_cons, Nat.zero_mul, Nat.zero_add, List.getElem?_append_left (by rw [hl d (List.mem_cons_self ..)]; exact hj)]
  | d :: css, i + 1, c, hl, h, j, hj => by
    have hd := hl d (List.mem_cons_self ..)
    rw [List.flatten_cons, List.getElem?_append_right (by rw [hd, Nat.succ_mul]; omega), hd, show (i + 1) * k + j - k = i * k + j by rw [Nat.succ_mul]; omega]
    exact flat_get (fun e he => hl e (List.mem_cons_of_mem _ he)) (by simpa using h) j hj
theorem XRow.of_own {α : Type} {k : Nat} {E : Nat → World → List Value → α → Prop} {w : World} {base : Nat} {v : Value} {t : TypeId} {xs : List α} {css : List (List Value)} (h : w.ownsRow base t k v xs.length css.flatten) (hl : css.length = xs.length) (hk : ∀ c ∈ css, c.length = k) (hm : xs.length ≤ 9223372036854775807)
    (hE : ∀ (i : Nat) c x, css[i]? = some c → xs[i]? = some x → E base w c x) : XRow base k E w v xs := by
  rcases h.2 with ⟨rfl, h0⟩ | ⟨g, cap, cur, rfl, hb, hg, hnc, hcm, hcs, htake⟩
  · have : xs = [] := List.eq_nil_of_length_eq_zero h0
    subst this
    exact ⟨none, 0, rfl, by simp, by simp, fun h => absurd rfl h⟩
  · refine ⟨_, cap, rfl, ⟨hnc, fun h => by cases h⟩, hm, fun _ => ⟨g, 0, rfl, hb, (Array.getElem?_eq_some_iff.1 hg).1, fun i x hi => ?_⟩⟩
    have hil : i < xs.length := (List.getElem?_eq_some_iff.1 hi).1
    have hc : css[i]? = some css[i] := List.getElem?_eq_getElem (by omega)
    have hkc := hk css[i] (List.getElem_mem _)
    refine ⟨css[i], hkc, fun j u hj => ?_, hE i _ x hc hi⟩
    have hjk : j < k := by have := (List.getElem?_eq_some_iff.1 hj).1; omega
    have hlt : i * k + j < xs.length * k := by
      have : (i + 1) * k ≤ xs.length * k := Nat.mul_le_mul_right k hil
      rw [Nat.succ_mul] at this
      omega
    have := h.cellAt (i * k + j) hlt
    rw [Nat.zero_add, this, flat_get hk hc j hjk]
    exact hj
theorem own_cellsX {base g n cap size : Nat} {e : TypeId} : ∀ (cs : List Value) (o : Nat) (w : World) (xs : List Value), w.ownsRow base e size (.slice (some ⟨g, 0, none⟩) n cap) n xs →
    ∃ ys, (w.setCells g o cs).ownsRow base e size (.slice (some ⟨g, 0, none⟩) n cap) n ys ∧ w.grownBy (w.setCells g o cs) (some g) ∧ ys.length = xs.length ∧ (∀ j, j < o ∨ o + cs.length ≤ j → ys[j]? = xs[j]?) ∧ (∀ j u, cs[j]? = some u → o + j < xs.length → ys[o + j]? = some u)
  | [], o, w, xs, h => ⟨xs, h, World.grownBy.refl _ _, rfl, fun _ _ => rfl, fun j u h => by simp at h⟩
  | c :: cs, o, w, xs, h => by
    obtain ⟨h1, g1⟩ := h.stored o c
    obtain ⟨ys, h2, g2, h3, h4, h5⟩ := own_cellsX cs (o + 1) _ _ h1
    refine ⟨ys, h2, g1.trans g2, by rw [h3, List.length_set], fun j hj => ?_, fun j u hj hlt => ?_⟩
    · rw [List.length_cons] at hj
      rw [h4 j (by omega), List.getElem?_set_ne (by omega)]
    · cases j with
      | zero =>
        simp at hj
        subst hj
        rw [h4 (o + 0) (by omega)]
        simp only [Nat.add_zero] at hlt ⊢
        rw [List.getElem?_set_self hlt]
      | succ j =>
        have := h5 j u (by simpa using hj) (by rw [List.length_set]; omega)
        rw [show o + (j + 1) = o + 1 + j by omega]
        exact this
theorem wpList_store_x {P : Program} {ops : Array Oper} {rest : List Oper} {op : Oper} {a : Act} {w : World} {Q : Exit → Act → World → Prop} (hgd : op.guard = none) (ty : TypeId) (x y : Operand) (ho : op.op = .store ty x y)
    (base g i cap k n : Nat) (css : List (List Value)) (cs : List Value) (hx : a.eval x = .pointer (some ⟨g, i * k, none⟩)) (hy : a.eval y = .agg cs.toArray) (hk : cs.length = k) (hall : ∀ c ∈ css, c.length = k) (hn : css.length = n) (hi : i < n)
    (h1 : ∀ v ∈ cs, v.oneCell' = true) (hsz : (P.info? ty).map (·.size) = some k) (hown : w.ownsRow base ty k (.slice (some ⟨g, 0, none⟩) n cap) n css.flatten)
    (h : ∀ w2 : World, w2.ownsRow base ty k (.slice (some ⟨g, 0, none⟩) n cap) n (css.set i cs).flatten → w.grownBy w2 (some g) → wpList P ops Q rest (a.put op.dst undef) w2) : wpList P ops Q (op :: rest) a w := by
  have hin : (i + 1) * k ≤ n * k := Nat.mul_le_mul_right k hi
  rw [Nat.succ_mul] at hin
  have hfl := flat_len hall
  rw [hn] at hfl
  have ht : w.there g (i * k) cs.toArray.size := fun j hj => by
    simp at hj
    have := hown.cellAt (i * k + j) (by omega)
    refine ⟨?_, hown.frozenAt _⟩
    rw [this, List.getElem?_eq_getElem (by omega)]
    rfl
  refine wpList_store_mid hgd ty x y ho g (i * k) _ hx hy ht (by simpa [hk] using hsz) (all_oneCell_toArray h1) ?_
  obtain ⟨ys, h2, g2, h3, h4, h5⟩ := own_cellsX cs (i * k) w css.flatten hown
  have hset : ∀ c ∈ css.set i cs, c.length = k := fun c hc => by
    rcases List.mem_or_eq_of_mem_set hc with h | h
    · exact hall c h
    · rw [h]; exact hk
  have hys : ys = (css.set i cs).flatten := by
    apply List.ext_getElem?
    intro j
    have hfl2 := flat_len hset
    rw [List.length_set, hn] at hfl2
    by_cases hj : j < n * k
    · have hk0 : 0 < k := by rcases Nat.eq_zero_or_pos k with h0 | h0; subst h0; simp at hj; exact h0
      have hq : j / k < n := Nat.div_lt_of_lt_mul (by rw [Nat.mul_comm]; exact hj)
      have hr : j % k < k := Nat.mod_lt _ hk0
      have hjd : j / k * k + j % k = j := by rw [Nat.mul_comm]; exact Nat.div_add_mod j k
      by_cases hq2 : j / k = i
      · have e1 := flat_get (css := css.set i cs) (i := i) (c := cs) hset (by rw [List.getElem?_set_self (by omega)]) (j % k) hr
        rw [hq2] at hjd
        rw [← hjd, e1]
        obtain ⟨u, hu⟩ : ∃ u, cs[j % k]? = some u := ⟨_, List.getElem?_eq_getElem (by omega)⟩
        rw [hu]
        exact h5 _ u hu (by omega)
      · have e1 := flat_get (css := css.set i cs) (i := j / k) (c := css[j / k]'(by omega)) hset (by rw [List.getElem?_set_ne (by omega)]; exact List.getElem?_eq_getElem _) (j % k) hr
        have e2 := flat_get (css := css) (i := j / k) (c := css[j / k]'(by omega)) hall (List.getElem?_eq_getElem _) (j % k) hr
        rw [hjd] at e1 e2
        rw [e1, ← e2]
        refine h4 j ?_
        rw [hk]
        rcases Nat.lt_or_gt_of_ne hq2 with hlt | hgt
        · left
          have : (j / k + 1) * k ≤ i * k := Nat.mul_le_mul_right k hlt
          rw [Nat.succ_mul] at this
          omega
        · right
          have : (i + 1) * k ≤ j / k * k := Nat.mul_le_mul_right k hgt
          rw [Nat.succ_mul] at this
          omega
    · rw [List.getElem?_eq_none (by omega), List.getElem?_eq_none (by omega)]
  rw [hys] at h2
  exact h _ h2 g2
theorem made_flat {z : Array Value} {k : Nat} (hz : z.size = k) (hk : 0 < k) (n : Nat) : (madeCells z (n * k)).toList = (List.replicate n z.toList).flatten := by
  have hall : ∀ c ∈ List.replicate n z.toList, c.length = k := fun c hc => by rw [List.eq_of_mem_replicate hc]; simpa using hz
  have hfl := flat_len hall
  rw [List.length_replicate] at hfl
  apply List.ext_getElem?
  intro j
  by_cases hj : j < n * k
  · have hq : j / k < n := Nat.div_lt_of_lt_mul (by rw [Nat.mul_comm]; exact hj)
    have hr : j % k < k := Nat.mod_lt _ hk
    have hjd : j / k * k + j % k = j := by rw [Nat.mul_comm]; exact Nat.div_add_mod j k
    have e := flat_get (css := List.replicate n z.toList) (i := j / k) (c := z.toList) hall (by simp [hq]) (j % k) hr
    rw [hjd] at e
    rw [e]
    simp [madeCells, hj, hz]
    have hlt : j % k < z.size := by omega
    rw [getElem!_pos z (j % k) hlt, Array.getElem?_eq_getElem hlt]
  · rw [List.getElem?_eq_none (by simp [madeCells]; omega), List.getElem?_eq_none (by omega)]
def Fr (B : Nat) (v : Value) : Prop := ∀ g, v.ownBlock = some g → B ≤ g
theorem Fr.of_own {w : World} {base : Nat} {e : TypeId} {k n : Nat} {v : Value} {l : List Value} (h : w.ownsRow base e k v n l) : Fr base v := fun g hg => (h.lt g hg).1
theorem Fr.mono {B C : Nat} {v : Value} (h : Fr B v) (hc : C ≤ B) : Fr C v := fun g hg => Nat.le_trans hc (h g hg)
theorem Fr.zero (v : Value) : Fr 0 v := fun _ _ => Nat.zero_le _
theorem kp_cell {w w' : World} {B : Nat} {ao : Option Addr} {n cap g o : Nat} (hk : Kp B w w') (hf : Fr B (.slice ao n cap)) (he : ao = some ⟨g, o, none⟩) (hg : g < w.heap.size) : w'.heap[g]? = w.heap[g]? := by
  subst he
  exact hk.2 g (hf g rfl) hg
theorem NRow.kp {w w' : World} {v : Value} {xs : List Nd} {B : Nat} (R : NRow w v xs) (hf : Fr B v) (hk : Kp B w w') : NRow w' v xs := by
  obtain ⟨ao, cap, rfl, hc, hm, hz, hcell⟩ := R
  refine ⟨ao, cap, rfl, hc, hm, hz, fun hne => ?_⟩
  obtain ⟨g, o, rfl, hg, hcell⟩ := hcell hne
  have e := kp_cell hk hf rfl hg
  refine ⟨g, o, rfl, Nat.lt_of_lt_of_le hg hk.1, fun i x hi => ?_⟩
  obtain ⟨c0, c1, c2, c3, c4⟩ := hcell i x hi
  exact ⟨(World.cell?_of_block e).trans c0, (World.cell?_of_block e).trans c1, (World.cell?_of_block e).trans c2, (World.cell?_of_block e).trans c3, (World.cell?_of_block e).trans c4⟩
end Go.Proofs.YtenegpbpalbpeaaGreatDoor
/-
  A machine but for its pool. No condition.
-/
namespace Go.Proofs.YtenegpbpalbpeaaGreatDoor
open Go.RowKit
structure Mc where
  p : Int
  s : Int
  e : Int
  d : Int
  t : Int
  q : Int
  r : Int
theorem Tryz.sizeMach : (Tryz.prog.info? 85).map (·.size) = some 8 := by kernel_rfl
theorem two_boxes (w : World) (A B : Obj) : Below w.heap.size w ((w.alloc A).alloc B) ∧ ((w.alloc A).alloc B).heap[w.heap.size]? = some A ∧ ((w.alloc A).alloc B).heap[w.heap.size + 1]? = some B :=
  ⟨((Below.refl _ _).alloc (Nat.le_refl _) _).alloc (by simp) _, (heap_alloc_old _ _ (by simp)).trans (heap_alloc_new _ _), heap_alloc2_new _ _ _⟩
end Go.Proofs.YtenegpbpalbpeaaGreatDoor
/-
  Contracts of impl's nodeFits and PoolOk: when a node and a pool are right.
-/
namespace Go.Proofs.YtenegpbpalbpeaaGreatDoor
open Go.RowKit
set_option maxHeartbeats 1600000 in
theorem nodefits_any (x : Nd) (n : Int) (w : World) (hs : x.s.size ≤ maxLen) :
    Calls Tryz.prog 136 #[.agg #[.int .i64 x.k, .int .i64 x.n, .string x.s, .int .i64 x.a, .int .i64 x.b], .int .i64 n] w fun e w' => e = .returned (.bool (nodeB x n)) ∧ Below w.heap.size w w' := by
  go_enter Tryz.func136, Tryz.ntmps136
  go_wp2_with fail
  have hb0 : Below w.heap.size w (w.alloc (Obj.cells #[.int .i64 x.k, .int .i64 x.n, .string x.s, .int .i64 x.a, .int .i64 x.b] 178)) := (Below.refl _ _).alloc (Nat.le_refl _) _
  refine (shapeof_any x.k _).mono ?_
  rintro e w1 ⟨rfl, hb1⟩
  have hbox := (hb1.block w.heap.size (by simp)).trans (heap_alloc_new _ _)
  have hcell : ∀ j, w1.cell? ⟨w.heap.size, j, none⟩ = #[Value.int .i64 x.k, .int .i64 x.n, .string x.s, .int .i64 x.a, .int .i64 x.b][j]? := fun j => cell_of_row w1 _ j _ _ _ hbox
  have c1 := hcell 1
  have c2 := hcell 2
  have c3 := hcell 3
  have c4 := hcell 4
  simp only [List.getElem?_toArray, List.getElem?_cons_succ, List.getElem?_cons_zero] at c1 c2 c3 c4
  have hbl : w.heap.size < w1.heap.size := (Array.getElem?_eq_some_iff.1 hbox).1
  have hB1 : Below w.heap.size w w1 := hb0.trans (hb1.mono (by simp))
  clear hcell hbox hb0 hb1
  by_cases hk : 1 ≤ x.k ∧ x.k ≤ 9
  · rw [shapeV, if_pos hk]
    by_cases h1 : lo x.k ≤ x.n ∧ x.n ≤ hi x.k
    · have HN : Hid (nodeB x n = (nameFB x.s (hasS x.k) && partB x.a (hasA x.k) n && partB x.b (hasB x.k) n)) := by
        unfold Hid nodeB; simp [hk, h1]
      obtain ⟨h1a, h1b⟩ := h1
      go_wp2_with fail
      refine (namefits_any _ _ _ hs).mono ?_
      rintro e w2 ⟨rfl, rfl⟩
      generalize hA : nameFB x.s (hasS x.k) = bA at HN ⊢
      clear hA
      cases bA with
      | false =>
        go_wp2
        go_ret
        exact ⟨by rw [HN.out]; rfl, hB1.alloc hB1.size _⟩
      | true =>
        go_wp2_with fail
        refine (partfits_any _ _ _ _).mono ?_
        rintro e w2 ⟨rfl, rfl⟩
        generalize hA : partB x.a (hasA x.k) n = bA at HN ⊢
        clear hA
        cases bA with
        | false =>
          go_wp2
          go_ret
          exact ⟨by rw [HN.out]; rfl, hB1.alloc hB1.size _⟩
        | true =>
          go_wp2_with fail
          refine (partfits_any _ _ _ _).mono ?_
          rintro e w2 ⟨rfl, rfl⟩
          go_wp2
          go_ret
          exact ⟨by rw [HN.out]; rfl, hB1.alloc hB1.size _⟩
    · have HN : Hid (nodeB x n = false) := by
        unfold Hid nodeB
        rw [Bool.eq_false_iff]
        intro h
        simp only [Bool.and_eq_true, decide_eq_true_eq] at h
        exact h1 ⟨h.1.1.2, h.1.2⟩
      go_wp2_with fail
      all_goals go_ret
      all_goals first | exact ⟨by rw [HN.out]; rfl, hB1.alloc hB1.size _⟩ | (exfalso; omega)
  · have HN : Hid (nodeB x n = false) := by
      unfold Hid nodeB
      rw [Bool.eq_false_iff]
      intro h
      simp only [Bool.and_eq_true, decide_eq_true_eq] at h
      exact hk h.1.1.1
    rw [shapeV, if_neg hk]
    go_wp2_with fail
    all_goals go_ret
    all_goals exact ⟨by rw [HN.out]; rfl, hB1.alloc hB1.size _⟩
set_option maxHeartbeats 1600000 in
theorem ipool_any (v : Value) (xs : List Nd) (w : World) (R : NRow w v xs) :
    Calls Tryz.prog 89 #[.agg #[v]] w fun e w' => e = .returned (.bool (poolB xs)) ∧ Below w.heap.size w w' := by
  have R' := R
  obtain ⟨ao, cap, rfl, hcap, hm, hz, hcell⟩ := R'
  by_cases hlen : xs.length ≤ 3000
  · have HP : Hid (poolB xs = nodesB (xs.drop 0) 0) := by unfold Hid poolB; simp [hlen]
    go_enter Tryz.func89, Tryz.ntmps89
    go_wp2_with fail
    go_loopw [12] (fun i wr => ∃ k : Nat, k ≤ xs.length ∧ i = .int .i64 k ∧ Hid (poolB xs = nodesB (xs.drop k) k) ∧ Below w.heap.size w wr) (fun i _ => xs.length - (intOf i).toNat)
    case atStart => exact ⟨0, by omega, rfl, HP.out, (Below.refl _ _).alloc (Nat.le_refl _) _⟩
    case round =>
      clear HP
      obtain ⟨k, hk, rfl, HP, hb⟩ := hrel
      by_cases hlt : k < xs.length
      · obtain ⟨g, o, rfl, hg, hcell⟩ := hcell (by intro e; subst e; simp at hlt)
        obtain ⟨x, hx⟩ : ∃ x, xs[k]? = some x := ⟨xs[k], by simp [hlt]⟩
        obtain ⟨c0, c1, c2, c3, c4⟩ := (hcell k x hx).below hb hg
        have HS : Hid (nodesB (xs.drop k) k = (nodeB x k && nodesB (xs.drop (k + 1)) (k + 1))) := nodesB_drop xs k x hx
        have hxs := hz x (List.mem_of_getElem? hx)
        clear hcell hx
        go_wp2_with fail
        refine (nodefits_any x _ _ hxs).mono ?_
        rintro e w2 ⟨rfl, hb2⟩
        have hB : Below w.heap.size w w2 := (hb.alloc hb.size _).trans (hb2.mono (by have := hb.size; simp; omega))
        clear c0 c1 c2 c3 c4 hb2
        have HN : Hid (poolB xs = (nodeB x k && nodesB (xs.drop (k + 1)) (k + 1))) := by unfold Hid; rw [HP.out, HS.out]
        clear HS HP
        generalize hA : nodeB x k = bA at HN ⊢
        clear hA
        cases bA with
        | false =>
          go_wp2
          go_ret
          exact ⟨by rw [HN.out]; rfl, hB⟩
        | true =>
          go_wp2
          go_roundw
          case rel => exact ⟨k + 1, by omega, by go_num, HN.out, hB⟩
          case measure => simp [intOf]; omega
      · have e : k = xs.length := by omega
        subst e
        have HT : Hid (poolB xs = true) := by unfold Hid; rw [HP.out, List.drop_length]; rfl
        clear HP
        go_wp2
        go_ret
        exact ⟨by rw [HT.out]; rfl, hb⟩
  · have HP : Hid (poolB xs = false) := by unfold Hid poolB; simp [hlen]
    go_enter Tryz.func89, Tryz.ntmps89
    go_wp2_with fail
    go_ret
    exact ⟨by rw [HP.out]; rfl, (Below.refl _ _).alloc (Nat.le_refl _) _⟩
end Go.Proofs.YtenegpbpalbpeaaGreatDoor
/-
  What the sizes of a pool's nodes are, and the contract of impl.SizeOf.
-/
namespace Go.Proofs.YtenegpbpalbpeaaGreatDoor
open Go.RowKit
def iv (zs : List Int) : List Value := zs.map (Value.int .i64)
theorem iv_get (zs : List Int) (i : Nat) (h : i < zs.length) : (iv zs)[i]? = some (.int .i64 (zs.getD i 0)) := by simp [iv, List.getD, h]
theorem iv_set (zs : List Int) (i : Nat) (z : Int) : (iv zs).set i (.int .i64 z) = iv (zs.set i z) := by simp [iv, List.map_set]
theorem iv_append (a b : List Int) : iv (a ++ b) = iv a ++ iv b := by simp [iv]
def szA (acc : List Int) (x : Nd) : Int := if hasA x.k then acc.getD x.a.toNat 0 else 0
def szB (acc : List Int) (x : Nd) : Int := if hasB x.k then acc.getD x.b.toNat 0 else 0
def szN (acc : List Int) (x : Nd) : Int := min (1 + szA acc x + szB acc x) 1000000000
def sizes : List Nd → List Int → List Int
  | [], acc => acc
  | x :: xs, acc => sizes xs (acc ++ [szN acc x])
def sizesTo (xs : List Nd) (k : Nat) : List Int := sizes (xs.take k) []
theorem nodesB_get (xs : List Nd) (i0 i : Nat) (x : Nd) (h : nodesB xs i0 = true) (hx : xs[i]? = some x) : nodeB x (i0 + i : Nat) = true := by
  induction xs generalizing i i0 with
  | nil => simp at hx
  | cons y ys ih =>
    simp only [nodesB, Bool.and_eq_true] at h
    cases i with
    | zero => simp at hx; subst hx; exact h.1
    | succ i =>
      have := ih (i0 + 1) i h.2 (by simpa using hx)
      rwa [show i0 + 1 + i = i0 + (i + 1) by omega] at this
theorem poolB_at {xs : List Nd} (h : poolB xs = true) {i : Nat} {x : Nd} (hx : xs[i]? = some x) : nodeB x i = true := by
  simp only [poolB, Bool.and_eq_true] at h
  have := nodesB_get xs 0 i x h.2 hx
  simpa using this
theorem nodeB_kind {x : Nd} {n : Int} (h : nodeB x n = true) : 1 ≤ x.k ∧ x.k ≤ 9 := by
  simp only [nodeB, Bool.and_eq_true, decide_eq_true_eq] at h
  exact h.1.1.1
theorem nodeB_A {x : Nd} {n : Int} (h : nodeB x n = true) (ha : hasA x.k = true) : 0 ≤ x.a ∧ x.a < n := by
  simp only [nodeB, Bool.and_eq_true, decide_eq_true_eq] at h
  have := h.2.1.2
  rw [ha] at this
  simpa [partB] using this
theorem nodeB_B {x : Nd} {n : Int} (h : nodeB x n = true) (ha : hasB x.k = true) : 0 ≤ x.b ∧ x.b < n := by
  simp only [nodeB, Bool.and_eq_true, decide_eq_true_eq] at h
  have := h.2.2
  rw [ha] at this
  simpa [partB] using this
theorem poolB_len {xs : List Nd} (h : poolB xs = true) : xs.length ≤ 3000 := by
  simp only [poolB, Bool.and_eq_true, decide_eq_true_eq] at h; exact h.1
def hasI (xs : List Nd) (v : Int) : Bool := decide (0 ≤ v) && decide (v < xs.length)
def sizeR (xs : List Nd) (v : Int) : Int := if poolB xs && hasI xs v then (sizesTo xs xs.length).getD v.toNat 0 else 0
set_option maxHeartbeats 400000 in
theorem has_any (v : Value) (xs : List Nd) (a : Int) (w : World) (R : NRow w v xs) :
    Calls Tryz.prog 181 #[.agg #[v], .int .i64 a] w fun e w' => e = .returned (.bool (hasI xs a)) ∧ Below w.heap.size w w' := by
  obtain ⟨ao, cap, rfl, _⟩ := R
  go_enter Tryz.func181, Tryz.ntmps181
  go_wp2
  all_goals go_ret
  all_goals (refine ⟨retB ?_, (Below.refl _ _).alloc (Nat.le_refl _) _⟩; rw [Bool.eq_iff_iff]; simp [hasI, *]; try omega)
end Go.Proofs.YtenegpbpalbpeaaGreatDoor
