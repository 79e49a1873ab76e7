/-
  Texts that stood by themselves, laid into one.
-/
import Derived.Test.YtbhfooafhbfniaaGreatDoorRNumsM
import Derived.Test.YtbhfooafhbfniaaGreatDoorRNodeM
import Derived.Test.YtbhfooafhbfniaaGreatDoorNodeFitsM
import Derived.Test.YtbhfooafhbfniaaGreatDoorWnCM
import Derived.Test.YtbhfooafhbfniaaGreatDoorR8bM
import Derived.Test.YtbhfooafhbfniaaGreatDoorNextM
/-
  The contract of (impl.reader).nodes: a pool that is right is read, or there is a mistake. Bounds of the form alone.
-/
namespace Go.Proofs.YtbhfooafhbfniaaGreatDoor
open Go.RowKit
theorem gT_size (zs : List Int) (a : Int) : (gT zs a).1.size ≤ zs.length := by
  unfold gT
  split
  · show (strOfNums _).size ≤ _
    rw [strN_size, List.length_take, List.length_drop]
    omega
  · show (0 : Nat) ≤ _
    omega
theorem rdB_size {zs : List Int} {k a b : Int} {x : Nd} (h : rdB zs k a = some (x, b)) : x.s.size ≤ zs.length := by
  unfold rdB at h
  repeat' split at h
  all_goals first
    | (cases h; done)
    | (cases h; first | exact gT_size zs a | exact Nat.zero_le _)
    | (rw [Option.map_eq_some_iff] at h; obtain ⟨_, _, h⟩ := h; cases h; exact Nat.zero_le _)
    | (rw [Option.bind_eq_some_iff] at h; obtain ⟨_, _, h⟩ := h; rw [Option.map_eq_some_iff] at h; obtain ⟨_, _, h⟩ := h; cases h; exact Nat.zero_le _)
theorem rdNd_size {zs : List Int} {a b : Int} {x : Nd} (h : rdNd zs a = some (x, b)) : x.s.size ≤ zs.length := by
  unfold rdNd at h
  rw [Option.bind_eq_some_iff] at h
  obtain ⟨_, _, h⟩ := h
  exact rdB_size h
theorem rdNds_snoc (zs : List Int) : ∀ (n : Nat) (a : Int), rdNds zs (n + 1) a = (rdNds zs n a).bind fun q => (rdNd zs q.2).map fun p => (q.1 ++ [p.1], p.2)
  | 0, a => by
    simp only [rdNds, Option.bind_some]
    cases rdNd zs a <;> rfl
  | n + 1, a => by
    rw [rdNds]
    cases h : rdNd zs a with
    | none => simp [rdNds, h]
    | some p =>
      simp only [Option.bind_some]
      rw [rdNds_snoc zs n p.2, rdNds, h]
      simp only [Option.bind_some]
      cases rdNds zs n p.2 with
      | none => rfl
      | some q => simp only [Option.bind_some, Option.map_some]; cases rdNd zs q.2 <;> rfl
theorem rdNds_none {zs : List Int} {a : Int} : ∀ {n m : Nat}, n ≤ m → rdNds zs n a = none → rdNds zs m a = none
  | n, 0, h, e => by
    obtain rfl : n = 0 := by omega
    exact e
  | n, m + 1, h, e => by
    rcases Nat.lt_or_ge n (m + 1) with h1 | h1
    · rw [rdNds_snoc, rdNds_none (by omega) e]; rfl
    · obtain rfl : n = m + 1 := by omega
      exact e
theorem rdNds_pre {zs : List Int} {a : Int} {n : Nat} {q : List Nd × Int} (h : rdNds zs n a = some q) : ∀ {m : Nat} {t : List Nd × Int}, n ≤ m → rdNds zs m a = some t → ∃ ys, t.1 = q.1 ++ ys
  | 0, t, hm, e => by
    obtain rfl : n = 0 := by omega
    rw [h] at e
    cases e
    exact ⟨[], by simp⟩
  | m + 1, t, hm, e => by
    rcases Nat.lt_or_ge n (m + 1) with h1 | h1
    · rw [rdNds_snoc, Option.bind_eq_some_iff] at e
      obtain ⟨u, e1, e2⟩ := e
      rw [Option.map_eq_some_iff] at e2
      obtain ⟨p, _, rfl⟩ := e2
      obtain ⟨ys, hy⟩ := rdNds_pre h (by omega) e1
      exact ⟨ys ++ [p.1], by show u.1 ++ [p.1] = _; rw [hy, List.append_assoc]⟩
    · obtain rfl : n = m + 1 := by omega
      rw [h] at e
      cases e
      exact ⟨[], by simp⟩
theorem rdP_bad {zs : List Int} {a c a1 : Int} {k : Nat} {q : List Nd × Int} (h1 : rd1 zs a = some (c, a1)) (hk : k ≤ c.toNat) (h2 : rdNds zs k a1 = some q) (h3 : nodesB q.1 0 = false) : rdP zs a = none := by
  unfold rdP
  rw [h1]
  simp only [Option.bind_some]
  split
  · rfl
  · cases h : rdNds zs c.toNat a1 with
    | none => rfl
    | some t =>
      obtain ⟨ys, hy⟩ := rdNds_pre h2 hk h
      simp only [Option.bind_some]
      rw [if_neg]
      unfold poolB
      rw [hy, nodesB_append, h3, Bool.false_and, Bool.and_false]
      simp
theorem rdP_none {zs : List Int} {a c a1 : Int} {k : Nat} (h1 : rd1 zs a = some (c, a1)) (hk : k ≤ c.toNat) (h2 : rdNds zs k a1 = none) : rdP zs a = none := by
  unfold rdP
  rw [h1]
  simp only [Option.bind_some]
  rw [rdNds_none hk h2]
  split <;> rfl
theorem rdP_good {zs : List Int} {a c a1 : Int} {q : List Nd × Int} (h1 : rd1 zs a = some (c, a1)) (hc : c ≤ 3000) (h2 : rdNds zs c.toNat a1 = some q) (h3 : nodesB q.1 0 = true) (h4 : q.1.length ≤ 3000) : rdP zs a = some q := by
  unfold rdP
  rw [h1]
  simp only [Option.bind_some]
  rw [if_neg (by omega), h2]
  simp only [Option.bind_some]
  rw [if_pos]
  unfold poolB
  rw [h3, decide_eq_true h4]
  rfl
theorem own_off {w : World} {base k : Nat} {e : TypeId} {v : Value} {n : Nat} {xs : List Value} (h : w.ownsRow base e k v n xs) {P : Nat} (hP : P < base) : v.ownBlock = none ∨ v.ownBlock ≠ some P := by
  right
  intro e
  have := (h.lt P e).1
  omega
theorem K2.row {P M : Nat} {W w w' : World} {row : Option Nat} (h : K2 P M W w) (hg : w.grownBy w' row) (hr : ∀ j, row = some j → W.heap.size ≤ j) : K2 P M W w' :=
  ⟨hg.os.trans h.os, hg.tape.trans h.tape, hg.output.trans h.output, Nat.le_trans h.size hg.size, fun i hi h1 h2 => (hg.block i (Nat.lt_of_lt_of_le hi h.size) (fun e => by have := hr i e.symm; omega)).trans (h.block i hi h1 h2)⟩
def NdsAns (B : Nat) (zs : List Int) (a : Int) (P : Nat) (e : Ending) (w' : World) : Prop :=
  (∃ xs b vs, rdP zs a = some (xs, b) ∧ e = .returned (.tuple #[.agg #[vs], .nilIface]) ∧ w'.ownsRow B 130 5 vs xs.length (ncs xs) ∧ One w' P b) ∨ (rdP zs a = none ∧ (∃ p, e = .returned (.tuple #[.agg #[.slice none 0 0], badV p])) ∧ ∃ q, One w' P q)
theorem three_boxes (w : World) (o1 o2 o3 : Obj) : Below w.heap.size w (((w.alloc o1).alloc o2).alloc o3) ∧ (((w.alloc o1).alloc o2).alloc o3).heap[w.heap.size]? = some o1 ∧ (((w.alloc o1).alloc o2).alloc o3).heap[w.heap.size + 1]? = some o2 ∧
    (((w.alloc o1).alloc o2).alloc o3).heap[w.heap.size + 1 + 1]? = some o3 ∧ (((w.alloc o1).alloc o2).alloc o3).heap.size = w.heap.size + 1 + 1 + 1 := by
  have s1 : (w.alloc o1).heap.size = w.heap.size + 1 := by simp
  have s2 : ((w.alloc o1).alloc o2).heap.size = w.heap.size + 1 + 1 := by simp
  refine ⟨(((Below.refl _ _).alloc (Nat.le_refl _) _).alloc (by omega) _).alloc (by omega) _, ?_, ?_, ?_, by simp⟩
  · rw [heap_alloc_old _ _ (by omega), heap_alloc_old _ _ (by omega)]; exact heap_alloc_new _ _
  · rw [heap_alloc_old _ _ (by omega), ← s1]; exact heap_alloc_new _ _
  · rw [← s2]; exact heap_alloc_new _ _
set_option maxRecDepth 100000 in
set_option maxHeartbeats 6400000 in
theorem rnodes_any (v : Value) (zs : List Int) (W0 w : World) (P : Nat) (a : Int) (R : Row W0 v zs) (hb : Below W0.heap.size W0 w) (hP : W0.heap.size ≤ P) (h1 : One w P a) :
    Calls Tryz.prog 144 #[.agg #[v, .pointer (some ⟨P, 0, none⟩)]] w fun e w' => w.grownBy w' (some P) ∧ NdsAns w.heap.size zs a P e w' := by
  obtain ⟨i0, hi, hz0, hz1, hz2⟩ := info_parts Tryz.infoN
  obtain ⟨ao, cap, rfl, _, hml, _⟩ := id R
  have hbs := hb.size
  have hPl := h1.lt
  obtain ⟨hB3, x0, x1, x2, hs3⟩ := three_boxes w (Obj.cells #[Value.slice ao zs.length cap, Value.pointer (some ⟨P, 0, none⟩)] 177) (Obj.cells #[.slice none 0 0] 32) (Obj.cells #[.int .i64 0] 3)
  have hc : ((w.alloc (Obj.cells #[Value.slice ao zs.length cap, Value.pointer (some ⟨P, 0, none⟩)] 177)).alloc (Obj.cells #[.slice none 0 0] 32)).cell? ⟨P, 0, none⟩ = some (.int .i64 a) := by
    rw [World.cell?_alloc_lt _ _ ⟨P, 0, none⟩ (by simp; omega), World.cell?_alloc_lt _ _ ⟨P, 0, none⟩ hPl]
    exact h1.cell
  go_enter Tryz.func144, Tryz.ntmps144
  go_wp2_with fail
  obtain ⟨W3, hW3⟩ : ∃ W3, ((w.alloc (Obj.cells #[Value.slice ao zs.length cap, Value.pointer (some ⟨P, 0, none⟩)] 177)).alloc (Obj.cells #[.slice none 0 0] 32)).alloc (Obj.cells #[.int .i64 0] 3) = W3 := ⟨_, rfl⟩
  rw [hW3] at hB3 x0 x1 x2 hs3 ⊢
  have hBL : Below W3.heap.size W3 (W3.alloc (Obj.cells (tgt (w.heap.size + 1 + 1) [0]) 175)) := (Below.refl _ _).alloc (Nat.le_refl _) _
  have hbW := hb.trans (hB3.mono hbs)
  have HC := rnums_any _ zs W0 (W3.alloc (Obj.cells (tgt (w.heap.size + 1 + 1) [0]) 175)) P (w.heap.size + 1 + 1) W3.heap.size a #[.int .i64 0] 3 [0] R (hbW.trans (hBL.mono hbW.size)) hP (by omega) ((h1.below hB3 hPl).below hBL (by omega)) ((hBL.block _ (by omega)).trans x2) (by intro o ho; simp at ho; simp; omega) (heap_alloc_new _ _) (by omega) (by omega) (by omega) (by simp)
  rw [hs3] at HC
  have hLl : w.heap.size + 1 + 1 + 1 ≤ (W3.alloc (Obj.cells (tgt (w.heap.size + 1 + 1) [0]) 175)).heap.size := by have := hBL.size; omega
  have hG : K2 P (w.heap.size + 1 + 1) w (W3.alloc (Obj.cells (tgt (w.heap.size + 1 + 1) [0]) 175)) := (K2.ofB hB3).trans (K2.ofB hBL)
  have x0 := (hBL.block _ (by omega)).trans x0
  have x1 := (hBL.block _ (by omega)).trans x1
  clear hs3 hc x2 hBL
  refine HC.mono ?_
  rintro e w1 ⟨hK, h⟩
  have x0 := (hK.block _ (by omega) (by omega) (by omega)).trans x0
  have x1 := (hK.block _ (by omega) (by omega) (by omega)).trans x1
  have hK := hG.trans hK
  have hG1 : w.grownBy w1 (some P) := hK.grown (by omega)
  clear hG hLl HC hB3 hbW hW3
  have r0 : w1.cell? ⟨w.heap.size + 1, 0, none⟩ = some (.slice none 0 0) := cell_of_row w1 _ 0 _ _ _ x1
  have rf : w1.frozen? ⟨w.heap.size + 1, 0, none⟩ = false := frozen_of_row w1 _ 0 _ _ x1
  have hset : (w1.setCell ⟨w.heap.size + 1, 0, none⟩ (.slice none 0 0)).heap[w.heap.size + 1]? = some (.cells #[.slice none 0 0] 32 (0, 0)) := heap_setCell_same w1 (w.heap.size + 1) 0 _ _ (.slice none 0 0) x1
  have hbset : Below (w.heap.size + 1) w1 (w1.setCell ⟨w.heap.size + 1, 0, none⟩ (.slice none 0 0)) := (Below.refl _ _).setCell (p := ⟨w.heap.size + 1, 0, none⟩) (Nat.le_refl _) _
  rcases h with ⟨q, e1, rfl, e3, e4⟩ | ⟨e1, ⟨p, rfl⟩, ⟨q, e3⟩, -⟩
  · rw [show [0].length = 1 from rfl, rdK_one, Option.map_eq_some_iff] at e1
    obtain ⟨⟨c, a1⟩, e1, rfl⟩ := e1
    obtain ⟨c0, c1, a10, a11⟩ := rd1_range e1
    have e3 : One w1 P a1 := e3
    have e4 : w1.heap[w.heap.size + 1 + 1]? = some (.cells #[.int .i64 c] 3 (0, 0)) := e4
    have cc : w1.cell? ⟨w.heap.size + 1 + 1, 0, none⟩ = some (.int .i64 c) := cell_of_row w1 _ 0 _ _ _ e4
    have c0 : 0 ≤ c := c0
    have c1 : c ≤ 9223372036854775807 := c1
    clear a10 a11
    have H1 : Hid (rd1 zs a = some (c, a1)) := e1
    clear e1
    by_cases hc3 : 3000 < c
    · have HN : Hid (rdP zs a = none) := by unfold Hid rdP; rw [H1.out]; simp only [Option.bind_some]; rw [if_pos (by omega)]
      go_wp2
      exact bodyPost_ret (results_row_tmp rfl _ _ (w.heap.size + 1) 32 _ (0, 0) _ rfl hset Tryz.underlying32 rfl Tryz.sizeP) rfl ⟨grown_then hG1 hbset (by omega), Or.inr ⟨HN.out, ⟨_, rfl⟩, _, e3.below hbset (by omega)⟩⟩
    obtain ⟨n, rfl⟩ := Int.eq_ofNat_of_zero_le c0
    clear hset hbset
    go_wp2_with fail
    refine (iwires_any _).mono ?_
    rintro e w2 ⟨rfl, hb2⟩
    go_wp2_with (refine wpList_store_own rfl 206 _ _ rfl w2.heap.size wiresV rfl rfl 206 _ (heap_alloc_new _ _) Tryz.sizeW rfl wiresV_one ?_)
    intro w3 hh3 hb3 hs3
    have hB13 : Below w1.heap.size w1 w3 := hb2.trans ((((Below.refl _ _).alloc (Nat.le_refl _) _).trans hb3).mono hb2.size)
    have l0 := (Array.getElem?_eq_some_iff.1 x0).1
    have l1 := (Array.getElem?_eq_some_iff.1 x1).1
    have lc := (Array.getElem?_eq_some_iff.1 e4).1
    have x0 := (hB13.block _ l0).trans x0
    have x1 := (hB13.block _ l1).trans x1
    have e4 := (hB13.block _ lc).trans e4
    have e3 := e3.below hB13 e3.lt
    have hG3 : w.grownBy w3 (some P) := grown_then hG1 hB13 hG1.size
    have hwb : w1.heap.size ≤ w2.heap.size := hb2.size
    have hwl := (Array.getElem?_eq_some_iff.1 hh3).1
    clear hb2 hb3 hs3 hB13 r0 rf cc hK hG1 l0 l1
    obtain ⟨Wb, hWb⟩ : ∃ Wb, Hid (w2.heap.size = Wb) := ⟨_, rfl⟩
    rw [hWb.out] at hh3 hwb hwl ⊢
    clear hWb
    have l0 := (Array.getElem?_eq_some_iff.1 x0).1
    have l1 := (Array.getElem?_eq_some_iff.1 x1).1
    have cc : w3.cell? ⟨w.heap.size + 1 + 1, 0, none⟩ = some (.int .i64 n) := cell_of_row w3 _ 0 _ _ _ e4
    have lP := e3.lt
    have hB8 : Below w3.heap.size w3 (w3.alloc (Obj.cells #[.slice none 0 0] 32)) := (Below.refl _ _).alloc (Nat.le_refl _) _
    have y0 := (hB8.block _ l0).trans x0
    have y1 := (hB8.block _ l1).trans x1
    have yw := (hB8.block _ hwl).trans hh3
    have yP := e3.below hB8 lP
    have hG8 : w.grownBy (w3.alloc (Obj.cells #[.slice none 0 0] 32)) (some P) := grown_then hG3 hB8 hG3.size
    have s8 : (w3.alloc (Obj.cells #[.slice none 0 0] 32)).heap.size = w3.heap.size + 1 := by simp
    have yp : (w3.alloc (Obj.cells #[.slice none 0 0] 32)).heap[w3.heap.size]? = some (.cells #[.slice none 0 0] 32 (0, 0)) := heap_alloc_new _ _
    have hws := hG3.size
    have c8 : (w3.alloc (Obj.cells #[.slice none 0 0] 32)).cell? ⟨w.heap.size + 1 + 1, 0, none⟩ = some (.int .i64 n) := cell_of_row _ _ 0 _ _ _ ((hB8.block _ (Array.getElem?_eq_some_iff.1 e4).1).trans e4)
    go_wp2_with fail
    obtain ⟨W8, hW8⟩ : ∃ W8, w3.alloc (Obj.cells #[.slice none 0 0] 32) = W8 := ⟨_, rfl⟩
    rw [hW8] at hB8 y0 y1 yw yP hG8 s8 yp ⊢
    have s8' : w3.heap.size + 1 ≤ W8.heap.size := by omega
    have s8'' : W8.heap.size ≤ w3.heap.size + 1 := by omega
    clear s8 hB8 x0 x1 hh3 e3 hG3 cc c8
    obtain ⟨Pb, hPb⟩ : ∃ Pb, Hid (w3.heap.size = Pb) := ⟨_, rfl⟩
    rw [hPb.out] at yp s8' s8'' l0 l1 hwl lP hws ⊢
    clear hPb hW8
    go_loopw [31] (fun i wr => ∃ (k : Nat) (xs : List Nd) (b : Int) (vs : Value), k ≤ n ∧ i = .int .i64 k ∧ Hid (rdNds zs k a1 = some (xs, b)) ∧ Hid (nodesB xs 0 = true) ∧ Hid (xs.length = k) ∧ One wr P b ∧ wr.heap[Pb]? = some (.cells #[vs] 32 (0, 0)) ∧ wr.ownsRow (Pb + 1) 130 5 vs k (ncs xs) ∧ K2 P Pb W8 wr) (fun i _ => n - (intOf i).toNat)
    case atStart => exact ⟨0, [], a1, _, by omega, rfl, rfl, rfl, rfl, yP, yp, World.ownsRow_nil _ _ _ _, K2.refl _ _ _⟩
    case round =>
      obtain ⟨k, xs, b, vs, hk, rfl, HR, HB, HL, hone, hpb, hown, hK⟩ := hrel
      have hgw : K2 P Pb w wr := (K2.ofP hG8).trans hK
      have z0 := (hK.block _ (by omega) (by omega) (by omega)).trans y0
      have z1 := (hK.block _ (by omega) (by omega) (by omega)).trans y1
      have zw := (hK.block _ (by omega) (by omega) (by omega)).trans yw
      have hsr := hK.size
      have b0 : wr.cell? ⟨w.heap.size, 0, none⟩ = some (.slice ao zs.length cap) := cell_of_row wr _ 0 _ _ _ z0
      have b1 : wr.cell? ⟨w.heap.size, 1, none⟩ = some (.pointer (some ⟨P, 0, none⟩)) := cell_of_row wr _ 1 _ _ _ z0
      have bc := hone.cell
      have hbr : Below W0.heap.size W0 wr := hb.trans (hgw.below hbs hP (by omega))
      obtain ⟨av, cv, rfl⟩ := own_form hown
      by_cases hlt : k < n
      · go_wp2_with (refine wpList_load_row rfl 206 _ rfl Wb rfl 206 wiresV (0, 0) _ zw Tryz.underlying206 rfl Tryz.sizeW ?_)
        refine (rnode_any _ zs W0 wr P b R hbr hP hone).mono ?_
        rintro e w4 ⟨hgr, hans⟩
        have lb := (Array.getElem?_eq_some_iff.1 hpb).1
        have hpb4 := (hgr.block Pb lb (by simp; omega)).trans hpb
        have z1' := (hgr.block _ (Array.getElem?_eq_some_iff.1 z1).1 (by simp; omega)).trans z1
        have hown4 := hown.kept hgr (own_off hown (by omega))
        have hK4 := hK.trans (K2.ofP hgr)
        have hgw4 := hgw.trans (K2.ofP hgr)
        have hs4 := hgr.size
        clear b0 b1 bc
        rcases hans with ⟨x, b', a2, rfl, a3⟩ | ⟨a2, ⟨x, p, rfl⟩, q, a3⟩
        · go_wp2_with (refine wpList_store_own rfl 130 _ _ rfl w4.heap.size (ndA x) rfl rfl 130 _ (heap_alloc_new _ _) Tryz.sizeN rfl (ndA_one _) ?_)
          intro w5 hh5 hb5 _
          have hB45 : Below w4.heap.size w4 w5 := ((Below.refl _ _).alloc (Nat.le_refl _) _).trans hb5
          have hxs : x.s.size ≤ maxLen := by have := rdNd_size a2; unfold maxLen; omega
          have k0 : w5.cell? ⟨w4.heap.size, 0, none⟩ = some (.int .i64 x.k) := cell_of_row w5 _ 0 _ _ _ hh5
          have k1 : w5.cell? ⟨w4.heap.size, 1, none⟩ = some (.int .i64 x.n) := cell_of_row w5 _ 1 _ _ _ hh5
          have k2 : w5.cell? ⟨w4.heap.size, 2, none⟩ = some (.string x.s) := cell_of_row w5 _ 2 _ _ _ hh5
          have k3 : w5.cell? ⟨w4.heap.size, 3, none⟩ = some (.int .i64 x.a) := cell_of_row w5 _ 3 _ _ _ hh5
          have k4 : w5.cell? ⟨w4.heap.size, 4, none⟩ = some (.int .i64 x.b) := cell_of_row w5 _ 4 _ _ _ hh5
          go_wp2_with fail
          refine (nodefits_any x k _ hxs).mono ?_
          rintro e w6 ⟨rfl, hb6⟩
          have l5 := (Array.getElem?_eq_some_iff.1 hh5).1
          have hB46 : Below w4.heap.size w4 w6 := hB45.trans (hb6.mono hB45.size)
          have hh6 := (hb6.block _ l5).trans hh5
          have hpb6 := (hB46.block _ (Array.getElem?_eq_some_iff.1 hpb4).1).trans hpb4
          have z16 := (hB46.block _ (Array.getElem?_eq_some_iff.1 z1').1).trans z1'
          have hone6 := a3.below hB46 a3.lt
          have hown6 := own_below hown4 hB46
          have hK6 := hK4.trans (K2.ofB hB46)
          have hgw6 := hgw4.trans (K2.ofB hB46)
          have hs6 := hK6.size
          have HR2 : Hid (rdNds zs (k + 1) a1 = some (xs ++ [x], b')) := by unfold Hid; rw [rdNds_snoc, HR.out]; simp only [Option.bind_some]; rw [a2]; rfl
          have HB2 : Hid (nodesB (xs ++ [x]) 0 = nodeB x k) := by unfold Hid; rw [nodesB_append, HB.out, Bool.true_and, nodesB, nodesB, Bool.and_true, HL.out, Nat.zero_add]
          clear k0 k1 k2 k3 k4 hb5 hb6 hh5 hB45 hB46 hown4 hpb4 z1' hgr a3
          obtain ⟨nb, hnb⟩ : ∃ nb, nodeB x k = nb := ⟨_, rfl⟩
          rw [hnb] at HB2 ⊢
          clear hnb
          cases nb with
          | false =>
            have HN : Hid (rdP zs a = none) := rdP_bad (k := k + 1) H1.out (by omega) HR2.out HB2.out
            have r0 : w6.cell? ⟨w.heap.size + 1, 0, none⟩ = some (.slice none 0 0) := cell_of_row w6 _ 0 _ _ _ z16
            have rf : w6.frozen? ⟨w.heap.size + 1, 0, none⟩ = false := frozen_of_row w6 _ 0 _ _ z16
            have hset : (w6.setCell ⟨w.heap.size + 1, 0, none⟩ (.slice none 0 0)).heap[w.heap.size + 1]? = some (.cells #[.slice none 0 0] 32 (0, 0)) := heap_setCell_same w6 (w.heap.size + 1) 0 _ _ (.slice none 0 0) z16
            have hbset : Below (w.heap.size + 1) w6 (w6.setCell ⟨w.heap.size + 1, 0, none⟩ (.slice none 0 0)) := (Below.refl _ _).setCell (p := ⟨w.heap.size + 1, 0, none⟩) (Nat.le_refl _) _
            go_wp2
            exact bodyPost_ret (results_row_tmp rfl _ _ (w.heap.size + 1) 32 _ (0, 0) _ rfl hset Tryz.underlying32 rfl Tryz.sizeP) rfl ⟨grown_then (hgw6.grown (by omega)) hbset (by omega), Or.inr ⟨HN.out, ⟨_, rfl⟩, _, hone6.below hbset (by omega)⟩⟩
          | true =>
            have k0 : w6.cell? ⟨w4.heap.size, 0, none⟩ = some (.int .i64 x.k) := cell_of_row w6 _ 0 _ _ _ hh6
            have k1 : w6.cell? ⟨w4.heap.size, 1, none⟩ = some (.int .i64 x.n) := cell_of_row w6 _ 1 _ _ _ hh6
            have k2 : w6.cell? ⟨w4.heap.size, 2, none⟩ = some (.string x.s) := cell_of_row w6 _ 2 _ _ _ hh6
            have k3 : w6.cell? ⟨w4.heap.size, 3, none⟩ = some (.int .i64 x.a) := cell_of_row w6 _ 3 _ _ _ hh6
            have k4 : w6.cell? ⟨w4.heap.size, 4, none⟩ = some (.int .i64 x.b) := cell_of_row w6 _ 4 _ _ _ hh6
            have kp : w6.cell? ⟨Pb, 0, none⟩ = some (.slice av k cv) := cell_of_row w6 _ 0 _ _ _ hpb6
            have hB7 : Below w6.heap.size w6 (w6.alloc (Obj.cells (ndA x) 130)) := (Below.refl _ _).alloc (Nat.le_refl _) _
            have hpb7 := (hB7.block _ (Array.getElem?_eq_some_iff.1 hpb6).1).trans hpb6
            have hs7 := hB7.size
            go_wp2_with (at_builtin; refine wpList_append_lies _ rfl _ _ 30 rfl (Pb + 1) 130 i0 _ 5 48 Tryz.underlying30 hi hz0 hz1 hz2 rfl (by decide) _ _ _ rfl (hown6.alloc _) ⟨w6.heap.size, 0, none⟩ 1 1 (ncs [x]) rfl rfl (World.news_of_block (cs := ndA x) (t := 130) (fr := (0, 0)) (heap_alloc_new w6 _)) (ncs_one _) (by omega) (by unfold maxLen; omega) (by omega) (by simp; omega) _ rfl ?_)
            intro g2 cap2 w8 hown8 hgrow hat hgl2
            have hlr : ∀ j, (Value.slice av k cv).ownBlock = some j → Pb + 1 ≤ j := fun j hj => (hown6.lt j hj).1
            have hpb8 := (hgrow.block Pb (Array.getElem?_eq_some_iff.1 hpb7).1 (fun e => by have := hlr Pb e.symm; omega)).trans hpb7
            have hone7 := hone6.below hB7 hone6.lt
            have hone8 : One w8 P b' := (hgrow.block P hone7.lt (fun e => by have := hlr P e.symm; omega)).trans hone7
            have hK8 := (hK6.trans (K2.ofB hB7)).row hgrow (fun j hj => by have := hlr j hj; omega)
            have kp8 : w8.cell? ⟨Pb, 0, none⟩ = some (.slice av k cv) := cell_of_row w8 _ 0 _ _ _ hpb8
            have kf8 : w8.frozen? ⟨Pb, 0, none⟩ = false := frozen_of_row w8 _ 0 _ _ hpb8
            have hpb9 := heap_setCell_same w8 Pb 0 _ _ (.slice (some ⟨g2, 0, none⟩) (k + 1) cap2) hpb8
            have hK9 := hK8.trans (K2.ofM (grown_set w8 Pb 0 (.slice (some ⟨g2, 0, none⟩) (k + 1) cap2)))
            have hone9 : One (w8.setCell ⟨Pb, 0, none⟩ (.slice (some ⟨g2, 0, none⟩) (k + 1) cap2)) P b' := (heap_setCell_other w8 ⟨Pb, 0, none⟩ P _ (by show P ≠ Pb; omega)).trans hone8
            have hown9 := ownsRow_setCell_below hown8 (a := ⟨Pb, 0, none⟩) (by show Pb < Pb + 1; omega) (.slice (some ⟨g2, 0, none⟩) (k + 1) cap2)
            have HL2 : Hid ((xs ++ [x]).length = k + 1) := by unfold Hid; rw [List.length_append, HL.out]; rfl
            clear k0 k1 k2 k3 k4 kp hgrow hat hown8 hpb8 hone8 hpb7 hB7
            go_wp2
            go_roundw
            case rel => exact ⟨k + 1, xs ++ [x], b', _, by omega, by go_num, HR2, HB2, HL2, hone9, hpb9, by rw [ncs_append]; exact hown9, hK9⟩
            case measure => simp [intOf]; omega
        · have HN : Hid (rdP zs a = none) := rdP_none (k := k + 1) H1.out (by omega) (by rw [rdNds_snoc, HR.out]; simp only [Option.bind_some]; rw [a2]; rfl)
          unfold badV
          go_wp2_with (refine wpList_store_own rfl 130 _ _ rfl w4.heap.size (ndA x) rfl rfl 130 _ (heap_alloc_new _ _) Tryz.sizeN rfl (ndA_one _) ?_)
          intro w5 hh5 hb5 _
          have hB45 : Below w4.heap.size w4 w5 := ((Below.refl _ _).alloc (Nat.le_refl _) _).trans hb5
          have z16 := (hB45.block _ (Array.getElem?_eq_some_iff.1 z1').1).trans z1'
          have hone6 := a3.below hB45 a3.lt
          have hgw6 := hgw4.trans (K2.ofB hB45)
          have r0 : w5.cell? ⟨w.heap.size + 1, 0, none⟩ = some (.slice none 0 0) := cell_of_row w5 _ 0 _ _ _ z16
          have rf : w5.frozen? ⟨w.heap.size + 1, 0, none⟩ = false := frozen_of_row w5 _ 0 _ _ z16
          have hset : (w5.setCell ⟨w.heap.size + 1, 0, none⟩ (.slice none 0 0)).heap[w.heap.size + 1]? = some (.cells #[.slice none 0 0] 32 (0, 0)) := heap_setCell_same w5 (w.heap.size + 1) 0 _ _ (.slice none 0 0) z16
          have hbset : Below (w.heap.size + 1) w5 (w5.setCell ⟨w.heap.size + 1, 0, none⟩ (.slice none 0 0)) := (Below.refl _ _).setCell (p := ⟨w.heap.size + 1, 0, none⟩) (Nat.le_refl _) _
          go_wp2
          exact bodyPost_ret (results_row_tmp rfl _ _ (w.heap.size + 1) 32 _ (0, 0) _ rfl hset Tryz.underlying32 rfl Tryz.sizeP) rfl ⟨grown_then (hgw6.grown (by omega)) hbset (by omega), Or.inr ⟨HN.out, ⟨p, rfl⟩, _, hone6.below hbset (by omega)⟩⟩
      · have hke : k = n := by omega
        subst hke
        have HG : Hid (rdP zs a = some (xs, b)) := rdP_good H1.out (by omega) HR.out HB.out (by show xs.length ≤ 3000; rw [HL.out]; omega)
        have kp : wr.cell? ⟨Pb, 0, none⟩ = some (.slice av k cv) := cell_of_row wr _ 0 _ _ _ hpb
        have r0 : wr.cell? ⟨w.heap.size + 1, 0, none⟩ = some (.slice none 0 0) := cell_of_row wr _ 0 _ _ _ z1
        have rf : wr.frozen? ⟨w.heap.size + 1, 0, none⟩ = false := frozen_of_row wr _ 0 _ _ z1
        have hset : (wr.setCell ⟨w.heap.size + 1, 0, none⟩ (.slice av k cv)).heap[w.heap.size + 1]? = some (.cells #[.slice av k cv] 32 (0, 0)) := heap_setCell_same wr (w.heap.size + 1) 0 _ _ (.slice av k cv) z1
        have hbset : Below (w.heap.size + 1) wr (wr.setCell ⟨w.heap.size + 1, 0, none⟩ (.slice av k cv)) := (Below.refl _ _).setCell (p := ⟨w.heap.size + 1, 0, none⟩) (Nat.le_refl _) _
        have hown9 := own_mono (ownsRow_setCell_below hown (a := ⟨w.heap.size + 1, 0, none⟩) (by show w.heap.size + 1 < Pb + 1; omega) (.slice av k cv)) (show w.heap.size ≤ Pb + 1 by omega)
        go_wp2
        exact bodyPost_ret (results_row_tmp rfl _ _ (w.heap.size + 1) 32 _ (0, 0) _ rfl hset Tryz.underlying32 rfl Tryz.sizeP) rfl ⟨grown_then (hgw.grown (by omega)) hbset (by omega), Or.inl ⟨xs, b, _, HG.out, rfl, by rw [HL.out]; exact hown9, hone.below hbset (by omega)⟩⟩
  · rw [show [0].length = 1 from rfl, rdK_one, Option.map_eq_none_iff] at e1
    have HN : Hid (rdP zs a = none) := by unfold Hid rdP; rw [e1]; rfl
    unfold badV
    go_wp2
    exact bodyPost_ret (results_row_tmp rfl _ _ (w.heap.size + 1) 32 _ (0, 0) _ rfl hset Tryz.underlying32 rfl Tryz.sizeP) rfl ⟨grown_then hG1 hbset (by omega), Or.inr ⟨HN.out, ⟨p, rfl⟩, _, e3.below hbset (by omega)⟩⟩
end Go.Proofs.YtbhfooafhbfniaaGreatDoor
/-
  Contract of spec.GetText, for every slice of bytes within the form's reach and every place.
-/
namespace Go.Proofs.YtbhfooafhbfniaaGreatDoor
open Go.RowKit
set_option maxRecDepth 100000 in
set_option maxHeartbeats 800000 in
theorem sgtext_any (v : Value) (zs : List Int) (a : Int) (w : World) (R : Row w v zs) (hlo : -9223372036854775808 ≤ a) (hhi : a ≤ 9223372036854775807) :
    Calls Tryz.prog 115 #[v, .int .i64 a] w fun e w' => e = .returned (tV (gT zs a)) ∧ w' = w := by
  have R' := R
  obtain ⟨ao, cap, rfl, hcap, hm, hz, hcell⟩ := R'
  clear hz
  go_enter Tryz.func115, Tryz.ntmps115
  go_wp2_with fail
  refine (sget_any _ zs a w R hlo hhi).mono ?_
  rintro e w1 ⟨rfl, rfl⟩
  generalize hg : gN zs a = r
  obtain ⟨n, next, ok⟩ := r
  have HG : Hid (gN zs a = (n, next, ok)) := hg
  clear hg hlo hhi R
  cases ok with
  | false =>
    have HT : Hid (gT zs a = (⟨#[]⟩, 0, false)) := gT_no zs a n next false HG.out (Or.inl rfl)
    go_wp2_with fail
    go_ret3
    exact ⟨by rw [HT.out]; rfl, rfl⟩
  | true =>
    obtain ⟨h1, h2, h3, h4⟩ := gN_ok zs a n next HG.out
    obtain ⟨n, rfl⟩ := Int.eq_ofNat_of_zero_le h1
    obtain ⟨next, rfl⟩ := Int.eq_ofNat_of_zero_le h3
    by_cases hout : (zs.length : Int) - next < n
    · have HT : Hid (gT zs a = (⟨#[]⟩, 0, false)) := gT_no zs a _ _ true HG.out (Or.inr hout)
      go_wp2_with fail
      go_ret3
      exact ⟨by rw [HT.out]; rfl, rfl⟩
    · have HT : Hid (gT zs a = (strOfNums ((zs.drop next).take n), (next : Int) + n, true)) := gT_yes zs a n next HG.out (by omega)
      have hle : next + n ≤ zs.length := by omega
      go_wp2_with (refine wpList_bytes_string _ rfl _ 143 9 5 rfl Tryz.underlying143 Tryz.underlying9 Tryz.underlying5 _ _ _ ((zs.drop next).take n) rfl (by rw [cut_length zs next n hle]; omega) (by rw [Nat.add_sub_cancel_left]; simpa using cut_cells hcell next n hle hcap) ?_)
      all_goals go_ret3
      all_goals exact ⟨by rw [HT.out]; rfl, rfl⟩
end Go.Proofs.YtbhfooafhbfniaaGreatDoor
