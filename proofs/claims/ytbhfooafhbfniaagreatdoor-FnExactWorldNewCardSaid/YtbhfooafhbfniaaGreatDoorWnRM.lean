/-
  Texts that stood by themselves, laid into one.
-/
import Derived.Test.YtbhfooafhbfniaaGreatDoorWnTM
import Derived.Test.YtbhfooafhbfniaaGreatDoorWnGM
import Derived.Test.YtbhfooafhbfniaaGreatDoorPrRegM
/-
  A new world as one value of eleven cells, or the zero one: how it compares, what marking does to it. No condition.
-/
namespace Go.Proofs.YtbhfooafhbfniaaGreatDoor
open Go.RowKit
theorem StRow.nil9 (w : World) : StRow w (.slice none 0 0) [] := ⟨none, 0, rfl, by simp, by simp, by simp, fun h => absurd rfl h⟩
theorem PcRow.nil9 (w : World) : PcRow w (.slice none 0 0) [] := ⟨none, 0, rfl, by simp, by simp, by simp, fun h => absurd rfl h⟩
theorem NRow.nil9 (w : World) : NRow w (.slice none 0 0) [] := ⟨none, 0, rfl, by simp, by simp, by simp, fun h => absurd rfl h⟩
theorem InRow.nil9 (w : World) : InRow w (.slice none 0 0) [] := ⟨none, 0, rfl, by simp, by simp, by simp, fun h => absurd rfl h⟩
theorem DfRow.nil9 (w : World) : DfRow w (.slice none 0 0) [] := ⟨none, 0, rfl, by simp, by simp, by simp, fun h => absurd rfl h⟩
theorem XRow.nil9 {α : Type} (B k : Nat) (E : Nat → World → List Value → α → Prop) (w : World) : XRow B k E w (.slice none 0 0) [] := ⟨none, 0, rfl, by simp, by simp, fun h => absurd rfl h⟩
theorem Fr.nil9 (B : Nat) : Fr B (.slice none 0 0) := fun _ h => by cases h
def wdN (ns : List Nd) (is : List In) (ds : List Df) (p : Nat) (I : Int) (M : Mc) (L : List Nd) : Wd := ⟨ns, is, ds, (p : Int), [⟨0, I, L, M, [], []⟩], List.replicate (p * p) ⟨0, 0, [], 0, []⟩, [], [], 2, List.replicate (p * p) [], List.replicate (p * p) []⟩
def wdZ : Wd := ⟨[], [], [], 0, [], [], [], [], 0, [], []⟩
theorem wr_zero (w : World) : WR 0 w (.slice none 0 0) (.slice none 0 0) (.slice none 0 0) (.slice none 0 0) (.slice none 0 0) (.slice none 0 0) (.slice none 0 0) (.slice none 0 0) (.slice none 0 0) wdZ :=
  ⟨NRow.nil9 _, InRow.nil9 _, DfRow.nil9 _, XRow.nil9 _ _ _ _, XRow.nil9 _ _ _ _, XRow.nil9 _ _ _ _, XRow.nil9 _ _ _ _, XRow.nil9 _ _ _ _, XRow.nil9 _ _ _ _, Fr.nil9 _, Fr.nil9 _, Fr.nil9 _⟩
theorem xrow_ss {B n : Nat} {w : World} {v : Value} (h : w.ownsRow B 57 1 v n (List.replicate n (.slice none 0 0))) (hn : n ≤ 1048576) : XRow 0 1 ES w v (List.replicate n ([] : List ByteArray)) :=
  (XRow.of_own (css := List.replicate n [Value.slice none 0 0]) (xs := List.replicate n ([] : List ByteArray)) (by rw [List.length_replicate, List.flatten_replicate_singleton]; exact h) (by simp) (by intro c hc; rw [(List.mem_replicate.1 hc).2]; rfl) (by rw [List.length_replicate]; omega) (fun i c x hc hx => by
    have e1 := (List.mem_replicate.1 (List.mem_of_getElem? hc)).2
    have e2 := (List.mem_replicate.1 (List.mem_of_getElem? hx)).2
    subst e1 e2
    exact ⟨_, rfl, StRow.nil9 _, Fr.nil9 _⟩)).mono stbS (Nat.zero_le _)
theorem WV.wr {B : Nat} {w : World} {y1 y2 y3 vh vl va vt vL : Value} {ns : List Nd} {is : List In} {ds : List Df} {p : Nat} {I : Int} {M : Mc} {L : List Nd} (S : WV B w y1 y2 y3 vh vl va vt vL ns.length is.length ds.length L.length (p * p) (ncs ns) (incs is) (dfcs ds) (hmc I M vL) (ncs L) (zls (p * p)))
    (l1 : ns.length ≤ 1048576) (l2 : is.length ≤ 1048576) (l3 : ds.length ≤ 1048576) (l4 : L.length ≤ 1048576) (l5 : p * p ≤ 1048576) (z1 : ∀ x ∈ ns, x.s.size ≤ maxLen) (z2 : ∀ x ∈ is, x.s.size ≤ maxLen) (z3 : ∀ x ∈ ds, x.s.size ≤ maxLen) (z4 : ∀ x ∈ L, x.s.size ≤ maxLen) :
    WR 0 w y1 y2 y3 vh vl (.slice none 0 0) (.slice none 0 0) va vt (wdN ns is ds p I M L) :=
  ⟨NRow.of_own S.o1 (by show ns.length ≤ _; omega) z1, InRow.of_own S.o2 (by show is.length ≤ _; omega) z2, DfRow.of_own S.o3 (by show ds.length ≤ _; omega) z3,
   (XRow.of_own (css := [hmc I M vL]) (xs := [(⟨0, I, L, M, [], []⟩ : Hm)]) (by simpa using S.h) rfl (by intro c hc; rw [List.mem_singleton.1 hc]; rfl) (by simp) (fun i c x hc hx => by
      have e1 := List.mem_singleton.1 (List.mem_of_getElem? hc)
      have e2 := List.mem_singleton.1 (List.mem_of_getElem? hx)
      subst e1 e2
      exact ⟨vL, _, _, rfl, NRow.of_own S.q (by show L.length ≤ _; omega) z4, StRow.nil9 _, StRow.nil9 _, Fr.of_own S.q, Fr.nil9 _, Fr.nil9 _⟩)).mono stbH (Nat.zero_le _),
   (XRow.of_own (css := List.replicate (p * p) [Value.int .i64 0, .int .i64 0, .slice none 0 0, .int .i64 0, .slice none 0 0]) (xs := List.replicate (p * p) (⟨0, 0, [], 0, []⟩ : Lk)) (by rw [List.length_replicate]; exact S.l) (by simp) (by intro c hc; rw [(List.mem_replicate.1 hc).2]; rfl) (by rw [List.length_replicate]; omega) (fun i c x hc hx => by
      have e1 := (List.mem_replicate.1 (List.mem_of_getElem? hc)).2
      have e2 := (List.mem_replicate.1 (List.mem_of_getElem? hx)).2
      subst e1 e2
      exact ⟨_, _, rfl, StRow.nil9 _, PcRow.nil9 _, Fr.nil9 _, Fr.nil9 _⟩)).mono stbL (Nat.zero_le _),
   XRow.nil9 _ _ _ _, XRow.nil9 _ _ _ _, xrow_ss S.a l5, xrow_ss S.t l5, Fr.zero _, Fr.zero _, Fr.zero _⟩
def Bd (hi : Nat) (vs : List Value) : Prop := ∀ v ∈ vs, ∀ g, v.ownBlock = some g → g < hi
def An (lo hi : Nat) (w : World) (cs : Array Value) (ns : List Nd) (is : List In) (ds : List Df) (p : Nat) (I : Int) (M : Mc) (L : List Nd) (k : Bool) : Prop :=
  (k = true ∧ ∃ y1 y2 y3 vh vl va vt vL, cs = #[y1, y2, y3, .int .i64 (p : Int), vh, vl, .slice none 0 0, .slice none 0 0, .int .i64 2, va, vt] ∧ WV lo w y1 y2 y3 vh vl va vt vL ns.length is.length ds.length L.length (p * p) (ncs ns) (incs is) (dfcs ds) (hmc I M vL) (ncs L) (zls (p * p)) ∧ Bd hi [y1, y2, y3, vh, vl, va, vt, vL]) ∨ (k = false ∧ cs = #[.slice none 0 0, .slice none 0 0, .slice none 0 0, .int .i64 0, .slice none 0 0, .slice none 0 0, .slice none 0 0, .slice none 0 0, .int .i64 0, .slice none 0 0, .slice none 0 0])
def Mk9 (lo hi : Nat) (w : World) (cs : Array Value) (ns : List Nd) (is : List In) (ds : List Df) (p : Nat) (L : List Nd) (k : Bool) : Prop :=
  (k = true ∧ ∃ y1 y2 y3 vh vl va vt vL, cs = #[y1, y2, y3, .int .i64 (p : Int), vh, vl, .slice none 0 0, .slice none 0 0, .int .i64 2, va, vt] ∧ WVM lo w y1 y2 y3 vh vl va vt vL ns is ds L (p * p) 1 ∧ Bd hi [y1, y2, y3, vh, vl, va, vt, vL]) ∨ (k = false ∧ cs = #[.slice none 0 0, .slice none 0 0, .slice none 0 0, .int .i64 0, .slice none 0 0, .slice none 0 0, .slice none 0 0, .slice none 0 0, .int .i64 0, .slice none 0 0, .slice none 0 0])
section
variable {lo hi : Nat} {w w' : World} {cs : Array Value} {ns : List Nd} {is : List In} {ds : List Df} {p : Nat} {I : Int} {M : Mc} {L : List Nd} {k : Bool}
theorem WV.bd {B : Nat} {y1 y2 y3 vh vl va vt vL : Value} {n1 n2 n3 nL n : Nat} {A1 A2 A3 hc AL ls : List Value} (S : WV B w y1 y2 y3 vh vl va vt vL n1 n2 n3 nL n A1 A2 A3 hc AL ls) : Bd w.heap.size [y1, y2, y3, vh, vl, va, vt, vL] := by
  intro v hv g hg
  simp only [List.mem_cons, List.not_mem_nil, or_false] at hv
  rcases hv with rfl | rfl | rfl | rfl | rfl | rfl | rfl | rfl
  · exact (S.o1.lt g hg).2
  · exact (S.o2.lt g hg).2
  · exact (S.o3.lt g hg).2
  · exact (S.h.lt g hg).2
  · exact (S.l.lt g hg).2
  · exact (S.a.lt g hg).2
  · exact (S.t.lt g hg).2
  · exact (S.q.lt g hg).2
theorem WV.tn2 {P : Nat → Prop} {B : Nat} {y1 y2 y3 vh vl va vt vL : Value} {n1 n2 n3 nL n : Nat} {A1 A2 A3 hc AL ls : List Value} (S : WV B w y1 y2 y3 vh vl va vt vL n1 n2 n3 nL n A1 A2 A3 hc AL ls) (hd : Bd hi [y1, y2, y3, vh, vl, va, vt, vL]) (T : TnS P w w') (hp : ∀ j, B ≤ j → j < hi → ¬ P j) : WV B w' y1 y2 y3 vh vl va vt vL n1 n2 n3 nL n A1 A2 A3 hc AL ls :=
  ⟨T.own S.o1 fun g h => hp g (S.o1.lt g h).1 (hd _ (by simp) g h), T.own S.o2 fun g h => hp g (S.o2.lt g h).1 (hd _ (by simp) g h), T.own S.o3 fun g h => hp g (S.o3.lt g h).1 (hd _ (by simp) g h), T.own S.h fun g h => hp g (S.h.lt g h).1 (hd _ (by simp) g h), T.own S.q fun g h => hp g (S.q.lt g h).1 (hd _ (by simp) g h), T.own S.l fun g h => hp g (S.l.lt g h).1 (hd _ (by simp) g h), T.own S.a fun g h => hp g (S.a.lt g h).1 (hd _ (by simp) g h), T.own S.t fun g h => hp g (S.t.lt g h).1 (hd _ (by simp) g h), S.an⟩
theorem An.below (h : An lo hi w cs ns is ds p I M L k) (hb : Below w.heap.size w w') : An lo hi w' cs ns is ds p I M L k := by
  rcases h with ⟨h1, y1, y2, y3, vh, vl, va, vt, vL, h2, S, hd⟩ | h
  · exact Or.inl ⟨h1, y1, y2, y3, vh, vl, va, vt, vL, h2, S.below hb, hd⟩
  · exact Or.inr h
theorem Mk9.below (h : Mk9 lo hi w cs ns is ds p L k) (hb : Below w.heap.size w w') : Mk9 lo hi w' cs ns is ds p L k := by
  rcases h with ⟨h1, y1, y2, y3, vh, vl, va, vt, vL, h2, S, hd⟩ | h
  · exact Or.inl ⟨h1, y1, y2, y3, vh, vl, va, vt, vL, h2, WV.below S hb, hd⟩
  · exact Or.inr h
theorem An.tn {P : Nat → Prop} (h : An lo hi w cs ns is ds p I M L k) (T : TnS P w w') (hp : ∀ j, lo ≤ j → j < hi → ¬ P j) : An lo hi w' cs ns is ds p I M L k := by
  rcases h with ⟨h1, y1, y2, y3, vh, vl, va, vt, vL, h2, S, hd⟩ | h
  · exact Or.inl ⟨h1, y1, y2, y3, vh, vl, va, vt, vL, h2, S.tn2 hd T hp, hd⟩
  · exact Or.inr h
theorem An.size (h : An lo hi w cs ns is ds p I M L k) : cs.size = 11 := by
  rcases h with ⟨h1, y1, y2, y3, vh, vl, va, vt, vL, h2, S, hd⟩ | ⟨_, h⟩
  · rw [h2]; rfl
  · rw [h]; rfl
theorem An.one (h : An lo hi w cs ns is ds p I M L k) : cs.all (·.oneCell') = true := by
  rcases h with ⟨h1, y1, y2, y3, vh, vl, va, vt, vL, h2, S, hd⟩ | ⟨_, h⟩
  · obtain ⟨_, _, rfl⟩ := own_form S.o1
    obtain ⟨_, _, rfl⟩ := own_form S.o2
    obtain ⟨_, _, rfl⟩ := own_form S.o3
    obtain ⟨_, _, rfl⟩ := own_form S.h
    obtain ⟨_, _, rfl⟩ := own_form S.l
    obtain ⟨_, _, rfl⟩ := own_form S.a
    obtain ⟨_, _, rfl⟩ := own_form S.t
    rw [h2]
    simp [Value.oneCell']
  · rw [h]
    simp [Value.oneCell']
theorem An.form (h : An lo hi w cs ns is ds p I M L k) : ∃ z0 z1 z2 z3 z4 z5 z6 z7 z8 z9 z10, cs = #[z0, z1, z2, z3, z4, z5, z6, z7, z8, z9, z10] := by
  rcases h with ⟨h1, y1, y2, y3, vh, vl, va, vt, vL, h2, S, hd⟩ | ⟨_, h⟩
  · exact ⟨_, _, _, _, _, _, _, _, _, _, _, h2⟩
  · exact ⟨_, _, _, _, _, _, _, _, _, _, _, h⟩
theorem An.eq {lo' hi' : Nat} {cs' : Array Value} (h : An lo hi w cs ns is ds p I M L k) (h' : An lo' hi' w cs' ns is ds p I M L k) (l1 : ns.length ≤ 1048576) (l2 : is.length ≤ 1048576) (l3 : ds.length ≤ 1048576) (l4 : L.length ≤ 1048576) (l5 : p * p ≤ 1048576) (z1 : ∀ x ∈ ns, x.s.size ≤ maxLen) (z2 : ∀ x ∈ is, x.s.size ≤ maxLen) (z3 : ∀ x ∈ ds, x.s.size ≤ maxLen) (z4 : ∀ x ∈ L, x.s.size ≤ maxLen) :
    Calls Tryz.prog 8 #[.agg cs, .agg cs'] w fun e w' => e = .returned (.bool true) ∧ Below w.heap.size w w' := by
  rcases h with ⟨h1, y1, y2, y3, vh, vl, va, vt, vL, rfl, S, hd⟩ | ⟨h1, rfl⟩
  · rcases h' with ⟨_, q1, q2, q3, qh, ql, qa, qt, qL, rfl, S', hd'⟩ | ⟨h2, _⟩
    · exact eqworld_any _ _ _ _ _ _ _ _ _ _ _ _ _ _ _ _ _ _ (wdN ns is ds p I M L) 0 0 w (S.wr l1 l2 l3 l4 l5 z1 z2 z3 z4) (S'.wr l1 l2 l3 l4 l5 z1 z2 z3 z4)
    · rw [h1] at h2; cases h2
  · rcases h' with ⟨h2, _⟩ | ⟨_, rfl⟩
    · rw [h1] at h2; cases h2
    · exact eqworld_any _ _ _ _ _ _ _ _ _ _ _ _ _ _ _ _ _ _ wdZ 0 0 w (wr_zero w) (wr_zero w)
def anK (ns : List Nd) (is : List In) (ds : List Df) (p : Nat) (L : List Nd) (k : Bool) : Int := if k then wvK ns is ds L (p * p) 1 else 1
theorem anK_pos (ns : List Nd) (is : List In) (ds : List Df) (p : Nat) (L : List Nd) (k : Bool) : ¬ anK ns is ds p L k < 0 := by
  unfold anK
  split
  · unfold wvK; omega
  · omega
end
end Go.Proofs.YtbhfooafhbfniaaGreatDoor
/-
  The zero world marked; a new world or the zero one marked and held. No condition.
-/
namespace Go.Proofs.YtbhfooafhbfniaaGreatDoor
open Go.RowKit
set_option maxHeartbeats 1600000 in
theorem markhomes_nil (k : Int) (w : World) : Calls Tryz.prog 37 #[.slice none 0 0, .int .i64 k] w fun e w' => e = .returned (.int .i64 k) ∧ w' = w := by
  go_enter Tryz.func37, Tryz.ntmps37
  go_wp2
  refine wp_loop_rounds 1 ?_
  rw [rounds_succ]
  go_wp2
  go_ret
  exact ⟨rfl, rfl⟩
set_option maxHeartbeats 1600000 in
theorem heldhomes_nil (k : Int) (w : World) : Calls Tryz.prog 43 #[.slice none 0 0, .int .i64 k] w fun e w' => e = .returned (.int .i64 k) ∧ w' = w := by
  go_enter Tryz.func43, Tryz.ntmps43
  go_wp2
  refine wp_loop_rounds 1 ?_
  rw [rounds_succ]
  go_wp2
  go_ret
  exact ⟨rfl, rfl⟩
set_option maxHeartbeats 1600000 in
theorem marklinks_nil (k : Int) (w : World) : Calls Tryz.prog 38 #[.slice none 0 0, .int .i64 k] w fun e w' => e = .returned (.int .i64 k) ∧ w' = w := by
  go_enter Tryz.func38, Tryz.ntmps38
  go_wp2
  refine wp_loop_rounds 1 ?_
  rw [rounds_succ]
  go_wp2
  go_ret
  exact ⟨rfl, rfl⟩
set_option maxHeartbeats 1600000 in
theorem heldlinks_nil (k : Int) (w : World) : Calls Tryz.prog 44 #[.slice none 0 0, .int .i64 k] w fun e w' => e = .returned (.int .i64 k) ∧ w' = w := by
  go_enter Tryz.func44, Tryz.ntmps44
  go_wp2
  refine wp_loop_rounds 1 ?_
  rw [rounds_succ]
  go_wp2
  go_ret
  exact ⟨rfl, rfl⟩
set_option maxHeartbeats 1600000 in
theorem marksss_nil (k : Int) (w : World) : Calls Tryz.prog 41 #[.slice none 0 0, .int .i64 k] w fun e w' => e = .returned (.int .i64 k) ∧ w' = w := by
  go_enter Tryz.func41, Tryz.ntmps41
  go_wp2
  refine wp_loop_rounds 1 ?_
  rw [rounds_succ]
  go_wp2
  go_ret
  exact ⟨rfl, rfl⟩
set_option maxHeartbeats 1600000 in
theorem heldsss_nil (k : Int) (w : World) : Calls Tryz.prog 47 #[.slice none 0 0, .int .i64 k] w fun e w' => e = .returned (.int .i64 k) ∧ w' = w := by
  go_enter Tryz.func47, Tryz.ntmps47
  go_wp2
  refine wp_loop_rounds 1 ?_
  rw [rounds_succ]
  go_wp2
  go_ret
  exact ⟨rfl, rfl⟩
set_option maxRecDepth 100000 in
set_option maxHeartbeats 3200000 in
theorem markworld_zero (w : World) : Calls Tryz.prog 11 #[.agg #[.slice none 0 0, .slice none 0 0, .slice none 0 0, .int .i64 0, .slice none 0 0, .slice none 0 0, .slice none 0 0, .slice none 0 0, .int .i64 0, .slice none 0 0, .slice none 0 0], .int .i64 1] w fun e w' => e = .returned (.int .i64 1) ∧ Below w.heap.size w w' := by
  have hx0 : (w.alloc (Obj.cells #[.slice none 0 0, .slice none 0 0, .slice none 0 0, .int .i64 0, .slice none 0 0, .slice none 0 0, .slice none 0 0, .slice none 0 0, .int .i64 0, .slice none 0 0, .slice none 0 0] 43)).heap[w.heap.size]? = some (Obj.cells #[.slice none 0 0, .slice none 0 0, .slice none 0 0, .int .i64 0, .slice none 0 0, .slice none 0 0, .slice none 0 0, .slice none 0 0, .int .i64 0, .slice none 0 0, .slice none 0 0] 43) := heap_alloc_new _ _
  have hb0 : Below w.heap.size w (w.alloc (Obj.cells #[.slice none 0 0, .slice none 0 0, .slice none 0 0, .int .i64 0, .slice none 0 0, .slice none 0 0, .slice none 0 0, .slice none 0 0, .int .i64 0, .slice none 0 0, .slice none 0 0] 43)) := (Below.refl _ _).alloc (Nat.le_refl _) _
  have HC : ∀ w0 : World, Calls Tryz.prog 10 #[.agg #[.slice none 0 0, .slice none 0 0, .slice none 0 0], .int .i64 1] w0 fun e w' => e = .returned (.int .i64 1) ∧ Below w0.heap.size w0 w' := fun w0 => (markcode_x _ _ _ 1 0 [] [] [] w0 (own_nil0 _ _ _ _) (own_nil0 _ _ _ _) (own_nil0 _ _ _ _) (by simp) (by simp) (by simp) (by omega) (by omega)).mono fun e w' ⟨h1, _, _, _, T⟩ => ⟨h1.trans (by simp), T.bel (Below.refl _ _) (Nat.le_refl _) (by rintro j (h | h | h) <;> cases h)⟩
  go_enter Tryz.func11, Tryz.ntmps11
  go_wp2_with (refine wpList_load_sub rfl 36 _ rfl w.heap.size 0 rfl _ 43 #[.slice none 0 0, .slice none 0 0, .slice none 0 0] _ hx0 rfl Tryz.underlying36 rfl Tryz.sizeCode ?_)
  refine (HC _).mono ?_
  rintro e wa ⟨rfl, hba⟩
  have hxa := blk_bel hx0 hba
  have hBa := hb0.trans (hba.mono hb0.size)
  clear hb0 hx0 hba HC
  have q4 : wa.cell? ⟨w.heap.size, 0 + 4, none⟩ = some (.slice none 0 0) := cell_of_row wa _ 4 _ _ _ hxa
  have q5 : wa.cell? ⟨w.heap.size, 0 + 5, none⟩ = some (.slice none 0 0) := cell_of_row wa _ 5 _ _ _ hxa
  have q6 : wa.cell? ⟨w.heap.size, 0 + 6, none⟩ = some (.slice none 0 0) := cell_of_row wa _ 6 _ _ _ hxa
  have q7 : wa.cell? ⟨w.heap.size, 0 + 7, none⟩ = some (.slice none 0 0) := cell_of_row wa _ 7 _ _ _ hxa
  have q9 : wa.cell? ⟨w.heap.size, 0 + 9, none⟩ = some (.slice none 0 0) := cell_of_row wa _ 9 _ _ _ hxa
  have q10 : wa.cell? ⟨w.heap.size, 0 + 10, none⟩ = some (.slice none 0 0) := cell_of_row wa _ 10 _ _ _ hxa
  go_wp2_with fail
  refine (markhomes_nil _ _).mono ?_
  rintro e _ ⟨rfl, rfl⟩
  go_wp2_with fail
  refine (marklinks_nil _ _).mono ?_
  rintro e _ ⟨rfl, rfl⟩
  go_wp2_with fail
  refine (markgrams_nil _ _).mono ?_
  rintro e _ ⟨rfl, rfl⟩
  go_wp2_with fail
  refine (markparkeds_nil _ _).mono ?_
  rintro e _ ⟨rfl, rfl⟩
  go_wp2_with fail
  refine (marksss_nil _ _).mono ?_
  rintro e _ ⟨rfl, rfl⟩
  go_wp2_with fail
  refine (marksss_nil _ _).mono ?_
  rintro e _ ⟨rfl, rfl⟩
  go_wp2
  go_ret
  exact ⟨rfl, hBa⟩
set_option maxRecDepth 100000 in
set_option maxHeartbeats 3200000 in
theorem heldworld_zero (w : World) : Calls Tryz.prog 12 #[.agg #[.slice none 0 0, .slice none 0 0, .slice none 0 0, .int .i64 0, .slice none 0 0, .slice none 0 0, .slice none 0 0, .slice none 0 0, .int .i64 0, .slice none 0 0, .slice none 0 0], .int .i64 1] w fun e w' => e = .returned (.int .i64 1) ∧ Below w.heap.size w w' := by
  have hx0 : (w.alloc (Obj.cells #[.slice none 0 0, .slice none 0 0, .slice none 0 0, .int .i64 0, .slice none 0 0, .slice none 0 0, .slice none 0 0, .slice none 0 0, .int .i64 0, .slice none 0 0, .slice none 0 0] 43)).heap[w.heap.size]? = some (Obj.cells #[.slice none 0 0, .slice none 0 0, .slice none 0 0, .int .i64 0, .slice none 0 0, .slice none 0 0, .slice none 0 0, .slice none 0 0, .int .i64 0, .slice none 0 0, .slice none 0 0] 43) := heap_alloc_new _ _
  have hb0 : Below w.heap.size w (w.alloc (Obj.cells #[.slice none 0 0, .slice none 0 0, .slice none 0 0, .int .i64 0, .slice none 0 0, .slice none 0 0, .slice none 0 0, .slice none 0 0, .int .i64 0, .slice none 0 0, .slice none 0 0] 43)) := (Below.refl _ _).alloc (Nat.le_refl _) _
  have HC : ∀ w0 : World, Calls Tryz.prog 42 #[.agg #[.slice none 0 0, .slice none 0 0, .slice none 0 0], .int .i64 1] w0 fun e w' => e = .returned (.int .i64 1) ∧ Below w0.heap.size w0 w' := fun w0 => (heldcode_x _ _ _ 1 0 [] [] [] w0 (own_nil0 _ _ _ _) (own_nil0 _ _ _ _) (own_nil0 _ _ _ _) (by simp) (by simp) (by simp) (by omega) (by omega)).mono fun e w' ⟨h1, h2⟩ => ⟨h1.trans (by simp), h2⟩
  go_enter Tryz.func12, Tryz.ntmps12
  go_wp2_with (refine wpList_load_sub rfl 36 _ rfl w.heap.size 0 rfl _ 43 #[.slice none 0 0, .slice none 0 0, .slice none 0 0] _ hx0 rfl Tryz.underlying36 rfl Tryz.sizeCode ?_)
  refine (HC _).mono ?_
  rintro e wa ⟨rfl, hba⟩
  have hxa := blk_bel hx0 hba
  have hBa := hb0.trans (hba.mono hb0.size)
  clear hb0 hx0 hba HC
  have q4 : wa.cell? ⟨w.heap.size, 0 + 4, none⟩ = some (.slice none 0 0) := cell_of_row wa _ 4 _ _ _ hxa
  have q5 : wa.cell? ⟨w.heap.size, 0 + 5, none⟩ = some (.slice none 0 0) := cell_of_row wa _ 5 _ _ _ hxa
  have q6 : wa.cell? ⟨w.heap.size, 0 + 6, none⟩ = some (.slice none 0 0) := cell_of_row wa _ 6 _ _ _ hxa
  have q7 : wa.cell? ⟨w.heap.size, 0 + 7, none⟩ = some (.slice none 0 0) := cell_of_row wa _ 7 _ _ _ hxa
  have q9 : wa.cell? ⟨w.heap.size, 0 + 9, none⟩ = some (.slice none 0 0) := cell_of_row wa _ 9 _ _ _ hxa
  have q10 : wa.cell? ⟨w.heap.size, 0 + 10, none⟩ = some (.slice none 0 0) := cell_of_row wa _ 10 _ _ _ hxa
  go_wp2_with fail
  refine (heldhomes_nil _ _).mono ?_
  rintro e _ ⟨rfl, rfl⟩
  go_wp2_with fail
  refine (heldlinks_nil _ _).mono ?_
  rintro e _ ⟨rfl, rfl⟩
  go_wp2_with fail
  refine (heldgrams_nil _ _).mono ?_
  rintro e _ ⟨rfl, rfl⟩
  go_wp2_with fail
  refine (heldparkeds_nil _ _).mono ?_
  rintro e _ ⟨rfl, rfl⟩
  go_wp2_with fail
  refine (heldsss_nil _ _).mono ?_
  rintro e _ ⟨rfl, rfl⟩
  go_wp2_with fail
  refine (heldsss_nil _ _).mono ?_
  rintro e _ ⟨rfl, rfl⟩
  go_wp2
  go_ret
  exact ⟨rfl, hBa⟩
section
variable {lo hi : Nat} {w w' : World} {cs : Array Value} {ns : List Nd} {is : List In} {ds : List Df} {p : Nat} {I : Int} {M : Mc} {L : List Nd} {k : Bool}
theorem An.mark (h : An lo hi w cs ns is ds p I M L k) (l1 : ns.length ≤ 4194304) (l2 : is.length ≤ 4194304) (l3 : ds.length ≤ 4194304) (l4 : L.length ≤ 4194304) (l5 : p * p ≤ 4194304) :
    Calls Tryz.prog 11 #[.agg cs, .int .i64 1] w fun e w' => e = .returned (.int .i64 (anK ns is ds p L k)) ∧ Mk9 lo hi w' cs ns is ds p L k ∧ TnS (fun j => lo ≤ j ∧ j < hi) w w' := by
  rcases h with ⟨rfl, y1, y2, y3, vh, vl, va, vt, vL, rfl, S, hd⟩ | ⟨rfl, rfl⟩
  · refine (markworld_x (p : Int) 1 lo _ _ _ _ _ _ _ _ _ _ _ _ _ _ _ _ vL ns is ds L (p * p) w S l1 l2 l3 l4 l5 (by omega) (by omega)).mono fun e w' ⟨h1, h2, T⟩ => ⟨h1, Or.inl ⟨rfl, _, _, _, _, _, _, _, _, rfl, h2, hd⟩, T.mono fun j hj => ⟨S.low j hj, ?_⟩⟩
    rcases hj with h | h | h | h | h | h
    · exact hd y1 (by simp) j h
    · exact hd y2 (by simp) j h
    · exact hd y3 (by simp) j h
    · exact hd vh (by simp) j h
    · exact hd vL (by simp) j h
    · exact hd vl (by simp) j h
  · exact (markworld_zero w).mono fun e w' ⟨h1, h2⟩ => ⟨h1, Or.inr ⟨rfl, rfl⟩, TnS.of_below _ h2⟩
theorem Mk9.held (h : Mk9 lo hi w cs ns is ds p L k) (l1 : ns.length ≤ 4194304) (l2 : is.length ≤ 4194304) (l3 : ds.length ≤ 4194304) (l4 : L.length ≤ 4194304) (l5 : p * p ≤ 4194304) :
    Calls Tryz.prog 12 #[.agg cs, .int .i64 1] w fun e w' => e = .returned (.int .i64 (anK ns is ds p L k)) ∧ Below w.heap.size w w' := by
  rcases h with ⟨rfl, y1, y2, y3, vh, vl, va, vt, vL, rfl, S, hd⟩ | ⟨rfl, rfl⟩
  · exact heldworld_x (p : Int) 1 lo y1 y2 y3 vh vl va vt vL ns is ds L (p * p) w S l1 l2 l3 l4 l5 (by omega) (by omega)
  · exact heldworld_zero w
end
end Go.Proofs.YtbhfooafhbfniaaGreatDoor
/-
  The region of impl.WorldNew that stores its two results as they are: nothing changes. No condition.
-/
namespace Go.Proofs.YtbhfooafhbfniaaGreatDoor
open Go.RowKit
theorem set_same {w : World} {b : Nat} (v : Value) {t : TypeId} (h : w.heap[b]? = some (.cells #[v] t (0, 0))) : w.setCell ⟨b, 0, none⟩ v = w := by
  have e : (w.setCell ⟨b, 0, none⟩ v).heap = w.heap := by
    apply Array.ext_getElem?
    intro i
    by_cases hi : i = b
    · subst hi
      rw [heap_setCell_same w i 0 _ _ v h, h]
      rfl
    · exact heap_setCell_other w ⟨b, 0, none⟩ i v hi
  have : ∀ {x y : World}, x.heap = y.heap → x.tape = y.tape → x.drawn = y.drawn → x.os = y.os → x.output = y.output → x = y := by
    intro x y h1 h2 h3 h4 h5
    cases x; cases y; simp_all
  exact this e rfl rfl rfl rfl
set_option maxRecDepth 100000 in
set_option maxHeartbeats 6400000 in
theorem wn_r7 {t0 t1 t2 t3 t6 t7 t8 t9 t10 t11 t12 t13 t14 t15 t16 t17 t18 t19 t20 t21 t22 t23 t24 t25 t26 t27 t28 : Value} {fs : List Deferred} (b : Nat) (c0 c1 c2 c3 c4 c5 c6 c7 c8 c9 c10 : Value) (ok : Bool) (w : World) (Q : Exit → Act → World → Prop)
    (hc : (#[c0, c1, c2, c3, c4, c5, c6, c7, c8, c9, c10] : Array Value).all (·.oneCell') = true) (h0 : w.heap[b]? = some (.cells #[c0, c1, c2, c3, c4, c5, c6, c7, c8, c9, c10] 43 (0, 0))) (h1 : w.heap[b + 1]? = some (.cells #[.bool ok] 4 (0, 0)))
    (hQ : ∀ u27 u28 (W : World), (∀ j : Nat, W.heap[j]? = w.heap[j]?) → Below b w W → Q .normal ⟨#[t0, t1, t2, t3, .pointer (some ⟨b, 0, none⟩), .pointer (some ⟨b + 1, 0, none⟩), t6, t7, t8, t9, t10, t11, t12, t13, t14, t15, t16, t17, t18, t19, t20, t21, t22, t23, t24, t25, t26, u27, u28], fs⟩ W) :
    (Code.region 7 (List.toArray (⟨some 27, .load 43 (.tmp 4), 43, "l13_world.go:105", #[], none⟩ :: ⟨some 28, .load 4 (.tmp 5), 4, "l13_world.go:105", #[], none⟩ :: ⟨none, .store 43 (.tmp 4) (.tmp 27), 0, "l13_world.go:105", #[⟨0, .data⟩, ⟨0, .phase⟩, { on := 1, ground := Ground.textOnly Departure.lateStoresUnsure }], none⟩ :: ⟨none, .store 4 (.tmp 5) (.tmp 28), 0, "l13_world.go:105", #[⟨1, .data⟩, ⟨2, .chain⟩, ⟨0, .phase⟩, ⟨1, .phase⟩, ⟨2, .phase⟩], none⟩ :: [])) true).wp Tryz.prog Q ⟨#[t0, t1, t2, t3, .pointer (some ⟨b, 0, none⟩), .pointer (some ⟨b + 1, 0, none⟩), t6, t7, t8, t9, t10, t11, t12, t13, t14, t15, t16, t17, t18, t19, t20, t21, t22, t23, t24, t25, t26, t27, t28], fs⟩ w := by
  have LB : b ≤ w.heap.size := Nat.le_of_lt (blk_lt h0)
  have B : Below b w w.drew := (drew_bel w).mono LB
  have E : ∀ j : Nat, w.drew.heap[j]? = w.heap[j]? := fun _ => rfl
  have X0 := (E b).trans h0
  have X1 := (E (b + 1)).trans h1
  refine wp_region_noPanic ?_
  refine wp_region_held_drew (S := fun w' => w'.heap[b]? = some (.cells #[c0, c1, c2, c3, c4, c5, c6, c7, c8, c9, c10] 43 (0, 0)) ∧ w'.heap[b + 1]? = some (.cells #[.bool ok] 4 (0, 0))) (by kernel_rfl) ⟨X0, X1⟩ (fun hHeld => ?_)
  refine wpAnyH_take (i := 0) (oi := ⟨some 27, .load 43 (.tmp 4), 43, "l13_world.go:105", #[], none⟩) (v := .agg #[c0, c1, c2, c3, c4, c5, c6, c7, c8, c9, c10]) rfl (by kernel_rfl) (by kernel_rfl) (by kernel_rfl) (fun _ _ _ h => h) (yields_row (by rfl) 43 _ rfl b rfl #[c0, c1, c2, c3, c4, c5, c6, c7, c8, c9, c10] 43 _ (fun _ h => h.1) Tryz.underlying43 rfl Tryz.sizeWd) (by assumption) ?_
  simp only [Act.put, List.setIfInBounds_toArray, List.set_cons_zero, List.set_cons_succ]
  refine wpAnyH_take (i := 1) (oi := ⟨some 28, .load 4 (.tmp 5), 4, "l13_world.go:105", #[], none⟩) (v := .bool ok) rfl (by kernel_rfl) (by kernel_rfl) (by kernel_rfl) (fun _ _ _ h => h) (Or.inl ⟨by rfl, by intro w' hSw; have c := cell_of_row w' (b + 1) 0 _ _ _ hSw.2; go_simp⟩) (by assumption) ?_
  simp only [Act.put, List.setIfInBounds_toArray, List.set_cons_zero, List.set_cons_succ]
  refine wpAnyH_ready (rs := [2]) (by kernel_rfl) (by simp) ?_
  refine AllReadyH.cons rfl (fun K hK => ?_) AllReadyH.nil
  rw [if_pos (by rfl)]
  refine wp_store_row 43 _ _ rfl b #[c0, c1, c2, c3, c4, c5, c6, c7, c8, c9, c10] rfl rfl 43 #[c0, c1, c2, c3, c4, c5, c6, c7, c8, c9, c10] X0 Tryz.sizeWd rfl hc ?_
  have hv := setRow_heap _ b _ #[c0, c1, c2, c3, c4, c5, c6, c7, c8, c9, c10] _ _ X0
  have hoth := fun k hk => setRow_other w.drew b k #[c0, c1, c2, c3, c4, c5, c6, c7, c8, c9, c10] hk
  have hb : Below b w.drew (w.drew.setRow b #[c0, c1, c2, c3, c4, c5, c6, c7, c8, c9, c10]) := below_setRow (Below.refl _ _) (Nat.le_refl _) _
  generalize w.drew.setRow b #[c0, c1, c2, c3, c4, c5, c6, c7, c8, c9, c10] = w2 at *
  have E2 : ∀ j : Nat, w2.heap[j]? = w.heap[j]? := fun j => if hj : j = b then by subst hj; exact hv.trans h0.symm else (hoth j hj).trans (E j)
  have B2 : Below b w w2 := B.trans hb
  have X0' := (E2 b).trans h0
  have X1' := (E2 (b + 1)).trans h1
  clear X0 X1 E B hv hb hoth
  refine hK.out _ _ ⟨X0', X1'⟩ (fun hHeld => ?_)
  clear hK
  try simp only [Act.put]
  refine wpAnyH_ready (rs := [3]) (by kernel_rfl) (by simp) ?_
  refine AllReadyH.cons rfl (fun K hK => ?_) AllReadyH.nil
  have kc := cell_of_row _ (b + 1) 0 _ _ _ X1'
  have kf := frozen_of_row _ (b + 1) 0 _ _ X1'
  have ke := set_same (.bool ok) X1'
  go_simp
  go_wp2_with fail
  try rw [ke]
  clear kc kf ke
  refine hK.out _ _ ⟨X0', X1'⟩ (fun hHeld => ?_)
  clear hK
  try simp only [Act.put]
  refine wpAnyH_done (by kernel_rfl) ?_ _
  exact NoPanic.normal (hQ _ _ _ E2 B2)
end Go.Proofs.YtbhfooafhbfniaaGreatDoor
