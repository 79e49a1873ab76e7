/-
  Texts that stood by themselves, laid into one.
-/
import Derived.Test.YtbhfooafhbfniaaGreatDoorWnCM
import Derived.Test.YtbhfooafhbfniaaGreatDoorPrRegM
import Derived.Test.YtbhfooafhbfniaaGreatDoorShapeM
import Derived.Test.YtbhfooafhbfniaaGreatDoorPrToM
/-
  Contract of impl's (Code).copied. No condition.
-/
namespace Go.Proofs.YtbhfooafhbfniaaGreatDoor
open Go.RowKit
theorem nrow_nil (w : World) : NRow w (.slice none 0 0) [] := NRow.of_own (base := 0) ⟨rfl, Or.inl ⟨rfl, rfl⟩⟩ (by simp) (by simp)
theorem own_ge9 {w : World} {B k n g : Nat} {e : TypeId} {v : Value} {l : List Value} (h : w.ownsRow B e k v n l) (hg : v.ownBlock = some g) : B ≤ g := by
  rcases h.2 with ⟨rfl, _⟩ | ⟨g', cap, cur, rfl, hB, hgg, _⟩
  · cases hg
  · simp only [Value.ownBlock, Option.some.injEq] at hg
    subst hg
    exact hB
set_option maxRecDepth 100000 in
set_option maxHeartbeats 6400000 in
theorem ccp_r1 {t0 t3 t4 t5 t6 t7 t8 t9 t10 t11 t12 : Value} {fs : List Deferred} (b q : Nat) (a1 a2 a3 : Option Addr) (c1 c2 c3 : Nat) (ns : List Nd) (is : List In) (ds : List Df) (w : World) (Q : Exit → Act → World → Prop)
    (hx : w.heap[b]? = some (.cells #[.slice a1 ns.length c1, .slice a2 is.length c2, .slice a3 ds.length c3] 36 (0, 0))) (hq : w.heap[q]? = some (.cells #[.slice none 0 0, .slice none 0 0, .slice none 0 0] 36 (0, 0))) (hbq : b ≠ q) (R1 : NRow w (.slice a1 ns.length c1) ns) (R2 : InRow w (.slice a2 is.length c2) is) (R3 : DfRow w (.slice a3 ds.length c3) ds) (h1 : ns.length ≤ 1048576) (h2 : is.length ≤ 1048576) (h3 : ds.length ≤ 1048576)
    (hQ : ∀ u3 u4 u5 u6 u7 u8 u9 u10 u11 u12 (y1 y2 y3 : Value) (W : World), W.heap[q]? = some (.cells #[y1, y2, y3] 36 (0, 0)) → W.ownsRow w.heap.size 130 5 y1 ns.length (ncs ns) → W.ownsRow w.heap.size 99 4 y2 is.length (incs is) → W.ownsRow w.heap.size 101 3 y3 ds.length (dfcs ds) → Below q w W → Q .normal ⟨#[t0, .pointer (some ⟨b, 0, none⟩), .pointer (some ⟨q, 0, none⟩), u3, u4, u5, u6, u7, u8, u9, u10, u11, u12], fs⟩ W) :
    (Code.region 1 (List.toArray (⟨some 3, .fieldAddr 36 (.tmp 1) 0, 0, "l13_world.go:141", #[], none⟩ :: ⟨some 4, .load 32 (.tmp 3), 32, "l13_world.go:141", #[⟨0, .data⟩], none⟩ :: ⟨some 5, .call { callee := .value (.func 84), args := #[.tmp 4, .const (.slice none 0 0)], argTypes := #[32, 30] }, 32, "l13_world.go:141", #[⟨1, .data⟩], none⟩ :: ⟨some 6, .fieldAddr 36 (.tmp 1) 1, 0, "l13_world.go:141", #[], none⟩ :: ⟨some 7, .load 33 (.tmp 6), 33, "l13_world.go:141", #[⟨3, .data⟩], none⟩ :: ⟨some 8, .call { callee := .value (.func 85), args := #[.tmp 7], argTypes := #[33] }, 33, "l13_world.go:141", #[⟨4, .data⟩, ⟨2, .chain⟩], none⟩ :: ⟨some 9, .fieldAddr 36 (.tmp 1) 2, 0, "l13_world.go:141", #[], none⟩ :: ⟨some 10, .load 34 (.tmp 9), 34, "l13_world.go:141", #[⟨6, .data⟩], none⟩ :: ⟨some 11, .call { callee := .value (.func 86), args := #[.tmp 10], argTypes := #[34] }, 34, "l13_world.go:141", #[⟨7, .data⟩, ⟨5, .chain⟩], none⟩ :: ⟨some 12, .build 36 #[(0, .tmp 5), (1, .tmp 8), (2, .tmp 11)], 36, "l13_world.go:141", #[⟨2, .data⟩, ⟨5, .data⟩, ⟨8, .data⟩], none⟩ :: ⟨none, .store 36 (.tmp 2) (.tmp 12), 0, "l13_world.go:141", #[⟨9, .data⟩, ⟨8, .chain⟩, ⟨0, .phase⟩, ⟨1, .phase⟩, ⟨2, .phase⟩, ⟨3, .phase⟩, ⟨4, .phase⟩, ⟨5, .phase⟩, ⟨6, .phase⟩, ⟨7, .phase⟩, ⟨8, .phase⟩, ⟨9, .phase⟩], none⟩ :: [])) true).wp Tryz.prog Q ⟨#[t0, .pointer (some ⟨b, 0, none⟩), .pointer (some ⟨q, 0, none⟩), t3, t4, t5, t6, t7, t8, t9, t10, t11, t12], fs⟩ w := by
  have hS : ∀ w', Below w.heap.size w w' → (w'.heap[b]? = some (.cells #[.slice a1 ns.length c1, .slice a2 is.length c2, .slice a3 ds.length c3] 36 (0, 0)) ∧ True) := fun w' hb => ⟨blk_bel hx hb, trivial⟩
  have B : Below w.heap.size w w.drew := drew_bel w
  refine wp_region_noPanic ?_
  refine wp_region_held_drew (S := fun w' => w'.heap[b]? = some (.cells #[.slice a1 ns.length c1, .slice a2 is.length c2, .slice a3 ds.length c3] 36 (0, 0)) ∧ True) (by kernel_rfl) (hS _ B) (fun hHeld => ?_)
  refine wpAnyH_take (i := 0) (oi := ⟨some 3, .fieldAddr 36 (.tmp 1) 0, 0, "l13_world.go:141", #[], none⟩) (v := .pointer (some ⟨b, 0, none⟩)) rfl (by kernel_rfl) (by kernel_rfl) (by kernel_rfl) (fun _ _ _ h => h) (Or.inl ⟨by rfl, by intro w hSw; go_simp⟩) (by assumption) ?_
  simp only [Act.put, List.setIfInBounds_toArray, List.set_cons_zero, List.set_cons_succ]
  refine wpAnyH_take (i := 1) (oi := ⟨some 4, .load 32 (.tmp 3), 32, "l13_world.go:141", #[⟨0, .data⟩], none⟩) (v := .agg #[.slice a1 ns.length c1]) rfl (by kernel_rfl) (by kernel_rfl) (by kernel_rfl) (fun _ _ _ h => h) (yieldsIf_load_mid (by rfl) 32 _ rfl b 0 rfl [.slice a1 ns.length c1] _ (fun _ h => World.rangeAt_of_block h.1 0 1) Tryz.underlying32 rfl (by kernel_rfl)) (by assumption) ?_
  simp only [Act.put, List.setIfInBounds_toArray, List.set_cons_zero, List.set_cons_succ]
  refine wpAnyH_take (i := 3) (oi := ⟨some 6, .fieldAddr 36 (.tmp 1) 1, 0, "l13_world.go:141", #[], none⟩) (v := .pointer (some ⟨b, 1, none⟩)) rfl (by kernel_rfl) (by kernel_rfl) (by kernel_rfl) (fun _ _ _ h => h) (Or.inl ⟨by rfl, by intro w hSw; go_simp⟩) (by assumption) ?_
  simp only [Act.put, List.setIfInBounds_toArray, List.set_cons_zero, List.set_cons_succ]
  refine wpAnyH_take (i := 4) (oi := ⟨some 7, .load 33 (.tmp 6), 33, "l13_world.go:141", #[⟨3, .data⟩], none⟩) (v := .slice a2 is.length c2) rfl (by kernel_rfl) (by kernel_rfl) (by kernel_rfl) (fun _ _ _ h => h) (Or.inl ⟨by rfl, by intro w' hSw; have c := cell_of_row w' (b) 1 _ _ _ hSw.1; go_simp⟩) (by assumption) ?_
  simp only [Act.put, List.setIfInBounds_toArray, List.set_cons_zero, List.set_cons_succ]
  refine wpAnyH_take (i := 6) (oi := ⟨some 9, .fieldAddr 36 (.tmp 1) 2, 0, "l13_world.go:141", #[], none⟩) (v := .pointer (some ⟨b, 2, none⟩)) rfl (by kernel_rfl) (by kernel_rfl) (by kernel_rfl) (fun _ _ _ h => h) (Or.inl ⟨by rfl, by intro w hSw; go_simp⟩) (by assumption) ?_
  simp only [Act.put, List.setIfInBounds_toArray, List.set_cons_zero, List.set_cons_succ]
  refine wpAnyH_take (i := 7) (oi := ⟨some 10, .load 34 (.tmp 9), 34, "l13_world.go:141", #[⟨6, .data⟩], none⟩) (v := .slice a3 ds.length c3) rfl (by kernel_rfl) (by kernel_rfl) (by kernel_rfl) (fun _ _ _ h => h) (Or.inl ⟨by rfl, by intro w' hSw; have c := cell_of_row w' (b) 2 _ _ _ hSw.1; go_simp⟩) (by assumption) ?_
  simp only [Act.put, List.setIfInBounds_toArray, List.set_cons_zero, List.set_cons_succ]
  refine wpAnyH_ready (rs := [2]) (by kernel_rfl) (by simp) ?_
  refine AllReadyH.cons rfl (fun K hK => ?_) AllReadyH.nil
  have hlo := B.size
  go_simp
  go_wp2_with fail
  refine (with_any _ _ ns [] _ (R1.below B) (nrow_nil _) (by simp; omega)).mono ?_
  rintro e wA ⟨y1, rfl, O1, hb⟩
  replace B := B.trans (hb.mono B.size)
  replace O1 := own_mono O1 hlo
  simp only [List.append_nil] at O1
  obtain ⟨d1, e1, rfl⟩ := own_form O1
  clear hb hlo
  refine hK.out _ _ (hS _ B) (fun hHeld => ?_)
  clear hK
  refine wpAnyH_ready (rs := [5]) (by kernel_rfl) (by simp) ?_
  refine AllReadyH.cons rfl (fun K hK => ?_) AllReadyH.nil
  have hlo := B.size
  go_simp
  go_wp2_with fail
  refine (inclone_any _ is _ (R2.below B) h2).mono ?_
  rintro e wB ⟨y2, rfl, O2, hb⟩
  replace O1 := own_below O1 hb
  replace B := B.trans (hb.mono B.size)
  replace O2 := own_mono O2 hlo
  obtain ⟨d2, e2, rfl⟩ := own_form O2
  clear hb hlo
  refine hK.out _ _ (hS _ B) (fun hHeld => ?_)
  clear hK
  refine wpAnyH_ready (rs := [8]) (by kernel_rfl) (by simp) ?_
  refine AllReadyH.cons rfl (fun K hK => ?_) AllReadyH.nil
  have hlo := B.size
  go_simp
  go_wp2_with fail
  refine (dfclone_any _ ds _ (R3.below B) h3).mono ?_
  rintro e wC ⟨y3, rfl, O3, hb⟩
  replace O1 := own_below O1 hb
  replace O2 := own_below O2 hb
  replace B := B.trans (hb.mono B.size)
  replace O3 := own_mono O3 hlo
  obtain ⟨d3, e3, rfl⟩ := own_form O3
  clear hb hlo
  refine hK.out _ _ (hS _ B) (fun hHeld => ?_)
  clear hK
  refine wpAnyH_take (i := 9) (oi := ⟨some 12, .build 36 #[(0, .tmp 5), (1, .tmp 8), (2, .tmp 11)], 36, "l13_world.go:141", #[⟨2, .data⟩, ⟨5, .data⟩, ⟨8, .data⟩], none⟩) (v := .agg #[.slice d1 ns.length e1, .slice d2 is.length e2, .slice d3 ds.length e3]) rfl (by kernel_rfl) (by kernel_rfl) (by kernel_rfl) (fun _ _ _ h => h) (Or.inl ⟨by rfl, by intro w hSw; go_simp⟩) (by assumption) ?_
  simp only [Act.put, List.setIfInBounds_toArray, List.set_cons_zero, List.set_cons_succ]
  refine wpAnyH_ready (rs := [10]) (by kernel_rfl) (by simp) ?_
  refine AllReadyH.cons rfl (fun K hK => ?_) AllReadyH.nil
  rw [if_pos (by rfl)]
  refine wp_store_row 36 _ _ rfl q #[.slice d1 ns.length e1, .slice d2 is.length e2, .slice d3 ds.length e3] rfl rfl 36 #[.slice none 0 0, .slice none 0 0, .slice none 0 0] (blk_bel hq B) Tryz.sizeCode8 rfl (by simp [Value.oneCell']) ?_
  have hoth := fun j (hj : j ≠ q) => setRow_other wC q j #[.slice d1 ns.length e1, .slice d2 is.length e2, .slice d3 ds.length e3] hj
  have B2 := below_setRow (B.mono (Nat.le_of_lt (blk_lt hq))) (g := q) (Nat.le_refl _) #[.slice d1 ns.length e1, .slice d2 is.length e2, .slice d3 ds.length e3]
  have X := setRow_heap _ _ _ #[.slice d1 ns.length e1, .slice d2 is.length e2, .slice d3 ds.length e3] _ _ (blk_bel hq B)
  refine hK.out _ _ ⟨(hoth b hbq).trans (blk_bel hx B), trivial⟩ (fun hHeld => ?_)
  clear hK
  refine wpAnyH_done (by kernel_rfl) ?_ _
  exact NoPanic.normal (hQ _ _ _ _ _ _ _ _ _ _ _ _ _ _ X (own_other O1 (fun e => by have := own_ge9 O1 e; have := blk_lt hq; omega) hoth) (own_other O2 (fun e => by have := own_ge9 O2 e; have := blk_lt hq; omega) hoth) (own_other O3 (fun e => by have := own_ge9 O3 e; have := blk_lt hq; omega) hoth) B2)
set_option maxRecDepth 100000 in
set_option maxHeartbeats 1600000 in
theorem icodecopied_any (v1 v2 v3 : Value) (ns : List Nd) (is : List In) (ds : List Df) (w : World) (R1 : NRow w v1 ns) (R2 : InRow w v2 is) (R3 : DfRow w v3 ds) (h1 : ns.length ≤ 1048576) (h2 : is.length ≤ 1048576) (h3 : ds.length ≤ 1048576) :
    Calls Tryz.prog 57 #[.agg #[v1, v2, v3]] w fun e w' => ∃ y1 y2 y3, e = .returned (.agg #[y1, y2, y3]) ∧ w'.ownsRow w.heap.size 130 5 y1 ns.length (ncs ns) ∧ w'.ownsRow w.heap.size 99 4 y2 is.length (incs is) ∧ w'.ownsRow w.heap.size 101 3 y3 ds.length (dfcs ds) ∧ Below w.heap.size w w' := by
  obtain ⟨a1, c1, rfl⟩ := R1.small8
  obtain ⟨a2, c2, rfl⟩ := R2.small
  obtain ⟨a3, c3, rfl⟩ := R3.small
  obtain ⟨hB, hx, hy⟩ := two_boxes w (Obj.cells #[.slice a1 ns.length c1, .slice a2 is.length c2, .slice a3 ds.length c3] 36) (Obj.cells #[.slice none 0 0, .slice none 0 0, .slice none 0 0] 36)
  go_enter Tryz.func57, Tryz.ntmps57
  go_wp2_with fail
  refine ccp_r1 w.heap.size (w.heap.size + 1) _ _ _ _ _ _ ns is ds _ _ hx hy (by omega) (R1.below hB) (R2.below hB) (R3.below hB) h1 h2 h3 ?_
  intro u3 u4 u5 u6 u7 u8 u9 u10 u11 u12 y1 y2 y3 W hX O1 O2 O3 hW
  have hs := hB.size
  have hBW := hB.trans (hW.mono (by omega))
  go_wp2
  exact bodyPost_ret (results_cell_row rfl _ _ (w.heap.size + 1) 36 _ (0, 0) _ rfl hX Tryz.underlying36 rfl Tryz.sizeCode8) rfl ⟨y1, y2, y3, rfl, own_mono O1 hs, own_mono O2 hs, own_mono O3 hs, hBW⟩
end Go.Proofs.YtbhfooafhbfniaaGreatDoor
/-
  'append' onto an empty slice that was just made, of an element of any size: nothing that was is turned. Nothing of the program; no condition.
-/
namespace Go.Proofs.YtbhfooafhbfniaaGreatDoor
open Go.RowKit
theorem run_append_emptyN {P : Program} (w : World) (t ty e : TypeId) (i : TypeInfo) (z : Value) (size bytes : Nat) (ht : P.underlying t = some (.slice e)) (hi : P.info? e = some i) (hz : i.zero = some z)
    (hsize : i.size = size) (hby : i.bytes = bytes) (hzs : z.cells.size = size) (g : Nat) (hg : w.heap[g]? = some (.cells #[] e (0, 0)))
    (ao : Option Addr) (m c : Nat) (news : List Value) (hl : news.length = m * size) (hnone : ao = none → m = 0 ∧ c = 0) (hnews : ∀ ad, ao = some ad → ∀ j u, news[j]? = some u → w.cell? (ad.add j) = some u) (h1 : ∀ u ∈ news, u.oneCell' = true)
    (h63 : m ≤ maxLen) (hbytes : m * bytes ≤ 140737488355328) (B : Nat) (hB : B ≤ g) :
    ∃ v' w', (Builtin.append_ #[t, t] ty #[.slice (some ⟨g, 0, none⟩) 0 0, .slice ao m c]).run P w = .ok v' w' ∧ w'.ownsRow B e size v' m news ∧ Below w.heap.size w w' ∧ (∀ k, v'.ownBlock = some k → k = g ∨ w.heap.size ≤ k) := by
  have lg := (Array.getElem?_eq_some_iff.1 hg).1
  have ownE : w.ownsRow B e size (.slice (some ⟨g, 0, none⟩) 0 0) 0 [] := ⟨by simp, Or.inr ⟨g, 0, #[], rfl, hB, hg, by simp, by simp, by simp, by simp⟩⟩
  cases ao with
  | none =>
    obtain ⟨rfl, rfl⟩ := hnone rfl
    have hn : news = [] := List.eq_nil_of_length_eq_zero (by simpa using hl)
    subst hn
    exact ⟨_, _, run_append_owned_none (P := P) w B t ty e i size ht hi _ 0 [] ownE, ownE, Below.refl _ _, fun k hk => Or.inl (by simpa [Value.ownBlock] using hk.symm)⟩
  | some ad =>
    by_cases hm : m = 0
    · subst hm
      have hn : news = [] := List.eq_nil_of_length_eq_zero (by simpa using hl)
      subst hn
      have hr := run_append_room (P := P) w t ty e i ht hi g 0 0 #[] hg ad 0 c [] (by simp) (by simp) (by simp) (by simp) (by simp)
      refine ⟨_, _, hr, ⟨by simp, Or.inr ⟨g, 0, #[], rfl, hB, ?_, by simp, by simp, by simp, by simp⟩⟩, ⟨rfl, rfl, rfl, by simp [World.setRow], fun k _ => ?_⟩, fun k hk => Or.inl (by simpa [Value.ownBlock] using hk.symm)⟩
      · have := setRow_heap w g #[] #[] e (0, 0) hg
        simpa using this
      · by_cases hk : k = g
        · subst hk
          have := setRow_heap w k #[] #[] e (0, 0) hg
          rw [hg]
          simpa using this
        · exact setRow_other w g k _ hk
    · have hr := run_append_grow (P := P) w t ty e i z ht hi hz ⟨g, 0, none⟩ 0 0 [] (by simp) (by simp) ad m c news (by rw [hsize]; exact hl) (hnews ad rfl) (by omega) (by unfold maxLen at h63; omega) (growslice_fits (by omega) (by rw [hby]; simpa using hbytes))
      have hge := grownCap_ge w (0 + m) 0 e
      have hge2 : m ≤ grownCap w m 0 e := by simpa using hge
      have hcm := grownCap_le_maxLen w (0 + m) 0 e (by omega)
      refine ⟨_, _, hr, ⟨by omega, Or.inr ⟨w.heap.size, _, _, ?_, by omega, heap_alloc_new w.drew _, by omega, hcm, ?_, ?_⟩⟩, (Below.refl _ _).drew.alloc (Nat.le_refl _) _, fun k hk => Or.inr (by simp [Value.ownBlock] at hk; omega)⟩
      · simp
      · simp only [Array.size_append, List.size_toArray, size_zeroCells, hzs, hl]
        simp only [Nat.zero_add, List.length_nil]
        rw [← Nat.add_mul, Nat.add_sub_cancel' hge2]
      · simp [hl]
theorem step_append_emptyN {P : Program} (w : World) {ops : Array Oper} {o : Oper} {a : Act} {K : Act → World → Prop} {Q : Exit → Act → World → Prop} {E : Prop}
    (hgd : o.guard = none) (s x : Operand) (t : TypeId) (hop : o.op = Op.call { callee := Callee.builtin Builtin.append, args := #[s, x], argTypes := #[t, t] })
    (e : TypeId) (i : TypeInfo) (z : Value) (size bytes : Nat) (ht : P.underlying t = some (.slice e)) (hi : P.info? e = some i) (hz : i.zero = some z)
    (hsize : i.size = size) (hby : i.bytes = bytes) (hzs : z.cells.size = size) (g : Nat) (hs : a.eval s = .slice (some ⟨g, 0, none⟩) 0 0) (hg : w.heap[g]? = some (.cells #[] e (0, 0)))
    (ao : Option Addr) (m c : Nat) (news : List Value) (hx : a.eval x = .slice ao m c) (hl : news.length = m * size) (hnone : ao = none → m = 0 ∧ c = 0) (hnews : ∀ ad, ao = some ad → ∀ j u, news[j]? = some u → w.cell? (ad.add j) = some u) (h1 : ∀ u ∈ news, u.oneCell' = true)
    (h63 : m ≤ maxLen) (hbytes : m * bytes ≤ 140737488355328) (B : Nat) (hB : B ≤ g)
    (hK : ∀ v' w', w'.ownsRow B e size v' m news → Below w.heap.size w w' → (∀ k, v'.ownBlock = some k → k = g ∨ w.heap.size ≤ k) → K (a.put o.dst v') w') :
    if Region.wanted o (yielded ops a.tmps) = true then Oper.wp P o a w K Q else E := by
  have hw : Region.wanted o (yielded ops a.tmps) = true := by simp [Region.wanted, hgd]
  rw [if_pos hw]
  obtain ⟨v', w', hr, h2, h3, h4⟩ := run_append_emptyN (P := P) w t o.type e i z size bytes ht hi hz hsize hby hzs g hg ao m c news hl hnone hnews h1 h63 hbytes B hB
  unfold Oper.wp execOp
  simp only [hop, resolve, invoke, builtin, Sem.run_bind, Sem.run_pure, Result.andThen_ok, List.map_toArray, List.map_cons, List.map_nil, hs, hx, hr]
  exact hK v' w' h2 h3 h4
end Go.Proofs.YtbhfooafhbfniaaGreatDoor
