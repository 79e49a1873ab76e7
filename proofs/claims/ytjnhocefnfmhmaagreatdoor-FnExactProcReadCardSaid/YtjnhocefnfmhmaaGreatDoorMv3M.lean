/-
  One statement of impl's moved, within a round: the node with its parts where they are then is put behind the others. Conditions: its parts are told of.
-/
import Derived.Test.YtjnhocefnfmhmaaGreatDoorMv1M
import Derived.Deep.AppendLies
namespace Go.Proofs.YtjnhocefnfmhmaaGreatDoor
open Go.RowKit Go.Shelf
attribute [local go_sem] Oper.semAt_some

theorem upon_in {P : Program} {o : Oper} {a : Act} {K : Act → World → Prop} {Q : Exit → Act → World → Prop} (l n : Nat) (v : Value) (w' : World) (h : o.upon P a K Q (.ok (.value v) w')) : o.uponIn (Fence.wide.inRound l) n P a K Q (.ok (.value v) w') := h
/-- append onto a row of the call's own, as a step of a region that draws, within a round. -/
theorem stepIn_append {P : Program} {n : Nat} (l : Nat) (w : World) {ops : Array Oper} {o : Oper} {a : Act} {K : Act → World → Prop} {Q : Exit → Act → World → Prop} {E : Prop} (hgd : o.guard = none) (s x : Operand) (t : TypeId)
    (ho : o.op = .call { callee := .builtin .append, args := #[s, x], argTypes := #[t, t] })
    (base : Nat) (e : TypeId) (i : TypeInfo) (z : Value) (size bytes : Nat) (ht : P.underlying t = some (.slice e)) (hi : P.info? e = some i) (hz : i.zero = some z)
    (hsize : i.size = size) (hby : i.bytes = bytes) (hzs : z.cells.size = size) (hsz : 0 < size)
    (v : Value) (m0 : Nat) (xs : List Value) (hs : a.eval s = v) (hown : w.ownsRow base e size v m0 xs)
    (ad : Addr) (m c : Nat) (news : List Value) (hx : a.eval x = .slice (some ad) m c) (hl : news.length = m * size) (hnews : ∀ j u, news[j]? = some u → w.cell? (ad.add j) = some u) (h1 : ∀ u ∈ news, u.oneCell' = true)
    (hm : 0 < m) (h63 : m0 + m ≤ maxLen) (hbytes : (m0 + m) * bytes ≤ 140737488355328) (hbase : base ≤ w.heap.size) (H : Nat) (hH : w.heap.size = H)
    (h : ∀ g cap w', w'.ownsRow base e size (.slice (some ⟨g, 0, none⟩) (m0 + m) cap) (m0 + m) (xs ++ news) → w.grownBy w' v.ownBlock → (v.ownBlock = some g ∨ g = H) → g < w'.heap.size → K (a.put o.dst (.slice (some ⟨g, 0, none⟩) (m0 + m) cap)) w') :
    if Region.wanted o (yielded ops a.tmps) = true then Oper.wpIn (Fence.wide.inRound l) n P o a w K Q else E := by
  have hw : Region.wanted o (yielded ops a.tmps) = true := by simp [Region.wanted, hgd]
  rw [if_pos hw]
  refine ⟨fun _ _ => trivial, ?_⟩
  rw [Oper.semAt_eq _ _ _ (by rw [ho]; intro c hc; cases hc)]
  obtain ⟨g, cap, w', hrun, r1, r2, r3, r4⟩ := run_append_lies (P := P) w t o.type base e i z size bytes ht hi hz hsize hby hzs hsz v m0 xs hown ad m c news hl hnews h1 hm h63 hbytes hbase H hH
  simp [execOp, ho, resolve, invoke, builtin, hs, hx, hrun, Result.andThen]
  exact h g cap w' r1 r2 r3 r4

set_option maxRecDepth 100000 in
set_option maxHeartbeats 6400000 in
theorem mv_region (l n B8 B9 Bx B4 N base : Nat) {p6 : String} (a8 : Option Addr) (q8 : Nat) (S1 : List Nd) (S2 : List Int) (x : Nd) {t0 t1 t2 t3 t4 t5 t6 t7 t10 t12 t13 t14 t15 t16 t17 t18 t19 t20 t21 t22 t23 t24 t25 t26 t27 t28 t29 t30 t31 t32 t33 t34 t35 t36 t37 t38 t39 t40 t41 t42 t43 t44 t45 t46 t47 t48 t49 t50 t51 t52 t53 t54 t55 t56 : Value} {Q : Exit → Act → World → Prop} (W : World)
    (b8 : Boxed W B8 38 (.slice a8 S1.length q8)) (b9 : Boxed W B9 110 (.slice (some ⟨B4, 0, none⟩) N N)) (bX : W.heap[Bx]? = some (.cells #[.int .i64 x.k, .int .i64 x.n, .string x.s, .int .i64 x.a, .int .i64 x.b] 153 (0, 0)))
    (ho8 : W.ownsRow base 153 5 (.slice a8 S1.length q8) S1.length (ncs S1)) (ho9 : ∀ i, i < N → W.cell? ⟨B4, i, none⟩ = some (.int .i64 (S2.getD i 0))) (hB4 : B4 < W.heap.size) (hl : S1.length ≤ 3000) (hbase : base ≤ W.heap.size)
    (hkd : 1 ≤ x.k ∧ x.k ≤ 9) (hA : hasA x.k = true → 0 ≤ x.a ∧ x.a < N) (hB : hasB x.k = true → 0 ≤ x.b ∧ x.b < N)
    (hQ : ∀ (a' : Act) (w4 w6 : World) (g cap : Nat) (tmp : Obj), Below W.heap.size W w4 → w6.ownsRow base 153 5 (.slice (some ⟨g, 0, none⟩) (S1.length + 1) cap) (S1.length + 1) (ncs S1 ++ ncs [nrm S2 x]) → (w4.alloc tmp).grownBy w6 (Value.slice a8 S1.length q8).ownBlock → ((Value.slice a8 S1.length q8).ownBlock = some g ∨ W.heap.size ≤ g) → Q .normal a' (w6.setCell ⟨B8, 0, none⟩ (.slice (some ⟨g, 0, none⟩) (S1.length + 1) cap))) :
    (Code.region 7 #[{ dst := some 32, op := Op.load 38 (Operand.tmp 8), type := 38, pos := p6, after := #[], guard := none },
        { dst := some 33, op := Op.load 153 (Operand.tmp 11), type := 153, pos := p6, after := #[], guard := none },
        { dst := some 34, op := Op.load 110 (Operand.tmp 9), type := 110, pos := p6, after := #[], guard := none },
        { dst := some 35, op := Op.call { callee := Callee.value (Operand.func 130), args := #[Operand.tmp 33, Operand.tmp 34], argTypes := #[153, 110] }, type := 153, pos := p6, after := #[{ on := 1, ground := Ground.data }, { on := 2, ground := Ground.data }], guard := none },
        { dst := some 36, op := Op.buildSlice 38 1 #[(0, Operand.tmp 35)], type := 38, pos := p6, after := #[{ on := 3, ground := Ground.data }], guard := none },
        { dst := some 37, op := Op.call { callee := Callee.builtin Builtin.append, args := #[Operand.tmp 32, Operand.tmp 36], argTypes := #[38, 38] }, type := 38, pos := p6, after := #[{ on := 0, ground := Ground.data }, { on := 4, ground := Ground.data }, { on := 3, ground := Ground.chain }], guard := none },
        { dst := none, op := Op.store 38 (Operand.tmp 8) (Operand.tmp 37), type := 0, pos := p6, after := #[{ on := 5, ground := Ground.data }, { on := 5, ground := Ground.chain }, { on := 0, ground := Ground.phase }, { on := 1, ground := Ground.phase }, { on := 2, ground := Ground.phase }, { on := 3, ground := Ground.phase }, { on := 4, ground := Ground.phase }, { on := 5, ground := Ground.phase }], guard := none }] true).wpIn (Fence.wide.inRound l) n Tryz.prog Q { tmps := #[t0, t1, t2, t3, t4, t5, t6, t7, .pointer (some ⟨B8, 0, none⟩), .pointer (some ⟨B9, 0, none⟩), t10, .pointer (some ⟨Bx, 0, none⟩), t12, t13, t14, t15, t16, t17, t18, t19, t20, t21, t22, t23, t24, t25, t26, t27, t28, t29, t30, t31, t32, t33, t34, t35, t36, t37, t38, t39, t40, t41, t42, t43, t44, t45, t46, t47, t48, t49, t50, t51, t52, t53, t54, t55, t56], defers := [] } W := by
  obtain ⟨n0, hn, hn0, hn1, hn2⟩ := info_parts Tryz.infoN
  have hN : nrm S2 x = ⟨x.k, x.n, x.s, (nrm S2 x).a, (nrm S2 x).b⟩ := rfl
  have WP := withparts_any x B4 N S2 W.drew hkd hA hB ho9 hB4
  rw [hN] at hQ
  generalize (nrm S2 x).a = ya at *
  generalize (nrm S2 x).b = yb at *
  clear hN ho9 hA hB hkd
  have c8 := b8.cell
  have c9 := b9.cell
  have hl8 := b8.lt
  have d0 := cell_of_row W _ 0 _ _ _ bX
  have d1 := cell_of_row W _ 1 _ _ _ bX
  have d2 := cell_of_row W _ 2 _ _ _ bX
  have d3 := cell_of_row W _ 3 _ _ _ bX
  have d4 := cell_of_row W _ 4 _ _ _ bX
  simp only [List.getElem?_toArray, List.getElem?_cons_succ, List.getElem?_cons_zero] at d0 d1 d2 d3 d4
  refine wpIn_region_any (by kernel_rfl) ?_
  change wpAnyIn _ _ _ _ _ _ _ _ _ (World.drew W)
  refine wpAnyIn_ready (rs := [0, 1, 2]) (by kernel_rfl) (by simp) (AllReadyIn.cons rfl (fun K hK => ?_) (AllReadyIn.cons rfl (fun K hK => ?_) (AllReadyIn.cons rfl (fun K hK => ?_) AllReadyIn.nil)))
  · (go_simp; refine hK _ _ ?_; clear hK K)
    refine wpAnyIn_ready (rs := [1, 2]) (by kernel_rfl) (by simp) (AllReadyIn.cons rfl (fun K hK => ?_) (AllReadyIn.cons rfl (fun K hK => ?_) AllReadyIn.nil))
    · (go_simp; refine hK _ _ ?_; clear hK K)
      refine wpAnyIn_ready (rs := [2]) (by kernel_rfl) (by simp) (AllReadyIn.cons rfl (fun K hK => ?_) AllReadyIn.nil)
      (go_simp; refine hK _ _ ?_; clear hK K)
      refine wpAnyIn_ready (rs := [3]) (by kernel_rfl) (by simp) (AllReadyIn.cons rfl (fun K hK => ?_) AllReadyIn.nil)
      (go_simp; refine ⟨trivial, fun h => (by cases h), (CallsIn.inRound l (callsIn_wide.2 WP)).mono ?_⟩; rintro e w4 ⟨rfl, hb4⟩; have hb4' : Below W.heap.size W w4 := (Below.refl W.heap.size W).drew.trans hb4; have hs4 := hb4'.size; have b84 : Boxed w4 B8 38 (.slice a8 S1.length q8) := (hb4'.block B8 hl8).trans b8; have c84 := b84.cell; have hl84 := b84.lt; have ho4 := own_below ho8 hb4'; refine hK _ _ ?_; clear hK K)
      refine wpAnyIn_ready (rs := [4]) (by kernel_rfl) (by simp) (AllReadyIn.cons rfl (fun K hK => ?_) AllReadyIn.nil)
      (go_simp; refine hK _ _ ?_; clear hK K)
      refine wpAnyIn_ready (rs := [5]) (by kernel_rfl) (by simp) (AllReadyIn.cons rfl (fun K hK => ?_) AllReadyIn.nil)
      (refine stepIn_append l _ rfl _ _ 38 rfl base 153 n0 _ 5 48 Tryz.underlying38 hn hn0 hn1 hn2 rfl (by decide) _ _ _ rfl (ho4.alloc _) ⟨w4.heap.size, 0, none⟩ 1 1 (ncs [⟨x.k, x.n, x.s, ya, yb⟩]) rfl rfl (World.news_of_block (cs := #[.int .i64 x.k, .int .i64 x.n, .string x.s, .int .i64 ya, .int .i64 yb]) (t := 153) (fr := (0, 0)) (World.alloc_heap_new w4 _)) (by simp [ncs, Nd.cs, Value.oneCell']) (by omega) (by unfold maxLen; omega) (by omega) (by simp; omega) _ rfl ?_; intro g' cap' w6 hown' hgrow hat hlt6; have b86 : Boxed w6 B8 38 (.slice a8 S1.length q8) := (b84.alloc _).kept hgrow (b84.not_row (by decide) ho4); have c86 := b86.cell; have f86 := b86.frozen; refine hK _ _ ?_; clear hK K)
      refine wpAnyIn_ready (rs := [6]) (by kernel_rfl) (by simp) (AllReadyIn.cons rfl (fun K hK => ?_) AllReadyIn.nil)
      (go_simp; refine hK _ _ ?_; clear hK K)
      refine wpAnyIn_done (by kernel_rfl) ?_ _
      exact hQ _ w4 w6 g' cap' _ hb4' hown' hgrow (hat.imp_right (fun e => by rw [e]; simp; omega))
    · (go_simp; refine hK _ _ ?_; clear hK K)
      refine wpAnyIn_ready (rs := [1]) (by kernel_rfl) (by simp) (AllReadyIn.cons rfl (fun K hK => ?_) AllReadyIn.nil)
      (go_simp; refine hK _ _ ?_; clear hK K)
      refine wpAnyIn_ready (rs := [3]) (by kernel_rfl) (by simp) (AllReadyIn.cons rfl (fun K hK => ?_) AllReadyIn.nil)
      (go_simp; refine ⟨trivial, fun h => (by cases h), (CallsIn.inRound l (callsIn_wide.2 WP)).mono ?_⟩; rintro e w4 ⟨rfl, hb4⟩; have hb4' : Below W.heap.size W w4 := (Below.refl W.heap.size W).drew.trans hb4; have hs4 := hb4'.size; have b84 : Boxed w4 B8 38 (.slice a8 S1.length q8) := (hb4'.block B8 hl8).trans b8; have c84 := b84.cell; have hl84 := b84.lt; have ho4 := own_below ho8 hb4'; refine hK _ _ ?_; clear hK K)
      refine wpAnyIn_ready (rs := [4]) (by kernel_rfl) (by simp) (AllReadyIn.cons rfl (fun K hK => ?_) AllReadyIn.nil)
      (go_simp; refine hK _ _ ?_; clear hK K)
      refine wpAnyIn_ready (rs := [5]) (by kernel_rfl) (by simp) (AllReadyIn.cons rfl (fun K hK => ?_) AllReadyIn.nil)
      (refine stepIn_append l _ rfl _ _ 38 rfl base 153 n0 _ 5 48 Tryz.underlying38 hn hn0 hn1 hn2 rfl (by decide) _ _ _ rfl (ho4.alloc _) ⟨w4.heap.size, 0, none⟩ 1 1 (ncs [⟨x.k, x.n, x.s, ya, yb⟩]) rfl rfl (World.news_of_block (cs := #[.int .i64 x.k, .int .i64 x.n, .string x.s, .int .i64 ya, .int .i64 yb]) (t := 153) (fr := (0, 0)) (World.alloc_heap_new w4 _)) (by simp [ncs, Nd.cs, Value.oneCell']) (by omega) (by unfold maxLen; omega) (by omega) (by simp; omega) _ rfl ?_; intro g' cap' w6 hown' hgrow hat hlt6; have b86 : Boxed w6 B8 38 (.slice a8 S1.length q8) := (b84.alloc _).kept hgrow (b84.not_row (by decide) ho4); have c86 := b86.cell; have f86 := b86.frozen; refine hK _ _ ?_; clear hK K)
      refine wpAnyIn_ready (rs := [6]) (by kernel_rfl) (by simp) (AllReadyIn.cons rfl (fun K hK => ?_) AllReadyIn.nil)
      (go_simp; refine hK _ _ ?_; clear hK K)
      refine wpAnyIn_done (by kernel_rfl) ?_ _
      exact hQ _ w4 w6 g' cap' _ hb4' hown' hgrow (hat.imp_right (fun e => by rw [e]; simp; omega))
  · (go_simp; refine hK _ _ ?_; clear hK K)
    refine wpAnyIn_ready (rs := [0, 2]) (by kernel_rfl) (by simp) (AllReadyIn.cons rfl (fun K hK => ?_) (AllReadyIn.cons rfl (fun K hK => ?_) AllReadyIn.nil))
    · (go_simp; refine hK _ _ ?_; clear hK K)
      refine wpAnyIn_ready (rs := [2]) (by kernel_rfl) (by simp) (AllReadyIn.cons rfl (fun K hK => ?_) AllReadyIn.nil)
      (go_simp; refine hK _ _ ?_; clear hK K)
      refine wpAnyIn_ready (rs := [3]) (by kernel_rfl) (by simp) (AllReadyIn.cons rfl (fun K hK => ?_) AllReadyIn.nil)
      (go_simp; refine ⟨trivial, fun h => (by cases h), (CallsIn.inRound l (callsIn_wide.2 WP)).mono ?_⟩; rintro e w4 ⟨rfl, hb4⟩; have hb4' : Below W.heap.size W w4 := (Below.refl W.heap.size W).drew.trans hb4; have hs4 := hb4'.size; have b84 : Boxed w4 B8 38 (.slice a8 S1.length q8) := (hb4'.block B8 hl8).trans b8; have c84 := b84.cell; have hl84 := b84.lt; have ho4 := own_below ho8 hb4'; refine hK _ _ ?_; clear hK K)
      refine wpAnyIn_ready (rs := [4]) (by kernel_rfl) (by simp) (AllReadyIn.cons rfl (fun K hK => ?_) AllReadyIn.nil)
      (go_simp; refine hK _ _ ?_; clear hK K)
      refine wpAnyIn_ready (rs := [5]) (by kernel_rfl) (by simp) (AllReadyIn.cons rfl (fun K hK => ?_) AllReadyIn.nil)
      (refine stepIn_append l _ rfl _ _ 38 rfl base 153 n0 _ 5 48 Tryz.underlying38 hn hn0 hn1 hn2 rfl (by decide) _ _ _ rfl (ho4.alloc _) ⟨w4.heap.size, 0, none⟩ 1 1 (ncs [⟨x.k, x.n, x.s, ya, yb⟩]) rfl rfl (World.news_of_block (cs := #[.int .i64 x.k, .int .i64 x.n, .string x.s, .int .i64 ya, .int .i64 yb]) (t := 153) (fr := (0, 0)) (World.alloc_heap_new w4 _)) (by simp [ncs, Nd.cs, Value.oneCell']) (by omega) (by unfold maxLen; omega) (by omega) (by simp; omega) _ rfl ?_; intro g' cap' w6 hown' hgrow hat hlt6; have b86 : Boxed w6 B8 38 (.slice a8 S1.length q8) := (b84.alloc _).kept hgrow (b84.not_row (by decide) ho4); have c86 := b86.cell; have f86 := b86.frozen; refine hK _ _ ?_; clear hK K)
      refine wpAnyIn_ready (rs := [6]) (by kernel_rfl) (by simp) (AllReadyIn.cons rfl (fun K hK => ?_) AllReadyIn.nil)
      (go_simp; refine hK _ _ ?_; clear hK K)
      refine wpAnyIn_done (by kernel_rfl) ?_ _
      exact hQ _ w4 w6 g' cap' _ hb4' hown' hgrow (hat.imp_right (fun e => by rw [e]; simp; omega))
    · (go_simp; refine hK _ _ ?_; clear hK K)
      refine wpAnyIn_ready (rs := [0, 3]) (by kernel_rfl) (by simp) (AllReadyIn.cons rfl (fun K hK => ?_) (AllReadyIn.cons rfl (fun K hK => ?_) AllReadyIn.nil))
      · (go_simp; refine hK _ _ ?_; clear hK K)
        refine wpAnyIn_ready (rs := [3]) (by kernel_rfl) (by simp) (AllReadyIn.cons rfl (fun K hK => ?_) AllReadyIn.nil)
        (go_simp; refine ⟨trivial, fun h => (by cases h), (CallsIn.inRound l (callsIn_wide.2 WP)).mono ?_⟩; rintro e w4 ⟨rfl, hb4⟩; have hb4' : Below W.heap.size W w4 := (Below.refl W.heap.size W).drew.trans hb4; have hs4 := hb4'.size; have b84 : Boxed w4 B8 38 (.slice a8 S1.length q8) := (hb4'.block B8 hl8).trans b8; have c84 := b84.cell; have hl84 := b84.lt; have ho4 := own_below ho8 hb4'; refine hK _ _ ?_; clear hK K)
        refine wpAnyIn_ready (rs := [4]) (by kernel_rfl) (by simp) (AllReadyIn.cons rfl (fun K hK => ?_) AllReadyIn.nil)
        (go_simp; refine hK _ _ ?_; clear hK K)
        refine wpAnyIn_ready (rs := [5]) (by kernel_rfl) (by simp) (AllReadyIn.cons rfl (fun K hK => ?_) AllReadyIn.nil)
        (refine stepIn_append l _ rfl _ _ 38 rfl base 153 n0 _ 5 48 Tryz.underlying38 hn hn0 hn1 hn2 rfl (by decide) _ _ _ rfl (ho4.alloc _) ⟨w4.heap.size, 0, none⟩ 1 1 (ncs [⟨x.k, x.n, x.s, ya, yb⟩]) rfl rfl (World.news_of_block (cs := #[.int .i64 x.k, .int .i64 x.n, .string x.s, .int .i64 ya, .int .i64 yb]) (t := 153) (fr := (0, 0)) (World.alloc_heap_new w4 _)) (by simp [ncs, Nd.cs, Value.oneCell']) (by omega) (by unfold maxLen; omega) (by omega) (by simp; omega) _ rfl ?_; intro g' cap' w6 hown' hgrow hat hlt6; have b86 : Boxed w6 B8 38 (.slice a8 S1.length q8) := (b84.alloc _).kept hgrow (b84.not_row (by decide) ho4); have c86 := b86.cell; have f86 := b86.frozen; refine hK _ _ ?_; clear hK K)
        refine wpAnyIn_ready (rs := [6]) (by kernel_rfl) (by simp) (AllReadyIn.cons rfl (fun K hK => ?_) AllReadyIn.nil)
        (go_simp; refine hK _ _ ?_; clear hK K)
        refine wpAnyIn_done (by kernel_rfl) ?_ _
        exact hQ _ w4 w6 g' cap' _ hb4' hown' hgrow (hat.imp_right (fun e => by rw [e]; simp; omega))
      · (go_simp; refine ⟨trivial, fun h => (by cases h), (CallsIn.inRound l (callsIn_wide.2 WP)).mono ?_⟩; rintro e w4 ⟨rfl, hb4⟩; have hb4' : Below W.heap.size W w4 := (Below.refl W.heap.size W).drew.trans hb4; have hs4 := hb4'.size; have b84 : Boxed w4 B8 38 (.slice a8 S1.length q8) := (hb4'.block B8 hl8).trans b8; have c84 := b84.cell; have hl84 := b84.lt; have ho4 := own_below ho8 hb4'; refine hK _ _ ?_; clear hK K)
        refine wpAnyIn_ready (rs := [0, 4]) (by kernel_rfl) (by simp) (AllReadyIn.cons rfl (fun K hK => ?_) (AllReadyIn.cons rfl (fun K hK => ?_) AllReadyIn.nil))
        · (go_simp; refine hK _ _ ?_; clear hK K)
          refine wpAnyIn_ready (rs := [4]) (by kernel_rfl) (by simp) (AllReadyIn.cons rfl (fun K hK => ?_) AllReadyIn.nil)
          (go_simp; refine hK _ _ ?_; clear hK K)
          refine wpAnyIn_ready (rs := [5]) (by kernel_rfl) (by simp) (AllReadyIn.cons rfl (fun K hK => ?_) AllReadyIn.nil)
          (refine stepIn_append l _ rfl _ _ 38 rfl base 153 n0 _ 5 48 Tryz.underlying38 hn hn0 hn1 hn2 rfl (by decide) _ _ _ rfl (ho4.alloc _) ⟨w4.heap.size, 0, none⟩ 1 1 (ncs [⟨x.k, x.n, x.s, ya, yb⟩]) rfl rfl (World.news_of_block (cs := #[.int .i64 x.k, .int .i64 x.n, .string x.s, .int .i64 ya, .int .i64 yb]) (t := 153) (fr := (0, 0)) (World.alloc_heap_new w4 _)) (by simp [ncs, Nd.cs, Value.oneCell']) (by omega) (by unfold maxLen; omega) (by omega) (by simp; omega) _ rfl ?_; intro g' cap' w6 hown' hgrow hat hlt6; have b86 : Boxed w6 B8 38 (.slice a8 S1.length q8) := (b84.alloc _).kept hgrow (b84.not_row (by decide) ho4); have c86 := b86.cell; have f86 := b86.frozen; refine hK _ _ ?_; clear hK K)
          refine wpAnyIn_ready (rs := [6]) (by kernel_rfl) (by simp) (AllReadyIn.cons rfl (fun K hK => ?_) AllReadyIn.nil)
          (go_simp; refine hK _ _ ?_; clear hK K)
          refine wpAnyIn_done (by kernel_rfl) ?_ _
          exact hQ _ w4 w6 g' cap' _ hb4' hown' hgrow (hat.imp_right (fun e => by rw [e]; simp; omega))
        · (go_simp; refine hK _ _ ?_; clear hK K)
          refine wpAnyIn_ready (rs := [0]) (by kernel_rfl) (by simp) (AllReadyIn.cons rfl (fun K hK => ?_) AllReadyIn.nil)
          (go_simp; refine hK _ _ ?_; clear hK K)
          refine wpAnyIn_ready (rs := [5]) (by kernel_rfl) (by simp) (AllReadyIn.cons rfl (fun K hK => ?_) AllReadyIn.nil)
          (refine stepIn_append l _ rfl _ _ 38 rfl base 153 n0 _ 5 48 Tryz.underlying38 hn hn0 hn1 hn2 rfl (by decide) _ _ _ rfl (ho4.alloc _) ⟨w4.heap.size, 0, none⟩ 1 1 (ncs [⟨x.k, x.n, x.s, ya, yb⟩]) rfl rfl (World.news_of_block (cs := #[.int .i64 x.k, .int .i64 x.n, .string x.s, .int .i64 ya, .int .i64 yb]) (t := 153) (fr := (0, 0)) (World.alloc_heap_new w4 _)) (by simp [ncs, Nd.cs, Value.oneCell']) (by omega) (by unfold maxLen; omega) (by omega) (by simp; omega) _ rfl ?_; intro g' cap' w6 hown' hgrow hat hlt6; have b86 : Boxed w6 B8 38 (.slice a8 S1.length q8) := (b84.alloc _).kept hgrow (b84.not_row (by decide) ho4); have c86 := b86.cell; have f86 := b86.frozen; refine hK _ _ ?_; clear hK K)
          refine wpAnyIn_ready (rs := [6]) (by kernel_rfl) (by simp) (AllReadyIn.cons rfl (fun K hK => ?_) AllReadyIn.nil)
          (go_simp; refine hK _ _ ?_; clear hK K)
          refine wpAnyIn_done (by kernel_rfl) ?_ _
          exact hQ _ w4 w6 g' cap' _ hb4' hown' hgrow (hat.imp_right (fun e => by rw [e]; simp; omega))
  · (go_simp; refine hK _ _ ?_; clear hK K)
    refine wpAnyIn_ready (rs := [0, 1]) (by kernel_rfl) (by simp) (AllReadyIn.cons rfl (fun K hK => ?_) (AllReadyIn.cons rfl (fun K hK => ?_) AllReadyIn.nil))
    · (go_simp; refine hK _ _ ?_; clear hK K)
      refine wpAnyIn_ready (rs := [1]) (by kernel_rfl) (by simp) (AllReadyIn.cons rfl (fun K hK => ?_) AllReadyIn.nil)
      (go_simp; refine hK _ _ ?_; clear hK K)
      refine wpAnyIn_ready (rs := [3]) (by kernel_rfl) (by simp) (AllReadyIn.cons rfl (fun K hK => ?_) AllReadyIn.nil)
      (go_simp; refine ⟨trivial, fun h => (by cases h), (CallsIn.inRound l (callsIn_wide.2 WP)).mono ?_⟩; rintro e w4 ⟨rfl, hb4⟩; have hb4' : Below W.heap.size W w4 := (Below.refl W.heap.size W).drew.trans hb4; have hs4 := hb4'.size; have b84 : Boxed w4 B8 38 (.slice a8 S1.length q8) := (hb4'.block B8 hl8).trans b8; have c84 := b84.cell; have hl84 := b84.lt; have ho4 := own_below ho8 hb4'; refine hK _ _ ?_; clear hK K)
      refine wpAnyIn_ready (rs := [4]) (by kernel_rfl) (by simp) (AllReadyIn.cons rfl (fun K hK => ?_) AllReadyIn.nil)
      (go_simp; refine hK _ _ ?_; clear hK K)
      refine wpAnyIn_ready (rs := [5]) (by kernel_rfl) (by simp) (AllReadyIn.cons rfl (fun K hK => ?_) AllReadyIn.nil)
      (refine stepIn_append l _ rfl _ _ 38 rfl base 153 n0 _ 5 48 Tryz.underlying38 hn hn0 hn1 hn2 rfl (by decide) _ _ _ rfl (ho4.alloc _) ⟨w4.heap.size, 0, none⟩ 1 1 (ncs [⟨x.k, x.n, x.s, ya, yb⟩]) rfl rfl (World.news_of_block (cs := #[.int .i64 x.k, .int .i64 x.n, .string x.s, .int .i64 ya, .int .i64 yb]) (t := 153) (fr := (0, 0)) (World.alloc_heap_new w4 _)) (by simp [ncs, Nd.cs, Value.oneCell']) (by omega) (by unfold maxLen; omega) (by omega) (by simp; omega) _ rfl ?_; intro g' cap' w6 hown' hgrow hat hlt6; have b86 : Boxed w6 B8 38 (.slice a8 S1.length q8) := (b84.alloc _).kept hgrow (b84.not_row (by decide) ho4); have c86 := b86.cell; have f86 := b86.frozen; refine hK _ _ ?_; clear hK K)
      refine wpAnyIn_ready (rs := [6]) (by kernel_rfl) (by simp) (AllReadyIn.cons rfl (fun K hK => ?_) AllReadyIn.nil)
      (go_simp; refine hK _ _ ?_; clear hK K)
      refine wpAnyIn_done (by kernel_rfl) ?_ _
      exact hQ _ w4 w6 g' cap' _ hb4' hown' hgrow (hat.imp_right (fun e => by rw [e]; simp; omega))
    · (go_simp; refine hK _ _ ?_; clear hK K)
      refine wpAnyIn_ready (rs := [0, 3]) (by kernel_rfl) (by simp) (AllReadyIn.cons rfl (fun K hK => ?_) (AllReadyIn.cons rfl (fun K hK => ?_) AllReadyIn.nil))
      · (go_simp; refine hK _ _ ?_; clear hK K)
        refine wpAnyIn_ready (rs := [3]) (by kernel_rfl) (by simp) (AllReadyIn.cons rfl (fun K hK => ?_) AllReadyIn.nil)
        (go_simp; refine ⟨trivial, fun h => (by cases h), (CallsIn.inRound l (callsIn_wide.2 WP)).mono ?_⟩; rintro e w4 ⟨rfl, hb4⟩; have hb4' : Below W.heap.size W w4 := (Below.refl W.heap.size W).drew.trans hb4; have hs4 := hb4'.size; have b84 : Boxed w4 B8 38 (.slice a8 S1.length q8) := (hb4'.block B8 hl8).trans b8; have c84 := b84.cell; have hl84 := b84.lt; have ho4 := own_below ho8 hb4'; refine hK _ _ ?_; clear hK K)
        refine wpAnyIn_ready (rs := [4]) (by kernel_rfl) (by simp) (AllReadyIn.cons rfl (fun K hK => ?_) AllReadyIn.nil)
        (go_simp; refine hK _ _ ?_; clear hK K)
        refine wpAnyIn_ready (rs := [5]) (by kernel_rfl) (by simp) (AllReadyIn.cons rfl (fun K hK => ?_) AllReadyIn.nil)
        (refine stepIn_append l _ rfl _ _ 38 rfl base 153 n0 _ 5 48 Tryz.underlying38 hn hn0 hn1 hn2 rfl (by decide) _ _ _ rfl (ho4.alloc _) ⟨w4.heap.size, 0, none⟩ 1 1 (ncs [⟨x.k, x.n, x.s, ya, yb⟩]) rfl rfl (World.news_of_block (cs := #[.int .i64 x.k, .int .i64 x.n, .string x.s, .int .i64 ya, .int .i64 yb]) (t := 153) (fr := (0, 0)) (World.alloc_heap_new w4 _)) (by simp [ncs, Nd.cs, Value.oneCell']) (by omega) (by unfold maxLen; omega) (by omega) (by simp; omega) _ rfl ?_; intro g' cap' w6 hown' hgrow hat hlt6; have b86 : Boxed w6 B8 38 (.slice a8 S1.length q8) := (b84.alloc _).kept hgrow (b84.not_row (by decide) ho4); have c86 := b86.cell; have f86 := b86.frozen; refine hK _ _ ?_; clear hK K)
        refine wpAnyIn_ready (rs := [6]) (by kernel_rfl) (by simp) (AllReadyIn.cons rfl (fun K hK => ?_) AllReadyIn.nil)
        (go_simp; refine hK _ _ ?_; clear hK K)
        refine wpAnyIn_done (by kernel_rfl) ?_ _
        exact hQ _ w4 w6 g' cap' _ hb4' hown' hgrow (hat.imp_right (fun e => by rw [e]; simp; omega))
      · (go_simp; refine ⟨trivial, fun h => (by cases h), (CallsIn.inRound l (callsIn_wide.2 WP)).mono ?_⟩; rintro e w4 ⟨rfl, hb4⟩; have hb4' : Below W.heap.size W w4 := (Below.refl W.heap.size W).drew.trans hb4; have hs4 := hb4'.size; have b84 : Boxed w4 B8 38 (.slice a8 S1.length q8) := (hb4'.block B8 hl8).trans b8; have c84 := b84.cell; have hl84 := b84.lt; have ho4 := own_below ho8 hb4'; refine hK _ _ ?_; clear hK K)
        refine wpAnyIn_ready (rs := [0, 4]) (by kernel_rfl) (by simp) (AllReadyIn.cons rfl (fun K hK => ?_) (AllReadyIn.cons rfl (fun K hK => ?_) AllReadyIn.nil))
        · (go_simp; refine hK _ _ ?_; clear hK K)
          refine wpAnyIn_ready (rs := [4]) (by kernel_rfl) (by simp) (AllReadyIn.cons rfl (fun K hK => ?_) AllReadyIn.nil)
          (go_simp; refine hK _ _ ?_; clear hK K)
          refine wpAnyIn_ready (rs := [5]) (by kernel_rfl) (by simp) (AllReadyIn.cons rfl (fun K hK => ?_) AllReadyIn.nil)
          (refine stepIn_append l _ rfl _ _ 38 rfl base 153 n0 _ 5 48 Tryz.underlying38 hn hn0 hn1 hn2 rfl (by decide) _ _ _ rfl (ho4.alloc _) ⟨w4.heap.size, 0, none⟩ 1 1 (ncs [⟨x.k, x.n, x.s, ya, yb⟩]) rfl rfl (World.news_of_block (cs := #[.int .i64 x.k, .int .i64 x.n, .string x.s, .int .i64 ya, .int .i64 yb]) (t := 153) (fr := (0, 0)) (World.alloc_heap_new w4 _)) (by simp [ncs, Nd.cs, Value.oneCell']) (by omega) (by unfold maxLen; omega) (by omega) (by simp; omega) _ rfl ?_; intro g' cap' w6 hown' hgrow hat hlt6; have b86 : Boxed w6 B8 38 (.slice a8 S1.length q8) := (b84.alloc _).kept hgrow (b84.not_row (by decide) ho4); have c86 := b86.cell; have f86 := b86.frozen; refine hK _ _ ?_; clear hK K)
          refine wpAnyIn_ready (rs := [6]) (by kernel_rfl) (by simp) (AllReadyIn.cons rfl (fun K hK => ?_) AllReadyIn.nil)
          (go_simp; refine hK _ _ ?_; clear hK K)
          refine wpAnyIn_done (by kernel_rfl) ?_ _
          exact hQ _ w4 w6 g' cap' _ hb4' hown' hgrow (hat.imp_right (fun e => by rw [e]; simp; omega))
        · (go_simp; refine hK _ _ ?_; clear hK K)
          refine wpAnyIn_ready (rs := [0]) (by kernel_rfl) (by simp) (AllReadyIn.cons rfl (fun K hK => ?_) AllReadyIn.nil)
          (go_simp; refine hK _ _ ?_; clear hK K)
          refine wpAnyIn_ready (rs := [5]) (by kernel_rfl) (by simp) (AllReadyIn.cons rfl (fun K hK => ?_) AllReadyIn.nil)
          (refine stepIn_append l _ rfl _ _ 38 rfl base 153 n0 _ 5 48 Tryz.underlying38 hn hn0 hn1 hn2 rfl (by decide) _ _ _ rfl (ho4.alloc _) ⟨w4.heap.size, 0, none⟩ 1 1 (ncs [⟨x.k, x.n, x.s, ya, yb⟩]) rfl rfl (World.news_of_block (cs := #[.int .i64 x.k, .int .i64 x.n, .string x.s, .int .i64 ya, .int .i64 yb]) (t := 153) (fr := (0, 0)) (World.alloc_heap_new w4 _)) (by simp [ncs, Nd.cs, Value.oneCell']) (by omega) (by unfold maxLen; omega) (by omega) (by simp; omega) _ rfl ?_; intro g' cap' w6 hown' hgrow hat hlt6; have b86 : Boxed w6 B8 38 (.slice a8 S1.length q8) := (b84.alloc _).kept hgrow (b84.not_row (by decide) ho4); have c86 := b86.cell; have f86 := b86.frozen; refine hK _ _ ?_; clear hK K)
          refine wpAnyIn_ready (rs := [6]) (by kernel_rfl) (by simp) (AllReadyIn.cons rfl (fun K hK => ?_) AllReadyIn.nil)
          (go_simp; refine hK _ _ ?_; clear hK K)
          refine wpAnyIn_done (by kernel_rfl) ?_ _
          exact hQ _ w4 w6 g' cap' _ hb4' hown' hgrow (hat.imp_right (fun e => by rw [e]; simp; omega))
end Go.Proofs.YtjnhocefnfmhmaaGreatDoor
