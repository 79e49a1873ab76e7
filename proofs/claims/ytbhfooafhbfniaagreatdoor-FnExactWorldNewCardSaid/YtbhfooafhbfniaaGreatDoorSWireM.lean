/-
  Texts that stood by themselves, laid into one.
-/
import Derived.Test.YtbhfooafhbfniaaGreatDoorR8bM
import Derived.Test.YtbhfooafhbfniaaGreatDoorIPutM
import Derived.Test.YtbhfooafhbfniaaGreatDoorMkListM
import Derived.Test.YtbhfooafhbfniaaGreatDoorNodeFitsM
import Derived.Deep.RegionHeld
import Derived.OneCell
import Derived.Test.YtbhfooafhbfniaaGreatDoorShapeM
import Derived.Test.YtbhfooafhbfniaaGreatDoorWnCM
import Derived.Deep.AppendLies
import Derived.Deep.RegionLawGrows
/-
  Contract of impl.PutText: for every text of at most 2^21 bytes a new slice of its own that holds the bytes of its length, and then its own.
-/
namespace Go.Proofs.YtbhfooafhbfniaaGreatDoor
open Go.RowKit
end Go.Proofs.YtbhfooafhbfniaaGreatDoor
/-
  What impl.putNums puts: the contract, with great bounds. No condition but bounds.
-/
namespace Go.Proofs.YtbhfooafhbfniaaGreatDoor
open Go.RowKit
def Stays (w w' : World) : Prop := ∀ (j : Nat) (c : Array Value) (t : TypeId), t ≠ 5 → w.heap[j]? = some (.cells c t (0, 0)) → w'.heap[j]? = some (.cells c t (0, 0))
theorem Stays.refl (w : World) : Stays w w := fun _ _ _ _ h => h
theorem Stays.trans {w1 w2 w3 : World} (h : Stays w1 w2) (k : Stays w2 w3) : Stays w1 w3 := fun j c t ht hj => k j c t ht (h j c t ht hj)
theorem Stays.below {w w' : World} (hb : Below w.heap.size w w') : Stays w w' := fun j _ _ _ hj => (hb.block j (Array.getElem?_eq_some_iff.1 hj).1).trans hj
theorem Stays.grown {w w' : World} {B n : Nat} {vo : Value} {xs : List Value} (ho : w.ownsRow B 5 1 vo n xs) (hg : w.grownBy w' vo.ownBlock) : Stays w w' := fun j _ _ ht hj => (hg.block j (Array.getElem?_eq_some_iff.1 hj).1 (fun e => own_ne ho hj ht e.symm)).trans hj
def OwnB (w : World) (B : Nat) (v : Value) (bs : List Int) : Prop := w.ownsRow B 5 1 v bs.length (bv bs)
end Go.Proofs.YtbhfooafhbfniaaGreatDoor
/-
  Contract of spec.Make.
-/
namespace Go.Proofs.YtbhfooafhbfniaaGreatDoor
open Go.RowKit
end Go.Proofs.YtbhfooafhbfniaaGreatDoor
/-
  The contract of spec.l8Nodes: how nodes are written as bytes. No condition but that they are within bounds.
-/
namespace Go.Proofs.YtbhfooafhbfniaaGreatDoor
open Go.RowKit
theorem step_append_own_anyW {P : Program} (w : World) {ops : Array Oper} {o : Oper} {a : Act} {K : Act → World → Prop} {Q : Exit → Act → World → Prop} {E : Prop}
    (hg : o.guard = none) (s x : Operand) (t : TypeId) (hop : o.op = Op.call { callee := Callee.builtin Builtin.append, args := #[s, x], argTypes := #[t, t] })
    (base : Nat) (e : TypeId) (i : TypeInfo) (z : Value) (size bytes : Nat) (h1 : P.underlying t = some (.slice e)) (h2 : P.info? e = some i) (h3 : i.zero = some z) (h4 : i.size = size) (h5 : i.bytes = bytes) (h6 : z.cells.size = size) (h7 : 0 < size)
    (v : Value) (k : Nat) (xs : List Value) (hs : a.eval s = v) (hown : w.ownsRow base e size v k xs) (ao : Option Addr) (m c : Nat) (news : List Value) (hx : a.eval x = .slice ao m c) (hn : news.length = m * size)
    (hnone : ao = none → m = 0 ∧ c = 0) (hc : ∀ ad, ao = some ad → ∀ j u, news[j]? = some u → w.cell? (ad.add j) = some u) (h1c : ∀ u ∈ news, u.oneCell' = true) (b1 : k + m ≤ maxLen) (b2 : (k + m) * bytes ≤ 140737488355328) (b3 : base ≤ w.heap.size)
    (hK : ∀ v' w', w'.ownsRow base e size v' (k + m) (xs ++ news) → w.grownBy w' v.ownBlock → K (a.put o.dst v') w') :
    if Region.wanted o (yielded ops a.tmps) = true then Oper.wp P o a w K Q else E := by
  have hw : Region.wanted o (yielded ops a.tmps) = true := by simp [Region.wanted, hg]
  rw [if_pos hw]
  cases ao with
  | some ad => exact wp_append_own w s x t hop base e i z size bytes h1 h2 h3 h4 h5 h6 h7 v k xs hs hown ad m c news hx hn (hc ad rfl) h1c b1 b2 b3 (fun v' w' h1 h2 _ => hK v' w' h1 h2)
  | none =>
    obtain ⟨rfl, rfl⟩ := hnone rfl
    have hnews : news = [] := List.eq_nil_of_length_eq_zero (by simpa using hn)
    subst hnews
    have hrun := run_append_owned_none (P := P) w base t o.type e i size h1 h2 _ k xs hown
    unfold Oper.wp execOp
    simp only [hop, resolve, invoke, builtin, Sem.run_bind, Sem.run_pure, Result.andThen_ok, List.map_toArray, List.map_cons, List.map_nil, hs, hx, hrun]
    exact hK v w (by simpa using hown) (World.grownBy.refl _ _)
def OutB (W0 w : World) (vo : Value) (bs : List Int) (b : Nat) (x : Nd) : Prop :=
  w.ownsRow W0.heap.size 5 1 vo bs.length (bv bs) ∧ Below W0.heap.size W0 w ∧ w.heap[b]? = some (.cells #[.int .i64 x.k, .int .i64 x.n, .string x.s, .int .i64 x.a, .int .i64 x.b] 130 (0, 0))
theorem OutB.below {W0 w w' : World} {vo : Value} {bs : List Int} {b : Nat} {x : Nd} (h : OutB W0 w vo bs b x) (hb : Below w.heap.size w w') : OutB W0 w' vo bs b x :=
  ⟨own_below h.1 hb, h.2.1.trans (hb.mono h.2.1.size), (hb.block _ (Array.getElem?_eq_some_iff.1 h.2.2).1).trans h.2.2⟩
theorem OutB.drew {W0 w : World} {vo : Value} {bs : List Int} {b : Nat} {x : Nd} (h : OutB W0 w vo bs b x) : OutB W0 w.drew vo bs b x := h.below (Below.refl _ _).drew
theorem OutB.app {W0 w w' : World} {vo v' : Value} {bs zs : List Int} {b : Nat} {x : Nd} (h : OutB W0 w vo bs b x) (ho : w'.ownsRow W0.heap.size 5 1 v' (bs.length + zs.length) (bv bs ++ bv zs)) (hg : w.grownBy w' vo.ownBlock) : OutB W0 w' v' (bs ++ zs) b x :=
  ⟨by rw [List.length_append, bv_append]; exact ho, h.2.1.grown hg h.2.1.size (fun k hk => (h.1.lt k hk).1), (hg.block b (Array.getElem?_eq_some_iff.1 h.2.2).1 (fun e => own_ne h.1 h.2.2 (by decide) e.symm)).trans h.2.2⟩
theorem wpList_put {ops : Array Oper} {rest : List Oper} {o : Oper} {a : Act} {w : World} {Q : Exit → Act → World → Prop} (hg : o.guard = none) (s y : Operand) (hop : o.op = Op.call { callee := Callee.builtin Builtin.append, args := #[s, y], argTypes := #[143, 143] })
    {W0 : World} {vo : Value} {bs : List Int} {b : Nat} {x : Nd} (hs : a.eval s = vo) (O : OutB W0 w vo bs b x) {ao : Option Addr} {c base : Nat} {zs : List Int} (hy : a.eval y = .slice ao zs.length c) (h2 : w.ownsRow base 5 1 (.slice ao zs.length c) zs.length (bv zs)) (hb : bs.length + zs.length ≤ 1000000)
    (hK : ∀ v' w', OutB W0 w' v' (bs ++ zs) b x → w.grownBy w' vo.ownBlock → wpList Tryz.prog ops Q rest (a.put o.dst v') w') : wpList Tryz.prog ops Q (o :: rest) a w := by
  obtain ⟨i0, hi, hz0, hz1, hz2⟩ := info_parts Tryz.infoU8
  refine wpList_append_own_any w hg s y 143 hop W0.heap.size 5 i0 (.int .u8 0) 1 1 Tryz.underlying143 hi hz0 hz1 hz2 rfl (by decide) vo bs.length (bv bs) hs O.1 ao zs.length c (bv zs) hy (by rw [bv_length]; simp) (own_none8 h2) (own_news8 h2 (bv_length _)) (ints_oneCell .u8 _) (by unfold maxLen; omega) (by omega) O.2.1.size ?_
  intro v' w' h3 h4
  exact hK v' w' (O.app h3 h4) h4
theorem step_put {ops : Array Oper} {o : Oper} {a : Act} {w : World} {K : Act → World → Prop} {Q : Exit → Act → World → Prop} {E : Prop} (hg : o.guard = none) (s y : Operand) (hop : o.op = Op.call { callee := Callee.builtin Builtin.append, args := #[s, y], argTypes := #[143, 143] })
    {W0 : World} {vo : Value} {bs : List Int} {b : Nat} {x : Nd} (hs : a.eval s = vo) (O : OutB W0 w vo bs b x) {ao : Option Addr} {c base : Nat} {zs : List Int} (hy : a.eval y = .slice ao zs.length c) (h2 : w.ownsRow base 5 1 (.slice ao zs.length c) zs.length (bv zs)) (hb : bs.length + zs.length ≤ 1000000)
    (hK : ∀ v' w', OutB W0 w' v' (bs ++ zs) b x → w.grownBy w' vo.ownBlock → K (a.put o.dst v') w') : if Region.wanted o (yielded ops a.tmps) = true then Oper.wp Tryz.prog o a w K Q else E := by
  obtain ⟨i0, hi, hz0, hz1, hz2⟩ := info_parts Tryz.infoU8
  refine step_append_own_anyW w hg s y 143 hop W0.heap.size 5 i0 (.int .u8 0) 1 1 Tryz.underlying143 hi hz0 hz1 hz2 rfl (by decide) vo bs.length (bv bs) hs O.1 ao zs.length c (bv zs) hy (by rw [bv_length]; simp) (own_none8 h2) (own_news8 h2 (bv_length _)) (ints_oneCell .u8 _) (by unfold maxLen; omega) (by omega) O.2.1.size ?_
  intro v' w' h3 h4
  exact hK v' w' (O.app h3 h4) h4
theorem OutB.c0 {W0 w : World} {vo : Value} {bs : List Int} {b : Nat} {x : Nd} (h : OutB W0 w vo bs b x) : w.cell? ⟨b, 0, none⟩ = some (.int .i64 x.k) ∧ w.cell? ⟨b, 1, none⟩ = some (.int .i64 x.n) ∧ w.cell? ⟨b, 2, none⟩ = some (.string x.s) ∧ w.cell? ⟨b, 3, none⟩ = some (.int .i64 x.a) ∧ w.cell? ⟨b, 4, none⟩ = some (.int .i64 x.b) :=
  ⟨cell_of_row w _ 0 _ _ _ h.2.2, cell_of_row w _ 1 _ _ _ h.2.2, cell_of_row w _ 2 _ _ _ h.2.2, cell_of_row w _ 3 _ _ _ h.2.2, cell_of_row w _ 4 _ _ _ h.2.2⟩
theorem beside8 {w w' : World} {vo : Value} {zs : List Int} {base : Nat} {v2 : Value} (hlt : ∀ k, vo.ownBlock = some k → k < base) (h2 : w.ownsRow base 5 1 v2 zs.length (bv zs)) (hg : w.grownBy w' vo.ownBlock) : w'.ownsRow base 5 1 v2 zs.length (bv zs) := by
  refine h2.kept hg ?_
  cases hv : v2.ownBlock with
  | none => exact Or.inl rfl
  | some k =>
    refine Or.inr fun e => ?_
    have k1 := hlt k e.symm
    have k2 := (h2.lt k hv).1
    omega
theorem stepD9 {w2 w3 : World} (h : Below w2.drew.heap.size w2.drew w3) : Below w2.heap.size w2 w3 := (Below.refl _ _).drew.trans h
set_option maxRecDepth 100000 in
set_option maxHeartbeats 6400000 in
theorem snodes8_any (v : Value) (xs : List Nd) (w : World) (R : NRow w v xs) (hx : ∀ x ∈ xs, NdOk x) (hl : xs.length ≤ 3000) :
    Calls Tryz.prog 117 #[.agg #[v]] w fun e w' => ∃ v', e = .returned v' ∧ w'.ownsRow w.heap.size 5 1 v' (wireL xs).length (bv (wireL xs)) ∧ Below w.heap.size w w' := by
  have R' := R
  obtain ⟨ao, cap, rfl, _, _, hz, hcell⟩ := R'
  obtain ⟨W0, hW0⟩ : ∃ W0, w.alloc (Obj.cells #[.slice ao xs.length cap] 32) = W0 := ⟨_, rfl⟩
  have hB0 : Below w.heap.size w W0 := by rw [← hW0]; exact (Below.refl _ _).alloc (Nat.le_refl _) _
  have hp0 : W0.heap[w.heap.size]? = some (.cells #[.slice ao xs.length cap] 32 (0, 0)) := by rw [← hW0]; exact heap_alloc_new _ _
  have hs0 : W0.heap.size = w.heap.size + 1 := by rw [← hW0]; simp
  have cp0 : W0.cell? ⟨w.heap.size, 0, none⟩ = some (.slice ao xs.length cap) := cell_of_row W0 _ 0 _ _ _ hp0
  have hlen : (encI xs.length).length ≤ 9 := encI_length _
  go_enter Tryz.func117, Tryz.ntmps117
  go_wp2_with fail
  refine (sput_any (xs.length : Int) _ (by omega)).mono ?_
  rintro e w1 ⟨v1, rfl, own1, bel1⟩
  go_wp2_with fail
  go_loopw [3, 4] (fun vo i wr => ∃ k : Nat, k ≤ xs.length ∧ i = .int .i64 k ∧ wr.ownsRow W0.heap.size 5 1 vo (encI xs.length ++ (xs.take k).flatMap wireN).length (bv (encI xs.length ++ (xs.take k).flatMap wireN)) ∧ Below W0.heap.size W0 wr) (fun _ i _ => xs.length - (intOf i).toNat)
  case atStart => exact ⟨0, by omega, rfl, by simpa using own1, bel1⟩
  case round =>
    obtain ⟨k, hk, rfl, own, bel⟩ := hrel
    have hpr : wr.heap[w.heap.size]? = some (.cells #[.slice ao xs.length cap] 32 (0, 0)) := (bel.block _ (by omega)).trans hp0
    have cp : wr.cell? ⟨w.heap.size, 0, none⟩ = some (.slice ao xs.length cap) := cell_of_row wr _ 0 _ _ _ hpr
    by_cases hlt : k < xs.length
    · obtain ⟨x, hxk⟩ : ∃ x, xs[k]? = some x := ⟨xs[k], by simp [hlt]⟩
      have hok := hx x (List.mem_of_getElem? hxk)
      have HT : Hid ((xs.take (k + 1)).flatMap wireN = (xs.take k).flatMap wireN ++ wireN x) := wires_take xs k x hxk
      have hlb : (encI xs.length ++ (xs.take k).flatMap wireN).length ≤ 100000 := by
        have := wires_len (xs.take k) (fun y hy => hx y (List.mem_of_mem_take hy))
        rw [List.length_append]
        rw [List.length_take] at this
        omega
      obtain ⟨g, oo, rfl, hg, hcell⟩ := hcell (by intro e; subst e; simp at hlt)
      have hBw := hB0.trans (bel.mono hB0.size)
      obtain ⟨x0, x1, x2, x3, x4⟩ := (hcell k x hxk).below hBw hg
      have hgr : g < wr.heap.size := Nat.lt_of_lt_of_le hg hBw.size
      clear hcell
      obtain ⟨⟨hk1, hk9⟩, ⟨hn1, hn2⟩, hs, ha, hb⟩ := hok
      obtain ⟨wn, hwn⟩ : ∃ wn, wr.alloc (Obj.cells #[.int .i64 x.k, .int .i64 x.n, .string x.s, .int .i64 x.a, .int .i64 x.b] 130) = wn := ⟨_, rfl⟩
      have hvn : wn.heap[wr.heap.size]? = some (.cells #[.int .i64 x.k, .int .i64 x.n, .string x.s, .int .i64 x.a, .int .i64 x.b] 130 (0, 0)) := by rw [← hwn]; exact heap_alloc_new _ _
      have hdn : Below wr.heap.size wr wn := by rw [← hwn]; exact (Below.refl _ _).alloc (Nat.le_refl _) _
      have O : OutB W0 wn u3 (encI xs.length ++ (xs.take k).flatMap wireN) wr.heap.size x := ⟨own_below own hdn, bel.trans (hdn.mono bel.size), hvn⟩
      obtain ⟨bs, hbs⟩ : ∃ bs, Hid (encI xs.length ++ (xs.take k).flatMap wireN = bs) := ⟨_, rfl⟩
      rw [hbs.out] at O hlb
      clear own
      have q := O.c0
      obtain ⟨q0, q1, q2, q3, q4⟩ := q
      go_wp2_with fail
      refine (sput_any x.k _ (by omega)).mono ?_
      rintro e wa ⟨va, rfl, oa, ba⟩
      obtain ⟨aa, ca, rfl⟩ := own_form oa
      clear q0 q1 q2 q3 q4
      replace O := O.below ba
      have hle := encI_length x.k
      go_wp2_with (at_builtin; refine wpList_put rfl _ _ rfl rfl O rfl oa (by omega) ?_)
      intro vb wb O2 hgb
      clear oa ba hgb O
      have HW : Hid (bs ++ wireN x = (bs ++ encI x.k) ++ wireB x) := by unfold Hid wireN; rw [List.append_assoc]
      have hlb2 : (bs ++ encI x.k).length ≤ 100100 := by rw [List.length_append]; omega
      generalize bs ++ encI x.k = cs at *
      obtain ⟨xk, xn, xs', xa, xb⟩ := x
      dsimp only at *
      have hkk : xk = 1 ∨ xk = 2 ∨ xk = 3 ∨ xk = 4 ∨ xk = 5 ∨ xk = 6 ∨ xk = 7 ∨ xk = 8 ∨ xk = 9 := by omega
      rcases hkk with rfl | rfl | rfl | rfl | rfl | rfl | rfl | rfl | rfl
      · obtain ⟨q0, q1, q2, q3, q4⟩ := O2.c0
        have HE : Hid (cs = encI xs.length ++ (xs.take (k + 1)).flatMap wireN) := by unfold Hid; rw [HT.out, ← List.append_assoc, hbs.out, HW.out]; simp [wireB]
        go_wp2
        go_roundw
        case rel => exact ⟨k + 1, by omega, by go_num, by rw [← HE.out]; exact O2.1, O2.2.1⟩
        case measure => simp [intOf]; omega
      · obtain ⟨q0, q1, q2, q3, q4⟩ := O2.c0
        go_wp2_with fail
        refine (sput_any xn _ (by omega)).mono ?_
        rintro e wc ⟨vc, rfl, oc, bc⟩
        obtain ⟨ac, cc, rfl⟩ := own_form oc
        clear q0 q1 q2 q3 q4
        replace O2 := O2.below bc
        have hl1 := encI_length xn
        go_wp2_with (at_builtin; refine wpList_put rfl _ _ rfl rfl O2 rfl oc (by omega) ?_)
        intro vd wd O3 hgd
        clear oc bc hgd O2
        have HE : Hid (cs ++ encI xn = encI xs.length ++ (xs.take (k + 1)).flatMap wireN) := by unfold Hid; rw [HT.out, ← List.append_assoc, hbs.out, HW.out]; simp [wireB]
        go_wp2
        go_roundw
        case rel => exact ⟨k + 1, by omega, by go_num, by rw [← HE.out]; exact O3.1, O3.2.1⟩
        case measure => simp [intOf]; omega
      · obtain ⟨q0, q1, q2, q3, q4⟩ := O2.c0
        go_wp2_with fail
        refine (sput_any (xn + 1000000000) _ (by omega)).mono ?_
        rintro e wc ⟨vc, rfl, oc, bc⟩
        obtain ⟨ac, cc, rfl⟩ := own_form oc
        clear q0 q1 q2 q3 q4
        replace O2 := O2.below bc
        have hl1 := encI_length (xn + 1000000000)
        go_wp2_with (at_builtin; refine wpList_put rfl _ _ rfl rfl O2 rfl oc (by omega) ?_)
        intro vd wd O3 hgd
        clear oc bc hgd O2
        have HE : Hid (cs ++ encI (xn + 1000000000) = encI xs.length ++ (xs.take (k + 1)).flatMap wireN) := by unfold Hid; rw [HT.out, ← List.append_assoc, hbs.out, HW.out]; simp [wireB]
        go_wp2
        go_roundw
        case rel => exact ⟨k + 1, by omega, by go_num, by rw [← HE.out]; exact O3.1, O3.2.1⟩
        case measure => simp [intOf]; omega
      · obtain ⟨q0, q1, q2, q3, q4⟩ := O2.c0
        go_wp2_with fail
        refine (sptext_any xs' _ (by omega)).mono ?_
        rintro e wc ⟨vc, rfl, oc, bc⟩
        obtain ⟨ac, cc, rfl⟩ := own_form oc
        clear q0 q1 q2 q3 q4
        replace O2 := O2.below bc
        have hl1 : (pt xs').length ≤ 21 := by rw [pt_length]; have := encI_length xs'.size; omega
        go_wp2_with (at_builtin; refine wpList_put rfl _ _ rfl rfl O2 rfl oc (by omega) ?_)
        intro vd wd O3 hgd
        clear oc bc hgd O2
        have HE : Hid (cs ++ pt xs' = encI xs.length ++ (xs.take (k + 1)).flatMap wireN) := by unfold Hid; rw [HT.out, ← List.append_assoc, hbs.out, HW.out]; simp [wireB]
        go_wp2
        go_roundw
        case rel => exact ⟨k + 1, by omega, by go_num, by rw [← HE.out]; exact O3.1, O3.2.1⟩
        case measure => simp [intOf]; omega
      · obtain ⟨q0, q1, q2, q3, q4⟩ := O2.c0
        have hl1 := encI_length xa
        have hl2 := encI_length xb
        have S1 := fun w => sput_any xa w (by omega)
        have S2 := fun w => sput_any xb w (by omega)
        have hvb : ∀ k, vb.ownBlock = some k → k < wb.heap.size := fun k hk => (O2.1.lt k hk).2
        go_wp2_with fail
        go_region_law (first
          | (refine step_put rfl (.tmp 59) (.tmp 62) rfl rfl O4 rfl ob (by rw [List.length_append]; omega) ?_
             intro vd wd O3 hgd)
          | (refine step_put rfl (.tmp 70) (.tmp 73) rfl rfl O4 rfl ob (by rw [List.length_append]; omega) ?_
             intro vd wd O3 hgd)
          | (refine step_put rfl _ _ rfl rfl O2 rfl oA (by omega) ?_
             intro vf wf O4 hgf
             have p := O4.c0
             obtain ⟨q0, q1, q2, q3, q4⟩ := p
             try replace ob := beside8 (fun k hk => Nat.lt_of_lt_of_le (hvb k hk) (by first | exact bA.size | exact Nat.le_refl _)) ob hgf)
          | (go_simp; go_at_call 131; with_reducible refine (S1 _).mono ?_
             rintro e we ⟨ve, rfl, oA, bA⟩
             try replace bA := stepD9 bA
             obtain ⟨aA, cA, rfl⟩ := own_form oA
             replace O2 := O2.below bA
             have p := O2.c0
             obtain ⟨q0, q1, q2, q3, q4⟩ := p
             try replace ob := own_below ob bA)
          | (go_simp; go_at_call 131; with_reducible refine (S2 _).mono ?_
             rintro e wg ⟨vg, rfl, ob, bB⟩
             try replace bB := stepD9 bB
             obtain ⟨aB, cB, rfl⟩ := own_form ob
             try replace O2 := O2.below bB
             try replace O4 := O4.below bB
             first | (have p := O4.c0; obtain ⟨q0, q1, q2, q3, q4⟩ := p) | (have p := O2.c0; obtain ⟨q0, q1, q2, q3, q4⟩ := p)
             try replace oA := own_below oA bB))
        all_goals
          have HE : Hid (cs ++ encI xa ++ encI xb = encI xs.length ++ (xs.take (k + 1)).flatMap wireN) := by unfold Hid; rw [HT.out, ← List.append_assoc, hbs.out, HW.out, List.append_assoc]; simp [wireB]
          go_wp2
          go_roundw
          case rel => exact ⟨k + 1, by omega, by go_num, by rw [← HE.out]; exact O3.1, O3.2.1⟩
          case measure => simp [intOf]; omega
      · obtain ⟨q0, q1, q2, q3, q4⟩ := O2.c0
        have hl1 := encI_length xn
        have hl2 := encI_length xa
        have S1 := fun w => sput_any xn w (by omega)
        have S2 := fun w => sput_any xa w (by omega)
        have hvb : ∀ k, vb.ownBlock = some k → k < wb.heap.size := fun k hk => (O2.1.lt k hk).2
        go_wp2_with fail
        go_region_law (first
          | (refine step_put rfl (.tmp 59) (.tmp 62) rfl rfl O4 rfl ob (by rw [List.length_append]; omega) ?_
             intro vd wd O3 hgd)
          | (refine step_put rfl (.tmp 70) (.tmp 73) rfl rfl O4 rfl ob (by rw [List.length_append]; omega) ?_
             intro vd wd O3 hgd)
          | (refine step_put rfl _ _ rfl rfl O2 rfl oA (by omega) ?_
             intro vf wf O4 hgf
             have p := O4.c0
             obtain ⟨q0, q1, q2, q3, q4⟩ := p
             try replace ob := beside8 (fun k hk => Nat.lt_of_lt_of_le (hvb k hk) (by first | exact bA.size | exact Nat.le_refl _)) ob hgf)
          | (go_simp; go_at_call 131; with_reducible refine (S1 _).mono ?_
             rintro e we ⟨ve, rfl, oA, bA⟩
             try replace bA := stepD9 bA
             obtain ⟨aA, cA, rfl⟩ := own_form oA
             replace O2 := O2.below bA
             have p := O2.c0
             obtain ⟨q0, q1, q2, q3, q4⟩ := p
             try replace ob := own_below ob bA)
          | (go_simp; go_at_call 131; with_reducible refine (S2 _).mono ?_
             rintro e wg ⟨vg, rfl, ob, bB⟩
             try replace bB := stepD9 bB
             obtain ⟨aB, cB, rfl⟩ := own_form ob
             try replace O2 := O2.below bB
             try replace O4 := O4.below bB
             first | (have p := O4.c0; obtain ⟨q0, q1, q2, q3, q4⟩ := p) | (have p := O2.c0; obtain ⟨q0, q1, q2, q3, q4⟩ := p)
             try replace oA := own_below oA bB))
        all_goals
          have HE : Hid (cs ++ encI xn ++ encI xa = encI xs.length ++ (xs.take (k + 1)).flatMap wireN) := by unfold Hid; rw [HT.out, ← List.append_assoc, hbs.out, HW.out, List.append_assoc]; simp [wireB]
          go_wp2
          go_roundw
          case rel => exact ⟨k + 1, by omega, by go_num, by rw [← HE.out]; exact O3.1, O3.2.1⟩
          case measure => simp [intOf]; omega
      · obtain ⟨q0, q1, q2, q3, q4⟩ := O2.c0
        go_wp2_with fail
        refine (sput_any xa _ (by omega)).mono ?_
        rintro e wc ⟨vc, rfl, oc, bc⟩
        obtain ⟨ac, cc, rfl⟩ := own_form oc
        clear q0 q1 q2 q3 q4
        replace O2 := O2.below bc
        have hl1 := encI_length xa
        go_wp2_with (at_builtin; refine wpList_put rfl _ _ rfl rfl O2 rfl oc (by omega) ?_)
        intro vd wd O3 hgd
        clear oc bc hgd O2
        have HE : Hid (cs ++ encI xa = encI xs.length ++ (xs.take (k + 1)).flatMap wireN) := by unfold Hid; rw [HT.out, ← List.append_assoc, hbs.out, HW.out]; simp [wireB]
        go_wp2
        go_roundw
        case rel => exact ⟨k + 1, by omega, by go_num, by rw [← HE.out]; exact O3.1, O3.2.1⟩
        case measure => simp [intOf]; omega
      · obtain ⟨q0, q1, q2, q3, q4⟩ := O2.c0
        go_wp2_with fail
        refine (sput_any xn _ (by omega)).mono ?_
        rintro e wc ⟨vc, rfl, oc, bc⟩
        obtain ⟨ac, cc, rfl⟩ := own_form oc
        clear q0 q1 q2 q3 q4
        replace O2 := O2.below bc
        have hl1 := encI_length xn
        go_wp2_with (at_builtin; refine wpList_put rfl _ _ rfl rfl O2 rfl oc (by omega) ?_)
        intro vd wd O3 hgd
        clear oc bc hgd O2
        have HE : Hid (cs ++ encI xn = encI xs.length ++ (xs.take (k + 1)).flatMap wireN) := by unfold Hid; rw [HT.out, ← List.append_assoc, hbs.out, HW.out]; simp [wireB]
        go_wp2
        go_roundw
        case rel => exact ⟨k + 1, by omega, by go_num, by rw [← HE.out]; exact O3.1, O3.2.1⟩
        case measure => simp [intOf]; omega
      · obtain ⟨q0, q1, q2, q3, q4⟩ := O2.c0
        go_wp2_with fail
        refine (sput_any xn _ (by omega)).mono ?_
        rintro e wc ⟨vc, rfl, oc, bc⟩
        obtain ⟨ac, cc, rfl⟩ := own_form oc
        clear q0 q1 q2 q3 q4
        replace O2 := O2.below bc
        have hl1 := encI_length xn
        go_wp2_with (at_builtin; refine wpList_put rfl _ _ rfl rfl O2 rfl oc (by omega) ?_)
        intro vd wd O3 hgd
        clear oc bc hgd O2
        have HE : Hid (cs ++ encI xn = encI xs.length ++ (xs.take (k + 1)).flatMap wireN) := by unfold Hid; rw [HT.out, ← List.append_assoc, hbs.out, HW.out]; simp [wireB]
        go_wp2
        go_roundw
        case rel => exact ⟨k + 1, by omega, by go_num, by rw [← HE.out]; exact O3.1, O3.2.1⟩
        case measure => simp [intOf]; omega
    · have hke : k = xs.length := by omega
      subst hke
      rw [List.take_length] at own
      go_wp2
      go_ret
      exact ⟨u3, rfl, own_mono own (by omega), hB0.trans (bel.mono hB0.size)⟩
end Go.Proofs.YtbhfooafhbfniaaGreatDoor
