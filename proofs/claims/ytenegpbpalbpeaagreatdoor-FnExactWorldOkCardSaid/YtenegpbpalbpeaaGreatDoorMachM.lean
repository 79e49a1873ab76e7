/-
  Texts that stood by themselves, laid into one.
-/
import Derived.Test.YtenegpbpalbpeaaGreatDoorSzGenM
import Derived.Test.YtenegpbpalbpeaaGreatDoorSizeIM
import Derived.Test.YtenegpbpalbpeaaGreatDoorCodeOkM
/-
  Contracts of impl's with and Make, and of spec's l2Copy and Make: a node behind a pool.
-/
namespace Go.Proofs.YtenegpbpalbpeaaGreatDoor
open Go.RowKit
theorem wpList_append_own_any {P : Program} (w : World) {ops : Array Oper} {rest : List Oper} {o : Oper} {a : Act} {Q : Exit → Act → World → Prop}
    (hg : o.guard = none) (s x : Operand) (t : TypeId) (hop : o.op = Op.call { callee := Callee.builtin Builtin.append, args := #[s, x], argTypes := #[t, t] })
    (base : Nat) (e : TypeId) (i : TypeInfo) (z : Value) (size bytes : Nat) (h1 : P.underlying t = some (.slice e)) (h2 : P.info? e = some i) (h3 : i.zero = some z) (h4 : i.size = size) (h5 : i.bytes = bytes) (h6 : z.cells.size = size) (h7 : 0 < size)
    (v : Value) (k : Nat) (xs : List Value) (hs : a.eval s = v) (hown : w.ownsRow base e size v k xs) (ao : Option Addr) (m c : Nat) (news : List Value) (hx : a.eval x = .slice ao m c) (hn : news.length = m * size)
    (hnone : ao = none → m = 0 ∧ c = 0) (hc : ∀ ad, ao = some ad → ∀ j u, news[j]? = some u → w.cell? (ad.add j) = some u) (h1c : ∀ u ∈ news, u.oneCell' = true) (b1 : k + m ≤ maxLen) (b2 : (k + m) * bytes ≤ 140737488355328) (b3 : base ≤ w.heap.size)
    (hK : ∀ v' w', w'.ownsRow base e size v' (k + m) (xs ++ news) → w.grownBy w' v.ownBlock → wpList P ops Q rest (a.put o.dst v') w') :
    wpList P ops Q (o :: rest) a w := by
  cases ao with
  | some ad => exact wpList_append_own w hg s x t hop base e i z size bytes h1 h2 h3 h4 h5 h6 h7 v k xs hs hown ad m c news hx hn (hc ad rfl) h1c b1 b2 b3 (fun v' w' h1 h2 _ => hK v' w' h1 h2)
  | none =>
    obtain ⟨rfl, rfl⟩ := hnone rfl
    have hnews : news = [] := List.eq_nil_of_length_eq_zero (by simpa using hn)
    subst hnews
    refine wpList_plain hg fun K hK' => ?_
    have hrun := run_append_owned_none (P := P) w base t o.type e i size h1 h2 _ k xs hown
    unfold Oper.wp
    simp [execOp, hop, resolve, invoke, builtin, hs, hx, hrun, Result.andThen]
    exact hK' _ _ (by simpa using hK v w (by simpa using hown) (World.grownBy.refl _ _))
theorem NRow.nilcap {w : World} {ao : Option Addr} {n cap : Nat} {xs : List Nd} (h : NRow w (.slice ao n cap) xs) : ao = none → n = 0 ∧ cap = 0 := by
  obtain ⟨ao', cap', e, ⟨h1, h2⟩, _⟩ := h
  simp only [Value.slice.injEq] at e
  obtain ⟨rfl, rfl, rfl⟩ := e
  intro h
  have := h2 h
  omega
theorem Tryz.sizeP : (Tryz.prog.info? 40).map (·.size) = some 1 := by kernel_rfl
end Go.Proofs.YtenegpbpalbpeaaGreatDoor
/-
  Contracts of impl.Make and spec.Make: a node behind a pool, or the pool as it was.
-/
namespace Go.Proofs.YtenegpbpalbpeaaGreatDoor
open Go.RowKit
def makeL (xs : List Nd) (x : Nd) : List Nd := if poolB xs = true then (if xs.length ≠ 3000 ∧ nodeB x xs.length = true then xs ++ [x] else xs) else []
def makeI (xs : List Nd) (x : Nd) : Int := if poolB xs = true then (if xs.length ≠ 3000 ∧ nodeB x xs.length = true then xs.length else -1) else -1
theorem put_pool {B base0 base1 n cap : Nat} {w0 w2 : World} {ao : Option Addr} {xs : List Value} (hy : w2.heap[B]? = some (.cells #[.slice none 0 0] 40 (0, 0))) (ho : w2.ownsRow base1 178 5 (.slice ao n cap) n xs)
    (hB : Below base0 w0 w2) (h1 : B < base1) (h2 : base0 ≤ B) :
    (w2.setCell ⟨B, 0, none⟩ (.slice ao n cap)).heap[B]? = some (.cells #[.slice ao n cap] 40 (0, 0)) ∧ (w2.setCell ⟨B, 0, none⟩ (.slice ao n cap)).ownsRow base0 178 5 (.slice ao n cap) n xs ∧ Below base0 w0 (w2.setCell ⟨B, 0, none⟩ (.slice ao n cap)) :=
  ⟨heap_setCell_same w2 B 0 _ _ _ hy, own_mono (ownsRow_setCell_below ho (a := ⟨B, 0, none⟩) h1 _) (by omega), hB.setCell (p := ⟨B, 0, none⟩) h2 _⟩
end Go.Proofs.YtenegpbpalbpeaaGreatDoor
/-
  Contracts of the laws' own helpers eqIntS, markIntS, heldIntS.
-/
namespace Go.Proofs.YtenegpbpalbpeaaGreatDoor
open Go.RowKit
def IRow (w : World) (v : Value) (zs : List Int) : Prop :=
  ∃ ao cap, v = .slice ao zs.length cap ∧ (zs.length ≤ cap ∧ (ao = none → cap = 0)) ∧ zs.length ≤ 9223372036854775807 ∧ (zs ≠ [] → ∃ g o, ao = some ⟨g, o, none⟩ ∧ g < w.heap.size ∧ ∀ i, i < zs.length → w.cell? ⟨g, o + i, none⟩ = some (.int .i64 (zs.getD i 0)))
theorem IRow.below {w w' : World} {v : Value} {zs : List Int} (h : IRow w v zs) (hb : Below w.heap.size w w') : IRow w' v zs := by
  obtain ⟨ao, cap, rfl, hc, hm, hcell⟩ := h
  refine ⟨ao, cap, rfl, hc, hm, fun hne => ?_⟩
  obtain ⟨g, o, rfl, hg, hcell⟩ := hcell hne
  exact ⟨g, o, rfl, Nat.lt_of_lt_of_le hg hb.size, fun i hi => (hb.cell (p := ⟨g, o + i, none⟩) hg).trans (hcell i hi)⟩
theorem IRow.of_own {w : World} {base : Nat} {v : Value} {zs : List Int} (h : w.ownsRow base 3 1 v zs.length (iv zs)) (hm : zs.length ≤ 9223372036854775807) : IRow w v zs := by
  rcases h.2 with ⟨rfl, h0⟩ | ⟨g, cap, cur, rfl, hb, hg, hnc, hcm, hcs, htake⟩
  · have : zs = [] := List.eq_nil_of_length_eq_zero h0
    subst this
    exact ⟨none, 0, rfl, by simp, by simp, fun h => absurd rfl h⟩
  · refine ⟨_, cap, rfl, ⟨hnc, fun h => by cases h⟩, hm, fun _ => ⟨g, 0, rfl, (Array.getElem?_eq_some_iff.1 hg).1, fun i hi => ?_⟩⟩
    have := h.cellAt i (by omega)
    rw [Nat.zero_add, this, iv_get zs i hi]
def imarked (k : Int) (zs : List Int) (i : Nat) : List Int := (List.range i).map (fun (j : Nat) => k + (j : Int)) ++ zs.drop i
end Go.Proofs.YtenegpbpalbpeaaGreatDoor
/-
  What MakeList makes, and the contracts of impl's hasAll and MakeList.
-/
namespace Go.Proofs.YtenegpbpalbpeaaGreatDoor
open Go.RowKit
def nilN : Nd := ⟨1, 0, ByteArray.empty, 0, 0⟩
def pairN (z : Int) (last : Nat) : Nd := ⟨5, 0, ByteArray.empty, z, last⟩
def pairsR : List Int → Nat → List Nd
  | [], _ => []
  | z :: r, last => pairN z last :: pairsR r (last + 1)
def more (zs : List Int) (n m : Nat) : List Nd := nilN :: pairsR (zs.drop m).reverse n
def allI (xs : List Nd) (zs : List Int) : Bool := zs.all (hasI xs)
def mlOk (xs : List Nd) (zs : List Int) : Bool := decide (xs.length + 1 + zs.length ≤ 3000) && allI xs zs
def mlL (xs : List Nd) (zs : List Int) : List Nd := if poolB xs = true then (if mlOk xs zs = true then xs ++ more zs xs.length 0 else xs) else []
def mlI (xs : List Nd) (zs : List Int) : Int := if poolB xs = true then (if mlOk xs zs = true then ((xs.length + zs.length : Nat) : Int) else -1) else -1
theorem all_drop (p : Int → Bool) (zs : List Int) (k : Nat) (h : k < zs.length) : (zs.drop k).all p = (p (zs.getD k 0) && (zs.drop (k + 1)).all p) := by
  rw [List.drop_eq_getElem_cons h, List.all_cons, List.getD_eq_getElem?_getD, List.getElem?_eq_getElem h]
  rfl
set_option maxHeartbeats 800000 in
theorem hasall_any (v vl : Value) (xs : List Nd) (zs : List Int) (w : World) (R : NRow w v xs) (L : IRow w vl zs) :
    Calls Tryz.prog 173 #[.agg #[v], vl] w fun e w' => e = .returned (.bool (allI xs zs)) ∧ Below w.heap.size w w' := by
  have R' := R
  obtain ⟨ao, cap, rfl, _⟩ := R'
  obtain ⟨al, cl, rfl, hcl, hlm, hcell⟩ := L
  go_enter Tryz.func173, Tryz.ntmps173
  go_wp2_with fail
  go_loopw [9] (fun i wr => ∃ k : Nat, k ≤ zs.length ∧ i = .int .i64 k ∧ Hid (allI xs zs = (zs.drop k).all (hasI xs)) ∧ wr.cell? ⟨w.heap.size, 0, none⟩ = some (.slice ao xs.length cap) ∧ w.heap.size < wr.heap.size ∧ Below w.heap.size w wr) (fun i _ => zs.length - (intOf i).toNat)
  case atStart => exact ⟨0, by omega, rfl, by simp [Hid, allI], by simp, by simp, (Below.refl _ _).alloc (Nat.le_refl _) _⟩
  case round =>
    obtain ⟨k, hk, rfl, HA, hbox, hbl, hb⟩ := hrel
    by_cases hlt : k < zs.length
    · obtain ⟨g, o, rfl, hg, hcell⟩ := hcell (by intro e; subst e; simp at hlt)
      have c0 := (hb.cell (p := ⟨g, o + k, none⟩) hg).trans (hcell k hlt)
      have HS : Hid (allI xs zs = (hasI xs (zs.getD k 0) && (zs.drop (k + 1)).all (hasI xs))) := by unfold Hid; rw [HA.out, all_drop _ _ _ hlt]
      clear hcell HA
      generalize zs.getD k 0 = z at c0 HS
      go_wp2_with fail
      refine (has_any _ xs _ _ (R.below hb)).mono ?_
      rintro e w2 ⟨rfl, hb2⟩
      have hB2 := hb.trans (hb2.mono hb.size)
      have hbox2 := (hb2.cell (p := ⟨w.heap.size, 0, none⟩) hbl).trans hbox
      have hbl2 := Nat.lt_of_lt_of_le hbl hb2.size
      clear c0 hb2 hbox hb
      generalize hA : hasI xs z = bA at HS ⊢
      clear hA
      cases bA with
      | false =>
        go_wp2
        go_ret
        exact ⟨by rw [HS.out]; rfl, hB2⟩
      | true =>
        go_wp2
        go_roundw
        case rel => exact ⟨k + 1, by omega, by go_num, by rw [HS.out]; rfl, hbox2, hbl2, hB2⟩
        case measure => simp [intOf]; omega
    · have e : k = zs.length := by omega
      subst e
      have HT : Hid (allI xs zs = true) := by unfold Hid; rw [HA.out, List.drop_length]; rfl
      clear HA
      go_wp2
      go_ret
      exact ⟨by rw [HT.out]; rfl, hb⟩
end Go.Proofs.YtenegpbpalbpeaaGreatDoor
/-
  A machine that is right, on impl's side: isAsked, stateFits. No condition.
-/
namespace Go.Proofs.YtenegpbpalbpeaaGreatDoor
open Go.RowKit
def placeB (n : Nat) (p : Int) : Bool := decide (0 ≤ p) && decide (p < n)
def askB (q : Int) : Bool := decide (12 < q) && decide (q ≤ 19) && decide (q ≠ 18)
def stateB (n : Nat) (xs : List Nd) (m : Mc) : Bool :=
  if m.t = 0 then placeB n m.p && decide (m.q = 0) && decide (m.r = 0)
  else if m.t = 1 then placeB n m.p && askB m.q && hasI xs m.r
  else if m.t = 2 then decide (m.p = 0) && decide (m.q = 0) && hasI xs m.r
  else if m.t = 3 then decide (m.p = 0) && decide (1 ≤ m.q) && decide (m.q ≤ 7) && decide (m.r = 0)
  else false
theorem isasked_any (q : Int) (w : World) : Calls Tryz.prog 185 #[.int .i64 q] w fun e w' => e = .returned (.bool (askB q)) ∧ w' = w := by
  go_enter Tryz.func185, Tryz.ntmps185
  by_cases h1 : 12 < q
  · by_cases h2 : q ≤ 19
    · by_cases h3 : q = 18
      · subst h3
        go_wp2
        go_ret
        exact ⟨rfl, rfl⟩
      · have q1 : (q == 18) = false := by simp [h3]
        have q2 : decide (q = 18) = false := by simp [h3]
        go_wp2
        go_ret
        exact ⟨by simp [askB, h1, h2, h3], rfl⟩
    · go_wp2
      go_ret
      exact ⟨by simp [askB]; omega, rfl⟩
  · go_wp2
    go_ret
    exact ⟨by simp [askB]; omega, rfl⟩
set_option maxRecDepth 100000 in
set_option maxHeartbeats 3200000 in
theorem istatefits_any (a1 a2 a3 : Option Addr) (n1 n2 n3 c1 c2 c3 : Nat) (v : Value) (xs : List Nd) (m : Mc) (w : World) (R : NRow w v xs) :
    Calls Tryz.prog 174 #[.agg #[.slice a1 n1 c1, .slice a2 n2 c2, .slice a3 n3 c3], .agg #[v, .int .i64 m.p, .int .i64 m.s, .int .i64 m.e, .int .i64 m.d, .int .i64 m.t, .int .i64 m.q, .int .i64 m.r]] w fun e w' => e = .returned (.bool (stateB n2 xs m)) ∧ Below w.heap.size w w' := by
  have R' := R
  obtain ⟨ao, cap, rfl, _⟩ := R'
  obtain ⟨mp, ms, me, md, mt, mq, mr⟩ := m
  have hB0 : Below w.heap.size w ((w.alloc (Obj.cells #[.slice a1 n1 c1, .slice a2 n2 c2, .slice a3 n3 c3] 44)).alloc (Obj.cells #[.slice ao xs.length cap, .int .i64 mp, .int .i64 ms, .int .i64 me, .int .i64 md, .int .i64 mt, .int .i64 mq, .int .i64 mr] 85)) := ((Below.refl _ _).alloc (Nat.le_refl _) _).alloc (by simp) _
  have hx0 := heap_alloc2_new w (Obj.cells #[.slice a1 n1 c1, .slice a2 n2 c2, .slice a3 n3 c3] 44) (Obj.cells #[.slice ao xs.length cap, .int .i64 mp, .int .i64 ms, .int .i64 me, .int .i64 md, .int .i64 mt, .int .i64 mq, .int .i64 mr] 85)
  have R0 := R.below hB0
  have hs0 := (Array.getElem?_eq_some_iff.1 hx0).1
  go_enter Tryz.func174, Tryz.ntmps174
  by_cases t0 : mt = 0
  · subst t0
    go_wp2_with fail
    refine (isplace_any _ _ _ _ _ _ _ _ _ mp _).mono ?_
    rintro e w1 ⟨rfl, hb1⟩
    have hB1 := hB0.trans (hb1.mono hB0.size)
    have hx1 := (hb1.block _ hs0).trans hx0
    have k6 : w1.cell? ⟨w.heap.size + 1, 0 + 6, none⟩ = some (.int .i64 mq) := by rw [cell_of_row w1 _ 6 _ _ _ hx1]; rfl
    have k7 : w1.cell? ⟨w.heap.size + 1, 0 + 7, none⟩ = some (.int .i64 mr) := by rw [cell_of_row w1 _ 7 _ _ _ hx1]; rfl
    have HS : Hid (stateB n2 xs ⟨mp, ms, me, md, 0, mq, mr⟩ = ((decide (0 ≤ mp) && decide (mp < n2)) && decide (mq = 0) && decide (mr = 0))) := rfl
    generalize (decide (0 ≤ mp) && decide (mp < n2)) = bb at HS ⊢
    clear hx0 hx1 hb1 hB0 R0
    cases bb with
    | true =>
      go_wp2
      all_goals
        go_ret
        refine ⟨retB ?_, hB1⟩
        rw [HS.out]
        first | (simp [*]; done) | (simp [*]; rfl)
    | false =>
      go_wp2
      go_ret
      exact ⟨retB (by rw [HS.out]; rfl), hB1⟩
  · by_cases t1 : mt = 1
    · subst t1
      go_wp2_with fail
      refine (isplace_any _ _ _ _ _ _ _ _ _ mp _).mono ?_
      rintro e w1 ⟨rfl, hb1⟩
      have hB1 := hB0.trans (hb1.mono hB0.size)
      have hx1 := (hb1.block _ hs0).trans hx0
      have k0 : w1.cell? ⟨w.heap.size + 1, 0, none⟩ = some (.slice ao xs.length cap) := by rw [cell_of_row w1 _ 0 _ _ _ hx1]; rfl
      have k6 : w1.cell? ⟨w.heap.size + 1, 0 + 6, none⟩ = some (.int .i64 mq) := by rw [cell_of_row w1 _ 6 _ _ _ hx1]; rfl
      have k7 : w1.cell? ⟨w.heap.size + 1, 0 + 7, none⟩ = some (.int .i64 mr) := by rw [cell_of_row w1 _ 7 _ _ _ hx1]; rfl
      have HS : Hid (stateB n2 xs ⟨mp, ms, me, md, 1, mq, mr⟩ = ((decide (0 ≤ mp) && decide (mp < n2)) && askB mq && hasI xs mr)) := rfl
      generalize (decide (0 ≤ mp) && decide (mp < n2)) = bb at HS ⊢
      clear hx0 hx1 hb1 hB0 R0
      cases bb with
      | true =>
        go_wp2_with fail
        refine (isasked_any mq _).mono ?_
        rintro e w2 ⟨rfl, rfl⟩
        generalize askB mq = b2 at HS ⊢
        cases b2 with
        | true =>
          go_wp2_with fail
          refine (has_any _ xs mr _ (R.below hB1)).mono ?_
          rintro e w3 ⟨rfl, hb3⟩
          have hB3 := hB1.trans (hb3.mono hB1.size)
          generalize hasI xs mr = b3 at HS ⊢
          clear k0 k6 k7
          cases b3 <;>
            (go_wp2
             go_ret
             exact ⟨retB (by rw [HS.out]; rfl), hB3⟩)
        | false =>
          go_wp2
          go_ret
          exact ⟨retB (by rw [HS.out]; rfl), hB1⟩
      | false =>
        go_wp2
        go_ret
        exact ⟨retB (by rw [HS.out]; rfl), hB1⟩
    · by_cases t2 : mt = 2
      · subst t2
        have HS : Hid (stateB n2 xs ⟨mp, ms, me, md, 2, mq, mr⟩ = (decide (mp = 0) && decide (mq = 0) && hasI xs mr)) := rfl
        by_cases p0 : mp = 0
        · subst p0
          by_cases q0 : mq = 0
          · subst q0
            go_wp2_with fail
            refine (has_any _ xs mr _ R0).mono ?_
            rintro e w3 ⟨rfl, hb3⟩
            have hB3 := hB0.trans (hb3.mono hB0.size)
            generalize hasI xs mr = b3 at HS ⊢
            cases b3 <;>
              (go_wp2
               go_ret
               exact ⟨retB (by rw [HS.out]; rfl), hB3⟩)
          · have g1 : (mq == 0) = false := by simp [q0]
            have g2 : decide (mq = 0) = false := by simp [q0]
            go_wp2
            go_ret
            exact ⟨retB (by rw [HS.out, g2]; rfl), hB0⟩
        · have g1 : (mp == 0) = false := by simp [p0]
          have g2 : decide (mp = 0) = false := by simp [p0]
          go_wp2
          go_ret
          exact ⟨retB (by rw [HS.out, g2]; rfl), hB0⟩
      · by_cases t3 : mt = 3
        · subst t3
          have HS : Hid (stateB n2 xs ⟨mp, ms, me, md, 3, mq, mr⟩ = (decide (mp = 0) && decide (1 ≤ mq) && decide (mq ≤ 7) && decide (mr = 0))) := rfl
          by_cases p0 : mp = 0
          · subst p0
            by_cases q1 : 1 ≤ mq
            · by_cases q7 : mq ≤ 7
              · by_cases r0 : mr = 0
                · subst r0
                  go_wp2
                  go_ret
                  exact ⟨retB (by rw [HS.out]; simp [q1, q7]), hB0⟩
                · have g1 : (mr == 0) = false := by simp [r0]
                  have g2 : decide (mr = 0) = false := by simp [r0]
                  go_wp2
                  go_ret
                  exact ⟨retB (by rw [HS.out, g2]; simp), hB0⟩
              · go_wp2
                go_ret
                exact ⟨retB (by rw [HS.out]; simp; omega), hB0⟩
            · go_wp2
              go_ret
              exact ⟨retB (by rw [HS.out]; simp; omega), hB0⟩
          · have g1 : (mp == 0) = false := by simp [p0]
            have g2 : decide (mp = 0) = false := by simp [p0]
            go_wp2
            go_ret
            exact ⟨retB (by rw [HS.out, g2]; rfl), hB0⟩
        · have HS : Hid (stateB n2 xs ⟨mp, ms, me, md, mt, mq, mr⟩ = false) := by unfold Hid stateB; simp [t0, t1, t2, t3]
          have g0 : (mt == 0) = false := by simp [t0]
          have g1 : (mt == 1) = false := by simp [t1]
          have g2 : (mt == 2) = false := by simp [t2]
          have g3 : (mt == 3) = false := by simp [t3]
          have f0 : decide (mt = 0) = false := by simp [t0]
          have f1 : decide (mt = 1) = false := by simp [t1]
          have f2 : decide (mt = 2) = false := by simp [t2]
          have f3 : decide (mt = 3) = false := by simp [t3]
          go_wp2
          go_ret
          exact ⟨retB (by rw [HS.out]), hB0⟩
end Go.Proofs.YtenegpbpalbpeaaGreatDoor
