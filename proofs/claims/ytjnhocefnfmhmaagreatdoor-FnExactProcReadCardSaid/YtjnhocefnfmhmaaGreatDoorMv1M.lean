/-
  Contracts of impl's reached: the function that it answers tells the nodes that are reached, each with its place, in their order.
-/
import Derived.RangeFuncNested
import Derived.RangeFuncBound
import Derived.RangeFuncCalls
import Derived.RangeFuncLeaves
import Derived.RangeFuncBox
import Derived.Shelf.Abstract
import Derived.Shelf.RegionOpen
import Derived.WalkKit
import Derived.OwnWalkIn
import Derived.TacticsInMore
import Derived.LoopNIn
import Derived.LoopIn
import Derived.Test.YtjnhocefnfmhmaaGreatDoorTdM
import Derived.Test.YtjnhocefnfmhmaaGreatDoorMvMathM
namespace Go.Proofs.YtjnhocefnfmhmaaGreatDoor
open Go.RowKit Go.Shelf
attribute [local go_sem] Oper.semAt_some

/-- A node of xs with its place. -/
abbrev Itm (xs : List Nd) : Type := { p : Nat × Nd // xs[p.1]? = some p.2 }
def ienc {xs : List Nd} (p : Itm xs) : Array Value := #[.int .i64 (p.1.1 : Int), .agg #[.int .i64 p.1.2.k, .int .i64 p.1.2.n, .string p.1.2.s, .int .i64 p.1.2.a, .int .i64 p.1.2.b]]
/-- The blocks of Z lie as they lay. -/
def KpZ (Z : Nat → Prop) (W W' : World) : Prop := ∀ b, Z b → W'.heap[b]? = W.heap[b]?
theorem KpZ.trans {Z : Nat → Prop} {A B C : World} (h : KpZ Z A B) (k : KpZ Z B C) : KpZ Z A C := fun b hb => (k b hb).trans (h b hb)
theorem KpZ.cell {Z : Nat → Prop} {W W' : World} (h : KpZ Z W W') {p : Addr} (hp : Z p.block) : W'.cell? p = W.cell? p := World.cell?_of_block (w := W) (h p.block hp)
theorem KpZ.lt {Z : Nat → Prop} {W W' : World} (h : KpZ Z W W') {b : Nat} (hp : Z b) (hb : b < W.heap.size) : b < W'.heap.size := by
  have := h b hp
  rw [Array.getElem?_eq_getElem hb] at this
  exact (Array.getElem?_eq_some_iff.1 this).1
theorem KpZ.alloc {Z : Nat → Prop} {W : World} (hZ : ∀ b, Z b → b < W.heap.size) (o : Obj) : KpZ Z W (W.alloc o) := fun b hb => Below.heap_alloc W o b (hZ b hb)

set_option maxRecDepth 100000 in
set_option maxHeartbeats 3200000 in
theorem reach1_stops (F : Fence) (n : Nat) (hf : F.fn 159) (hro : F.round = none) (hn : 1 ≤ n) (Z : Nat → Prop) (Bp Bh : Nat) (ao ah : Option Addr) (cap ch : Nat) (xs : List Nd) (bs : List Bool) (w : World) (hZ : ∀ b, Z b → b < w.heap.size) (zp : Z Bp) (zh : Z Bh)
    (hcp : w.cell? ⟨Bp, 0, none⟩ = some (.slice ao xs.length cap)) (hch : w.cell? ⟨Bh, 0, none⟩ = some (.slice ah xs.length ch)) (hlen : xs.length ≤ 3000) (hcap : xs.length ≤ cap) (hcap2 : xs.length ≤ ch)
    (hx : xs ≠ [] → ∃ g o, ao = some ⟨g, o, none⟩ ∧ Z g ∧ ∀ (i : Nat) (x : Nd), xs[i]? = some x → w.cell? ⟨g, o + i * 5, none⟩ = some (.int .i64 x.k) ∧ w.cell? ⟨g, o + i * 5 + 1, none⟩ = some (.int .i64 x.n) ∧ w.cell? ⟨g, o + i * 5 + 2, none⟩ = some (.string x.s) ∧ w.cell? ⟨g, o + i * 5 + 3, none⟩ = some (.int .i64 x.a) ∧ w.cell? ⟨g, o + i * 5 + 4, none⟩ = some (.int .i64 x.b))
    (hb : xs ≠ [] → ∃ g o, ah = some ⟨g, o, none⟩ ∧ Z g ∧ ∀ i, i < xs.length → w.cell? ⟨g, o + i, none⟩ = some (.bool (bs.getD i false))) :
    SeqStopsK F n Tryz.prog 159 #[.pointer (some ⟨Bp, 0, none⟩), .pointer (some ⟨Bh, 0, none⟩)] (ienc (xs := xs)) (KpZ Z) (fun ys => ys.map (·.1) = its xs bs 0) (fun _ => True) xs.length w := fun l J Jx W hW hJ hJx hY h0 => by
  have hKW : KpZ Z w W := fun b hb => hW.block b (hZ b hb)
  have hcp' := (hKW.cell (p := ⟨Bp, 0, none⟩) zp).trans hcp
  have hch' := (hKW.cell (p := ⟨Bh, 0, none⟩) zh).trans hch
  refine callsIn_of_wp Tryz.func159 rfl hf ?_ hro
  simp only [Tryz.ntmps159, List.size_toArray, List.length_cons, List.length_nil, Nat.reduceAdd, Nat.reduceSub, Array.replicate_succ, Array.replicate_zero, List.push_toArray, List.append_toArray, List.nil_append, List.cons_append]
  gi_wp2
  gi_loopw [9] (fun i wr => ∃ (k : Nat) (pre : List (Itm xs)), k ≤ xs.length ∧ i = .int .i64 k ∧ Hid (pre.map (·.1) ++ its (xs.drop k) bs k = its xs bs 0) ∧ pre.length ≤ k ∧ J pre wr ∧ KpZ Z w wr) (fun i _ => xs.length - (intOf i).toNat)
  case atStart => exact ⟨0, [], by omega, rfl, rfl, by simp, h0, hKW⟩
  case round =>
    clear hcp' hch' hKW h0
    obtain ⟨k, pre, hk, rfl, HP, hpl, hj, hK⟩ := hrel
    by_cases hlt : k < xs.length
    · have hne : xs ≠ [] := by intro e; subst e; simp at hlt
      obtain ⟨g, o, rfl, zg, hx⟩ := hx hne
      obtain ⟨g', o', rfl, zg', hb⟩ := hb hne
      obtain ⟨x, hxk⟩ : ∃ x, xs[k]? = some x := ⟨xs[k], by simp⟩
      obtain ⟨c0, c1, c2, c3, c4⟩ := hx k x hxk
      have c0 := (hK.cell (p := ⟨g, o + k * 5, none⟩) zg).trans c0
      have c1 := (hK.cell (p := ⟨g, o + k * 5 + 1, none⟩) zg).trans c1
      have c2 := (hK.cell (p := ⟨g, o + k * 5 + 2, none⟩) zg).trans c2
      have c3 := (hK.cell (p := ⟨g, o + k * 5 + 3, none⟩) zg).trans c3
      have c4 := (hK.cell (p := ⟨g, o + k * 5 + 4, none⟩) zg).trans c4
      have q0 := (hK.cell (p := ⟨g', o' + k, none⟩) zg').trans (hb k hlt)
      have hch' := (hK.cell (p := ⟨Bh, 0, none⟩) zh).trans hch
      have l1 := hK.lt zh (hZ _ zh)
      have l2 := hK.lt zg' (hZ _ zg')
      have l3 := hK.lt zg (hZ _ zg)
      have HS := its_at xs bs k x hxk
      have hKa : ∀ o, KpZ Z w (wr.alloc o) := fun o => hK.trans (KpZ.alloc (fun b hb => hK.lt hb (hZ b hb)) o)
      have hja : ∀ o, J pre (wr.alloc o) := fun o => hJ pre wr _ none hj (World.grownBy_alloc wr o none) (fun r e => by cases e)
      clear hx hb hcp
      cases hbk : bs.getD k false with
      | false =>
        rw [hbk] at q0 HS
        have HP2 : Hid (pre.map (·.1) ++ its (xs.drop (k + 1)) bs (k + 1) = its xs bs 0) := by unfold Hid; rw [← HP.out, HS]; rfl
        clear HP HS hY hj
        gi_wp2
        refine ⟨fun _ h => (by cases h), ?_⟩
        gi_wp2
        go_roundw
        case rel => exact ⟨k + 1, pre, by omega, by simp, HP2, by omega, hja _, hKa _⟩
        case measure => simp [intOf]; omega
      | true =>
        rw [hbk] at q0 HS
        have HP2 : Hid ((pre ++ [(⟨(k, x), hxk⟩ : Itm xs)]).map (·.1) ++ its (xs.drop (k + 1)) bs (k + 1) = its xs bs 0) := by
          unfold Hid
          rw [← HP.out, HS, if_pos rfl, List.map_append, List.append_assoc]
          rfl
        obtain ⟨fn, tmps, assign, body, hy, hR⟩ := hY pre ⟨(k, x), hxk⟩ (wr.alloc (Obj.cells #[.int .i64 x.k, .int .i64 x.n, .string x.s, .int .i64 x.a, .int .i64 x.b] 153)) (hja _) (by omega)
        dsimp only [ienc] at hy
        clear HP HS hY hj
        gi_wp2
        refine hR.mono ?_
        rintro e W3 (⟨rfl, hJ3, hk3⟩ | ⟨rfl, hJx3⟩)
        · gi_wp2
          go_roundw
          case rel => exact ⟨k + 1, pre ++ [⟨(k, x), hxk⟩], by omega, by simp, HP2, by simp; omega, hJ3, (hKa _).trans hk3⟩
          case measure => simp [intOf]; omega
        · gi_wp2
          refine bodyPost_ret (results_none rfl _ _ _) rfl ?_
          exact ⟨⟨_, rfl⟩, .inr ⟨_, trivial, hJx3⟩⟩
    · obtain rfl : k = xs.length := by omega
      have HE : Hid (pre.map (·.1) = its xs bs 0) := by
        have := HP.out
        rw [its_end, List.append_nil] at this
        exact this
      gi_wp2
      go_end0
      exact ⟨⟨_, rfl⟩, .inl ⟨pre, HE, hj⟩⟩

set_option maxRecDepth 100000 in
set_option maxHeartbeats 1600000 in
theorem ireached_any (ao : Option Addr) (cap : Nat) (vl : Value) (xs : List Nd) (rs : List Int) (w : World) (R : NRow w (.slice ao xs.length cap) xs) (L : IRow w vl rs) (hp : poolB xs = true) (hr : allI xs rs = true) :
    Calls Tryz.prog 129 #[.agg #[.slice ao xs.length cap], vl] w fun e w' => ∃ (Bp Bh : Nat) (vh : Value), e = .returned (.func (.func 159) #[] #[.pointer (some ⟨Bp, 0, none⟩), .pointer (some ⟨Bh, 0, none⟩)]) ∧ w.heap.size ≤ Bp ∧ w.heap.size ≤ Bh ∧ Bp < w'.heap.size ∧ Bh < w'.heap.size ∧ w'.cell? ⟨Bp, 0, none⟩ = some (.slice ao xs.length cap) ∧ w'.cell? ⟨Bh, 0, none⟩ = some vh ∧ w'.ownsRow w.heap.size 4 1 vh xs.length (vb (reachL xs rs)) ∧ Below w.heap.size w w' := by
  have hB0 : Below w.heap.size w (w.alloc (Obj.cells #[.slice ao xs.length cap] 40)) := (Below.refl _ _).alloc (Nat.le_refl _) _
  have hbx := heap_alloc_new w (Obj.cells #[.slice ao xs.length cap] 40)
  go_enter Tryz.func129, Tryz.ntmps129
  go_wp2_with fail
  refine (hungon_any ao cap vl xs rs _ (R.below hB0) (L.below hB0) hp hr).mono ?_
  rintro e w1 ⟨v1, rfl, ho1, hb1⟩
  obtain ⟨a1, q1, rfl⟩ := own_form ho1
  have hx1 := (hb1.block _ (by simp)).trans hbx
  have hsz1 := (Array.getElem?_eq_some_iff.1 hx1).1
  have hB1 := hB0.trans (hb1.mono hB0.size)
  go_wp2
  go_ret
  refine ⟨w.heap.size, w1.heap.size, _, rfl, Nat.le_refl _, hB1.size, by simp; omega, by simp, ?_, ?_, own_mono (ho1.alloc _) hB0.size, hB1.alloc hB1.size _⟩
  · rw [cell_of_row _ _ 0 _ _ _ ((Below.heap_alloc _ _ _ hsz1).trans hx1)]; rfl
  · rw [cell_of_row _ _ 0 _ _ _ (heap_alloc_new _ _)]; rfl
end Go.Proofs.YtjnhocefnfmhmaaGreatDoor
