/-
  The contracts of the writer's methods value and pair: a value is put behind what is there, or they panic as soon as that is too long. The table of powers of ten reads as it is laid.
-/
import Derived.Test.YtbgkofinmdpmcaaGreatDoorWrM
import Derived.Test.YtbgkofinmdpmcaaGreatDoorWordM
import Derived.Test.YtbgkofinmdpmcaaGreatDoorSWr2M
import Derived.Deep.LoopGhost
import Derived.Deep.RegionHeld
namespace Go.Proofs.YtbgkofinmdpmcaaGreatDoor
open Go.RowKit

structure WS (p lo : Nat) (ao : Option Addr) (cap : Nat) (xs : List Nd) (w : World) (v : Value) (l : List UInt8) : Prop where
  wr : Wr w p lo (.slice ao xs.length cap) v l
  nb : ∃ w0, NRow w0 (.slice ao xs.length cap) xs ∧ w0.heap.size ≤ p ∧ Below w0.heap.size w0 w
  tb : Pow p w
  hlo : lo ≤ w.heap.size
theorem WS.step {p lo : Nat} {ao : Option Addr} {cap : Nat} {xs : List Nd} {w w' : World} {v v' : Value} {l l' : List UInt8} (S : WS p lo ao cap xs w v l) (hp : p < lo) (hF : Fr p lo w w') (hW : Wr w' p lo (.slice ao xs.length cap) v' l') : WS p lo ao cap xs w' v' l' := by
  have hb := hF.below S.hlo hp
  obtain ⟨w0, R, h0, hb0⟩ := S.nb
  exact ⟨hW, ⟨w0, R, h0, hb0.trans (hb.mono h0)⟩, S.tb.on hb, Nat.le_trans S.hlo hF.size⟩
theorem WS.below {p lo : Nat} {ao : Option Addr} {cap : Nat} {xs : List Nd} {w w' : World} {v : Value} {l : List UInt8} (S : WS p lo ao cap xs w v l) (hp : p < lo) (hb : Below w.heap.size w w') : WS p lo ao cap xs w' v l :=
  S.step hp (Fr.of_below hb) (S.wr.below hb)
/-- The nodes of the pool, where they lie. -/
theorem WS.node {p lo : Nat} {ao : Option Addr} {cap : Nat} {xs : List Nd} {w : World} {v : Value} {l : List UInt8} (S : WS p lo ao cap xs w v l) {i : Nat} {x : Nd} (hx : xs[i]? = some x) : ∃ g o, ao = some ⟨g, o, none⟩ ∧ g < p ∧ NAt w g (o + i * 5) x := by
  obtain ⟨w0, R, h0, hb0⟩ := S.nb
  obtain ⟨ao', cap', e, _, _, _, hcell⟩ := R
  simp only [Value.slice.injEq, true_and] at e
  obtain ⟨rfl, rfl⟩ := e
  have hl := (List.getElem?_eq_some_iff.1 hx).1
  obtain ⟨g, o, rfl, hg, hc⟩ := hcell (by intro e; subst e; simp at hl)
  exact ⟨g, o, rfl, by omega, (hc i x hx).below hb0 hg⟩
theorem WS.lens {p lo : Nat} {ao : Option Addr} {cap : Nat} {xs : List Nd} {w : World} {v : Value} {l : List UInt8} (S : WS p lo ao cap xs w v l) : xs.length ≤ cap ∧ xs.length ≤ 9223372036854775807 := by
  obtain ⟨w0, R, _⟩ := S.nb
  obtain ⟨ao', cap', e, hc, hm, _⟩ := R
  simp only [Value.slice.injEq, true_and] at e
  obtain ⟨rfl, rfl⟩ := e
  exact ⟨hc.1, hm⟩

/-- A block of another kind is written. -/
theorem WS.but {p lo q : Nat} {ao : Option Addr} {cap : Nat} {xs : List Nd} {w w' : World} {v : Value} {l : List UInt8} {cs : Array Value} {t : TypeId} {fr : Nat × Nat} (S : WS p lo ao cap xs w v l) (hg : w.grownBy w' (some q)) (hq : w.heap[q]? = some (.cells cs t fr)) (ht : t ≠ 5) (hpq : p < q) : WS p lo ao cap xs w' v l := by
  have hb : Below p w w' := ⟨hg.os, hg.tape, hg.output, hg.size, fun k hk => hg.block k (by have := (Array.getElem?_eq_some_iff.1 S.wr.1).1; omega) (by simp; omega)⟩
  obtain ⟨w0, R, h0, hb0⟩ := S.nb
  refine ⟨⟨(hg.block p (Array.getElem?_eq_some_iff.1 S.wr.1).1 (by simp; omega)).trans S.wr.1, ?_⟩, ⟨w0, R, h0, hb0.trans (hb.mono h0)⟩, S.tb.on hb, Nat.le_trans S.hlo hg.size⟩
  have h := S.wr.2
  refine ⟨h.1, ?_⟩
  rcases h.2 with ⟨rfl, h0⟩ | ⟨g, cap, cur, rfl, hB, hgg, hr⟩
  · exact Or.inl ⟨rfl, h0⟩
  · refine Or.inr ⟨g, cap, cur, rfl, hB, (hg.block g (Array.getElem?_eq_some_iff.1 hgg).1 ?_).trans hgg, hr⟩
    intro e
    simp only [Option.some.injEq] at e
    subst e
    rw [hgg] at hq
    cases hq
    exact ht rfl
theorem Fr.but {p lo q : Nat} {w wr w' : World} (h : Fr p lo w wr) (hg : wr.grownBy w' (some q)) (hq : w.heap.size ≤ q) : Fr p lo w w' :=
  ⟨hg.os.trans h.os, hg.tape.trans h.tape, hg.output.trans h.output, Nat.le_trans h.size hg.size, fun k hk hp hc => (hg.block k (Nat.lt_of_lt_of_le hk h.size) (by simp; omega)).trans (h.block k hk hp hc)⟩
theorem set5d (w : World) (q : Nat) (t : TypeId) (a0 a1 a2 a3 a4 u0 u1 u2 u3 u4 : Value) (h : w.heap[q]? = some (.cells #[a0, a1, a2, a3, a4] t (0, 0))) :
    (((((w.setCell ⟨q, 0, none⟩ u0).setCell ⟨q, 1, none⟩ u1).setCell ⟨q, 2, none⟩ u2).setCell ⟨q, 3, none⟩ u3).setCell ⟨q, 4, none⟩ u4).drew.heap[q]? = some (.cells #[u0, u1, u2, u3, u4] t (0, 0)) ∧
      w.grownBy (((((w.setCell ⟨q, 0, none⟩ u0).setCell ⟨q, 1, none⟩ u1).setCell ⟨q, 2, none⟩ u2).setCell ⟨q, 3, none⟩ u3).setCell ⟨q, 4, none⟩ u4).drew (some q) := by
  obtain ⟨h4, gg⟩ := set5 w q t a0 a1 a2 a3 a4 u0 u1 u2 u3 u4 h
  generalize ((((w.setCell ⟨q, 0, none⟩ u0).setCell ⟨q, 1, none⟩ u1).setCell ⟨q, 2, none⟩ u2).setCell ⟨q, 3, none⟩ u3).setCell ⟨q, 4, none⟩ u4 = w5 at *
  exact ⟨h4, gg.os, gg.tape, gg.output, gg.size, gg.block⟩

/-- What value does at the node v. -/
def ValC (p lo : Nat) (ao : Option Addr) (cap : Nat) (xs : List Nd) (v : Nat) : Prop :=
  ∀ (w : World) (b : Value) (l : List UInt8), WS p lo ao cap xs w b l → l.length ≤ 400 →
    Calls Tryz.prog 28 #[.pointer (some ⟨p, 0, none⟩), .int .i64 v] w fun e w' => Fr p lo w w' ∧ e = putEnd (l.length + (fullT xs v).length) ∧ (l.length + (fullT xs v).length ≤ 400 → ∃ b', Wr w' p lo (.slice ao xs.length cap) b' (l ++ fullT xs v))

set_option maxRecDepth 100000 in
set_option maxHeartbeats 4000000 in
theorem wpair_any (p lo : Nat) (ao : Option Addr) (cap : Nat) (xs : List Nd) (v : Nat) (x : Nd) (hpl : p < lo) (hp : poolB xs = true) (hx : xs[v]? = some x) (h5 : x.k = 5) (ih : ∀ j, j < v → ValC p lo ao cap xs j)
    (w : World) (b : Value) (l : List UInt8) (S : WS p lo ao cap xs w b l) (hl : l.length ≤ 400) :
    Calls Tryz.prog 53 #[.pointer (some ⟨p, 0, none⟩), .agg #[.int .i64 x.k, .int .i64 x.n, .string x.s, .int .i64 x.a, .int .i64 x.b]] w fun e w' => Fr p lo w w' ∧ e = putEnd (l.length + (fullT xs v).length) ∧ (l.length + (fullT xs v).length ≤ 400 → ∃ b', Wr w' p lo (.slice ao xs.length cap) b' (l ++ fullT xs v)) := by
  obtain ⟨ia, ib, ha, hb, hal, hbl⟩ := pool_pair hp hx h5
  have hft := fullT_pair hp hx h5 ha hb hal hbl
  have hlv := (List.getElem?_eq_some_iff.1 hx).1
  obtain ⟨xk, xn, xs', xa, xb⟩ := x
  dsimp only at h5 ha hb ⊢
  subst h5 ha hb
  have hB0 : Below w.heap.size w (w.alloc (Obj.cells #[.int .i64 5, .int .i64 xn, .string xs', .int .i64 ia, .int .i64 ib] 64)) := (Below.refl _ _).alloc (Nat.le_refl _) _
  have S0 := S.below hpl hB0
  have hF0 : Fr p lo w (w.alloc (Obj.cells #[.int .i64 5, .int .i64 xn, .string xs', .int .i64 ia, .int .i64 ib] 64)) := Fr.of_below hB0
  have hpw := (Array.getElem?_eq_some_iff.1 S.wr.1).1
  have HT : Hid (fullT xs v = [40] ++ fullT xs ia ++ restT xs ib ++ [41]) := hft
  clear hft hx
  go_enter Tryz.func53, Tryz.ntmps53
  go_wp2_with fail
  refine (wput_any p lo ao xs.length cap b l ⟨#[40]⟩ _ S0.wr hpl S0.hlo hl (by decide)).mono ?_
  rintro e w1 ⟨hF1, rfl, b1, W1⟩
  have S1 := S0.step hpl hF1 W1
  have hx1 : w1.heap[w.heap.size]? = some (.cells #[.int .i64 5, .int .i64 xn, .string xs', .int .i64 ia, .int .i64 ib] 64 (0, 0)) := hF1.keep (heap_alloc_new _ _) (by omega) (by decide)
  have hFF1 := hF0.trans hF1
  clear hF1 W1 hF0 S0 hB0
  by_cases h1 : l.length + 1 ≤ 400
  · rw [show (ByteArray.mk #[40]).size = 1 from rfl, putEnd_ok h1]
    have c3 : w1.cell? ⟨w.heap.size, 0 + 3, none⟩ = some (.int .i64 ia) := by rw [cell_of_row w1 _ 3 _ _ _ hx1]; rfl
    go_wp2_with fail
    refine (ih ia hal w1 b1 _ S1 (by simp; omega)).mono ?_
    rintro e w2 ⟨hF2, rfl, hW2⟩
    have hx2 := hF2.keep hx1 (by omega) (by decide)
    have hFF2 := hFF1.trans hF2
    have e2 : (l ++ [40]).length + (fullT xs ia).length = l.length + 1 + (fullT xs ia).length := by simp
    rw [e2]
    by_cases h2 : l.length + 1 + (fullT xs ia).length ≤ 400
    · rw [putEnd_ok h2]
      obtain ⟨b2, W2⟩ := hW2 (by rw [e2]; exact h2)
      have S2 := S1.step hpl hF2 W2
      have hpl2 := S2.wr.1
      obtain ⟨hcap, hlen⟩ := S2.lens
      obtain ⟨y, hy⟩ : ∃ y, xs[ib]? = some y := ⟨xs[ib], by simp [show ib < xs.length by omega]⟩
      obtain ⟨g, o, rfl, hg, d0, d1, d2, d3, d4⟩ := S2.node hy
      have c4 : w2.cell? ⟨w.heap.size, 0 + 4, none⟩ = some (.int .i64 ib) := by rw [cell_of_row w2 _ 4 _ _ _ hx2]; rfl
      have q0 : w2.cell? ⟨p, 0, none⟩ = some (.slice (some ⟨g, o, none⟩) xs.length cap) := by rw [cell_of_row w2 _ 0 _ _ _ hpl2]; rfl
      have hibn : ((ib : Int) < (xs.length : Int)) := by omega
      clear c3 hF2 hW2 hx1 hFF1
      obtain ⟨yk, yn, ys, ya, yb⟩ := y
      dsimp only at d0 d1 d2 d3 d4
      have hs2 : w.heap.size < w2.heap.size := (Array.getElem?_eq_some_iff.1 hx2).1
      have hgn : ¬ g = w2.heap.size := by omega
      have hpn : ¬ p = w2.heap.size := by omega
      have hwn : ¬ w.heap.size = w2.heap.size := by omega
      go_wp2_with fail
      go_region_held (fun w' => w'.cell? ⟨p, 0, none⟩ = some (.slice (some ⟨g, o, none⟩) xs.length cap) ∧ w'.cell? ⟨w.heap.size, 4, none⟩ = some (.int .i64 ib) ∧ w'.cell? ⟨g, o + ib * 5, none⟩ = some (.int .i64 yk) ∧ w'.cell? ⟨g, o + ib * 5 + 1, none⟩ = some (.int .i64 yn) ∧ w'.cell? ⟨g, o + ib * 5 + 2, none⟩ = some (.string ys) ∧ w'.cell? ⟨g, o + ib * 5 + 3, none⟩ = some (.int .i64 ya) ∧ w'.cell? ⟨g, o + ib * 5 + 4, none⟩ = some (.int .i64 yb)) (go_keep) (fail)
      have hB3 : Below w2.heap.size w2 (w2.alloc (Obj.cells #[.int .i64 yk, .int .i64 yn, .string ys, .int .i64 ya, .int .i64 yb] 64)).drew := ((Below.refl _ _).alloc (Nat.le_refl _) _).drew
      have hr3 : (w2.alloc (Obj.cells #[.int .i64 yk, .int .i64 yn, .string ys, .int .i64 ya, .int .i64 yb] 64)).drew.heap[w2.heap.size]? = some (.cells #[.int .i64 yk, .int .i64 yn, .string ys, .int .i64 ya, .int .i64 yb] 64 (0, 0)) := heap_alloc_new _ _
      have S3 := S2.below hpl hB3
      have hFF3 : Fr p lo w _ := hFF2.trans (Fr.of_below hB3)
      generalize hw3 : (w2.alloc (Obj.cells #[.int .i64 yk, .int .i64 yn, .string ys, .int .i64 ya, .int .i64 yb] 64)).drew = w3 at *
      obtain ⟨q, hq⟩ : ∃ q, q = w2.heap.size := ⟨_, rfl⟩
      rw [← hq] at hr3 ⊢
      have hqp : ¬ q = p := by omega
      have hwq : w.heap.size ≤ q := by omega
      clear hw3 hq hB3 d0 d1 d2 d3 d4 c4 q0 hgn hpn hwn hs2 hpl2 hx2 S2 hFF2 S1
      have HY : Hid (xs[ib]? = some ⟨yk, yn, ys, ya, yb⟩) := hy
      have HL : Hid (∃ m : List UInt8, m = l ++ [40] ++ fullT xs ia) := ⟨_, rfl⟩
      clear hy
      go_wp2_with fail
      go_loopg [] ib (fun k wr => ∃ (b' : Value) (l' : List UInt8) (yk : Int) (yn : Int) (ys : ByteArray) (ya yb : Int), xs[k]? = some ⟨yk, yn, ys, ya, yb⟩ ∧ k < v ∧ wr.heap[q]? = some (.cells #[.int .i64 yk, .int .i64 yn, .string ys, .int .i64 ya, .int .i64 yb] 64 (0, 0)) ∧ WS p lo (some ⟨g, o, none⟩) cap xs wr b' l' ∧ l'.length ≤ 400 ∧ Fr p lo w wr ∧ l' ++ restT xs k = l ++ [40] ++ fullT xs ia ++ restT xs ib)
      case atStart => exact ⟨b2, _, yk, yn, ys, ya, yb, HY.out, hbl, hr3, S3, by simp; omega, hFF3, rfl⟩
      case round =>
        clear HY hr3 S3 hFF3 HL h2 e2 hibn
        obtain ⟨b', l', yk, yn, ys, ya, yb, hy, hkv, hr, S', hl', hF', htx⟩ := hrel
        have HX : Hid (l' ++ restT xs gk = l ++ [40] ++ fullT xs ia ++ restT xs ib) := htx
        have HY : Hid (xs[gk]? = some ⟨yk, yn, ys, ya, yb⟩) := hy
        have HN : Hid (∀ x, xs[gk]? = some x → x.s.size ≤ 12) := fun x hx => pool_name hp hx
        have HLn : Hid (l.length + (fullT xs v).length = l'.length + (restT xs gk).length + 1) := by
          unfold Hid
          have h := congrArg List.length htx
          rw [HT.out]
          simp at h ⊢
          omega
        have c0 : wr.cell? ⟨q, 0, none⟩ = some (.int .i64 yk) := by rw [cell_of_row wr _ 0 _ _ _ hr]; rfl
        by_cases hk5 : yk = 5
        · obtain ⟨ja, jb, hja, hjb, hjal, hjbl⟩ := pool_pair hp hy hk5
          have HR := restT_pair hp hy hk5 hja hjb hjal hjbl
          dsimp only at hja hjb
          subst hk5 hja hjb
          clear hy htx
          go_wp2_with fail
          refine (wput_any p lo _ xs.length cap b' l' ⟨#[32]⟩ _ S'.wr hpl S'.hlo hl' (by decide)).mono ?_
          rintro e w4 ⟨hF4, rfl, b4, W4⟩
          have S4 := S'.step hpl hF4 W4
          have hr4 := hF4.keep hr hqp (by decide)
          have hFF4 := hF'.trans hF4
          have hln : (restT xs gk).length = 1 + (fullT xs ja).length + (restT xs jb).length := by rw [HR]; simp; omega
          have HR' : Hid (restT xs gk = [32] ++ fullT xs ja ++ restT xs jb) := HR
          rw [show (ByteArray.mk #[32]).size = 1 from rfl]
          clear hF4 W4 hr c0 HR
          by_cases h4 : l'.length + 1 ≤ 400
          · rw [putEnd_ok h4]
            have c3 : w4.cell? ⟨q, 0 + 3, none⟩ = some (.int .i64 ja) := by rw [cell_of_row w4 _ 3 _ _ _ hr4]; rfl
            go_wp2_with fail
            refine (ih ja (by omega) w4 b4 _ S4 (by simp; omega)).mono ?_
            rintro e w5 ⟨hF5, rfl, hW5⟩
            have hr5 := hF5.keep hr4 hqp (by decide)
            have hFF5 := hFF4.trans hF5
            have e5 : (l' ++ [32]).length + (fullT xs ja).length = l'.length + 1 + (fullT xs ja).length := by simp
            rw [e5]
            by_cases h5 : l'.length + 1 + (fullT xs ja).length ≤ 400
            · rw [putEnd_ok h5]
              obtain ⟨b5, W5⟩ := hW5 (by rw [e5]; exact h5)
              have S5 := S4.step hpl hF5 W5
              have hpl5 := S5.wr.1
              obtain ⟨z, hz⟩ : ∃ z, xs[jb]? = some z := ⟨xs[jb], by simp [show jb < xs.length by omega]⟩
              obtain ⟨g', o', eg, hg', d0, d1, d2, d3, d4⟩ := S5.node hz
              simp only [Option.some.injEq, Addr.mk.injEq, and_true] at eg
              obtain ⟨rfl, rfl⟩ := eg
              have c4 : w5.cell? ⟨q, 0 + 4, none⟩ = some (.int .i64 jb) := by rw [cell_of_row w5 _ 4 _ _ _ hr5]; rfl
              have k0 : w5.cell? ⟨q, 0, none⟩ = some (.int .i64 5) := by rw [cell_of_row w5 _ 0 _ _ _ hr5]; rfl
              have k1 : w5.cell? ⟨q, 0 + 1, none⟩ = some (.int .i64 yn) := by rw [cell_of_row w5 _ 1 _ _ _ hr5]; rfl
              have k2 : w5.cell? ⟨q, 0 + 2, none⟩ = some (.string ys) := by rw [cell_of_row w5 _ 2 _ _ _ hr5]; rfl
              have k3 : w5.cell? ⟨q, 0 + 3, none⟩ = some (.int .i64 ja) := by rw [cell_of_row w5 _ 3 _ _ _ hr5]; rfl
              have f0 : w5.frozen? ⟨q, 0, none⟩ = false := frozen_of_row w5 _ 0 _ _ hr5
              have f1 : w5.frozen? ⟨q, 0 + 1, none⟩ = false := frozen_of_row w5 _ 1 _ _ hr5
              have f2 : w5.frozen? ⟨q, 0 + 2, none⟩ = false := frozen_of_row w5 _ 2 _ _ hr5
              have f3 : w5.frozen? ⟨q, 0 + 3, none⟩ = false := frozen_of_row w5 _ 3 _ _ hr5
              have f4 : w5.frozen? ⟨q, 0 + 4, none⟩ = false := frozen_of_row w5 _ 4 _ _ hr5
              have q0 : w5.cell? ⟨p, 0, none⟩ = some (.slice (some ⟨g, o, none⟩) xs.length cap) := by rw [cell_of_row w5 _ 0 _ _ _ hpl5]; rfl
              have hjbn : ((jb : Int) < (xs.length : Int)) := by omega
              clear c3 hF5 hW5 hr4 hFF4 S4 S'
              have HZ : Hid (xs[jb]? = some z) := hz
              obtain ⟨zk, zn, zs, za, zb⟩ := z
              dsimp only at d0 d1 d2 d3 d4
              clear hz
              have hgq : ¬ g = q := by omega
              go_wp2_with fail
              go_region
              obtain ⟨hr6, hg6⟩ := set5d w5 q 64 _ _ _ _ _ (.int .i64 zk) (.int .i64 zn) (.string zs) (.int .i64 za) (.int .i64 zb) hr5
              have S6 := S5.but hg6 hr5 (by decide) (by omega)
              have hF6 := hFF5.but hg6 hwq
              clear d0 d1 d2 d3 d4 c4 k0 k1 k2 k3 f0 f1 f2 f3 f4 q0 hg6 hr5
              generalize (((((w5.setCell ⟨q, 0, none⟩ (.int .i64 zk)).setCell ⟨q, 1, none⟩ (.int .i64 zn)).setCell ⟨q, 2, none⟩ (.string zs)).setCell ⟨q, 3, none⟩ (.int .i64 za)).setCell ⟨q, 4, none⟩ (.int .i64 zb)).drew = w6 at *
              go_wp2
              go_roundg jb
              case measure => exact hjbl
              case rel => exact ⟨b5, _, zk, zn, zs, za, zb, HZ.out, by omega, hr6, S6, by simp; omega, hF6, by rw [← HX.out, HR'.out]; simp⟩
            · rw [putEnd_no h5]
              have hno : ¬ l.length + (fullT xs v).length ≤ 400 := by rw [HLn.out]; omega
              go_wp2
              exact ⟨rfl, hFF5, by rw [putEnd_no hno], fun h => absurd h hno⟩
          · rw [putEnd_no h4]
            have hno : ¬ l.length + (fullT xs v).length ≤ 400 := by rw [HLn.out]; omega
            go_wp2
            exact ⟨rfl, hFF4, by rw [putEnd_no hno], fun h => absurd h hno⟩
        · have hyn := pool_num hp hy
          have hys := pool_name hp hy
          dsimp only at hyn hys
          clear htx
          by_cases hk1 : yk = 1
          · have HR : Hid (restT xs gk = []) := restT_nil hy hk1
            clear hy
            go_wp2_with fail
            refine (wput_any p lo _ xs.length cap b' l' ⟨#[41]⟩ _ S'.wr hpl S'.hlo hl' (by decide)).mono ?_
            rintro e w4 ⟨hF4, rfl, b4, W4⟩
            have hFF4 := hF'.trans hF4
            have e4 : l'.length + (ByteArray.mk #[41]).size = l.length + (fullT xs v).length := by rw [HLn.out, HR.out]; rfl
            have HW : Hid (l' ++ [41] = l ++ fullT xs v) := by
              unfold Hid
              have := HX.out
              rw [HR.out, List.append_nil] at this
              rw [this, HT.out]
              simp
            rw [e4]
            clear hF4
            by_cases h4 : l.length + (fullT xs v).length ≤ 400
            · rw [putEnd_ok h4]
              go_wp2
              go_end0
              exact ⟨hFF4, by rw [putEnd_ok h4], fun _ => ⟨b4, by rw [← HW.out]; exact W4⟩⟩
            · rw [putEnd_no h4]
              go_wp2
              exact ⟨rfl, hFF4, by rw [putEnd_no h4], fun h => absurd h h4⟩
          · have HR : Hid (restT xs gk = [32, 46, 32] ++ wordL ⟨yk, yn, ys, ya, yb⟩) := restT_word hy hk5 hk1
            have hwl : (wordL ⟨yk, yn, ys, ya, yb⟩).length ≤ 1100 := wordL_len hyn.2 (by dsimp only; omega)
            clear hy
            have c1 : wr.cell? ⟨q, 0 + 1, none⟩ = some (.int .i64 yn) := by rw [cell_of_row wr _ 1 _ _ _ hr]; rfl
            have c2 : wr.cell? ⟨q, 0 + 2, none⟩ = some (.string ys) := by rw [cell_of_row wr _ 2 _ _ _ hr]; rfl
            have c3 : wr.cell? ⟨q, 0 + 3, none⟩ = some (.int .i64 ya) := by rw [cell_of_row wr _ 3 _ _ _ hr]; rfl
            have c4 : wr.cell? ⟨q, 0 + 4, none⟩ = some (.int .i64 yb) := by rw [cell_of_row wr _ 4 _ _ _ hr]; rfl
            have hpw' : p ≤ wr.heap.size := Nat.le_of_lt (Array.getElem?_eq_some_iff.1 S'.wr.1).1
            go_wp2_with fail
            refine (nodeword_any ⟨yk, yn, ys, ya, yb⟩ p wr hpw' S'.tb hyn.1 hyn.2).mono ?_
            rintro e w4 ⟨rfl, hb4⟩
            have S4 := S'.below hpl hb4
            have hFF4 := hF'.trans (Fr.of_below hb4)
            have hadd : ∀ w : World, (Op.stringOp .add ⟨#[32, 46, 32]⟩ (tx (wordL ⟨yk, yn, ys, ya, yb⟩))).run Tryz.prog w = .ok (.string (tx ([32, 46, 32] ++ wordL ⟨yk, yn, ys, ya, yb⟩))) w := fun w => by
              rw [run_string_add_sum w _ _ (by rw [tx_size]; show 3 + _ ≤ _; omega), ← tx_append]
              rfl
            have hzl : ([32, 46, 32] ++ wordL ⟨yk, yn, ys, ya, yb⟩).length ≤ 1103 := by simp; omega
            have HRl : Hid ((restT xs gk).length = ([32, 46, 32] ++ wordL ⟨yk, yn, ys, ya, yb⟩).length) := by unfold Hid; rw [HR.out]
            clear hb4 c0 c1 c2 c3 c4
            generalize [32, 46, 32] ++ wordL ⟨yk, yn, ys, ya, yb⟩ = zz at *
            go_wp2_with fail
            refine (wput_any p lo _ xs.length cap b' l' (tx zz) _ S4.wr hpl S4.hlo hl' (by rw [tx_size]; omega)).mono ?_
            rintro e w5 ⟨hF5, rfl, b5, W5⟩
            rw [tx_list] at W5
            rw [tx_size]
            have S5 := S4.step hpl hF5 W5
            have hFF5 := hFF4.trans hF5
            by_cases h5 : l'.length + zz.length ≤ 400
            · rw [putEnd_ok h5]
              go_wp2_with fail
              refine (wput_any p lo _ xs.length cap b5 _ ⟨#[41]⟩ _ S5.wr hpl S5.hlo (by simp; omega) (by decide)).mono ?_
              rintro e w6 ⟨hF6, rfl, b6, W6⟩
              have hFF6 := hFF5.trans hF6
              have e6 : (l' ++ zz).length + (ByteArray.mk #[41]).size = l.length + (fullT xs v).length := by rw [HLn.out, HRl.out, List.length_append]; rfl
              have HW : Hid (l' ++ zz ++ [41] = l ++ fullT xs v) := by
                unfold Hid
                have := HX.out
                rw [HR.out] at this
                rw [this, HT.out]
                simp
              rw [e6]
              by_cases h6 : l.length + (fullT xs v).length ≤ 400
              · rw [putEnd_ok h6]
                go_wp2
                go_end0
                exact ⟨hFF6, by rw [putEnd_ok h6], fun _ => ⟨b6, by rw [← HW.out]; exact W6⟩⟩
              · rw [putEnd_no h6]
                go_wp2
                exact ⟨rfl, hFF6, by rw [putEnd_no h6], fun h => absurd h h6⟩
            · rw [putEnd_no h5]
              have hno : ¬ l.length + (fullT xs v).length ≤ 400 := by rw [HLn.out, HRl.out]; omega
              go_wp2
              exact ⟨rfl, hFF5, by rw [putEnd_no hno], fun h => absurd h hno⟩
    · rw [putEnd_no h2]
      have hno : ¬ l.length + (fullT xs v).length ≤ 400 := by rw [HT.out]; simp; omega
      go_wp2
      exact ⟨rfl, hFF2, by rw [putEnd_no hno], fun h => absurd h hno⟩
  · rw [show (ByteArray.mk #[40]).size = 1 from rfl, putEnd_no h1]
    have hno : ¬ l.length + (fullT xs v).length ≤ 400 := by rw [HT.out]; simp; omega
    go_wp2
    exact ⟨rfl, hFF1, by rw [putEnd_no hno], fun h => absurd h hno⟩

set_option maxRecDepth 100000 in
set_option maxHeartbeats 1600000 in
theorem wvalue_step (p lo : Nat) (ao : Option Addr) (cap : Nat) (xs : List Nd) (v : Nat) (hpl : p < lo) (hp : poolB xs = true) (hv : v < xs.length) (ih : ∀ j, j < v → ValC p lo ao cap xs j) : ValC p lo ao cap xs v := by
  intro w b l S hl
  obtain ⟨x, hx⟩ : ∃ x, xs[v]? = some x := ⟨xs[v], by simp [hv]⟩
  obtain ⟨hcap, hlen⟩ := S.lens
  obtain ⟨g, o, rfl, hg, d0, d1, d2, d3, d4⟩ := S.node hx
  have hpw := (Array.getElem?_eq_some_iff.1 S.wr.1).1
  have q0 : w.cell? ⟨p, 0, none⟩ = some (.slice (some ⟨g, o, none⟩) xs.length cap) := by rw [cell_of_row w _ 0 _ _ _ S.wr.1]; rfl
  have hvn : ((v : Int) < (xs.length : Int)) := by omega
  have hB0 : Below w.heap.size w (w.alloc (Obj.cells #[.int .i64 x.k, .int .i64 x.n, .string x.s, .int .i64 x.a, .int .i64 x.b] 64)) := (Below.refl _ _).alloc (Nat.le_refl _) _
  have S0 := S.below hpl hB0
  have hF0 : Fr p lo w (w.alloc (Obj.cells #[.int .i64 x.k, .int .i64 x.n, .string x.s, .int .i64 x.a, .int .i64 x.b] 64)) := Fr.of_below hB0
  have hxn := pool_num hp hx
  have hxs := pool_name hp hx
  by_cases h5 : x.k = 5
  · obtain ⟨xk, xn, xs', xa, xb⟩ := x
    dsimp only at h5 d0 d1 d2 d3 d4 hxn hxs S0 hF0 hB0
    subst h5
    have HC := wpair_any p lo _ cap xs v _ hpl hp hx rfl ih _ b l S0 hl
    dsimp only at HC
    clear hx
    go_enter Tryz.func28, Tryz.ntmps28
    go_wp2_with fail
    refine HC.mono ?_
    rintro e w1 ⟨hF1, rfl, hW1⟩
    have hFF := hF0.trans hF1
    clear hF1 q0 d0 d1 d2 d3 d4
    by_cases h4 : l.length + (fullT xs v).length ≤ 400
    · rw [putEnd_ok h4]
      have W1 := hW1 h4
      go_wp2
      refine bodyPost_ret (results_none rfl _ _ _) rfl ?_
      exact ⟨hFF, by rw [putEnd_ok h4], fun _ => W1⟩
    · rw [putEnd_no h4]
      go_wp2
      exact ⟨rfl, hFF, by rw [putEnd_no h4], fun h => absurd h h4⟩
  · have HF : Hid (fullT xs v = wordL x) := fullT_word hx h5
    have hwl : (wordL x).length ≤ 1100 := wordL_len hxn.2 (by omega)
    clear hx
    go_enter Tryz.func28, Tryz.ntmps28
    go_wp2_with fail
    refine (nodeword_any x p _ (by simp; omega) S0.tb hxn.1 hxn.2).mono ?_
    rintro e w1 ⟨rfl, hb1⟩
    have S1 := S0.below hpl hb1
    have hF1 := hF0.trans (Fr.of_below hb1)
    clear hb1 q0 d0 d1 d2 d3 d4
    rw [← HF.out] at hwl ⊢
    go_wp2_with fail
    refine (wput_any p lo _ xs.length cap b l (tx (fullT xs v)) _ S1.wr hpl S1.hlo hl (by rw [tx_size]; omega)).mono ?_
    rintro e w2 ⟨hF2, rfl, b2, W2⟩
    have hFF := hF1.trans hF2
    rw [tx_list] at W2
    rw [tx_size]
    by_cases h4 : l.length + (fullT xs v).length ≤ 400
    · rw [putEnd_ok h4]
      go_wp2
      go_end0
      exact ⟨hFF, by rw [putEnd_ok h4], fun _ => ⟨b2, W2⟩⟩
    · rw [putEnd_no h4]
      go_wp2
      exact ⟨rfl, hFF, by rw [putEnd_no h4], fun h => absurd h h4⟩

theorem wvalue_any (p lo : Nat) (ao : Option Addr) (cap : Nat) (xs : List Nd) (hpl : p < lo) (hp : poolB xs = true) : ∀ v, v < xs.length → ValC p lo ao cap xs v := by
  intro v
  induction v using Nat.strongRecOn with
  | _ v ih => exact fun hv => wvalue_step p lo ao cap xs v hpl hp hv (fun j hj => ih j hj (by omega))
end Go.Proofs.YtbgkofinmdpmcaaGreatDoor
