/-
  Texts that stood by themselves, laid into one.
-/
import Derived.Test.YtfmafkebddojjaaGreatDoorSAddM
import Derived.Test.YtfmafkebddojjaaGreatDoorMach2M
import Derived.Test.YtfmafkebddojjaaGreatDoorVMoveM
import Derived.Test.YtfmafkebddojjaaGreatDoorNumberM
import Derived.OneCell
import Derived.Test.YtfmafkebddojjaaGreatDoorMcTM
import Derived.Test.YtfmafkebddojjaaGreatDoorShapeM
import Derived.Test.YtfmafkebddojjaaGreatDoorBsM
import Derived.Test.YtfmafkebddojjaaGreatDoorIWire2M
import Derived.Deep.CutBlock
import Derived.Deep.CutRange
import Derived.Test.YtfmafkebddojjaaGreatDoorRcWhyM
/-
  Contract of spec's l2List: a list behind the pool that a pointer leads to.
-/
set_option maxRecDepth 100000
set_option maxHeartbeats 3200000
namespace Go.Proofs.YtfmafkebddojjaaGreatDoor
open Go.RowKit
end Go.Proofs.YtfmafkebddojjaaGreatDoor
namespace Go.Proofs.YtfmafkebddojjaaGreatDoor
open Go.RowKit Go.Maps
def padI (l : List Int) (n : Nat) : List Int := l ++ List.replicate (n - l.length) 0
end Go.Proofs.YtfmafkebddojjaaGreatDoor
namespace Go.Proofs.YtfmafkebddojjaaGreatDoor
open Go.RowKit
def ZlV (xs : List Nd) (k n : Nat) : List Int := Ziy xs k ++ List.replicate (n - k) 0
theorem Zks (v : Value) (xs : List Nd) (a : Int) (w : World) (R : NRow w v xs) :
  Calls Tryz.prog 164 #[.agg #[v], .int .i64 a] w fun e w' => e = .returned (.bool (hasI xs a)) /\ Below w.heap.size w w' := by
 obtain ⟨ao, cap, rfl, _, hm, _⟩ := R
 go_enter Tryz.func164, Tryz.ntmps164
 go_wp2_with fail
 refine (Zau _ _ _ _).mono ?_
 rintro e w1 ⟨rfl, rfl⟩
 go_wp2
 go_ret
 refine ⟨retB ?_, (Below.refl _ _).alloc (Nat.le_refl _) _⟩
 rw [Bool.eq_iff_iff]
 simp [hasI]
 omega
end Go.Proofs.YtfmafkebddojjaaGreatDoor
namespace Go.Proofs.YtfmafkebddojjaaGreatDoor
open Go.RowKit Go.Maps
def nblk (y : Nd) : Obj := .cells #[.int .i64 y.k, .int .i64 y.n, .string y.s, .int .i64 y.a, .int .i64 y.b] 210 (0, 0)
end Go.Proofs.YtfmafkebddojjaaGreatDoor
namespace Go.Proofs.YtfmafkebddojjaaGreatDoor
open Go.RowKit
theorem ZiJ (b base : Nat) (ao : Option Addr) (cap : Nat) (xs : List Nd) (x : Nd) (w : World) (hb : w.heap[b]? = some (.cells #[.slice ao xs.length cap] 40 (0, 0))) (ho : w.ownsRow base 210 5 (.slice ao xs.length cap) xs.length (ncs xs))
  (hm : xs.length <= 2097152) (hbb : base <= b) :
  Calls Tryz.prog 255 #[.pointer (some ⟨b, 0, none⟩), .agg #[.int .i64 x.k, .int .i64 x.n, .string x.s, .int .i64 x.a, .int .i64 x.b]] w fun e w' =>
   ∃ v', e = .returned (.int .i64 xs.length) /\ w'.heap[b]? = some (.cells #[v'] 40 (0, 0)) /\ w'.ownsRow base 210 5 v' (xs ++ [x]).length (ncs (xs ++ [x])) /\ Below base w w' /\ (∀ k, k < w.heap.size -> k ≠ b -> (Value.slice ao xs.length cap).ownBlock ≠ some k -> w'.heap[k]? = w.heap[k]?) := by
 obtain ⟨i0, hi, hz0, hz1, hz2⟩ := info_parts ZmD
 have hlt : b < w.heap.size := (bl hb)
 have hcb : w.cell? ⟨b, 0, none⟩ = some (.slice ao xs.length cap) := by rw [cell_of_row w b 0 _ _ _ hb]; rfl
 have hne : b ≠ w.heap.size := by omega
 go_enter Tryz.func255, Tryz.ntmps255
 go_wp2_with fail
 go_region_law (refine step_append_lies _ rfl _ _ 38 rfl base 210 i0 _ 5 48 Tryz.underlying38 hi hz0 hz1 hz2 rfl (by decide) _ _ _ rfl ((ho.alloc _).alloc _) ⟨w.heap.size + 1, 0, none⟩ 1 1 (ncs [x]) rfl rfl (World.news_of_block (cs := #[.int .i64 x.k, .int .i64 x.n, .string x.s, .int .i64 x.a, .int .i64 x.b]) (t := 210) (fr := (0, 0)) (heap_alloc2_new w _ _)) (ZaZ _) (by omega) (by unfold maxLen; omega) (by omega) (by simp; omega) (w.heap.size + 2) (by simp) ?_; intro g capg w1 hown hgrow hat hgl; have hb1 : w1.heap[b]? = some (.cells #[.slice ao xs.length cap] 40 (0, 0)) := (hgrow.block b (by simp; omega) (fun e => ZaR ho hb (by decide) e.symm)).trans ((heap_alloc_old _ _ (by simp; omega)).trans ((heap_alloc_old _ _ hlt).trans hb)); have kb1 : w1.cell? ⟨b, 0, none⟩ = some (.slice ao xs.length cap) := cell_of_row w1 b 0 _ _ _ hb1; have fb1 : w1.frozen? ⟨b, 0, none⟩ = false := frozen_of_row w1 b 0 _ _ hb1)
 all_goals
  have hown2 : w1.ownsRow base 210 5 (.slice (some ⟨g, 0, none⟩) (xs.length + 1) capg) (xs ++ [x]).length (ncs (xs ++ [x])) := by
   rw [Zay, List.length_append]
   exact hown
  have hs0 : base <= w.heap.size := by omega
  have hB1 : Below base w w1 := (((Below.refl base w).alloc hs0 _).drew.alloc (by simp; omega) _).grown hgrow (by simp; omega) (fun k hk => (ho.lt k hk).1)
  have hB2 := hB1.setCell (p := ⟨b, 0, none⟩) hbb (.slice (some ⟨g, 0, none⟩) (xs.length + 1) capg)
  have ho2 := ownsRow_setCell_other hown2 (a := ⟨b, 0, none⟩) (ZaR hown2 hb1 (by decide)) (.slice (some ⟨g, 0, none⟩) (xs.length + 1) capg)
  have hb2 := heap_setCell_same w1 b 0 _ _ (.slice (some ⟨g, 0, none⟩) (xs.length + 1) capg) hb1
  have hk2 : ∀ k, k < w.heap.size -> k ≠ b -> (Value.slice ao xs.length cap).ownBlock ≠ some k -> (w1.setCell ⟨b, 0, none⟩ (.slice (some ⟨g, 0, none⟩) (xs.length + 1) capg)).heap[k]? = w.heap[k]? := fun k hk hkb hko => by
   rw [heap_setCell_other w1 ⟨b, 0, none⟩ k _ (fun e => hkb e), hgrow.block k (by simp; omega) (fun e => hko e.symm)]
   exact (heap_alloc_old _ _ (by simp; omega)).trans (heap_alloc_old _ _ hk)
  clear hown hgrow hat hcb hb
  go_wp2
  go_ret
  exact ⟨_, by simp, hb2, ho2, hB2, hk2⟩
theorem Zmu : (Tryz.prog.info? 3).map (fun i => (i.zero, i.size, i.bytes)) = some (some (.int .i64 0), 1, 8) := by kernel_rfl
theorem ZgH {w w' : World} {B : Nat} {e : TypeId} {k n : Nat} {v : Value} {xs : List Value} (h : w.ownsRow B e k v n xs) (hs : ∀ g, v.ownBlock = some g -> w'.heap[g]? = w.heap[g]?) : w'.ownsRow B e k v n xs := by
 rcases h.2 with ⟨rfl, h0⟩ | ⟨g, cap, cur, rfl, hB, hg, r⟩
 ·exact ⟨h.1, .inl ⟨rfl, h0⟩⟩
 ·exact ⟨h.1, .inr ⟨g, cap, cur, rfl, hB, (hs g rfl).trans hg, r⟩⟩
theorem ZbV {w : World} {B : Nat} {e : TypeId} {k n : Nat} {v : Value} {xs : List Value} (h : w.ownsRow B e k v n xs) (g : Nat) (hg : v.ownBlock = some g) : ∃ c, w.heap[g]? = some (.cells c e (0, 0)) := by
 rcases h.2 with ⟨rfl, h0⟩ | ⟨g', cap, cur, rfl, hB, hg', r⟩
 ·cases hg
 ·simp only [Value.ownBlock, Option.some.injEq] at hg
  subst hg
  exact ⟨_, hg'⟩
def IntoS (w0 : World) (b base Q T N : Nat) (pv vt : Value) (L : List Nd) (S2 : List Int) (bs : List Bool) (qv : Value) (w : World) : Prop :=
 w.heap[b]? = some (.cells #[pv] 40 (0, 0)) /\ w.ownsRow base 210 5 pv L.length (ncs L) /\ w.ownsRow T 3 1 (.slice (some ⟨T, 0, none⟩) N N) N (iv S2) /\ w.ownsRow base 4 1 vt N (vb bs) /\ w.heap[Q]? = some (.cells #[qv] 40 (0, 0)) /\ Below base w0 w
theorem IntoS.below {w0 : World} {b base Q T N : Nat} {pv vt : Value} {L : List Nd} {S2 : List Int} {bs : List Bool} {qv : Value} {w w' : World} (h : IntoS w0 b base Q T N pv vt L S2 bs qv w) (hw : base <= w.heap.size) (hb : Below w.heap.size w w') : IntoS w0 b base Q T N pv vt L S2 bs qv w' :=
 ⟨(hb.block b (Array.getElem?_eq_some_iff.1 h.1).1).trans h.1, Zad h.2.1 hb, Zad h.2.2.1 hb, Zad h.2.2.2.1 hb, (hb.block Q (Array.getElem?_eq_some_iff.1 h.2.2.2.2.1).1).trans h.2.2.2.2.1, h.2.2.2.2.2.trans (hb.mono hw)⟩
theorem ZjP {w0 : World} {b base Q T N : Nat} {ap : Option Addr} {cp : Nat} {vt : Value} {L : List Nd} {S2 : List Int} {bs : List Bool} {qv : Value} {w : World} (y : Nd) (h : IntoS w0 b base Q T N (.slice ap L.length cp) vt L S2 bs qv w) (hL : L.length <= 2097152) (hbb : base <= b) (hbQ : b ≠ Q) :
  Calls Tryz.prog 255 #[.pointer (some ⟨b, 0, none⟩), .agg #[.int .i64 y.k, .int .i64 y.n, .string y.s, .int .i64 y.a, .int .i64 y.b]] w fun e w' => ∃ v', e = .returned (.int .i64 L.length) /\ IntoS w0 b base Q T N v' vt (L ++ [y]) S2 bs qv w' := by
 obtain ⟨h1, h2, h3, h4, h5, h6⟩ := h
 refine (ZiJ b base ap cp L y w h1 h2 hL hbb).mono ?_
 rintro e w' ⟨v', rfl, hb', ho', hB', hk⟩
 have keep : ∀ (t : TypeId) (c : Array Value) (g : Nat), t ≠ 210 -> g ≠ b -> w.heap[g]? = some (.cells c t (0, 0)) -> w'.heap[g]? = w.heap[g]? := fun t c g ht hg hw => hk g (bl hw) hg (ZaR h2 hw ht)
 refine ⟨v', rfl, hb', ho', ZgH h3 (fun g hg => ?_), ZgH h4 (fun g hg => ?_), (keep _ _ _ (by decide) (Ne.symm hbQ) h5).trans h5, h6.trans hB'⟩
 ·obtain ⟨c, hc⟩ := ZbV h3 g hg
  refine keep _ _ _ (by decide) (fun e => ?_) hc
  subst e; rw [h1] at hc; injection hc with x1; injection x1 with _ x2 _; exact absurd x2 (by decide)
 ·obtain ⟨c, hc⟩ := ZbV h4 g hg
  refine keep _ _ _ (by decide) (fun e => ?_) hc
  subst e; rw [h1] at hc; injection hc with x1; injection x1 with _ x2 _; exact absurd x2 (by decide)
theorem IntoS.put {w0 : World} {b base Q T N : Nat} {pv vt : Value} {L : List Nd} {S2 : List Int} {bs : List Bool} {qv : Value} {w : World} (h : IntoS w0 b base Q T N pv vt L S2 bs qv w) (k : Nat) (z : Int) (hT : base <= T) (hbT : b ≠ T) (hQT : Q ≠ T) : IntoS w0 b base Q T N pv vt L (S2.set k z) bs qv (w.setCell ⟨T, k, none⟩ (.int .i64 z)) := by
 obtain ⟨h1, h2, h3, h4, h5, h6⟩ := h
 obtain ⟨c, hc⟩ := ZbV h3 T rfl
 have hs := (h3.stored k (.int .i64 z)).1
 rw [Zli] at hs
 refine ⟨(Below.heap_setCell _ _ _ _ hbT).trans h1, ZgH h2 (fun g hg => Below.heap_setCell _ _ _ _ (fun e => ?_)), hs, ZgH h4 (fun g hg => Below.heap_setCell _ _ _ _ (fun e => ?_)), (Below.heap_setCell _ _ _ _ hQT).trans h5, h6.setCell (p := ⟨T, k, none⟩) hT _⟩
 ·obtain ⟨c', hc'⟩ := ZbV h2 g hg
  simp only at e
  rw [e, hc] at hc'; injection hc' with x1; injection x1 with _ x2 _; exact absurd x2 (by decide)
 ·obtain ⟨c', hc'⟩ := ZbV h4 g hg
  simp only at e
  rw [e, hc] at hc'; injection hc' with x1; injection x1 with _ x2 _; exact absurd x2 (by decide)
theorem Zir (b base : Nat) (ap : Option Addr) (cp : Nat) (ps xs : List Nd) (bs : List Bool) (ao : Option Addr) (cap : Nat) (vt : Value) (w0 w : World) (hb : w.heap[b]? = some (.cells #[.slice ap ps.length cp] 40 (0, 0))) (ho : w.ownsRow base 210 5 (.slice ap ps.length cp) ps.length (ncs ps)) (hbb : base <= b)
  (R : NRow w0 (.slice ao xs.length cap) xs) (hw0 : w0.heap.size <= base) (h0 : Below base w0 w) (hoT : w.ownsRow base 4 1 vt xs.length (vb bs)) (hbl : bs.length = xs.length) (hp : Zap xs = true) (hps : ps.length <= 3001) :
  Calls Tryz.prog 248 #[.pointer (some ⟨b, 0, none⟩), .agg #[.slice ao xs.length cap], vt] w fun e w' => ∃ v' vp, e = .returned v' /\ w'.heap[b]? = some (.cells #[vp] 40 (0, 0)) /\ w'.ownsRow base 210 5 vp (ps ++ (Zbv ps.length xs bs).1).length (ncs (ps ++ (Zbv ps.length xs bs).1)) /\ w'.ownsRow base 3 1 v' xs.length (iv (Zbv ps.length xs bs).2) /\ Below base w0 w' := by
 have hlen := ZaD hp
 obtain ⟨i0, hi, hz0, hz1, hz2⟩ := info_parts Zmu
 have hbytes : i0.bytes * xs.length <= 281474976710656 := by rw [hz2]; omega
 have hmax : xs.length <= maxLen := by unfold maxLen; omega
 have hbw := (bl hb)
 have hB1 : Below w.heap.size w (w.alloc (Obj.cells #[.slice ao xs.length cap] 40)) := (Below.refl _ _).alloc (Nat.le_refl _) _
 have hq1 := heap_alloc_new w (Obj.cells #[.slice ao xs.length cap] 40)
 obtain ⟨at', qt, rfl⟩ := Zae hoT
 go_enter Tryz.func248, Tryz.ntmps248
 go_wp2_with (at_make; refine wpList_make_full _ rfl _ _ 148 rfl (w.heap.size + 1) 3 i0 (.int .i64 0) 1 Tryz.underlying148 hi hz0 hz1 _ _ _ _ xs.length rfl rfl rfl rfl hbytes hmax (by simp) ?_)
 intro w1 hown hgrow
 have hB2 : Below w.heap.size w w1 := hB1.grown hgrow (by simp) (by intro k hk; cases hk)
 have hS0 : IntoS w0 b base w.heap.size (w.heap.size + 1) xs.length (.slice ap ps.length cp) (.slice at' xs.length qt) ps (List.replicate xs.length 0) bs (.slice ao xs.length cap) w1 := by
  refine ⟨(hB2.block b hbw).trans hb, Zad ho hB2, ?_, Zad hoT hB2, (hgrow.block _ (by simp) (by simp)).trans hq1, h0.trans (hB2.mono (by omega))⟩
  have e : iv (List.replicate xs.length 0) = (madeCells #[Value.int .i64 0] xs.length).toList := by rw [toList_madeCells_one]; simp [iv]
  rw [e]
  simpa using hown
 have HA : Hid (Zbv ps.length xs bs = (its (xs.drop 0) bs 0).foldl (mvS ps.length) ([], List.replicate xs.length 0)) := rfl
 clear hgrow hown hbytes hmax hB1 hq1 hb ho hoT h0
 go_wp2_with fail
 go_loopw [8] (fun i wr => ∃ (k : Nat) (S1 : List Nd) (S2 : List Int) (ap' : Option Addr) (cp' : Nat), k <= xs.length /\ i = .int .i64 k /\ Hid (Zbv ps.length xs bs = (its (xs.drop k) bs k).foldl (mvS ps.length) (S1, S2)) /\ S1.length <= k /\ S2.length = xs.length /\ w.heap.size + 1 < wr.heap.size /\ IntoS w0 b base w.heap.size (w.heap.size + 1) xs.length (.slice ap' (ps ++ S1).length cp') (.slice at' xs.length qt) (ps ++ S1) S2 bs (.slice ao xs.length cap) wr) (fun i _ => xs.length - (intOf i).toNat)
 case atStart => exact ⟨0, [], List.replicate xs.length 0, ap, cp, by omega, rfl, HA, by simp, by simp, (hS0.2.2.1.lt _ rfl).2, by rw [List.append_nil]; exact hS0⟩
 case round =>
  clear hS0 HA hB2
  obtain ⟨k, S1, S2, ap', cp', hk, rfl, HM, hl1, hl2, hTw, hS⟩ := hrel
  have hS' := hS
  obtain ⟨hb, ho, hoI, hoT, hq, h0⟩ := hS'
  have cq : wr.cell? ⟨w.heap.size, 0, none⟩ = some (.slice ao xs.length cap) := by rw [cell_of_row wr _ 0 _ _ _ hq]; rfl
  by_cases hlt : k < xs.length
  ·obtain ⟨ao', cap', e', _, _, hz, hcell⟩ := R
   simp only [Value.slice.injEq, true_and] at e'
   obtain ⟨rfl, rfl⟩ := e'
   obtain ⟨g, o, rfl, hg, hcell⟩ := hcell (by intro e; subst e; simp at hlt)
   obtain ⟨x, hx⟩ : ∃ x, xs[k]? = some x := ⟨xs[k], by simp⟩
   obtain ⟨c0, c1, c2, c3, c4⟩ := (hcell k x hx).below h0 (by omega)
   have hnb := Za9 hp hx
   have HI := Zlv xs bs k x hx
   rcases hoT.2 with ⟨hnil, hn0⟩ | ⟨gt, capt, curt, et, hBt, hgt, _⟩
   ·omega
   simp only [Value.slice.injEq, true_and] at et
   obtain ⟨rfl, rfl⟩ := et
   have e0 := hoT.cellAt k (by omega)
   rw [Zcs _ _ (by omega)] at e0
   cases hbk : bs.getD k false with
   | false =>
    rw [hbk] at e0 HI
    have HM2 : Hid (Zbv ps.length xs bs = (its (xs.drop (k + 1)) bs (k + 1)).foldl (mvS ps.length) (S1, S2)) := by unfold Hid; rw [HM.out, HI]; rfl
    clear HM HI hcell hx hnb
    go_wp2_with fail
    go_roundw
    case rel => exact ⟨k + 1, S1, S2, ap', cp', by omega, by go_num, HM2, by omega, hl2, hTw, hS⟩
    case measure => simp [intOf]; omega
   | true =>
    rw [hbk] at e0 HI
    have hwb : base <= wr.heap.size := Nat.le_trans hbb (Nat.le_of_lt (bl hb))
    have hbQ : b ≠ w.heap.size := by omega
    have SA : ∀ (y : Nd) (Wc : World), Below wr.heap.size wr Wc -> Calls Tryz.prog 255 #[.pointer (some ⟨b, 0, none⟩), .agg #[.int .i64 y.k, .int .i64 y.n, .string y.s, .int .i64 y.a, .int .i64 y.b]] Wc fun e w' => ∃ v', e = .returned (.int .i64 (ps ++ S1).length) /\ IntoS w0 b base w.heap.size (w.heap.size + 1) xs.length v' (.slice (some ⟨gt, 0, none⟩) xs.length qt) ((ps ++ S1) ++ [y]) S2 bs (.slice (some ⟨g, o, none⟩) xs.length cap) w' := fun y Wc hc => ZjP y (hS.below hwb hc) (by simp; omega) hbb hbQ
    have HM2 : Hid (Zbv ps.length xs bs = (its (xs.drop (k + 1)) bs (k + 1)).foldl (mvS ps.length) (S1 ++ [nrm S2 x], S2.set k ((ps.length + S1.length : Nat) : Int))) := by unfold Hid; rw [HM.out, HI]; rfl
    have hcI := fun (j : Nat) (hj : j < xs.length) => (hoI.cellAt j (by omega)).trans (ZcI S2 j (by omega))
    have kAB := Zec x.k
    have hA : hasA x.k = true -> 0 <= x.a /\ x.a < (k : Int) := fun h => ZbZ hnb h
    have hBb : hasB x.k = true -> 0 <= x.b /\ x.b < (k : Int) := fun h => ZbX hnb h
    have hne1 : w.heap.size + 1 ≠ wr.heap.size := by omega
    clear HM HI hcell hx hnb hS ho hoI hoT hgt
    by_cases h5 : x.k = 5
    ·have h5A := kAB.1.2 (Or.inl h5)
     have h5B := kAB.2.2 h5
     obtain ⟨ha1, ha2⟩ := hA h5A
     obtain ⟨na, hna⟩ := Int.eq_ofNat_of_zero_le ha1
     obtain ⟨hb1, hb2⟩ := hBb h5B
     obtain ⟨nb', hnb'⟩ := Int.eq_ofNat_of_zero_le hb1
     have ea := hcI na (by omega)
     have eb := hcI nb' (by omega)
     have HNr : Hid (nrm S2 x = ⟨x.k, x.n, x.s, S2.getD na 0, S2.getD nb' 0⟩) := by unfold Hid nrm; rw [h5A, h5B, hna, hnb']; rfl
     rw [HNr.out, h5] at HM2
     rw [h5] at c0
     rw [hna] at c3 ha2
     rw [hnb'] at c4 hb2
     generalize S2.getD na 0 = fa at *
     generalize S2.getD nb' 0 = fb at *
     clear hA hBb kAB hcI
     go_wp2_with fail
     refine (SA ⟨5, x.n, x.s, fa, fb⟩ _ ?_).mono ?_
     ·first | exact (Below.refl wr.heap.size wr).alloc (Nat.le_refl _) _ | exact ((Below.refl wr.heap.size wr).alloc (Nat.le_refl _) _).setCell (Nat.le_refl _) _ | exact (((Below.refl wr.heap.size wr).alloc (Nat.le_refl _) _).setCell (Nat.le_refl _) _).setCell (Nat.le_refl _) _
     rintro e w6 ⟨v6, rfl, hS6⟩
     obtain ⟨a6, q6, rfl⟩ := Zae hS6.2.1
     have hT6 := (hS6.2.2.1.lt _ rfl).2
     have e6 := (hS6.2.2.1.cellAt k (by omega)).trans (ZcI S2 k (by omega))
     have f6 := hS6.2.2.1.frozenAt k
     have hS7 := hS6.put k ((ps.length + S1.length : Nat) : Int) (by omega) (by omega) (by omega)
     rw [List.append_assoc] at hS7
     clear hS6 SA
     go_wp2_with fail
     go_roundw
     case rel => exact ⟨k + 1, S1 ++ [⟨5, x.n, x.s, fa, fb⟩], S2.set k ((ps.length + S1.length : Nat) : Int), a6, q6, by omega, by go_num, HM2, by simp; omega, by simpa using hl2, by simpa [World.setCell] using hT6, by simpa using hS7⟩
     case measure => simp [intOf]; omega
    have h5b : (x.k == 5) = false := by simp [h5]
    have hBf : hasB x.k = false := by cases h : hasB x.k with | false => rfl | true => exact absurd (kAB.2.1 h) h5
    by_cases h67 : x.k = 6 \/ x.k = 7
    ·have h6A := kAB.1.2 (Or.inr h67)
     obtain ⟨ha1, ha2⟩ := hA h6A
     obtain ⟨na, hna⟩ := Int.eq_ofNat_of_zero_le ha1
     have ea := hcI na (by omega)
     have HNr : Hid (nrm S2 x = ⟨x.k, x.n, x.s, S2.getD na 0, x.b⟩) := by unfold Hid nrm; rw [h6A, hBf, hna]; rfl
     rw [HNr.out] at HM2
     rw [hna] at c3 ha2
     generalize S2.getD na 0 = fa at *
     clear hA hBb kAB hcI
     rcases h67 with h6 | h6
     ·rw [h6] at c0 HM2
      go_wp2_with fail
      refine (SA ⟨6, x.n, x.s, fa, x.b⟩ _ ?_).mono ?_
      ·first | exact (Below.refl wr.heap.size wr).alloc (Nat.le_refl _) _ | exact ((Below.refl wr.heap.size wr).alloc (Nat.le_refl _) _).setCell (Nat.le_refl _) _ | exact (((Below.refl wr.heap.size wr).alloc (Nat.le_refl _) _).setCell (Nat.le_refl _) _).setCell (Nat.le_refl _) _
      rintro e w6 ⟨v6, rfl, hS6⟩
      obtain ⟨a6, q6, rfl⟩ := Zae hS6.2.1
      have hT6 := (hS6.2.2.1.lt _ rfl).2
      have e6 := (hS6.2.2.1.cellAt k (by omega)).trans (ZcI S2 k (by omega))
      have f6 := hS6.2.2.1.frozenAt k
      have hS7 := hS6.put k ((ps.length + S1.length : Nat) : Int) (by omega) (by omega) (by omega)
      rw [List.append_assoc] at hS7
      clear hS6 SA
      go_wp2_with fail
      go_roundw
      case rel => exact ⟨k + 1, S1 ++ [⟨6, x.n, x.s, fa, x.b⟩], S2.set k ((ps.length + S1.length : Nat) : Int), a6, q6, by omega, by go_num, HM2, by simp; omega, by simpa using hl2, by simpa [World.setCell] using hT6, by simpa using hS7⟩
      case measure => simp [intOf]; omega
     ·rw [h6] at c0 HM2
      go_wp2_with fail
      refine (SA ⟨7, x.n, x.s, fa, x.b⟩ _ ?_).mono ?_
      ·first | exact (Below.refl wr.heap.size wr).alloc (Nat.le_refl _) _ | exact ((Below.refl wr.heap.size wr).alloc (Nat.le_refl _) _).setCell (Nat.le_refl _) _ | exact (((Below.refl wr.heap.size wr).alloc (Nat.le_refl _) _).setCell (Nat.le_refl _) _).setCell (Nat.le_refl _) _
      rintro e w6 ⟨v6, rfl, hS6⟩
      obtain ⟨a6, q6, rfl⟩ := Zae hS6.2.1
      have hT6 := (hS6.2.2.1.lt _ rfl).2
      have e6 := (hS6.2.2.1.cellAt k (by omega)).trans (ZcI S2 k (by omega))
      have f6 := hS6.2.2.1.frozenAt k
      have hS7 := hS6.put k ((ps.length + S1.length : Nat) : Int) (by omega) (by omega) (by omega)
      rw [List.append_assoc] at hS7
      clear hS6 SA
      go_wp2_with fail
      go_roundw
      case rel => exact ⟨k + 1, S1 ++ [⟨7, x.n, x.s, fa, x.b⟩], S2.set k ((ps.length + S1.length : Nat) : Int), a6, q6, by omega, by go_num, HM2, by simp; omega, by simpa using hl2, by simpa [World.setCell] using hT6, by simpa using hS7⟩
      case measure => simp [intOf]; omega
    ·have h6b : (x.k == 6) = false := by simp; intro e; exact h67 (Or.inl e)
     have h7b : (x.k == 7) = false := by simp; intro e; exact h67 (Or.inr e)
     have hAf : hasA x.k = false := by cases h : hasA x.k with | false => rfl | true => rcases kAB.1.1 h with e | e | e; exact absurd e h5; exact absurd (Or.inl e) h67; exact absurd (Or.inr e) h67
     have HNr : Hid (nrm S2 x = ⟨x.k, x.n, x.s, x.a, x.b⟩) := by unfold Hid nrm; rw [hAf, hBf]; rfl
     rw [HNr.out] at HM2
     clear hA hBb kAB hcI
     go_wp2_with fail
     refine (SA ⟨x.k, x.n, x.s, x.a, x.b⟩ _ ?_).mono ?_
     ·first | exact (Below.refl wr.heap.size wr).alloc (Nat.le_refl _) _ | exact ((Below.refl wr.heap.size wr).alloc (Nat.le_refl _) _).setCell (Nat.le_refl _) _
     rintro e w6 ⟨v6, rfl, hS6⟩
     obtain ⟨a6, q6, rfl⟩ := Zae hS6.2.1
     have hT6 := (hS6.2.2.1.lt _ rfl).2
     have e6 := (hS6.2.2.1.cellAt k (by omega)).trans (ZcI S2 k (by omega))
     have f6 := hS6.2.2.1.frozenAt k
     have hS7 := hS6.put k ((ps.length + S1.length : Nat) : Int) (by omega) (by omega) (by omega)
     rw [List.append_assoc] at hS7
     clear hS6 SA
     go_wp2_with fail
     go_roundw
     case rel => exact ⟨k + 1, S1 ++ [⟨x.k, x.n, x.s, x.a, x.b⟩], S2.set k ((ps.length + S1.length : Nat) : Int), a6, q6, by omega, by go_num, HM2, by simp; omega, by simpa using hl2, by simpa [World.setCell] using hT6, by simpa using hS7⟩
     case measure => simp [intOf]; omega
  ·have hke : k = xs.length := by omega
   subst hke
   have HE : Hid (Zbv ps.length xs bs = (S1, S2)) := by unfold Hid; rw [HM.out, ZkP]; rfl
   go_wp2_with fail
   go_ret
   rw [HE.out]
   exact ⟨_, _, rfl, hb, ho, Zaf hoI (by omega), h0⟩
end Go.Proofs.YtfmafkebddojjaaGreatDoor
