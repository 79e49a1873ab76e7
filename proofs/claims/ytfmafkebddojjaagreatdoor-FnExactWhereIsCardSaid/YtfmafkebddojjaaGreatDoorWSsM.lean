/-
  Texts that stood by themselves, laid into one.
-/
import Derived.Test.YtfmafkebddojjaaGreatDoorWLsRM
/-
  Slices of homes, links, grams, parked ones, and of slices of texts: the contracts of the laws' helpers. No condition.
-/
set_option maxRecDepth 100000
set_option maxHeartbeats 3200000
namespace Go.Proofs.YtfmafkebddojjaaGreatDoor
open Go.RowKit
def EL (B : Nat) (w : World) (cs : List Value) (l : Lk) : Prop := ∃ vq vh, cs.toArray = #[.int .i64 l.sent, .int .i64 l.acked, vq, .int .i64 l.got, vh] /\ StRow w vq l.q /\ PcRow w vh l.h /\ Fr B vq /\ Fr B vh
theorem stbL : Stb EL := ⟨fun _ _ _ _ _ ⟨vq, vh, h, r1, r2, f1, f2⟩ hk => ⟨vq, vh, h, r1.kp f1 hk, r2.kp f2 hk, f1, f2⟩, fun _ _ _ _ _ ⟨vq, vh, h, r1, r2, f1, f2⟩ hc => ⟨vq, vh, h, r1, r2, f1.mono hc, f2.mono hc⟩⟩
def SmL (l : Lk) : Prop := l.q.length <= 1048576 /\ l.h.length <= 1048576
theorem PcRow.szp {w : World} {v : Value} {xs : List Pc} (R : PcRow w v xs) : ∀ x ∈ xs, x.s.size <= maxLen := by
 obtain ⟨_, _, _, _, _, h, _⟩ := R
 exact h
theorem NRow.small8 {w : World} {v : Value} {xs : List Nd} (R : NRow w v xs) : ∃ ao cap, v = .slice ao xs.length cap := by
 obtain ⟨ao, cap, h, _⟩ := R
 exact ⟨ao, cap, h⟩
theorem Zmj : (Tryz.prog.info? 85).map (fun i => (i.zero, i.size, i.bytes)) = some (some (.agg #[.int .i64 0, .int .i64 0, .slice none 0 0, .int .i64 0, .int .i64 0, .int .i64 0, .int .i64 0, .int .i64 0, .int .i64 0, .int .i64 0, .slice none 0 0, .slice none 0 0]), 12, 144) := by kernel_rfl
theorem Zi9 (v : Value) (xs : List Hm) (B : Nat) (w : World) (R : XRow B 12 EH w v xs) (hm : xs.length <= 2097152) (hs : ∀ x ∈ xs, SmH x) :
  Calls Tryz.prog 36 #[v] w fun e w' => ∃ v', e = .returned v' /\ XRow w.heap.size 12 EH w' v' xs /\ Below w.heap.size w w' := by
 obtain ⟨ao, cap, rfl, hcap, hm0, hcell⟩ := R
 obtain ⟨i0, hi, hz0, hz1, hz2⟩ := info_parts Zmj
 have hbytes : i0.bytes * xs.length <= 281474976710656 := by rw [hz2]; omega
 have hmax : xs.length <= maxLen := by unfold maxLen; omega
 go_enter Tryz.func36, Tryz.ntmps36
 go_wp2_with (at_make; refine wpList_make_full _ rfl _ _ 45 rfl w.heap.size 85 i0 _ 12 Tryz.underlying45 hi hz0 hz1 _ _ _ _ xs.length rfl rfl rfl rfl hbytes hmax (Nat.le_refl _) ?_)
 intro w1 hown hgrow
 have hbel : Below w.heap.size w w1 := (Below.refl _ _).grown hgrow (Nat.le_refl _) (by intro k hk; cases hk)
 have hown' : w1.ownsRow w.heap.size 85 12 (.slice (some ⟨w.heap.size, 0, none⟩) xs.length xs.length) xs.length (List.replicate xs.length (#[.int .i64 0, .int .i64 0, .slice none 0 0, .int .i64 0, .int .i64 0, .int .i64 0, .int .i64 0, .int .i64 0, .int .i64 0, .int .i64 0, .slice none 0 0, .slice none 0 0] : Array Value).toList).flatten := by
  rw [<- ZcN (z := #[.int .i64 0, .int .i64 0, .slice none 0 0, .int .i64 0, .int .i64 0, .int .i64 0, .int .i64 0, .int .i64 0, .int .i64 0, .int .i64 0, .slice none 0 0, .slice none 0 0]) (k := 12) rfl (by decide)]
  exact hown
 clear hgrow hown
 go_wp2
 go_loopw [4] (fun i wr => ∃ (j : Nat) (css : List (List Value)), j <= xs.length /\ i = .int .i64 j /\ Hid (css.length = xs.length) /\ Hid (∀ c ∈ css, c.length = 12) /\ Hid (∀ (i : Nat) c x, i < j -> css[i]? = some c -> xs[i]? = some x -> EH (w.heap.size + 1) wr c x) /\ wr.ownsRow w.heap.size 85 12 (.slice (some ⟨w.heap.size, 0, none⟩) xs.length xs.length) xs.length css.flatten /\ Below w.heap.size w wr) (fun i _ => xs.length - (intOf i).toNat)
 case atStart => exact ⟨0, _, by omega, rfl, by unfold Hid; simp, by intro c hc; rw [List.eq_of_mem_replicate hc]; rfl, fun i c x h => by omega, hown', hbel⟩
 case round =>
  clear hown' hbel hbytes hmax
  obtain ⟨j, css, hj, rfl, HL, HK, HE, hown, hbel⟩ := hrel
  by_cases hlt : j < xs.length
  ·obtain ⟨g, o, rfl, _, hg, hcell⟩ := hcell (by intro e; subst e; simp at hlt)
   obtain ⟨x, hx⟩ : ∃ x, xs[j]? = some x := ⟨xs[j], by simp [hlt]⟩
   obtain ⟨cs, hcs, hr, hE⟩ := hcell j x hx
   have HX : Hid (xs[j]? = some x) := hx
   replace hr := Zaj hr hbel hg
   replace hE := stbH.1 _ _ _ _ _ hE (Kp.of_below hbel)
   clear hcell hx
   obtain ⟨v1, v2, v3, hc, R1, R2, R3, _, _, _⟩ := hE
   obtain rfl : cs = (#[.int .i64 x.pl, .int .i64 x.i, v1, .int .i64 x.m.p, .int .i64 x.m.s, .int .i64 x.m.e, .int .i64 x.m.d, .int .i64 x.m.t, .int .i64 x.m.q, .int .i64 x.m.r, v2, v3] : Array Value).toList := congrArg Array.toList hc
   clear hc hcs
   have hwl : w.heap.size + 1 <= wr.heap.size := (hown.lt w.heap.size rfl).2
   go_wp2_with (refine wpList_load_mid rfl 111 _ rfl g (o + j * 12) rfl _ _ hr Tryz.underlying111 rfl (by kernel_rfl) ?_)
   refine (Zh4 x _ _ _ _ R1 R2 R3 (hs x (List.mem_of_getElem? HX.out))).mono ?_
   rintro e w2 ⟨u1, u2, u3, rfl, P1, P2, P3, F1, F2, F3, hb2⟩
   obtain ⟨p1, q1, rfl⟩ := P1.small8
   obtain ⟨p2, q2, rfl⟩ := P2.small
   obtain ⟨p3, q3, rfl⟩ := P3.small
   have hE2 : EH wr.heap.size w2 (#[.int .i64 x.pl, .int .i64 x.i, .slice p1 x.xs.length q1, .int .i64 x.m.p, .int .i64 x.m.s, .int .i64 x.m.e, .int .i64 x.m.d, .int .i64 x.m.t, .int .i64 x.m.q, .int .i64 x.m.r, .slice p2 x.bx.length q2, .slice p3 x.ox.length q3] : Array Value).toList x := ⟨_, _, _, rfl, P1, P2, P3, F1, F2, F3⟩
   have hown2 := Zad hown hb2
   have hB2 := hbel.trans (hb2.mono hbel.size)
   have hk2 : Kp (w.heap.size + 1) wr w2 := Kp.of_below hb2
   clear hown hb2 hbel hr
   go_wp2_with (refine Zbh rfl 85 _ _ rfl w.heap.size w.heap.size j xs.length 12 xs.length css (#[.int .i64 x.pl, .int .i64 x.i, .slice p1 x.xs.length q1, .int .i64 x.m.p, .int .i64 x.m.s, .int .i64 x.m.e, .int .i64 x.m.d, .int .i64 x.m.t, .int .i64 x.m.q, .int .i64 x.m.r, .slice p2 x.bx.length q2, .slice p3 x.ox.length q3] : Array Value).toList rfl rfl rfl HK.out HL.out hlt (by simp [Value.oneCell']) (by kernel_rfl) hown2 ?_)
   intro w3 hown3 hg3
   have hB3 : Below w.heap.size w w3 := hB2.grown hg3 hB2.size (fun k hk => by simp at hk; omega)
   have hk3 : Kp (w.heap.size + 1) w2 w3 := Kp.of_grown hg3 (by omega)
   have HL3 : Hid ((css.set j (#[.int .i64 x.pl, .int .i64 x.i, .slice p1 x.xs.length q1, .int .i64 x.m.p, .int .i64 x.m.s, .int .i64 x.m.e, .int .i64 x.m.d, .int .i64 x.m.t, .int .i64 x.m.q, .int .i64 x.m.r, .slice p2 x.bx.length q2, .slice p3 x.ox.length q3] : Array Value).toList).length = xs.length) := by unfold Hid; rw [List.length_set]; exact HL.out
   have HK3 : Hid (∀ c ∈ css.set j (#[.int .i64 x.pl, .int .i64 x.i, .slice p1 x.xs.length q1, .int .i64 x.m.p, .int .i64 x.m.s, .int .i64 x.m.e, .int .i64 x.m.d, .int .i64 x.m.t, .int .i64 x.m.q, .int .i64 x.m.r, .slice p2 x.bx.length q2, .slice p3 x.ox.length q3] : Array Value).toList, c.length = 12) := by
    intro c hc
    rcases List.mem_or_eq_of_mem_set hc with h | h
    ·exact HK.out c h
    ·rw [h]; rfl
   have HE3 : Hid (∀ (i : Nat) c y, i < j + 1 -> (css.set j (#[.int .i64 x.pl, .int .i64 x.i, .slice p1 x.xs.length q1, .int .i64 x.m.p, .int .i64 x.m.s, .int .i64 x.m.e, .int .i64 x.m.d, .int .i64 x.m.t, .int .i64 x.m.q, .int .i64 x.m.r, .slice p2 x.bx.length q2, .slice p3 x.ox.length q3] : Array Value).toList)[i]? = some c -> xs[i]? = some y -> EH (w.heap.size + 1) w3 c y) := by
    intro i c y hij hc hy
    by_cases e : i = j
    ·subst e
     rw [List.getElem?_set_self (by rw [HL.out]; exact hlt)] at hc
     rw [HX.out] at hy
     cases hc
     cases hy
     exact stbH.1 _ _ _ _ _ (stbH.2 _ _ _ _ _ hE2 hwl) hk3
    ·rw [List.getElem?_set_ne (fun h => e h.symm)] at hc
     exact stbH.1 _ _ _ _ _ (stbH.1 _ _ _ _ _ (HE.out i c y (by omega) hc hy) hk2) hk3
   clear hown2 hg3 hE2 hk2 hk3 HL HK HE HX
   go_wp2
   go_roundw
   case rel => exact ⟨j + 1, _, by omega, by go_num, HL3, HK3, HE3, hown3, hB3⟩
   case measure => simp [intOf]; omega
  ·go_wp2
   go_ret
   have : j = xs.length := by omega
   subst this
   exact ⟨_, rfl, XRow.of_own hown HL.out HK.out hm0 (fun i c x hc hx => stbH.2 _ _ _ _ _ (HE.out i c x (List.getElem?_eq_some_iff.1 hx).1 hc hx) (by omega)), hbel⟩
theorem Zix (v : Value) (xs : List Hm) (B : Nat) (l : Int) (w : World) (R : XRow B 12 EH w v xs) (hl0 : 0 <= l) (hl1 : l <= 1048576) :
  Calls Tryz.prog 29 #[v, .int .i64 l] w fun e w' => ∃ r : Int, e = .returned (.int .i64 r) /\ -1 <= r /\ r <= 1048576 /\ (0 <= r -> xs.length <= 1048576 /\ ∀ x ∈ xs, SmH x) /\ Below w.heap.size w w' := by
 obtain ⟨ao, cap, rfl, hcap, hm, hcell⟩ := R
 by_cases hlen : (xs.length : Int) <= l
 ·go_enter Tryz.func29, Tryz.ntmps29
  go_wp2
  go_loopw [1, 5] (fun l i wr => ∃ (k : Nat) (r : Int), k <= xs.length /\ i = .int .i64 k /\ l = .int .i64 r /\ 0 <= r /\ r <= 1048576 /\ Hid (∀ (j : Nat) x, xs[j]? = some x -> j < k -> SmH x) /\ Below w.heap.size w wr) (fun _ i _ => xs.length - (intOf i).toNat)
  case atStart => exact ⟨0, _, by omega, rfl, rfl, by omega, by omega, fun j x _ h => by omega, Below.refl _ _⟩
  case round =>
   obtain ⟨k, r, hk, rfl, rfl, hr0, hr1, HA, hb⟩ := hrel
   by_cases hlt : k < xs.length
   ·obtain ⟨g, o, rfl, _, hg, hcell⟩ := hcell (by intro e; subst e; simp at hlt)
    obtain ⟨x, hx⟩ : ∃ x, xs[k]? = some x := ⟨xs[k], by simp [hlt]⟩
    obtain ⟨cs, hcs, hr, hE⟩ := hcell k x hx
    have HX : Hid (xs[k]? = some x) := hx
    replace hr := Zaj hr hb hg
    replace hE := stbH.1 _ _ _ _ _ hE (Kp.of_below hb)
    clear hcell hx
    obtain ⟨v1, v2, v3, hc, R1, R2, R3, _, _, _⟩ := hE
    obtain rfl : cs = (#[.int .i64 x.pl, .int .i64 x.i, v1, .int .i64 x.m.p, .int .i64 x.m.s, .int .i64 x.m.e, .int .i64 x.m.d, .int .i64 x.m.t, .int .i64 x.m.q, .int .i64 x.m.r, v2, v3] : Array Value).toList := congrArg Array.toList hc
    clear hc hcs
    go_wp2_with (refine wpList_load_mid rfl 111 _ rfl g (o + k * 12) rfl _ _ hr Tryz.underlying111 rfl (by kernel_rfl) ?_)
    refine (Zhb x _ _ _ r _ R1 R2 R3 hr0 hr1).mono ?_
    rintro e w2 ⟨r2, rfl, h0, h1, h2, hb2⟩
    have hB2 := hb.trans (hb2.mono hb.size)
    clear hr hb2
    by_cases hr2 : r2 < 0
    ·have HR : Hid (r2 = -1) := by unfold Hid; omega
     go_wp2
     go_ret
     exact ⟨-1, rfl, by omega, by omega, fun h => by omega, hB2⟩
    ·have h2 := h2 (by omega)
     have HA2 : Hid (∀ (j : Nat) x, xs[j]? = some x -> j < k + 1 -> SmH x) := by
      intro j y hy hj
      by_cases e : j = k
      ·subst e
       rw [HX.out] at hy
       cases hy
       exact h2
      ·exact HA.out j y hy (by omega)
     go_wp2
     go_roundw
     case rel => exact ⟨k + 1, _, by omega, by go_num, rfl, by omega, by omega, HA2, hB2⟩
     case measure => simp [intOf]; omega
   ·go_wp2
    go_ret
    refine ⟨r, rfl, by omega, by omega, fun _ => ⟨by omega, fun x hx => ?_⟩, hb⟩
    obtain ⟨j, hj, e⟩ := List.getElem_of_mem hx
    exact HA.out j x (by rw [<- e]; simp [hj]) (by omega)
 ·go_enter Tryz.func29, Tryz.ntmps29
  go_wp2
  go_ret
  exact ⟨-1, rfl, by omega, by omega, fun h => by omega, Below.refl _ _⟩
theorem ZiC (va vb : Value) (xs : List Hm) (B C : Nat) (w : World) (Ra : XRow B 12 EH w va xs) (Rb : XRow C 12 EH w vb xs) :
  Calls Tryz.prog 44 #[va, vb] w fun e w' => e = .returned (.bool true) /\ Below w.heap.size w w' := by
 obtain ⟨aa, ca, rfl, hca, hm, hcella⟩ := Ra
 obtain ⟨ab, cb, rfl, hcb, _, hcellb⟩ := Rb
 have hn : ((xs.length : Int) != (xs.length : Int)) = false := by simp
 go_enter Tryz.func44, Tryz.ntmps44
 go_wp2
 go_loopw [5] (fun i wr => ∃ k : Nat, k <= xs.length /\ i = .int .i64 k /\ Below w.heap.size w wr) (fun i _ => xs.length - (intOf i).toNat)
 case atStart => exact ⟨0, by omega, rfl, Below.refl _ _⟩
 case round =>
  obtain ⟨k, hk, rfl, hb⟩ := hrel
  by_cases hlt : k < xs.length
  ·obtain ⟨ga, oa, rfl, _, hga, hcella⟩ := hcella (by intro e; subst e; simp at hlt)
   obtain ⟨gb, ob, rfl, _, hgb, hcellb⟩ := hcellb (by intro e; subst e; simp at hlt)
   obtain ⟨x, hx⟩ : ∃ x, xs[k]? = some x := ⟨xs[k], by simp [hlt]⟩
   obtain ⟨cs, hcs, ra, hEa⟩ := hcella k x hx
   obtain ⟨ds, hds, rb, hEb⟩ := hcellb k x hx
   replace ra := Zaj ra hb hga
   replace rb := Zaj rb hb hgb
   replace hEa := stbH.1 _ _ _ _ _ hEa (Kp.of_below hb)
   replace hEb := stbH.1 _ _ _ _ _ hEb (Kp.of_below hb)
   have HC : ∀ W, Below wr.heap.size wr W -> Calls Tryz.prog 91 #[.agg cs.toArray, .agg ds.toArray] W fun e w' => e = .returned (.bool true) /\ Below W.heap.size W w' := by
    intro W hW
    obtain ⟨a1, a2, a3, hca, R1, R2, R3, _, _, _⟩ := hEa
    obtain ⟨b1, b2, b3, hcb, S1, S2, S3, _, _, _⟩ := hEb
    rw [hca, hcb]
    exact Zhv x _ _ _ _ _ _ W (R1.below hW) (R2.below hW) (R3.below hW) (S1.below hW) (S2.below hW) (S3.below hW)
   have hga' := Nat.lt_of_lt_of_le hga hb.size
   have hgb' := Nat.lt_of_lt_of_le hgb hb.size
   clear hcella hcellb hx hEa hEb
   go_wp2_with fail
   refine Zlm ga oa gb ob xs.length ca cb k cs ds wr _ hlt hcs hds hga' hgb' ra rb HC ?_
   intro u17 u18 u19 u20 u21 u22 u23 u24 u25 W hW
   have hB2 : Below w.heap.size w W := hb.trans (hW.mono hb.size)
   clear HC ra rb
   go_wp2
   go_roundw
   case rel => exact ⟨k + 1, by omega, by go_num, hB2⟩
   case measure => simp [intOf]; omega
  ·go_wp2
   go_ret
   exact ⟨rfl, hb⟩
theorem Zme : (Tryz.prog.info? 88).map (fun i => (i.zero, i.size, i.bytes)) = some (some (.agg #[.int .i64 0, .int .i64 0, .slice none 0 0, .int .i64 0, .slice none 0 0]), 5, 72) := by kernel_rfl
theorem ZiK (v : Value) (xs : List Lk) (B : Nat) (w : World) (R : XRow B 5 EL w v xs) (hm : xs.length <= 2097152) (hs : ∀ x ∈ xs, SmL x) :
  Calls Tryz.prog 37 #[v] w fun e w' => ∃ v', e = .returned v' /\ XRow w.heap.size 5 EL w' v' xs /\ Below w.heap.size w w' := by
 obtain ⟨ao, cap, rfl, hcap, hm0, hcell⟩ := R
 obtain ⟨i0, hi, hz0, hz1, hz2⟩ := info_parts Zme
 have hbytes : i0.bytes * xs.length <= 281474976710656 := by rw [hz2]; omega
 have hmax : xs.length <= maxLen := by unfold maxLen; omega
 go_enter Tryz.func37, Tryz.ntmps37
 go_wp2_with (at_make; refine wpList_make_full _ rfl _ _ 46 rfl w.heap.size 88 i0 _ 5 Tryz.underlying46 hi hz0 hz1 _ _ _ _ xs.length rfl rfl rfl rfl hbytes hmax (Nat.le_refl _) ?_)
 intro w1 hown hgrow
 have hbel : Below w.heap.size w w1 := (Below.refl _ _).grown hgrow (Nat.le_refl _) (by intro k hk; cases hk)
 have hown' : w1.ownsRow w.heap.size 88 5 (.slice (some ⟨w.heap.size, 0, none⟩) xs.length xs.length) xs.length (List.replicate xs.length (#[.int .i64 0, .int .i64 0, .slice none 0 0, .int .i64 0, .slice none 0 0] : Array Value).toList).flatten := by
  rw [<- ZcN (z := #[.int .i64 0, .int .i64 0, .slice none 0 0, .int .i64 0, .slice none 0 0]) (k := 5) rfl (by decide)]
  exact hown
 clear hgrow hown
 go_wp2
 go_loopw [4] (fun i wr => ∃ (j : Nat) (css : List (List Value)), j <= xs.length /\ i = .int .i64 j /\ Hid (css.length = xs.length) /\ Hid (∀ c ∈ css, c.length = 5) /\ Hid (∀ (i : Nat) c x, i < j -> css[i]? = some c -> xs[i]? = some x -> EL (w.heap.size + 1) wr c x) /\ wr.ownsRow w.heap.size 88 5 (.slice (some ⟨w.heap.size, 0, none⟩) xs.length xs.length) xs.length css.flatten /\ Below w.heap.size w wr) (fun i _ => xs.length - (intOf i).toNat)
 case atStart => exact ⟨0, _, by omega, rfl, by unfold Hid; simp, by intro c hc; rw [List.eq_of_mem_replicate hc]; rfl, fun i c x h => by omega, hown', hbel⟩
 case round =>
  clear hown' hbel hbytes hmax
  obtain ⟨j, css, hj, rfl, HL, HK, HE, hown, hbel⟩ := hrel
  by_cases hlt : j < xs.length
  ·obtain ⟨g, o, rfl, _, hg, hcell⟩ := hcell (by intro e; subst e; simp at hlt)
   obtain ⟨x, hx⟩ : ∃ x, xs[j]? = some x := ⟨xs[j], by simp [hlt]⟩
   obtain ⟨cs, hcs, hr, hE⟩ := hcell j x hx
   have HX : Hid (xs[j]? = some x) := hx
   replace hr := Zaj hr hbel hg
   replace hE := stbL.1 _ _ _ _ _ hE (Kp.of_below hbel)
   clear hcell hx
   obtain ⟨v1, v2, hc, R1, R2, _, _⟩ := hE
   obtain rfl : cs = (#[.int .i64 x.sent, .int .i64 x.acked, v1, .int .i64 x.got, v2] : Array Value).toList := congrArg Array.toList hc
   clear hc hcs
   have hwl : w.heap.size + 1 <= wr.heap.size := (hown.lt w.heap.size rfl).2
   go_wp2_with (refine wpList_load_mid rfl 115 _ rfl g (o + j * 5) rfl _ _ hr Tryz.underlying115 rfl (by kernel_rfl) ?_)
   refine (Zh5 _ _ x _ R1 R2 (by have := (hs x (List.mem_of_getElem? HX.out)).1; omega) (by have := (hs x (List.mem_of_getElem? HX.out)).2; omega)).mono ?_
   rintro e w2 ⟨u1, u2, rfl, O1, O2, hb2⟩
   have F1 := Fr.of_own O1
   have F2 := Fr.of_own O2
   have P1 := StRow.of_own O1 (by have := (hs x (List.mem_of_getElem? HX.out)).1; omega) R1.szs
   have P2 := PcRow.of_own O2 (by have := (hs x (List.mem_of_getElem? HX.out)).2; omega) R2.szp
   obtain ⟨p1, q1, rfl⟩ := P1.small
   obtain ⟨p2, q2, rfl⟩ := P2.small
   clear O1 O2
   have hE2 : EL wr.heap.size w2 (#[.int .i64 x.sent, .int .i64 x.acked, .slice p1 x.q.length q1, .int .i64 x.got, .slice p2 x.h.length q2] : Array Value).toList x := ⟨_, _, rfl, P1, P2, F1, F2⟩
   have hown2 := Zad hown hb2
   have hB2 := hbel.trans (hb2.mono hbel.size)
   have hk2 : Kp (w.heap.size + 1) wr w2 := Kp.of_below hb2
   clear hown hb2 hbel hr
   go_wp2_with (refine Zbh rfl 88 _ _ rfl w.heap.size w.heap.size j xs.length 5 xs.length css (#[.int .i64 x.sent, .int .i64 x.acked, .slice p1 x.q.length q1, .int .i64 x.got, .slice p2 x.h.length q2] : Array Value).toList rfl rfl rfl HK.out HL.out hlt (by simp [Value.oneCell']) (by kernel_rfl) hown2 ?_)
   intro w3 hown3 hg3
   have hB3 : Below w.heap.size w w3 := hB2.grown hg3 hB2.size (fun k hk => by simp at hk; omega)
   have hk3 : Kp (w.heap.size + 1) w2 w3 := Kp.of_grown hg3 (by omega)
   have HL3 : Hid ((css.set j (#[.int .i64 x.sent, .int .i64 x.acked, .slice p1 x.q.length q1, .int .i64 x.got, .slice p2 x.h.length q2] : Array Value).toList).length = xs.length) := by unfold Hid; rw [List.length_set]; exact HL.out
   have HK3 : Hid (∀ c ∈ css.set j (#[.int .i64 x.sent, .int .i64 x.acked, .slice p1 x.q.length q1, .int .i64 x.got, .slice p2 x.h.length q2] : Array Value).toList, c.length = 5) := by
    intro c hc
    rcases List.mem_or_eq_of_mem_set hc with h | h
    ·exact HK.out c h
    ·rw [h]; rfl
   have HE3 : Hid (∀ (i : Nat) c y, i < j + 1 -> (css.set j (#[.int .i64 x.sent, .int .i64 x.acked, .slice p1 x.q.length q1, .int .i64 x.got, .slice p2 x.h.length q2] : Array Value).toList)[i]? = some c -> xs[i]? = some y -> EL (w.heap.size + 1) w3 c y) := by
    intro i c y hij hc hy
    by_cases e : i = j
    ·subst e
     rw [List.getElem?_set_self (by rw [HL.out]; exact hlt)] at hc
     rw [HX.out] at hy
     cases hc
     cases hy
     exact stbL.1 _ _ _ _ _ (stbL.2 _ _ _ _ _ hE2 hwl) hk3
    ·rw [List.getElem?_set_ne (fun h => e h.symm)] at hc
     exact stbL.1 _ _ _ _ _ (stbL.1 _ _ _ _ _ (HE.out i c y (by omega) hc hy) hk2) hk3
   clear hown2 hg3 hE2 hk2 hk3 HL HK HE HX
   go_wp2
   go_roundw
   case rel => exact ⟨j + 1, _, by omega, by go_num, HL3, HK3, HE3, hown3, hB3⟩
   case measure => simp [intOf]; omega
  ·go_wp2
   go_ret
   have : j = xs.length := by omega
   subst this
   exact ⟨_, rfl, XRow.of_own hown HL.out HK.out hm0 (fun i c x hc hx => stbL.2 _ _ _ _ _ (HE.out i c x (List.getElem?_eq_some_iff.1 hx).1 hc hx) (by omega)), hbel⟩
theorem ZiO (v : Value) (xs : List Lk) (B : Nat) (l : Int) (w : World) (R : XRow B 5 EL w v xs) (hl0 : 0 <= l) (hl1 : l <= 1048576) :
  Calls Tryz.prog 30 #[v, .int .i64 l] w fun e w' => ∃ r : Int, e = .returned (.int .i64 r) /\ -1 <= r /\ r <= 1048576 /\ (0 <= r -> xs.length <= 1048576 /\ ∀ x ∈ xs, SmL x) /\ Below w.heap.size w w' := by
 obtain ⟨ao, cap, rfl, hcap, hm, hcell⟩ := R
 by_cases hlen : (xs.length : Int) <= l
 ·go_enter Tryz.func30, Tryz.ntmps30
  go_wp2
  go_loopw [1, 5] (fun l i wr => ∃ (k : Nat) (r : Int), k <= xs.length /\ i = .int .i64 k /\ l = .int .i64 r /\ 0 <= r /\ r <= 1048576 /\ Hid (∀ (j : Nat) x, xs[j]? = some x -> j < k -> SmL x) /\ Below w.heap.size w wr) (fun _ i _ => xs.length - (intOf i).toNat)
  case atStart => exact ⟨0, _, by omega, rfl, rfl, by omega, by omega, fun j x _ h => by omega, Below.refl _ _⟩
  case round =>
   obtain ⟨k, r, hk, rfl, rfl, hr0, hr1, HA, hb⟩ := hrel
   by_cases hlt : k < xs.length
   ·obtain ⟨g, o, rfl, _, hg, hcell⟩ := hcell (by intro e; subst e; simp at hlt)
    obtain ⟨x, hx⟩ : ∃ x, xs[k]? = some x := ⟨xs[k], by simp [hlt]⟩
    obtain ⟨cs, hcs, hr, hE⟩ := hcell k x hx
    have HX : Hid (xs[k]? = some x) := hx
    replace hr := Zaj hr hb hg
    replace hE := stbL.1 _ _ _ _ _ hE (Kp.of_below hb)
    clear hcell hx
    obtain ⟨v1, v2, hc, R1, R2, _, _⟩ := hE
    obtain rfl : cs = (#[.int .i64 x.sent, .int .i64 x.acked, v1, .int .i64 x.got, v2] : Array Value).toList := congrArg Array.toList hc
    clear hc hcs
    go_wp2_with (refine wpList_load_mid rfl 115 _ rfl g (o + k * 5) rfl _ _ hr Tryz.underlying115 rfl (by kernel_rfl) ?_)
    refine (ZhW r hr0 hr1 _ _ x _ R1 R2).mono ?_
    rintro e w2 ⟨r2, rfl, h0, h1, h2, hb2⟩
    have hB2 := hb.trans (hb2.mono hb.size)
    clear hr hb2
    by_cases hr2 : r2 < 0
    ·have HR : Hid (r2 = -1) := by unfold Hid; omega
     go_wp2
     go_ret
     exact ⟨-1, rfl, by omega, by omega, fun h => by omega, hB2⟩
    ·have h2 := h2 (by omega)
     have HA2 : Hid (∀ (j : Nat) x, xs[j]? = some x -> j < k + 1 -> SmL x) := by
      intro j y hy hj
      by_cases e : j = k
      ·subst e
       rw [HX.out] at hy
       cases hy
       exact h2
      ·exact HA.out j y hy (by omega)
     go_wp2
     go_roundw
     case rel => exact ⟨k + 1, _, by omega, by go_num, rfl, by omega, by omega, HA2, hB2⟩
     case measure => simp [intOf]; omega
   ·go_wp2
    go_ret
    refine ⟨r, rfl, by omega, by omega, fun _ => ⟨by omega, fun x hx => ?_⟩, hb⟩
    obtain ⟨j, hj, e⟩ := List.getElem_of_mem hx
    exact HA.out j x (by rw [<- e]; simp [hj]) (by omega)
 ·go_enter Tryz.func30, Tryz.ntmps30
  go_wp2
  go_ret
  exact ⟨-1, rfl, by omega, by omega, fun h => by omega, Below.refl _ _⟩
theorem ZiZ (va vb : Value) (xs : List Lk) (B C : Nat) (w : World) (Ra : XRow B 5 EL w va xs) (Rb : XRow C 5 EL w vb xs) :
  Calls Tryz.prog 45 #[va, vb] w fun e w' => e = .returned (.bool true) /\ Below w.heap.size w w' := by
 obtain ⟨aa, ca, rfl, hca, hm, hcella⟩ := Ra
 obtain ⟨ab, cb, rfl, hcb, _, hcellb⟩ := Rb
 have hn : ((xs.length : Int) != (xs.length : Int)) = false := by simp
 go_enter Tryz.func45, Tryz.ntmps45
 go_wp2
 go_loopw [5] (fun i wr => ∃ k : Nat, k <= xs.length /\ i = .int .i64 k /\ Below w.heap.size w wr) (fun i _ => xs.length - (intOf i).toNat)
 case atStart => exact ⟨0, by omega, rfl, Below.refl _ _⟩
 case round =>
  obtain ⟨k, hk, rfl, hb⟩ := hrel
  by_cases hlt : k < xs.length
  ·obtain ⟨ga, oa, rfl, _, hga, hcella⟩ := hcella (by intro e; subst e; simp at hlt)
   obtain ⟨gb, ob, rfl, _, hgb, hcellb⟩ := hcellb (by intro e; subst e; simp at hlt)
   obtain ⟨x, hx⟩ : ∃ x, xs[k]? = some x := ⟨xs[k], by simp [hlt]⟩
   obtain ⟨cs, hcs, ra, hEa⟩ := hcella k x hx
   obtain ⟨ds, hds, rb, hEb⟩ := hcellb k x hx
   replace ra := Zaj ra hb hga
   replace rb := Zaj rb hb hgb
   replace hEa := stbL.1 _ _ _ _ _ hEa (Kp.of_below hb)
   replace hEb := stbL.1 _ _ _ _ _ hEb (Kp.of_below hb)
   have HC : ∀ W, Below wr.heap.size wr W -> Calls Tryz.prog 92 #[.agg cs.toArray, .agg ds.toArray] W fun e w' => e = .returned (.bool true) /\ Below W.heap.size W w' := by
    intro W hW
    obtain ⟨a1, a2, hca, R1, R2, _, _⟩ := hEa
    obtain ⟨b1, b2, hcb, S1, S2, _, _⟩ := hEb
    rw [hca, hcb]
    exact ZhH _ _ _ _ x W (R1.below hW) (R2.below hW) (S1.below hW) (S2.below hW)
   have hga' := Nat.lt_of_lt_of_le hga hb.size
   have hgb' := Nat.lt_of_lt_of_le hgb hb.size
   clear hcella hcellb hx hEa hEb
   go_wp2_with fail
   refine ZlA ga oa gb ob xs.length ca cb k cs ds wr _ hlt hcs hds hga' hgb' ra rb HC ?_
   intro u17 u18 u19 u20 u21 u22 u23 u24 u25 W hW
   have hB2 : Below w.heap.size w W := hb.trans (hW.mono hb.size)
   clear HC ra rb
   go_wp2
   go_roundw
   case rel => exact ⟨k + 1, by omega, by go_num, hB2⟩
   case measure => simp [intOf]; omega
  ·go_wp2
   go_ret
   exact ⟨rfl, hb⟩
theorem Zmg : (Tryz.prog.info? 131).map (fun i => (i.zero, i.size, i.bytes)) = some (some (.agg #[.int .i64 0, .int .i64 0, .int .i64 0, .int .i64 0, .string ByteArray.empty]), 5, 48) := by kernel_rfl
theorem ZiI (v : Value) (xs : List Gm) (B : Nat) (w : World) (R : XRow B 5 EG w v xs) (hm : xs.length <= 2097152) (hs : ∀ x ∈ xs, SmG x) :
  Calls Tryz.prog 38 #[v] w fun e w' => ∃ v', e = .returned v' /\ XRow w.heap.size 5 EG w' v' xs /\ Below w.heap.size w w' := by
 obtain ⟨ao, cap, rfl, hcap, hm0, hcell⟩ := R
 obtain ⟨i0, hi, hz0, hz1, hz2⟩ := info_parts Zmg
 have hbytes : i0.bytes * xs.length <= 281474976710656 := by rw [hz2]; omega
 have hmax : xs.length <= maxLen := by unfold maxLen; omega
 go_enter Tryz.func38, Tryz.ntmps38
 go_wp2_with (at_make; refine wpList_make_full _ rfl _ _ 47 rfl w.heap.size 131 i0 _ 5 Tryz.underlying47 hi hz0 hz1 _ _ _ _ xs.length rfl rfl rfl rfl hbytes hmax (Nat.le_refl _) ?_)
 intro w1 hown hgrow
 have hbel : Below w.heap.size w w1 := (Below.refl _ _).grown hgrow (Nat.le_refl _) (by intro k hk; cases hk)
 have hown' : w1.ownsRow w.heap.size 131 5 (.slice (some ⟨w.heap.size, 0, none⟩) xs.length xs.length) xs.length (List.replicate xs.length (#[.int .i64 0, .int .i64 0, .int .i64 0, .int .i64 0, .string ByteArray.empty] : Array Value).toList).flatten := by
  rw [<- ZcN (z := #[.int .i64 0, .int .i64 0, .int .i64 0, .int .i64 0, .string ByteArray.empty]) (k := 5) rfl (by decide)]
  exact hown
 clear hgrow hown
 go_wp2
 go_loopw [4] (fun i wr => ∃ (j : Nat) (css : List (List Value)), j <= xs.length /\ i = .int .i64 j /\ Hid (css.length = xs.length) /\ Hid (∀ c ∈ css, c.length = 5) /\ Hid (∀ (i : Nat) c x, i < j -> css[i]? = some c -> xs[i]? = some x -> EG (w.heap.size + 1) wr c x) /\ wr.ownsRow w.heap.size 131 5 (.slice (some ⟨w.heap.size, 0, none⟩) xs.length xs.length) xs.length css.flatten /\ Below w.heap.size w wr) (fun i _ => xs.length - (intOf i).toNat)
 case atStart => exact ⟨0, _, by omega, rfl, by unfold Hid; simp, by intro c hc; rw [List.eq_of_mem_replicate hc]; rfl, fun i c x h => by omega, hown', hbel⟩
 case round =>
  clear hown' hbel hbytes hmax
  obtain ⟨j, css, hj, rfl, HL, HK, HE, hown, hbel⟩ := hrel
  by_cases hlt : j < xs.length
  ·obtain ⟨g, o, rfl, _, hg, hcell⟩ := hcell (by intro e; subst e; simp at hlt)
   obtain ⟨x, hx⟩ : ∃ x, xs[j]? = some x := ⟨xs[j], by simp [hlt]⟩
   obtain ⟨cs, hcs, hr, hE⟩ := hcell j x hx
   have HX : Hid (xs[j]? = some x) := hx
   replace hr := Zaj hr hbel hg
   replace hE := stbG.1 _ _ _ _ _ hE (Kp.of_below hbel)
   clear hcell hx
   obtain ⟨hc, hsz⟩ := hE
   obtain rfl : cs = (#[.int .i64 x.k, .int .i64 x.f, .int .i64 x.t, .int .i64 x.n, .string x.s] : Array Value).toList := congrArg Array.toList hc
   clear hc hcs
   have hwl : w.heap.size + 1 <= wr.heap.size := (hown.lt w.heap.size rfl).2
   go_wp2_with (refine wpList_load_mid rfl 119 _ rfl g (o + j * 5) rfl _ _ hr Tryz.underlying119 rfl (by kernel_rfl) ?_)
   refine (ZhJ x _).mono ?_
   rintro e w2 ⟨rfl, hb2⟩
   have hE2 : EG wr.heap.size w2 (#[.int .i64 x.k, .int .i64 x.f, .int .i64 x.t, .int .i64 x.n, .string x.s] : Array Value).toList x := ⟨rfl, hsz⟩
   have hown2 := Zad hown hb2
   have hB2 := hbel.trans (hb2.mono hbel.size)
   have hk2 : Kp (w.heap.size + 1) wr w2 := Kp.of_below hb2
   clear hown hb2 hbel hr
   go_wp2_with (refine Zbh rfl 131 _ _ rfl w.heap.size w.heap.size j xs.length 5 xs.length css (#[.int .i64 x.k, .int .i64 x.f, .int .i64 x.t, .int .i64 x.n, .string x.s] : Array Value).toList rfl rfl rfl HK.out HL.out hlt (by simp [Value.oneCell']) (by kernel_rfl) hown2 ?_)
   intro w3 hown3 hg3
   have hB3 : Below w.heap.size w w3 := hB2.grown hg3 hB2.size (fun k hk => by simp at hk; omega)
   have hk3 : Kp (w.heap.size + 1) w2 w3 := Kp.of_grown hg3 (by omega)
   have HL3 : Hid ((css.set j (#[.int .i64 x.k, .int .i64 x.f, .int .i64 x.t, .int .i64 x.n, .string x.s] : Array Value).toList).length = xs.length) := by unfold Hid; rw [List.length_set]; exact HL.out
   have HK3 : Hid (∀ c ∈ css.set j (#[.int .i64 x.k, .int .i64 x.f, .int .i64 x.t, .int .i64 x.n, .string x.s] : Array Value).toList, c.length = 5) := by
    intro c hc
    rcases List.mem_or_eq_of_mem_set hc with h | h
    ·exact HK.out c h
    ·rw [h]; rfl
   have HE3 : Hid (∀ (i : Nat) c y, i < j + 1 -> (css.set j (#[.int .i64 x.k, .int .i64 x.f, .int .i64 x.t, .int .i64 x.n, .string x.s] : Array Value).toList)[i]? = some c -> xs[i]? = some y -> EG (w.heap.size + 1) w3 c y) := by
    intro i c y hij hc hy
    by_cases e : i = j
    ·subst e
     rw [List.getElem?_set_self (by rw [HL.out]; exact hlt)] at hc
     rw [HX.out] at hy
     cases hc
     cases hy
     exact stbG.1 _ _ _ _ _ (stbG.2 _ _ _ _ _ hE2 hwl) hk3
    ·rw [List.getElem?_set_ne (fun h => e h.symm)] at hc
     exact stbG.1 _ _ _ _ _ (stbG.1 _ _ _ _ _ (HE.out i c y (by omega) hc hy) hk2) hk3
   clear hown2 hg3 hE2 hk2 hk3 HL HK HE HX
   go_wp2
   go_roundw
   case rel => exact ⟨j + 1, _, by omega, by go_num, HL3, HK3, HE3, hown3, hB3⟩
   case measure => simp [intOf]; omega
  ·go_wp2
   go_ret
   have : j = xs.length := by omega
   subst this
   exact ⟨_, rfl, XRow.of_own hown HL.out HK.out hm0 (fun i c x hc hx => stbG.2 _ _ _ _ _ (HE.out i c x (List.getElem?_eq_some_iff.1 hx).1 hc hx) (by omega)), hbel⟩
theorem Zje (v : Value) (xs : List Gm) (B : Nat) (l : Int) (w : World) (R : XRow B 5 EG w v xs) (hl0 : 0 <= l) (hl1 : l <= 1048576) :
  Calls Tryz.prog 31 #[v, .int .i64 l] w fun e w' => ∃ r : Int, e = .returned (.int .i64 r) /\ -1 <= r /\ r <= 1048576 /\ (0 <= r -> xs.length <= 1048576 /\ ∀ x ∈ xs, SmG x) /\ Below w.heap.size w w' := by
 obtain ⟨ao, cap, rfl, hcap, hm, hcell⟩ := R
 by_cases hlen : (xs.length : Int) <= l
 ·go_enter Tryz.func31, Tryz.ntmps31
  go_wp2
  go_loopw [1, 5] (fun l i wr => ∃ (k : Nat) (r : Int), k <= xs.length /\ i = .int .i64 k /\ l = .int .i64 r /\ 0 <= r /\ r <= 1048576 /\ Hid (∀ (j : Nat) x, xs[j]? = some x -> j < k -> SmG x) /\ Below w.heap.size w wr) (fun _ i _ => xs.length - (intOf i).toNat)
  case atStart => exact ⟨0, _, by omega, rfl, rfl, by omega, by omega, fun j x _ h => by omega, Below.refl _ _⟩
  case round =>
   obtain ⟨k, r, hk, rfl, rfl, hr0, hr1, HA, hb⟩ := hrel
   by_cases hlt : k < xs.length
   ·obtain ⟨g, o, rfl, _, hg, hcell⟩ := hcell (by intro e; subst e; simp at hlt)
    obtain ⟨x, hx⟩ : ∃ x, xs[k]? = some x := ⟨xs[k], by simp [hlt]⟩
    obtain ⟨cs, hcs, hr, hE⟩ := hcell k x hx
    have HX : Hid (xs[k]? = some x) := hx
    replace hr := Zaj hr hb hg
    replace hE := stbG.1 _ _ _ _ _ hE (Kp.of_below hb)
    clear hcell hx
    obtain ⟨hc, hsz⟩ := hE
    obtain rfl : cs = (#[.int .i64 x.k, .int .i64 x.f, .int .i64 x.t, .int .i64 x.n, .string x.s] : Array Value).toList := congrArg Array.toList hc
    clear hc hcs
    go_wp2_with (refine wpList_load_mid rfl 119 _ rfl g (o + k * 5) rfl _ _ hr Tryz.underlying119 rfl (by kernel_rfl) ?_)
    refine (Zh8 x r _ hsz hr0 hr1).mono ?_
    rintro e w2 ⟨r2, rfl, h0, h1, h2, hb2⟩
    have hB2 := hb.trans (hb2.mono hb.size)
    clear hr hb2
    by_cases hr2 : r2 < 0
    ·have HR : Hid (r2 = -1) := by unfold Hid; omega
     go_wp2
     go_ret
     exact ⟨-1, rfl, by omega, by omega, fun h => by omega, hB2⟩
    ·have h2 := h2 (by omega)
     have HA2 : Hid (∀ (j : Nat) x, xs[j]? = some x -> j < k + 1 -> SmG x) := by
      intro j y hy hj
      by_cases e : j = k
      ·subst e
       rw [HX.out] at hy
       cases hy
       exact h2
      ·exact HA.out j y hy (by omega)
     go_wp2
     go_roundw
     case rel => exact ⟨k + 1, _, by omega, by go_num, rfl, by omega, by omega, HA2, hB2⟩
     case measure => simp [intOf]; omega
   ·go_wp2
    go_ret
    refine ⟨r, rfl, by omega, by omega, fun _ => ⟨by omega, fun x hx => ?_⟩, hb⟩
    obtain ⟨j, hj, e⟩ := List.getElem_of_mem hx
    exact HA.out j x (by rw [<- e]; simp [hj]) (by omega)
 ·go_enter Tryz.func31, Tryz.ntmps31
  go_wp2
  go_ret
  exact ⟨-1, rfl, by omega, by omega, fun h => by omega, Below.refl _ _⟩
theorem Zjp (va vb : Value) (xs : List Gm) (B C : Nat) (w : World) (Ra : XRow B 5 EG w va xs) (Rb : XRow C 5 EG w vb xs) :
  Calls Tryz.prog 46 #[va, vb] w fun e w' => e = .returned (.bool true) /\ Below w.heap.size w w' := by
 obtain ⟨aa, ca, rfl, hca, hm, hcella⟩ := Ra
 obtain ⟨ab, cb, rfl, hcb, _, hcellb⟩ := Rb
 have hn : ((xs.length : Int) != (xs.length : Int)) = false := by simp
 go_enter Tryz.func46, Tryz.ntmps46
 go_wp2
 go_loopw [5] (fun i wr => ∃ k : Nat, k <= xs.length /\ i = .int .i64 k /\ Below w.heap.size w wr) (fun i _ => xs.length - (intOf i).toNat)
 case atStart => exact ⟨0, by omega, rfl, Below.refl _ _⟩
 case round =>
  obtain ⟨k, hk, rfl, hb⟩ := hrel
  by_cases hlt : k < xs.length
  ·obtain ⟨ga, oa, rfl, _, hga, hcella⟩ := hcella (by intro e; subst e; simp at hlt)
   obtain ⟨gb, ob, rfl, _, hgb, hcellb⟩ := hcellb (by intro e; subst e; simp at hlt)
   obtain ⟨x, hx⟩ : ∃ x, xs[k]? = some x := ⟨xs[k], by simp [hlt]⟩
   obtain ⟨cs, hcs, ra, hEa⟩ := hcella k x hx
   obtain ⟨ds, hds, rb, hEb⟩ := hcellb k x hx
   replace ra := Zaj ra hb hga
   replace rb := Zaj rb hb hgb
   replace hEa := stbG.1 _ _ _ _ _ hEa (Kp.of_below hb)
   replace hEb := stbG.1 _ _ _ _ _ hEb (Kp.of_below hb)
   have HC : ∀ W, Below wr.heap.size wr W -> Calls Tryz.prog 93 #[.agg cs.toArray, .agg ds.toArray] W fun e w' => e = .returned (.bool true) /\ Below W.heap.size W w' := by
    intro W hW
    obtain ⟨hca, _⟩ := hEa
    obtain ⟨hcb, _⟩ := hEb
    rw [hca, hcb]
    exact (Zh2 x W)
   have hga' := Nat.lt_of_lt_of_le hga hb.size
   have hgb' := Nat.lt_of_lt_of_le hgb hb.size
   clear hcella hcellb hx hEa hEb
   go_wp2_with fail
   refine Zlu ga oa gb ob xs.length ca cb k cs ds wr _ hlt hcs hds hga' hgb' ra rb HC ?_
   intro u17 u18 u19 u20 u21 u22 u23 u24 u25 W hW
   have hB2 : Below w.heap.size w W := hb.trans (hW.mono hb.size)
   clear HC ra rb
   go_wp2
   go_roundw
   case rel => exact ⟨k + 1, by omega, by go_num, hB2⟩
   case measure => simp [intOf]; omega
  ·go_wp2
   go_ret
   exact ⟨rfl, hb⟩
theorem Zmi : (Tryz.prog.info? 133).map (fun i => (i.zero, i.size, i.bytes)) = some (some (.agg #[.int .i64 0, .int .i64 0, .string ByteArray.empty]), 3, 32) := by kernel_rfl
theorem Zjw (v : Value) (xs : List Pd) (B : Nat) (w : World) (R : XRow B 3 EP w v xs) (hm : xs.length <= 2097152) (hs : ∀ x ∈ xs, SmP x) :
  Calls Tryz.prog 39 #[v] w fun e w' => ∃ v', e = .returned v' /\ XRow w.heap.size 3 EP w' v' xs /\ Below w.heap.size w w' := by
 obtain ⟨ao, cap, rfl, hcap, hm0, hcell⟩ := R
 obtain ⟨i0, hi, hz0, hz1, hz2⟩ := info_parts Zmi
 have hbytes : i0.bytes * xs.length <= 281474976710656 := by rw [hz2]; omega
 have hmax : xs.length <= maxLen := by unfold maxLen; omega
 go_enter Tryz.func39, Tryz.ntmps39
 go_wp2_with (at_make; refine wpList_make_full _ rfl _ _ 48 rfl w.heap.size 133 i0 _ 3 Tryz.underlying48 hi hz0 hz1 _ _ _ _ xs.length rfl rfl rfl rfl hbytes hmax (Nat.le_refl _) ?_)
 intro w1 hown hgrow
 have hbel : Below w.heap.size w w1 := (Below.refl _ _).grown hgrow (Nat.le_refl _) (by intro k hk; cases hk)
 have hown' : w1.ownsRow w.heap.size 133 3 (.slice (some ⟨w.heap.size, 0, none⟩) xs.length xs.length) xs.length (List.replicate xs.length (#[.int .i64 0, .int .i64 0, .string ByteArray.empty] : Array Value).toList).flatten := by
  rw [<- ZcN (z := #[.int .i64 0, .int .i64 0, .string ByteArray.empty]) (k := 3) rfl (by decide)]
  exact hown
 clear hgrow hown
 go_wp2
 go_loopw [4] (fun i wr => ∃ (j : Nat) (css : List (List Value)), j <= xs.length /\ i = .int .i64 j /\ Hid (css.length = xs.length) /\ Hid (∀ c ∈ css, c.length = 3) /\ Hid (∀ (i : Nat) c x, i < j -> css[i]? = some c -> xs[i]? = some x -> EP (w.heap.size + 1) wr c x) /\ wr.ownsRow w.heap.size 133 3 (.slice (some ⟨w.heap.size, 0, none⟩) xs.length xs.length) xs.length css.flatten /\ Below w.heap.size w wr) (fun i _ => xs.length - (intOf i).toNat)
 case atStart => exact ⟨0, _, by omega, rfl, by unfold Hid; simp, by intro c hc; rw [List.eq_of_mem_replicate hc]; rfl, fun i c x h => by omega, hown', hbel⟩
 case round =>
  clear hown' hbel hbytes hmax
  obtain ⟨j, css, hj, rfl, HL, HK, HE, hown, hbel⟩ := hrel
  by_cases hlt : j < xs.length
  ·obtain ⟨g, o, rfl, _, hg, hcell⟩ := hcell (by intro e; subst e; simp at hlt)
   obtain ⟨x, hx⟩ : ∃ x, xs[j]? = some x := ⟨xs[j], by simp [hlt]⟩
   obtain ⟨cs, hcs, hr, hE⟩ := hcell j x hx
   have HX : Hid (xs[j]? = some x) := hx
   replace hr := Zaj hr hbel hg
   replace hE := stbP.1 _ _ _ _ _ hE (Kp.of_below hbel)
   clear hcell hx
   obtain ⟨hc, hsz⟩ := hE
   obtain rfl : cs = (#[.int .i64 x.p, .int .i64 x.t, .string x.s] : Array Value).toList := congrArg Array.toList hc
   clear hc hcs
   have hwl : w.heap.size + 1 <= wr.heap.size := (hown.lt w.heap.size rfl).2
   go_wp2_with (refine wpList_load_mid rfl 122 _ rfl g (o + j * 3) rfl _ _ hr Tryz.underlying122 rfl (by kernel_rfl) ?_)
   refine (ZeY x _).mono ?_
   rintro e w2 ⟨rfl, hb2⟩
   have hE2 : EP wr.heap.size w2 (#[.int .i64 x.p, .int .i64 x.t, .string x.s] : Array Value).toList x := ⟨rfl, hsz⟩
   have hown2 := Zad hown hb2
   have hB2 := hbel.trans (hb2.mono hbel.size)
   have hk2 : Kp (w.heap.size + 1) wr w2 := Kp.of_below hb2
   clear hown hb2 hbel hr
   go_wp2_with (refine Zbh rfl 133 _ _ rfl w.heap.size w.heap.size j xs.length 3 xs.length css (#[.int .i64 x.p, .int .i64 x.t, .string x.s] : Array Value).toList rfl rfl rfl HK.out HL.out hlt (by simp [Value.oneCell']) (by kernel_rfl) hown2 ?_)
   intro w3 hown3 hg3
   have hB3 : Below w.heap.size w w3 := hB2.grown hg3 hB2.size (fun k hk => by simp at hk; omega)
   have hk3 : Kp (w.heap.size + 1) w2 w3 := Kp.of_grown hg3 (by omega)
   have HL3 : Hid ((css.set j (#[.int .i64 x.p, .int .i64 x.t, .string x.s] : Array Value).toList).length = xs.length) := by unfold Hid; rw [List.length_set]; exact HL.out
   have HK3 : Hid (∀ c ∈ css.set j (#[.int .i64 x.p, .int .i64 x.t, .string x.s] : Array Value).toList, c.length = 3) := by
    intro c hc
    rcases List.mem_or_eq_of_mem_set hc with h | h
    ·exact HK.out c h
    ·rw [h]; rfl
   have HE3 : Hid (∀ (i : Nat) c y, i < j + 1 -> (css.set j (#[.int .i64 x.p, .int .i64 x.t, .string x.s] : Array Value).toList)[i]? = some c -> xs[i]? = some y -> EP (w.heap.size + 1) w3 c y) := by
    intro i c y hij hc hy
    by_cases e : i = j
    ·subst e
     rw [List.getElem?_set_self (by rw [HL.out]; exact hlt)] at hc
     rw [HX.out] at hy
     cases hc
     cases hy
     exact stbP.1 _ _ _ _ _ (stbP.2 _ _ _ _ _ hE2 hwl) hk3
    ·rw [List.getElem?_set_ne (fun h => e h.symm)] at hc
     exact stbP.1 _ _ _ _ _ (stbP.1 _ _ _ _ _ (HE.out i c y (by omega) hc hy) hk2) hk3
   clear hown2 hg3 hE2 hk2 hk3 HL HK HE HX
   go_wp2
   go_roundw
   case rel => exact ⟨j + 1, _, by omega, by go_num, HL3, HK3, HE3, hown3, hB3⟩
   case measure => simp [intOf]; omega
  ·go_wp2
   go_ret
   have : j = xs.length := by omega
   subst this
   exact ⟨_, rfl, XRow.of_own hown HL.out HK.out hm0 (fun i c x hc hx => stbP.2 _ _ _ _ _ (HE.out i c x (List.getElem?_eq_some_iff.1 hx).1 hc hx) (by omega)), hbel⟩
theorem Zja (v : Value) (xs : List Pd) (B : Nat) (l : Int) (w : World) (R : XRow B 3 EP w v xs) (hl0 : 0 <= l) (hl1 : l <= 1048576) :
  Calls Tryz.prog 32 #[v, .int .i64 l] w fun e w' => ∃ r : Int, e = .returned (.int .i64 r) /\ -1 <= r /\ r <= 1048576 /\ (0 <= r -> xs.length <= 1048576 /\ ∀ x ∈ xs, SmP x) /\ Below w.heap.size w w' := by
 obtain ⟨ao, cap, rfl, hcap, hm, hcell⟩ := R
 by_cases hlen : (xs.length : Int) <= l
 ·go_enter Tryz.func32, Tryz.ntmps32
  go_wp2
  go_loopw [1, 5] (fun l i wr => ∃ (k : Nat) (r : Int), k <= xs.length /\ i = .int .i64 k /\ l = .int .i64 r /\ 0 <= r /\ r <= 1048576 /\ Hid (∀ (j : Nat) x, xs[j]? = some x -> j < k -> SmP x) /\ Below w.heap.size w wr) (fun _ i _ => xs.length - (intOf i).toNat)
  case atStart => exact ⟨0, _, by omega, rfl, rfl, by omega, by omega, fun j x _ h => by omega, Below.refl _ _⟩
  case round =>
   obtain ⟨k, r, hk, rfl, rfl, hr0, hr1, HA, hb⟩ := hrel
   by_cases hlt : k < xs.length
   ·obtain ⟨g, o, rfl, _, hg, hcell⟩ := hcell (by intro e; subst e; simp at hlt)
    obtain ⟨x, hx⟩ : ∃ x, xs[k]? = some x := ⟨xs[k], by simp [hlt]⟩
    obtain ⟨cs, hcs, hr, hE⟩ := hcell k x hx
    have HX : Hid (xs[k]? = some x) := hx
    replace hr := Zaj hr hb hg
    replace hE := stbP.1 _ _ _ _ _ hE (Kp.of_below hb)
    clear hcell hx
    obtain ⟨hc, hsz⟩ := hE
    obtain rfl : cs = (#[.int .i64 x.p, .int .i64 x.t, .string x.s] : Array Value).toList := congrArg Array.toList hc
    clear hc hcs
    go_wp2_with (refine wpList_load_mid rfl 122 _ rfl g (o + k * 3) rfl _ _ hr Tryz.underlying122 rfl (by kernel_rfl) ?_)
    refine (ZeT x r _ hsz hr0 hr1).mono ?_
    rintro e w2 ⟨r2, rfl, h0, h1, h2, hb2⟩
    have hB2 := hb.trans (hb2.mono hb.size)
    clear hr hb2
    by_cases hr2 : r2 < 0
    ·have HR : Hid (r2 = -1) := by unfold Hid; omega
     go_wp2
     go_ret
     exact ⟨-1, rfl, by omega, by omega, fun h => by omega, hB2⟩
    ·have h2 := h2 (by omega)
     have HA2 : Hid (∀ (j : Nat) x, xs[j]? = some x -> j < k + 1 -> SmP x) := by
      intro j y hy hj
      by_cases e : j = k
      ·subst e
       rw [HX.out] at hy
       cases hy
       exact h2
      ·exact HA.out j y hy (by omega)
     go_wp2
     go_roundw
     case rel => exact ⟨k + 1, _, by omega, by go_num, rfl, by omega, by omega, HA2, hB2⟩
     case measure => simp [intOf]; omega
   ·go_wp2
    go_ret
    refine ⟨r, rfl, by omega, by omega, fun _ => ⟨by omega, fun x hx => ?_⟩, hb⟩
    obtain ⟨j, hj, e⟩ := List.getElem_of_mem hx
    exact HA.out j x (by rw [<- e]; simp [hj]) (by omega)
 ·go_enter Tryz.func32, Tryz.ntmps32
  go_wp2
  go_ret
  exact ⟨-1, rfl, by omega, by omega, fun h => by omega, Below.refl _ _⟩
theorem Zii (va vb : Value) (xs : List Pd) (B C : Nat) (w : World) (Ra : XRow B 3 EP w va xs) (Rb : XRow C 3 EP w vb xs) :
  Calls Tryz.prog 47 #[va, vb] w fun e w' => e = .returned (.bool true) /\ Below w.heap.size w w' := by
 obtain ⟨aa, ca, rfl, hca, hm, hcella⟩ := Ra
 obtain ⟨ab, cb, rfl, hcb, _, hcellb⟩ := Rb
 have hn : ((xs.length : Int) != (xs.length : Int)) = false := by simp
 go_enter Tryz.func47, Tryz.ntmps47
 go_wp2
 go_loopw [5] (fun i wr => ∃ k : Nat, k <= xs.length /\ i = .int .i64 k /\ Below w.heap.size w wr) (fun i _ => xs.length - (intOf i).toNat)
 case atStart => exact ⟨0, by omega, rfl, Below.refl _ _⟩
 case round =>
  obtain ⟨k, hk, rfl, hb⟩ := hrel
  by_cases hlt : k < xs.length
  ·obtain ⟨ga, oa, rfl, _, hga, hcella⟩ := hcella (by intro e; subst e; simp at hlt)
   obtain ⟨gb, ob, rfl, _, hgb, hcellb⟩ := hcellb (by intro e; subst e; simp at hlt)
   obtain ⟨x, hx⟩ : ∃ x, xs[k]? = some x := ⟨xs[k], by simp [hlt]⟩
   obtain ⟨cs, hcs, ra, hEa⟩ := hcella k x hx
   obtain ⟨ds, hds, rb, hEb⟩ := hcellb k x hx
   replace ra := Zaj ra hb hga
   replace rb := Zaj rb hb hgb
   replace hEa := stbP.1 _ _ _ _ _ hEa (Kp.of_below hb)
   replace hEb := stbP.1 _ _ _ _ _ hEb (Kp.of_below hb)
   have HC : ∀ W, Below wr.heap.size wr W -> Calls Tryz.prog 94 #[.agg cs.toArray, .agg ds.toArray] W fun e w' => e = .returned (.bool true) /\ Below W.heap.size W w' := by
    intro W hW
    obtain ⟨hca, _⟩ := hEa
    obtain ⟨hcb, _⟩ := hEb
    rw [hca, hcb]
    exact (Zfx x W)
   have hga' := Nat.lt_of_lt_of_le hga hb.size
   have hgb' := Nat.lt_of_lt_of_le hgb hb.size
   clear hcella hcellb hx hEa hEb
   go_wp2_with fail
   refine Zlz ga oa gb ob xs.length ca cb k cs ds wr _ hlt hcs hds hga' hgb' ra rb HC ?_
   intro u17 u18 u19 u20 u21 u22 u23 u24 u25 W hW
   have hB2 : Below w.heap.size w W := hb.trans (hW.mono hb.size)
   clear HC ra rb
   go_wp2
   go_roundw
   case rel => exact ⟨k + 1, by omega, by go_num, hB2⟩
   case measure => simp [intOf]; omega
  ·go_wp2
   go_ret
   exact ⟨rfl, hb⟩
def ES (B : Nat) (w : World) (cs : List Value) (ts : List ByteArray) : Prop := ∃ v, cs = [v] /\ StRow w v ts /\ Fr B v
theorem stbS : Stb ES := ⟨fun _ _ _ _ _ ⟨v, h, r, f⟩ hk => ⟨v, h, r.kp f hk, f⟩, fun _ _ _ _ _ ⟨v, h, r, f⟩ hc => ⟨v, h, r, f.mono hc⟩⟩
def SmS (ts : List ByteArray) : Prop := ts.length <= 1048576 /\ ∀ x ∈ ts, x.size <= 1048576
theorem Zmd : (Tryz.prog.info? 54).map (fun i => (i.zero, i.size, i.bytes)) = some (some (.slice none 0 0), 1, 24) := by kernel_rfl
theorem ZbE {w : World} {g o : Nat} {v : Value} (h : w.rangeAt g o [v]) : w.cell? ⟨g, o, none⟩ = some v := h 0 v rfl
theorem Zi6 (us : List Value) : (us.map fun u => [u]).flatten = us := by
 induction us with
 | nil => rfl
 | cons u us ih => simp [ih]
theorem ZeW (v : Value) (xs : List (List ByteArray)) (B : Nat) (w : World) (R : XRow B 1 ES w v xs) (hm : xs.length <= 2097152) (hs : ∀ x ∈ xs, SmS x) :
  Calls Tryz.prog 40 #[v] w fun e w' => ∃ v', e = .returned v' /\ XRow w.heap.size 1 ES w' v' xs /\ Below w.heap.size w w' := by
 obtain ⟨ao, cap, rfl, hcap, hm0, hcell⟩ := R
 obtain ⟨i0, hi, hz0, hz1, hz2⟩ := info_parts Zmd
 have hbytes : i0.bytes * xs.length <= 281474976710656 := by rw [hz2]; omega
 have hmax : xs.length <= maxLen := by unfold maxLen; omega
 go_enter Tryz.func40, Tryz.ntmps40
 go_wp2_with (at_make; refine wpList_make_full _ rfl _ _ 33 rfl w.heap.size 54 i0 _ 1 Tryz.underlying33 hi hz0 hz1 _ _ _ _ xs.length rfl rfl rfl rfl hbytes hmax (Nat.le_refl _) ?_)
 intro w1 hown hgrow
 have hbel : Below w.heap.size w w1 := (Below.refl _ _).grown hgrow (Nat.le_refl _) (by intro k hk; cases hk)
 clear hgrow
 go_wp2
 go_loopw [4] (fun i wr => ∃ (j : Nat) (us : List Value), j <= xs.length /\ i = .int .i64 j /\ Hid (us.length = xs.length) /\ Hid (∀ (i : Nat) c x, i < j -> us[i]? = some c -> xs[i]? = some x -> StRow wr c x /\ Fr (w.heap.size + 1) c) /\ wr.ownsRow w.heap.size 54 1 (.slice (some ⟨w.heap.size, 0, none⟩) xs.length xs.length) xs.length us /\ Below w.heap.size w wr) (fun i _ => xs.length - (intOf i).toNat)
 case atStart => exact ⟨0, _, by omega, rfl, by unfold Hid; simp [madeCells], fun i c x h => by omega, hown, hbel⟩
 case round =>
  clear hown hbel hbytes hmax
  obtain ⟨j, us, hj, rfl, HL, HE, hown, hbel⟩ := hrel
  by_cases hlt : j < xs.length
  ·obtain ⟨g, o, rfl, _, hg, hcell⟩ := hcell (by intro e; subst e; simp at hlt)
   obtain ⟨x, hx⟩ : ∃ x, xs[j]? = some x := ⟨xs[j], by simp [hlt]⟩
   obtain ⟨cs, hcs, hr, hE⟩ := hcell j x hx
   have HX : Hid (xs[j]? = some x) := hx
   replace hr := Zaj hr hbel hg
   obtain ⟨u, rfl, R1, _⟩ := stbS.1 _ _ _ _ _ hE (Kp.of_below hbel)
   have c0 := ZbE hr
   rw [Nat.mul_one] at c0
   have hsx := hs x (List.mem_of_getElem? hx)
   obtain ⟨p0, q0, rfl⟩ := R1.small
   have hwl : w.heap.size + 1 <= wr.heap.size := (hown.lt w.heap.size rfl).2
   clear hcell hx hcs hr hE
   go_wp2_with fail
   refine (Zcf _ x _ R1 (by have := hsx.1; omega)).mono ?_
   rintro e w2 ⟨u2, rfl, O2, hb2⟩
   have F2 := Fr.of_own O2
   have P2 := StRow.of_own O2 (by have := hsx.1; omega) R1.szs
   obtain ⟨p2, q2, rfl⟩ := Zae O2
   have hown2 := Zad hown hb2
   have hB2 := hbel.trans (hb2.mono hbel.size)
   have hk2 : Kp (w.heap.size + 1) wr w2 := Kp.of_below hb2
   have d0 := hown2.cellAt j (by omega)
   obtain ⟨y, hy⟩ : ∃ y, us[j]? = some y := ⟨_, List.getElem?_eq_getElem (by rw [HL.out]; exact hlt)⟩
   rw [hy] at d0
   have f0 := hown2.frozenAt j
   obtain ⟨S0, g0⟩ := hown2.stored j (.slice p2 x.length q2)
   have hB3 : Below w.heap.size w (w2.setCell ⟨w.heap.size, j, none⟩ (.slice p2 x.length q2)) := hB2.setCell (p := ⟨w.heap.size, j, none⟩) (by simp) _
   have hk3 : Kp (w.heap.size + 1) w2 (w2.setCell ⟨w.heap.size, j, none⟩ (.slice p2 x.length q2)) := Kp.of_set (by omega)
   have HL3 : Hid ((us.set j (.slice p2 x.length q2)).length = xs.length) := by unfold Hid; rw [List.length_set]; exact HL.out
   have HE3 : Hid (∀ (i : Nat) c y, i < j + 1 -> (us.set j (.slice p2 x.length q2))[i]? = some c -> xs[i]? = some y -> StRow (w2.setCell ⟨w.heap.size, j, none⟩ (.slice p2 x.length q2)) c y /\ Fr (w.heap.size + 1) c) := by
    intro i c z hij hc hz
    by_cases e : i = j
    ·subst e
     rw [List.getElem?_set_self (by rw [HL.out]; exact hlt)] at hc
     rw [HX.out] at hz
     cases hc
     cases hz
     exact ⟨P2.kp (F2.mono hwl) hk3, F2.mono hwl⟩
    ·rw [List.getElem?_set_ne (fun h => e h.symm)] at hc
     obtain ⟨h1, h2⟩ := HE.out i c z (by omega) hc hz
     exact ⟨(h1.kp h2 hk2).kp h2 hk3, h2⟩
   clear hown hown2 hb2 hbel g0 hy HE HL HX P2 F2 O2 hk2 hk3 c0
   go_wp2
   go_roundw
   case rel => exact ⟨j + 1, _, by omega, by go_num, HL3, HE3, S0, hB3⟩
   case measure => simp [intOf]; omega
  ·go_wp2
   go_ret
   have : j = xs.length := by omega
   subst this
   rw [<- Zi6 us] at hown
   refine ⟨_, rfl, XRow.of_own hown (by rw [List.length_map]; exact HL.out) (by intro c hc; simp at hc; obtain ⟨a, _, rfl⟩ := hc; rfl) hm0 (fun i c x hc hx => ?_), hbel⟩
   rw [List.getElem?_map] at hc
   cases hu : us[i]? with
   | none => rw [hu] at hc; cases hc
   | some u =>
    rw [hu] at hc
    cases hc
    obtain ⟨h1, h2⟩ := HE.out i u x (List.getElem?_eq_some_iff.1 hx).1 hu hx
    exact ⟨u, rfl, h1, h2.mono (by omega)⟩
theorem Ze1 (v : Value) (xs : List (List ByteArray)) (B : Nat) (l : Int) (w : World) (R : XRow B 1 ES w v xs) (hl0 : 0 <= l) (hl1 : l <= 1048576) :
  Calls Tryz.prog 33 #[v, .int .i64 l] w fun e w' => ∃ r : Int, e = .returned (.int .i64 r) /\ -1 <= r /\ r <= 1048576 /\ (0 <= r -> xs.length <= 1048576 /\ ∀ x ∈ xs, SmS x) /\ Below w.heap.size w w' := by
 obtain ⟨ao, cap, rfl, hcap, hm, hcell⟩ := R
 by_cases hlen : (xs.length : Int) <= l
 ·go_enter Tryz.func33, Tryz.ntmps33
  go_wp2
  go_loopw [1, 5] (fun l i wr => ∃ (k : Nat) (r : Int), k <= xs.length /\ i = .int .i64 k /\ l = .int .i64 r /\ 0 <= r /\ r <= 1048576 /\ Hid (∀ (j : Nat) x, xs[j]? = some x -> j < k -> SmS x) /\ Below w.heap.size w wr) (fun _ i _ => xs.length - (intOf i).toNat)
  case atStart => exact ⟨0, _, by omega, rfl, rfl, by omega, by omega, fun j x _ h => by omega, Below.refl _ _⟩
  case round =>
   obtain ⟨k, r, hk, rfl, rfl, hr0, hr1, HA, hb⟩ := hrel
   by_cases hlt : k < xs.length
   ·obtain ⟨g, o, rfl, _, hg, hcell⟩ := hcell (by intro e; subst e; simp at hlt)
    obtain ⟨x, hx⟩ : ∃ x, xs[k]? = some x := ⟨xs[k], by simp [hlt]⟩
    obtain ⟨cs, hcs, hr, hE⟩ := hcell k x hx
    have HX : Hid (xs[k]? = some x) := hx
    replace hr := Zaj hr hb hg
    obtain ⟨u, rfl, R1, _⟩ := stbS.1 _ _ _ _ _ hE (Kp.of_below hb)
    have c0 := ZbE hr
    rw [Nat.mul_one] at c0
    obtain ⟨p0, q0, rfl⟩ := R1.small
    clear hcell hx hcs hr hE
    go_wp2_with fail
    refine (Zch _ x r _ R1 hr0 hr1).mono ?_
    rintro e w2 ⟨r2, rfl, h0, h1, h2, hb2⟩
    have hB2 := hb.trans (hb2.mono hb.size)
    clear hb2 c0
    by_cases hr2 : r2 < 0
    ·have HR : Hid (r2 = -1) := by unfold Hid; omega
     go_wp2
     go_ret
     exact ⟨-1, rfl, by omega, by omega, fun h => by omega, hB2⟩
    ·have h2 : SmS x := h2 (by omega)
     have HA2 : Hid (∀ (j : Nat) x, xs[j]? = some x -> j < k + 1 -> SmS x) := by
      intro j y hy hj
      by_cases e : j = k
      ·subst e
       rw [HX.out] at hy
       cases hy
       exact h2
      ·exact HA.out j y hy (by omega)
     go_wp2
     go_roundw
     case rel => exact ⟨k + 1, _, by omega, by go_num, rfl, by omega, by omega, HA2, hB2⟩
     case measure => simp [intOf]; omega
   ·go_wp2
    go_ret
    refine ⟨r, rfl, by omega, by omega, fun _ => ⟨by omega, fun x hx => ?_⟩, hb⟩
    obtain ⟨j, hj, e⟩ := List.getElem_of_mem hx
    exact HA.out j x (by rw [<- e]; simp [hj]) (by omega)
 ·go_enter Tryz.func33, Tryz.ntmps33
  go_wp2
  go_ret
  exact ⟨-1, rfl, by omega, by omega, fun h => by omega, Below.refl _ _⟩
theorem ZfK (va vb : Value) (xs : List (List ByteArray)) (B C : Nat) (w : World) (Ra : XRow B 1 ES w va xs) (Rb : XRow C 1 ES w vb xs) :
  Calls Tryz.prog 48 #[va, vb] w fun e w' => e = .returned (.bool true) /\ Below w.heap.size w w' := by
 obtain ⟨aa, ca, rfl, hca, hm, hcella⟩ := Ra
 obtain ⟨ab, cb, rfl, hcb, _, hcellb⟩ := Rb
 have hn : ((xs.length : Int) != (xs.length : Int)) = false := by simp
 go_enter Tryz.func48, Tryz.ntmps48
 go_wp2
 go_loopw [5] (fun i wr => ∃ k : Nat, k <= xs.length /\ i = .int .i64 k /\ Below w.heap.size w wr) (fun i _ => xs.length - (intOf i).toNat)
 case atStart => exact ⟨0, by omega, rfl, Below.refl _ _⟩
 case round =>
  obtain ⟨k, hk, rfl, hb⟩ := hrel
  by_cases hlt : k < xs.length
  ·obtain ⟨ga, oa, rfl, _, hga, hcella⟩ := hcella (by intro e; subst e; simp at hlt)
   obtain ⟨gb, ob, rfl, _, hgb, hcellb⟩ := hcellb (by intro e; subst e; simp at hlt)
   obtain ⟨x, hx⟩ : ∃ x, xs[k]? = some x := ⟨xs[k], by simp [hlt]⟩
   obtain ⟨cs, hcs, ra, hEa⟩ := hcella k x hx
   obtain ⟨ds, hds, rb, hEb⟩ := hcellb k x hx
   replace ra := Zaj ra hb hga
   replace rb := Zaj rb hb hgb
   obtain ⟨ua, rfl, R1, _⟩ := stbS.1 _ _ _ _ _ hEa (Kp.of_below hb)
   obtain ⟨ub, rfl, R2, _⟩ := stbS.1 _ _ _ _ _ hEb (Kp.of_below hb)
   have c1 := ZbE ra
   have c2 := ZbE rb
   rw [Nat.mul_one] at c1 c2
   have HC : ∀ W, Below wr.heap.size wr W -> Calls Tryz.prog 22 #[ua, ub] W fun e w' => e = .returned (.bool true) /\ Below W.heap.size W w' := fun W hW => Zce _ _ x W (R1.below hW) (R2.below hW)
   have hga' := Nat.lt_of_lt_of_le hga hb.size
   have hgb' := Nat.lt_of_lt_of_le hgb hb.size
   clear hcella hcellb hx hEa hEb ra rb
   go_wp2_with fail
   refine Zle ga oa gb ob xs.length ca cb k ua ub wr _ hlt hga' hgb' c1 c2 HC ?_
   intro u17 u18 u19 u20 u21 u22 u23 u24 u25 W hW
   have hB2 : Below w.heap.size w W := hb.trans (hW.mono hb.size)
   clear HC c1 c2
   go_wp2
   go_roundw
   case rel => exact ⟨k + 1, by omega, by go_num, hB2⟩
   case measure => simp [intOf]; omega
  ·go_wp2
   go_ret
   exact ⟨rfl, hb⟩
end Go.Proofs.YtfmafkebddojjaaGreatDoor
