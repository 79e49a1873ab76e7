/-
  Texts that stood by themselves, laid into one.
-/
import Derived.Test.YtbhfooafhbfniaaGreatDoorMkHM
import Derived.Test.YtbhfooafhbfniaaGreatDoorWnCM
import Derived.Test.YtbhfooafhbfniaaGreatDoorWnSM
/-
  A new world's rows, and what markWorld and heldWorld do to them. No condition.
-/
namespace Go.Proofs.YtbhfooafhbfniaaGreatDoor
open Go.RowKit
structure WV (B : Nat) (w : World) (y1 y2 y3 vh vl va vt vL : Value) (n1 n2 n3 nL n : Nat) (A1 A2 A3 hc AL ls : List Value) : Prop where
  o1 : w.ownsRow B 130 5 y1 n1 A1
  o2 : w.ownsRow B 99 4 y2 n2 A2
  o3 : w.ownsRow B 101 3 y3 n3 A3
  h : w.ownsRow B 65 12 vh 1 hc
  q : w.ownsRow B 130 5 vL nL AL
  l : w.ownsRow B 106 5 vl n ls
  a : w.ownsRow B 57 1 va n (List.replicate n (.slice none 0 0))
  t : w.ownsRow B 57 1 vt n (List.replicate n (.slice none 0 0))
  an : ∀ g, y1.ownBlock = some g → vL.ownBlock ≠ some g
def WVP (y1 y2 y3 vh vl vL : Value) (j : Nat) : Prop := y1.ownBlock = some j ∨ y2.ownBlock = some j ∨ y3.ownBlock = some j ∨ vh.ownBlock = some j ∨ vL.ownBlock = some j ∨ vl.ownBlock = some j
section
variable {B : Nat} {w w' : World} {y1 y2 y3 vh vl va vt vL : Value} {n1 n2 n3 nL n : Nat} {A1 A2 A3 hc AL ls : List Value}
theorem WV.below (S : WV B w y1 y2 y3 vh vl va vt vL n1 n2 n3 nL n A1 A2 A3 hc AL ls) (hb : Below w.heap.size w w') : WV B w' y1 y2 y3 vh vl va vt vL n1 n2 n3 nL n A1 A2 A3 hc AL ls :=
  ⟨own_below S.o1 hb, own_below S.o2 hb, own_below S.o3 hb, own_below S.h hb, own_below S.q hb, own_below S.l hb, own_below S.a hb, own_below S.t hb, S.an⟩
theorem WV.low (S : WV B w y1 y2 y3 vh vl va vt vL n1 n2 n3 nL n A1 A2 A3 hc AL ls) (j : Nat) (h : WVP y1 y2 y3 vh vl vL j) : B ≤ j := by
  rcases h with h | h | h | h | h | h
  · exact (S.o1.lt j h).1
  · exact (S.o2.lt j h).1
  · exact (S.o3.lt j h).1
  · exact (S.h.lt j h).1
  · exact (S.q.lt j h).1
  · exact (S.l.lt j h).1
theorem WV.world (S : WV B w y1 y2 y3 vh vl va vt vL n1 n2 n3 nL n A1 A2 A3 hc AL ls) {j : Nat} {c : Array Value} (hj : w.heap[j]? = some (.cells c 43 (0, 0))) : ¬ WVP y1 y2 y3 vh vl vL j := by
  rintro (h | h | h | h | h | h)
  · exact own_ne S.o1 hj (by decide) h
  · exact own_ne S.o2 hj (by decide) h
  · exact own_ne S.o3 hj (by decide) h
  · exact own_ne S.h hj (by decide) h
  · exact own_ne S.q hj (by decide) h
  · exact own_ne S.l hj (by decide) h
theorem WV.tn {P : Nat → Prop} (S : WV B w y1 y2 y3 vh vl va vt vL n1 n2 n3 nL n A1 A2 A3 hc AL ls) (T : TnS P w w') (hp : ∀ j, B ≤ j → j < w.heap.size → ¬ P j) : WV B w' y1 y2 y3 vh vl va vt vL n1 n2 n3 nL n A1 A2 A3 hc AL ls :=
  ⟨T.own S.o1 fun g h => hp g (S.o1.lt g h).1 (S.o1.lt g h).2, T.own S.o2 fun g h => hp g (S.o2.lt g h).1 (S.o2.lt g h).2, T.own S.o3 fun g h => hp g (S.o3.lt g h).1 (S.o3.lt g h).2, T.own S.h fun g h => hp g (S.h.lt g h).1 (S.h.lt g h).2, T.own S.q fun g h => hp g (S.q.lt g h).1 (S.q.lt g h).2, T.own S.l fun g h => hp g (S.l.lt g h).1 (S.l.lt g h).2, T.own S.a fun g h => hp g (S.a.lt g h).1 (S.a.lt g h).2, T.own S.t fun g h => hp g (S.t.lt g h).1 (S.t.lt g h).2, S.an⟩
end
abbrev WVM (B : Nat) (w' : World) (y1 y2 y3 vh vl va vt vL : Value) (ns : List Nd) (is : List In) (ds : List Df) (L : List Nd) (n : Nat) (k : Int) : Prop :=
  WV B w' y1 y2 y3 vh vl va vt vL ns.length is.length ds.length L.length n (ncs (nmarked k ns ns.length)) ((List.range (is.length * 4)).map (inM (k + 5 * ns.length))) ((List.range (ds.length * 3)).map (dfM (k + 5 * ns.length + 4 * is.length))) (hmk (k + 5 * (ns.length : Int) + 4 * (is.length : Int) + 3 * (ds.length : Int)) vL L) (ncs (nmarked (k + 5 * (ns.length : Int) + 4 * (is.length : Int) + 3 * (ds.length : Int) + 1 + 1) L L.length)) ((List.range (n * 5)).map (lkM (k + 5 * (ns.length : Int) + 4 * (is.length : Int) + 3 * (ds.length : Int) + 1 + 1 + 5 * (L.length : Int) + 1 + 1 + 1 + 1 + 1 + 1 + 1)))
abbrev wvK (ns : List Nd) (is : List In) (ds : List Df) (L : List Nd) (n : Nat) (k : Int) : Int := k + 5 * (ns.length : Int) + 4 * (is.length : Int) + 3 * (ds.length : Int) + 1 + 1 + 5 * (L.length : Int) + 1 + 1 + 1 + 1 + 1 + 1 + 1 + 3 * (n : Int)
set_option maxRecDepth 100000 in
set_option maxHeartbeats 3200000 in
theorem markworld_x (p k : Int) (B : Nat) (c0 c1 c3 c4 c5 c6 c7 c8 c9 : Value) (y1 y2 y3 vh vl va vt vL : Value) (ns : List Nd) (is : List In) (ds : List Df) (L : List Nd) (n : Nat) (w : World)
    (S : WV B w y1 y2 y3 vh vl va vt vL ns.length is.length ds.length L.length n (ncs ns) (incs is) (dfcs ds) [c0, c1, vL, c3, c4, c5, c6, c7, c8, c9, .slice none 0 0, .slice none 0 0] (ncs L) (zls n)) (l1 : ns.length ≤ 4194304) (l2 : is.length ≤ 4194304) (l3 : ds.length ≤ 4194304) (l4 : L.length ≤ 4194304) (l5 : n ≤ 4194304) (hk0 : 0 ≤ k) (hk : k ≤ 1152921504606846976 - 1073741824) :
    Calls Tryz.prog 11 #[.agg #[y1, y2, y3, .int .i64 p, vh, vl, .slice none 0 0, .slice none 0 0, .int .i64 2, va, vt], .int .i64 k] w fun e w' => e = .returned (.int .i64 (wvK ns is ds L n k)) ∧ WVM B w' y1 y2 y3 vh vl va vt vL ns is ds L n k ∧ TnS (WVP y1 y2 y3 vh vl vL) w w' := by
  obtain ⟨a1, e1, rfl⟩ := own_form S.o1
  obtain ⟨a2, e2, rfl⟩ := own_form S.o2
  obtain ⟨a3, e3, rfl⟩ := own_form S.o3
  obtain ⟨ah, eh, rfl⟩ := own_form S.h
  obtain ⟨al, el, rfl⟩ := own_form S.l
  obtain ⟨aa, ea, rfl⟩ := own_form S.a
  obtain ⟨at_, et, rfl⟩ := own_form S.t
  have hx0 : (w.alloc (Obj.cells #[.slice a1 ns.length e1, .slice a2 is.length e2, .slice a3 ds.length e3, .int .i64 p, .slice ah 1 eh, .slice al n el, .slice none 0 0, .slice none 0 0, .int .i64 2, .slice aa n ea, .slice at_ n et] 43)).heap[w.heap.size]? = some (Obj.cells #[.slice a1 ns.length e1, .slice a2 is.length e2, .slice a3 ds.length e3, .int .i64 p, .slice ah 1 eh, .slice al n el, .slice none 0 0, .slice none 0 0, .int .i64 2, .slice aa n ea, .slice at_ n et] 43) := heap_alloc_new _ _
  have hb0 : Below w.heap.size w (w.alloc (Obj.cells #[.slice a1 ns.length e1, .slice a2 is.length e2, .slice a3 ds.length e3, .int .i64 p, .slice ah 1 eh, .slice al n el, .slice none 0 0, .slice none 0 0, .int .i64 2, .slice aa n ea, .slice at_ n et] 43)) := (Below.refl _ _).alloc (Nat.le_refl _) _
  have S0 := S.below hb0
  go_enter Tryz.func11, Tryz.ntmps11
  go_wp2_with (refine wpList_load_sub rfl 36 _ rfl w.heap.size 0 rfl _ 43 #[.slice a1 ns.length e1, .slice a2 is.length e2, .slice a3 ds.length e3] _ hx0 rfl Tryz.underlying36 rfl Tryz.sizeCode ?_)
  refine (markcode_x _ _ _ k B ns is ds _ S0.o1 S0.o2 S0.o3 l1 l2 l3 hk0 (by omega)).mono ?_
  rintro e wa ⟨rfl, r1, r2, r3, Ta⟩
  have hxa := Ta.blk hx0 (by rintro (h | h | h); exact own_ne S0.o1 hx0 (by decide) h; exact own_ne S0.o2 hx0 (by decide) h; exact own_ne S0.o3 hx0 (by decide) h)
  have Sa : WV B wa _ _ _ _ _ _ _ vL ns.length is.length ds.length L.length n _ _ _ [c0, c1, vL, c3, c4, c5, c6, c7, c8, c9, .slice none 0 0, .slice none 0 0] (ncs L) (zls n) :=
    ⟨r1, r2, r3, Ta.own S0.h (by rintro g hg (h | h | h); exact own_two9 S0.h S0.o1 (by decide) g hg h; exact own_two9 S0.h S0.o2 (by decide) g hg h; exact own_two9 S0.h S0.o3 (by decide) g hg h),
     Ta.own S0.q (by rintro g hg (h | h | h); exact S0.an g h hg; exact own_two9 S0.q S0.o2 (by decide) g hg h; exact own_two9 S0.q S0.o3 (by decide) g hg h),
     Ta.own S0.l (by rintro g hg (h | h | h); exact own_two9 S0.l S0.o1 (by decide) g hg h; exact own_two9 S0.l S0.o2 (by decide) g hg h; exact own_two9 S0.l S0.o3 (by decide) g hg h),
     Ta.own S0.a (by rintro g hg (h | h | h); exact own_two9 S0.a S0.o1 (by decide) g hg h; exact own_two9 S0.a S0.o2 (by decide) g hg h; exact own_two9 S0.a S0.o3 (by decide) g hg h),
     Ta.own S0.t (by rintro g hg (h | h | h); exact own_two9 S0.t S0.o1 (by decide) g hg h; exact own_two9 S0.t S0.o2 (by decide) g hg h; exact own_two9 S0.t S0.o3 (by decide) g hg h), S0.an⟩
  have TA : TnS (WVP (.slice a1 ns.length e1) (.slice a2 is.length e2) (.slice a3 ds.length e3) (.slice ah 1 eh) (.slice al n el) vL) w wa := (TnS.of_below _ hb0).trans (Ta.mono (by rintro j (h | h | h); exact Or.inl h; exact Or.inr (Or.inl h); exact Or.inr (Or.inr (Or.inl h))))
  clear S S0 hb0 hx0 Ta r1 r2 r3
  have q4 : wa.cell? ⟨w.heap.size, 0 + 4, none⟩ = some (.slice ah 1 eh) := cell_of_row wa _ 4 _ _ _ hxa
  obtain ⟨K1, hK1⟩ : ∃ K1, Hid (k + 5 * (ns.length : Int) + 4 * (is.length : Int) + 3 * (ds.length : Int) = K1) := ⟨_, rfl⟩
  have hK1a : 0 ≤ K1 := by have := hK1.out; omega
  have hK1b : K1 ≤ 1152921504606846976 - 500000000 := by have := hK1.out; omega
  rw [hK1.out]
  go_wp2_with fail
  refine (markhomes_x _ vL K1 B c0 c1 c3 c4 c5 c6 c7 c8 c9 L _ Sa.h Sa.q l4 hK1a (by omega)).mono ?_
  rintro e wb ⟨rfl, rh, rq, Tb⟩
  have hxb := Tb.blk hxa (by rintro (h | h); exact own_ne Sa.h hxa (by decide) h; exact own_ne Sa.q hxa (by decide) h)
  have Sb : WV B wb _ _ _ _ _ _ _ vL ns.length is.length ds.length L.length n _ _ _ (hmk K1 vL L) (ncs (nmarked (K1 + 1 + 1) L L.length)) (zls n) :=
    ⟨Tb.own Sa.o1 (by rintro g hg (h | h); exact own_two9 Sa.o1 Sa.h (by decide) g hg h; exact Sa.an g hg h),
     Tb.own Sa.o2 (by rintro g hg (h | h); exact own_two9 Sa.o2 Sa.h (by decide) g hg h; exact own_two9 Sa.o2 Sa.q (by decide) g hg h),
     Tb.own Sa.o3 (by rintro g hg (h | h); exact own_two9 Sa.o3 Sa.h (by decide) g hg h; exact own_two9 Sa.o3 Sa.q (by decide) g hg h), rh, rq,
     Tb.own Sa.l (by rintro g hg (h | h); exact own_two9 Sa.l Sa.h (by decide) g hg h; exact own_two9 Sa.l Sa.q (by decide) g hg h),
     Tb.own Sa.a (by rintro g hg (h | h); exact own_two9 Sa.a Sa.h (by decide) g hg h; exact own_two9 Sa.a Sa.q (by decide) g hg h),
     Tb.own Sa.t (by rintro g hg (h | h); exact own_two9 Sa.t Sa.h (by decide) g hg h; exact own_two9 Sa.t Sa.q (by decide) g hg h), Sa.an⟩
  have TB : TnS (WVP (.slice a1 ns.length e1) (.slice a2 is.length e2) (.slice a3 ds.length e3) (.slice ah 1 eh) (.slice al n el) vL) w wb := TA.trans (Tb.mono (by rintro j (h | h); exact Or.inr (Or.inr (Or.inr (Or.inl h))); exact Or.inr (Or.inr (Or.inr (Or.inr (Or.inl h))))))
  clear Sa TA Tb hxa rh rq q4
  have q5 : wb.cell? ⟨w.heap.size, 0 + 5, none⟩ = some (.slice al n el) := cell_of_row wb _ 5 _ _ _ hxb
  go_wp2_with fail
  refine (marklinks_z _ (K1 + 1 + 1 + 5 * (L.length : Int) + 1 + 1 + 1 + 1 + 1 + 1 + 1) B n _ Sb.l l5 (by omega) (by omega)).mono ?_
  rintro e wc ⟨rfl, rl, gc⟩
  have Tc := TnS.of_grown gc
  have hxc := Tc.blk hxb (fun h => own_ne Sb.l hxb (by decide) h)
  have Sc : WV B wc _ _ _ _ _ _ _ vL ns.length is.length ds.length L.length n _ _ _ (hmk K1 vL L) (ncs (nmarked (K1 + 1 + 1) L L.length)) ((List.range (n * 5)).map (lkM (K1 + 1 + 1 + 5 * (L.length : Int) + 1 + 1 + 1 + 1 + 1 + 1 + 1))) :=
    ⟨Tc.own Sb.o1 (fun g hg h => own_two9 Sb.o1 Sb.l (by decide) g hg h), Tc.own Sb.o2 (fun g hg h => own_two9 Sb.o2 Sb.l (by decide) g hg h), Tc.own Sb.o3 (fun g hg h => own_two9 Sb.o3 Sb.l (by decide) g hg h), Tc.own Sb.h (fun g hg h => own_two9 Sb.h Sb.l (by decide) g hg h), Tc.own Sb.q (fun g hg h => own_two9 Sb.q Sb.l (by decide) g hg h), rl, Tc.own Sb.a (fun g hg h => own_two9 Sb.a Sb.l (by decide) g hg h), Tc.own Sb.t (fun g hg h => own_two9 Sb.t Sb.l (by decide) g hg h), Sb.an⟩
  have TC : TnS (WVP (.slice a1 ns.length e1) (.slice a2 is.length e2) (.slice a3 ds.length e3) (.slice ah 1 eh) (.slice al n el) vL) w wc := TB.trans (Tc.mono (fun j h => Or.inr (Or.inr (Or.inr (Or.inr (Or.inr h))))))
  clear Sb TB Tc hxb rl gc q5
  have q6 : wc.cell? ⟨w.heap.size, 0 + 6, none⟩ = some (.slice none 0 0) := cell_of_row wc _ 6 _ _ _ hxc
  have q7 : wc.cell? ⟨w.heap.size, 0 + 7, none⟩ = some (.slice none 0 0) := cell_of_row wc _ 7 _ _ _ hxc
  have q9 : wc.cell? ⟨w.heap.size, 0 + 9, none⟩ = some (.slice aa n ea) := cell_of_row wc _ 9 _ _ _ hxc
  go_wp2_with fail
  refine (markgrams_nil _ _).mono ?_
  rintro e _ ⟨rfl, rfl⟩
  go_wp2_with fail
  refine (markparkeds_nil _ _).mono ?_
  rintro e _ ⟨rfl, rfl⟩
  go_wp2_with fail
  refine (marksss_nils _ _ B n _ Sc.a l5 (by omega) (by omega)).mono ?_
  rintro e wd ⟨rfl, hbd⟩
  have hxd := blk_bel hxc hbd
  have Sd := Sc.below hbd
  have TD := TC.trans (TnS.of_below _ hbd)
  clear Sc TC hxc hbd q6 q7 q9
  have q10 : wd.cell? ⟨w.heap.size, 0 + 10, none⟩ = some (.slice at_ n et) := cell_of_row wd _ 10 _ _ _ hxd
  go_wp2_with fail
  refine (marksss_nils _ _ B n _ Sd.t l5 (by omega) (by omega)).mono ?_
  rintro e we ⟨rfl, hbe⟩
  have Se := Sd.below hbe
  have TE := TD.trans (TnS.of_below _ hbe)
  clear Sd TD hxd hbe q10
  go_wp2
  go_ret
  have hk9 := hK1.out
  subst hk9
  exact ⟨rfl, Se, TE⟩
set_option maxRecDepth 100000 in
set_option maxHeartbeats 3200000 in
theorem heldworld_x (p k : Int) (B : Nat) (y1 y2 y3 vh vl va vt vL : Value) (ns : List Nd) (is : List In) (ds : List Df) (L : List Nd) (n : Nat) (w : World)
    (S : WVM B w y1 y2 y3 vh vl va vt vL ns is ds L n k) (l1 : ns.length ≤ 4194304) (l2 : is.length ≤ 4194304) (l3 : ds.length ≤ 4194304) (l4 : L.length ≤ 4194304) (l5 : n ≤ 4194304) (hk0 : 0 ≤ k) (hk : k ≤ 1152921504606846976 - 1073741824) :
    Calls Tryz.prog 12 #[.agg #[y1, y2, y3, .int .i64 p, vh, vl, .slice none 0 0, .slice none 0 0, .int .i64 2, va, vt], .int .i64 k] w fun e w' => e = .returned (.int .i64 (wvK ns is ds L n k)) ∧ Below w.heap.size w w' := by
  obtain ⟨a1, e1, rfl⟩ := own_form S.o1
  obtain ⟨a2, e2, rfl⟩ := own_form S.o2
  obtain ⟨a3, e3, rfl⟩ := own_form S.o3
  obtain ⟨ah, eh, rfl⟩ := own_form S.h
  obtain ⟨al, el, rfl⟩ := own_form S.l
  obtain ⟨aa, ea, rfl⟩ := own_form S.a
  obtain ⟨at_, et, rfl⟩ := own_form S.t
  have hx0 : (w.alloc (Obj.cells #[.slice a1 ns.length e1, .slice a2 is.length e2, .slice a3 ds.length e3, .int .i64 p, .slice ah 1 eh, .slice al n el, .slice none 0 0, .slice none 0 0, .int .i64 2, .slice aa n ea, .slice at_ n et] 43)).heap[w.heap.size]? = some (Obj.cells #[.slice a1 ns.length e1, .slice a2 is.length e2, .slice a3 ds.length e3, .int .i64 p, .slice ah 1 eh, .slice al n el, .slice none 0 0, .slice none 0 0, .int .i64 2, .slice aa n ea, .slice at_ n et] 43) := heap_alloc_new _ _
  have hb0 : Below w.heap.size w (w.alloc (Obj.cells #[.slice a1 ns.length e1, .slice a2 is.length e2, .slice a3 ds.length e3, .int .i64 p, .slice ah 1 eh, .slice al n el, .slice none 0 0, .slice none 0 0, .int .i64 2, .slice aa n ea, .slice at_ n et] 43)) := (Below.refl _ _).alloc (Nat.le_refl _) _
  go_enter Tryz.func12, Tryz.ntmps12
  go_wp2_with (refine wpList_load_sub rfl 36 _ rfl w.heap.size 0 rfl _ 43 #[.slice a1 ns.length e1, .slice a2 is.length e2, .slice a3 ds.length e3] _ hx0 rfl Tryz.underlying36 rfl Tryz.sizeCode ?_)
  have S0 := S.below hb0
  refine (heldcode_x _ _ _ k B ns is ds _ S0.o1 S0.o2 S0.o3 l1 l2 l3 hk0 (by omega)).mono ?_
  rintro e wa ⟨rfl, hba⟩
  have hxa := blk_bel hx0 hba
  have Sa := S0.below hba
  have hBa := hb0.trans (hba.mono hb0.size)
  clear S S0 hb0 hx0 hba
  have q4 : wa.cell? ⟨w.heap.size, 0 + 4, none⟩ = some (.slice ah 1 eh) := cell_of_row wa _ 4 _ _ _ hxa
  obtain ⟨K1, hK1⟩ : ∃ K1, Hid (k + 5 * (ns.length : Int) + 4 * (is.length : Int) + 3 * (ds.length : Int) = K1) := ⟨_, rfl⟩
  have hK1a : 0 ≤ K1 := by have := hK1.out; omega
  have hK1b : K1 ≤ 1152921504606846976 - 500000000 := by have := hK1.out; omega
  rw [hK1.out] at Sa ⊢
  have p1 : ¬ K1 < 0 := by omega
  go_wp2_with fail
  refine (heldhomes_x _ vL K1 B L _ Sa.h Sa.q l4 hK1a (by omega)).mono ?_
  rintro e wb ⟨rfl, hbb⟩
  have hxb := blk_bel hxa hbb
  have Sb := Sa.below hbb
  have hBb := hBa.trans (hbb.mono hBa.size)
  have p2 : ¬ (K1 + 1 + 1 + 5 * (L.length : Int) + 1 + 1 + 1 + 1 + 1 + 1 + 1) < 0 := by omega
  clear Sa hBa hxa hbb q4
  have q5 : wb.cell? ⟨w.heap.size, 0 + 5, none⟩ = some (.slice al n el) := cell_of_row wb _ 5 _ _ _ hxb
  go_wp2_with fail
  refine (heldlinks_z _ (K1 + 1 + 1 + 5 * (L.length : Int) + 1 + 1 + 1 + 1 + 1 + 1 + 1) B n _ Sb.l l5 (by omega) (by omega)).mono ?_
  rintro e wc ⟨rfl, hbc⟩
  have hxc := blk_bel hxb hbc
  have Sc := Sb.below hbc
  have hBc := hBb.trans (hbc.mono hBb.size)
  have p3 : ¬ (K1 + 1 + 1 + 5 * (L.length : Int) + 1 + 1 + 1 + 1 + 1 + 1 + 1 + 3 * (n : Int)) < 0 := by omega
  clear Sb hBb hxb hbc q5
  have q6 : wc.cell? ⟨w.heap.size, 0 + 6, none⟩ = some (.slice none 0 0) := cell_of_row wc _ 6 _ _ _ hxc
  have q7 : wc.cell? ⟨w.heap.size, 0 + 7, none⟩ = some (.slice none 0 0) := cell_of_row wc _ 7 _ _ _ hxc
  have q9 : wc.cell? ⟨w.heap.size, 0 + 9, none⟩ = some (.slice aa n ea) := cell_of_row wc _ 9 _ _ _ hxc
  go_wp2_with fail
  refine (heldgrams_nil _ _).mono ?_
  rintro e _ ⟨rfl, rfl⟩
  go_wp2_with fail
  refine (heldparkeds_nil _ _).mono ?_
  rintro e _ ⟨rfl, rfl⟩
  go_wp2_with fail
  refine (heldsss_nils _ _ B n _ Sc.a l5 (by omega) (by omega)).mono ?_
  rintro e wd ⟨rfl, hbd⟩
  have hxd := blk_bel hxc hbd
  have Sd := Sc.below hbd
  have hBd := hBc.trans (hbd.mono hBc.size)
  clear Sc hBc hxc hbd q6 q7 q9
  have q10 : wd.cell? ⟨w.heap.size, 0 + 10, none⟩ = some (.slice at_ n et) := cell_of_row wd _ 10 _ _ _ hxd
  go_wp2_with fail
  refine (heldsss_nils _ _ B n _ Sd.t l5 (by omega) (by omega)).mono ?_
  rintro e we ⟨rfl, hbe⟩
  have hBe := hBd.trans (hbe.mono hBd.size)
  clear Sd hBd hxd hbe q10
  go_wp2
  go_ret
  have hk9 := hK1.out
  subst hk9
  exact ⟨rfl, hBe⟩
end Go.Proofs.YtbhfooafhbfniaaGreatDoor
/-
  spec.WorldNew: its contract; and what both WorldNew answer. No condition.
-/
namespace Go.Proofs.YtbhfooafhbfniaaGreatDoor
open Go.RowKit
theorem own_one {w : World} {B k n : Nat} {e : TypeId} {v : Value} {l : List Value} (h : w.ownsRow B e k v n l) : v.oneCell' = true := by
  obtain ⟨_, _, rfl⟩ := own_form h
  rfl
theorem zls_zeros (n : Nat) : (madeCells #[Value.int .i64 0, .int .i64 0, .slice none 0 0, .int .i64 0, .slice none 0 0] (n * 5)).toList = zls n := by
  apply List.ext_getElem?
  intro j
  have hl := zls_len n
  by_cases hj : j < n * 5
  · obtain ⟨z0, z1, z2, z3, z4⟩ := zls_at n (j / 5) (by omega)
    have h5 : j % 5 = 0 ∨ j % 5 = 1 ∨ j % 5 = 2 ∨ j % 5 = 3 ∨ j % 5 = 4 := by omega
    rcases h5 with h5 | h5 | h5 | h5 | h5
    · rw [show j / 5 * 5 = j by omega] at z0; rw [z0]; simp [madeCells, hj, h5]
    · rw [show j / 5 * 5 + 1 = j by omega] at z1; rw [z1]; simp [madeCells, hj, h5]
    · rw [show j / 5 * 5 + 2 = j by omega] at z2; rw [z2]; simp [madeCells, hj, h5]
    · rw [show j / 5 * 5 + 3 = j by omega] at z3; rw [z3]; simp [madeCells, hj, h5]
    · rw [show j / 5 * 5 + 4 = j by omega] at z4; rw [z4]; simp [madeCells, hj, h5]
  · rw [List.getElem?_eq_none (by simp [madeCells]; omega), List.getElem?_eq_none (by omega)]
abbrev hmc (I : Int) (M : Mc) (vL : Value) : List Value := [.int .i64 0, .int .i64 I, vL, .int .i64 M.p, .int .i64 M.s, .int .i64 M.e, .int .i64 M.d, .int .i64 M.t, .int .i64 M.q, .int .i64 M.r, .slice none 0 0, .slice none 0 0]
def WnA (B : Nat) (ns : List Nd) (is : List In) (ds : List Df) (p : Nat) (I : Int) (M : Mc) (L : List Nd) (k : Bool) (e : Ending) (w' : World) : Prop :=
  (k = true ∧ ∃ y1 y2 y3 vh vl va vt vL, e = .returned (.tuple #[.agg #[y1, y2, y3, .int .i64 (p : Int), vh, vl, .slice none 0 0, .slice none 0 0, .int .i64 2, va, vt], .bool true]) ∧ WV B w' y1 y2 y3 vh vl va vt vL ns.length is.length ds.length L.length (p * p) (ncs ns) (incs is) (dfcs ds) (hmc I M vL) (ncs L) (zls (p * p))) ∨
  (k = false ∧ e = .returned (.tuple #[.agg #[.slice none 0 0, .slice none 0 0, .slice none 0 0, .int .i64 0, .slice none 0 0, .slice none 0 0, .slice none 0 0, .slice none 0 0, .int .i64 0, .slice none 0 0, .slice none 0 0], .bool false]))
set_option maxRecDepth 100000 in
set_option maxHeartbeats 6400000 in
theorem sworldnew_in (v1 v2 v3 : Value) (ns : List Nd) (is : List In) (ds : List Df) (p : Nat) (w : World) (R1 : NRow w v1 ns) (R2 : InRow w v2 is) (R3 : DfRow w v3 ds) (l1 : ns.length ≤ 1048576) (l2 : is.length ≤ 1048576) (l3 : ds.length ≤ 1048576) (hp1 : 1 ≤ p) (hp3 : p ≤ 3) :
    Calls Tryz.prog 5 #[.agg #[v1, v2, v3], .int .i64 (p : Int)] w fun e w' => WnA w.heap.size ns is ds p (pnI ns is ds ⟨#[109, 97, 105, 110]⟩ 1) (newM (pnD ns is ds ⟨#[109, 97, 105, 110]⟩ 1)) (newL (pnD ns is ds ⟨#[109, 97, 105, 110]⟩ 1)) (pnB ns is ds ⟨#[109, 97, 105, 110]⟩ 1) e w' ∧ Below w.heap.size w w' := by
  obtain ⟨a1, c1, rfl⟩ := R1.small8
  obtain ⟨a2, c2, rfl⟩ := R2.small
  obtain ⟨a3, c3, rfl⟩ := R3.small
  obtain ⟨ia, hia, hza0, hza1, hza2⟩ := info_parts Tryz.infoSs8
  obtain ⟨hB0, hx0, hy0⟩ := two_boxes w (Obj.cells #[.slice a1 ns.length c1, .slice a2 is.length c2, .slice a3 ds.length c3] 36) (Obj.cells #[.slice none 0 0, .slice none 0 0, .slice none 0 0, .int .i64 0, .slice none 0 0, .slice none 0 0, .slice none 0 0, .slice none 0 0, .int .i64 0, .slice none 0 0, .slice none 0 0] 43)
  have HC := sprocnew_any _ _ _ ns is ds ⟨#[109, 97, 105, 110]⟩ 1 _ (R1.below hB0) (R2.below hB0) (R3.below hB0)
  obtain ⟨I, hI⟩ : ∃ I, Hid (pnI ns is ds ⟨#[109, 97, 105, 110]⟩ 1 = I) := ⟨_, rfl⟩
  obtain ⟨M, hM⟩ : ∃ M, Hid (newM (pnD ns is ds ⟨#[109, 97, 105, 110]⟩ 1) = M) := ⟨_, rfl⟩
  obtain ⟨L, hL⟩ : ∃ L, Hid (newL (pnD ns is ds ⟨#[109, 97, 105, 110]⟩ 1) = L) := ⟨_, rfl⟩
  obtain ⟨k, hk⟩ : ∃ k, Hid (pnB ns is ds ⟨#[109, 97, 105, 110]⟩ 1 = k) := ⟨_, rfl⟩
  rw [hI.out, hM.out, hL.out, hk.out] at HC ⊢
  clear hI hM hL hk
  have hpin : (decide ((1 : Int) ≤ (p : Int)) && decide ((p : Int) ≤ 3)) = true := by simp; omega
  go_enter Tryz.func5, Tryz.ntmps5
  go_wp2_with (refine wpList_load_row rfl 36 _ rfl w.heap.size rfl 36 #[.slice a1 ns.length c1, .slice a2 is.length c2, .slice a3 ds.length c3] (0, 0) _ hx0 Tryz.underlying36 rfl Tryz.sizeCode8 ?_)
  refine HC.mono ?_
  rintro e w1 ⟨⟨vL, rfl, O1⟩, hb1⟩
  obtain ⟨aq, cq, rfl⟩ := own_form O1
  have hB1 := hB0.trans (hb1.mono hB0.size)
  have hx1 := blk_bel hx0 hb1
  have hy1 := blk_bel hy0 hb1
  replace O1 := own_mono (B' := w.heap.size) O1 (by simp; omega)
  clear hB0 hx0 hy0 hb1 HC
  go_wp2_with (refine wpList_store_own2 rfl 59 _ _ rfl w1.heap.size #[.int .i64 I, .slice aq L.length cq, .int .i64 M.p, .int .i64 M.s, .int .i64 M.e, .int .i64 M.d, .int .i64 M.t, .int .i64 M.q, .int .i64 M.r, .slice none 0 0, .slice none 0 0] rfl rfl 59 #[.int .i64 0, .slice none 0 0, .int .i64 0, .int .i64 0, .int .i64 0, .int .i64 0, .int .i64 0, .int .i64 0, .int .i64 0, .slice none 0 0, .slice none 0 0] (heap_alloc_new _ _) Tryz.sizeProc rfl (by simp [Value.oneCell']) ?_)
  intro w2 hp2 hb2 hs2 hk2
  have hb : Below w1.heap.size w1 w2 := ((Below.refl _ _).alloc (Nat.le_refl _) _).trans hb2
  have O2 := own_below O1 hb
  have hB2 := hB1.trans (hb.mono hB1.size)
  have hx2 := blk_bel hx1 hb
  have hy2 := blk_bel hy1 hb
  clear hb2 hs2 hk2 hb O1 hB1 hx1 hy1
  generalize w1.heap.size = bp at *
  have ly := blk_lt hy2
  cases k with
  | false =>
    go_wp2_with (refine wpList_store_own2 rfl 43 _ _ rfl (w.heap.size + 1) #[.slice none 0 0, .slice none 0 0, .slice none 0 0, .int .i64 0, .slice none 0 0, .slice none 0 0, .slice none 0 0, .slice none 0 0, .int .i64 0, .slice none 0 0, .slice none 0 0] rfl rfl 43 #[.slice none 0 0, .slice none 0 0, .slice none 0 0, .int .i64 0, .slice none 0 0, .slice none 0 0, .slice none 0 0, .slice none 0 0, .int .i64 0, .slice none 0 0, .slice none 0 0] hy2 Tryz.sizeWd rfl (by simp [Value.oneCell']) ?_)
    intro wB hvB hbB hsB hkB
    go_wp2
    refine bodyPost_ret (results_row_tmp rfl _ _ (w.heap.size + 1) 43 _ (0, 0) _ rfl hvB Tryz.underlying43 rfl Tryz.sizeWd) rfl ⟨Or.inr ⟨rfl, rfl⟩, hB2.trans (hbB.mono (by omega))⟩
  | true =>
    go_wp2_with fail
    refine (lin_any (p : Int) 1 3 _).mono ?_
    rintro e _ ⟨rfl, rfl⟩
    rw [hpin]
    go_wp2_with fail
    have hnn : p * p ≤ 9 := by
      have := Nat.mul_le_mul hp3 hp3
      omega
    have hpp : wrap64 ((p : Int) * (p : Int)) = ((p * p : Nat) : Int) := by
      rw [show ((p : Int) * (p : Int)) = ((p * p : Nat) : Int) from by simp]
      unfold wrap64; omega
    rw [hpp]
    refine swn_r5 w.heap.size bp (p : Int) (p * p) _ _ _ _ _ _ _ _ _ _ _ a1 a2 a3 c1 c2 c3 ns is ds _ _ hx2 hp2 (by omega) (R1.below hB2) (R2.below hB2) (R3.below hB2) l1 l2 l3 ?_
    intro u26 u27 u28 u29 u30 u31 u32 u33 u34 y1 y2 y3 vh vl g W hgl hg5 o1 o2 o3 oh ol hbW
    rw [show (Value.agg #[Value.int .i64 0, .int .i64 0, .slice none 0 0, .int .i64 0, .slice none 0 0]).cells = #[Value.int .i64 0, .int .i64 0, .slice none 0 0, .int .i64 0, .slice none 0 0] from rfl, zls_zeros] at ol
    have hsz := hB2.size
    have hap : ∀ q, y1.ownBlock = some q → (Value.slice aq L.length cq).ownBlock ≠ some q := fun q h1 h2 => by
      have e1 := (o1.lt q h1).1
      have e2 := (O2.lt q h2).2
      omega
    have hyW := blk_bel hy2 hbW
    have OL := own_below O2 hbW
    have hBW := hB2.trans (hbW.mono hB2.size)
    have gg : w.heap.size + 1 < g := by have := ly; omega
    replace o1 := own_mono o1 hsz
    replace o2 := own_mono o2 hsz
    replace o3 := own_mono o3 hsz
    replace oh := own_mono oh hsz
    replace ol := own_mono ol hsz
    clear hB2 hx2 hy2 hp2 O2 hbW hgl
    go_wp2_with (at_make; refine wpList_make_full _ rfl _ _ 41 rfl w.heap.size 57 ia _ 1 Tryz.underlying41 hia hza0 hza1 _ _ _ _ (p * p) rfl rfl rfl rfl (by rw [hza2]; omega) (by unfold maxLen; omega) hBW.size ?_)
    intro w6 oa hg6
    rw [toList_madeCells_one] at oa
    obtain ⟨va, hva⟩ : ∃ va, Hid (Value.slice (some ⟨W.heap.size, 0, none⟩) (p * p) (p * p) = va) := ⟨_, rfl⟩
    have hb6 : Below W.heap.size W w6 := (Below.refl _ _).grown hg6 (Nat.le_refl _) (by intro k hk; cases hk)
    have hg6' := blk_bel hg5 hb6
    rw [hva.out] at oa ⊢
    go_wp2_with (refine wpList_store_at rfl 41 _ _ rfl g 9 va #[va] rfl rfl (by rw [← hva.out]; rfl) (by rw [← hva.out]; rfl) 43 #[y1, y2, y3, .int .i64 (p : Int), vh, vl, .slice none 0 0, .slice none 0 0, .int .i64 2, .slice none 0 0, .slice none 0 0] #[y1, y2, y3, .int .i64 (p : Int), vh, vl, .slice none 0 0, .slice none 0 0, .int .i64 2, va, .slice none 0 0] hg6' (by simp) (by kernel_rfl) rfl ?_)
    intro w7 hn7 hbl7 hsz7 hoth7
    have hxo := hg6'
    replace o1 := own_other (own_below o1 hb6) (own_ne (own_below o1 hb6) hxo (by decide)) hoth7
    replace o2 := own_other (own_below o2 hb6) (own_ne (own_below o2 hb6) hxo (by decide)) hoth7
    replace o3 := own_other (own_below o3 hb6) (own_ne (own_below o3 hb6) hxo (by decide)) hoth7
    replace oh := own_other (own_below oh hb6) (own_ne (own_below oh hb6) hxo (by decide)) hoth7
    replace ol := own_other (own_below ol hb6) (own_ne (own_below ol hb6) hxo (by decide)) hoth7
    replace OL := own_other (own_below OL hb6) (own_ne (own_below OL hb6) hxo (by decide)) hoth7
    replace oa := own_other oa (own_ne oa hxo (by decide)) hoth7
    have hB7 : Below w.heap.size w w7 := (hBW.trans (hb6.mono hBW.size)).trans (hbl7.mono (by omega))
    have hy7 := (hoth7 (w.heap.size + 1) (by omega)).trans (blk_bel hyW hb6)
    clear hg5 hg6 hg6' hxo hb6 hbl7 hsz7 hoth7 hBW hyW hva
    go_wp2_with (at_make; refine wpList_make_full _ rfl _ _ 41 rfl w.heap.size 57 ia _ 1 Tryz.underlying41 hia hza0 hza1 _ _ _ _ (p * p) rfl rfl rfl rfl (by rw [hza2]; omega) (by unfold maxLen; omega) hB7.size ?_)
    intro w8 ot hg8
    rw [toList_madeCells_one] at ot
    obtain ⟨vt, hvt⟩ : ∃ vt, Hid (Value.slice (some ⟨w7.heap.size, 0, none⟩) (p * p) (p * p) = vt) := ⟨_, rfl⟩
    have hb8 : Below w7.heap.size w7 w8 := (Below.refl _ _).grown hg8 (Nat.le_refl _) (by intro k hk; cases hk)
    have hg8' := blk_bel hn7 hb8
    rw [hvt.out] at ot ⊢
    go_wp2_with (refine wpList_store_at rfl 41 _ _ rfl g 10 vt #[vt] rfl rfl (by rw [← hvt.out]; rfl) (by rw [← hvt.out]; rfl) 43 #[y1, y2, y3, .int .i64 (p : Int), vh, vl, .slice none 0 0, .slice none 0 0, .int .i64 2, va, .slice none 0 0] #[y1, y2, y3, .int .i64 (p : Int), vh, vl, .slice none 0 0, .slice none 0 0, .int .i64 2, va, vt] hg8' (by simp) (by kernel_rfl) rfl ?_)
    intro w9 hn9 hbl9 hsz9 hoth9
    have hxo := hg8'
    replace o1 := own_other (own_below o1 hb8) (own_ne (own_below o1 hb8) hxo (by decide)) hoth9
    replace o2 := own_other (own_below o2 hb8) (own_ne (own_below o2 hb8) hxo (by decide)) hoth9
    replace o3 := own_other (own_below o3 hb8) (own_ne (own_below o3 hb8) hxo (by decide)) hoth9
    replace oh := own_other (own_below oh hb8) (own_ne (own_below oh hb8) hxo (by decide)) hoth9
    replace ol := own_other (own_below ol hb8) (own_ne (own_below ol hb8) hxo (by decide)) hoth9
    replace OL := own_other (own_below OL hb8) (own_ne (own_below OL hb8) hxo (by decide)) hoth9
    replace oa := own_other (own_below oa hb8) (own_ne (own_below oa hb8) hxo (by decide)) hoth9
    replace ot := own_other ot (own_ne ot hxo (by decide)) hoth9
    have hB9 : Below w.heap.size w w9 := (hB7.trans (hb8.mono hB7.size)).trans (hbl9.mono (by omega))
    have hy9 := (hoth9 (w.heap.size + 1) (by omega)).trans (blk_bel hy7 hb8)
    clear hn7 hg8 hg8' hxo hb8 hbl9 hsz9 hoth9 hB7 hy7 hvt
    go_wp2_with (first
      | (refine wpList_load_row rfl 43 _ rfl g rfl 43 #[y1, y2, y3, .int .i64 (p : Int), vh, vl, .slice none 0 0, .slice none 0 0, .int .i64 2, va, vt] (0, 0) _ hn9 Tryz.underlying43 rfl Tryz.sizeWd ?_)
      | (refine wpList_store_own2 rfl 43 _ _ rfl (w.heap.size + 1) #[y1, y2, y3, .int .i64 (p : Int), vh, vl, .slice none 0 0, .slice none 0 0, .int .i64 2, va, vt] rfl rfl 43 #[.slice none 0 0, .slice none 0 0, .slice none 0 0, .int .i64 0, .slice none 0 0, .slice none 0 0, .slice none 0 0, .slice none 0 0, .int .i64 0, .slice none 0 0, .slice none 0 0] hy9 Tryz.sizeWd rfl (by simp [Value.oneCell']; exact ⟨own_one o1, own_one o2, own_one o3, own_one oh, own_one ol, own_one oa, own_one ot⟩) ?_))
    intro wB hvB hbB hsB hkB
    have hxo := hy9
    replace o1 := own_other o1 (own_ne o1 hxo (by decide)) hkB
    replace o2 := own_other o2 (own_ne o2 hxo (by decide)) hkB
    replace o3 := own_other o3 (own_ne o3 hxo (by decide)) hkB
    replace oh := own_other oh (own_ne oh hxo (by decide)) hkB
    replace ol := own_other ol (own_ne ol hxo (by decide)) hkB
    replace OL := own_other OL (own_ne OL hxo (by decide)) hkB
    replace oa := own_other oa (own_ne oa hxo (by decide)) hkB
    replace ot := own_other ot (own_ne ot hxo (by decide)) hkB
    have hBB := hB9.trans (hbB.mono (by omega))
    clear hxo hn9 hB9 hy9 hkB hbB
    go_wp2
    exact bodyPost_ret (results_row_tmp rfl _ _ (w.heap.size + 1) 43 _ (0, 0) _ rfl hvB Tryz.underlying43 rfl Tryz.sizeWd) rfl ⟨Or.inl ⟨rfl, _, _, _, _, _, _, _, _, rfl, ⟨o1, o2, o3, oh, OL, ol, oa, ot, hap⟩⟩, hBB⟩
set_option maxRecDepth 100000 in
set_option maxHeartbeats 6400000 in
theorem sworldnew_out (v1 v2 v3 : Value) (ns : List Nd) (is : List In) (ds : List Df) (pl : Int) (w : World) (R1 : NRow w v1 ns) (R2 : InRow w v2 is) (R3 : DfRow w v3 ds) (hp : ¬ (1 ≤ pl ∧ pl ≤ 3)) :
    Calls Tryz.prog 5 #[.agg #[v1, v2, v3], .int .i64 pl] w fun e w' => e = .returned (.tuple #[.agg #[.slice none 0 0, .slice none 0 0, .slice none 0 0, .int .i64 0, .slice none 0 0, .slice none 0 0, .slice none 0 0, .slice none 0 0, .int .i64 0, .slice none 0 0, .slice none 0 0], .bool false]) ∧ Below w.heap.size w w' := by
  obtain ⟨a1, c1, rfl⟩ := R1.small8
  obtain ⟨a2, c2, rfl⟩ := R2.small
  obtain ⟨a3, c3, rfl⟩ := R3.small
  obtain ⟨hB0, hx0, hy0⟩ := two_boxes w (Obj.cells #[.slice a1 ns.length c1, .slice a2 is.length c2, .slice a3 ds.length c3] 36) (Obj.cells #[.slice none 0 0, .slice none 0 0, .slice none 0 0, .int .i64 0, .slice none 0 0, .slice none 0 0, .slice none 0 0, .slice none 0 0, .int .i64 0, .slice none 0 0, .slice none 0 0] 43)
  have HC := sprocnew_any _ _ _ ns is ds ⟨#[109, 97, 105, 110]⟩ 1 _ (R1.below hB0) (R2.below hB0) (R3.below hB0)
  obtain ⟨I, hI⟩ : ∃ I, Hid (pnI ns is ds ⟨#[109, 97, 105, 110]⟩ 1 = I) := ⟨_, rfl⟩
  obtain ⟨M, hM⟩ : ∃ M, Hid (newM (pnD ns is ds ⟨#[109, 97, 105, 110]⟩ 1) = M) := ⟨_, rfl⟩
  obtain ⟨L, hL⟩ : ∃ L, Hid (newL (pnD ns is ds ⟨#[109, 97, 105, 110]⟩ 1) = L) := ⟨_, rfl⟩
  obtain ⟨k, hk⟩ : ∃ k, Hid (pnB ns is ds ⟨#[109, 97, 105, 110]⟩ 1 = k) := ⟨_, rfl⟩
  rw [hI.out, hM.out, hL.out, hk.out] at HC
  clear hI hM hL hk
  have hpin : (decide ((1 : Int) ≤ pl) && decide (pl ≤ 3)) = false := by simp; intro h1; exact Int.not_le.1 fun h2 => hp ⟨h1, h2⟩
  go_enter Tryz.func5, Tryz.ntmps5
  go_wp2_with (refine wpList_load_row rfl 36 _ rfl w.heap.size rfl 36 #[.slice a1 ns.length c1, .slice a2 is.length c2, .slice a3 ds.length c3] (0, 0) _ hx0 Tryz.underlying36 rfl Tryz.sizeCode8 ?_)
  refine HC.mono ?_
  rintro e w1 ⟨⟨vL, rfl, O1⟩, hb1⟩
  obtain ⟨aq, cq, rfl⟩ := own_form O1
  have hB1 := hB0.trans (hb1.mono hB0.size)
  have hx1 := blk_bel hx0 hb1
  have hy1 := blk_bel hy0 hb1
  replace O1 := own_mono (B' := w.heap.size) O1 (by simp; omega)
  clear hB0 hx0 hy0 hb1 HC
  go_wp2_with (refine wpList_store_own2 rfl 59 _ _ rfl w1.heap.size #[.int .i64 I, .slice aq L.length cq, .int .i64 M.p, .int .i64 M.s, .int .i64 M.e, .int .i64 M.d, .int .i64 M.t, .int .i64 M.q, .int .i64 M.r, .slice none 0 0, .slice none 0 0] rfl rfl 59 #[.int .i64 0, .slice none 0 0, .int .i64 0, .int .i64 0, .int .i64 0, .int .i64 0, .int .i64 0, .int .i64 0, .int .i64 0, .slice none 0 0, .slice none 0 0] (heap_alloc_new _ _) Tryz.sizeProc rfl (by simp [Value.oneCell']) ?_)
  intro w2 hp2 hb2 hs2 hk2
  have hb : Below w1.heap.size w1 w2 := ((Below.refl _ _).alloc (Nat.le_refl _) _).trans hb2
  have O2 := own_below O1 hb
  have hB2 := hB1.trans (hb.mono hB1.size)
  have hx2 := blk_bel hx1 hb
  have hy2 := blk_bel hy1 hb
  clear hb2 hs2 hk2 hb O1 hB1 hx1 hy1
  generalize w1.heap.size = bp at *
  have ly := blk_lt hy2
  cases k with
  | false =>
    go_wp2_with (refine wpList_store_own2 rfl 43 _ _ rfl (w.heap.size + 1) #[.slice none 0 0, .slice none 0 0, .slice none 0 0, .int .i64 0, .slice none 0 0, .slice none 0 0, .slice none 0 0, .slice none 0 0, .int .i64 0, .slice none 0 0, .slice none 0 0] rfl rfl 43 #[.slice none 0 0, .slice none 0 0, .slice none 0 0, .int .i64 0, .slice none 0 0, .slice none 0 0, .slice none 0 0, .slice none 0 0, .int .i64 0, .slice none 0 0, .slice none 0 0] hy2 Tryz.sizeWd rfl (by simp [Value.oneCell']) ?_)
    intro wB hvB hbB hsB hkB
    go_wp2
    refine bodyPost_ret (results_row_tmp rfl _ _ (w.heap.size + 1) 43 _ (0, 0) _ rfl hvB Tryz.underlying43 rfl Tryz.sizeWd) rfl ⟨rfl, hB2.trans (hbB.mono (by omega))⟩
  | true =>
    go_wp2_with fail
    refine (lin_any pl 1 3 _).mono ?_
    rintro e _ ⟨rfl, rfl⟩
    rw [hpin]
    go_wp2_with (refine wpList_store_own2 rfl 43 _ _ rfl (w.heap.size + 1) #[.slice none 0 0, .slice none 0 0, .slice none 0 0, .int .i64 0, .slice none 0 0, .slice none 0 0, .slice none 0 0, .slice none 0 0, .int .i64 0, .slice none 0 0, .slice none 0 0] rfl rfl 43 #[.slice none 0 0, .slice none 0 0, .slice none 0 0, .int .i64 0, .slice none 0 0, .slice none 0 0, .slice none 0 0, .slice none 0 0, .int .i64 0, .slice none 0 0, .slice none 0 0] hy2 Tryz.sizeWd rfl (by simp [Value.oneCell']) ?_)
    intro wB hvB hbB hsB hkB
    go_wp2
    refine bodyPost_ret (results_row_tmp rfl _ _ (w.heap.size + 1) 43 _ (0, 0) _ rfl hvB Tryz.underlying43 rfl Tryz.sizeWd) rfl ⟨rfl, hB2.trans (hbB.mono (by omega))⟩
end Go.Proofs.YtbhfooafhbfniaaGreatDoor
