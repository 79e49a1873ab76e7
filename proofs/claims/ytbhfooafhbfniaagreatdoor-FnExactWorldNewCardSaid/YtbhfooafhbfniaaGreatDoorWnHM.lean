/-
  Contract of impl.WorldNew, begun. The variable errors.errorType reads as it is laid.
-/
import Derived.Test.YtbhfooafhbfniaaGreatDoorWnRM
namespace Go.Proofs.YtbhfooafhbfniaaGreatDoor
open Go.RowKit
set_option maxRecDepth 100000 in
set_option maxHeartbeats 6400000 in
theorem iworldnew_out (v1 v2 v3 : Value) (ns : List Nd) (is : List In) (ds : List Df) (pl : Int) (w : World) (R1 : NRow w v1 ns) (R2 : InRow w v2 is) (R3 : DfRow w v3 ds) (hp : placesB pl = false) :
    Calls Tryz.prog 7 #[.agg #[v1, v2, v3], .int .i64 pl] w fun e w' => e = .returned (.tuple #[.agg #[.slice none 0 0, .slice none 0 0, .slice none 0 0, .int .i64 0, .slice none 0 0, .slice none 0 0, .slice none 0 0, .slice none 0 0, .int .i64 0, .slice none 0 0, .slice none 0 0], .bool false]) ∧ Below w.heap.size w w' := by
  obtain ⟨a1, e1, rfl⟩ := R1.small8
  obtain ⟨a2, e2, rfl⟩ := R2.small
  obtain ⟨a3, e3, rfl⟩ := R3.small
  have hmf : ∀ (fn : Fn) (first cap : Array Value) (w : World), (Instr.makeFunc fn first cap).run Tryz.prog w = .ok (.func fn first cap) w := fun _ _ _ _ => rfl
  have N0 := NB.start w #[.slice a1 ns.length e1, .slice a2 is.length e2, .slice a3 ds.length e3] #[.slice none 0 0, .slice none 0 0, .slice none 0 0, .int .i64 0, .slice none 0 0, .slice none 0 0, .slice none 0 0, .slice none 0 0, .int .i64 0, .slice none 0 0, .slice none 0 0]
  have hB : Below w.heap.size w (((w.alloc (Obj.cells #[.slice a1 ns.length e1, .slice a2 is.length e2, .slice a3 ds.length e3] 36)).alloc (Obj.cells #[.slice none 0 0, .slice none 0 0, .slice none 0 0, .int .i64 0, .slice none 0 0, .slice none 0 0, .slice none 0 0, .slice none 0 0, .int .i64 0, .slice none 0 0, .slice none 0 0] 43)).alloc (Obj.cells #[.bool false] 4)) := (((Below.refl _ _).alloc (Nat.le_refl _) _).alloc (by simp) _).alloc (by simp; omega) _
  go_enter_defers Tryz.func7, Tryz.ntmps7
  go_wp2_with fail
  generalize ((w.alloc (Obj.cells #[.slice a1 ns.length e1, .slice a2 is.length e2, .slice a3 ds.length e3] 36)).alloc (Obj.cells #[.slice none 0 0, .slice none 0 0, .slice none 0 0, .int .i64 0, .slice none 0 0, .slice none 0 0, .slice none 0 0, .slice none 0 0, .int .i64 0, .slice none 0 0, .slice none 0 0] 43)).alloc (Obj.cells #[.bool false] 4) = w0 at *
  refine (placesfit_any pl _).mono ?_
  rintro e w1 ⟨rfl, rfl⟩
  rw [hp]
  have hx := N0.x
  go_wp2_with (refine wpList_store_own2 rfl 43 _ _ rfl (w.heap.size + 1) #[.slice none 0 0, .slice none 0 0, .slice none 0 0, .int .i64 0, .slice none 0 0, .slice none 0 0, .slice none 0 0, .slice none 0 0, .int .i64 0, .slice none 0 0, .slice none 0 0] rfl rfl 43 #[.slice none 0 0, .slice none 0 0, .slice none 0 0, .int .i64 0, .slice none 0 0, .slice none 0 0, .slice none 0 0, .slice none 0 0, .int .i64 0, .slice none 0 0, .slice none 0 0] hx Tryz.sizeWd rfl (by simp [Value.oneCell']) ?_)
  intro w2 hv hb hs hoth
  have ho2 := (hoth (w.heap.size + 1 + 1) (by omega)).trans N0.o
  go_wp2_with (refine wpList_store_at rfl 4 _ _ rfl (w.heap.size + 1 + 1) 0 (.bool false) #[.bool false] rfl rfl rfl rfl 4 #[.bool false] #[.bool false] ho2 (by simp) (by kernel_rfl) rfl ?_)
  intro w3 hn hbl hsz hoth3
  have hv3 := (hoth3 (w.heap.size + 1) (by omega)).trans hv
  have hB3 := (hB.trans (hb.mono (by omega))).trans (hbl.mono (by omega))
  go_wp2
  simp only [bodyPostD, Leaves]
  exact ⟨_, results_wn rfl _ _ _ _ _ _ rfl rfl hv3 hn rfl, rfl, hB3⟩
def WnAns (B : Nat) (ns : List Nd) (is : List In) (ds : List Df) (p : Nat) (I : Int) (M : Mc) (L : List Nd) (k : Bool) (e : Ending) (w' : World) : Prop :=
  (k = true ∧ ∃ b y1 y2 y3 vh vl va vt vL B1 B2 B3, B ≤ B1 ∧ B ≤ B2 ∧ B ≤ B3 ∧ e = .returned (.tuple #[.agg #[y1, y2, y3, .int .i64 (p : Int), vh, vl, .slice none 0 0, .slice none 0 0, .int .i64 2, va, vt], .bool true]) ∧ EW B1 w' b y1 y2 y3 vl va vt ns is ds (p : Int) (p * p) (p * p) (p * p) ∧ w'.ownsRow B2 65 12 vh 1 (#[.int .i64 0, .int .i64 I, vL, .int .i64 M.p, .int .i64 M.s, .int .i64 M.e, .int .i64 M.d, .int .i64 M.t, .int .i64 M.q, .int .i64 M.r, .slice none 0 0, .slice none 0 0] : Array Value).toList ∧ w'.ownsRow B3 130 5 vL L.length (ncs L) ∧ ∀ g, y1.ownBlock = some g → vL.ownBlock ≠ some g) ∨
  (k = false ∧ e = .returned (.tuple #[.agg #[.slice none 0 0, .slice none 0 0, .slice none 0 0, .int .i64 0, .slice none 0 0, .slice none 0 0, .slice none 0 0, .slice none 0 0, .int .i64 0, .slice none 0 0, .slice none 0 0], .bool false]))
set_option maxRecDepth 100000 in
set_option maxHeartbeats 6400000 in
theorem iworldnew_in (v1 v2 v3 : Value) (ns : List Nd) (is : List In) (ds : List Df) (p : Nat) (w : World) (R1 : NRow w v1 ns) (R2 : InRow w v2 is) (R3 : DfRow w v3 ds) (hg : ErrT w) (l1 : ns.length ≤ 1048576) (l2 : is.length ≤ 1048576) (l3 : ds.length ≤ 1048576) (hp1 : 1 ≤ p) (hp3 : p ≤ 3) :
    Calls Tryz.prog 7 #[.agg #[v1, v2, v3], .int .i64 (p : Int)] w fun e w' => WnAns w.heap.size ns is ds p (pnI ns is ds ⟨#[109, 97, 105, 110]⟩ 1) (newM (pnD ns is ds ⟨#[109, 97, 105, 110]⟩ 1)) (newL (pnD ns is ds ⟨#[109, 97, 105, 110]⟩ 1)) (pnB ns is ds ⟨#[109, 97, 105, 110]⟩ 1) e w' ∧ Below w.heap.size w w' := by
  obtain ⟨a1, e1, rfl⟩ := R1.small8
  obtain ⟨a2, e2, rfl⟩ := R2.small
  obtain ⟨a3, e3, rfl⟩ := R3.small
  have hpb : placesB (p : Int) = true := by unfold placesB; simp; omega
  obtain ⟨ih, hih, hzh0, hzh1, hzh2⟩ := info_parts Tryz.infoHm8
  have hmf : ∀ (fn : Fn) (first cap : Array Value) (w : World), (Instr.makeFunc fn first cap).run Tryz.prog w = .ok (.func fn first cap) w := fun _ _ _ _ => rfl
  have N := NB.start w #[.slice a1 ns.length e1, .slice a2 is.length e2, .slice a3 ds.length e3] #[.slice none 0 0, .slice none 0 0, .slice none 0 0, .int .i64 0, .slice none 0 0, .slice none 0 0, .slice none 0 0, .slice none 0 0, .int .i64 0, .slice none 0 0, .slice none 0 0]
  have hB : Below w.heap.size w (((w.alloc (Obj.cells #[.slice a1 ns.length e1, .slice a2 is.length e2, .slice a3 ds.length e3] 36)).alloc (Obj.cells #[.slice none 0 0, .slice none 0 0, .slice none 0 0, .int .i64 0, .slice none 0 0, .slice none 0 0, .slice none 0 0, .slice none 0 0, .int .i64 0, .slice none 0 0, .slice none 0 0] 43)).alloc (Obj.cells #[.bool false] 4)) := (((Below.refl _ _).alloc (Nat.le_refl _) _).alloc (by simp) _).alloc (by simp; omega) _
  have hs0 : w.heap.size + 3 ≤ (((w.alloc (Obj.cells #[.slice a1 ns.length e1, .slice a2 is.length e2, .slice a3 ds.length e3] 36)).alloc (Obj.cells #[.slice none 0 0, .slice none 0 0, .slice none 0 0, .int .i64 0, .slice none 0 0, .slice none 0 0, .slice none 0 0, .slice none 0 0, .int .i64 0, .slice none 0 0, .slice none 0 0] 43)).alloc (Obj.cells #[.bool false] 4)).heap.size := by simp
  obtain ⟨I, hI⟩ : ∃ I, Hid (pnI ns is ds ⟨#[109, 97, 105, 110]⟩ 1 = I) := ⟨_, rfl⟩
  obtain ⟨M, hM⟩ : ∃ M, Hid (newM (pnD ns is ds ⟨#[109, 97, 105, 110]⟩ 1) = M) := ⟨_, rfl⟩
  obtain ⟨L, hL⟩ : ∃ L, Hid (newL (pnD ns is ds ⟨#[109, 97, 105, 110]⟩ 1) = L) := ⟨_, rfl⟩
  obtain ⟨k, hk⟩ : ∃ k, Hid (pnB ns is ds ⟨#[109, 97, 105, 110]⟩ 1 = k) := ⟨_, rfl⟩
  go_enter_defers Tryz.func7, Tryz.ntmps7
  go_wp2_with fail
  generalize ((w.alloc (Obj.cells #[.slice a1 ns.length e1, .slice a2 is.length e2, .slice a3 ds.length e3] 36)).alloc (Obj.cells #[.slice none 0 0, .slice none 0 0, .slice none 0 0, .int .i64 0, .slice none 0 0, .slice none 0 0, .slice none 0 0, .slice none 0 0, .int .i64 0, .slice none 0 0, .slice none 0 0] 43)).alloc (Obj.cells #[.bool false] 4) = w0 at *
  refine (placesfit_any (p : Int) _).mono ?_
  rintro e w1 ⟨rfl, rfl⟩
  rw [hpb]
  have hc := N.c
  go_wp2_with (refine wpList_load_row rfl 36 _ rfl w.heap.size rfl 36 #[.slice a1 ns.length e1, .slice a2 is.length e2, .slice a3 ds.length e3] (0, 0) _ hc Tryz.underlying36 rfl Tryz.sizeCode8 ?_)
  refine (iemptyworld_any _ _ _ ns is ds _ (R1.below hB) (R2.below hB) (R3.below hB) l1 l2 l3 p hp1 hp3).mono ?_
  rintro e w2 ⟨⟨b, y1, y2, y3, vl, va, vt, rfl, S⟩, hb⟩
  have hN2 := N.below hb
  have hB2 := hB.trans (hb.mono hB.size)
  have hs2 := Nat.le_trans hs0 hb.size
  obtain ⟨d1, q1, rfl⟩ := own_form S.o1
  obtain ⟨d2, q2, rfl⟩ := own_form S.o2
  obtain ⟨d3, q3, rfl⟩ := own_form S.o3
  obtain ⟨al, cl, rfl⟩ := own_form S.l
  obtain ⟨aa, ca, rfl⟩ := own_form S.a
  obtain ⟨at_, ct, rfl⟩ := own_form S.t
  have hx2 := hN2.x
  clear hb N hB hc
  go_wp2_with (refine wpList_store_own2 rfl 43 _ _ rfl (w.heap.size + 1) #[.slice d1 ns.length q1, .slice d2 is.length q2, .slice d3 ds.length q3, .int .i64 (p : Int), .slice none 0 0, .slice al (p * p) cl, .slice none 0 0, .slice none 0 0, .int .i64 2, .slice aa (p * p) ca, .slice at_ (p * p) ct] rfl rfl 43 #[.slice none 0 0, .slice none 0 0, .slice none 0 0, .int .i64 0, .slice none 0 0, .slice none 0 0, .slice none 0 0, .slice none 0 0, .int .i64 0, .slice none 0 0, .slice none 0 0] hx2 Tryz.sizeWd rfl (by simp [Value.oneCell']) ?_)
  intro w3 hv3 hb3 hsz3 hoth3
  have S3 := S.away hx2 (by have := S.bb; omega) hoth3
  have N3 : NB w.heap.size w3 #[.slice a1 ns.length e1, .slice a2 is.length e2, .slice a3 ds.length e3] #[.slice d1 ns.length q1, .slice d2 is.length q2, .slice d3 ds.length q3, .int .i64 (p : Int), .slice none 0 0, .slice al (p * p) cl, .slice none 0 0, .slice none 0 0, .int .i64 2, .slice aa (p * p) ca, .slice at_ (p * p) ct] false := ⟨(hoth3 _ (by omega)).trans hN2.c, hv3, (hoth3 _ (by omega)).trans hN2.o⟩
  have hB3 := hB2.trans (hb3.mono (by omega))
  have hs3 : w.heap.size + 3 ≤ w3.heap.size := by omega
  clear S hx2 hN2 hB2 hb3 hoth3 hv3
  have hc := N3.c
  go_wp2_with (refine wpList_load_row rfl 36 _ rfl w.heap.size rfl 36 #[.slice a1 ns.length e1, .slice a2 is.length e2, .slice a3 ds.length e3] (0, 0) _ hc Tryz.underlying36 rfl Tryz.sizeCode8 ?_)
  refine (iprocnew_any _ _ _ ns is ds ⟨#[109, 97, 105, 110]⟩ 1 _ (R1.below hB3) (R2.below hB3) (R3.below hB3) (hg.below hB3 (Nat.le_refl _))).mono ?_
  rintro e w4 ⟨⟨v', rfl, O⟩, hb⟩
  rw [hL.out] at O
  have hap : ∀ g, (Value.slice d1 ns.length q1).ownBlock = some g → v'.ownBlock ≠ some g := fun g h1 h2 => by
    have e1 := own_lt9 S3.o1 h1
    have e2 := own_ge9 O h2
    omega
  rw [hI.out, hM.out, hk.out]
  obtain ⟨d4, q4, rfl⟩ := own_form O
  have N4 := N3.below hb
  have S4 := S3.below hb
  have hB4 := hB3.trans (hb.mono hB3.size)
  have hs4 := Nat.le_trans hs3 hb.size
  clear hb N3 S3 hB3 hc
  go_wp2_with (refine wpList_store_own2 rfl 59 _ _ rfl w4.heap.size #[.int .i64 I, .slice d4 L.length q4, .int .i64 M.p, .int .i64 M.s, .int .i64 M.e, .int .i64 M.d, .int .i64 M.t, .int .i64 M.q, .int .i64 M.r, .slice none 0 0, .slice none 0 0] rfl rfl 59 #[.int .i64 0, .slice none 0 0, .int .i64 0, .int .i64 0, .int .i64 0, .int .i64 0, .int .i64 0, .int .i64 0, .int .i64 0, .slice none 0 0, .slice none 0 0] (heap_alloc_new _ _) Tryz.sizeProc rfl (by simp [Value.oneCell']) ?_)
  intro w5 hv5 hb5 hsz5 hoth5
  have hb45 : Below w4.heap.size w4 w5 := ((Below.refl _ _).alloc (Nat.le_refl _) _).trans hb5
  have N5 := N4.below hb45
  have S5 := S4.below hb45
  have O5 := own_below O hb45
  have hB5 := hB4.trans (hb45.mono hB4.size)
  have hs5 := Nat.le_trans hs4 hb45.size
  have h45 := hb45.size
  clear hb5 hoth5 hb45 N4 S4 O hB4
  have ho5 := N5.o
  go_wp2_with (refine wpList_store_at rfl 4 _ _ rfl (w.heap.size + 1 + 1) 0 (.bool k) #[.bool k] rfl rfl rfl rfl 4 #[.bool false] #[.bool k] ho5 (by simp) (by kernel_rfl) rfl ?_)
  intro w6 hn6 hbl6 hsz6 hoth6
  have hvp := (hoth6 w4.heap.size (by omega)).trans hv5
  have N6 : NB w.heap.size w6 #[.slice a1 ns.length e1, .slice a2 is.length e2, .slice a3 ds.length e3] #[.slice d1 ns.length q1, .slice d2 is.length q2, .slice d3 ds.length q3, .int .i64 (p : Int), .slice none 0 0, .slice al (p * p) cl, .slice none 0 0, .slice none 0 0, .int .i64 2, .slice aa (p * p) ca, .slice at_ (p * p) ct] k := ⟨(hoth6 _ (by omega)).trans N5.c, (hoth6 _ (by omega)).trans N5.x, hn6⟩
  have S6 : EW _ w6 b _ _ _ _ _ _ ns is ds (p : Int) (p * p) (p * p) (p * p) := ⟨(hoth6 b (by have := S5.bb; omega)).trans S5.x, S5.bb, own_other S5.o1 (own_ne S5.o1 ho5 (by decide)) hoth6, own_other S5.o2 (own_ne S5.o2 ho5 (by decide)) hoth6, own_other S5.o3 (own_ne S5.o3 ho5 (by decide)) hoth6, own_other S5.l (own_ne S5.l ho5 (by decide)) hoth6, own_other S5.a (own_ne S5.a ho5 (by decide)) hoth6, own_other S5.t (own_ne S5.t ho5 (by decide)) hoth6, S5.ap⟩
  have O6 := own_other O5 (own_ne O5 ho5 (by decide)) hoth6
  have hB6 := hB5.trans (hbl6.mono (by omega))
  have hs6 : w.heap.size + 3 ≤ w6.heap.size := by omega
  have h46 : w4.heap.size < w6.heap.size := blk_lt hvp
  have kc : w6.cell? ⟨w.heap.size + 1, 0 + 4, none⟩ = some (.slice none 0 0) := cell_of_row w6 _ 4 _ _ _ N6.x
  clear hn6 hbl6 hoth6 hv5 N5 S5 O5 hB5 ho5 hsz5 hsz6
  go_wp2_with (first
    | (refine wpList_load_row rfl 59 _ rfl w4.heap.size rfl 59 #[.int .i64 I, .slice d4 L.length q4, .int .i64 M.p, .int .i64 M.s, .int .i64 M.e, .int .i64 M.d, .int .i64 M.t, .int .i64 M.q, .int .i64 M.r, .slice none 0 0, .slice none 0 0] (0, 0) _ hvp Tryz.underlying59 rfl Tryz.sizeProc ?_)
    | (at_builtin; refine wpList_append_own _ rfl _ _ 37 rfl (w.heap.size + 3) 65 ih _ 12 144 Tryz.underlying37 hih hzh0 hzh1 hzh2 rfl (by decide) _ 0 [] rfl ⟨rfl, Or.inl ⟨rfl, rfl⟩⟩ ⟨w6.heap.size, 0, none⟩ 1 1 (#[.int .i64 0, .int .i64 I, .slice d4 L.length q4, .int .i64 M.p, .int .i64 M.s, .int .i64 M.e, .int .i64 M.d, .int .i64 M.t, .int .i64 M.q, .int .i64 M.r, .slice none 0 0, .slice none 0 0] : Array Value).toList rfl rfl (lit_cells _ _ _) (by simp [Value.oneCell']) (by unfold maxLen; omega) (by omega) (by simp; omega) ?_))
  intro v7 w7 ho7 hg7 hnil
  have hb67 : Below w6.heap.size w6 w7 := ((Below.refl _ _).alloc (Nat.le_refl _) _).grown hg7 (by simp) (fun k hk => by cases hk)
  have N7 := N6.below hb67
  have S7 := S6.below hb67
  have O7 := own_below O6 hb67
  have hB7 := hB6.trans (hb67.mono hB6.size)
  have hs7 := Nat.le_trans hs6 hb67.size
  replace ho7 : w7.ownsRow (w.heap.size + 3) 65 12 v7 1 (#[.int .i64 0, .int .i64 I, .slice d4 L.length q4, .int .i64 M.p, .int .i64 M.s, .int .i64 M.e, .int .i64 M.d, .int .i64 M.t, .int .i64 M.q, .int .i64 M.r, .slice none 0 0, .slice none 0 0] : Array Value).toList := by simpa using ho7
  obtain ⟨ah, qh, rfl⟩ := own_form ho7
  have hx7 := N7.x
  clear hg7 hb67 hvp kc N6 S6 O6 hB6 hnil
  go_wp2_with (refine wpList_store_at rfl 37 _ _ rfl (w.heap.size + 1) 4 (.slice ah 1 qh) #[.slice ah 1 qh] rfl rfl rfl rfl 43 #[.slice d1 ns.length q1, .slice d2 is.length q2, .slice d3 ds.length q3, .int .i64 (p : Int), .slice none 0 0, .slice al (p * p) cl, .slice none 0 0, .slice none 0 0, .int .i64 2, .slice aa (p * p) ca, .slice at_ (p * p) ct] #[.slice d1 ns.length q1, .slice d2 is.length q2, .slice d3 ds.length q3, .int .i64 (p : Int), .slice ah 1 qh, .slice al (p * p) cl, .slice none 0 0, .slice none 0 0, .int .i64 2, .slice aa (p * p) ca, .slice at_ (p * p) ct] hx7 (by simp) (by kernel_rfl) rfl ?_)
  intro w8 hn8 hbl8 hsz8 hoth8
  have N8 : NB w.heap.size w8 #[.slice a1 ns.length e1, .slice a2 is.length e2, .slice a3 ds.length e3] #[.slice d1 ns.length q1, .slice d2 is.length q2, .slice d3 ds.length q3, .int .i64 (p : Int), .slice ah 1 qh, .slice al (p * p) cl, .slice none 0 0, .slice none 0 0, .int .i64 2, .slice aa (p * p) ca, .slice at_ (p * p) ct] k := ⟨(hoth8 _ (by omega)).trans N7.c, hn8, (hoth8 _ (by omega)).trans N7.o⟩
  have S8 : EW _ w8 b _ _ _ _ _ _ ns is ds (p : Int) (p * p) (p * p) (p * p) := ⟨(hoth8 b (by have := S7.bb; omega)).trans S7.x, S7.bb, own_other S7.o1 (own_ne S7.o1 hx7 (by decide)) hoth8, own_other S7.o2 (own_ne S7.o2 hx7 (by decide)) hoth8, own_other S7.o3 (own_ne S7.o3 hx7 (by decide)) hoth8, own_other S7.l (own_ne S7.l hx7 (by decide)) hoth8, own_other S7.a (own_ne S7.a hx7 (by decide)) hoth8, own_other S7.t (own_ne S7.t hx7 (by decide)) hoth8, S7.ap⟩
  have O8 := own_other O7 (own_ne O7 hx7 (by decide)) hoth8
  have H8 := own_other ho7 (own_ne ho7 hx7 (by decide)) hoth8
  have hB8 := hB7.trans (hbl8.mono (by omega))
  clear hn8 hbl8 hoth8 N7 S7 O7 ho7 hx7 hB7 hsz8
  have hx8 := N8.x
  have ho8 := N8.o
  go_wp2_with fail
  refine wn_r7 (w.heap.size + 1) _ _ _ _ _ _ _ _ _ _ _ k w8 _ (by simp [Value.oneCell']) hx8 ho8 ?_
  intro u27 u28 w9 E9 b9
  have N9 : NB w.heap.size w9 #[.slice a1 ns.length e1, .slice a2 is.length e2, .slice a3 ds.length e3] #[.slice d1 ns.length q1, .slice d2 is.length q2, .slice d3 ds.length q3, .int .i64 (p : Int), .slice ah 1 qh, .slice al (p * p) cl, .slice none 0 0, .slice none 0 0, .int .i64 2, .slice aa (p * p) ca, .slice at_ (p * p) ct] k := ⟨(E9 _).trans N8.c, (E9 _).trans N8.x, (E9 _).trans N8.o⟩
  have S9 : EW _ w9 b _ _ _ _ _ _ ns is ds (p : Int) (p * p) (p * p) (p * p) := ⟨(E9 b).trans S8.x, S8.bb, own_same S8.o1 (fun j _ => E9 j), own_same S8.o2 (fun j _ => E9 j), own_same S8.o3 (fun j _ => E9 j), own_same S8.l (fun j _ => E9 j), own_same S8.a (fun j _ => E9 j), own_same S8.t (fun j _ => E9 j), S8.ap⟩
  have O9 := own_same O8 (fun j _ => E9 j)
  have H9 := own_same H8 (fun j _ => E9 j)
  have hB9 := hB8.trans (b9.mono (by omega))
  clear N8 S8 O8 H8 hB8 hx8 ho8
  go_wp2_with fail
  refine leaves_cons (f := 23) (args := #[.pointer (some ⟨w.heap.size + 1 + 1, 0, none⟩), .pointer (some ⟨w.heap.size + 1, 0, none⟩)]) (by simp) (by simp [go_sem]) ?_
  cases k with
  | true =>
    refine (iwnc_yes (w.heap.size + 1) w9 N9.o).mono ?_
    rintro e u' wz ⟨rfl, rfl, rfl⟩
    rw [hI.out, hM.out, hL.out, hk.out]
    exact ⟨_, results_wn rfl _ _ _ _ _ _ rfl rfl N9.x N9.o rfl, Or.inl ⟨rfl, _, _, _, _, _, _, _, _, _, _, _, _, by omega, by omega, by omega, rfl, S9, H9, O9, hap⟩, hB9⟩
  | false =>
    refine (iwnc_no (w.heap.size + 1) _ _ _ _ _ _ _ _ _ _ _ w9 N9.x N9.o).mono ?_
    rintro e u' wz ⟨rfl, rfl, hxz, hoz, hbz⟩
    rw [hI.out, hM.out, hL.out, hk.out]
    exact ⟨_, results_wn rfl _ _ _ _ _ _ rfl rfl hxz hoz rfl, Or.inr ⟨rfl, rfl⟩, hB9.trans (hbz.mono (by omega))⟩
end Go.Proofs.YtbhfooafhbfniaaGreatDoor
