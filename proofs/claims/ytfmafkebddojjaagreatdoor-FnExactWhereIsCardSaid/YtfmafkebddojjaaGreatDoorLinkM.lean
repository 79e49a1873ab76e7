/-
  Texts that stood by themselves, laid into one.
-/
import Derived.Test.YtfmafkebddojjaaGreatDoorXRM
import Derived.Test.YtfmafkebddojjaaGreatDoorPcMarkM
import Derived.Test.YtfmafkebddojjaaGreatDoorInM
import Derived.Test.YtfmafkebddojjaaGreatDoorBsM
/-
  Homes, grams and parked ones: what they are as cells, and the contracts of the laws' helpers on one of them. No condition.
-/
set_option maxRecDepth 100000
set_option maxHeartbeats 6400000
namespace Go.Proofs.YtfmafkebddojjaaGreatDoor
open Go.RowKit
structure Hm where
 pl : Int
 i : Int
 xs : List Nd
 m : Mc
 bx : List ByteArray
 ox : List ByteArray
structure Gm where
 k : Int
 f : Int
 t : Int
 n : Int
 s : ByteArray
structure Pd where
 p : Int
 t : Int
 s : ByteArray
theorem StRow.kp {w w' : World} {v : Value} {xs : List ByteArray} {B : Nat} (R : StRow w v xs) (hf : Fr B v) (hk : Kp B w w') : StRow w' v xs := by
 obtain ⟨ao, cap, rfl, hc, hm, hz, hcell⟩ := R
 refine ⟨ao, cap, rfl, hc, hm, hz, fun hne => ?_⟩
 obtain ⟨g, o, rfl, hg, hcell⟩ := hcell hne
 have e := Zdl hk hf rfl hg
 exact ⟨g, o, rfl, Nat.lt_of_lt_of_le hg hk.1, fun i x hi => (World.cell?_of_block e).trans (hcell i x hi)⟩
theorem PcRow.kp {w w' : World} {v : Value} {xs : List Pc} {B : Nat} (R : PcRow w v xs) (hf : Fr B v) (hk : Kp B w w') : PcRow w' v xs := by
 obtain ⟨ao, cap, rfl, hc, hm, hz, hcell⟩ := R
 refine ⟨ao, cap, rfl, hc, hm, hz, fun hne => ?_⟩
 obtain ⟨g, o, rfl, hg, hcell⟩ := hcell hne
 have e := Zdl hk hf rfl hg
 refine ⟨g, o, rfl, Nat.lt_of_lt_of_le hg hk.1, fun i x hi => ?_⟩
 obtain ⟨c0, c1⟩ := hcell i x hi
 exact ⟨(World.cell?_of_block e).trans c0, (World.cell?_of_block e).trans c1⟩
def EH (B : Nat) (w : World) (cs : List Value) (h : Hm) : Prop := ∃ v vb vo, cs.toArray = #[.int .i64 h.pl, .int .i64 h.i, v, .int .i64 h.m.p, .int .i64 h.m.s, .int .i64 h.m.e, .int .i64 h.m.d, .int .i64 h.m.t, .int .i64 h.m.q, .int .i64 h.m.r, vb, vo] /\ NRow w v h.xs /\ StRow w vb h.bx /\ StRow w vo h.ox /\ Fr B v /\ Fr B vb /\ Fr B vo
def EG (_ : Nat) (_ : World) (cs : List Value) (g : Gm) : Prop := cs.toArray = #[.int .i64 g.k, .int .i64 g.f, .int .i64 g.t, .int .i64 g.n, .string g.s] /\ g.s.size <= maxLen
def EP (_ : Nat) (_ : World) (cs : List Value) (p : Pd) : Prop := cs.toArray = #[.int .i64 p.p, .int .i64 p.t, .string p.s] /\ p.s.size <= maxLen
theorem stbH : Stb EH := ⟨fun _ _ _ _ _ ⟨v, vb, vo, h, r1, r2, r3, f1, f2, f3⟩ hk => ⟨v, vb, vo, h, r1.kp f1 hk, r2.kp f2 hk, r3.kp f3 hk, f1, f2, f3⟩, fun _ _ _ _ _ ⟨v, vb, vo, h, r1, r2, r3, f1, f2, f3⟩ hc => ⟨v, vb, vo, h, r1, r2, r3, f1.mono hc, f2.mono hc, f3.mono hc⟩⟩
theorem stbG : Stb EG := ⟨fun _ _ _ _ _ h _ => h, fun _ _ _ _ _ h _ => h⟩
theorem stbP : Stb EP := ⟨fun _ _ _ _ _ h _ => h, fun _ _ _ _ _ h _ => h⟩
def SmH (h : Hm) : Prop := h.xs.length <= 1048576 /\ h.bx.length <= 1048576 /\ h.ox.length <= 1048576 /\ ∀ x ∈ h.bx, x.size <= 1048576
def SmG (_ : Gm) : Prop := True
def SmP (_ : Pd) : Prop := True
theorem Zml : (Tryz.prog.info? 85).map (·.size) = some 12 := by kernel_rfl
theorem Zmm : (Tryz.prog.info? 131).map (·.size) = some 5 := by kernel_rfl
theorem Zmr : (Tryz.prog.info? 133).map (·.size) = some 3 := by kernel_rfl
theorem Zl4 : (Tryz.prog.info? 109).map (·.size) = some 11 := by kernel_rfl
theorem Zmb : (Tryz.prog.info? 117).map (·.size) = some 2 := by kernel_rfl
theorem StRow.szs {w : World} {v : Value} {xs : List ByteArray} (R : StRow w v xs) : ∀ x ∈ xs, x.size <= maxLen := by
 obtain ⟨_, _, _, _, _, h, _⟩ := R
 exact h
theorem NRow.szn {w : World} {v : Value} {xs : List Nd} (R : NRow w v xs) : ∀ x ∈ xs, x.s.size <= maxLen := by
 obtain ⟨_, _, _, _, _, h, _⟩ := R
 exact h
theorem Zh4 (h : Hm) (v vb vo : Value) (w : World) (R : NRow w v h.xs) (Rb : StRow w vb h.bx) (Ro : StRow w vo h.ox) (hs : SmH h) :
  Calls Tryz.prog 82 #[.agg #[.int .i64 h.pl, .int .i64 h.i, v, .int .i64 h.m.p, .int .i64 h.m.s, .int .i64 h.m.e, .int .i64 h.m.d, .int .i64 h.m.t, .int .i64 h.m.q, .int .i64 h.m.r, vb, vo]] w fun e w' => ∃ v1 v2 v3, e = .returned (.agg #[.int .i64 h.pl, .int .i64 h.i, v1, .int .i64 h.m.p, .int .i64 h.m.s, .int .i64 h.m.e, .int .i64 h.m.d, .int .i64 h.m.t, .int .i64 h.m.q, .int .i64 h.m.r, v2, v3]) /\ NRow w' v1 h.xs /\ StRow w' v2 h.bx /\ StRow w' v3 h.ox /\ Fr w.heap.size v1 /\ Fr w.heap.size v2 /\ Fr w.heap.size v3 /\ Below w.heap.size w w' := by
 have hz1 := R.szn
 have hz2 := Rb.szs
 have hz3 := Ro.szs
 obtain ⟨ao, cap, rfl⟩ : ∃ ao cap, v = .slice ao h.xs.length cap := by obtain ⟨ao, cap, rfl, _⟩ := R; exact ⟨ao, cap, rfl⟩
 obtain ⟨ab, cb, rfl⟩ := Rb.small
 obtain ⟨ac, cc, rfl⟩ := Ro.small
 have hB : Below w.heap.size w (((w.alloc (Obj.cells #[.int .i64 h.pl, .int .i64 h.i, .slice ao h.xs.length cap, .int .i64 h.m.p, .int .i64 h.m.s, .int .i64 h.m.e, .int .i64 h.m.d, .int .i64 h.m.t, .int .i64 h.m.q, .int .i64 h.m.r, .slice ab h.bx.length cb, .slice ac h.ox.length cc] 111)).alloc (Obj.cells #[.int .i64 0, .int .i64 0, .slice none 0 0, .int .i64 0, .int .i64 0, .int .i64 0, .int .i64 0, .int .i64 0, .int .i64 0, .int .i64 0, .slice none 0 0, .slice none 0 0] 85)).alloc (Obj.cells #[.int .i64 0, .int .i64 0, .slice none 0 0, .int .i64 0, .int .i64 0, .int .i64 0, .int .i64 0, .int .i64 0, .int .i64 0, .int .i64 0, .slice none 0 0, .slice none 0 0] 85)) := (((Below.refl _ _).alloc (Nat.le_refl _) _).alloc (by simp) _).alloc (by simp; omega) _
 have hx : (((w.alloc (Obj.cells #[.int .i64 h.pl, .int .i64 h.i, .slice ao h.xs.length cap, .int .i64 h.m.p, .int .i64 h.m.s, .int .i64 h.m.e, .int .i64 h.m.d, .int .i64 h.m.t, .int .i64 h.m.q, .int .i64 h.m.r, .slice ab h.bx.length cb, .slice ac h.ox.length cc] 111)).alloc (Obj.cells #[.int .i64 0, .int .i64 0, .slice none 0 0, .int .i64 0, .int .i64 0, .int .i64 0, .int .i64 0, .int .i64 0, .int .i64 0, .int .i64 0, .slice none 0 0, .slice none 0 0] 85)).alloc (Obj.cells #[.int .i64 0, .int .i64 0, .slice none 0 0, .int .i64 0, .int .i64 0, .int .i64 0, .int .i64 0, .int .i64 0, .int .i64 0, .int .i64 0, .slice none 0 0, .slice none 0 0] 85)).heap[w.heap.size]? = some (Obj.cells #[.int .i64 h.pl, .int .i64 h.i, .slice ao h.xs.length cap, .int .i64 h.m.p, .int .i64 h.m.s, .int .i64 h.m.e, .int .i64 h.m.d, .int .i64 h.m.t, .int .i64 h.m.q, .int .i64 h.m.r, .slice ab h.bx.length cb, .slice ac h.ox.length cc] 111) := (heap_alloc_old _ _ (by simp; omega)).trans ((heap_alloc_old _ _ (by simp)).trans (heap_alloc_new _ _))
 have hy : (((w.alloc (Obj.cells #[.int .i64 h.pl, .int .i64 h.i, .slice ao h.xs.length cap, .int .i64 h.m.p, .int .i64 h.m.s, .int .i64 h.m.e, .int .i64 h.m.d, .int .i64 h.m.t, .int .i64 h.m.q, .int .i64 h.m.r, .slice ab h.bx.length cb, .slice ac h.ox.length cc] 111)).alloc (Obj.cells #[.int .i64 0, .int .i64 0, .slice none 0 0, .int .i64 0, .int .i64 0, .int .i64 0, .int .i64 0, .int .i64 0, .int .i64 0, .int .i64 0, .slice none 0 0, .slice none 0 0] 85)).alloc (Obj.cells #[.int .i64 0, .int .i64 0, .slice none 0 0, .int .i64 0, .int .i64 0, .int .i64 0, .int .i64 0, .int .i64 0, .int .i64 0, .int .i64 0, .slice none 0 0, .slice none 0 0] 85)).heap[w.heap.size + 1]? = some (Obj.cells #[.int .i64 0, .int .i64 0, .slice none 0 0, .int .i64 0, .int .i64 0, .int .i64 0, .int .i64 0, .int .i64 0, .int .i64 0, .int .i64 0, .slice none 0 0, .slice none 0 0] 85) := (heap_alloc_old _ _ (by simp)).trans (heap_alloc2_new _ _ _)
 have hv : (((w.alloc (Obj.cells #[.int .i64 h.pl, .int .i64 h.i, .slice ao h.xs.length cap, .int .i64 h.m.p, .int .i64 h.m.s, .int .i64 h.m.e, .int .i64 h.m.d, .int .i64 h.m.t, .int .i64 h.m.q, .int .i64 h.m.r, .slice ab h.bx.length cb, .slice ac h.ox.length cc] 111)).alloc (Obj.cells #[.int .i64 0, .int .i64 0, .slice none 0 0, .int .i64 0, .int .i64 0, .int .i64 0, .int .i64 0, .int .i64 0, .int .i64 0, .int .i64 0, .slice none 0 0, .slice none 0 0] 85)).alloc (Obj.cells #[.int .i64 0, .int .i64 0, .slice none 0 0, .int .i64 0, .int .i64 0, .int .i64 0, .int .i64 0, .int .i64 0, .int .i64 0, .int .i64 0, .slice none 0 0, .slice none 0 0] 85)).heap[w.heap.size + 2]? = some (Obj.cells #[.int .i64 0, .int .i64 0, .slice none 0 0, .int .i64 0, .int .i64 0, .int .i64 0, .int .i64 0, .int .i64 0, .int .i64 0, .int .i64 0, .slice none 0 0, .slice none 0 0] 85) := by
  have h := heap_alloc_new ((w.alloc (Obj.cells #[.int .i64 h.pl, .int .i64 h.i, .slice ao h.xs.length cap, .int .i64 h.m.p, .int .i64 h.m.s, .int .i64 h.m.e, .int .i64 h.m.d, .int .i64 h.m.t, .int .i64 h.m.q, .int .i64 h.m.r, .slice ab h.bx.length cb, .slice ac h.ox.length cc] 111)).alloc (Obj.cells #[.int .i64 0, .int .i64 0, .slice none 0 0, .int .i64 0, .int .i64 0, .int .i64 0, .int .i64 0, .int .i64 0, .int .i64 0, .int .i64 0, .slice none 0 0, .slice none 0 0] 85)) (Obj.cells #[.int .i64 0, .int .i64 0, .slice none 0 0, .int .i64 0, .int .i64 0, .int .i64 0, .int .i64 0, .int .i64 0, .int .i64 0, .int .i64 0, .slice none 0 0, .slice none 0 0] 85)
  simpa using h
 have hs3 : w.heap.size + 3 <= (((w.alloc (Obj.cells #[.int .i64 h.pl, .int .i64 h.i, .slice ao h.xs.length cap, .int .i64 h.m.p, .int .i64 h.m.s, .int .i64 h.m.e, .int .i64 h.m.d, .int .i64 h.m.t, .int .i64 h.m.q, .int .i64 h.m.r, .slice ab h.bx.length cb, .slice ac h.ox.length cc] 111)).alloc (Obj.cells #[.int .i64 0, .int .i64 0, .slice none 0 0, .int .i64 0, .int .i64 0, .int .i64 0, .int .i64 0, .int .i64 0, .int .i64 0, .int .i64 0, .slice none 0 0, .slice none 0 0] 85)).alloc (Obj.cells #[.int .i64 0, .int .i64 0, .slice none 0 0, .int .i64 0, .int .i64 0, .int .i64 0, .int .i64 0, .int .i64 0, .int .i64 0, .int .i64 0, .slice none 0 0, .slice none 0 0] 85)).heap.size := by simp
 go_enter Tryz.func82, Tryz.ntmps82
 go_wp2_with (refine Zaa rfl 3 _ _ rfl (w.heap.size + 2) 0 (.int .i64 h.pl) #[.int .i64 h.pl] rfl rfl rfl rfl 85 #[.int .i64 0, .int .i64 0, .slice none 0 0, .int .i64 0, .int .i64 0, .int .i64 0, .int .i64 0, .int .i64 0, .int .i64 0, .int .i64 0, .slice none 0 0, .slice none 0 0] #[.int .i64 h.pl, .int .i64 0, .slice none 0 0, .int .i64 0, .int .i64 0, .int .i64 0, .int .i64 0, .int .i64 0, .int .i64 0, .int .i64 0, .slice none 0 0, .slice none 0 0] hv (by simp) (by kernel_rfl) rfl ?_)
 intro u1 hn hbl hsz hoth
 replace hx := (hoth w.heap.size (by omega)).trans hx
 replace hy := (hoth (w.heap.size + 1) (by omega)).trans hy
 replace hB := hB.trans (hbl.mono (by omega))
 replace hv := hn
 replace hs3 : w.heap.size + 3 <= u1.heap.size := by omega
 clear hn hbl hsz hoth
 go_wp2_with (refine Zan rfl 109 _ rfl w.heap.size 1 rfl _ 111 #[.int .i64 h.i, .slice ao h.xs.length cap, .int .i64 h.m.p, .int .i64 h.m.s, .int .i64 h.m.e, .int .i64 h.m.d, .int .i64 h.m.t, .int .i64 h.m.q, .int .i64 h.m.r, .slice ab h.bx.length cb, .slice ac h.ox.length cc] _ hx rfl Tryz.underlying109 rfl Zl4 ?_)
 refine (Zh9 h.i _ _ _ h.xs h.m h.bx h.ox _ (R.below hB) (Rb.below hB) (Ro.below hB) (by have := hs.1; omega) (by have := hs.2.1; omega) (by have := hs.2.2.1; omega)).mono ?_
 rintro e w2 ⟨v1, v2, v3, rfl, O1, O2, O3, hap, hb⟩
 replace hx := (bb hx hb)
 replace hy := (bb hy hb)
 replace hv := (bb hv hb)
 replace hB := hB.trans (hb.mono hB.size)
 have hsb := hb.size
 obtain ⟨p1, q1, rfl⟩ := Zae O1
 obtain ⟨p2, q2, rfl⟩ := Zae O2
 obtain ⟨p3, q3, rfl⟩ := Zae O3
 have F1 := (Fr.of_own O1).mono hs3
 have F2 := (Fr.of_own O2).mono hs3
 have F3 := (Fr.of_own O3).mono hs3
 have P1 := NRow.of_own O1 (by have := hs.1; omega) hz1
 have P2 := StRow.of_own O2 (by have := hs.2.1; omega) hz2
 have P3 := StRow.of_own O3 (by have := hs.2.2.1; omega) hz3
 clear O1 O2 O3 hap
 replace hs3 : w.heap.size + 3 <= w2.heap.size := Nat.le_trans hs3 hsb
 clear hb hsb
 go_wp2_with (refine ZaH rfl 83 _ _ rfl (w.heap.size + 2) 1 #[.int .i64 h.i, .slice p1 h.xs.length q1, .int .i64 h.m.p, .int .i64 h.m.s, .int .i64 h.m.e, .int .i64 h.m.d, .int .i64 h.m.t, .int .i64 h.m.q, .int .i64 h.m.r, .slice p2 h.bx.length q2, .slice p3 h.ox.length q3] rfl rfl 85 #[.int .i64 h.pl, .int .i64 0, .slice none 0 0, .int .i64 0, .int .i64 0, .int .i64 0, .int .i64 0, .int .i64 0, .int .i64 0, .int .i64 0, .slice none 0 0, .slice none 0 0] #[.int .i64 h.pl, .int .i64 h.i, .slice p1 h.xs.length q1, .int .i64 h.m.p, .int .i64 h.m.s, .int .i64 h.m.e, .int .i64 h.m.d, .int .i64 h.m.t, .int .i64 h.m.q, .int .i64 h.m.r, .slice p2 h.bx.length q2, .slice p3 h.ox.length q3] hv (by simp) Zma (by simp [Value.oneCell']) rfl ?_)
 intro u2 hn hbl hsz hoth
 have hk : Kp (w.heap.size + 3) _ u2 := Kp.of_oth (by omega) hoth (by omega)
 replace P1 := P1.kp F1 hk
 replace P2 := P2.kp F2 hk
 replace P3 := P3.kp F3 hk
 replace hx := (hoth w.heap.size (by omega)).trans hx
 replace hy := (hoth (w.heap.size + 1) (by omega)).trans hy
 replace hB := hB.trans (hbl.mono (by omega))
 replace hv := hn
 replace hs3 : w.heap.size + 3 <= u2.heap.size := by omega
 clear hn hbl hsz hoth hk
 go_wp2_with (first
  | (refine wpList_load_row rfl 85 _ rfl (w.heap.size + 2) rfl 85 #[.int .i64 h.pl, .int .i64 h.i, .slice p1 h.xs.length q1, .int .i64 h.m.p, .int .i64 h.m.s, .int .i64 h.m.e, .int .i64 h.m.d, .int .i64 h.m.t, .int .i64 h.m.q, .int .i64 h.m.r, .slice p2 h.bx.length q2, .slice p3 h.ox.length q3] (0, 0) _ hv Tryz.underlying85 rfl Zml ?_)
  | (refine Zac rfl 85 _ _ rfl (w.heap.size + 1) #[.int .i64 h.pl, .int .i64 h.i, .slice p1 h.xs.length q1, .int .i64 h.m.p, .int .i64 h.m.s, .int .i64 h.m.e, .int .i64 h.m.d, .int .i64 h.m.t, .int .i64 h.m.q, .int .i64 h.m.r, .slice p2 h.bx.length q2, .slice p3 h.ox.length q3] rfl rfl 85 #[.int .i64 0, .int .i64 0, .slice none 0 0, .int .i64 0, .int .i64 0, .int .i64 0, .int .i64 0, .int .i64 0, .int .i64 0, .int .i64 0, .slice none 0 0, .slice none 0 0] hy Zml rfl (by simp [Value.oneCell']) ?_))
 intro w9 hh9 hb9 hs9 hoth9
 have hk : Kp (w.heap.size + 3) _ w9 := Kp.of_oth (by omega) hoth9 (by omega)
 replace P1 := P1.kp F1 hk
 replace P2 := P2.kp F2 hk
 replace P3 := P3.kp F3 hk
 have hB9 : Below w.heap.size w w9 := hB.trans (hb9.mono (by omega))
 go_wp2
 exact bodyPost_ret (results_cell_row rfl _ _ (w.heap.size + 1) 85 _ (0, 0) _ rfl hh9 Tryz.underlying85 rfl Zml) rfl ⟨_, _, _, rfl, P1, P2, P3, F1.mono (by omega), F2.mono (by omega), F3.mono (by omega), hB9⟩
theorem ZhJ (g : Gm) (w : World) :
  Calls Tryz.prog 84 #[.agg #[.int .i64 g.k, .int .i64 g.f, .int .i64 g.t, .int .i64 g.n, .string g.s]] w fun e w' => e = .returned (.agg #[.int .i64 g.k, .int .i64 g.f, .int .i64 g.t, .int .i64 g.n, .string g.s]) /\ Below w.heap.size w w' := by
 have hB : Below w.heap.size w (((w.alloc (Obj.cells #[.int .i64 g.k, .int .i64 g.f, .int .i64 g.t, .int .i64 g.n, .string g.s] 119)).alloc (Obj.cells #[.int .i64 0, .int .i64 0, .int .i64 0, .int .i64 0, .string ByteArray.empty] 131)).alloc (Obj.cells #[.int .i64 0, .int .i64 0, .int .i64 0, .int .i64 0, .string ByteArray.empty] 131)) := (((Below.refl _ _).alloc (Nat.le_refl _) _).alloc (by simp) _).alloc (by simp; omega) _
 have hx : (((w.alloc (Obj.cells #[.int .i64 g.k, .int .i64 g.f, .int .i64 g.t, .int .i64 g.n, .string g.s] 119)).alloc (Obj.cells #[.int .i64 0, .int .i64 0, .int .i64 0, .int .i64 0, .string ByteArray.empty] 131)).alloc (Obj.cells #[.int .i64 0, .int .i64 0, .int .i64 0, .int .i64 0, .string ByteArray.empty] 131)).heap[w.heap.size]? = some (Obj.cells #[.int .i64 g.k, .int .i64 g.f, .int .i64 g.t, .int .i64 g.n, .string g.s] 119) := (heap_alloc_old _ _ (by simp; omega)).trans ((heap_alloc_old _ _ (by simp)).trans (heap_alloc_new _ _))
 have hy : (((w.alloc (Obj.cells #[.int .i64 g.k, .int .i64 g.f, .int .i64 g.t, .int .i64 g.n, .string g.s] 119)).alloc (Obj.cells #[.int .i64 0, .int .i64 0, .int .i64 0, .int .i64 0, .string ByteArray.empty] 131)).alloc (Obj.cells #[.int .i64 0, .int .i64 0, .int .i64 0, .int .i64 0, .string ByteArray.empty] 131)).heap[w.heap.size + 1]? = some (Obj.cells #[.int .i64 0, .int .i64 0, .int .i64 0, .int .i64 0, .string ByteArray.empty] 131) := (heap_alloc_old _ _ (by simp)).trans (heap_alloc2_new _ _ _)
 have hv : (((w.alloc (Obj.cells #[.int .i64 g.k, .int .i64 g.f, .int .i64 g.t, .int .i64 g.n, .string g.s] 119)).alloc (Obj.cells #[.int .i64 0, .int .i64 0, .int .i64 0, .int .i64 0, .string ByteArray.empty] 131)).alloc (Obj.cells #[.int .i64 0, .int .i64 0, .int .i64 0, .int .i64 0, .string ByteArray.empty] 131)).heap[w.heap.size + 2]? = some (Obj.cells #[.int .i64 0, .int .i64 0, .int .i64 0, .int .i64 0, .string ByteArray.empty] 131) := by
  have h := heap_alloc_new ((w.alloc (Obj.cells #[.int .i64 g.k, .int .i64 g.f, .int .i64 g.t, .int .i64 g.n, .string g.s] 119)).alloc (Obj.cells #[.int .i64 0, .int .i64 0, .int .i64 0, .int .i64 0, .string ByteArray.empty] 131)) (Obj.cells #[.int .i64 0, .int .i64 0, .int .i64 0, .int .i64 0, .string ByteArray.empty] 131)
  simpa using h
 have hs3 : w.heap.size + 3 <= (((w.alloc (Obj.cells #[.int .i64 g.k, .int .i64 g.f, .int .i64 g.t, .int .i64 g.n, .string g.s] 119)).alloc (Obj.cells #[.int .i64 0, .int .i64 0, .int .i64 0, .int .i64 0, .string ByteArray.empty] 131)).alloc (Obj.cells #[.int .i64 0, .int .i64 0, .int .i64 0, .int .i64 0, .string ByteArray.empty] 131)).heap.size := by simp
 go_enter Tryz.func84, Tryz.ntmps84
 go_wp2_with (refine Zaa rfl 3 _ _ rfl (w.heap.size + 2) 0 (.int .i64 g.k) #[.int .i64 g.k] rfl rfl rfl rfl 131 #[.int .i64 0, .int .i64 0, .int .i64 0, .int .i64 0, .string ByteArray.empty] #[.int .i64 g.k, .int .i64 0, .int .i64 0, .int .i64 0, .string ByteArray.empty] hv (by simp) (by kernel_rfl) rfl ?_)
 intro u1 hn hbl hsz hoth
 replace hx := (hoth w.heap.size (by omega)).trans hx
 replace hy := (hoth (w.heap.size + 1) (by omega)).trans hy
 replace hB := hB.trans (hbl.mono (by omega))
 replace hv := hn
 replace hs3 : w.heap.size + 3 <= u1.heap.size := by omega
 clear hn hbl hsz hoth
 have kc : u1.cell? ⟨w.heap.size, 0 + 1, none⟩ = some (.int .i64 g.f) := cell_of_row u1 _ 1 _ _ _ hx
 go_wp2_with (refine Zaa rfl 3 _ _ rfl (w.heap.size + 2) 1 (.int .i64 g.f) #[.int .i64 g.f] rfl rfl rfl rfl 131 #[.int .i64 g.k, .int .i64 0, .int .i64 0, .int .i64 0, .string ByteArray.empty] #[.int .i64 g.k, .int .i64 g.f, .int .i64 0, .int .i64 0, .string ByteArray.empty] hv (by simp) (by kernel_rfl) rfl ?_)
 intro u2 hn hbl hsz hoth
 replace hx := (hoth w.heap.size (by omega)).trans hx
 replace hy := (hoth (w.heap.size + 1) (by omega)).trans hy
 replace hB := hB.trans (hbl.mono (by omega))
 replace hv := hn
 replace hs3 : w.heap.size + 3 <= u2.heap.size := by omega
 clear hn hbl hsz hoth kc
 have kc : u2.cell? ⟨w.heap.size, 0 + 2, none⟩ = some (.int .i64 g.t) := cell_of_row u2 _ 2 _ _ _ hx
 go_wp2_with (refine Zaa rfl 3 _ _ rfl (w.heap.size + 2) 2 (.int .i64 g.t) #[.int .i64 g.t] rfl rfl rfl rfl 131 #[.int .i64 g.k, .int .i64 g.f, .int .i64 0, .int .i64 0, .string ByteArray.empty] #[.int .i64 g.k, .int .i64 g.f, .int .i64 g.t, .int .i64 0, .string ByteArray.empty] hv (by simp) (by kernel_rfl) rfl ?_)
 intro u3 hn hbl hsz hoth
 replace hx := (hoth w.heap.size (by omega)).trans hx
 replace hy := (hoth (w.heap.size + 1) (by omega)).trans hy
 replace hB := hB.trans (hbl.mono (by omega))
 replace hv := hn
 replace hs3 : w.heap.size + 3 <= u3.heap.size := by omega
 clear hn hbl hsz hoth kc
 go_wp2_with (refine Zan rfl 117 _ rfl w.heap.size 3 rfl _ 119 #[.int .i64 g.n, .string g.s] _ hx rfl Tryz.underlying117 rfl Zmb ?_)
 refine (ZgG ⟨g.n, g.s⟩ _).mono ?_
 rintro e w4 ⟨rfl, hb⟩
 replace hx := (bb hx hb)
 replace hy := (bb hy hb)
 replace hv := (bb hv hb)
 replace hB := hB.trans (hb.mono hB.size)
 have hsb := hb.size
 replace hs3 : w.heap.size + 3 <= w4.heap.size := Nat.le_trans hs3 hsb
 clear hb hsb
 go_wp2_with (refine ZaH rfl 91 _ _ rfl (w.heap.size + 2) 3 #[.int .i64 g.n, .string g.s] rfl rfl 131 #[.int .i64 g.k, .int .i64 g.f, .int .i64 g.t, .int .i64 0, .string ByteArray.empty] #[.int .i64 g.k, .int .i64 g.f, .int .i64 g.t, .int .i64 g.n, .string g.s] hv (by simp) Zmk (by simp [Value.oneCell']) rfl ?_)
 intro u4 hn hbl hsz hoth
 replace hx := (hoth w.heap.size (by omega)).trans hx
 replace hy := (hoth (w.heap.size + 1) (by omega)).trans hy
 replace hB := hB.trans (hbl.mono (by omega))
 replace hv := hn
 replace hs3 : w.heap.size + 3 <= u4.heap.size := by omega
 clear hn hbl hsz hoth
 go_wp2_with (first
  | (refine wpList_load_row rfl 131 _ rfl (w.heap.size + 2) rfl 131 #[.int .i64 g.k, .int .i64 g.f, .int .i64 g.t, .int .i64 g.n, .string g.s] (0, 0) _ hv Tryz.underlying131 rfl Zmm ?_)
  | (refine Zac rfl 131 _ _ rfl (w.heap.size + 1) #[.int .i64 g.k, .int .i64 g.f, .int .i64 g.t, .int .i64 g.n, .string g.s] rfl rfl 131 #[.int .i64 0, .int .i64 0, .int .i64 0, .int .i64 0, .string ByteArray.empty] hy Zmm rfl (by simp [Value.oneCell']) ?_))
 intro w9 hh9 hb9 hs9 hoth9
 have hB9 : Below w.heap.size w w9 := hB.trans (hb9.mono (by omega))
 go_wp2
 exact bodyPost_ret (results_cell_row rfl _ _ (w.heap.size + 1) 131 _ (0, 0) _ rfl hh9 Tryz.underlying131 rfl Zmm) rfl ⟨rfl, hB9⟩
theorem ZeY (p : Pd) (w : World) :
  Calls Tryz.prog 85 #[.agg #[.int .i64 p.p, .int .i64 p.t, .string p.s]] w fun e w' => e = .returned (.agg #[.int .i64 p.p, .int .i64 p.t, .string p.s]) /\ Below w.heap.size w w' := by
 have hB : Below w.heap.size w (((w.alloc (Obj.cells #[.int .i64 p.p, .int .i64 p.t, .string p.s] 122)).alloc (Obj.cells #[.int .i64 0, .int .i64 0, .string ByteArray.empty] 133)).alloc (Obj.cells #[.int .i64 0, .int .i64 0, .string ByteArray.empty] 133)) := (((Below.refl _ _).alloc (Nat.le_refl _) _).alloc (by simp) _).alloc (by simp; omega) _
 have hx : (((w.alloc (Obj.cells #[.int .i64 p.p, .int .i64 p.t, .string p.s] 122)).alloc (Obj.cells #[.int .i64 0, .int .i64 0, .string ByteArray.empty] 133)).alloc (Obj.cells #[.int .i64 0, .int .i64 0, .string ByteArray.empty] 133)).heap[w.heap.size]? = some (Obj.cells #[.int .i64 p.p, .int .i64 p.t, .string p.s] 122) := (heap_alloc_old _ _ (by simp; omega)).trans ((heap_alloc_old _ _ (by simp)).trans (heap_alloc_new _ _))
 have hy : (((w.alloc (Obj.cells #[.int .i64 p.p, .int .i64 p.t, .string p.s] 122)).alloc (Obj.cells #[.int .i64 0, .int .i64 0, .string ByteArray.empty] 133)).alloc (Obj.cells #[.int .i64 0, .int .i64 0, .string ByteArray.empty] 133)).heap[w.heap.size + 1]? = some (Obj.cells #[.int .i64 0, .int .i64 0, .string ByteArray.empty] 133) := (heap_alloc_old _ _ (by simp)).trans (heap_alloc2_new _ _ _)
 have hv : (((w.alloc (Obj.cells #[.int .i64 p.p, .int .i64 p.t, .string p.s] 122)).alloc (Obj.cells #[.int .i64 0, .int .i64 0, .string ByteArray.empty] 133)).alloc (Obj.cells #[.int .i64 0, .int .i64 0, .string ByteArray.empty] 133)).heap[w.heap.size + 2]? = some (Obj.cells #[.int .i64 0, .int .i64 0, .string ByteArray.empty] 133) := by
  have h := heap_alloc_new ((w.alloc (Obj.cells #[.int .i64 p.p, .int .i64 p.t, .string p.s] 122)).alloc (Obj.cells #[.int .i64 0, .int .i64 0, .string ByteArray.empty] 133)) (Obj.cells #[.int .i64 0, .int .i64 0, .string ByteArray.empty] 133)
  simpa using h
 have hs3 : w.heap.size + 3 <= (((w.alloc (Obj.cells #[.int .i64 p.p, .int .i64 p.t, .string p.s] 122)).alloc (Obj.cells #[.int .i64 0, .int .i64 0, .string ByteArray.empty] 133)).alloc (Obj.cells #[.int .i64 0, .int .i64 0, .string ByteArray.empty] 133)).heap.size := by simp
 go_enter Tryz.func85, Tryz.ntmps85
 go_wp2_with (refine Zaa rfl 3 _ _ rfl (w.heap.size + 2) 0 (.int .i64 p.p) #[.int .i64 p.p] rfl rfl rfl rfl 133 #[.int .i64 0, .int .i64 0, .string ByteArray.empty] #[.int .i64 p.p, .int .i64 0, .string ByteArray.empty] hv (by simp) (by kernel_rfl) rfl ?_)
 intro u1 hn hbl hsz hoth
 replace hx := (hoth w.heap.size (by omega)).trans hx
 replace hy := (hoth (w.heap.size + 1) (by omega)).trans hy
 replace hB := hB.trans (hbl.mono (by omega))
 replace hv := hn
 replace hs3 : w.heap.size + 3 <= u1.heap.size := by omega
 clear hn hbl hsz hoth
 have kc : u1.cell? ⟨w.heap.size, 0 + 1, none⟩ = some (.int .i64 p.t) := cell_of_row u1 _ 1 _ _ _ hx
 go_wp2_with (refine Zaa rfl 3 _ _ rfl (w.heap.size + 2) 1 (.int .i64 p.t) #[.int .i64 p.t] rfl rfl rfl rfl 133 #[.int .i64 p.p, .int .i64 0, .string ByteArray.empty] #[.int .i64 p.p, .int .i64 p.t, .string ByteArray.empty] hv (by simp) (by kernel_rfl) rfl ?_)
 intro u2 hn hbl hsz hoth
 replace hx := (hoth w.heap.size (by omega)).trans hx
 replace hy := (hoth (w.heap.size + 1) (by omega)).trans hy
 replace hB := hB.trans (hbl.mono (by omega))
 replace hv := hn
 replace hs3 : w.heap.size + 3 <= u2.heap.size := by omega
 clear hn hbl hsz hoth kc
 have kc : u2.cell? ⟨w.heap.size, 0 + 2, none⟩ = some (.string p.s) := cell_of_row u2 _ 2 _ _ _ hx
 go_wp2_with (refine Zaa rfl 9 _ _ rfl (w.heap.size + 2) 2 (.string p.s) #[.string p.s] rfl rfl rfl rfl 133 #[.int .i64 p.p, .int .i64 p.t, .string ByteArray.empty] #[.int .i64 p.p, .int .i64 p.t, .string p.s] hv (by simp) (by kernel_rfl) rfl ?_)
 intro u3 hn hbl hsz hoth
 replace hx := (hoth w.heap.size (by omega)).trans hx
 replace hy := (hoth (w.heap.size + 1) (by omega)).trans hy
 replace hB := hB.trans (hbl.mono (by omega))
 replace hv := hn
 replace hs3 : w.heap.size + 3 <= u3.heap.size := by omega
 clear hn hbl hsz hoth kc
 go_wp2_with (first
  | (refine wpList_load_row rfl 133 _ rfl (w.heap.size + 2) rfl 133 #[.int .i64 p.p, .int .i64 p.t, .string p.s] (0, 0) _ hv Tryz.underlying133 rfl Zmr ?_)
  | (refine Zac rfl 133 _ _ rfl (w.heap.size + 1) #[.int .i64 p.p, .int .i64 p.t, .string p.s] rfl rfl 133 #[.int .i64 0, .int .i64 0, .string ByteArray.empty] hy Zmr rfl (by simp [Value.oneCell']) ?_))
 intro w9 hh9 hb9 hs9 hoth9
 have hB9 : Below w.heap.size w w9 := hB.trans (hb9.mono (by omega))
 go_wp2
 exact bodyPost_ret (results_cell_row rfl _ _ (w.heap.size + 1) 133 _ (0, 0) _ rfl hh9 Tryz.underlying133 rfl Zmr) rfl ⟨rfl, hB9⟩
theorem Zhb (h : Hm) (v vb vo : Value) (l : Int) (w : World) (R : NRow w v h.xs) (Rb : StRow w vb h.bx) (Ro : StRow w vo h.ox) (hl0 : 0 <= l) (hl1 : l <= 1048576) :
  Calls Tryz.prog 69 #[.agg #[.int .i64 h.pl, .int .i64 h.i, v, .int .i64 h.m.p, .int .i64 h.m.s, .int .i64 h.m.e, .int .i64 h.m.d, .int .i64 h.m.t, .int .i64 h.m.q, .int .i64 h.m.r, vb, vo], .int .i64 l] w fun e w' => ∃ r : Int, e = .returned (.int .i64 r) /\ -1 <= r /\ r <= 1048576 /\ (0 <= r -> SmH h) /\ Below w.heap.size w w' := by
 obtain ⟨ao, cap, rfl⟩ : ∃ ao cap, v = .slice ao h.xs.length cap := by obtain ⟨ao, cap, rfl, _⟩ := R; exact ⟨ao, cap, rfl⟩
 obtain ⟨ab, cb, rfl⟩ := Rb.small
 obtain ⟨ac, cc, rfl⟩ := Ro.small
 have hB0 : Below w.heap.size w (w.alloc (Obj.cells #[.int .i64 h.pl, .int .i64 h.i, .slice ao h.xs.length cap, .int .i64 h.m.p, .int .i64 h.m.s, .int .i64 h.m.e, .int .i64 h.m.d, .int .i64 h.m.t, .int .i64 h.m.q, .int .i64 h.m.r, .slice ab h.bx.length cb, .slice ac h.ox.length cc] 111)) := (Below.refl _ _).alloc (Nat.le_refl _) _
 have hx : (w.alloc (Obj.cells #[.int .i64 h.pl, .int .i64 h.i, .slice ao h.xs.length cap, .int .i64 h.m.p, .int .i64 h.m.s, .int .i64 h.m.e, .int .i64 h.m.d, .int .i64 h.m.t, .int .i64 h.m.q, .int .i64 h.m.r, .slice ab h.bx.length cb, .slice ac h.ox.length cc] 111)).heap[w.heap.size]? = some (Obj.cells #[.int .i64 h.pl, .int .i64 h.i, .slice ao h.xs.length cap, .int .i64 h.m.p, .int .i64 h.m.s, .int .i64 h.m.e, .int .i64 h.m.d, .int .i64 h.m.t, .int .i64 h.m.q, .int .i64 h.m.r, .slice ab h.bx.length cb, .slice ac h.ox.length cc] 111) := heap_alloc_new _ _
 go_enter Tryz.func69, Tryz.ntmps69
 go_wp2_with (refine Zan rfl 109 _ rfl w.heap.size 1 rfl _ 111 #[.int .i64 h.i, .slice ao h.xs.length cap, .int .i64 h.m.p, .int .i64 h.m.s, .int .i64 h.m.e, .int .i64 h.m.d, .int .i64 h.m.t, .int .i64 h.m.q, .int .i64 h.m.r, .slice ab h.bx.length cb, .slice ac h.ox.length cc] _ hx rfl Tryz.underlying109 rfl Zl4 ?_)
 refine (ZhK l hl0 hl1 h.i _ _ _ h.xs h.m h.bx h.ox _ (R.below hB0) (Rb.below hB0) (Ro.below hB0)).mono ?_
 rintro e w1 ⟨r, rfl, h0, h1, h2, hb⟩
 have hB1 := hB0.trans (hb.mono hB0.size)
 clear hB0 hx hb
 by_cases hr : r < 0
 ·have HR : Hid (r = -1) := by unfold Hid; omega
  go_wp2
  go_ret
  exact ⟨-1, rfl, by omega, by omega, fun h => by omega, hB1⟩
 ·have h2 := h2 (by omega)
  go_wp2
  go_ret
  exact ⟨r, rfl, by omega, by omega, fun _ => ⟨h2.1.1, h2.2.1.1, h2.2.2.1, h2.2.1.2⟩, hB1⟩
theorem Zh8 (g : Gm) (l : Int) (w : World) (hs : g.s.size <= maxLen) (hl0 : 0 <= l) (hl1 : l <= 1048576) :
  Calls Tryz.prog 71 #[.agg #[.int .i64 g.k, .int .i64 g.f, .int .i64 g.t, .int .i64 g.n, .string g.s], .int .i64 l] w fun e w' => ∃ r : Int, e = .returned (.int .i64 r) /\ -1 <= r /\ r <= 1048576 /\ (0 <= r -> SmG g) /\ Below w.heap.size w w' := by
 have hB0 : Below w.heap.size w (w.alloc (Obj.cells #[.int .i64 g.k, .int .i64 g.f, .int .i64 g.t, .int .i64 g.n, .string g.s] 119)) := (Below.refl _ _).alloc (Nat.le_refl _) _
 have hx : (w.alloc (Obj.cells #[.int .i64 g.k, .int .i64 g.f, .int .i64 g.t, .int .i64 g.n, .string g.s] 119)).heap[w.heap.size]? = some (Obj.cells #[.int .i64 g.k, .int .i64 g.f, .int .i64 g.t, .int .i64 g.n, .string g.s] 119) := heap_alloc_new _ _
 have hs2 : g.s.size <= 9223372036854775807 := by unfold maxLen at hs; omega
 go_enter Tryz.func71, Tryz.ntmps71
 go_wp2_with (refine Zan rfl 117 _ rfl w.heap.size 3 rfl _ 119 #[.int .i64 g.n, .string g.s] _ hx rfl Tryz.underlying117 rfl Zmb ?_)
 refine (ZgL ⟨g.n, g.s⟩ l _ hs hl0 hl1).mono ?_
 rintro e w1 ⟨rfl, hb⟩
 have hB1 := hB0.trans (hb.mono hB0.size)
 clear hB0 hx hb
 by_cases hr : l < g.s.size
 ·have HR : Hid (less l g.s.size = -1) := by unfold Hid less; rw [if_pos hr]
  rw [show less l (Pc.mk g.n g.s).s.size = -1 from HR.out]
  go_wp2
  go_ret
  exact ⟨-1, rfl, by omega, by omega, fun h => by omega, hB1⟩
 ·have HR : Hid (less l g.s.size = l - g.s.size) := by unfold Hid less; rw [if_neg hr]
  rw [show less l (Pc.mk g.n g.s).s.size = l - g.s.size from HR.out]
  go_wp2
  go_ret
  exact ⟨_, rfl, by omega, by omega, fun _ => trivial, hB1⟩
theorem ZeT (p : Pd) (l : Int) (w : World) (hs : p.s.size <= maxLen) (hl0 : 0 <= l) (hl1 : l <= 1048576) :
  Calls Tryz.prog 72 #[.agg #[.int .i64 p.p, .int .i64 p.t, .string p.s], .int .i64 l] w fun e w' => ∃ r : Int, e = .returned (.int .i64 r) /\ -1 <= r /\ r <= 1048576 /\ (0 <= r -> SmP p) /\ Below w.heap.size w w' := by
 have hs2 : p.s.size <= 9223372036854775807 := by unfold maxLen at hs; omega
 have hB0 : Below w.heap.size w (w.alloc (Obj.cells #[.int .i64 p.p, .int .i64 p.t, .string p.s] 122)) := (Below.refl _ _).alloc (Nat.le_refl _) _
 go_enter Tryz.func72, Tryz.ntmps72
 by_cases hr : l < p.s.size
 ·go_wp2
  go_ret
  exact ⟨-1, rfl, by omega, by omega, fun h => by omega, hB0⟩
 ·go_wp2
  go_ret
  exact ⟨_, rfl, by omega, by omega, fun _ => trivial, hB0⟩
theorem Zhv (h : Hm) (v vb vo u ub uo : Value) (w : World) (R : NRow w v h.xs) (Rb : StRow w vb h.bx) (Ro : StRow w vo h.ox) (S : NRow w u h.xs) (Sb : StRow w ub h.bx) (So : StRow w uo h.ox) :
  Calls Tryz.prog 91 #[.agg #[.int .i64 h.pl, .int .i64 h.i, v, .int .i64 h.m.p, .int .i64 h.m.s, .int .i64 h.m.e, .int .i64 h.m.d, .int .i64 h.m.t, .int .i64 h.m.q, .int .i64 h.m.r, vb, vo], .agg #[.int .i64 h.pl, .int .i64 h.i, u, .int .i64 h.m.p, .int .i64 h.m.s, .int .i64 h.m.e, .int .i64 h.m.d, .int .i64 h.m.t, .int .i64 h.m.q, .int .i64 h.m.r, ub, uo]] w fun e w' => e = .returned (.bool true) /\ Below w.heap.size w w' := by
 obtain ⟨ao, cap, rfl⟩ : ∃ ao cap, v = .slice ao h.xs.length cap := by obtain ⟨ao, cap, rfl, _⟩ := R; exact ⟨ao, cap, rfl⟩
 obtain ⟨ab, cb, rfl⟩ := Rb.small
 obtain ⟨ac, cc, rfl⟩ := Ro.small
 obtain ⟨p1, q1, rfl⟩ : ∃ ao cap, u = .slice ao h.xs.length cap := by obtain ⟨ao, cap, rfl, _⟩ := S; exact ⟨ao, cap, rfl⟩
 obtain ⟨p2, q2, rfl⟩ := Sb.small
 obtain ⟨p3, q3, rfl⟩ := So.small
 obtain ⟨hB0, hx, hy⟩ := Zat w (Obj.cells #[.int .i64 h.pl, .int .i64 h.i, .slice ao h.xs.length cap, .int .i64 h.m.p, .int .i64 h.m.s, .int .i64 h.m.e, .int .i64 h.m.d, .int .i64 h.m.t, .int .i64 h.m.q, .int .i64 h.m.r, .slice ab h.bx.length cb, .slice ac h.ox.length cc] 85) (Obj.cells #[.int .i64 h.pl, .int .i64 h.i, .slice p1 h.xs.length q1, .int .i64 h.m.p, .int .i64 h.m.s, .int .i64 h.m.e, .int .i64 h.m.d, .int .i64 h.m.t, .int .i64 h.m.q, .int .i64 h.m.r, .slice p2 h.bx.length q2, .slice p3 h.ox.length q3] 85)
 go_enter Tryz.func91, Tryz.ntmps91
 go_wp2_with (first
  | (refine Zan rfl 83 _ rfl w.heap.size 1 rfl _ 85 #[.int .i64 h.i, .slice ao h.xs.length cap, .int .i64 h.m.p, .int .i64 h.m.s, .int .i64 h.m.e, .int .i64 h.m.d, .int .i64 h.m.t, .int .i64 h.m.q, .int .i64 h.m.r, .slice ab h.bx.length cb, .slice ac h.ox.length cc] _ hx rfl Tryz.underlying83 rfl Zma ?_)
  | (refine Zan rfl 83 _ rfl (w.heap.size + 1) 1 rfl _ 85 #[.int .i64 h.i, .slice p1 h.xs.length q1, .int .i64 h.m.p, .int .i64 h.m.s, .int .i64 h.m.e, .int .i64 h.m.d, .int .i64 h.m.t, .int .i64 h.m.q, .int .i64 h.m.r, .slice p2 h.bx.length q2, .slice p3 h.ox.length q3] _ hy rfl Tryz.underlying83 rfl Zma ?_))
 refine (ZhY h.i _ _ _ _ _ _ h.xs h.m h.bx h.ox _ (R.below hB0) (Rb.below hB0) (Ro.below hB0) (S.below hB0) (Sb.below hB0) (So.below hB0)).mono ?_
 rintro e w1 ⟨rfl, hb⟩
 have hB1 := hB0.trans (hb.mono hB0.size)
 clear hB0 hx hy hb
 go_wp2
 go_ret
 exact ⟨rfl, hB1⟩
theorem Zh2 (g : Gm) (w : World) :
  Calls Tryz.prog 93 #[.agg #[.int .i64 g.k, .int .i64 g.f, .int .i64 g.t, .int .i64 g.n, .string g.s], .agg #[.int .i64 g.k, .int .i64 g.f, .int .i64 g.t, .int .i64 g.n, .string g.s]] w fun e w' => e = .returned (.bool true) /\ Below w.heap.size w w' := by
 obtain ⟨hB0, hx, hy⟩ := Zat w (Obj.cells #[.int .i64 g.k, .int .i64 g.f, .int .i64 g.t, .int .i64 g.n, .string g.s] 131) (Obj.cells #[.int .i64 g.k, .int .i64 g.f, .int .i64 g.t, .int .i64 g.n, .string g.s] 131)
 go_enter Tryz.func93, Tryz.ntmps93
 go_wp2_with (first
  | (refine Zan rfl 91 _ rfl w.heap.size 3 rfl _ 131 #[.int .i64 g.n, .string g.s] _ hx rfl Tryz.underlying91 rfl Zmk ?_)
  | (refine Zan rfl 91 _ rfl (w.heap.size + 1) 3 rfl _ 131 #[.int .i64 g.n, .string g.s] _ hy rfl Tryz.underlying91 rfl Zmk ?_))
 refine (ZgA ⟨g.n, g.s⟩ _).mono ?_
 rintro e w1 ⟨rfl, hb⟩
 have hB1 := hB0.trans (hb.mono hB0.size)
 clear hB0 hx hy hb
 go_wp2
 go_ret
 exact ⟨rfl, hB1⟩
theorem Zfx (p : Pd) (w : World) :
  Calls Tryz.prog 94 #[.agg #[.int .i64 p.p, .int .i64 p.t, .string p.s], .agg #[.int .i64 p.p, .int .i64 p.t, .string p.s]] w fun e w' => e = .returned (.bool true) /\ Below w.heap.size w w' := by
 obtain ⟨hB0, hx, hy⟩ := Zat w (Obj.cells #[.int .i64 p.p, .int .i64 p.t, .string p.s] 133) (Obj.cells #[.int .i64 p.p, .int .i64 p.t, .string p.s] 133)
 clear hx hy
 go_enter Tryz.func94, Tryz.ntmps94
 go_wp2
 go_ret
 exact ⟨rfl, hB0⟩
def SOwn (w : World) (base : Nat) (v : Value) (xs : List ByteArray) : Prop :=
 ∃ ao cap, v = .slice ao xs.length cap /\ (xs.length <= cap /\ (ao = none -> cap = 0)) /\
  (xs = [] \/ ∃ g CAP N pre post, ao = some ⟨g, pre.length, none⟩ /\ pre.length + xs.length + post.length = N /\ w.ownsRow base 9 1 (.slice (some ⟨g, 0, none⟩) N CAP) N (stv (pre ++ (xs ++ post))))
structure Lk where
 sent : Int
 acked : Int
 q : List ByteArray
 got : Int
 h : List Pc
theorem Zmv : (Tryz.prog.info? 88).map (·.size) = some 5 := by kernel_rfl
theorem ZhW (l0 : Int) (hl0 : 0 <= l0) (hl1 : l0 <= 1048576) (vq vh : Value) (l : Lk) (w : World) (Rq : StRow w vq l.q) (Rh : PcRow w vh l.h) :
  Calls Tryz.prog 70 #[.agg #[.int .i64 l.sent, .int .i64 l.acked, vq, .int .i64 l.got, vh], .int .i64 l0] w fun e w' => ∃ r : Int, e = .returned (.int .i64 r) /\ -1 <= r /\ r <= 1048576 /\ (0 <= r -> l.q.length <= 1048576 /\ l.h.length <= 1048576) /\ Below w.heap.size w w' := by
 obtain ⟨a1, c1, rfl⟩ := Rq.small
 obtain ⟨a2, c2, rfl⟩ := Rh.small
 go_enter Tryz.func70, Tryz.ntmps70
 go_wp2_with fail
 have hB0 : Below w.heap.size w (w.alloc (Obj.cells #[.int .i64 l.sent, .int .i64 l.acked, .slice a1 l.q.length c1, .int .i64 l.got, .slice a2 l.h.length c2] 115)) := (Below.refl _ _).alloc (Nat.le_refl _) _
 refine (Zch _ l.q l0 _ (Rq.below hB0) hl0 hl1).mono ?_
 rintro e w1 ⟨r1, rfl, h0, h1, h2, hb1⟩
 have hx1 : w1.heap[w.heap.size]? = some (.cells #[.int .i64 l.sent, .int .i64 l.acked, .slice a1 l.q.length c1, .int .i64 l.got, .slice a2 l.h.length c2] 115 (0, 0)) := (hb1.block _ (by simp)).trans (heap_alloc_new _ _)
 have hB1 := hB0.trans (hb1.mono hB0.size)
 have hc1 : w1.cell? ⟨w.heap.size, 0 + 4, none⟩ = some (.slice a2 l.h.length c2) := by rw [cell_of_row w1 _ 4 _ _ _ hx1]; rfl
 clear hB0 hb1
 by_cases hr : r1 < 0
 ·have HR : Hid (r1 = -1) := by unfold Hid; omega
  go_wp2
  go_ret
  exact ⟨-1, rfl, by omega, by omega, fun h => by omega, hB1⟩
 ·have h2 := h2 (by omega)
  go_wp2_with fail
  refine (Zjz _ l.h r1 _ (Rh.below hB1) (by omega) (by omega)).mono ?_
  rintro e w2 ⟨r2, rfl, k0, k1, k2, hb2⟩
  have hB2 := hB1.trans (hb2.mono hB1.size)
  clear hc1 hx1 hB1 hb2
  by_cases hr2 : r2 < 0
  ·have HR : Hid (r2 = -1) := by unfold Hid; omega
   go_wp2
   go_ret
   exact ⟨-1, rfl, by omega, by omega, fun h => by omega, hB2⟩
  ·have k2 := k2 (by omega)
   go_wp2
   go_ret
   exact ⟨r2, rfl, by omega, by omega, fun _ => ⟨h2.1, k2.1⟩, hB2⟩
theorem ZhH (v1 v2 u1 u2 : Value) (l : Lk) (w : World) (R1 : StRow w v1 l.q) (R2 : PcRow w v2 l.h) (S1 : StRow w u1 l.q) (S2 : PcRow w u2 l.h) :
  Calls Tryz.prog 92 #[.agg #[.int .i64 l.sent, .int .i64 l.acked, v1, .int .i64 l.got, v2], .agg #[.int .i64 l.sent, .int .i64 l.acked, u1, .int .i64 l.got, u2]] w fun e w' => e = .returned (.bool true) /\ Below w.heap.size w w' := by
 obtain ⟨a1, c1, rfl⟩ := R1.small
 obtain ⟨a2, c2, rfl⟩ := R2.small
 obtain ⟨b1, d1, rfl⟩ := S1.small
 obtain ⟨b2, d2, rfl⟩ := S2.small
 go_enter Tryz.func92, Tryz.ntmps92
 go_wp2_with fail
 have hB0 : Below w.heap.size w ((w.alloc (Obj.cells #[.int .i64 l.sent, .int .i64 l.acked, .slice a1 l.q.length c1, .int .i64 l.got, .slice a2 l.h.length c2] 88)).alloc (Obj.cells #[.int .i64 l.sent, .int .i64 l.acked, .slice b1 l.q.length d1, .int .i64 l.got, .slice b2 l.h.length d2] 88)) := ((Below.refl _ _).alloc (Nat.le_refl _) _).alloc (by simp) _
 refine (Zce _ _ l.q _ (R1.below hB0) (S1.below hB0)).mono ?_
 rintro e w1 ⟨rfl, hb1⟩
 have hx1 : w1.heap[w.heap.size]? = some (.cells #[.int .i64 l.sent, .int .i64 l.acked, .slice a1 l.q.length c1, .int .i64 l.got, .slice a2 l.h.length c2] 88 (0, 0)) := (hb1.block _ (by simp; omega)).trans ((heap_alloc_old _ _ (by simp)).trans (heap_alloc_new _ _))
 have hy1 : w1.heap[w.heap.size + 1]? = some (.cells #[.int .i64 l.sent, .int .i64 l.acked, .slice b1 l.q.length d1, .int .i64 l.got, .slice b2 l.h.length d2] 88 (0, 0)) := (hb1.block _ (by simp)).trans (heap_alloc2_new _ _ _)
 have hB1 := hB0.trans (hb1.mono hB0.size)
 have hc1 : w1.cell? ⟨w.heap.size, 0 + 3, none⟩ = some (.int .i64 l.got) := by rw [cell_of_row w1 _ 3 _ _ _ hx1]; rfl
 have hd1 : w1.cell? ⟨w.heap.size + 1, 0 + 3, none⟩ = some (.int .i64 l.got) := by rw [cell_of_row w1 _ 3 _ _ _ hy1]; rfl
 have hc2 : w1.cell? ⟨w.heap.size, 0 + 4, none⟩ = some (.slice a2 l.h.length c2) := by rw [cell_of_row w1 _ 4 _ _ _ hx1]; rfl
 have hd2 : w1.cell? ⟨w.heap.size + 1, 0 + 4, none⟩ = some (.slice b2 l.h.length d2) := by rw [cell_of_row w1 _ 4 _ _ _ hy1]; rfl
 clear hB0 hb1
 go_wp2_with fail
 refine (Zjj _ _ l.h _ (R2.below hB1) (S2.below hB1)).mono ?_
 rintro e w2 ⟨rfl, hb2⟩
 have hB2 := hB1.trans (hb2.mono hB1.size)
 clear hc1 hd1 hx1 hy1 hB1 hb2 hc2 hd2
 go_wp2
 go_ret
 exact ⟨rfl, hB2⟩
theorem Zh5 (v1 v2 : Value) (l : Lk) (w : World) (R1 : StRow w v1 l.q) (R2 : PcRow w v2 l.h) (h1 : l.q.length <= 2097152) (h2 : l.h.length <= 2097152) :
  Calls Tryz.prog 83 #[.agg #[.int .i64 l.sent, .int .i64 l.acked, v1, .int .i64 l.got, v2]] w fun e w' => ∃ u1 u2, e = .returned (.agg #[.int .i64 l.sent, .int .i64 l.acked, u1, .int .i64 l.got, u2]) /\ w'.ownsRow w.heap.size 9 1 u1 l.q.length (stv l.q) /\ w'.ownsRow w.heap.size 91 2 u2 l.h.length (pccs l.h) /\ Below w.heap.size w w' := by
 obtain ⟨a1, c1, rfl⟩ := R1.small
 obtain ⟨a2, c2, rfl⟩ := R2.small
 go_enter Tryz.func83, Tryz.ntmps83
 go_wp2_with fail
 have hB0 : Below w.heap.size w (((w.alloc (Obj.cells #[.int .i64 l.sent, .int .i64 l.acked, .slice a1 l.q.length c1, .int .i64 l.got, .slice a2 l.h.length c2] 115)).alloc (Obj.cells #[.int .i64 0, .int .i64 0, .slice none 0 0, .int .i64 0, .slice none 0 0] 88)).alloc (Obj.cells #[.int .i64 l.sent, .int .i64 l.acked, .slice none 0 0, .int .i64 0, .slice none 0 0] 88)) :=
  (((Below.refl _ _).alloc (Nat.le_refl _) _).alloc (by simp) _).alloc (by simp; omega) _
 refine (Zcf _ l.q _ (R1.below hB0) h1).mono ?_
 rintro e w1 ⟨u1, rfl, ho1, hb1⟩
 obtain ⟨b1, d1, rfl⟩ := Zae ho1
 have hx1 : w1.heap[w.heap.size]? = some (.cells #[.int .i64 l.sent, .int .i64 l.acked, .slice a1 l.q.length c1, .int .i64 l.got, .slice a2 l.h.length c2] 115 (0, 0)) := (hb1.block _ (by simp; omega)).trans ((heap_alloc_old _ _ (by simp; omega)).trans ((heap_alloc_old _ _ (by simp)).trans (heap_alloc_new _ _)))
 have hy1 : w1.heap[w.heap.size + 1]? = some (.cells #[.int .i64 0, .int .i64 0, .slice none 0 0, .int .i64 0, .slice none 0 0] 88 (0, 0)) := (hb1.block _ (by simp)).trans ((heap_alloc_old _ _ (by simp)).trans (heap_alloc2_new _ _ _))
 have hv1 : w1.heap[w.heap.size + 1 + 1]? = some (.cells #[.int .i64 l.sent, .int .i64 l.acked, .slice none 0 0, .int .i64 0, .slice none 0 0] 88 (0, 0)) := (hb1.block _ (by simp)).trans (Zbu _ _ _ _)
 have hB1 := hB0.trans (hb1.mono hB0.size)
 have ho1' : w1.ownsRow (w.heap.size + 3) 9 1 (.slice b1 l.q.length d1) l.q.length (stv l.q) := by simpa using ho1
 have cv1 : w1.cell? ⟨w.heap.size + 1 + 1, 0 + 2, none⟩ = some (.slice none 0 0) := by rw [cell_of_row w1 _ 2 _ _ _ hv1]; rfl
 have cv3 : w1.cell? ⟨w.heap.size + 1 + 1, 0 + 3, none⟩ = some (.int .i64 0) := by rw [cell_of_row w1 _ 3 _ _ _ hv1]; rfl
 have fv1 : w1.frozen? ⟨w.heap.size + 1 + 1, 0 + 2, none⟩ = false := frozen_of_row w1 _ 2 _ _ hv1
 have fv3 : w1.frozen? ⟨w.heap.size + 1 + 1, 0 + 3, none⟩ = false := frozen_of_row w1 _ 3 _ _ hv1
 have cx1 : w1.cell? ⟨w.heap.size, 0 + 3, none⟩ = some (.int .i64 l.got) := by rw [cell_of_row w1 _ 3 _ _ _ hx1]; rfl
 have cx2 : w1.cell? ⟨w.heap.size, 0 + 4, none⟩ = some (.slice a2 l.h.length c2) := by rw [cell_of_row w1 _ 4 _ _ _ hx1]; rfl
 clear hB0 hb1 ho1
 go_wp2_with fail
 have hB1' : Below w.heap.size w ((w1.setCell ⟨w.heap.size + 1 + 1, 2, none⟩ (.slice b1 l.q.length d1)).setCell ⟨w.heap.size + 1 + 1, 3, none⟩ (.int .i64 l.got)) := (hB1.setCell (p := ⟨w.heap.size + 1 + 1, 2, none⟩) (by simp; omega) _).setCell (p := ⟨w.heap.size + 1 + 1, 3, none⟩) (by simp; omega) _
 refine (Zjc _ l.h _ (R2.below hB1') h2).mono ?_
 rintro e w2 ⟨u2, rfl, ho2, hb2⟩
 obtain ⟨b2, d2, rfl⟩ := Zae ho2
 have ho1'' := Zad (ownsRow_setCell_below (ownsRow_setCell_below ho1' (a := ⟨w.heap.size + 1 + 1, 2, none⟩) (by simp) (.slice b1 l.q.length d1)) (a := ⟨w.heap.size + 1 + 1, 3, none⟩) (by simp) (.int .i64 l.got)) hb2
 have hy2 : w2.heap[w.heap.size + 1]? = some (.cells #[.int .i64 0, .int .i64 0, .slice none 0 0, .int .i64 0, .slice none 0 0] 88 (0, 0)) := (hb2.block _ (by simp; have := (bl hv1); omega)).trans ((heap_setCell_other _ ⟨w.heap.size + 1 + 1, 3, none⟩ (w.heap.size + 1) _ (by simp)).trans ((heap_setCell_other w1 ⟨w.heap.size + 1 + 1, 2, none⟩ (w.heap.size + 1) _ (by simp)).trans hy1))
 have hv2 : w2.heap[w.heap.size + 1 + 1]? = some (.cells #[.int .i64 l.sent, .int .i64 l.acked, .slice b1 l.q.length d1, .int .i64 l.got, .slice none 0 0] 88 (0, 0)) := (hb2.block _ (by simp; have := (bl hv1); omega)).trans (heap_setCell_same _ (w.heap.size + 1 + 1) 3 _ _ (.int .i64 l.got) (heap_setCell_same w1 (w.heap.size + 1 + 1) 2 _ _ (.slice b1 l.q.length d1) hv1))
 have hB2 := hB1'.trans (hb2.mono hB1'.size)
 have hsv := (bl hv1)
 have ho2' : w2.ownsRow (w.heap.size + 3) 91 2 (.slice b2 l.h.length d2) l.h.length (pccs l.h) := Zaf ho2 (by simp; omega)
 have cv2 : w2.cell? ⟨w.heap.size + 1 + 1, 0 + 4, none⟩ = some (.slice none 0 0) := by rw [cell_of_row w2 _ 4 _ _ _ hv2]; rfl
 have fv2 : w2.frozen? ⟨w.heap.size + 1 + 1, 0 + 4, none⟩ = false := frozen_of_row w2 _ 4 _ _ hv2
 clear hB1 hB1' hb2 ho1' ho2 hx1 hy1 hv1 cv1 fv1 cx1 cx2 cv3 fv3
 have hv3 : (w2.setCell ⟨w.heap.size + 1 + 1, 4, none⟩ (.slice b2 l.h.length d2)).heap[w.heap.size + 1 + 1]? = some (.cells #[.int .i64 l.sent, .int .i64 l.acked, .slice b1 l.q.length d1, .int .i64 l.got, .slice b2 l.h.length d2] 88 (0, 0)) := heap_setCell_same w2 (w.heap.size + 1 + 1) 4 _ _ (.slice b2 l.h.length d2) hv2
 have hy3 := (heap_setCell_other w2 ⟨w.heap.size + 1 + 1, 4, none⟩ (w.heap.size + 1) (.slice b2 l.h.length d2) (by simp)).trans hy2
 go_wp2_with (first
  | refine wpList_load_row rfl 88 _ rfl (w.heap.size + 1 + 1) rfl 88 #[.int .i64 l.sent, .int .i64 l.acked, .slice b1 l.q.length d1, .int .i64 l.got, .slice b2 l.h.length d2] (0, 0) _ hv3 Tryz.underlying88 rfl Zmv ?_
  | refine Zac rfl 88 _ _ rfl (w.heap.size + 1) #[.int .i64 l.sent, .int .i64 l.acked, .slice b1 l.q.length d1, .int .i64 l.got, .slice b2 l.h.length d2] rfl rfl 88 _ hy3 Zmv rfl (by simp [Value.oneCell']) ?_)
 intro w3 hy4 hbg _ hoth
 have hB3 := (hB2.setCell (p := ⟨w.heap.size + 1 + 1, 4, none⟩) (by simp; omega) (.slice b2 l.h.length d2)).trans (hbg.mono (by omega))
 have up : ∀ {e : TypeId} {k : Nat} {v : Value} {n : Nat} {xs : List Value}, w2.ownsRow (w.heap.size + 3) e k v n xs -> w3.ownsRow (w.heap.size + 3) e k v n xs := fun h =>
  Zak (ownsRow_setCell_below h (a := ⟨w.heap.size + 1 + 1, 4, none⟩) (by simp) _) (by omega) hoth
 go_wp2
 exact bodyPost_ret (results_cell_row rfl _ _ (w.heap.size + 1) 88 _ (0, 0) _ rfl hy4 Tryz.underlying88 rfl Zmv) rfl ⟨_, _, rfl, Zaf (up ho1'') (by omega), Zaf (up ho2') (by omega), hB3⟩
def VarL (w : World) (b lo hi : Nat) (v1 v2 : Value) (l : Lk) : Prop :=
 w.heap[b]? = some (.cells #[.int .i64 l.sent, .int .i64 l.acked, v1, .int .i64 l.got, v2] 88 (0, 0)) /\ SOwn w lo v1 l.q /\ w.ownsRow lo 91 2 v2 l.h.length (pccs l.h) /\ (l.q ≠ [] -> ∀ k, v1.ownBlock = some k -> k < hi) /\ (∀ k, v2.ownBlock = some k -> k < hi) /\ hi <= w.heap.size
def lmk (l : Lk) : Lk := ⟨l.sent, l.acked, sm 1 l.q.length, l.got, Zk9 (1 + l.q.length) l.h l.h.length⟩
def ZlX (w w' : World) (lo hi : Nat) : Prop :=
 w'.os = w.os /\ w'.tape = w.tape /\ w'.output = w.output /\ w.heap.size <= w'.heap.size /\ ∀ k, k < w.heap.size -> (k < lo \/ hi <= k \/ ∃ cs t, w.heap[k]? = some (.cells cs t (0, 0)) /\ t ≠ 9 /\ t ≠ 91) -> w'.heap[k]? = w.heap[k]?
end Go.Proofs.YtfmafkebddojjaaGreatDoor
