/-
  Texts that stood by themselves, laid into one.
-/
import Derived.Test.YtfmafkebddojjaaGreatDoorInM
import Derived.Test.YtfmafkebddojjaaGreatDoorBsM
/-
  A process made of the law's own: toProc. No condition.
-/
set_option maxRecDepth 100000
set_option maxHeartbeats 6400000
namespace Go.Proofs.YtfmafkebddojjaaGreatDoor
open Go.RowKit
theorem Zh9 (i : Int) (v vb vo : Value) (xs : List Nd) (m : Mc) (bx ox : List ByteArray) (w : World) (R : NRow w v xs) (Rb : StRow w vb bx) (Ro : StRow w vo ox) (hm : xs.length <= 2097152) (hmb : bx.length <= 2097152) (hmo : ox.length <= 2097152) :
  Calls Tryz.prog 134 #[.agg #[.int .i64 i, v, .int .i64 m.p, .int .i64 m.s, .int .i64 m.e, .int .i64 m.d, .int .i64 m.t, .int .i64 m.q, .int .i64 m.r, vb, vo]] w fun e w' => ∃ v1 v2 v3, e = .returned (.agg #[.int .i64 i, v1, .int .i64 m.p, .int .i64 m.s, .int .i64 m.e, .int .i64 m.d, .int .i64 m.t, .int .i64 m.q, .int .i64 m.r, v2, v3]) /\ w'.ownsRow w.heap.size 210 5 v1 xs.length (ncs xs) /\ w'.ownsRow w.heap.size 9 1 v2 bx.length (stv bx) /\ w'.ownsRow w.heap.size 9 1 v3 ox.length (stv ox) /\ (∀ g, v3.ownBlock = some g -> v2.ownBlock ≠ some g) /\ Below w.heap.size w w' := by
 obtain ⟨ao, cap, rfl⟩ : ∃ ao cap, v = .slice ao xs.length cap := by obtain ⟨ao, cap, rfl, _⟩ := R; exact ⟨ao, cap, rfl⟩
 obtain ⟨ab, cb, rfl⟩ := Rb.small
 obtain ⟨ac, cc, rfl⟩ := Ro.small
 have hB : Below w.heap.size w (((w.alloc (Obj.cells #[.int .i64 i, .slice ao xs.length cap, .int .i64 m.p, .int .i64 m.s, .int .i64 m.e, .int .i64 m.d, .int .i64 m.t, .int .i64 m.q, .int .i64 m.r, .slice ab bx.length cb, .slice ac ox.length cc] 109)).alloc (Obj.cells #[.int .i64 0, .slice none 0 0, .int .i64 0, .int .i64 0, .int .i64 0, .int .i64 0, .int .i64 0, .int .i64 0, .int .i64 0, .slice none 0 0, .slice none 0 0] 83)).alloc (Obj.cells #[.int .i64 0, .slice none 0 0, .int .i64 0, .int .i64 0, .int .i64 0, .int .i64 0, .int .i64 0, .int .i64 0, .int .i64 0, .slice none 0 0, .slice none 0 0] 83)) := (((Below.refl _ _).alloc (Nat.le_refl _) _).alloc (by simp) _).alloc (by simp; omega) _
 have hx : (((w.alloc (Obj.cells #[.int .i64 i, .slice ao xs.length cap, .int .i64 m.p, .int .i64 m.s, .int .i64 m.e, .int .i64 m.d, .int .i64 m.t, .int .i64 m.q, .int .i64 m.r, .slice ab bx.length cb, .slice ac ox.length cc] 109)).alloc (Obj.cells #[.int .i64 0, .slice none 0 0, .int .i64 0, .int .i64 0, .int .i64 0, .int .i64 0, .int .i64 0, .int .i64 0, .int .i64 0, .slice none 0 0, .slice none 0 0] 83)).alloc (Obj.cells #[.int .i64 0, .slice none 0 0, .int .i64 0, .int .i64 0, .int .i64 0, .int .i64 0, .int .i64 0, .int .i64 0, .int .i64 0, .slice none 0 0, .slice none 0 0] 83)).heap[w.heap.size]? = some (Obj.cells #[.int .i64 i, .slice ao xs.length cap, .int .i64 m.p, .int .i64 m.s, .int .i64 m.e, .int .i64 m.d, .int .i64 m.t, .int .i64 m.q, .int .i64 m.r, .slice ab bx.length cb, .slice ac ox.length cc] 109) := (heap_alloc_old _ _ (by simp; omega)).trans ((heap_alloc_old _ _ (by simp)).trans (heap_alloc_new _ _))
 have hy : (((w.alloc (Obj.cells #[.int .i64 i, .slice ao xs.length cap, .int .i64 m.p, .int .i64 m.s, .int .i64 m.e, .int .i64 m.d, .int .i64 m.t, .int .i64 m.q, .int .i64 m.r, .slice ab bx.length cb, .slice ac ox.length cc] 109)).alloc (Obj.cells #[.int .i64 0, .slice none 0 0, .int .i64 0, .int .i64 0, .int .i64 0, .int .i64 0, .int .i64 0, .int .i64 0, .int .i64 0, .slice none 0 0, .slice none 0 0] 83)).alloc (Obj.cells #[.int .i64 0, .slice none 0 0, .int .i64 0, .int .i64 0, .int .i64 0, .int .i64 0, .int .i64 0, .int .i64 0, .int .i64 0, .slice none 0 0, .slice none 0 0] 83)).heap[w.heap.size + 1]? = some (Obj.cells #[.int .i64 0, .slice none 0 0, .int .i64 0, .int .i64 0, .int .i64 0, .int .i64 0, .int .i64 0, .int .i64 0, .int .i64 0, .slice none 0 0, .slice none 0 0] 83) := (heap_alloc_old _ _ (by simp)).trans (heap_alloc2_new _ _ _)
 have hv : (((w.alloc (Obj.cells #[.int .i64 i, .slice ao xs.length cap, .int .i64 m.p, .int .i64 m.s, .int .i64 m.e, .int .i64 m.d, .int .i64 m.t, .int .i64 m.q, .int .i64 m.r, .slice ab bx.length cb, .slice ac ox.length cc] 109)).alloc (Obj.cells #[.int .i64 0, .slice none 0 0, .int .i64 0, .int .i64 0, .int .i64 0, .int .i64 0, .int .i64 0, .int .i64 0, .int .i64 0, .slice none 0 0, .slice none 0 0] 83)).alloc (Obj.cells #[.int .i64 0, .slice none 0 0, .int .i64 0, .int .i64 0, .int .i64 0, .int .i64 0, .int .i64 0, .int .i64 0, .int .i64 0, .slice none 0 0, .slice none 0 0] 83)).heap[w.heap.size + 2]? = some (Obj.cells #[.int .i64 0, .slice none 0 0, .int .i64 0, .int .i64 0, .int .i64 0, .int .i64 0, .int .i64 0, .int .i64 0, .int .i64 0, .slice none 0 0, .slice none 0 0] 83) := by
  have h := heap_alloc_new ((w.alloc (Obj.cells #[.int .i64 i, .slice ao xs.length cap, .int .i64 m.p, .int .i64 m.s, .int .i64 m.e, .int .i64 m.d, .int .i64 m.t, .int .i64 m.q, .int .i64 m.r, .slice ab bx.length cb, .slice ac ox.length cc] 109)).alloc (Obj.cells #[.int .i64 0, .slice none 0 0, .int .i64 0, .int .i64 0, .int .i64 0, .int .i64 0, .int .i64 0, .int .i64 0, .int .i64 0, .slice none 0 0, .slice none 0 0] 83)) (Obj.cells #[.int .i64 0, .slice none 0 0, .int .i64 0, .int .i64 0, .int .i64 0, .int .i64 0, .int .i64 0, .int .i64 0, .int .i64 0, .slice none 0 0, .slice none 0 0] 83)
  simpa using h
 go_enter Tryz.func134, Tryz.ntmps134
 go_wp2_with (refine Zaa rfl 3 _ _ rfl (w.heap.size + 2) 0 (.int .i64 i) #[.int .i64 i] rfl rfl rfl rfl 83 #[.int .i64 0, .slice none 0 0, .int .i64 0, .int .i64 0, .int .i64 0, .int .i64 0, .int .i64 0, .int .i64 0, .int .i64 0, .slice none 0 0, .slice none 0 0] #[.int .i64 i, .slice none 0 0, .int .i64 0, .int .i64 0, .int .i64 0, .int .i64 0, .int .i64 0, .int .i64 0, .int .i64 0, .slice none 0 0, .slice none 0 0] hv (by simp) (by kernel_rfl) rfl ?_)
 intro u0 hn0 hbl0 hsz0 hoth0
 replace hsz0 : Hid (u0.heap.size = w.heap.size + 3) := hsz0.trans (by simp)
 replace hx := (hoth0 w.heap.size (by omega)).trans hx
 replace hy := (hoth0 (w.heap.size + 1) (by omega)).trans hy
 replace hB := hB.trans (hbl0.mono (by omega))
 replace hv := hn0
 clear hn0 hbl0 hoth0
 go_wp2_with (refine Zan rfl 107 _ rfl w.heap.size 1 rfl _ 109 #[.slice ao xs.length cap, .int .i64 m.p, .int .i64 m.s, .int .i64 m.e, .int .i64 m.d, .int .i64 m.t, .int .i64 m.q, .int .i64 m.r] _ hx rfl Tryz.underlying107 rfl Zl6 ?_)
 refine (ZhI _ xs m _ (R.below hB) hm).mono ?_
 rintro e w1 ⟨v1, rfl, ho1, hb⟩
 obtain ⟨ao1, cap1, rfl⟩ := Zae ho1
 rw [hsz0.out] at ho1
 have hs1 : w.heap.size + 3 <= w1.heap.size := hsz0.out ▸ hb.size
 replace hx := (bb hx hb)
 replace hy := (bb hy hb)
 replace hv := (bb hv hb)
 replace hB := hB.trans (hb.mono hB.size)
 clear hb
 go_wp2_with (refine ZaH rfl 81 _ _ rfl (w.heap.size + 2) 1 #[.slice ao1 xs.length cap1, .int .i64 m.p, .int .i64 m.s, .int .i64 m.e, .int .i64 m.d, .int .i64 m.t, .int .i64 m.q, .int .i64 m.r] rfl rfl 83 #[.int .i64 i, .slice none 0 0, .int .i64 0, .int .i64 0, .int .i64 0, .int .i64 0, .int .i64 0, .int .i64 0, .int .i64 0, .slice none 0 0, .slice none 0 0] #[.int .i64 i, .slice ao1 xs.length cap1, .int .i64 m.p, .int .i64 m.s, .int .i64 m.e, .int .i64 m.d, .int .i64 m.t, .int .i64 m.q, .int .i64 m.r, .slice none 0 0, .slice none 0 0] hv (by simp) Zmc (by simp [Value.oneCell']) rfl ?_)
 intro u1 hn1 hbl1 hsz1 hoth1
 have hs1' : w.heap.size + 3 <= u1.heap.size := by omega
 clear hsz1 hsz0
 replace hx := (hoth1 w.heap.size (by omega)).trans hx
 replace hy := (hoth1 (w.heap.size + 1) (by omega)).trans hy
 replace ho1 := Zak ho1 (by omega) hoth1
 replace hB := hB.trans (hbl1.mono (by omega))
 replace hv := hn1
 clear hn1 hbl1 hoth1
 have k9 : u1.cell? ⟨w.heap.size, 0 + 9, none⟩ = some (.slice ab bx.length cb) := cell_of_row u1 _ 9 _ _ _ hx
 go_wp2_with fail
 refine (Zcf _ bx _ (Rb.below hB) hmb).mono ?_
 rintro e w2 ⟨v2, rfl, ho2, hb⟩
 obtain ⟨ao2, cap2, rfl⟩ := Zae ho2
 replace ho2 := Zaf (B' := w.heap.size + 3) ho2 (by omega)
 have hs2 := hb.size
 replace hx := (bb hx hb)
 replace hy := (bb hy hb)
 replace hv := (bb hv hb)
 replace ho1 := Zad ho1 hb
 replace hB := hB.trans (hb.mono hB.size)
 clear hb k9
 go_wp2_with (refine Zaa rfl 54 _ _ rfl (w.heap.size + 2) 9 (.slice ao2 bx.length cap2) #[.slice ao2 bx.length cap2] rfl rfl rfl rfl 83 #[.int .i64 i, .slice ao1 xs.length cap1, .int .i64 m.p, .int .i64 m.s, .int .i64 m.e, .int .i64 m.d, .int .i64 m.t, .int .i64 m.q, .int .i64 m.r, .slice none 0 0, .slice none 0 0] #[.int .i64 i, .slice ao1 xs.length cap1, .int .i64 m.p, .int .i64 m.s, .int .i64 m.e, .int .i64 m.d, .int .i64 m.t, .int .i64 m.q, .int .i64 m.r, .slice ao2 bx.length cap2, .slice none 0 0] hv (by simp) (by kernel_rfl) rfl ?_)
 intro u2 hn2 hbl2 hsz2 hoth2
 have hs2' : w2.heap.size <= u2.heap.size := by omega
 clear hsz2
 replace hx := (hoth2 w.heap.size (by omega)).trans hx
 replace hy := (hoth2 (w.heap.size + 1) (by omega)).trans hy
 replace ho1 := Zak ho1 (by omega) hoth2
 replace ho2 := Zak ho2 (by omega) hoth2
 replace hB := hB.trans (hbl2.mono (by omega))
 replace hv := hn2
 clear hn2 hbl2 hoth2
 have k10 : u2.cell? ⟨w.heap.size, 0 + 10, none⟩ = some (.slice ac ox.length cc) := cell_of_row u2 _ 10 _ _ _ hx
 go_wp2_with fail
 refine (Zcf _ ox _ (Ro.below hB) hmo).mono ?_
 rintro e w3 ⟨v3, rfl, ho3, hb⟩
 obtain ⟨ao3, cap3, rfl⟩ := Zae ho3
 have hap : ∀ g, (Value.slice ao3 ox.length cap3).ownBlock = some g -> (Value.slice ao2 bx.length cap2).ownBlock ≠ some g := fun g hg e => by
  have h1 := (ho2.lt g e).2
  have h2 := (ho3.lt g hg).1
  omega
 replace ho3 := Zaf (B' := w.heap.size + 3) ho3 (by omega)
 have hs3 := hb.size
 replace hx := (bb hx hb)
 replace hy := (bb hy hb)
 replace hv := (bb hv hb)
 replace ho1 := Zad ho1 hb
 replace ho2 := Zad ho2 hb
 replace hB := hB.trans (hb.mono hB.size)
 clear hb k10
 go_wp2_with (refine Zaa rfl 54 _ _ rfl (w.heap.size + 2) 10 (.slice ao3 ox.length cap3) #[.slice ao3 ox.length cap3] rfl rfl rfl rfl 83 #[.int .i64 i, .slice ao1 xs.length cap1, .int .i64 m.p, .int .i64 m.s, .int .i64 m.e, .int .i64 m.d, .int .i64 m.t, .int .i64 m.q, .int .i64 m.r, .slice ao2 bx.length cap2, .slice none 0 0] #[.int .i64 i, .slice ao1 xs.length cap1, .int .i64 m.p, .int .i64 m.s, .int .i64 m.e, .int .i64 m.d, .int .i64 m.t, .int .i64 m.q, .int .i64 m.r, .slice ao2 bx.length cap2, .slice ao3 ox.length cap3] hv (by simp) (by kernel_rfl) rfl ?_)
 intro u3 hn3 hbl3 hsz3 hoth3
 clear hsz3
 replace hx := (hoth3 w.heap.size (by omega)).trans hx
 replace hy := (hoth3 (w.heap.size + 1) (by omega)).trans hy
 replace ho1 := Zak ho1 (by omega) hoth3
 replace ho2 := Zak ho2 (by omega) hoth3
 replace ho3 := Zak ho3 (by omega) hoth3
 replace hB := hB.trans (hbl3.mono (by omega))
 replace hv := hn3
 clear hn3 hbl3 hoth3
 go_wp2_with (first
  | (refine wpList_load_row rfl 83 _ rfl (w.heap.size + 2) rfl 83 #[.int .i64 i, .slice ao1 xs.length cap1, .int .i64 m.p, .int .i64 m.s, .int .i64 m.e, .int .i64 m.d, .int .i64 m.t, .int .i64 m.q, .int .i64 m.r, .slice ao2 bx.length cap2, .slice ao3 ox.length cap3] (0, 0) _ hv Tryz.underlying83 rfl Zma ?_)
  | (refine Zac rfl 83 _ _ rfl (w.heap.size + 1) #[.int .i64 i, .slice ao1 xs.length cap1, .int .i64 m.p, .int .i64 m.s, .int .i64 m.e, .int .i64 m.d, .int .i64 m.t, .int .i64 m.q, .int .i64 m.r, .slice ao2 bx.length cap2, .slice ao3 ox.length cap3] rfl rfl 83 #[.int .i64 0, .slice none 0 0, .int .i64 0, .int .i64 0, .int .i64 0, .int .i64 0, .int .i64 0, .int .i64 0, .int .i64 0, .slice none 0 0, .slice none 0 0] hy Zma rfl (by simp [Value.oneCell']) ?_))
 intro w9 hh9 hb9 hs9 hoth9
 have p1 := Zaf (B' := w.heap.size) (Zak ho1 (by omega) hoth9) (by omega)
 have p2 := Zaf (B' := w.heap.size) (Zak ho2 (by omega) hoth9) (by omega)
 have p3 := Zaf (B' := w.heap.size) (Zak ho3 (by omega) hoth9) (by omega)
 have hB9 : Below w.heap.size w w9 := hB.trans (hb9.mono (by omega))
 go_wp2
 exact bodyPost_ret (results_cell_row rfl _ _ (w.heap.size + 1) 83 _ (0, 0) _ rfl hh9 Tryz.underlying83 rfl Zma) rfl ⟨_, _, _, rfl, p1, p2, p3, hap, hB9⟩
structure Pc where
 n : Int
 s : ByteArray
def Pc.cs (x : Pc) : List Value := [.int .i64 x.n, .string x.s]
def pccs (xs : List Pc) : List Value := xs.flatMap Pc.cs
theorem Zdb (x : Pc) (xs : List Pc) : pccs (x :: xs) = x.cs ++ pccs xs := rfl
theorem Zdh (xs : List Pc) : (pccs xs).length = xs.length * 2 := by
 induction xs with
 | nil => rfl
 | cons x xs ih => rw [Zdb, List.length_append, ih, List.length_cons]; simp [Pc.cs]; omega
theorem ZgJ (xs : List Pc) (i : Nat) (x : Pc) (h : xs[i]? = some x) (j : Nat) (hj : j < 2) : (pccs xs)[i * 2 + j]? = x.cs[j]? := by
 induction xs generalizing i with
 | nil => simp at h
 | cons y ys ih =>
  rw [Zdb]
  cases i with
  | zero =>
   simp at h; subst h
   rw [Nat.zero_mul, Nat.zero_add, List.getElem?_append_left (by simpa [Pc.cs] using hj)]
  | succ i =>
   rw [List.getElem?_append_right (by simp [Pc.cs]; omega)]
   rw [show (i + 1) * 2 + j - y.cs.length = i * 2 + j by simp [Pc.cs]; omega]
   exact ih i (by simpa using h)
theorem ZgO (xs : List Pc) (i : Nat) (x x' : Pc) (h : xs[i]? = some x) (j : Nat) (hj : j < 2) (u : Value) (e : x.cs.set j u = x'.cs) : (pccs xs).set (i * 2 + j) u = pccs (xs.set i x') := by
 induction xs generalizing i with
 | nil => simp at h
 | cons y ys ih =>
  rw [Zdb]
  cases i with
  | zero =>
   simp at h; subst h
   rw [Nat.zero_mul, Nat.zero_add, List.set_append_left _ _ (by simpa [Pc.cs] using hj), e]
   rfl
  | succ i =>
   rw [List.set_append_right _ _ (by simp [Pc.cs]; omega)]
   rw [show (i + 1) * 2 + j - y.cs.length = i * 2 + j by simp [Pc.cs]; omega, ih i (by simpa using h)]
   rfl
theorem Zis (xs : List Pc) (i : Nat) (x x' : Pc) (h : xs[i]? = some x) (u : Value) (e : x.cs.set 0 u = x'.cs) : (pccs xs).set (i * 2) u = pccs (xs.set i x') :=
 ZgO xs i x x' h 0 (by omega) u e
theorem Pc.one (x : Pc) : ∀ u ∈ x.cs, u.oneCell' = true := by
 intro u hu
 simp only [Pc.cs, List.mem_cons, List.not_mem_nil, or_false] at hu
 rcases hu with rfl | rfl <;> rfl
def PcAt (w : World) (g o : Nat) (x : Pc) : Prop :=
 w.cell? ⟨g, o, none⟩ = some (.int .i64 x.n) /\ w.cell? ⟨g, o + 1, none⟩ = some (.string x.s)
theorem PcAt.below {w w' : World} {g o B : Nat} {x : Pc} (h : PcAt w g o x) (hb : Below B w w') (hg : g < B) : PcAt w' g o x :=
 ⟨(hb.cell (p := ⟨g, o, none⟩) hg).trans h.1, (hb.cell (p := ⟨g, o + 1, none⟩) hg).trans h.2⟩
def PcRow (w : World) (v : Value) (xs : List Pc) : Prop :=
 ∃ ao cap, v = .slice ao xs.length cap /\ (xs.length <= cap /\ (ao = none -> cap = 0)) /\ xs.length <= 9223372036854775807 /\ (∀ x ∈ xs, x.s.size <= maxLen) /\
  (xs ≠ [] -> ∃ g o, ao = some ⟨g, o, none⟩ /\ g < w.heap.size /\ ∀ i x, xs[i]? = some x -> PcAt w g (o + i * 2) x)
theorem PcRow.small {w : World} {v : Value} {xs : List Pc} (R : PcRow w v xs) : ∃ ao cap, v = .slice ao xs.length cap := by
 obtain ⟨ao, cap, rfl, _⟩ := R
 exact ⟨ao, cap, rfl⟩
theorem PcRow.below {w w' : World} {v : Value} {xs : List Pc} (h : PcRow w v xs) (hb : Below w.heap.size w w') : PcRow w' v xs := by
 obtain ⟨ao, cap, rfl, hc, hm, hz, hcell⟩ := h
 refine ⟨ao, cap, rfl, hc, hm, hz, fun hne => ?_⟩
 obtain ⟨g, o, rfl, hg, hcell⟩ := hcell hne
 exact ⟨g, o, rfl, Nat.lt_of_lt_of_le hg hb.size, fun i x hi => (hcell i x hi).below hb hg⟩
theorem PcRow.of_own {w : World} {base : Nat} {v : Value} {xs : List Pc} (h : w.ownsRow base 91 2 v xs.length (pccs xs)) (hm : xs.length <= 9223372036854775807) (hz : ∀ x ∈ xs, x.s.size <= maxLen) : PcRow w v xs := by
 rcases h.2 with ⟨rfl, h0⟩ | ⟨g, cap, cur, rfl, hb, hg, hnc, hcm, hcs, htake⟩
 ·have : xs = [] := List.eq_nil_of_length_eq_zero h0
  subst this
  exact ⟨none, 0, rfl, by simp, by simp, by simp, fun h => absurd rfl h⟩
 ·refine ⟨_, cap, rfl, ⟨hnc, fun h => by cases h⟩, hm, hz, fun _ => ⟨g, 0, rfl, (bl hg), fun i x hi => ?_⟩⟩
  have hl : i < xs.length := (List.getElem?_eq_some_iff.1 hi).1
  have e : ∀ j, j < 2 -> w.cell? ⟨g, 0 + i * 2 + j, none⟩ = x.cs[j]? := fun j hj => by
   have := h.cellAt (i * 2 + j) (by omega)
   rw [Nat.zero_add, this, ZgJ xs i x hi j hj]
  exact ⟨e 0 (by omega), e 1 (by omega)⟩
theorem Zmq : (Tryz.prog.info? 91).map (fun i => (i.zero, i.size, i.bytes)) = some (some (.agg #[.int .i64 0, .string ByteArray.empty]), 2, 24) := by kernel_rfl
theorem Zmk : (Tryz.prog.info? 91).map (·.size) = some 2 := by kernel_rfl
theorem Zdt {ops : Array Oper} {rest : List Oper} {op : Oper} {a : Act} {w : World} {Q : Exit -> Act -> World -> Prop} (hgd : op.guard = none) (x y : Operand) (ho : op.op = .store 91 x y)
  (base g i cap : Nat) (xs : List Pc) (nd : Pc) (hx : a.eval x = .pointer (some ⟨g, i * 2, none⟩)) (hy : a.eval y = .agg #[.int .i64 nd.n, .string nd.s])
  (hi : i < xs.length) (hown : w.ownsRow base 91 2 (.slice (some ⟨g, 0, none⟩) xs.length cap) xs.length (pccs xs))
  (h : ∀ w2 : World, w2.ownsRow base 91 2 (.slice (some ⟨g, 0, none⟩) xs.length cap) xs.length (pccs (xs.set i nd)) -> w.grownBy w2 (some g) -> wpList Tryz.prog ops Q rest (a.put op.dst undef) w2) : wpList Tryz.prog ops Q (op :: rest) a w := by
 have ht : w.there g (i * 2) 2 := fun j hj => by
  have := hown.cellAt (i * 2 + j) (by omega)
  refine ⟨?_, hown.frozenAt _⟩
  rw [this, List.getElem?_eq_getElem (by rw [Zdh]; omega)]
  rfl
 refine wpList_store_mid hgd 91 x y ho g (i * 2) _ hx hy ht Zmk (all_oneCell_toArray nd.one) ?_
 have e0 : xs[i]? = some xs[i] := List.getElem?_eq_getElem hi
 have get : ∀ y : Pc, (xs.set i y)[i]? = some y := fun y => by simp [hi]
 have s0 := hown.stored (i * 2) (.int .i64 nd.n)
 rw [Zis xs i xs[i] ⟨nd.n, xs[i].s⟩ e0 _ rfl] at s0
 have s1 := s0.1.stored (i * 2 + 1) (.string nd.s)
 rw [ZgO (xs.set i ⟨nd.n, xs[i].s⟩) i ⟨nd.n, xs[i].s⟩ ⟨nd.n, nd.s⟩ (get _) 1 (by omega) (.string nd.s) rfl, List.set_set] at s1
 exact h _ s1.1 (s0.2.trans s1.2)
theorem ZgG (x : Pc) (w : World) :
  Calls Tryz.prog 136 #[.agg #[.int .i64 x.n, .string x.s]] w fun e w' => e = .returned (.agg #[.int .i64 x.n, .string x.s]) /\ Below w.heap.size w w' := by
 go_enter Tryz.func136, Tryz.ntmps136
 go_wp2
 exact bodyPost_ret (results_cell_row rfl _ _ (w.heap.size + 1) 91 _ (0, 0) _ rfl ((heap_alloc_old _ _ (by simp)).trans (heap_alloc2_new _ _ _)) Tryz.underlying91 rfl Zmk) rfl
  ⟨rfl, (((Below.refl _ _).alloc (Nat.le_refl _) _).alloc (by simp) _).alloc (by simp; omega) _⟩
theorem ZgL (x : Pc) (l : Int) (w : World) (hs : x.s.size <= maxLen) (hl : 0 <= l) (hl2 : l <= 1048576) :
  Calls Tryz.prog 124 #[.agg #[.int .i64 x.n, .string x.s], .int .i64 l] w fun e w' => e = .returned (.int .i64 (less l x.s.size)) /\ Below w.heap.size w w' := by
 unfold maxLen at hs
 go_enter Tryz.func124, Tryz.ntmps124
 by_cases h : l < x.s.size
 ·have HL : Hid (less l x.s.size = -1) := by unfold Hid less; rw [if_pos h]
  go_wp2
  go_ret
  exact ⟨by rw [HL.out]; rfl, (Below.refl _ _).alloc (Nat.le_refl _) _⟩
 ·have HL : Hid (less l x.s.size = l - x.s.size) := by unfold Hid less; rw [if_neg h]
  go_wp2
  go_ret
  exact ⟨by rw [HL.out]; rfl, (Below.refl _ _).alloc (Nat.le_refl _) _⟩
theorem ZgA (x : Pc) (w : World) :
  Calls Tryz.prog 142 #[.agg #[.int .i64 x.n, .string x.s], .agg #[.int .i64 x.n, .string x.s]] w fun e w' => e = .returned (.bool true) /\ Below w.heap.size w w' := by
 go_enter Tryz.func142, Tryz.ntmps142
 go_wp2
 go_ret
 exact ⟨rfl, ((Below.refl _ _).alloc (Nat.le_refl _) _).alloc (by simp) _⟩
def Zfb : Pc := ⟨0, ByteArray.empty⟩
def ZaJ (xs : List Pc) (j : Nat) : List Pc := xs.take j ++ List.replicate (xs.length - j) Zfb
theorem ZdA (xs : List Pc) (j : Nat) (h : j <= xs.length) : (ZaJ xs j).length = xs.length := by simp [ZaJ]; omega
theorem Zet (xs : List Pc) : ZaJ xs xs.length = xs := by simp [ZaJ]
theorem Zh0 (n : Nat) : pccs (List.replicate n Zfb) = (madeCells #[Value.int .i64 0, .string ByteArray.empty] (n * 2)).toList := by
 apply List.ext_getElem?
 intro j
 by_cases hj : j < n * 2
 ·have hq : j / 2 < n := by omega
  rw [show j = j / 2 * 2 + j % 2 by omega, ZgJ _ (j / 2) Zfb (by simp [hq]) (j % 2) (by omega)]
  rw [show j / 2 * 2 + j % 2 = j by omega]
  have h5 : j % 2 = 0 \/ j % 2 = 1 := by omega
  rcases h5 with h5 | h5 <;> simp [madeCells, hj, h5, Zfb, Pc.cs]
 ·rw [List.getElem?_eq_none (by rw [Zdh, List.length_replicate]; omega), List.getElem?_eq_none (by simp [madeCells]; omega)]
theorem ZeD (xs : List Pc) : pccs (ZaJ xs 0) = (madeCells #[Value.int .i64 0, .string ByteArray.empty] (xs.length * 2)).toList := by
 rw [<- Zh0]; simp [ZaJ]
theorem ZfF (xs : List Pc) (j : Nat) (h : j < xs.length) : (ZaJ xs j).set j xs[j] = ZaJ xs (j + 1) := by
 unfold ZaJ
 rw [show xs.length - j = xs.length - (j + 1) + 1 by omega, List.replicate_succ, List.take_succ_eq_append_getElem h]
 rw [List.set_append_right _ _ (by simp; omega)]
 have e : j - (List.take j xs).length = 0 := by simp; omega
 rw [e, List.set_cons_zero, List.append_assoc]
 rfl
theorem Zjc (v : Value) (xs : List Pc) (w : World) (R : PcRow w v xs) (hm : xs.length <= 2097152) :
  Calls Tryz.prog 135 #[v] w fun e w' => ∃ v', e = .returned v' /\ w'.ownsRow w.heap.size 91 2 v' xs.length (pccs xs) /\ Below w.heap.size w w' := by
 obtain ⟨ao, cap, rfl, hcap, _, hz, hcell⟩ := R
 obtain ⟨i0, hi, hz0, hz1, hz2⟩ := info_parts Zmq
 have hbytes : i0.bytes * xs.length <= 281474976710656 := by rw [hz2]; omega
 have hmax : xs.length <= maxLen := by unfold maxLen; omega
 go_enter Tryz.func135, Tryz.ntmps135
 go_wp2_with (at_make; refine wpList_make_full _ rfl _ _ 86 rfl w.heap.size 91 i0 _ 2 Tryz.underlying86 hi hz0 hz1 _ _ _ _ xs.length rfl rfl rfl rfl hbytes hmax (Nat.le_refl _) ?_)
 intro w1 hown hgrow
 have hbel : Below w.heap.size w w1 := (Below.refl _ _).grown hgrow (Nat.le_refl _) (by intro k hk; cases hk)
 clear hgrow
 go_wp2
 go_loopw [4] (fun i wr => ∃ j : Nat, j <= xs.length /\ i = .int .i64 j /\ wr.ownsRow w.heap.size 91 2 (.slice (some ⟨w.heap.size, 0, none⟩) xs.length xs.length) xs.length (pccs (ZaJ xs j)) /\ Below w.heap.size w wr) (fun i _ => xs.length - (intOf i).toNat)
 case atStart => exact ⟨0, by omega, rfl, by rw [ZeD]; exact hown, hbel⟩
 case round =>
  clear hown hbel hbytes hmax
  obtain ⟨j, hj, rfl, hown, hbel⟩ := hrel
  by_cases hlt : j < xs.length
  ·obtain ⟨g, o, rfl, hg, hcell⟩ := hcell (by intro e; subst e; simp at hlt)
   obtain ⟨c0, c1⟩ := (hcell j xs[j] (by simp [hlt])).below hbel hg
   have HC := ZdA xs j hj
   clear hcell
   go_wp2_with fail
   refine (ZgG xs[j] _).mono ?_
   rintro e w2 ⟨rfl, hb2⟩
   have hown2 : w2.ownsRow w.heap.size 91 2 (.slice (some ⟨w.heap.size, 0, none⟩) (ZaJ xs j).length xs.length) (ZaJ xs j).length (pccs (ZaJ xs j)) := by
    rw [HC]; exact Zad hown hb2
   have hB2 := hbel.trans (hb2.mono hbel.size)
   clear c0 c1 hown hb2 hbel
   go_wp2_with (refine Zdt rfl _ _ rfl w.heap.size w.heap.size j xs.length (ZaJ xs j) xs[j] rfl rfl (by omega) hown2 ?_)
   intro w3 hown3 hg3
   rw [ZfF xs j hlt] at hown3
   have hB3 : Below w.heap.size w w3 := hB2.grown hg3 hB2.size (fun k hk => by simp at hk; omega)
   clear hown2 hg3
   go_wp2
   go_roundw
   case rel => exact ⟨j + 1, by omega, by go_num, hown3, hB3⟩
   case measure => simp [intOf]; omega
  ·go_wp2
   go_ret
   have : j = xs.length := by omega
   subst this
   rw [Zet] at hown
   exact ⟨_, rfl, hown, hbel⟩
theorem Zjz (v : Value) (xs : List Pc) (l : Int) (w : World) (R : PcRow w v xs) (hl0 : 0 <= l) (hl1 : l <= 1048576) :
  Calls Tryz.prog 123 #[v, .int .i64 l] w fun e w' => ∃ r : Int, e = .returned (.int .i64 r) /\ -1 <= r /\ r <= 1048576 /\ (0 <= r -> xs.length <= 1048576 /\ ∀ x ∈ xs, x.s.size <= 1048576) /\ Below w.heap.size w w' := by
 obtain ⟨ao, cap, rfl, hcap, hm, hz, hcell⟩ := R
 by_cases hlen : (xs.length : Int) <= l
 ·go_enter Tryz.func123, Tryz.ntmps123
  go_wp2
  go_loopw [1, 5] (fun l i wr => ∃ (k : Nat) (r : Int), k <= xs.length /\ i = .int .i64 k /\ l = .int .i64 r /\ 0 <= r /\ r <= 1048576 /\ Hid (∀ j x, xs[j]? = some x -> j < k -> x.s.size <= 1048576) /\ Below w.heap.size w wr) (fun _ i _ => xs.length - (intOf i).toNat)
  case atStart => exact ⟨0, _, by omega, rfl, rfl, by omega, by omega, fun j x _ h => by omega, Below.refl _ _⟩
  case round =>
   obtain ⟨k, r, hk, rfl, rfl, hr0, hr1, HA, hb⟩ := hrel
   by_cases hlt : k < xs.length
   ·obtain ⟨g, o, rfl, hg, hcell⟩ := hcell (by intro e; subst e; simp at hlt)
    obtain ⟨x, hx⟩ : ∃ x, xs[k]? = some x := ⟨xs[k], by simp [hlt]⟩
    obtain ⟨c0, c1⟩ := (hcell k x hx).below hb hg
    have hxs := hz x (List.mem_of_getElem? hx)
    have HX : Hid (xs[k]? = some x) := hx
    clear hcell hx
    go_wp2_with fail
    refine (ZgL x _ _ hxs hr0 hr1).mono ?_
    rintro e w2 ⟨rfl, hb2⟩
    have hB2 := hb.trans (hb2.mono hb.size)
    clear c0 c1 hb2
    by_cases hl : r < x.s.size
    ·rw [less, if_pos hl]
     go_wp2
     go_ret
     exact ⟨-1, rfl, by omega, by omega, fun h => by omega, hB2⟩
    ·rw [less, if_neg hl]
     go_wp2
     go_roundw
     case rel =>
      refine ⟨k + 1, _, by omega, by go_num, rfl, by omega, by omega, fun j y hy hj => ?_, hB2⟩
      by_cases e : j = k
      ·subst e
       rw [HX.out] at hy
       cases hy
       omega
      ·exact HA.out j y hy (by omega)
     case measure => simp [intOf]; omega
   ·go_wp2
    go_ret
    refine ⟨r, rfl, by omega, by omega, fun _ => ⟨by omega, fun x hx => ?_⟩, hb⟩
    obtain ⟨j, hj, e⟩ := List.getElem_of_mem hx
    exact HA.out j x (by rw [<- e]; simp [hj]) (by omega)
 ·go_enter Tryz.func123, Tryz.ntmps123
  go_wp2
  go_ret
  exact ⟨-1, rfl, by omega, by omega, fun h => by omega, Below.refl _ _⟩
theorem Zjj (va vb : Value) (xs : List Pc) (w : World) (Ra : PcRow w va xs) (Rb : PcRow w vb xs) :
  Calls Tryz.prog 141 #[va, vb] w fun e w' => e = .returned (.bool true) /\ Below w.heap.size w w' := by
 obtain ⟨aa, ca, rfl, hca, hm, hz, hcella⟩ := Ra
 obtain ⟨ab, cb, rfl, hcb, _, _, hcellb⟩ := Rb
 have hn : ((xs.length : Int) != (xs.length : Int)) = false := by simp
 go_enter Tryz.func141, Tryz.ntmps141
 go_wp2
 go_loopw [5] (fun i wr => ∃ k : Nat, k <= xs.length /\ i = .int .i64 k /\ Below w.heap.size w wr) (fun i _ => xs.length - (intOf i).toNat)
 case atStart => exact ⟨0, by omega, rfl, Below.refl _ _⟩
 case round =>
  obtain ⟨k, hk, rfl, hb⟩ := hrel
  by_cases hlt : k < xs.length
  ·obtain ⟨ga, oa, rfl, hga, hcella⟩ := hcella (by intro e; subst e; simp at hlt)
   obtain ⟨gb, ob, rfl, hgb, hcellb⟩ := hcellb (by intro e; subst e; simp at hlt)
   obtain ⟨x, hx⟩ : ∃ x, xs[k]? = some x := ⟨xs[k], by simp [hlt]⟩
   obtain ⟨c0, c1⟩ := (hcella k x hx).below hb hga
   obtain ⟨d0, d1⟩ := (hcellb k x hx).below hb hgb
   clear hcella hcellb hx
   go_wp2_with fail
   go_region_with (go_at_call 142; refine (ZgA x _).mono ?_; rintro e w2 ⟨rfl, hb2⟩)
   all_goals
    have hB2 : Below w.heap.size w w2 := hb.drew.trans (hb2.mono hb.size)
    clear c0 c1 d0 d1 hb2
    go_wp2
    go_roundw
    case rel => exact ⟨k + 1, by omega, by go_num, hB2⟩
    case measure => simp [intOf]; omega
  ·go_wp2
   go_ret
   exact ⟨rfl, hb⟩
def pmk (k : Int) : Pc := ⟨k, mt (k + 1)⟩
def Zk9 (k : Int) (xs : List Pc) (i : Nat) : List Pc := (List.range i).map (fun (j : Nat) => pmk (k + 2 * (j : Int))) ++ xs.drop i
end Go.Proofs.YtfmafkebddojjaaGreatDoor
