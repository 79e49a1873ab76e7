/-
  Texts that stood by themselves, laid into one.
-/
import Derived.Test.YtfmafkebddojjaaGreatDoorBsM
import Derived.Test.YtfmafkebddojjaaGreatDoorLMakeM
import Derived.Test.YtfmafkebddojjaaGreatDoorPcMarkM
import Derived.Test.YtfmafkebddojjaaGreatDoorMRgM
import Derived.Test.YtfmafkebddojjaaGreatDoorSPd2M
import Derived.Test.YtfmafkebddojjaaGreatDoorSMRdM
import Derived.Test.YtfmafkebddojjaaGreatDoorXRM
import Derived.Test.YtfmafkebddojjaaGreatDoorInM
import Derived.Test.YtfmafkebddojjaaGreatDoorSMlRM
/-
  A machine's variable (VarM), and the contracts of the laws' helpers markMachine and heldMachine. No condition.
-/
set_option maxRecDepth 100000
set_option maxHeartbeats 12800000
namespace Go.Proofs.YtfmafkebddojjaaGreatDoor
open Go.RowKit
def VarM (w : World) (b lo hi : Nat) (v : Value) (xs : List Nd) (m : Mc) : Prop :=
 w.heap[b]? = some (.cells #[v, .int .i64 m.p, .int .i64 m.s, .int .i64 m.e, .int .i64 m.d, .int .i64 m.t, .int .i64 m.q, .int .i64 m.r] 81 (0, 0)) /\ w.ownsRow lo 210 5 v xs.length (ncs xs) /\ (∀ k, v.ownBlock = some k -> k < hi) /\ hi <= w.heap.size
structure VarPr (w : World) (b lo hi : Nat) (v vb vo : Value) (i : Int) (xs : List Nd) (m : Mc) (bx ox : List ByteArray) : Prop where
 blk : w.heap[b]? = some (.cells #[.int .i64 i, v, .int .i64 m.p, .int .i64 m.s, .int .i64 m.e, .int .i64 m.d, .int .i64 m.t, .int .i64 m.q, .int .i64 m.r, vb, vo] 83 (0, 0))
 o1 : w.ownsRow lo 210 5 v xs.length (ncs xs)
 o2 : w.ownsRow lo 9 1 vb bx.length (stv bx)
 o3 : w.ownsRow lo 9 1 vo ox.length (stv ox)
 t1 : ∀ k, v.ownBlock = some k -> k < hi
 t2 : ∀ k, vb.ownBlock = some k -> k < hi
 t3 : ∀ k, vo.ownBlock = some k -> k < hi
 ap : ∀ g, vo.ownBlock = some g -> vb.ownBlock ≠ some g
 top : hi <= w.heap.size
section
variable {w w' : World} {b lo hi : Nat} {v vb vo : Value} {i : Int} {xs : List Nd} {m : Mc} {bx ox : List ByteArray}
end
def PdS (B : Nat) (T : Int × List Nd × Mc × List ByteArray × List ByteArray × Bool) (e : Ending) (w' : World) : Prop :=
 ∃ (I : Int) (X : List Nd) (M : Mc) (BX OX : List ByteArray) (ok : Bool) (y1 y2 y3 : Value), T = (I, X, M, BX, OX, ok) /\ e = .returned (.tuple #[.agg #[.int .i64 I, y1, .int .i64 M.p, .int .i64 M.s, .int .i64 M.e, .int .i64 M.d, .int .i64 M.t, .int .i64 M.q, .int .i64 M.r, y2, y3], .bool ok]) /\ w'.ownsRow B 210 5 y1 X.length (ncs X) /\ w'.ownsRow B 9 1 y2 BX.length (stv BX) /\ w'.ownsRow B 9 1 y3 OX.length (stv OX)
theorem Zi0 {zs : List Int} {a c : Int} {k kk : Bool} {ts : List ByteArray} (h : tsL zs (num8 zs a k).1.toNat [] (num8 zs a k).2.1 (num8 zs a k).2.2 = (ts, c, kk)) : (kk = true -> k = true /\ rdTL zs a = some (ts, c)) /\ (kk = false -> k = true -> rdTL zs a = none) := by
 cases k with
 | false =>
  rw [Zbq] at h
  simp only [ZcF, Prod.mk.injEq] at h
  obtain ⟨_, _, rfl⟩ := h
  exact ⟨fun h => (by cases h), fun _ h => (by cases h)⟩
 | true =>
  unfold rdTL
  cases h1 : rd1 zs a with
  | none =>
   rw [ZaA h1] at h
   simp only [ZcF, Prod.mk.injEq] at h
   obtain ⟨_, _, rfl⟩ := h
   exact ⟨fun h => (by cases h), fun _ _ => rfl⟩
  | some p =>
   rw [(ZaG zs a).2 p h1] at h
   simp only at h
   obtain ⟨i1, i2⟩ := ZkJ zs p.1.toNat [] p.2
   simp only [Option.bind_some]
   cases h2 : rdTs zs p.1.toNat p.2 with
   | none =>
    have := i2 h2
    rw [h] at this
    simp only at this
    subst this
    exact ⟨fun h => (by cases h), fun _ _ => rfl⟩
   | some q =>
    rw [i1 q h2] at h
    simp only [List.nil_append, Prod.mk.injEq] at h
    obtain ⟨rfl, rfl, rfl⟩ := h
    exact ⟨fun _ => ⟨trivial, rfl⟩, fun h => (by cases h)⟩
theorem ZkU {ns : List Nd} {is : List In} {ds : List Df} {zs : List Int} {i a1 a2 a3 a4 : Int} {k1 k2 k3 k4 : Bool} {tx : ByteArray} {ts os : List ByteArray} (h1 : num8 zs 0 true = (i, a1, k1)) (h2 : txt8 zs a1 k1 = (tx, a2, k2)) (h3 : tsL zs (num8 zs a2 k2).1.toNat [] (num8 zs a2 k2).2.1 (num8 zs a2 k2).2.2 = (ts, a3, k3)) (h4 : tsL zs (num8 zs a3 k3).1.toNat [] (num8 zs a3 k3).2.1 (num8 zs a3 k3).2.2 = (os, a4, k4)) :
  (pdR ns is ds zs = if k4 && decide (a4 = zs.length) then (mrR ns is ds (sb tx)).bind fun r => if ZbJ ns is ds i r.1 r.2 ts os then some (i, r, ts, os) else none else none) /\ (k4 = true -> (∀ x ∈ ts, x.size <= zs.length) /\ ∀ x ∈ os, x.size <= zs.length) := by
 obtain ⟨F3, G3⟩ := Zi0 h3
 obtain ⟨F4, G4⟩ := Zi0 h4
 have end' : ∀ {a : Int} {q : List ByteArray × Int}, rdTL zs a = some q -> ∀ x ∈ q.1, x.size <= zs.length := fun h => by
  unfold rdTL at h
  rw [Option.bind_eq_some_iff] at h
  obtain ⟨p, h2, h3⟩ := h
  exact (Zer (Za5 h2).2.2.2 h3).2
 unfold pdR
 cases hr : rd1 zs 0 with
 | none =>
  rw [ZaA hr] at h1
  simp only [Prod.mk.injEq] at h1
  obtain ⟨_, _, rfl⟩ := h1
  have : k2 = false := by unfold txt8 at h2; simp at h2; exact h2.2.2
  subst this
  have : k3 = false := by cases k3 with | false => rfl | true => exact absurd (F3 rfl).1 (by simp)
  subst this
  have : k4 = false := by cases k4 with | false => rfl | true => exact absurd (F4 rfl).1 (by simp)
  subst this
  exact ⟨rfl, fun h => (by cases h)⟩
 | some p =>
  rw [(ZaG zs 0).2 p hr] at h1
  simp only [Prod.mk.injEq] at h1
  obtain ⟨rfl, rfl, rfl⟩ := h1
  simp only [Option.bind_some]
  rw [Zf4] at h2
  cases ht : rt zs p.2 with
  | none =>
   rw [ht] at h2
   simp only [Prod.mk.injEq] at h2
   obtain ⟨_, _, rfl⟩ := h2
   have : k3 = false := by cases k3 with | false => rfl | true => exact absurd (F3 rfl).1 (by simp)
   subst this
   have : k4 = false := by cases k4 with | false => rfl | true => exact absurd (F4 rfl).1 (by simp)
   subst this
   exact ⟨rfl, fun h => (by cases h)⟩
  | some t =>
   rw [ht] at h2
   simp only [Prod.mk.injEq] at h2
   obtain ⟨rfl, rfl, rfl⟩ := h2
   simp only [Option.bind_some]
   cases k3 with
   | false =>
    rw [G3 rfl rfl]
    have : k4 = false := by cases k4 with | false => rfl | true => exact absurd (F4 rfl).1 (by simp)
    subst this
    exact ⟨rfl, fun h => (by cases h)⟩
   | true =>
    have e3 := (F3 rfl).2
    rw [e3]
    simp only [Option.bind_some]
    cases k4 with
    | false =>
     rw [G4 rfl rfl]
     exact ⟨rfl, fun h => (by cases h)⟩
    | true =>
     have e4 := (F4 rfl).2
     rw [e4]
     simp only [Option.bind_some, Bool.true_and, decide_eq_true_eq]
     exact ⟨trivial, fun _ => ⟨end' e3, end' e4⟩⟩
theorem Zeq {w w' : World} {b : Nat} {v : Value} {a : Int} {k : Bool} (h : C8 w b v a k) (hb : Below w.heap.size w w') : C8 w' b v a k := Zal h hb
theorem ZiX {w w' : World} {b g : Nat} {v : Value} {a : Int} {k : Bool} (h : C8 w b v a k) (hk : ∀ j, j ≠ g -> w'.heap[j]? = w.heap[j]?) (hn : b ≠ g) : C8 w' b v a k := (hk b hn).trans h
theorem ZeG (v1 v2 v3 : Value) (ns : List Nd) (is : List In) (ds : List Df) (s : ByteArray) (w : World) (R1 : NRow w v1 ns) (R2 : InRow w v2 is) (R3 : DfRow w v3 ds) (hs : s.size <= 1048576) :
  Calls Tryz.prog 96 #[.agg #[v1, v2, v3], .string s] w fun e w' => PaAns w.heap.size (pdT (pdR ns is ds (sb s))) e w' /\ Below w.heap.size w w' := by
 obtain ⟨a1, c1, rfl⟩ := R1.small
 obtain ⟨a2, c2, rfl⟩ := R2.small
 obtain ⟨a3, c3, rfl⟩ := R3.small
 have hsl := ZaF s
 have hwf := Zif s
 obtain ⟨hB2, z0, z1⟩ := Zat w (Obj.cells #[.slice a1 ns.length c1, .slice a2 is.length c2, .slice a3 ds.length c3] 44) (Obj.cells #[.int .i64 0, .slice none 0 0, .int .i64 0, .int .i64 0, .int .i64 0, .int .i64 0, .int .i64 0, .int .i64 0, .int .i64 0, .slice none 0 0, .slice none 0 0] 83)
 go_enter Tryz.func96, Tryz.ntmps96
 go_wp2_with (first
  | (refine Za7 _ rfl _ 9 162 5 rfl Tryz.underlying9 Tryz.underlying162 Tryz.underlying5 s rfl ?_; intro cap w2 g0 g1 g2 g3))
 obtain ⟨W2, hW2⟩ : ∃ W2, (w.alloc (Obj.cells #[.slice a1 ns.length c1, .slice a2 is.length c2, .slice a3 ds.length c3] 44)).alloc (Obj.cells #[.int .i64 0, .slice none 0 0, .int .i64 0, .int .i64 0, .int .i64 0, .int .i64 0, .int .i64 0, .int .i64 0, .int .i64 0, .slice none 0 0, .slice none 0 0] 83) = W2 := ⟨_, rfl⟩
 have hs2 : W2.heap.size = w.heap.size + 1 + 1 := by rw [<- hW2]; simp
 rw [hW2] at hB2 z0 z1 g1 g2 g3
 have RR := Zbj (w := W2) (by omega) g0 g1 g3
 rw [hs2] at RR g3
 have x0 := (g2.block _ (by omega) (by simp)).trans z0
 have x1 := (g2.block _ (by omega) (by simp)).trans z1
 have hB : Below w.heap.size w w2 := hB2.grown g2 hB2.size (fun k hk => by cases hk)
 clear hs2 g1 g2 hW2 hB2 z0 z1 g3 g0
 have hb := ZaE w2 (Obj.cells #[.slice (some ⟨w.heap.size + 1 + 1, 0, none⟩) s.size cap, .int .i64 0, .bool true] 197)
 have hC : C8 (w2.alloc (Obj.cells #[.slice (some ⟨w.heap.size + 1 + 1, 0, none⟩) s.size cap, .int .i64 0, .bool true] 197)) w2.heap.size (.slice (some ⟨w.heap.size + 1 + 1, 0, none⟩) s.size cap) 0 true := heap_alloc_new _ _
 have hW : Below w2.heap.size w2 (w2.alloc (Obj.cells #[.slice (some ⟨w.heap.size + 1 + 1, 0, none⟩) s.size cap, .int .i64 0, .bool true] 197)) := hb
 have l2 : w.heap.size + 1 < w2.heap.size := Zao x1
 replace x0 := Zal x0 hb
 replace x1 := Zal x1 hb
 replace hB := hB.trans (hb.mono hB.size)
 clear hb
 obtain ⟨u0, hu0⟩ : ∃ u, w2.alloc (Obj.cells #[.slice (some ⟨w.heap.size + 1 + 1, 0, none⟩) s.size cap, .int .i64 0, .bool true] 197) = u := ⟨_, rfl⟩
 rw [hu0] at hC hW x0 x1 hB ⊢
 clear hu0
 obtain ⟨V, hV⟩ : ∃ V, V = (Value.slice (some ⟨w.heap.size + 1 + 1, 0, none⟩) s.size cap) := ⟨_, rfl⟩
 rw [<- hV] at hC RR
 have HN := Zb5 w2.heap.size V (sb s) 0 true u0 (RR.below hW) hC (by omega) (by omega)
 have hm1 := Zd3 (zs := sb s) (a := 0) (ok := true) (by omega) (by omega)
 obtain ⟨nn, N1⟩ : ∃ n, num8 (sb s) 0 true = n := ⟨_, rfl⟩
 obtain ⟨i, p1, k1⟩ := nn
 rw [N1] at HN hm1
 simp only at HN hm1
 obtain ⟨_, _, m13, m14⟩ := hm1
 replace N1 : Hid (num8 (sb s) 0 true = (i, p1, k1)) := N1
 refine HN.mono ?_
 rintro e u1 ⟨rfl, hC, g⟩
 replace x0 := (g.block _ (Zao x0) (by simp; omega)).trans x0
 replace x1 := (g.block _ (Zao x1) (by simp; omega)).trans x1
 replace hB := hB.grown g hB.size (fun k hk => by cases hk; omega)
 replace hW := hW.grown g hW.size (fun k hk => by cases hk; omega)
 clear HN g
 go_wp2_with (refine Zac rfl 83 _ _ rfl u1.heap.size #[.int .i64 i, .slice none 0 0, .int .i64 0, .int .i64 0, .int .i64 0, .int .i64 0, .int .i64 0, .int .i64 0, .int .i64 0, .slice none 0 0, .slice none 0 0] rfl rfl 83 #[.int .i64 0, .slice none 0 0, .int .i64 0, .int .i64 0, .int .i64 0, .int .i64 0, .int .i64 0, .int .i64 0, .int .i64 0, .slice none 0 0, .slice none 0 0] (heap_alloc_new _ _) Zma rfl (by simp [Value.oneCell']) ?_)
 intro u2 hp hb2 hs2 hk2
 have hb : Below u1.heap.size u1 u2 := ((Below.refl _ _).alloc (Nat.le_refl _) _).trans hb2
 have lC : w2.heap.size < u1.heap.size := (bl hC)
 replace x0 := Zal x0 hb
 replace x1 := Zal x1 hb
 replace hB := hB.trans (hb.mono hB.size)
 replace hW := hW.trans (hb.mono hW.size)
 replace hC := Zeq hC hb
 clear hb hb2 hs2 hk2
 generalize u1.heap.size = bm at *
 have HT := ZcH w2.heap.size V (sb s) p1 k1 u2 (RR.below hW) hC (by omega) (by omega)
 have hm2 : ∀ tx p2 k2, txt8 (sb s) p1 k1 = (tx, p2, k2) -> 0 <= p2 /\ p2 <= (sb s).length /\ tx.size <= (sb s).length := fun tx p2 k2 h => by
  cases k1 with
  | false =>
   simp only [txt8, Bool.false_and, Bool.false_eq_true, if_false, Prod.mk.injEq] at h
   obtain ⟨rfl, rfl, _⟩ := h
   exact ⟨m13, m14, by simp [ByteArray.size]⟩
  | true =>
   have := Zd1 (zs := sb s) hwf m13 m14
   rw [h] at this
   exact ⟨this.1, this.2.1, this.2.2.2⟩
 obtain ⟨tt, N2⟩ : ∃ n, txt8 (sb s) p1 k1 = n := ⟨_, rfl⟩
 obtain ⟨tx, p2, k2⟩ := tt
 obtain ⟨m21, m22, m23⟩ := hm2 tx p2 k2 N2
 rw [N2] at HT
 simp only at HT
 replace N2 : Hid (txt8 (sb s) p1 k1 = (tx, p2, k2)) := N2
 clear hm2
 go_wp2_with fail
 refine HT.mono ?_
 rintro e u3 ⟨rfl, hC, g⟩
 replace x0 := (g.block _ (Zao x0) (by simp; omega)).trans x0
 replace x1 := (g.block _ (Zao x1) (by simp; omega)).trans x1
 replace hB := hB.grown g hB.size (fun k hk => by cases hk; omega)
 replace hW := hW.grown g hW.size (fun k hk => by cases hk; omega)
 replace hp := (g.block _ (Zao hp) (by simp; omega)).trans hp
 clear HT g
 go_wp2_with fail
 refine (ZdW w2.heap.size V (sb s) p2 k2 w2 u3 RR hW (Nat.le_refl _) hC m21 m22 hwf (by omega)).mono ?_
 rintro e u4 ⟨vb, ts, p3, k3, N3, rfl, ⟨m31, m32, m33⟩, hC, O2, g⟩
 obtain ⟨ab, cb, rfl⟩ := Zae O2
 have hlt2 : ∀ g, (Value.slice ab ts.length cb).ownBlock = some g -> g < u4.heap.size := fun g hg => (O2.lt g hg).2
 replace N3 : Hid (tsL (sb s) (num8 (sb s) p2 k2).1.toNat [] (num8 (sb s) p2 k2).2.1 (num8 (sb s) p2 k2).2.2 = (ts, p3, k3)) := N3
 replace O2 := Zaf (B' := bm + 1) O2 (by have := Zao hp; omega)
 replace x0 := (g.block _ (Zao x0) (by simp; omega)).trans x0
 replace x1 := (g.block _ (Zao x1) (by simp; omega)).trans x1
 replace hB := hB.grown g hB.size (fun k hk => by cases hk; omega)
 replace hW := hW.grown g hW.size (fun k hk => by cases hk; omega)
 replace hp := (g.block _ (Zao hp) (by simp; omega)).trans hp
 clear g
 go_wp2_with (refine Zaa rfl 54 _ _ rfl bm 9 (.slice ab ts.length cb) #[.slice ab ts.length cb] rfl rfl rfl rfl 83 #[.int .i64 i, .slice none 0 0, .int .i64 0, .int .i64 0, .int .i64 0, .int .i64 0, .int .i64 0, .int .i64 0, .int .i64 0, .slice none 0 0, .slice none 0 0] #[.int .i64 i, .slice none 0 0, .int .i64 0, .int .i64 0, .int .i64 0, .int .i64 0, .int .i64 0, .int .i64 0, .int .i64 0, .slice ab ts.length cb, .slice none 0 0] hp (by simp) (by kernel_rfl) rfl ?_)
 intro u5 hp5 hb5 hs5 hk5
 replace x0 := (hk5 _ (by omega)).trans x0
 replace x1 := (hk5 _ (by omega)).trans x1
 replace hC := ZiX hC hk5 (by omega)
 replace O2 := ZaC O2 (ZaR O2 hp (by decide)) hk5
 replace hB := hB.trans (hb5.mono (by omega))
 replace hW := hW.trans (hb5.mono (by omega))
 replace hp := hp5
 rw [<- hs5] at hlt2
 clear hp5 hb5 hs5 hk5
 go_wp2_with fail
 refine (ZdW w2.heap.size V (sb s) p3 k3 w2 u5 RR hW (Nat.le_refl _) hC m31 m32 hwf (by omega)).mono ?_
 rintro e u6 ⟨vo, os, p4, k4, N4, rfl, ⟨m41, m42, m43⟩, hC, O3, g⟩
 obtain ⟨ac, cc, rfl⟩ := Zae O3
 have AP : ∀ g, (Value.slice ac os.length cc).ownBlock = some g -> (Value.slice ab ts.length cb).ownBlock ≠ some g := fun g h3 h2 => by
  have k1 := (O3.lt g h3).1
  have k2 := hlt2 g h2
  omega
 clear hlt2
 replace N4 : Hid (tsL (sb s) (num8 (sb s) p3 k3).1.toNat [] (num8 (sb s) p3 k3).2.1 (num8 (sb s) p3 k3).2.2 = (os, p4, k4)) := N4
 replace O3 := Zaf (B' := bm + 1) O3 (by have := Zao hp; omega)
 replace x0 := (g.block _ (Zao x0) (by simp; omega)).trans x0
 replace x1 := (g.block _ (Zao x1) (by simp; omega)).trans x1
 replace hB := hB.grown g hB.size (fun k hk => by cases hk; omega)
 replace hW := hW.grown g hW.size (fun k hk => by cases hk; omega)
 replace hp := (g.block _ (Zao hp) (by simp; omega)).trans hp
 replace O2 := Zb9 O2 (by omega) g
 clear g
 go_wp2_with (refine Zaa rfl 54 _ _ rfl bm 10 (.slice ac os.length cc) #[.slice ac os.length cc] rfl rfl rfl rfl 83 #[.int .i64 i, .slice none 0 0, .int .i64 0, .int .i64 0, .int .i64 0, .int .i64 0, .int .i64 0, .int .i64 0, .int .i64 0, .slice ab ts.length cb, .slice none 0 0] #[.int .i64 i, .slice none 0 0, .int .i64 0, .int .i64 0, .int .i64 0, .int .i64 0, .int .i64 0, .int .i64 0, .int .i64 0, .slice ab ts.length cb, .slice ac os.length cc] hp (by simp) (by kernel_rfl) rfl ?_)
 intro u7 hp7 hb7 hs7 hk7
 replace x0 := (hk7 _ (by omega)).trans x0
 replace x1 := (hk7 _ (by omega)).trans x1
 replace hC := ZiX hC hk7 (by omega)
 replace O2 := ZaC O2 (ZaR O2 hp (by decide)) hk7
 replace O3 := ZaC O3 (ZaR O3 hp (by decide)) hk7
 replace hB := hB.trans (hb7.mono (by omega))
 replace hW := hW.trans (hb7.mono (by omega))
 replace hp := hp7
 clear hp7 hb7 hs7 hk7
 obtain ⟨D1, D2⟩ := ZkU (ns := ns) (is := is) (ds := ds) N1.out N2.out N3.out N4.out
 replace D1 : Hid (pdR ns is ds (sb s) = if k4 && decide (p4 = (sb s).length) then (mrR ns is ds (sb tx)).bind fun r => if ZbJ ns is ds i r.1 r.2 ts os then some (i, r, ts, os) else none else none) := D1
 clear N1 N2 N3 N4
 have HM := ZhA _ _ _ ns is ds tx u7 (R1.below hB) (R2.below hB) (R3.below hB) (by omega)
 unfold MrAns at HM
 have HX : (mrL (mrR ns is ds (sb tx))).length <= 3000 /\ ∀ x ∈ mrL (mrR ns is ds (sb tx)), x.s.size <= maxLen := by
  cases hm : mrR ns is ds (sb tx) with
  | none => exact ⟨by simp [mrL], by simp [mrL]⟩
  | some r =>
   obtain ⟨xs, m⟩ := r
   have hp := Zi3 hm
   exact ⟨ZaD hp, Zbx (ZbC hp)⟩
 have D3 : (mrR ns is ds (sb tx)).isSome = true -> mrR ns is ds (sb tx) = some (mrL (mrR ns is ds (sb tx)), mrM (mrR ns is ds (sb tx))) := fun h => by
  cases hm : mrR ns is ds (sb tx) with
  | none => rw [hm] at h; cases h
  | some r => rfl
 have D4 : (mrR ns is ds (sb tx)).isSome = false -> mrR ns is ds (sb tx) = none := fun h => by
  cases hm : mrR ns is ds (sb tx) with
  | none => rfl
  | some r => rw [hm] at h; cases h
 generalize mrL (mrR ns is ds (sb tx)) = X at *
 generalize mrM (mrR ns is ds (sb tx)) = M at *
 generalize (mrR ns is ds (sb tx)).isSome = mk at *
 go_wp2_with (refine wpList_load_row rfl 44 _ rfl w.heap.size rfl 44 #[.slice a1 ns.length c1, .slice a2 is.length c2, .slice a3 ds.length c3] (0, 0) _ x0 Tryz.underlying44 rfl Zl9 ?_)
 refine HM.mono ?_
 rintro e u8 ⟨⟨vm, rfl, O1⟩, hb⟩
 obtain ⟨am, cm, rfl⟩ := Zae O1
 replace O1 := Zaf (B' := bm + 1) O1 (by have := Zao hp; omega)
 replace x0 := Zal x0 hb
 replace x1 := Zal x1 hb
 replace hB := hB.trans (hb.mono hB.size)
 replace hW := hW.trans (hb.mono hW.size)
 replace hC := Zeq hC hb
 replace hp := Zal hp hb
 replace O2 := Zad O2 hb
 replace O3 := Zad O3 hb
 clear hb HM
 go_wp2_with (refine Zac rfl 81 _ _ rfl u8.heap.size #[.slice am X.length cm, .int .i64 M.p, .int .i64 M.s, .int .i64 M.e, .int .i64 M.d, .int .i64 M.t, .int .i64 M.q, .int .i64 M.r] rfl rfl 81 #[.slice none 0 0, .int .i64 0, .int .i64 0, .int .i64 0, .int .i64 0, .int .i64 0, .int .i64 0, .int .i64 0] (heap_alloc_new _ _) Zmc rfl (by simp [Value.oneCell']) ?_)
 intro u9 hm9 hb9 hs9 hk9
 have hb : Below u8.heap.size u8 u9 := ((Below.refl _ _).alloc (Nat.le_refl _) _).trans hb9
 have lbm : bm < u8.heap.size := Zao hp
 replace x0 := Zal x0 hb
 replace x1 := Zal x1 hb
 replace hB := hB.trans (hb.mono hB.size)
 replace hW := hW.trans (hb.mono hW.size)
 replace hC := Zeq hC hb
 replace hp := Zal hp hb
 replace O1 := Zad O1 hb
 replace O2 := Zad O2 hb
 replace O3 := Zad O3 hb
 clear hb hb9 hs9 hk9
 generalize u8.heap.size = bq at *
 go_wp2_with (first
  | (refine wpList_load_row rfl 81 _ rfl bq rfl 81 #[.slice am X.length cm, .int .i64 M.p, .int .i64 M.s, .int .i64 M.e, .int .i64 M.d, .int .i64 M.t, .int .i64 M.q, .int .i64 M.r] (0, 0) _ hm9 Tryz.underlying81 rfl Zmc ?_)
  | (refine ZaH rfl 81 _ _ rfl bm 1 #[.slice am X.length cm, .int .i64 M.p, .int .i64 M.s, .int .i64 M.e, .int .i64 M.d, .int .i64 M.t, .int .i64 M.q, .int .i64 M.r] rfl rfl 83 #[.int .i64 i, .slice none 0 0, .int .i64 0, .int .i64 0, .int .i64 0, .int .i64 0, .int .i64 0, .int .i64 0, .int .i64 0, .slice ab ts.length cb, .slice ac os.length cc] #[.int .i64 i, .slice am X.length cm, .int .i64 M.p, .int .i64 M.s, .int .i64 M.e, .int .i64 M.d, .int .i64 M.t, .int .i64 M.q, .int .i64 M.r, .slice ab ts.length cb, .slice ac os.length cc] hp (by simp) Zmc (by simp [Value.oneCell']) rfl ?_))
 intro uA hpA hbA hsA hkA
 replace x0 := (hkA _ (by omega)).trans x0
 replace x1 := (hkA _ (by omega)).trans x1
 replace hC := ZiX hC hkA (by omega)
 replace O1 := ZaC O1 (ZaR O1 hp (by decide)) hkA
 replace O2 := ZaC O2 (ZaR O2 hp (by decide)) hkA
 replace O3 := ZaC O3 (ZaR O3 hp (by decide)) hkA
 replace hB := hB.trans (hbA.mono (by omega))
 replace hW := hW.trans (hbA.mono (by omega))
 replace hp := hpA
 clear hpA hbA hsA hkA hm9
 have lx := Zao x1
 have e1' : uA.cell? ⟨w2.heap.size, 0 + 1, none⟩ = some (.int .i64 p4) := cell_of_row _ _ 1 _ _ _ hC
 have e2' : uA.cell? ⟨w2.heap.size, 0 + 2, none⟩ = some (.bool k4) := cell_of_row _ _ 2 _ _ _ hC
 cases k4 with
 | false =>
  have HN : Hid (pdR ns is ds (sb s) = none) := D1.out
  clear D1 D2 D3 D4
  go_wp2_with (refine Zac rfl 83 _ _ rfl (w.heap.size + 1) #[.int .i64 0, .slice none 0 0, .int .i64 0, .int .i64 0, .int .i64 0, .int .i64 0, .int .i64 0, .int .i64 0, .int .i64 0, .slice none 0 0, .slice none 0 0] rfl rfl 83 #[.int .i64 0, .slice none 0 0, .int .i64 0, .int .i64 0, .int .i64 0, .int .i64 0, .int .i64 0, .int .i64 0, .int .i64 0, .slice none 0 0, .slice none 0 0] x1 Zma rfl (by simp [Value.oneCell']) ?_)
  intro wB hvB hbB hsB hkB
  go_wp2
  refine bodyPost_ret (Zab rfl _ _ (w.heap.size + 1) 83 _ (0, 0) _ rfl hvB Tryz.underlying83 rfl Zma) rfl ⟨PaAns.zero2 HN.out, hB.trans (hbB.mono (by omega))⟩
 | true =>
  obtain ⟨zt, zo⟩ := D2 rfl
  by_cases hend : p4 = (s.size : Int)
  rotate_left
  ·have HN : Hid (pdR ns is ds (sb s) = none) := by
    unfold Hid
    rw [D1.out]
    have : decide (p4 = ((sb s).length : Int)) = false := by simp; omega
    rw [this]
    rfl
   have hne : (p4 != (s.size : Int)) = true := by simp [hend]
   clear D1 D2 D3 D4
   go_wp2_with (refine Zac rfl 83 _ _ rfl (w.heap.size + 1) #[.int .i64 0, .slice none 0 0, .int .i64 0, .int .i64 0, .int .i64 0, .int .i64 0, .int .i64 0, .int .i64 0, .int .i64 0, .slice none 0 0, .slice none 0 0] rfl rfl 83 #[.int .i64 0, .slice none 0 0, .int .i64 0, .int .i64 0, .int .i64 0, .int .i64 0, .int .i64 0, .int .i64 0, .int .i64 0, .slice none 0 0, .slice none 0 0] x1 Zma rfl (by simp [Value.oneCell']) ?_)
   intro wB hvB hbB hsB hkB
   go_wp2
   refine bodyPost_ret (Zab rfl _ _ (w.heap.size + 1) 83 _ (0, 0) _ rfl hvB Tryz.underlying83 rfl Zma) rfl ⟨PaAns.zero2 HN.out, hB.trans (hbB.mono (by omega))⟩
  have D5 : Hid (pdR ns is ds (sb s) = (mrR ns is ds (sb tx)).bind fun r => if ZbJ ns is ds i r.1 r.2 ts os then some (i, r, ts, os) else none) := by
   unfold Hid
   rw [D1.out]
   have : decide (p4 = ((sb s).length : Int)) = true := by simp; omega
   rw [this]
   rfl
  have heq : (p4 != (s.size : Int)) = false := by simp [hend]
  cases mk with
  | false =>
   have HN : Hid (pdR ns is ds (sb s) = none) := by unfold Hid; rw [D5.out, D4 rfl]; rfl
   clear D1 D2 D3 D4 D5 hend
   go_wp2_with (refine Zac rfl 83 _ _ rfl (w.heap.size + 1) #[.int .i64 0, .slice none 0 0, .int .i64 0, .int .i64 0, .int .i64 0, .int .i64 0, .int .i64 0, .int .i64 0, .int .i64 0, .slice none 0 0, .slice none 0 0] rfl rfl 83 #[.int .i64 0, .slice none 0 0, .int .i64 0, .int .i64 0, .int .i64 0, .int .i64 0, .int .i64 0, .int .i64 0, .int .i64 0, .slice none 0 0, .slice none 0 0] x1 Zma rfl (by simp [Value.oneCell']) ?_)
   intro wB hvB hbB hsB hkB
   go_wp2
   refine bodyPost_ret (Zab rfl _ _ (w.heap.size + 1) 83 _ (0, 0) _ rfl hvB Tryz.underlying83 rfl Zma) rfl ⟨PaAns.zero2 HN.out, hB.trans (hbB.mono (by omega))⟩
  | true =>
   have HD : Hid (pdR ns is ds (sb s) = if ZbJ ns is ds i X M ts os then some (i, (X, M), ts, os) else none) := by unfold Hid; rw [D5.out, D3 rfl]; rfl
   clear D1 D2 D3 D4 D5 hend
   have c0 : uA.cell? ⟨w.heap.size, 0, none⟩ = some (.slice a1 ns.length c1) := cell_of_row uA _ 0 _ _ _ x0
   have c1' : uA.cell? ⟨w.heap.size, 0 + 1, none⟩ = some (.slice a2 is.length c2) := cell_of_row uA _ 1 _ _ _ x0
   have c2' : uA.cell? ⟨w.heap.size, 0 + 2, none⟩ = some (.slice a3 ds.length c3) := cell_of_row uA _ 2 _ _ _ x0
   have e0 : uA.cell? ⟨bm, 0, none⟩ = some (.int .i64 i) := cell_of_row uA _ 0 _ _ _ hp
   have e1 : uA.cell? ⟨bm, 0 + 1, none⟩ = some (.slice am X.length cm) := cell_of_row uA _ 1 _ _ _ hp
   have e2 : uA.cell? ⟨bm, 0 + 2, none⟩ = some (.int .i64 M.p) := cell_of_row uA _ 2 _ _ _ hp
   have e3 : uA.cell? ⟨bm, 0 + 3, none⟩ = some (.int .i64 M.s) := cell_of_row uA _ 3 _ _ _ hp
   have e4 : uA.cell? ⟨bm, 0 + 4, none⟩ = some (.int .i64 M.e) := cell_of_row uA _ 4 _ _ _ hp
   have e5 : uA.cell? ⟨bm, 0 + 5, none⟩ = some (.int .i64 M.d) := cell_of_row uA _ 5 _ _ _ hp
   have e6 : uA.cell? ⟨bm, 0 + 6, none⟩ = some (.int .i64 M.t) := cell_of_row uA _ 6 _ _ _ hp
   have e7 : uA.cell? ⟨bm, 0 + 7, none⟩ = some (.int .i64 M.q) := cell_of_row uA _ 7 _ _ _ hp
   have e8 : uA.cell? ⟨bm, 0 + 8, none⟩ = some (.int .i64 M.r) := cell_of_row uA _ 8 _ _ _ hp
   have e9 : uA.cell? ⟨bm, 0 + 9, none⟩ = some (.slice ab ts.length cb) := cell_of_row uA _ 9 _ _ _ hp
   have e10 : uA.cell? ⟨bm, 0 + 10, none⟩ = some (.slice ac os.length cc) := cell_of_row uA _ 10 _ _ _ hp
   have OK := Zgn _ _ _ _ _ _ ns is ds i X M ts os uA (R1.below hB) (R2.below hB) (R3.below hB) (NRow.of_own O1 (by omega) HX.2) (StRow.of_own O2 (by omega) (fun x hx => by have := zt x hx; unfold maxLen; omega)) (StRow.of_own O3 (by omega) (fun x hx => by have := zo x hx; unfold maxLen; omega)) (fun x hx => by have := zt x hx; omega)
   go_wp2_with fail
   refine OK.mono ?_
   rintro e uC ⟨rfl, hb⟩
   replace x1 := Zal x1 hb
   replace hp := Zal hp hb
   replace O1 := Zad O1 hb
   replace O2 := Zad O2 hb
   replace O3 := Zad O3 hb
   replace hB := hB.trans (hb.mono hB.size)
   replace lx := Zao x1
   clear hb OK c0 c1' c2' e0 e1 e2 e3 e4 e5 e6 e7 e8 e9 e10 e1' e2'
   cases hP : ZbJ ns is ds i X M ts os with
   | false =>
    have HN : Hid (pdR ns is ds (sb s) = none) := by unfold Hid; rw [HD.out, hP]; rfl
    go_wp2_with (refine Zac rfl 83 _ _ rfl (w.heap.size + 1) #[.int .i64 0, .slice none 0 0, .int .i64 0, .int .i64 0, .int .i64 0, .int .i64 0, .int .i64 0, .int .i64 0, .int .i64 0, .slice none 0 0, .slice none 0 0] rfl rfl 83 #[.int .i64 0, .slice none 0 0, .int .i64 0, .int .i64 0, .int .i64 0, .int .i64 0, .int .i64 0, .int .i64 0, .int .i64 0, .slice none 0 0, .slice none 0 0] x1 Zma rfl (by simp [Value.oneCell']) ?_)
    intro wB hvB hbB hsB hkB
    go_wp2
    refine bodyPost_ret (Zab rfl _ _ (w.heap.size + 1) 83 _ (0, 0) _ rfl hvB Tryz.underlying83 rfl Zma) rfl ⟨PaAns.zero2 HN.out, hB.trans (hbB.mono (by omega))⟩
   | true =>
    have HN : Hid (pdR ns is ds (sb s) = some (i, (X, M), ts, os)) := by unfold Hid; rw [HD.out, hP]; rfl
    go_wp2_with (first
     | (refine wpList_load_row rfl 83 _ rfl bm rfl 83 #[.int .i64 i, .slice am X.length cm, .int .i64 M.p, .int .i64 M.s, .int .i64 M.e, .int .i64 M.d, .int .i64 M.t, .int .i64 M.q, .int .i64 M.r, .slice ab ts.length cb, .slice ac os.length cc] (0, 0) _ hp Tryz.underlying83 rfl Zma ?_)
     | (refine Zac rfl 83 _ _ rfl (w.heap.size + 1) #[.int .i64 i, .slice am X.length cm, .int .i64 M.p, .int .i64 M.s, .int .i64 M.e, .int .i64 M.d, .int .i64 M.t, .int .i64 M.q, .int .i64 M.r, .slice ab ts.length cb, .slice ac os.length cc] rfl rfl 83 #[.int .i64 0, .slice none 0 0, .int .i64 0, .int .i64 0, .int .i64 0, .int .i64 0, .int .i64 0, .int .i64 0, .int .i64 0, .slice none 0 0, .slice none 0 0] x1 Zma rfl (by simp [Value.oneCell']) ?_))
    intro wB hvB hbB hsB hkB
    replace O1 := Zaf (B' := w.heap.size) (Zak O1 (by omega) hkB) (by omega)
    replace O2 := Zaf (B' := w.heap.size) (Zak O2 (by omega) hkB) (by omega)
    replace O3 := Zaf (B' := w.heap.size) (Zak O3 (by omega) hkB) (by omega)
    go_wp2
    refine bodyPost_ret (Zab rfl _ _ (w.heap.size + 1) 83 _ (0, 0) _ rfl hvB Tryz.underlying83 rfl Zma) rfl ⟨⟨i, X, M, ts, os, true, _, _, _, by rw [HN.out]; rfl, rfl, O1, O2, O3, AP⟩, hB.trans (hbB.mono (by omega))⟩
theorem Zep (v1 v2 v3 : Value) (ns : List Nd) (is : List In) (ds : List Df) (s : ByteArray) (w : World) (R1 : NRow w v1 ns) (R2 : InRow w v2 is) (R3 : DfRow w v3 ds) (hs : s.size <= 1048576) (hg : ErrT w) :
  Calls Tryz.prog 178 #[.agg #[v1, v2, v3], .string s] w fun e w' => PaAns w.heap.size (pdT (pdR ns is ds (sb s))) e w' /\ Below w.heap.size w w' := by
 obtain ⟨a1, c1, rfl⟩ := R1.small
 obtain ⟨a2, c2, rfl⟩ := R2.small
 obtain ⟨a3, c3, rfl⟩ := R3.small
 have hzl := ZaF s
 obtain ⟨hB, hk, hy⟩ := Zat w (Obj.cells #[.slice a1 ns.length c1, .slice a2 is.length c2, .slice a3 ds.length c3] 44) (Obj.cells #[.int .i64 0, .slice none 0 0, .int .i64 0, .int .i64 0, .int .i64 0, .int .i64 0, .int .i64 0, .int .i64 0, .int .i64 0, .slice none 0 0, .slice none 0 0] 83)
 go_enter Tryz.func178, Tryz.ntmps178
 go_wp2_with fail
 refine Zk5 w.heap.size _ _ _ s (paT ns is ds (ZbW (sb s))) _ _ hk (by omega) (fun vr W0 P W RR hbW hbR hPW hone => Zjx vr (sb s) W0 W P _ _ _ ns is ds RR hbR hPW hone (R1.below (hB.trans (hbW.mono hB.size))) (R2.below (hB.trans (hbW.mono hB.size))) (R3.below (hB.trans (hbW.mono hB.size))) (hg.below (hB.trans (hbW.mono hB.size)) (Nat.le_refl _)) (by omega)) ?_
 intro _ _ _ _ _ _ _ bp I X M BX OX ok m1 m2 m3 e1 e2 e3 w2 hbp hb hp eT O1 O2 O3 AP
 obtain ⟨F1, F2, zb, zo, ⟨lX, zX⟩, lB, lO⟩ := ZlG eT
 replace hk := Zal hk hb
 replace hy := Zal hy hb
 have hb0 : w.heap.size + 2 <= bp := by simpa using hbp
 replace O1 := Zaf (B' := w.heap.size + 2) O1 (by simp)
 replace O2 := Zaf (B' := w.heap.size + 2) O2 (by simp)
 replace O3 := Zaf (B' := w.heap.size + 2) O3 (by simp)
 replace hB := hB.trans (hb.mono hB.size)
 clear hb hbp eT
 have ly := Zao hy
 cases ok with
 | false =>
  have HN : Hid (pdR ns is ds (sb s) = none) := F1 rfl
  clear F1 F2
  go_wp2_with (refine Zac rfl 83 _ _ rfl (w.heap.size + 1) #[.int .i64 0, .slice none 0 0, .int .i64 0, .int .i64 0, .int .i64 0, .int .i64 0, .int .i64 0, .int .i64 0, .int .i64 0, .slice none 0 0, .slice none 0 0] rfl rfl 83 #[.int .i64 0, .slice none 0 0, .int .i64 0, .int .i64 0, .int .i64 0, .int .i64 0, .int .i64 0, .int .i64 0, .int .i64 0, .slice none 0 0, .slice none 0 0] hy Zma rfl (by simp [Value.oneCell']) ?_)
  intro wB hvB hbB hsB hkB
  go_wp2
  refine bodyPost_ret (Zab rfl _ _ (w.heap.size + 1) 83 _ (0, 0) _ rfl hvB Tryz.underlying83 rfl Zma) rfl ⟨PaAns.zero2 HN.out, hB.trans (hbB.mono (by omega))⟩
 | true =>
  have HD : Hid (pdR ns is ds (sb s) = if ZbJ ns is ds I X M BX OX then some (I, (X, M), BX, OX) else none) := F2 rfl
  have c0 : w2.cell? ⟨w.heap.size, 0, none⟩ = some (.slice a1 ns.length c1) := cell_of_row w2 _ 0 _ _ _ hk
  have c1' : w2.cell? ⟨w.heap.size, 0 + 1, none⟩ = some (.slice a2 is.length c2) := cell_of_row w2 _ 1 _ _ _ hk
  have c2' : w2.cell? ⟨w.heap.size, 0 + 2, none⟩ = some (.slice a3 ds.length c3) := cell_of_row w2 _ 2 _ _ _ hk
  have k0 : w2.cell? ⟨bp, 0, none⟩ = some (.int .i64 I) := cell_of_row w2 _ 0 _ _ _ hp
  have k1 : w2.cell? ⟨bp, 0 + 1, none⟩ = some (.slice m1 X.length e1) := cell_of_row w2 _ 1 _ _ _ hp
  have k2 : w2.cell? ⟨bp, 0 + 2, none⟩ = some (.int .i64 M.p) := cell_of_row w2 _ 2 _ _ _ hp
  have k3 : w2.cell? ⟨bp, 0 + 3, none⟩ = some (.int .i64 M.s) := cell_of_row w2 _ 3 _ _ _ hp
  have k4 : w2.cell? ⟨bp, 0 + 4, none⟩ = some (.int .i64 M.e) := cell_of_row w2 _ 4 _ _ _ hp
  have k5 : w2.cell? ⟨bp, 0 + 5, none⟩ = some (.int .i64 M.d) := cell_of_row w2 _ 5 _ _ _ hp
  have k6 : w2.cell? ⟨bp, 0 + 6, none⟩ = some (.int .i64 M.t) := cell_of_row w2 _ 6 _ _ _ hp
  have k7 : w2.cell? ⟨bp, 0 + 7, none⟩ = some (.int .i64 M.q) := cell_of_row w2 _ 7 _ _ _ hp
  have k8 : w2.cell? ⟨bp, 0 + 8, none⟩ = some (.int .i64 M.r) := cell_of_row w2 _ 8 _ _ _ hp
  have k9 : w2.cell? ⟨bp, 0 + 9, none⟩ = some (.slice m2 BX.length e2) := cell_of_row w2 _ 9 _ _ _ hp
  have k10 : w2.cell? ⟨bp, 0 + 10, none⟩ = some (.slice m3 OX.length e3) := cell_of_row w2 _ 10 _ _ _ hp
  have OK := Zgg _ _ _ _ _ _ ns is ds I X M BX OX w2 (R1.below hB) (R2.below hB) (R3.below hB) (NRow.of_own O1 (by omega) zX) (StRow.of_own O2 (by omega) (fun x hx => by have := zb x hx; unfold maxLen; omega)) (StRow.of_own O3 (by omega) (fun x hx => by have := zo x hx; unfold maxLen; omega)) (fun x hx => by have := zb x hx; omega) (hg.below hB (Nat.le_refl _))
  clear F1 F2
  go_wp2_with fail
  refine OK.mono ?_
  rintro e w3 ⟨rfl, hb⟩
  replace hy := Zal hy hb
  replace hp := Zal hp hb
  replace O1 := Zad O1 hb
  replace O2 := Zad O2 hb
  replace O3 := Zad O3 hb
  replace hB := hB.trans (hb.mono hB.size)
  clear hb OK hk c0 c1' c2' k0 k1 k2 k3 k4 k5 k6 k7 k8 k9 k10
  replace ly := Zao hy
  cases hP : ZbJ ns is ds I X M BX OX with
  | false =>
   have HN : Hid (pdR ns is ds (sb s) = none) := by unfold Hid; rw [HD.out, hP]; rfl
   go_wp2_with (refine Zac rfl 83 _ _ rfl (w.heap.size + 1) #[.int .i64 0, .slice none 0 0, .int .i64 0, .int .i64 0, .int .i64 0, .int .i64 0, .int .i64 0, .int .i64 0, .int .i64 0, .slice none 0 0, .slice none 0 0] rfl rfl 83 #[.int .i64 0, .slice none 0 0, .int .i64 0, .int .i64 0, .int .i64 0, .int .i64 0, .int .i64 0, .int .i64 0, .int .i64 0, .slice none 0 0, .slice none 0 0] hy Zma rfl (by simp [Value.oneCell']) ?_)
   intro wB hvB hbB hsB hkB
   go_wp2
   refine bodyPost_ret (Zab rfl _ _ (w.heap.size + 1) 83 _ (0, 0) _ rfl hvB Tryz.underlying83 rfl Zma) rfl ⟨PaAns.zero2 HN.out, hB.trans (hbB.mono (by omega))⟩
  | true =>
   have HN : Hid (pdR ns is ds (sb s) = some (I, (X, M), BX, OX)) := by unfold Hid; rw [HD.out, hP]; rfl
   go_wp2_with (first
    | (refine wpList_load_row rfl 83 _ rfl bp rfl 83 #[.int .i64 I, .slice m1 X.length e1, .int .i64 M.p, .int .i64 M.s, .int .i64 M.e, .int .i64 M.d, .int .i64 M.t, .int .i64 M.q, .int .i64 M.r, .slice m2 BX.length e2, .slice m3 OX.length e3] (0, 0) _ hp Tryz.underlying83 rfl Zma ?_)
    | (refine Zac rfl 83 _ _ rfl (w.heap.size + 1) #[.int .i64 I, .slice m1 X.length e1, .int .i64 M.p, .int .i64 M.s, .int .i64 M.e, .int .i64 M.d, .int .i64 M.t, .int .i64 M.q, .int .i64 M.r, .slice m2 BX.length e2, .slice m3 OX.length e3] rfl rfl 83 #[.int .i64 0, .slice none 0 0, .int .i64 0, .int .i64 0, .int .i64 0, .int .i64 0, .int .i64 0, .int .i64 0, .int .i64 0, .slice none 0 0, .slice none 0 0] hy Zma rfl (by simp [Value.oneCell']) ?_))
   intro wB hvB hbB hsB hkB
   replace O1 := Zaf (B' := w.heap.size) (Zak O1 (by omega) hkB) (by omega)
   replace O2 := Zaf (B' := w.heap.size) (Zak O2 (by omega) hkB) (by omega)
   replace O3 := Zaf (B' := w.heap.size) (Zak O3 (by omega) hkB) (by omega)
   go_wp2
   refine bodyPost_ret (Zab rfl _ _ (w.heap.size + 1) 83 _ (0, 0) _ rfl hvB Tryz.underlying83 rfl Zma) rfl ⟨⟨I, X, M, BX, OX, true, _, _, _, by rw [HN.out]; rfl, rfl, O1, O2, O3, AP⟩, hB.trans (hbB.mono (by omega))⟩
theorem ZbR {a b : Int} (h : a = b) : Ending.returned (.int .i64 a) = .returned (.int .i64 b) := by rw [h]
theorem ZkK (r : Option (Int × Int × ByteArray)) : ∃ k p t ok, mrA r = .tuple #[.int .i64 k, .int .i64 p, .string t, .bool ok] /\ (ok = false -> r = none /\ k = 0) /\ (ok = true -> r = some (k, p, t)) := by
 cases r with
 | none => exact ⟨_, _, _, false, rfl, (fun _ => ⟨rfl, rfl⟩), (fun h => by cases h)⟩
 | some q => exact ⟨_, _, _, true, rfl, (fun h => by cases h), fun _ => rfl⟩
def MbAns (d : Wd) (s : ByteArray) (e : Ending) : Prop := ∃ (ok : Bool) (I : Int), e = .returned (.tuple #[.int .i64 I, .bool ok]) /\ (ok = true -> movN d.ns d.is d.ds s = I /\ 1 <= I) /\ (ok = false -> movN d.ns d.is d.ds s = 0)
theorem MbAns.no {d : Wd} {s : ByteArray} {e : Ending} (he : e = .returned (.tuple #[.int .i64 0, .bool false])) (h : movN d.ns d.is d.ds s = 0) : MbAns d s e := ⟨false, 0, he, (fun h => by cases h), fun _ => h⟩
theorem MbAns.yes {d : Wd} {s : ByteArray} {e : Ending} {I : Int} (he : e = .returned (.tuple #[.int .i64 I, .bool true])) (h : movN d.ns d.is d.ds s = I) (h1 : 1 <= I) : MbAns d s e := ⟨true, I, he, (fun _ => ⟨h, h1⟩), (fun h => by cases h)⟩
theorem Ze7 (vn vi vf vh vl vg vp va vt : Value) (d : Wd) (s : ByteArray) (B : Nat) (w : World) (R : WR B w vn vi vf vh vl vg vp va vt d) (hs : s.size <= 1048576) :
  Calls Tryz.prog 50 #[.agg #[vn, vi, vf, .int .i64 d.pl, vh, vl, vg, vp, .int .i64 d.nx, va, vt], .string s] w fun e w' => e = .returned (.int .i64 (movN d.ns d.is d.ds s)) /\ Below w.heap.size w w' := by
 have R0 := R
 obtain ⟨⟨an, cn, rfl⟩, ⟨ai, ci, rfl⟩, ⟨af, cf, rfl⟩, ⟨ah, ch, rfl⟩, ⟨al, cl, rfl⟩, ⟨ag, cg, rfl⟩, ⟨ap, cp, rfl⟩, ⟨aa, ca, rfl⟩, ⟨ab, cb, rfl⟩⟩ := R.form
 clear R
 have hB0 := ZaE w (Obj.cells #[.slice an d.ns.length cn, .slice ai d.is.length ci, .slice af d.ds.length cf, .int .i64 d.pl, .slice ah d.hs.length ch, .slice al d.ls.length cl, .slice ag d.gs.length cg, .slice ap d.ps.length cp, .int .i64 d.nx, .slice aa d.ga.length ca, .slice ab d.tk.length cb] 50)
 have hx0 := heap_alloc_new w (Obj.cells #[.slice an d.ns.length cn, .slice ai d.is.length ci, .slice af d.ds.length cf, .int .i64 d.pl, .slice ah d.hs.length ch, .slice al d.ls.length cl, .slice ag d.gs.length cg, .slice ap d.ps.length cp, .int .i64 d.nx, .slice aa d.ga.length ca, .slice ab d.tk.length cb] 50)
 have hsl := ZaF s
 go_enter Tryz.func50, Tryz.ntmps50
 go_wp2_with fail
 generalize w.alloc (Obj.cells #[.slice an d.ns.length cn, .slice ai d.is.length ci, .slice af d.ds.length cf, .int .i64 d.pl, .slice ah d.hs.length ch, .slice al d.ls.length cl, .slice ag d.gs.length cg, .slice ap d.ps.length cp, .int .i64 d.nx, .slice aa d.ga.length ca, .slice ab d.tk.length cb] 50) = w0 at *
 refine (Zia s _ hs).mono ?_
 rintro e w1 ⟨rfl, hb⟩
 obtain ⟨k, p, t, ok, hr, hn, hy⟩ := ZkK (mrd (sb s))
 rw [hr]
 replace hx0 := Zal hx0 hb
 replace hB0 := hB0.trans (hb.mono hB0.size)
 clear hb hr
 cases ok with
 | false =>
  have HR : Hid (movN d.ns d.is d.ds s = 0) := Zfo (hn rfl).1
  clear hn hy hx0
  go_wp2
  go_ret
  exact ⟨ZbR HR.out.symm, hB0⟩
 | true =>
  have hm := hy rfl
  have HM : Hid (mrd (sb s) = some (k, p, t)) := hm
  clear hn hy
  by_cases hk : k = 2
  ·subst hk
   have hts : t.size <= 1048576 := by have := ZgR hm; omega
   have HV : Hid (movN d.ns d.is d.ds s = (pdT (pdR d.ns d.is d.ds (sb t))).1) := Zfl hm
   clear hm
   go_wp2_with (refine Zan rfl 44 _ rfl w.heap.size 0 rfl _ 50 #[.slice an d.ns.length cn, .slice ai d.is.length ci, .slice af d.ds.length cf] _ hx0 rfl Tryz.underlying44 rfl Zl8 ?_)
   refine (ZeG _ _ _ d.ns d.is d.ds t _ (R0.rn.below hB0) (R0.ri.below hB0) (R0.rf.below hB0) hts).mono ?_
   rintro e w2 ⟨⟨I, X, M, BX, OX, ok, y1, y2, y3, hT, rfl, O1, O2, O3, _⟩, hb⟩
   obtain ⟨p1, q1, rfl⟩ := Zae O1
   obtain ⟨p2, q2, rfl⟩ := Zae O2
   obtain ⟨p3, q3, rfl⟩ := Zae O3
   have hpos := ZiB hT
   rw [hT] at HV
   replace hB0 := hB0.trans (hb.mono hB0.size)
   clear hb hT O1 O2 O3 hx0
   go_wp2_with (refine Zah rfl 83 _ _ rfl w2.heap.size #[.int .i64 I, .slice p1 X.length q1, .int .i64 M.p, .int .i64 M.s, .int .i64 M.e, .int .i64 M.d, .int .i64 M.t, .int .i64 M.q, .int .i64 M.r, .slice p2 BX.length q2, .slice p3 OX.length q3] rfl rfl 83 _ (heap_alloc_new _ _) Zma rfl (by simp [Value.oneCell']) ?_)
   intro w3 hv hbv hsv
   have hb : Below w2.heap.size w2 w3 := ((Below.refl _ _).alloc (Nat.le_refl _) _).trans hbv
   replace hB0 := hB0.trans (hb.mono hB0.size)
   have c0 : w3.cell? ⟨w2.heap.size, 0, none⟩ = some (.int .i64 I) := cell_of_row w3 _ 0 _ _ _ hv
   clear hb hbv hsv hv
   cases ok with
   | false =>
    have HR : Hid (movN d.ns d.is d.ds s = 0) := by unfold Hid; rw [HV.out]; exact hpos.2 rfl
    clear HV hpos
    go_wp2
    go_ret
    exact ⟨ZbR HR.out.symm, hB0⟩
   | true =>
    clear hpos
    go_wp2
    go_ret
    exact ⟨ZbR HV.out.symm, hB0⟩
  ·have HR : Hid (movN d.ns d.is d.ds s = 0) := Zd5 hm hk
   have hk2 : (k != 2) = true := by simpa using hk
   clear hm hx0 HM
   go_wp2
   go_ret
   exact ⟨ZbR HR.out.symm, hB0⟩
theorem ZeZ (vn vi vf vh vl vg vp va vt : Value) (d : Wd) (s : ByteArray) (B : Nat) (w : World) (R : WR B w vn vi vf vh vl vg vp va vt d) (hs : s.size <= 1048576) (hE : ErrT w) :
  Calls Tryz.prog 149 #[.agg #[vn, vi, vf, .int .i64 d.pl, vh, vl, vg, vp, .int .i64 d.nx, va, vt], .string s] w fun e w' => MbAns d s e /\ Below w.heap.size w w' := by
 have R0 := R
 obtain ⟨⟨an, cn, rfl⟩, ⟨ai, ci, rfl⟩, ⟨af, cf, rfl⟩, ⟨ah, ch, rfl⟩, ⟨al, cl, rfl⟩, ⟨ag, cg, rfl⟩, ⟨ap, cp, rfl⟩, ⟨aa, ca, rfl⟩, ⟨ab, cb, rfl⟩⟩ := R.form
 clear R
 have hB0 := ZaE w (Obj.cells #[.slice an d.ns.length cn, .slice ai d.is.length ci, .slice af d.ds.length cf, .int .i64 d.pl, .slice ah d.hs.length ch, .slice al d.ls.length cl, .slice ag d.gs.length cg, .slice ap d.ps.length cp, .int .i64 d.nx, .slice aa d.ga.length ca, .slice ab d.tk.length cb] 50)
 have hx0 := heap_alloc_new w (Obj.cells #[.slice an d.ns.length cn, .slice ai d.is.length ci, .slice af d.ds.length cf, .int .i64 d.pl, .slice ah d.hs.length ch, .slice al d.ls.length cl, .slice ag d.gs.length cg, .slice ap d.ps.length cp, .int .i64 d.nx, .slice aa d.ga.length ca, .slice ab d.tk.length cb] 50)
 have hsl := ZaF s
 go_enter Tryz.func149, Tryz.ntmps149
 go_wp2_with fail
 generalize w.alloc (Obj.cells #[.slice an d.ns.length cn, .slice ai d.is.length ci, .slice af d.ds.length cf, .int .i64 d.pl, .slice ah d.hs.length ch, .slice al d.ls.length cl, .slice ag d.gs.length cg, .slice ap d.ps.length cp, .int .i64 d.nx, .slice aa d.ga.length ca, .slice ab d.tk.length cb] 50) = w0 at *
 refine (ZhG s _ hs).mono ?_
 rintro e w1 ⟨rfl, hb⟩
 obtain ⟨k, q, t, ok, hr, hn, hy⟩ := ZkK (mrd (sb s))
 rw [hr]
 replace hx0 := Zal hx0 hb
 replace hB0 := hB0.trans (hb.mono hB0.size)
 clear hb hr
 cases ok with
 | false =>
  obtain ⟨hr0, rfl⟩ := hn rfl
  have HR : Hid (movN d.ns d.is d.ds s = 0) := Zfo hr0
  clear hn hy hx0 hr0
  go_wp2
  exact bodyPost_ret (results_tmp2 rfl _ _ _) rfl ⟨MbAns.no rfl HR.out, hB0⟩
 | true =>
  have hm := hy rfl
  clear hn hy
  by_cases hk : k = 2
  ·subst hk
   have hts : t.size <= 1048576 := by have := ZgR hm; omega
   have HV : Hid (movN d.ns d.is d.ds s = (pdT (pdR d.ns d.is d.ds (sb t))).1) := Zfl hm
   clear hm
   go_wp2_with (refine Zan rfl 44 _ rfl w.heap.size 0 rfl _ 50 #[.slice an d.ns.length cn, .slice ai d.is.length ci, .slice af d.ds.length cf] _ hx0 rfl Tryz.underlying44 rfl Zl8 ?_)
   refine (Zep _ _ _ d.ns d.is d.ds t _ (R0.rn.below hB0) (R0.ri.below hB0) (R0.rf.below hB0) hts (hE.below hB0 (Nat.le_refl _))).mono ?_
   rintro e w2 ⟨⟨I, X, M, BX, OX, ok, y1, y2, y3, hT, rfl, O1, O2, O3, _⟩, hb⟩
   obtain ⟨p1, q1, rfl⟩ := Zae O1
   obtain ⟨p2, q2, rfl⟩ := Zae O2
   obtain ⟨p3, q3, rfl⟩ := Zae O3
   have hpos := ZiB hT
   rw [hT] at HV
   replace hB0 := hB0.trans (hb.mono hB0.size)
   clear hb hT O1 O2 O3 hx0
   go_wp2_with (refine Zah rfl 83 _ _ rfl w2.heap.size #[.int .i64 I, .slice p1 X.length q1, .int .i64 M.p, .int .i64 M.s, .int .i64 M.e, .int .i64 M.d, .int .i64 M.t, .int .i64 M.q, .int .i64 M.r, .slice p2 BX.length q2, .slice p3 OX.length q3] rfl rfl 83 _ (heap_alloc_new _ _) Zma rfl (by simp [Value.oneCell']) ?_)
   intro w3 hv hbv hsv
   have hb : Below w2.heap.size w2 w3 := ((Below.refl _ _).alloc (Nat.le_refl _) _).trans hbv
   replace hB0 := hB0.trans (hb.mono hB0.size)
   have c0 : w3.cell? ⟨w2.heap.size, 0, none⟩ = some (.int .i64 I) := cell_of_row w3 _ 0 _ _ _ hv
   clear hb hbv hsv hv
   cases ok with
   | false =>
    have HR : Hid (movN d.ns d.is d.ds s = 0) := by unfold Hid; rw [HV.out]; exact hpos.2 rfl
    obtain rfl : I = 0 := hpos.2 rfl
    clear HV hpos
    go_wp2
    exact bodyPost_ret (results_tmp2 rfl _ _ _) rfl ⟨MbAns.no rfl HR.out, hB0⟩
   | true =>
    have h1 := hpos.1 rfl
    clear hpos
    go_wp2
    exact bodyPost_ret (results_tmp2 rfl _ _ _) rfl ⟨MbAns.yes rfl HV.out h1, hB0⟩
  ·have HR : Hid (movN d.ns d.is d.ds s = 0) := Zd5 hm hk
   have hk2 : (k != 2) = true := by simpa using hk
   clear hm hx0
   go_wp2
   exact bodyPost_ret (results_tmp2 rfl _ _ _) rfl ⟨MbAns.no rfl HR.out, hB0⟩
end Go.Proofs.YtfmafkebddojjaaGreatDoor
