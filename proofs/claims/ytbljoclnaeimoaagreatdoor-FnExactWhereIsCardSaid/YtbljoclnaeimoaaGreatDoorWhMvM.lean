/-
  Texts that stood by themselves, laid into one.
-/
import Derived.Test.YtbljoclnaeimoaaGreatDoorBsM
import Derived.Test.YtbljoclnaeimoaaGreatDoorLMakeM
import Derived.Test.YtbljoclnaeimoaaGreatDoorPcMarkM
import Derived.Test.YtbljoclnaeimoaaGreatDoorMRgM
import Derived.Test.YtbljoclnaeimoaaGreatDoorSPd2M
import Derived.Test.YtbljoclnaeimoaaGreatDoorSMRdM
import Derived.Test.YtbljoclnaeimoaaGreatDoorXRM
import Derived.Test.YtbljoclnaeimoaaGreatDoorPrM
import Derived.Test.YtbljoclnaeimoaaGreatDoorSMlRM
/-
  A machine's variable (VarM), and the contracts of the laws' helpers markMachine and heldMachine. No condition.
-/
namespace Go.Proofs.YtbljoclnaeimoaaGreatDoor
open Go.RowKit
def VarM (w : World) (b lo hi : Nat) (v : Value) (xs : List Nd) (m : Mc) : Prop :=
 w.heap[b]? = some (.cells #[v, .int .i64 m.p, .int .i64 m.s, .int .i64 m.e, .int .i64 m.d, .int .i64 m.t, .int .i64 m.q, .int .i64 m.r] 67 (0, 0)) /\ w.ownsRow lo 200 5 v xs.length (ncs xs) /\ (∀ k, v.ownBlock = some k -> k < hi) /\ hi <= w.heap.size
theorem VarM.new {w5 we : World} {lo : Nat} {v : Value} {xs : List Nd} {m : Mc} (ho : w5.ownsRow lo 200 5 v xs.length (ncs xs)) (hd : Below w5.heap.size w5 we) (hb : we.heap[w5.heap.size]? = some (.cells #[v, .int .i64 m.p, .int .i64 m.s, .int .i64 m.e, .int .i64 m.d, .int .i64 m.t, .int .i64 m.q, .int .i64 m.r] 67 (0, 0))) :
  VarM we w5.heap.size lo we.heap.size v xs m := ⟨hb, Zac ho hd, fun k hk => ((Zac ho hd).lt k hk).2, Nat.le_refl _⟩
theorem VarM.below {w w' : World} {b lo hi : Nat} {v : Value} {xs : List Nd} {m : Mc} (h : VarM w b lo hi v xs m) (hb : Below w.heap.size w w') : VarM w' b lo hi v xs m :=
 ⟨(hb.block b (Array.getElem?_eq_some_iff.1 h.1).1).trans h.1, Zac h.2.1 hb, h.2.2.1, Nat.le_trans h.2.2.2 hb.size⟩
theorem VarM.row {w : World} {b lo hi : Nat} {v : Value} {xs : List Nd} {m : Mc} (h : VarM w b lo hi v xs m) (hm : xs.length <= 4194304) (hz : ∀ x ∈ xs, x.s.size <= maxLen) : NRow w v xs := NRow.of_own h.2.1 (by omega) hz
theorem VarM.lt {w : World} {b lo hi : Nat} {v : Value} {xs : List Nd} {m : Mc} (h : VarM w b lo hi v xs m) : b < w.heap.size := (Array.getElem?_eq_some_iff.1 h.1).1
theorem VarM.kept {w w' : World} {b lo hi lo' hi' b' : Nat} {v v' : Value} {xs xs' : List Nd} {m m' : Mc} (h : VarM w b lo hi v xs m) (h' : VarM w b' lo' hi' v' xs' m') (hg : w.grownBy w' v'.ownBlock) (hd : hi <= lo' \/ hi' <= lo) : VarM w' b lo hi v xs m := by
 have hne : v'.ownBlock ≠ some b := Zay h'.2.1 h.1 (by decide)
 refine ⟨(hg.block b h.lt (fun e => hne e.symm)).trans h.1, h.2.1.kept hg ?_, h.2.2.1, Nat.le_trans h.2.2.2 hg.size⟩
 cases hv : v.ownBlock with
 | none => exact Or.inl rfl
 | some k =>
  refine Or.inr fun e => ?_
  have k1 := h.2.2.1 k hv
  have k2 := (h.2.1.lt k hv).1
  have k3 := h'.2.2.1 k e.symm
  have k4 := (h'.2.1.lt k e.symm).1
  omega
theorem VarM.marked {w w' : World} {b lo hi : Nat} {v : Value} {xs ys : List Nd} {m : Mc} (h : VarM w b lo hi v xs m) (hg : w.grownBy w' v.ownBlock) (ho : w'.ownsRow lo 200 5 v ys.length (ncs ys)) : VarM w' b lo hi v ys m :=
 ⟨(hg.block b h.lt (fun e => Zay h.2.1 h.1 (by decide) e.symm)).trans h.1, ho, h.2.2.1, Nat.le_trans h.2.2.2 hg.size⟩
theorem VarM.block {w w' : World} {b lo hi : Nat} {v : Value} {xs : List Nd} {m : Mc} (h : VarM w b lo hi v xs m) (hg : w.grownBy w' v.ownBlock) {j : Nat} {c : Array Value} {t : TypeId} (hj : w.heap[j]? = some (.cells c t (0, 0))) (hte : t ≠ 200) : w'.heap[j]? = some (.cells c t (0, 0)) :=
 (hg.block j (bl hj) (fun e => Zay h.2.1 hj hte e.symm)).trans hj
theorem VarM.keptBy {w w' : World} {b lo hi : Nat} {v : Value} {xs : List Nd} {m : Mc} {o : Option Nat} (h : VarM w b lo hi v xs m) (hg : w.grownBy w' o) (hb : ∀ k, o = some k -> k ≠ b /\ (k < lo \/ hi <= k)) : VarM w' b lo hi v xs m := by
 refine ⟨(hg.block b h.lt (fun e => (hb b e.symm).1 rfl)).trans h.1, h.2.1.kept hg ?_, h.2.2.1, Nat.le_trans h.2.2.2 hg.size⟩
 cases hv : v.ownBlock with
 | none => exact Or.inl rfl
 | some k =>
  refine Or.inr fun e => ?_
  have k1 := h.2.2.1 k hv
  have k2 := (h.2.1.lt k hv).1
  have k3 := (hb k e.symm).2
  omega
structure VarPr (w : World) (b lo hi : Nat) (v vb vo : Value) (i : Int) (xs : List Nd) (m : Mc) (bx ox : List ByteArray) : Prop where
 blk : w.heap[b]? = some (.cells #[.int .i64 i, v, .int .i64 m.p, .int .i64 m.s, .int .i64 m.e, .int .i64 m.d, .int .i64 m.t, .int .i64 m.q, .int .i64 m.r, vb, vo] 70 (0, 0))
 o1 : w.ownsRow lo 200 5 v xs.length (ncs xs)
 o2 : w.ownsRow lo 9 1 vb bx.length (stv bx)
 o3 : w.ownsRow lo 9 1 vo ox.length (stv ox)
 t1 : ∀ k, v.ownBlock = some k -> k < hi
 t2 : ∀ k, vb.ownBlock = some k -> k < hi
 t3 : ∀ k, vo.ownBlock = some k -> k < hi
 ap : ∀ g, vo.ownBlock = some g -> vb.ownBlock ≠ some g
 top : hi <= w.heap.size
theorem VarPr.of {w : World} {b lo : Nat} {v vb vo : Value} {i : Int} {xs : List Nd} {m : Mc} {bx ox : List ByteArray} (hb : w.heap[b]? = some (.cells #[.int .i64 i, v, .int .i64 m.p, .int .i64 m.s, .int .i64 m.e, .int .i64 m.d, .int .i64 m.t, .int .i64 m.q, .int .i64 m.r, vb, vo] 70 (0, 0))) (h1 : w.ownsRow lo 200 5 v xs.length (ncs xs)) (h2 : w.ownsRow lo 9 1 vb bx.length (stv bx)) (h3 : w.ownsRow lo 9 1 vo ox.length (stv ox)) (ha : ∀ g, vo.ownBlock = some g -> vb.ownBlock ≠ some g) : VarPr w b lo w.heap.size v vb vo i xs m bx ox :=
 ⟨hb, h1, h2, h3, fun k hk => (h1.lt k hk).2, fun k hk => (h2.lt k hk).2, fun k hk => (h3.lt k hk).2, ha, Nat.le_refl _⟩
section
variable {w w' : World} {b lo hi : Nat} {v vb vo : Value} {i : Int} {xs : List Nd} {m : Mc} {bx ox : List ByteArray}
theorem VarPr.below (h : VarPr w b lo hi v vb vo i xs m bx ox) (hb : Below w.heap.size w w') : VarPr w' b lo hi v vb vo i xs m bx ox :=
 ⟨Zak h.blk hb, Zac h.o1 hb, Zac h.o2 hb, Zac h.o3 hb, h.t1, h.t2, h.t3, h.ap, Nat.le_trans h.top hb.size⟩
theorem VarPr.lt (h : VarPr w b lo hi v vb vo i xs m bx ox) : b < w.heap.size := Zao h.blk
theorem VarPr.row (h : VarPr w b lo hi v vb vo i xs m bx ox) (hm : xs.length <= 4194304) (hz : ∀ x ∈ xs, x.s.size <= maxLen) : NRow w v xs := NRow.of_own h.o1 (by omega) hz
theorem Zdz {e : TypeId} {k n : Nat} {u : Value} {l : List Value} {o : Option Nat} (h : w.ownsRow lo e k u n l) (ht : ∀ k, u.ownBlock = some k -> k < hi) (hg : w.grownBy w' o) (hb : ∀ k, o = some k -> k < lo \/ hi <= k) : w'.ownsRow lo e k u n l := by
 refine h.kept hg ?_
 cases hv : u.ownBlock with
 | none => exact Or.inl rfl
 | some k =>
  refine Or.inr fun e => ?_
  have k1 := ht k hv
  have k2 := (h.lt k hv).1
  have k3 := hb k e.symm
  omega
theorem VarPr.keptBy {o : Option Nat} (h : VarPr w b lo hi v vb vo i xs m bx ox) (hg : w.grownBy w' o) (hb : ∀ k, o = some k -> k ≠ b /\ (k < lo \/ hi <= k)) : VarPr w' b lo hi v vb vo i xs m bx ox :=
 ⟨(hg.block b h.lt (fun e => (hb b e.symm).1 rfl)).trans h.blk, Zdz h.o1 h.t1 hg (fun k hk => (hb k hk).2), Zdz h.o2 h.t2 hg (fun k hk => (hb k hk).2), Zdz h.o3 h.t3 hg (fun k hk => (hb k hk).2), h.t1, h.t2, h.t3, h.ap, Nat.le_trans h.top hg.size⟩
theorem VarPr.turned {ys : List Nd} {by' oy : List ByteArray} {wa wb : World} (h : VarPr w b lo hi v vb vo i xs m bx ox) (ga : w.grownBy wa v.ownBlock) (gb : wa.grownBy wb vb.ownBlock) (gc : wb.grownBy w' vo.ownBlock) (h1 : w'.ownsRow lo 200 5 v ys.length (ncs ys)) (h2 : w'.ownsRow lo 9 1 vb by'.length (stv by')) (h3 : w'.ownsRow lo 9 1 vo oy.length (stv oy)) : VarPr w' b lo hi v vb vo i ys m by' oy := by
 have l0 := h.lt
 have l1 := Nat.lt_of_lt_of_le l0 ga.size
 have l2 := Nat.lt_of_lt_of_le l1 gb.size
 refine ⟨((gc.block b l2 (fun e => Zay h.o3 h.blk (by decide) e.symm)).trans ((gb.block b l1 (fun e => Zay h.o2 h.blk (by decide) e.symm)).trans (ga.block b l0 (fun e => Zay h.o1 h.blk (by decide) e.symm)))).trans h.blk, h1, h2, h3, h.t1, h.t2, h.t3, h.ap, Nat.le_trans h.top (Nat.le_trans ga.size (Nat.le_trans gb.size gc.size))⟩
theorem VarPr.frame {W0 wa wb : World} {B : Nat} (h0 : Below B W0 w) (h : VarPr w b lo hi v vb vo i xs m bx ox) (ga : w.grownBy wa v.ownBlock) (gb : wa.grownBy wb vb.ownBlock) (gc : wb.grownBy w' vo.ownBlock) (hlo : B <= lo) (hB : B <= w.heap.size) : Below B W0 w' :=
 ((h0.grown ga hB (fun k hk => Nat.le_trans hlo (h.o1.lt k hk).1)).grown gb (Nat.le_trans hB ga.size) (fun k hk => Nat.le_trans hlo (h.o2.lt k hk).1)).grown gc (Nat.le_trans hB (Nat.le_trans ga.size gb.size)) (fun k hk => Nat.le_trans hlo (h.o3.lt k hk).1)
theorem VarPr.other {wa wb : World} {j : Nat} {c : Array Value} {t : TypeId} (h : VarPr w b lo hi v vb vo i xs m bx ox) (ga : w.grownBy wa v.ownBlock) (gb : wa.grownBy wb vb.ownBlock) (gc : wb.grownBy w' vo.ownBlock) (hj : w.heap[j]? = some (.cells c t (0, 0))) (h1 : t ≠ 200) (h2 : t ≠ 9) : w'.heap[j]? = some (.cells c t (0, 0)) := by
 have l0 := Zao hj
 have l1 := Nat.lt_of_lt_of_le l0 ga.size
 have l2 := Nat.lt_of_lt_of_le l1 gb.size
 exact ((gc.block j l2 (fun e => Zay h.o3 hj h2 e.symm)).trans ((gb.block j l1 (fun e => Zay h.o2 hj h2 e.symm)).trans (ga.block j l0 (fun e => Zay h.o1 hj h1 e.symm)))).trans hj
end
def PdS (B : Nat) (T : Int × List Nd × Mc × List ByteArray × List ByteArray × Bool) (e : Ending) (w' : World) : Prop :=
 ∃ (I : Int) (X : List Nd) (M : Mc) (BX OX : List ByteArray) (ok : Bool) (y1 y2 y3 : Value), T = (I, X, M, BX, OX, ok) /\ e = .returned (.tuple #[.agg #[.int .i64 I, y1, .int .i64 M.p, .int .i64 M.s, .int .i64 M.e, .int .i64 M.d, .int .i64 M.t, .int .i64 M.q, .int .i64 M.r, y2, y3], .bool ok]) /\ w'.ownsRow B 200 5 y1 X.length (ncs X) /\ w'.ownsRow B 9 1 y2 BX.length (stv BX) /\ w'.ownsRow B 9 1 y3 OX.length (stv OX)
theorem PdS.zero {B : Nat} {r : Option (Int × (List Nd × Mc) × List ByteArray × List ByteArray)} {w' : World} (h : r = none) : PdS B (pdT r) (.returned (.tuple #[.agg #[.int .i64 0, .slice none 0 0, .int .i64 0, .int .i64 0, .int .i64 0, .int .i64 0, .int .i64 0, .int .i64 0, .int .i64 0, .slice none 0 0, .slice none 0 0], .bool false])) w' := by
 subst h
 exact ⟨0, [], ⟨0, 0, 0, 0, 0, 0, 0⟩, [], [], false, .slice none 0 0, .slice none 0 0, .slice none 0 0, rfl, rfl, ⟨by simp [ncs], Or.inl ⟨rfl, rfl⟩⟩, ⟨by simp [stv], Or.inl ⟨rfl, rfl⟩⟩, ⟨by simp [stv], Or.inl ⟨rfl, rfl⟩⟩⟩
theorem ZiX {zs : List Int} {a c : Int} {k kk : Bool} {ts : List ByteArray} (h : tsL zs (num8 zs a k).1.toNat [] (num8 zs a k).2.1 (num8 zs a k).2.2 = (ts, c, kk)) : (kk = true -> k = true /\ rdTL zs a = some (ts, c)) /\ (kk = false -> k = true -> rdTL zs a = none) := by
 cases k with
 | false =>
  rw [Zbq] at h
  simp only [ZcG, Prod.mk.injEq] at h
  obtain ⟨_, _, rfl⟩ := h
  exact ⟨fun h => (by cases h), fun _ h => (by cases h)⟩
 | true =>
  unfold rdTL
  cases h1 : rd1 zs a with
  | none =>
   rw [ZaD h1] at h
   simp only [ZcG, Prod.mk.injEq] at h
   obtain ⟨_, _, rfl⟩ := h
   exact ⟨fun h => (by cases h), fun _ _ => rfl⟩
  | some p =>
   rw [(ZaG zs a).2 p h1] at h
   simp only at h
   obtain ⟨i1, i2⟩ := ZkP zs p.1.toNat [] p.2
   simp only [Option.bind_some]
   cases h2 : rdTs zs p.1.toNat p.2 with
   | none =>
    have := i2 h2
    rw [h] at this
    simp only at this
    subst this
    exact ⟨fun h => (by cases h), fun _ _ => rfl⟩
   | some q =>
    rw [i1 q h2] at h
    simp only [List.nil_append, Prod.mk.injEq] at h
    obtain ⟨rfl, rfl, rfl⟩ := h
    exact ⟨fun _ => ⟨trivial, rfl⟩, fun h => (by cases h)⟩
theorem ZkT {ns : List Nd} {is : List In} {ds : List Df} {zs : List Int} {i a1 a2 a3 a4 : Int} {k1 k2 k3 k4 : Bool} {tx : ByteArray} {ts os : List ByteArray} (h1 : num8 zs 0 true = (i, a1, k1)) (h2 : txt8 zs a1 k1 = (tx, a2, k2)) (h3 : tsL zs (num8 zs a2 k2).1.toNat [] (num8 zs a2 k2).2.1 (num8 zs a2 k2).2.2 = (ts, a3, k3)) (h4 : tsL zs (num8 zs a3 k3).1.toNat [] (num8 zs a3 k3).2.1 (num8 zs a3 k3).2.2 = (os, a4, k4)) :
  (pdR ns is ds zs = if k4 && decide (a4 = zs.length) then (mrR ns is ds (sb tx)).bind fun r => if ZbN ns is ds i r.1 r.2 ts os then some (i, r, ts, os) else none else none) /\ (k4 = true -> (∀ x ∈ ts, x.size <= zs.length) /\ ∀ x ∈ os, x.size <= zs.length) := by
 obtain ⟨F3, G3⟩ := ZiX h3
 obtain ⟨F4, G4⟩ := ZiX h4
 have end' : ∀ {a : Int} {q : List ByteArray × Int}, rdTL zs a = some q -> ∀ x ∈ q.1, x.size <= zs.length := fun h => by
  unfold rdTL at h
  rw [Option.bind_eq_some_iff] at h
  obtain ⟨p, h2, h3⟩ := h
  exact (ZeH (Za5 h2).2.2.2 h3).2
 unfold pdR
 cases hr : rd1 zs 0 with
 | none =>
  rw [ZaD hr] at h1
  simp only [Prod.mk.injEq] at h1
  obtain ⟨_, _, rfl⟩ := h1
  have : k2 = false := by unfold txt8 at h2; simp at h2; exact h2.2.2
  subst this
  have : k3 = false := by cases k3 with | false => rfl | true => exact absurd (F3 rfl).1 (by simp)
  subst this
  have : k4 = false := by cases k4 with | false => rfl | true => exact absurd (F4 rfl).1 (by simp)
  subst this
  exact ⟨rfl, fun h => (by cases h)⟩
 | some p =>
  rw [(ZaG zs 0).2 p hr] at h1
  simp only [Prod.mk.injEq] at h1
  obtain ⟨rfl, rfl, rfl⟩ := h1
  simp only [Option.bind_some]
  rw [Zgl] at h2
  cases ht : rt zs p.2 with
  | none =>
   rw [ht] at h2
   simp only [Prod.mk.injEq] at h2
   obtain ⟨_, _, rfl⟩ := h2
   have : k3 = false := by cases k3 with | false => rfl | true => exact absurd (F3 rfl).1 (by simp)
   subst this
   have : k4 = false := by cases k4 with | false => rfl | true => exact absurd (F4 rfl).1 (by simp)
   subst this
   exact ⟨rfl, fun h => (by cases h)⟩
  | some t =>
   rw [ht] at h2
   simp only [Prod.mk.injEq] at h2
   obtain ⟨rfl, rfl, rfl⟩ := h2
   simp only [Option.bind_some]
   cases k3 with
   | false =>
    rw [G3 rfl rfl]
    have : k4 = false := by cases k4 with | false => rfl | true => exact absurd (F4 rfl).1 (by simp)
    subst this
    exact ⟨rfl, fun h => (by cases h)⟩
   | true =>
    have e3 := (F3 rfl).2
    rw [e3]
    simp only [Option.bind_some]
    cases k4 with
    | false =>
     rw [G4 rfl rfl]
     exact ⟨rfl, fun h => (by cases h)⟩
    | true =>
     have e4 := (F4 rfl).2
     rw [e4]
     simp only [Option.bind_some, Bool.true_and, decide_eq_true_eq]
     exact ⟨trivial, fun _ => ⟨end' e3, end' e4⟩⟩
theorem ZeW {w w' : World} {b : Nat} {v : Value} {a : Int} {k : Bool} (h : C8 w b v a k) (hb : Below w.heap.size w w') : C8 w' b v a k := Zak h hb
theorem ZjI {w w' : World} {b g : Nat} {v : Value} {a : Int} {k : Bool} (h : C8 w b v a k) (hk : ∀ j, j ≠ g -> w'.heap[j]? = w.heap[j]?) (hn : b ≠ g) : C8 w' b v a k := (hk b hn).trans h
set_option maxRecDepth 100000 in
set_option maxHeartbeats 12800000 in
theorem ZeU (v1 v2 v3 : Value) (ns : List Nd) (is : List In) (ds : List Df) (s : ByteArray) (w : World) (R1 : NRow w v1 ns) (R2 : InRow w v2 is) (R3 : DfRow w v3 ds) (hs : s.size <= 1048576) :
  Calls Tryz.prog 74 #[.agg #[v1, v2, v3], .string s] w fun e w' => PaAns w.heap.size (pdT (pdR ns is ds (sb s))) e w' /\ Below w.heap.size w w' := by
 obtain ⟨a1, c1, rfl⟩ := R1.small
 obtain ⟨a2, c2, rfl⟩ := R2.small
 obtain ⟨a3, c3, rfl⟩ := R3.small
 have hsl := ZaF s
 have hwf := Zhd s
 obtain ⟨hB2, z0, z1⟩ := Zat w (Obj.cells #[.slice a1 ns.length c1, .slice a2 is.length c2, .slice a3 ds.length c3] 44) (Obj.cells #[.int .i64 0, .slice none 0 0, .int .i64 0, .int .i64 0, .int .i64 0, .int .i64 0, .int .i64 0, .int .i64 0, .int .i64 0, .slice none 0 0, .slice none 0 0] 70)
 go_enter Tryz.func74, Tryz.ntmps74
 go_wp2_with (first
  | (refine Za4 _ rfl _ 9 180 5 rfl Tryz.underlying9 Tryz.underlying180 Tryz.underlying5 s rfl ?_; intro cap w2 g0 g1 g2 g3))
 obtain ⟨W2, hW2⟩ : ∃ W2, (w.alloc (Obj.cells #[.slice a1 ns.length c1, .slice a2 is.length c2, .slice a3 ds.length c3] 44)).alloc (Obj.cells #[.int .i64 0, .slice none 0 0, .int .i64 0, .int .i64 0, .int .i64 0, .int .i64 0, .int .i64 0, .int .i64 0, .int .i64 0, .slice none 0 0, .slice none 0 0] 70) = W2 := ⟨_, rfl⟩
 have hs2 : W2.heap.size = w.heap.size + 1 + 1 := by rw [<- hW2]; simp
 rw [hW2] at hB2 z0 z1 g1 g2 g3
 have RR := Zbi (w := W2) (by omega) g0 g1 g3
 rw [hs2] at RR g3
 have x0 := (g2.block _ (by omega) (by simp)).trans z0
 have x1 := (g2.block _ (by omega) (by simp)).trans z1
 have hB : Below w.heap.size w w2 := hB2.grown g2 hB2.size (fun k hk => by cases hk)
 clear hs2 g1 g2 hW2 hB2 z0 z1 g3 g0
 have hb := ZaI w2 (Obj.cells #[.slice (some ⟨w.heap.size + 1 + 1, 0, none⟩) s.size cap, .int .i64 0, .bool true] 182)
 have hC : C8 (w2.alloc (Obj.cells #[.slice (some ⟨w.heap.size + 1 + 1, 0, none⟩) s.size cap, .int .i64 0, .bool true] 182)) w2.heap.size (.slice (some ⟨w.heap.size + 1 + 1, 0, none⟩) s.size cap) 0 true := heap_alloc_new _ _
 have hW : Below w2.heap.size w2 (w2.alloc (Obj.cells #[.slice (some ⟨w.heap.size + 1 + 1, 0, none⟩) s.size cap, .int .i64 0, .bool true] 182)) := hb
 have l2 : w.heap.size + 1 < w2.heap.size := Zao x1
 replace x0 := Zak x0 hb
 replace x1 := Zak x1 hb
 replace hB := hB.trans (hb.mono hB.size)
 clear hb
 obtain ⟨u0, hu0⟩ : ∃ u, w2.alloc (Obj.cells #[.slice (some ⟨w.heap.size + 1 + 1, 0, none⟩) s.size cap, .int .i64 0, .bool true] 182) = u := ⟨_, rfl⟩
 rw [hu0] at hC hW x0 x1 hB ⊢
 clear hu0
 obtain ⟨V, hV⟩ : ∃ V, V = (Value.slice (some ⟨w.heap.size + 1 + 1, 0, none⟩) s.size cap) := ⟨_, rfl⟩
 rw [<- hV] at hC RR
 have HN := ZbW w2.heap.size V (sb s) 0 true u0 (RR.below hW) hC (by omega) (by omega)
 have hm1 := Zei (zs := sb s) (a := 0) (ok := true) (by omega) (by omega)
 obtain ⟨nn, N1⟩ : ∃ n, num8 (sb s) 0 true = n := ⟨_, rfl⟩
 obtain ⟨i, p1, k1⟩ := nn
 rw [N1] at HN hm1
 simp only at HN hm1
 obtain ⟨_, _, m13, m14⟩ := hm1
 replace N1 : Hid (num8 (sb s) 0 true = (i, p1, k1)) := N1
 refine HN.mono ?_
 rintro e u1 ⟨rfl, hC, g⟩
 replace x0 := (g.block _ (Zao x0) (by simp; omega)).trans x0
 replace x1 := (g.block _ (Zao x1) (by simp; omega)).trans x1
 replace hB := hB.grown g hB.size (fun k hk => by cases hk; omega)
 replace hW := hW.grown g hW.size (fun k hk => by cases hk; omega)
 clear HN g
 go_wp2_with (refine Zad rfl 70 _ _ rfl u1.heap.size #[.int .i64 i, .slice none 0 0, .int .i64 0, .int .i64 0, .int .i64 0, .int .i64 0, .int .i64 0, .int .i64 0, .int .i64 0, .slice none 0 0, .slice none 0 0] rfl rfl 70 #[.int .i64 0, .slice none 0 0, .int .i64 0, .int .i64 0, .int .i64 0, .int .i64 0, .int .i64 0, .int .i64 0, .int .i64 0, .slice none 0 0, .slice none 0 0] (heap_alloc_new _ _) Zma rfl (by simp [Value.oneCell']) ?_)
 intro u2 hp hb2 hs2 hk2
 have hb : Below u1.heap.size u1 u2 := ((Below.refl _ _).alloc (Nat.le_refl _) _).trans hb2
 have lC : w2.heap.size < u1.heap.size := (bl hC)
 replace x0 := Zak x0 hb
 replace x1 := Zak x1 hb
 replace hB := hB.trans (hb.mono hB.size)
 replace hW := hW.trans (hb.mono hW.size)
 replace hC := ZeW hC hb
 clear hb hb2 hs2 hk2
 generalize u1.heap.size = bm at *
 have HT := ZcF w2.heap.size V (sb s) p1 k1 u2 (RR.below hW) hC (by omega) (by omega)
 have hm2 : ∀ tx p2 k2, txt8 (sb s) p1 k1 = (tx, p2, k2) -> 0 <= p2 /\ p2 <= (sb s).length /\ tx.size <= (sb s).length := fun tx p2 k2 h => by
  cases k1 with
  | false =>
   simp only [txt8, Bool.false_and, Bool.false_eq_true, if_false, Prod.mk.injEq] at h
   obtain ⟨rfl, rfl, _⟩ := h
   exact ⟨m13, m14, by simp [ByteArray.size]⟩
  | true =>
   have := ZdV (zs := sb s) hwf m13 m14
   rw [h] at this
   exact ⟨this.1, this.2.1, this.2.2.2⟩
 obtain ⟨tt, N2⟩ : ∃ n, txt8 (sb s) p1 k1 = n := ⟨_, rfl⟩
 obtain ⟨tx, p2, k2⟩ := tt
 obtain ⟨m21, m22, m23⟩ := hm2 tx p2 k2 N2
 rw [N2] at HT
 simp only at HT
 replace N2 : Hid (txt8 (sb s) p1 k1 = (tx, p2, k2)) := N2
 clear hm2
 go_wp2_with fail
 refine HT.mono ?_
 rintro e u3 ⟨rfl, hC, g⟩
 replace x0 := (g.block _ (Zao x0) (by simp; omega)).trans x0
 replace x1 := (g.block _ (Zao x1) (by simp; omega)).trans x1
 replace hB := hB.grown g hB.size (fun k hk => by cases hk; omega)
 replace hW := hW.grown g hW.size (fun k hk => by cases hk; omega)
 replace hp := (g.block _ (Zao hp) (by simp; omega)).trans hp
 clear HT g
 go_wp2_with fail
 refine (ZdZ w2.heap.size V (sb s) p2 k2 w2 u3 RR hW (Nat.le_refl _) hC m21 m22 hwf (by omega)).mono ?_
 rintro e u4 ⟨vb, ts, p3, k3, N3, rfl, ⟨m31, m32, m33⟩, hC, O2, g⟩
 obtain ⟨ab, cb, rfl⟩ := Zae O2
 have hlt2 : ∀ g, (Value.slice ab ts.length cb).ownBlock = some g -> g < u4.heap.size := fun g hg => (O2.lt g hg).2
 replace N3 : Hid (tsL (sb s) (num8 (sb s) p2 k2).1.toNat [] (num8 (sb s) p2 k2).2.1 (num8 (sb s) p2 k2).2.2 = (ts, p3, k3)) := N3
 replace O2 := Zaf (B' := bm + 1) O2 (by have := Zao hp; omega)
 replace x0 := (g.block _ (Zao x0) (by simp; omega)).trans x0
 replace x1 := (g.block _ (Zao x1) (by simp; omega)).trans x1
 replace hB := hB.grown g hB.size (fun k hk => by cases hk; omega)
 replace hW := hW.grown g hW.size (fun k hk => by cases hk; omega)
 replace hp := (g.block _ (Zao hp) (by simp; omega)).trans hp
 clear g
 go_wp2_with (refine Zaa rfl 68 _ _ rfl bm 9 (.slice ab ts.length cb) #[.slice ab ts.length cb] rfl rfl rfl rfl 70 #[.int .i64 i, .slice none 0 0, .int .i64 0, .int .i64 0, .int .i64 0, .int .i64 0, .int .i64 0, .int .i64 0, .int .i64 0, .slice none 0 0, .slice none 0 0] #[.int .i64 i, .slice none 0 0, .int .i64 0, .int .i64 0, .int .i64 0, .int .i64 0, .int .i64 0, .int .i64 0, .int .i64 0, .slice ab ts.length cb, .slice none 0 0] hp (by simp) (by kernel_rfl) rfl ?_)
 intro u5 hp5 hb5 hs5 hk5
 replace x0 := (hk5 _ (by omega)).trans x0
 replace x1 := (hk5 _ (by omega)).trans x1
 replace hC := ZjI hC hk5 (by omega)
 replace O2 := ZaC O2 (Zay O2 hp (by decide)) hk5
 replace hB := hB.trans (hb5.mono (by omega))
 replace hW := hW.trans (hb5.mono (by omega))
 replace hp := hp5
 rw [<- hs5] at hlt2
 clear hp5 hb5 hs5 hk5
 go_wp2_with fail
 refine (ZdZ w2.heap.size V (sb s) p3 k3 w2 u5 RR hW (Nat.le_refl _) hC m31 m32 hwf (by omega)).mono ?_
 rintro e u6 ⟨vo, os, p4, k4, N4, rfl, ⟨m41, m42, m43⟩, hC, O3, g⟩
 obtain ⟨ac, cc, rfl⟩ := Zae O3
 have AP : ∀ g, (Value.slice ac os.length cc).ownBlock = some g -> (Value.slice ab ts.length cb).ownBlock ≠ some g := fun g h3 h2 => by
  have k1 := (O3.lt g h3).1
  have k2 := hlt2 g h2
  omega
 clear hlt2
 replace N4 : Hid (tsL (sb s) (num8 (sb s) p3 k3).1.toNat [] (num8 (sb s) p3 k3).2.1 (num8 (sb s) p3 k3).2.2 = (os, p4, k4)) := N4
 replace O3 := Zaf (B' := bm + 1) O3 (by have := Zao hp; omega)
 replace x0 := (g.block _ (Zao x0) (by simp; omega)).trans x0
 replace x1 := (g.block _ (Zao x1) (by simp; omega)).trans x1
 replace hB := hB.grown g hB.size (fun k hk => by cases hk; omega)
 replace hW := hW.grown g hW.size (fun k hk => by cases hk; omega)
 replace hp := (g.block _ (Zao hp) (by simp; omega)).trans hp
 replace O2 := Zb8 O2 (by omega) g
 clear g
 go_wp2_with (refine Zaa rfl 68 _ _ rfl bm 10 (.slice ac os.length cc) #[.slice ac os.length cc] rfl rfl rfl rfl 70 #[.int .i64 i, .slice none 0 0, .int .i64 0, .int .i64 0, .int .i64 0, .int .i64 0, .int .i64 0, .int .i64 0, .int .i64 0, .slice ab ts.length cb, .slice none 0 0] #[.int .i64 i, .slice none 0 0, .int .i64 0, .int .i64 0, .int .i64 0, .int .i64 0, .int .i64 0, .int .i64 0, .int .i64 0, .slice ab ts.length cb, .slice ac os.length cc] hp (by simp) (by kernel_rfl) rfl ?_)
 intro u7 hp7 hb7 hs7 hk7
 replace x0 := (hk7 _ (by omega)).trans x0
 replace x1 := (hk7 _ (by omega)).trans x1
 replace hC := ZjI hC hk7 (by omega)
 replace O2 := ZaC O2 (Zay O2 hp (by decide)) hk7
 replace O3 := ZaC O3 (Zay O3 hp (by decide)) hk7
 replace hB := hB.trans (hb7.mono (by omega))
 replace hW := hW.trans (hb7.mono (by omega))
 replace hp := hp7
 clear hp7 hb7 hs7 hk7
 obtain ⟨D1, D2⟩ := ZkT (ns := ns) (is := is) (ds := ds) N1.out N2.out N3.out N4.out
 replace D1 : Hid (pdR ns is ds (sb s) = if k4 && decide (p4 = (sb s).length) then (mrR ns is ds (sb tx)).bind fun r => if ZbN ns is ds i r.1 r.2 ts os then some (i, r, ts, os) else none else none) := D1
 clear N1 N2 N3 N4
 have HM := ZhU _ _ _ ns is ds tx u7 (R1.below hB) (R2.below hB) (R3.below hB) (by omega)
 unfold MrAns at HM
 have HX : (mrL (mrR ns is ds (sb tx))).length <= 3000 /\ ∀ x ∈ mrL (mrR ns is ds (sb tx)), x.s.size <= maxLen := by
  cases hm : mrR ns is ds (sb tx) with
  | none => exact ⟨by simp [mrL], by simp [mrL]⟩
  | some r =>
   obtain ⟨xs, m⟩ := r
   have hp := ZiE hm
   exact ⟨ZaE hp, Zby (ZbH hp)⟩
 have D3 : (mrR ns is ds (sb tx)).isSome = true -> mrR ns is ds (sb tx) = some (mrL (mrR ns is ds (sb tx)), mrM (mrR ns is ds (sb tx))) := fun h => by
  cases hm : mrR ns is ds (sb tx) with
  | none => rw [hm] at h; cases h
  | some r => rfl
 have D4 : (mrR ns is ds (sb tx)).isSome = false -> mrR ns is ds (sb tx) = none := fun h => by
  cases hm : mrR ns is ds (sb tx) with
  | none => rfl
  | some r => rw [hm] at h; cases h
 generalize mrL (mrR ns is ds (sb tx)) = X at *
 generalize mrM (mrR ns is ds (sb tx)) = M at *
 generalize (mrR ns is ds (sb tx)).isSome = mk at *
 go_wp2_with (refine wpList_load_row rfl 44 _ rfl w.heap.size rfl 44 #[.slice a1 ns.length c1, .slice a2 is.length c2, .slice a3 ds.length c3] (0, 0) _ x0 Tryz.underlying44 rfl Zmb ?_)
 refine HM.mono ?_
 rintro e u8 ⟨⟨vm, rfl, O1⟩, hb⟩
 obtain ⟨am, cm, rfl⟩ := Zae O1
 replace O1 := Zaf (B' := bm + 1) O1 (by have := Zao hp; omega)
 replace x0 := Zak x0 hb
 replace x1 := Zak x1 hb
 replace hB := hB.trans (hb.mono hB.size)
 replace hW := hW.trans (hb.mono hW.size)
 replace hC := ZeW hC hb
 replace hp := Zak hp hb
 replace O2 := Zac O2 hb
 replace O3 := Zac O3 hb
 clear hb HM
 go_wp2_with (refine Zad rfl 67 _ _ rfl u8.heap.size #[.slice am X.length cm, .int .i64 M.p, .int .i64 M.s, .int .i64 M.e, .int .i64 M.d, .int .i64 M.t, .int .i64 M.q, .int .i64 M.r] rfl rfl 67 #[.slice none 0 0, .int .i64 0, .int .i64 0, .int .i64 0, .int .i64 0, .int .i64 0, .int .i64 0, .int .i64 0] (heap_alloc_new _ _) Zmc rfl (by simp [Value.oneCell']) ?_)
 intro u9 hm9 hb9 hs9 hk9
 have hb : Below u8.heap.size u8 u9 := ((Below.refl _ _).alloc (Nat.le_refl _) _).trans hb9
 have lbm : bm < u8.heap.size := Zao hp
 replace x0 := Zak x0 hb
 replace x1 := Zak x1 hb
 replace hB := hB.trans (hb.mono hB.size)
 replace hW := hW.trans (hb.mono hW.size)
 replace hC := ZeW hC hb
 replace hp := Zak hp hb
 replace O1 := Zac O1 hb
 replace O2 := Zac O2 hb
 replace O3 := Zac O3 hb
 clear hb hb9 hs9 hk9
 generalize u8.heap.size = bq at *
 go_wp2_with (first
  | (refine wpList_load_row rfl 67 _ rfl bq rfl 67 #[.slice am X.length cm, .int .i64 M.p, .int .i64 M.s, .int .i64 M.e, .int .i64 M.d, .int .i64 M.t, .int .i64 M.q, .int .i64 M.r] (0, 0) _ hm9 Tryz.underlying67 rfl Zmc ?_)
  | (refine ZaH rfl 67 _ _ rfl bm 1 #[.slice am X.length cm, .int .i64 M.p, .int .i64 M.s, .int .i64 M.e, .int .i64 M.d, .int .i64 M.t, .int .i64 M.q, .int .i64 M.r] rfl rfl 70 #[.int .i64 i, .slice none 0 0, .int .i64 0, .int .i64 0, .int .i64 0, .int .i64 0, .int .i64 0, .int .i64 0, .int .i64 0, .slice ab ts.length cb, .slice ac os.length cc] #[.int .i64 i, .slice am X.length cm, .int .i64 M.p, .int .i64 M.s, .int .i64 M.e, .int .i64 M.d, .int .i64 M.t, .int .i64 M.q, .int .i64 M.r, .slice ab ts.length cb, .slice ac os.length cc] hp (by simp) Zmc (by simp [Value.oneCell']) rfl ?_))
 intro uA hpA hbA hsA hkA
 replace x0 := (hkA _ (by omega)).trans x0
 replace x1 := (hkA _ (by omega)).trans x1
 replace hC := ZjI hC hkA (by omega)
 replace O1 := ZaC O1 (Zay O1 hp (by decide)) hkA
 replace O2 := ZaC O2 (Zay O2 hp (by decide)) hkA
 replace O3 := ZaC O3 (Zay O3 hp (by decide)) hkA
 replace hB := hB.trans (hbA.mono (by omega))
 replace hW := hW.trans (hbA.mono (by omega))
 replace hp := hpA
 clear hpA hbA hsA hkA hm9
 have lx := Zao x1
 have e1' : uA.cell? ⟨w2.heap.size, 0 + 1, none⟩ = some (.int .i64 p4) := cell_of_row _ _ 1 _ _ _ hC
 have e2' : uA.cell? ⟨w2.heap.size, 0 + 2, none⟩ = some (.bool k4) := cell_of_row _ _ 2 _ _ _ hC
 cases k4 with
 | false =>
  have HN : Hid (pdR ns is ds (sb s) = none) := D1.out
  clear D1 D2 D3 D4
  go_wp2_with (refine Zad rfl 70 _ _ rfl (w.heap.size + 1) #[.int .i64 0, .slice none 0 0, .int .i64 0, .int .i64 0, .int .i64 0, .int .i64 0, .int .i64 0, .int .i64 0, .int .i64 0, .slice none 0 0, .slice none 0 0] rfl rfl 70 #[.int .i64 0, .slice none 0 0, .int .i64 0, .int .i64 0, .int .i64 0, .int .i64 0, .int .i64 0, .int .i64 0, .int .i64 0, .slice none 0 0, .slice none 0 0] x1 Zma rfl (by simp [Value.oneCell']) ?_)
  intro wB hvB hbB hsB hkB
  go_wp2
  refine bodyPost_ret (Zab rfl _ _ (w.heap.size + 1) 70 _ (0, 0) _ rfl hvB Tryz.underlying70 rfl Zma) rfl ⟨PaAns.zero2 HN.out, hB.trans (hbB.mono (by omega))⟩
 | true =>
  obtain ⟨zt, zo⟩ := D2 rfl
  by_cases hend : p4 = (s.size : Int)
  rotate_left
  ·have HN : Hid (pdR ns is ds (sb s) = none) := by
    unfold Hid
    rw [D1.out]
    have : decide (p4 = ((sb s).length : Int)) = false := by simp; omega
    rw [this]
    rfl
   have hne : (p4 != (s.size : Int)) = true := by simp [hend]
   clear D1 D2 D3 D4
   go_wp2_with (refine Zad rfl 70 _ _ rfl (w.heap.size + 1) #[.int .i64 0, .slice none 0 0, .int .i64 0, .int .i64 0, .int .i64 0, .int .i64 0, .int .i64 0, .int .i64 0, .int .i64 0, .slice none 0 0, .slice none 0 0] rfl rfl 70 #[.int .i64 0, .slice none 0 0, .int .i64 0, .int .i64 0, .int .i64 0, .int .i64 0, .int .i64 0, .int .i64 0, .int .i64 0, .slice none 0 0, .slice none 0 0] x1 Zma rfl (by simp [Value.oneCell']) ?_)
   intro wB hvB hbB hsB hkB
   go_wp2
   refine bodyPost_ret (Zab rfl _ _ (w.heap.size + 1) 70 _ (0, 0) _ rfl hvB Tryz.underlying70 rfl Zma) rfl ⟨PaAns.zero2 HN.out, hB.trans (hbB.mono (by omega))⟩
  have D5 : Hid (pdR ns is ds (sb s) = (mrR ns is ds (sb tx)).bind fun r => if ZbN ns is ds i r.1 r.2 ts os then some (i, r, ts, os) else none) := by
   unfold Hid
   rw [D1.out]
   have : decide (p4 = ((sb s).length : Int)) = true := by simp; omega
   rw [this]
   rfl
  have heq : (p4 != (s.size : Int)) = false := by simp [hend]
  cases mk with
  | false =>
   have HN : Hid (pdR ns is ds (sb s) = none) := by unfold Hid; rw [D5.out, D4 rfl]; rfl
   clear D1 D2 D3 D4 D5 hend
   go_wp2_with (refine Zad rfl 70 _ _ rfl (w.heap.size + 1) #[.int .i64 0, .slice none 0 0, .int .i64 0, .int .i64 0, .int .i64 0, .int .i64 0, .int .i64 0, .int .i64 0, .int .i64 0, .slice none 0 0, .slice none 0 0] rfl rfl 70 #[.int .i64 0, .slice none 0 0, .int .i64 0, .int .i64 0, .int .i64 0, .int .i64 0, .int .i64 0, .int .i64 0, .int .i64 0, .slice none 0 0, .slice none 0 0] x1 Zma rfl (by simp [Value.oneCell']) ?_)
   intro wB hvB hbB hsB hkB
   go_wp2
   refine bodyPost_ret (Zab rfl _ _ (w.heap.size + 1) 70 _ (0, 0) _ rfl hvB Tryz.underlying70 rfl Zma) rfl ⟨PaAns.zero2 HN.out, hB.trans (hbB.mono (by omega))⟩
  | true =>
   have HD : Hid (pdR ns is ds (sb s) = if ZbN ns is ds i X M ts os then some (i, (X, M), ts, os) else none) := by unfold Hid; rw [D5.out, D3 rfl]; rfl
   clear D1 D2 D3 D4 D5 hend
   have c0 : uA.cell? ⟨w.heap.size, 0, none⟩ = some (.slice a1 ns.length c1) := cell_of_row uA _ 0 _ _ _ x0
   have c1' : uA.cell? ⟨w.heap.size, 0 + 1, none⟩ = some (.slice a2 is.length c2) := cell_of_row uA _ 1 _ _ _ x0
   have c2' : uA.cell? ⟨w.heap.size, 0 + 2, none⟩ = some (.slice a3 ds.length c3) := cell_of_row uA _ 2 _ _ _ x0
   have e0 : uA.cell? ⟨bm, 0, none⟩ = some (.int .i64 i) := cell_of_row uA _ 0 _ _ _ hp
   have e1 : uA.cell? ⟨bm, 0 + 1, none⟩ = some (.slice am X.length cm) := cell_of_row uA _ 1 _ _ _ hp
   have e2 : uA.cell? ⟨bm, 0 + 2, none⟩ = some (.int .i64 M.p) := cell_of_row uA _ 2 _ _ _ hp
   have e3 : uA.cell? ⟨bm, 0 + 3, none⟩ = some (.int .i64 M.s) := cell_of_row uA _ 3 _ _ _ hp
   have e4 : uA.cell? ⟨bm, 0 + 4, none⟩ = some (.int .i64 M.e) := cell_of_row uA _ 4 _ _ _ hp
   have e5 : uA.cell? ⟨bm, 0 + 5, none⟩ = some (.int .i64 M.d) := cell_of_row uA _ 5 _ _ _ hp
   have e6 : uA.cell? ⟨bm, 0 + 6, none⟩ = some (.int .i64 M.t) := cell_of_row uA _ 6 _ _ _ hp
   have e7 : uA.cell? ⟨bm, 0 + 7, none⟩ = some (.int .i64 M.q) := cell_of_row uA _ 7 _ _ _ hp
   have e8 : uA.cell? ⟨bm, 0 + 8, none⟩ = some (.int .i64 M.r) := cell_of_row uA _ 8 _ _ _ hp
   have e9 : uA.cell? ⟨bm, 0 + 9, none⟩ = some (.slice ab ts.length cb) := cell_of_row uA _ 9 _ _ _ hp
   have e10 : uA.cell? ⟨bm, 0 + 10, none⟩ = some (.slice ac os.length cc) := cell_of_row uA _ 10 _ _ _ hp
   have OK := Zgg _ _ _ _ _ _ ns is ds i X M ts os uA (R1.below hB) (R2.below hB) (R3.below hB) (NRow.of_own O1 (by omega) HX.2) (StRow.of_own O2 (by omega) (fun x hx => by have := zt x hx; unfold maxLen; omega)) (StRow.of_own O3 (by omega) (fun x hx => by have := zo x hx; unfold maxLen; omega)) (fun x hx => by have := zt x hx; omega)
   go_wp2_with fail
   refine OK.mono ?_
   rintro e uC ⟨rfl, hb⟩
   replace x1 := Zak x1 hb
   replace hp := Zak hp hb
   replace O1 := Zac O1 hb
   replace O2 := Zac O2 hb
   replace O3 := Zac O3 hb
   replace hB := hB.trans (hb.mono hB.size)
   replace lx := Zao x1
   clear hb OK c0 c1' c2' e0 e1 e2 e3 e4 e5 e6 e7 e8 e9 e10 e1' e2'
   cases hP : ZbN ns is ds i X M ts os with
   | false =>
    have HN : Hid (pdR ns is ds (sb s) = none) := by unfold Hid; rw [HD.out, hP]; rfl
    go_wp2_with (refine Zad rfl 70 _ _ rfl (w.heap.size + 1) #[.int .i64 0, .slice none 0 0, .int .i64 0, .int .i64 0, .int .i64 0, .int .i64 0, .int .i64 0, .int .i64 0, .int .i64 0, .slice none 0 0, .slice none 0 0] rfl rfl 70 #[.int .i64 0, .slice none 0 0, .int .i64 0, .int .i64 0, .int .i64 0, .int .i64 0, .int .i64 0, .int .i64 0, .int .i64 0, .slice none 0 0, .slice none 0 0] x1 Zma rfl (by simp [Value.oneCell']) ?_)
    intro wB hvB hbB hsB hkB
    go_wp2
    refine bodyPost_ret (Zab rfl _ _ (w.heap.size + 1) 70 _ (0, 0) _ rfl hvB Tryz.underlying70 rfl Zma) rfl ⟨PaAns.zero2 HN.out, hB.trans (hbB.mono (by omega))⟩
   | true =>
    have HN : Hid (pdR ns is ds (sb s) = some (i, (X, M), ts, os)) := by unfold Hid; rw [HD.out, hP]; rfl
    go_wp2_with (first
     | (refine wpList_load_row rfl 70 _ rfl bm rfl 70 #[.int .i64 i, .slice am X.length cm, .int .i64 M.p, .int .i64 M.s, .int .i64 M.e, .int .i64 M.d, .int .i64 M.t, .int .i64 M.q, .int .i64 M.r, .slice ab ts.length cb, .slice ac os.length cc] (0, 0) _ hp Tryz.underlying70 rfl Zma ?_)
     | (refine Zad rfl 70 _ _ rfl (w.heap.size + 1) #[.int .i64 i, .slice am X.length cm, .int .i64 M.p, .int .i64 M.s, .int .i64 M.e, .int .i64 M.d, .int .i64 M.t, .int .i64 M.q, .int .i64 M.r, .slice ab ts.length cb, .slice ac os.length cc] rfl rfl 70 #[.int .i64 0, .slice none 0 0, .int .i64 0, .int .i64 0, .int .i64 0, .int .i64 0, .int .i64 0, .int .i64 0, .int .i64 0, .slice none 0 0, .slice none 0 0] x1 Zma rfl (by simp [Value.oneCell']) ?_))
    intro wB hvB hbB hsB hkB
    replace O1 := Zaf (B' := w.heap.size) (Zal O1 (by omega) hkB) (by omega)
    replace O2 := Zaf (B' := w.heap.size) (Zal O2 (by omega) hkB) (by omega)
    replace O3 := Zaf (B' := w.heap.size) (Zal O3 (by omega) hkB) (by omega)
    go_wp2
    refine bodyPost_ret (Zab rfl _ _ (w.heap.size + 1) 70 _ (0, 0) _ rfl hvB Tryz.underlying70 rfl Zma) rfl ⟨⟨i, X, M, ts, os, true, _, _, _, by rw [HN.out]; rfl, rfl, O1, O2, O3, AP⟩, hB.trans (hbB.mono (by omega))⟩
set_option maxRecDepth 100000 in
set_option maxHeartbeats 6400000 in
theorem Zep (v1 v2 v3 : Value) (ns : List Nd) (is : List In) (ds : List Df) (s : ByteArray) (w : World) (R1 : NRow w v1 ns) (R2 : InRow w v2 is) (R3 : DfRow w v3 ds) (hs : s.size <= 1048576) (hg : ErrT w) :
  Calls Tryz.prog 154 #[.agg #[v1, v2, v3], .string s] w fun e w' => PaAns w.heap.size (pdT (pdR ns is ds (sb s))) e w' /\ Below w.heap.size w w' := by
 obtain ⟨a1, c1, rfl⟩ := R1.small
 obtain ⟨a2, c2, rfl⟩ := R2.small
 obtain ⟨a3, c3, rfl⟩ := R3.small
 have hzl := ZaF s
 obtain ⟨hB, hk, hy⟩ := Zat w (Obj.cells #[.slice a1 ns.length c1, .slice a2 is.length c2, .slice a3 ds.length c3] 44) (Obj.cells #[.int .i64 0, .slice none 0 0, .int .i64 0, .int .i64 0, .int .i64 0, .int .i64 0, .int .i64 0, .int .i64 0, .int .i64 0, .slice none 0 0, .slice none 0 0] 70)
 go_enter Tryz.func154, Tryz.ntmps154
 go_wp2_with fail
 refine Zlf w.heap.size _ _ _ s (paT ns is ds (Zb6 (sb s))) _ _ hk (by omega) (fun vr W0 P W RR hbW hbR hPW hone => ZiC vr (sb s) W0 W P _ _ _ ns is ds RR hbR hPW hone (R1.below (hB.trans (hbW.mono hB.size))) (R2.below (hB.trans (hbW.mono hB.size))) (R3.below (hB.trans (hbW.mono hB.size))) (hg.below (hB.trans (hbW.mono hB.size)) (Nat.le_refl _)) (by omega)) ?_
 intro _ _ _ _ _ _ _ bp I X M BX OX ok m1 m2 m3 e1 e2 e3 w2 hbp hb hp eT O1 O2 O3 AP
 obtain ⟨F1, F2, zb, zo, ⟨lX, zX⟩, lB, lO⟩ := ZlL eT
 replace hk := Zak hk hb
 replace hy := Zak hy hb
 have hb0 : w.heap.size + 2 <= bp := by simpa using hbp
 replace O1 := Zaf (B' := w.heap.size + 2) O1 (by simp)
 replace O2 := Zaf (B' := w.heap.size + 2) O2 (by simp)
 replace O3 := Zaf (B' := w.heap.size + 2) O3 (by simp)
 replace hB := hB.trans (hb.mono hB.size)
 clear hb hbp eT
 have ly := Zao hy
 cases ok with
 | false =>
  have HN : Hid (pdR ns is ds (sb s) = none) := F1 rfl
  clear F1 F2
  go_wp2_with (refine Zad rfl 70 _ _ rfl (w.heap.size + 1) #[.int .i64 0, .slice none 0 0, .int .i64 0, .int .i64 0, .int .i64 0, .int .i64 0, .int .i64 0, .int .i64 0, .int .i64 0, .slice none 0 0, .slice none 0 0] rfl rfl 70 #[.int .i64 0, .slice none 0 0, .int .i64 0, .int .i64 0, .int .i64 0, .int .i64 0, .int .i64 0, .int .i64 0, .int .i64 0, .slice none 0 0, .slice none 0 0] hy Zma rfl (by simp [Value.oneCell']) ?_)
  intro wB hvB hbB hsB hkB
  go_wp2
  refine bodyPost_ret (Zab rfl _ _ (w.heap.size + 1) 70 _ (0, 0) _ rfl hvB Tryz.underlying70 rfl Zma) rfl ⟨PaAns.zero2 HN.out, hB.trans (hbB.mono (by omega))⟩
 | true =>
  have HD : Hid (pdR ns is ds (sb s) = if ZbN ns is ds I X M BX OX then some (I, (X, M), BX, OX) else none) := F2 rfl
  have c0 : w2.cell? ⟨w.heap.size, 0, none⟩ = some (.slice a1 ns.length c1) := cell_of_row w2 _ 0 _ _ _ hk
  have c1' : w2.cell? ⟨w.heap.size, 0 + 1, none⟩ = some (.slice a2 is.length c2) := cell_of_row w2 _ 1 _ _ _ hk
  have c2' : w2.cell? ⟨w.heap.size, 0 + 2, none⟩ = some (.slice a3 ds.length c3) := cell_of_row w2 _ 2 _ _ _ hk
  have k0 : w2.cell? ⟨bp, 0, none⟩ = some (.int .i64 I) := cell_of_row w2 _ 0 _ _ _ hp
  have k1 : w2.cell? ⟨bp, 0 + 1, none⟩ = some (.slice m1 X.length e1) := cell_of_row w2 _ 1 _ _ _ hp
  have k2 : w2.cell? ⟨bp, 0 + 2, none⟩ = some (.int .i64 M.p) := cell_of_row w2 _ 2 _ _ _ hp
  have k3 : w2.cell? ⟨bp, 0 + 3, none⟩ = some (.int .i64 M.s) := cell_of_row w2 _ 3 _ _ _ hp
  have k4 : w2.cell? ⟨bp, 0 + 4, none⟩ = some (.int .i64 M.e) := cell_of_row w2 _ 4 _ _ _ hp
  have k5 : w2.cell? ⟨bp, 0 + 5, none⟩ = some (.int .i64 M.d) := cell_of_row w2 _ 5 _ _ _ hp
  have k6 : w2.cell? ⟨bp, 0 + 6, none⟩ = some (.int .i64 M.t) := cell_of_row w2 _ 6 _ _ _ hp
  have k7 : w2.cell? ⟨bp, 0 + 7, none⟩ = some (.int .i64 M.q) := cell_of_row w2 _ 7 _ _ _ hp
  have k8 : w2.cell? ⟨bp, 0 + 8, none⟩ = some (.int .i64 M.r) := cell_of_row w2 _ 8 _ _ _ hp
  have k9 : w2.cell? ⟨bp, 0 + 9, none⟩ = some (.slice m2 BX.length e2) := cell_of_row w2 _ 9 _ _ _ hp
  have k10 : w2.cell? ⟨bp, 0 + 10, none⟩ = some (.slice m3 OX.length e3) := cell_of_row w2 _ 10 _ _ _ hp
  have OK := ZfU _ _ _ _ _ _ ns is ds I X M BX OX w2 (R1.below hB) (R2.below hB) (R3.below hB) (NRow.of_own O1 (by omega) zX) (StRow.of_own O2 (by omega) (fun x hx => by have := zb x hx; unfold maxLen; omega)) (StRow.of_own O3 (by omega) (fun x hx => by have := zo x hx; unfold maxLen; omega)) (fun x hx => by have := zb x hx; omega) (hg.below hB (Nat.le_refl _))
  clear F1 F2
  go_wp2_with fail
  refine OK.mono ?_
  rintro e w3 ⟨rfl, hb⟩
  replace hy := Zak hy hb
  replace hp := Zak hp hb
  replace O1 := Zac O1 hb
  replace O2 := Zac O2 hb
  replace O3 := Zac O3 hb
  replace hB := hB.trans (hb.mono hB.size)
  clear hb OK hk c0 c1' c2' k0 k1 k2 k3 k4 k5 k6 k7 k8 k9 k10
  replace ly := Zao hy
  cases hP : ZbN ns is ds I X M BX OX with
  | false =>
   have HN : Hid (pdR ns is ds (sb s) = none) := by unfold Hid; rw [HD.out, hP]; rfl
   go_wp2_with (refine Zad rfl 70 _ _ rfl (w.heap.size + 1) #[.int .i64 0, .slice none 0 0, .int .i64 0, .int .i64 0, .int .i64 0, .int .i64 0, .int .i64 0, .int .i64 0, .int .i64 0, .slice none 0 0, .slice none 0 0] rfl rfl 70 #[.int .i64 0, .slice none 0 0, .int .i64 0, .int .i64 0, .int .i64 0, .int .i64 0, .int .i64 0, .int .i64 0, .int .i64 0, .slice none 0 0, .slice none 0 0] hy Zma rfl (by simp [Value.oneCell']) ?_)
   intro wB hvB hbB hsB hkB
   go_wp2
   refine bodyPost_ret (Zab rfl _ _ (w.heap.size + 1) 70 _ (0, 0) _ rfl hvB Tryz.underlying70 rfl Zma) rfl ⟨PaAns.zero2 HN.out, hB.trans (hbB.mono (by omega))⟩
  | true =>
   have HN : Hid (pdR ns is ds (sb s) = some (I, (X, M), BX, OX)) := by unfold Hid; rw [HD.out, hP]; rfl
   go_wp2_with (first
    | (refine wpList_load_row rfl 70 _ rfl bp rfl 70 #[.int .i64 I, .slice m1 X.length e1, .int .i64 M.p, .int .i64 M.s, .int .i64 M.e, .int .i64 M.d, .int .i64 M.t, .int .i64 M.q, .int .i64 M.r, .slice m2 BX.length e2, .slice m3 OX.length e3] (0, 0) _ hp Tryz.underlying70 rfl Zma ?_)
    | (refine Zad rfl 70 _ _ rfl (w.heap.size + 1) #[.int .i64 I, .slice m1 X.length e1, .int .i64 M.p, .int .i64 M.s, .int .i64 M.e, .int .i64 M.d, .int .i64 M.t, .int .i64 M.q, .int .i64 M.r, .slice m2 BX.length e2, .slice m3 OX.length e3] rfl rfl 70 #[.int .i64 0, .slice none 0 0, .int .i64 0, .int .i64 0, .int .i64 0, .int .i64 0, .int .i64 0, .int .i64 0, .int .i64 0, .slice none 0 0, .slice none 0 0] hy Zma rfl (by simp [Value.oneCell']) ?_))
   intro wB hvB hbB hsB hkB
   replace O1 := Zaf (B' := w.heap.size) (Zal O1 (by omega) hkB) (by omega)
   replace O2 := Zaf (B' := w.heap.size) (Zal O2 (by omega) hkB) (by omega)
   replace O3 := Zaf (B' := w.heap.size) (Zal O3 (by omega) hkB) (by omega)
   go_wp2
   refine bodyPost_ret (Zab rfl _ _ (w.heap.size + 1) 70 _ (0, 0) _ rfl hvB Tryz.underlying70 rfl Zma) rfl ⟨⟨I, X, M, BX, OX, true, _, _, _, by rw [HN.out]; rfl, rfl, O1, O2, O3, AP⟩, hB.trans (hbB.mono (by omega))⟩
theorem ZbR {a b : Int} (h : a = b) : Ending.returned (.int .i64 a) = .returned (.int .i64 b) := by rw [h]
theorem ZkF (r : Option (Int × Int × ByteArray)) : ∃ k p t ok, mrA r = .tuple #[.int .i64 k, .int .i64 p, .string t, .bool ok] /\ (ok = false -> r = none) /\ (ok = true -> r = some (k, p, t)) := by
  cases r with
  | none => exact ⟨_, _, _, false, rfl, (fun _ => rfl), (fun h => by cases h)⟩
  | some q => exact ⟨_, _, _, true, rfl, (fun h => by cases h), fun _ => rfl⟩
set_option maxRecDepth 100000 in
set_option maxHeartbeats 3200000 in
theorem Ze2 (vn vi vf vh vl vg vp va vt : Value) (d : Wd) (s : ByteArray) (B : Nat) (w : World) (R : WR B w vn vi vf vh vl vg vp va vt d) (hs : s.size <= 1048576) :
    Calls Tryz.prog 25 #[.agg #[vn, vi, vf, .int .i64 d.pl, vh, vl, vg, vp, .int .i64 d.nx, va, vt], .string s] w fun e w' => e = .returned (.int .i64 (movN d.ns d.is d.ds s)) /\ Below w.heap.size w w' := by
  have R0 := R
  obtain ⟨⟨an, cn, rfl⟩, ⟨ai, ci, rfl⟩, ⟨af, cf, rfl⟩, ⟨ah, ch, rfl⟩, ⟨al, cl, rfl⟩, ⟨ag, cg, rfl⟩, ⟨ap, cp, rfl⟩, ⟨aa, ca, rfl⟩, ⟨ab, cb, rfl⟩⟩ := R.form
  clear R
  have hB0 := ZaI w (Obj.cells #[.slice an d.ns.length cn, .slice ai d.is.length ci, .slice af d.ds.length cf, .int .i64 d.pl, .slice ah d.hs.length ch, .slice al d.ls.length cl, .slice ag d.gs.length cg, .slice ap d.ps.length cp, .int .i64 d.nx, .slice aa d.ga.length ca, .slice ab d.tk.length cb] 50)
  have hx0 := heap_alloc_new w (Obj.cells #[.slice an d.ns.length cn, .slice ai d.is.length ci, .slice af d.ds.length cf, .int .i64 d.pl, .slice ah d.hs.length ch, .slice al d.ls.length cl, .slice ag d.gs.length cg, .slice ap d.ps.length cp, .int .i64 d.nx, .slice aa d.ga.length ca, .slice ab d.tk.length cb] 50)
  have hsl := ZaF s
  go_enter Tryz.func25, Tryz.ntmps25
  go_wp2_with fail
  generalize w.alloc (Obj.cells #[.slice an d.ns.length cn, .slice ai d.is.length ci, .slice af d.ds.length cf, .int .i64 d.pl, .slice ah d.hs.length ch, .slice al d.ls.length cl, .slice ag d.gs.length cg, .slice ap d.ps.length cp, .int .i64 d.nx, .slice aa d.ga.length ca, .slice ab d.tk.length cb] 50) = w0 at *
  refine (Zij s _ hs).mono ?_
  rintro e w1 ⟨rfl, hb⟩
  obtain ⟨k, p, t, ok, hr, hn, hy⟩ := ZkF (mrd (sb s))
  rw [hr]
  replace hx0 := Zak hx0 hb
  replace hB0 := hB0.trans (hb.mono hB0.size)
  clear hb hr
  cases ok with
  | false =>
    have HR : Hid (movN d.ns d.is d.ds s = 0) := Zfi (hn rfl)
    clear hn hy hx0
    go_wp2
    go_ret
    exact ⟨ZbR HR.out.symm, hB0⟩
  | true =>
    have hm := hy rfl
    have HM : Hid (mrd (sb s) = some (k, p, t)) := hm
    clear hn hy
    by_cases hk : k = 2
    · subst hk
      have hts : t.size <= 1048576 := by have := ZgJ hm; omega
      have HV : Hid (movN d.ns d.is d.ds s = (pdT (pdR d.ns d.is d.ds (sb t))).1) := Zfs hm
      clear hm
      go_wp2_with (refine Zan rfl 44 _ rfl w.heap.size 0 rfl _ 50 #[.slice an d.ns.length cn, .slice ai d.is.length ci, .slice af d.ds.length cf] _ hx0 rfl Tryz.underlying44 rfl Zl7 ?_)
      refine (ZeU _ _ _ d.ns d.is d.ds t _ (R0.rn.below hB0) (R0.ri.below hB0) (R0.rf.below hB0) hts).mono ?_
      rintro e w2 ⟨⟨I, X, M, BX, OX, ok, y1, y2, y3, hT, rfl, O1, O2, O3, _⟩, hb⟩
      obtain ⟨p1, q1, rfl⟩ := Zae O1
      obtain ⟨p2, q2, rfl⟩ := Zae O2
      obtain ⟨p3, q3, rfl⟩ := Zae O3
      have hpos := Zjd hT
      rw [hT] at HV
      replace hB0 := hB0.trans (hb.mono hB0.size)
      clear hb hT O1 O2 O3 hx0
      go_wp2_with (refine Zah rfl 70 _ _ rfl w2.heap.size #[.int .i64 I, .slice p1 X.length q1, .int .i64 M.p, .int .i64 M.s, .int .i64 M.e, .int .i64 M.d, .int .i64 M.t, .int .i64 M.q, .int .i64 M.r, .slice p2 BX.length q2, .slice p3 OX.length q3] rfl rfl 70 _ (heap_alloc_new _ _) Zma rfl (by simp [Value.oneCell']) ?_)
      intro w3 hv hbv hsv
      have hb : Below w2.heap.size w2 w3 := ((Below.refl _ _).alloc (Nat.le_refl _) _).trans hbv
      replace hB0 := hB0.trans (hb.mono hB0.size)
      have c0 : w3.cell? ⟨w2.heap.size, 0, none⟩ = some (.int .i64 I) := cell_of_row w3 _ 0 _ _ _ hv
      clear hb hbv hsv hv
      cases ok with
      | false =>
        have HR : Hid (movN d.ns d.is d.ds s = 0) := by unfold Hid; rw [HV.out]; exact hpos.2 rfl
        clear HV hpos
        go_wp2
        go_ret
        exact ⟨ZbR HR.out.symm, hB0⟩
      | true =>
        clear hpos
        go_wp2
        go_ret
        exact ⟨ZbR HV.out.symm, hB0⟩
    · have HR : Hid (movN d.ns d.is d.ds s = 0) := Zek hm hk
      have hk2 : (k != 2) = true := by simpa using hk
      clear hm hx0 HM
      go_wp2
      go_ret
      exact ⟨ZbR HR.out.symm, hB0⟩
set_option maxRecDepth 100000 in
set_option maxHeartbeats 3200000 in
theorem Zie (vn vi vf vh vl vg vp va vt : Value) (d : Wd) (s : ByteArray) (p : Int) (B : Nat) (w : World) (R : WR B w vn vi vf vh vl vg vp va vt d) (hs : s.size <= 1048576) (hE : ErrT w) :
    Calls Tryz.prog 126 #[.agg #[vn, vi, vf, .int .i64 d.pl, vh, vl, vg, vp, .int .i64 d.nx, va, vt], .string s, .int .i64 p] w fun e w' => e = .returned (.bool (movB d.ns d.is d.ds p s)) /\ Below w.heap.size w w' := by
  have R0 := R
  obtain ⟨⟨an, cn, rfl⟩, ⟨ai, ci, rfl⟩, ⟨af, cf, rfl⟩, ⟨ah, ch, rfl⟩, ⟨al, cl, rfl⟩, ⟨ag, cg, rfl⟩, ⟨ap, cp, rfl⟩, ⟨aa, ca, rfl⟩, ⟨ab, cb, rfl⟩⟩ := R.form
  clear R
  have hB0 := ZaI w (Obj.cells #[.slice an d.ns.length cn, .slice ai d.is.length ci, .slice af d.ds.length cf, .int .i64 d.pl, .slice ah d.hs.length ch, .slice al d.ls.length cl, .slice ag d.gs.length cg, .slice ap d.ps.length cp, .int .i64 d.nx, .slice aa d.ga.length ca, .slice ab d.tk.length cb] 50)
  have hx0 := heap_alloc_new w (Obj.cells #[.slice an d.ns.length cn, .slice ai d.is.length ci, .slice af d.ds.length cf, .int .i64 d.pl, .slice ah d.hs.length ch, .slice al d.ls.length cl, .slice ag d.gs.length cg, .slice ap d.ps.length cp, .int .i64 d.nx, .slice aa d.ga.length ca, .slice ab d.tk.length cb] 50)
  have hsl := ZaF s
  go_enter Tryz.func126, Tryz.ntmps126
  go_wp2_with fail
  generalize w.alloc (Obj.cells #[.slice an d.ns.length cn, .slice ai d.is.length ci, .slice af d.ds.length cf, .int .i64 d.pl, .slice ah d.hs.length ch, .slice al d.ls.length cl, .slice ag d.gs.length cg, .slice ap d.ps.length cp, .int .i64 d.nx, .slice aa d.ga.length ca, .slice ab d.tk.length cb] 50) = w0 at *
  refine (Zhn s _ hs).mono ?_
  rintro e w1 ⟨rfl, hb⟩
  obtain ⟨k, q, t, ok, hr, hn, hy⟩ := ZkF (mrd (sb s))
  rw [hr]
  replace hx0 := Zak hx0 hb
  replace hB0 := hB0.trans (hb.mono hB0.size)
  clear hb hr
  have hzero : movN d.ns d.is d.ds s = 0 -> movB d.ns d.is d.ds p s = false := by
    intro h
    unfold movB
    rw [h]
    by_cases h0 : 0 < p
    · simp; omega
    · simp [h0]
  cases ok with
  | false =>
    have HR : Hid (movB d.ns d.is d.ds p s = false) := hzero (Zfi (hn rfl))
    clear hn hy hx0 hzero
    go_wp2
    go_ret
    exact ⟨retB HR.out.symm, hB0⟩
  | true =>
    have hm := hy rfl
    clear hn hy
    by_cases hk : k = 2
    · subst hk
      have hts : t.size <= 1048576 := by have := ZgJ hm; omega
      have HV : Hid (movN d.ns d.is d.ds s = (pdT (pdR d.ns d.is d.ds (sb t))).1) := Zfs hm
      clear hm
      go_wp2_with (refine Zan rfl 44 _ rfl w.heap.size 0 rfl _ 50 #[.slice an d.ns.length cn, .slice ai d.is.length ci, .slice af d.ds.length cf] _ hx0 rfl Tryz.underlying44 rfl Zl7 ?_)
      refine (Zep _ _ _ d.ns d.is d.ds t _ (R0.rn.below hB0) (R0.ri.below hB0) (R0.rf.below hB0) hts (hE.below hB0 (Nat.le_refl _))).mono ?_
      rintro e w2 ⟨⟨I, X, M, BX, OX, ok, y1, y2, y3, hT, rfl, O1, O2, O3, _⟩, hb⟩
      obtain ⟨p1, q1, rfl⟩ := Zae O1
      obtain ⟨p2, q2, rfl⟩ := Zae O2
      obtain ⟨p3, q3, rfl⟩ := Zae O3
      have hpos := Zjd hT
      rw [hT] at HV
      replace hB0 := hB0.trans (hb.mono hB0.size)
      clear hb hT O1 O2 O3 hx0
      go_wp2_with (refine Zah rfl 70 _ _ rfl w2.heap.size #[.int .i64 I, .slice p1 X.length q1, .int .i64 M.p, .int .i64 M.s, .int .i64 M.e, .int .i64 M.d, .int .i64 M.t, .int .i64 M.q, .int .i64 M.r, .slice p2 BX.length q2, .slice p3 OX.length q3] rfl rfl 70 _ (heap_alloc_new _ _) Zma rfl (by simp [Value.oneCell']) ?_)
      intro w3 hv hbv hsv
      have hb : Below w2.heap.size w2 w3 := ((Below.refl _ _).alloc (Nat.le_refl _) _).trans hbv
      replace hB0 := hB0.trans (hb.mono hB0.size)
      have c0 : w3.cell? ⟨w2.heap.size, 0, none⟩ = some (.int .i64 I) := cell_of_row w3 _ 0 _ _ _ hv
      clear hb hbv hsv hv
      cases ok with
      | false =>
        have HR : Hid (movB d.ns d.is d.ds p s = false) := hzero (by rw [HV.out]; exact hpos.2 rfl)
        clear HV hpos hzero
        go_wp2
        go_ret
        exact ⟨retB HR.out.symm, hB0⟩
      | true =>
        have HR : Hid (movB d.ns d.is d.ds p s = (I == p)) := by
          unfold Hid movB
          rw [HV.out]
          have h1 := hpos.1 rfl
          by_cases h0 : 0 < p
          · simp [h0]
          · have : (I == p) = false := by simp; omega
            simp [this, h0]
        clear HV hpos hzero
        go_wp2
        go_ret
        exact ⟨retB HR.out.symm, hB0⟩
    · have HR : Hid (movB d.ns d.is d.ds p s = false) := hzero (Zek hm hk)
      have hk2 : (k != 2) = true := by simpa using hk
      clear hm hx0 hzero
      go_wp2
      go_ret
      exact ⟨retB HR.out.symm, hB0⟩
end Go.Proofs.YtbljoclnaeimoaaGreatDoor
