/-
  Texts that stood by themselves, laid into one.
-/
import Derived.Test.YtfmafkebddojjaaGreatDoorSubM
import Derived.Test.YtfmafkebddojjaaGreatDoorLMakeM
import Derived.Test.YtfmafkebddojjaaGreatDoorPcMarkM
import Derived.Test.YtfmafkebddojjaaGreatDoorMPack2M
import Derived.Test.YtfmafkebddojjaaGreatDoorSPd2M
import Derived.Test.YtfmafkebddojjaaGreatDoorIPd3M
import Derived.Test.YtfmafkebddojjaaGreatDoorSMlRM
/-
  A machine's variable (VarM), and the contracts of the laws' helpers markMachine and heldMachine. No condition.
-/
namespace Go.Proofs.YtfmafkebddojjaaGreatDoor
open Go.RowKit
def VarM (w : World) (b lo hi : Nat) (v : Value) (xs : List Nd) (m : Mc) : Prop :=
 w.heap[b]? = some (.cells #[v, .int .i64 m.p, .int .i64 m.s, .int .i64 m.e, .int .i64 m.d, .int .i64 m.t, .int .i64 m.q, .int .i64 m.r] 81 (0, 0)) /\ w.ownsRow lo 210 5 v xs.length (ncs xs) /\ (∀ k, v.ownBlock = some k -> k < hi) /\ hi <= w.heap.size
theorem VarM.new {w5 we : World} {lo : Nat} {v : Value} {xs : List Nd} {m : Mc} (ho : w5.ownsRow lo 210 5 v xs.length (ncs xs)) (hd : Below w5.heap.size w5 we) (hb : we.heap[w5.heap.size]? = some (.cells #[v, .int .i64 m.p, .int .i64 m.s, .int .i64 m.e, .int .i64 m.d, .int .i64 m.t, .int .i64 m.q, .int .i64 m.r] 81 (0, 0))) :
  VarM we w5.heap.size lo we.heap.size v xs m := ⟨hb, Zad ho hd, fun k hk => ((Zad ho hd).lt k hk).2, Nat.le_refl _⟩
theorem VarM.below {w w' : World} {b lo hi : Nat} {v : Value} {xs : List Nd} {m : Mc} (h : VarM w b lo hi v xs m) (hb : Below w.heap.size w w') : VarM w' b lo hi v xs m :=
 ⟨(hb.block b (Array.getElem?_eq_some_iff.1 h.1).1).trans h.1, Zad h.2.1 hb, h.2.2.1, Nat.le_trans h.2.2.2 hb.size⟩
theorem VarM.row {w : World} {b lo hi : Nat} {v : Value} {xs : List Nd} {m : Mc} (h : VarM w b lo hi v xs m) (hm : xs.length <= 4194304) (hz : ∀ x ∈ xs, x.s.size <= maxLen) : NRow w v xs := NRow.of_own h.2.1 (by omega) hz
theorem VarM.lt {w : World} {b lo hi : Nat} {v : Value} {xs : List Nd} {m : Mc} (h : VarM w b lo hi v xs m) : b < w.heap.size := (Array.getElem?_eq_some_iff.1 h.1).1
theorem VarM.kept {w w' : World} {b lo hi lo' hi' b' : Nat} {v v' : Value} {xs xs' : List Nd} {m m' : Mc} (h : VarM w b lo hi v xs m) (h' : VarM w b' lo' hi' v' xs' m') (hg : w.grownBy w' v'.ownBlock) (hd : hi <= lo' \/ hi' <= lo) : VarM w' b lo hi v xs m := by
 have hne : v'.ownBlock ≠ some b := Za5 h'.2.1 h.1 (by decide)
 refine ⟨(hg.block b h.lt (fun e => hne e.symm)).trans h.1, h.2.1.kept hg ?_, h.2.2.1, Nat.le_trans h.2.2.2 hg.size⟩
 cases hv : v.ownBlock with
 | none => exact Or.inl rfl
 | some k =>
  refine Or.inr fun e => ?_
  have k1 := h.2.2.1 k hv
  have k2 := (h.2.1.lt k hv).1
  have k3 := h'.2.2.1 k e.symm
  have k4 := (h'.2.1.lt k e.symm).1
  omega
theorem VarM.marked {w w' : World} {b lo hi : Nat} {v : Value} {xs ys : List Nd} {m : Mc} (h : VarM w b lo hi v xs m) (hg : w.grownBy w' v.ownBlock) (ho : w'.ownsRow lo 210 5 v ys.length (ncs ys)) : VarM w' b lo hi v ys m :=
 ⟨(hg.block b h.lt (fun e => Za5 h.2.1 h.1 (by decide) e.symm)).trans h.1, ho, h.2.2.1, Nat.le_trans h.2.2.2 hg.size⟩
theorem VarM.block {w w' : World} {b lo hi : Nat} {v : Value} {xs : List Nd} {m : Mc} (h : VarM w b lo hi v xs m) (hg : w.grownBy w' v.ownBlock) {j : Nat} {c : Array Value} {t : TypeId} (hj : w.heap[j]? = some (.cells c t (0, 0))) (hte : t ≠ 210) : w'.heap[j]? = some (.cells c t (0, 0)) :=
 (hg.block j (bl hj) (fun e => Za5 h.2.1 hj hte e.symm)).trans hj
theorem VarM.keptBy {w w' : World} {b lo hi : Nat} {v : Value} {xs : List Nd} {m : Mc} {o : Option Nat} (h : VarM w b lo hi v xs m) (hg : w.grownBy w' o) (hb : ∀ k, o = some k -> k ≠ b /\ (k < lo \/ hi <= k)) : VarM w' b lo hi v xs m := by
 refine ⟨(hg.block b h.lt (fun e => (hb b e.symm).1 rfl)).trans h.1, h.2.1.kept hg ?_, h.2.2.1, Nat.le_trans h.2.2.2 hg.size⟩
 cases hv : v.ownBlock with
 | none => exact Or.inl rfl
 | some k =>
  refine Or.inr fun e => ?_
  have k1 := h.2.2.1 k hv
  have k2 := (h.2.1.lt k hv).1
  have k3 := (hb k e.symm).2
  omega
structure VarPr (w : World) (b lo hi : Nat) (v vb vo : Value) (i : Int) (xs : List Nd) (m : Mc) (bx ox : List ByteArray) : Prop where
 blk : w.heap[b]? = some (.cells #[.int .i64 i, v, .int .i64 m.p, .int .i64 m.s, .int .i64 m.e, .int .i64 m.d, .int .i64 m.t, .int .i64 m.q, .int .i64 m.r, vb, vo] 83 (0, 0))
 o1 : w.ownsRow lo 210 5 v xs.length (ncs xs)
 o2 : w.ownsRow lo 9 1 vb bx.length (stv bx)
 o3 : w.ownsRow lo 9 1 vo ox.length (stv ox)
 t1 : ∀ k, v.ownBlock = some k -> k < hi
 t2 : ∀ k, vb.ownBlock = some k -> k < hi
 t3 : ∀ k, vo.ownBlock = some k -> k < hi
 ap : ∀ g, vo.ownBlock = some g -> vb.ownBlock ≠ some g
 top : hi <= w.heap.size
theorem VarPr.of {w : World} {b lo : Nat} {v vb vo : Value} {i : Int} {xs : List Nd} {m : Mc} {bx ox : List ByteArray} (hb : w.heap[b]? = some (.cells #[.int .i64 i, v, .int .i64 m.p, .int .i64 m.s, .int .i64 m.e, .int .i64 m.d, .int .i64 m.t, .int .i64 m.q, .int .i64 m.r, vb, vo] 83 (0, 0))) (h1 : w.ownsRow lo 210 5 v xs.length (ncs xs)) (h2 : w.ownsRow lo 9 1 vb bx.length (stv bx)) (h3 : w.ownsRow lo 9 1 vo ox.length (stv ox)) (ha : ∀ g, vo.ownBlock = some g -> vb.ownBlock ≠ some g) : VarPr w b lo w.heap.size v vb vo i xs m bx ox :=
 ⟨hb, h1, h2, h3, fun k hk => (h1.lt k hk).2, fun k hk => (h2.lt k hk).2, fun k hk => (h3.lt k hk).2, ha, Nat.le_refl _⟩
section
variable {w w' : World} {b lo hi : Nat} {v vb vo : Value} {i : Int} {xs : List Nd} {m : Mc} {bx ox : List ByteArray}
theorem VarPr.below (h : VarPr w b lo hi v vb vo i xs m bx ox) (hb : Below w.heap.size w w') : VarPr w' b lo hi v vb vo i xs m bx ox :=
 ⟨Zab h.blk hb, Zad h.o1 hb, Zad h.o2 hb, Zad h.o3 hb, h.t1, h.t2, h.t3, h.ap, Nat.le_trans h.top hb.size⟩
theorem VarPr.lt (h : VarPr w b lo hi v vb vo i xs m bx ox) : b < w.heap.size := Zbc h.blk
theorem VarPr.row (h : VarPr w b lo hi v vb vo i xs m bx ox) (hm : xs.length <= 4194304) (hz : ∀ x ∈ xs, x.s.size <= maxLen) : NRow w v xs := NRow.of_own h.o1 (by omega) hz
theorem ZcU {e : TypeId} {k n : Nat} {u : Value} {l : List Value} {o : Option Nat} (h : w.ownsRow lo e k u n l) (ht : ∀ k, u.ownBlock = some k -> k < hi) (hg : w.grownBy w' o) (hb : ∀ k, o = some k -> k < lo \/ hi <= k) : w'.ownsRow lo e k u n l := by
 refine h.kept hg ?_
 cases hv : u.ownBlock with
 | none => exact Or.inl rfl
 | some k =>
  refine Or.inr fun e => ?_
  have k1 := ht k hv
  have k2 := (h.lt k hv).1
  have k3 := hb k e.symm
  omega
theorem VarPr.keptBy {o : Option Nat} (h : VarPr w b lo hi v vb vo i xs m bx ox) (hg : w.grownBy w' o) (hb : ∀ k, o = some k -> k ≠ b /\ (k < lo \/ hi <= k)) : VarPr w' b lo hi v vb vo i xs m bx ox :=
 ⟨(hg.block b h.lt (fun e => (hb b e.symm).1 rfl)).trans h.blk, ZcU h.o1 h.t1 hg (fun k hk => (hb k hk).2), ZcU h.o2 h.t2 hg (fun k hk => (hb k hk).2), ZcU h.o3 h.t3 hg (fun k hk => (hb k hk).2), h.t1, h.t2, h.t3, h.ap, Nat.le_trans h.top hg.size⟩
theorem VarPr.turned {ys : List Nd} {by' oy : List ByteArray} {wa wb : World} (h : VarPr w b lo hi v vb vo i xs m bx ox) (ga : w.grownBy wa v.ownBlock) (gb : wa.grownBy wb vb.ownBlock) (gc : wb.grownBy w' vo.ownBlock) (h1 : w'.ownsRow lo 210 5 v ys.length (ncs ys)) (h2 : w'.ownsRow lo 9 1 vb by'.length (stv by')) (h3 : w'.ownsRow lo 9 1 vo oy.length (stv oy)) : VarPr w' b lo hi v vb vo i ys m by' oy := by
 have l0 := h.lt
 have l1 := Nat.lt_of_lt_of_le l0 ga.size
 have l2 := Nat.lt_of_lt_of_le l1 gb.size
 refine ⟨((gc.block b l2 (fun e => Za5 h.o3 h.blk (by decide) e.symm)).trans ((gb.block b l1 (fun e => Za5 h.o2 h.blk (by decide) e.symm)).trans (ga.block b l0 (fun e => Za5 h.o1 h.blk (by decide) e.symm)))).trans h.blk, h1, h2, h3, h.t1, h.t2, h.t3, h.ap, Nat.le_trans h.top (Nat.le_trans ga.size (Nat.le_trans gb.size gc.size))⟩
theorem VarPr.frame {W0 wa wb : World} {B : Nat} (h0 : Below B W0 w) (h : VarPr w b lo hi v vb vo i xs m bx ox) (ga : w.grownBy wa v.ownBlock) (gb : wa.grownBy wb vb.ownBlock) (gc : wb.grownBy w' vo.ownBlock) (hlo : B <= lo) (hB : B <= w.heap.size) : Below B W0 w' :=
 ((h0.grown ga hB (fun k hk => Nat.le_trans hlo (h.o1.lt k hk).1)).grown gb (Nat.le_trans hB ga.size) (fun k hk => Nat.le_trans hlo (h.o2.lt k hk).1)).grown gc (Nat.le_trans hB (Nat.le_trans ga.size gb.size)) (fun k hk => Nat.le_trans hlo (h.o3.lt k hk).1)
theorem VarPr.other {wa wb : World} {j : Nat} {c : Array Value} {t : TypeId} (h : VarPr w b lo hi v vb vo i xs m bx ox) (ga : w.grownBy wa v.ownBlock) (gb : wa.grownBy wb vb.ownBlock) (gc : wb.grownBy w' vo.ownBlock) (hj : w.heap[j]? = some (.cells c t (0, 0))) (h1 : t ≠ 210) (h2 : t ≠ 9) : w'.heap[j]? = some (.cells c t (0, 0)) := by
 have l0 := Zbc hj
 have l1 := Nat.lt_of_lt_of_le l0 ga.size
 have l2 := Nat.lt_of_lt_of_le l1 gb.size
 exact ((gc.block j l2 (fun e => Za5 h.o3 hj h2 e.symm)).trans ((gb.block j l1 (fun e => Za5 h.o2 hj h2 e.symm)).trans (ga.block j l0 (fun e => Za5 h.o1 hj h1 e.symm)))).trans hj
end
def PdS (B : Nat) (T : Int × List Nd × Mc × List ByteArray × List ByteArray × Bool) (e : Ending) (w' : World) : Prop :=
 ∃ (I : Int) (X : List Nd) (M : Mc) (BX OX : List ByteArray) (ok : Bool) (y1 y2 y3 : Value), T = (I, X, M, BX, OX, ok) /\ e = .returned (.tuple #[.agg #[.int .i64 I, y1, .int .i64 M.p, .int .i64 M.s, .int .i64 M.e, .int .i64 M.d, .int .i64 M.t, .int .i64 M.q, .int .i64 M.r, y2, y3], .bool ok]) /\ w'.ownsRow B 210 5 y1 X.length (ncs X) /\ w'.ownsRow B 9 1 y2 BX.length (stv BX) /\ w'.ownsRow B 9 1 y3 OX.length (stv OX)
theorem PdS.zero {B : Nat} {r : Option (Int × (List Nd × Mc) × List ByteArray × List ByteArray)} {w' : World} (h : r = none) : PdS B (pdT r) (.returned (.tuple #[.agg #[.int .i64 0, .slice none 0 0, .int .i64 0, .int .i64 0, .int .i64 0, .int .i64 0, .int .i64 0, .int .i64 0, .int .i64 0, .slice none 0 0, .slice none 0 0], .bool false])) w' := by
 subst h
 exact ⟨0, [], ⟨0, 0, 0, 0, 0, 0, 0⟩, [], [], false, .slice none 0 0, .slice none 0 0, .slice none 0 0, rfl, rfl, ⟨by simp [ncs], Or.inl ⟨rfl, rfl⟩⟩, ⟨by simp [stv], Or.inl ⟨rfl, rfl⟩⟩, ⟨by simp [stv], Or.inl ⟨rfl, rfl⟩⟩⟩
def MbAns (d : Wd) (s : ByteArray) (e : Ending) : Prop := ∃ (ok : Bool) (I : Int), e = .returned (.tuple #[.int .i64 I, .bool ok]) /\ (ok = true -> movN d.ns d.is d.ds s = I /\ 1 <= I) /\ (ok = false -> movN d.ns d.is d.ds s = 0)
theorem MbAns.no {d : Wd} {s : ByteArray} {e : Ending} (he : e = .returned (.tuple #[.int .i64 0, .bool false])) (h : movN d.ns d.is d.ds s = 0) : MbAns d s e := ⟨false, 0, he, (fun h => by cases h), fun _ => h⟩
structure WB (d : Wd) (p : Int) (bw bp : Nat) (an ai af ah al ag ap aa ab : Option Addr) (cn ci cf ch cl cg cp ca cb : Nat) (w : World) : Prop where
 x : w.heap[bw]? = some (.cells #[.slice an d.ns.length cn, .slice ai d.is.length ci, .slice af d.ds.length cf, .int .i64 d.pl, .slice ah d.hs.length ch, .slice al d.ls.length cl, .slice ag d.gs.length cg, .slice ap d.ps.length cp, .int .i64 d.nx, .slice aa d.ga.length ca, .slice ab d.tk.length cb] 50 (0, 0))
 p : w.cell? ⟨bp, 0, none⟩ = some (.int .i64 p)
 pl : bp < w.heap.size
 R : WR 0 w (.slice an d.ns.length cn) (.slice ai d.is.length ci) (.slice af d.ds.length cf) (.slice ah d.hs.length ch) (.slice al d.ls.length cl) (.slice ag d.gs.length cg) (.slice ap d.ps.length cp) (.slice aa d.ga.length ca) (.slice ab d.tk.length cb) d
 e : ErrT w
theorem WB.below {d : Wd} {p : Int} {bw bp : Nat} {an ai af ah al ag ap aa ab : Option Addr} {cn ci cf ch cl cg cp ca cb : Nat} {w w' : World} (h : WB d p bw bp an ai af ah al ag ap aa ab cn ci cf ch cl cg cp ca cb w) (hb : Below w.heap.size w w') : WB d p bw bp an ai af ah al ag ap aa ab cn ci cf ch cl cg cp ca cb w' :=
 ⟨Zab h.x hb, (hb.cell (p := ⟨bp, 0, none⟩) h.pl).trans h.p, Nat.lt_of_lt_of_le h.pl hb.size, h.R.below hb, h.e.below hb (Nat.le_refl _)⟩
def wayT (d : Wd) (k : Nat) : List ByteArray := (d.ga.getD k []).drop ((d.ls[k]?.map Lk.got).getD 0).toNat
def RetT (ts : List ByteArray) (e : Ending) (w : World) : Prop := ∃ v, e = .returned v /\ StRow w v ts
theorem ZjF {w : World} {pa : Option Addr} {n qa : Nat} {ts : List ByteArray} (h : StRow w (.slice pa n qa) ts) (hn : ts.length = n) (g k : Nat) (hk : k = min g n) (X : Option Addr) (m c : Nat) (hX : (qa = k /\ X = pa) \/ (k < qa /\ X = Option.map (fun x => x.add k) pa)) (hm : m = n - k) (hc : c = qa - k) : StRow w (.slice X m c) (ts.drop g) := by
 have hd : ts.drop g = ts.drop k := by
  by_cases h : g <= n
  ·rw [show k = g by omega]
  ·rw [List.drop_eq_nil_of_le (show ts.length <= g by omega), List.drop_eq_nil_of_le (by omega)]
 have hl : (ts.drop k).length = n - k := by rw [List.length_drop, hn]
 obtain ⟨ao', cap', e, hcc, hm', hz, hcell⟩ := h
 simp only [Value.slice.injEq] at e
 obtain ⟨rfl, e2, rfl⟩ := e
 rw [hd]
 subst hm hc
 have hz' : ∀ x ∈ ts.drop k, x.size <= maxLen := fun x hx => hz x (List.mem_of_mem_drop hx)
 rcases hX with ⟨rfl, rfl⟩ | ⟨hlt, rfl⟩
 ·have h0 : ts.drop qa = [] := List.drop_eq_nil_of_le (by omega)
  rw [h0]
  exact ⟨_, _, by rw [show n - qa = 0 by omega]; rfl, ⟨by simp, fun h => by omega⟩, by simp, by simp, fun h => absurd rfl h⟩
 ·refine ⟨_, _, by rw [hl], ⟨by rw [hl]; omega, fun h => ?_⟩, by omega, hz', fun hne => ?_⟩
  ·cases hp : pa with
   | none => have := hcc.2 hp; omega
   | some ad => rw [hp] at h; cases h
  ·have hne' : ts ≠ [] := fun e => hne (by rw [e]; simp)
   obtain ⟨g', o', e, hg, hcell2⟩ := hcell hne'
   subst e
   have hadd : (⟨g', o', none⟩ : Addr).add k = ⟨g', o' + k, none⟩ := by unfold Addr.add; split <;> simp_all
   refine ⟨g', o' + k, by rw [Option.map_some, hadd], hg, fun i x hi => ?_⟩
   rw [List.getElem?_drop] at hi
   rw [Nat.add_assoc]
   exact hcell2 (k + i) x hi
def eqTs : List ByteArray -> List ByteArray -> Bool
 | [], [] => true
 | x :: xs, y :: ys => (x.toList == y.toList) && eqTs xs ys
 | _, _ => false
theorem ZfY : ∀ {xs ys : List ByteArray}, xs.length ≠ ys.length -> eqTs xs ys = false
 | [], [], h => absurd rfl h
 | [], _ :: _, _ => rfl
 | _ :: _, [], _ => rfl
 | x :: xs, y :: ys, h => by
  rw [eqTs, ZfY (by simpa using h), Bool.and_false]
theorem Zdh {xs ys : List ByteArray} {k : Nat} {x y : ByteArray} (hx : xs[k]? = some x) (hy : ys[k]? = some y) : eqTs (xs.drop k) (ys.drop k) = ((x.toList == y.toList) && eqTs (xs.drop (k + 1)) (ys.drop (k + 1))) := by
 obtain ⟨h1, rfl⟩ := List.getElem?_eq_some_iff.1 hx
 obtain ⟨h2, rfl⟩ := List.getElem?_eq_some_iff.1 hy
 rw [List.drop_eq_getElem_cons h1, List.drop_eq_getElem_cons h2, eqTs]
theorem ZdU {xs ys : List ByteArray} {k : Nat} (hx : xs.length <= k) (hy : ys.length <= k) : eqTs (xs.drop k) (ys.drop k) = true := by
 rw [List.drop_eq_nil_of_le hx, List.drop_eq_nil_of_le hy, eqTs]
set_option maxRecDepth 100000 in
set_option maxHeartbeats 1600000 in
theorem Zcs (va vb : Value) (xs ys : List ByteArray) (w : World) (Ra : StRow w va xs) (Rb : StRow w vb ys) :
  Calls Tryz.prog 87 #[va, vb] w fun e w' => e = .returned (.bool (eqTs xs ys)) /\ Below w.heap.size w w' := by
 obtain ⟨aa, ca, rfl, hca, hm, hz, hcella⟩ := Ra
 obtain ⟨ab, cb, rfl, hcb, hmb, _, hcellb⟩ := Rb
 by_cases hl : xs.length = ys.length
 ·obtain ⟨n, hn⟩ : ∃ n, xs.length = n := ⟨_, rfl⟩
  have HX : Hid (xs.length = n) := hn
  have HY : Hid (ys.length = n) := by unfold Hid; omega
  have hnn : ((n : Int) != (n : Int)) = false := by simp
  rw [<- hl, hn]
  rw [hn] at hm
  clear hl hn hca hcb hmb
  go_enter Tryz.func87, Tryz.ntmps87
  go_wp2
  go_loopw [13] (fun i wr => ∃ k : Nat, k <= n /\ i = .int .i64 k /\ Hid (eqTs xs ys = eqTs (xs.drop k) (ys.drop k)) /\ Below w.heap.size w wr) (fun i _ => n - (intOf i).toNat)
  case atStart => exact ⟨0, by omega, rfl, rfl, Below.refl _ _⟩
  case round =>
   obtain ⟨k, hk, rfl, HK, hb⟩ := hrel
   by_cases hlt : k < n
   ·have hx1 : k < xs.length := by rw [HX.out]; exact hlt
    have hy1 : k < ys.length := by rw [HY.out]; exact hlt
    obtain ⟨ga, oa, rfl, hga, hcella⟩ := hcella (by intro e; rw [e] at hx1; simp at hx1)
    obtain ⟨gb, ob, rfl, hgb, hcellb⟩ := hcellb (by intro e; rw [e] at hy1; simp at hy1)
    obtain ⟨x, hx⟩ : ∃ x, xs[k]? = some x := ⟨xs[k], List.getElem?_eq_getElem _⟩
    obtain ⟨y, hy⟩ : ∃ y, ys[k]? = some y := ⟨ys[k], List.getElem?_eq_getElem _⟩
    have c0 := (hb.cell (p := ⟨ga, oa + k, none⟩) hga).trans (hcella k x hx)
    have d0 := (hb.cell (p := ⟨gb, ob + k, none⟩) hgb).trans (hcellb k y hy)
    have HS : Hid (eqTs xs ys = ((x.toList == y.toList) && eqTs (xs.drop (k + 1)) (ys.drop (k + 1)))) := by unfold Hid; rw [HK.out, Zdh hx hy]
    clear hcella hcellb hx hy HK hx1 hy1
    cases e : (x.toList == y.toList) with
    | true =>
     have HB : Hid (eqTs xs ys = eqTs (xs.drop (k + 1)) (ys.drop (k + 1))) := by unfold Hid; rw [HS.out, e]; rfl
     clear HS
     go_wp2
     go_quiet (fail)
     go_wp2
     go_roundw
     case rel => exact ⟨k + 1, by omega, by go_num, HB, hb.trans ((ZaU _ _).mono hb.size)⟩
     case measure => simp [intOf]; omega
    | false =>
     have HB : Hid (eqTs xs ys = false) := by unfold Hid; rw [HS.out, e]; rfl
     clear HS
     go_wp2
     go_quiet (fail)
     go_wp2
     go_ret
     exact ⟨retB HB.out.symm, hb.trans ((ZaU _ _).mono hb.size)⟩
   ·have HB : Hid (eqTs xs ys = true) := by unfold Hid; rw [HK.out, ZdU (by rw [HX.out]; omega) (by rw [HY.out]; omega)]
    clear HK hcella hcellb
    go_wp2
    go_ret
    exact ⟨retB HB.out.symm, hb⟩
 ·have HR : Hid (eqTs xs ys = false) := ZfY hl
  have hne : ((xs.length : Int) != (ys.length : Int)) = true := by simp; omega
  go_enter Tryz.func87, Tryz.ntmps87
  go_wp2
  go_ret
  exact ⟨retB HR.out.symm, Below.refl _ _⟩
end Go.Proofs.YtfmafkebddojjaaGreatDoor
