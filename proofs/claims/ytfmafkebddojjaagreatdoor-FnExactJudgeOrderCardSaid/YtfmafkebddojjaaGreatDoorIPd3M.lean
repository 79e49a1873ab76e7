/-
  Texts that stood by themselves, laid into one.
-/
import Derived.Test.YtfmafkebddojjaaGreatDoorS8RdM
import Derived.Test.YtfmafkebddojjaaGreatDoorMPack2M
import Derived.Test.YtfmafkebddojjaaGreatDoorSubM
import Derived.Test.YtfmafkebddojjaaGreatDoorSAddM
import Derived.Deep.RegionHeld3
import Derived.Test.YtfmafkebddojjaaGreatDoorSInstrM
/-
  The contract of spec.MachineRead: the machine of the bytes, or nothing. No condition but a bound on the text.
-/
namespace Go.Proofs.YtfmafkebddojjaaGreatDoor
open Go.RowKit
theorem Row.cur {W w' : World} {v : Value} {zs : List Int} {C : Nat} {a : Int} {ok : Bool} (R : Row W v zs) (hC : C8 W C v a ok) (hG : W.grownBy w' (some C)) : Row w' v zs := by
 obtain ⟨ao, cap, rfl, h1, h2, h3, h4⟩ := R
 refine ⟨ao, cap, rfl, h1, h2, h3, fun hne => ?_⟩
 obtain ⟨g, o, rfl, hg, hc⟩ := h4 hne
 have n1 := Row.apart (List.length_pos_iff.2 hne) hc hC (ZjC _ _ _ _ _)
 refine ⟨g, o, rfl, Nat.lt_of_lt_of_le hg hG.size, fun i hi => ?_⟩
 rw [World.cell?_of_block (w := W) (hG.block g hg (by simpa using n1))]
 exact hc i hi
def mrL (r : Option (List Nd × Mc)) : List Nd := match r with | some p => p.1 | none => []
def mrM (r : Option (List Nd × Mc)) : Mc := match r with | some p => p.2 | none => m0
def MrAns (B : Nat) (r : Option (List Nd × Mc)) (e : Ending) (w' : World) : Prop := ∃ v', e = .returned (.tuple #[.agg #[v', .int .i64 (mrM r).p, .int .i64 (mrM r).s, .int .i64 (mrM r).e, .int .i64 (mrM r).d, .int .i64 (mrM r).t, .int .i64 (mrM r).q, .int .i64 (mrM r).r], .bool r.isSome]) /\ w'.ownsRow B 210 5 v' (mrL r).length (ncs (mrL r))
theorem MrAns.intro {B : Nat} {r : Option (List Nd × Mc)} {e : Ending} {w' : World} (v' : Value) (h : e = .returned (.tuple #[.agg #[v', .int .i64 (mrM r).p, .int .i64 (mrM r).s, .int .i64 (mrM r).e, .int .i64 (mrM r).d, .int .i64 (mrM r).t, .int .i64 (mrM r).q, .int .i64 (mrM r).r], .bool r.isSome])) (k : w'.ownsRow B 210 5 v' (mrL r).length (ncs (mrL r))) : MrAns B r e w' := ⟨v', h, k⟩
def MFin (B : Nat) (ns : List Nd) (is : List In) (ds : List Df) (zs : List Int) (ao : Option Addr) (n c : Nat) (m : Mc) (r : Value) (W : World) : Prop :=
 (∃ xs, mrR ns is ds zs = some (xs, m) /\ r = .nilIface /\ W.ownsRow B 210 5 (.slice ao n c) xs.length (ncs xs)) \/ (mrR ns is ds zs = none /\ ∃ p, r = badV p)
theorem MFin.keep {B B' : Nat} {ns : List Nd} {is : List In} {ds : List Df} {zs : List Int} {ao : Option Addr} {n c : Nat} {m : Mc} {r : Value} {W W' : World} (h : MFin B ns is ds zs ao n c m r W) (k : ∀ v n l, W.ownsRow B 210 5 v n l -> W'.ownsRow B' 210 5 v n l) : MFin B' ns is ds zs ao n c m r W' := by
 rcases h with ⟨xs, h1, h2, h3⟩ | h
 ·exact Or.inl ⟨xs, h1, h2, k _ _ _ h3⟩
 ·exact Or.inr h
def ZkU (zs : List Int) : Option (Int × ByteArray × List ByteArray × List ByteArray) :=
 (rd1 zs 0).bind fun p => (rt zs p.2).bind fun t => (rdTB zs 20 t.2).bind fun b => (rdTB zs 40 b.2).bind fun o => if o.2 = zs.length then some (p.1, t.1, b.1, o.1) else none
def paT (ns : List Nd) (is : List In) (ds : List Df) (r : Option (Int × ByteArray × List ByteArray × List ByteArray)) : Int × List Nd × Mc × List ByteArray × List ByteArray × Bool :=
 match r with
 | none => (0, [], ⟨0, 0, 0, 0, 0, 0, 0⟩, [], [], false)
 | some (i, t, b, o) => (i, mrL (mrR ns is ds (sb t)), mrM (mrR ns is ds (sb t)), b, o, (mrR ns is ds (sb t)).isSome)
def PaAns (B : Nat) (T : Int × List Nd × Mc × List ByteArray × List ByteArray × Bool) (e : Ending) (w' : World) : Prop :=
 ∃ (I : Int) (X : List Nd) (M : Mc) (BX OX : List ByteArray) (ok : Bool) (y1 y2 y3 : Value), T = (I, X, M, BX, OX, ok) /\ e = .returned (.tuple #[.agg #[.int .i64 I, y1, .int .i64 M.p, .int .i64 M.s, .int .i64 M.e, .int .i64 M.d, .int .i64 M.t, .int .i64 M.q, .int .i64 M.r, y2, y3], .bool ok]) /\ w'.ownsRow B 210 5 y1 X.length (ncs X) /\ w'.ownsRow B 9 1 y2 BX.length (stv BX) /\ w'.ownsRow B 9 1 y3 OX.length (stv OX) /\ ∀ g, y3.ownBlock = some g -> y2.ownBlock ≠ some g
theorem PaAns.zero {B : Nat} {ns : List Nd} {is : List In} {ds : List Df} {r : Option (Int × ByteArray × List ByteArray × List ByteArray)} {w' : World} (h : r = none) : PaAns B (paT ns is ds r) (.returned (.tuple #[.agg #[.int .i64 0, .slice none 0 0, .int .i64 0, .int .i64 0, .int .i64 0, .int .i64 0, .int .i64 0, .int .i64 0, .int .i64 0, .slice none 0 0, .slice none 0 0], .bool false])) w' := by
 subst h
 exact ⟨0, [], ⟨0, 0, 0, 0, 0, 0, 0⟩, [], [], false, .slice none 0 0, .slice none 0 0, .slice none 0 0, rfl, rfl, ⟨by simp [ncs], Or.inl ⟨rfl, rfl⟩⟩, ⟨by simp [stv], Or.inl ⟨rfl, rfl⟩⟩, ⟨by simp [stv], Or.inl ⟨rfl, rfl⟩⟩, fun g h => by cases h⟩
end Go.Proofs.YtfmafkebddojjaaGreatDoor
