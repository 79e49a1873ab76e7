/-
  Texts that stood by themselves, laid into one.
-/
import Derived.Test.YtfmafkebddojjaaGreatDoorVMoveM
import Derived.Test.YtfmafkebddojjaaGreatDoorShapeM
import Derived.Deep.RegionHeld3
import Derived.RangeFuncNested
import Derived.RangeFuncBound
import Derived.RangeFuncCalls
import Derived.RangeFuncLeaves
import Derived.RangeFuncBox
import Derived.Shelf.Abstract
import Derived.Shelf.RegionOpen
import Derived.WalkKit
import Derived.OwnWalkIn
import Derived.TacticsInMore
import Derived.LoopNIn
import Derived.LoopIn
import Derived.Test.YtfmafkebddojjaaGreatDoorRcWhyM
import Derived.Deep.AppendLies
import Derived.Test.YtfmafkebddojjaaGreatDoorBsM
import Derived.Test.YtfmafkebddojjaaGreatDoorIWire2M
import Derived.Deep.RegionLaw
/-
  Contracts of impl.readerOf, (impl.reader).value and impl.ValueRead: a value is read from its bytes, or nothing. The variable errors.errorType reads as it is laid.
-/
set_option maxRecDepth 100000
set_option maxHeartbeats 3200000
namespace Go.Proofs.YtfmafkebddojjaaGreatDoor
open Go.RowKit
theorem Lies.le {zs L : List Int} {a b : Int} (h : Lies zs a L b) (hl : L ≠ []) : b <= zs.length := by
 obtain ⟨h1, h2, r, h3⟩ := h
 have := congrArg List.length h3
 have hp := List.length_pos_iff.2 hl
 rw [List.length_drop, List.length_append] at this
 omega
theorem ZkZ {x : Int} (h : 0 <= x) : encI x ≠ [] := by
 rw [Zci x h]
 intro e
 rcases Int.lt_or_le x 128 with h1 | h1
 ·rw [Za8 8 x h1] at e; cases e
 ·rw [Zck 8 x (by omega)] at e; cases e
theorem Zit {zs : List Int} {xs : List Nd} {a b : Int} (hz : ∀ z ∈ zs, 0 <= z /\ z <= 255) (h : rdP zs a = some (xs, b)) : b <= zs.length /\ Zap xs = true := by
 unfold rdP at h
 rw [Option.bind_eq_some_iff] at h
 obtain ⟨⟨n, a1⟩, h1, h2⟩ := h
 split at h2
 ·cases h2
 rw [Option.bind_eq_some_iff] at h2
 obtain ⟨⟨ys, c⟩, h3, h4⟩ := h2
 split at h4
 ·rename_i hp
  cases h4
  obtain ⟨L1, hn⟩ := ZaW hz h1
  obtain ⟨L2, hl⟩ := Zcb hz n.toNat a1 _ xs (by have := L1.1; have := L1.2.1; omega) h3
  exact ⟨(L1.append L2).le (by intro e; exact ZkZ hn (List.append_eq_nil_iff.1 e).1), hp⟩
 ·cases h4
theorem ZkT {zs : List Int} (h : rdP zs 0 = none) : vrR zs = none := by unfold vrR; rw [h]; rfl
theorem Zk7 {zs : List Int} {xs : List Nd} {b : Int} (h : rdP zs 0 = some (xs, b)) : vrR zs = if b = zs.length /\ xs ≠ [] /\ allR xs [(xs.length : Int) - 1] = true then some xs else none := by unfold vrR; rw [h]; rfl
def VAns (B : Nat) (zs : List Int) (e : Ending) (w' : World) : Prop :=
 (∃ xs vs, vrR zs = some xs /\ e = .returned (.tuple #[.agg #[vs], .nilIface]) /\ w'.ownsRow B 210 5 vs xs.length (ncs xs)) \/ (vrR zs = none /\ ∃ ao n c p, e = .returned (.tuple #[.agg #[.slice ao n c], badV p]))
theorem Zhf (v : Value) (zs : List Int) (W0 w : World) (P : Nat) (R : Row W0 v zs) (hb : Below W0.heap.size W0 w) (hP : W0.heap.size <= P) (h1 : One w P 0) :
  Calls Tryz.prog 245 #[.agg #[v, .pointer (some ⟨P, 0, none⟩)]] w fun e w' => w.grownBy w' (some P) /\ VAns w.heap.size zs e w' := by
 obtain ⟨ao, cap, rfl, _, hml, hz, _⟩ := id R
 have hbs := hb.size
 have hPl := h1.lt
 obtain ⟨hB2, x0, x1⟩ := Zat w (Obj.cells #[Value.slice ao zs.length cap, Value.pointer (some ⟨P, 0, none⟩)] 254) (Obj.cells #[.slice none 0 0] 40)
 go_enter Tryz.func245, Tryz.ntmps245
 go_wp2_with fail
 obtain ⟨W2, hW2⟩ : ∃ W2, (w.alloc (Obj.cells #[Value.slice ao zs.length cap, Value.pointer (some ⟨P, 0, none⟩)] 254)).alloc (Obj.cells #[.slice none 0 0] 40) = W2 := ⟨_, rfl⟩
 rw [hW2] at hB2 x0 x1 ⊢
 have hl1 := (bl x1)
 refine (ZdS _ zs W0 W2 P 0 R (hb.trans (hB2.mono hbs)) hP (h1.below hB2 hPl)).mono ?_
 rintro e w1 ⟨hgr, hans⟩
 have x0 := (hgr.block _ (by omega) (by simp; omega)).trans x0
 have x1 := (hgr.block _ (by omega) (by simp; omega)).trans x1
 have hG1 : w.grownBy w1 (some P) := Zai (Zcw hB2 _) hgr
 have hs1 := hgr.size
 rcases hans with ⟨xs, b, vs, a1, rfl, a3, a4⟩ | ⟨a1, ⟨p, rfl⟩, q, a3⟩
 ·obtain ⟨hbl, hp⟩ := Zit hz a1
  have hlen := ZaD hp
  obtain ⟨av, cv, rfl⟩ := Zae a3
  have HV : Hid (vrR zs = if b = zs.length /\ xs ≠ [] /\ allR xs [(xs.length : Int) - 1] = true then some xs else none) := Zk7 a1
  clear hW2 hgr
  have hs2 : (W2.heap.size : Nat) <= w1.heap.size := hs1
  have B1 : Below w1.heap.size w1 (w1.alloc (Obj.cells #[.slice av xs.length cv] 40)) := (Below.refl _ _).alloc (Nat.le_refl _) _
  have y0 := (B1.block _ (by omega)).trans x0
  have y1 := (B1.block _ (by omega)).trans x1
  have r0 : (w1.alloc (Obj.cells #[.slice av xs.length cv] 40)).cell? ⟨w.heap.size + 1, 0, none⟩ = some (.slice none 0 0) := cell_of_row (w1.alloc (Obj.cells #[.slice av xs.length cv] 40)) _ 0 _ _ _ y1
  have rf : (w1.alloc (Obj.cells #[.slice av xs.length cv] 40)).frozen? ⟨w.heap.size + 1, 0, none⟩ = false := frozen_of_row (w1.alloc (Obj.cells #[.slice av xs.length cv] 40)) _ 0 _ _ y1
  have hset : ((w1.alloc (Obj.cells #[.slice av xs.length cv] 40)).setCell ⟨w.heap.size + 1, 0, none⟩ (.slice none 0 0)).heap[w.heap.size + 1]? = some (.cells #[.slice none 0 0] 40 (0, 0)) := heap_setCell_same (w1.alloc (Obj.cells #[.slice av xs.length cv] 40)) (w.heap.size + 1) 0 _ _ (.slice none 0 0) y1
  have hbset : Below (w.heap.size + 1) (w1.alloc (Obj.cells #[.slice av xs.length cv] 40)) ((w1.alloc (Obj.cells #[.slice av xs.length cv] 40)).setCell ⟨w.heap.size + 1, 0, none⟩ (.slice none 0 0)) := (Below.refl _ _).setCell (p := ⟨w.heap.size + 1, 0, none⟩) (Nat.le_refl _) _
  have y4 : (w1.alloc (Obj.cells #[.slice av xs.length cv] 40)).heap[w1.heap.size]? = some (.cells #[.slice av xs.length cv] 40 (0, 0)) := heap_alloc_new _ _
  by_cases hxe : xs = []
  ·have HN : Hid (vrR zs = none) := by unfold Hid; rw [HV.out, if_neg]; intro h; exact h.2.1 hxe
   have h0 : (xs.length : Int) - 1 < 0 := by rw [hxe]; simp
   clear hxe
   go_wp2
   exact bodyPost_ret (Zab rfl _ _ (w.heap.size + 1) 40 _ (0, 0) _ rfl hset Tryz.underlying40 rfl ZmA) rfl ⟨Zam (Zam hG1 B1 hG1.size) hbset (by omega), Or.inr ⟨HN.out, _, _, _, _, rfl⟩⟩
  ·have hpos := List.length_pos_iff.2 hxe
   have h0 : ¬ ((xs.length : Int) - 1 < 0) := by omega
   have BI : Below (w1.alloc (Obj.cells #[.slice av xs.length cv] 40)).heap.size (w1.alloc (Obj.cells #[.slice av xs.length cv] 40)) ((w1.alloc (Obj.cells #[.slice av xs.length cv] 40)).alloc (Obj.cells #[.int .i64 ((xs.length : Int) - 1)] 3)) := (Below.refl _ _).alloc (Nat.le_refl _) _
   have hsA : (w1.alloc (Obj.cells #[.slice av xs.length cv] 40)).heap.size = w1.heap.size + 1 := by simp
   have R3 : NRow w1 (.slice av xs.length cv) xs := NRow.of_own a3 (by omega) (Zbx (ZbC hp))
   have RI : IRow ((w1.alloc (Obj.cells #[.slice av xs.length cv] 40)).alloc (Obj.cells #[.int .i64 ((xs.length : Int) - 1)] 3)) (.slice (some ⟨w1.heap.size + 1, 0, none⟩) 1 1) [(xs.length : Int) - 1] := by
    rw [<- hsA]
    exact ZgS (heap_alloc_new _ _)
   have HK := Zd9 _ _ xs [(xs.length : Int) - 1] ((w1.alloc (Obj.cells #[.slice av xs.length cv] 40)).alloc (Obj.cells #[.int .i64 ((xs.length : Int) - 1)] 3)) ((R3.below B1).below BI) RI hp (Zgl hxe)
   obtain ⟨kb, hkb⟩ : ∃ kb, Hid (allR xs [(xs.length : Int) - 1] = kb) := ⟨_, rfl⟩
   rw [hkb.out] at HK
   clear RI hsA
   go_wp2_with fail
   refine HK.mono ?_
   rintro e w4 ⟨rfl, hb4⟩
   have B4 : Below (w1.alloc (Obj.cells #[.slice av xs.length cv] 40)).heap.size (w1.alloc (Obj.cells #[.slice av xs.length cv] 40)) w4 := BI.trans (hb4.mono BI.size)
   have B14 : Below w1.heap.size w1 w4 := B1.trans (B4.mono B1.size)
   have z0 := (B14.block _ (by omega)).trans x0
   have z1 := (B14.block _ (by omega)).trans x1
   have z4 := (bb y4 B4)
   have zP := a4.below B14 a4.lt
   have zo := Zad a3 B14
   have hG4 : w.grownBy w4 (some P) := Zam hG1 B14 hG1.size
   have hs4 := B14.size
   clear HK hb4 BI B4 B14 B1 y0 y1 y4 r0 rf hset hbset
   cases kb with
   | false =>
    have HN : Hid (vrR zs = none) := by unfold Hid; rw [HV.out, if_neg]; intro h; rw [hkb.out] at h; exact absurd h.2.2 (by simp)
    have r0 : w4.cell? ⟨w.heap.size + 1, 0, none⟩ = some (.slice none 0 0) := cell_of_row w4 _ 0 _ _ _ z1
    have rf : w4.frozen? ⟨w.heap.size + 1, 0, none⟩ = false := frozen_of_row w4 _ 0 _ _ z1
    have hset : (w4.setCell ⟨w.heap.size + 1, 0, none⟩ (.slice none 0 0)).heap[w.heap.size + 1]? = some (.cells #[.slice none 0 0] 40 (0, 0)) := heap_setCell_same w4 (w.heap.size + 1) 0 _ _ (.slice none 0 0) z1
    have hbset : Below (w.heap.size + 1) w4 (w4.setCell ⟨w.heap.size + 1, 0, none⟩ (.slice none 0 0)) := (Below.refl _ _).setCell (p := ⟨w.heap.size + 1, 0, none⟩) (Nat.le_refl _) _
    go_wp2
    exact bodyPost_ret (Zab rfl _ _ (w.heap.size + 1) 40 _ (0, 0) _ rfl hset Tryz.underlying40 rfl ZmA) rfl ⟨Zam hG4 hbset (by omega), Or.inr ⟨HN.out, _, _, _, _, rfl⟩⟩
   | true =>
    have HE := Zc4 (.slice ao zs.length cap) zs P b w4.drew ⟨ao, cap, rfl⟩ zP
    have q0 : w4.cell? ⟨w.heap.size, 0, none⟩ = some (.slice ao zs.length cap) := cell_of_row w4 _ 0 _ _ _ z0
    have q1 : w4.cell? ⟨w.heap.size, 1, none⟩ = some (.pointer (some ⟨P, 0, none⟩)) := cell_of_row w4 _ 1 _ _ _ z0
    have q4 : w4.cell? ⟨w1.heap.size, 0, none⟩ = some (.slice av xs.length cv) := cell_of_row w4 _ 0 _ _ _ z4
    have r0 : w4.cell? ⟨w.heap.size + 1, 0, none⟩ = some (.slice none 0 0) := cell_of_row w4 _ 0 _ _ _ z1
    have rf : w4.frozen? ⟨w.heap.size + 1, 0, none⟩ = false := frozen_of_row w4 _ 0 _ _ z1
    have SS : ∀ w5 : World, Below w4.heap.size w4 w5 -> (w5.heap[w.heap.size + 1]? = some (.cells #[.slice none 0 0] 40 (0, 0))) /\ (w5.cell? ⟨w1.heap.size, 0, none⟩ = some (.slice av xs.length cv) /\ w5.cell? ⟨w.heap.size, 0, none⟩ = some (.slice ao zs.length cap) /\ w5.cell? ⟨w.heap.size, 1, none⟩ = some (.pointer (some ⟨P, 0, none⟩))) := by
     intro w5 hb5
     have l0 := (bl z0)
     have l1 := (bl z1)
     have l4 := (bl z4)
     have p0 := (hb5.block _ l0).trans z0
     have p1 := (hb5.block _ l1).trans z1
     have p4 := (hb5.block _ l4).trans z4
     exact ⟨p1, cell_of_row w5 _ 0 _ _ _ p4, cell_of_row w5 _ 0 _ _ _ p0, cell_of_row w5 _ 1 _ _ _ p0⟩
    have S6 : ∀ w5 : World, (w5.cell? ⟨w1.heap.size, 0, none⟩ = some (.slice av xs.length cv) /\ w5.cell? ⟨w.heap.size, 0, none⟩ = some (.slice ao zs.length cap) /\ w5.cell? ⟨w.heap.size, 1, none⟩ = some (.pointer (some ⟨P, 0, none⟩))) -> ((w5.setCell ⟨w.heap.size + 1, 0, none⟩ (.slice av xs.length cv)).cell? ⟨w1.heap.size, 0, none⟩ = some (.slice av xs.length cv) /\ (w5.setCell ⟨w.heap.size + 1, 0, none⟩ (.slice av xs.length cv)).cell? ⟨w.heap.size, 0, none⟩ = some (.slice ao zs.length cap) /\ (w5.setCell ⟨w.heap.size + 1, 0, none⟩ (.slice av xs.length cv)).cell? ⟨w.heap.size, 1, none⟩ = some (.pointer (some ⟨P, 0, none⟩))) := by
     rintro w5 ⟨a1, a2, a3⟩
     exact ⟨(World.cell?_of_block (heap_setCell_other w5 ⟨w.heap.size + 1, 0, none⟩ _ _ (by show w1.heap.size ≠ w.heap.size + 1; omega))).trans a1, (World.cell?_of_block (heap_setCell_other w5 ⟨w.heap.size + 1, 0, none⟩ _ _ (by show w.heap.size ≠ w.heap.size + 1; omega))).trans a2, (World.cell?_of_block (heap_setCell_other w5 ⟨w.heap.size + 1, 0, none⟩ _ _ (by show w.heap.size ≠ w.heap.size + 1; omega))).trans a3⟩
    have hd4 : Below w4.heap.size w4 w4.drew := (Below.refl _ _).drew
    go_wp2_with fail
    go_region_held (fun w' => w'.cell? ⟨w1.heap.size, 0, none⟩ = some (.slice av xs.length cv) /\ w'.cell? ⟨w.heap.size, 0, none⟩ = some (.slice ao zs.length cap) /\ w'.cell? ⟨w.heap.size, 1, none⟩ = some (.pointer (some ⟨P, 0, none⟩))) (first | exact s5 | exact s6 | go_keep) (first
     | (go_at_call 209; refine HE.mono ?_; rintro e w5 ⟨r, rfl, hE, hb5⟩; have s5' := SS w5 (hd4.trans (hb5.mono hd4.size)); have s5 := s5'.2; have r5 : w5.cell? ⟨w.heap.size + 1, 0, none⟩ = some (.slice none 0 0) := cell_of_row w5 _ 0 _ _ _ s5'.1; have rf5 : w5.frozen? ⟨w.heap.size + 1, 0, none⟩ = false := frozen_of_row w5 _ 0 _ _ s5'.1; have s6 := S6 w5 s5))
    all_goals
     have hb45 := hd4.trans (hb5.mono hd4.size)
     have hset : (w5.setCell ⟨w.heap.size + 1, 0, none⟩ (.slice av xs.length cv)).heap[w.heap.size + 1]? = some (.cells #[.slice av xs.length cv] 40 (0, 0)) := heap_setCell_same w5 (w.heap.size + 1) 0 _ _ (.slice av xs.length cv) s5'.1
     have hbset : Below (w.heap.size + 1) w5 (w5.setCell ⟨w.heap.size + 1, 0, none⟩ (.slice av xs.length cv)) := (Below.refl _ _).setCell (p := ⟨w.heap.size + 1, 0, none⟩) (Nat.le_refl _) _
     have hGF : w.grownBy (w5.setCell ⟨w.heap.size + 1, 0, none⟩ (.slice av xs.length cv)) (some P) := Zam (Zam hG4 hb45 hG4.size) hbset (by omega)
     have hoF := Zaf (ownsRow_setCell_below (Zad zo hb45) (a := ⟨w.heap.size + 1, 0, none⟩) hl1 (.slice av xs.length cv)) (show w.heap.size <= W2.heap.size by omega)
     have HF : Hid ((vrR zs = some xs /\ r = .nilIface) \/ (vrR zs = none /\ ∃ p, r = badV p)) := by
      unfold Hid
      rw [HV.out]
      rcases hE with ⟨e1, e2⟩ | ⟨e1, e2⟩
      ·rw [if_neg (fun h => by have := h.1; omega)]; exact Or.inr ⟨rfl, e2⟩
      ·rw [if_pos ⟨by omega, hxe, hkb.out⟩]; exact Or.inl ⟨rfl, e2⟩
     clear HE SS S6 s5 s5' s6 hE r5 rf5 q0 q1 q4 r0 rf
     go_wp2
     refine bodyPost_ret (Zab rfl _ _ (w.heap.size + 1) 40 _ (0, 0) _ rfl hset Tryz.underlying40 rfl ZmA) rfl ⟨hGF, ?_⟩
     rcases HF.out with ⟨f1, f2⟩ | ⟨f1, p, f2⟩
     ·exact Or.inl ⟨xs, _, f1, by rw [<- f2]; rfl, hoF⟩
     ·exact Or.inr ⟨f1, _, _, _, p, by rw [<- f2]; rfl⟩
 ·have HN : Hid (vrR zs = none) := ZkT a1
  have B1 : Below w1.heap.size w1 (w1.alloc (Obj.cells #[.slice none 0 0] 40)) := (Below.refl _ _).alloc (Nat.le_refl _) _
  have y1 := (B1.block _ (by omega)).trans x1
  have r0 : (w1.alloc (Obj.cells #[.slice none 0 0] 40)).cell? ⟨w.heap.size + 1, 0, none⟩ = some (.slice none 0 0) := cell_of_row (w1.alloc (Obj.cells #[.slice none 0 0] 40)) _ 0 _ _ _ y1
  have rf : (w1.alloc (Obj.cells #[.slice none 0 0] 40)).frozen? ⟨w.heap.size + 1, 0, none⟩ = false := frozen_of_row (w1.alloc (Obj.cells #[.slice none 0 0] 40)) _ 0 _ _ y1
  have hset : ((w1.alloc (Obj.cells #[.slice none 0 0] 40)).setCell ⟨w.heap.size + 1, 0, none⟩ (.slice none 0 0)).heap[w.heap.size + 1]? = some (.cells #[.slice none 0 0] 40 (0, 0)) := heap_setCell_same (w1.alloc (Obj.cells #[.slice none 0 0] 40)) (w.heap.size + 1) 0 _ _ (.slice none 0 0) y1
  have hbset : Below (w.heap.size + 1) (w1.alloc (Obj.cells #[.slice none 0 0] 40)) ((w1.alloc (Obj.cells #[.slice none 0 0] 40)).setCell ⟨w.heap.size + 1, 0, none⟩ (.slice none 0 0)) := (Below.refl _ _).setCell (p := ⟨w.heap.size + 1, 0, none⟩) (Nat.le_refl _) _
  unfold badV
  go_wp2
  exact bodyPost_ret (Zab rfl _ _ (w.heap.size + 1) 40 _ (0, 0) _ rfl hset Tryz.underlying40 rfl ZmA) rfl ⟨Zam (Zam hG1 B1 hG1.size) hbset (by omega), Or.inr ⟨HN.out, _, _, _, p, rfl⟩⟩
theorem ZaP {P : Program} {fn : Func} {p u u' : Tmp} {ty : TypeId} (h : fn.results = #[.cell p ty, .tmp u, .tmp u']) (tmps : Array Value) (w : World) (g : Nat) (t : TypeId) (cs : Array Value) (fr : Nat × Nat) (d : TypeDesc)
  (hp : tmps.getD p undef = .pointer (some ⟨g, 0, none⟩)) (hg : w.heap[g]? = some (.cells cs t fr))
  (hu : P.underlying ty = some d) (hd : (match d with | .struct _ | .array _ _ => true | _ => false) = true) (hi : (P.info? ty).map (·.size) = some cs.size) :
  (results fn tmps).run P w = .ok (.tuple #[.agg cs, tmps.getD u undef, tmps.getD u' undef]) w := by
 have hp' : tmps[p]?.getD undef = .pointer (some ⟨g, 0, none⟩) := by simpa using hp
 simp [results, h, hp', asAddr, run_loadVar_row w g t ty cs fr d hg hu hd hi]
def vrL (zs : List Int) : List Nd := (vrR zs).getD []
def vrI (zs : List Int) : Int := match vrR zs with | some xs => (xs.length : Int) - 1 | none => 0
def vrB (zs : List Int) : Bool := (vrR zs).isSome
theorem ZkN {zs : List Int} {xs : List Nd} (h : vrR zs = some xs) : vrL zs = xs /\ vrI zs = (xs.length : Int) - 1 /\ vrB zs = true := by unfold vrL vrI vrB; rw [h]; exact ⟨rfl, rfl, rfl⟩
theorem Zkp {zs : List Int} (h : vrR zs = none) : vrL zs = [] /\ vrI zs = 0 /\ vrB zs = false := by unfold vrL vrI vrB; rw [h]; exact ⟨rfl, rfl, rfl⟩
theorem Zk1 {zs : List Int} {xs : List Nd} (hz : ∀ z ∈ zs, 0 <= z /\ z <= 255) (h : vrR zs = some xs) : Zap xs = true /\ xs ≠ [] := by
 unfold vrR at h
 rw [Option.bind_eq_some_iff] at h
 obtain ⟨⟨ys, b⟩, h1, h2⟩ := h
 split at h2
 ·rename_i hc
  cases h2
  exact ⟨(Zit hz h1).2, hc.2.1⟩
 ·cases h2
def VrAns (B : Nat) (zs : List Int) (e : Ending) (w' : World) : Prop := ∃ v', e = .returned (.tuple #[.agg #[v'], .int .i64 (vrI zs), .bool (vrB zs)]) /\ w'.ownsRow B 210 5 v' (vrL zs).length (ncs (vrL zs))
theorem VrAns.intro {B : Nat} {zs : List Int} {e : Ending} {w' : World} (v' : Value) (h : e = .returned (.tuple #[.agg #[v'], .int .i64 (vrI zs), .bool (vrB zs)])) (k : w'.ownsRow B 210 5 v' (vrL zs).length (ncs (vrL zs))) : VrAns B zs e w' := ⟨v', h, k⟩
theorem Zg8 (s : ByteArray) (w : World) (hs : s.size <= 140737488351232) (hg : ErrT w) :
  Calls Tryz.prog 230 #[.string s] w fun e w' => VrAns w.heap.size (sb s) e w' /\ Below w.heap.size w w' := by
 have hB0 : Below w.heap.size w (w.alloc (Obj.cells #[.slice none 0 0] 40)) := (Below.refl _ _).alloc (Nat.le_refl _) _
 go_enter Tryz.func230, Tryz.ntmps230
 go_wp2_with fail
 refine (Za1 s _ hs).mono ?_
 rintro e w1 ⟨v, W0, P, rfl, R, hbW, hb1, hP, hone⟩
 have hs0 : w.heap.size + 1 <= W0.heap.size := by have := hbW.size; simp at this; omega
 have B1 : Below (w.alloc (Obj.cells #[.slice none 0 0] 40)).heap.size (w.alloc (Obj.cells #[.slice none 0 0] 40)) w1 := hbW.trans (hb1.mono hbW.size)
 have x1 := (B1.block w.heap.size (by simp)).trans (heap_alloc_new w _)
 have B01 := hB0.trans (B1.mono hB0.size)
 have hs1 := hb1.size
 obtain ⟨ao, cap, rfl, _⟩ := id R
 go_wp2_with fail
 refine (Zhf _ (sb s) W0 w1 P R hb1 hP hone).mono ?_
 rintro e w2 ⟨hgr, hans⟩
 have x2 := (hgr.block w.heap.size (by omega) (by simp; omega)).trans x1
 have B02 : Below w.heap.size w w2 := B01.grown hgr B01.size (fun k hk => by simp at hk; omega)
 have hs2 := hgr.size
 clear hgr B1 B01 x1 hbW hb1 hone
 rcases hans with ⟨xs, vs, a1, rfl, a3⟩ | ⟨a1, av, n, c, p, rfl⟩
 ·obtain ⟨e1, e2, e3⟩ := ZkN a1
  have hlen := ZaD (Zk1 (Zif s) a1).1
  have HA : Hid (vrL (sb s) = xs /\ vrI (sb s) = (xs.length : Int) - 1 /\ vrB (sb s) = true) := ⟨e1, e2, e3⟩
  clear e1 e2 e3 a1
  obtain ⟨av, cv, rfl⟩ := Zae a3
  have B3 : Below w2.heap.size w2 (w2.alloc (Obj.cells #[.slice av xs.length cv] 40)) := (Below.refl _ _).alloc (Nat.le_refl _) _
  have y4 : (w2.alloc (Obj.cells #[.slice av xs.length cv] 40)).heap[w2.heap.size]? = some (.cells #[.slice av xs.length cv] 40 (0, 0)) := heap_alloc_new _ _
  go_wp2_with fail
  refine (Ze6 _).mono ?_
  rintro e w4 ⟨rfl, hb4⟩
  have B24 : Below w2.heap.size w2 w4 := B3.trans (hb4.mono B3.size)
  have y4 := (bb y4 hb4)
  have x4 := (bb x2 B24)
  have a4 := Zad a3 B24
  have B04 := B02.trans (B24.mono B02.size)
  have q0 : w4.cell? ⟨w2.heap.size, 0, none⟩ = some (.slice av xs.length cv) := cell_of_row w4 _ 0 _ _ _ y4
  have r0 : w4.cell? ⟨w.heap.size, 0, none⟩ = some (.slice none 0 0) := cell_of_row w4 _ 0 _ _ _ x4
  have rf : w4.frozen? ⟨w.heap.size, 0, none⟩ = false := frozen_of_row w4 _ 0 _ _ x4
  have hne : w2.heap.size ≠ w.heap.size := by omega
  have hset := heap_setCell_same w4 w.heap.size 0 _ _ (.slice av xs.length cv) x4
  have hBF := B04.setCell (p := ⟨w.heap.size, 0, none⟩) (Nat.le_refl _) (.slice av xs.length cv)
  have hoF := Zaf (ownsRow_setCell_below a4 (a := ⟨w.heap.size, 0, none⟩) (by show w.heap.size < w1.heap.size; omega) (.slice av xs.length cv)) (show w.heap.size <= w1.heap.size by omega)
  clear hb4 B3 B24 y4 x2 B02 a3 a4
  go_wp2_with fail
  go_region
  all_goals
   go_wp2
   refine bodyPost_ret (ZaP rfl _ _ w.heap.size 40 _ (0, 0) _ rfl hset Tryz.underlying40 rfl ZmA) rfl ⟨VrAns.intro (.slice av xs.length cv) ?_ ?_, hBF.drew⟩
   ·rw [HA.out.2.1, HA.out.2.2]; rfl
   ·rw [HA.out.1]; exact hoF
 ·obtain ⟨e1, e2, e3⟩ := Zkp a1
  have HA : Hid (vrL (sb s) = [] /\ vrI (sb s) = 0 /\ vrB (sb s) = false) := ⟨e1, e2, e3⟩
  clear e1 e2 e3 a1
  have B3 : Below w2.heap.size w2 (w2.alloc (Obj.cells #[.slice av n c] 40)) := (Below.refl _ _).alloc (Nat.le_refl _) _
  have B03 := B02.trans (B3.mono B02.size)
  go_wp2_with fail
  refine (Ze8 p _ (hg.below B03 (Nat.le_refl _))).mono ?_
  rintro e w4 ⟨rfl, hb4⟩
  have B24 : Below w2.heap.size w2 w4 := B3.trans (hb4.mono B3.size)
  have x4 := (bb x2 B24)
  have B04 := B02.trans (B24.mono B02.size)
  have r0 : w4.cell? ⟨w.heap.size, 0, none⟩ = some (.slice none 0 0) := cell_of_row w4 _ 0 _ _ _ x4
  have rf : w4.frozen? ⟨w.heap.size, 0, none⟩ = false := frozen_of_row w4 _ 0 _ _ x4
  have hset := heap_setCell_same w4 w.heap.size 0 _ _ (.slice none 0 0) x4
  have hBF := B04.setCell (p := ⟨w.heap.size, 0, none⟩) (Nat.le_refl _) (.slice none 0 0)
  go_wp2
  refine bodyPost_ret (ZaP rfl _ _ w.heap.size 40 _ (0, 0) _ rfl hset Tryz.underlying40 rfl ZmA) rfl ⟨VrAns.intro (.slice none 0 0) ?_ ?_, hBF⟩
  ·rw [HA.out.2.1, HA.out.2.2]; rfl
  ·rw [HA.out.1]; exact World.ownsRow_nil _ _ _ _
end Go.Proofs.YtfmafkebddojjaaGreatDoor
namespace Go.Proofs.YtfmafkebddojjaaGreatDoor
open Go.RowKit Go.Shelf
attribute [local go_sem] Oper.semAt_some
abbrev Itm (xs : List Nd) : Type := { p : Nat × Nd // xs[p.1]? = some p.2 }
def ienc {xs : List Nd} (p : Itm xs) : Array Value := #[.int .i64 (p.1.1 : Int), .agg #[.int .i64 p.1.2.k, .int .i64 p.1.2.n, .string p.1.2.s, .int .i64 p.1.2.a, .int .i64 p.1.2.b]]
def KpZ (Z : Nat -> Prop) (W W' : World) : Prop := ∀ b, Z b -> W'.heap[b]? = W.heap[b]?
attribute [local go_sem] Oper.semAt_some
attribute [local go_sem] Oper.semAt_some
end Go.Proofs.YtfmafkebddojjaaGreatDoor
namespace Go.Proofs.YtfmafkebddojjaaGreatDoor
open Go.RowKit
theorem Zec (k : Int) : (hasA k = true <-> k = 5 \/ k = 6 \/ k = 7) /\ (hasB k = true <-> k = 5) := by
 unfold hasA hasB
 simp only [decide_eq_true_eq]
 exact ⟨trivial, trivial⟩
theorem ZfQ (ao : Option Addr) (cap : Nat) (vl : Value) (xs : List Nd) (rs : List Int) (w : World) (R : NRow w (.slice ao xs.length cap) xs) (L : IRow w vl rs) (hp : Zap xs = true) (hr : allI xs rs = true) :
  Calls Tryz.prog 249 #[.agg #[.slice ao xs.length cap], vl] w fun e w' => ∃ v', e = .returned v' /\ w'.ownsRow w.heap.size 4 1 v' xs.length (vb (Zas xs rs)) /\ Below w.heap.size w w' := by
 have hlen := ZaD hp
 have hB0 : Below w.heap.size w (w.alloc (Obj.cells #[.slice ao xs.length cap] 40)) := (Below.refl _ _).alloc (Nat.le_refl _) _
 have hbx := heap_alloc_new w (Obj.cells #[.slice ao xs.length cap] 40)
 have R0 := R.below hB0
 have L0 := L.below hB0
 clear R L
 have hs0 : (w.alloc (Obj.cells #[.slice ao xs.length cap] 40)).heap.size = w.heap.size + 1 := by simp
 obtain ⟨i0, hi, hz0, hz1, hz2⟩ := info_parts Zmx
 have hbytes : i0.bytes * xs.length <= 281474976710656 := by rw [hz2]; omega
 have hmax : xs.length <= maxLen := by unfold maxLen; omega
 go_enter Tryz.func249, Tryz.ntmps249
 go_wp2_with (at_make; refine wpList_make_full _ rfl _ _ 300 rfl (w.heap.size + 1) 4 i0 (.bool false) 1 Tryz.underlying300 hi hz0 hz1 _ _ _ _ xs.length rfl rfl rfl rfl hbytes hmax (by simp) ?_)
 intro w1 hown hgrow
 generalize w.alloc (Obj.cells #[.slice ao xs.length cap] 40) = w0 at *
 have hB1 : Below (w.heap.size + 1) w0 w1 := (Below.refl _ _).grown hgrow (by omega) (by intro k hk; cases hk)
 clear hgrow hbytes hmax
 obtain ⟨al, cl, rfl, hcl, _, hlc⟩ := L0
 go_wp2_with fail
 go_loopw [6] (fun i wr => ∃ (k : Nat) (bs : List Bool), k <= rs.length /\ i = .int .i64 k /\ bs.length = xs.length /\ Hid ((rs.drop k).foldl setB bs = ZcT xs.length rs) /\ wr.ownsRow (w.heap.size + 1) 4 1 (.slice (some ⟨w.heap.size + 1, 0, none⟩) xs.length xs.length) xs.length (vb bs) /\ Below (w.heap.size + 1) w0 wr) (fun i _ => rs.length - (intOf i).toNat)
 case atStart => exact ⟨0, List.replicate xs.length false, by omega, rfl, by simp, rfl, by rw [Ziz]; exact hown, hB1⟩
 case round =>
  clear hown hB1
  obtain ⟨k, bs, hk, rfl, hbl, HF, hown, hB⟩ := hrel
  by_cases hlt : k < rs.length
  ·obtain ⟨g, o, rfl, hg, hlc⟩ := hlc (by intro e; subst e; simp at hlt)
   have ez := (hB.cell (p := ⟨g, o + k, none⟩) (by simp; omega)).trans (hlc k hlt)
   obtain ⟨h1, h2⟩ := ZfW hr k hlt
   have HF2 : Hid ((rs.drop (k + 1)).foldl setB (setB bs (rs.getD k 0)) = ZcT xs.length rs) := (Zfm rs bs k hlt).symm.trans HF.out
   generalize rs.getD k 0 = z at ez h1 h2 HF2
   obtain ⟨nz, rfl⟩ := Int.eq_ofNat_of_zero_le h1
   have ec := hown.cellAt nz (by omega)
   rw [Zcs _ _ (by omega)] at ec
   have ef := hown.frozenAt nz
   have hs := (hown.stored nz (.bool true)).1
   rw [ZdX] at hs
   clear hlc hr HF
   go_wp2
   go_roundw
   case rel => exact ⟨k + 1, setB bs nz, by omega, by go_num, by rw [Zbg, hbl], HF2, hs, hB.setCell (p := ⟨w.heap.size + 1, nz, none⟩) (Nat.le_refl _) _⟩
   case measure => simp [intOf]; omega
  ·have hkx : k = rs.length := by omega
   subst hkx
   have HR : Hid (down xs xs.length bs = Zas xs rs) := by
    have := HF.out
    rw [List.drop_length, List.foldl_nil] at this
    rw [this]
    rfl
   clear HF hk hlt hlc hr
   have ep := (hB.cell (p := ⟨w.heap.size, 0, none⟩) (by simp)).trans ((cell_of_row w0 _ 0 _ _ _ hbx).trans rfl)
   have hBw : w.heap.size + 1 < wr.heap.size := (hown.lt _ rfl).2
   go_wp2_with fail
   go_loopw [7] (fun i wq => ∃ (k : Nat) (cs : List Bool), k <= xs.length /\ i = .int .i64 ((k : Int) - 1) /\ cs.length = xs.length /\ Hid (down xs k cs = Zas xs rs) /\ wq.ownsRow (w.heap.size + 1) 4 1 (.slice (some ⟨w.heap.size + 1, 0, none⟩) xs.length xs.length) xs.length (vb cs) /\ Below (w.heap.size + 1) w0 wq) (fun i _ => (intOf i + 1).toNat)
   case atStart => exact ⟨xs.length, bs, Nat.le_refl _, rfl, hbl, HR, hown, hB⟩
   case round =>
    clear hown hB HR hbl ep hBw
    clear bs
    obtain ⟨k, bs, hk, rfl, hbl, HR, hown, hB⟩ := hrel
    have ep := (hB.cell (p := ⟨w.heap.size, 0, none⟩) (by simp)).trans ((cell_of_row w0 _ 0 _ _ _ hbx).trans rfl)
    have hBw : w.heap.size + 1 < wr.heap.size := (hown.lt _ rfl).2
    rcases Nat.eq_zero_or_pos k with rfl | hpos
    ·have HQ : Hid (bs = Zas xs rs) := HR
     clear HR
     go_wp2
     go_ret
     rw [HQ.out] at hown
     exact ⟨_, rfl, Zaf hown (by omega), hB0.trans (hB.mono (by omega))⟩
    ·obtain ⟨j, rfl⟩ : ∃ j, k = j + 1 := ⟨k - 1, by omega⟩
     rw [show ((j + 1 : Nat) : Int) - 1 = (j : Int) by omega]
     obtain ⟨ao', cap', e', _, _, hz, hcell⟩ := R0
     simp only [Value.slice.injEq, true_and] at e'
     obtain ⟨rfl, rfl⟩ := e'
     obtain ⟨g, o, rfl, hg, hcell⟩ := hcell (by intro e; subst e; simp at hk)
     obtain ⟨x, hx⟩ : ∃ x, xs[j]? = some x := ⟨xs[j], by simp⟩
     obtain ⟨c0, c1, c2, c3, c4⟩ := (hcell j x hx).below hB (by rw [hs0] at hg; exact hg)
     have hnb := Za9 hp hx
     have hkd := Zec x.k
     have HD : Hid (down xs j (Zar x (bs.getD j false) bs) = Zas xs rs) := (Zev xs bs j x hx).symm.trans HR.out
     have hA : hasA x.k = true -> 0 <= x.a /\ x.a < (j : Int) := fun h => ZbZ hnb h
     have hBb : hasB x.k = true -> 0 <= x.b /\ x.b < (j : Int) := fun h => ZbX hnb h
     clear hcell hx HR hnb
     have hne4 : w.heap.size + 1 ≠ wr.heap.size := by omega
     have e0 := hown.cellAt j (by omega)
     rw [Zcs _ _ (by omega)] at e0
     cases hb : bs.getD j false with
     | false =>
      rw [hb] at e0 HD
      have HE : Hid (Zar x false bs = bs) := by unfold Hid Zar; simp
      clear hA hBb hb
      go_wp2
      refine ⟨⟨j, bs, by omega, by go_num, hbl, by rw [HE.out] at HD; exact HD, hown.alloc _, hB.alloc (by omega) _⟩, by simp [intOf]⟩
     | true =>
      rw [hb] at e0 HD
      clear hb
      cases hAk : hasA x.k with
      | false =>
       have hBk : hasB x.k = false := by
        unfold hasA at hAk; unfold hasB
        simp only [decide_eq_false_iff_not] at hAk ⊢
        omega
       rw [hAk, hBk] at hkd
       have k5 : (x.k == 5) = false := by simp; intro e; have := hkd.2.2 e; cases this
       have k6 : (x.k == 6) = false := by simp; intro e; have := hkd.1.2 (Or.inr (Or.inl e)); cases this
       have k7 : (x.k == 7) = false := by simp; intro e; have := hkd.1.2 (Or.inr (Or.inr e)); cases this
       have HE : Hid (Zar x true bs = bs) := by unfold Hid Zar; rw [hAk, hBk]; simp
       clear hA hBb hkd
       go_wp2
       refine ⟨⟨j, bs, by omega, by go_num, hbl, by rw [HE.out] at HD; exact HD, hown.alloc _, hB.alloc (by omega) _⟩, by simp [intOf]⟩
      | true =>
       obtain ⟨ha1, ha2⟩ := hA hAk
       obtain ⟨na, hna⟩ := Int.eq_ofNat_of_zero_le ha1
       rw [hna] at c3 ha2
       have e1 := hown.cellAt na (by omega)
       rw [Zcs _ _ (by omega)] at e1
       have f1 := hown.frozenAt na
       have hs1 := (hown.stored na (.bool true)).1
       rw [ZdX] at hs1
       have hnj : na ≠ j := by omega
       have hB5 := hB.setCell (p := ⟨w.heap.size + 1, na, none⟩) (Nat.le_refl _) (.bool true)
       cases hBk : hasB x.k with
       | false =>
        rw [hAk, hBk] at hkd
        have k5 : (x.k == 5) = false := by simp; intro e; have := hkd.2.2 e; cases this
        have HE : Hid (Zar x true bs = bs.set na true) := by unfold Hid Zar setB; rw [hAk, hBk, hna]; simp
        clear hA hBb
        rcases hkd.1.1 rfl with h5 | h6 | h7
        ·rw [h5] at k5; cases k5
        ·rw [h6] at c0
         clear hkd k5
         go_wp2
         refine ⟨⟨j, bs.set na true, by omega, by go_num, by simpa using hbl, by rw [HE.out] at HD; exact HD, hs1.alloc _, hB5.alloc (by simp; omega) _⟩, by simp [intOf]⟩
        ·rw [h7] at c0
         clear hkd k5
         go_wp2
         refine ⟨⟨j, bs.set na true, by omega, by go_num, by simpa using hbl, by rw [HE.out] at HD; exact HD, hs1.alloc _, hB5.alloc (by simp; omega) _⟩, by simp [intOf]⟩
       | true =>
        have h5 := hkd.2.1 hBk
        rw [h5] at c0
        obtain ⟨hb1, hb2⟩ := hBb hBk
        obtain ⟨nb', hnb'⟩ := Int.eq_ofNat_of_zero_le hb1
        rw [hnb'] at c4 hb2
        have HE : Hid (Zar x true bs = (bs.set na true).set nb' true) := by unfold Hid Zar setB; rw [hAk, hBk, hna, hnb']; simp
        have e2 := hs1.cellAt nb' (by omega)
        rw [Zcs _ _ (by simp; omega)] at e2
        have f2 := hs1.frozenAt nb'
        have hs2 := (hs1.stored nb' (.bool true)).1
        rw [ZdX] at hs2
        have hB6 := hB5.setCell (p := ⟨w.heap.size + 1, nb', none⟩) (Nat.le_refl _) (.bool true)
        clear hA hBb hkd
        go_wp2
        refine ⟨⟨j, (bs.set na true).set nb' true, by omega, by go_num, by simpa using hbl, by rw [HE.out] at HD; exact HD, hs2.alloc _, hB6.alloc (by simp; omega) _⟩, by simp [intOf]⟩
theorem ZcA (v vl : Value) (xs : List Nd) (rs : List Int) (w : World) (R : NRow w v xs) (L : IRow w vl rs) :
  Calls Tryz.prog 235 #[.agg #[v], vl] w fun e w' => e = .returned (.bool (allI xs rs && Zap xs)) /\ Below w.heap.size w w' := by
 have R' := R
 have L' := L
 obtain ⟨ao, cap, rfl, _⟩ := R'
 obtain ⟨al, cl, rfl, hcl, hlm, hcell⟩ := L'
 have hB0 : Below w.heap.size w (w.alloc (Obj.cells #[.slice ao xs.length cap] 40)) := (Below.refl _ _).alloc (Nat.le_refl _) _
 have hbx := heap_alloc_new w (Obj.cells #[.slice ao xs.length cap] 40)
 go_enter Tryz.func235, Tryz.ntmps235
 go_wp2_with fail
 go_loopw [5] (fun i wr => ∃ k : Nat, k <= rs.length /\ i = .int .i64 k /\ Hid (allI xs rs = (rs.drop k).all (hasI xs)) /\ Below w.heap.size w wr /\ wr.heap[w.heap.size]? = some (.cells #[.slice ao xs.length cap] 40 (0, 0))) (fun i _ => rs.length - (intOf i).toNat)
 case atStart => exact ⟨0, by omega, rfl, by simp [Hid, allI], hB0, hbx⟩
 case round =>
  clear hB0 hbx
  obtain ⟨k, hk, rfl, HA, hB, hbx⟩ := hrel
  have hcr : wr.cell? ⟨w.heap.size, 0, none⟩ = some (.slice ao xs.length cap) := by rw [cell_of_row wr _ 0 _ _ _ hbx]; rfl
  have hsz := (bl hbx)
  by_cases hlt : k < rs.length
  ·obtain ⟨g, o, rfl, hg, hcell⟩ := hcell (by intro e; subst e; simp at hlt)
   have c0 := (hB.cell (p := ⟨g, o + k, none⟩) hg).trans (hcell k hlt)
   have HS : Hid (allI xs rs = (hasI xs (rs.getD k 0) && (rs.drop (k + 1)).all (hasI xs))) := by unfold Hid; rw [HA.out, ZgE _ _ _ hlt]
   clear hcell HA
   generalize rs.getD k 0 = z at c0 HS
   go_wp2_with fail
   go_region_with (go_at_call 164; refine (Zco _ xs _ _ (R.below ?_)).mono ?_; exact hB.drew; rintro e w2 ⟨rfl, hb2⟩)
   all_goals
    have hb2' : Below wr.heap.size wr w2 := (Below.refl _ _).drew.trans hb2
    have hB2 := hB.trans (hb2'.mono hB.size)
    have hbx2 := (hb2'.block _ hsz).trans hbx
    clear c0 hb2 hcr hbx hb2'
    cases hA : hasI xs z with
    | false =>
     rw [hA, Bool.false_and] at HS
     go_wp2
     go_ret
     rw [HS.out]
     exact ⟨rfl, hB2⟩
    | true =>
     rw [hA, Bool.true_and] at HS
     go_wp2
     go_roundw
     case rel => exact ⟨k + 1, by omega, by go_num, HS, hB2, hbx2⟩
     case measure => simp [intOf]; omega
  ·have hkx : k = rs.length := by omega
   subst hkx
   have HS : Hid (allI xs rs = true) := by unfold Hid; rw [HA.out]; simp
   go_wp2_with fail
   refine (Zb8 _ xs _ (R.below hB)).mono ?_
   rintro e w2 ⟨rfl, hb2⟩
   go_wp2
   go_ret
   rw [HS.out, Bool.true_and]
   exact ⟨rfl, hB.trans (hb2.mono hB.size)⟩
end Go.Proofs.YtfmafkebddojjaaGreatDoor
