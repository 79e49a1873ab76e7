/-
  What a right world is; and the contracts of impl's placesFit, hasPlace, isKnown, parkedFits, gramsFit. No condition.
-/
import Derived.Test.YtfmafkebddojjaaGreatDoorSMlRM
import Derived.Test.YtfmafkebddojjaaGreatDoorMPack2M
namespace Go.Proofs.YtfmafkebddojjaaGreatDoor
open Go.RowKit
def hasP (pl a : Int) : Bool := decide (0 <= a) && decide (a < pl)
def knB (g : Gm) : Bool := (decide (0 <= g.n) && decide (g.n <= 100000)) && (decide (g.k = 1) || (decide (g.k = 2) && g.s.toList.isEmpty))
def gmB (pl : Int) (g : Gm) : Bool := (hasP pl g.f && hasP pl g.t) && knB g
def pdB (pl : Int) (p : Pd) : Bool := hasP pl p.p
def Zbp (pl : Int) : Bool := decide (1 <= pl) && decide (pl <= 3)
theorem ZaX {α : Type} {f : α -> Bool} {xs : List α} {k : Nat} {x : α} (h : (xs.take k).all f = true) (hx : xs[k]? = some x) (hf : f x = true) : (xs.take (k + 1)).all f = true := by
 rw [List.take_add_one, hx, List.all_append, h]
 simp [hf]
theorem Zas {α : Type} {f : α -> Bool} {xs : List α} {k : Nat} {x : α} (hx : xs[k]? = some x) (hf : f x = false) : xs.all f = false := by
 rw [List.all_eq_false]
 exact ⟨x, List.mem_of_getElem? hx, by simp [hf]⟩
theorem Zbs {α : Type} {f : α -> Bool} {xs : List α} {k : Nat} (h : (xs.take k).all f = true) (hk : xs.length <= k) : xs.all f = true := by
 rwa [List.take_of_length_le hk] at h
set_option maxHeartbeats 400000 in
theorem Zd7 (pl : Int) (w : World) : Calls Tryz.prog 106 #[.int .i64 pl] w fun e w' => e = .returned (.bool (Zbp pl)) /\ w' = w := by
 by_cases h1 : 1 <= pl
 ·have HR : Hid (Zbp pl = decide (pl <= 3)) := by unfold Hid Zbp; simp [h1]
  go_enter Tryz.func106, Tryz.ntmps106
  go_wp2
  go_ret
  exact ⟨by rw [HR.out]; rfl, rfl⟩
 ·have HR : Hid (Zbp pl = false) := by unfold Hid Zbp; simp [h1]
  go_enter Tryz.func106, Tryz.ntmps106
  go_wp2
  go_ret
  exact ⟨by rw [HR.out]; rfl, rfl⟩
set_option maxRecDepth 100000 in
set_option maxHeartbeats 800000 in
theorem Zbr (vn vi vf vh vl vg vp va vt : Value) (d : Wd) (a : Int) (w : World) :
  Calls Tryz.prog 155 #[.agg #[vn, vi, vf, .int .i64 d.pl, vh, vl, vg, vp, .int .i64 d.nx, va, vt], .int .i64 a] w fun e w' => e = .returned (.bool (hasP d.pl a)) /\ Below w.heap.size w w' := by
 have hB := Zam w (Obj.cells #[vn, vi, vf, .int .i64 d.pl, vh, vl, vg, vp, .int .i64 d.nx, va, vt] 50)
 have c1 : (w.alloc (Obj.cells #[vn, vi, vf, .int .i64 d.pl, vh, vl, vg, vp, .int .i64 d.nx, va, vt] 50)).cell? ⟨w.heap.size, 0 + 3, none⟩ = some (.int .i64 d.pl) := cell_of_row _ _ 3 _ _ _ (heap_alloc_new _ _)
 go_enter Tryz.func155, Tryz.ntmps155
 by_cases h : 0 <= a
 ·have HR : Hid (hasP d.pl a = decide (a < d.pl)) := by unfold Hid hasP; simp [h]
  go_wp2
  go_ret
  exact ⟨by rw [HR.out]; rfl, hB⟩
 ·have HR : Hid (hasP d.pl a = false) := by unfold Hid hasP; simp [h]
  go_wp2
  go_ret
  exact ⟨by rw [HR.out]; rfl, hB⟩
set_option maxRecDepth 100000 in
set_option maxHeartbeats 800000 in
theorem ZfI (g : Gm) (w : World) :
  Calls Tryz.prog 158 #[.agg #[.int .i64 g.k, .int .i64 g.f, .int .i64 g.t, .int .i64 g.n, .string g.s]] w fun e w' => e = .returned (.bool (knB g)) /\ Below w.heap.size w w' := by
 have hB := Zam w (Obj.cells #[.int .i64 g.k, .int .i64 g.f, .int .i64 g.t, .int .i64 g.n, .string g.s] 131)
 go_enter Tryz.func158, Tryz.ntmps158
 by_cases h0 : g.n < 0
 ·have HR : Hid (knB g = false) := by unfold Hid knB; simp; omega
  go_wp2
  go_ret
  exact ⟨by rw [HR.out]; rfl, hB⟩
 ·by_cases h1 : 100000 < g.n
  ·have HR : Hid (knB g = false) := by unfold Hid knB; simp; omega
   go_wp2
   go_ret
   exact ⟨by rw [HR.out]; rfl, hB⟩
  ·have hn : (decide (0 <= g.n) && decide (g.n <= 100000)) = true := by simp; omega
   by_cases h2 : g.k = 1
   ·have HR : Hid (knB g = true) := by unfold Hid knB; rw [hn]; simp [h2]
    have e1 : (g.k == 1) = true := by simp [h2]
    clear h2 hn
    go_wp2
    go_ret
    exact ⟨by rw [HR.out]; rfl, hB⟩
   ·have e1 : (g.k == 1) = false := by simp [h2]
    by_cases h3 : g.k = 2
    ·have e2 : (g.k == 2) = true := by simp [h3]
     have HR : Hid (knB g = g.s.toList.isEmpty) := by unfold Hid knB; rw [hn]; simp [h3]
     clear h3 h2 hn
     go_wp2
     go_ret
     exact ⟨by rw [HR.out]; rfl, hB⟩
    ·have e2 : (g.k == 2) = false := by simp [h3]
     have HR : Hid (knB g = false) := by unfold Hid knB; rw [hn]; simp [h2, h3]
     clear h3 h2 hn
     go_wp2
     go_ret
     exact ⟨by rw [HR.out]; rfl, hB⟩
end Go.Proofs.YtfmafkebddojjaaGreatDoor
