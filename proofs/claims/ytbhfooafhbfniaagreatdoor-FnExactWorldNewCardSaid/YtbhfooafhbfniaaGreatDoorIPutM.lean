/-
  Texts that stood by themselves, laid into one.
-/
import Derived.Test.YtbhfooafhbfniaaGreatDoorRNumsM
import Derived.Test.YtbhfooafhbfniaaGreatDoorR8bM
import Derived.Deep.RegionHeld
import Derived.Test.YtbhfooafhbfniaaGreatDoorWnCM
import Derived.Test.YtbhfooafhbfniaaGreatDoorShapeM
import Derived.Deep.AppendLies
import Derived.Deep.RegionLawGrows
import Derived.OneCell
import Derived.Test.YtbhfooafhbfniaaGreatDoorDecM
import Derived.Test.YtbhfooafhbfniaaGreatDoorNextM
/-
  The contracts of impl.getN and its kin: the fields of a node of one kind are read into it. Bounds of the form alone.
-/
namespace Go.Proofs.YtbhfooafhbfniaaGreatDoor
open Go.RowKit
def ndA (x : Nd) : Array Value := #[.int .i64 x.k, .int .i64 x.n, .string x.s, .int .i64 x.a, .int .i64 x.b]
def nd0 (k : Int) : Nd := ⟨k, 0, ByteArray.empty, 0, 0⟩
def Gets (f : Nat) (k : Int) : Prop := ∀ (v : Value) (zs : List Int) (W0 w : World) (P nb : Nat) (a : Int), Row W0 v zs → Below W0.heap.size W0 w → W0.heap.size ≤ P → W0.heap.size ≤ nb → P ≠ nb → One w P a → w.heap[nb]? = some (.cells (ndA (nd0 k)) 130 (0, 0)) →
  Calls Tryz.prog f #[.agg #[v, .pointer (some ⟨P, 0, none⟩)], .pointer (some ⟨nb, 0, none⟩)] w fun e w' => K2 P nb w w' ∧
    ((∃ x b, rdB zs k a = some (x, b) ∧ e = .returned .nilIface ∧ One w' P b ∧ w'.heap[nb]? = some (.cells (ndA x) 130 (0, 0)))
      ∨ (rdB zs k a = none ∧ (∃ p, e = .returned (badV p)) ∧ (∃ q, One w' P q) ∧ ∃ x, x.k = k ∧ w'.heap[nb]? = some (.cells (ndA x) 130 (0, 0))))
theorem rdB_k {zs : List Int} {k a b : Int} {x : Nd} (h : rdB zs k a = some (x, b)) : x.k = k := by
  unfold rdB at h
  repeat' split at h
  all_goals first
    | (cases h; done)
    | (cases h; first | rfl | (symm; assumption))
    | (rw [Option.map_eq_some_iff] at h; obtain ⟨_, _, h⟩ := h; cases h; first | rfl | (symm; assumption))
    | (rw [Option.bind_eq_some_iff] at h; obtain ⟨_, _, h⟩ := h; rw [Option.map_eq_some_iff] at h; obtain ⟨_, _, h⟩ := h; cases h; first | rfl | (symm; assumption))
set_option maxRecDepth 100000 in
set_option maxHeartbeats 800000 in
theorem getnothing_any : Gets 160 1 := by
  intro v zs W0 w P nb a R hb hP hM hne h1 hm
  obtain ⟨ao, cap, rfl, _⟩ := R
  go_enter Tryz.func160, Tryz.ntmps160
  go_wp2
  go_ret
  have hB : Below w.heap.size w (w.alloc (Obj.cells #[Value.slice ao zs.length cap, Value.pointer (some ⟨P, 0, none⟩)] 177)) := (Below.refl _ _).alloc (Nat.le_refl _) _
  exact ⟨K2.ofB hB, Or.inl ⟨nd0 1, a, rfl, rfl, h1.below hB h1.lt, (hB.block _ (Array.getElem?_eq_some_iff.1 hm).1).trans hm⟩⟩
theorem get_nums (v : Value) (zs : List Int) (W0 w : World) (P nb : Nat) (a : Int) (cs : Array Value) (bx : Obj) (os : List Nat) (R : Row W0 v zs) (hb : Below W0.heap.size W0 w) (hP : W0.heap.size ≤ P) (hM : W0.heap.size ≤ nb) (hne : P ≠ nb) (h1 : One w P a)
    (hm : w.heap[nb]? = some (.cells cs 130 (0, 0))) (hos : ∀ o ∈ os, o < cs.size) (hn : os.length ≤ 10) :
    Calls Tryz.prog 149 #[.agg #[v, .pointer (some ⟨P, 0, none⟩)], .slice (some ⟨w.heap.size + 1, 0, none⟩) os.length os.length] ((w.alloc bx).alloc (Obj.cells (tgt nb os) 175)).drew fun e w' => ∃ r, e = .returned r ∧ K2 P nb w w' ∧ w'.heap[w.heap.size]? = some bx ∧
      ((∃ q, rdK zs os.length a = some q ∧ r = .nilIface ∧ One w' P q.2 ∧ w'.heap[nb]? = some (.cells (setL cs os q.1) 130 (0, 0)))
        ∨ (rdK zs os.length a = none ∧ (∃ p, r = badV p) ∧ (∃ q, One w' P q) ∧ ∃ vs : List Int, vs.length < os.length ∧ w'.heap[nb]? = some (.cells (setL cs (os.take vs.length) vs) 130 (0, 0)))) := by
  have hPl := h1.lt
  have hml := (Array.getElem?_eq_some_iff.1 hm).1
  have hB1 : Below w.heap.size w (w.alloc bx) := (Below.refl _ _).alloc (Nat.le_refl _) _
  have hB2 : Below w.heap.size w ((w.alloc bx).alloc (Obj.cells (tgt nb os) 175)).drew := (hB1.alloc hB1.size _).drew
  have hs : (w.alloc bx).heap.size = w.heap.size + 1 := by simp
  have hL : ((w.alloc bx).alloc (Obj.cells (tgt nb os) 175)).drew.heap[w.heap.size + 1]? = some (.cells (tgt nb os) 175 (0, 0)) := by rw [← hs]; exact heap_alloc_new _ _
  have hx : ((w.alloc bx).alloc (Obj.cells (tgt nb os) 175)).drew.heap[w.heap.size]? = some bx := (heap_alloc_old (w.alloc bx) _ (by rw [hs]; omega)).trans (heap_alloc_new w bx)
  have hbs := hb.size
  refine (rnums_any v zs W0 _ P nb (w.heap.size + 1) a cs 130 os R (hb.trans (hB2.mono hbs)) hP hM (h1.below hB2 hPl) ((hB2.block _ hml).trans hm) hos hL hne (by omega) (by omega) hn).mono ?_
  rintro e w' ⟨hK, h⟩
  have hxl : w.heap.size < ((w.alloc bx).alloc (Obj.cells (tgt nb os) 175)).drew.heap.size := (Array.getElem?_eq_some_iff.1 hx).1
  have hx' := (hK.block _ hxl (by omega) (by omega)).trans hx
  rcases h with ⟨q, e1, rfl, e3, e4⟩ | ⟨e1, ⟨p, rfl⟩, e3, e4⟩
  · exact ⟨_, rfl, (K2.ofB hB2).trans hK, hx', Or.inl ⟨q, e1, rfl, e3, e4⟩⟩
  · exact ⟨_, rfl, (K2.ofB hB2).trans hK, hx', Or.inr ⟨e1, ⟨p, rfl⟩, e3, e4⟩⟩
theorem rdK_one (zs : List Int) (a : Int) : rdK zs 1 a = (rd1 zs a).map fun p => ([p.1], p.2) := by
  simp only [rdK]
  cases rd1 zs a <;> rfl
theorem rdK_two (zs : List Int) (a : Int) : rdK zs 2 a = (rd1 zs a).bind fun p => (rd1 zs p.2).map fun q => ([p.1, q.1], q.2) := by
  rw [rdK]
  cases rd1 zs a with
  | none => rfl
  | some p => simp only [Option.bind_some]; rw [rdK_one]; cases rd1 zs p.2 <;> rfl
theorem one_get {zs : List Int} {k a : Int} {o : Nat} {f : Int → Nd} (hf : ∀ x, setL (ndA (nd0 k)) [o] [x] = ndA (f x)) (hr : rdB zs k a = (rd1 zs a).map fun p => (f p.1, p.2)) {P nb : Nat} {w' : World} {r : Value}
    (h : (∃ q, rdK zs 1 a = some q ∧ r = .nilIface ∧ One w' P q.2 ∧ w'.heap[nb]? = some (.cells (setL (ndA (nd0 k)) [o] q.1) 130 (0, 0)))
        ∨ (rdK zs 1 a = none ∧ (∃ p, r = badV p) ∧ (∃ q, One w' P q) ∧ ∃ vs : List Int, vs.length < 1 ∧ w'.heap[nb]? = some (.cells (setL (ndA (nd0 k)) ([o].take vs.length) vs) 130 (0, 0)))) :
    (∃ x b, rdB zs k a = some (x, b) ∧ r = .nilIface ∧ One w' P b ∧ w'.heap[nb]? = some (.cells (ndA x) 130 (0, 0)))
      ∨ (rdB zs k a = none ∧ (∃ p, r = badV p) ∧ (∃ q, One w' P q) ∧ w'.heap[nb]? = some (.cells (ndA (nd0 k)) 130 (0, 0))) := by
  rw [rdK_one] at h
  rw [hr]
  cases hd : rd1 zs a with
  | some p =>
    rw [hd] at h
    rcases h with ⟨q, e1, rfl, e3, e4⟩ | ⟨e1, -⟩
    · cases e1
      rw [hf] at e4
      exact Or.inl ⟨_, _, rfl, rfl, e3, e4⟩
    · cases e1
  | none =>
    rw [hd] at h
    rcases h with ⟨q, e1, -⟩ | ⟨-, ⟨p, rfl⟩, e3, vs, hv, e4⟩
    · cases e1
    · obtain rfl : vs = [] := List.eq_nil_of_length_eq_zero (by omega)
      exact Or.inr ⟨rfl, ⟨p, rfl⟩, e3, e4⟩
theorem two_get {zs : List Int} {k a : Int} {o o2 : Nat} {f : Int → Int → Nd} {g : Int → Nd} (hf : ∀ x y, setL (ndA (nd0 k)) [o, o2] [x, y] = ndA (f x y)) (hg : ∀ x, setL (ndA (nd0 k)) [o] [x] = ndA (g x)) (hgk : ∀ x, (g x).k = k) (hr : rdB zs k a = (rd1 zs a).bind fun p => (rd1 zs p.2).map fun q => (f p.1 q.1, q.2)) {P nb : Nat} {w' : World} {r : Value}
    (h : (∃ q, rdK zs 2 a = some q ∧ r = .nilIface ∧ One w' P q.2 ∧ w'.heap[nb]? = some (.cells (setL (ndA (nd0 k)) [o, o2] q.1) 130 (0, 0)))
        ∨ (rdK zs 2 a = none ∧ (∃ p, r = badV p) ∧ (∃ q, One w' P q) ∧ ∃ vs : List Int, vs.length < 2 ∧ w'.heap[nb]? = some (.cells (setL (ndA (nd0 k)) ([o, o2].take vs.length) vs) 130 (0, 0)))) :
    (∃ x b, rdB zs k a = some (x, b) ∧ r = .nilIface ∧ One w' P b ∧ w'.heap[nb]? = some (.cells (ndA x) 130 (0, 0)))
      ∨ (rdB zs k a = none ∧ (∃ p, r = badV p) ∧ (∃ q, One w' P q) ∧ ∃ x, x.k = k ∧ w'.heap[nb]? = some (.cells (ndA x) 130 (0, 0))) := by
  rw [rdK_two] at h
  rw [hr]
  have hbad : ∀ vs : List Int, vs.length < 2 → w'.heap[nb]? = some (.cells (setL (ndA (nd0 k)) ([o, o2].take vs.length) vs) 130 (0, 0)) → ∃ x, x.k = k ∧ w'.heap[nb]? = some (.cells (ndA x) 130 (0, 0)) := by
    intro vs hv e4
    match vs, hv with
    | [], _ => exact ⟨nd0 k, rfl, e4⟩
    | [y], _ => exact ⟨g y, hgk y, by rw [← hg]; exact e4⟩
  rcases h with ⟨q, e1, rfl, e3, e4⟩ | ⟨e1, ⟨p, rfl⟩, e3, vs, hv, e4⟩
  · rw [Option.bind_eq_some_iff] at e1
    obtain ⟨p, e1, e2⟩ := e1
    rw [Option.map_eq_some_iff] at e2
    obtain ⟨t, e2, e5⟩ := e2
    cases e5
    rw [hf] at e4
    refine Or.inl ⟨_, _, ?_, rfl, e3, e4⟩
    rw [e1]
    simp only [Option.bind_some]
    rw [e2]
    rfl
  · refine Or.inr ⟨?_, ⟨p, rfl⟩, e3, hbad vs hv e4⟩
    cases hd : rd1 zs a with
    | none => rfl
    | some t =>
      rw [hd] at e1
      simp only [Option.bind_some] at e1 ⊢
      cases hd2 : rd1 zs t.2 with
      | none => rfl
      | some u => rw [hd2] at e1; cases e1
set_option maxRecDepth 100000 in
set_option maxHeartbeats 1600000 in
theorem getn_reg (v : Value) (zs : List Int) (W0 w : World) (P nb : Nat) (a : Int) (k : Int) (R : Row W0 v zs) (hb : Below W0.heap.size W0 w) (hP : W0.heap.size ≤ P) (hM : W0.heap.size ≤ nb) (hne : P ≠ nb) (h1 : One w P a) (hm : w.heap[nb]? = some (.cells (ndA (nd0 k)) 130 (0, 0))) :
    Calls Tryz.prog 162 #[.agg #[v, .pointer (some ⟨P, 0, none⟩)], .pointer (some ⟨nb, 0, none⟩)] w fun e w' => ∃ r, e = .returned r ∧ K2 P nb w w' ∧
      ((∃ q, rdK zs 1 a = some q ∧ r = .nilIface ∧ One w' P q.2 ∧ w'.heap[nb]? = some (.cells (setL (ndA (nd0 k)) [1] q.1) 130 (0, 0)))
        ∨ (rdK zs 1 a = none ∧ (∃ p, r = badV p) ∧ (∃ q, One w' P q) ∧ ∃ vs : List Int, vs.length < 1 ∧ w'.heap[nb]? = some (.cells (setL (ndA (nd0 k)) ([1].take vs.length) vs) 130 (0, 0)))) := by
  obtain ⟨ao, cap, rfl, _⟩ := id R
  have HC := get_nums _ zs W0 w P nb a (ndA (nd0 k)) (Obj.cells #[Value.slice ao zs.length cap, Value.pointer (some ⟨P, 0, none⟩)] 177) [1] R hb hP hM hne h1 hm (by intro o ho; simp at ho; simp [ndA]; omega) (by simp)
  go_enter Tryz.func162, Tryz.ntmps162
  go_wp2_with fail
  go_region_held (fun w' => w'.cell? ⟨w.heap.size, 0, none⟩ = some (.slice ao zs.length cap) ∧ w'.cell? ⟨w.heap.size, 1, none⟩ = some (.pointer (some ⟨P, 0, none⟩))) (first | exact s1 | go_keep) (first
    | (go_at_call 149; refine HC.mono ?_; rintro e w1 ⟨r, rfl, hK, hbx, hr⟩; have s1 : w1.cell? ⟨w.heap.size, 0, none⟩ = some (.slice ao zs.length cap) ∧ w1.cell? ⟨w.heap.size, 1, none⟩ = some (.pointer (some ⟨P, 0, none⟩)) := ⟨cell_of_row w1 _ 0 _ _ _ hbx, cell_of_row w1 _ 1 _ _ _ hbx⟩))
  all_goals
    clear HC s1
    go_wp2
    go_ret
    exact ⟨r, rfl, hK, hr⟩
set_option maxRecDepth 100000 in
set_option maxHeartbeats 1600000 in
theorem geta_reg (v : Value) (zs : List Int) (W0 w : World) (P nb : Nat) (a : Int) (k : Int) (R : Row W0 v zs) (hb : Below W0.heap.size W0 w) (hP : W0.heap.size ≤ P) (hM : W0.heap.size ≤ nb) (hne : P ≠ nb) (h1 : One w P a) (hm : w.heap[nb]? = some (.cells (ndA (nd0 k)) 130 (0, 0))) :
    Calls Tryz.prog 172 #[.agg #[v, .pointer (some ⟨P, 0, none⟩)], .pointer (some ⟨nb, 0, none⟩)] w fun e w' => ∃ r, e = .returned r ∧ K2 P nb w w' ∧
      ((∃ q, rdK zs 1 a = some q ∧ r = .nilIface ∧ One w' P q.2 ∧ w'.heap[nb]? = some (.cells (setL (ndA (nd0 k)) [3] q.1) 130 (0, 0)))
        ∨ (rdK zs 1 a = none ∧ (∃ p, r = badV p) ∧ (∃ q, One w' P q) ∧ ∃ vs : List Int, vs.length < 1 ∧ w'.heap[nb]? = some (.cells (setL (ndA (nd0 k)) ([3].take vs.length) vs) 130 (0, 0)))) := by
  obtain ⟨ao, cap, rfl, _⟩ := id R
  have HC := get_nums _ zs W0 w P nb a (ndA (nd0 k)) (Obj.cells #[Value.slice ao zs.length cap, Value.pointer (some ⟨P, 0, none⟩)] 177) [3] R hb hP hM hne h1 hm (by intro o ho; simp at ho; simp [ndA]; omega) (by simp)
  go_enter Tryz.func172, Tryz.ntmps172
  go_wp2_with fail
  go_region_held (fun w' => w'.cell? ⟨w.heap.size, 0, none⟩ = some (.slice ao zs.length cap) ∧ w'.cell? ⟨w.heap.size, 1, none⟩ = some (.pointer (some ⟨P, 0, none⟩))) (first | exact s1 | go_keep) (first
    | (go_at_call 149; refine HC.mono ?_; rintro e w1 ⟨r, rfl, hK, hbx, hr⟩; have s1 : w1.cell? ⟨w.heap.size, 0, none⟩ = some (.slice ao zs.length cap) ∧ w1.cell? ⟨w.heap.size, 1, none⟩ = some (.pointer (some ⟨P, 0, none⟩)) := ⟨cell_of_row w1 _ 0 _ _ _ hbx, cell_of_row w1 _ 1 _ _ _ hbx⟩))
  all_goals
    clear HC s1
    go_wp2
    go_ret
    exact ⟨r, rfl, hK, hr⟩
set_option maxRecDepth 100000 in
set_option maxHeartbeats 1600000 in
theorem getparts_reg (v : Value) (zs : List Int) (W0 w : World) (P nb : Nat) (a : Int) (k : Int) (R : Row W0 v zs) (hb : Below W0.heap.size W0 w) (hP : W0.heap.size ≤ P) (hM : W0.heap.size ≤ nb) (hne : P ≠ nb) (h1 : One w P a) (hm : w.heap[nb]? = some (.cells (ndA (nd0 k)) 130 (0, 0))) :
    Calls Tryz.prog 168 #[.agg #[v, .pointer (some ⟨P, 0, none⟩)], .pointer (some ⟨nb, 0, none⟩)] w fun e w' => ∃ r, e = .returned r ∧ K2 P nb w w' ∧
      ((∃ q, rdK zs 2 a = some q ∧ r = .nilIface ∧ One w' P q.2 ∧ w'.heap[nb]? = some (.cells (setL (ndA (nd0 k)) [3, 4] q.1) 130 (0, 0)))
        ∨ (rdK zs 2 a = none ∧ (∃ p, r = badV p) ∧ (∃ q, One w' P q) ∧ ∃ vs : List Int, vs.length < 2 ∧ w'.heap[nb]? = some (.cells (setL (ndA (nd0 k)) ([3, 4].take vs.length) vs) 130 (0, 0)))) := by
  obtain ⟨ao, cap, rfl, _⟩ := id R
  have HC := get_nums _ zs W0 w P nb a (ndA (nd0 k)) (Obj.cells #[Value.slice ao zs.length cap, Value.pointer (some ⟨P, 0, none⟩)] 177) [3, 4] R hb hP hM hne h1 hm (by intro o ho; simp at ho; simp [ndA]; omega) (by simp)
  go_enter Tryz.func168, Tryz.ntmps168
  go_wp2_with fail
  go_region_held (fun w' => w'.cell? ⟨w.heap.size, 0, none⟩ = some (.slice ao zs.length cap) ∧ w'.cell? ⟨w.heap.size, 1, none⟩ = some (.pointer (some ⟨P, 0, none⟩))) (first | exact s1 | go_keep) (first
    | (go_at_call 149; refine HC.mono ?_; rintro e w1 ⟨r, rfl, hK, hbx, hr⟩; have s1 : w1.cell? ⟨w.heap.size, 0, none⟩ = some (.slice ao zs.length cap) ∧ w1.cell? ⟨w.heap.size, 1, none⟩ = some (.pointer (some ⟨P, 0, none⟩)) := ⟨cell_of_row w1 _ 0 _ _ _ hbx, cell_of_row w1 _ 1 _ _ _ hbx⟩))
  all_goals
    clear HC s1
    go_wp2
    go_ret
    exact ⟨r, rfl, hK, hr⟩
set_option maxRecDepth 100000 in
set_option maxHeartbeats 1600000 in
theorem getfun_reg (v : Value) (zs : List Int) (W0 w : World) (P nb : Nat) (a : Int) (k : Int) (R : Row W0 v zs) (hb : Below W0.heap.size W0 w) (hP : W0.heap.size ≤ P) (hM : W0.heap.size ≤ nb) (hne : P ≠ nb) (h1 : One w P a) (hm : w.heap[nb]? = some (.cells (ndA (nd0 k)) 130 (0, 0))) :
    Calls Tryz.prog 170 #[.agg #[v, .pointer (some ⟨P, 0, none⟩)], .pointer (some ⟨nb, 0, none⟩)] w fun e w' => ∃ r, e = .returned r ∧ K2 P nb w w' ∧
      ((∃ q, rdK zs 2 a = some q ∧ r = .nilIface ∧ One w' P q.2 ∧ w'.heap[nb]? = some (.cells (setL (ndA (nd0 k)) [1, 3] q.1) 130 (0, 0)))
        ∨ (rdK zs 2 a = none ∧ (∃ p, r = badV p) ∧ (∃ q, One w' P q) ∧ ∃ vs : List Int, vs.length < 2 ∧ w'.heap[nb]? = some (.cells (setL (ndA (nd0 k)) ([1, 3].take vs.length) vs) 130 (0, 0)))) := by
  obtain ⟨ao, cap, rfl, _⟩ := id R
  have HC := get_nums _ zs W0 w P nb a (ndA (nd0 k)) (Obj.cells #[Value.slice ao zs.length cap, Value.pointer (some ⟨P, 0, none⟩)] 177) [1, 3] R hb hP hM hne h1 hm (by intro o ho; simp at ho; simp [ndA]; omega) (by simp)
  go_enter Tryz.func170, Tryz.ntmps170
  go_wp2_with fail
  go_region_held (fun w' => w'.cell? ⟨w.heap.size, 0, none⟩ = some (.slice ao zs.length cap) ∧ w'.cell? ⟨w.heap.size, 1, none⟩ = some (.pointer (some ⟨P, 0, none⟩))) (first | exact s1 | go_keep) (first
    | (go_at_call 149; refine HC.mono ?_; rintro e w1 ⟨r, rfl, hK, hbx, hr⟩; have s1 : w1.cell? ⟨w.heap.size, 0, none⟩ = some (.slice ao zs.length cap) ∧ w1.cell? ⟨w.heap.size, 1, none⟩ = some (.pointer (some ⟨P, 0, none⟩)) := ⟨cell_of_row w1 _ 0 _ _ _ hbx, cell_of_row w1 _ 1 _ _ _ hbx⟩))
  all_goals
    clear HC s1
    go_wp2
    go_ret
    exact ⟨r, rfl, hK, hr⟩
theorem getn_any (k : Int) (hk : k = 2 ∨ k = 8 ∨ k = 9) : Gets 162 k := by
  intro v zs W0 w P nb a R hb hP hM hne h1 hm
  refine (getn_reg v zs W0 w P nb a k R hb hP hM hne h1 hm).mono ?_
  rintro e w' ⟨r, rfl, hK, h⟩
  have h2 := one_get (f := fun x => ⟨k, x, ByteArray.empty, 0, 0⟩) (fun x => rfl) (by unfold rdB; rw [if_neg (by omega), if_pos hk]) h
  refine ⟨hK, ?_⟩
  rcases h2 with ⟨x, b, e1, rfl, e3, e4⟩ | ⟨e1, ⟨p, rfl⟩, e3, e4⟩
  · exact Or.inl ⟨x, b, e1, rfl, e3, e4⟩
  · exact Or.inr ⟨e1, ⟨p, rfl⟩, e3, _, rfl, e4⟩
theorem geta_any : Gets 172 7 := by
  intro v zs W0 w P nb a R hb hP hM hne h1 hm
  refine (geta_reg v zs W0 w P nb a 7 R hb hP hM hne h1 hm).mono ?_
  rintro e w' ⟨r, rfl, hK, h⟩
  have h2 := one_get (f := fun x => ⟨7, 0, ByteArray.empty, x, 0⟩) (fun x => rfl) (by rfl) h
  refine ⟨hK, ?_⟩
  rcases h2 with ⟨x, b, e1, rfl, e3, e4⟩ | ⟨e1, ⟨p, rfl⟩, e3, e4⟩
  · exact Or.inl ⟨x, b, e1, rfl, e3, e4⟩
  · exact Or.inr ⟨e1, ⟨p, rfl⟩, e3, _, rfl, e4⟩
theorem getparts_any : Gets 168 5 := by
  intro v zs W0 w P nb a R hb hP hM hne h1 hm
  refine (getparts_reg v zs W0 w P nb a 5 R hb hP hM hne h1 hm).mono ?_
  rintro e w' ⟨r, rfl, hK, h⟩
  have h2 := two_get (f := fun x y => ⟨5, 0, ByteArray.empty, x, y⟩) (g := fun x => ⟨5, 0, ByteArray.empty, x, 0⟩) (fun x y => rfl) (fun x => rfl) (fun x => rfl) (by rfl) h
  refine ⟨hK, ?_⟩
  rcases h2 with ⟨x, b, e1, rfl, e3, e4⟩ | ⟨e1, ⟨p, rfl⟩, e3, e4⟩
  · exact Or.inl ⟨x, b, e1, rfl, e3, e4⟩
  · exact Or.inr ⟨e1, ⟨p, rfl⟩, e3, e4⟩
theorem getfun_any : Gets 170 6 := by
  intro v zs W0 w P nb a R hb hP hM hne h1 hm
  refine (getfun_reg v zs W0 w P nb a 6 R hb hP hM hne h1 hm).mono ?_
  rintro e w' ⟨r, rfl, hK, h⟩
  have h2 := two_get (f := fun x y => ⟨6, x, ByteArray.empty, y, 0⟩) (g := fun x => ⟨6, x, ByteArray.empty, 0, 0⟩) (fun x y => rfl) (fun x => rfl) (fun x => rfl) (by rfl) h
  refine ⟨hK, ?_⟩
  rcases h2 with ⟨x, b, e1, rfl, e3, e4⟩ | ⟨e1, ⟨p, rfl⟩, e3, e4⟩
  · exact Or.inl ⟨x, b, e1, rfl, e3, e4⟩
  · exact Or.inr ⟨e1, ⟨p, rfl⟩, e3, e4⟩
set_option maxRecDepth 100000 in
set_option maxHeartbeats 1600000 in
theorem getint_any : Gets 164 3 := by
  intro v zs W0 w P nb a R hb hP hM hne h1 hm
  obtain ⟨ao, cap, rfl, _⟩ := id R
  have HC := get_nums _ zs W0 w P nb a (ndA (nd0 3)) (Obj.cells #[Value.slice ao zs.length cap, Value.pointer (some ⟨P, 0, none⟩)] 177) [1] R hb hP hM hne h1 hm (by intro o ho; simp at ho; simp [ndA]; omega) (by simp)
  go_enter Tryz.func164, Tryz.ntmps164
  go_wp2_with fail
  go_region_held (fun w' => w'.cell? ⟨w.heap.size, 0, none⟩ = some (.slice ao zs.length cap) ∧ w'.cell? ⟨w.heap.size, 1, none⟩ = some (.pointer (some ⟨P, 0, none⟩))) (first | exact s1 | go_keep) (first
    | (go_at_call 149; refine HC.mono ?_; rintro e w1 ⟨r, rfl, hK, hbx, hr⟩; have s1 : w1.cell? ⟨w.heap.size, 0, none⟩ = some (.slice ao zs.length cap) ∧ w1.cell? ⟨w.heap.size, 1, none⟩ = some (.pointer (some ⟨P, 0, none⟩)) := ⟨cell_of_row w1 _ 0 _ _ _ hbx, cell_of_row w1 _ 1 _ _ _ hbx⟩))
  all_goals
    have h2 : ∃ z b, 0 ≤ z ∧ z ≤ 9223372036854775807 ∧ w1.heap[nb]? = some (.cells (ndA ⟨3, z, ByteArray.empty, 0, 0⟩) 130 (0, 0)) ∧ One w1 P b ∧ Hid ((rd1 zs a = some (z, b) ∧ r = .nilIface) ∨ (rd1 zs a = none ∧ ∃ p, r = badV p)) := by
      rcases hr with ⟨q, e1, e2, e3, e4⟩ | ⟨e1, e2, ⟨q, e3⟩, vs, hv, e4⟩
      · rw [show [1].length = 1 from rfl, rdK_one, Option.map_eq_some_iff] at e1
        obtain ⟨p, e1, rfl⟩ := e1
        obtain ⟨r1, r2, _⟩ := rd1_range e1
        exact ⟨p.1, p.2, r1, r2, e4, e3, Or.inl ⟨e1, e2⟩⟩
      · rw [show [1].length = 1 from rfl, rdK_one, Option.map_eq_none_iff] at e1
        obtain rfl : vs = [] := List.eq_nil_of_length_eq_zero (by have : vs.length < 1 := hv; omega)
        exact ⟨0, q, by omega, by omega, e4, e3, Or.inr ⟨e1, e2⟩⟩
    obtain ⟨z, b, z0, z1, e4, e3, HD⟩ := h2
    clear HC s1 hbx hr
    have c1 : w1.cell? ⟨nb, 1, none⟩ = some (.int .i64 z) := cell_of_row w1 _ 1 _ _ _ e4
    have f1 : w1.frozen? ⟨nb, 1, none⟩ = false := frozen_of_row w1 _ 1 _ _ e4
    have hset : (w1.setCell ⟨nb, 1, none⟩ (.int .i64 (z - 1000000000))).heap[nb]? = some (.cells (ndA ⟨3, z - 1000000000, ByteArray.empty, 0, 0⟩) 130 (0, 0)) := heap_setCell_same w1 nb 1 _ _ (.int .i64 (z - 1000000000)) e4
    have hK2 := hK.trans (K2.ofM (grown_set w1 nb 1 (.int .i64 (z - 1000000000))))
    have ho2 : One (w1.setCell ⟨nb, 1, none⟩ (.int .i64 (z - 1000000000))) P b := (heap_setCell_other w1 ⟨nb, 1, none⟩ P _ (by simpa using hne)).trans e3
    go_wp2
    go_ret
    refine ⟨hK2, ?_⟩
    rcases HD.out with ⟨d1, rfl⟩ | ⟨d1, p, rfl⟩
    · exact Or.inl ⟨_, b, by unfold rdB; rw [if_neg (by omega), if_neg (by omega), if_pos rfl, d1]; rfl, rfl, ho2, hset⟩
    · exact Or.inr ⟨by unfold rdB; rw [if_neg (by omega), if_neg (by omega), if_pos rfl, d1]; rfl, ⟨p, rfl⟩, ⟨_, ho2⟩, _, rfl, hset⟩
set_option maxRecDepth 100000 in
set_option maxHeartbeats 1600000 in
theorem getname_any : Gets 166 4 := by
  intro v zs W0 w P nb a R hb hP hM hne h1 hm
  obtain ⟨ao, cap, rfl, _⟩ := id R
  have hB : Below w.heap.size w (w.alloc (Obj.cells #[Value.slice ao zs.length cap, Value.pointer (some ⟨P, 0, none⟩)] 177)) := (Below.refl _ _).alloc (Nat.le_refl _) _
  have h1' := h1.below hB h1.lt
  have hc := h1'.cell
  obtain ⟨g, hg⟩ : ∃ g, Hid (gT zs a = g) := ⟨_, rfl⟩
  obtain ⟨gs, gn, gk⟩ := g
  have HT : Calls Tryz.prog 182 #[.agg #[.slice ao zs.length cap, .pointer (some ⟨P, 0, none⟩)]] (w.alloc (Obj.cells #[Value.slice ao zs.length cap, Value.pointer (some ⟨P, 0, none⟩)] 177)) fun e w' =>
      e = .returned (.tuple #[.string gs, .bool gk]) ∧ (∃ q, One w' P q ∧ (gk = true → q = gn)) ∧ (w.alloc (Obj.cells #[Value.slice ao zs.length cap, Value.pointer (some ⟨P, 0, none⟩)] 177)).grownBy w' (some P) := by
    have := text_any _ zs P a W0 _ R (hb.trans (hB.mono hb.size)) hP h1'
    rw [hg.out] at this
    exact this
  go_enter Tryz.func166, Tryz.ntmps166
  go_wp2_with fail
  refine HT.mono ?_
  rintro e w1 ⟨rfl, ⟨q, ho, hq⟩, hgr⟩
  have hml := (Array.getElem?_eq_some_iff.1 hm).1
  have hm1 := (hgr.block nb (Nat.lt_of_lt_of_le hml hB.size) (by simpa using fun e => hne e.symm)).trans ((hB.block nb hml).trans hm)
  have hK1 : K2 P nb w w1 := (K2.ofB hB).trans (K2.ofP hgr)
  clear HT hc
  cases gk with
  | false =>
    go_wp2
    go_ret
    exact ⟨hK1, Or.inr ⟨by unfold rdB; rw [if_neg (by omega), if_neg (by omega), if_neg (by omega), if_pos rfl, hg.out]; rfl, ⟨_, rfl⟩, ⟨_, ho⟩, _, rfl, hm1⟩⟩
  | true =>
    obtain rfl := hq rfl
    have c2 : w1.cell? ⟨nb, 2, none⟩ = some (.string ByteArray.empty) := cell_of_row w1 _ 2 _ _ _ hm1
    have f2 : w1.frozen? ⟨nb, 2, none⟩ = false := frozen_of_row w1 _ 2 _ _ hm1
    have hset : (w1.setCell ⟨nb, 2, none⟩ (.string gs)).heap[nb]? = some (.cells (ndA ⟨4, 0, gs, 0, 0⟩) 130 (0, 0)) := heap_setCell_same w1 nb 2 _ _ (.string gs) hm1
    have hK2 := hK1.trans (K2.ofM (grown_set w1 nb 2 (.string gs)))
    have ho2 : One (w1.setCell ⟨nb, 2, none⟩ (.string gs)) P q := (heap_setCell_other w1 ⟨nb, 2, none⟩ P _ (by simpa using hne)).trans ho
    go_wp2
    go_ret
    exact ⟨hK2, Or.inl ⟨_, q, by unfold rdB; rw [if_neg (by omega), if_neg (by omega), if_neg (by omega), if_pos rfl, hg.out]; rfl, rfl, ho2, hset⟩⟩
end Go.Proofs.YtbhfooafhbfniaaGreatDoor
/-
  Bytes of one's own: helpers. No condition.
-/
namespace Go.Proofs.YtbhfooafhbfniaaGreatDoor
open Go.RowKit
theorem own_form0 {w : World} {base : Nat} {ad : Addr} {n c : Nat} {zs : List Value} (h : w.ownsRow base 5 1 (.slice (some ad) n c) n zs) (hn : 0 < n) : ∃ g, ad = ⟨g, 0, none⟩ := by
  obtain ⟨g, cap, e, _⟩ := h.form hn
  simp only [Value.slice.injEq, Option.some.injEq] at e
  exact ⟨g, e.1⟩
theorem own_none8 {w : World} {base : Nat} {ao : Option Addr} {n c : Nat} {zs : List Value} (h : w.ownsRow base 5 1 (.slice ao n c) n zs) : ao = none → n = 0 ∧ c = 0 := by
  intro e
  subst e
  rcases h.2 with ⟨h1, h2⟩ | ⟨g, cap, cur, h1, _⟩
  · simp only [Value.slice.injEq, true_and] at h1; exact h1
  · simp at h1
theorem own_news8 {w : World} {base : Nat} {ao : Option Addr} {n c : Nat} {zs : List Value} (h : w.ownsRow base 5 1 (.slice ao n c) n zs) (hl : zs.length = n) : ∀ ad, ao = some ad → ∀ (j : Nat) u, zs[j]? = some u → w.cell? (ad.add j) = some u := by
  intro ad e j u hu
  subst e
  have hj := (List.getElem?_eq_some_iff.1 hu).1
  have hf := own_form0 h (by omega)
  obtain ⟨g, rfl⟩ := hf
  have := h.cellAt j (by omega)
  have hadd : (⟨g, 0, none⟩ : Addr).add j = ⟨g, j, none⟩ := by unfold Addr.add; split <;> simp_all
  rw [hadd, this]
  exact hu
theorem own_text {w : World} {base : Nat} {ao : Option Addr} {c : Nat} {zs : List Int} (h : w.ownsRow base 5 1 (.slice ao zs.length c) zs.length (bv zs)) : zs.length ≠ 0 → ∃ g o', ao = some ⟨g, o', none⟩ ∧ ∀ i, i < zs.length → w.cell? ⟨g, o' + i, none⟩ = some (.int .u8 (zs.getD i 0)) := by
  intro hn
  obtain ⟨g, cap, e, _⟩ := h.form (by omega)
  simp only [Value.slice.injEq] at e
  obtain ⟨rfl, _, _⟩ := e
  refine ⟨g, 0, rfl, fun i hi => ?_⟩
  have := h.cellAt i (by omega)
  rw [Nat.zero_add, this, bv_get zs i hi]
end Go.Proofs.YtbhfooafhbfniaaGreatDoor
/-
  Contract of the laws' own helper toByteS: a new slice of its own that reads as the slice that was handed in (at most 2^21 bytes).
-/
namespace Go.Proofs.YtbhfooafhbfniaaGreatDoor
open Go.RowKit
def copied (zs : List Int) (j : Nat) : List Int := zs.take j ++ List.replicate (zs.length - j) 0
end Go.Proofs.YtbhfooafhbfniaaGreatDoor
/-
  Contract of spec.PutNum: for every int a new slice of its own that holds the number's bytes.
-/
namespace Go.Proofs.YtbhfooafhbfniaaGreatDoor
open Go.RowKit
set_option maxRecDepth 100000 in
set_option maxHeartbeats 400000 in
theorem sput_neg (x : Int) (w : World) (hx : x < 0) :
    Calls Tryz.prog 131 #[.int .i64 x] w fun e w' => ∃ v, e = .returned v ∧ w'.ownsRow w.heap.size 5 1 v 0 (bv []) ∧ Below w.heap.size w w' := by
  go_enter Tryz.func131, Tryz.ntmps131
  go_wp2
  go_ret
  exact ⟨_, rfl, World.ownsRow_made _ _ 0 (Nat.le_refl _) (by simp) (by simp), (Below.refl _ _).alloc (Nat.le_refl _) _⟩
set_option maxRecDepth 100000 in
set_option maxHeartbeats 400000 in
theorem sput_pos (x : Int) (w : World) (hx : 0 ≤ x) (hm : x ≤ 9223372036854775807) :
    Calls Tryz.prog 131 #[.int .i64 x] w fun e w' => ∃ v, e = .returned v ∧ w'.ownsRow w.heap.size 5 1 v (enc 9 x).length (bv (enc 9 x)) ∧ Below w.heap.size w w' := by
  obtain ⟨i0, hi, hz0, hz1, hz2⟩ := info_parts Tryz.infoU8
  go_enter Tryz.func131, Tryz.ntmps131
  go_wp2
  go_loopw [0, 3] (fun y v wr => ∃ (f : Nat) (q : Int) (acc : List Int), y = .int .i64 q ∧ 0 ≤ q ∧ q ≤ 9223372036854775807 ∧ acc.length + f = 8 ∧ Hid (q < lim (f + 1)) ∧ Hid (acc ++ enc (f + 1) q = enc 9 x) ∧ wr.ownsRow w.heap.size 5 1 v acc.length (bv acc) ∧ Below w.heap.size w wr) (fun y _ _ => (intOf y).toNat)
  case atStart =>
    exact ⟨8, x, [], rfl, hx, hm, rfl, by unfold Hid; rw [lim_nine]; omega, rfl, World.ownsRow_made _ _ 0 (Nat.le_refl _) (by simp) (by simp), (Below.refl _ _).alloc (Nat.le_refl _) _⟩
  case round =>
    obtain ⟨f, q, acc, rfl, hq0, hq1, hlen, Hl, Ha, hown, hbel⟩ := hrel
    have hsz := hbel.size
    by_cases hlt : q < 128
    · go_wp2_with (at_builtin; refine wpList_append_own _ rfl _ _ 143 rfl w.heap.size 5 i0 (.int .u8 0) 1 1 Tryz.underlying143 hi hz0 hz1 hz2 rfl (by decide) _ _ _ rfl (hown.alloc _) ⟨wr.heap.size, 0, none⟩ 1 1 [.int .u8 q] rfl rfl (cell_one_new _ _ _) (fun u hu => by simp at hu; subst hu; rfl) (by unfold maxLen; omega) (by omega) (by simp; omega) ?_)
      intro v' w1 hown' hgrow _
      go_wp2
      go_ret
      refine ⟨v', rfl, ?_, ?_⟩
      · have e : enc 9 x = acc ++ [q] := by rw [← Ha.out, enc_last f q hlt]
        rw [e, bv_append]
        simpa [bv] using hown'
      · exact (hbel.alloc hsz _).grown hgrow (by simp; omega) (fun k hk => (hown.lt k hk).1)
    · go_wp2_with (at_builtin; refine wpList_append_own _ rfl _ _ 143 rfl w.heap.size 5 i0 (.int .u8 0) 1 1 Tryz.underlying143 hi hz0 hz1 hz2 rfl (by decide) _ _ _ rfl (hown.alloc _) ⟨wr.heap.size, 0, none⟩ 1 1 [.int .u8 (q % 128 + 128)] rfl rfl (cell_one_new _ _ _) (fun u hu => by simp at hu; subst hu; rfl) (by unfold maxLen; omega) (by omega) (by simp; omega) ?_)
      intro v' w1 hown' hgrow _
      go_wp2
      go_roundw
      case rel =>
        obtain ⟨f', rfl, hl⟩ := lim_more f q (by omega) Hl.out
        refine ⟨f', q / 128, acc ++ [q % 128 + 128], rfl, by omega, by omega, by simp; omega, hl, ?_, ?_, ?_⟩
        · have e := enc_more (f' + 1) q (by omega)
          have e2 := Ha.out
          rw [e] at e2
          unfold Hid
          rw [← e2]
          simp
        · rw [bv_append]
          simpa [bv] using hown'
        · exact (hbel.alloc hsz _).grown hgrow (by simp; omega) (fun k hk => (hown.lt k hk).1)
      case measure => simp [intOf]; omega
set_option maxRecDepth 100000 in
theorem sput_any (x : Int) (w : World) (hm : x ≤ 9223372036854775807) :
    Calls Tryz.prog 131 #[.int .i64 x] w fun e w' => ∃ v, e = .returned v ∧ w'.ownsRow w.heap.size 5 1 v (encI x).length (bv (encI x)) ∧ Below w.heap.size w w' := by
  by_cases hx : x < 0
  · rw [encI_neg x hx]; exact sput_neg x w hx
  · rw [encI_pos x (by omega)]; exact sput_pos x w (by omega) hm
end Go.Proofs.YtbhfooafhbfniaaGreatDoor
/-
  Contract of spec.PutText: for every text of at most 2^21 bytes a new slice of its own that holds the bytes of its length, and then its own.
-/
namespace Go.Proofs.YtbhfooafhbfniaaGreatDoor
open Go.RowKit
set_option maxRecDepth 100000 in
set_option maxHeartbeats 400000 in
theorem sptext_any (s : ByteArray) (w : World) (hs : s.size ≤ 2097152) :
    Calls Tryz.prog 132 #[.string s] w fun e w' => ∃ v, e = .returned v ∧ w'.ownsRow w.heap.size 5 1 v (pt s).length (bv (pt s)) ∧ Below w.heap.size w w' := by
  obtain ⟨i0, hi, hz0, hz1, hz2⟩ := info_parts Tryz.infoU8
  have hl := encI_length s.size
  go_enter Tryz.func132, Tryz.ntmps132
  go_wp2_with fail
  refine (sput_any (s.size : Int) _ (by omega)).mono ?_
  rintro e w1 ⟨v1, rfl, own1, bel1⟩
  have hsz := bel1.size
  go_wp2_with (first | (refine wpList_string_bytes _ rfl _ 9 143 5 rfl Tryz.underlying9 Tryz.underlying143 Tryz.underlying5 s rfl ?_; intro cap w2 hcell hg2 hs2) | (at_builtin; refine wpList_append_own _ rfl _ _ 143 rfl w.heap.size 5 i0 (.int .u8 0) 1 1 Tryz.underlying143 hi hz0 hz1 hz2 rfl (by decide) v1 (encI s.size).length (bv (encI s.size)) rfl ?ho ⟨w1.heap.size, 0, none⟩ s.size _ (bv (sb s)) rfl ?hl ?hn ?h1 ?h63 ?hby ?hba ?_))
  case ho => exact own1.kept hg2 (by cases v1.ownBlock <;> simp)
  case hl => rw [bv_length, sb_length]; simp
  case hn => exact hcell
  case h1 => exact ints_oneCell .u8 _
  case h63 => unfold maxLen; omega
  case hby => omega
  case hba => omega
  intro v3 w3 own3 hgrow _
  go_wp2_with fail
  go_ret
  refine ⟨v3, rfl, ?_, (bel1.grown hg2 hsz (fun k hk => by cases hk)).grown hgrow (by omega) (fun k hk => (own1.lt k hk).1)⟩
  rw [pt_length, pt, bv_append]
  exact own3
end Go.Proofs.YtbhfooafhbfniaaGreatDoor
/-
  Contract of impl.PutNum: for every int a new slice of its own that holds the number's bytes.
-/
namespace Go.Proofs.YtbhfooafhbfniaaGreatDoor
open Go.RowKit
end Go.Proofs.YtbhfooafhbfniaaGreatDoor
