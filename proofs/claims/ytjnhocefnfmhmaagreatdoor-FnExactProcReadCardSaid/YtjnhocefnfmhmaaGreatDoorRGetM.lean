/-
  The contracts of impl.getN and its kin: the fields of a node of one kind are read into it. Bounds of the form alone.
-/
import Derived.Test.YtjnhocefnfmhmaaGreatDoorRNumsM
import Derived.Test.YtjnhocefnfmhmaaGreatDoorWithM
import Derived.Deep.RegionHeld
namespace Go.Proofs.YtjnhocefnfmhmaaGreatDoor
open Go.RowKit

def ndA (x : Nd) : Array Value := #[.int .i64 x.k, .int .i64 x.n, .string x.s, .int .i64 x.a, .int .i64 x.b]
def nd0 (k : Int) : Nd := ⟨k, 0, ByteArray.empty, 0, 0⟩
/-- The fields of a node of the kind k are read into the block nb. -/
def Gets (f : Nat) (k : Int) : Prop := ∀ (v : Value) (zs : List Int) (W0 w : World) (P nb : Nat) (a : Int), Row W0 v zs → Below W0.heap.size W0 w → W0.heap.size ≤ P → W0.heap.size ≤ nb → P ≠ nb → One w P a → w.heap[nb]? = some (.cells (ndA (nd0 k)) 153 (0, 0)) →
  Calls Tryz.prog f #[.agg #[v, .pointer (some ⟨P, 0, none⟩)], .pointer (some ⟨nb, 0, none⟩)] w fun e w' => K2 P nb w w' ∧
    ((∃ x b, rdB zs k a = some (x, b) ∧ e = .returned .nilIface ∧ One w' P b ∧ w'.heap[nb]? = some (.cells (ndA x) 153 (0, 0)))
      ∨ (rdB zs k a = none ∧ (∃ p, e = .returned (badV p)) ∧ (∃ q, One w' P q) ∧ ∃ x, x.k = k ∧ w'.heap[nb]? = some (.cells (ndA x) 153 (0, 0))))
theorem rdB_k {zs : List Int} {k a b : Int} {x : Nd} (h : rdB zs k a = some (x, b)) : x.k = k := by
  unfold rdB at h
  repeat' split at h
  all_goals first
    | (cases h; done)
    | (cases h; first | rfl | (symm; assumption))
    | (rw [Option.map_eq_some_iff] at h; obtain ⟨_, _, h⟩ := h; cases h; first | rfl | (symm; assumption))
    | (rw [Option.bind_eq_some_iff] at h; obtain ⟨_, _, h⟩ := h; rw [Option.map_eq_some_iff] at h; obtain ⟨_, _, h⟩ := h; cases h; first | rfl | (symm; assumption))

set_option maxRecDepth 100000 in
set_option maxHeartbeats 800000 in
theorem getnothing_any : Gets 132 1 := by
  intro v zs W0 w P nb a R hb hP hM hne h1 hm
  obtain ⟨ao, cap, rfl, _⟩ := R
  go_enter Tryz.func132, Tryz.ntmps132
  go_wp2
  go_ret
  have hB : Below w.heap.size w (w.alloc (Obj.cells #[Value.slice ao zs.length cap, Value.pointer (some ⟨P, 0, none⟩)] 91)) := (Below.refl _ _).alloc (Nat.le_refl _) _
  exact ⟨K2.ofB hB, Or.inl ⟨nd0 1, a, rfl, rfl, h1.below hB h1.lt, (hB.block _ (Array.getElem?_eq_some_iff.1 hm).1).trans hm⟩⟩

/-- nums, called from a getter: a reader's box and a row of pointers were made ahead. -/
theorem get_nums (v : Value) (zs : List Int) (W0 w : World) (P nb : Nat) (a : Int) (cs : Array Value) (bx : Obj) (os : List Nat) (R : Row W0 v zs) (hb : Below W0.heap.size W0 w) (hP : W0.heap.size ≤ P) (hM : W0.heap.size ≤ nb) (hne : P ≠ nb) (h1 : One w P a)
    (hm : w.heap[nb]? = some (.cells cs 153 (0, 0))) (hos : ∀ o ∈ os, o < cs.size) (hn : os.length ≤ 10) :
    Calls Tryz.prog 145 #[.agg #[v, .pointer (some ⟨P, 0, none⟩)], .slice (some ⟨w.heap.size + 1, 0, none⟩) os.length os.length] ((w.alloc bx).alloc (Obj.cells (tgt nb os) 89)).drew fun e w' => ∃ r, e = .returned r ∧ K2 P nb w w' ∧ w'.heap[w.heap.size]? = some bx ∧
      ((∃ q, rdK zs os.length a = some q ∧ r = .nilIface ∧ One w' P q.2 ∧ w'.heap[nb]? = some (.cells (setL cs os q.1) 153 (0, 0)))
        ∨ (rdK zs os.length a = none ∧ (∃ p, r = badV p) ∧ (∃ q, One w' P q) ∧ ∃ vs : List Int, vs.length < os.length ∧ w'.heap[nb]? = some (.cells (setL cs (os.take vs.length) vs) 153 (0, 0)))) := by
  have hPl := h1.lt
  have hml := (Array.getElem?_eq_some_iff.1 hm).1
  have hB1 : Below w.heap.size w (w.alloc bx) := (Below.refl _ _).alloc (Nat.le_refl _) _
  have hB2 : Below w.heap.size w ((w.alloc bx).alloc (Obj.cells (tgt nb os) 89)).drew := (hB1.alloc hB1.size _).drew
  have hs : (w.alloc bx).heap.size = w.heap.size + 1 := by simp
  have hL : ((w.alloc bx).alloc (Obj.cells (tgt nb os) 89)).drew.heap[w.heap.size + 1]? = some (.cells (tgt nb os) 89 (0, 0)) := by rw [← hs]; exact heap_alloc_new _ _
  have hx : ((w.alloc bx).alloc (Obj.cells (tgt nb os) 89)).drew.heap[w.heap.size]? = some bx := (heap_alloc_old (w.alloc bx) _ (by rw [hs]; omega)).trans (heap_alloc_new w bx)
  have hbs := hb.size
  refine (rnums_any v zs W0 _ P nb (w.heap.size + 1) a cs 153 os R (hb.trans (hB2.mono hbs)) hP hM (h1.below hB2 hPl) ((hB2.block _ hml).trans hm) hos hL hne (by omega) (by omega) hn).mono ?_
  rintro e w' ⟨hK, h⟩
  have hxl : w.heap.size < ((w.alloc bx).alloc (Obj.cells (tgt nb os) 89)).drew.heap.size := (Array.getElem?_eq_some_iff.1 hx).1
  have hx' := (hK.block _ hxl (by omega) (by omega)).trans hx
  rcases h with ⟨q, e1, rfl, e3, e4⟩ | ⟨e1, ⟨p, rfl⟩, e3, e4⟩
  · exact ⟨_, rfl, (K2.ofB hB2).trans hK, hx', Or.inl ⟨q, e1, rfl, e3, e4⟩⟩
  · exact ⟨_, rfl, (K2.ofB hB2).trans hK, hx', Or.inr ⟨e1, ⟨p, rfl⟩, e3, e4⟩⟩
theorem rdK_one (zs : List Int) (a : Int) : rdK zs 1 a = (rd1 zs a).map fun p => ([p.1], p.2) := by
  simp only [rdK]
  cases rd1 zs a <;> rfl
theorem rdK_two (zs : List Int) (a : Int) : rdK zs 2 a = (rd1 zs a).bind fun p => (rd1 zs p.2).map fun q => ([p.1, q.1], q.2) := by
  rw [rdK]
  cases rd1 zs a with
  | none => rfl
  | some p => simp only [Option.bind_some]; rw [rdK_one]; cases rd1 zs p.2 <;> rfl
/-- What one number, or two, make of a node. -/
theorem one_get {zs : List Int} {k a : Int} {o : Nat} {f : Int → Nd} (hf : ∀ x, setL (ndA (nd0 k)) [o] [x] = ndA (f x)) (hr : rdB zs k a = (rd1 zs a).map fun p => (f p.1, p.2)) {P nb : Nat} {w' : World} {r : Value}
    (h : (∃ q, rdK zs 1 a = some q ∧ r = .nilIface ∧ One w' P q.2 ∧ w'.heap[nb]? = some (.cells (setL (ndA (nd0 k)) [o] q.1) 153 (0, 0)))
        ∨ (rdK zs 1 a = none ∧ (∃ p, r = badV p) ∧ (∃ q, One w' P q) ∧ ∃ vs : List Int, vs.length < 1 ∧ w'.heap[nb]? = some (.cells (setL (ndA (nd0 k)) ([o].take vs.length) vs) 153 (0, 0)))) :
    (∃ x b, rdB zs k a = some (x, b) ∧ r = .nilIface ∧ One w' P b ∧ w'.heap[nb]? = some (.cells (ndA x) 153 (0, 0)))
      ∨ (rdB zs k a = none ∧ (∃ p, r = badV p) ∧ (∃ q, One w' P q) ∧ w'.heap[nb]? = some (.cells (ndA (nd0 k)) 153 (0, 0))) := by
  rw [rdK_one] at h
  rw [hr]
  cases hd : rd1 zs a with
  | some p =>
    rw [hd] at h
    rcases h with ⟨q, e1, rfl, e3, e4⟩ | ⟨e1, -⟩
    · cases e1
      rw [hf] at e4
      exact Or.inl ⟨_, _, rfl, rfl, e3, e4⟩
    · cases e1
  | none =>
    rw [hd] at h
    rcases h with ⟨q, e1, -⟩ | ⟨-, ⟨p, rfl⟩, e3, vs, hv, e4⟩
    · cases e1
    · obtain rfl : vs = [] := List.eq_nil_of_length_eq_zero (by omega)
      exact Or.inr ⟨rfl, ⟨p, rfl⟩, e3, e4⟩
theorem two_get {zs : List Int} {k a : Int} {o o2 : Nat} {f : Int → Int → Nd} {g : Int → Nd} (hf : ∀ x y, setL (ndA (nd0 k)) [o, o2] [x, y] = ndA (f x y)) (hg : ∀ x, setL (ndA (nd0 k)) [o] [x] = ndA (g x)) (hgk : ∀ x, (g x).k = k) (hr : rdB zs k a = (rd1 zs a).bind fun p => (rd1 zs p.2).map fun q => (f p.1 q.1, q.2)) {P nb : Nat} {w' : World} {r : Value}
    (h : (∃ q, rdK zs 2 a = some q ∧ r = .nilIface ∧ One w' P q.2 ∧ w'.heap[nb]? = some (.cells (setL (ndA (nd0 k)) [o, o2] q.1) 153 (0, 0)))
        ∨ (rdK zs 2 a = none ∧ (∃ p, r = badV p) ∧ (∃ q, One w' P q) ∧ ∃ vs : List Int, vs.length < 2 ∧ w'.heap[nb]? = some (.cells (setL (ndA (nd0 k)) ([o, o2].take vs.length) vs) 153 (0, 0)))) :
    (∃ x b, rdB zs k a = some (x, b) ∧ r = .nilIface ∧ One w' P b ∧ w'.heap[nb]? = some (.cells (ndA x) 153 (0, 0)))
      ∨ (rdB zs k a = none ∧ (∃ p, r = badV p) ∧ (∃ q, One w' P q) ∧ ∃ x, x.k = k ∧ w'.heap[nb]? = some (.cells (ndA x) 153 (0, 0))) := by
  rw [rdK_two] at h
  rw [hr]
  have hbad : ∀ vs : List Int, vs.length < 2 → w'.heap[nb]? = some (.cells (setL (ndA (nd0 k)) ([o, o2].take vs.length) vs) 153 (0, 0)) → ∃ x, x.k = k ∧ w'.heap[nb]? = some (.cells (ndA x) 153 (0, 0)) := by
    intro vs hv e4
    match vs, hv with
    | [], _ => exact ⟨nd0 k, rfl, e4⟩
    | [y], _ => exact ⟨g y, hgk y, by rw [← hg]; exact e4⟩
  rcases h with ⟨q, e1, rfl, e3, e4⟩ | ⟨e1, ⟨p, rfl⟩, e3, vs, hv, e4⟩
  · rw [Option.bind_eq_some_iff] at e1
    obtain ⟨p, e1, e2⟩ := e1
    rw [Option.map_eq_some_iff] at e2
    obtain ⟨t, e2, e5⟩ := e2
    cases e5
    rw [hf] at e4
    refine Or.inl ⟨_, _, ?_, rfl, e3, e4⟩
    rw [e1]
    simp only [Option.bind_some]
    rw [e2]
    rfl
  · refine Or.inr ⟨?_, ⟨p, rfl⟩, e3, hbad vs hv e4⟩
    cases hd : rd1 zs a with
    | none => rfl
    | some t =>
      rw [hd] at e1
      simp only [Option.bind_some] at e1 ⊢
      cases hd2 : rd1 zs t.2 with
      | none => rfl
      | some u => rw [hd2] at e1; cases e1

set_option maxRecDepth 100000 in
set_option maxHeartbeats 1600000 in
theorem getn_reg (v : Value) (zs : List Int) (W0 w : World) (P nb : Nat) (a : Int) (k : Int) (R : Row W0 v zs) (hb : Below W0.heap.size W0 w) (hP : W0.heap.size ≤ P) (hM : W0.heap.size ≤ nb) (hne : P ≠ nb) (h1 : One w P a) (hm : w.heap[nb]? = some (.cells (ndA (nd0 k)) 153 (0, 0))) :
    Calls Tryz.prog 134 #[.agg #[v, .pointer (some ⟨P, 0, none⟩)], .pointer (some ⟨nb, 0, none⟩)] w fun e w' => ∃ r, e = .returned r ∧ K2 P nb w w' ∧
      ((∃ q, rdK zs 1 a = some q ∧ r = .nilIface ∧ One w' P q.2 ∧ w'.heap[nb]? = some (.cells (setL (ndA (nd0 k)) [1] q.1) 153 (0, 0)))
        ∨ (rdK zs 1 a = none ∧ (∃ p, r = badV p) ∧ (∃ q, One w' P q) ∧ ∃ vs : List Int, vs.length < 1 ∧ w'.heap[nb]? = some (.cells (setL (ndA (nd0 k)) ([1].take vs.length) vs) 153 (0, 0)))) := by
  obtain ⟨ao, cap, rfl, _⟩ := id R
  have HC := get_nums _ zs W0 w P nb a (ndA (nd0 k)) (Obj.cells #[Value.slice ao zs.length cap, Value.pointer (some ⟨P, 0, none⟩)] 91) [1] R hb hP hM hne h1 hm (by intro o ho; simp at ho; simp [ndA]; omega) (by simp)
  go_enter Tryz.func134, Tryz.ntmps134
  go_wp2_with fail
  go_region_held (fun w' => w'.cell? ⟨w.heap.size, 0, none⟩ = some (.slice ao zs.length cap) ∧ w'.cell? ⟨w.heap.size, 1, none⟩ = some (.pointer (some ⟨P, 0, none⟩))) (first | exact s1 | go_keep) (first
    | (go_at_call 145; refine HC.mono ?_; rintro e w1 ⟨r, rfl, hK, hbx, hr⟩; have s1 : w1.cell? ⟨w.heap.size, 0, none⟩ = some (.slice ao zs.length cap) ∧ w1.cell? ⟨w.heap.size, 1, none⟩ = some (.pointer (some ⟨P, 0, none⟩)) := ⟨cell_of_row w1 _ 0 _ _ _ hbx, cell_of_row w1 _ 1 _ _ _ hbx⟩))
  all_goals
    clear HC s1
    go_wp2
    go_ret
    exact ⟨r, rfl, hK, hr⟩

set_option maxRecDepth 100000 in
set_option maxHeartbeats 1600000 in
theorem geta_reg (v : Value) (zs : List Int) (W0 w : World) (P nb : Nat) (a : Int) (k : Int) (R : Row W0 v zs) (hb : Below W0.heap.size W0 w) (hP : W0.heap.size ≤ P) (hM : W0.heap.size ≤ nb) (hne : P ≠ nb) (h1 : One w P a) (hm : w.heap[nb]? = some (.cells (ndA (nd0 k)) 153 (0, 0))) :
    Calls Tryz.prog 144 #[.agg #[v, .pointer (some ⟨P, 0, none⟩)], .pointer (some ⟨nb, 0, none⟩)] w fun e w' => ∃ r, e = .returned r ∧ K2 P nb w w' ∧
      ((∃ q, rdK zs 1 a = some q ∧ r = .nilIface ∧ One w' P q.2 ∧ w'.heap[nb]? = some (.cells (setL (ndA (nd0 k)) [3] q.1) 153 (0, 0)))
        ∨ (rdK zs 1 a = none ∧ (∃ p, r = badV p) ∧ (∃ q, One w' P q) ∧ ∃ vs : List Int, vs.length < 1 ∧ w'.heap[nb]? = some (.cells (setL (ndA (nd0 k)) ([3].take vs.length) vs) 153 (0, 0)))) := by
  obtain ⟨ao, cap, rfl, _⟩ := id R
  have HC := get_nums _ zs W0 w P nb a (ndA (nd0 k)) (Obj.cells #[Value.slice ao zs.length cap, Value.pointer (some ⟨P, 0, none⟩)] 91) [3] R hb hP hM hne h1 hm (by intro o ho; simp at ho; simp [ndA]; omega) (by simp)
  go_enter Tryz.func144, Tryz.ntmps144
  go_wp2_with fail
  go_region_held (fun w' => w'.cell? ⟨w.heap.size, 0, none⟩ = some (.slice ao zs.length cap) ∧ w'.cell? ⟨w.heap.size, 1, none⟩ = some (.pointer (some ⟨P, 0, none⟩))) (first | exact s1 | go_keep) (first
    | (go_at_call 145; refine HC.mono ?_; rintro e w1 ⟨r, rfl, hK, hbx, hr⟩; have s1 : w1.cell? ⟨w.heap.size, 0, none⟩ = some (.slice ao zs.length cap) ∧ w1.cell? ⟨w.heap.size, 1, none⟩ = some (.pointer (some ⟨P, 0, none⟩)) := ⟨cell_of_row w1 _ 0 _ _ _ hbx, cell_of_row w1 _ 1 _ _ _ hbx⟩))
  all_goals
    clear HC s1
    go_wp2
    go_ret
    exact ⟨r, rfl, hK, hr⟩

set_option maxRecDepth 100000 in
set_option maxHeartbeats 1600000 in
theorem getparts_reg (v : Value) (zs : List Int) (W0 w : World) (P nb : Nat) (a : Int) (k : Int) (R : Row W0 v zs) (hb : Below W0.heap.size W0 w) (hP : W0.heap.size ≤ P) (hM : W0.heap.size ≤ nb) (hne : P ≠ nb) (h1 : One w P a) (hm : w.heap[nb]? = some (.cells (ndA (nd0 k)) 153 (0, 0))) :
    Calls Tryz.prog 140 #[.agg #[v, .pointer (some ⟨P, 0, none⟩)], .pointer (some ⟨nb, 0, none⟩)] w fun e w' => ∃ r, e = .returned r ∧ K2 P nb w w' ∧
      ((∃ q, rdK zs 2 a = some q ∧ r = .nilIface ∧ One w' P q.2 ∧ w'.heap[nb]? = some (.cells (setL (ndA (nd0 k)) [3, 4] q.1) 153 (0, 0)))
        ∨ (rdK zs 2 a = none ∧ (∃ p, r = badV p) ∧ (∃ q, One w' P q) ∧ ∃ vs : List Int, vs.length < 2 ∧ w'.heap[nb]? = some (.cells (setL (ndA (nd0 k)) ([3, 4].take vs.length) vs) 153 (0, 0)))) := by
  obtain ⟨ao, cap, rfl, _⟩ := id R
  have HC := get_nums _ zs W0 w P nb a (ndA (nd0 k)) (Obj.cells #[Value.slice ao zs.length cap, Value.pointer (some ⟨P, 0, none⟩)] 91) [3, 4] R hb hP hM hne h1 hm (by intro o ho; simp at ho; simp [ndA]; omega) (by simp)
  go_enter Tryz.func140, Tryz.ntmps140
  go_wp2_with fail
  go_region_held (fun w' => w'.cell? ⟨w.heap.size, 0, none⟩ = some (.slice ao zs.length cap) ∧ w'.cell? ⟨w.heap.size, 1, none⟩ = some (.pointer (some ⟨P, 0, none⟩))) (first | exact s1 | go_keep) (first
    | (go_at_call 145; refine HC.mono ?_; rintro e w1 ⟨r, rfl, hK, hbx, hr⟩; have s1 : w1.cell? ⟨w.heap.size, 0, none⟩ = some (.slice ao zs.length cap) ∧ w1.cell? ⟨w.heap.size, 1, none⟩ = some (.pointer (some ⟨P, 0, none⟩)) := ⟨cell_of_row w1 _ 0 _ _ _ hbx, cell_of_row w1 _ 1 _ _ _ hbx⟩))
  all_goals
    clear HC s1
    go_wp2
    go_ret
    exact ⟨r, rfl, hK, hr⟩

set_option maxRecDepth 100000 in
set_option maxHeartbeats 1600000 in
theorem getfun_reg (v : Value) (zs : List Int) (W0 w : World) (P nb : Nat) (a : Int) (k : Int) (R : Row W0 v zs) (hb : Below W0.heap.size W0 w) (hP : W0.heap.size ≤ P) (hM : W0.heap.size ≤ nb) (hne : P ≠ nb) (h1 : One w P a) (hm : w.heap[nb]? = some (.cells (ndA (nd0 k)) 153 (0, 0))) :
    Calls Tryz.prog 142 #[.agg #[v, .pointer (some ⟨P, 0, none⟩)], .pointer (some ⟨nb, 0, none⟩)] w fun e w' => ∃ r, e = .returned r ∧ K2 P nb w w' ∧
      ((∃ q, rdK zs 2 a = some q ∧ r = .nilIface ∧ One w' P q.2 ∧ w'.heap[nb]? = some (.cells (setL (ndA (nd0 k)) [1, 3] q.1) 153 (0, 0)))
        ∨ (rdK zs 2 a = none ∧ (∃ p, r = badV p) ∧ (∃ q, One w' P q) ∧ ∃ vs : List Int, vs.length < 2 ∧ w'.heap[nb]? = some (.cells (setL (ndA (nd0 k)) ([1, 3].take vs.length) vs) 153 (0, 0)))) := by
  obtain ⟨ao, cap, rfl, _⟩ := id R
  have HC := get_nums _ zs W0 w P nb a (ndA (nd0 k)) (Obj.cells #[Value.slice ao zs.length cap, Value.pointer (some ⟨P, 0, none⟩)] 91) [1, 3] R hb hP hM hne h1 hm (by intro o ho; simp at ho; simp [ndA]; omega) (by simp)
  go_enter Tryz.func142, Tryz.ntmps142
  go_wp2_with fail
  go_region_held (fun w' => w'.cell? ⟨w.heap.size, 0, none⟩ = some (.slice ao zs.length cap) ∧ w'.cell? ⟨w.heap.size, 1, none⟩ = some (.pointer (some ⟨P, 0, none⟩))) (first | exact s1 | go_keep) (first
    | (go_at_call 145; refine HC.mono ?_; rintro e w1 ⟨r, rfl, hK, hbx, hr⟩; have s1 : w1.cell? ⟨w.heap.size, 0, none⟩ = some (.slice ao zs.length cap) ∧ w1.cell? ⟨w.heap.size, 1, none⟩ = some (.pointer (some ⟨P, 0, none⟩)) := ⟨cell_of_row w1 _ 0 _ _ _ hbx, cell_of_row w1 _ 1 _ _ _ hbx⟩))
  all_goals
    clear HC s1
    go_wp2
    go_ret
    exact ⟨r, rfl, hK, hr⟩

theorem getn_any (k : Int) (hk : k = 2 ∨ k = 8 ∨ k = 9) : Gets 134 k := by
  intro v zs W0 w P nb a R hb hP hM hne h1 hm
  refine (getn_reg v zs W0 w P nb a k R hb hP hM hne h1 hm).mono ?_
  rintro e w' ⟨r, rfl, hK, h⟩
  have h2 := one_get (f := fun x => ⟨k, x, ByteArray.empty, 0, 0⟩) (fun x => rfl) (by unfold rdB; rw [if_neg (by omega), if_pos hk]) h
  refine ⟨hK, ?_⟩
  rcases h2 with ⟨x, b, e1, rfl, e3, e4⟩ | ⟨e1, ⟨p, rfl⟩, e3, e4⟩
  · exact Or.inl ⟨x, b, e1, rfl, e3, e4⟩
  · exact Or.inr ⟨e1, ⟨p, rfl⟩, e3, _, rfl, e4⟩
theorem geta_any : Gets 144 7 := by
  intro v zs W0 w P nb a R hb hP hM hne h1 hm
  refine (geta_reg v zs W0 w P nb a 7 R hb hP hM hne h1 hm).mono ?_
  rintro e w' ⟨r, rfl, hK, h⟩
  have h2 := one_get (f := fun x => ⟨7, 0, ByteArray.empty, x, 0⟩) (fun x => rfl) (by rfl) h
  refine ⟨hK, ?_⟩
  rcases h2 with ⟨x, b, e1, rfl, e3, e4⟩ | ⟨e1, ⟨p, rfl⟩, e3, e4⟩
  · exact Or.inl ⟨x, b, e1, rfl, e3, e4⟩
  · exact Or.inr ⟨e1, ⟨p, rfl⟩, e3, _, rfl, e4⟩
theorem getparts_any : Gets 140 5 := by
  intro v zs W0 w P nb a R hb hP hM hne h1 hm
  refine (getparts_reg v zs W0 w P nb a 5 R hb hP hM hne h1 hm).mono ?_
  rintro e w' ⟨r, rfl, hK, h⟩
  have h2 := two_get (f := fun x y => ⟨5, 0, ByteArray.empty, x, y⟩) (g := fun x => ⟨5, 0, ByteArray.empty, x, 0⟩) (fun x y => rfl) (fun x => rfl) (fun x => rfl) (by rfl) h
  refine ⟨hK, ?_⟩
  rcases h2 with ⟨x, b, e1, rfl, e3, e4⟩ | ⟨e1, ⟨p, rfl⟩, e3, e4⟩
  · exact Or.inl ⟨x, b, e1, rfl, e3, e4⟩
  · exact Or.inr ⟨e1, ⟨p, rfl⟩, e3, e4⟩
theorem getfun_any : Gets 142 6 := by
  intro v zs W0 w P nb a R hb hP hM hne h1 hm
  refine (getfun_reg v zs W0 w P nb a 6 R hb hP hM hne h1 hm).mono ?_
  rintro e w' ⟨r, rfl, hK, h⟩
  have h2 := two_get (f := fun x y => ⟨6, x, ByteArray.empty, y, 0⟩) (g := fun x => ⟨6, x, ByteArray.empty, 0, 0⟩) (fun x y => rfl) (fun x => rfl) (fun x => rfl) (by rfl) h
  refine ⟨hK, ?_⟩
  rcases h2 with ⟨x, b, e1, rfl, e3, e4⟩ | ⟨e1, ⟨p, rfl⟩, e3, e4⟩
  · exact Or.inl ⟨x, b, e1, rfl, e3, e4⟩
  · exact Or.inr ⟨e1, ⟨p, rfl⟩, e3, e4⟩

set_option maxRecDepth 100000 in
set_option maxHeartbeats 1600000 in
theorem getint_any : Gets 136 3 := by
  intro v zs W0 w P nb a R hb hP hM hne h1 hm
  obtain ⟨ao, cap, rfl, _⟩ := id R
  have HC := get_nums _ zs W0 w P nb a (ndA (nd0 3)) (Obj.cells #[Value.slice ao zs.length cap, Value.pointer (some ⟨P, 0, none⟩)] 91) [1] R hb hP hM hne h1 hm (by intro o ho; simp at ho; simp [ndA]; omega) (by simp)
  go_enter Tryz.func136, Tryz.ntmps136
  go_wp2_with fail
  go_region_held (fun w' => w'.cell? ⟨w.heap.size, 0, none⟩ = some (.slice ao zs.length cap) ∧ w'.cell? ⟨w.heap.size, 1, none⟩ = some (.pointer (some ⟨P, 0, none⟩))) (first | exact s1 | go_keep) (first
    | (go_at_call 145; refine HC.mono ?_; rintro e w1 ⟨r, rfl, hK, hbx, hr⟩; have s1 : w1.cell? ⟨w.heap.size, 0, none⟩ = some (.slice ao zs.length cap) ∧ w1.cell? ⟨w.heap.size, 1, none⟩ = some (.pointer (some ⟨P, 0, none⟩)) := ⟨cell_of_row w1 _ 0 _ _ _ hbx, cell_of_row w1 _ 1 _ _ _ hbx⟩))
  all_goals
    have h2 : ∃ z b, 0 ≤ z ∧ z ≤ 9223372036854775807 ∧ w1.heap[nb]? = some (.cells (ndA ⟨3, z, ByteArray.empty, 0, 0⟩) 153 (0, 0)) ∧ One w1 P b ∧ Hid ((rd1 zs a = some (z, b) ∧ r = .nilIface) ∨ (rd1 zs a = none ∧ ∃ p, r = badV p)) := by
      rcases hr with ⟨q, e1, e2, e3, e4⟩ | ⟨e1, e2, ⟨q, e3⟩, vs, hv, e4⟩
      · rw [show [1].length = 1 from rfl, rdK_one, Option.map_eq_some_iff] at e1
        obtain ⟨p, e1, rfl⟩ := e1
        obtain ⟨r1, r2, _⟩ := rd1_range e1
        exact ⟨p.1, p.2, r1, r2, e4, e3, Or.inl ⟨e1, e2⟩⟩
      · rw [show [1].length = 1 from rfl, rdK_one, Option.map_eq_none_iff] at e1
        obtain rfl : vs = [] := List.eq_nil_of_length_eq_zero (by have : vs.length < 1 := hv; omega)
        exact ⟨0, q, by omega, by omega, e4, e3, Or.inr ⟨e1, e2⟩⟩
    obtain ⟨z, b, z0, z1, e4, e3, HD⟩ := h2
    clear HC s1 hbx hr
    have c1 : w1.cell? ⟨nb, 1, none⟩ = some (.int .i64 z) := cell_of_row w1 _ 1 _ _ _ e4
    have f1 : w1.frozen? ⟨nb, 1, none⟩ = false := frozen_of_row w1 _ 1 _ _ e4
    have hset : (w1.setCell ⟨nb, 1, none⟩ (.int .i64 (z - 1000000000))).heap[nb]? = some (.cells (ndA ⟨3, z - 1000000000, ByteArray.empty, 0, 0⟩) 153 (0, 0)) := heap_setCell_same w1 nb 1 _ _ (.int .i64 (z - 1000000000)) e4
    have hK2 := hK.trans (K2.ofM (grown_set w1 nb 1 (.int .i64 (z - 1000000000))))
    have ho2 : One (w1.setCell ⟨nb, 1, none⟩ (.int .i64 (z - 1000000000))) P b := (heap_setCell_other w1 ⟨nb, 1, none⟩ P _ (by simpa using hne)).trans e3
    go_wp2
    go_ret
    refine ⟨hK2, ?_⟩
    rcases HD.out with ⟨d1, rfl⟩ | ⟨d1, p, rfl⟩
    · exact Or.inl ⟨_, b, by unfold rdB; rw [if_neg (by omega), if_neg (by omega), if_pos rfl, d1]; rfl, rfl, ho2, hset⟩
    · exact Or.inr ⟨by unfold rdB; rw [if_neg (by omega), if_neg (by omega), if_pos rfl, d1]; rfl, ⟨p, rfl⟩, ⟨_, ho2⟩, _, rfl, hset⟩

set_option maxRecDepth 100000 in
set_option maxHeartbeats 1600000 in
theorem getname_any : Gets 138 4 := by
  intro v zs W0 w P nb a R hb hP hM hne h1 hm
  obtain ⟨ao, cap, rfl, _⟩ := id R
  have hB : Below w.heap.size w (w.alloc (Obj.cells #[Value.slice ao zs.length cap, Value.pointer (some ⟨P, 0, none⟩)] 91)) := (Below.refl _ _).alloc (Nat.le_refl _) _
  have h1' := h1.below hB h1.lt
  have hc := h1'.cell
  obtain ⟨g, hg⟩ : ∃ g, Hid (gT zs a = g) := ⟨_, rfl⟩
  obtain ⟨gs, gn, gk⟩ := g
  have HT : Calls Tryz.prog 82 #[.agg #[.slice ao zs.length cap, .pointer (some ⟨P, 0, none⟩)]] (w.alloc (Obj.cells #[Value.slice ao zs.length cap, Value.pointer (some ⟨P, 0, none⟩)] 91)) fun e w' =>
      e = .returned (.tuple #[.string gs, .bool gk]) ∧ (∃ q, One w' P q ∧ (gk = true → q = gn)) ∧ (w.alloc (Obj.cells #[Value.slice ao zs.length cap, Value.pointer (some ⟨P, 0, none⟩)] 91)).grownBy w' (some P) := by
    have := text_any _ zs P a W0 _ R (hb.trans (hB.mono hb.size)) hP h1'
    rw [hg.out] at this
    exact this
  go_enter Tryz.func138, Tryz.ntmps138
  go_wp2_with fail
  refine HT.mono ?_
  rintro e w1 ⟨rfl, ⟨q, ho, hq⟩, hgr⟩
  have hml := (Array.getElem?_eq_some_iff.1 hm).1
  have hm1 := (hgr.block nb (Nat.lt_of_lt_of_le hml hB.size) (by simpa using fun e => hne e.symm)).trans ((hB.block nb hml).trans hm)
  have hK1 : K2 P nb w w1 := (K2.ofB hB).trans (K2.ofP hgr)
  clear HT hc
  cases gk with
  | false =>
    go_wp2
    go_ret
    exact ⟨hK1, Or.inr ⟨by unfold rdB; rw [if_neg (by omega), if_neg (by omega), if_neg (by omega), if_pos rfl, hg.out]; rfl, ⟨_, rfl⟩, ⟨_, ho⟩, _, rfl, hm1⟩⟩
  | true =>
    obtain rfl := hq rfl
    have c2 : w1.cell? ⟨nb, 2, none⟩ = some (.string ByteArray.empty) := cell_of_row w1 _ 2 _ _ _ hm1
    have f2 : w1.frozen? ⟨nb, 2, none⟩ = false := frozen_of_row w1 _ 2 _ _ hm1
    have hset : (w1.setCell ⟨nb, 2, none⟩ (.string gs)).heap[nb]? = some (.cells (ndA ⟨4, 0, gs, 0, 0⟩) 153 (0, 0)) := heap_setCell_same w1 nb 2 _ _ (.string gs) hm1
    have hK2 := hK1.trans (K2.ofM (grown_set w1 nb 2 (.string gs)))
    have ho2 : One (w1.setCell ⟨nb, 2, none⟩ (.string gs)) P q := (heap_setCell_other w1 ⟨nb, 2, none⟩ P _ (by simpa using hne)).trans ho
    go_wp2
    go_ret
    exact ⟨hK2, Or.inl ⟨_, q, by unfold rdB; rw [if_neg (by omega), if_neg (by omega), if_neg (by omega), if_pos rfl, hg.out]; rfl, rfl, ho2, hset⟩⟩
end Go.Proofs.YtjnhocefnfmhmaaGreatDoor
