/-
  Texts that stood by themselves, laid into one.
-/
import Derived.Test.YtjnhocefnfmhmaaGreatDoorIWireM
import Derived.Test.YtjnhocefnfmhmaaGreatDoorPrRegM
import Derived.Test.YtjnhocefnfmhmaaGreatDoorSizeIM
import Derived.Maps.OwnSet
import Derived.DeepKeys4
/-
  Contracts of impl.wires and impl.putNodes: the nodes' bytes behind what is there. No condition but bounds.
-/
namespace Go.Proofs.YtjnhocefnfmhmaaGreatDoor
open Go.RowKit

def fnV (n : Nat) : Value := .func (.func n) #[] #[]
def wiresV : Array Value := #[.nilFunc, .nilFunc, .func (.func 131) #[] #[], .func (.func 132) #[] #[], .func (.func 133) #[] #[], .func (.func 134) #[] #[], .func (.func 135) #[] #[], .func (.func 136) #[] #[], .func (.func 137) #[] #[], .func (.func 138) #[] #[], .func (.func 139) #[] #[], .func (.func 140) #[] #[], .func (.func 141) #[] #[], .func (.func 142) #[] #[], .func (.func 143) #[] #[], .func (.func 144) #[] #[], .func (.func 133) #[] #[], .func (.func 134) #[] #[], .func (.func 133) #[] #[], .func (.func 134) #[] #[]]
theorem wiresV_one : wiresV.all (·.oneCell') = true := by simp [wiresV, Value.oneCell']
theorem Tryz.sizeW : (Tryz.prog.info? 166).map (·.size) = some 20 := by kernel_rfl

set_option maxRecDepth 100000 in
set_option maxHeartbeats 800000 in
theorem iwires_any (w : World) : Calls Tryz.prog 107 #[] w fun e w' => e = .returned (.agg wiresV) ∧ Below w.heap.size w w' := by
  go_enter Tryz.func107, Tryz.ntmps107
  go_wp2_with (refine wpList_store_own rfl 166 _ _ rfl w.heap.size wiresV rfl rfl 166 _ (heap_alloc_new _ _) Tryz.sizeW rfl wiresV_one ?_)
  intro w2 hh2 hb2 hs2
  have hB2 : Below w.heap.size w w2 := ((Below.refl _ _).alloc (Nat.le_refl _) _).trans hb2
  go_wp2
  exact bodyPost_ret (results_cell_row rfl _ _ w.heap.size 166 _ (0, 0) _ rfl hh2 Tryz.underlying166 rfl Tryz.sizeW) rfl ⟨rfl, hB2⟩

theorem run_enter {f : FuncId} {fn : Func} {c : Code} (hf : Tryz.prog.funcs[f]? = some fn) (hname : (fn.name == "runtime.NumGoroutine") = false) (hb : fn.body = some c) (args : Array Value) (w : World) :
    Sem.run Tryz.prog (callFunc f args) w = .ok (.enter f args) w := by
  have h1 : fn.name ≠ "runtime.NumGoroutine" := by simpa using hname
  simp [callFunc, hf, h1, hb]
theorem way_of (x : Nd) (hok : NdOk x) : ∃ (n f : Nat), x.k = (n : Int) ∧ 1 ≤ n ∧ n ≤ 9 ∧ wiresV[n * 2]? = some (.func (.func f) #[] #[]) ∧ Puts f x ∧ ∀ args w, Sem.run Tryz.prog (callFunc f args) w = .ok (.enter f args) w := by
  have h := hok.1
  have hk : x.k = 1 ∨ x.k = 2 ∨ x.k = 3 ∨ x.k = 4 ∨ x.k = 5 ∨ x.k = 6 ∨ x.k = 7 ∨ x.k = 8 ∨ x.k = 9 := by omega
  rcases hk with h | h | h | h | h | h | h | h | h
  · exact ⟨1, 131, h, by omega, by omega, rfl, putnothing_any x h, run_enter Tryz.func131 (by kernel_rfl) rfl⟩
  · exact ⟨2, 133, h, by omega, by omega, rfl, putn_any x hok (Or.inl h), run_enter Tryz.func133 (by kernel_rfl) rfl⟩
  · exact ⟨3, 135, h, by omega, by omega, rfl, putint_any x hok h, run_enter Tryz.func135 (by kernel_rfl) rfl⟩
  · exact ⟨4, 137, h, by omega, by omega, rfl, putname_any x hok h, run_enter Tryz.func137 (by kernel_rfl) rfl⟩
  · exact ⟨5, 139, h, by omega, by omega, rfl, putparts_any x hok h, run_enter Tryz.func139 (by kernel_rfl) rfl⟩
  · exact ⟨6, 141, h, by omega, by omega, rfl, putfun_any x hok h, run_enter Tryz.func141 (by kernel_rfl) rfl⟩
  · exact ⟨7, 143, h, by omega, by omega, rfl, puta_any x hok h, run_enter Tryz.func143 (by kernel_rfl) rfl⟩
  · exact ⟨8, 133, h, by omega, by omega, rfl, putn_any x hok (Or.inr (Or.inl h)), run_enter Tryz.func133 (by kernel_rfl) rfl⟩
  · exact ⟨9, 133, h, by omega, by omega, rfl, putn_any x hok (Or.inr (Or.inr h)), run_enter Tryz.func133 (by kernel_rfl) rfl⟩

/-- A node's box and a way's cell stay. -/
theorem six_stay {w w' : World} (hs : Stays w w') {b r : Nat} {x : Nd} {rv : Array Value} {n : Nat} {f : Value} (hb : w.heap[b]? = some (.cells #[.int .i64 x.k, .int .i64 x.n, .string x.s, .int .i64 x.a, .int .i64 x.b] 153 (0, 0))) (hr : w.heap[r]? = some (.cells rv 166 (0, 0))) (hn : rv[n]? = some f) :
    w'.cell? ⟨b, 0, none⟩ = some (.int .i64 x.k) ∧ w'.cell? ⟨b, 1, none⟩ = some (.int .i64 x.n) ∧ w'.cell? ⟨b, 2, none⟩ = some (.string x.s) ∧ w'.cell? ⟨b, 3, none⟩ = some (.int .i64 x.a) ∧ w'.cell? ⟨b, 4, none⟩ = some (.int .i64 x.b) ∧ w'.cell? ⟨r, n, none⟩ = some f := by
  have h1 := hs b _ _ (by decide) hb
  have h2 := hs r _ _ (by decide) hr
  exact ⟨cell_of_row w' _ 0 _ _ _ h1, cell_of_row w' _ 1 _ _ _ h1, cell_of_row w' _ 2 _ _ _ h1, cell_of_row w' _ 3 _ _ _ h1, cell_of_row w' _ 4 _ _ _ h1, (cell_of_row w' _ n _ _ _ h2).trans hn⟩

theorem call_nums {W0 W5 : World} {vo : Value} {cs : List Int} {n : Nat} (ho5 : OwnB W5 W0.heap.size vo cs) (hb5 : Below W0.heap.size W0 W5) (hn : n ≤ 9) (hl : cs.length ≤ 200000) :
    Calls Tryz.prog 72 #[vo, .slice (some ⟨W5.heap.size, 0, none⟩) 1 1] (W5.alloc (Obj.cells #[.int .i64 n] 3)).drew fun e w' => ∃ v', e = .returned v' ∧ OwnB w' W0.heap.size v' (cs ++ encI n) ∧ Below W0.heap.size W0 w' ∧ Stays W5 w' := by
  have hd : Below W5.heap.size W5 (W5.alloc (Obj.cells #[.int .i64 n] 3)).drew := ((Below.refl _ _).alloc (Nat.le_refl _) _).drew
  have hs := hb5.size
  have hs2 := hd.size
  have e : [(n : Int)].flatMap encI = encI n := by simp
  refine (putnums_any vo cs W0.heap.size W5.heap.size [(n : Int)] _ (own_below ho5 hd) (by omega) (heap_alloc_new W5 _) (by simp; omega) (by simp) (by omega)).mono ?_
  rintro e' w6 ⟨v6, rfl, o6, b6, st6⟩
  rw [e] at o6
  exact ⟨v6, rfl, o6, (hb5.trans (hd.mono hs)).trans b6, (Stays.below hd).trans st6⟩

set_option maxRecDepth 100000 in
set_option maxHeartbeats 6400000 in
theorem putnodes_any (W0 w : World) (vb vn : Value) (bs : List Int) (xs : List Nd) (own : w.ownsRow W0.heap.size 5 1 vb bs.length (bv bs)) (bel : Below W0.heap.size W0 w) (R : NRow W0 vn xs) (hx : ∀ x ∈ xs, NdOk x) (hl : xs.length ≤ 3000) (hb : bs.length ≤ 1000) :
    Calls Tryz.prog 73 #[vb, vn] w fun e w' => ∃ v', e = .returned v' ∧ w'.ownsRow W0.heap.size 5 1 v' (bs ++ wireL xs).length (bv (bs ++ wireL xs)) ∧ Below W0.heap.size W0 w' := by
  have R' := R
  obtain ⟨ao, cap, rfl, _, _, hz, hcell⟩ := R'
  have hszw := bel.size
  go_enter Tryz.func73, Tryz.ntmps73
  go_wp2_with fail
  refine (iwires_any _).mono ?_
  rintro e w1 ⟨rfl, hb1⟩
  go_wp2_with (refine wpList_store_own rfl 166 _ _ rfl w1.heap.size wiresV rfl rfl 166 _ (heap_alloc_new _ _) Tryz.sizeW rfl wiresV_one ?_)
  intro w2 hh2 hb2 hs2
  have hB2 : Below w.heap.size w w2 := hb1.trans ((((Below.refl _ _).alloc (Nat.le_refl _) _).trans hb2).mono hb1.size)
  have own2 := own_below own hB2
  have bel2 := bel.trans (hB2.mono hszw)
  have hszw2 := bel2.size
  clear own bel hb1 hb2 hs2 hB2
  generalize w1.heap.size = r at *
  have hdl : Below w2.heap.size w2 (w2.alloc (Obj.cells #[.int .i64 xs.length] 3)) := (Below.refl _ _).alloc (Nat.le_refl _) _
  go_wp2_with fail
  refine (putnums_any _ bs W0.heap.size w2.heap.size [(xs.length : Int)] _ (own_below own2 hdl) (by have := hdl.size; omega) (heap_alloc_new _ _) (by simp; omega) (by simp) (by omega)).mono ?_
  rintro e w3 ⟨v3, rfl, own3, bel3, st3⟩
  have hr3 := st3 r _ _ (by decide) ((heap_alloc_old _ _ (Array.getElem?_eq_some_iff.1 hh2).1).trans hh2)
  have bel3' := (bel2.trans (hdl.mono hszw2)).trans bel3
  have hlen : (encI xs.length).length ≤ 9 := encI_length _
  have own3' : OwnB w3 W0.heap.size v3 (bs ++ encI xs.length) := by
    unfold OwnB
    have e : [(xs.length : Int)].flatMap encI = encI xs.length := by simp
    rw [e] at own3
    exact own3
  clear own2 bel2 own3 bel3 st3 hdl hh2
  go_wp2_with fail
  go_loopw [0, 16] (fun vo i wr => ∃ k : Nat, k ≤ xs.length ∧ i = .int .i64 k ∧ OwnB wr W0.heap.size vo (bs ++ encI xs.length ++ (xs.take k).flatMap wireN) ∧ Below W0.heap.size W0 wr ∧ wr.heap[r]? = some (.cells wiresV 166 (0, 0))) (fun _ i _ => xs.length - (intOf i).toNat)
  case atStart => exact ⟨0, by omega, rfl, by simpa using own3', bel3', hr3⟩
  case round =>
    obtain ⟨k, hk, rfl, ho, hbel, hr⟩ := hrel
    by_cases hlt : k < xs.length
    · obtain ⟨x, hxk⟩ : ∃ x, xs[k]? = some x := ⟨xs[k], by simp [hlt]⟩
      have hok := hx x (List.mem_of_getElem? hxk)
      have HT : Hid ((xs.take (k + 1)).flatMap wireN = (xs.take k).flatMap wireN ++ wireN x) := wires_take xs k x hxk
      have hlb : (bs ++ encI xs.length ++ (xs.take k).flatMap wireN).length ≤ 200000 := by
        have := wires_len (xs.take k) (fun y hy => hx y (List.mem_of_mem_take hy))
        rw [List.length_append, List.length_append]
        rw [List.length_take] at this
        omega
      obtain ⟨g, oo, rfl, hg, hcell⟩ := hcell (by intro e; subst e; simp at hlt)
      obtain ⟨x0, x1, x2, x3, x4⟩ := (hcell k x hxk).below hbel hg
      have hgr : g < wr.heap.size := Nat.lt_of_lt_of_le hg hbel.size
      clear hcell
      obtain ⟨n, f, hn, hn1, hn9, hw, hput, hent⟩ := way_of x hok
      have hle := encI_length (n : Int)
      have hle2 := wireB_len x hok.2.2.1
      have HW : Hid (wireN x = encI n ++ wireB x) := by unfold Hid wireN; rw [hn]
      obtain ⟨xk, xn, xs', xa, xb⟩ := x
      dsimp only at hn x0 x1 x2 x3 x4
      subst hn
      obtain ⟨cs, hcs⟩ : ∃ cs, Hid (bs ++ encI xs.length ++ (xs.take k).flatMap wireN = cs) := ⟨_, rfl⟩
      rw [hcs.out] at ho hlb
      obtain ⟨W5, hW5⟩ : ∃ W5, wr.alloc (Obj.cells #[.int .i64 n, .int .i64 xn, .string xs', .int .i64 xa, .int .i64 xb] 153) = W5 := ⟨_, rfl⟩
      have hd5 : Below wr.heap.size wr W5 := by rw [← hW5]; exact (Below.refl _ _).alloc (Nat.le_refl _) _
      have hx5 : W5.heap[wr.heap.size]? = some (.cells #[.int .i64 n, .int .i64 xn, .string xs', .int .i64 xa, .int .i64 xb] 153 (0, 0)) := by rw [← hW5]; exact heap_alloc_new _ _
      have hr5 := (hd5.block _ (Array.getElem?_eq_some_iff.1 hr).1).trans hr
      have ho5 : OwnB W5 W0.heap.size u0 cs := own_below ho hd5
      have hb5 := hbel.trans (hd5.mono hbel.size)
      have six := six_stay (x := ⟨n, xn, xs', xa, xb⟩) (Stays.refl W5) hx5 hr5 hw
      obtain ⟨q0, q1, q2, q3, q4, q5⟩ := six
      have hlc : (cs ++ encI (n : Int)).length ≤ 400000 := by rw [List.length_append]; omega
      go_wp2_with fail
      go_region_held (fun w' => w'.cell? ⟨wr.heap.size, 0, none⟩ = some (.int .i64 n) ∧ w'.cell? ⟨wr.heap.size, 1, none⟩ = some (.int .i64 xn) ∧ w'.cell? ⟨wr.heap.size, 2, none⟩ = some (.string xs') ∧ w'.cell? ⟨wr.heap.size, 3, none⟩ = some (.int .i64 xa) ∧ w'.cell? ⟨wr.heap.size, 4, none⟩ = some (.int .i64 xb) ∧ w'.cell? ⟨r, n * 2, none⟩ = some (.func (.func f) #[] #[])) (first | exact s6 | exact s7 | go_keep) (first
        | (go_at_call 72; refine (call_nums ho5 hb5 hn9 hlb).mono ?_; rintro e w6 ⟨v6, rfl, o6, b6, st6⟩; have s6 := six_stay (x := ⟨n, xn, xs', xa, xb⟩) st6 hx5 hr5 hw)
        | (refine (hput _ (cs ++ encI n) W0.heap.size _ o6 b6.size hlc).mono ?_; rintro e w7 ⟨v7, rfl, o7, b7, st7⟩; have s7 := six_stay (x := ⟨n, xn, xs', xa, xb⟩) (st6.trans st7) hx5 hr5 hw))
      all_goals
        have HE : Hid (cs ++ encI n ++ wireB ⟨n, xn, xs', xa, xb⟩ = bs ++ encI xs.length ++ (xs.take (k + 1)).flatMap wireN) := by unfold Hid; rw [HT.out, HW.out, ← hcs.out]; simp only [List.append_assoc]
        have o7' : OwnB w7 W0.heap.size v7 (cs ++ encI n ++ wireB ⟨n, xn, xs', xa, xb⟩) := o7
        have b7' := b6.trans b7
        have hr7 := (st6.trans st7) r _ _ (by decide) hr5
        clear s6 s7 q0 q1 q2 q3 q4 q5 o6 o7 st6 st7 b6 b7
        rw [HE.out] at o7'
        go_wp2
        go_roundw
        case rel => exact ⟨k + 1, by omega, by go_num, o7', b7', hr7⟩
        case measure => simp [intOf]; omega
    · have hke : k = xs.length := by omega
      subst hke
      rw [List.take_length] at ho
      have HE : Hid (bs ++ wireL xs = bs ++ encI xs.length ++ xs.flatMap wireN) := by unfold Hid wireL; rw [List.append_assoc]
      go_wp2
      go_ret
      exact ⟨u0, rfl, by rw [HE.out]; exact ho, hbel⟩
end Go.Proofs.YtjnhocefnfmhmaaGreatDoor

/-
  What is reached: plain mathematics. From behind: what hangs on a node stands behind it. No condition.
-/
namespace Go.Proofs.YtjnhocefnfmhmaaGreatDoor
open Go.RowKit

def setB (bs : List Bool) (i : Int) : List Bool := bs.set i.toNat true
/-- Marks of n nodes: those of the roots. -/
def rootsB (n : Nat) (rs : List Int) : List Bool := rs.foldl setB (List.replicate n false)
/-- The marks when a node x, marked by b, has marked what it has. -/
def hungStep (x : Nd) (b : Bool) (bs : List Bool) : List Bool :=
  if b && hasB x.k then setB (if b && hasA x.k then setB bs x.a else bs) x.b else (if b && hasA x.k then setB bs x.a else bs)
/-- The marks when the nodes below k, from behind, have marked what they have. -/
def down (xs : List Nd) : Nat → List Bool → List Bool
  | 0, bs => bs
  | k + 1, bs => down xs k (hungStep (xs.getD k ⟨0, 0, ByteArray.empty, 0, 0⟩) (bs.getD k false) bs)
/-- Which nodes are reached from the roots rs. -/
def reachL (xs : List Nd) (rs : List Int) : List Bool := down xs xs.length (rootsB xs.length rs)
theorem setB_length (bs : List Bool) (i : Int) : (setB bs i).length = bs.length := by simp [setB]
theorem foldB_length (rs : List Int) (bs : List Bool) : (rs.foldl setB bs).length = bs.length := by
  induction rs generalizing bs with
  | nil => rfl
  | cons r rs ih => rw [List.foldl_cons, ih, setB_length]
theorem rootsB_length (n : Nat) (rs : List Int) : (rootsB n rs).length = n := by unfold rootsB; rw [foldB_length]; simp
theorem hungStep_length (x : Nd) (b : Bool) (bs : List Bool) : (hungStep x b bs).length = bs.length := by
  unfold hungStep
  split <;> (split <;> simp [setB_length])
theorem down_length (xs : List Nd) (k : Nat) (bs : List Bool) : (down xs k bs).length = bs.length := by
  induction k generalizing bs with
  | zero => rfl
  | succ k ih => simp only [down]; rw [ih, hungStep_length]
theorem reachL_length (xs : List Nd) (rs : List Int) : (reachL xs rs).length = xs.length := by unfold reachL; rw [down_length, rootsB_length]
theorem fold_drop (rs : List Int) (bs : List Bool) (k : Nat) (h : k < rs.length) : (rs.drop k).foldl setB bs = (rs.drop (k + 1)).foldl setB (setB bs (rs.getD k 0)) := by
  rw [List.drop_eq_getElem_cons h, List.foldl_cons, List.getD_eq_getElem?_getD, List.getElem?_eq_getElem h]
  rfl
theorem down_at (xs : List Nd) (bs : List Bool) (k : Nat) (x : Nd) (h : xs[k]? = some x) : down xs (k + 1) bs = down xs k (hungStep x (bs.getD k false) bs) := by
  simp only [down, List.getD_eq_getElem?_getD, h, Option.getD_some]

end Go.Proofs.YtjnhocefnfmhmaaGreatDoor

/-
  A node as a key of a map. Nothing of the program; no condition.
-/
namespace Go.Proofs.YtjnhocefnfmhmaaGreatDoor
open Go.RowKit Go.Maps

theorem laidOut_true3 : laidOutB Tryz.prog = true := by kernel_rfl
theorem Tryz.keyed : Keyed Tryz.prog 153 := Keyed.of_law (deep_law_laid laidOut_true3 (m := 8) (by decide) (of_decide_eq_true (by kernel_rfl)) (by kernel_rfl) (by kernel_rfl))

theorem key_some (x : Nd) (hk : (Lit.int .i64 x.k).wf = true) (hn : (Lit.int .i64 x.n).wf = true) (hs : x.s.size ≤ maxLen) (ha : (Lit.int .i64 x.a).wf = true) (hb : (Lit.int .i64 x.b).wf = true) :
    ∃ l, keyOf Tryz.prog 153 (.agg #[.int .i64 x.k, .int .i64 x.n, .string x.s, .int .i64 x.a, .int .i64 x.b]) = some l := by
  have h1 : Tryz.prog.keyType 153 = true := by kernel_rfl
  have h0 : 0 < Tryz.prog.types.size := of_decide_eq_true (by kernel_rfl)
  have i5 : Tryz.prog.cellsOf 153 = 5 := by kernel_rfl
  have i1 : Tryz.prog.cellsOf 3 = 1 := by kernel_rfl
  have i2 : Tryz.prog.cellsOf 9 = 1 := by kernel_rfl
  obtain ⟨d, hd⟩ : ∃ d, Tryz.prog.types.size = d + 1 := ⟨Tryz.prog.types.size - 1, by omega⟩
  have hf : (Value.agg #[.int .i64 x.k, .int .i64 x.n, .string x.s, .int .i64 x.a, .int .i64 x.b]).formed Tryz.prog 153 = true := by
    simp [Value.formed, Tryz.underlying153, i5]
  have hl : ∃ ls, Tryz.prog.keyLits (Tryz.prog.types.size + 1) 153 (Value.agg #[.int .i64 x.k, .int .i64 x.n, .string x.s, .int .i64 x.a, .int .i64 x.b]).cells.toList = some ls := by
    rw [hd]
    simp [Program.keyLits, Tryz.underlying153, Tryz.underlying3, Tryz.underlying9, i5, i1, i2, hk, hn, hs, ha, hb, Value.cells]
  obtain ⟨ls, hl⟩ := hl
  refine ⟨.string (keyBytes ls), ?_⟩
  unfold keyOf
  rw [Tryz.underlying153]
  simp only [h1, hf, Bool.and_self, if_true, hl, Option.map_some]

end Go.Proofs.YtjnhocefnfmhmaaGreatDoor

/-
  For each node the first one that is alike: plain mathematics, and what a map from nodes to these numbers holds. Nothing of the program; no condition.
-/
namespace Go.Proofs.YtjnhocefnfmhmaaGreatDoor
open Go.RowKit Go.Maps

/-- The node x with its parts' first ones, when fs are the first ones of those ahead of it. -/
def nrm (fs : List Int) (x : Nd) : Nd := ⟨x.k, x.n, x.s, if hasA x.k then fs.getD x.a.toNat 0 else x.a, if hasB x.k then fs.getD x.b.toNat 0 else x.b⟩
open Classical in
/-- The place of y in ks; their length when it is none of them. -/
noncomputable def idx : List Nd → Nd → Nat
  | [], _ => 0
  | k :: ks, y => if k = y then 0 else idx ks y + 1
noncomputable def cls : List Nd → List Nd → List Int → List Nd × List Int
  | [], ks, fs => (ks, fs)
  | x :: xs, ks, fs => cls xs (ks ++ [nrm fs x]) (fs ++ [((idx ks (nrm fs x) : Nat) : Int)])
noncomputable def keysTo (xs : List Nd) (k : Nat) : List Nd := (cls (xs.take k) [] []).1
noncomputable def firstsTo (xs : List Nd) (k : Nat) : List Int := (cls (xs.take k) [] []).2
theorem cls_append (a b ks : List Nd) (fs : List Int) : cls (a ++ b) ks fs = cls b (cls a ks fs).1 (cls a ks fs).2 := by
  induction a generalizing ks fs with
  | nil => rfl
  | cons x a ih => exact ih _ _
theorem keysTo_succ (xs : List Nd) (k : Nat) (x : Nd) (h : xs[k]? = some x) : keysTo xs (k + 1) = keysTo xs k ++ [nrm (firstsTo xs k) x] := by
  obtain ⟨hl, he⟩ := List.getElem?_eq_some_iff.1 h
  unfold keysTo firstsTo
  rw [List.take_succ_eq_append_getElem hl, cls_append, he]
  rfl
theorem firstsTo_succ (xs : List Nd) (k : Nat) (x : Nd) (h : xs[k]? = some x) : firstsTo xs (k + 1) = firstsTo xs k ++ [((idx (keysTo xs k) (nrm (firstsTo xs k) x) : Nat) : Int)] := by
  obtain ⟨hl, he⟩ := List.getElem?_eq_some_iff.1 h
  unfold keysTo firstsTo
  rw [List.take_succ_eq_append_getElem hl, cls_append, he]
  rfl
theorem cls_length (a ks : List Nd) (fs : List Int) : (cls a ks fs).1.length = ks.length + a.length ∧ (cls a ks fs).2.length = fs.length + a.length := by
  induction a generalizing ks fs with
  | nil => simp [cls]
  | cons x a ih =>
    simp only [cls]
    have := ih (ks ++ [nrm fs x]) (fs ++ [((idx ks (nrm fs x) : Nat) : Int)])
    simp only [List.length_append, List.length_cons, List.length_nil] at this ⊢
    omega
theorem keysTo_length (xs : List Nd) (k : Nat) (h : k ≤ xs.length) : (keysTo xs k).length = k := by
  unfold keysTo; rw [(cls_length _ _ _).1]; simp; omega
theorem firstsTo_length (xs : List Nd) (k : Nat) (h : k ≤ xs.length) : (firstsTo xs k).length = k := by
  unfold firstsTo; rw [(cls_length _ _ _).2]; simp; omega
theorem idx_le (ks : List Nd) (y : Nd) : idx ks y ≤ ks.length := by
  induction ks with
  | nil => simp [idx]
  | cons k ks ih => simp only [idx, List.length_cons]; split <;> omega
theorem idx_none (ks : List Nd) (y : Nd) (h : y ∉ ks) : idx ks y = ks.length := by
  induction ks with
  | nil => rfl
  | cons k ks ih =>
    simp only [List.mem_cons, not_or] at h
    have hne : ¬ k = y := fun e => h.1 e.symm
    simp only [idx, if_neg hne, ih h.2, List.length_cons]
theorem idx_append (ks : List Nd) (z y : Nd) (h : y ∈ ks) : idx (ks ++ [z]) y = idx ks y := by
  induction ks with
  | nil => simp at h
  | cons k ks ih =>
    simp only [List.cons_append, idx]
    split
    · rfl
    · rename_i hne
      rw [ih (by simp only [List.mem_cons] at h; rcases h with rfl | h; exact absurd rfl hne; exact h)]
theorem idx_snoc (ks : List Nd) (y : Nd) (h : y ∉ ks) : idx (ks ++ [y]) y = ks.length := by
  induction ks with
  | nil => simp [idx]
  | cons k ks ih =>
    simp only [List.mem_cons, not_or] at h
    have hne : ¬ k = y := fun e => h.1 e.symm
    simp only [List.cons_append, idx, if_neg hne, ih h.2, List.length_cons]
theorem firsts_bounds (xs : List Nd) (k : Nat) (hk : k ≤ xs.length) : ∀ f ∈ firstsTo xs k, 0 ≤ f ∧ f ≤ k := by
  induction k with
  | zero => simp [firstsTo, cls]
  | succ k ih =>
    have hx : xs[k]? = some xs[k] := List.getElem?_eq_getElem (by omega)
    rw [firstsTo_succ xs k _ hx]
    intro f hf
    simp only [List.mem_append, List.mem_singleton] at hf
    rcases hf with hf | rfl
    · have := ih (by omega) f hf; omega
    · have := idx_le (keysTo xs k) (nrm (firstsTo xs k) xs[k])
      rw [keysTo_length xs k (by omega)] at this
      omega

/-- A node as a key. -/
def nkey (y : Nd) : Value := .agg #[.int .i64 y.k, .int .i64 y.n, .string y.s, .int .i64 y.a, .int .i64 y.b]
theorem nkey_inj {x y : Nd} (h : nkey x = nkey y) : x = y := by
  obtain ⟨k, n, s, a, b⟩ := x
  obtain ⟨k', n', s', a', b'⟩ := y
  simp [nkey] at h
  obtain ⟨rfl, rfl, rfl, rfl, rfl⟩ := h
  rfl
/-- The map D holds, for each of the nodes ks, the place where it stands first. -/
def Holds {H : Type} (D : DataW H) (ks : List Nd) : Prop :=
  ∀ y kl, keyOf Tryz.prog 153 (nkey y) = some kl → (y ∈ ks → Maps.has D kl = true ∧ D.atKey kl (.lit (.int .i64 0)) = .lit (.int .i64 (idx ks y))) ∧ (y ∉ ks → Maps.has D kl = false)
theorem Holds.start {H : Type} : Holds (H := H) (.map []) [] := fun _ _ _ => ⟨fun h => by simp at h, fun _ => rfl⟩
theorem Holds.again {H : Type} {D : DataW H} {ks : List Nd} (h : Holds D ks) (z : Nd) (hz : z ∈ ks) : Holds D (ks ++ [z]) := by
  intro y kl hy
  obtain ⟨h1, h2⟩ := h y kl hy
  refine ⟨fun hm => ?_, fun hm => h2 (fun e => hm (by simp [e]))⟩
  have hm' : y ∈ ks := by
    simp only [List.mem_append, List.mem_singleton] at hm
    rcases hm with hm | rfl
    · exact hm
    · exact hz
  rw [idx_append ks z y hm']
  exact h1 hm'
theorem Holds.put {H : Type} {D : DataW H} {ks : List Nd} (h : Holds D ks) (hD : IsMap D) (z : Nd) (hz : z ∉ ks) (kl : Lit) (hk : keyOf Tryz.prog 153 (nkey z) = some kl) :
    Holds (D.put kl (.lit (.int .i64 ks.length))) (ks ++ [z]) := by
  intro y kl' hy
  by_cases e : y = z
  · subst e
    rw [hk] at hy
    cases hy
    refine ⟨fun _ => ⟨has_put_same hD (Tryz.keyed.key hk) _, ?_⟩, fun hm => absurd (by simp) hm⟩
    rw [atKey_put_same hD (Tryz.keyed.key hk), idx_snoc ks y hz]
  · have hne : kl' ≠ kl := by
      intro e'
      subst e'
      exact e (nkey_inj (Tryz.keyed.inj hy hk))
    obtain ⟨h1, h2⟩ := h y kl' hy
    refine ⟨fun hm => ?_, fun hm => ?_⟩
    · have hm' : y ∈ ks := by
        simp only [List.mem_append, List.mem_singleton] at hm
        rcases hm with hm | hm
        · exact hm
        · exact absurd hm e
      rw [has_put_other hne, atKey_put_other hne, idx_append ks z y hm']
      exact h1 hm'
    · rw [has_put_other hne]
      exact h2 (fun e' => hm (by simp [e']))

end Go.Proofs.YtjnhocefnfmhmaaGreatDoor

/-
  What is moved: plain mathematics. The nodes that are told, in their order, behind a others, with their parts where these are then. No condition.
-/
namespace Go.Proofs.YtjnhocefnfmhmaaGreatDoor
open Go.RowKit

/-- The nodes that bs tells, each with its place, from the place k on. -/
def its : List Nd → List Bool → Nat → List (Nat × Nd)
  | [], _, _ => []
  | x :: r, bs, k => if bs.getD k false then (k, x) :: its r bs (k + 1) else its r bs (k + 1)
/-- One more node: what there is then, and where each is. -/
def mvS (a : Nat) (s : List Nd × List Int) (p : Nat × Nd) : List Nd × List Int := (s.1 ++ [nrm s.2 p.2], s.2.set p.1 ((a + s.1.length : Nat) : Int))
def mvF (a n : Nat) (l : List (Nat × Nd)) : List Nd × List Int := l.foldl (mvS a) ([], List.replicate n 0)
/-- All nodes that bs tells. -/
def mvAll (a : Nat) (xs : List Nd) (bs : List Bool) : List Nd × List Int := mvF a xs.length (its xs bs 0)
def mvN (a : Nat) (xs : List Nd) (rs : List Int) : List Nd := (mvAll a xs (reachL xs rs)).1
def mvR (a : Nat) (xs : List Nd) (rs qs : List Int) : List Int := qs.map (fun r => (mvAll a xs (reachL xs rs)).2.getD r.toNat 0)
theorem mvF_snoc (a n : Nat) (l : List (Nat × Nd)) (p : Nat × Nd) : mvF a n (l ++ [p]) = mvS a (mvF a n l) p := by simp [mvF]
theorem fold_len (a : Nat) (l : List (Nat × Nd)) (s : List Nd × List Int) : (l.foldl (mvS a) s).1.length = s.1.length + l.length ∧ (l.foldl (mvS a) s).2.length = s.2.length := by
  induction l generalizing s with
  | nil => simp
  | cons p l ih =>
    rw [List.foldl_cons]
    obtain ⟨h1, h2⟩ := ih (mvS a s p)
    rw [h1, h2]
    simp [mvS]
    omega
theorem mvF_len (a n : Nat) (l : List (Nat × Nd)) : (mvF a n l).1.length = l.length ∧ (mvF a n l).2.length = n := by
  obtain ⟨h1, h2⟩ := fold_len a l ([], List.replicate n 0)
  exact ⟨by unfold mvF; rw [h1]; simp, by unfold mvF; rw [h2]; simp⟩
theorem its_at (xs : List Nd) (bs : List Bool) (k : Nat) (x : Nd) (h : xs[k]? = some x) : its (xs.drop k) bs k = if bs.getD k false then (k, x) :: its (xs.drop (k + 1)) bs (k + 1) else its (xs.drop (k + 1)) bs (k + 1) := by
  obtain ⟨hl, he⟩ := List.getElem?_eq_some_iff.1 h
  rw [List.drop_eq_getElem_cons hl, its, he]
theorem its_end (xs : List Nd) (bs : List Bool) : its (xs.drop xs.length) bs xs.length = [] := by rw [List.drop_length]; rfl
theorem its_len (xs : List Nd) (bs : List Bool) (k : Nat) : (its xs bs k).length ≤ xs.length := by
  induction xs generalizing k with
  | nil => simp [its]
  | cons x xs ih =>
    have := ih (k + 1)
    simp only [its]
    split <;> simp <;> omega
theorem mvN_len (a : Nat) (xs : List Nd) (rs : List Int) : (mvN a xs rs).length ≤ xs.length := by
  unfold mvN mvAll
  rw [(mvF_len _ _ _).1]
  exact its_len _ _ _
theorem nrm_set (l : List Int) (i : Nat) (z : Int) (x : Nd) (hA : hasA x.k = true → x.a.toNat ≠ i) (hB : hasB x.k = true → x.b.toNat ≠ i) : nrm (l.set i z) x = nrm l x := by
  unfold nrm
  simp only [Nd.mk.injEq, true_and]
  constructor
  · split
    · rename_i h; simp only [List.getD_eq_getElem?_getD]; rw [List.getElem?_set, if_neg (fun e => hA h e.symm)]
    · rfl
  · split
    · rename_i h; simp only [List.getD_eq_getElem?_getD]; rw [List.getElem?_set, if_neg (fun e => hB h e.symm)]
    · rfl
end Go.Proofs.YtjnhocefnfmhmaaGreatDoor
