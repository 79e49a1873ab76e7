/-
  Contracts of impl.wires and impl.putNodes: the nodes' bytes behind what is there. No condition but bounds.
-/
import Derived.Test.YtbgkofinmdpmcaaGreatDoorIWireM
namespace Go.Proofs.YtbgkofinmdpmcaaGreatDoor
open Go.RowKit

def fnV (n : Nat) : Value := .func (.func n) #[] #[]
def wiresV : Array Value := #[.nilFunc, .nilFunc, .func (.func 66) #[] #[], .func (.func 67) #[] #[], .func (.func 68) #[] #[], .func (.func 69) #[] #[], .func (.func 70) #[] #[], .func (.func 71) #[] #[], .func (.func 72) #[] #[], .func (.func 73) #[] #[], .func (.func 74) #[] #[], .func (.func 75) #[] #[], .func (.func 76) #[] #[], .func (.func 77) #[] #[], .func (.func 78) #[] #[], .func (.func 79) #[] #[], .func (.func 68) #[] #[], .func (.func 69) #[] #[], .func (.func 68) #[] #[], .func (.func 69) #[] #[]]
theorem wiresV_one : wiresV.all (·.oneCell') = true := by simp [wiresV, Value.oneCell']
theorem Tryz.sizeW : (Tryz.prog.info? 90).map (·.size) = some 20 := by kernel_rfl

set_option maxRecDepth 100000 in
set_option maxHeartbeats 800000 in
theorem iwires_any (w : World) : Calls Tryz.prog 41 #[] w fun e w' => e = .returned (.agg wiresV) ∧ Below w.heap.size w w' := by
  go_enter Tryz.func41, Tryz.ntmps41
  go_wp2_with (refine wpList_store_own rfl 90 _ _ rfl w.heap.size wiresV rfl rfl 90 _ (heap_alloc_new _ _) Tryz.sizeW rfl wiresV_one ?_)
  intro w2 hh2 hb2 hs2
  have hB2 : Below w.heap.size w w2 := ((Below.refl _ _).alloc (Nat.le_refl _) _).trans hb2
  go_wp2
  exact bodyPost_ret (results_cell_row rfl _ _ w.heap.size 90 _ (0, 0) _ rfl hh2 Tryz.underlying90 rfl Tryz.sizeW) rfl ⟨rfl, hB2⟩

theorem run_enter {f : FuncId} {fn : Func} {c : Code} (hf : Tryz.prog.funcs[f]? = some fn) (hname : (fn.name == "runtime.NumGoroutine") = false) (hb : fn.body = some c) (args : Array Value) (w : World) :
    Sem.run Tryz.prog (callFunc f args) w = .ok (.enter f args) w := by
  have h1 : fn.name ≠ "runtime.NumGoroutine" := by simpa using hname
  simp [callFunc, hf, h1, hb]
theorem way_of (x : Nd) (hok : NdOk x) : ∃ (n f : Nat), x.k = (n : Int) ∧ 1 ≤ n ∧ n ≤ 9 ∧ wiresV[n * 2]? = some (.func (.func f) #[] #[]) ∧ Puts f x ∧ ∀ args w, Sem.run Tryz.prog (callFunc f args) w = .ok (.enter f args) w := by
  have h := hok.1
  have hk : x.k = 1 ∨ x.k = 2 ∨ x.k = 3 ∨ x.k = 4 ∨ x.k = 5 ∨ x.k = 6 ∨ x.k = 7 ∨ x.k = 8 ∨ x.k = 9 := by omega
  rcases hk with h | h | h | h | h | h | h | h | h
  · exact ⟨1, 66, h, by omega, by omega, rfl, putnothing_any x h, run_enter Tryz.func66 (by kernel_rfl) rfl⟩
  · exact ⟨2, 68, h, by omega, by omega, rfl, putn_any x hok (Or.inl h), run_enter Tryz.func68 (by kernel_rfl) rfl⟩
  · exact ⟨3, 70, h, by omega, by omega, rfl, putint_any x hok h, run_enter Tryz.func70 (by kernel_rfl) rfl⟩
  · exact ⟨4, 72, h, by omega, by omega, rfl, putname_any x hok h, run_enter Tryz.func72 (by kernel_rfl) rfl⟩
  · exact ⟨5, 74, h, by omega, by omega, rfl, putparts_any x hok h, run_enter Tryz.func74 (by kernel_rfl) rfl⟩
  · exact ⟨6, 76, h, by omega, by omega, rfl, putfun_any x hok h, run_enter Tryz.func76 (by kernel_rfl) rfl⟩
  · exact ⟨7, 78, h, by omega, by omega, rfl, puta_any x hok h, run_enter Tryz.func78 (by kernel_rfl) rfl⟩
  · exact ⟨8, 68, h, by omega, by omega, rfl, putn_any x hok (Or.inr (Or.inl h)), run_enter Tryz.func68 (by kernel_rfl) rfl⟩
  · exact ⟨9, 68, h, by omega, by omega, rfl, putn_any x hok (Or.inr (Or.inr h)), run_enter Tryz.func68 (by kernel_rfl) rfl⟩

/-- A node's box and a way's cell stay. -/
theorem six_stay {w w' : World} (hs : Stays w w') {b r : Nat} {x : Nd} {rv : Array Value} {n : Nat} {f : Value} (hb : w.heap[b]? = some (.cells #[.int .i64 x.k, .int .i64 x.n, .string x.s, .int .i64 x.a, .int .i64 x.b] 64 (0, 0))) (hr : w.heap[r]? = some (.cells rv 90 (0, 0))) (hn : rv[n]? = some f) :
    w'.cell? ⟨b, 0, none⟩ = some (.int .i64 x.k) ∧ w'.cell? ⟨b, 1, none⟩ = some (.int .i64 x.n) ∧ w'.cell? ⟨b, 2, none⟩ = some (.string x.s) ∧ w'.cell? ⟨b, 3, none⟩ = some (.int .i64 x.a) ∧ w'.cell? ⟨b, 4, none⟩ = some (.int .i64 x.b) ∧ w'.cell? ⟨r, n, none⟩ = some f := by
  have h1 := hs b _ _ (by decide) hb
  have h2 := hs r _ _ (by decide) hr
  exact ⟨cell_of_row w' _ 0 _ _ _ h1, cell_of_row w' _ 1 _ _ _ h1, cell_of_row w' _ 2 _ _ _ h1, cell_of_row w' _ 3 _ _ _ h1, cell_of_row w' _ 4 _ _ _ h1, (cell_of_row w' _ n _ _ _ h2).trans hn⟩

theorem call_nums {W0 W5 : World} {vo : Value} {cs : List Int} {n : Nat} (ho5 : OwnB W5 W0.heap.size vo cs) (hb5 : Below W0.heap.size W0 W5) (hn : n ≤ 9) (hl : cs.length ≤ 200000) :
    Calls Tryz.prog 42 #[vo, .slice (some ⟨W5.heap.size, 0, none⟩) 1 1] (W5.alloc (Obj.cells #[.int .i64 n] 3)).drew fun e w' => ∃ v', e = .returned v' ∧ OwnB w' W0.heap.size v' (cs ++ encI n) ∧ Below W0.heap.size W0 w' ∧ Stays W5 w' := by
  have hd : Below W5.heap.size W5 (W5.alloc (Obj.cells #[.int .i64 n] 3)).drew := ((Below.refl _ _).alloc (Nat.le_refl _) _).drew
  have hs := hb5.size
  have hs2 := hd.size
  have e : [(n : Int)].flatMap encI = encI n := by simp
  refine (putnums_any vo cs W0.heap.size W5.heap.size [(n : Int)] _ (own_below ho5 hd) (by omega) (heap_alloc_new W5 _) (by simp; omega) (by simp) (by omega)).mono ?_
  rintro e' w6 ⟨v6, rfl, o6, b6, st6⟩
  rw [e] at o6
  exact ⟨v6, rfl, o6, (hb5.trans (hd.mono hs)).trans b6, (Stays.below hd).trans st6⟩

set_option maxRecDepth 100000 in
set_option maxHeartbeats 6400000 in
theorem putnodes_any (W0 w : World) (vb vn : Value) (bs : List Int) (xs : List Nd) (own : w.ownsRow W0.heap.size 5 1 vb bs.length (bv bs)) (bel : Below W0.heap.size W0 w) (R : NRow W0 vn xs) (hx : ∀ x ∈ xs, NdOk x) (hl : xs.length ≤ 3000) (hb : bs.length ≤ 1000) :
    Calls Tryz.prog 19 #[vb, vn] w fun e w' => ∃ v', e = .returned v' ∧ w'.ownsRow W0.heap.size 5 1 v' (bs ++ wireL xs).length (bv (bs ++ wireL xs)) ∧ Below W0.heap.size W0 w' := by
  have R' := R
  obtain ⟨ao, cap, rfl, _, _, hz, hcell⟩ := R'
  have hszw := bel.size
  go_enter Tryz.func19, Tryz.ntmps19
  go_wp2_with fail
  refine (iwires_any _).mono ?_
  rintro e w1 ⟨rfl, hb1⟩
  go_wp2_with (refine wpList_store_own rfl 90 _ _ rfl w1.heap.size wiresV rfl rfl 90 _ (heap_alloc_new _ _) Tryz.sizeW rfl wiresV_one ?_)
  intro w2 hh2 hb2 hs2
  have hB2 : Below w.heap.size w w2 := hb1.trans ((((Below.refl _ _).alloc (Nat.le_refl _) _).trans hb2).mono hb1.size)
  have own2 := own_below own hB2
  have bel2 := bel.trans (hB2.mono hszw)
  have hszw2 := bel2.size
  clear own bel hb1 hb2 hs2 hB2
  generalize w1.heap.size = r at *
  have hdl : Below w2.heap.size w2 (w2.alloc (Obj.cells #[.int .i64 xs.length] 3)) := (Below.refl _ _).alloc (Nat.le_refl _) _
  go_wp2_with fail
  refine (putnums_any _ bs W0.heap.size w2.heap.size [(xs.length : Int)] _ (own_below own2 hdl) (by have := hdl.size; omega) (heap_alloc_new _ _) (by simp; omega) (by simp) (by omega)).mono ?_
  rintro e w3 ⟨v3, rfl, own3, bel3, st3⟩
  have hr3 := st3 r _ _ (by decide) ((heap_alloc_old _ _ (Array.getElem?_eq_some_iff.1 hh2).1).trans hh2)
  have bel3' := (bel2.trans (hdl.mono hszw2)).trans bel3
  have hlen : (encI xs.length).length ≤ 9 := encI_length _
  have own3' : OwnB w3 W0.heap.size v3 (bs ++ encI xs.length) := by
    unfold OwnB
    have e : [(xs.length : Int)].flatMap encI = encI xs.length := by simp
    rw [e] at own3
    exact own3
  clear own2 bel2 own3 bel3 st3 hdl hh2
  go_wp2_with fail
  go_loopw [0, 16] (fun vo i wr => ∃ k : Nat, k ≤ xs.length ∧ i = .int .i64 k ∧ OwnB wr W0.heap.size vo (bs ++ encI xs.length ++ (xs.take k).flatMap wireN) ∧ Below W0.heap.size W0 wr ∧ wr.heap[r]? = some (.cells wiresV 90 (0, 0))) (fun _ i _ => xs.length - (intOf i).toNat)
  case atStart => exact ⟨0, by omega, rfl, by simpa using own3', bel3', hr3⟩
  case round =>
    obtain ⟨k, hk, rfl, ho, hbel, hr⟩ := hrel
    by_cases hlt : k < xs.length
    · obtain ⟨x, hxk⟩ : ∃ x, xs[k]? = some x := ⟨xs[k], by simp [hlt]⟩
      have hok := hx x (List.mem_of_getElem? hxk)
      have HT : Hid ((xs.take (k + 1)).flatMap wireN = (xs.take k).flatMap wireN ++ wireN x) := wires_take xs k x hxk
      have hlb : (bs ++ encI xs.length ++ (xs.take k).flatMap wireN).length ≤ 200000 := by
        have := wires_len (xs.take k) (fun y hy => hx y (List.mem_of_mem_take hy))
        rw [List.length_append, List.length_append]
        rw [List.length_take] at this
        omega
      obtain ⟨g, oo, rfl, hg, hcell⟩ := hcell (by intro e; subst e; simp at hlt)
      obtain ⟨x0, x1, x2, x3, x4⟩ := (hcell k x hxk).below hbel hg
      have hgr : g < wr.heap.size := Nat.lt_of_lt_of_le hg hbel.size
      clear hcell
      obtain ⟨n, f, hn, hn1, hn9, hw, hput, hent⟩ := way_of x hok
      have hle := encI_length (n : Int)
      have hle2 := wireB_len x hok.2.2.1
      have HW : Hid (wireN x = encI n ++ wireB x) := by unfold Hid wireN; rw [hn]
      obtain ⟨xk, xn, xs', xa, xb⟩ := x
      dsimp only at hn x0 x1 x2 x3 x4
      subst hn
      obtain ⟨cs, hcs⟩ : ∃ cs, Hid (bs ++ encI xs.length ++ (xs.take k).flatMap wireN = cs) := ⟨_, rfl⟩
      rw [hcs.out] at ho hlb
      obtain ⟨W5, hW5⟩ : ∃ W5, wr.alloc (Obj.cells #[.int .i64 n, .int .i64 xn, .string xs', .int .i64 xa, .int .i64 xb] 64) = W5 := ⟨_, rfl⟩
      have hd5 : Below wr.heap.size wr W5 := by rw [← hW5]; exact (Below.refl _ _).alloc (Nat.le_refl _) _
      have hx5 : W5.heap[wr.heap.size]? = some (.cells #[.int .i64 n, .int .i64 xn, .string xs', .int .i64 xa, .int .i64 xb] 64 (0, 0)) := by rw [← hW5]; exact heap_alloc_new _ _
      have hr5 := (hd5.block _ (Array.getElem?_eq_some_iff.1 hr).1).trans hr
      have ho5 : OwnB W5 W0.heap.size u0 cs := own_below ho hd5
      have hb5 := hbel.trans (hd5.mono hbel.size)
      have six := six_stay (x := ⟨n, xn, xs', xa, xb⟩) (Stays.refl W5) hx5 hr5 hw
      obtain ⟨q0, q1, q2, q3, q4, q5⟩ := six
      have hlc : (cs ++ encI (n : Int)).length ≤ 400000 := by rw [List.length_append]; omega
      go_wp2_with fail
      go_region_held (fun w' => w'.cell? ⟨wr.heap.size, 0, none⟩ = some (.int .i64 n) ∧ w'.cell? ⟨wr.heap.size, 1, none⟩ = some (.int .i64 xn) ∧ w'.cell? ⟨wr.heap.size, 2, none⟩ = some (.string xs') ∧ w'.cell? ⟨wr.heap.size, 3, none⟩ = some (.int .i64 xa) ∧ w'.cell? ⟨wr.heap.size, 4, none⟩ = some (.int .i64 xb) ∧ w'.cell? ⟨r, n * 2, none⟩ = some (.func (.func f) #[] #[])) (first | exact s6 | exact s7 | go_keep) (first
        | (go_at_call 42; refine (call_nums ho5 hb5 hn9 hlb).mono ?_; rintro e w6 ⟨v6, rfl, o6, b6, st6⟩; have s6 := six_stay (x := ⟨n, xn, xs', xa, xb⟩) st6 hx5 hr5 hw)
        | (refine (hput _ (cs ++ encI n) W0.heap.size _ o6 b6.size hlc).mono ?_; rintro e w7 ⟨v7, rfl, o7, b7, st7⟩; have s7 := six_stay (x := ⟨n, xn, xs', xa, xb⟩) (st6.trans st7) hx5 hr5 hw))
      all_goals
        have HE : Hid (cs ++ encI n ++ wireB ⟨n, xn, xs', xa, xb⟩ = bs ++ encI xs.length ++ (xs.take (k + 1)).flatMap wireN) := by unfold Hid; rw [HT.out, HW.out, ← hcs.out]; simp only [List.append_assoc]
        have o7' : OwnB w7 W0.heap.size v7 (cs ++ encI n ++ wireB ⟨n, xn, xs', xa, xb⟩) := o7
        have b7' := b6.trans b7
        have hr7 := (st6.trans st7) r _ _ (by decide) hr5
        clear s6 s7 q0 q1 q2 q3 q4 q5 o6 o7 st6 st7 b6 b7
        rw [HE.out] at o7'
        go_wp2
        go_roundw
        case rel => exact ⟨k + 1, by omega, by go_num, o7', b7', hr7⟩
        case measure => simp [intOf]; omega
    · have hke : k = xs.length := by omega
      subst hke
      rw [List.take_length] at ho
      have HE : Hid (bs ++ wireL xs = bs ++ encI xs.length ++ xs.flatMap wireN) := by unfold Hid wireL; rw [List.append_assoc]
      go_wp2
      go_ret
      exact ⟨u0, rfl, by rw [HE.out]; exact ho, hbel⟩
end Go.Proofs.YtbgkofinmdpmcaaGreatDoor
