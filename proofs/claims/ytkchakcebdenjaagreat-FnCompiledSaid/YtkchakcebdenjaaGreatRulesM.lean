/-
  The contracts of impl.instrRules and impl.instrsFit. No condition.
-/
import Derived.Test.YtkchakcebdenjaaGreatSInstrM
import Derived.Test.YtkchakcebdenjaaGreatStore2M
import Derived.Deep.RegionHeld
namespace Go.Proofs.YtkchakcebdenjaaGreat
open Go.RowKit
def insB (xs : List In) (i : Nat) (n1 n2 : Nat) : Bool := match xs with
  | [] => true
  | x :: xs => instrB x i n1 n2 && insB xs (i + 1) n1 n2
theorem insB_drop (xs : List In) (i n1 n2 : Nat) (x : In) (h : xs[i]? = some x) : insB (xs.drop i) i n1 n2 = (instrB x i n1 n2 && insB (xs.drop (i + 1)) (i + 1) n1 n2) := by
  obtain ⟨hl, he⟩ := List.getElem?_eq_some_iff.1 h
  rw [List.drop_eq_getElem_cons hl, he]
  rfl
def rulesV : Array Value := #[.nilFunc, .func (.func 106) #[] #[], .func (.func 107) #[] #[], .func (.func 108) #[] #[], .func (.func 109) #[] #[], .func (.func 109) #[] #[], .func (.func 110) #[] #[], .func (.func 111) #[] #[], .func (.func 112) #[] #[], .func (.func 112) #[] #[]]
theorem run_equalIn_func_nil {P : Program} (w : World) (d : Nat) (t : TypeId) (ps rs : Array TypeId) (v : Bool) (f : Fn) (a b : Array Value) (h : P.underlying t = some (.func ps rs v)) : (Op.equalIn (d + 1) t (.func f a b) .nilFunc).run P w = .ok false w := by
  simp [Op.equalIn, run_underlying h]
theorem run_equalIn_nil_nil {P : Program} (w : World) (d : Nat) (t : TypeId) (ps rs : Array TypeId) (v : Bool) (h : P.underlying t = some (.func ps rs v)) : (Op.equalIn (d + 1) t .nilFunc .nilFunc).run P w = .ok true w := by
  simp [Op.equalIn, run_underlying h]
theorem func_isnt_nil (f : Fn) (a b : Array Value) (w : World) : Sem.run Tryz.prog (binOp .eql 142 (.func f a b) .nilFunc) w = .ok (.bool false) w := by
  have h : (Op.equal 142 (.func f a b) .nilFunc).run Tryz.prog w = .ok false w := run_equalIn_func_nil w 9999 _ _ _ _ f a b Tryz.underlying142
  simp only [binOp]
  simp [h]
theorem nil_is_nil (w : World) : Sem.run Tryz.prog (binOp .eql 142 .nilFunc .nilFunc) w = .ok (.bool true) w := by
  have h : (Op.equal 142 .nilFunc .nilFunc).run Tryz.prog w = .ok true w := run_equalIn_nil_nil w 9999 _ _ _ _ Tryz.underlying142
  simp only [binOp]
  simp [h]
theorem rulesV_one : rulesV.all (·.oneCell') = true := by simp [rulesV, Value.oneCell']
theorem Tryz.sizeR : (Tryz.prog.info? 143).map (·.size) = some 10 := by kernel_rfl
set_option maxHeartbeats 800000 in
theorem instrrules_any (w : World) : Calls Tryz.prog 87 #[] w fun e w' => e = .returned (.agg rulesV) ∧ Below w.heap.size w w' := by
  go_enter Tryz.func87, Tryz.ntmps87
  go_wp2_with (refine wpList_store_own rfl 143 _ _ rfl w.heap.size rulesV rfl rfl 143 _ (heap_alloc_new _ _) Tryz.sizeR rfl rulesV_one ?_)
  intro w2 hh2 hb2 hs2
  have hB2 : Below w.heap.size w w2 := ((Below.refl _ _).alloc (Nat.le_refl _) _).trans hb2
  go_wp2
  exact bodyPost_ret (results_cell_row rfl _ _ w.heap.size 143 _ (0, 0) _ rfl hh2 Tryz.underlying143 rfl Tryz.sizeR) rfl ⟨rfl, hB2⟩
theorem fit_below {w wr w4 : World} {o : Obj} (hB : Below w.heap.size w wr) (hb : Below (wr.alloc o).drew.heap.size (wr.alloc o).drew w4) : Below w.heap.size w w4 :=
  ((hB.alloc hB.size o).drew).trans (hb.mono (((hB.alloc hB.size o).drew).size))
theorem fit_round {w2 wr w4 : World} {o : Obj} (hB : Below w2.heap.size w2 wr) (hb : Below (wr.alloc o).drew.heap.size (wr.alloc o).drew w4) : Below w2.heap.size w2 w4 := fit_below hB hb
theorem fit_keep {wr w4 : World} {cs : Array Value} {t : TypeId} {z r : Nat} {u0 u1 u2 u3 p0 p1 p2 f : Value} (hb : Below (wr.alloc (Obj.cells cs t)).drew.heap.size (wr.alloc (Obj.cells cs t)).drew w4) (hz : z < wr.heap.size) (hr : r < wr.heap.size) (n : Nat)
    (h0 : cs[0]? = some u0) (h1 : cs[1]? = some u1) (h2 : cs[2]? = some u2) (h3 : cs[3]? = some u3)
    (q0 : wr.cell? ⟨z, 0, none⟩ = some p0) (q1 : wr.cell? ⟨z, 0 + 1, none⟩ = some p1) (q2 : wr.cell? ⟨z, 0 + 2, none⟩ = some p2) (q3 : wr.cell? ⟨r, n, none⟩ = some f) :
    w4.cell? ⟨wr.heap.size, 0, none⟩ = some u0 ∧ w4.cell? ⟨wr.heap.size, 1, none⟩ = some u1 ∧ w4.cell? ⟨wr.heap.size, 2, none⟩ = some u2 ∧ w4.cell? ⟨wr.heap.size, 3, none⟩ = some u3 ∧ w4.cell? ⟨z, 0, none⟩ = some p0 ∧ w4.cell? ⟨z, 1, none⟩ = some p1 ∧ w4.cell? ⟨z, 2, none⟩ = some p2 ∧ w4.cell? ⟨r, n, none⟩ = some f := by
  have hbx : w4.heap[wr.heap.size]? = some (Obj.cells cs t) := (hb.block _ (by simp)).trans (heap_alloc_new _ _)
  have old : ∀ (g i : Nat) (v : Value), g < wr.heap.size → wr.cell? ⟨g, i, none⟩ = some v → w4.cell? ⟨g, i, none⟩ = some v := fun g i v hg h => by
    rw [hb.cell (p := ⟨g, i, none⟩) (by simp; omega)]
    show (wr.alloc (Obj.cells cs t)).cell? ⟨g, i, none⟩ = some v
    rw [World.cell?_alloc_lt _ _ _ hg]
    exact h
  exact ⟨by rw [cell_of_row w4 _ 0 _ _ _ hbx]; exact h0, by rw [cell_of_row w4 _ 1 _ _ _ hbx]; exact h1, by rw [cell_of_row w4 _ 2 _ _ _ hbx]; exact h2, by rw [cell_of_row w4 _ 3 _ _ _ hbx]; exact h3, old z 0 _ hz q0, old z 1 _ hz q1, old z 2 _ hz q2, old r n _ hr q3⟩
set_option maxRecDepth 100000 in
set_option maxHeartbeats 8000000 in
theorem instrsfit_any (a1 a3 : Option Addr) (n1 c1 n3 c3 : Nat) (v2 : Value) (is : List In) (w : World) (R : InRow w v2 is) :
    Calls Tryz.prog 53 #[.agg #[.slice a1 n1 c1, v2, .slice a3 n3 c3]] w fun e w' => e = .returned (.bool (decide (is.length ≤ 400) && insB is 0 n1 is.length)) ∧ Below w.heap.size w w' := by
  have hzs := R
  obtain ⟨a2, c2, rfl, hcap, hm, hz, hcell⟩ := R
  by_cases hl : is.length ≤ 400
  · have HL : Hid (decide (is.length ≤ 400) = true) := by unfold Hid; simp [hl]
    go_enter Tryz.func53, Tryz.ntmps53
    have hB0 : Below w.heap.size w (w.alloc (Obj.cells #[.slice a1 n1 c1, .slice a2 is.length c2, .slice a3 n3 c3] 33)) := (Below.refl _ _).alloc (Nat.le_refl _) _
    go_wp2_with fail
    refine (instrrules_any _).mono ?_
    rintro e w1 ⟨rfl, hb1⟩
    have hx1 : w1.heap[w.heap.size]? = some (.cells #[.slice a1 n1 c1, .slice a2 is.length c2, .slice a3 n3 c3] 33 (0, 0)) := (hb1.block _ (by simp)).trans (heap_alloc_new _ _)
    have hB1 := hB0.trans (hb1.mono hB0.size)
    have hs1 := (Array.getElem?_eq_some_iff.1 hx1).1
    clear hB0 hb1
    go_wp2_with (refine wpList_store_own rfl 143 _ _ rfl w1.heap.size rulesV rfl rfl 143 _ (heap_alloc_new _ _) Tryz.sizeR rfl rulesV_one ?_)
    intro w2 hh2 hb2 hs2
    have hx2 := (hb2.block _ (by simpa using hs1)).trans ((heap_alloc_old _ _ hs1).trans hx1)
    have hB2 : Below w.heap.size w w2 := hB1.trans ((((Below.refl _ _).alloc (Nat.le_refl _) _).trans hb2).mono hB1.size)
    have hs2' : w2.heap.size = w1.heap.size + 1 := by simpa using hs2
    have hs12 : w1.heap.size < w2.heap.size := by omega
    have hs02 : w.heap.size < w2.heap.size := by omega
    have hc2 : w2.cell? ⟨w.heap.size, 0 + 1, none⟩ = some (.slice a2 is.length c2) := by rw [cell_of_row w2 _ 1 _ _ _ hx2]; rfl
    clear hx1 hb2 hs2 hs2' hB1
    go_wp2_with fail
    go_loopw [14] (fun i wr => ∃ k : Nat, k ≤ is.length ∧ i = .int .i64 k ∧ Hid (insB is 0 n1 is.length = insB (is.drop k) k n1 is.length) ∧ Below w2.heap.size w2 wr) (fun i _ => is.length - (intOf i).toNat)
    case atStart => exact ⟨0, by omega, rfl, rfl, Below.refl _ _⟩
    case round =>
      obtain ⟨k, hk, rfl, HK, hb⟩ := hrel
      have hB := hB2.trans (hb.mono hB2.size)
      by_cases hlt : k < is.length
      · obtain ⟨g, o, rfl, hg, hcell⟩ := hcell (by intro e; subst e; simp at hlt)
        obtain ⟨x, hx⟩ : ∃ x, is[k]? = some x := ⟨is[k], by simp [hlt]⟩
        obtain ⟨d0, d1, d2, d3⟩ := (hcell k x hx).below hB hg
        have hxz := hz x (List.mem_of_getElem? hx)
        have HI : Hid (insB is 0 n1 is.length = (instrB x k n1 is.length && insB (is.drop (k + 1)) (k + 1) n1 is.length)) := by unfold Hid; rw [HK.out, insB_drop is k n1 is.length x hx]
        have hxr := (hb.block _ hs02).trans hx2
        have hrr := (hb.block _ hs12).trans hh2
        have hsr := hb.size
        clear hcell hx HK hx2 hh2 hc2
        have q0 : wr.cell? ⟨w.heap.size, 0, none⟩ = some (.slice a1 n1 c1) := by rw [cell_of_row wr _ 0 _ _ _ hxr]; rfl
        have q1 : wr.cell? ⟨w.heap.size, 0 + 1, none⟩ = some (.slice (some ⟨g, o, none⟩) is.length c2) := by rw [cell_of_row wr _ 1 _ _ _ hxr]; rfl
        have q2 : wr.cell? ⟨w.heap.size, 0 + 2, none⟩ = some (.slice a3 n3 c3) := by rw [cell_of_row wr _ 2 _ _ _ hxr]; rfl
        obtain ⟨xo, xn, xi, xs⟩ := x
        have hc : xo < 0 ∨ 10 ≤ xo ∨ xo = 0 ∨ xo = 1 ∨ xo = 2 ∨ xo = 3 ∨ xo = 4 ∨ xo = 5 ∨ xo = 6 ∨ xo = 7 ∨ xo = 8 ∨ xo = 9 := by omega
        dsimp only at d0 d1 d2 d3 hxz
        have hs0r : w.heap.size < wr.heap.size := Nat.lt_of_lt_of_le hs02 hsr
        have hs1r : w1.heap.size < wr.heap.size := Nat.lt_of_lt_of_le hs12 hsr
        have hfn := func_isnt_nil
        have hnn := nil_is_nil
        rcases hc with hc | hc | rfl | rfl | rfl | rfl | rfl | rfl | rfl | rfl | rfl | rfl
        · have HR : Hid (insB is 0 n1 is.length = false) := by unfold Hid; rw [HI.out]; simp [instrB, show ¬ xo = 1 by omega, show ¬ xo = 2 by omega, show ¬ xo = 3 by omega, show ¬ xo = 4 by omega, show ¬ xo = 5 by omega, show ¬ xo = 6 by omega, show ¬ xo = 7 by omega, show ¬ xo = 8 by omega, show ¬ xo = 9 by omega]
          have hd1 : decide (xo < 0) = true := by simp [hc]
          clear HI
          go_wp2_with fail
          go_quiet (fail)
          all_goals
            go_wp2
            go_ret
            exact ⟨by rw [HL.out, HR.out]; rfl, (hB.alloc hB.size _).trans ⟨rfl, rfl, rfl, Nat.le_refl _, fun _ _ => rfl⟩⟩
        · have HR : Hid (insB is 0 n1 is.length = false) := by unfold Hid; rw [HI.out]; simp [instrB, show ¬ xo = 1 by omega, show ¬ xo = 2 by omega, show ¬ xo = 3 by omega, show ¬ xo = 4 by omega, show ¬ xo = 5 by omega, show ¬ xo = 6 by omega, show ¬ xo = 7 by omega, show ¬ xo = 8 by omega, show ¬ xo = 9 by omega]
          have hd1 : decide (xo < 0) = false := by simp; omega
          have hd2 : decide (10 ≤ xo) = true := by simp [hc]
          clear HI
          go_wp2_with fail
          go_quiet (fail)
          all_goals
            go_wp2
            go_ret
            exact ⟨by rw [HL.out, HR.out]; rfl, (hB.alloc hB.size _).trans ⟨rfl, rfl, rfl, Nat.le_refl _, fun _ _ => rfl⟩⟩
        · have HR : Hid (insB is 0 n1 is.length = false) := by unfold Hid; rw [HI.out]; simp [instrB]
          have rc : wr.cell? ⟨w1.heap.size, 0, none⟩ = some .nilFunc := by rw [cell_of_row wr _ 0 _ _ _ hrr]; rfl
          clear HI
          go_wp2_with fail
          go_quiet (fail)
          all_goals
            go_wp2
            go_ret
            exact ⟨by rw [HL.out, HR.out]; rfl, (hB.alloc hB.size _).trans ⟨rfl, rfl, rfl, Nat.le_refl _, fun _ _ => rfl⟩⟩
        · have HB : Hid (instrB ⟨1, xn, xi, xs⟩ k n1 is.length = litB ⟨1, xn, xi, xs⟩ n1) := by unfold Hid; simp [instrB]
          have rc : wr.cell? ⟨w1.heap.size, 1, none⟩ = some (.func (.func 106) #[] #[]) := by rw [cell_of_row wr _ 1 _ _ _ hrr]; rfl
          rw [HB.out] at HI
          clear HB hrr hxr
          go_wp2_with fail
          go_region_held (fun w' => w'.cell? ⟨wr.heap.size, 0, none⟩ = some (.int .i64 1) ∧ w'.cell? ⟨wr.heap.size, 1, none⟩ = some (.int .i64 xn) ∧ w'.cell? ⟨wr.heap.size, 2, none⟩ = some (.int .i64 xi) ∧ w'.cell? ⟨wr.heap.size, 3, none⟩ = some (.string xs) ∧ w'.cell? ⟨w.heap.size, 0, none⟩ = some (.slice a1 n1 c1) ∧ w'.cell? ⟨w.heap.size, 1, none⟩ = some (.slice (some ⟨g, o, none⟩) is.length c2) ∧ w'.cell? ⟨w.heap.size, 2, none⟩ = some (.slice a3 n3 c3) ∧ w'.cell? ⟨w1.heap.size, 1, none⟩ = some (.func (.func 106) #[] #[])) (first | exact s4 | go_keep) (first
            | (go_at_call 106; refine (islit_any ⟨1, xn, xi, xs⟩ _ _ _ _ _ _ _ _ _ _ _).mono ?_; rintro e w4 ⟨rfl, hb4⟩; have hB4 := fit_below hB hb4; have s4 := fit_keep hb4 hs0r hs1r 1 rfl rfl rfl rfl q0 q1 q2 rc))
          all_goals
            generalize litB ⟨1, xn, xi, xs⟩ n1 = b at HI
            clear s4 q0 q1 q2 rc d0 d1 d2 d3
            cases b with
            | false =>
              have HR : Hid (insB is 0 n1 is.length = false) := by unfold Hid; rw [HI.out]; rfl
              go_wp2
              go_ret
              exact ⟨by rw [HL.out, HR.out]; rfl, hB4⟩
            | true =>
              go_wp2
              go_roundw
              case rel => exact ⟨k + 1, by omega, by go_num, (by unfold Hid; rw [HI.out, Bool.true_and]), fit_round hb hb4⟩
              case measure => simp [intOf]; omega
        · have HB : Hid (instrB ⟨2, xn, xi, xs⟩ k n1 is.length = varB ⟨2, xn, xi, xs⟩) := by unfold Hid; simp [instrB]
          have rc : wr.cell? ⟨w1.heap.size, 2, none⟩ = some (.func (.func 107) #[] #[]) := by rw [cell_of_row wr _ 2 _ _ _ hrr]; rfl
          rw [HB.out] at HI
          clear HB hrr hxr
          go_wp2_with fail
          go_region_held (fun w' => w'.cell? ⟨wr.heap.size, 0, none⟩ = some (.int .i64 2) ∧ w'.cell? ⟨wr.heap.size, 1, none⟩ = some (.int .i64 xn) ∧ w'.cell? ⟨wr.heap.size, 2, none⟩ = some (.int .i64 xi) ∧ w'.cell? ⟨wr.heap.size, 3, none⟩ = some (.string xs) ∧ w'.cell? ⟨w.heap.size, 0, none⟩ = some (.slice a1 n1 c1) ∧ w'.cell? ⟨w.heap.size, 1, none⟩ = some (.slice (some ⟨g, o, none⟩) is.length c2) ∧ w'.cell? ⟨w.heap.size, 2, none⟩ = some (.slice a3 n3 c3) ∧ w'.cell? ⟨w1.heap.size, 2, none⟩ = some (.func (.func 107) #[] #[])) (first | exact s4 | go_keep) (first
            | (go_at_call 107; refine (isvar_any ⟨2, xn, xi, xs⟩ _ _ _ _ _ _ _ _ _ _ _).mono ?_; rintro e w4 ⟨rfl, hb4⟩; have hB4 := fit_below hB hb4; have s4 := fit_keep hb4 hs0r hs1r 2 rfl rfl rfl rfl q0 q1 q2 rc))
          all_goals
            generalize varB ⟨2, xn, xi, xs⟩ = b at HI
            clear s4 q0 q1 q2 rc d0 d1 d2 d3
            cases b with
            | false =>
              have HR : Hid (insB is 0 n1 is.length = false) := by unfold Hid; rw [HI.out]; rfl
              go_wp2
              go_ret
              exact ⟨by rw [HL.out, HR.out]; rfl, hB4⟩
            | true =>
              go_wp2
              go_roundw
              case rel => exact ⟨k + 1, by omega, by go_num, (by unfold Hid; rw [HI.out, Bool.true_and]), fit_round hb hb4⟩
              case measure => simp [intOf]; omega
        · have HB : Hid (instrB ⟨3, xn, xi, xs⟩ k n1 is.length = globalB ⟨3, xn, xi, xs⟩) := by unfold Hid; simp [instrB]
          have rc : wr.cell? ⟨w1.heap.size, 3, none⟩ = some (.func (.func 108) #[] #[]) := by rw [cell_of_row wr _ 3 _ _ _ hrr]; rfl
          rw [HB.out] at HI
          clear HB hrr hxr
          go_wp2_with fail
          go_region_held (fun w' => w'.cell? ⟨wr.heap.size, 0, none⟩ = some (.int .i64 3) ∧ w'.cell? ⟨wr.heap.size, 1, none⟩ = some (.int .i64 xn) ∧ w'.cell? ⟨wr.heap.size, 2, none⟩ = some (.int .i64 xi) ∧ w'.cell? ⟨wr.heap.size, 3, none⟩ = some (.string xs) ∧ w'.cell? ⟨w.heap.size, 0, none⟩ = some (.slice a1 n1 c1) ∧ w'.cell? ⟨w.heap.size, 1, none⟩ = some (.slice (some ⟨g, o, none⟩) is.length c2) ∧ w'.cell? ⟨w.heap.size, 2, none⟩ = some (.slice a3 n3 c3) ∧ w'.cell? ⟨w1.heap.size, 3, none⟩ = some (.func (.func 108) #[] #[])) (first | exact s4 | go_keep) (first
            | (go_at_call 108; refine (isglobal_any ⟨3, xn, xi, xs⟩ _ _ _ _ _ _ _ _ _ _ _ hxz).mono ?_; rintro e w4 ⟨rfl, hb4⟩; have hB4 := fit_below hB hb4; have s4 := fit_keep hb4 hs0r hs1r 3 rfl rfl rfl rfl q0 q1 q2 rc))
          all_goals
            generalize globalB ⟨3, xn, xi, xs⟩ = b at HI
            clear s4 q0 q1 q2 rc d0 d1 d2 d3
            cases b with
            | false =>
              have HR : Hid (insB is 0 n1 is.length = false) := by unfold Hid; rw [HI.out]; rfl
              go_wp2
              go_ret
              exact ⟨by rw [HL.out, HR.out]; rfl, hB4⟩
            | true =>
              go_wp2
              go_roundw
              case rel => exact ⟨k + 1, by omega, by go_num, (by unfold Hid; rw [HI.out, Bool.true_and]), fit_round hb hb4⟩
              case measure => simp [intOf]; omega
        · have HB : Hid (instrB ⟨4, xn, xi, xs⟩ k n1 is.length = wayB ⟨4, xn, xi, xs⟩ k is.length) := by unfold Hid; simp [instrB]
          have rc : wr.cell? ⟨w1.heap.size, 4, none⟩ = some (.func (.func 109) #[] #[]) := by rw [cell_of_row wr _ 4 _ _ _ hrr]; rfl
          rw [HB.out] at HI
          clear HB hrr hxr
          go_wp2_with fail
          go_region_held (fun w' => w'.cell? ⟨wr.heap.size, 0, none⟩ = some (.int .i64 4) ∧ w'.cell? ⟨wr.heap.size, 1, none⟩ = some (.int .i64 xn) ∧ w'.cell? ⟨wr.heap.size, 2, none⟩ = some (.int .i64 xi) ∧ w'.cell? ⟨wr.heap.size, 3, none⟩ = some (.string xs) ∧ w'.cell? ⟨w.heap.size, 0, none⟩ = some (.slice a1 n1 c1) ∧ w'.cell? ⟨w.heap.size, 1, none⟩ = some (.slice (some ⟨g, o, none⟩) is.length c2) ∧ w'.cell? ⟨w.heap.size, 2, none⟩ = some (.slice a3 n3 c3) ∧ w'.cell? ⟨w1.heap.size, 4, none⟩ = some (.func (.func 109) #[] #[])) (first | exact s4 | go_keep) (first
            | (go_at_call 109; refine (isway_any ⟨4, xn, xi, xs⟩ _ _ _ _ _ _ _ _ _ _ _).mono ?_; rintro e w4 ⟨rfl, hb4⟩; have hB4 := fit_below hB hb4; have s4 := fit_keep hb4 hs0r hs1r 4 rfl rfl rfl rfl q0 q1 q2 rc))
          all_goals
            generalize wayB ⟨4, xn, xi, xs⟩ k is.length = b at HI
            clear s4 q0 q1 q2 rc d0 d1 d2 d3
            cases b with
            | false =>
              have HR : Hid (insB is 0 n1 is.length = false) := by unfold Hid; rw [HI.out]; rfl
              go_wp2
              go_ret
              exact ⟨by rw [HL.out, HR.out]; rfl, hB4⟩
            | true =>
              go_wp2
              go_roundw
              case rel => exact ⟨k + 1, by omega, by go_num, (by unfold Hid; rw [HI.out, Bool.true_and]), fit_round hb hb4⟩
              case measure => simp [intOf]; omega
        · have HB : Hid (instrB ⟨5, xn, xi, xs⟩ k n1 is.length = wayB ⟨5, xn, xi, xs⟩ k is.length) := by unfold Hid; simp [instrB]
          have rc : wr.cell? ⟨w1.heap.size, 5, none⟩ = some (.func (.func 109) #[] #[]) := by rw [cell_of_row wr _ 5 _ _ _ hrr]; rfl
          rw [HB.out] at HI
          clear HB hrr hxr
          go_wp2_with fail
          go_region_held (fun w' => w'.cell? ⟨wr.heap.size, 0, none⟩ = some (.int .i64 5) ∧ w'.cell? ⟨wr.heap.size, 1, none⟩ = some (.int .i64 xn) ∧ w'.cell? ⟨wr.heap.size, 2, none⟩ = some (.int .i64 xi) ∧ w'.cell? ⟨wr.heap.size, 3, none⟩ = some (.string xs) ∧ w'.cell? ⟨w.heap.size, 0, none⟩ = some (.slice a1 n1 c1) ∧ w'.cell? ⟨w.heap.size, 1, none⟩ = some (.slice (some ⟨g, o, none⟩) is.length c2) ∧ w'.cell? ⟨w.heap.size, 2, none⟩ = some (.slice a3 n3 c3) ∧ w'.cell? ⟨w1.heap.size, 5, none⟩ = some (.func (.func 109) #[] #[])) (first | exact s4 | go_keep) (first
            | (go_at_call 109; refine (isway_any ⟨5, xn, xi, xs⟩ _ _ _ _ _ _ _ _ _ _ _).mono ?_; rintro e w4 ⟨rfl, hb4⟩; have hB4 := fit_below hB hb4; have s4 := fit_keep hb4 hs0r hs1r 5 rfl rfl rfl rfl q0 q1 q2 rc))
          all_goals
            generalize wayB ⟨5, xn, xi, xs⟩ k is.length = b at HI
            clear s4 q0 q1 q2 rc d0 d1 d2 d3
            cases b with
            | false =>
              have HR : Hid (insB is 0 n1 is.length = false) := by unfold Hid; rw [HI.out]; rfl
              go_wp2
              go_ret
              exact ⟨by rw [HL.out, HR.out]; rfl, hB4⟩
            | true =>
              go_wp2
              go_roundw
              case rel => exact ⟨k + 1, by omega, by go_num, (by unfold Hid; rw [HI.out, Bool.true_and]), fit_round hb hb4⟩
              case measure => simp [intOf]; omega
        · have HB : Hid (instrB ⟨6, xn, xi, xs⟩ k n1 is.length = funB ⟨6, xn, xi, xs⟩ k is.length) := by unfold Hid; simp [instrB]
          have rc : wr.cell? ⟨w1.heap.size, 6, none⟩ = some (.func (.func 110) #[] #[]) := by rw [cell_of_row wr _ 6 _ _ _ hrr]; rfl
          rw [HB.out] at HI
          clear HB hrr hxr
          go_wp2_with fail
          go_region_held (fun w' => w'.cell? ⟨wr.heap.size, 0, none⟩ = some (.int .i64 6) ∧ w'.cell? ⟨wr.heap.size, 1, none⟩ = some (.int .i64 xn) ∧ w'.cell? ⟨wr.heap.size, 2, none⟩ = some (.int .i64 xi) ∧ w'.cell? ⟨wr.heap.size, 3, none⟩ = some (.string xs) ∧ w'.cell? ⟨w.heap.size, 0, none⟩ = some (.slice a1 n1 c1) ∧ w'.cell? ⟨w.heap.size, 1, none⟩ = some (.slice (some ⟨g, o, none⟩) is.length c2) ∧ w'.cell? ⟨w.heap.size, 2, none⟩ = some (.slice a3 n3 c3) ∧ w'.cell? ⟨w1.heap.size, 6, none⟩ = some (.func (.func 110) #[] #[])) (first | exact s4 | go_keep) (first
            | (go_at_call 110; refine (isfun_any ⟨6, xn, xi, xs⟩ _ _ _ _ _ _ _ _ _ _ _).mono ?_; rintro e w4 ⟨rfl, hb4⟩; have hB4 := fit_below hB hb4; have s4 := fit_keep hb4 hs0r hs1r 6 rfl rfl rfl rfl q0 q1 q2 rc))
          all_goals
            generalize funB ⟨6, xn, xi, xs⟩ k is.length = b at HI
            clear s4 q0 q1 q2 rc d0 d1 d2 d3
            cases b with
            | false =>
              have HR : Hid (insB is 0 n1 is.length = false) := by unfold Hid; rw [HI.out]; rfl
              go_wp2
              go_ret
              exact ⟨by rw [HL.out, HR.out]; rfl, hB4⟩
            | true =>
              go_wp2
              go_roundw
              case rel => exact ⟨k + 1, by omega, by go_num, (by unfold Hid; rw [HI.out, Bool.true_and]), fit_round hb hb4⟩
              case measure => simp [intOf]; omega
        · have HB : Hid (instrB ⟨7, xn, xi, xs⟩ k n1 is.length = callB ⟨7, xn, xi, xs⟩) := by unfold Hid; simp [instrB]
          have rc : wr.cell? ⟨w1.heap.size, 7, none⟩ = some (.func (.func 111) #[] #[]) := by rw [cell_of_row wr _ 7 _ _ _ hrr]; rfl
          rw [HB.out] at HI
          clear HB hrr hxr
          go_wp2_with fail
          go_region_held (fun w' => w'.cell? ⟨wr.heap.size, 0, none⟩ = some (.int .i64 7) ∧ w'.cell? ⟨wr.heap.size, 1, none⟩ = some (.int .i64 xn) ∧ w'.cell? ⟨wr.heap.size, 2, none⟩ = some (.int .i64 xi) ∧ w'.cell? ⟨wr.heap.size, 3, none⟩ = some (.string xs) ∧ w'.cell? ⟨w.heap.size, 0, none⟩ = some (.slice a1 n1 c1) ∧ w'.cell? ⟨w.heap.size, 1, none⟩ = some (.slice (some ⟨g, o, none⟩) is.length c2) ∧ w'.cell? ⟨w.heap.size, 2, none⟩ = some (.slice a3 n3 c3) ∧ w'.cell? ⟨w1.heap.size, 7, none⟩ = some (.func (.func 111) #[] #[])) (first | exact s4 | go_keep) (first
            | (go_at_call 111; refine (iscall_any ⟨7, xn, xi, xs⟩ _ _ _ _ _ _ _ _ _ _ _).mono ?_; rintro e w4 ⟨rfl, hb4⟩; have hB4 := fit_below hB hb4; have s4 := fit_keep hb4 hs0r hs1r 7 rfl rfl rfl rfl q0 q1 q2 rc))
          all_goals
            generalize callB ⟨7, xn, xi, xs⟩ = b at HI
            clear s4 q0 q1 q2 rc d0 d1 d2 d3
            cases b with
            | false =>
              have HR : Hid (insB is 0 n1 is.length = false) := by unfold Hid; rw [HI.out]; rfl
              go_wp2
              go_ret
              exact ⟨by rw [HL.out, HR.out]; rfl, hB4⟩
            | true =>
              go_wp2
              go_roundw
              case rel => exact ⟨k + 1, by omega, by go_num, (by unfold Hid; rw [HI.out, Bool.true_and]), fit_round hb hb4⟩
              case measure => simp [intOf]; omega
        · have HB : Hid (instrB ⟨8, xn, xi, xs⟩ k n1 is.length = bareB ⟨8, xn, xi, xs⟩) := by unfold Hid; simp [instrB]
          have rc : wr.cell? ⟨w1.heap.size, 8, none⟩ = some (.func (.func 112) #[] #[]) := by rw [cell_of_row wr _ 8 _ _ _ hrr]; rfl
          rw [HB.out] at HI
          clear HB hrr hxr
          go_wp2_with fail
          go_region_held (fun w' => w'.cell? ⟨wr.heap.size, 0, none⟩ = some (.int .i64 8) ∧ w'.cell? ⟨wr.heap.size, 1, none⟩ = some (.int .i64 xn) ∧ w'.cell? ⟨wr.heap.size, 2, none⟩ = some (.int .i64 xi) ∧ w'.cell? ⟨wr.heap.size, 3, none⟩ = some (.string xs) ∧ w'.cell? ⟨w.heap.size, 0, none⟩ = some (.slice a1 n1 c1) ∧ w'.cell? ⟨w.heap.size, 1, none⟩ = some (.slice (some ⟨g, o, none⟩) is.length c2) ∧ w'.cell? ⟨w.heap.size, 2, none⟩ = some (.slice a3 n3 c3) ∧ w'.cell? ⟨w1.heap.size, 8, none⟩ = some (.func (.func 112) #[] #[])) (first | exact s4 | go_keep) (first
            | (go_at_call 112; refine (isbare_any ⟨8, xn, xi, xs⟩ _ _ _ _ _ _ _ _ _ _ _).mono ?_; rintro e w4 ⟨rfl, hb4⟩; have hB4 := fit_below hB hb4; have s4 := fit_keep hb4 hs0r hs1r 8 rfl rfl rfl rfl q0 q1 q2 rc))
          all_goals
            generalize bareB ⟨8, xn, xi, xs⟩ = b at HI
            clear s4 q0 q1 q2 rc d0 d1 d2 d3
            cases b with
            | false =>
              have HR : Hid (insB is 0 n1 is.length = false) := by unfold Hid; rw [HI.out]; rfl
              go_wp2
              go_ret
              exact ⟨by rw [HL.out, HR.out]; rfl, hB4⟩
            | true =>
              go_wp2
              go_roundw
              case rel => exact ⟨k + 1, by omega, by go_num, (by unfold Hid; rw [HI.out, Bool.true_and]), fit_round hb hb4⟩
              case measure => simp [intOf]; omega
        · have HB : Hid (instrB ⟨9, xn, xi, xs⟩ k n1 is.length = bareB ⟨9, xn, xi, xs⟩) := by unfold Hid; simp [instrB]
          have rc : wr.cell? ⟨w1.heap.size, 9, none⟩ = some (.func (.func 112) #[] #[]) := by rw [cell_of_row wr _ 9 _ _ _ hrr]; rfl
          rw [HB.out] at HI
          clear HB hrr hxr
          go_wp2_with fail
          go_region_held (fun w' => w'.cell? ⟨wr.heap.size, 0, none⟩ = some (.int .i64 9) ∧ w'.cell? ⟨wr.heap.size, 1, none⟩ = some (.int .i64 xn) ∧ w'.cell? ⟨wr.heap.size, 2, none⟩ = some (.int .i64 xi) ∧ w'.cell? ⟨wr.heap.size, 3, none⟩ = some (.string xs) ∧ w'.cell? ⟨w.heap.size, 0, none⟩ = some (.slice a1 n1 c1) ∧ w'.cell? ⟨w.heap.size, 1, none⟩ = some (.slice (some ⟨g, o, none⟩) is.length c2) ∧ w'.cell? ⟨w.heap.size, 2, none⟩ = some (.slice a3 n3 c3) ∧ w'.cell? ⟨w1.heap.size, 9, none⟩ = some (.func (.func 112) #[] #[])) (first | exact s4 | go_keep) (first
            | (go_at_call 112; refine (isbare_any ⟨9, xn, xi, xs⟩ _ _ _ _ _ _ _ _ _ _ _).mono ?_; rintro e w4 ⟨rfl, hb4⟩; have hB4 := fit_below hB hb4; have s4 := fit_keep hb4 hs0r hs1r 9 rfl rfl rfl rfl q0 q1 q2 rc))
          all_goals
            generalize bareB ⟨9, xn, xi, xs⟩ = b at HI
            clear s4 q0 q1 q2 rc d0 d1 d2 d3
            cases b with
            | false =>
              have HR : Hid (insB is 0 n1 is.length = false) := by unfold Hid; rw [HI.out]; rfl
              go_wp2
              go_ret
              exact ⟨by rw [HL.out, HR.out]; rfl, hB4⟩
            | true =>
              go_wp2
              go_roundw
              case rel => exact ⟨k + 1, by omega, by go_num, (by unfold Hid; rw [HI.out, Bool.true_and]), fit_round hb hb4⟩
              case measure => simp [intOf]; omega
      · have HR : Hid (insB is 0 n1 is.length = true) := by unfold Hid; rw [HK.out, List.drop_eq_nil_of_le (by omega)]; rfl
        clear HK hcell
        go_wp2
        go_ret
        exact ⟨by rw [HL.out, HR.out]; rfl, hB⟩
  · have HL : Hid (decide (is.length ≤ 400) = false) := by unfold Hid; simp [hl]
    go_enter Tryz.func53, Tryz.ntmps53
    go_wp2
    go_ret
    exact ⟨by rw [HL.out]; rfl, (Below.refl _ _).alloc (Nat.le_refl _) _⟩
end Go.Proofs.YtkchakcebdenjaaGreat
