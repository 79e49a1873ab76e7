/-
  Texts that stood by themselves, laid into one.
-/
import Derived.Test.YtjnhocefnfmhmaaGreatDoorNumberM
import Derived.Test.YtjnhocefnfmhmaaGreatDoorStepAppM
import Derived.Test.YtjnhocefnfmhmaaGreatDoorWithM
import Derived.Test.YtjnhocefnfmhmaaGreatDoorPrRegM
import Derived.Test.YtjnhocefnfmhmaaGreatDoorSGTextM
import Derived.ProofKit
import Derived.OpenShut
import Derived.ShutString
import Derived.ChangeOld
import Derived.Below
import Derived.Deep.Slices
import Derived.ChangeSame
import Derived.Test.YtjnhocefnfmhmaaGreatDoorInM
import Derived.Test.YtjnhocefnfmhmaaGreatDoorLPoolOkM
/-
  Rows of texts as bytes: impl.putTexts, spec.l12Texts; what ProcPack answers. No condition but bounds.
-/
namespace Go.Proofs.YtjnhocefnfmhmaaGreatDoor
open Go.RowKit

/-- 'append' of what was just put, onto a row that was made since B. -/
theorem wpList_put3 {ops : Array Oper} {rest : List Oper} {o : Oper} {a : Act} {w : World} {Q : Exit → Act → World → Prop} (hg : o.guard = none) (s y : Operand) (hop : o.op = Op.call { callee := Callee.builtin Builtin.append, args := #[s, y], argTypes := #[66, 66] })
    {B : Nat} {vo : Value} {bs : List Int} (hs : a.eval s = vo) (O : w.ownsRow B 5 1 vo bs.length (bv bs)) (hB : B ≤ w.heap.size) {ao : Option Addr} {c base : Nat} {zs : List Int} (hy : a.eval y = .slice ao zs.length c) (h2 : w.ownsRow base 5 1 (.slice ao zs.length c) zs.length (bv zs)) (hb : bs.length + zs.length ≤ 200000000)
    (hK : ∀ v' w', OwnB w' B v' (bs ++ zs) → Below B w w' → Stays w w' → wpList Tryz.prog ops Q rest (a.put o.dst v') w') : wpList Tryz.prog ops Q (o :: rest) a w := by
  obtain ⟨i0, hi, hz0, hz1, hz2⟩ := info_parts Tryz.infoU8
  refine wpList_append_own_any w hg s y 66 hop B 5 i0 (.int .u8 0) 1 1 Tryz.underlying66 hi hz0 hz1 hz2 rfl (by decide) vo bs.length (bv bs) hs O ao zs.length c (bv zs) hy (by rw [bv_length]; simp) (own_none8 h2) (own_news8 h2 (bv_length _)) (ints_oneCell .u8 _) (by unfold maxLen; omega) (by omega) hB ?_
  intro v' w' h3 h4
  exact hK v' w' (by unfold OwnB; rw [List.length_append, bv_append]; exact h3) ((Below.refl _ _).grown h4 hB (fun k hk => (O.lt k hk).1)) (Stays.grown O h4)

set_option maxRecDepth 100000 in
set_option maxHeartbeats 1600000 in
theorem putnums_big (vb : Value) (bs : List Int) (B g : Nat) (zs : List Int) (w : World) (own : w.ownsRow B 5 1 vb bs.length (bv bs)) (hB : B ≤ w.heap.size) (hg : w.heap[g]? = some (.cells (iv zs).toArray 3 (0, 0))) (hz : ∀ z ∈ zs, z ≤ 9223372036854775807) (hl : zs.length ≤ 100) (hb : bs.length ≤ 100000000) :
    Calls Tryz.prog 72 #[vb, .slice (some ⟨g, 0, none⟩) zs.length zs.length] w fun e w' => ∃ v', e = .returned v' ∧ w'.ownsRow B 5 1 v' (bs ++ zs.flatMap encI).length (bv (bs ++ zs.flatMap encI)) ∧ Below B w w' ∧ Stays w w' := by
  go_enter Tryz.func72, Tryz.ntmps72
  go_wp2_with fail
  go_loopw [0, 9] (fun vo i wr => ∃ k : Nat, k ≤ zs.length ∧ i = .int .i64 k ∧ wr.ownsRow B 5 1 vo (bs ++ (zs.take k).flatMap encI).length (bv (bs ++ (zs.take k).flatMap encI)) ∧ Below B w wr ∧ Stays w wr) (fun _ i _ => zs.length - (intOf i).toNat)
  case atStart => exact ⟨0, by omega, rfl, by simpa using own, Below.refl _ _, Stays.refl _⟩
  case round =>
    obtain ⟨k, hk, rfl, ho, hbel, hst⟩ := hrel
    by_cases hlt : k < zs.length
    · have hgr := hst g _ _ (by decide) hg
      have hgl : g < wr.heap.size := (Array.getElem?_eq_some_iff.1 hgr).1
      have c0 : wr.cell? ⟨g, k, none⟩ = some (.int .i64 (zs.getD k 0)) := by
        rw [cell_of_row wr _ k _ _ _ hgr]
        simpa using iv_get zs k hlt
      have hzk : zs.getD k 0 ≤ 9223372036854775807 := hz _ (by simp [List.getD_eq_getElem?_getD, List.getElem?_eq_getElem hlt])
      have HT : Hid ((zs.take (k + 1)).flatMap encI = (zs.take k).flatMap encI ++ encI (zs.getD k 0)) := nums_take zs k hlt
      have hll : (bs ++ (zs.take k).flatMap encI).length ≤ 100100000 := by
        have := nums_len (zs.take k)
        rw [List.length_append]
        rw [List.length_take] at this
        omega
      obtain ⟨z, hzz⟩ : ∃ z, Hid (zs.getD k 0 = z) := ⟨_, rfl⟩
      rw [hzz.out] at c0 hzk HT
      have hle := encI_length z
      obtain ⟨cs, hcs⟩ : ∃ cs, Hid (bs ++ (zs.take k).flatMap encI = cs) := ⟨_, rfl⟩
      rw [hcs.out] at ho hll
      go_wp2_with fail
      refine (iput_any z _ hzk).mono ?_
      rintro e wc ⟨vc, rfl, oc, bc⟩
      obtain ⟨ac, cc, rfl⟩ := own_form oc
      clear c0
      have ho2 := own_below ho bc
      go_wp2_with (at_builtin; refine wpList_put3 rfl _ _ rfl rfl ho2 (by have := hbel.size; have := bc.size; omega) rfl oc (by omega) ?_)
      intro vd wd od bd sd
      have hB2 := (hbel.trans (bc.mono (Nat.le_trans hB hbel.size))).trans bd
      have hS2 := (hst.trans (Stays.below bc)).trans sd
      have HE : Hid (cs ++ encI z = bs ++ (zs.take (k + 1)).flatMap encI) := by unfold Hid; rw [HT.out, ← List.append_assoc, hcs.out]
      clear oc bc ho2 ho bd sd hbel hst
      go_wp2
      go_roundw
      case rel => exact ⟨k + 1, by omega, by go_num, by rw [← HE.out]; exact od, hB2, hS2⟩
      case measure => simp [intOf]; omega
    · have hke : k = zs.length := by omega
      subst hke
      rw [List.take_length] at ho
      go_wp2
      go_ret
      exact ⟨u0, rfl, ho, hbel, hst⟩

/-- The bytes of a row of texts. -/
def ptsL (xs : List ByteArray) : List Int := encI xs.length ++ xs.flatMap pt
def ppL (i : Int) (s : ByteArray) (bx ox : List ByteArray) : List Int := ((encI i ++ pt s) ++ ptsL bx) ++ ptsL ox
def ppR (ns : List Nd) (is : List In) (ds : List Df) (i : Int) (xs : List Nd) (m : Mc) (bx ox : List ByteArray) : ByteArray := if procB ns is ds i xs m bx ox then strOfNums (ppL i (mpR ns is ds xs m) bx ox) else ByteArray.empty
theorem pts_len (xs : List ByteArray) (h : ∀ x ∈ xs, x.size ≤ 1048576) : (xs.flatMap pt).length ≤ 1048585 * xs.length := by
  induction xs with
  | nil => simp
  | cons x xs ih =>
    have h1 := h x List.mem_cons_self
    have h2 := ih fun y hy => h y (List.mem_cons_of_mem _ hy)
    have h3 := encI_length x.size
    rw [List.flatMap_cons, List.length_append, List.length_cons, pt_length]
    omega
theorem pts_take (xs : List ByteArray) (k : Nat) (x : ByteArray) (h : xs[k]? = some x) : (xs.take (k + 1)).flatMap pt = (xs.take k).flatMap pt ++ pt x := by
  rw [List.take_add_one, h, Option.toList_some, List.flatMap_append]
  simp
theorem ptsL_len (xs : List ByteArray) (h : ∀ x ∈ xs, x.size ≤ 1048576) : (ptsL xs).length ≤ 1048585 * xs.length + 9 := by
  have h1 := pts_len xs h
  have h2 := encI_length xs.length
  unfold ptsL
  rw [List.length_append]
  omega
theorem mpR_size (ns : List Nd) (is : List In) (ds : List Df) (xs : List Nd) (m : Mc) : (mpR ns is ds xs m).size ≤ 100000 := by
  unfold mpR
  split
  · rename_i h
    obtain ⟨_, hok, hlq⟩ := td_small h
    rw [strN_size]
    have h1 := mpN_len (tdM xs m)
    have h2 := wires_len (tdL xs m) hok
    have h3 := encI_length (tdL xs m).length
    unfold mpL wireL
    rw [List.length_append, List.length_append]
    omega
  · show ByteArray.empty.size ≤ 100000
    decide
theorem proc_parts {ns : List Nd} {is : List In} {ds : List Df} {i : Int} {xs : List Nd} {m : Mc} {bx ox : List ByteArray} (h : procB ns is ds i xs m bx ox = true) : (1 ≤ i ∧ i ≤ 1000000000) ∧ bx.length ≤ 20 ∧ ox.length ≤ 40 ∧ machB ns is ds xs m = true := by
  simp only [procB, Bool.and_eq_true, pidB, boxB, outB, decide_eq_true_eq] at h
  exact ⟨h.1, h.2.1.1, h.2.2.1.1, h.2.2.2⟩

set_option maxRecDepth 100000 in
set_option maxHeartbeats 1600000 in
theorem puttexts_any (W0 w : World) (vb vn : Value) (bs : List Int) (xs : List ByteArray) (own : w.ownsRow W0.heap.size 5 1 vb bs.length (bv bs)) (bel : Below W0.heap.size W0 w) (R : StRow W0 vn xs) (hz : ∀ x ∈ xs, x.size ≤ 1048576) (hl : xs.length ≤ 40) (hb : bs.length ≤ 50000000) :
    Calls Tryz.prog 37 #[vb, vn] w fun e w' => ∃ v', e = .returned v' ∧ w'.ownsRow W0.heap.size 5 1 v' (bs ++ ptsL xs).length (bv (bs ++ ptsL xs)) ∧ Below W0.heap.size W0 w' := by
  obtain ⟨ao, cap, rfl, hcap, hm, hzm, hcell⟩ := R
  have hdl : Below w.heap.size w (w.alloc (Obj.cells (iv [(xs.length : Int)]).toArray 3)) := (Below.refl _ _).alloc (Nat.le_refl _) _
  have hBw := bel.size
  go_enter Tryz.func37, Tryz.ntmps37
  go_wp2_with fail
  refine (putnums_big vb bs W0.heap.size w.heap.size [(xs.length : Int)] _ (own_below own hdl) (Nat.le_trans hBw hdl.size) (heap_alloc_new _ _) (by simp; omega) (by simp) (by omega)).mono ?_
  rintro e w1 ⟨v1, rfl, own1, bel1, _⟩
  have belA := (bel.trans (hdl.mono hBw)).trans bel1
  have own1' : OwnB w1 W0.heap.size v1 (bs ++ encI xs.length) := by unfold OwnB; simpa using own1
  have hle := encI_length xs.length
  clear own1 bel1 hdl own bel hBw
  go_wp2_with fail
  go_loopw [0, 14] (fun vo i wr => ∃ k : Nat, k ≤ xs.length ∧ i = .int .i64 k ∧ OwnB wr W0.heap.size vo (bs ++ encI xs.length ++ (xs.take k).flatMap pt) ∧ Below W0.heap.size W0 wr) (fun _ i _ => xs.length - (intOf i).toNat)
  case atStart => exact ⟨0, by omega, rfl, by simpa using own1', belA⟩
  case round =>
    clear own1' belA
    obtain ⟨k, hk, rfl, ho, hbel⟩ := hrel
    by_cases hlt : k < xs.length
    · obtain ⟨g, o, rfl, hg, hcell⟩ := hcell (by intro e; subst e; simp at hlt)
      obtain ⟨x, hx⟩ : ∃ x, xs[k]? = some x := ⟨xs[k], by simp [hlt]⟩
      have c0 := (hbel.cell (p := ⟨g, o + k, none⟩) hg).trans (hcell k x hx)
      have hxs := hz x (List.mem_of_getElem? hx)
      have HT : Hid ((xs.take (k + 1)).flatMap pt = (xs.take k).flatMap pt ++ pt x) := pts_take xs k x hx
      have hll : (bs ++ encI xs.length ++ (xs.take k).flatMap pt).length ≤ 100000000 := by
        have := pts_len (xs.take k) (fun y hy => hz y (List.mem_of_mem_take hy))
        rw [List.length_append, List.length_append]
        rw [List.length_take] at this
        omega
      have hpl : (pt x).length ≤ 1048585 := by have := encI_length x.size; rw [pt_length]; omega
      obtain ⟨cs, hcs⟩ : ∃ cs, Hid (bs ++ encI xs.length ++ (xs.take k).flatMap pt = cs) := ⟨_, rfl⟩
      rw [hcs.out] at ho hll
      clear hcell hx
      go_wp2_with fail
      refine (iptext_any x _ (by omega)).mono ?_
      rintro e wc ⟨vc, rfl, oc, bc⟩
      obtain ⟨ac, cc, rfl⟩ := own_form oc
      clear c0
      have ho2 := own_below ho bc
      go_wp2_with (at_builtin; refine wpList_put3 rfl _ _ rfl rfl ho2 (by have := hbel.size; have := bc.size; omega) rfl oc (by omega) ?_)
      intro vd wd od bd _
      have hB2 := (hbel.trans (bc.mono hbel.size)).trans bd
      have HE : Hid (cs ++ pt x = bs ++ encI xs.length ++ (xs.take (k + 1)).flatMap pt) := by unfold Hid; rw [HT.out, ← hcs.out, List.append_assoc]
      clear oc bc ho2 ho bd hbel
      go_wp2
      go_roundw
      case rel => exact ⟨k + 1, by omega, by go_num, by rw [← HE.out]; exact od, hB2⟩
      case measure => simp [intOf]; omega
    · have hke : k = xs.length := by omega
      subst hke
      rw [List.take_length] at ho
      go_wp2
      go_ret
      exact ⟨u0, rfl, by unfold OwnB at ho; unfold ptsL; rw [← List.append_assoc]; exact ho, hbel⟩

set_option maxRecDepth 100000 in
set_option maxHeartbeats 1600000 in
theorem s12texts_any (vn : Value) (xs : List ByteArray) (w : World) (R : StRow w vn xs) (hz : ∀ x ∈ xs, x.size ≤ 1048576) (hl : xs.length ≤ 40) :
    Calls Tryz.prog 27 #[vn] w fun e w' => ∃ v', e = .returned v' ∧ w'.ownsRow w.heap.size 5 1 v' (ptsL xs).length (bv (ptsL xs)) ∧ Below w.heap.size w w' := by
  obtain ⟨ao, cap, rfl, hcap, hm, hzm, hcell⟩ := R
  go_enter Tryz.func27, Tryz.ntmps27
  go_wp2_with fail
  refine (sput_any (xs.length : Int) _ (by omega)).mono ?_
  rintro e w1 ⟨v1, rfl, own1, belA⟩
  have own1' : OwnB w1 w.heap.size v1 (encI xs.length) := own1
  have hle := encI_length xs.length
  clear own1
  go_wp2_with fail
  go_loopw [3, 4] (fun vo i wr => ∃ k : Nat, k ≤ xs.length ∧ i = .int .i64 k ∧ OwnB wr w.heap.size vo (encI xs.length ++ (xs.take k).flatMap pt) ∧ Below w.heap.size w wr) (fun _ i _ => xs.length - (intOf i).toNat)
  case atStart => exact ⟨0, by omega, rfl, by simpa using own1', belA⟩
  case round =>
    clear own1' belA
    obtain ⟨k, hk, rfl, ho, hbel⟩ := hrel
    by_cases hlt : k < xs.length
    · obtain ⟨g, o, rfl, hg, hcell⟩ := hcell (by intro e; subst e; simp at hlt)
      obtain ⟨x, hx⟩ : ∃ x, xs[k]? = some x := ⟨xs[k], by simp [hlt]⟩
      have c0 := (hbel.cell (p := ⟨g, o + k, none⟩) hg).trans (hcell k x hx)
      have hxs := hz x (List.mem_of_getElem? hx)
      have HT : Hid ((xs.take (k + 1)).flatMap pt = (xs.take k).flatMap pt ++ pt x) := pts_take xs k x hx
      have hll : (encI xs.length ++ (xs.take k).flatMap pt).length ≤ 100000000 := by
        have := pts_len (xs.take k) (fun y hy => hz y (List.mem_of_mem_take hy))
        rw [List.length_append]
        rw [List.length_take] at this
        omega
      have hpl : (pt x).length ≤ 1048585 := by have := encI_length x.size; rw [pt_length]; omega
      obtain ⟨cs, hcs⟩ : ∃ cs, Hid (encI xs.length ++ (xs.take k).flatMap pt = cs) := ⟨_, rfl⟩
      rw [hcs.out] at ho hll
      clear hcell hx
      go_wp2_with fail
      refine (sptext_any x _ (by omega)).mono ?_
      rintro e wc ⟨vc, rfl, oc, bc⟩
      obtain ⟨ac, cc, rfl⟩ := own_form oc
      clear c0
      have ho2 := own_below ho bc
      go_wp2_with (at_builtin; refine wpList_put3 rfl _ _ rfl rfl ho2 (by have := hbel.size; have := bc.size; omega) rfl oc (by omega) ?_)
      intro vd wd od bd _
      have hB2 := (hbel.trans (bc.mono hbel.size)).trans bd
      have HE : Hid (cs ++ pt x = encI xs.length ++ (xs.take (k + 1)).flatMap pt) := by unfold Hid; rw [HT.out, ← hcs.out, List.append_assoc]
      clear oc bc ho2 ho bd hbel
      go_wp2
      go_roundw
      case rel => exact ⟨k + 1, by omega, by go_num, by rw [← HE.out]; exact od, hB2⟩
      case measure => simp [intOf]; omega
    · have hke : k = xs.length := by omega
      subst hke
      rw [List.take_length] at ho
      go_wp2
      go_ret
      exact ⟨u3, rfl, ho, hbel⟩
end Go.Proofs.YtjnhocefnfmhmaaGreatDoor

/-
  What a pool and a node that came in read as. Nothing of the program; no condition.
-/
namespace Go.Proofs.YtjnhocefnfmhmaaGreatDoor
open Go.ChangeShapes Go.WideShapes Go.ChangeAt Go.RowKit Go.Deep

theorem ownKnob_none2 : ownKnob Tryz.prog.godebug = none := by kernel_rfl
theorem laidOut_true2 : laidOutB Tryz.prog = true := by kernel_rfl

section
variable {H : Type} {enc : TypeId × Value → H} {w : World} {base : Nat} {spare : Nat → Bool} {held : Bool}

set_option maxRecDepth 100000 in
/-- A node that came in: its five cells. -/
theorem node_cells {fuel : Nat} {cs : List Value} {x : DataW H × List MemPlace} (h : DataW.trod enc Tryz.prog w base spare held fuel 145 cs = some x) :
    ∃ nd : Nd, cs = nd.cs ∧ nd.s.size ≤ maxLen := by
  obtain ⟨xs, n, _, _, hl, hlen, hf⟩ := DataW.trod_struct Tryz.underlying145 h
  rw [show Tryz.prog.cellsOf 145 = 5 by kernel_rfl] at hl
  match cs, hl with
  | [v0, v1, v2, v3, v4], _ =>
    have g0 := hf 0 _ rfl
    have g1 := hf 1 _ rfl
    have g2 := hf 2 _ rfl
    have g3 := hf 3 _ rfl
    have g4 := hf 4 _ rfl
    have i1 : Tryz.prog.cellsOf 3 = 1 := by kernel_rfl
    have i2 : Tryz.prog.cellsOf 9 = 1 := by kernel_rfl
    match xs, hlen with
    | [y0, y1, y2, y3, y4], _ =>
      simp [i1, i2] at g0 g1 g2 g3 g4
      obtain ⟨k, e0, _⟩ := DataW.trod_int Tryz.underlying3 g0
      obtain ⟨m, e1, _⟩ := DataW.trod_int Tryz.underlying3 g1
      obtain ⟨s, e2, _, hs⟩ := DataW.trod_string Tryz.underlying9 g2
      obtain ⟨a, e3, _⟩ := DataW.trod_int Tryz.underlying3 g3
      obtain ⟨b, e4, _⟩ := DataW.trod_int Tryz.underlying3 g4
      simp only [List.cons.injEq, and_true] at e0 e1 e2 e3 e4
      subst e0 e1 e2 e3 e4
      exact ⟨⟨k, m, s, a, b⟩, rfl, hs⟩

set_option maxRecDepth 100000 in
/-- A pool that came in: a slice that reads as nodes. -/
theorem open_pool {v : Value} {d : DataW H} {p : List MemPlace} (hv : Value.okWide Tryz.prog w .any base 24 v) (h : DataW.Trod enc Tryz.prog w 0 (fun _ => true) true 24 v d p) :
    ∃ v' xs, v = .agg #[v'] ∧ NRow w v' xs := by
  obtain ⟨cs, rfl, hsz⟩ := okWide_struct Tryz.underlying24 hv
  rw [show Tryz.prog.cellsOf 24 = 1 by kernel_rfl] at hsz
  obtain ⟨fuel, hf⟩ := h
  obtain ⟨y0, n, _, _, h0⟩ := trod_struct1 Tryz.underlying24 hf
  obtain ⟨v', rfl⟩ : ∃ v', cs = #[v'] := by
    obtain ⟨l⟩ := cs
    match l, hsz with
    | [v'], _ => exact ⟨v', rfl⟩
  · have i1 : Tryz.prog.cellsOf 22 = 1 := by kernel_rfl
    have i5 : Tryz.prog.cellsOf 145 = 5 := by kernel_rfl
    simp [Value.cells, i1] at h0
    rcases open_slice Tryz.underlying22 h0 with ⟨hcs, _⟩ | ⟨a, len, cap, m, n, D, Pl, hcs, _, hl, hm, hmm, _, hx⟩
    · simp at hcs
      subst hcs
      exact ⟨_, [], rfl, none, 0, rfl, by simp, by simp, by simp, fun h => absurd rfl h⟩
    · simp at hcs
      subst hcs
      simp at hmm
      subst hmm
      rw [i5] at hx
      have each : ∀ i, i < m → ∃ nd : Nd, nd.s.size ≤ maxLen ∧ ∀ j, j < 5 → w.cell? (a.add (i * 5 + j)) = nd.cs[j]? := by
        intro i hi
        obtain ⟨cs', h1, h2⟩ := hx i hi
        obtain ⟨nd, rfl, hs⟩ := node_cells h2
        obtain ⟨_, hlen, hcell⟩ := World.cells?_some h1
        refine ⟨nd, hs, fun j hj => ?_⟩
        have := hcell j (by omega)
        rw [add_add] at this
        rw [this]
      haveI : Inhabited Nd := ⟨⟨0, 0, ByteArray.empty, 0, 0⟩⟩
      obtain ⟨q, hq⟩ := choose_lt each
      refine ⟨_, (List.range len).map q, rfl, some a, m, ?_, ?_, ?_, ?_, ?_⟩
      · simp
      · exact ⟨by simpa using hl, fun h => by cases h⟩
      · unfold maxLen at hm; simp; omega
      · intro x hx'
        simp at hx'
        obtain ⟨i, hi, rfl⟩ := hx'
        exact (hq i (by omega)).1
      · intro hne
        have hpos : 0 < len := by
          rcases Nat.eq_zero_or_pos len with h0 | h0
          · subst h0; simp at hne
          · exact h0
        obtain ⟨b, off, spot⟩ := a
        have hc := (hq 0 (by omega)).2 0 (by omega)
        simp only [Nd.cs, List.getElem?_cons_zero] at hc
        have hspot : spot = none := by simpa [Addr.add] using World.cell?_spot hc
        subst hspot
        have hb := World.block_lt_of_cell? _ _ hc
        refine ⟨b, off, rfl, by simpa [Addr.add_lit] using hb, fun i x hi => ?_⟩
        have hil : i < len := by
          have := (List.getElem?_eq_some_iff.1 hi).1
          simpa using this
        have hxe : x = q i := by
          rw [List.getElem?_map, List.getElem?_range hil] at hi
          simpa using hi.symm
        subst hxe
        have e : ∀ j, j < 5 → w.cell? ⟨b, off + i * 5 + j, none⟩ = (q i).cs[j]? := fun j hj => by
          have := (hq i (by omega)).2 j hj
          rw [Addr.add_lit] at this
          rw [← this, Nat.add_assoc]
        exact ⟨e 0 (by omega), e 1 (by omega), e 2 (by omega), e 3 (by omega), e 4 (by omega)⟩

end
end Go.Proofs.YtjnhocefnfmhmaaGreatDoor

/-
  What a slice of nodes that came in reads as: a list. Nothing of the program; no condition.
-/
namespace Go.Proofs.YtjnhocefnfmhmaaGreatDoor
open Go.ChangeShapes Go.WideShapes Go.ChangeAt Go.RowKit Go.Deep

section
variable {H : Type} {enc : TypeId × Value → H} {w : World} {base : Nat} {spare : Nat → Bool} {held : Bool}

set_option maxRecDepth 100000 in
/-- A slice of nodes that came in reads as a list. -/
theorem open_nds {fuel : Nat} {v' : Value} {y0 : DataW H × List MemPlace} (h0 : DataW.trod enc Tryz.prog w base spare held fuel 22 [v'] = some y0) :
    ∃ xs, NRow w v' xs := by
  have i5 : Tryz.prog.cellsOf 145 = 5 := by kernel_rfl
  rcases open_slice Tryz.underlying22 h0 with ⟨hcs, _⟩ | ⟨a, len, cap, m, n, D, Pl, hcs, _, hl, hm, hmm, _, hx⟩
  · simp at hcs
    subst hcs
    exact ⟨[], none, 0, rfl, by simp, by simp, by simp, fun h => absurd rfl h⟩
  · simp at hcs
    subst hcs
    have hlm : len ≤ m := by rw [hmm]; split <;> omega
    rw [i5] at hx
    have each : ∀ i, i < m → ∃ nd : Nd, nd.s.size ≤ maxLen ∧ ∀ j, j < 5 → w.cell? (a.add (i * 5 + j)) = nd.cs[j]? := by
      intro i hi
      obtain ⟨cs', h1, h2⟩ := hx i hi
      obtain ⟨nd, rfl, hs⟩ := node_cells h2
      obtain ⟨_, hlen, hcell⟩ := World.cells?_some h1
      refine ⟨nd, hs, fun j hj => ?_⟩
      have := hcell j (by omega)
      rw [add_add] at this
      rw [this]
    haveI : Inhabited Nd := ⟨⟨0, 0, ByteArray.empty, 0, 0⟩⟩
    obtain ⟨q, hq⟩ := choose_lt each
    refine ⟨(List.range len).map q, some a, cap, ?_, ?_, ?_, ?_, ?_⟩
    · simp
    · exact ⟨by simp; omega, fun h => by cases h⟩
    · unfold maxLen at hm; simp; omega
    · intro x hx'
      simp at hx'
      obtain ⟨i, hi, rfl⟩ := hx'
      exact (hq i (by omega)).1
    · intro hne
      have hpos : 0 < len := by
        rcases Nat.eq_zero_or_pos len with h0 | h0
        · subst h0; simp at hne
        · exact h0
      obtain ⟨b, off, spot⟩ := a
      have hc := (hq 0 (by omega)).2 0 (by omega)
      simp only [Nd.cs, List.getElem?_cons_zero] at hc
      have hspot : spot = none := by simpa [Addr.add] using World.cell?_spot hc
      subst hspot
      have hb := World.block_lt_of_cell? _ _ hc
      refine ⟨b, off, rfl, by simpa [Addr.add_lit] using hb, fun i x hi => ?_⟩
      have hil : i < len := by
        have := (List.getElem?_eq_some_iff.1 hi).1
        simpa using this
      have hxe : x = q i := by
        rw [List.getElem?_map, List.getElem?_range hil] at hi
        simpa using hi.symm
      subst hxe
      have e : ∀ j, j < 5 → w.cell? ⟨b, off + i * 5 + j, none⟩ = (q i).cs[j]? := fun j hj => by
        have := (hq i (by omega)).2 j hj
        rw [Addr.add_lit] at this
        rw [← this, Nat.add_assoc]
      exact ⟨e 0 (by omega), e 1 (by omega), e 2 (by omega), e 3 (by omega), e 4 (by omega)⟩
end
end Go.Proofs.YtjnhocefnfmhmaaGreatDoor

/-
  What a slice of these records that came in reads as. Nothing of the program; no condition.
-/
namespace Go.Proofs.YtjnhocefnfmhmaaGreatDoor
open Go.ChangeShapes Go.WideShapes Go.ChangeAt Go.RowKit Go.Deep

section
variable {H : Type} {enc : TypeId × Value → H} {w : World} {base : Nat} {spare : Nat → Bool} {held : Bool}

set_option maxRecDepth 100000 in
theorem in_cells {fuel : Nat} {cs : List Value} {x : DataW H × List MemPlace} (h : DataW.trod enc Tryz.prog w base spare held fuel 101 cs = some x) :
    ∃ nd : In, cs = nd.cs ∧ nd.s.size ≤ maxLen := by
  obtain ⟨xs, n, _, _, hl, hlen, hf⟩ := DataW.trod_struct Tryz.underlying101 h
  rw [show Tryz.prog.cellsOf 101 = 4 by kernel_rfl] at hl
  match cs, hl with
  | [v0, v1, v2, v3], _ =>
    have g0 := hf 0 _ rfl
    have g1 := hf 1 _ rfl
    have g2 := hf 2 _ rfl
    have g3 := hf 3 _ rfl
    have i1 : Tryz.prog.cellsOf 3 = 1 := by kernel_rfl
    have i2 : Tryz.prog.cellsOf 9 = 1 := by kernel_rfl
    match xs, hlen with
    | [y0, y1, y2, y3], _ =>
      simp [i1, i2] at g0 g1 g2 g3
      obtain ⟨m0, e0, _⟩ := DataW.trod_int Tryz.underlying3 g0
      obtain ⟨m1, e1, _⟩ := DataW.trod_int Tryz.underlying3 g1
      obtain ⟨m2, e2, _⟩ := DataW.trod_int Tryz.underlying3 g2
      obtain ⟨m3, e3, _, hs⟩ := DataW.trod_string Tryz.underlying9 g3
      simp only [List.cons.injEq, and_true] at e0 e1 e2 e3
      subst e0 e1 e2 e3
      exact ⟨⟨m0, m1, m2, m3⟩, rfl, hs⟩

set_option maxRecDepth 100000 in
/-- A slice that came in reads as a list. -/
theorem open_ins {fuel : Nat} {v' : Value} {y0 : DataW H × List MemPlace} (h0 : DataW.trod enc Tryz.prog w base spare held fuel 25 [v'] = some y0) :
    ∃ xs, InRow w v' xs := by
  have i5 : Tryz.prog.cellsOf 101 = 4 := by kernel_rfl
  rcases open_slice Tryz.underlying25 h0 with ⟨hcs, _⟩ | ⟨a, len, cap, m, n, D, Pl, hcs, _, hl, hm, hmm, _, hx⟩
  · simp at hcs
    subst hcs
    exact ⟨[], none, 0, rfl, by simp, by simp, by simp, fun h => absurd rfl h⟩
  · simp at hcs
    subst hcs
    have hlm : len ≤ m := by rw [hmm]; split <;> omega
    rw [i5] at hx
    have each : ∀ i, i < m → ∃ nd : In, nd.s.size ≤ maxLen ∧ ∀ j, j < 4 → w.cell? (a.add (i * 4 + j)) = nd.cs[j]? := by
      intro i hi
      obtain ⟨cs', h1, h2⟩ := hx i hi
      obtain ⟨nd, rfl, hs⟩ := in_cells h2
      obtain ⟨_, hlen, hcell⟩ := World.cells?_some h1
      refine ⟨nd, hs, fun j hj => ?_⟩
      have := hcell j (by omega)
      rw [add_add] at this
      rw [this]
    haveI : Inhabited In := ⟨zeroIn⟩
    obtain ⟨q, hq⟩ := choose_lt each
    refine ⟨(List.range len).map q, some a, cap, ?_, ?_, ?_, ?_, ?_⟩
    · simp
    · exact ⟨by simp; omega, fun h => by cases h⟩
    · unfold maxLen at hm; simp; omega
    · intro x hx'
      simp at hx'
      obtain ⟨i, hi, rfl⟩ := hx'
      exact (hq i (by omega)).1
    · intro hne
      have hpos : 0 < len := by
        rcases Nat.eq_zero_or_pos len with h0 | h0
        · subst h0; simp at hne
        · exact h0
      obtain ⟨b, off, spot⟩ := a
      have hc := (hq 0 (by omega)).2 0 (by omega)
      simp only [In.cs, List.getElem?_cons_zero] at hc
      have hspot : spot = none := by simpa [Addr.add] using World.cell?_spot hc
      subst hspot
      have hb := World.block_lt_of_cell? _ _ hc
      refine ⟨b, off, rfl, by simpa [Addr.add_lit] using hb, fun i x hi => ?_⟩
      have hil : i < len := by
        have := (List.getElem?_eq_some_iff.1 hi).1
        simpa using this
      have hxe : x = q i := by
        rw [List.getElem?_map, List.getElem?_range hil] at hi
        simpa using hi.symm
      subst hxe
      have e : ∀ j, j < 4 → w.cell? ⟨b, off + i * 4 + j, none⟩ = (q i).cs[j]? := fun j hj => by
        have := (hq i (by omega)).2 j hj
        rw [Addr.add_lit] at this
        rw [← this, Nat.add_assoc]
      exact ⟨e 0 (by omega), e 1 (by omega), e 2 (by omega), e 3 (by omega)⟩
end
end Go.Proofs.YtjnhocefnfmhmaaGreatDoor

/-
  What a slice of these records that came in reads as. Nothing of the program; no condition.
-/
namespace Go.Proofs.YtjnhocefnfmhmaaGreatDoor
open Go.ChangeShapes Go.WideShapes Go.ChangeAt Go.RowKit Go.Deep

section
variable {H : Type} {enc : TypeId × Value → H} {w : World} {base : Nat} {spare : Nat → Bool} {held : Bool}

set_option maxRecDepth 100000 in
theorem df_cells {fuel : Nat} {cs : List Value} {x : DataW H × List MemPlace} (h : DataW.trod enc Tryz.prog w base spare held fuel 104 cs = some x) :
    ∃ nd : Df, cs = nd.cs ∧ nd.s.size ≤ maxLen := by
  obtain ⟨xs, n, _, _, hl, hlen, hf⟩ := DataW.trod_struct Tryz.underlying104 h
  rw [show Tryz.prog.cellsOf 104 = 3 by kernel_rfl] at hl
  match cs, hl with
  | [v0, v1, v2], _ =>
    have g0 := hf 0 _ rfl
    have g1 := hf 1 _ rfl
    have g2 := hf 2 _ rfl
    have i1 : Tryz.prog.cellsOf 3 = 1 := by kernel_rfl
    have i2 : Tryz.prog.cellsOf 9 = 1 := by kernel_rfl
    match xs, hlen with
    | [y0, y1, y2], _ =>
      simp [i1, i2] at g0 g1 g2
      obtain ⟨m0, e0, _, hs⟩ := DataW.trod_string Tryz.underlying9 g0
      obtain ⟨m1, e1, _⟩ := DataW.trod_int Tryz.underlying3 g1
      obtain ⟨m2, e2, _⟩ := DataW.trod_int Tryz.underlying3 g2
      simp only [List.cons.injEq, and_true] at e0 e1 e2
      subst e0 e1 e2
      exact ⟨⟨m0, m1, m2⟩, rfl, hs⟩

set_option maxRecDepth 100000 in
/-- A slice that came in reads as a list. -/
theorem open_dfs {fuel : Nat} {v' : Value} {y0 : DataW H × List MemPlace} (h0 : DataW.trod enc Tryz.prog w base spare held fuel 26 [v'] = some y0) :
    ∃ xs, DfRow w v' xs := by
  have i5 : Tryz.prog.cellsOf 104 = 3 := by kernel_rfl
  rcases open_slice Tryz.underlying26 h0 with ⟨hcs, _⟩ | ⟨a, len, cap, m, n, D, Pl, hcs, _, hl, hm, hmm, _, hx⟩
  · simp at hcs
    subst hcs
    exact ⟨[], none, 0, rfl, by simp, by simp, by simp, fun h => absurd rfl h⟩
  · simp at hcs
    subst hcs
    have hlm : len ≤ m := by rw [hmm]; split <;> omega
    rw [i5] at hx
    have each : ∀ i, i < m → ∃ nd : Df, nd.s.size ≤ maxLen ∧ ∀ j, j < 3 → w.cell? (a.add (i * 3 + j)) = nd.cs[j]? := by
      intro i hi
      obtain ⟨cs', h1, h2⟩ := hx i hi
      obtain ⟨nd, rfl, hs⟩ := df_cells h2
      obtain ⟨_, hlen, hcell⟩ := World.cells?_some h1
      refine ⟨nd, hs, fun j hj => ?_⟩
      have := hcell j (by omega)
      rw [add_add] at this
      rw [this]
    haveI : Inhabited Df := ⟨zeroDf⟩
    obtain ⟨q, hq⟩ := choose_lt each
    refine ⟨(List.range len).map q, some a, cap, ?_, ?_, ?_, ?_, ?_⟩
    · simp
    · exact ⟨by simp; omega, fun h => by cases h⟩
    · unfold maxLen at hm; simp; omega
    · intro x hx'
      simp at hx'
      obtain ⟨i, hi, rfl⟩ := hx'
      exact (hq i (by omega)).1
    · intro hne
      have hpos : 0 < len := by
        rcases Nat.eq_zero_or_pos len with h0 | h0
        · subst h0; simp at hne
        · exact h0
      obtain ⟨b, off, spot⟩ := a
      have hc := (hq 0 (by omega)).2 0 (by omega)
      simp only [Df.cs, List.getElem?_cons_zero] at hc
      have hspot : spot = none := by simpa [Addr.add] using World.cell?_spot hc
      subst hspot
      have hb := World.block_lt_of_cell? _ _ hc
      refine ⟨b, off, rfl, by simpa [Addr.add_lit] using hb, fun i x hi => ?_⟩
      have hil : i < len := by
        have := (List.getElem?_eq_some_iff.1 hi).1
        simpa using this
      have hxe : x = q i := by
        rw [List.getElem?_map, List.getElem?_range hil] at hi
        simpa using hi.symm
      subst hxe
      have e : ∀ j, j < 3 → w.cell? ⟨b, off + i * 3 + j, none⟩ = (q i).cs[j]? := fun j hj => by
        have := (hq i (by omega)).2 j hj
        rw [Addr.add_lit] at this
        rw [← this, Nat.add_assoc]
      exact ⟨e 0 (by omega), e 1 (by omega), e 2 (by omega)⟩
end
end Go.Proofs.YtjnhocefnfmhmaaGreatDoor
