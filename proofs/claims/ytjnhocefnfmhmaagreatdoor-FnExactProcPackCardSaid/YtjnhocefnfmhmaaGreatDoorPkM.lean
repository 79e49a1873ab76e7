/-
  Rows of texts as bytes: impl.putTexts, spec.l12Texts; what ProcPack answers. No condition but bounds.
-/
import Derived.Test.YtjnhocefnfmhmaaGreatDoorNumberM
import Derived.Test.YtjnhocefnfmhmaaGreatDoorStepAppM
import Derived.Test.YtjnhocefnfmhmaaGreatDoorWithM
import Derived.Test.YtjnhocefnfmhmaaGreatDoorPrRegM
import Derived.Test.YtjnhocefnfmhmaaGreatDoorSGTextM
namespace Go.Proofs.YtjnhocefnfmhmaaGreatDoor
open Go.RowKit

/-- 'append' of what was just put, onto a row that was made since B. -/
theorem wpList_put3 {ops : Array Oper} {rest : List Oper} {o : Oper} {a : Act} {w : World} {Q : Exit → Act → World → Prop} (hg : o.guard = none) (s y : Operand) (hop : o.op = Op.call { callee := Callee.builtin Builtin.append, args := #[s, y], argTypes := #[66, 66] })
    {B : Nat} {vo : Value} {bs : List Int} (hs : a.eval s = vo) (O : w.ownsRow B 5 1 vo bs.length (bv bs)) (hB : B ≤ w.heap.size) {ao : Option Addr} {c base : Nat} {zs : List Int} (hy : a.eval y = .slice ao zs.length c) (h2 : w.ownsRow base 5 1 (.slice ao zs.length c) zs.length (bv zs)) (hb : bs.length + zs.length ≤ 200000000)
    (hK : ∀ v' w', OwnB w' B v' (bs ++ zs) → Below B w w' → Stays w w' → wpList Tryz.prog ops Q rest (a.put o.dst v') w') : wpList Tryz.prog ops Q (o :: rest) a w := by
  obtain ⟨i0, hi, hz0, hz1, hz2⟩ := info_parts Tryz.infoU8
  refine wpList_append_own_any w hg s y 66 hop B 5 i0 (.int .u8 0) 1 1 Tryz.underlying66 hi hz0 hz1 hz2 rfl (by decide) vo bs.length (bv bs) hs O ao zs.length c (bv zs) hy (by rw [bv_length]; simp) (own_none8 h2) (own_news8 h2 (bv_length _)) (ints_oneCell .u8 _) (by unfold maxLen; omega) (by omega) hB ?_
  intro v' w' h3 h4
  exact hK v' w' (by unfold OwnB; rw [List.length_append, bv_append]; exact h3) ((Below.refl _ _).grown h4 hB (fun k hk => (O.lt k hk).1)) (Stays.grown O h4)

set_option maxRecDepth 100000 in
set_option maxHeartbeats 1600000 in
theorem putnums_big (vb : Value) (bs : List Int) (B g : Nat) (zs : List Int) (w : World) (own : w.ownsRow B 5 1 vb bs.length (bv bs)) (hB : B ≤ w.heap.size) (hg : w.heap[g]? = some (.cells (iv zs).toArray 3 (0, 0))) (hz : ∀ z ∈ zs, z ≤ 9223372036854775807) (hl : zs.length ≤ 100) (hb : bs.length ≤ 100000000) :
    Calls Tryz.prog 72 #[vb, .slice (some ⟨g, 0, none⟩) zs.length zs.length] w fun e w' => ∃ v', e = .returned v' ∧ w'.ownsRow B 5 1 v' (bs ++ zs.flatMap encI).length (bv (bs ++ zs.flatMap encI)) ∧ Below B w w' ∧ Stays w w' := by
  go_enter Tryz.func72, Tryz.ntmps72
  go_wp2_with fail
  go_loopw [0, 9] (fun vo i wr => ∃ k : Nat, k ≤ zs.length ∧ i = .int .i64 k ∧ wr.ownsRow B 5 1 vo (bs ++ (zs.take k).flatMap encI).length (bv (bs ++ (zs.take k).flatMap encI)) ∧ Below B w wr ∧ Stays w wr) (fun _ i _ => zs.length - (intOf i).toNat)
  case atStart => exact ⟨0, by omega, rfl, by simpa using own, Below.refl _ _, Stays.refl _⟩
  case round =>
    obtain ⟨k, hk, rfl, ho, hbel, hst⟩ := hrel
    by_cases hlt : k < zs.length
    · have hgr := hst g _ _ (by decide) hg
      have hgl : g < wr.heap.size := (Array.getElem?_eq_some_iff.1 hgr).1
      have c0 : wr.cell? ⟨g, k, none⟩ = some (.int .i64 (zs.getD k 0)) := by
        rw [cell_of_row wr _ k _ _ _ hgr]
        simpa using iv_get zs k hlt
      have hzk : zs.getD k 0 ≤ 9223372036854775807 := hz _ (by simp [List.getD_eq_getElem?_getD, List.getElem?_eq_getElem hlt])
      have HT : Hid ((zs.take (k + 1)).flatMap encI = (zs.take k).flatMap encI ++ encI (zs.getD k 0)) := nums_take zs k hlt
      have hll : (bs ++ (zs.take k).flatMap encI).length ≤ 100100000 := by
        have := nums_len (zs.take k)
        rw [List.length_append]
        rw [List.length_take] at this
        omega
      obtain ⟨z, hzz⟩ : ∃ z, Hid (zs.getD k 0 = z) := ⟨_, rfl⟩
      rw [hzz.out] at c0 hzk HT
      have hle := encI_length z
      obtain ⟨cs, hcs⟩ : ∃ cs, Hid (bs ++ (zs.take k).flatMap encI = cs) := ⟨_, rfl⟩
      rw [hcs.out] at ho hll
      go_wp2_with fail
      refine (iput_any z _ hzk).mono ?_
      rintro e wc ⟨vc, rfl, oc, bc⟩
      obtain ⟨ac, cc, rfl⟩ := own_form oc
      clear c0
      have ho2 := own_below ho bc
      go_wp2_with (at_builtin; refine wpList_put3 rfl _ _ rfl rfl ho2 (by have := hbel.size; have := bc.size; omega) rfl oc (by omega) ?_)
      intro vd wd od bd sd
      have hB2 := (hbel.trans (bc.mono (Nat.le_trans hB hbel.size))).trans bd
      have hS2 := (hst.trans (Stays.below bc)).trans sd
      have HE : Hid (cs ++ encI z = bs ++ (zs.take (k + 1)).flatMap encI) := by unfold Hid; rw [HT.out, ← List.append_assoc, hcs.out]
      clear oc bc ho2 ho bd sd hbel hst
      go_wp2
      go_roundw
      case rel => exact ⟨k + 1, by omega, by go_num, by rw [← HE.out]; exact od, hB2, hS2⟩
      case measure => simp [intOf]; omega
    · have hke : k = zs.length := by omega
      subst hke
      rw [List.take_length] at ho
      go_wp2
      go_ret
      exact ⟨u0, rfl, ho, hbel, hst⟩

/-- The bytes of a row of texts. -/
def ptsL (xs : List ByteArray) : List Int := encI xs.length ++ xs.flatMap pt
def ppL (i : Int) (s : ByteArray) (bx ox : List ByteArray) : List Int := ((encI i ++ pt s) ++ ptsL bx) ++ ptsL ox
def ppR (ns : List Nd) (is : List In) (ds : List Df) (i : Int) (xs : List Nd) (m : Mc) (bx ox : List ByteArray) : ByteArray := if procB ns is ds i xs m bx ox then strOfNums (ppL i (mpR ns is ds xs m) bx ox) else ByteArray.empty
theorem pts_len (xs : List ByteArray) (h : ∀ x ∈ xs, x.size ≤ 1048576) : (xs.flatMap pt).length ≤ 1048585 * xs.length := by
  induction xs with
  | nil => simp
  | cons x xs ih =>
    have h1 := h x List.mem_cons_self
    have h2 := ih fun y hy => h y (List.mem_cons_of_mem _ hy)
    have h3 := encI_length x.size
    rw [List.flatMap_cons, List.length_append, List.length_cons, pt_length]
    omega
theorem pts_take (xs : List ByteArray) (k : Nat) (x : ByteArray) (h : xs[k]? = some x) : (xs.take (k + 1)).flatMap pt = (xs.take k).flatMap pt ++ pt x := by
  rw [List.take_add_one, h, Option.toList_some, List.flatMap_append]
  simp
theorem ptsL_len (xs : List ByteArray) (h : ∀ x ∈ xs, x.size ≤ 1048576) : (ptsL xs).length ≤ 1048585 * xs.length + 9 := by
  have h1 := pts_len xs h
  have h2 := encI_length xs.length
  unfold ptsL
  rw [List.length_append]
  omega
theorem mpR_size (ns : List Nd) (is : List In) (ds : List Df) (xs : List Nd) (m : Mc) : (mpR ns is ds xs m).size ≤ 100000 := by
  unfold mpR
  split
  · rename_i h
    obtain ⟨_, hok, hlq⟩ := td_small h
    rw [strN_size]
    have h1 := mpN_len (tdM xs m)
    have h2 := wires_len (tdL xs m) hok
    have h3 := encI_length (tdL xs m).length
    unfold mpL wireL
    rw [List.length_append, List.length_append]
    omega
  · show ByteArray.empty.size ≤ 100000
    decide
theorem proc_parts {ns : List Nd} {is : List In} {ds : List Df} {i : Int} {xs : List Nd} {m : Mc} {bx ox : List ByteArray} (h : procB ns is ds i xs m bx ox = true) : (1 ≤ i ∧ i ≤ 1000000000) ∧ bx.length ≤ 20 ∧ ox.length ≤ 40 ∧ machB ns is ds xs m = true := by
  simp only [procB, Bool.and_eq_true, pidB, boxB, outB, decide_eq_true_eq] at h
  exact ⟨h.1, h.2.1.1, h.2.2.1.1, h.2.2.2⟩

set_option maxRecDepth 100000 in
set_option maxHeartbeats 1600000 in
theorem puttexts_any (W0 w : World) (vb vn : Value) (bs : List Int) (xs : List ByteArray) (own : w.ownsRow W0.heap.size 5 1 vb bs.length (bv bs)) (bel : Below W0.heap.size W0 w) (R : StRow W0 vn xs) (hz : ∀ x ∈ xs, x.size ≤ 1048576) (hl : xs.length ≤ 40) (hb : bs.length ≤ 50000000) :
    Calls Tryz.prog 37 #[vb, vn] w fun e w' => ∃ v', e = .returned v' ∧ w'.ownsRow W0.heap.size 5 1 v' (bs ++ ptsL xs).length (bv (bs ++ ptsL xs)) ∧ Below W0.heap.size W0 w' := by
  obtain ⟨ao, cap, rfl, hcap, hm, hzm, hcell⟩ := R
  have hdl : Below w.heap.size w (w.alloc (Obj.cells (iv [(xs.length : Int)]).toArray 3)) := (Below.refl _ _).alloc (Nat.le_refl _) _
  have hBw := bel.size
  go_enter Tryz.func37, Tryz.ntmps37
  go_wp2_with fail
  refine (putnums_big vb bs W0.heap.size w.heap.size [(xs.length : Int)] _ (own_below own hdl) (Nat.le_trans hBw hdl.size) (heap_alloc_new _ _) (by simp; omega) (by simp) (by omega)).mono ?_
  rintro e w1 ⟨v1, rfl, own1, bel1, _⟩
  have belA := (bel.trans (hdl.mono hBw)).trans bel1
  have own1' : OwnB w1 W0.heap.size v1 (bs ++ encI xs.length) := by unfold OwnB; simpa using own1
  have hle := encI_length xs.length
  clear own1 bel1 hdl own bel hBw
  go_wp2_with fail
  go_loopw [0, 14] (fun vo i wr => ∃ k : Nat, k ≤ xs.length ∧ i = .int .i64 k ∧ OwnB wr W0.heap.size vo (bs ++ encI xs.length ++ (xs.take k).flatMap pt) ∧ Below W0.heap.size W0 wr) (fun _ i _ => xs.length - (intOf i).toNat)
  case atStart => exact ⟨0, by omega, rfl, by simpa using own1', belA⟩
  case round =>
    clear own1' belA
    obtain ⟨k, hk, rfl, ho, hbel⟩ := hrel
    by_cases hlt : k < xs.length
    · obtain ⟨g, o, rfl, hg, hcell⟩ := hcell (by intro e; subst e; simp at hlt)
      obtain ⟨x, hx⟩ : ∃ x, xs[k]? = some x := ⟨xs[k], by simp [hlt]⟩
      have c0 := (hbel.cell (p := ⟨g, o + k, none⟩) hg).trans (hcell k x hx)
      have hxs := hz x (List.mem_of_getElem? hx)
      have HT : Hid ((xs.take (k + 1)).flatMap pt = (xs.take k).flatMap pt ++ pt x) := pts_take xs k x hx
      have hll : (bs ++ encI xs.length ++ (xs.take k).flatMap pt).length ≤ 100000000 := by
        have := pts_len (xs.take k) (fun y hy => hz y (List.mem_of_mem_take hy))
        rw [List.length_append, List.length_append]
        rw [List.length_take] at this
        omega
      have hpl : (pt x).length ≤ 1048585 := by have := encI_length x.size; rw [pt_length]; omega
      obtain ⟨cs, hcs⟩ : ∃ cs, Hid (bs ++ encI xs.length ++ (xs.take k).flatMap pt = cs) := ⟨_, rfl⟩
      rw [hcs.out] at ho hll
      clear hcell hx
      go_wp2_with fail
      refine (iptext_any x _ (by omega)).mono ?_
      rintro e wc ⟨vc, rfl, oc, bc⟩
      obtain ⟨ac, cc, rfl⟩ := own_form oc
      clear c0
      have ho2 := own_below ho bc
      go_wp2_with (at_builtin; refine wpList_put3 rfl _ _ rfl rfl ho2 (by have := hbel.size; have := bc.size; omega) rfl oc (by omega) ?_)
      intro vd wd od bd _
      have hB2 := (hbel.trans (bc.mono hbel.size)).trans bd
      have HE : Hid (cs ++ pt x = bs ++ encI xs.length ++ (xs.take (k + 1)).flatMap pt) := by unfold Hid; rw [HT.out, ← hcs.out, List.append_assoc]
      clear oc bc ho2 ho bd hbel
      go_wp2
      go_roundw
      case rel => exact ⟨k + 1, by omega, by go_num, by rw [← HE.out]; exact od, hB2⟩
      case measure => simp [intOf]; omega
    · have hke : k = xs.length := by omega
      subst hke
      rw [List.take_length] at ho
      go_wp2
      go_ret
      exact ⟨u0, rfl, by unfold OwnB at ho; unfold ptsL; rw [← List.append_assoc]; exact ho, hbel⟩

set_option maxRecDepth 100000 in
set_option maxHeartbeats 1600000 in
theorem s12texts_any (vn : Value) (xs : List ByteArray) (w : World) (R : StRow w vn xs) (hz : ∀ x ∈ xs, x.size ≤ 1048576) (hl : xs.length ≤ 40) :
    Calls Tryz.prog 27 #[vn] w fun e w' => ∃ v', e = .returned v' ∧ w'.ownsRow w.heap.size 5 1 v' (ptsL xs).length (bv (ptsL xs)) ∧ Below w.heap.size w w' := by
  obtain ⟨ao, cap, rfl, hcap, hm, hzm, hcell⟩ := R
  go_enter Tryz.func27, Tryz.ntmps27
  go_wp2_with fail
  refine (sput_any (xs.length : Int) _ (by omega)).mono ?_
  rintro e w1 ⟨v1, rfl, own1, belA⟩
  have own1' : OwnB w1 w.heap.size v1 (encI xs.length) := own1
  have hle := encI_length xs.length
  clear own1
  go_wp2_with fail
  go_loopw [3, 4] (fun vo i wr => ∃ k : Nat, k ≤ xs.length ∧ i = .int .i64 k ∧ OwnB wr w.heap.size vo (encI xs.length ++ (xs.take k).flatMap pt) ∧ Below w.heap.size w wr) (fun _ i _ => xs.length - (intOf i).toNat)
  case atStart => exact ⟨0, by omega, rfl, by simpa using own1', belA⟩
  case round =>
    clear own1' belA
    obtain ⟨k, hk, rfl, ho, hbel⟩ := hrel
    by_cases hlt : k < xs.length
    · obtain ⟨g, o, rfl, hg, hcell⟩ := hcell (by intro e; subst e; simp at hlt)
      obtain ⟨x, hx⟩ : ∃ x, xs[k]? = some x := ⟨xs[k], by simp [hlt]⟩
      have c0 := (hbel.cell (p := ⟨g, o + k, none⟩) hg).trans (hcell k x hx)
      have hxs := hz x (List.mem_of_getElem? hx)
      have HT : Hid ((xs.take (k + 1)).flatMap pt = (xs.take k).flatMap pt ++ pt x) := pts_take xs k x hx
      have hll : (encI xs.length ++ (xs.take k).flatMap pt).length ≤ 100000000 := by
        have := pts_len (xs.take k) (fun y hy => hz y (List.mem_of_mem_take hy))
        rw [List.length_append]
        rw [List.length_take] at this
        omega
      have hpl : (pt x).length ≤ 1048585 := by have := encI_length x.size; rw [pt_length]; omega
      obtain ⟨cs, hcs⟩ : ∃ cs, Hid (encI xs.length ++ (xs.take k).flatMap pt = cs) := ⟨_, rfl⟩
      rw [hcs.out] at ho hll
      clear hcell hx
      go_wp2_with fail
      refine (sptext_any x _ (by omega)).mono ?_
      rintro e wc ⟨vc, rfl, oc, bc⟩
      obtain ⟨ac, cc, rfl⟩ := own_form oc
      clear c0
      have ho2 := own_below ho bc
      go_wp2_with (at_builtin; refine wpList_put3 rfl _ _ rfl rfl ho2 (by have := hbel.size; have := bc.size; omega) rfl oc (by omega) ?_)
      intro vd wd od bd _
      have hB2 := (hbel.trans (bc.mono hbel.size)).trans bd
      have HE : Hid (cs ++ pt x = encI xs.length ++ (xs.take (k + 1)).flatMap pt) := by unfold Hid; rw [HT.out, ← hcs.out, List.append_assoc]
      clear oc bc ho2 ho bd hbel
      go_wp2
      go_roundw
      case rel => exact ⟨k + 1, by omega, by go_num, by rw [← HE.out]; exact od, hB2⟩
      case measure => simp [intOf]; omega
    · have hke : k = xs.length := by omega
      subst hke
      rw [List.take_length] at ho
      go_wp2
      go_ret
      exact ⟨u3, rfl, ho, hbel⟩
end Go.Proofs.YtjnhocefnfmhmaaGreatDoor
