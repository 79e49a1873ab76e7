/-
  Texts that stood by themselves, laid into one.
-/
import Derived.Test.YtdkkpopnoeapdaaGreatDoorFormM
import Derived.Test.YtdkkpopnoeapdaaGreatDoorR8bM
import Derived.Test.YtdkkpopnoeapdaaGreatDoorSWireM
import Derived.Test.YtdkkpopnoeapdaaGreatDoorMkListM
import Derived.Test.YtdkkpopnoeapdaaGreatDoorShapeM
import Derived.Deep.RegionHeld
/-
  Contract of impl.PutNum: for every int a new slice of its own that holds the number's bytes.
-/
namespace Go.Proofs.YtdkkpopnoeapdaaGreatDoor
open Go.RowKit

set_option maxRecDepth 100000 in
set_option maxHeartbeats 400000 in
theorem iput_neg (x : Int) (w : World) (hx : x < 0) :
    Calls Tryz.prog 163 #[.int .i64 x] w fun e w' => ∃ v, e = .returned v ∧ w'.ownsRow w.heap.size 5 1 v 0 (bv []) ∧ Below w.heap.size w w' := by
  go_enter Tryz.func163, Tryz.ntmps163
  go_wp2
  go_ret
  exact ⟨_, rfl, World.ownsRow_made _ _ 0 (Nat.le_refl _) (by simp) (by simp), (Below.refl _ _).alloc (Nat.le_refl _) _⟩

theorem formC_start (xs : List Int) (h : xs.length ≤ 9) (w : World) (g : Nat) (hh : w.heap[g]? = some (.cells (formC xs) 218 (0, 0))) :
    ∀ j u, (bv xs)[j]? = some u → w.cell? ((⟨g, 0, none⟩ : Addr).add j) = some u := by
  intro j u hu
  have hj : j < xs.length := by have := (List.getElem?_eq_some_iff.1 hu).1; rwa [bv_length] at this
  rw [Addr.add_lit, Nat.zero_add, cell_of_row w g j _ 218 (0, 0) hh, formC_get xs h j (by omega)]
  rw [bv_get xs j hj] at hu
  rw [← hu]
  rw [List.getD_eq_getElem?_getD, List.getElem?_append_left hj, ← List.getD_eq_getElem?_getD]

theorem Tryz.arrLen : Tryz.prog.arrayLen 216 = 9 := by kernel_rfl
theorem Tryz.arrElem : Tryz.prog.elem 216 = 5 := by kernel_rfl
theorem Tryz.arrIs : Tryz.prog.underlying 216 = some (.array (Tryz.prog.arrayLen 216) (Tryz.prog.elem 216)) := by kernel_rfl
theorem slice_form (g n : Nat) (h : n ≤ 9) (w : World) :
    (Instr.sliceAt 216 (.pointer (some ⟨g, 0, none⟩)) none (some (.int .i64 (n : Int))) none).run Tryz.prog w = .ok (.slice (some ⟨g, 0, none⟩) n 9) w := by
  obtain ⟨i0, hi, hz0, hz1, hz2⟩ := info_parts Tryz.infoU8
  have h0 := run_sliceAt_array_h (P := Tryz.prog) w 216 ⟨g, 0, none⟩ Tryz.arrIs .i64 (n : Int) (by omega) (by rw [Tryz.arrLen]; omega)
  rw [h0, Tryz.arrElem, Tryz.arrLen]
  simp [sizeOf, typeInfo, hi, hz1, slicedAt, Addr.add_lit]

set_option maxRecDepth 100000 in
set_option maxHeartbeats 400000 in
theorem iput_pos (x : Int) (w : World) (hx : 0 ≤ x) (hm : x ≤ 9223372036854775807) :
    Calls Tryz.prog 163 #[.int .i64 x] w fun e w' => ∃ v, e = .returned v ∧ w'.ownsRow w.heap.size 5 1 v (enc 9 x).length (bv (enc 9 x)) ∧ Below w.heap.size w w' := by
  obtain ⟨i0, hi, hz0, hz1, hz2⟩ := info_parts Tryz.infoU8
  have hl := enc_length 9 x
  go_enter Tryz.func163, Tryz.ntmps163
  go_wp2_with fail
  refine (form_any x _ hx hm).mono ?_
  rintro e w1 ⟨rfl, hbel1⟩
  generalize hxs : enc 9 x = xs at hl ⊢
  have Hxs : Hid (enc 9 x = xs) := hxs
  clear hxs
  have HI := Tryz.infoFormC xs hl
  have Hsz := formC_sizes [] xs (Nat.zero_le _) hl
  have hsl := fun wx => slice_form w1.heap.size xs.length hl wx
  have HO : Hid ((formC xs).all (·.oneCell') = true) := formC_one _
  have hsz := hbel1.size
  go_wp2_with (first | (refine wpList_store_own rfl 218 _ _ rfl w1.heap.size _ rfl rfl 218 _ (heap_alloc_new _ _) HI.out Hsz.out HO.out ?_; intro w2 hh2 hb2 hs2; have hc9 := (cell_of_row w2 w1.heap.size 9 _ 218 (0, 0) hh2).trans (formC_count xs hl); have hs2' : w2.heap.size = w1.heap.size + 1 := by rw [hs2]; simp) | (at_builtin; refine wpList_append_own _ rfl _ _ 100 rfl w.heap.size 5 i0 (.int .u8 0) 1 1 Tryz.underlying100 hi hz0 hz1 hz2 rfl (by decide) _ 0 [] rfl ?ho ⟨w1.heap.size, 0, none⟩ xs.length 9 (bv xs) rfl ?hl ?hn ?h1 ?h63 ?hby ?hba ?_))
  case ho =>
    show (w2.alloc (Obj.cells #[] 5)).ownsRow w.heap.size 5 1 (.slice (some ⟨w1.heap.size + 1, 0, none⟩) 0 0) 0 []
    rw [← hs2']
    exact World.ownsRow_made w2 #[] 0 (by omega) (by simp) (by simp)
  case hl => rw [bv_length]; simp
  case hn => exact formC_start xs hl _ w1.heap.size ((Below.heap_alloc w2 _ _ (by omega)).trans hh2)
  case h1 => exact ints_oneCell .u8 xs
  case h63 => unfold maxLen; omega
  case hby => omega
  case hba => simp; omega
  intro v' w3 hown hgrow _
  go_wp2
  go_ret
  refine ⟨v', rfl, ?_, ?_⟩
  · rw [Hxs.out]; simpa using hown
  · refine ((((hbel1.alloc hsz _).trans (hb2.mono hsz)).alloc (by omega) _).grown hgrow (by simp; omega) ?_)
    intro k hk
    simp [Value.ownBlock] at hk
    omega

set_option maxRecDepth 100000 in
theorem iput_any (x : Int) (w : World) (hm : x ≤ 9223372036854775807) :
    Calls Tryz.prog 163 #[.int .i64 x] w fun e w' => ∃ v, e = .returned v ∧ w'.ownsRow w.heap.size 5 1 v (encI x).length (bv (encI x)) ∧ Below w.heap.size w w' := by
  by_cases hx : x < 0
  · rw [encI_neg x hx]; exact iput_neg x w hx
  · rw [encI_pos x (by omega)]; exact iput_pos x w (by omega) hm

end Go.Proofs.YtdkkpopnoeapdaaGreatDoor

/-
  Contract of impl.PutText: for every text of at most 2^21 bytes a new slice of its own that holds the bytes of its length, and then its own.
-/
namespace Go.Proofs.YtdkkpopnoeapdaaGreatDoor
open Go.RowKit

set_option maxRecDepth 100000 in
set_option maxHeartbeats 400000 in
theorem iptext_any (s : ByteArray) (w : World) (hs : s.size ≤ 2097152) :
    Calls Tryz.prog 161 #[.string s] w fun e w' => ∃ v, e = .returned v ∧ w'.ownsRow w.heap.size 5 1 v (pt s).length (bv (pt s)) ∧ Below w.heap.size w w' := by
  obtain ⟨i0, hi, hz0, hz1, hz2⟩ := info_parts Tryz.infoU8
  have hl := encI_length s.size
  go_enter Tryz.func161, Tryz.ntmps161
  go_wp2_with fail
  refine (iput_any (s.size : Int) _ (by omega)).mono ?_
  rintro e w1 ⟨v1, rfl, own1, bel1⟩
  have hsz := bel1.size
  go_wp2_with (at_builtin; refine Lib.wpList_append_own_string _ rfl _ _ 100 9 rfl w.heap.size 5 i0 Tryz.underlying100 Tryz.underlying9 hi hz0 hz1 hz2 _ _ _ rfl own1 s rfl (by unfold maxLen; omega) (by omega) hsz ?_)
  intro v2 w2 own2 hgrow _
  go_wp2_with fail
  go_ret
  refine ⟨v2, rfl, ?_, bel1.grown hgrow hsz (fun k hk => (own1.lt k hk).1)⟩
  rw [pt_length, pt, bv_append, sb_cells]
  exact own2

end Go.Proofs.YtdkkpopnoeapdaaGreatDoor

/-
  Contracts of impl.putNums, of the nine ways to put a node, of impl.wires and impl.putNodes. No condition but bounds.
-/
namespace Go.Proofs.YtdkkpopnoeapdaaGreatDoor
open Go.RowKit

/-- All blocks but those of bytes lie as they lay. -/
def Stays (w w' : World) : Prop := ∀ (j : Nat) (c : Array Value) (t : TypeId), t ≠ 5 → w.heap[j]? = some (.cells c t (0, 0)) → w'.heap[j]? = some (.cells c t (0, 0))
theorem Stays.refl (w : World) : Stays w w := fun _ _ _ _ h => h
theorem Stays.trans {w1 w2 w3 : World} (h : Stays w1 w2) (k : Stays w2 w3) : Stays w1 w3 := fun j c t ht hj => k j c t ht (h j c t ht hj)
theorem Stays.below {w w' : World} (hb : Below w.heap.size w w') : Stays w w' := fun j _ _ _ hj => (hb.block j (Array.getElem?_eq_some_iff.1 hj).1).trans hj
theorem Stays.grown {w w' : World} {B n : Nat} {vo : Value} {xs : List Value} (ho : w.ownsRow B 5 1 vo n xs) (hg : w.grownBy w' vo.ownBlock) : Stays w w' := fun j _ _ ht hj => (hg.block j (Array.getElem?_eq_some_iff.1 hj).1 (fun e => own_ne ho hj ht e.symm)).trans hj

/-- At v the bytes bs, made since B. -/
def OwnB (w : World) (B : Nat) (v : Value) (bs : List Int) : Prop := w.ownsRow B 5 1 v bs.length (bv bs)
/-- 'append' of what was just put, onto a row that was made since B. -/
theorem wpList_put2 {ops : Array Oper} {rest : List Oper} {o : Oper} {a : Act} {w : World} {Q : Exit → Act → World → Prop} (hg : o.guard = none) (s y : Operand) (hop : o.op = Op.call { callee := Callee.builtin Builtin.append, args := #[s, y], argTypes := #[100, 100] })
    {B : Nat} {vo : Value} {bs : List Int} (hs : a.eval s = vo) (O : w.ownsRow B 5 1 vo bs.length (bv bs)) (hB : B ≤ w.heap.size) {ao : Option Addr} {c base : Nat} {zs : List Int} (hy : a.eval y = .slice ao zs.length c) (h2 : w.ownsRow base 5 1 (.slice ao zs.length c) zs.length (bv zs)) (hb : bs.length + zs.length ≤ 1000000)
    (hK : ∀ v' w', OwnB w' B v' (bs ++ zs) → Below B w w' → Stays w w' → wpList Tryz.prog ops Q rest (a.put o.dst v') w') : wpList Tryz.prog ops Q (o :: rest) a w := by
  obtain ⟨i0, hi, hz0, hz1, hz2⟩ := info_parts Tryz.infoU8
  refine wpList_append_own_any w hg s y 100 hop B 5 i0 (.int .u8 0) 1 1 Tryz.underlying100 hi hz0 hz1 hz2 rfl (by decide) vo bs.length (bv bs) hs O ao zs.length c (bv zs) hy (by rw [bv_length]; simp) (own_none8 h2) (own_news8 h2 (bv_length _)) (ints_oneCell .u8 _) (by unfold maxLen; omega) (by omega) hB ?_
  intro v' w' h3 h4
  exact hK v' w' (by unfold OwnB; rw [List.length_append, bv_append]; exact h3) ((Below.refl _ _).grown h4 hB (fun k hk => (O.lt k hk).1)) (Stays.grown O h4)

theorem nums_take (zs : List Int) (k : Nat) (h : k < zs.length) : (zs.take (k + 1)).flatMap encI = (zs.take k).flatMap encI ++ encI (zs.getD k 0) := by
  rw [List.take_add_one, List.getElem?_eq_getElem h, Option.toList_some, List.flatMap_append]
  congr 1
  simp [List.getD_eq_getElem?_getD, List.getElem?_eq_getElem h]
theorem nums_len (zs : List Int) : (zs.flatMap encI).length ≤ 9 * zs.length := by
  induction zs with
  | nil => simp
  | cons z zs ih =>
    have := encI_length z
    rw [List.flatMap_cons, List.length_append, List.length_cons]
    omega

set_option maxRecDepth 100000 in
set_option maxHeartbeats 1600000 in
theorem putnums_any (vb : Value) (bs : List Int) (B g : Nat) (zs : List Int) (w : World) (own : w.ownsRow B 5 1 vb bs.length (bv bs)) (hB : B ≤ w.heap.size) (hg : w.heap[g]? = some (.cells (iv zs).toArray 3 (0, 0))) (hz : ∀ z ∈ zs, z ≤ 9223372036854775807) (hl : zs.length ≤ 100) (hb : bs.length ≤ 500000) :
    Calls Tryz.prog 160 #[vb, .slice (some ⟨g, 0, none⟩) zs.length zs.length] w fun e w' => ∃ v', e = .returned v' ∧ w'.ownsRow B 5 1 v' (bs ++ zs.flatMap encI).length (bv (bs ++ zs.flatMap encI)) ∧ Below B w w' ∧ Stays w w' := by
  go_enter Tryz.func160, Tryz.ntmps160
  go_wp2_with fail
  go_loopw [0, 9] (fun vo i wr => ∃ k : Nat, k ≤ zs.length ∧ i = .int .i64 k ∧ wr.ownsRow B 5 1 vo (bs ++ (zs.take k).flatMap encI).length (bv (bs ++ (zs.take k).flatMap encI)) ∧ Below B w wr ∧ Stays w wr) (fun _ i _ => zs.length - (intOf i).toNat)
  case atStart => exact ⟨0, by omega, rfl, by simpa using own, Below.refl _ _, Stays.refl _⟩
  case round =>
    obtain ⟨k, hk, rfl, ho, hbel, hst⟩ := hrel
    by_cases hlt : k < zs.length
    · have hgr := hst g _ _ (by decide) hg
      have hgl : g < wr.heap.size := (Array.getElem?_eq_some_iff.1 hgr).1
      have c0 : wr.cell? ⟨g, k, none⟩ = some (.int .i64 (zs.getD k 0)) := by
        rw [cell_of_row wr _ k _ _ _ hgr]
        simpa using iv_get zs k hlt
      have hzk : zs.getD k 0 ≤ 9223372036854775807 := hz _ (by simp [List.getD_eq_getElem?_getD, List.getElem?_eq_getElem hlt])
      have HT : Hid ((zs.take (k + 1)).flatMap encI = (zs.take k).flatMap encI ++ encI (zs.getD k 0)) := nums_take zs k hlt
      have hll : (bs ++ (zs.take k).flatMap encI).length ≤ 600000 := by
        have := nums_len (zs.take k)
        rw [List.length_append]
        rw [List.length_take] at this
        omega
      obtain ⟨z, hzz⟩ : ∃ z, Hid (zs.getD k 0 = z) := ⟨_, rfl⟩
      rw [hzz.out] at c0 hzk HT
      have hle := encI_length z
      obtain ⟨cs, hcs⟩ : ∃ cs, Hid (bs ++ (zs.take k).flatMap encI = cs) := ⟨_, rfl⟩
      rw [hcs.out] at ho hll
      go_wp2_with fail
      refine (iput_any z _ hzk).mono ?_
      rintro e wc ⟨vc, rfl, oc, bc⟩
      obtain ⟨ac, cc, rfl⟩ := own_form oc
      clear c0
      have ho2 := own_below ho bc
      go_wp2_with (at_builtin; refine wpList_put2 rfl _ _ rfl rfl ho2 (by have := hbel.size; have := bc.size; omega) rfl oc (by omega) ?_)
      intro vd wd od bd sd
      have hB2 := (hbel.trans (bc.mono (Nat.le_trans hB hbel.size))).trans bd
      have hS2 := (hst.trans (Stays.below bc)).trans sd
      have HE : Hid (cs ++ encI z = bs ++ (zs.take (k + 1)).flatMap encI) := by unfold Hid; rw [HT.out, ← List.append_assoc, hcs.out]
      clear oc bc ho2 ho bd sd hbel hst
      go_wp2
      go_roundw
      case rel => exact ⟨k + 1, by omega, by go_num, by rw [← HE.out]; exact od, hB2, hS2⟩
      case measure => simp [intOf]; omega
    · have hke : k = zs.length := by omega
      subst hke
      rw [List.take_length] at ho
      go_wp2
      go_ret
      exact ⟨u0, rfl, ho, hbel, hst⟩

/-- A way to put a node x. -/
def Puts (f : Nat) (x : Nd) : Prop := ∀ (vb : Value) (bs : List Int) (B : Nat) (w : World), w.ownsRow B 5 1 vb bs.length (bv bs) → B ≤ w.heap.size → bs.length ≤ 400000 → Calls Tryz.prog f #[vb, .agg #[.int .i64 x.k, .int .i64 x.n, .string x.s, .int .i64 x.a, .int .i64 x.b]] w fun e w' => ∃ v', e = .returned v' ∧ w'.ownsRow B 5 1 v' (bs ++ wireB x).length (bv (bs ++ wireB x)) ∧ Below B w w' ∧ Stays w w'


set_option maxRecDepth 100000 in
set_option maxHeartbeats 800000 in
theorem putn_any (x : Nd) (hok : NdOk x) (hk : x.k = 2 ∨ x.k = 8 ∨ x.k = 9) : Puts 141 x := by
  intro vb bs B w own hB hb
  obtain ⟨_, ⟨hn1, hn2⟩, hs, ha, hb'⟩ := hok
  have HW : Hid (wireB x = [x.n].flatMap encI) := by unfold Hid wireB; (try rcases hk with hk | hk | hk) <;> simp [hk]
  clear hk
  obtain ⟨hB2, hx2, hy2⟩ := two_boxes w (Obj.cells #[.int .i64 x.k, .int .i64 x.n, .string x.s, .int .i64 x.a, .int .i64 x.b] 119) (Obj.cells (iv [x.n]).toArray 3)
  have hl2 : w.heap.size ≤ ((w.alloc (Obj.cells #[.int .i64 x.k, .int .i64 x.n, .string x.s, .int .i64 x.a, .int .i64 x.b] 119)).alloc (Obj.cells (iv [x.n]).toArray 3)).heap.size := hB2.size
  go_enter Tryz.func141, Tryz.ntmps141
  go_wp2_with fail
  refine (putnums_any _ bs B (w.heap.size + 1) [x.n] _ (own_below own hB2) (by omega) hy2 (by simp; omega) (by simp) (by omega)).mono ?_
  rintro e w1 ⟨v1, rfl, o1, b1, s1⟩
  have hBB := (hB2.mono hB).trans b1
  have hSS := (Stays.below hB2).trans s1
  go_wp2
  go_ret
  exact ⟨v1, rfl, by rw [HW.out]; exact o1, hBB, hSS⟩


set_option maxRecDepth 100000 in
set_option maxHeartbeats 800000 in
theorem putint_any (x : Nd) (hok : NdOk x) (hk : x.k = 3) : Puts 143 x := by
  intro vb bs B w own hB hb
  obtain ⟨_, ⟨hn1, hn2⟩, hs, ha, hb'⟩ := hok
  have HW : Hid (wireB x = [x.n + 1000000000].flatMap encI) := by unfold Hid wireB; (try rcases hk with hk | hk | hk) <;> simp [hk]
  clear hk
  obtain ⟨hB2, hx2, hy2⟩ := two_boxes w (Obj.cells #[.int .i64 x.k, .int .i64 x.n, .string x.s, .int .i64 x.a, .int .i64 x.b] 119) (Obj.cells (iv [x.n + 1000000000]).toArray 3)
  have hl2 : w.heap.size ≤ ((w.alloc (Obj.cells #[.int .i64 x.k, .int .i64 x.n, .string x.s, .int .i64 x.a, .int .i64 x.b] 119)).alloc (Obj.cells (iv [x.n + 1000000000]).toArray 3)).heap.size := hB2.size
  go_enter Tryz.func143, Tryz.ntmps143
  go_wp2_with fail
  refine (putnums_any _ bs B (w.heap.size + 1) [x.n + 1000000000] _ (own_below own hB2) (by omega) hy2 (by simp; omega) (by simp) (by omega)).mono ?_
  rintro e w1 ⟨v1, rfl, o1, b1, s1⟩
  have hBB := (hB2.mono hB).trans b1
  have hSS := (Stays.below hB2).trans s1
  go_wp2
  go_ret
  exact ⟨v1, rfl, by rw [HW.out]; exact o1, hBB, hSS⟩


set_option maxRecDepth 100000 in
set_option maxHeartbeats 800000 in
theorem putparts_any (x : Nd) (hok : NdOk x) (hk : x.k = 5) : Puts 147 x := by
  intro vb bs B w own hB hb
  obtain ⟨_, ⟨hn1, hn2⟩, hs, ha, hb'⟩ := hok
  have HW : Hid (wireB x = [x.a, x.b].flatMap encI) := by unfold Hid wireB; (try rcases hk with hk | hk | hk) <;> simp [hk]
  clear hk
  obtain ⟨hB2, hx2, hy2⟩ := two_boxes w (Obj.cells #[.int .i64 x.k, .int .i64 x.n, .string x.s, .int .i64 x.a, .int .i64 x.b] 119) (Obj.cells (iv [x.a, x.b]).toArray 3)
  have hl2 : w.heap.size ≤ ((w.alloc (Obj.cells #[.int .i64 x.k, .int .i64 x.n, .string x.s, .int .i64 x.a, .int .i64 x.b] 119)).alloc (Obj.cells (iv [x.a, x.b]).toArray 3)).heap.size := hB2.size
  go_enter Tryz.func147, Tryz.ntmps147
  go_wp2_with fail
  refine (putnums_any _ bs B (w.heap.size + 1) [x.a, x.b] _ (own_below own hB2) (by omega) hy2 (by simp; omega) (by simp) (by omega)).mono ?_
  rintro e w1 ⟨v1, rfl, o1, b1, s1⟩
  have hBB := (hB2.mono hB).trans b1
  have hSS := (Stays.below hB2).trans s1
  go_wp2
  go_ret
  exact ⟨v1, rfl, by rw [HW.out]; exact o1, hBB, hSS⟩


set_option maxRecDepth 100000 in
set_option maxHeartbeats 800000 in
theorem putfun_any (x : Nd) (hok : NdOk x) (hk : x.k = 6) : Puts 149 x := by
  intro vb bs B w own hB hb
  obtain ⟨_, ⟨hn1, hn2⟩, hs, ha, hb'⟩ := hok
  have HW : Hid (wireB x = [x.n, x.a].flatMap encI) := by unfold Hid wireB; (try rcases hk with hk | hk | hk) <;> simp [hk]
  clear hk
  obtain ⟨hB2, hx2, hy2⟩ := two_boxes w (Obj.cells #[.int .i64 x.k, .int .i64 x.n, .string x.s, .int .i64 x.a, .int .i64 x.b] 119) (Obj.cells (iv [x.n, x.a]).toArray 3)
  have hl2 : w.heap.size ≤ ((w.alloc (Obj.cells #[.int .i64 x.k, .int .i64 x.n, .string x.s, .int .i64 x.a, .int .i64 x.b] 119)).alloc (Obj.cells (iv [x.n, x.a]).toArray 3)).heap.size := hB2.size
  go_enter Tryz.func149, Tryz.ntmps149
  go_wp2_with fail
  refine (putnums_any _ bs B (w.heap.size + 1) [x.n, x.a] _ (own_below own hB2) (by omega) hy2 (by simp; omega) (by simp) (by omega)).mono ?_
  rintro e w1 ⟨v1, rfl, o1, b1, s1⟩
  have hBB := (hB2.mono hB).trans b1
  have hSS := (Stays.below hB2).trans s1
  go_wp2
  go_ret
  exact ⟨v1, rfl, by rw [HW.out]; exact o1, hBB, hSS⟩


set_option maxRecDepth 100000 in
set_option maxHeartbeats 800000 in
theorem puta_any (x : Nd) (hok : NdOk x) (hk : x.k = 7) : Puts 151 x := by
  intro vb bs B w own hB hb
  obtain ⟨_, ⟨hn1, hn2⟩, hs, ha, hb'⟩ := hok
  have HW : Hid (wireB x = [x.a].flatMap encI) := by unfold Hid wireB; (try rcases hk with hk | hk | hk) <;> simp [hk]
  clear hk
  obtain ⟨hB2, hx2, hy2⟩ := two_boxes w (Obj.cells #[.int .i64 x.k, .int .i64 x.n, .string x.s, .int .i64 x.a, .int .i64 x.b] 119) (Obj.cells (iv [x.a]).toArray 3)
  have hl2 : w.heap.size ≤ ((w.alloc (Obj.cells #[.int .i64 x.k, .int .i64 x.n, .string x.s, .int .i64 x.a, .int .i64 x.b] 119)).alloc (Obj.cells (iv [x.a]).toArray 3)).heap.size := hB2.size
  go_enter Tryz.func151, Tryz.ntmps151
  go_wp2_with fail
  refine (putnums_any _ bs B (w.heap.size + 1) [x.a] _ (own_below own hB2) (by omega) hy2 (by simp; omega) (by simp) (by omega)).mono ?_
  rintro e w1 ⟨v1, rfl, o1, b1, s1⟩
  have hBB := (hB2.mono hB).trans b1
  have hSS := (Stays.below hB2).trans s1
  go_wp2
  go_ret
  exact ⟨v1, rfl, by rw [HW.out]; exact o1, hBB, hSS⟩


set_option maxRecDepth 100000 in
set_option maxHeartbeats 800000 in
theorem putnothing_any (x : Nd) (hk : x.k = 1) : Puts 139 x := by
  intro vb bs B w own hB hb
  have HW : Hid (wireB x = []) := by unfold Hid wireB; simp [hk]
  clear hk
  have hB0 : Below w.heap.size w (w.alloc (Obj.cells #[.int .i64 x.k, .int .i64 x.n, .string x.s, .int .i64 x.a, .int .i64 x.b] 119)) := (Below.refl _ _).alloc (Nat.le_refl _) _
  go_enter Tryz.func139, Tryz.ntmps139
  go_wp2
  go_ret
  exact ⟨vb, rfl, by rw [HW.out, List.append_nil]; exact own_below own hB0, hB0.mono hB, Stays.below hB0⟩

set_option maxRecDepth 100000 in
set_option maxHeartbeats 800000 in
theorem putname_any (x : Nd) (hok : NdOk x) (hk : x.k = 4) : Puts 145 x := by
  intro vb bs B w own hB hb
  obtain ⟨_, _, hs, _⟩ := hok
  have HW : Hid (wireB x = pt x.s) := by unfold Hid wireB; simp [hk]
  clear hk
  have hl1 : (pt x.s).length ≤ 21 := by rw [pt_length]; have := encI_length x.s.size; omega
  have hB0 : Below w.heap.size w (w.alloc (Obj.cells #[.int .i64 x.k, .int .i64 x.n, .string x.s, .int .i64 x.a, .int .i64 x.b] 119)) := (Below.refl _ _).alloc (Nat.le_refl _) _
  go_enter Tryz.func145, Tryz.ntmps145
  go_wp2_with fail
  refine (iptext_any x.s _ (by omega)).mono ?_
  rintro e wc ⟨vc, rfl, oc, bc⟩
  obtain ⟨ac, cc, rfl⟩ := own_form oc
  have hBc := hB0.trans (bc.mono hB0.size)
  have ho2 := own_below own hBc
  go_wp2_with (at_builtin; refine wpList_put2 rfl _ _ rfl rfl ho2 (by have := hBc.size; omega) rfl oc (by omega) ?_)
  intro vd wd od bd sd
  have hBB := (hBc.mono hB).trans bd
  have hSS := (Stays.below hBc).trans sd
  go_wp2
  go_ret
  exact ⟨vd, rfl, by rw [HW.out]; exact od, hBB, hSS⟩
end Go.Proofs.YtdkkpopnoeapdaaGreatDoor
