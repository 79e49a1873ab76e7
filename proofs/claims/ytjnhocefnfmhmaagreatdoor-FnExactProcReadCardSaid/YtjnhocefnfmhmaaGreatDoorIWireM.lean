/-
  Texts that stood by themselves, laid into one.
-/
import Derived.Test.YtjnhocefnfmhmaaGreatDoorAddM
import Derived.Laws.CopyOwn
import Derived.Test.YtjnhocefnfmhmaaGreatDoorSbM
import Derived.Test.YtjnhocefnfmhmaaGreatDoorSizeIM
import Derived.Deep.RegionHeld
/-
  Contract of impl.formOf: the form of a number from 0 on holds the number's bytes.
-/
namespace Go.Proofs.YtjnhocefnfmhmaaGreatDoor
open Go.RowKit

theorem Tryz.infoForm : (Tryz.prog.info? 123).map (·.size) = some 10 := by kernel_rfl
theorem formC_one (xs : List Int) : (formC xs).all (·.oneCell') = true := by
  rw [Array.all_eq_true_iff_forall_mem]
  intro v hv
  simp only [formC, bv, List.mem_toArray, List.mem_append, List.mem_map, List.mem_singleton] at hv
  rcases hv with ⟨z, _, rfl⟩ | rfl <;> rfl

theorem Tryz.infoFormC (xs : List Int) (h : xs.length ≤ 9) : Hid ((Tryz.prog.info? 123).map (·.size) = some (formC xs).size) := by
  unfold Hid; rw [formC_size xs h]; exact Tryz.infoForm
theorem formC_sizes (xs ys : List Int) (h : xs.length ≤ 9) (k : ys.length ≤ 9) : Hid ((formC xs).size = (formC ys).size) := by
  unfold Hid; rw [formC_size xs h, formC_size ys k]
theorem snoc_le (xs : List Int) (b : Int) (f : Nat) (h : xs.length + f = 8) : (xs ++ [b]).length ≤ 9 := by simp; omega

set_option maxRecDepth 100000 in
set_option maxHeartbeats 400000 in
theorem form_any (x : Int) (w : World) (hx : 0 ≤ x) (hm : x ≤ 9223372036854775807) :
    Calls Tryz.prog 74 #[.int .i64 x] w fun e w' => e = .returned (.agg (formC (enc 9 x))) ∧ Below w.heap.size w w' := by
  go_enter Tryz.func74, Tryz.ntmps74
  go_wp2_with fail
  go_loopw [0] (fun y wr => ∃ (f : Nat) (q : Int) (acc : List Int), y = .int .i64 q ∧ 0 ≤ q ∧ q ≤ 9223372036854775807 ∧ acc.length + f = 8 ∧ Hid (q < lim (f + 1)) ∧ Hid (acc ++ enc (f + 1) q = enc 9 x) ∧ wr.heap[w.heap.size + 1]? = some (.cells (formC acc) 123 (0, 0)) ∧ wr.heap[w.heap.size]? = some (.cells (formC []) 123 (0, 0)) ∧ Below w.heap.size w wr) (fun y _ => (intOf y).toNat)
  case atStart =>
    exact ⟨8, x, [], rfl, hx, hm, rfl, by unfold Hid; rw [lim_nine]; omega, rfl, heap_alloc2_new _ _ _, heap_alloc2_old _ _ _, ((Below.refl _ _).alloc (Nat.le_refl _) _).alloc (by simp) _⟩
  case round =>
    obtain ⟨f, q, acc, rfl, hq0, hq1, hlen, Hl, Ha, hh, hr, hbel⟩ := hrel
    by_cases hlt : q < 128
    · have Hi1 := Tryz.infoFormC (acc ++ [q]) (snoc_le acc q f hlen)
      have Hsz := formC_sizes [] (acc ++ [q]) (Nat.zero_le _) (snoc_le acc q f hlen)
      have HO : Hid ((formC (acc ++ [q])).all (·.oneCell') = true) := formC_one _
      go_wp2_with fail
      refine (add_any _ _ acc _ (by omega) hh).mono ?_
      rintro e w1 ⟨rfl, hh1, hbel1⟩
      have hr1 : w1.heap[w.heap.size]? = some (.cells (formC []) 123 (0, 0)) := (hbel1.block _ (by omega)).trans hr
      go_wp2_with (first | refine wpList_load_row rfl 123 _ rfl (w.heap.size + 1) rfl 123 _ (0, 0) _ hh1 Tryz.underlying123 rfl Hi1.out ?_ | refine wpList_store_row rfl 123 _ _ rfl w.heap.size _ rfl rfl 123 _ hr1 Hi1.out Hsz.out HO.out ?_)
      have e9 : enc 9 x = acc ++ [q] := by rw [← Ha.out, enc_last f q hlt]
      rw [e9]
      refine bodyPost_ret (results_cell_row rfl _ _ w.heap.size 123 _ (0, 0) _ rfl (setRow_heap w1 w.heap.size _ _ 123 _ hr1) Tryz.underlying123 rfl Hi1.out) rfl ⟨rfl, ?_⟩
      exact below_setRow (hbel.trans (hbel1.mono (by omega))) (Nat.le_refl _) _
    · go_wp2_with fail
      refine (add_any _ _ acc _ (by omega) hh).mono ?_
      rintro e w1 ⟨rfl, hh1, hbel1⟩
      go_wp2_with fail
      go_roundw
      case rel =>
        obtain ⟨f', rfl, hl⟩ := lim_more f q (by omega) Hl.out
        refine ⟨f', q / 128, acc ++ [q % 128 + 128], rfl, by omega, by omega, by simp; omega, hl, ?_, hh1, (hbel1.block _ (by omega)).trans hr, hbel.trans (hbel1.mono (by omega))⟩
        have e := enc_more (f' + 1) q (by omega)
        have e2 := Ha.out
        rw [e] at e2
        unfold Hid
        rw [← e2]
        simp
      case measure => simp [intOf]; omega

end Go.Proofs.YtjnhocefnfmhmaaGreatDoor

/-
  Contract of impl.PutNum: for every int a new slice of its own that holds the number's bytes.
-/
namespace Go.Proofs.YtjnhocefnfmhmaaGreatDoor
open Go.RowKit

set_option maxRecDepth 100000 in
set_option maxHeartbeats 400000 in
theorem iput_neg (x : Int) (w : World) (hx : x < 0) :
    Calls Tryz.prog 35 #[.int .i64 x] w fun e w' => ∃ v, e = .returned v ∧ w'.ownsRow w.heap.size 5 1 v 0 (bv []) ∧ Below w.heap.size w w' := by
  go_enter Tryz.func35, Tryz.ntmps35
  go_wp2
  go_ret
  exact ⟨_, rfl, World.ownsRow_made _ _ 0 (Nat.le_refl _) (by simp) (by simp), (Below.refl _ _).alloc (Nat.le_refl _) _⟩

theorem formC_start (xs : List Int) (h : xs.length ≤ 9) (w : World) (g : Nat) (hh : w.heap[g]? = some (.cells (formC xs) 123 (0, 0))) :
    ∀ j u, (bv xs)[j]? = some u → w.cell? ((⟨g, 0, none⟩ : Addr).add j) = some u := by
  intro j u hu
  have hj : j < xs.length := by have := (List.getElem?_eq_some_iff.1 hu).1; rwa [bv_length] at this
  rw [Addr.add_lit, Nat.zero_add, cell_of_row w g j _ 123 (0, 0) hh, formC_get xs h j (by omega)]
  rw [bv_get xs j hj] at hu
  rw [← hu]
  rw [List.getD_eq_getElem?_getD, List.getElem?_append_left hj, ← List.getD_eq_getElem?_getD]

theorem Tryz.arrLen : Tryz.prog.arrayLen 121 = 9 := by kernel_rfl
theorem Tryz.arrElem : Tryz.prog.elem 121 = 5 := by kernel_rfl
theorem Tryz.arrIs : Tryz.prog.underlying 121 = some (.array (Tryz.prog.arrayLen 121) (Tryz.prog.elem 121)) := by kernel_rfl
theorem slice_form (g n : Nat) (h : n ≤ 9) (w : World) :
    (Instr.sliceAt 121 (.pointer (some ⟨g, 0, none⟩)) none (some (.int .i64 (n : Int))) none).run Tryz.prog w = .ok (.slice (some ⟨g, 0, none⟩) n 9) w := by
  obtain ⟨i0, hi, hz0, hz1, hz2⟩ := info_parts Tryz.infoU8
  have h0 := run_sliceAt_array_h (P := Tryz.prog) w 121 ⟨g, 0, none⟩ Tryz.arrIs .i64 (n : Int) (by omega) (by rw [Tryz.arrLen]; omega)
  rw [h0, Tryz.arrElem, Tryz.arrLen]
  simp [sizeOf, typeInfo, hi, hz1, slicedAt, Addr.add_lit]

set_option maxRecDepth 100000 in
set_option maxHeartbeats 400000 in
theorem iput_pos (x : Int) (w : World) (hx : 0 ≤ x) (hm : x ≤ 9223372036854775807) :
    Calls Tryz.prog 35 #[.int .i64 x] w fun e w' => ∃ v, e = .returned v ∧ w'.ownsRow w.heap.size 5 1 v (enc 9 x).length (bv (enc 9 x)) ∧ Below w.heap.size w w' := by
  obtain ⟨i0, hi, hz0, hz1, hz2⟩ := info_parts Tryz.infoU8
  have hl := enc_length 9 x
  go_enter Tryz.func35, Tryz.ntmps35
  go_wp2_with fail
  refine (form_any x _ hx hm).mono ?_
  rintro e w1 ⟨rfl, hbel1⟩
  generalize hxs : enc 9 x = xs at hl ⊢
  have Hxs : Hid (enc 9 x = xs) := hxs
  clear hxs
  have HI := Tryz.infoFormC xs hl
  have Hsz := formC_sizes [] xs (Nat.zero_le _) hl
  have hsl := fun wx => slice_form w1.heap.size xs.length hl wx
  have HO : Hid ((formC xs).all (·.oneCell') = true) := formC_one _
  have hsz := hbel1.size
  go_wp2_with (first | (refine wpList_store_own rfl 123 _ _ rfl w1.heap.size _ rfl rfl 123 _ (heap_alloc_new _ _) HI.out Hsz.out HO.out ?_; intro w2 hh2 hb2 hs2; have hc9 := (cell_of_row w2 w1.heap.size 9 _ 123 (0, 0) hh2).trans (formC_count xs hl); have hs2' : w2.heap.size = w1.heap.size + 1 := by rw [hs2]; simp) | (at_builtin; refine wpList_append_own _ rfl _ _ 66 rfl w.heap.size 5 i0 (.int .u8 0) 1 1 Tryz.underlying66 hi hz0 hz1 hz2 rfl (by decide) _ 0 [] rfl ?ho ⟨w1.heap.size, 0, none⟩ xs.length 9 (bv xs) rfl ?hl ?hn ?h1 ?h63 ?hby ?hba ?_))
  case ho =>
    show (w2.alloc (Obj.cells #[] 5)).ownsRow w.heap.size 5 1 (.slice (some ⟨w1.heap.size + 1, 0, none⟩) 0 0) 0 []
    rw [← hs2']
    exact World.ownsRow_made w2 #[] 0 (by omega) (by simp) (by simp)
  case hl => rw [bv_length]; simp
  case hn => exact formC_start xs hl _ w1.heap.size ((Below.heap_alloc w2 _ _ (by omega)).trans hh2)
  case h1 => exact ints_oneCell .u8 xs
  case h63 => unfold maxLen; omega
  case hby => omega
  case hba => simp; omega
  intro v' w3 hown hgrow _
  go_wp2
  go_ret
  refine ⟨v', rfl, ?_, ?_⟩
  · rw [Hxs.out]; simpa using hown
  · refine ((((hbel1.alloc hsz _).trans (hb2.mono hsz)).alloc (by omega) _).grown hgrow (by simp; omega) ?_)
    intro k hk
    simp [Value.ownBlock] at hk
    omega

set_option maxRecDepth 100000 in
theorem iput_any (x : Int) (w : World) (hm : x ≤ 9223372036854775807) :
    Calls Tryz.prog 35 #[.int .i64 x] w fun e w' => ∃ v, e = .returned v ∧ w'.ownsRow w.heap.size 5 1 v (encI x).length (bv (encI x)) ∧ Below w.heap.size w w' := by
  by_cases hx : x < 0
  · rw [encI_neg x hx]; exact iput_neg x w hx
  · rw [encI_pos x (by omega)]; exact iput_pos x w (by omega) hm

end Go.Proofs.YtjnhocefnfmhmaaGreatDoor

/-
  Contract of impl.PutText: for every text of at most 2^21 bytes a new slice of its own that holds the bytes of its length, and then its own.
-/
namespace Go.Proofs.YtjnhocefnfmhmaaGreatDoor
open Go.RowKit

set_option maxRecDepth 100000 in
set_option maxHeartbeats 400000 in
theorem iptext_any (s : ByteArray) (w : World) (hs : s.size ≤ 2097152) :
    Calls Tryz.prog 36 #[.string s] w fun e w' => ∃ v, e = .returned v ∧ w'.ownsRow w.heap.size 5 1 v (pt s).length (bv (pt s)) ∧ Below w.heap.size w w' := by
  obtain ⟨i0, hi, hz0, hz1, hz2⟩ := info_parts Tryz.infoU8
  have hl := encI_length s.size
  go_enter Tryz.func36, Tryz.ntmps36
  go_wp2_with fail
  refine (iput_any (s.size : Int) _ (by omega)).mono ?_
  rintro e w1 ⟨v1, rfl, own1, bel1⟩
  have hsz := bel1.size
  go_wp2_with (at_builtin; refine Lib.wpList_append_own_string _ rfl _ _ 66 9 rfl w.heap.size 5 i0 Tryz.underlying66 Tryz.underlying9 hi hz0 hz1 hz2 _ _ _ rfl own1 s rfl (by unfold maxLen; omega) (by omega) hsz ?_)
  intro v2 w2 own2 hgrow _
  go_wp2_with fail
  go_ret
  refine ⟨v2, rfl, ?_, bel1.grown hgrow hsz (fun k hk => (own1.lt k hk).1)⟩
  rw [pt_length, pt, bv_append, sb_cells]
  exact own2

end Go.Proofs.YtjnhocefnfmhmaaGreatDoor

/-
  Contracts of the laws' own helpers eqIntS, markIntS, heldIntS.
-/
namespace Go.Proofs.YtjnhocefnfmhmaaGreatDoor
open Go.RowKit

/-- The slice value v reads in w as the ints zs. -/
def IRow (w : World) (v : Value) (zs : List Int) : Prop :=
  ∃ ao cap, v = .slice ao zs.length cap ∧ (zs.length ≤ cap ∧ (ao = none → cap = 0)) ∧ zs.length ≤ 9223372036854775807 ∧ (zs ≠ [] → ∃ g o, ao = some ⟨g, o, none⟩ ∧ g < w.heap.size ∧ ∀ i, i < zs.length → w.cell? ⟨g, o + i, none⟩ = some (.int .i64 (zs.getD i 0)))
theorem IRow.below {w w' : World} {v : Value} {zs : List Int} (h : IRow w v zs) (hb : Below w.heap.size w w') : IRow w' v zs := by
  obtain ⟨ao, cap, rfl, hc, hm, hcell⟩ := h
  refine ⟨ao, cap, rfl, hc, hm, fun hne => ?_⟩
  obtain ⟨g, o, rfl, hg, hcell⟩ := hcell hne
  exact ⟨g, o, rfl, Nat.lt_of_lt_of_le hg hb.size, fun i hi => (hb.cell (p := ⟨g, o + i, none⟩) hg).trans (hcell i hi)⟩
theorem IRow.of_own {w : World} {base : Nat} {v : Value} {zs : List Int} (h : w.ownsRow base 3 1 v zs.length (iv zs)) (hm : zs.length ≤ 9223372036854775807) : IRow w v zs := by
  rcases h.2 with ⟨rfl, h0⟩ | ⟨g, cap, cur, rfl, hb, hg, hnc, hcm, hcs, htake⟩
  · have : zs = [] := List.eq_nil_of_length_eq_zero h0
    subst this
    exact ⟨none, 0, rfl, by simp, by simp, fun h => absurd rfl h⟩
  · refine ⟨_, cap, rfl, ⟨hnc, fun h => by cases h⟩, hm, fun _ => ⟨g, 0, rfl, (Array.getElem?_eq_some_iff.1 hg).1, fun i hi => ?_⟩⟩
    have := h.cellAt i (by omega)
    rw [Nat.zero_add, this, iv_get zs i hi]

/-- What lies in a slice of ints behind markIntS from k on, when i of them are written and zs stood there. -/
def imarked (k : Int) (zs : List Int) (i : Nat) : List Int := (List.range i).map (fun (j : Nat) => k + (j : Int)) ++ zs.drop i
theorem imarked_zero (k : Int) (zs : List Int) : imarked k zs 0 = zs := by simp [imarked]
theorem imarked_length (k : Int) (zs : List Int) (i : Nat) (h : i ≤ zs.length) : (imarked k zs i).length = zs.length := by simp [imarked]; omega
theorem imarked_set (k : Int) (zs : List Int) (i : Nat) (h : i < zs.length) : (imarked k zs i).set i (k + (i : Int)) = imarked k zs (i + 1) := by
  unfold imarked
  rw [List.range_succ, List.map_append, List.set_append_right _ _ (by simp), List.drop_eq_getElem_cons h, List.append_assoc]
  have e : i - (List.map (fun (j : Nat) => k + (j : Int)) (List.range i)).length = 0 := by simp
  rw [e]
  rfl
theorem imarked_get (k : Int) (zs : List Int) (i : Nat) (h : i < zs.length) : (imarked k zs zs.length).getD i 0 = k + (i : Int) := by
  simp [imarked, List.getD, h]

end Go.Proofs.YtjnhocefnfmhmaaGreatDoor

/-
  Contracts of impl.putNums, of the nine ways to put a node, of impl.wires and impl.putNodes. No condition but bounds.
-/
namespace Go.Proofs.YtjnhocefnfmhmaaGreatDoor
open Go.RowKit

/-- All blocks but those of bytes lie as they lay. -/
def Stays (w w' : World) : Prop := ∀ (j : Nat) (c : Array Value) (t : TypeId), t ≠ 5 → w.heap[j]? = some (.cells c t (0, 0)) → w'.heap[j]? = some (.cells c t (0, 0))
theorem Stays.refl (w : World) : Stays w w := fun _ _ _ _ h => h
theorem Stays.trans {w1 w2 w3 : World} (h : Stays w1 w2) (k : Stays w2 w3) : Stays w1 w3 := fun j c t ht hj => k j c t ht (h j c t ht hj)
theorem Stays.below {w w' : World} (hb : Below w.heap.size w w') : Stays w w' := fun j _ _ _ hj => (hb.block j (Array.getElem?_eq_some_iff.1 hj).1).trans hj
theorem Stays.grown {w w' : World} {B n : Nat} {vo : Value} {xs : List Value} (ho : w.ownsRow B 5 1 vo n xs) (hg : w.grownBy w' vo.ownBlock) : Stays w w' := fun j _ _ ht hj => (hg.block j (Array.getElem?_eq_some_iff.1 hj).1 (fun e => own_ne ho hj ht e.symm)).trans hj

/-- At v the bytes bs, made since B. -/
def OwnB (w : World) (B : Nat) (v : Value) (bs : List Int) : Prop := w.ownsRow B 5 1 v bs.length (bv bs)
/-- 'append' of what was just put, onto a row that was made since B. -/
theorem wpList_put2 {ops : Array Oper} {rest : List Oper} {o : Oper} {a : Act} {w : World} {Q : Exit → Act → World → Prop} (hg : o.guard = none) (s y : Operand) (hop : o.op = Op.call { callee := Callee.builtin Builtin.append, args := #[s, y], argTypes := #[66, 66] })
    {B : Nat} {vo : Value} {bs : List Int} (hs : a.eval s = vo) (O : w.ownsRow B 5 1 vo bs.length (bv bs)) (hB : B ≤ w.heap.size) {ao : Option Addr} {c base : Nat} {zs : List Int} (hy : a.eval y = .slice ao zs.length c) (h2 : w.ownsRow base 5 1 (.slice ao zs.length c) zs.length (bv zs)) (hb : bs.length + zs.length ≤ 1000000)
    (hK : ∀ v' w', OwnB w' B v' (bs ++ zs) → Below B w w' → Stays w w' → wpList Tryz.prog ops Q rest (a.put o.dst v') w') : wpList Tryz.prog ops Q (o :: rest) a w := by
  obtain ⟨i0, hi, hz0, hz1, hz2⟩ := info_parts Tryz.infoU8
  refine wpList_append_own_any w hg s y 66 hop B 5 i0 (.int .u8 0) 1 1 Tryz.underlying66 hi hz0 hz1 hz2 rfl (by decide) vo bs.length (bv bs) hs O ao zs.length c (bv zs) hy (by rw [bv_length]; simp) (own_none8 h2) (own_news8 h2 (bv_length _)) (ints_oneCell .u8 _) (by unfold maxLen; omega) (by omega) hB ?_
  intro v' w' h3 h4
  exact hK v' w' (by unfold OwnB; rw [List.length_append, bv_append]; exact h3) ((Below.refl _ _).grown h4 hB (fun k hk => (O.lt k hk).1)) (Stays.grown O h4)

theorem nums_take (zs : List Int) (k : Nat) (h : k < zs.length) : (zs.take (k + 1)).flatMap encI = (zs.take k).flatMap encI ++ encI (zs.getD k 0) := by
  rw [List.take_add_one, List.getElem?_eq_getElem h, Option.toList_some, List.flatMap_append]
  congr 1
  simp [List.getD_eq_getElem?_getD, List.getElem?_eq_getElem h]
theorem nums_len (zs : List Int) : (zs.flatMap encI).length ≤ 9 * zs.length := by
  induction zs with
  | nil => simp
  | cons z zs ih =>
    have := encI_length z
    rw [List.flatMap_cons, List.length_append, List.length_cons]
    omega

set_option maxRecDepth 100000 in
set_option maxHeartbeats 1600000 in
theorem putnums_any (vb : Value) (bs : List Int) (B g : Nat) (zs : List Int) (w : World) (own : w.ownsRow B 5 1 vb bs.length (bv bs)) (hB : B ≤ w.heap.size) (hg : w.heap[g]? = some (.cells (iv zs).toArray 3 (0, 0))) (hz : ∀ z ∈ zs, z ≤ 9223372036854775807) (hl : zs.length ≤ 100) (hb : bs.length ≤ 500000) :
    Calls Tryz.prog 72 #[vb, .slice (some ⟨g, 0, none⟩) zs.length zs.length] w fun e w' => ∃ v', e = .returned v' ∧ w'.ownsRow B 5 1 v' (bs ++ zs.flatMap encI).length (bv (bs ++ zs.flatMap encI)) ∧ Below B w w' ∧ Stays w w' := by
  go_enter Tryz.func72, Tryz.ntmps72
  go_wp2_with fail
  go_loopw [0, 9] (fun vo i wr => ∃ k : Nat, k ≤ zs.length ∧ i = .int .i64 k ∧ wr.ownsRow B 5 1 vo (bs ++ (zs.take k).flatMap encI).length (bv (bs ++ (zs.take k).flatMap encI)) ∧ Below B w wr ∧ Stays w wr) (fun _ i _ => zs.length - (intOf i).toNat)
  case atStart => exact ⟨0, by omega, rfl, by simpa using own, Below.refl _ _, Stays.refl _⟩
  case round =>
    obtain ⟨k, hk, rfl, ho, hbel, hst⟩ := hrel
    by_cases hlt : k < zs.length
    · have hgr := hst g _ _ (by decide) hg
      have hgl : g < wr.heap.size := (Array.getElem?_eq_some_iff.1 hgr).1
      have c0 : wr.cell? ⟨g, k, none⟩ = some (.int .i64 (zs.getD k 0)) := by
        rw [cell_of_row wr _ k _ _ _ hgr]
        simpa using iv_get zs k hlt
      have hzk : zs.getD k 0 ≤ 9223372036854775807 := hz _ (by simp [List.getD_eq_getElem?_getD, List.getElem?_eq_getElem hlt])
      have HT : Hid ((zs.take (k + 1)).flatMap encI = (zs.take k).flatMap encI ++ encI (zs.getD k 0)) := nums_take zs k hlt
      have hll : (bs ++ (zs.take k).flatMap encI).length ≤ 600000 := by
        have := nums_len (zs.take k)
        rw [List.length_append]
        rw [List.length_take] at this
        omega
      obtain ⟨z, hzz⟩ : ∃ z, Hid (zs.getD k 0 = z) := ⟨_, rfl⟩
      rw [hzz.out] at c0 hzk HT
      have hle := encI_length z
      obtain ⟨cs, hcs⟩ : ∃ cs, Hid (bs ++ (zs.take k).flatMap encI = cs) := ⟨_, rfl⟩
      rw [hcs.out] at ho hll
      go_wp2_with fail
      refine (iput_any z _ hzk).mono ?_
      rintro e wc ⟨vc, rfl, oc, bc⟩
      obtain ⟨ac, cc, rfl⟩ := own_form oc
      clear c0
      have ho2 := own_below ho bc
      go_wp2_with (at_builtin; refine wpList_put2 rfl _ _ rfl rfl ho2 (by have := hbel.size; have := bc.size; omega) rfl oc (by omega) ?_)
      intro vd wd od bd sd
      have hB2 := (hbel.trans (bc.mono (Nat.le_trans hB hbel.size))).trans bd
      have hS2 := (hst.trans (Stays.below bc)).trans sd
      have HE : Hid (cs ++ encI z = bs ++ (zs.take (k + 1)).flatMap encI) := by unfold Hid; rw [HT.out, ← List.append_assoc, hcs.out]
      clear oc bc ho2 ho bd sd hbel hst
      go_wp2
      go_roundw
      case rel => exact ⟨k + 1, by omega, by go_num, by rw [← HE.out]; exact od, hB2, hS2⟩
      case measure => simp [intOf]; omega
    · have hke : k = zs.length := by omega
      subst hke
      rw [List.take_length] at ho
      go_wp2
      go_ret
      exact ⟨u0, rfl, ho, hbel, hst⟩

/-- A way to put a node x. -/
def Puts (f : Nat) (x : Nd) : Prop := ∀ (vb : Value) (bs : List Int) (B : Nat) (w : World), w.ownsRow B 5 1 vb bs.length (bv bs) → B ≤ w.heap.size → bs.length ≤ 400000 → Calls Tryz.prog f #[vb, .agg #[.int .i64 x.k, .int .i64 x.n, .string x.s, .int .i64 x.a, .int .i64 x.b]] w fun e w' => ∃ v', e = .returned v' ∧ w'.ownsRow B 5 1 v' (bs ++ wireB x).length (bv (bs ++ wireB x)) ∧ Below B w w' ∧ Stays w w'


set_option maxRecDepth 100000 in
set_option maxHeartbeats 800000 in
theorem putn_any (x : Nd) (hok : NdOk x) (hk : x.k = 2 ∨ x.k = 8 ∨ x.k = 9) : Puts 133 x := by
  intro vb bs B w own hB hb
  obtain ⟨_, ⟨hn1, hn2⟩, hs, ha, hb'⟩ := hok
  have HW : Hid (wireB x = [x.n].flatMap encI) := by unfold Hid wireB; (try rcases hk with hk | hk | hk) <;> simp [hk]
  clear hk
  obtain ⟨hB2, hx2, hy2⟩ := two_boxes w (Obj.cells #[.int .i64 x.k, .int .i64 x.n, .string x.s, .int .i64 x.a, .int .i64 x.b] 153) (Obj.cells (iv [x.n]).toArray 3)
  have hl2 : w.heap.size ≤ ((w.alloc (Obj.cells #[.int .i64 x.k, .int .i64 x.n, .string x.s, .int .i64 x.a, .int .i64 x.b] 153)).alloc (Obj.cells (iv [x.n]).toArray 3)).heap.size := hB2.size
  go_enter Tryz.func133, Tryz.ntmps133
  go_wp2_with fail
  refine (putnums_any _ bs B (w.heap.size + 1) [x.n] _ (own_below own hB2) (by omega) hy2 (by simp; omega) (by simp) (by omega)).mono ?_
  rintro e w1 ⟨v1, rfl, o1, b1, s1⟩
  have hBB := (hB2.mono hB).trans b1
  have hSS := (Stays.below hB2).trans s1
  go_wp2
  go_ret
  exact ⟨v1, rfl, by rw [HW.out]; exact o1, hBB, hSS⟩


set_option maxRecDepth 100000 in
set_option maxHeartbeats 800000 in
theorem putint_any (x : Nd) (hok : NdOk x) (hk : x.k = 3) : Puts 135 x := by
  intro vb bs B w own hB hb
  obtain ⟨_, ⟨hn1, hn2⟩, hs, ha, hb'⟩ := hok
  have HW : Hid (wireB x = [x.n + 1000000000].flatMap encI) := by unfold Hid wireB; (try rcases hk with hk | hk | hk) <;> simp [hk]
  clear hk
  obtain ⟨hB2, hx2, hy2⟩ := two_boxes w (Obj.cells #[.int .i64 x.k, .int .i64 x.n, .string x.s, .int .i64 x.a, .int .i64 x.b] 153) (Obj.cells (iv [x.n + 1000000000]).toArray 3)
  have hl2 : w.heap.size ≤ ((w.alloc (Obj.cells #[.int .i64 x.k, .int .i64 x.n, .string x.s, .int .i64 x.a, .int .i64 x.b] 153)).alloc (Obj.cells (iv [x.n + 1000000000]).toArray 3)).heap.size := hB2.size
  go_enter Tryz.func135, Tryz.ntmps135
  go_wp2_with fail
  refine (putnums_any _ bs B (w.heap.size + 1) [x.n + 1000000000] _ (own_below own hB2) (by omega) hy2 (by simp; omega) (by simp) (by omega)).mono ?_
  rintro e w1 ⟨v1, rfl, o1, b1, s1⟩
  have hBB := (hB2.mono hB).trans b1
  have hSS := (Stays.below hB2).trans s1
  go_wp2
  go_ret
  exact ⟨v1, rfl, by rw [HW.out]; exact o1, hBB, hSS⟩


set_option maxRecDepth 100000 in
set_option maxHeartbeats 800000 in
theorem putparts_any (x : Nd) (hok : NdOk x) (hk : x.k = 5) : Puts 139 x := by
  intro vb bs B w own hB hb
  obtain ⟨_, ⟨hn1, hn2⟩, hs, ha, hb'⟩ := hok
  have HW : Hid (wireB x = [x.a, x.b].flatMap encI) := by unfold Hid wireB; (try rcases hk with hk | hk | hk) <;> simp [hk]
  clear hk
  obtain ⟨hB2, hx2, hy2⟩ := two_boxes w (Obj.cells #[.int .i64 x.k, .int .i64 x.n, .string x.s, .int .i64 x.a, .int .i64 x.b] 153) (Obj.cells (iv [x.a, x.b]).toArray 3)
  have hl2 : w.heap.size ≤ ((w.alloc (Obj.cells #[.int .i64 x.k, .int .i64 x.n, .string x.s, .int .i64 x.a, .int .i64 x.b] 153)).alloc (Obj.cells (iv [x.a, x.b]).toArray 3)).heap.size := hB2.size
  go_enter Tryz.func139, Tryz.ntmps139
  go_wp2_with fail
  refine (putnums_any _ bs B (w.heap.size + 1) [x.a, x.b] _ (own_below own hB2) (by omega) hy2 (by simp; omega) (by simp) (by omega)).mono ?_
  rintro e w1 ⟨v1, rfl, o1, b1, s1⟩
  have hBB := (hB2.mono hB).trans b1
  have hSS := (Stays.below hB2).trans s1
  go_wp2
  go_ret
  exact ⟨v1, rfl, by rw [HW.out]; exact o1, hBB, hSS⟩


set_option maxRecDepth 100000 in
set_option maxHeartbeats 800000 in
theorem putfun_any (x : Nd) (hok : NdOk x) (hk : x.k = 6) : Puts 141 x := by
  intro vb bs B w own hB hb
  obtain ⟨_, ⟨hn1, hn2⟩, hs, ha, hb'⟩ := hok
  have HW : Hid (wireB x = [x.n, x.a].flatMap encI) := by unfold Hid wireB; (try rcases hk with hk | hk | hk) <;> simp [hk]
  clear hk
  obtain ⟨hB2, hx2, hy2⟩ := two_boxes w (Obj.cells #[.int .i64 x.k, .int .i64 x.n, .string x.s, .int .i64 x.a, .int .i64 x.b] 153) (Obj.cells (iv [x.n, x.a]).toArray 3)
  have hl2 : w.heap.size ≤ ((w.alloc (Obj.cells #[.int .i64 x.k, .int .i64 x.n, .string x.s, .int .i64 x.a, .int .i64 x.b] 153)).alloc (Obj.cells (iv [x.n, x.a]).toArray 3)).heap.size := hB2.size
  go_enter Tryz.func141, Tryz.ntmps141
  go_wp2_with fail
  refine (putnums_any _ bs B (w.heap.size + 1) [x.n, x.a] _ (own_below own hB2) (by omega) hy2 (by simp; omega) (by simp) (by omega)).mono ?_
  rintro e w1 ⟨v1, rfl, o1, b1, s1⟩
  have hBB := (hB2.mono hB).trans b1
  have hSS := (Stays.below hB2).trans s1
  go_wp2
  go_ret
  exact ⟨v1, rfl, by rw [HW.out]; exact o1, hBB, hSS⟩


set_option maxRecDepth 100000 in
set_option maxHeartbeats 800000 in
theorem puta_any (x : Nd) (hok : NdOk x) (hk : x.k = 7) : Puts 143 x := by
  intro vb bs B w own hB hb
  obtain ⟨_, ⟨hn1, hn2⟩, hs, ha, hb'⟩ := hok
  have HW : Hid (wireB x = [x.a].flatMap encI) := by unfold Hid wireB; (try rcases hk with hk | hk | hk) <;> simp [hk]
  clear hk
  obtain ⟨hB2, hx2, hy2⟩ := two_boxes w (Obj.cells #[.int .i64 x.k, .int .i64 x.n, .string x.s, .int .i64 x.a, .int .i64 x.b] 153) (Obj.cells (iv [x.a]).toArray 3)
  have hl2 : w.heap.size ≤ ((w.alloc (Obj.cells #[.int .i64 x.k, .int .i64 x.n, .string x.s, .int .i64 x.a, .int .i64 x.b] 153)).alloc (Obj.cells (iv [x.a]).toArray 3)).heap.size := hB2.size
  go_enter Tryz.func143, Tryz.ntmps143
  go_wp2_with fail
  refine (putnums_any _ bs B (w.heap.size + 1) [x.a] _ (own_below own hB2) (by omega) hy2 (by simp; omega) (by simp) (by omega)).mono ?_
  rintro e w1 ⟨v1, rfl, o1, b1, s1⟩
  have hBB := (hB2.mono hB).trans b1
  have hSS := (Stays.below hB2).trans s1
  go_wp2
  go_ret
  exact ⟨v1, rfl, by rw [HW.out]; exact o1, hBB, hSS⟩


set_option maxRecDepth 100000 in
set_option maxHeartbeats 800000 in
theorem putnothing_any (x : Nd) (hk : x.k = 1) : Puts 131 x := by
  intro vb bs B w own hB hb
  have HW : Hid (wireB x = []) := by unfold Hid wireB; simp [hk]
  clear hk
  have hB0 : Below w.heap.size w (w.alloc (Obj.cells #[.int .i64 x.k, .int .i64 x.n, .string x.s, .int .i64 x.a, .int .i64 x.b] 153)) := (Below.refl _ _).alloc (Nat.le_refl _) _
  go_enter Tryz.func131, Tryz.ntmps131
  go_wp2
  go_ret
  exact ⟨vb, rfl, by rw [HW.out, List.append_nil]; exact own_below own hB0, hB0.mono hB, Stays.below hB0⟩

set_option maxRecDepth 100000 in
set_option maxHeartbeats 800000 in
theorem putname_any (x : Nd) (hok : NdOk x) (hk : x.k = 4) : Puts 137 x := by
  intro vb bs B w own hB hb
  obtain ⟨_, _, hs, _⟩ := hok
  have HW : Hid (wireB x = pt x.s) := by unfold Hid wireB; simp [hk]
  clear hk
  have hl1 : (pt x.s).length ≤ 21 := by rw [pt_length]; have := encI_length x.s.size; omega
  have hB0 : Below w.heap.size w (w.alloc (Obj.cells #[.int .i64 x.k, .int .i64 x.n, .string x.s, .int .i64 x.a, .int .i64 x.b] 153)) := (Below.refl _ _).alloc (Nat.le_refl _) _
  go_enter Tryz.func137, Tryz.ntmps137
  go_wp2_with fail
  refine (iptext_any x.s _ (by omega)).mono ?_
  rintro e wc ⟨vc, rfl, oc, bc⟩
  obtain ⟨ac, cc, rfl⟩ := own_form oc
  have hBc := hB0.trans (bc.mono hB0.size)
  have ho2 := own_below own hBc
  go_wp2_with (at_builtin; refine wpList_put2 rfl _ _ rfl rfl ho2 (by have := hBc.size; omega) rfl oc (by omega) ?_)
  intro vd wd od bd sd
  have hBB := (hBc.mono hB).trans bd
  have hSS := (Stays.below hBc).trans sd
  go_wp2
  go_ret
  exact ⟨vd, rfl, by rw [HW.out]; exact od, hBB, hSS⟩
end Go.Proofs.YtjnhocefnfmhmaaGreatDoor
