/-
  Texts that stood by themselves, laid into one.
-/
import Derived.Test.YtpkpednemkagiaaR8bM
import Derived.Test.YtpkpednemkagiaaNdM
import Derived.Test.YtpkpednemkagiaaToM
import Derived.Test.YtpkpednemkagiaaIPTextM
import Derived.Deep.RegionHeld
import Derived.Laws.BytesArg
import Derived.Lib.AppendStr
import Derived.Laws.IdiomStrings
/-
  Contracts of the laws' own helpers eqIntS, markIntS, heldIntS.
-/
namespace Go.Proofs.Ytpkpednemkagiaa
open Go.RowKit

/-- The slice value v reads in w as the ints zs. -/
def IRow (w : World) (v : Value) (zs : List Int) : Prop :=
  ∃ ao cap, v = .slice ao zs.length cap ∧ (zs.length ≤ cap ∧ (ao = none → cap = 0)) ∧ zs.length ≤ 9223372036854775807 ∧ (zs ≠ [] → ∃ g o, ao = some ⟨g, o, none⟩ ∧ g < w.heap.size ∧ ∀ i, i < zs.length → w.cell? ⟨g, o + i, none⟩ = some (.int .i64 (zs.getD i 0)))
theorem IRow.below {w w' : World} {v : Value} {zs : List Int} (h : IRow w v zs) (hb : Below w.heap.size w w') : IRow w' v zs := by
  obtain ⟨ao, cap, rfl, hc, hm, hcell⟩ := h
  refine ⟨ao, cap, rfl, hc, hm, fun hne => ?_⟩
  obtain ⟨g, o, rfl, hg, hcell⟩ := hcell hne
  exact ⟨g, o, rfl, Nat.lt_of_lt_of_le hg hb.size, fun i hi => (hb.cell (p := ⟨g, o + i, none⟩) hg).trans (hcell i hi)⟩
theorem IRow.of_own {w : World} {base : Nat} {v : Value} {zs : List Int} (h : w.ownsRow base 3 1 v zs.length (iv zs)) (hm : zs.length ≤ 9223372036854775807) : IRow w v zs := by
  rcases h.2 with ⟨rfl, h0⟩ | ⟨g, cap, cur, rfl, hb, hg, hnc, hcm, hcs, htake⟩
  · have : zs = [] := List.eq_nil_of_length_eq_zero h0
    subst this
    exact ⟨none, 0, rfl, by simp, by simp, fun h => absurd rfl h⟩
  · refine ⟨_, cap, rfl, ⟨hnc, fun h => by cases h⟩, hm, fun _ => ⟨g, 0, rfl, (Array.getElem?_eq_some_iff.1 hg).1, fun i hi => ?_⟩⟩
    have := h.cellAt i (by omega)
    rw [Nat.zero_add, this, iv_get zs i hi]

/-- What lies in a slice of ints behind markIntS from k on, when i of them are written and zs stood there. -/
def imarked (k : Int) (zs : List Int) (i : Nat) : List Int := (List.range i).map (fun (j : Nat) => k + (j : Int)) ++ zs.drop i
theorem imarked_zero (k : Int) (zs : List Int) : imarked k zs 0 = zs := by simp [imarked]
theorem imarked_length (k : Int) (zs : List Int) (i : Nat) (h : i ≤ zs.length) : (imarked k zs i).length = zs.length := by simp [imarked]; omega
theorem imarked_set (k : Int) (zs : List Int) (i : Nat) (h : i < zs.length) : (imarked k zs i).set i (k + (i : Int)) = imarked k zs (i + 1) := by
  unfold imarked
  rw [List.range_succ, List.map_append, List.set_append_right _ _ (by simp), List.drop_eq_getElem_cons h, List.append_assoc]
  have e : i - (List.map (fun (j : Nat) => k + (j : Int)) (List.range i)).length = 0 := by simp
  rw [e]
  rfl
theorem imarked_get (k : Int) (zs : List Int) (i : Nat) (h : i < zs.length) : (imarked k zs zs.length).getD i 0 = k + (i : Int) := by
  simp [imarked, List.getD, h]

end Go.Proofs.Ytpkpednemkagiaa

/-
  A machine but for its pool. No condition.
-/
namespace Go.Proofs.Ytpkpednemkagiaa
open Go.RowKit

/-- A machine but for its pool: where it is, its stack, frames, what waits, its state, what it asks, and with what. -/
structure Mc where
  p : Int
  s : Int
  e : Int
  d : Int
  t : Int
  q : Int
  r : Int

theorem two_boxes (w : World) (A B : Obj) : Below w.heap.size w ((w.alloc A).alloc B) ∧ ((w.alloc A).alloc B).heap[w.heap.size]? = some A ∧ ((w.alloc A).alloc B).heap[w.heap.size + 1]? = some B :=
  ⟨((Below.refl _ _).alloc (Nat.le_refl _) _).alloc (by simp) _, (heap_alloc_old _ _ (by simp)).trans (heap_alloc_new _ _), heap_alloc2_new _ _ _⟩

end Go.Proofs.Ytpkpednemkagiaa

/-
  What impl.putNums puts: the contract, with great bounds. No condition but bounds.
-/
namespace Go.Proofs.Ytpkpednemkagiaa
open Go.RowKit

/-- All blocks but those of bytes lie as they lay. -/
def Stays (w w' : World) : Prop := ∀ (j : Nat) (c : Array Value) (t : TypeId), t ≠ 5 → w.heap[j]? = some (.cells c t (0, 0)) → w'.heap[j]? = some (.cells c t (0, 0))
theorem Stays.refl (w : World) : Stays w w := fun _ _ _ _ h => h
theorem Stays.trans {w1 w2 w3 : World} (h : Stays w1 w2) (k : Stays w2 w3) : Stays w1 w3 := fun j c t ht hj => k j c t ht (h j c t ht hj)
theorem Stays.below {w w' : World} (hb : Below w.heap.size w w') : Stays w w' := fun j _ _ _ hj => (hb.block j (Array.getElem?_eq_some_iff.1 hj).1).trans hj
theorem Stays.grown {w w' : World} {B n : Nat} {vo : Value} {xs : List Value} (ho : w.ownsRow B 5 1 vo n xs) (hg : w.grownBy w' vo.ownBlock) : Stays w w' := fun j _ _ ht hj => (hg.block j (Array.getElem?_eq_some_iff.1 hj).1 (fun e => own_ne ho hj ht e.symm)).trans hj

/-- At v the bytes bs, made since B. -/
def OwnB (w : World) (B : Nat) (v : Value) (bs : List Int) : Prop := w.ownsRow B 5 1 v bs.length (bv bs)
theorem nums_take (zs : List Int) (k : Nat) (h : k < zs.length) : (zs.take (k + 1)).flatMap encI = (zs.take k).flatMap encI ++ encI (zs.getD k 0) := by
  rw [List.take_add_one, List.getElem?_eq_getElem h, Option.toList_some, List.flatMap_append]
  congr 1
  simp [List.getD_eq_getElem?_getD, List.getElem?_eq_getElem h]
theorem nums_len (zs : List Int) : (zs.flatMap encI).length ≤ 9 * zs.length := by
  induction zs with
  | nil => simp
  | cons z zs ih =>
    have := encI_length z
    rw [List.flatMap_cons, List.length_append, List.length_cons]
    omega

/-- 'append' of what was just put, onto a row that was made since B. -/
theorem wpList_put3 {ops : Array Oper} {rest : List Oper} {o : Oper} {a : Act} {w : World} {Q : Exit → Act → World → Prop} (hg : o.guard = none) (s y : Operand) (hop : o.op = Op.call { callee := Callee.builtin Builtin.append, args := #[s, y], argTypes := #[25, 25] })
    {B : Nat} {vo : Value} {bs : List Int} (hs : a.eval s = vo) (O : w.ownsRow B 5 1 vo bs.length (bv bs)) (hB : B ≤ w.heap.size) {ao : Option Addr} {c base : Nat} {zs : List Int} (hy : a.eval y = .slice ao zs.length c) (h2 : w.ownsRow base 5 1 (.slice ao zs.length c) zs.length (bv zs)) (hb : bs.length + zs.length ≤ 200000000)
    (hK : ∀ v' w', OwnB w' B v' (bs ++ zs) → Below B w w' → Stays w w' → wpList Try.prog ops Q rest (a.put o.dst v') w') : wpList Try.prog ops Q (o :: rest) a w := by
  obtain ⟨i0, hi, hz0, hz1, hz2⟩ := info_parts Try.infoU8
  refine wpList_append_own_any w hg s y 25 hop B 5 i0 (.int .u8 0) 1 1 Try.underlying25 hi hz0 hz1 hz2 rfl (by decide) vo bs.length (bv bs) hs O ao zs.length c (bv zs) hy (by rw [bv_length]; simp) (own_none8 h2) (own_news8 h2 (bv_length _)) (ints_oneCell .u8 _) (by unfold maxLen; omega) (by omega) hB ?_
  intro v' w' h3 h4
  exact hK v' w' (by unfold OwnB; rw [List.length_append, bv_append]; exact h3) ((Below.refl _ _).grown h4 hB (fun k hk => (O.lt k hk).1)) (Stays.grown O h4)

set_option maxRecDepth 100000 in
set_option maxHeartbeats 1600000 in
theorem putnums_big (vb : Value) (bs : List Int) (B g : Nat) (zs : List Int) (w : World) (own : w.ownsRow B 5 1 vb bs.length (bv bs)) (hB : B ≤ w.heap.size) (hg : w.heap[g]? = some (.cells (iv zs).toArray 3 (0, 0))) (hz : ∀ z ∈ zs, z ≤ 9223372036854775807) (hl : zs.length ≤ 100) (hb : bs.length ≤ 100000000) :
    Calls Try.prog 24 #[vb, .slice (some ⟨g, 0, none⟩) zs.length zs.length] w fun e w' => ∃ v', e = .returned v' ∧ w'.ownsRow B 5 1 v' (bs ++ zs.flatMap encI).length (bv (bs ++ zs.flatMap encI)) ∧ Below B w w' ∧ Stays w w' := by
  go_enter Try.func24, Try.ntmps24
  go_wp2_with fail
  go_loopw [0, 9] (fun vo i wr => ∃ k : Nat, k ≤ zs.length ∧ i = .int .i64 k ∧ wr.ownsRow B 5 1 vo (bs ++ (zs.take k).flatMap encI).length (bv (bs ++ (zs.take k).flatMap encI)) ∧ Below B w wr ∧ Stays w wr) (fun _ i _ => zs.length - (intOf i).toNat)
  case atStart => exact ⟨0, by omega, rfl, by simpa using own, Below.refl _ _, Stays.refl _⟩
  case round =>
    obtain ⟨k, hk, rfl, ho, hbel, hst⟩ := hrel
    by_cases hlt : k < zs.length
    · have hgr := hst g _ _ (by decide) hg
      have hgl : g < wr.heap.size := (Array.getElem?_eq_some_iff.1 hgr).1
      have c0 : wr.cell? ⟨g, k, none⟩ = some (.int .i64 (zs.getD k 0)) := by
        rw [cell_of_row wr _ k _ _ _ hgr]
        simpa using iv_get zs k hlt
      have hzk : zs.getD k 0 ≤ 9223372036854775807 := hz _ (by simp [List.getD_eq_getElem?_getD, List.getElem?_eq_getElem hlt])
      have HT : Hid ((zs.take (k + 1)).flatMap encI = (zs.take k).flatMap encI ++ encI (zs.getD k 0)) := nums_take zs k hlt
      have hll : (bs ++ (zs.take k).flatMap encI).length ≤ 100100000 := by
        have := nums_len (zs.take k)
        rw [List.length_append]
        rw [List.length_take] at this
        omega
      obtain ⟨z, hzz⟩ : ∃ z, Hid (zs.getD k 0 = z) := ⟨_, rfl⟩
      rw [hzz.out] at c0 hzk HT
      have hle := encI_length z
      obtain ⟨cs, hcs⟩ : ∃ cs, Hid (bs ++ (zs.take k).flatMap encI = cs) := ⟨_, rfl⟩
      rw [hcs.out] at ho hll
      go_wp2_with fail
      refine (iput_any z _ hzk).mono ?_
      rintro e wc ⟨vc, rfl, oc, bc⟩
      obtain ⟨ac, cc, rfl⟩ := own_form oc
      clear c0
      have ho2 := own_below ho bc
      go_wp2_with (at_builtin; refine wpList_put3 rfl _ _ rfl rfl ho2 (by have := hbel.size; have := bc.size; omega) rfl oc (by omega) ?_)
      intro vd wd od bd sd
      have hB2 := (hbel.trans (bc.mono (Nat.le_trans hB hbel.size))).trans bd
      have hS2 := (hst.trans (Stays.below bc)).trans sd
      have HE : Hid (cs ++ encI z = bs ++ (zs.take (k + 1)).flatMap encI) := by unfold Hid; rw [HT.out, ← List.append_assoc, hcs.out]
      clear oc bc ho2 ho bd sd hbel hst
      go_wp2
      go_roundw
      case rel => exact ⟨k + 1, by omega, by go_num, by rw [← HE.out]; exact od, hB2, hS2⟩
      case measure => simp [intOf]; omega
    · have hke : k = zs.length := by omega
      subst hke
      rw [List.take_length] at ho
      go_wp2
      go_ret
      exact ⟨u0, rfl, ho, hbel, hst⟩

end Go.Proofs.Ytpkpednemkagiaa

/-
  The law of a slice of bytes turned into a text, and the laws' own markText: the same text at the same number, in whatever world. Nothing else of the program; no condition.
-/
namespace Go.Proofs.Ytpkpednemkagiaa
open Go.RowKit

/-- A slice of bytes turned into a text. -/
theorem wpList_bytes_text {P : Program} (w : World) {ops : Array Oper} {rest : List Oper} {o : Oper} {a : Act} {Q : Exit → Act → World → Prop} (hg : o.guard = none) (x : Operand) (src dst e : TypeId) (ho : o.op = .convert src dst x)
    (hs : P.underlying src = some (.slice e)) (hd : P.underlying dst = some .string) (he : P.underlying e = some (.int .u8)) (ao : Option Addr) (n c : Nat) (xs : List Int) (hx : a.eval x = .slice ao n c) (hl : xs.length = n)
    (hc : n ≠ 0 → ∃ g o', ao = some ⟨g, o', none⟩ ∧ ∀ i, i < n → w.cell? ⟨g, o' + i, none⟩ = some (.int .u8 (xs.getD i 0)))
    (h : wpList P ops Q rest (a.put o.dst (.string (strOfNums xs))) w) : wpList P ops Q (o :: rest) a w := by
  refine wpList_plain hg fun K hK => ?_
  have hrun : (convert src dst (.slice ao n c)).run P w = .ok (.string (strOfNums xs)) w := by
    by_cases h0 : n = 0
    · subst h0
      have : xs = [] := List.eq_nil_of_length_eq_zero hl
      subst this
      cases ao with
      | none => exact run_convert_bytes_nil w src e hs he 0 c dst hd
      | some ad => exact run_convert_bytes_back w src dst e ad c [] hs he hd (fun j hj => absurd hj (by simp))
    · obtain ⟨g, o', rfl, hcell⟩ := hc h0
      exact run_convert_bytes_arg w src e hs he g o' n c xs hl hcell dst hd
  unfold Oper.wp
  simp [execOp, ho, hx, hrun, Result.andThen]
  exact hK _ _ h

/-- The digits of k ahead of out. -/
def mtGo : Nat → Nat → ByteArray → ByteArray
  | 0, _, out => out
  | f + 1, k, out => if k = 0 then out else mtGo f (k / 10) (strOfNums [48 + (k : Int) % 10] ++ out)
/-- What markText tells of a number. -/
def mt (k : Int) : ByteArray := if k ≤ 0 then ⟨#[109, 48]⟩ else ⟨#[109]⟩ ++ mtGo k.toNat k.toNat ⟨#[]⟩
theorem mtGo_step (f k : Nat) (out : ByteArray) (h : 0 < k) (hf : k ≤ f) : mtGo f k out = mtGo (f - 1) (k / 10) (strOfNums [48 + (k : Int) % 10] ++ out) := by
  cases f with
  | zero => omega
  | succ f => simp only [mtGo, if_neg (by omega : ¬ k = 0)]; rfl
theorem mtGo_end (f : Nat) (out : ByteArray) : mtGo f 0 out = out := by
  cases f <;> simp [mtGo]

theorem digit_size (x : Int) : (strOfNums [x]).size = 1 := rfl

end Go.Proofs.Ytpkpednemkagiaa
