/-
  Texts that stood by themselves, laid into one.
-/
import Derived.Test.YtmgjefkelohocaaDoorSNumM
import Derived.Test.YtmgjefkelohocaaDoorRdM
import Derived.Test.YtmgjefkelohocaaDoorSAddM
import Derived.Test.YtmgjefkelohocaaDoorSReadM
import Derived.Deep.RegionLaw
import Derived.Lib.AtoiAllCases
import Derived.Shelf.LaysM
import Derived.Shelf.Strconv.Itoa3
import Derived.Test.YtmgjefkelohocaaDoorProg
import Derived.Test.YtmgjefkelohocaaDoorDReadM
import Derived.Lib.AppendIntMem
/-
  The memory of impl's text reader, and the contract of its put. No condition beyond the bounds that are said.
-/
namespace Go.Proofs.YtmgjefkelohocaaDoor
open Go.RowKit

/-- What stays while the reader reads: all below base, and every string that is gone through. -/
structure RF (base : Nat) (w w' : World) : Prop where
  below : Below base w w'
  iter : ∀ (k : Nat) (s : ByteArray) (p : Nat), w.heap[k]? = some (.stringIter s p) → w'.heap[k]? = some (.stringIter s p)
theorem RF.refl (base : Nat) (w : World) : RF base w w := ⟨Below.refl _ _, fun _ _ _ h => h⟩
theorem RF.trans {base : Nat} {w w1 w2 : World} (h : RF base w w1) (h' : RF base w1 w2) : RF base w w2 :=
  ⟨h.below.trans h'.below, fun k s p e => h'.iter k s p (h.iter k s p e)⟩
theorem RF.of_below {base : Nat} {w w' : World} (h : Below w.heap.size w w') (hb : base ≤ w.heap.size) : RF base w w' :=
  ⟨h.mono hb, fun k _ _ e => (h.block k (Array.getElem?_eq_some_iff.1 e).1).trans e⟩
theorem RF.of_grown {base n k : Nat} {e : TypeId} {w w' : World} {v : Value} {l : List Value} (ho : w.ownsRow base e k v n l) (hb : base ≤ w.heap.size) (hg : w.grownBy w' v.ownBlock) : RF base w w' := by
  refine ⟨(Below.refl _ w).grown hg hb (fun q hq => (ho.lt q hq).1), fun j s p e => (hg.block j (Array.getElem?_eq_some_iff.1 e).1 ?_).trans e⟩
  intro q
  rcases ho.2 with ⟨rfl, _⟩ | ⟨g, cap, cur, rfl, _, hgg, _⟩
  · cases q
  · simp only [Value.ownBlock, Option.some.injEq] at q
    subst q
    rw [e] at hgg
    cases hgg
theorem RF.of_set {base b o : Nat} {w : World} {cs : Array Value} {t : TypeId} (hb : w.heap[b]? = some (.cells cs t (0, 0))) (hle : base ≤ b) (v : Value) : RF base w (w.setCell ⟨b, o, none⟩ v) := by
  refine ⟨(Below.refl _ w).setCell (p := ⟨b, o, none⟩) (by simpa using hle) v, fun j s p e => (heap_setCell_other w ⟨b, o, none⟩ j v (fun q => ?_)).trans e⟩
  subst q
  rw [hb] at e
  cases e

/-- The reader's memory: block P holds the nodes and the open lists. -/
structure Rdr (base P : Nat) (w : World) (vn vl : Value) (st : List Rec) (lv : Value) (s : RS) : Prop where
  blk : w.heap[P]? = some (.cells #[vn, vl] 84 (0, 0))
  nod : w.ownsRow base 55 5 vn s.ns.length (ncs s.ns)
  stk : IStk base w vl (st ++ [(s.a, lv, s.vs)])
  lo : Hid (st.map (fun e => (e.1, e.2.2)) = s.lo)
  le : base ≤ P
theorem Rdr.below {base P : Nat} {w w' : World} {vn vl lv : Value} {st : List Rec} {s : RS} (h : Rdr base P w vn vl st lv s) (hb : Below w.heap.size w w') : Rdr base P w' vn vl st lv s :=
  ⟨(hb.block _ (Array.getElem?_eq_some_iff.1 h.blk).1).trans h.blk, own_below h.nod hb, h.stk.below hb, h.lo, h.le⟩

set_option maxRecDepth 100000 in
set_option maxHeartbeats 3200000 in
theorem rput_any (base P : Nat) (vn vl lv v : Value) (st : List Rec) (s : RS) (ys : List Nd) (w : World) (D : Rdr base P w vn vl st lv s) (R : NRow w v ys) (hy : 0 < ys.length) (hn : s.ns.length + ys.length ≤ 1048576) (hv : s.vs.length ≤ 1048576) (hst : st.length ≤ 1048576) (hb : base ≤ w.heap.size) :
    Calls Tryd.prog 95 #[.pointer (some ⟨P, 0, none⟩), v] w fun e w' => e = .returned (.tuple #[]) ∧ (∃ vn' lv', Rdr base P w' vn' vl st lv' (s.put ys)) ∧ RF base w w' := by
  obtain ⟨i0, hi, hz0, hz1, hz2⟩ := info_parts Tryd.infoN
  obtain ⟨iI, hiI, hzI0, hzI1, hzI2⟩ := info_parts Tryd.infoI2
  have R' := R
  obtain ⟨ao, cap, rfl, _⟩ := R'
  obtain ⟨blk, nod, stk, lo, le⟩ := D
  obtain ⟨an, cn, rfl⟩ := own_form nod
  have hPl := (Array.getElem?_eq_some_iff.1 blk).1
  have c0 : w.cell? ⟨P, 0, none⟩ = some (.slice an s.ns.length cn) := by rw [cell_of_row w _ 0 _ _ _ blk]; rfl
  obtain ⟨g, capo, hoe, hgb, hgl⟩ := stk.recs.form (by simp)
  rw [List.length_append, List.length_singleton] at hoe
  subst hoe
  go_enter Tryd.func95, Tryd.ntmps95
  go_wp2_with (at_builtin; refine wpList_append_own_any _ rfl _ _ 24 rfl base 55 i0 _ 5 48 Tryd.underlying24 hi hz0 hz1 hz2 rfl (by decide) _ _ _ rfl nod ao ys.length cap (ncs ys) rfl (by rw [ncs_length]) R.nilcap R.cells (ncs_one ys) (by unfold maxLen; omega) (by omega) hb ?_)
  intro v1 w1 own1 grow1
  have nodne : ∀ {j : Nat} {cs : Array Value} {t : TypeId}, w.heap[j]? = some (.cells cs t (0, 0)) → t ≠ 55 → some j ≠ (Value.slice an s.ns.length cn).ownBlock := fun h ht e => own_ne nod h ht e.symm
  have blk1 := (grow1.block P hPl (nodne blk (by decide))).trans blk
  have stk1 : IStk base w1 _ _ := stk.same fun j hj => by
    rcases hj with ⟨cs, q⟩ | ⟨cs, q⟩ <;> exact grow1.block j (Array.getElem?_eq_some_iff.1 q).1 (nodne q (by decide))
  have F1 : RF base w w1 := RF.of_grown nod hb grow1
  obtain ⟨m, hm⟩ : ∃ m, Hid (m = s.ns.length + ys.length) := ⟨_, rfl⟩
  rw [← hm.out] at own1
  obtain ⟨a1, k1, rfl⟩ := own_form own1
  have d0 : w1.cell? ⟨P, 0, none⟩ = some (.slice an s.ns.length cn) := by rw [cell_of_row w1 _ 0 _ _ _ blk1]; rfl
  have f0 : w1.frozen? ⟨P, 0, none⟩ = false := frozen_of_row w1 _ 0 _ _ blk1
  have own1ne : (Value.slice a1 m k1).ownBlock ≠ some P := own_ne own1 blk1 (by decide)
  have blk2 := heap_setCell_same w1 P 0 _ _ (.slice a1 m k1) blk1
  have F2 := F1.trans (RF.of_set (o := 0) blk1 le (.slice a1 m k1))
  have own2 := ownsRow_setCell_other own1 (a := ⟨P, 0, none⟩) own1ne (.slice a1 m k1)
  have stk2 : IStk base (w1.setCell ⟨P, 0, none⟩ (.slice a1 m k1)) _ _ := stk1.same fun j hj => by
    refine heap_setCell_other w1 ⟨P, 0, none⟩ j _ (fun q => ?_)
    subst q
    rcases hj with ⟨cs, q⟩ | ⟨cs, q⟩ <;> (rw [blk1] at q; cases q)
  have hs2 := F2.below.size
  go_wp2_with fail
  generalize w1.setCell ⟨P, 0, none⟩ (.slice a1 m k1) = w2 at blk2 F2 own2 stk2 hs2 ⊢
  clear own1 blk1 stk1 F1 grow1 nodne d0 f0 c0 nod stk blk own1ne
  obtain ⟨n1, hn1⟩ : ∃ n1, Hid (n1 = st.length + 1) := ⟨_, rfl⟩
  rw [← hn1.out] at blk2 stk2
  have b1 : w2.cell? ⟨P, 0 + 1, none⟩ = some (.slice (some ⟨g, 0, none⟩) n1 capo) := by rw [cell_of_row w2 _ 1 _ _ _ blk2]; rfl
  have hd1 : (st.length : Int) < n1 := by have := hn1.out; omega
  have hd2 : (n1 : Int) - 1 = st.length := by have := hn1.out; omega
  have hd3 : IntKind.i64.wrap (st.length : Int) = st.length := by rw [IntKind.wrap_i64]; omega
  have hd4 : (0 : Int) ≤ st.length := by omega
  go_quiet (fail)
  clear b1 hd1 hd2 hd3 hd4
  obtain ⟨X, hX⟩ : ∃ X : Int, Hid ((m : Int) - 1 = X) := ⟨_, rfl⟩
  have hX1 : (m : Int) - 1 = X := hX.out
  have hX2 : IntKind.i64.wrap X = X := by have := hX.out; have := hm.out; rw [IntKind.wrap_i64]; omega
  have hb2 : Below w2.heap.size w2 (w2.drewN nq) := ⟨rfl, rfl, rfl, Nat.le_refl _, fun _ _ => rfl⟩
  have blk3 := (hb2.block P (Array.getElem?_eq_some_iff.1 blk2).1).trans blk2
  have stk3 := stk2.below hb2
  have own3 := own_below own2 hb2
  have F3 := F2.trans (RF.of_below hb2 (by omega))
  have hs3 := F3.below.size
  generalize w2.drewN nq = w3 at blk3 stk3 own3 F3 hs3 ⊢
  clear hb2 blk2 stk2 own2 F2 hs2
  have BA : Below w3.heap.size w3 (w3.alloc (Obj.cells #[.int .i64 X] 3)).drew := ((Below.refl w3.heap.size w3).alloc (Nat.le_refl _) (Obj.cells #[.int .i64 X] 3)).drew
  have SA := stk3.below BA
  have own0 : (w3.alloc (Obj.cells #[.int .i64 X] 3)).drew.ownsRow base 3 1 lv s.vs.length (iv s.vs) := SA.own (s.a, lv, s.vs) (by simp)
  have SR3 := stk3.recs
  have SRA := SA.recs
  rw [List.length_append, List.length_singleton, ← hn1.out] at SR3 SRA
  have cT3 := SR3.cellAt (st.length * 2 + 1) (by have := hn1.out; omega)
  rw [(stC_at st (s.a, lv, s.vs) []).2] at cT3
  have cTA : (w3.alloc (Obj.cells #[.int .i64 X] 3)).cell? ⟨g, st.length * 2 + 1, none⟩ = _ := SRA.cellAt (st.length * 2 + 1) (by have := hn1.out; omega)
  rw [(stC_at st (s.a, lv, s.vs) []).2] at cTA
  have b0 : w3.cell? ⟨P, 0, none⟩ = some (.slice a1 m k1) := by rw [cell_of_row w3 _ 0 _ _ _ blk3]; rfl
  go_wp2_with fail
  go_region_law (refine step_append_lies _ rfl _ _ 34 rfl base 3 iI _ 1 8 Tryd.underlying34 hiI hzI0 hzI1 hzI2 rfl (by decide) _ _ _ rfl own0 ⟨w3.heap.size, 0, none⟩ 1 1 [.int .i64 X] rfl rfl (World.news_of_block (cs := #[.int .i64 X]) (t := 3) (fr := (0, 0)) (heap_alloc_new w3 _)) (by simp [Value.oneCell']) (by omega) (by unfold maxLen; omega) (by omega) (by simp; omega) (w3.heap.size + 1) (by simp) ?_; intro g9 cap9 w9 hown hgrow hat hgl9; have SR9 := SRA.kept hgrow (own_apart SRA own0 (by decide)); have c9 := SR9.cellAt (st.length * 2 + 1) (by have := hn1.out; omega); rw [(stC_at st (s.a, lv, s.vs) []).2] at c9; have f9 := SR9.frozenAt (st.length * 2 + 1))
  all_goals
    have S9 := SA.more hown hgrow (fun q hq => by
      simp only [Value.ownBlock, Option.some.injEq] at hq
      subst hq
      rcases hat with e | e
      · exact .inl e
      · exact .inr (by simp; omega))
    have hPl3 : P < w3.heap.size := (Array.getElem?_eq_some_iff.1 blk3).1
    have blkA := (BA.block P hPl3).trans blk3
    have blk9 := (hgrow.block P (by simp; omega) (fun e => own_ne own0 blkA (by decide) e.symm)).trans blkA
    have hgne : g ≠ P := by
      intro e
      exact own_ne SRA blkA (by decide) (by rw [e]; rfl)
    have blk10 := (heap_setCell_other w9 ⟨g, st.length * 2 + 1, none⟩ P (.slice (some ⟨g9, 0, none⟩) (s.vs.length + 1) cap9) (fun e => hgne e.symm)).trans blk9
    have own9 := (own_below own3 BA).kept hgrow (own_apart (own_below own3 BA) own0 (by decide))
    have own10 := ownsRow_setCell_other own9 (a := ⟨g, st.length * 2 + 1, none⟩) (fun e => by
      rcases own_apart own9 SR9 (by decide) with q | q
      · rw [e] at q; cases q
      · exact q e) (.slice (some ⟨g9, 0, none⟩) (s.vs.length + 1) cap9)
    have F4 : RF base w3 (w3.alloc (Obj.cells #[.int .i64 X] 3)).drew := RF.of_below BA (by omega)
    have F9 := (F3.trans F4).trans (RF.of_grown own0 (by simp; omega) hgrow)
    obtain ⟨cg, hcg⟩ : ∃ cg, w9.heap[g]? = some (.cells cg 81 (0, 0)) := by
      rcases SR9.2 with ⟨e, _⟩ | ⟨g', c', cur, e, _, hh, _⟩
      · cases e
      · simp only [Value.slice.injEq, Option.some.injEq, Addr.mk.injEq, and_true] at e
        rw [e.1]
        exact ⟨cur, hh⟩
    have F10 := F9.trans (RF.of_set (o := st.length * 2 + 1) hcg hgb (.slice (some ⟨g9, 0, none⟩) (s.vs.length + 1) cap9))
    have hxe : X = ((s.ns.length + ys.length - 1 : Nat) : Int) := by have := hX.out; have := hm.out; omega
    have hme := hm.out
    have hne := hn1.out
    clear SA own0 SRA SR9 hown hgrow hat own3 blk3 own9 blk9 blkA F9 F4 F3 c9 f9 cT3 cTA b0 hX hm hn1
    go_wp2_with fail
    go_end0
    refine ⟨rfl, ⟨.slice a1 m k1, .slice (some ⟨g9, 0, none⟩) (s.vs.length + 1) cap9, ⟨?_, ?_, ?_, lo, le⟩⟩, F10⟩
    · rw [hne] at blk10
      exact blk10
    · have : (s.put ys).ns.length = m := by rw [hme]; simp [RS.put]
      rw [this]
      simpa [RS.put, ncs_append] using own10
    · rw [hne, hxe] at S9
      exact S9
end Go.Proofs.YtmgjefkelohocaaDoor

/-
  What strconv.Atoi tells of the texts that are numbers: plain mathematics. Nothing of the program; no condition.
-/
namespace Go.Proofs.YtmgjefkelohocaaDoor
open Go.RowKit

theorem le_dval (l : List UInt8) : ∀ a, a ≤ dval l a := by
  induction l with
  | nil => intro a; exact Nat.le_refl _
  | cons c l ih => intro a; exact Nat.le_trans (by omega) (ih _)
theorem parse_digs (l : List UInt8) : ∀ a, (∀ c ∈ l, isDig c = true) → dval l a < 1000000000000000000 → Lib.parseUint10 a l = .ok (dval l a) := by
  induction l with
  | nil => intro a _ _; rfl
  | cons c l ih =>
    intro a h hd
    have hc := h c (by simp)
    simp only [isDig, Bool.and_eq_true, decide_eq_true_eq] at hc
    simp only [dval] at hd ⊢
    have h1 := le_dval l (10 * a + (c.toNat - 48))
    simp only [Lib.parseUint10]
    rw [if_pos hc, if_neg (by omega), if_neg (by omega), show a * 10 + (c.toNat - 48) = 10 * a + (c.toNat - 48) by omega]
    exact ih _ (fun d hd => h d (by simp [hd])) hd
theorem parse_dec (n : Nat) (h : n < 1000000000000000000) : Lib.parseMag (Lib.decDigits n) = .ok n := by
  unfold Lib.parseMag
  rw [if_neg (dec_ne n), parse_digs _ 0 (dec_dig n) (by rw [dval_dec]; exact h), dval_dec]
theorem atoi_itoa (x : Int) (h : -1000000000 ≤ x ∧ x ≤ 1000000000) : Lib.atoiAll (Lib.itoa x) = .ok x := by
  have hp := parse_dec x.natAbs (by omega)
  unfold Lib.itoa
  split
  · rename_i h0
    show Lib.atoiAll (45 :: Lib.decDigits x.natAbs) = _
    rw [Lib.atoiAll_minus, hp]
    unfold Lib.signed
    simp only
    rw [if_neg (by omega)]
    congr 1
    omega
  · rename_i h0
    rw [show x.toNat = x.natAbs by omega]
    cases hd : Lib.decDigits x.natAbs with
    | nil => exact absurd hd (dec_ne _)
    | cons c r =>
      have hc := dec_dig x.natAbs c (by rw [hd]; simp)
      simp only [isDig, Bool.and_eq_true, decide_eq_true_eq] at hc
      rw [hd] at hp
      rw [Lib.atoiAll_plain c r (by omega) (by omega), hp]
      unfold Lib.signless
      simp only
      rw [if_neg (by omega)]
      congr 1
      omega
theorem atoi_bad {l : List UInt8} (h : ∀ x, Lib.atoiAll l ≠ .ok x) : numB l = false := by
  rw [Bool.eq_false_iff]
  intro hn
  obtain ⟨x, hx, rfl⟩ := (numB_iff l).1 hn
  exact h x (atoi_itoa x hx)
theorem atoi_ok {l : List UInt8} {x : Int} (h : Lib.atoiAll l = .ok x) : numB l = (decide (-1000000000 ≤ x) && decide (x ≤ 1000000000) && (Lib.itoa x == l)) ∧ (numB l = true → x = tval l) := by
  have key : numB l = true → (-1000000000 ≤ x ∧ x ≤ 1000000000) ∧ Lib.itoa x = l := by
    intro hn
    obtain ⟨y, hy, rfl⟩ := (numB_iff l).1 hn
    rw [atoi_itoa y hy] at h
    injection h with h
    subst h
    exact ⟨hy, rfl⟩
  refine ⟨?_, fun hn => ?_⟩
  · rw [Bool.eq_iff_iff]
    constructor
    · intro hn
      obtain ⟨⟨h1, h2⟩, h3⟩ := key hn
      simp only [Bool.and_eq_true, decide_eq_true_eq, beq_iff_eq]
      exact ⟨⟨h1, h2⟩, h3⟩
    · intro hn
      simp only [Bool.and_eq_true, decide_eq_true_eq, beq_iff_eq] at hn
      exact (numB_iff l).2 ⟨x, hn.1, hn.2⟩
  · rw [← (key hn).2, tval_itoa]
end Go.Proofs.YtmgjefkelohocaaDoor

/-
  The contract of the library function strconv.Itoa at this program, by one application. The table of powers of ten reads as it is laid.
-/
namespace Go.Proofs
open Go.Shelf
def Tryd.laysM171_ren : Go.Shelf.Ren := ⟨fun | 171 => 85 | 243 => 92 | 246 => 97 | 283 => 101 | 284 => 102 | 285 => 103 | 286 => 104 | 129 => 108 | 317 => 107 | 318 => 109 | 319 => 110 | 320 => 111 | 337 => 114 | 338 => 115 | n => n, fun | 3 => 3 | 9 => 9 | 2 => 2 | 4 => 4 | 171 => 134 | 0 => 0 | 53 => 135 | 37 => 22 | 5 => 5 | 173 => 138 | 212 => 146 | 51 => 147 | 20 => 20 | 213 => 148 | 46 => 122 | 232 => 159 | 233 => 160 | n => n, fun | 17 => 0 | 18 => 1 | 19 => 2 | n => n⟩
theorem Tryd.laysM171 : Go.Proofs.LaysM.n171 Tryd.prog Tryd.laysM171_ren := {
  mixed := by kernel_rfl
  f129 := Tryd.func108.trans (congrArg some (by kernel_rfl))
  f171 := Tryd.func85.trans (congrArg some (by kernel_rfl))
  f243 := Tryd.func92.trans (congrArg some (by kernel_rfl))
  f246 := Tryd.func97.trans (congrArg some (by kernel_rfl))
  f283 := Tryd.func101.trans (congrArg some (by kernel_rfl))
  f284 := Tryd.func102.trans (congrArg some (by kernel_rfl))
  f285 := Tryd.func103.trans (congrArg some (by kernel_rfl))
  f286 := Tryd.func104.trans (congrArg some (by kernel_rfl))
  f317 := Tryd.func107.trans (congrArg some (by kernel_rfl))
  f318 := Tryd.func109.trans (congrArg some (by kernel_rfl))
  f319 := Tryd.func110.trans (congrArg some (by kernel_rfl))
  f320 := Tryd.func111.trans (congrArg some (by kernel_rfl))
  f337 := Tryd.func114.trans (congrArg some (by kernel_rfl))
  f338 := Tryd.func115.trans (congrArg some (by kernel_rfl))
  t0 := Tryd.underlying0
  a0 := Tryd.isAgg0
  z0 := Tryd.sizeOf0
  v0 := Tryd.zeroValue0
  t2 := Tryd.underlying2
  a2 := Tryd.isAgg2
  z2 := Tryd.sizeOf2
  v2 := Tryd.zeroValue2
  t3 := Tryd.underlying3
  a3 := Tryd.isAgg3
  z3 := Tryd.sizeOf3
  v3 := Tryd.zeroValue3
  t4 := Tryd.underlying4
  a4 := Tryd.isAgg4
  z4 := Tryd.sizeOf4
  v4 := Tryd.zeroValue4
  t5 := Tryd.underlying5
  a5 := Tryd.isAgg5
  z5 := Tryd.sizeOf5
  v5 := Tryd.zeroValue5
  t9 := Tryd.underlying9
  a9 := Tryd.isAgg9
  z9 := Tryd.sizeOf9
  v9 := Tryd.zeroValue9
  t20 := Tryd.underlying20
  a20 := Tryd.isAgg20
  z20 := Tryd.sizeOf20
  v20 := Tryd.zeroValue20
  t37 := Tryd.underlying22
  a37 := Tryd.isAgg22
  z37 := Tryd.sizeOf22
  v37 := Tryd.zeroValue22
  t46 := Tryd.underlying122
  a46 := Tryd.isAgg122
  z46 := Tryd.sizeOf122
  v46 := Tryd.zeroValue122
  t51 := Tryd.underlying147
  a51 := Tryd.isAgg147
  z51 := Tryd.sizeOf147
  v51 := Tryd.zeroValue147
  t53 := Tryd.underlying135
  a53 := Tryd.isAgg135
  z53 := Tryd.sizeOf135
  v53 := Tryd.zeroValue135
  t171 := Tryd.underlying134
  a171 := Tryd.isAgg134
  z171 := Tryd.sizeOf134
  v171 := Tryd.zeroValue134
  t173 := Tryd.underlying138
  a173 := Tryd.isAgg138
  z173 := Tryd.sizeOf138
  v173 := Tryd.zeroValue138
  t212 := Tryd.underlying146
  a212 := Tryd.isAgg146
  z212 := Tryd.sizeOf146
  v212 := Tryd.zeroValue146
  t213 := Tryd.underlying148
  a213 := Tryd.isAgg148
  z213 := Tryd.sizeOf148
  t232 := Tryd.underlying159
  a232 := Tryd.isAgg159
  z232 := Tryd.sizeOf159
  v232 := Tryd.zeroValue159
  t233 := Tryd.underlying160
  a233 := Tryd.isAgg160
  z233 := Tryd.sizeOf160
  v233 := Tryd.zeroValue160
  g17 := by kernel_rfl
  g18 := by kernel_rfl
  g19 := by kernel_rfl
  i0 := by kernel_rfl
  i2 := by kernel_rfl
  i3 := by kernel_rfl
  i4 := by kernel_rfl
  i5 := by kernel_rfl
  i9 := by kernel_rfl
  i20 := by kernel_rfl
  i37 := by kernel_rfl
  i46 := by kernel_rfl
  i51 := by kernel_rfl
  i53 := by kernel_rfl
  i171 := by kernel_rfl
  i173 := by kernel_rfl
  i212 := by kernel_rfl
  i232 := by kernel_rfl
  i233 := by kernel_rfl
  m17 := by kernel_rfl
  m18 := by kernel_rfl
  m19 := by kernel_rfl }
open Go.RowKit Go.Sort Go.Lib in
theorem Tryd.strconv_Itoa (n : Int) (h0 : -9223372036854775808 ≤ n) (h1 : n ≤ 9223372036854775807) (w : World) (htab : Lib.TabIs Tryd.prog w "internal/strconv.uint64pow10" .u64 Lib.pow10Tab) :
    Calls Tryd.prog 85 #[.int .i64 n] w fun e w' => e = .returned (.string ⟨(Lib.itoa n).toArray⟩) ∧ ∃ k os, w' = grow (w.drewN k) os := Any.strconv_Itoa Tryd.laysM171 n h0 h1 w htab
end Go.Proofs

/-
  The contract of impl.nodeWord: a node that is no pair, as it is written. The table of powers of ten reads as it is laid.
-/
namespace Go.Proofs.YtmgjefkelohocaaDoor
open Go.RowKit

/-- The library's table of powers of ten reads as it is laid, whatever is done from B on. -/
def Pow (B : Nat) (w : World) : Prop := Lib.TabBelow Tryd.prog B w "internal/strconv.uint64pow10" .u64 Lib.pow10Tab
theorem Pow.on {B : Nat} {w w' : World} (h : Pow B w) (hb : Below B w w') : Pow B w' := Lib.TabBelow.on h hb

set_option maxRecDepth 100000 in
set_option maxHeartbeats 1600000 in
theorem nodeword_any (x : Nd) (B : Nat) (w : World) (hB : B ≤ w.heap.size) (hT : Pow B w) (hk : 1 ≤ x.k ∧ x.k ≤ 9) (hn : -1000000000 ≤ x.n ∧ x.n ≤ 1000000000) :
    Calls Tryd.prog 69 #[.agg #[.int .i64 x.k, .int .i64 x.n, .string x.s, .int .i64 x.a, .int .i64 x.b]] w fun e w' => e = .returned (.string (tx (wordL x))) ∧ Below w.heap.size w w' := by
  obtain ⟨k, n, s, a, b⟩ := x
  dsimp only at hk hn ⊢
  have hB0 : Below w.heap.size w (w.alloc (Obj.cells #[.int .i64 k, .int .i64 n, .string s, .int .i64 a, .int .i64 b] 55)) := (Below.refl _ _).alloc (Nat.le_refl _) _
  have HT := (hT.on (hB0.mono hB)).here
  go_enter Tryd.func69, Tryd.ntmps69
  go_wp2_with fail
  refine (Tryd.strconv_Itoa n (by omega) (by omega) _ HT).mono ?_
  rintro e w1 ⟨rfl, q, os, hw1⟩
  have hb1 : Below (w.alloc (Obj.cells #[.int .i64 k, .int .i64 n, .string s, .int .i64 a, .int .i64 b] 55)).heap.size (w.alloc (Obj.cells #[.int .i64 k, .int .i64 n, .string s, .int .i64 a, .int .i64 b] 55)) w1 := by rw [hw1]; exact Lib.below_grow _ _ (Nat.le_refl _) q os
  have hx1 : w1.heap[w.heap.size]? = some (.cells #[.int .i64 k, .int .i64 n, .string s, .int .i64 a, .int .i64 b] 55 (0, 0)) := (hb1.block _ (by simp)).trans (heap_alloc_new _ _)
  have hB1 := hB0.trans (hb1.mono hB0.size)
  have c0 : w1.cell? ⟨w.heap.size, 0, none⟩ = some (.int .i64 k) := by rw [cell_of_row w1 _ 0 _ _ _ hx1]; rfl
  have c1 : w1.cell? ⟨w.heap.size, 0 + 1, none⟩ = some (.int .i64 n) := by rw [cell_of_row w1 _ 1 _ _ _ hx1]; rfl
  have c2 : w1.cell? ⟨w.heap.size, 0 + 2, none⟩ = some (.string s) := by rw [cell_of_row w1 _ 2 _ _ _ hx1]; rfl
  clear hw1 hb1 hx1 hB0
  have hc : k = 1 ∨ k = 2 ∨ k = 3 ∨ k = 4 ∨ k = 5 ∨ k = 6 ∨ k = 7 ∨ k = 8 ∨ k = 9 := by omega
  have hi : (⟨(Lib.itoa n).toArray⟩ : ByteArray) = tx (Lib.itoa n) := rfl
  rw [hi]
  rcases hc with rfl | rfl | rfl | rfl | rfl | rfl | rfl | rfl | rfl
  · go_wp2
    go_ret
    exact ⟨retS (by simp [wordL, tx]), hB1⟩
  · by_cases h0 : n = 0
    · go_wp2
      go_ret
      exact ⟨retS (by simp [wordL, tx, h0]), hB1⟩
    · go_wp2
      go_ret
      exact ⟨retS (by simp [wordL, tx, h0]), hB1⟩
  · go_wp2
    go_ret
    exact ⟨retS (by simp [wordL]), hB1⟩
  · go_wp2
    go_ret
    exact ⟨retS (by simp [wordL, tx]), hB1⟩
  · go_wp2
    go_ret
    exact ⟨retS (by simp [wordL, tx]), hB1⟩
  · have ha : ∀ w : World, (Op.stringOp .add ⟨#[35, 102, 117, 110]⟩ (tx (Lib.itoa n))).run Tryd.prog w = .ok (.string (tx ([35, 102, 117, 110] ++ Lib.itoa n))) w := fun w => by
      rw [run_string_add_sum w _ _ (by rw [tx_size]; have := itoa_len hn; show 4 + _ ≤ _; omega), ← tx_append]
      rfl
    go_wp2
    go_ret
    exact ⟨retS (by simp [wordL]), hB1⟩
  · have ha : ∀ w : World, (Op.stringOp .add ⟨#[35, 107, 111, 110, 116]⟩ (tx (Lib.itoa n))).run Tryd.prog w = .ok (.string (tx ([35, 107, 111, 110, 116] ++ Lib.itoa n))) w := fun w => by
      rw [run_string_add_sum w _ _ (by rw [tx_size]; have := itoa_len hn; show 5 + _ ≤ _; omega), ← tx_append]
      rfl
    go_wp2
    go_ret
    exact ⟨retS (by simp [wordL]), hB1⟩
  · have ha : ∀ w : World, (Op.stringOp .add ⟨#[35, 112, 114, 105, 109]⟩ (tx (Lib.itoa n))).run Tryd.prog w = .ok (.string (tx ([35, 112, 114, 105, 109] ++ Lib.itoa n))) w := fun w => by
      rw [run_string_add_sum w _ _ (by rw [tx_size]; have := itoa_len hn; show 5 + _ ≤ _; omega), ← tx_append]
      rfl
    go_wp2
    go_ret
    exact ⟨retS (by simp [wordL]), hB1⟩
  · have ha : ∀ w : World, (Op.stringOp .add ⟨#[35, 112, 105, 100]⟩ (tx (Lib.itoa n))).run Tryd.prog w = .ok (.string (tx ([35, 112, 105, 100] ++ Lib.itoa n))) w := fun w => by
      rw [run_string_add_sum w _ _ (by rw [tx_size]; have := itoa_len hn; show 4 + _ ≤ _; omega), ← tx_append]
      rfl
    go_wp2
    go_ret
    exact ⟨retS (by simp [wordL]), hB1⟩
end Go.Proofs.YtmgjefkelohocaaDoor
