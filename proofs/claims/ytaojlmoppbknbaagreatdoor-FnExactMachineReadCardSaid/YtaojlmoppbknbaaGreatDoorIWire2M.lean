/-
  Texts that stood by themselves, laid into one.
-/
import Derived.Test.YtaojlmoppbknbaaGreatDoorSWireM
import Derived.Test.YtaojlmoppbknbaaGreatDoorMcTM
import Derived.Deep.RegionHeld
/-
  Contracts of impl.putNums, of the nine ways to put a node, of impl.wires and impl.putNodes. No condition but bounds.
-/
namespace Go.Proofs.YtaojlmoppbknbaaGreatDoor
open Go.RowKit

/-- All blocks but those of bytes lie as they lay. -/
def Stays (w w' : World) : Prop := ∀ (j : Nat) (c : Array Value) (t : TypeId), t ≠ 5 → w.heap[j]? = some (.cells c t (0, 0)) → w'.heap[j]? = some (.cells c t (0, 0))
theorem Stays.refl (w : World) : Stays w w := fun _ _ _ _ h => h
theorem Stays.trans {w1 w2 w3 : World} (h : Stays w1 w2) (k : Stays w2 w3) : Stays w1 w3 := fun j c t ht hj => k j c t ht (h j c t ht hj)
theorem Stays.below {w w' : World} (hb : Below w.heap.size w w') : Stays w w' := fun j _ _ _ hj => (hb.block j (Array.getElem?_eq_some_iff.1 hj).1).trans hj
theorem Stays.grown {w w' : World} {B n : Nat} {vo : Value} {xs : List Value} (ho : w.ownsRow B 5 1 vo n xs) (hg : w.grownBy w' vo.ownBlock) : Stays w w' := fun j _ _ ht hj => (hg.block j (Array.getElem?_eq_some_iff.1 hj).1 (fun e => own_ne ho hj ht e.symm)).trans hj

/-- At v the bytes bs, made since B. -/
def OwnB (w : World) (B : Nat) (v : Value) (bs : List Int) : Prop := w.ownsRow B 5 1 v bs.length (bv bs)
/-- 'append' of what was just put, onto a row that was made since B. -/
theorem wpList_put2 {ops : Array Oper} {rest : List Oper} {o : Oper} {a : Act} {w : World} {Q : Exit → Act → World → Prop} (hg : o.guard = none) (s y : Operand) (hop : o.op = Op.call { callee := Callee.builtin Builtin.append, args := #[s, y], argTypes := #[51, 51] })
    {B : Nat} {vo : Value} {bs : List Int} (hs : a.eval s = vo) (O : w.ownsRow B 5 1 vo bs.length (bv bs)) (hB : B ≤ w.heap.size) {ao : Option Addr} {c base : Nat} {zs : List Int} (hy : a.eval y = .slice ao zs.length c) (h2 : w.ownsRow base 5 1 (.slice ao zs.length c) zs.length (bv zs)) (hb : bs.length + zs.length ≤ 1000000)
    (hK : ∀ v' w', OwnB w' B v' (bs ++ zs) → Below B w w' → Stays w w' → wpList Tryz.prog ops Q rest (a.put o.dst v') w') : wpList Tryz.prog ops Q (o :: rest) a w := by
  obtain ⟨i0, hi, hz0, hz1, hz2⟩ := info_parts Tryz.infoU8
  refine wpList_append_own_any w hg s y 51 hop B 5 i0 (.int .u8 0) 1 1 Tryz.underlying51 hi hz0 hz1 hz2 rfl (by decide) vo bs.length (bv bs) hs O ao zs.length c (bv zs) hy (by rw [bv_length]; simp) (own_none8 h2) (own_news8 h2 (bv_length _)) (ints_oneCell .u8 _) (by unfold maxLen; omega) (by omega) hB ?_
  intro v' w' h3 h4
  exact hK v' w' (by unfold OwnB; rw [List.length_append, bv_append]; exact h3) ((Below.refl _ _).grown h4 hB (fun k hk => (O.lt k hk).1)) (Stays.grown O h4)

theorem nums_take (zs : List Int) (k : Nat) (h : k < zs.length) : (zs.take (k + 1)).flatMap encI = (zs.take k).flatMap encI ++ encI (zs.getD k 0) := by
  rw [List.take_add_one, List.getElem?_eq_getElem h, Option.toList_some, List.flatMap_append]
  congr 1
  simp [List.getD_eq_getElem?_getD, List.getElem?_eq_getElem h]
theorem nums_len (zs : List Int) : (zs.flatMap encI).length ≤ 9 * zs.length := by
  induction zs with
  | nil => simp
  | cons z zs ih =>
    have := encI_length z
    rw [List.flatMap_cons, List.length_append, List.length_cons]
    omega

set_option maxRecDepth 100000 in
set_option maxHeartbeats 1600000 in
theorem putnums_any (vb : Value) (bs : List Int) (B g : Nat) (zs : List Int) (w : World) (own : w.ownsRow B 5 1 vb bs.length (bv bs)) (hB : B ≤ w.heap.size) (hg : w.heap[g]? = some (.cells (iv zs).toArray 3 (0, 0))) (hz : ∀ z ∈ zs, z ≤ 9223372036854775807) (hl : zs.length ≤ 100) (hb : bs.length ≤ 500000) :
    Calls Tryz.prog 121 #[vb, .slice (some ⟨g, 0, none⟩) zs.length zs.length] w fun e w' => ∃ v', e = .returned v' ∧ w'.ownsRow B 5 1 v' (bs ++ zs.flatMap encI).length (bv (bs ++ zs.flatMap encI)) ∧ Below B w w' ∧ Stays w w' := by
  go_enter Tryz.func121, Tryz.ntmps121
  go_wp2_with fail
  go_loopw [0, 9] (fun vo i wr => ∃ k : Nat, k ≤ zs.length ∧ i = .int .i64 k ∧ wr.ownsRow B 5 1 vo (bs ++ (zs.take k).flatMap encI).length (bv (bs ++ (zs.take k).flatMap encI)) ∧ Below B w wr ∧ Stays w wr) (fun _ i _ => zs.length - (intOf i).toNat)
  case atStart => exact ⟨0, by omega, rfl, by simpa using own, Below.refl _ _, Stays.refl _⟩
  case round =>
    obtain ⟨k, hk, rfl, ho, hbel, hst⟩ := hrel
    by_cases hlt : k < zs.length
    · have hgr := hst g _ _ (by decide) hg
      have hgl : g < wr.heap.size := (Array.getElem?_eq_some_iff.1 hgr).1
      have c0 : wr.cell? ⟨g, k, none⟩ = some (.int .i64 (zs.getD k 0)) := by
        rw [cell_of_row wr _ k _ _ _ hgr]
        simpa using iv_get zs k hlt
      have hzk : zs.getD k 0 ≤ 9223372036854775807 := hz _ (by simp [List.getD_eq_getElem?_getD, List.getElem?_eq_getElem hlt])
      have HT : Hid ((zs.take (k + 1)).flatMap encI = (zs.take k).flatMap encI ++ encI (zs.getD k 0)) := nums_take zs k hlt
      have hll : (bs ++ (zs.take k).flatMap encI).length ≤ 600000 := by
        have := nums_len (zs.take k)
        rw [List.length_append]
        rw [List.length_take] at this
        omega
      obtain ⟨z, hzz⟩ : ∃ z, Hid (zs.getD k 0 = z) := ⟨_, rfl⟩
      rw [hzz.out] at c0 hzk HT
      have hle := encI_length z
      obtain ⟨cs, hcs⟩ : ∃ cs, Hid (bs ++ (zs.take k).flatMap encI = cs) := ⟨_, rfl⟩
      rw [hcs.out] at ho hll
      go_wp2_with fail
      refine (iput_any z _ hzk).mono ?_
      rintro e wc ⟨vc, rfl, oc, bc⟩
      obtain ⟨ac, cc, rfl⟩ := own_form oc
      clear c0
      have ho2 := own_below ho bc
      go_wp2_with (at_builtin; refine wpList_put2 rfl _ _ rfl rfl ho2 (by have := hbel.size; have := bc.size; omega) rfl oc (by omega) ?_)
      intro vd wd od bd sd
      have hB2 := (hbel.trans (bc.mono (Nat.le_trans hB hbel.size))).trans bd
      have hS2 := (hst.trans (Stays.below bc)).trans sd
      have HE : Hid (cs ++ encI z = bs ++ (zs.take (k + 1)).flatMap encI) := by unfold Hid; rw [HT.out, ← List.append_assoc, hcs.out]
      clear oc bc ho2 ho bd sd hbel hst
      go_wp2
      go_roundw
      case rel => exact ⟨k + 1, by omega, by go_num, by rw [← HE.out]; exact od, hB2, hS2⟩
      case measure => simp [intOf]; omega
    · have hke : k = zs.length := by omega
      subst hke
      rw [List.take_length] at ho
      go_wp2
      go_ret
      exact ⟨u0, rfl, ho, hbel, hst⟩

/-- A way to put a node x. -/
def Puts (f : Nat) (x : Nd) : Prop := ∀ (vb : Value) (bs : List Int) (B : Nat) (w : World), w.ownsRow B 5 1 vb bs.length (bv bs) → B ≤ w.heap.size → bs.length ≤ 400000 → Calls Tryz.prog f #[vb, .agg #[.int .i64 x.k, .int .i64 x.n, .string x.s, .int .i64 x.a, .int .i64 x.b]] w fun e w' => ∃ v', e = .returned v' ∧ w'.ownsRow B 5 1 v' (bs ++ wireB x).length (bv (bs ++ wireB x)) ∧ Below B w w' ∧ Stays w w'


set_option maxRecDepth 100000 in
set_option maxHeartbeats 800000 in
theorem putn_any (x : Nd) (hok : NdOk x) (hk : x.k = 2 ∨ x.k = 8 ∨ x.k = 9) : Puts 95 x := by
  intro vb bs B w own hB hb
  obtain ⟨_, ⟨hn1, hn2⟩, hs, ha, hb'⟩ := hok
  have HW : Hid (wireB x = [x.n].flatMap encI) := by unfold Hid wireB; (try rcases hk with hk | hk | hk) <;> simp [hk]
  clear hk
  obtain ⟨hB2, hx2, hy2⟩ := two_boxes w (Obj.cells #[.int .i64 x.k, .int .i64 x.n, .string x.s, .int .i64 x.a, .int .i64 x.b] 86) (Obj.cells (iv [x.n]).toArray 3)
  have hl2 : w.heap.size ≤ ((w.alloc (Obj.cells #[.int .i64 x.k, .int .i64 x.n, .string x.s, .int .i64 x.a, .int .i64 x.b] 86)).alloc (Obj.cells (iv [x.n]).toArray 3)).heap.size := hB2.size
  go_enter Tryz.func95, Tryz.ntmps95
  go_wp2_with fail
  refine (putnums_any _ bs B (w.heap.size + 1) [x.n] _ (own_below own hB2) (by omega) hy2 (by simp; omega) (by simp) (by omega)).mono ?_
  rintro e w1 ⟨v1, rfl, o1, b1, s1⟩
  have hBB := (hB2.mono hB).trans b1
  have hSS := (Stays.below hB2).trans s1
  go_wp2
  go_ret
  exact ⟨v1, rfl, by rw [HW.out]; exact o1, hBB, hSS⟩


set_option maxRecDepth 100000 in
set_option maxHeartbeats 800000 in
theorem putint_any (x : Nd) (hok : NdOk x) (hk : x.k = 3) : Puts 97 x := by
  intro vb bs B w own hB hb
  obtain ⟨_, ⟨hn1, hn2⟩, hs, ha, hb'⟩ := hok
  have HW : Hid (wireB x = [x.n + 1000000000].flatMap encI) := by unfold Hid wireB; (try rcases hk with hk | hk | hk) <;> simp [hk]
  clear hk
  obtain ⟨hB2, hx2, hy2⟩ := two_boxes w (Obj.cells #[.int .i64 x.k, .int .i64 x.n, .string x.s, .int .i64 x.a, .int .i64 x.b] 86) (Obj.cells (iv [x.n + 1000000000]).toArray 3)
  have hl2 : w.heap.size ≤ ((w.alloc (Obj.cells #[.int .i64 x.k, .int .i64 x.n, .string x.s, .int .i64 x.a, .int .i64 x.b] 86)).alloc (Obj.cells (iv [x.n + 1000000000]).toArray 3)).heap.size := hB2.size
  go_enter Tryz.func97, Tryz.ntmps97
  go_wp2_with fail
  refine (putnums_any _ bs B (w.heap.size + 1) [x.n + 1000000000] _ (own_below own hB2) (by omega) hy2 (by simp; omega) (by simp) (by omega)).mono ?_
  rintro e w1 ⟨v1, rfl, o1, b1, s1⟩
  have hBB := (hB2.mono hB).trans b1
  have hSS := (Stays.below hB2).trans s1
  go_wp2
  go_ret
  exact ⟨v1, rfl, by rw [HW.out]; exact o1, hBB, hSS⟩


set_option maxRecDepth 100000 in
set_option maxHeartbeats 800000 in
theorem putparts_any (x : Nd) (hok : NdOk x) (hk : x.k = 5) : Puts 101 x := by
  intro vb bs B w own hB hb
  obtain ⟨_, ⟨hn1, hn2⟩, hs, ha, hb'⟩ := hok
  have HW : Hid (wireB x = [x.a, x.b].flatMap encI) := by unfold Hid wireB; (try rcases hk with hk | hk | hk) <;> simp [hk]
  clear hk
  obtain ⟨hB2, hx2, hy2⟩ := two_boxes w (Obj.cells #[.int .i64 x.k, .int .i64 x.n, .string x.s, .int .i64 x.a, .int .i64 x.b] 86) (Obj.cells (iv [x.a, x.b]).toArray 3)
  have hl2 : w.heap.size ≤ ((w.alloc (Obj.cells #[.int .i64 x.k, .int .i64 x.n, .string x.s, .int .i64 x.a, .int .i64 x.b] 86)).alloc (Obj.cells (iv [x.a, x.b]).toArray 3)).heap.size := hB2.size
  go_enter Tryz.func101, Tryz.ntmps101
  go_wp2_with fail
  refine (putnums_any _ bs B (w.heap.size + 1) [x.a, x.b] _ (own_below own hB2) (by omega) hy2 (by simp; omega) (by simp) (by omega)).mono ?_
  rintro e w1 ⟨v1, rfl, o1, b1, s1⟩
  have hBB := (hB2.mono hB).trans b1
  have hSS := (Stays.below hB2).trans s1
  go_wp2
  go_ret
  exact ⟨v1, rfl, by rw [HW.out]; exact o1, hBB, hSS⟩


set_option maxRecDepth 100000 in
set_option maxHeartbeats 800000 in
theorem putfun_any (x : Nd) (hok : NdOk x) (hk : x.k = 6) : Puts 103 x := by
  intro vb bs B w own hB hb
  obtain ⟨_, ⟨hn1, hn2⟩, hs, ha, hb'⟩ := hok
  have HW : Hid (wireB x = [x.n, x.a].flatMap encI) := by unfold Hid wireB; (try rcases hk with hk | hk | hk) <;> simp [hk]
  clear hk
  obtain ⟨hB2, hx2, hy2⟩ := two_boxes w (Obj.cells #[.int .i64 x.k, .int .i64 x.n, .string x.s, .int .i64 x.a, .int .i64 x.b] 86) (Obj.cells (iv [x.n, x.a]).toArray 3)
  have hl2 : w.heap.size ≤ ((w.alloc (Obj.cells #[.int .i64 x.k, .int .i64 x.n, .string x.s, .int .i64 x.a, .int .i64 x.b] 86)).alloc (Obj.cells (iv [x.n, x.a]).toArray 3)).heap.size := hB2.size
  go_enter Tryz.func103, Tryz.ntmps103
  go_wp2_with fail
  refine (putnums_any _ bs B (w.heap.size + 1) [x.n, x.a] _ (own_below own hB2) (by omega) hy2 (by simp; omega) (by simp) (by omega)).mono ?_
  rintro e w1 ⟨v1, rfl, o1, b1, s1⟩
  have hBB := (hB2.mono hB).trans b1
  have hSS := (Stays.below hB2).trans s1
  go_wp2
  go_ret
  exact ⟨v1, rfl, by rw [HW.out]; exact o1, hBB, hSS⟩


set_option maxRecDepth 100000 in
set_option maxHeartbeats 800000 in
theorem puta_any (x : Nd) (hok : NdOk x) (hk : x.k = 7) : Puts 105 x := by
  intro vb bs B w own hB hb
  obtain ⟨_, ⟨hn1, hn2⟩, hs, ha, hb'⟩ := hok
  have HW : Hid (wireB x = [x.a].flatMap encI) := by unfold Hid wireB; (try rcases hk with hk | hk | hk) <;> simp [hk]
  clear hk
  obtain ⟨hB2, hx2, hy2⟩ := two_boxes w (Obj.cells #[.int .i64 x.k, .int .i64 x.n, .string x.s, .int .i64 x.a, .int .i64 x.b] 86) (Obj.cells (iv [x.a]).toArray 3)
  have hl2 : w.heap.size ≤ ((w.alloc (Obj.cells #[.int .i64 x.k, .int .i64 x.n, .string x.s, .int .i64 x.a, .int .i64 x.b] 86)).alloc (Obj.cells (iv [x.a]).toArray 3)).heap.size := hB2.size
  go_enter Tryz.func105, Tryz.ntmps105
  go_wp2_with fail
  refine (putnums_any _ bs B (w.heap.size + 1) [x.a] _ (own_below own hB2) (by omega) hy2 (by simp; omega) (by simp) (by omega)).mono ?_
  rintro e w1 ⟨v1, rfl, o1, b1, s1⟩
  have hBB := (hB2.mono hB).trans b1
  have hSS := (Stays.below hB2).trans s1
  go_wp2
  go_ret
  exact ⟨v1, rfl, by rw [HW.out]; exact o1, hBB, hSS⟩


set_option maxRecDepth 100000 in
set_option maxHeartbeats 800000 in
theorem putnothing_any (x : Nd) (hk : x.k = 1) : Puts 93 x := by
  intro vb bs B w own hB hb
  have HW : Hid (wireB x = []) := by unfold Hid wireB; simp [hk]
  clear hk
  have hB0 : Below w.heap.size w (w.alloc (Obj.cells #[.int .i64 x.k, .int .i64 x.n, .string x.s, .int .i64 x.a, .int .i64 x.b] 86)) := (Below.refl _ _).alloc (Nat.le_refl _) _
  go_enter Tryz.func93, Tryz.ntmps93
  go_wp2
  go_ret
  exact ⟨vb, rfl, by rw [HW.out, List.append_nil]; exact own_below own hB0, hB0.mono hB, Stays.below hB0⟩

set_option maxRecDepth 100000 in
set_option maxHeartbeats 800000 in
theorem putname_any (x : Nd) (hok : NdOk x) (hk : x.k = 4) : Puts 99 x := by
  intro vb bs B w own hB hb
  obtain ⟨_, _, hs, _⟩ := hok
  have HW : Hid (wireB x = pt x.s) := by unfold Hid wireB; simp [hk]
  clear hk
  have hl1 : (pt x.s).length ≤ 21 := by rw [pt_length]; have := encI_length x.s.size; omega
  have hB0 : Below w.heap.size w (w.alloc (Obj.cells #[.int .i64 x.k, .int .i64 x.n, .string x.s, .int .i64 x.a, .int .i64 x.b] 86)) := (Below.refl _ _).alloc (Nat.le_refl _) _
  go_enter Tryz.func99, Tryz.ntmps99
  go_wp2_with fail
  refine (iptext_any x.s _ (by omega)).mono ?_
  rintro e wc ⟨vc, rfl, oc, bc⟩
  obtain ⟨ac, cc, rfl⟩ := own_form oc
  have hBc := hB0.trans (bc.mono hB0.size)
  have ho2 := own_below own hBc
  go_wp2_with (at_builtin; refine wpList_put2 rfl _ _ rfl rfl ho2 (by have := hBc.size; omega) rfl oc (by omega) ?_)
  intro vd wd od bd sd
  have hBB := (hBc.mono hB).trans bd
  have hSS := (Stays.below hBc).trans sd
  go_wp2
  go_ret
  exact ⟨vd, rfl, by rw [HW.out]; exact od, hBB, hSS⟩
end Go.Proofs.YtaojlmoppbknbaaGreatDoor

/-
  Contracts of impl.wires and impl.putNodes: the nodes' bytes behind what is there. No condition but bounds.
-/
namespace Go.Proofs.YtaojlmoppbknbaaGreatDoor
open Go.RowKit

def fnV (n : Nat) : Value := .func (.func n) #[] #[]
def wiresV : Array Value := #[.nilFunc, .nilFunc, .func (.func 93) #[] #[], .func (.func 94) #[] #[], .func (.func 95) #[] #[], .func (.func 96) #[] #[], .func (.func 97) #[] #[], .func (.func 98) #[] #[], .func (.func 99) #[] #[], .func (.func 100) #[] #[], .func (.func 101) #[] #[], .func (.func 102) #[] #[], .func (.func 103) #[] #[], .func (.func 104) #[] #[], .func (.func 105) #[] #[], .func (.func 106) #[] #[], .func (.func 95) #[] #[], .func (.func 96) #[] #[], .func (.func 95) #[] #[], .func (.func 96) #[] #[]]
theorem wiresV_one : wiresV.all (·.oneCell') = true := by simp [wiresV, Value.oneCell']
theorem Tryz.sizeW : (Tryz.prog.info? 133).map (·.size) = some 20 := by kernel_rfl

set_option maxRecDepth 100000 in
set_option maxHeartbeats 800000 in
theorem iwires_any (w : World) : Calls Tryz.prog 69 #[] w fun e w' => e = .returned (.agg wiresV) ∧ Below w.heap.size w w' := by
  go_enter Tryz.func69, Tryz.ntmps69
  go_wp2_with (refine wpList_store_own rfl 133 _ _ rfl w.heap.size wiresV rfl rfl 133 _ (heap_alloc_new _ _) Tryz.sizeW rfl wiresV_one ?_)
  intro w2 hh2 hb2 hs2
  have hB2 : Below w.heap.size w w2 := ((Below.refl _ _).alloc (Nat.le_refl _) _).trans hb2
  go_wp2
  exact bodyPost_ret (results_cell_row rfl _ _ w.heap.size 133 _ (0, 0) _ rfl hh2 Tryz.underlying133 rfl Tryz.sizeW) rfl ⟨rfl, hB2⟩

theorem run_enter {f : FuncId} {fn : Func} {c : Code} (hf : Tryz.prog.funcs[f]? = some fn) (hname : (fn.name == "runtime.NumGoroutine") = false) (hb : fn.body = some c) (args : Array Value) (w : World) :
    Sem.run Tryz.prog (callFunc f args) w = .ok (.enter f args) w := by
  have h1 : fn.name ≠ "runtime.NumGoroutine" := by simpa using hname
  simp [callFunc, hf, h1, hb]
theorem way_of (x : Nd) (hok : NdOk x) : ∃ (n f : Nat), x.k = (n : Int) ∧ 1 ≤ n ∧ n ≤ 9 ∧ wiresV[n * 2]? = some (.func (.func f) #[] #[]) ∧ Puts f x ∧ ∀ args w, Sem.run Tryz.prog (callFunc f args) w = .ok (.enter f args) w := by
  have h := hok.1
  have hk : x.k = 1 ∨ x.k = 2 ∨ x.k = 3 ∨ x.k = 4 ∨ x.k = 5 ∨ x.k = 6 ∨ x.k = 7 ∨ x.k = 8 ∨ x.k = 9 := by omega
  rcases hk with h | h | h | h | h | h | h | h | h
  · exact ⟨1, 93, h, by omega, by omega, rfl, putnothing_any x h, run_enter Tryz.func93 (by kernel_rfl) rfl⟩
  · exact ⟨2, 95, h, by omega, by omega, rfl, putn_any x hok (Or.inl h), run_enter Tryz.func95 (by kernel_rfl) rfl⟩
  · exact ⟨3, 97, h, by omega, by omega, rfl, putint_any x hok h, run_enter Tryz.func97 (by kernel_rfl) rfl⟩
  · exact ⟨4, 99, h, by omega, by omega, rfl, putname_any x hok h, run_enter Tryz.func99 (by kernel_rfl) rfl⟩
  · exact ⟨5, 101, h, by omega, by omega, rfl, putparts_any x hok h, run_enter Tryz.func101 (by kernel_rfl) rfl⟩
  · exact ⟨6, 103, h, by omega, by omega, rfl, putfun_any x hok h, run_enter Tryz.func103 (by kernel_rfl) rfl⟩
  · exact ⟨7, 105, h, by omega, by omega, rfl, puta_any x hok h, run_enter Tryz.func105 (by kernel_rfl) rfl⟩
  · exact ⟨8, 95, h, by omega, by omega, rfl, putn_any x hok (Or.inr (Or.inl h)), run_enter Tryz.func95 (by kernel_rfl) rfl⟩
  · exact ⟨9, 95, h, by omega, by omega, rfl, putn_any x hok (Or.inr (Or.inr h)), run_enter Tryz.func95 (by kernel_rfl) rfl⟩

/-- A node's box and a way's cell stay. -/
theorem six_stay {w w' : World} (hs : Stays w w') {b r : Nat} {x : Nd} {rv : Array Value} {n : Nat} {f : Value} (hb : w.heap[b]? = some (.cells #[.int .i64 x.k, .int .i64 x.n, .string x.s, .int .i64 x.a, .int .i64 x.b] 86 (0, 0))) (hr : w.heap[r]? = some (.cells rv 133 (0, 0))) (hn : rv[n]? = some f) :
    w'.cell? ⟨b, 0, none⟩ = some (.int .i64 x.k) ∧ w'.cell? ⟨b, 1, none⟩ = some (.int .i64 x.n) ∧ w'.cell? ⟨b, 2, none⟩ = some (.string x.s) ∧ w'.cell? ⟨b, 3, none⟩ = some (.int .i64 x.a) ∧ w'.cell? ⟨b, 4, none⟩ = some (.int .i64 x.b) ∧ w'.cell? ⟨r, n, none⟩ = some f := by
  have h1 := hs b _ _ (by decide) hb
  have h2 := hs r _ _ (by decide) hr
  exact ⟨cell_of_row w' _ 0 _ _ _ h1, cell_of_row w' _ 1 _ _ _ h1, cell_of_row w' _ 2 _ _ _ h1, cell_of_row w' _ 3 _ _ _ h1, cell_of_row w' _ 4 _ _ _ h1, (cell_of_row w' _ n _ _ _ h2).trans hn⟩

theorem call_nums {W0 W5 : World} {vo : Value} {cs : List Int} {n : Nat} (ho5 : OwnB W5 W0.heap.size vo cs) (hb5 : Below W0.heap.size W0 W5) (hn : n ≤ 9) (hl : cs.length ≤ 200000) :
    Calls Tryz.prog 121 #[vo, .slice (some ⟨W5.heap.size, 0, none⟩) 1 1] (W5.alloc (Obj.cells #[.int .i64 n] 3)).drew fun e w' => ∃ v', e = .returned v' ∧ OwnB w' W0.heap.size v' (cs ++ encI n) ∧ Below W0.heap.size W0 w' ∧ Stays W5 w' := by
  have hd : Below W5.heap.size W5 (W5.alloc (Obj.cells #[.int .i64 n] 3)).drew := ((Below.refl _ _).alloc (Nat.le_refl _) _).drew
  have hs := hb5.size
  have hs2 := hd.size
  have e : [(n : Int)].flatMap encI = encI n := by simp
  refine (putnums_any vo cs W0.heap.size W5.heap.size [(n : Int)] _ (own_below ho5 hd) (by omega) (heap_alloc_new W5 _) (by simp; omega) (by simp) (by omega)).mono ?_
  rintro e' w6 ⟨v6, rfl, o6, b6, st6⟩
  rw [e] at o6
  exact ⟨v6, rfl, o6, (hb5.trans (hd.mono hs)).trans b6, (Stays.below hd).trans st6⟩

end Go.Proofs.YtaojlmoppbknbaaGreatDoor
