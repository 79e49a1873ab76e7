/-
  Texts that stood by themselves, laid into one.
-/
import Derived.Test.YtjnhocefnfmhmaaGreatDoorAddM
import Derived.Test.YtjnhocefnfmhmaaGreatDoorIWireM
import Derived.Test.YtjnhocefnfmhmaaGreatDoorSizeIM
import Derived.Test.YtjnhocefnfmhmaaGreatDoorPrRegM
import Derived.Test.YtjnhocefnfmhmaaGreatDoorMvMathM
import Derived.Test.YtjnhocefnfmhmaaGreatDoorBoolsM
/-
  What MakeList makes, and the contracts of impl's hasAll and MakeList.
-/
namespace Go.Proofs.YtjnhocefnfmhmaaGreatDoor
open Go.RowKit

def nilN : Nd := ⟨1, 0, ByteArray.empty, 0, 0⟩
def pairN (z : Int) (last : Nat) : Nd := ⟨5, 0, ByteArray.empty, z, last⟩
/-- The pairs of the values, the last one first, from the node 'last' on. -/
def pairsR : List Int → Nat → List Nd
  | [], _ => []
  | z :: r, last => pairN z last :: pairsR r (last + 1)
theorem pairsR_snoc (r : List Int) (z : Int) (last : Nat) : pairsR (r ++ [z]) last = pairsR r last ++ [pairN z (last + r.length)] := by
  induction r generalizing last with
  | nil => rfl
  | cons y r ih => simp only [List.cons_append, pairsR, ih, List.length_cons]; rw [show last + 1 + r.length = last + (r.length + 1) by omega]
theorem pairsR_length (r : List Int) (last : Nat) : (pairsR r last).length = r.length := by
  induction r generalizing last with
  | nil => rfl
  | cons y r ih => simp [pairsR, ih]
theorem pairsR_ok (r : List Int) (last : Nat) : ∀ x ∈ pairsR r last, x.s.size ≤ maxLen := by
  induction r generalizing last with
  | nil => simp [pairsR]
  | cons y r ih =>
    intro x hx
    simp only [pairsR, List.mem_cons] at hx
    rcases hx with rfl | hx
    · simp [pairN]
    · exact ih _ x hx
/-- The list so far, when the values from m on stand. -/
def more (zs : List Int) (n m : Nat) : List Nd := nilN :: pairsR (zs.drop m).reverse n
theorem more_length (zs : List Int) (n m : Nat) : (more zs n m).length = zs.length - m + 1 := by simp [more, pairsR_length]
theorem more_ok (zs : List Int) (n m : Nat) : ∀ x ∈ more zs n m, x.s.size ≤ maxLen := by
  intro x hx
  simp only [more, List.mem_cons] at hx
  rcases hx with rfl | hx
  · simp [nilN]
  · exact pairsR_ok _ _ x hx
theorem more_step (zs : List Int) (n m : Nat) (h : m < zs.length) : more zs n m = more zs n (m + 1) ++ [pairN zs[m] (n + (zs.length - (m + 1)))] := by
  unfold more
  rw [List.drop_eq_getElem_cons h, List.reverse_cons, pairsR_snoc]
  simp

def allI (xs : List Nd) (zs : List Int) : Bool := zs.all (hasI xs)
/-- What MakeList leaves, and the number that it tells. -/
def mlOk (xs : List Nd) (zs : List Int) : Bool := decide (xs.length + 1 + zs.length ≤ 3000) && allI xs zs
def mlL (xs : List Nd) (zs : List Int) : List Nd := if poolB xs = true then (if mlOk xs zs = true then xs ++ more zs xs.length 0 else xs) else []
def mlI (xs : List Nd) (zs : List Int) : Int := if poolB xs = true then (if mlOk xs zs = true then ((xs.length + zs.length : Nat) : Int) else -1) else -1

theorem all_drop (p : Int → Bool) (zs : List Int) (k : Nat) (h : k < zs.length) : (zs.drop k).all p = (p (zs.getD k 0) && (zs.drop (k + 1)).all p) := by
  rw [List.drop_eq_getElem_cons h, List.all_cons, List.getD_eq_getElem?_getD, List.getElem?_eq_getElem h]
  rfl

set_option maxHeartbeats 800000 in
theorem hasall_any (v vl : Value) (xs : List Nd) (zs : List Int) (w : World) (R : NRow w v xs) (L : IRow w vl zs) :
    Calls Tryz.prog 101 #[.agg #[v], vl] w fun e w' => e = .returned (.bool (allI xs zs)) ∧ Below w.heap.size w w' := by
  have R' := R
  obtain ⟨ao, cap, rfl, _⟩ := R'
  obtain ⟨al, cl, rfl, hcl, hlm, hcell⟩ := L
  go_enter Tryz.func101, Tryz.ntmps101
  go_wp2_with fail
  go_loopw [9] (fun i wr => ∃ k : Nat, k ≤ zs.length ∧ i = .int .i64 k ∧ Hid (allI xs zs = (zs.drop k).all (hasI xs)) ∧ wr.cell? ⟨w.heap.size, 0, none⟩ = some (.slice ao xs.length cap) ∧ w.heap.size < wr.heap.size ∧ Below w.heap.size w wr) (fun i _ => zs.length - (intOf i).toNat)
  case atStart => exact ⟨0, by omega, rfl, by simp [Hid, allI], by simp, by simp, (Below.refl _ _).alloc (Nat.le_refl _) _⟩
  case round =>
    obtain ⟨k, hk, rfl, HA, hbox, hbl, hb⟩ := hrel
    by_cases hlt : k < zs.length
    · obtain ⟨g, o, rfl, hg, hcell⟩ := hcell (by intro e; subst e; simp at hlt)
      have c0 := (hb.cell (p := ⟨g, o + k, none⟩) hg).trans (hcell k hlt)
      have HS : Hid (allI xs zs = (hasI xs (zs.getD k 0) && (zs.drop (k + 1)).all (hasI xs))) := by unfold Hid; rw [HA.out, all_drop _ _ _ hlt]
      clear hcell HA
      generalize zs.getD k 0 = z at c0 HS
      go_wp2_with fail
      refine (has_any _ xs _ _ (R.below hb)).mono ?_
      rintro e w2 ⟨rfl, hb2⟩
      have hB2 := hb.trans (hb2.mono hb.size)
      have hbox2 := (hb2.cell (p := ⟨w.heap.size, 0, none⟩) hbl).trans hbox
      have hbl2 := Nat.lt_of_lt_of_le hbl hb2.size
      clear c0 hb2 hbox hb
      generalize hA : hasI xs z = bA at HS ⊢
      clear hA
      cases bA with
      | false =>
        go_wp2
        go_ret
        exact ⟨by rw [HS.out]; rfl, hB2⟩
      | true =>
        go_wp2
        go_roundw
        case rel => exact ⟨k + 1, by omega, by go_num, by rw [HS.out]; rfl, hbox2, hbl2, hB2⟩
        case measure => simp [intOf]; omega
    · have e : k = zs.length := by omega
      subst e
      have HT : Hid (allI xs zs = true) := by unfold Hid; rw [HA.out, List.drop_length]; rfl
      clear HA
      go_wp2
      go_ret
      exact ⟨by rw [HT.out]; rfl, hb⟩

theorem own_nil1 (w : World) (base : Nat) (hb : base ≤ w.heap.size) :
    (w.alloc (Obj.cells #[.int .i64 1, .int .i64 0, .string ⟨#[]⟩, .int .i64 0, .int .i64 0] 153)).ownsRow base 153 5 (.slice (some ⟨w.heap.size, 0, none⟩) 1 1) 1 (ncs [nilN]) :=
  own_lit1 w nilN base hb
theorem NRow.pair1 (w : World) (z : Int) (last : Nat) : NRow (w.alloc (Obj.cells #[.int .i64 5, .int .i64 0, .string ⟨#[]⟩, .int .i64 z, .int .i64 last] 153)) (.slice (some ⟨w.heap.size, 0, none⟩) 1 1) [pairN z last] :=
  NRow.lit1 w (pairN z last) (by simp [pairN])

theorem wrap_two (a b : Int) (h0 : 0 ≤ a) (h1 : a ≤ 1000000) (h2 : 0 ≤ b) (h3 : b ≤ 1000000) : IntKind.i64.wrap (IntKind.i64.wrap (a + b) - 1) = a + b - 1 := by
  rw [IntKind.wrap_i64, IntKind.wrap_i64]; omega

end Go.Proofs.YtjnhocefnfmhmaaGreatDoor

/-
  Contract of impl's withParts: a node with its parts where they are told to be. Conditions: the node's kind is one, its parts are told of.
-/
namespace Go.Proofs.YtjnhocefnfmhmaaGreatDoor
open Go.RowKit

theorem Tryz.sizeNW : (Tryz.prog.info? 153).map (·.size) = some 5 := by kernel_rfl

set_option maxRecDepth 100000 in
set_option maxHeartbeats 1600000 in
theorem withparts_any (x : Nd) (B n : Nat) (l : List Int) (w : World) (hkd : 1 ≤ x.k ∧ x.k ≤ 9) (hA : hasA x.k = true → 0 ≤ x.a ∧ x.a < n) (hB : hasB x.k = true → 0 ≤ x.b ∧ x.b < n) (hl : ∀ i, i < n → w.cell? ⟨B, i, none⟩ = some (.int .i64 (l.getD i 0))) (hBw : B < w.heap.size) :
    Calls Tryz.prog 130 #[.agg #[.int .i64 x.k, .int .i64 x.n, .string x.s, .int .i64 x.a, .int .i64 x.b], .slice (some ⟨B, 0, none⟩) n n] w fun e w' => e = .returned (.agg #[.int .i64 x.k, .int .i64 x.n, .string x.s, .int .i64 (nrm l x).a, .int .i64 (nrm l x).b]) ∧ Below w.heap.size w w' := by
  go_enter Tryz.func130, Tryz.ntmps130
  go_wp2_with fail
  refine (shapeof_any x.k _).mono ?_
  rintro e w4 ⟨rfl, hb4⟩
  rw [shapeV, if_pos hkd]
  have hbox := (hb4.block w.heap.size (by simp; omega)).trans (old2 _ _ _)
  have hres := (hb4.block (w.heap.size + 1) (by simp)).trans (heap_alloc2_new _ _ _)
  have hB4 : Below w.heap.size w w4 := (below2 w _ _).trans (hb4.mono (by simp; omega))
  have hw4 : w.heap.size + 1 < w4.heap.size := (Array.getElem?_eq_some_iff.1 hres).1
  have hcellN : ∀ j, w4.cell? ⟨w.heap.size, j, none⟩ = #[Value.int .i64 x.k, .int .i64 x.n, .string x.s, .int .i64 x.a, .int .i64 x.b][j]? := fun j => cell_of_row w4 _ j _ _ _ hbox
  have hfrN : ∀ j, w4.frozen? ⟨w.heap.size, j, none⟩ = false := fun j => frozen_of_row w4 _ j _ _ hbox
  have d0 := hcellN 0
  have d1 := hcellN 1
  have d2 := hcellN 2
  have d3 := hcellN 3
  have d4 := hcellN 4
  simp only [List.getElem?_toArray, List.getElem?_cons_succ, List.getElem?_cons_zero] at d0 d1 d2 d3 d4
  have f3 := hfrN 3
  have f4 := hfrN 4
  have hne : w.heap.size ≠ w.heap.size + 1 := by omega
  have hw5 : w.heap.size < w4.heap.size := by omega
  have hBw5 : B < w4.heap.size := by omega
  have hneB : B ≠ w.heap.size := by omega
  have hl4 : ∀ i, i < n → w4.cell? ⟨B, i, none⟩ = some (.int .i64 (l.getD i 0)) := fun i hi => (hB4.cell (p := ⟨B, i, none⟩) hBw).trans (hl i hi)
  clear hcellN hfrN hb4 hl
  cases hAb : hasA x.k with
  | false =>
    have hBb : hasB x.k = false := by
      unfold hasA at hAb; unfold hasB
      simp only [decide_eq_false_iff_not] at hAb ⊢
      omega
    have HN : Hid ((nrm l x).a = x.a ∧ (nrm l x).b = x.b) := by unfold Hid nrm; rw [hAb, hBb]; exact ⟨rfl, rfl⟩
    rw [hBb]
    clear hA hB hl4
    go_wp2_with (refine wpList_store_own rfl 153 _ _ rfl (w.heap.size + 1) #[.int .i64 x.k, .int .i64 x.n, .string x.s, .int .i64 x.a, .int .i64 x.b] rfl rfl 153 _ ((heap_alloc_old _ _ hw4).trans hres) Tryz.sizeNW rfl (by simp [Value.oneCell']) ?_)
    intro w6 hh6 hb6 hs6
    have hB6 : Below w.heap.size w w6 := (hB4.alloc hB4.size _).trans (hb6.mono (by omega))
    go_wp2
    exact bodyPost_ret (results_cell_row rfl _ _ (w.heap.size + 1) 153 _ (0, 0) _ rfl hh6 Tryz.underlying153 rfl Tryz.sizeNW) rfl ⟨by rw [HN.out.1, HN.out.2], hB6⟩
  | true => 
    obtain ⟨ha1, ha2⟩ := hA hAb
    obtain ⟨na, hna⟩ := Int.eq_ofNat_of_zero_le ha1
    have HA : Hid ((nrm l x).a = l.getD na 0) := by unfold Hid nrm; rw [hAb, hna]; rfl
    rw [hna] at d3 ha2
    have ea := hl4 na (by omega)
    generalize l.getD na 0 = fa at ea HA
    cases hBb : hasB x.k with
    | false => 
      have hres1 := (Below.heap_setCell w4 ⟨w.heap.size, 3, none⟩ (.int .i64 fa) (w.heap.size + 1) (by simp)).trans hres
      have hB41 := hB4.setCell (p := ⟨w.heap.size, 3, none⟩) (by simp) (.int .i64 fa)
      have HB : Hid ((nrm l x).b = x.b) := by unfold Hid nrm; rw [hBb]; rfl
      clear hA hB hl4
      go_wp2_with (refine wpList_store_own rfl 153 _ _ rfl (w.heap.size + 1) #[.int .i64 x.k, .int .i64 x.n, .string x.s, .int .i64 fa, .int .i64 x.b] rfl rfl 153 _ ((heap_alloc_old _ _ (by simpa using hw4)).trans hres1) Tryz.sizeNW rfl (by simp [Value.oneCell']) ?_)
      intro w6 hh6 hb6 hs6
      have hB6 : Below w.heap.size w w6 := (hB41.alloc (by simpa using hB4.size) _).trans (hb6.mono (by omega))
      go_wp2
      exact bodyPost_ret (results_cell_row rfl _ _ (w.heap.size + 1) 153 _ (0, 0) _ rfl hh6 Tryz.underlying153 rfl Tryz.sizeNW) rfl ⟨by rw [HA.out, HB.out], hB6⟩
    | true => 
      obtain ⟨hb1, hb2⟩ := hB hBb
      obtain ⟨nb', hnb⟩ := Int.eq_ofNat_of_zero_le hb1
      have HB : Hid ((nrm l x).b = l.getD nb' 0) := by unfold Hid nrm; rw [hBb, hnb]; rfl
      rw [hnb] at d4 hb2
      have eb := hl4 nb' (by omega)
      generalize l.getD nb' 0 = fb at eb HB
      have hres1 := (Below.heap_setCell w4 ⟨w.heap.size, 3, none⟩ (.int .i64 fa) (w.heap.size + 1) (by simp)).trans hres
      have hres2 := (Below.heap_setCell (w4.setCell ⟨w.heap.size, 3, none⟩ (.int .i64 fa)) ⟨w.heap.size, 4, none⟩ (.int .i64 fb) (w.heap.size + 1) (by simp)).trans hres1
      have hB42 := (hB4.setCell (p := ⟨w.heap.size, 3, none⟩) (by simp) (.int .i64 fa)).setCell (p := ⟨w.heap.size, 4, none⟩) (by simp) (.int .i64 fb)
      clear hres1
      clear hA hB hl4
      go_wp2_with (refine wpList_store_own rfl 153 _ _ rfl (w.heap.size + 1) #[.int .i64 x.k, .int .i64 x.n, .string x.s, .int .i64 fa, .int .i64 fb] rfl rfl 153 _ ((heap_alloc_old _ _ (by simpa using hw4)).trans hres2) Tryz.sizeNW rfl (by simp [Value.oneCell']) ?_)
      intro w6 hh6 hb6 hs6
      have hB6 : Below w.heap.size w w6 := (hB42.alloc (by simpa using hB4.size) _).trans (hb6.mono (by omega))
      go_wp2
      exact bodyPost_ret (results_cell_row rfl _ _ (w.heap.size + 1) 153 _ (0, 0) _ rfl hh6 Tryz.underlying153 rfl Tryz.sizeNW) rfl ⟨by rw [HA.out, HB.out], hB6⟩

end Go.Proofs.YtjnhocefnfmhmaaGreatDoor

/-
  Contracts of impl's hungOn and Reach. Conditions of hungOn: the pool is right, and all roots are nodes of it.
-/
namespace Go.Proofs.YtjnhocefnfmhmaaGreatDoor
open Go.RowKit

theorem Tryz.infoBl : (Tryz.prog.info? 4).map (fun i => (i.zero, i.size, i.bytes)) = some (some (.bool false), 1, 1) := by kernel_rfl
theorem vb_made (n : Nat) : vb (List.replicate n false) = (madeCells #[Value.bool false] n).toList := by rw [toList_madeCells_one]; simp [vb]
theorem allI_at {xs : List Nd} {rs : List Int} (h : allI xs rs = true) (k : Nat) (hk : k < rs.length) : 0 ≤ rs.getD k 0 ∧ rs.getD k 0 < xs.length := by
  unfold allI at h
  rw [List.all_eq_true] at h
  have := h (rs.getD k 0) (by rw [List.getD_eq_getElem?_getD, List.getElem?_eq_getElem hk]; exact List.getElem_mem _)
  simpa [hasI] using this

set_option maxRecDepth 100000 in
set_option maxHeartbeats 1600000 in
theorem hungon_any (ao : Option Addr) (cap : Nat) (vl : Value) (xs : List Nd) (rs : List Int) (w : World) (R : NRow w (.slice ao xs.length cap) xs) (L : IRow w vl rs) (hp : poolB xs = true) (hr : allI xs rs = true) :
    Calls Tryz.prog 158 #[.agg #[.slice ao xs.length cap], vl] w fun e w' => ∃ v', e = .returned v' ∧ w'.ownsRow w.heap.size 4 1 v' xs.length (vb (reachL xs rs)) ∧ Below w.heap.size w w' := by
  have hlen := poolB_len hp
  have hB0 : Below w.heap.size w (w.alloc (Obj.cells #[.slice ao xs.length cap] 40)) := (Below.refl _ _).alloc (Nat.le_refl _) _
  have hbx := heap_alloc_new w (Obj.cells #[.slice ao xs.length cap] 40)
  have R0 := R.below hB0
  have L0 := L.below hB0
  clear R L
  have hs0 : (w.alloc (Obj.cells #[.slice ao xs.length cap] 40)).heap.size = w.heap.size + 1 := by simp
  obtain ⟨i0, hi, hz0, hz1, hz2⟩ := info_parts Tryz.infoBl
  have hbytes : i0.bytes * xs.length ≤ 281474976710656 := by rw [hz2]; omega
  have hmax : xs.length ≤ maxLen := by unfold maxLen; omega
  go_enter Tryz.func158, Tryz.ntmps158
  go_wp2_with (at_make; refine wpList_make_full _ rfl _ _ 184 rfl (w.heap.size + 1) 4 i0 (.bool false) 1 Tryz.underlying184 hi hz0 hz1 _ _ _ _ xs.length rfl rfl rfl rfl hbytes hmax (by simp) ?_)
  intro w1 hown hgrow
  generalize w.alloc (Obj.cells #[.slice ao xs.length cap] 40) = w0 at *
  have hB1 : Below (w.heap.size + 1) w0 w1 := (Below.refl _ _).grown hgrow (by omega) (by intro k hk; cases hk)
  clear hgrow hbytes hmax
  obtain ⟨al, cl, rfl, hcl, _, hlc⟩ := L0
  go_wp2_with fail
  go_loopw [18] (fun i wr => ∃ (k : Nat) (bs : List Bool), k ≤ rs.length ∧ i = .int .i64 k ∧ bs.length = xs.length ∧ Hid ((rs.drop k).foldl setB bs = rootsB xs.length rs) ∧ wr.ownsRow (w.heap.size + 1) 4 1 (.slice (some ⟨w.heap.size + 1, 0, none⟩) xs.length xs.length) xs.length (vb bs) ∧ Below (w.heap.size + 1) w0 wr) (fun i _ => rs.length - (intOf i).toNat)
  case atStart => exact ⟨0, List.replicate xs.length false, by omega, rfl, by simp, rfl, by rw [vb_made]; exact hown, hB1⟩
  case round =>
    clear hown hB1
    obtain ⟨k, bs, hk, rfl, hbl, HF, hown, hB⟩ := hrel
    by_cases hlt : k < rs.length
    · obtain ⟨g, o, rfl, hg, hlc⟩ := hlc (by intro e; subst e; simp at hlt)
      have ez := (hB.cell (p := ⟨g, o + k, none⟩) (by simp; omega)).trans (hlc k hlt)
      obtain ⟨h1, h2⟩ := allI_at hr k hlt
      have HF2 : Hid ((rs.drop (k + 1)).foldl setB (setB bs (rs.getD k 0)) = rootsB xs.length rs) := (fold_drop rs bs k hlt).symm.trans HF.out
      generalize rs.getD k 0 = z at ez h1 h2 HF2
      obtain ⟨nz, rfl⟩ := Int.eq_ofNat_of_zero_le h1
      have ec := hown.cellAt nz (by omega)
      rw [vb_get _ _ (by omega)] at ec
      have ef := hown.frozenAt nz
      have hs := (hown.stored nz (.bool true)).1
      rw [vb_set] at hs
      clear hlc hr HF
      go_wp2
      go_roundw
      case rel => exact ⟨k + 1, setB bs nz, by omega, by go_num, by rw [setB_length, hbl], HF2, hs, hB.setCell (p := ⟨w.heap.size + 1, nz, none⟩) (Nat.le_refl _) _⟩
      case measure => simp [intOf]; omega
    · have hkx : k = rs.length := by omega
      subst hkx
      have HR : Hid (down xs xs.length bs = reachL xs rs) := by
        have := HF.out
        rw [List.drop_length, List.foldl_nil] at this
        rw [this]
        rfl
      clear HF hk hlt hlc hr
      have ep := (hB.cell (p := ⟨w.heap.size, 0, none⟩) (by simp)).trans ((cell_of_row w0 _ 0 _ _ _ hbx).trans rfl)
      have hBw : w.heap.size + 1 < wr.heap.size := (hown.lt _ rfl).2
      go_wp2_with fail
      go_loopw [8] (fun i wq => ∃ (k : Nat) (cs : List Bool), k ≤ xs.length ∧ i = .int .i64 ((k : Int) - 1) ∧ cs.length = xs.length ∧ Hid (down xs k cs = reachL xs rs) ∧ wq.ownsRow (w.heap.size + 1) 4 1 (.slice (some ⟨w.heap.size + 1, 0, none⟩) xs.length xs.length) xs.length (vb cs) ∧ Below (w.heap.size + 1) w0 wq) (fun i _ => (intOf i + 1).toNat)
      case atStart => exact ⟨xs.length, bs, Nat.le_refl _, rfl, hbl, HR, hown, hB⟩
      case round =>
        clear hown hB HR hbl ep hBw
        clear bs
        obtain ⟨k, bs, hk, rfl, hbl, HR, hown, hB⟩ := hrel
        have ep := (hB.cell (p := ⟨w.heap.size, 0, none⟩) (by simp)).trans ((cell_of_row w0 _ 0 _ _ _ hbx).trans rfl)
        have hBw : w.heap.size + 1 < wr.heap.size := (hown.lt _ rfl).2
        rcases Nat.eq_zero_or_pos k with rfl | hpos
        · have HQ : Hid (bs = reachL xs rs) := HR
          clear HR
          go_wp2
          go_ret
          rw [HQ.out] at hown
          exact ⟨_, rfl, own_mono hown (by omega), hB0.trans (hB.mono (by omega))⟩
        · obtain ⟨j, rfl⟩ : ∃ j, k = j + 1 := ⟨k - 1, by omega⟩
          rw [show ((j + 1 : Nat) : Int) - 1 = (j : Int) by omega]
          obtain ⟨ao', cap', e', _, _, hz, hcell⟩ := R0
          simp only [Value.slice.injEq, true_and] at e'
          obtain ⟨rfl, rfl⟩ := e'
          obtain ⟨g, o, rfl, hg, hcell⟩ := hcell (by intro e; subst e; simp at hk)
          obtain ⟨x, hx⟩ : ∃ x, xs[j]? = some x := ⟨xs[j], by simp⟩
          obtain ⟨c0, c1, c2, c3, c4⟩ := (hcell j x hx).below hB (by rw [hs0] at hg; exact hg)
          have hnb := poolB_at hp hx
          have hkd := nodeB_kind hnb
          have HD : Hid (down xs j (hungStep x (bs.getD j false) bs) = reachL xs rs) := (down_at xs bs j x hx).symm.trans HR.out
          have hA : hasA x.k = true → 0 ≤ x.a ∧ x.a < (j : Int) := fun h => nodeB_A hnb h
          have hBb : hasB x.k = true → 0 ≤ x.b ∧ x.b < (j : Int) := fun h => nodeB_B hnb h
          clear hcell hx HR hnb
          go_wp2_with fail
          refine (shapeof_any x.k _).mono ?_
          rintro e w4 ⟨rfl, hb4⟩
          rw [shapeV, if_pos hkd]
          have hbox := (hb4.block wr.heap.size (by simp)).trans (heap_alloc_new _ _)
          have d3 := cell_of_row w4 _ 3 _ _ _ hbox
          have d4 := cell_of_row w4 _ 4 _ _ _ hbox
          simp only [List.getElem?_toArray, List.getElem?_cons_succ, List.getElem?_cons_zero] at d3 d4
          have hB4' : Below wr.heap.size wr w4 := ((Below.refl wr.heap.size wr).alloc (Nat.le_refl _) _).trans (hb4.mono (by simp))
          have hown4 := own_below hown hB4'
          have hB4 := hB.trans (hB4'.mono (by omega))
          have hw4 : wr.heap.size < w4.heap.size := (Array.getElem?_eq_some_iff.1 hbox).1
          have hw4' : w.heap.size + 1 < w4.heap.size := by omega
          have hne4 : w.heap.size + 1 ≠ wr.heap.size := by omega
          have e0 := hown4.cellAt j (by omega)
          rw [vb_get _ _ (by omega)] at e0
          clear c0 c1 c2 c3 c4 hbox hb4 hB4' hown hB ep
          have hrl : ∀ z, (hungStep x z bs).length = xs.length := fun z => (hungStep_length x z bs).trans hbl
          cases hb : bs.getD j false with
          | false =>
            rw [hb] at e0 HD
            have hl2 := hrl false
            have HE : Hid (hungStep x false bs = bs) := by unfold Hid hungStep; simp
            clear hA hBb hrl hb
            go_wp2
            refine ⟨⟨j, bs, by omega, by go_num, hbl, by rw [HE.out] at HD; exact HD, hown4.alloc _, hB4.alloc (by omega) _⟩, by simp [intOf]⟩
          | true =>
            rw [hb] at e0 HD
            have hl2 := hrl true
            clear hrl hb
            cases hAk : hasA x.k with
            | false =>
              have hBk : hasB x.k = false := by
                unfold hasA at hAk; unfold hasB
                simp only [decide_eq_false_iff_not] at hAk ⊢
                omega
              have HE : Hid (hungStep x true bs = bs) := by unfold Hid hungStep; rw [hAk, hBk]; simp
              rw [hBk]
              clear hA hBb
              go_wp2
              refine ⟨⟨j, bs, by omega, by go_num, hbl, by rw [HE.out] at HD; exact HD, hown4.alloc _, hB4.alloc (by omega) _⟩, by simp [intOf]⟩
            | true =>
              obtain ⟨ha1, ha2⟩ := hA hAk
              obtain ⟨na, hna⟩ := Int.eq_ofNat_of_zero_le ha1
              rw [hna] at d3 ha2
              have e1 := hown4.cellAt na (by omega)
              rw [vb_get _ _ (by omega)] at e1
              have f1 := hown4.frozenAt na
              have hs1 := (hown4.stored na (.bool true)).1
              rw [vb_set] at hs1
              have hnj : na ≠ j := by omega
              have hB5 := hB4.setCell (p := ⟨w.heap.size + 1, na, none⟩) (Nat.le_refl _) (.bool true)
              cases hBk : hasB x.k with
              | false =>
                have HE : Hid (hungStep x true bs = bs.set na true) := by unfold Hid hungStep setB; rw [hAk, hBk, hna]; simp
                clear hA hBb
                go_wp2
                refine ⟨⟨j, bs.set na true, by omega, by go_num, by simpa using hbl, by rw [HE.out] at HD; exact HD, hs1.alloc _, hB5.alloc (by simp; omega) _⟩, by simp [intOf]⟩
              | true =>
                obtain ⟨hb1, hb2⟩ := hBb hBk
                obtain ⟨nb', hnb'⟩ := Int.eq_ofNat_of_zero_le hb1
                rw [hnb'] at d4 hb2
                have HE : Hid (hungStep x true bs = (bs.set na true).set nb' true) := by unfold Hid hungStep setB; rw [hAk, hBk, hna, hnb']; simp
                have e2 := hs1.cellAt nb' (by omega)
                rw [vb_get _ _ (by simp; omega)] at e2
                have f2 := hs1.frozenAt nb'
                have hs2 := (hs1.stored nb' (.bool true)).1
                rw [vb_set] at hs2
                have hB6 := hB5.setCell (p := ⟨w.heap.size + 1, nb', none⟩) (Nat.le_refl _) (.bool true)
                clear hA hBb
                go_wp2
                refine ⟨⟨j, (bs.set na true).set nb' true, by omega, by go_num, by simpa using hbl, by rw [HE.out] at HD; exact HD, hs2.alloc _, hB6.alloc (by simp; omega) _⟩, by simp [intOf]⟩

/-- What Reach answers. -/
def reachR (xs : List Nd) (rs : List Int) : List Bool := if poolB xs && allI xs rs then reachL xs rs else []
theorem reachR_len (xs : List Nd) (rs : List Int) : (reachR xs rs).length ≤ xs.length := by
  unfold reachR
  split
  · rw [reachL_length]; omega
  · simp

end Go.Proofs.YtjnhocefnfmhmaaGreatDoor

/-
  What Tidy answers, and contracts of impl's hasArg and roots. No condition.
-/
namespace Go.Proofs.YtjnhocefnfmhmaaGreatDoor
open Go.RowKit

/-- Arg is a value. -/
def argB (m : Mc) : Bool := (m.t == 1) || (m.t == 2)
/-- What must be there for the machine to go on. -/
def tdR (m : Mc) : List Int := if argB m then [m.s, m.e, m.d, m.r] else [m.s, m.e, m.d]
def tdOk (xs : List Nd) (m : Mc) : Bool := poolB xs && allI xs (tdR m)
/-- Where a root is then. -/
def tdF (xs : List Nd) (m : Mc) (r : Int) : Int := (mvAll 0 xs (reachL xs (tdR m))).2.getD r.toNat 0
def tdL (xs : List Nd) (m : Mc) : List Nd := if tdOk xs m then mvN 0 xs (tdR m) else xs
def tdM (xs : List Nd) (m : Mc) : Mc := if tdOk xs m then ⟨m.p, tdF xs m m.s, tdF xs m m.e, tdF xs m m.d, m.t, m.q, if argB m then tdF xs m m.r else m.r⟩ else m
theorem tdR_len (m : Mc) : (tdR m).length = if argB m then 4 else 3 := by unfold tdR; split <;> rfl
theorem tdL_len (xs : List Nd) (m : Mc) : (tdL xs m).length ≤ xs.length := by
  unfold tdL
  split
  · exact mvN_len 0 xs _
  · omega

set_option maxHeartbeats 800000 in
theorem ihasarg_any (u : Value) (m : Mc) (w : World) :
    Calls Tryz.prog 106 #[.agg #[u, .int .i64 m.p, .int .i64 m.s, .int .i64 m.e, .int .i64 m.d, .int .i64 m.t, .int .i64 m.q, .int .i64 m.r]] w fun e w' => e = .returned (.bool (argB m)) ∧ Below w.heap.size w w' := by
  have hB : Below w.heap.size w (w.alloc (Obj.cells #[u, .int .i64 m.p, .int .i64 m.s, .int .i64 m.e, .int .i64 m.d, .int .i64 m.t, .int .i64 m.q, .int .i64 m.r] 47)) := (Below.refl _ _).alloc (Nat.le_refl _) _
  unfold argB
  by_cases h1 : m.t = 1
  · rw [h1]
    go_enter Tryz.func106, Tryz.ntmps106
    go_wp2
    go_ret
    exact ⟨rfl, (Below.refl _ _).alloc (Nat.le_refl _) _⟩
  · have h1b : (m.t == 1) = false := by simp [h1]
    rw [h1b, Bool.false_or]
    go_enter Tryz.func106, Tryz.ntmps106
    go_wp2
    go_ret
    exact ⟨rfl, hB⟩

theorem ints_lit (w : World) (l : List Int) (t : TypeId) (n : Nat) (h : n ≤ l.length) (hm : l.length ≤ 100) : IRow (w.alloc (Obj.cells (iv l).toArray t)) (.slice (some ⟨w.heap.size, 0, none⟩) n n) (l.take n) := by
  have hl : (l.take n).length = n := by simp; omega
  refine ⟨some ⟨w.heap.size, 0, none⟩, n, by rw [hl], ⟨by omega, fun h => by cases h⟩, by omega, fun _ => ⟨w.heap.size, 0, rfl, by simp, fun i hi => ?_⟩⟩
  rw [cell_of_row _ _ _ _ _ _ (heap_alloc_new w _), Nat.zero_add]
  rw [hl] at hi
  rw [getD_take _ _ _ _ hi, List.getElem?_toArray, iv_get _ _ (by omega)]

set_option maxHeartbeats 800000 in
theorem iroots_any (ao : Option Addr) (n cap : Nat) (m : Mc) (w : World) :
    Calls Tryz.prog 103 #[.agg #[.slice ao n cap, .int .i64 m.p, .int .i64 m.s, .int .i64 m.e, .int .i64 m.d, .int .i64 m.t, .int .i64 m.q, .int .i64 m.r]] w fun e w' => ∃ v', e = .returned v' ∧ IRow w' v' (tdR m) ∧ Below w.heap.size w w' := by
  have hB2 := below2 w (Obj.cells #[.slice ao n cap, .int .i64 m.p, .int .i64 m.s, .int .i64 m.e, .int .i64 m.d, .int .i64 m.t, .int .i64 m.q, .int .i64 m.r] 47) (Obj.cells #[.int .i64 m.s, .int .i64 m.e, .int .i64 m.d, .int .i64 m.r] 3)
  have L4 := ints_lit (w.alloc (Obj.cells #[.slice ao n cap, .int .i64 m.p, .int .i64 m.s, .int .i64 m.e, .int .i64 m.d, .int .i64 m.t, .int .i64 m.q, .int .i64 m.r] 47)) [m.s, m.e, m.d, m.r] 3 4 (by simp) (by simp)
  have L3 := ints_lit (w.alloc (Obj.cells #[.slice ao n cap, .int .i64 m.p, .int .i64 m.s, .int .i64 m.e, .int .i64 m.d, .int .i64 m.t, .int .i64 m.q, .int .i64 m.r] 47)) [m.s, m.e, m.d, m.r] 3 3 (by simp) (by simp)
  have hs1 : (w.alloc (Obj.cells #[.slice ao n cap, .int .i64 m.p, .int .i64 m.s, .int .i64 m.e, .int .i64 m.d, .int .i64 m.t, .int .i64 m.q, .int .i64 m.r] 47)).heap.size = w.heap.size + 1 := by simp
  rw [hs1] at L4 L3
  have HT : Hid (tdR m = if argB m then [m.s, m.e, m.d, m.r] else [m.s, m.e, m.d]) := rfl
  clear hs1
  go_enter Tryz.func103, Tryz.ntmps103
  go_wp2_with fail
  refine (ihasarg_any _ m _).mono ?_
  rintro e w1 ⟨rfl, hb1⟩
  have hB1 := hB2.trans (hb1.mono hB2.size)
  have L4' := L4.below hb1
  have L3' := L3.below hb1
  clear L4 L3 hB2 hb1
  cases hA : argB m with
  | true =>
    rw [hA] at HT
    go_wp2
    go_ret
    exact ⟨_, rfl, by rw [HT.out]; exact L4', hB1⟩
  | false =>
    rw [hA] at HT
    go_wp2
    go_ret
    exact ⟨_, rfl, by rw [HT.out]; exact L3', hB1⟩
end Go.Proofs.YtjnhocefnfmhmaaGreatDoor
