/-
  Texts that stood by themselves, laid into one.
-/
import Derived.Test.YtjigbjnahndpiaaPrimM
import Derived.Test.YtjigbjnahndpiaaDraw11M
import Derived.Test.YtjigbjnahndpiaaPrim3M
import Derived.Test.YtjigbjnahndpiaaOc5M
import Derived.Test.YtjigbjnahndpiaaISizeM
import Derived.Test.YtjigbjnahndpiaaSSizeM
import Derived.Test.YtjigbjnahndpiaaOc3a1M
/-
  Contract of the draws' DrawPrimDo.
-/
namespace Go.Proofs.Ytjigbjnahndpiaa
open Go.RowKit

theorem primArgs_small (n : Int) : -1 ≤ primArgsR n ∧ primArgsR n ≤ 2 := by
  unfold primArgsR
  split
  · rename_i h
    obtain ⟨s, t, hx, _, _, h0, h2⟩ := prims_at (n - 1).toNat (by omega)
    rw [List.getD_eq_getElem?_getD, hx]
    exact ⟨by simp; omega, by simp; omega⟩
  · omega

def pk6 : List Int := [1, -4, 7, 1000000000, -1000000000, 40000]

set_option maxRecDepth 100000 in
set_option maxHeartbeats 6400000 in
theorem dprimdo_any (v : Value) (zs : List Int) (w : World) (R : Row w v zs) (hl : zs.length ≤ 1048576) :
    Calls Try.prog 8 #[v] w fun e w' => ∃ (v' vl : Value) (xs : List Nd) (n : Int) (ls : List Int), e = .returned (.tuple #[.agg #[v'], .int .i64 n, vl]) ∧ xs.length ≤ 3001 ∧ (∀ x ∈ xs, x.s.size ≤ 40) ∧ ls.length ≤ 3 ∧ w'.ownsRow w.heap.size 34 5 v' xs.length (ncs xs) ∧ w'.ownsRow w.heap.size 3 1 vl ls.length (iv ls) ∧ Below w.heap.size w w' := by
  obtain ⟨i0, hi, hz0, hz1, hz2⟩ := info_parts Try.infoI4
  have hB0 : Below w.heap.size w (w.alloc (.cells #[.slice none 0 0] 26)) := (Below.refl _ _).alloc (Nat.le_refl _) _
  have hr0 : (w.alloc (.cells #[.slice none 0 0] 26)).heap[w.heap.size]? = some (.cells #[.slice none 0 0] 26 (0, 0)) := heap_alloc_new _ _
  have R0 := R.below hB0
  go_enter Try.func8, Try.ntmps8
  go_wp2_with fail
  generalize hA : w.alloc (Obj.cells #[Value.slice none 0 0] 26) = wA at hB0 hr0 R0 ⊢
  have hlr : w.heap.size < wA.heap.size := by rw [← hA]; simp
  clear hA
  refine (new_any v zs wA R0 hl).mono ?_
  rintro e w1 ⟨rfl, c1, b1⟩
  have hP1 := c1.lt
  have hlrA := hlr
  generalize wA.heap.size = P at c1 hlr hP1 ⊢
  clear b1
  go_wp2_with fail
  refine (ddraw_any wA v zs w1 P c1).mono ?_
  rintro e w2 ⟨v2, xs, rfl, hxl, hz, ho2, c2, g2⟩
  obtain ⟨a2, q2, rfl⟩ := own_form ho2
  have hb2 := c2.lt
  have pv2 : PV (w2.alloc (.cells #[.slice a2 xs.length q2] 26)) w2.heap.size (P + 1) xs := ⟨_, heap_alloc_new w2 (.cells #[.slice a2 xs.length q2] 26), own_mono (B' := P + 1) (ho2.alloc (.cells #[.slice a2 xs.length q2] 26)) (by omega)⟩
  have c3 := c2.kept ((Below.refl (P + 1) w2).alloc (by omega) (.cells #[.slice a2 xs.length q2] 26))
  have HZ : Hid (∀ x ∈ xs, x.s.size ≤ 40) := hz
  clear ho2 c2 g2 c1 hz
  go_wp2_with fail
  generalize w2.alloc (Obj.cells #[Value.slice a2 xs.length q2] 26) = w3 at pv2 c3 ⊢
  generalize w2.heap.size = b at pv2 hb2 ⊢
  refine (below_any wA v zs w3 P 12 c3 (by omega)).mono ?_
  rintro e w4 ⟨r4, rfl, hr40, hr41, c4, g4⟩
  have hr4 := hr41 (by omega)
  have pv4 := pv2.turn g4 hb2
  clear pv2 c3 g4 hr41
  go_wp2_with fail
  refine (once_any wA v zs w4 P 9 c4 (by omega)).mono ?_
  rintro e w5 ⟨bb, rfl, c5, g5⟩
  have pv5 := pv4.turn g5 hb2
  clear pv4 c4 g5
  go_upto_if 19 with fail
  go_cut [7] from 20 (fun s7 wx => ∃ n : Int, s7 = .int .i64 n ∧ -1 ≤ n ∧ n ≤ 20 ∧ PV wx b (P + 1) xs ∧ Cur wA v zs wx P)
  case first =>
    cases bb with
    | false =>
      go_wp2_with fail
      go_meet
      case rel => exact ⟨1 + r4, rfl, by omega, by omega, pv5, c5⟩
    | true =>
      go_wp2_with fail
      refine (below_any wA v zs w5 P 22 c5 (by omega)).mono ?_
      rintro e w6 ⟨r6, rfl, hr60, hr61, c6, g6⟩
      have hr6 := hr61 (by omega)
      have pv6 := pv5.turn g6 hb2
      go_wp2_with fail
      go_meet
      case rel => exact ⟨r6 - 1, rfl, by omega, by omega, pv6, c6⟩
  case rest =>
    clear pv5 c5
    obtain ⟨n, rfl, hn0, hn1, pv5, c5⟩ := hcut
    obtain ⟨w6, hw6⟩ : ∃ w6, w6 = wc := ⟨_, rfl⟩
    subst hw6
    go_upto_region 6 with fail
    go_cut [36] from 23 (fun s36 wx => ∃ bb : Bool, s36 = .bool bb ∧ (bb = true → 0 < xs.length ∧ xs.length < 40) ∧ PV wx b (P + 1) xs ∧ Cur wA v zs wx P)
    case first =>
      have pv6 := pv5
      obtain ⟨v6, hb6, ho6⟩ := pv5
      obtain ⟨a6, q6, rfl⟩ := own_form ho6
      have hc6 : w6.cell? ⟨b, 0, none⟩ = some (.slice a6 xs.length q6) := cell_of_row w6 _ 0 _ _ _ hb6
      by_cases h0 : 0 < xs.length
      · have h0' : (0 : Int) < xs.length := by omega
        by_cases h40 : xs.length < 40
        · have h40' : (xs.length : Int) < 40 := by omega
          go_wp2_with fail
          refine (once_any wA v zs w6 P 2 c5 (by omega)).mono ?_
          rintro e w7 ⟨bb, rfl, c7, g7⟩
          have pv7 := pv6.turn g7 hb2
          go_wp2_with fail
          go_meet
          case rel => exact ⟨bb, rfl, (fun _ => ⟨h0, h40⟩), pv7, c7⟩
        · have h40' : ¬ (xs.length : Int) < 40 := by omega
          go_wp2_with fail
          go_meet
          case rel => exact ⟨false, rfl, (fun h => by cases h), pv6, c5⟩
      · have h0' : ¬ (0 : Int) < xs.length := by omega
        go_wp2_with fail
        go_meet
        case rel => exact ⟨false, rfl, (fun h => by cases h), pv6, c5⟩
    case rest =>
      clear pv5 c5
      obtain ⟨bb, rfl, hbb, pv7, c7⟩ := hcut
      obtain ⟨w7, hw7⟩ : ∃ w7, w7 = wc := ⟨_, rfl⟩
      subst hw7
      go_upto_if 36 with fail
      go_cut [] from 37 (fun wx => ∃ ys : List Nd, ys.length ≤ 3001 ∧ Hid (∀ x ∈ ys, x.s.size ≤ 40) ∧ PV wx b (P + 1) ys ∧ Cur wA v zs wx P)
      case first =>
        cases bb with
        | false =>
          go_wp2_with fail
          go_meet
          case rel => exact ⟨xs, hxl, HZ, pv7, c7⟩
        | true =>
          obtain ⟨h0, h40⟩ := hbb rfl
          go_wp2_with fail
          go_loopw [8] (fun i wr => ∃ (ys : List Nd) (k : Nat), k ≤ 2 ∧ ys.length ≤ 40 + k ∧ i = .int .i64 k ∧ Hid (∀ x ∈ ys, x.s.size ≤ 40) ∧ PV wr b (P + 1) ys ∧ Cur wA v zs wr P) (fun i _ => 2 - (intOf i).toNat)
          case atStart => exact ⟨xs, 0, by omega, by omega, rfl, HZ, pv7, c7⟩
          case round =>
            clear pv7 c7 HZ
            obtain ⟨ys, k, hk, hyl, rfl, HY, pvr, cr⟩ := hrel
            by_cases hlt : (k : Int) < 2
            · have hcr := cr.lt
              have cA := cr.kept ((Below.refl (P + 1) wr).alloc (by omega) (.cells (pk6.map (Value.int .i64)).toArray 3))
              have pvA := pvr.alloc (.cells (pk6.map (Value.int .i64)).toArray 3)
              have HP : Hid (∀ i, i < pk6.length → (wr.alloc (.cells (pk6.map (Value.int .i64)).toArray 3)).cell? ⟨wr.heap.size, i, none⟩ = some (.int .i64 (pk6.getD i 0))) := fun i hi => ints_new wr pk6 3 i hi
              go_wp2_with fail
              refine (pick_any wA v zs _ P wr.heap.size 6 pk6 cA (by omega) (by decide) (by decide) (by decide) HP.out).mono ?_
              rintro e w8 ⟨x, rfl, hx0, hx1, c8, g8⟩
              have pv8 := pvA.turn g8 hb2
              obtain ⟨v8, hb8, ho8⟩ := pv8
              obtain ⟨a8, q8, rfl⟩ := own_form ho8
              clear pvA cA pvr cr g8 HP
              go_wp2_with fail
              refine (sadd_any b (P + 1) a8 q8 ys ⟨3, x, ByteArray.empty, 0, 0⟩ w8 hb8 ho8 (by omega) (by omega)).mono ?_
              rintro e w9 ⟨v9, rfl, hb9, ho9, hB9⟩
              have c9 := c8.kept hB9
              clear hb8 ho8 hB9 c8
              go_wp2_with fail
              go_roundw
              case rel =>
                refine ⟨ys ++ [_], k + 1, by omega, by simp; omega, by go_num, ?_, ⟨_, hb9, ho9⟩, c9⟩
                intro z hz
                simp only [List.mem_append, List.mem_singleton] at hz
                rcases hz with hz | rfl
                · exact HY.out z hz
                · exact empty40
              case measure => simp [intOf]; omega
            · go_wp2_with fail
              go_meet
              case rel => exact ⟨ys, by omega, HY, pvr, cr⟩
      case rest =>
        clear pv7 c7 HZ hxl hbb
        obtain ⟨ys, hyl, HY, ⟨v8, hb8, ho8⟩, c8⟩ := hcut
        obtain ⟨w8, hw8⟩ : ∃ w8, w8 = wc := ⟨_, rfl⟩
        subst hw8
        obtain ⟨a2, q2, rfl⟩ := own_form ho8
        have hPl := c8.lt
        have hlb := (Array.getElem?_eq_some_iff.1 hb8).1
        have hb4 := (heap_alloc_old w8 (.cells #[] 3) hlb).trans hb8
        have ho4 := ho8.alloc (.cells #[] 3)
        have hi4 := own_empty w8 3 1 (P + 1) (by omega)
        have c4 := c8.kept ((Below.refl (P + 1) w8).alloc (by omega) (.cells #[] 3))
        obtain ⟨hpa0, hpa1⟩ := primArgs_small n
        clear hb8 ho8 c8 hlb
        go_wp2_with fail
        generalize w8.alloc (Obj.cells #[] 3) = w4 at hb4 ho4 hi4 c4 ⊢
        go_loopw [9, 10] (fun s i wr => ∃ (ls : List Int), ls.length ≤ 3 ∧ i = .int .i64 ls.length ∧ wr.heap[b]? = some (.cells #[.slice a2 ys.length q2] 26 (0, 0)) ∧ wr.ownsRow (P + 1) 34 5 (.slice a2 ys.length q2) ys.length (ncs ys) ∧ wr.ownsRow (P + 1) 3 1 s ls.length (iv ls) ∧ Cur wA v zs wr P) (fun _ i _ => 3 - (intOf i).toNat)
        case atStart => exact ⟨[], by simp, rfl, hb4, ho4, hi4, c4⟩
        case round =>
          clear hb4 ho4 hi4 c4
          obtain ⟨ls, hls, rfl, hbr, hor, hir, cr⟩ := hrel
          have hlr4 := (Array.getElem?_eq_some_iff.1 hbr).1
          have hcl := cr.lt
          go_wp2_with fail
          refine (sprimargs_any _ n).mono ?_
          rintro e wp ⟨rfl, hbp⟩
          have cp := cr.kept (hbp.mono (by omega))
          have hbq := (hbp.block b hlr4).trans hbr
          have hoq := own_below hor hbp
          have hiq := own_below hir hbp
          have hlq := (Array.getElem?_eq_some_iff.1 hbq).1
          clear hbr hor hir cr hlr4 hbp hcl
          generalize primArgsR n = pa at hpa0 hpa1 ⊢
          go_wp2_with fail
          refine (below_any wA v zs wp P 20 cp (by omega)).mono ?_
          rintro e w5 ⟨m, rfl, hm0, hm1, c5, g5⟩
          have hm := hm1 (by omega)
          have hb5 := (g5.block b hlq (by simp; omega)).trans hbq
          have ho5 := hoq.kept g5 (own_not hoq (by omega))
          have hi5 := hiq.kept g5 (own_not hiq (by omega))
          have hl5 := (Array.getElem?_eq_some_iff.1 hb5).1
          have hc5 : w5.cell? ⟨b, 0, none⟩ = some (.slice a2 ys.length q2) := cell_of_row w5 _ 0 _ _ _ hb5
          clear hbq hoq hiq cp g5 hm1 hlq
          obtain ⟨z, hzq, hz00, hz01⟩ : ∃ z : Int, m.tdiv 19 = z ∧ 0 ≤ z ∧ z ≤ 1 := by
            refine ⟨m.tdiv 19, rfl, ?_, ?_⟩
            · rw [Int.tdiv_eq_ediv_of_nonneg hm0]; omega
            · rw [Int.tdiv_eq_ediv_of_nonneg hm0]; omega
          by_cases hlt : (ls.length : Int) < pa + z
          · go_wp2_with fail
            refine (ddrawat_any wA v zs w5 P a2 ys.length q2 c5 (by omega)).mono ?_
            rintro e w6 ⟨x, rfl, hx0, hx1, c6, g6⟩
            have hb6 := (g6.block b hl5 (by simp; omega)).trans hb5
            have ho6 := ho5.kept g6 (own_not ho5 (by omega))
            have hi6 := hi5.kept g6 (own_not hi5 (by omega))
            have hl6 := (Array.getElem?_eq_some_iff.1 hb6).1
            have hP6 := c6.lt
            obtain ⟨asl, qs, rfl⟩ := own_form hi6
            clear hb5 ho5 hi5 c5 g6 hl5 hc5
            go_wp2_with (at_builtin; refine wpList_append_own _ rfl _ _ 27 rfl (P + 1) 3 i0 (.int .i64 0) 1 8 Try.underlying27 hi hz0 hz1 hz2 rfl (by decide) _ _ _ rfl (hi6.alloc _) ⟨w6.heap.size, 0, none⟩ 1 1 [.int .i64 x] rfl rfl (cell_one_new _ _ _) (fun u hu => by simp at hu; subst hu; rfl) (by unfold maxLen; omega) (by omega) (by simp; omega) ?_)
            intro v7 w7 hi7 hg7 _
            have hi8 : w7.ownsRow (P + 1) 3 1 v7 (ls ++ [x]).length (iv (ls ++ [x])) := by rw [iv_append, List.length_append]; exact hi7
            have ho7 := (ho6.alloc (Obj.cells #[.int .i64 x] 3)).kept hg7 (own_apart ho6 hi6 (by decide))
            have hb7 : w7.heap[b]? = some (.cells #[.slice a2 ys.length q2] 26 (0, 0)) := (hg7.block b (by simp; omega) (fun e => own_ne hi6 hb6 (by decide) e.symm)).trans ((heap_alloc_old _ _ hl6).trans hb6)
            have c7 := c6.kept (((Below.refl (P + 1) w6).alloc (by omega) _).grown hg7 (by simp; omega) (fun k hk => (hi6.lt k hk).1))
            clear hi7 hg7 ho6 hb6 c6 hi6
            go_wp2_with fail
            go_roundw
            case rel => exact ⟨ls ++ [x], by simp; omega, by simp, hb7, ho7, hi8, c7⟩
            case measure => simp [intOf]; omega
          · have hr5 := (c5.2.1.block w.heap.size (by omega)).trans hr0
            have hd5 : w5.cell? ⟨w.heap.size, 0, none⟩ = some (.slice none 0 0) := cell_of_row w5 _ 0 _ _ _ hr5
            have hf5 : w5.frozen? ⟨w.heap.size, 0, none⟩ = false := frozen_of_row w5 _ 0 _ _ hr5
            have hB5 := hB0.trans (c5.2.1.mono hB0.size)
            obtain ⟨p1, p2, p3⟩ := put_pool hr5 ho5 hB5 (by omega) (Nat.le_refl _)
            have p4 := own_mono (B' := w.heap.size) (ownsRow_setCell_below hi5 (a := ⟨w.heap.size, 0, none⟩) (by show w.heap.size < P + 1; omega) (.slice a2 ys.length q2)) (by omega)
            have hne : w.heap.size ≠ b := by omega
            obtain ⟨asl, qs, rfl⟩ := own_form hi5
            go_wp2_with fail
            refine bodyPost_ret (results_row_two rfl _ _ w.heap.size 26 _ (0, 0) _ rfl p1 Try.underlying26 rfl Try.sizeP) rfl ⟨_, .slice asl ls.length qs, ys, n, ls, rfl, hyl, HY.out, hls, p2, p4, p3⟩
end Go.Proofs.Ytjigbjnahndpiaa

/-
  What a list is read as, and the contracts of impl.ListOf and spec.ListOf.
-/
namespace Go.Proofs.Ytjigbjnahndpiaa
open Go.RowKit

theorem Try.infoI2 : (Try.prog.info? 3).map (fun i => (i.zero, i.size, i.bytes)) = some (some (.int .i64 0), 1, 8) := by kernel_rfl

/-- The values from the node j on, behind acc; none when it does not end with a KNil. -/
def chain (xs : List Nd) : Nat → Nat → List Int → Option (List Int)
  | 0, _, _ => none
  | f + 1, j, acc => match xs[j]? with
    | none => none
    | some x => if x.k = 5 then chain xs f x.b.toNat (acc ++ [x.a]) else if x.k = 1 then some acc else none
def chainR (xs : List Nd) (v : Nat) : List Int × Bool := match chain xs (v + 1) v [] with
  | some l => (l, true)
  | none => ([], false)
/-- What ListOf answers. -/
def listR (xs : List Nd) (v : Int) : List Int × Bool := if poolB xs && hasI xs v then chainR xs v.toNat else ([], false)
theorem chain_pair (xs : List Nd) (f j : Nat) (acc : List Int) (x : Nd) (hx : xs[j]? = some x) (h5 : x.k = 5) (hf : j < f) : chain xs f j acc = chain xs (f - 1) x.b.toNat (acc ++ [x.a]) := by
  cases f with
  | zero => omega
  | succ f => simp [chain, hx, h5]
theorem chain_nil (xs : List Nd) (f j : Nat) (acc : List Int) (x : Nd) (hx : xs[j]? = some x) (h1 : x.k = 1) (hf : j < f) : chain xs f j acc = some acc := by
  cases f with
  | zero => omega
  | succ f => simp [chain, hx, h1]
theorem chain_none (xs : List Nd) (f j : Nat) (acc : List Int) (x : Nd) (hx : xs[j]? = some x) (h5 : ¬ x.k = 5) (h1 : ¬ x.k = 1) (hf : j < f) : chain xs f j acc = none := by
  cases f with
  | zero => omega
  | succ f => simp [chain, hx, h5, h1]

set_option maxHeartbeats 400000 in
theorem shas_all (v : Value) (xs : List Nd) (a : Int) (w : World) (R : NRow w v xs) :
    Calls Try.prog 35 #[.agg #[v], .int .i64 a] w fun e w' => e = .returned (.bool (hasI xs a)) ∧ Below w.heap.size w w' := by
  obtain ⟨ao, cap, rfl, _, hm, _⟩ := R
  go_enter Try.func35, Try.ntmps35
  go_wp2_with fail
  refine (lin_any _ _ _ _).mono ?_
  rintro e w1 ⟨rfl, rfl⟩
  go_wp2
  go_ret
  refine ⟨retB ?_, (Below.refl _ _).alloc (Nat.le_refl _) _⟩
  rw [Bool.eq_iff_iff]
  simp [hasI]
  omega

end Go.Proofs.Ytjigbjnahndpiaa

/-
  A list that is made of values is read as these: plain mathematics. Nothing of the program; no condition.
-/
namespace Go.Proofs.Ytjigbjnahndpiaa
open Go.RowKit

theorem nodesB_snoc' (xs : List Nd) (x : Nd) (i : Nat) : nodesB (xs ++ [x]) i = (nodesB xs i && nodeB x ((i + xs.length : Nat) : Int)) := by
  induction xs generalizing i with
  | nil => simp [nodesB]
  | cons y ys ih =>
    simp only [List.cons_append, nodesB, ih, Bool.and_assoc, List.length_cons]
    rw [show i + 1 + ys.length = i + (ys.length + 1) by omega]
theorem poolB_snoc' {xs : List Nd} {x : Nd} (h : poolB xs = true) (hx : nodeB x xs.length = true) (hl : xs.length < 3000) : poolB (xs ++ [x]) = true := by
  unfold poolB at h ⊢
  simp only [Bool.and_eq_true, decide_eq_true_eq] at h
  rw [nodesB_snoc', h.2, Nat.zero_add, hx]
  simp; omega
theorem nilN_ok (n : Nat) : nodeB nilN n = true := by simp [nodeB, nilN, nameFB, partB, lo, hi, hasS, hasA, hasB]
theorem pairN_ok (z : Int) (last : Nat) (at_ : Nat) (h0 : 0 ≤ z) (h1 : z < at_) (h2 : last < at_) : nodeB (pairN z last) at_ = true := by
  simp [nodeB, pairN, nameFB, partB, lo, hi, hasS, hasA, hasB, h0, h1, h2]
theorem pool_more (xs : List Nd) (zs : List Int) (hp : poolB xs = true) (hl : xs.length + 1 + zs.length ≤ 3000) (ha : allI xs zs = true) (d : Nat) (hd : d ≤ zs.length) : poolB (xs ++ more zs xs.length (zs.length - d)) = true := by
  induction d with
  | zero =>
    rw [show more zs xs.length (zs.length - 0) = [nilN] by simp [more, pairsR]]
    exact poolB_snoc' hp (nilN_ok _) (by omega)
  | succ d ih =>
    have hm : zs.length - (d + 1) < zs.length := by omega
    rw [more_step zs xs.length (zs.length - (d + 1)) hm, show zs.length - (d + 1) + 1 = zs.length - d by omega, ← List.append_assoc]
    have hlen : (xs ++ more zs xs.length (zs.length - d)).length = xs.length + d + 1 := by rw [List.length_append, more_length]; omega
    refine poolB_snoc' (ih (by omega)) ?_ (by rw [hlen]; omega)
    have hz := List.all_eq_true.1 ha zs[zs.length - (d + 1)] (List.getElem_mem _)
    simp only [hasI, Bool.and_eq_true, decide_eq_true_eq] at hz
    rw [hlen]
    exact pairN_ok _ _ _ hz.1 (by omega) (by omega)
theorem more_ext (zs : List Int) (n : Nat) (d : Nat) (hd : d ≤ zs.length) : ∃ t, more zs n 0 = more zs n (zs.length - d) ++ t := by
  induction hk : zs.length - d generalizing d with
  | zero => exact ⟨[], by simp⟩
  | succ k ih =>
    obtain ⟨t, ht⟩ := ih (d + 1) (by omega) (by omega)
    rw [ht, more_step zs n k (by omega)]
    exact ⟨_, List.append_assoc _ _ _⟩
theorem chain_more (xs : List Nd) (zs : List Int) (d : Nat) (hd : d ≤ zs.length) (f : Nat) (acc : List Int) (hf : xs.length + d < f) :
    chain (xs ++ more zs xs.length 0) f (xs.length + d) acc = some (acc ++ zs.drop (zs.length - d)) := by
  induction d generalizing f acc with
  | zero =>
    obtain ⟨t, ht⟩ := more_ext zs xs.length 0 (by omega)
    rw [chain_nil _ f (xs.length + 0) acc nilN ?_ rfl hf]
    · simp
    · rw [ht, show more zs xs.length (zs.length - 0) = [nilN] by simp [more, pairsR]]
      simp
  | succ d ih =>
    have hm : zs.length - (d + 1) < zs.length := by omega
    obtain ⟨t, ht⟩ := more_ext zs xs.length (d + 1) hd
    have hx : (xs ++ more zs xs.length 0)[xs.length + (d + 1)]? = some (pairN zs[zs.length - (d + 1)] (xs.length + (zs.length - (zs.length - (d + 1) + 1)))) := by
      rw [ht, more_step zs xs.length (zs.length - (d + 1)) hm]
      have hl := more_length zs xs.length (zs.length - (d + 1) + 1)
      rw [List.getElem?_append_right (by omega), List.append_assoc, List.getElem?_append_right (by omega), List.getElem?_append_left (by simp; omega)]
      rw [show xs.length + (d + 1) - xs.length - (more zs xs.length (zs.length - (d + 1) + 1)).length = 0 by omega]
      rfl
    rw [chain_pair _ f _ acc _ hx rfl (by omega)]
    have hb : ((pairN zs[zs.length - (d + 1)] (xs.length + (zs.length - (zs.length - (d + 1) + 1)))).b).toNat = xs.length + d := by
      show (((xs.length + (zs.length - (zs.length - (d + 1) + 1)) : Nat) : Int)).toNat = _
      rw [Int.toNat_natCast]; omega
    rw [hb, ih (by omega) (f - 1) _ (by omega)]
    have : zs.drop (zs.length - (d + 1)) = zs[zs.length - (d + 1)] :: zs.drop (zs.length - d) := by
      rw [List.drop_eq_getElem_cons hm, show zs.length - (d + 1) + 1 = zs.length - d by omega]
    rw [this, List.append_assoc]
    rfl
theorem lists_back (xs : List Nd) (zs : List Int) (hp : poolB xs = true) (hok : mlOk xs zs = true) : poolB (xs ++ more zs xs.length 0) = true ∧ listR (xs ++ more zs xs.length 0) ((xs.length + zs.length : Nat) : Int) = (zs, true) := by
  simp only [mlOk, Bool.and_eq_true, decide_eq_true_eq] at hok
  have h1 := pool_more xs zs hp hok.1 hok.2 zs.length (Nat.le_refl _)
  rw [Nat.sub_self] at h1
  refine ⟨h1, ?_⟩
  have hml := more_length zs xs.length 0
  have hi : hasI (xs ++ more zs xs.length 0) ((xs.length + zs.length : Nat) : Int) = true := by
    unfold hasI
    rw [List.length_append, hml]
    simp
    omega
  unfold listR chainR
  rw [h1, hi, Bool.and_self, if_pos rfl, Int.toNat_natCast, chain_more xs zs zs.length (Nat.le_refl _) _ [] (by omega)]
  simp
theorem chain_len' (xs : List Nd) (f j : Nat) (acc l : List Int) (h : chain xs f j acc = some l) : l.length ≤ acc.length + f := by
  induction f generalizing j acc with
  | zero => simp [chain] at h
  | succ f ih =>
    simp only [chain] at h
    split at h
    · cases h
    · split at h
      · have := ih _ _ h
        simp at this
        omega
      · split at h
        · cases h; omega
        · cases h
theorem listR_len' (xs : List Nd) (a : Int) : (listR xs a).1.length ≤ xs.length := by
  unfold listR
  cases h : (poolB xs && hasI xs a) with
  | false => simp
  | true =>
    simp only [Bool.and_eq_true, hasI, decide_eq_true_eq] at h
    rw [if_pos rfl]
    unfold chainR
    split
    · rename_i l hl
      have := chain_len' xs _ _ _ _ hl
      show l.length ≤ xs.length
      simp only [List.length_nil] at this
      omega
    · simp

end Go.Proofs.Ytjigbjnahndpiaa
