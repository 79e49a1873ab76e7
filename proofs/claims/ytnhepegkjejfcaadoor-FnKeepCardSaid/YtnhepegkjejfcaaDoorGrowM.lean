/-
  Texts that stood by themselves, laid into one.
-/
import Derived.Test.YtnhepegkjejfcaaDoorIntsM
import Derived.Test.YtnhepegkjejfcaaDoorMvOkM
import Derived.Test.YtnhepegkjejfcaaDoorNameM
import Derived.Laws.CopyOwn
/-
  What MakeList makes, and the contracts of impl's hasAll and MakeList.
-/
namespace Go.Proofs.YtnhepegkjejfcaaDoor
open Go.RowKit

def nilN : Nd := ⟨1, 0, ByteArray.empty, 0, 0⟩
def pairN (z : Int) (last : Nat) : Nd := ⟨5, 0, ByteArray.empty, z, last⟩
/-- The pairs of the values, the last one first, from the node 'last' on. -/
def pairsR : List Int → Nat → List Nd
  | [], _ => []
  | z :: r, last => pairN z last :: pairsR r (last + 1)
theorem pairsR_snoc (r : List Int) (z : Int) (last : Nat) : pairsR (r ++ [z]) last = pairsR r last ++ [pairN z (last + r.length)] := by
  induction r generalizing last with
  | nil => rfl
  | cons y r ih => simp only [List.cons_append, pairsR, ih, List.length_cons]; rw [show last + 1 + r.length = last + (r.length + 1) by omega]
theorem pairsR_length (r : List Int) (last : Nat) : (pairsR r last).length = r.length := by
  induction r generalizing last with
  | nil => rfl
  | cons y r ih => simp [pairsR, ih]
theorem pairsR_ok (r : List Int) (last : Nat) : ∀ x ∈ pairsR r last, x.s.size ≤ maxLen := by
  induction r generalizing last with
  | nil => simp [pairsR]
  | cons y r ih =>
    intro x hx
    simp only [pairsR, List.mem_cons] at hx
    rcases hx with rfl | hx
    · simp [pairN]
    · exact ih _ x hx
/-- The list so far, when the values from m on stand. -/
def more (zs : List Int) (n m : Nat) : List Nd := nilN :: pairsR (zs.drop m).reverse n
theorem more_length (zs : List Int) (n m : Nat) : (more zs n m).length = zs.length - m + 1 := by simp [more, pairsR_length]
theorem more_ok (zs : List Int) (n m : Nat) : ∀ x ∈ more zs n m, x.s.size ≤ maxLen := by
  intro x hx
  simp only [more, List.mem_cons] at hx
  rcases hx with rfl | hx
  · simp [nilN]
  · exact pairsR_ok _ _ x hx
theorem more_step (zs : List Int) (n m : Nat) (h : m < zs.length) : more zs n m = more zs n (m + 1) ++ [pairN zs[m] (n + (zs.length - (m + 1)))] := by
  unfold more
  rw [List.drop_eq_getElem_cons h, List.reverse_cons, pairsR_snoc]
  simp

def allI (xs : List Nd) (zs : List Int) : Bool := zs.all (hasI xs)
/-- What MakeList leaves, and the number that it tells. -/
def mlOk (xs : List Nd) (zs : List Int) : Bool := decide (xs.length + 1 + zs.length ≤ 3000) && allI xs zs
def mlL (xs : List Nd) (zs : List Int) : List Nd := if poolB xs = true then (if mlOk xs zs = true then xs ++ more zs xs.length 0 else xs) else []
def mlI (xs : List Nd) (zs : List Int) : Int := if poolB xs = true then (if mlOk xs zs = true then ((xs.length + zs.length : Nat) : Int) else -1) else -1

theorem all_drop (p : Int → Bool) (zs : List Int) (k : Nat) (h : k < zs.length) : (zs.drop k).all p = (p (zs.getD k 0) && (zs.drop (k + 1)).all p) := by
  rw [List.drop_eq_getElem_cons h, List.all_cons, List.getD_eq_getElem?_getD, List.getElem?_eq_getElem h]
  rfl

set_option maxHeartbeats 800000 in
theorem hasall_any (v vl : Value) (xs : List Nd) (zs : List Int) (w : World) (R : NRow w v xs) (L : IRow w vl zs) :
    Calls Tryd.prog 19 #[.agg #[v], vl] w fun e w' => e = .returned (.bool (allI xs zs)) ∧ Below w.heap.size w w' := by
  have R' := R
  obtain ⟨ao, cap, rfl, _⟩ := R'
  obtain ⟨al, cl, rfl, hcl, hlm, hcell⟩ := L
  go_enter Tryd.func19, Tryd.ntmps19
  go_wp2_with fail
  go_loopw [9] (fun i wr => ∃ k : Nat, k ≤ zs.length ∧ i = .int .i64 k ∧ Hid (allI xs zs = (zs.drop k).all (hasI xs)) ∧ wr.cell? ⟨w.heap.size, 0, none⟩ = some (.slice ao xs.length cap) ∧ w.heap.size < wr.heap.size ∧ Below w.heap.size w wr) (fun i _ => zs.length - (intOf i).toNat)
  case atStart => exact ⟨0, by omega, rfl, by simp [Hid, allI], by simp, by simp, (Below.refl _ _).alloc (Nat.le_refl _) _⟩
  case round =>
    obtain ⟨k, hk, rfl, HA, hbox, hbl, hb⟩ := hrel
    by_cases hlt : k < zs.length
    · obtain ⟨g, o, rfl, hg, hcell⟩ := hcell (by intro e; subst e; simp at hlt)
      have c0 := (hb.cell (p := ⟨g, o + k, none⟩) hg).trans (hcell k hlt)
      have HS : Hid (allI xs zs = (hasI xs (zs.getD k 0) && (zs.drop (k + 1)).all (hasI xs))) := by unfold Hid; rw [HA.out, all_drop _ _ _ hlt]
      clear hcell HA
      generalize zs.getD k 0 = z at c0 HS
      go_wp2_with fail
      refine (has_any _ xs _ _ (R.below hb)).mono ?_
      rintro e w2 ⟨rfl, hb2⟩
      have hB2 := hb.trans (hb2.mono hb.size)
      have hbox2 := (hb2.cell (p := ⟨w.heap.size, 0, none⟩) hbl).trans hbox
      have hbl2 := Nat.lt_of_lt_of_le hbl hb2.size
      clear c0 hb2 hbox hb
      generalize hA : hasI xs z = bA at HS ⊢
      clear hA
      cases bA with
      | false =>
        go_wp2
        go_ret
        exact ⟨by rw [HS.out]; rfl, hB2⟩
      | true =>
        go_wp2
        go_roundw
        case rel => exact ⟨k + 1, by omega, by go_num, by rw [HS.out]; rfl, hbox2, hbl2, hB2⟩
        case measure => simp [intOf]; omega
    · have e : k = zs.length := by omega
      subst e
      have HT : Hid (allI xs zs = true) := by unfold Hid; rw [HA.out, List.drop_length]; rfl
      clear HA
      go_wp2
      go_ret
      exact ⟨by rw [HT.out]; rfl, hb⟩

theorem own_nil1 (w : World) (base : Nat) (hb : base ≤ w.heap.size) :
    (w.alloc (Obj.cells #[.int .i64 1, .int .i64 0, .string ⟨#[]⟩, .int .i64 0, .int .i64 0] 40)).ownsRow base 40 5 (.slice (some ⟨w.heap.size, 0, none⟩) 1 1) 1 (ncs [nilN]) :=
  own_lit1 w nilN base hb
theorem NRow.pair1 (w : World) (z : Int) (last : Nat) : NRow (w.alloc (Obj.cells #[.int .i64 5, .int .i64 0, .string ⟨#[]⟩, .int .i64 z, .int .i64 last] 40)) (.slice (some ⟨w.heap.size, 0, none⟩) 1 1) [pairN z last] :=
  NRow.lit1 w (pairN z last) (by simp [pairN])

theorem wrap_two (a b : Int) (h0 : 0 ≤ a) (h1 : a ≤ 1000000) (h2 : 0 ≤ b) (h3 : b ≤ 1000000) : IntKind.i64.wrap (IntKind.i64.wrap (a + b) - 1) = a + b - 1 := by
  rw [IntKind.wrap_i64, IntKind.wrap_i64]; omega

end Go.Proofs.YtnhepegkjejfcaaDoor

/-
  Why something is reached, and where it is then: plain mathematics. Nothing of the program; no condition.
-/
namespace Go.Proofs.YtnhepegkjejfcaaDoor
open Go.RowKit

theorem step_why (x : Nd) (bs : List Bool) (i : Nat) (h : (hungStep x true bs).getD i false = true) : bs.getD i false = true ∨ (hasA x.k = true ∧ x.a.toNat = i) ∨ (hasB x.k = true ∧ x.b.toNat = i) := by
  unfold hungStep at h
  simp only [Bool.true_and] at h
  have one : ∀ (l : List Bool) (q : Int), (setB l q).getD i false = true → l.getD i false = true ∨ q.toNat = i := fun l q hh => by
    by_cases e : q.toNat = i
    · exact Or.inr e
    · unfold setB at hh
      rw [getD_set_other _ _ _ e] at hh
      exact Or.inl hh
  have two : (if hasA x.k = true then setB bs x.a else bs).getD i false = true → bs.getD i false = true ∨ (hasA x.k = true ∧ x.a.toNat = i) := fun h1 => by
    split at h1
    · rename_i hA
      rcases one _ _ h1 with h2 | e
      · exact Or.inl h2
      · exact Or.inr ⟨hA, e⟩
    · exact Or.inl h1
  split at h
  · rename_i hB
    rcases one _ _ h with h1 | e
    · rcases two h1 with h2 | h2
      · exact Or.inl h2
      · exact Or.inr (Or.inl h2)
    · exact Or.inr (Or.inr ⟨hB, e⟩)
  · rcases two h with h2 | h2
    · exact Or.inl h2
    · exact Or.inr (Or.inl h2)
/-- Why something is reached. -/
theorem down_why (xs : List Nd) (k : Nat) (hk : k ≤ xs.length) (bs : List Bool) (i : Nat) (h : (down xs k bs).getD i false = true) :
    bs.getD i false = true ∨ ∃ j x, j < k ∧ xs[j]? = some x ∧ (down xs k bs).getD j false = true ∧ ((hasA x.k = true ∧ x.a.toNat = i) ∨ (hasB x.k = true ∧ x.b.toNat = i)) := by
  induction k generalizing bs with
  | zero => exact Or.inl h
  | succ k ih =>
    obtain ⟨x, hx⟩ : ∃ x, xs[k]? = some x := ⟨xs[k], by simp⟩
    rw [down_at xs bs k x hx] at h ⊢
    rcases ih (by omega) _ h with h1 | ⟨j, z, hj, hz, ht, hpart⟩
    · cases hb : bs.getD k false with
      | false => rw [hb, step_false] at h1; exact Or.inl h1
      | true =>
        have hk' : (down xs k (hungStep x (bs.getD k false) bs)).getD k false = true := down_mono xs k _ k (step_mono x _ bs k hb)
        rw [hb] at h1 hk'
        rcases step_why x bs i h1 with h2 | h2
        · exact Or.inl h2
        · exact Or.inr ⟨k, x, by omega, hx, hk', h2⟩
    · exact Or.inr ⟨j, z, by omega, hz, ht, hpart⟩
theorem fold_why (rs : List Int) (bs : List Bool) (i : Nat) (h : (rs.foldl setB bs).getD i false = true) : bs.getD i false = true ∨ ∃ r ∈ rs, r.toNat = i := by
  induction rs generalizing bs with
  | nil => exact Or.inl h
  | cons r rs ih =>
    rw [List.foldl_cons] at h
    rcases ih _ h with h1 | ⟨q, hq, e⟩
    · by_cases e : r.toNat = i
      · exact Or.inr ⟨r, List.mem_cons_self, e⟩
      · unfold setB at h1
        rw [getD_set_other _ _ _ e] at h1
        exact Or.inl h1
    · exact Or.inr ⟨q, List.mem_cons_of_mem _ hq, e⟩
theorem reach_why (xs : List Nd) (rs : List Int) (i : Nat) (h : (reachL xs rs).getD i false = true) :
    (∃ r ∈ rs, r.toNat = i) ∨ ∃ j x, xs[j]? = some x ∧ (reachL xs rs).getD j false = true ∧ ((hasA x.k = true ∧ x.a.toNat = i) ∨ (hasB x.k = true ∧ x.b.toNat = i)) := by
  unfold reachL at h ⊢
  rcases down_why xs xs.length (Nat.le_refl _) _ i h with h1 | ⟨j, x, _, hx, ht, hp⟩
  · unfold rootsB at h1
    rcases fold_why rs _ i h1 with h2 | h2
    · exfalso
      have : (List.replicate xs.length false).getD i false = false := by
        simp only [List.getD_eq_getElem?_getD, List.getElem?_replicate]
        split <;> rfl
      rw [this] at h2
      cases h2
    · exact Or.inl h2
  · exact Or.inr ⟨j, x, hx, ht, hp⟩

/-- Where the reached nodes are then. -/
def At8 (xs : List Nd) (rs : List Int) (a : Nat) (i j : Nat) : Prop := i < xs.length ∧ (reachL xs rs).getD i false = true ∧ (mvAll a xs (reachL xs rs)).2.getD i 0 = (j : Int)

theorem keep_pool (xs : List Nd) (rs : List Int) (hp : poolB xs = true) (a : Nat) : ∀ (j : Nat) (y : Nd), (mvN a xs rs)[j]? = some y → nodeB y ((a + j : Nat) : Int) = true :=
  (mv_all a xs (reachL xs rs) (fun _ _ h => poolB_at hp h) (reach_closed xs rs (fun _ _ h => poolB_at hp h))).ok
theorem keep_right (xs : List Nd) (rs : List Int) (hp : poolB xs = true) : poolB (mvN 0 xs rs) = true := by
  have hl : xs.length ≤ 3000 := by simp only [poolB, Bool.and_eq_true, decide_eq_true_eq] at hp; exact hp.1
  have := mvN_len 0 xs rs
  unfold poolB
  rw [Bool.and_eq_true]
  refine ⟨by simp; omega, nodesB_of _ 0 (keep_pool xs rs hp 0)⟩

theorem at8_step (xs : List Nd) (rs : List Int) (hp : poolB xs = true) (a i j : Nat) (h : At8 xs rs a i j) : ∃ x p, xs[i]? = some x ∧ j = a + p ∧ (mvN a xs rs)[p]? = some (nrm (mvAll a xs (reachL xs rs)).2 x) ∧
    (hasA x.k = true → At8 xs rs a x.a.toNat (nrm (mvAll a xs (reachL xs rs)).2 x).a.toNat) ∧ (hasB x.k = true → At8 xs rs a x.b.toNat (nrm (mvAll a xs (reachL xs rs)).2 x).b.toNat) := by
  have hc := reach_closed xs rs (fun _ _ h => poolB_at hp h)
  have I := mv_all a xs (reachL xs rs) (fun _ _ h => poolB_at hp h) hc
  obtain ⟨hi, ht, hj⟩ := h
  obtain ⟨x, hx⟩ : ∃ x, xs[i]? = some x := ⟨xs[i], by simp⟩
  obtain ⟨p, e1, _, e3⟩ := I.at_ i x hi hx ht
  have hn := poolB_at hp hx
  obtain ⟨cA, cB⟩ := hc i x hx ht
  have low : ∀ q : Nat, q < xs.length → (reachL xs rs).getD q false = true → At8 xs rs a q ((mvAll a xs (reachL xs rs)).2.getD q 0).toNat := fun q hq hqt => by
    obtain ⟨z, hz⟩ : ∃ z, xs[q]? = some z := ⟨xs[q], by simp⟩
    obtain ⟨p', e1', _, _⟩ := I.at_ q z hq hz hqt
    exact ⟨hq, hqt, by rw [e1']; omega⟩
  refine ⟨x, p, hx, by rw [e1] at hj; omega, e3, fun hA => ?_, fun hB => ?_⟩
  · have := nodeB_A hn hA
    have := low x.a.toNat (by omega) (cA hA)
    simp only [nrm, hA, if_true]
    exact this
  · have := nodeB_B hn hB
    have := low x.b.toNat (by omega) (cB hB)
    simp only [nrm, hB, if_true]
    exact this
theorem at8_root (xs : List Nd) (rs : List Int) (hp : poolB xs = true) (hr : allI xs rs = true) (a : Nat) (r : Int) (h : r ∈ rs) : At8 xs rs a r.toNat ((mvAll a xs (reachL xs rs)).2.getD r.toNat 0).toNat ∧ 0 ≤ r ∧ 0 ≤ (mvAll a xs (reachL xs rs)).2.getD r.toNat 0 := by
  have hh : hasI xs r = true := by
    unfold allI at hr
    exact List.all_eq_true.1 hr r h
  simp only [hasI, Bool.and_eq_true, decide_eq_true_eq] at hh
  have ht := reach_root xs rs r h hh.1 hh.2
  have I := mv_all a xs (reachL xs rs) (fun _ _ h => poolB_at hp h) (reach_closed xs rs (fun _ _ h => poolB_at hp h))
  obtain ⟨z, hz⟩ : ∃ z, xs[r.toNat]? = some z := ⟨xs[r.toNat]'(by omega), by simp⟩
  obtain ⟨p', e1', _, _⟩ := I.at_ r.toNat z (by omega) hz ht
  exact ⟨⟨by omega, ht, by rw [e1']; omega⟩, hh.1, by rw [e1']; omega⟩

/-- All that is kept is reached. -/
theorem keep_all (xs : List Nd) (rs : List Int) (hp : poolB xs = true) (i j : Nat) (h : At8 xs rs 0 i j) : (reachL (mvN 0 xs rs) (mvR 0 xs rs rs)).getD j false = true := by
  have hq := keep_right xs rs hp
  obtain ⟨n, hn⟩ : ∃ n, n = xs.length - i := ⟨_, rfl⟩
  induction n using Nat.strongRecOn generalizing i j with
  | _ n ih =>
    obtain ⟨x, p, hx, rfl, e3, _, _⟩ := at8_step xs rs hp 0 i j h
    obtain ⟨hi, ht, hj⟩ := h
    rcases reach_why xs rs i ht with ⟨r, hr1, rfl⟩ | ⟨k, z, hz, hkt, hpart⟩
    · have hm : ((0 + p : Nat) : Int) ∈ mvR 0 xs rs rs := by
        unfold mvR
        exact List.mem_map.2 ⟨r, hr1, hj⟩
      have hl := (List.getElem?_eq_some_iff.1 e3).1
      have := reach_root (mvN 0 xs rs) (mvR 0 xs rs rs) _ hm (by omega) (by omega)
      simpa using this
    · have hkl := (List.getElem?_eq_some_iff.1 hz).1
      have hnz := poolB_at hp hz
      have hik : i < k := by
        rcases hpart with ⟨hA, e⟩ | ⟨hB, e⟩
        · have := nodeB_A hnz hA; omega
        · have := nodeB_B hnz hB; omega
      have I := mv_all 0 xs (reachL xs rs) (fun _ _ h => poolB_at hp h) (reach_closed xs rs (fun _ _ h => poolB_at hp h))
      obtain ⟨p', e1', _, e3'⟩ := I.at_ k z hkl hz hkt
      have hk8 : At8 xs rs 0 k (0 + p') := ⟨hkl, hkt, e1'⟩
      have hrk := ih (xs.length - k) (by omega) k (0 + p') hk8 rfl
      rw [Nat.zero_add] at hrk
      have hprt := reach_parts (mvN 0 xs rs) (mvR 0 xs rs rs) (fun _ _ h => poolB_at hq h) p' _ e3' hrk
      rcases hpart with ⟨hA, e⟩ | ⟨hB, e⟩
      · have h1 := hprt.1 hA
        simp only [nrm, hA, if_true] at h1
        rw [e] at h1
        have hj' : (mvAll 0 xs (reachL xs rs)).2.getD i 0 = ((0 + p : Nat) : Int) := hj
        rw [hj'] at h1
        simpa using h1
      · have h1 := hprt.2 hB
        simp only [nrm, hB, if_true] at h1
        rw [e] at h1
        have hj' : (mvAll 0 xs (reachL xs rs)).2.getD i 0 = ((0 + p : Nat) : Int) := hj
        rw [hj'] at h1
        simpa using h1
/-- Where all is reached, all is kept as it is. -/
theorem keep_same (xs : List Nd) (rs : List Int) (hp : poolB xs = true) (hr : allI xs rs = true) (hb : ∀ i, i < xs.length → (reachL xs rs).getD i false = true) : mvN 0 xs rs = xs ∧ mvR 0 xs rs rs = rs := by
  have I := mv_id xs (reachL xs rs) (fun _ _ h => poolB_at hp h) hb xs.length (Nat.le_refl _)
  rw [List.take_length] at I
  refine ⟨I.1, ?_⟩
  unfold mvR
  have : ∀ r ∈ rs, (mvAll 0 xs (reachL xs rs)).2.getD r.toNat 0 = r := fun r h => by
    have hh : hasI xs r = true := by
      unfold allI at hr
      exact List.all_eq_true.1 hr r h
    simp only [hasI, Bool.and_eq_true, decide_eq_true_eq] at hh
    have := I.2 r.toNat (by omega)
    unfold mvAll
    rw [this]
    omega
  rw [List.map_congr_left (g := id) (fun r h => this r h)]
  exact List.map_id rs
theorem keep_again (xs : List Nd) (rs : List Int) (hp : poolB xs = true) (hr : allI xs rs = true) : allI (mvN 0 xs rs) (mvR 0 xs rs rs) = true ∧ mvN 0 (mvN 0 xs rs) (mvR 0 xs rs rs) = mvN 0 xs rs ∧ mvR 0 (mvN 0 xs rs) (mvR 0 xs rs rs) (mvR 0 xs rs rs) = mvR 0 xs rs rs := by
  have hq := keep_right xs rs hp
  have ha : allI (mvN 0 xs rs) (mvR 0 xs rs rs) = true := by
    unfold allI
    rw [List.all_eq_true]
    intro z hz
    unfold mvR at hz
    obtain ⟨r, hr1, rfl⟩ := List.mem_map.1 hz
    obtain ⟨h8, h0, h1⟩ := at8_root xs rs hp hr 0 r hr1
    obtain ⟨x, p, hx, e, e3, _, _⟩ := at8_step xs rs hp 0 _ _ h8
    have hl := (List.getElem?_eq_some_iff.1 e3).1
    unfold hasI
    simp only [Bool.and_eq_true, decide_eq_true_eq]
    omega
  refine ⟨ha, keep_same _ _ hq ha (fun j hj => ?_)⟩
  have I := mv_all 0 xs (reachL xs rs) (fun _ _ h => poolB_at hp h) (reach_closed xs rs (fun _ _ h => poolB_at hp h))
  obtain ⟨i, h1, h2, h3⟩ := I.from_ j hj
  exact keep_all xs rs hp i j ⟨h1, h2, by rw [h3]; simp⟩
end Go.Proofs.YtnhepegkjejfcaaDoor

/-
  What grows and turns one block alone. Nothing of the program; no condition.
-/
namespace Go.Proofs.YtnhepegkjejfcaaDoor
open Go.RowKit

theorem grown_trans {w1 w2 w3 : World} {row : Option Nat} (h : w1.grownBy w2 row) (k : w2.grownBy w3 row) : w1.grownBy w3 row :=
  ⟨k.os.trans h.os, k.tape.trans h.tape, k.output.trans h.output, Nat.le_trans h.size k.size, fun i hi hne => (k.block i (Nat.lt_of_lt_of_le hi h.size) hne).trans (h.block i hi hne)⟩
theorem grown_set (w : World) (P : Nat) (j : Nat) (v : Value) : w.grownBy (w.setCell ⟨P, j, none⟩ v) (some P) :=
  ⟨rfl, rfl, rfl, by simp [World.setCell], fun k _ hk => heap_setCell_other w ⟨P, j, none⟩ k v (fun e => hk (by simp [e]))⟩
theorem grown_below {w w' : World} (h : Below w.heap.size w w') (row : Option Nat) : w.grownBy w' row :=
  ⟨h.os, h.tape, h.output, h.size, fun k hk _ => h.block k hk⟩

theorem grown_below2 {w w' : World} (h : Below w.heap.size w w') (row : Option Nat) : w.grownBy w' row :=
  ⟨h.os, h.tape, h.output, h.size, fun k hk _ => h.block k hk⟩
/-- A whole struct stored at the head of a block: what is known of the world behind it. -/
theorem wpList_store_own {P : Program} {ops : Array Oper} {rest : List Oper} {o : Oper} {a : Act} {w : World} {Q : Exit → Act → World → Prop} (hgd : o.guard = none) (ty : TypeId) (x y : Operand) (ho : o.op = .store ty x y)
    (g : Nat) (cells : Array Value) (hx : a.eval x = .pointer (some ⟨g, 0, none⟩)) (hy : a.eval y = .agg cells)
    (t : TypeId) (old : Array Value) (hg : w.heap[g]? = some (.cells old t (0, 0))) (hi : (P.info? ty).map (·.size) = some cells.size)
    (hold : old.size = cells.size) (h1 : cells.all (·.oneCell') = true)
    (h : ∀ w2 : World, w2.heap[g]? = some (.cells cells t (0, 0)) → Below g w w2 → w2.heap.size = w.heap.size → wpList P ops Q rest (a.put o.dst undef) w2) : wpList P ops Q (o :: rest) a w :=
  wpList_store_row hgd ty x y ho g cells hx hy t old hg hi hold h1 (h _ (setRow_heap w g old _ t _ hg) (below_setRow (Below.refl _ _) (Nat.le_refl _) _) (size_setRow w g cells))


theorem old2 (w : World) (A B : Obj) : ((w.alloc A).alloc B).heap[w.heap.size]? = some A := (heap_alloc_old _ _ (by simp)).trans (heap_alloc_new _ _)
theorem below2 (w : World) (A B : Obj) : Below w.heap.size w ((w.alloc A).alloc B) := ((Below.refl _ _).alloc (Nat.le_refl _) _).alloc (by simp) _

end Go.Proofs.YtnhepegkjejfcaaDoor
