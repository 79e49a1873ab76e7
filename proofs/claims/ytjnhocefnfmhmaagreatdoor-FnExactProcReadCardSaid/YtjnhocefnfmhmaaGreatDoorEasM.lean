/-
  Texts that stood by themselves, laid into one.
-/
import Derived.Test.YtjnhocefnfmhmaaGreatDoorBoolsM
import Derived.Test.YtjnhocefnfmhmaaGreatDoorTdM
import Derived.Test.YtjnhocefnfmhmaaGreatDoorSR8M
import Derived.Test.YtjnhocefnfmhmaaGreatDoorSGTextM
import Derived.Test.YtjnhocefnfmhmaaGreatDoorPrRegM
import Derived.LaidEql
import Derived.Stop.Asserts
import Derived.RowKitTokens
/-
  Why something is reached, and where it is then: plain mathematics. Nothing of the program; no condition.
-/
namespace Go.Proofs.YtjnhocefnfmhmaaGreatDoor
open Go.RowKit

theorem step_why (x : Nd) (bs : List Bool) (i : Nat) (h : (hungStep x true bs).getD i false = true) : bs.getD i false = true ∨ (hasA x.k = true ∧ x.a.toNat = i) ∨ (hasB x.k = true ∧ x.b.toNat = i) := by
  unfold hungStep at h
  simp only [Bool.true_and] at h
  have one : ∀ (l : List Bool) (q : Int), (setB l q).getD i false = true → l.getD i false = true ∨ q.toNat = i := fun l q hh => by
    by_cases e : q.toNat = i
    · exact Or.inr e
    · unfold setB at hh
      rw [getD_set_other _ _ _ e] at hh
      exact Or.inl hh
  have two : (if hasA x.k = true then setB bs x.a else bs).getD i false = true → bs.getD i false = true ∨ (hasA x.k = true ∧ x.a.toNat = i) := fun h1 => by
    split at h1
    · rename_i hA
      rcases one _ _ h1 with h2 | e
      · exact Or.inl h2
      · exact Or.inr ⟨hA, e⟩
    · exact Or.inl h1
  split at h
  · rename_i hB
    rcases one _ _ h with h1 | e
    · rcases two h1 with h2 | h2
      · exact Or.inl h2
      · exact Or.inr (Or.inl h2)
    · exact Or.inr (Or.inr ⟨hB, e⟩)
  · rcases two h with h2 | h2
    · exact Or.inl h2
    · exact Or.inr (Or.inl h2)
/-- Why something is reached. -/
theorem down_why (xs : List Nd) (k : Nat) (hk : k ≤ xs.length) (bs : List Bool) (i : Nat) (h : (down xs k bs).getD i false = true) :
    bs.getD i false = true ∨ ∃ j x, j < k ∧ xs[j]? = some x ∧ (down xs k bs).getD j false = true ∧ ((hasA x.k = true ∧ x.a.toNat = i) ∨ (hasB x.k = true ∧ x.b.toNat = i)) := by
  induction k generalizing bs with
  | zero => exact Or.inl h
  | succ k ih =>
    obtain ⟨x, hx⟩ : ∃ x, xs[k]? = some x := ⟨xs[k], by simp⟩
    rw [down_at xs bs k x hx] at h ⊢
    rcases ih (by omega) _ h with h1 | ⟨j, z, hj, hz, ht, hpart⟩
    · cases hb : bs.getD k false with
      | false => rw [hb, step_false] at h1; exact Or.inl h1
      | true =>
        have hk' : (down xs k (hungStep x (bs.getD k false) bs)).getD k false = true := down_mono xs k _ k (step_mono x _ bs k hb)
        rw [hb] at h1 hk'
        rcases step_why x bs i h1 with h2 | h2
        · exact Or.inl h2
        · exact Or.inr ⟨k, x, by omega, hx, hk', h2⟩
    · exact Or.inr ⟨j, z, by omega, hz, ht, hpart⟩
theorem fold_why (rs : List Int) (bs : List Bool) (i : Nat) (h : (rs.foldl setB bs).getD i false = true) : bs.getD i false = true ∨ ∃ r ∈ rs, r.toNat = i := by
  induction rs generalizing bs with
  | nil => exact Or.inl h
  | cons r rs ih =>
    rw [List.foldl_cons] at h
    rcases ih _ h with h1 | ⟨q, hq, e⟩
    · by_cases e : r.toNat = i
      · exact Or.inr ⟨r, List.mem_cons_self, e⟩
      · unfold setB at h1
        rw [getD_set_other _ _ _ e] at h1
        exact Or.inl h1
    · exact Or.inr ⟨q, List.mem_cons_of_mem _ hq, e⟩
theorem reach_why (xs : List Nd) (rs : List Int) (i : Nat) (h : (reachL xs rs).getD i false = true) :
    (∃ r ∈ rs, r.toNat = i) ∨ ∃ j x, xs[j]? = some x ∧ (reachL xs rs).getD j false = true ∧ ((hasA x.k = true ∧ x.a.toNat = i) ∨ (hasB x.k = true ∧ x.b.toNat = i)) := by
  unfold reachL at h ⊢
  rcases down_why xs xs.length (Nat.le_refl _) _ i h with h1 | ⟨j, x, _, hx, ht, hp⟩
  · unfold rootsB at h1
    rcases fold_why rs _ i h1 with h2 | h2
    · exfalso
      have : (List.replicate xs.length false).getD i false = false := by
        simp only [List.getD_eq_getElem?_getD, List.getElem?_replicate]
        split <;> rfl
      rw [this] at h2
      cases h2
    · exact Or.inl h2
  · exact Or.inr ⟨j, x, hx, ht, hp⟩

/-- Where the reached nodes are then. -/
def At8 (xs : List Nd) (rs : List Int) (a : Nat) (i j : Nat) : Prop := i < xs.length ∧ (reachL xs rs).getD i false = true ∧ (mvAll a xs (reachL xs rs)).2.getD i 0 = (j : Int)

theorem keep_pool (xs : List Nd) (rs : List Int) (hp : poolB xs = true) (a : Nat) : ∀ (j : Nat) (y : Nd), (mvN a xs rs)[j]? = some y → nodeB y ((a + j : Nat) : Int) = true :=
  (mv_all a xs (reachL xs rs) (fun _ _ h => poolB_at hp h) (reach_closed xs rs (fun _ _ h => poolB_at hp h))).ok
theorem keep_right (xs : List Nd) (rs : List Int) (hp : poolB xs = true) : poolB (mvN 0 xs rs) = true := by
  have hl : xs.length ≤ 3000 := by simp only [poolB, Bool.and_eq_true, decide_eq_true_eq] at hp; exact hp.1
  have := mvN_len 0 xs rs
  unfold poolB
  rw [Bool.and_eq_true]
  refine ⟨by simp; omega, nodesB_of _ 0 (keep_pool xs rs hp 0)⟩

theorem at8_step (xs : List Nd) (rs : List Int) (hp : poolB xs = true) (a i j : Nat) (h : At8 xs rs a i j) : ∃ x p, xs[i]? = some x ∧ j = a + p ∧ (mvN a xs rs)[p]? = some (nrm (mvAll a xs (reachL xs rs)).2 x) ∧
    (hasA x.k = true → At8 xs rs a x.a.toNat (nrm (mvAll a xs (reachL xs rs)).2 x).a.toNat) ∧ (hasB x.k = true → At8 xs rs a x.b.toNat (nrm (mvAll a xs (reachL xs rs)).2 x).b.toNat) := by
  have hc := reach_closed xs rs (fun _ _ h => poolB_at hp h)
  have I := mv_all a xs (reachL xs rs) (fun _ _ h => poolB_at hp h) hc
  obtain ⟨hi, ht, hj⟩ := h
  obtain ⟨x, hx⟩ : ∃ x, xs[i]? = some x := ⟨xs[i], by simp⟩
  obtain ⟨p, e1, _, e3⟩ := I.at_ i x hi hx ht
  have hn := poolB_at hp hx
  obtain ⟨cA, cB⟩ := hc i x hx ht
  have low : ∀ q : Nat, q < xs.length → (reachL xs rs).getD q false = true → At8 xs rs a q ((mvAll a xs (reachL xs rs)).2.getD q 0).toNat := fun q hq hqt => by
    obtain ⟨z, hz⟩ : ∃ z, xs[q]? = some z := ⟨xs[q], by simp⟩
    obtain ⟨p', e1', _, _⟩ := I.at_ q z hq hz hqt
    exact ⟨hq, hqt, by rw [e1']; omega⟩
  refine ⟨x, p, hx, by rw [e1] at hj; omega, e3, fun hA => ?_, fun hB => ?_⟩
  · have := nodeB_A hn hA
    have := low x.a.toNat (by omega) (cA hA)
    simp only [nrm, hA, if_true]
    exact this
  · have := nodeB_B hn hB
    have := low x.b.toNat (by omega) (cB hB)
    simp only [nrm, hB, if_true]
    exact this
theorem at8_root (xs : List Nd) (rs : List Int) (hp : poolB xs = true) (hr : allI xs rs = true) (a : Nat) (r : Int) (h : r ∈ rs) : At8 xs rs a r.toNat ((mvAll a xs (reachL xs rs)).2.getD r.toNat 0).toNat ∧ 0 ≤ r ∧ 0 ≤ (mvAll a xs (reachL xs rs)).2.getD r.toNat 0 := by
  have hh : hasI xs r = true := by
    unfold allI at hr
    exact List.all_eq_true.1 hr r h
  simp only [hasI, Bool.and_eq_true, decide_eq_true_eq] at hh
  have ht := reach_root xs rs r h hh.1 hh.2
  have I := mv_all a xs (reachL xs rs) (fun _ _ h => poolB_at hp h) (reach_closed xs rs (fun _ _ h => poolB_at hp h))
  obtain ⟨z, hz⟩ : ∃ z, xs[r.toNat]? = some z := ⟨xs[r.toNat]'(by omega), by simp⟩
  obtain ⟨p', e1', _, _⟩ := I.at_ r.toNat z (by omega) hz ht
  exact ⟨⟨by omega, ht, by rw [e1']; omega⟩, hh.1, by rw [e1']; omega⟩

/-- All that is kept is reached. -/
theorem keep_all (xs : List Nd) (rs : List Int) (hp : poolB xs = true) (i j : Nat) (h : At8 xs rs 0 i j) : (reachL (mvN 0 xs rs) (mvR 0 xs rs rs)).getD j false = true := by
  have hq := keep_right xs rs hp
  obtain ⟨n, hn⟩ : ∃ n, n = xs.length - i := ⟨_, rfl⟩
  induction n using Nat.strongRecOn generalizing i j with
  | _ n ih =>
    obtain ⟨x, p, hx, rfl, e3, _, _⟩ := at8_step xs rs hp 0 i j h
    obtain ⟨hi, ht, hj⟩ := h
    rcases reach_why xs rs i ht with ⟨r, hr1, rfl⟩ | ⟨k, z, hz, hkt, hpart⟩
    · have hm : ((0 + p : Nat) : Int) ∈ mvR 0 xs rs rs := by
        unfold mvR
        exact List.mem_map.2 ⟨r, hr1, hj⟩
      have hl := (List.getElem?_eq_some_iff.1 e3).1
      have := reach_root (mvN 0 xs rs) (mvR 0 xs rs rs) _ hm (by omega) (by omega)
      simpa using this
    · have hkl := (List.getElem?_eq_some_iff.1 hz).1
      have hnz := poolB_at hp hz
      have hik : i < k := by
        rcases hpart with ⟨hA, e⟩ | ⟨hB, e⟩
        · have := nodeB_A hnz hA; omega
        · have := nodeB_B hnz hB; omega
      have I := mv_all 0 xs (reachL xs rs) (fun _ _ h => poolB_at hp h) (reach_closed xs rs (fun _ _ h => poolB_at hp h))
      obtain ⟨p', e1', _, e3'⟩ := I.at_ k z hkl hz hkt
      have hk8 : At8 xs rs 0 k (0 + p') := ⟨hkl, hkt, e1'⟩
      have hrk := ih (xs.length - k) (by omega) k (0 + p') hk8 rfl
      rw [Nat.zero_add] at hrk
      have hprt := reach_parts (mvN 0 xs rs) (mvR 0 xs rs rs) (fun _ _ h => poolB_at hq h) p' _ e3' hrk
      rcases hpart with ⟨hA, e⟩ | ⟨hB, e⟩
      · have h1 := hprt.1 hA
        simp only [nrm, hA, if_true] at h1
        rw [e] at h1
        have hj' : (mvAll 0 xs (reachL xs rs)).2.getD i 0 = ((0 + p : Nat) : Int) := hj
        rw [hj'] at h1
        simpa using h1
      · have h1 := hprt.2 hB
        simp only [nrm, hB, if_true] at h1
        rw [e] at h1
        have hj' : (mvAll 0 xs (reachL xs rs)).2.getD i 0 = ((0 + p : Nat) : Int) := hj
        rw [hj'] at h1
        simpa using h1
/-- Where all is reached, all is kept as it is. -/
theorem keep_same (xs : List Nd) (rs : List Int) (hp : poolB xs = true) (hr : allI xs rs = true) (hb : ∀ i, i < xs.length → (reachL xs rs).getD i false = true) : mvN 0 xs rs = xs ∧ mvR 0 xs rs rs = rs := by
  have I := mv_id xs (reachL xs rs) (fun _ _ h => poolB_at hp h) hb xs.length (Nat.le_refl _)
  rw [List.take_length] at I
  refine ⟨I.1, ?_⟩
  unfold mvR
  have : ∀ r ∈ rs, (mvAll 0 xs (reachL xs rs)).2.getD r.toNat 0 = r := fun r h => by
    have hh : hasI xs r = true := by
      unfold allI at hr
      exact List.all_eq_true.1 hr r h
    simp only [hasI, Bool.and_eq_true, decide_eq_true_eq] at hh
    have := I.2 r.toNat (by omega)
    unfold mvAll
    rw [this]
    omega
  rw [List.map_congr_left (g := id) (fun r h => this r h)]
  exact List.map_id rs
theorem keep_again (xs : List Nd) (rs : List Int) (hp : poolB xs = true) (hr : allI xs rs = true) : allI (mvN 0 xs rs) (mvR 0 xs rs rs) = true ∧ mvN 0 (mvN 0 xs rs) (mvR 0 xs rs rs) = mvN 0 xs rs ∧ mvR 0 (mvN 0 xs rs) (mvR 0 xs rs rs) (mvR 0 xs rs rs) = mvR 0 xs rs rs := by
  have hq := keep_right xs rs hp
  have ha : allI (mvN 0 xs rs) (mvR 0 xs rs rs) = true := by
    unfold allI
    rw [List.all_eq_true]
    intro z hz
    unfold mvR at hz
    obtain ⟨r, hr1, rfl⟩ := List.mem_map.1 hz
    obtain ⟨h8, h0, h1⟩ := at8_root xs rs hp hr 0 r hr1
    obtain ⟨x, p, hx, e, e3, _, _⟩ := at8_step xs rs hp 0 _ _ h8
    have hl := (List.getElem?_eq_some_iff.1 e3).1
    unfold hasI
    simp only [Bool.and_eq_true, decide_eq_true_eq]
    omega
  refine ⟨ha, keep_same _ _ hq ha (fun j hj => ?_)⟩
  have I := mv_all 0 xs (reachL xs rs) (fun _ _ h => poolB_at hp h) (reach_closed xs rs (fun _ _ h => poolB_at hp h))
  obtain ⟨i, h1, h2, h3⟩ := I.from_ j hj
  exact keep_all xs rs hp i j ⟨h1, h2, by rw [h3]; simp⟩
end Go.Proofs.YtjnhocefnfmhmaaGreatDoor

/-
  When what is read of bytes is a value: plain mathematics. Both ways of asking whether nothing else is there come to the same. No condition.
-/
namespace Go.Proofs.YtjnhocefnfmhmaaGreatDoor
open Go.RowKit

theorem its_full (xs : List Nd) (bs : List Bool) (k : Nat) (h : (its xs bs k).length = xs.length) : ∀ i, i < xs.length → bs.getD (k + i) false = true := by
  induction xs generalizing k with
  | nil => intro i hi; simp at hi
  | cons x xs ih =>
    have hle := its_len xs bs (k + 1)
    simp only [its] at h
    split at h
    · rename_i hb
      simp only [List.length_cons, Nat.add_right_cancel_iff] at h
      intro i hi
      cases i with
      | zero => exact hb
      | succ i => rw [show k + (i + 1) = k + 1 + i by omega]; exact ih (k + 1) h i (by simpa using hi)
    · simp at h; omega
/-- Whether all is reached from the roots. -/
def allR (xs : List Nd) (rs : List Int) : Bool := !(reachL xs rs).contains false
theorem allR_iff (xs : List Nd) (rs : List Int) : allR xs rs = true ↔ ∀ i, i < xs.length → (reachL xs rs).getD i false = true := by
  unfold allR
  rw [Bool.not_eq_true', ← Bool.not_eq_true, List.contains_iff_mem]
  constructor
  · intro h i hi
    rw [List.getD_eq_getElem?_getD, List.getElem?_eq_getElem (by rw [reachL_length]; exact hi)]
    cases hb : (reachL xs rs)[i]'(by rw [reachL_length]; exact hi) with
    | true => rfl
    | false => exact absurd (by rw [← hb]; exact List.getElem_mem _) h
  · intro h hm
    obtain ⟨i, hi, he⟩ := List.getElem_of_mem hm
    have := h i (by rw [← reachL_length xs rs]; exact hi)
    rw [List.getD_eq_getElem?_getD, List.getElem?_eq_getElem hi, he] at this
    cases this
/-- Written again it is the same just where all is reached. -/
theorem again_iff (xs : List Nd) (rs : List Int) (hp : poolB xs = true) (hr : allI xs rs = true) : wireL (mvN 0 xs rs) = wireL xs ↔ allR xs rs = true := by
  rw [allR_iff]
  have hl := poolB_len hp
  constructor
  · intro h
    have hm := mvN_len 0 xs rs
    have e : ((mvN 0 xs rs).length : Int) = (xs.length : Int) := encI_head (by omega) (by omega) (by omega) (by omega) h
    have e2 : (its xs (reachL xs rs) 0).length = xs.length := by
      have : (mvN 0 xs rs).length = (its xs (reachL xs rs) 0).length := (mvF_len _ _ _).1
      omega
    intro i hi
    have := its_full xs (reachL xs rs) 0 e2 i hi
    rwa [Nat.zero_add] at this
  · intro h
    rw [(keep_same xs rs hp hr h).1]
/-- What is read of bytes as a value. -/
def vrR (zs : List Int) : Option (List Nd) :=
  (rdP zs 0).bind fun q => if q.2 = zs.length ∧ q.1 ≠ [] ∧ allR q.1 [(q.1.length : Int) - 1] = true then some q.1 else none
theorem last_in {xs : List Nd} (h : xs ≠ []) : allI xs [(xs.length : Int) - 1] = true := by
  have := List.length_pos_iff.2 h
  simp [allI, hasI]
  omega
/-- As the specification asks. -/
theorem vrR_spec (zs : List Int) (hz : ∀ z ∈ zs, 0 ≤ z ∧ z ≤ 255) (xs : List Nd) : vrR zs = some xs ↔ (sOk zs 0 true = true ∧ (sP zs 0 true).1 = xs) ∧ xs ≠ [] ∧ wireL (mvN 0 xs [(xs.length : Int) - 1]) = zs := by
  rw [sP_rdP]
  unfold vrR
  rw [Option.bind_eq_some_iff]
  constructor
  · rintro ⟨⟨ys, b⟩, h1, h2⟩
    split at h2
    · rename_i hc
      cases h2
      obtain ⟨c1, c2, c3⟩ := hc
      simp only at c1 c2 c3
      subst c1
      obtain ⟨hp, hw⟩ := rdP_wire hz h1
      exact ⟨h1, c2, ((again_iff ys _ hp (last_in c2)).2 c3).trans hw⟩
    · cases h2
  · rintro ⟨h1, h2, h3⟩
    obtain ⟨hp, hw⟩ := rdP_wire hz h1
    refine ⟨_, h1, ?_⟩
    rw [if_pos ⟨rfl, h2, (again_iff xs _ hp (last_in h2)).1 (h3.trans hw.symm)⟩]
end Go.Proofs.YtjnhocefnfmhmaaGreatDoor

/-
  Contracts of slices.Contains of bools, (impl.Pool).isKept and (impl.reader).end. No condition but that the pool is right.
-/
namespace Go.Proofs.YtjnhocefnfmhmaaGreatDoor
open Go.RowKit

set_option maxHeartbeats 800000 in
theorem bindex_any (v : Value) (bs : List Bool) (w : World) (R : BRow w v bs) (hl : bs.length ≤ 4194304) :
    Calls Tryz.prog 176 #[v, .bool false] w fun e w' => ∃ r : Int, e = .returned (.int .i64 r) ∧ (0 ≤ r ↔ false ∈ bs) ∧ w' = w := by
  obtain ⟨ao, cap, rfl, _, _, hcell⟩ := R
  go_enter Tryz.func176, Tryz.ntmps176
  go_wp2_with fail
  go_loopw [8] (fun i wr => ∃ k : Nat, k ≤ bs.length ∧ i = .int .i64 k ∧ Hid (∀ j, j < k → bs[j]? = some true) ∧ wr = w) (fun i _ => bs.length - (intOf i).toNat)
  case atStart => exact ⟨0, by omega, rfl, fun j hj => by omega, rfl⟩
  case round =>
    obtain ⟨k, hk, rfl, HA, rfl⟩ := hrel
    by_cases hlt : k < bs.length
    · obtain ⟨g, o, rfl, hg, hcell⟩ := hcell (by intro e; subst e; simp at hlt)
      have hc := hcell k hlt
      clear hcell
      obtain ⟨b, hb⟩ : ∃ b, bs[k]? = some b := ⟨bs[k], by simp [hlt]⟩
      rw [show bs.getD k false = b by simp [List.getD, hb]] at hc
      cases b with
      | false =>
        have hm : false ∈ bs := List.mem_of_getElem? hb
        go_wp2
        go_ret
        exact ⟨k, rfl, ⟨fun _ => hm, fun _ => by omega⟩, rfl⟩
      | true =>
        have HA2 : Hid (∀ j, j < k + 1 → bs[j]? = some true) := fun j hj => by
          rcases Nat.lt_or_ge j k with h | h
          · exact HA.out j h
          · obtain rfl : j = k := by omega
            exact hb
        go_wp2
        go_roundw
        case rel => exact ⟨k + 1, by omega, by go_num, HA2, by trivial⟩
        case measure => simp [intOf]; omega
    · have hke : k = bs.length := by omega
      subst hke
      have hm : false ∉ bs := fun h => by
        obtain ⟨j, hj, he⟩ := List.getElem_of_mem h
        have := HA.out j hj
        rw [List.getElem?_eq_getElem hj, he] at this
        cases this
      go_wp2
      go_ret
      exact ⟨-1, rfl, ⟨fun h => by omega, fun h => absurd h hm⟩, rfl⟩
set_option maxHeartbeats 800000 in
theorem bcontains_any (v : Value) (bs : List Bool) (w : World) (R : BRow w v bs) (hl : bs.length ≤ 4194304) :
    Calls Tryz.prog 161 #[v, .bool false] w fun e w' => e = .returned (.bool (bs.contains false)) ∧ w' = w := by
  go_enter Tryz.func161, Tryz.ntmps161
  go_wp2_with fail
  refine (bindex_any v bs w R hl).mono ?_
  rintro e w1 ⟨r, rfl, hr, rfl⟩
  have HE : Hid (bs.contains false = decide (0 ≤ r)) := by
    unfold Hid
    rw [Bool.eq_iff_iff, List.contains_iff_mem, decide_eq_true_eq]
    exact hr.symm
  clear hr
  go_wp2
  go_ret
  exact ⟨by rw [HE.out]; rfl, rfl⟩
set_option maxHeartbeats 800000 in
theorem iskept_any (v vl : Value) (xs : List Nd) (rs : List Int) (w : World) (R : NRow w v xs) (L : IRow w vl rs) (hp : poolB xs = true) (hr : allI xs rs = true) :
    Calls Tryz.prog 147 #[.agg #[v], vl] w fun e w' => e = .returned (.bool (allR xs rs)) ∧ Below w.heap.size w w' := by
  obtain ⟨ao, cap, rfl, _⟩ := id R
  have hlen := poolB_len hp
  have hB0 : Below w.heap.size w (w.alloc (Obj.cells #[.slice ao xs.length cap] 40)) := (Below.refl _ _).alloc (Nat.le_refl _) _
  go_enter Tryz.func147, Tryz.ntmps147
  go_wp2_with fail
  refine (hungon_any ao cap vl xs rs _ (R.below hB0) (L.below hB0) hp hr).mono ?_
  rintro e w1 ⟨v1, rfl, ho, hb1⟩
  have hB1 := hB0.trans (hb1.mono hB0.size)
  have hrl := reachL_length xs rs
  have HL : Hid ((reachL xs rs).length = xs.length) := hrl
  rw [← hrl] at ho
  have RB := BRow.of_own ho (by omega)
  clear hrl
  have HC := bcontains_any v1 (reachL xs rs) _ RB (by rw [HL.out]; omega)
  obtain ⟨cb, hcb⟩ : ∃ cb, Hid ((reachL xs rs).contains false = cb) := ⟨_, rfl⟩
  rw [hcb.out] at HC
  have HA : Hid (allR xs rs = !cb) := by unfold Hid allR; rw [hcb.out]
  clear hcb
  go_wp2_with fail
  refine HC.mono ?_
  rintro e w2 ⟨rfl, rfl⟩
  go_wp2
  go_ret
  exact ⟨by rw [HA.out]; rfl, hB1⟩
/-- Whether all was read. -/
def EndAns (b : Int) (n : Nat) (r : Value) : Prop := (b < n ∧ ∃ p, r = badV p) ∨ (¬ b < n ∧ r = .nilIface)
set_option maxHeartbeats 800000 in
theorem rend_any (v : Value) (zs : List Int) (P : Nat) (b : Int) (w : World) (R : ∃ ao cap, v = .slice ao zs.length cap) (h1 : One w P b) :
    Calls Tryz.prog 84 #[.agg #[v, .pointer (some ⟨P, 0, none⟩)]] w fun e w' => ∃ r, e = .returned r ∧ EndAns b zs.length r ∧ Below w.heap.size w w' := by
  obtain ⟨ao, cap, rfl⟩ := R
  have hB0 : Below w.heap.size w (w.alloc (Obj.cells #[Value.slice ao zs.length cap, Value.pointer (some ⟨P, 0, none⟩)] 91)) := (Below.refl _ _).alloc (Nat.le_refl _) _
  have h2 := h1.below hB0 h1.lt
  have hc := h2.cell
  obtain ⟨W, hW⟩ : ∃ W, w.alloc (Obj.cells #[Value.slice ao zs.length cap, Value.pointer (some ⟨P, 0, none⟩)] 91) = W := ⟨_, rfl⟩
  have hx : W.heap[w.heap.size]? = some (.cells #[Value.slice ao zs.length cap, Value.pointer (some ⟨P, 0, none⟩)] 91 (0, 0)) := by rw [← hW]; exact heap_alloc_new _ _
  rw [hW] at hB0 h2 hc
  have b0 : W.cell? ⟨w.heap.size, 0, none⟩ = some (.slice ao zs.length cap) := cell_of_row W _ 0 _ _ _ hx
  have b1 : W.cell? ⟨w.heap.size, 1, none⟩ = some (.pointer (some ⟨P, 0, none⟩)) := cell_of_row W _ 1 _ _ _ hx
  go_enter Tryz.func84, Tryz.ntmps84
  go_wp2_with fail
  go_quiet (fail)
  by_cases hlt : b < zs.length
  · have HE : ∀ p, EndAns b zs.length (badV p) := fun p => Or.inl ⟨hlt, p, rfl⟩
    go_wp2
    go_ret
    exact ⟨_, rfl, HE _, hB0.trans ⟨rfl, rfl, rfl, Nat.le_refl _, fun _ _ => rfl⟩⟩
  · have HE : EndAns b zs.length .nilIface := Or.inr ⟨hlt, rfl⟩
    go_wp2
    go_ret
    exact ⟨_, rfl, HE, hB0.trans ⟨rfl, rfl, rfl, Nat.le_refl _, fun _ _ => rfl⟩⟩
end Go.Proofs.YtjnhocefnfmhmaaGreatDoor

/-
  errors.As at a target that is a struct of one number (impl.badBytes): false of nil, true of such an error; and the contract of impl.isBadBytes. The variable errors.errorType reads as it is laid.
-/
namespace Go.Proofs.YtjnhocefnfmhmaaGreatDoor
open Go.RowKit Go.Extern.Stop Go.Stop Go.Extern

theorem as_nil (t : Value) (w : World) :
    Calls Tryz.prog 148 #[.nilIface, t] w fun e w' => e = .returned (.bool false) ∧ w' = w := by
  go_enter Tryz.func148, Tryz.ntmps148
  go_wp2
  go_ret
  exact ⟨rfl, rfl⟩

theorem Tryz.asValueOfP (t : Addr) (w : World) : (ReflectliteValue.unpack (.iface 195 (.pointer (some t)))).run Tryz.prog w
    = .ok (.agg #[.pointer (some ⟨1, 195, none⟩), .pointer (some ⟨w.heap.size, 0, none⟩), .int .u64 150]) (w.alloc (.cells #[.pointer (some t)] 195)) := by kernel_rfl
theorem Tryz.asTypeP (a : Addr) (w : World) : (ReflectliteValue.methodAny (ReflectliteValue.valueError "reflectlite.Value.Type" 0) (fun t _ _ _ => ReflectliteType.toType t) #[.agg #[.pointer (some ⟨1, 195, none⟩), .pointer (some a), .int .u64 150]]).run Tryz.prog w
    = .ok (.iface 231 (.agg #[.pointer (some ⟨1, 195, none⟩)])) w := by kernel_rfl
theorem Tryz.asMethodKind (h : Value) (w : World) : (Go.method 374 231 (.agg #[h]) "Kind").run Tryz.prog w = .ok (194, h) w := by kernel_rfl
theorem Tryz.asKindP (w : World) : ((ReflectliteType.abiMethod fun t => (fun a : Nat => Value.int IntKind.u8 (a : Int)) <$> Rtype.kind t) #[.pointer (some ⟨1, 195, none⟩)]).run Tryz.prog w = .ok (.int .u8 22) w := by kernel_rfl
theorem Tryz.asKindT (w : World) : ((ReflectliteType.abiMethod fun t => (fun a : Nat => Value.int IntKind.u8 (a : Int)) <$> Rtype.kind t) #[.pointer (some ⟨1, 173, none⟩)]).run Tryz.prog w = .ok (.int .u8 25) w := by kernel_rfl
theorem rlm (z : Sem Value) (f : TypeId → Addr → Nat → Nat → Sem Value) (v : Value) :
    ReflectliteValue.method z f #[v] = (do match ← ReflectliteValue.parts v with | none => z | some (t, a, fl) => f t a fl (fl % 32)) := rfl
theorem Tryz.asPartsP (a : Addr) (w : World) : (ReflectliteValue.parts (.agg #[.pointer (some ⟨1, 195, none⟩), .pointer (some a), .int .u64 150])).run Tryz.prog w = .ok (some (195, a, 150)) w := by kernel_rfl
theorem Tryz.asIsNilP (a p : Addr) (W : World) (ha : W.cell? a = some (.pointer (some p))) :
    (ReflectliteValue.method (ReflectliteValue.valueError "reflectlite.Value.IsNil" 0) ReflectliteValue.isNil #[.agg #[.pointer (some ⟨1, 195, none⟩), .pointer (some a), .int .u64 150]]).run Tryz.prog W = .ok (.bool false) W := by
  rw [rlm]
  simp only [Sem.run_bind, Tryz.asPartsP, Result.andThen]
  simp [ReflectliteValue.isNil, loadVar, isAgg, underlying, Tryz.underlying195, ha, Result.andThen]
theorem Tryz.asMethodElem (h : Value) (w : World) : (Go.method 374 231 (.agg #[h]) "Elem").run Tryz.prog w = .ok (206, .agg #[h]) w := by kernel_rfl
theorem Tryz.asMethodImplements (h : Value) (w : World) : (Go.method 374 231 (.agg #[h]) "Implements").run Tryz.prog w = .ok (207, .agg #[h]) w := by kernel_rfl
theorem Tryz.asMethodAssignableTo (h : Value) (w : World) : (Go.method 374 231 (.agg #[h]) "AssignableTo").run Tryz.prog w = .ok (204, .agg #[h]) w := by kernel_rfl
theorem Tryz.asElemP (w : World) : (ReflectliteType.method ReflectliteType.elem #[.agg #[.pointer (some ⟨1, 195, none⟩)]]).run Tryz.prog w = .ok (.iface 231 (.agg #[.pointer (some ⟨1, 173, none⟩)])) w := by kernel_rfl
theorem Tryz.asImplementsT (w : World) : (ReflectliteType.relation "Implements" ReflectliteType.implements_ #[.agg #[.pointer (some ⟨1, 173, none⟩)], .iface 231 (.agg #[.pointer (some ⟨1, 139, none⟩)])]).run Tryz.prog w = .ok (.bool true) w := by kernel_rfl
theorem Tryz.asTypeOfT (v : Value) (w : World) : (ReflectliteType.typeOf #[.iface 173 v]).run Tryz.prog w = .ok (.iface 231 (.agg #[.pointer (some ⟨1, 173, none⟩)])) w := by kernel_rfl
theorem Tryz.asAssignableT (w : World) : (ReflectliteType.relation "AssignableTo" ReflectliteType.assignableTo #[.agg #[.pointer (some ⟨1, 173, none⟩)], .iface 231 (.agg #[.pointer (some ⟨1, 173, none⟩)])]).run Tryz.prog w = .ok (.bool true) w := by kernel_rfl
theorem Tryz.asValueOfT (p : Int) (w : World) : (ReflectliteValue.unpack (.iface 173 (.agg #[.int .i64 p]))).run Tryz.prog w
    = .ok (.agg #[.pointer (some ⟨1, 173, none⟩), .pointer (some ⟨w.heap.size, 0, none⟩), .int .u64 153]) (w.alloc (.cells #[.int .i64 p] 173)) := by kernel_rfl
theorem Tryz.asElemOfP (w : World) : (Rtype.elem? 195).run Tryz.prog w = .ok (some 173) w := by kernel_rfl
theorem Tryz.asMkT (p : Addr) (w : World) : (ReflectliteValue.mk 173 p ReflectliteValue.flagAddr).run Tryz.prog w = .ok (.agg #[.pointer (some ⟨1, 173, none⟩), .pointer (some p), .int .u64 409]) w := by kernel_rfl
theorem Tryz.asElemV (a p : Addr) (W : World) (ha : W.cell? a = some (.pointer (some p))) :
    (ReflectliteValue.method (ReflectliteValue.valueError "reflectlite.Value.Elem" 0) ReflectliteValue.elem #[.agg #[.pointer (some ⟨1, 195, none⟩), .pointer (some a), .int .u64 150]]).run Tryz.prog W
      = .ok (.agg #[.pointer (some ⟨1, 173, none⟩), .pointer (some p), .int .u64 409]) W := by
  rw [rlm]
  simp only [Sem.run_bind, Tryz.asPartsP, Result.andThen]
  simp [ReflectliteValue.elem, loadVar, isAgg, underlying, Tryz.underlying195, ha, Result.andThen, Tryz.asElemOfP, Tryz.asMkT]
theorem Tryz.asPartsA (a : Addr) (w : World) : (ReflectliteValue.parts (.agg #[.pointer (some ⟨1, 173, none⟩), .pointer (some a), .int .u64 409])).run Tryz.prog w = .ok (some (173, a, 409)) w := by kernel_rfl
theorem Tryz.asPartsT (a : Addr) (w : World) : (ReflectliteValue.parts (.agg #[.pointer (some ⟨1, 173, none⟩), .pointer (some a), .int .u64 153])).run Tryz.prog w = .ok (some (173, a, 153)) w := by kernel_rfl
theorem Tryz.asDirect (w : World) : (Rtype.directlyAssignable 173 173).run Tryz.prog w = .ok true w := by kernel_rfl
theorem Tryz.asSize (w : World) : (sizeOf 173).run Tryz.prog w = .ok 1 w := by kernel_rfl
end Go.Proofs.YtjnhocefnfmhmaaGreatDoor
