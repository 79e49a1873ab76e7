/-
  Texts that stood by themselves, laid into one.
-/
import Derived.Test.YtbgkofinmdpmcaaGreatDoorBoolsM
import Derived.Test.YtbgkofinmdpmcaaGreatDoorCyMathM
import Derived.Test.YtbgkofinmdpmcaaGreatDoorNdM
import Derived.Test.YtbgkofinmdpmcaaGreatDoorSGetM
/-
  What is written is read as it was: plain mathematics. Nothing of the program; no condition.
-/
namespace Go.Proofs.YtbgkofinmdpmcaaGreatDoor
open Go.RowKit

theorem rd1_put (pre post : List Int) (x : Int) (h0 : 0 ≤ x) (h1 : x ≤ 9223372036854775807) : rd1 (pre ++ (encI x ++ post)) pre.length = some (x, (pre.length : Int) + (encI x).length) := by
  unfold rd1
  rw [encI_pos x h0, gN_enc pre post x h0 h1]
  rfl
theorem gT_put (pre post : List Int) (s : ByteArray) (h : s.size ≤ 1048576) : gT (pre ++ (pt s ++ post)) pre.length = (s, (pre.length : Int) + (pt s).length, true) := by
  have hp : pt s = enc 9 s.size ++ sb s := by rw [pt, encI_pos _ (by omega)]
  have hg := gN_enc pre (sb s ++ post) s.size (by omega) (by omega)
  unfold gT
  rw [hp, List.append_assoc, hg]
  have hl : ((pre ++ (enc 9 ↑s.size ++ (sb s ++ post))).length : Int) = pre.length + (enc 9 s.size).length + s.size + post.length := by simp [sb_length]; omega
  rw [if_pos ⟨rfl, by rw [hl]; simp only; omega⟩]
  have e1 : ((pre.length : Int) + (enc 9 ↑s.size).length).toNat = (pre ++ enc 9 s.size).length := by simp; omega
  simp only
  rw [e1, ← List.append_assoc, List.drop_left, Int.toNat_natCast, show s.size = (sb s).length from (sb_length s).symm, List.take_left, strOfNums_sb]
  simp [sb_length]
  omega
theorem empty_of {s : ByteArray} (h : (s.toList == []) = true) : s = ByteArray.empty := by
  have e : s.toList = [] := by simpa using h
  rw [ByteArray.toList_eq] at e
  cases s with
  | mk d =>
    have : d = #[] := by simpa using e
    rw [this]
    rfl
theorem rdB_put (pre post : List Int) (x : Nd) (i : Int) (h : nodeB x i = true) (hle : i ≤ 3000) : rdB (pre ++ (wireB x ++ post)) x.k pre.length = some (x, (pre.length : Int) + (wireB x).length) := by
  have hok := ndok_of h hle
  obtain ⟨_, ⟨n1, n2⟩, hs, ha3, hb3⟩ := hok
  obtain ⟨k, n, s, a, b⟩ := x
  simp only at *
  simp only [nodeB, Bool.and_eq_true, decide_eq_true_eq] at h
  obtain ⟨⟨⟨⟨k1, k9⟩, hlo⟩, hhi⟩, ⟨hsn, hpa⟩, hpb⟩ := h
  have hk : k = 1 ∨ k = 2 ∨ k = 3 ∨ k = 4 ∨ k = 5 ∨ k = 6 ∨ k = 7 ∨ k = 8 ∨ k = 9 := by omega
  rcases hk with rfl | rfl | rfl | rfl | rfl | rfl | rfl | rfl | rfl
  · simp [lo, hi] at hlo hhi
    simp [hasS, nameFB] at hsn
    have e := empty_of (by simpa using hsn)
    subst e
    simp [hasA, partB] at hpa
    simp [hasB, partB] at hpb
    subst hpa
    subst hpb
    have en : n = 0 := by omega
    subst en
    show some ((⟨1, 0, ByteArray.empty, 0, 0⟩ : Nd), (pre.length : Int)) = some (⟨1, 0, ByteArray.empty, 0, 0⟩, (pre.length : Int) + (([] : List Int).length : Nat))
    simp
  · simp [lo, hi] at hlo hhi
    simp [hasS, nameFB] at hsn
    have e := empty_of (by simpa using hsn)
    subst e
    simp [hasA, partB] at hpa
    simp [hasB, partB] at hpb
    subst hpa
    subst hpb
    show (rd1 (pre ++ (encI n ++ post)) pre.length).map (fun p => ((⟨2, p.1, ByteArray.empty, 0, 0⟩ : Nd), p.2)) = some (⟨2, n, ByteArray.empty, 0, 0⟩, (pre.length : Int) + (encI n).length)
    rw [rd1_put pre post n (by omega) (by omega)]
    simp
  · simp [lo, hi] at hlo hhi
    simp [hasS, nameFB] at hsn
    have e := empty_of (by simpa using hsn)
    subst e
    simp [hasA, partB] at hpa
    simp [hasB, partB] at hpb
    subst hpa
    subst hpb
    show (rd1 (pre ++ (encI (n + 1000000000) ++ post)) pre.length).map (fun p => ((⟨3, p.1 - 1000000000, ByteArray.empty, 0, 0⟩ : Nd), p.2)) = some (⟨3, n, ByteArray.empty, 0, 0⟩, (pre.length : Int) + (encI (n + 1000000000)).length)
    rw [rd1_put pre post (n + 1000000000) (by omega) (by omega)]
    simp
  · simp [lo, hi] at hlo hhi
    simp [hasA, partB] at hpa
    simp [hasB, partB] at hpb
    subst hpa
    subst hpb
    have en : n = 0 := by omega
    subst en
    show (if (gT (pre ++ (pt s ++ post)) pre.length).2.2 then some ((⟨4, 0, (gT (pre ++ (pt s ++ post)) pre.length).1, 0, 0⟩ : Nd), (gT (pre ++ (pt s ++ post)) pre.length).2.1) else none) = some (⟨4, 0, s, 0, 0⟩, (pre.length : Int) + (pt s).length)
    rw [gT_put pre post s (by omega)]
    rfl
  · simp [lo, hi] at hlo hhi
    simp [hasS, nameFB] at hsn
    have e := empty_of (by simpa using hsn)
    subst e
    simp [hasA, partB] at hpa
    simp [hasB, partB] at hpb
    have en : n = 0 := by omega
    subst en
    show ((rd1 (pre ++ ((encI a ++ encI b) ++ post)) pre.length).bind fun p => (rd1 (pre ++ ((encI a ++ encI b) ++ post)) p.2).map fun q => ((⟨5, 0, ByteArray.empty, p.1, q.1⟩ : Nd), q.2)) = some (⟨5, 0, ByteArray.empty, a, b⟩, (pre.length : Int) + (encI a ++ encI b).length)
    rw [List.append_assoc, rd1_put pre (encI b ++ post) a (by omega) (by omega)]
    simp only [Option.bind_some]
    have := rd1_put (pre ++ encI a) post b (by omega) (by omega)
    rw [List.append_assoc, List.length_append] at this
    rw [show (pre.length : Int) + (encI a).length = ((pre.length + (encI a).length : Nat) : Int) by omega, this]
    simp
    omega
  · simp [lo, hi] at hlo hhi
    simp [hasS, nameFB] at hsn
    have e := empty_of (by simpa using hsn)
    subst e
    simp [hasA, partB] at hpa
    simp [hasB, partB] at hpb
    subst hpb
    show ((rd1 (pre ++ ((encI n ++ encI a) ++ post)) pre.length).bind fun p => (rd1 (pre ++ ((encI n ++ encI a) ++ post)) p.2).map fun q => ((⟨6, p.1, ByteArray.empty, q.1, 0⟩ : Nd), q.2)) = some (⟨6, n, ByteArray.empty, a, 0⟩, (pre.length : Int) + (encI n ++ encI a).length)
    rw [List.append_assoc, rd1_put pre (encI a ++ post) n (by omega) (by omega)]
    simp only [Option.bind_some]
    have := rd1_put (pre ++ encI n) post a (by omega) (by omega)
    rw [List.append_assoc, List.length_append] at this
    rw [show (pre.length : Int) + (encI n).length = ((pre.length + (encI n).length : Nat) : Int) by omega, this]
    simp
    omega
  · simp [lo, hi] at hlo hhi
    simp [hasS, nameFB] at hsn
    have e := empty_of (by simpa using hsn)
    subst e
    simp [hasA, partB] at hpa
    simp [hasB, partB] at hpb
    subst hpb
    have en : n = 0 := by omega
    subst en
    show (rd1 (pre ++ (encI a ++ post)) pre.length).map (fun p => ((⟨7, 0, ByteArray.empty, p.1, 0⟩ : Nd), p.2)) = some (⟨7, 0, ByteArray.empty, a, 0⟩, (pre.length : Int) + (encI a).length)
    rw [rd1_put pre post a (by omega) (by omega)]
    simp
  · simp [lo, hi] at hlo hhi
    simp [hasS, nameFB] at hsn
    have e := empty_of (by simpa using hsn)
    subst e
    simp [hasA, partB] at hpa
    simp [hasB, partB] at hpb
    subst hpa
    subst hpb
    show (rd1 (pre ++ (encI n ++ post)) pre.length).map (fun p => ((⟨8, p.1, ByteArray.empty, 0, 0⟩ : Nd), p.2)) = some (⟨8, n, ByteArray.empty, 0, 0⟩, (pre.length : Int) + (encI n).length)
    rw [rd1_put pre post n (by omega) (by omega)]
    simp
  · simp [lo, hi] at hlo hhi
    simp [hasS, nameFB] at hsn
    have e := empty_of (by simpa using hsn)
    subst e
    simp [hasA, partB] at hpa
    simp [hasB, partB] at hpb
    subst hpa
    subst hpb
    show (rd1 (pre ++ (encI n ++ post)) pre.length).map (fun p => ((⟨9, p.1, ByteArray.empty, 0, 0⟩ : Nd), p.2)) = some (⟨9, n, ByteArray.empty, 0, 0⟩, (pre.length : Int) + (encI n).length)
    rw [rd1_put pre post n (by omega) (by omega)]
    simp
theorem rdNd_put (pre post : List Int) (x : Nd) (i : Int) (h : nodeB x i = true) (hle : i ≤ 3000) : rdNd (pre ++ (wireN x ++ post)) pre.length = some (x, (pre.length : Int) + (wireN x).length) := by
  have hk : 1 ≤ x.k ∧ x.k ≤ 9 := (ndok_of h hle).1
  unfold rdNd wireN
  rw [List.append_assoc, rd1_put pre (wireB x ++ post) x.k (by omega) (by omega)]
  simp only [Option.bind_some]
  have := rdB_put (pre ++ encI x.k) post x i h hle
  rw [List.append_assoc, List.length_append] at this
  rw [show (pre.length : Int) + (encI x.k).length = ((pre.length + (encI x.k).length : Nat) : Int) by omega, this]
  simp
  omega
theorem rdNds_put (xs : List Nd) : ∀ (pre post : List Int) (i : Nat), nodesB xs i = true → i + xs.length ≤ 3000 → rdNds (pre ++ (xs.flatMap wireN ++ post)) xs.length pre.length = some (xs, (pre.length : Int) + (xs.flatMap wireN).length) := by
  induction xs with
  | nil => intro pre post i _ _; simp [rdNds]
  | cons x xs ih =>
    intro pre post i h hl
    rw [nodesB, Bool.and_eq_true] at h
    rw [List.length_cons] at hl ⊢
    rw [rdNds, List.flatMap_cons, List.append_assoc, rdNd_put pre (xs.flatMap wireN ++ post) x i h.1 (by omega)]
    simp only [Option.bind_some]
    have := ih (pre ++ wireN x) post (i + 1) h.2 (by omega)
    rw [List.append_assoc, List.length_append] at this
    rw [show (pre.length : Int) + (wireN x).length = ((pre.length + (wireN x).length : Nat) : Int) by omega, this]
    simp
    omega
theorem rdP_put (xs : List Nd) (h : poolB xs = true) : rdP (wireL xs) 0 = some (xs, ((wireL xs).length : Int)) := by
  have hl := poolB_len h
  have hn : nodesB xs 0 = true := by unfold poolB at h; rw [Bool.and_eq_true] at h; exact h.2
  have e1 := rd1_put [] (xs.flatMap wireN) xs.length (by omega) (by omega)
  have e2 := rdNds_put xs (encI xs.length) [] 0 hn (by omega)
  rw [List.append_nil] at e2
  unfold rdP wireL
  rw [List.nil_append] at e1
  simp only [List.length_nil, Int.natCast_zero, Int.zero_add] at e1
  rw [e1]
  simp only [Option.bind_some]
  rw [if_neg (by omega), Int.toNat_natCast, e2]
  simp only [Option.bind_some]
  rw [if_pos h]
  simp
/-- The one root stands last. -/
theorem mv_place (xs : List Nd) (v : Nat) (hv : v < xs.length) (hp : ∀ (i : Nat) (x : Nd), xs[i]? = some x → nodeB x i = true) : (mvAll 0 xs (reachL xs [(v : Int)])).2.getD v 0 = ((mvN 0 xs [(v : Int)]).length : Int) - 1 ∧ mvN 0 xs [(v : Int)] ≠ [] := by
  obtain ⟨x, hx⟩ : ∃ x, xs[v]? = some x := ⟨xs[v], by simp [hv]⟩
  have hr : (reachL xs [(v : Int)]).getD v false = true := by
    have := reach_root xs [(v : Int)] (v : Int) (by simp) (by omega) (by omega)
    rwa [Int.toNat_natCast] at this
  have e : its xs (reachL xs [(v : Int)]) 0 = its (xs.take v) (reachL xs [(v : Int)]) 0 ++ [(v, x)] := by
    have h1 : its xs (reachL xs [(v : Int)]) 0 = its (xs.take (v + 1)) (reachL xs [(v : Int)]) 0 := by
      conv => lhs; rw [← List.take_append_drop (v + 1) xs]
      rw [its_append]
      have hn := its_none (xs.drop (v + 1)) (reachL xs [(v : Int)]) (0 + (xs.take (v + 1)).length) (fun j hj => reach_above xs v j hv hp (by rw [List.length_take] at hj; omega))
      rw [List.take_append_drop, hn, List.append_nil]
    rw [h1, its_takeS xs _ v x hx, hr, if_pos rfl]
  unfold mvN mvAll
  rw [e, mvF_snoc]
  have hl := mvF_len 0 xs.length (its (xs.take v) (reachL xs [(v : Int)]) 0)
  unfold mvS
  constructor
  · rw [getD_setI_same _ _ _ (by rw [hl.2]; exact hv)]
    simp
  · simp
/-- What is packed is read as it was kept; there it is written as it was. -/
theorem pack_read (xs : List Nd) (v : Int) (hp : poolB xs = true) (hv : hasI xs v = true) :
    vrR (wireL (mvN 0 xs [v])) = some (mvN 0 xs [v]) ∧ mvN 0 xs [v] ≠ [] ∧ (mvAll 0 xs (reachL xs [v])).2.getD v.toNat 0 = ((mvN 0 xs [v]).length : Int) - 1 := by
  have hv' : 0 ≤ v ∧ v < xs.length := by unfold hasI at hv; simpa using hv
  obtain ⟨n, rfl⟩ := Int.eq_ofNat_of_zero_le hv'.1
  have hat : ∀ (i : Nat) (x : Nd), xs[i]? = some x → nodeB x i = true := fun i x hx => poolB_at hp hx
  obtain ⟨m1, m2⟩ := mv_place xs n (by omega) hat
  have hr : allI xs [(n : Int)] = true := by unfold allI; simp [hv]
  have hq := keep_right xs [(n : Int)] hp
  obtain ⟨g1, g2, g3⟩ := keep_again xs [(n : Int)] hp hr
  have e : mvR 0 xs [(n : Int)] [(n : Int)] = [((mvN 0 xs [(n : Int)]).length : Int) - 1] := by unfold mvR; simp only [List.map_cons, List.map_nil, Int.toNat_natCast]; rw [m1]
  rw [e] at g1 g2
  refine ⟨?_, m2, by rw [Int.toNat_natCast]; exact m1⟩
  unfold vrR
  rw [rdP_put _ hq]
  simp only [Option.bind_some]
  rw [if_pos ⟨trivial, m2, (again_iff _ _ hq g1).1 (by rw [g2])⟩]
end Go.Proofs.YtbgkofinmdpmcaaGreatDoor

/-
  Contract of spec.GetText, for every slice of bytes within the form's reach and every place.
-/
namespace Go.Proofs.YtbgkofinmdpmcaaGreatDoor
open Go.RowKit

set_option maxRecDepth 100000 in
set_option maxHeartbeats 800000 in
theorem sgtext_any (v : Value) (zs : List Int) (a : Int) (w : World) (R : Row w v zs) (hlo : -9223372036854775808 ≤ a) (hhi : a ≤ 9223372036854775807) :
    Calls Tryz.prog 59 #[v, .int .i64 a] w fun e w' => e = .returned (tV (gT zs a)) ∧ w' = w := by
  have R' := R
  obtain ⟨ao, cap, rfl, hcap, hm, hz, hcell⟩ := R'
  clear hz
  go_enter Tryz.func59, Tryz.ntmps59
  go_wp2_with fail
  refine (sget_any _ zs a w R hlo hhi).mono ?_
  rintro e w1 ⟨rfl, rfl⟩
  generalize hg : gN zs a = r
  obtain ⟨n, next, ok⟩ := r
  have HG : Hid (gN zs a = (n, next, ok)) := hg
  clear hg hlo hhi R
  cases ok with
  | false =>
    have HT : Hid (gT zs a = (⟨#[]⟩, 0, false)) := gT_no zs a n next false HG.out (Or.inl rfl)
    go_wp2_with fail
    go_ret3
    exact ⟨by rw [HT.out]; rfl, rfl⟩
  | true =>
    obtain ⟨h1, h2, h3, h4⟩ := gN_ok zs a n next HG.out
    obtain ⟨n, rfl⟩ := Int.eq_ofNat_of_zero_le h1
    obtain ⟨next, rfl⟩ := Int.eq_ofNat_of_zero_le h3
    by_cases hout : (zs.length : Int) - next < n
    · have HT : Hid (gT zs a = (⟨#[]⟩, 0, false)) := gT_no zs a _ _ true HG.out (Or.inr hout)
      go_wp2_with fail
      go_ret3
      exact ⟨by rw [HT.out]; rfl, rfl⟩
    · have HT : Hid (gT zs a = (strOfNums ((zs.drop next).take n), (next : Int) + n, true)) := gT_yes zs a n next HG.out (by omega)
      have hle : next + n ≤ zs.length := by omega
      go_wp2_with (refine wpList_bytes_string _ rfl _ 22 9 5 rfl Tryz.underlying22 Tryz.underlying9 Tryz.underlying5 _ _ _ ((zs.drop next).take n) rfl (by rw [cut_length zs next n hle]; omega) (by rw [Nat.add_sub_cancel_left]; simpa using cut_cells hcell next n hle hcap) ?_)
      all_goals go_ret3
      all_goals exact ⟨by rw [HT.out]; rfl, rfl⟩

end Go.Proofs.YtbgkofinmdpmcaaGreatDoor
