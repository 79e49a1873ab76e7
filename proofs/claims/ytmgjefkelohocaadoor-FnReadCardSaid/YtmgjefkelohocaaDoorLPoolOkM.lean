/-
  Texts that stood by themselves, laid into one.
-/
import Derived.Test.YtmgjefkelohocaaDoorRdBackM
import Derived.Test.YtmgjefkelohocaaDoorTo2M
import Derived.Test.YtmgjefkelohocaaDoorSSizeM
/-
  What is written is read again as the same: plain mathematics. Nothing of the program; no condition.
-/
namespace Go.Proofs.YtmgjefkelohocaaDoor
open Go.RowKit

theorem ba_ext {s t : ByteArray} (h : s.data.toList = t.data.toList) : s = t := by
  apply ByteArray.ext
  exact Array.toList_inj.1 h
theorem wordL_word (t : ByteArray) : wordL (wordNd t) = t.data.toList := by
  unfold wordNd
  by_cases h1 : isT t = true
  · rw [if_pos h1]
    have : t.data.toList = [35, 116] := by simpa [isT] using h1
    rw [this]; rfl
  rw [if_neg h1]
  by_cases h2 : isF t = true
  · rw [if_pos h2]
    have : t.data.toList = [35, 102] := by simpa [isF] using h2
    rw [this]; rfl
  rw [if_neg h2]
  by_cases h3 : numB t.data.toList = true
  · rw [if_pos h3]
    simp only [numB, Bool.and_eq_true, beq_iff_eq] at h3
    simp only [wordL]
    exact h3.2
  rw [if_neg h3]
  rfl
theorem wordNd_k (t : ByteArray) : ¬ (wordNd t).k = 5 ∧ ¬ (wordNd t).k = 1 ∧ hasA (wordNd t).k = false ∧ hasB (wordNd t).k = false := by
  unfold wordNd
  repeat' split
  all_goals simp [hasA, hasB]
theorem drop_cons {t : ByteArray} {i : Nat} {c : UInt8} {r : List UInt8} (h : t.data.toList.drop i = c :: r) : ∃ hi : i < t.size, t[i] = c ∧ t.data.toList.drop (i + 1) = r := by
  have hi : i < t.data.toList.length := by
    rcases Nat.lt_or_ge i t.data.toList.length with h1 | h1
    · exact h1
    · rw [List.drop_eq_nil_of_le h1] at h; cases h
  rw [List.drop_eq_getElem_cons hi] at h
  simp only [List.cons.injEq] at h
  have hs : t.data.toList.length = t.size := by rw [Array.length_toList]; rfl
  exact ⟨by omega, h.1, h.2⟩
theorem drop_len {t : ByteArray} {i : Nat} {l : List UInt8} (h : t.data.toList.drop i = l) (hl : l ≠ []) : i + l.length = t.size := by
  have h2 := congrArg List.length h
  rw [List.length_drop] at h2
  have hs : t.data.toList.length = t.size := by rw [Array.length_toList]; rfl
  have : 0 < l.length := List.length_pos_iff.2 hl
  omega
theorem rd_step {t : ByteArray} {i : Nat} {c : UInt8} {r : List UInt8} {s : RS} (h : t.data.toList.drop i = c :: r) (hw : wb (c.toNat : Int) = false) : rd t i i s = (rdMark (c.toNat : Int) i s).andThen fun s2 => rd t (i + 1) (i + 1) s2 := by
  obtain ⟨hi, e, _⟩ := drop_cons h
  rw [rd_mark hi (by rw [e]; exact hw), e]
theorem drop_more {t : ByteArray} {i : Nat} {l r : List UInt8} (h : t.data.toList.drop i = l ++ r) : t.data.toList.drop (i + l.length) = r := by
  rw [← List.drop_drop, h, List.drop_left]
theorem drop_at {t : ByteArray} {i : Nat} {l r : List UInt8} (h : t.data.toList.drop i = l ++ r) (k : Nat) (hk : k < l.length) (hi : i + k < t.size) : t[i + k] = l[k] := by
  have h1 : (t.data.toList.drop i)[k]? = some l[k] := by rw [h, List.getElem?_append_left hk, List.getElem?_eq_getElem hk]
  rw [List.getElem?_drop] at h1
  have hs : t.data.toList.length = t.size := by rw [Array.length_toList]; rfl
  rw [List.getElem?_eq_getElem (by omega)] at h1
  exact Option.some.inj h1
/-- A word that is read. -/
theorem rd_a_word {t u : ByteArray} {i : Nat} {r : List UInt8} {s : RS} (hu : wordOk u = true) (h : t.data.toList.drop i = u.data.toList ++ r) (hr : ∀ c r', r = c :: r' → wb (c.toNat : Int) = false) :
    rd t i i s = rd t (i + u.data.toList.length) (i + u.data.toList.length) (s.put [wordNd u]) := by
  have hk := wordNd_k u
  have hw := word_wb (wordNd_ok hu 0) hk.1 hk.2.1
  rw [wordL_word u] at hw
  have hne := hw.2
  have hlen : i + (u.data.toList ++ r).length = t.size := drop_len h (by simp [hne])
  rw [List.length_append] at hlen
  have hpos : 0 < u.data.toList.length := List.length_pos_iff.2 hne
  have hx : t.extract i (i + u.data.toList.length) = u := by
    apply ba_ext
    have e : (t.extract i (i + u.data.toList.length)).data.toList = (t.data.toList.drop i).take u.data.toList.length := by
      rw [ByteArray.data_extract, Array.toList_extract, List.extract_eq_take_drop, show i + u.data.toList.length - i = u.data.toList.length by omega]
    rw [e, h, List.take_left]
  rw [rd_skip (i + u.data.toList.length) i (by omega) (by omega) (fun k hk h1 h2 => by
    obtain ⟨d, rfl⟩ := Nat.exists_eq_add_of_le h1
    rw [drop_at h d (by omega) hk]
    exact hw.1 _ (List.getElem_mem _))]
  rw [rd_end (by omega) (by omega) (fun hlt => by
    have hd := drop_more h
    cases r with
    | nil => rw [List.length_nil] at hlen; omega
    | cons c r' =>
      obtain ⟨_, e, _⟩ := drop_cons hd
      rw [e]
      exact hr c r' rfl)]
  unfold rdWord
  rw [hx, if_pos hu]
  rfl
/-- What is written of what can be read is read again as alike. -/
theorem read_back (xs : List Nd) (hp : poolB xs = true) {b : Bool} {v : Nat} (h : Rdb xs b v) :
    (∀ (t : ByteArray) (i : Nat) (r : List UInt8) (s : RS), Ext xs s.ns → t.data.toList.drop i = fullT xs v ++ r → (∀ c r', r = c :: r' → wb (c.toNat : Int) = false) →
      ∃ ys, 0 < ys.length ∧ rd t i i s = rd t (i + (fullT xs v).length) (i + (fullT xs v).length) (s.put ys) ∧ Alk (s.ns ++ ys) v (s.ns.length + ys.length - 1)) ∧
    (b = true → ∀ (t : ByteArray) (i : Nat) (r : List UInt8) (s : RS), Ext xs s.ns → t.data.toList.drop i = restT xs v ++ 41 :: r →
      ∃ ys vs, rd t i i s = rd t (i + (restT xs v).length) (i + (restT xs v).length) ⟨s.ns ++ ys, s.lo, s.a, s.vs ++ vs⟩ ∧ LAlk (s.ns ++ ys) v vs) := by
  induction h with
  | word hx hu =>
    rename_i v u
    refine ⟨fun t i r s hE h hr => ?_, fun e => by cases e⟩
    have hk := wordNd_k u
    rw [fullT_word hx hk.1, wordL_word u] at h ⊢
    refine ⟨[wordNd u], by simp, rd_a_word hu h hr, .same (Ext.append _ _ _ _ (hE _ _ hx)) ?_ hk.2.2.1 hk.2.2.2⟩
    rw [List.getElem?_append_right (by simp)]
    simp
  | nil hx =>
    refine ⟨fun t i r s hE h hr => ?_, fun _ t i r s hE h => ?_⟩
    · have e : fullT xs _ = [40, 41] := fullT_word hx (by decide)
      rw [e] at h ⊢
      have h2 := (drop_cons h).2.2
      rw [rd_step h (by decide)]
      refine ⟨[nilN], by simp, ?_, .same (x := nilN) (Ext.append _ _ _ _ (hE _ _ hx)) (by rw [List.getElem?_append_right (by simp)]; simp) rfl rfl⟩
      rw [show rdMark ((40 : UInt8).toNat : Int) i s = .ok ⟨s.ns, s.lo ++ [(s.a, s.vs)], i, []⟩ from rfl]
      show rd t (i + 1) (i + 1) _ = _
      rw [rd_step h2 (by decide), show rdMark ((41 : UInt8).toNat : Int) (i + 1) ⟨s.ns, s.lo ++ [(s.a, s.vs)], i, []⟩ = rdClose (i + 1) ⟨s.ns, s.lo ++ [(s.a, s.vs)], i, []⟩ from rfl]
      unfold rdClose
      simp only [List.getLast?_append, List.getLast?_singleton, List.dropLast_concat]
      rfl
    · rw [restT_nil hx rfl] at h ⊢
      refine ⟨[], [], by simp, .nil (Ext.append _ _ _ _ (hE _ _ hx))⟩
  | pair hx ha hc iha ihc =>
    rename_i v b a c
    obtain ⟨iha, _⟩ := iha
    have ihc := ihc.2 rfl
    obtain ⟨a', c', e1, e2, l1, l2⟩ := pool_pair hp hx rfl
    simp only [pairN, Int.natCast_inj] at e1 e2
    subst e1 e2
    have hhead : ∀ (r : List UInt8) d r', restT xs c ++ 41 :: r = d :: r' → wb (d.toNat : Int) = false := by
      intro r d r' e
      cases hc with
      | nil h => rw [restT_nil h rfl] at e; cases e; decide
      | pair h _ _ =>
        obtain ⟨p, q, e1, e2, l1, l2⟩ := pool_pair hp h rfl
        rw [restT_pair hp h rfl e1 e2 l1 l2] at e
        simp only [List.cons_append, List.nil_append, List.cons.injEq] at e
        rw [← e.1]; decide
    refine ⟨fun t i r s hE h hr => ?_, fun _ t i r s hE h => ?_⟩
    · rw [fullT_pair hp hx rfl rfl rfl l1 l2] at h ⊢
      simp only [List.cons_append, List.nil_append, List.append_assoc] at h
      have h2 := (drop_cons h).2.2
      obtain ⟨ys, hy, er, ak⟩ := iha t (i + 1) (restT xs c ++ 41 :: r) ⟨s.ns, s.lo ++ [(s.a, s.vs)], i, []⟩ hE h2 (hhead r)
      have h3 := drop_more h2
      obtain ⟨ys2, vs2, er2, lk⟩ := ihc t (i + 1 + (fullT xs a).length) r ((⟨s.ns, s.lo ++ [(s.a, s.vs)], i, []⟩ : RS).put ys) (hE.trans (Ext.append _ _)) h3
      have h4 := drop_more h3
      simp only [RS.put, List.nil_append] at er2 lk
      have LK : LAlk (s.ns ++ ys ++ ys2) v (((s.ns.length + ys.length - 1 : Nat) : Int) :: vs2) := .cons (Ext.append _ _ _ _ (Ext.append _ _ _ _ (hE _ _ hx))) (ak.mono (Ext.append _ _)) lk
      have MD := LK.made
      generalize hms : more (((s.ns.length + ys.length - 1 : Nat) : Int) :: vs2) (s.ns ++ ys ++ ys2).length 0 = ms at MD
      have hml : ms.length = vs2.length + 2 := by rw [← hms, more_length]; simp
      refine ⟨ys ++ ys2 ++ ms, by simp; omega, ?_, ?_⟩
      · rw [rd_step h (by decide), show rdMark ((40 : UInt8).toNat : Int) i s = .ok ⟨s.ns, s.lo ++ [(s.a, s.vs)], i, []⟩ from rfl]
        show rd t (i + 1) (i + 1) _ = _
        rw [er]
        simp only [RS.put, List.nil_append]
        rw [er2, rd_step h4 (by decide)]
        have ec : ∀ (j : Nat) (ns : List Nd) (vs : List Int), rdMark ((41 : UInt8).toNat : Int) j ⟨ns, s.lo ++ [(s.a, s.vs)], i, vs⟩ = .ok ((⟨ns, s.lo, s.a, s.vs⟩ : RS).put (more vs ns.length 0)) := by
          intro j ns vs
          show rdClose j _ = _
          unfold rdClose
          simp only [List.getLast?_append, List.getLast?_singleton, List.dropLast_concat]
          rfl
        rw [ec]
        show rd t _ _ _ = _
        rw [List.singleton_append, hms]
        have e3 : i + 1 + (fullT xs a).length + (restT xs c).length + 1 = i + ([40] ++ fullT xs a ++ restT xs c ++ [41]).length := by simp; omega
        rw [e3]
        congr 1
        simp only [RS.put, RS.mk.injEq, List.append_assoc, List.length_append, true_and]
        rw [show s.ns.length + (ys.length + ys2.length) + ms.length = s.ns.length + (ys.length + (ys2.length + ms.length)) by omega]
      · have e4 : s.ns ++ (ys ++ ys2 ++ ms) = s.ns ++ ys ++ ys2 ++ ms := by simp
        have e5 : s.ns.length + (ys ++ ys2 ++ ms).length - 1 = (s.ns ++ ys ++ ys2).length + (((s.ns.length + ys.length - 1 : Nat) : Int) :: vs2).length := by simp [hml]; omega
        rw [e4, e5]
        exact MD
    · rw [restT_pair hp hx rfl rfl rfl l1 l2] at h ⊢
      simp only [List.cons_append, List.nil_append, List.append_assoc] at h
      have h2 := (drop_cons h).2.2
      obtain ⟨ys, hy, er, ak⟩ := iha t (i + 1) (restT xs c ++ 41 :: r) s hE h2 (hhead r)
      have h3 := drop_more h2
      obtain ⟨ys2, vs2, er2, lk⟩ := ihc t (i + 1 + (fullT xs a).length) r (s.put ys) (hE.trans (Ext.append _ _)) h3
      simp only [RS.put] at er2 lk
      refine ⟨ys ++ ys2, ((s.ns.length + ys.length - 1 : Nat) : Int) :: vs2, ?_, ?_⟩
      · rw [rd_step h (by decide), show rdMark ((32 : UInt8).toNat : Int) i s = .ok s from rfl]
        show rd t (i + 1) (i + 1) _ = _
        rw [er]
        simp only [RS.put]
        rw [er2]
        have e3 : i + 1 + (fullT xs a).length + (restT xs c).length = i + ([32] ++ fullT xs a ++ restT xs c).length := by simp; omega
        rw [e3]
        congr 1
        simp
      · rw [← List.append_assoc]
        exact .cons (Ext.append _ _ _ _ (Ext.append _ _ _ _ (hE _ _ hx))) (ak.mono (Ext.append _ _)) lk
/-- What Read answers. -/
theorem readR_facts (xs : List Nd) (t : ByteArray) : ((readR xs t).2.2.1 ≠ 0 → (readR xs t).2.1 = [] ∧ (0 ≤ (readR xs t).2.2.2 ∧ (readR xs t).2.2.2 ≤ t.size) ∧ ((readR xs t).1.length = xs.length ∨ (readR xs t).1.length = 0)) ∧
    ((readR xs t).2.2.1 = 0 → (readR xs t).2.2.2 = t.size ∧ poolB (readR xs t).1 = true ∧ AllR (readR xs t).1 (readR xs t).2.1) := by
  unfold readR
  split
  · split
    · have h := rd_all (t := t) 0 0 ⟨xs, [], 0, []⟩ (Nat.le_refl _) (Nat.zero_le _) ⟨fun z hz => by simp at hz, fun p hp => by simp at hp⟩ ⟨by simp, fun p hp => by simp at hp⟩
      cases hr : rd t 0 0 ⟨xs, [], 0, []⟩ with
      | bad a b =>
        rw [hr] at h
        exact ⟨fun _ => ⟨rfl, h.2, .inl rfl⟩, fun e => absurd e h.1⟩
      | ok s =>
        rw [hr] at h
        dsimp only
        split
        · split
          · rename_i hp
            exact ⟨fun e => absurd rfl e, fun _ => ⟨rfl, hp, h.1.vs⟩⟩
          · exact ⟨fun _ => ⟨rfl, by simp, .inl rfl⟩, fun e => by cases e⟩
        · exact ⟨fun _ => ⟨rfl, h.2.a, .inl rfl⟩, fun e => by cases e⟩
    · exact ⟨fun _ => ⟨rfl, by simp, .inl rfl⟩, fun e => by cases e⟩
  · exact ⟨fun _ => ⟨rfl, by simp, .inr rfl⟩, fun e => by cases e⟩
theorem Rdb.lt {xs : List Nd} {b : Bool} {v : Nat} (h : Rdb xs b v) : v < xs.length := by
  cases h with
  | word h _ => exact (List.getElem?_eq_some_iff.1 h).1
  | nil h => exact (List.getElem?_eq_some_iff.1 h).1
  | pair h _ _ => exact (List.getElem?_eq_some_iff.1 h).1
/-- What was read, written and read again. -/
theorem read_again {xs : List Nd} (hp : poolB xs = true) {n : Nat} (h : Rdb xs false n) (hne : writeR xs n ≠ []) :
    (readR xs (tx (writeR xs n))).2.2.1 = 6 ∨ ((readR xs (tx (writeR xs n))).2.2.1 = 0 ∧ ∃ m : Int, (readR xs (tx (writeR xs n))).2.1 = [m] ∧ sameR (readR xs (tx (writeR xs n))).1 n m = true) := by
  have hn := h.lt
  have hW : writeR xs n = if (fullT xs n).length ≤ 400 then fullT xs n else [] := by
    unfold writeR
    rw [hp, Bool.true_and, if_pos (by simp [hasI, hn])]
    rfl
  by_cases h4 : (fullT xs n).length ≤ 400
  · rw [if_pos h4] at hW
    rw [hW]
    have hd : (tx (fullT xs n)).data.toList = fullT xs n := by simp [tx]
    have hs : (tx (fullT xs n)).size = (fullT xs n).length := tx_size _
    obtain ⟨ys, hy, er, ak⟩ := (read_back xs hp h).1 (tx (fullT xs n)) 0 [] ⟨xs, [], 0, []⟩ (fun _ _ e => e) (by rw [hd]; simp) (fun c r' e => by cases e)
    rw [Nat.zero_add, ← hs, rd_done] at er
    unfold readR
    rw [if_pos hp, hs, if_pos h4, er]
    dsimp only
    rw [if_pos (show ((⟨xs, [], 0, []⟩ : RS).put ys).lo = [] from rfl)]
    by_cases hq : poolB ((⟨xs, [], 0, []⟩ : RS).put ys).ns = true
    · rw [if_pos hq]
      refine .inr ⟨rfl, _, rfl, ?_⟩
      have hq' : poolB (xs ++ ys) = true := hq
      have hf := alk_fst hq' ak
      show sameR (xs ++ ys) n ((xs.length + ys.length - 1 : Nat) : Int) = true
      unfold sameR
      rw [hq']
      simp only [Bool.true_and, Bool.and_eq_true, beq_iff_eq, Int.toNat_natCast]
      refine ⟨⟨by simp [hasI]; omega, by simp [hasI]; omega⟩, hf⟩
    · rw [if_neg hq]
      exact .inl rfl
  · rw [if_neg h4] at hW
    exact absurd hW hne
end Go.Proofs.YtmgjefkelohocaaDoor

/-
  The laws FnExactPoolOk and FnExactNameOk, walked: at every argument the law returns true.
-/
namespace Go.Proofs.YtmgjefkelohocaaDoor
open Go.RowKit

theorem NRow.small {w : World} {v : Value} {xs : List Nd} (R : NRow w v xs) : ∃ ao cap, v = .slice ao xs.length cap := by
  obtain ⟨ao, cap, rfl, _⟩ := R
  exact ⟨ao, cap, rfl⟩

end Go.Proofs.YtmgjefkelohocaaDoor
