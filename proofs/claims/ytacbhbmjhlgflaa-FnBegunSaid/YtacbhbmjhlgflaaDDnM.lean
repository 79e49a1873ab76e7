/-
  Texts that stood by themselves, laid into one.
-/
import Derived.Test.YtacbhbmjhlgflaaSCp11M
import Derived.Test.YtacbhbmjhlgflaaSReadM
import Derived.Test.YtacbhbmjhlgflaaMkListM
import Derived.Deep.CutRange
import Derived.Deep.RegionHeld3
import Derived.Deep.AppendLies
import Derived.Deep.RegionLaw
/-
  What is compiled of something is something; what is read of a text that is not blank is something: plain mathematics. Nothing of the program; no condition.
-/
namespace Go.Proofs.Ytacbhbmjhlgflaa
open Go.RowKit

theorem emit_lt (s : CS) (x : In) : (s.emit x).how = 0 → s.how = 0 ∧ s.list.length < (s.emit x).list.length := by
  unfold CS.emit
  split
  · rename_i h
    split
    · intro e; cases e
    · intro _; exact ⟨h, by simp⟩
  · rename_i h; intro e; exact absurd e h
theorem cdefine_lt (e : Ex) (hm : Mono e) (name : ByteArray) (names : List ByteArray) (body : List Int) (s : CS) : (cdefine e name names body s).how = 0 → s.how = 0 ∧ s.list.length < (cdefine e name names body s).list.length := by
  unfold cdefine
  split
  · intro h; cases h
  · intro h
    obtain ⟨h1, h2⟩ := emit_lt _ _ h
    obtain ⟨h3, h4⟩ := hm.seq [names] body true _ h1
    unfold cbody at h2 ⊢
    exact ⟨h3, Nat.lt_of_le_of_lt h4 h2⟩
theorem ctop_lt (xs : List Nd) (v : Int) (s : CS) : (ctop xs v s).how = 0 → s.how = 0 ∧ s.list.length < (ctop xs v s).list.length := by
  have hm := cexp_mono xs xs.length
  unfold ctop
  dsimp only
  split
  · split
    · split
      · exact cdefine_lt _ hm _ _ _ _
      · rename_i hn; intro h; exact absurd h hn
    · intro h; cases h
  · exact cdefine_lt _ hm _ _ _ _
theorem ctops_le (xs : List Nd) : ∀ (l : List Int) (i : Nat) (s : CS), (ctops xs l i s).1.how = 0 → s.list.length ≤ (ctops xs l i s).1.list.length := by
  intro l
  induction l with
  | nil => intro i s _; exact Nat.le_refl _
  | cons v l ih =>
    intro i s h
    rw [ctops] at h ⊢
    split at h
    · rename_i h0
      rw [if_pos h0]
      exact Nat.le_trans (Nat.le_of_lt (ctop_lt xs v s h0).2) (ih _ _ h)
    · rename_i h0; exact absurd h h0
theorem ctops_ne (xs : List Nd) (v : Int) (l : List Int) (i : Nat) (s : CS) (h : (ctops xs (v :: l) i s).1.how = 0) : 0 < (ctops xs (v :: l) i s).1.list.length := by
  rw [ctops] at h ⊢
  split at h
  · rename_i h0
    rw [if_pos h0]
    exact Nat.lt_of_lt_of_le (Nat.lt_of_le_of_lt (Nat.zero_le _) (ctop_lt xs v s h0).2) (ctops_le xs l _ _ h)
  · rename_i h0; exact absurd h h0

/-- A word that is read, where there is one. -/
def wordQ (t : ByteArray) (a : Int) (s : RS) : RdR := if t.size = 0 then .ok s else if wordOk t then .ok (s.put [wordNd t]) else .bad 3 a
theorem rd_word2 {t : ByteArray} {f i : Nat} {s : RS} (hf : f ≤ i) (hi : i ≤ t.size) : (if f < i then rdWord t f i s else .ok s) = wordQ (t.extract f i) f s := by
  unfold wordQ rdWord
  have hs : (t.extract f i).size = i - f := by rw [ByteArray.size_extract]; omega
  by_cases h : f < i
  · rw [if_pos h, if_neg (show ¬ (t.extract f i).size = 0 by omega)]
  · rw [if_neg h, if_pos (show (t.extract f i).size = 0 by omega)]
theorem rd_stop2 {t : ByteArray} {f : Nat} {s : RS} (hf : f ≤ t.size) : rd t f t.size s = wordQ (t.extract f t.size) f s := by
  rw [rd, dif_neg (by omega), rd_word2 hf (Nat.le_refl _)]
theorem rd_at2 {t : ByteArray} {f i : Nat} {s : RS} (h : i < t.size) (hw : wb (t[i].toNat : Int) = false) (hf : f ≤ i) : rd t f i s = (wordQ (t.extract f i) f s).andThen fun s1 => (rdMark (t[i].toNat : Int) i s1).andThen fun s2 => rd t (i + 1) (i + 1) s2 := by
  rw [rd, dif_pos h, if_neg (by rw [hw]; decide), rd_word2 hf (by omega)]
theorem wordQ_bad {t : ByteArray} {a : Int} {s : RS} {h p : Int} (e : wordQ t a s = .bad h p) : h ≠ 0 := by
  unfold wordQ at e
  split at e
  · cases e
  split at e
  · cases e
  · cases e; decide
theorem mark_bad {b : Int} {i : Nat} {s : RS} {h p : Int} (e : rdMark b i s = .bad h p) : h ≠ 0 := by
  unfold rdMark at e
  split at e
  · cases e
  split at e
  · cases e
  split at e
  · unfold rdClose at e
    split at e
    · cases e; decide
    · cases e
  · cases e; decide
theorem rd_bad {t : ByteArray} (f i : Nat) (s : RS) {h p : Int} (hf : f ≤ i) (hi : i ≤ t.size) (e : rd t f i s = .bad h p) : h ≠ 0 := by
  induction hk : t.size - i generalizing f i s with
  | zero =>
    have hie : i = t.size := by omega
    subst hie
    rw [rd_stop2 hf] at e
    exact wordQ_bad e
  | succ k ih =>
    have hlt : i < t.size := by omega
    cases hw : wb (t[i].toNat : Int) with
    | true =>
      rw [rd_in hlt hw] at e
      exact ih f (i + 1) s (by omega) (by omega) e (by omega)
    | false =>
      rw [rd_at2 hlt hw hf] at e
      cases h1 : wordQ (t.extract f i) f s with
      | bad a b => rw [h1] at e; cases e; exact wordQ_bad h1
      | ok s1 =>
        rw [h1] at e
        change ((rdMark (t[i].toNat : Int) i s1).andThen fun s2 => rd t (i + 1) (i + 1) s2) = _ at e
        cases h2 : rdMark (t[i].toNat : Int) i s1 with
        | bad a b => rw [h2] at e; cases e; exact mark_bad h2
        | ok s2 =>
          rw [h2] at e
          exact ih (i + 1) (i + 1) s2 (Nat.le_refl _) (by omega) e (by omega)
def Some_ (s : RS) : Prop := s.lo ≠ [] ∨ s.vs ≠ []
theorem some_put (s : RS) (ys : List Nd) : Some_ (s.put ys) := .inr (by simp [RS.put])
theorem some_word {s s1 : RS} {t : ByteArray} {a : Int} (e : wordQ t a s = .ok s1) (h : Some_ s ∨ ¬ t.size = 0) : Some_ s1 := by
  unfold wordQ at e
  split at e
  · rename_i h0
    cases e
    rcases h with h | h
    · exact h
    · exact absurd h0 h
  split at e
  · cases e; exact some_put _ _
  · cases e
theorem some_mark {s s2 : RS} {b : Int} {i : Nat} (e : rdMark b i s = .ok s2) (h : Some_ s ∨ ¬ b = 32) : Some_ s2 := by
  unfold rdMark at e
  split at e
  · rename_i hb
    cases e
    rcases h with h | h
    · exact h
    · exact absurd hb h
  split at e
  · cases e; exact .inl (by simp)
  split at e
  · unfold rdClose at e
    split at e
    · cases e
    · cases e; exact some_put _ _
  · cases e
/-- A text that is not blank. -/
def NotBlank (t : ByteArray) (i : Nat) : Prop := ∃ (j : Nat) (h : j < t.size), i ≤ j ∧ ¬ (t[j].toNat : Int) = 32
theorem rd_some {t : ByteArray} (f i : Nat) (s s' : RS) (hf : f ≤ i) (hi : i ≤ t.size) (h : f < i ∨ Some_ s ∨ NotBlank t i) (e : rd t f i s = .ok s') : Some_ s' := by
  induction hk : t.size - i generalizing f i s with
  | zero =>
    have hie : i = t.size := by omega
    subst hie
    rw [rd_stop2 hf] at e
    refine some_word e ?_
    rcases h with h | h | ⟨j, hj, h1, _⟩
    · exact .inr (by rw [ByteArray.size_extract]; omega)
    · exact .inl h
    · omega
  | succ k ih =>
    have hlt : i < t.size := by omega
    cases hw : wb (t[i].toNat : Int) with
    | true =>
      rw [rd_in hlt hw] at e
      exact ih f (i + 1) s (by omega) (by omega) (.inl (by omega)) e (by omega)
    | false =>
      rw [rd_at2 hlt hw hf] at e
      cases h1 : wordQ (t.extract f i) f s with
      | bad a b => rw [h1] at e; cases e
      | ok s1 =>
        rw [h1] at e
        change ((rdMark (t[i].toNat : Int) i s1).andThen fun s2 => rd t (i + 1) (i + 1) s2) = _ at e
        cases h2 : rdMark (t[i].toNat : Int) i s1 with
        | bad a b => rw [h2] at e; cases e
        | ok s2 =>
          rw [h2] at e
          refine ih (i + 1) (i + 1) s2 (Nat.le_refl _) (by omega) ?_ e (by omega)
          right
          by_cases hb : (t[i].toNat : Int) = 32
          · rcases h with h | h | ⟨j, hj, hij, hn⟩
            · exact .inl (some_mark h2 (.inl (some_word h1 (.inr (by rw [ByteArray.size_extract]; omega)))))
            · exact .inl (some_mark h2 (.inl (some_word h1 (.inl h))))
            · refine .inr ⟨j, hj, ?_, hn⟩
              rcases Nat.lt_or_ge i j with hx | hx
              · exact hx
              · have : j = i := by omega
                subst this
                exact absurd hb hn
          · exact .inl (some_mark h2 (.inr hb))
/-- What is read of a text that is not blank is something. -/
theorem readR_some (xs : List Nd) (t : ByteArray) (hn : NotBlank t 0) (h : (readR xs t).2.2.1 = 0) : (readR xs t).2.1 ≠ [] := by
  unfold readR at h ⊢
  split at h
  · rename_i hp
    rw [if_pos hp]
    split at h
    · rename_i h4
      rw [if_pos h4]
      cases hr : rd t 0 0 ⟨xs, [], 0, []⟩ with
      | bad a b =>
        rw [hr] at h
        exact absurd h (rd_bad 0 0 _ (Nat.le_refl _) (Nat.zero_le _) hr)
      | ok s =>
        rw [hr] at h
        have hs := rd_some 0 0 _ s (Nat.le_refl _) (Nat.zero_le _) (.inr (.inr hn)) hr
        dsimp only at h ⊢
        split at h
        · rename_i hlo
          rw [if_pos hlo]
          split at h
          · rename_i hq
            rw [if_pos hq]
            rcases hs with hs | hs
            · exact absurd hlo hs
            · exact hs
          · cases h
        · cases h
    · cases h
  · cases h
end Go.Proofs.Ytacbhbmjhlgflaa

/-
  The contract of spec.l4DrawExpr: a text that is not blank. No condition beyond how deep it is.
-/
namespace Go.Proofs.Ytacbhbmjhlgflaa
open Go.RowKit

/-- A text that begins with something. -/
def Hd (s : ByteArray) : Prop := ∃ (c : UInt8) (r : List UInt8), s.data.toList = c :: r ∧ ¬ c = 32
theorem Hd.append {a : ByteArray} (h : Hd a) (b : ByteArray) : Hd (a ++ b) := by
  obtain ⟨c, r, e, hc⟩ := h
  exact ⟨c, r ++ b.data.toList, by simp [e], hc⟩
theorem Hd.notBlank {s : ByteArray} (h : Hd s) : NotBlank s 0 := by
  obtain ⟨c, r, e, hc⟩ := h
  have hs : s.size = r.length + 1 := by
    have := congrArg List.length e
    rw [Array.length_toList] at this
    simpa using this
  refine ⟨0, by omega, Nat.le_refl _, fun q => hc ?_⟩
  have h0 : s[0]'(by omega) = c := by
    have : s.data.toList[0]? = some c := by rw [e]; rfl
    rw [List.getElem?_eq_getElem (by rw [e]; simp)] at this
    exact Option.some.inj this
  rw [h0] at q
  exact UInt8.toNat_inj.1 (by show _ = 32; omega)
def eP9 : List ByteArray := [⟨#[49]⟩, ⟨#[120]⟩, ⟨#[121]⟩, ⟨#[45, 50]⟩, ⟨#[35, 116]⟩, ⟨#[40, 41]⟩, ⟨#[102]⟩, ⟨#[40, 113, 117, 111, 116, 101, 32, 97, 41]⟩, ⟨#[48]⟩]
def eP7 : List ByteArray := [⟨#[43]⟩, ⟨#[45]⟩, ⟨#[42]⟩, ⟨#[60]⟩, ⟨#[61]⟩, ⟨#[99, 111, 110, 115]⟩, ⟨#[101, 113, 63]⟩]
def eP6 : List ByteArray := [⟨#[99, 97, 114]⟩, ⟨#[99, 100, 114]⟩, ⟨#[110, 117, 108, 108, 63]⟩, ⟨#[112, 97, 105, 114, 63]⟩, ⟨#[110, 111, 116]⟩, ⟨#[99, 97, 108, 108, 99, 99]⟩]
theorem eP_hd : ∀ s ∈ eP9, s.size ≤ 10 ∧ Hd s := by
  intro s hs
  simp only [eP9, List.mem_cons, List.not_mem_nil, or_false] at hs
  rcases hs with rfl | rfl | rfl | rfl | rfl | rfl | rfl | rfl | rfl <;> exact ⟨by decide, _, _, rfl, by decide⟩
theorem eP7_size : ∀ s ∈ eP7, s.size ≤ 10 := by decide
theorem eP6_size : ∀ s ∈ eP6, s.size ≤ 10 := by decide
/-- How long such a text may be. -/
def eB : Nat → Nat
  | 0 => 10
  | d + 1 => 40 + 3 * eB d
theorem eB_mono {a b : Nat} (h : a ≤ b) : eB a ≤ eB b := by
  induction b with
  | zero => rw [show a = 0 by omega]; exact Nat.le_refl _
  | succ b ih =>
    by_cases e : a = b + 1
    · rw [e]; exact Nat.le_refl _
    · have := ih (by omega)
      simp only [eB]
      omega
theorem eB_le {d : Nat} (h : d ≤ 3) : eB d ≤ 1000 := by
  have : ∀ d, d ≤ 3 → eB d ≤ 1000 := by decide
  exact this d h

set_option maxRecDepth 100000 in
set_option maxHeartbeats 3200000 in
theorem dexpr_any (w0 : World) (v : Value) (zs : List Int) (P : Nat) (n : Nat) (hn3 : n ≤ 3) : ∀ (d : Int), d.toNat = n → -5 ≤ d → ∀ w, Cur w0 v zs w P →
    Calls Try.prog 115 #[.pointer (some ⟨P, 0, none⟩), .int .i64 d] w fun e w' => ∃ s : ByteArray, e = .returned (.string s) ∧ s.size ≤ eB n ∧ Hd s ∧ Cur w0 v zs w' P ∧ w.grownBy w' (some P) := by
  induction n using Nat.strongRecOn with
  | _ n ih =>
  intro d hd hd5 w c
  by_cases h0 : d ≤ 0
  · have hP := c.lt
    have hB1 : Below w.heap.size w (w.alloc (Obj.cells (eP9.map Value.string).toArray 9)) := (Below.refl _ _).alloc (Nat.le_refl _) _
    have hn0 : n = 0 := by omega
    go_enter Try.func115, Try.ntmps115
    go_wp2_with fail
    refine (picks_any w0 v zs _ P w.heap.size 9 eP9 (c.kept (hB1.mono (by omega))) (by omega) (by decide) (by decide) (fun i hi => strs_new w eP9 9 i hi)).mono ?_
    rintro e w2 ⟨s, hs, rfl, c2, g2⟩
    have hs10 := eP_hd s hs
    have g2' := draw_step hB1 g2
    clear hs
    go_wp2_with fail
    go_ret
    exact ⟨s, rfl, by rw [hn0]; exact hs10.1, hs10.2, c2, g2'⟩
  · obtain ⟨m, rfl⟩ : ∃ m, n = m + 1 := ⟨n - 1, by omega⟩
    have HI : Hid (∀ (d : Int), d.toNat = m → -5 ≤ d → ∀ w, Cur w0 v zs w P → Calls Try.prog 115 #[.pointer (some ⟨P, 0, none⟩), .int .i64 d] w fun e w' => ∃ s : ByteArray, e = .returned (.string s) ∧ s.size ≤ eB m ∧ Hd s ∧ Cur w0 v zs w' P ∧ w.grownBy w' (some P)) := ih m (by omega) (by omega)
    have HI2 : Hid (∀ w, Cur w0 v zs w P → Calls Try.prog 115 #[.pointer (some ⟨P, 0, none⟩), .int .i64 (d - 2)] w fun e w' => ∃ s : ByteArray, e = .returned (.string s) ∧ s.size ≤ eB m ∧ Hd s ∧ Cur w0 v zs w' P ∧ w.grownBy w' (some P)) := fun w c =>
      (ih (d - 2).toNat (by omega) (by omega) (d - 2) rfl (by omega) w c).mono fun e w' ⟨s, h1, h2, h3⟩ => ⟨s, h1, Nat.le_trans h2 (eB_mono (by omega)), h3⟩
    have hBm := eB_le (show m ≤ 3 by omega)
    have HB : Hid (eB (m + 1) = 40 + 3 * eB m) := rfl
    clear ih
    go_enter Try.func115, Try.ntmps115
    go_wp2_with fail
    refine (HI.out (d - 1) (by omega) (by omega) _ c).mono ?_
    rintro e w1 ⟨a, rfl, ha, hda, c1, g1⟩
    go_wp2_with fail
    refine (HI.out (d - 1) (by omega) (by omega) _ c1).mono ?_
    rintro e w2 ⟨b, rfl, hb, hdb, c2, g2⟩
    have g2' := grown_trans g1 g2
    go_wp2_with fail
    refine (below_any w0 v zs _ P 9 c2 (by omega)).mono ?_
    rintro e w3 ⟨r, rfl, hr0, hr1, c3, g3⟩
    have hr := hr1 (by omega)
    have g3' := grown_trans g2' g3
    generalize eB m = B at *
    clear hr1 g1 g2 g3 c1 c2 g2' c
    have hP := c3.lt
    rcases (by omega : r = 0 ∨ r = 1 ∨ r = 2 ∨ r = 3 ∨ r = 4 ∨ r = 5 ∨ r = 6 ∨ r = 7 ∨ r = 8) with rfl | rfl | rfl | rfl | rfl | rfl | rfl | rfl | rfl
    · have l0 : Hd (⟨#[40, 105, 102, 32]⟩ : ByteArray) := ⟨_, _, rfl, by decide⟩
      have y0 : ((⟨#[40, 105, 102, 32]⟩ : ByteArray)).size = 4 := rfl
      have y1 : ((⟨#[32]⟩ : ByteArray)).size = 1 := rfl
      have y2 : ((⟨#[41]⟩ : ByteArray)).size = 1 := rfl
      obtain ⟨t1, et1⟩ : ∃ t : ByteArray, Hid (t = (⟨#[40, 105, 102, 32]⟩ : ByteArray) ++ a) := ⟨_, rfl⟩
      have zt1 : t1.size = ((⟨#[40, 105, 102, 32]⟩ : ByteArray)).size + (a).size := by rw [et1.out, ByteArray.size_append]
      have ht1 : Hd t1 := by rw [et1.out]; exact l0.append _
      have ad1 : ∀ u : World, (Op.stringOp .add (⟨#[40, 105, 102, 32]⟩ : ByteArray) a).run Try.prog u = .ok (.string t1) u := fun u => by rw [et1.out]; exact addB _ _ u (by omega)
      obtain ⟨t2, et2⟩ : ∃ t : ByteArray, Hid (t = t1 ++ (⟨#[32]⟩ : ByteArray)) := ⟨_, rfl⟩
      have zt2 : t2.size = (t1).size + ((⟨#[32]⟩ : ByteArray)).size := by rw [et2.out, ByteArray.size_append]
      have ht2 : Hd t2 := by rw [et2.out]; exact ht1.append _
      have ad2 : ∀ u : World, (Op.stringOp .add t1 (⟨#[32]⟩ : ByteArray)).run Try.prog u = .ok (.string t2) u := fun u => by rw [et2.out]; exact addB _ _ u (by omega)
      obtain ⟨t3, et3⟩ : ∃ t : ByteArray, Hid (t = t2 ++ b) := ⟨_, rfl⟩
      have zt3 : t3.size = (t2).size + (b).size := by rw [et3.out, ByteArray.size_append]
      have ht3 : Hd t3 := by rw [et3.out]; exact ht2.append _
      have ad3 : ∀ u : World, (Op.stringOp .add t2 b).run Try.prog u = .ok (.string t3) u := fun u => by rw [et3.out]; exact addB _ _ u (by omega)
      obtain ⟨t4, et4⟩ : ∃ t : ByteArray, Hid (t = t3 ++ (⟨#[32]⟩ : ByteArray)) := ⟨_, rfl⟩
      have zt4 : t4.size = (t3).size + ((⟨#[32]⟩ : ByteArray)).size := by rw [et4.out, ByteArray.size_append]
      have ht4 : Hd t4 := by rw [et4.out]; exact ht3.append _
      have ad4 : ∀ u : World, (Op.stringOp .add t3 (⟨#[32]⟩ : ByteArray)).run Try.prog u = .ok (.string t4) u := fun u => by rw [et4.out]; exact addB _ _ u (by omega)
      go_wp2_with fail
      refine (HI2.out _ c3).mono ?_
      rintro e w4 ⟨q, rfl, hq10, _, c4, g4⟩
      have g4' := grown_trans g3' g4
      obtain ⟨t5, et5⟩ : ∃ t : ByteArray, Hid (t = t4 ++ q) := ⟨_, rfl⟩
      have zt5 : t5.size = (t4).size + (q).size := by rw [et5.out, ByteArray.size_append]
      have ht5 : Hd t5 := by rw [et5.out]; exact ht4.append _
      have ad5 : ∀ u : World, (Op.stringOp .add t4 q).run Try.prog u = .ok (.string t5) u := fun u => by rw [et5.out]; exact addB _ _ u (by omega)
      obtain ⟨t6, et6⟩ : ∃ t : ByteArray, Hid (t = t5 ++ (⟨#[41]⟩ : ByteArray)) := ⟨_, rfl⟩
      have zt6 : t6.size = (t5).size + ((⟨#[41]⟩ : ByteArray)).size := by rw [et6.out, ByteArray.size_append]
      have ht6 : Hd t6 := by rw [et6.out]; exact ht5.append _
      have ad6 : ∀ u : World, (Op.stringOp .add t5 (⟨#[41]⟩ : ByteArray)).run Try.prog u = .ok (.string t6) u := fun u => by rw [et6.out]; exact addB _ _ u (by omega)
      go_wp2_with fail
      go_ret
      exact ⟨t6, rfl, by rw [HB.out]; omega, ht6, c4, g4'⟩
    · have l0 : Hd (⟨#[40, 102, 110, 32, 40, 120, 32, 121, 41, 32]⟩ : ByteArray) := ⟨_, _, rfl, by decide⟩
      have y0 : ((⟨#[40, 102, 110, 32, 40, 120, 32, 121, 41, 32]⟩ : ByteArray)).size = 10 := rfl
      have y1 : ((⟨#[41]⟩ : ByteArray)).size = 1 := rfl
      obtain ⟨t1, et1⟩ : ∃ t : ByteArray, Hid (t = (⟨#[40, 102, 110, 32, 40, 120, 32, 121, 41, 32]⟩ : ByteArray) ++ a) := ⟨_, rfl⟩
      have zt1 : t1.size = ((⟨#[40, 102, 110, 32, 40, 120, 32, 121, 41, 32]⟩ : ByteArray)).size + (a).size := by rw [et1.out, ByteArray.size_append]
      have ht1 : Hd t1 := by rw [et1.out]; exact l0.append _
      have ad1 : ∀ u : World, (Op.stringOp .add (⟨#[40, 102, 110, 32, 40, 120, 32, 121, 41, 32]⟩ : ByteArray) a).run Try.prog u = .ok (.string t1) u := fun u => by rw [et1.out]; exact addB _ _ u (by omega)
      obtain ⟨t2, et2⟩ : ∃ t : ByteArray, Hid (t = t1 ++ (⟨#[41]⟩ : ByteArray)) := ⟨_, rfl⟩
      have zt2 : t2.size = (t1).size + ((⟨#[41]⟩ : ByteArray)).size := by rw [et2.out, ByteArray.size_append]
      have ht2 : Hd t2 := by rw [et2.out]; exact ht1.append _
      have ad2 : ∀ u : World, (Op.stringOp .add t1 (⟨#[41]⟩ : ByteArray)).run Try.prog u = .ok (.string t2) u := fun u => by rw [et2.out]; exact addB _ _ u (by omega)
      have c4 := c3
      have g4' := g3'
      go_wp2_with fail
      go_ret
      exact ⟨t2, rfl, by rw [HB.out]; omega, ht2, c4, g4'⟩
    · have l0 : Hd (⟨#[40, 108, 101, 116, 32, 120, 32]⟩ : ByteArray) := ⟨_, _, rfl, by decide⟩
      have y0 : ((⟨#[40, 108, 101, 116, 32, 120, 32]⟩ : ByteArray)).size = 7 := rfl
      have y1 : ((⟨#[32]⟩ : ByteArray)).size = 1 := rfl
      have y2 : ((⟨#[41]⟩ : ByteArray)).size = 1 := rfl
      obtain ⟨t1, et1⟩ : ∃ t : ByteArray, Hid (t = (⟨#[40, 108, 101, 116, 32, 120, 32]⟩ : ByteArray) ++ a) := ⟨_, rfl⟩
      have zt1 : t1.size = ((⟨#[40, 108, 101, 116, 32, 120, 32]⟩ : ByteArray)).size + (a).size := by rw [et1.out, ByteArray.size_append]
      have ht1 : Hd t1 := by rw [et1.out]; exact l0.append _
      have ad1 : ∀ u : World, (Op.stringOp .add (⟨#[40, 108, 101, 116, 32, 120, 32]⟩ : ByteArray) a).run Try.prog u = .ok (.string t1) u := fun u => by rw [et1.out]; exact addB _ _ u (by omega)
      obtain ⟨t2, et2⟩ : ∃ t : ByteArray, Hid (t = t1 ++ (⟨#[32]⟩ : ByteArray)) := ⟨_, rfl⟩
      have zt2 : t2.size = (t1).size + ((⟨#[32]⟩ : ByteArray)).size := by rw [et2.out, ByteArray.size_append]
      have ht2 : Hd t2 := by rw [et2.out]; exact ht1.append _
      have ad2 : ∀ u : World, (Op.stringOp .add t1 (⟨#[32]⟩ : ByteArray)).run Try.prog u = .ok (.string t2) u := fun u => by rw [et2.out]; exact addB _ _ u (by omega)
      obtain ⟨t3, et3⟩ : ∃ t : ByteArray, Hid (t = t2 ++ b) := ⟨_, rfl⟩
      have zt3 : t3.size = (t2).size + (b).size := by rw [et3.out, ByteArray.size_append]
      have ht3 : Hd t3 := by rw [et3.out]; exact ht2.append _
      have ad3 : ∀ u : World, (Op.stringOp .add t2 b).run Try.prog u = .ok (.string t3) u := fun u => by rw [et3.out]; exact addB _ _ u (by omega)
      obtain ⟨t4, et4⟩ : ∃ t : ByteArray, Hid (t = t3 ++ (⟨#[41]⟩ : ByteArray)) := ⟨_, rfl⟩
      have zt4 : t4.size = (t3).size + ((⟨#[41]⟩ : ByteArray)).size := by rw [et4.out, ByteArray.size_append]
      have ht4 : Hd t4 := by rw [et4.out]; exact ht3.append _
      have ad4 : ∀ u : World, (Op.stringOp .add t3 (⟨#[41]⟩ : ByteArray)).run Try.prog u = .ok (.string t4) u := fun u => by rw [et4.out]; exact addB _ _ u (by omega)
      have c4 := c3
      have g4' := g3'
      go_wp2_with fail
      go_ret
      exact ⟨t4, rfl, by rw [HB.out]; omega, ht4, c4, g4'⟩
    · have l0 : Hd (⟨#[40, 100, 111, 32]⟩ : ByteArray) := ⟨_, _, rfl, by decide⟩
      have y0 : ((⟨#[40, 100, 111, 32]⟩ : ByteArray)).size = 4 := rfl
      have y1 : ((⟨#[32]⟩ : ByteArray)).size = 1 := rfl
      have y2 : ((⟨#[41]⟩ : ByteArray)).size = 1 := rfl
      obtain ⟨t1, et1⟩ : ∃ t : ByteArray, Hid (t = (⟨#[40, 100, 111, 32]⟩ : ByteArray) ++ a) := ⟨_, rfl⟩
      have zt1 : t1.size = ((⟨#[40, 100, 111, 32]⟩ : ByteArray)).size + (a).size := by rw [et1.out, ByteArray.size_append]
      have ht1 : Hd t1 := by rw [et1.out]; exact l0.append _
      have ad1 : ∀ u : World, (Op.stringOp .add (⟨#[40, 100, 111, 32]⟩ : ByteArray) a).run Try.prog u = .ok (.string t1) u := fun u => by rw [et1.out]; exact addB _ _ u (by omega)
      obtain ⟨t2, et2⟩ : ∃ t : ByteArray, Hid (t = t1 ++ (⟨#[32]⟩ : ByteArray)) := ⟨_, rfl⟩
      have zt2 : t2.size = (t1).size + ((⟨#[32]⟩ : ByteArray)).size := by rw [et2.out, ByteArray.size_append]
      have ht2 : Hd t2 := by rw [et2.out]; exact ht1.append _
      have ad2 : ∀ u : World, (Op.stringOp .add t1 (⟨#[32]⟩ : ByteArray)).run Try.prog u = .ok (.string t2) u := fun u => by rw [et2.out]; exact addB _ _ u (by omega)
      obtain ⟨t3, et3⟩ : ∃ t : ByteArray, Hid (t = t2 ++ b) := ⟨_, rfl⟩
      have zt3 : t3.size = (t2).size + (b).size := by rw [et3.out, ByteArray.size_append]
      have ht3 : Hd t3 := by rw [et3.out]; exact ht2.append _
      have ad3 : ∀ u : World, (Op.stringOp .add t2 b).run Try.prog u = .ok (.string t3) u := fun u => by rw [et3.out]; exact addB _ _ u (by omega)
      obtain ⟨t4, et4⟩ : ∃ t : ByteArray, Hid (t = t3 ++ (⟨#[41]⟩ : ByteArray)) := ⟨_, rfl⟩
      have zt4 : t4.size = (t3).size + ((⟨#[41]⟩ : ByteArray)).size := by rw [et4.out, ByteArray.size_append]
      have ht4 : Hd t4 := by rw [et4.out]; exact ht3.append _
      have ad4 : ∀ u : World, (Op.stringOp .add t3 (⟨#[41]⟩ : ByteArray)).run Try.prog u = .ok (.string t4) u := fun u => by rw [et4.out]; exact addB _ _ u (by omega)
      have c4 := c3
      have g4' := g3'
      go_wp2_with fail
      go_ret
      exact ⟨t4, rfl, by rw [HB.out]; omega, ht4, c4, g4'⟩
    · have l0 : Hd (⟨#[40, 112, 114, 105, 110, 116, 32]⟩ : ByteArray) := ⟨_, _, rfl, by decide⟩
      have y0 : ((⟨#[40, 112, 114, 105, 110, 116, 32]⟩ : ByteArray)).size = 7 := rfl
      have y1 : ((⟨#[41]⟩ : ByteArray)).size = 1 := rfl
      obtain ⟨t1, et1⟩ : ∃ t : ByteArray, Hid (t = (⟨#[40, 112, 114, 105, 110, 116, 32]⟩ : ByteArray) ++ a) := ⟨_, rfl⟩
      have zt1 : t1.size = ((⟨#[40, 112, 114, 105, 110, 116, 32]⟩ : ByteArray)).size + (a).size := by rw [et1.out, ByteArray.size_append]
      have ht1 : Hd t1 := by rw [et1.out]; exact l0.append _
      have ad1 : ∀ u : World, (Op.stringOp .add (⟨#[40, 112, 114, 105, 110, 116, 32]⟩ : ByteArray) a).run Try.prog u = .ok (.string t1) u := fun u => by rw [et1.out]; exact addB _ _ u (by omega)
      obtain ⟨t2, et2⟩ : ∃ t : ByteArray, Hid (t = t1 ++ (⟨#[41]⟩ : ByteArray)) := ⟨_, rfl⟩
      have zt2 : t2.size = (t1).size + ((⟨#[41]⟩ : ByteArray)).size := by rw [et2.out, ByteArray.size_append]
      have ht2 : Hd t2 := by rw [et2.out]; exact ht1.append _
      have ad2 : ∀ u : World, (Op.stringOp .add t1 (⟨#[41]⟩ : ByteArray)).run Try.prog u = .ok (.string t2) u := fun u => by rw [et2.out]; exact addB _ _ u (by omega)
      have c4 := c3
      have g4' := g3'
      go_wp2_with fail
      go_ret
      exact ⟨t2, rfl, by rw [HB.out]; omega, ht2, c4, g4'⟩
    · have l0 : Hd (⟨#[40, 40, 102, 110, 32, 40, 121, 41, 32]⟩ : ByteArray) := ⟨_, _, rfl, by decide⟩
      have y0 : ((⟨#[40, 40, 102, 110, 32, 40, 121, 41, 32]⟩ : ByteArray)).size = 9 := rfl
      have y1 : ((⟨#[41]⟩ : ByteArray)).size = 1 := rfl
      have y2 : ((⟨#[41, 32]⟩ : ByteArray)).size = 2 := rfl
      obtain ⟨t1, et1⟩ : ∃ t : ByteArray, Hid (t = (⟨#[40, 40, 102, 110, 32, 40, 121, 41, 32]⟩ : ByteArray) ++ a) := ⟨_, rfl⟩
      have zt1 : t1.size = ((⟨#[40, 40, 102, 110, 32, 40, 121, 41, 32]⟩ : ByteArray)).size + (a).size := by rw [et1.out, ByteArray.size_append]
      have ht1 : Hd t1 := by rw [et1.out]; exact l0.append _
      have ad1 : ∀ u : World, (Op.stringOp .add (⟨#[40, 40, 102, 110, 32, 40, 121, 41, 32]⟩ : ByteArray) a).run Try.prog u = .ok (.string t1) u := fun u => by rw [et1.out]; exact addB _ _ u (by omega)
      obtain ⟨t2, et2⟩ : ∃ t : ByteArray, Hid (t = t1 ++ (⟨#[41, 32]⟩ : ByteArray)) := ⟨_, rfl⟩
      have zt2 : t2.size = (t1).size + ((⟨#[41, 32]⟩ : ByteArray)).size := by rw [et2.out, ByteArray.size_append]
      have ht2 : Hd t2 := by rw [et2.out]; exact ht1.append _
      have ad2 : ∀ u : World, (Op.stringOp .add t1 (⟨#[41, 32]⟩ : ByteArray)).run Try.prog u = .ok (.string t2) u := fun u => by rw [et2.out]; exact addB _ _ u (by omega)
      obtain ⟨t3, et3⟩ : ∃ t : ByteArray, Hid (t = t2 ++ b) := ⟨_, rfl⟩
      have zt3 : t3.size = (t2).size + (b).size := by rw [et3.out, ByteArray.size_append]
      have ht3 : Hd t3 := by rw [et3.out]; exact ht2.append _
      have ad3 : ∀ u : World, (Op.stringOp .add t2 b).run Try.prog u = .ok (.string t3) u := fun u => by rw [et3.out]; exact addB _ _ u (by omega)
      obtain ⟨t4, et4⟩ : ∃ t : ByteArray, Hid (t = t3 ++ (⟨#[41]⟩ : ByteArray)) := ⟨_, rfl⟩
      have zt4 : t4.size = (t3).size + ((⟨#[41]⟩ : ByteArray)).size := by rw [et4.out, ByteArray.size_append]
      have ht4 : Hd t4 := by rw [et4.out]; exact ht3.append _
      have ad4 : ∀ u : World, (Op.stringOp .add t3 (⟨#[41]⟩ : ByteArray)).run Try.prog u = .ok (.string t4) u := fun u => by rw [et4.out]; exact addB _ _ u (by omega)
      have c4 := c3
      have g4' := g3'
      go_wp2_with fail
      go_ret
      exact ⟨t4, rfl, by rw [HB.out]; omega, ht4, c4, g4'⟩
    · have l0 : Hd (⟨#[40]⟩ : ByteArray) := ⟨_, _, rfl, by decide⟩
      have y0 : ((⟨#[40]⟩ : ByteArray)).size = 1 := rfl
      have y1 : ((⟨#[32]⟩ : ByteArray)).size = 1 := rfl
      have y2 : ((⟨#[41]⟩ : ByteArray)).size = 1 := rfl
      have hB1 : Below w3.heap.size w3 (w3.alloc (Obj.cells (eP7.map Value.string).toArray 9)) := (Below.refl _ _).alloc (Nat.le_refl _) _
      go_wp2_with fail
      refine (picks_any w0 v zs _ P w3.heap.size 7 eP7 (c3.kept (hB1.mono (by omega))) (by omega) (by decide) (by decide) (fun i hi => strs_new w3 eP7 9 i hi)).mono ?_
      rintro e w4 ⟨q, hq, rfl, c4, g4⟩
      have hq10 := eP7_size q hq
      have g4' := grown_trans g3' (draw_step hB1 g4)
      clear hq hB1 g4
      obtain ⟨t1, et1⟩ : ∃ t : ByteArray, Hid (t = (⟨#[40]⟩ : ByteArray) ++ q) := ⟨_, rfl⟩
      have zt1 : t1.size = ((⟨#[40]⟩ : ByteArray)).size + (q).size := by rw [et1.out, ByteArray.size_append]
      have ht1 : Hd t1 := by rw [et1.out]; exact l0.append _
      have ad1 : ∀ u : World, (Op.stringOp .add (⟨#[40]⟩ : ByteArray) q).run Try.prog u = .ok (.string t1) u := fun u => by rw [et1.out]; exact addB _ _ u (by omega)
      obtain ⟨t2, et2⟩ : ∃ t : ByteArray, Hid (t = t1 ++ (⟨#[32]⟩ : ByteArray)) := ⟨_, rfl⟩
      have zt2 : t2.size = (t1).size + ((⟨#[32]⟩ : ByteArray)).size := by rw [et2.out, ByteArray.size_append]
      have ht2 : Hd t2 := by rw [et2.out]; exact ht1.append _
      have ad2 : ∀ u : World, (Op.stringOp .add t1 (⟨#[32]⟩ : ByteArray)).run Try.prog u = .ok (.string t2) u := fun u => by rw [et2.out]; exact addB _ _ u (by omega)
      obtain ⟨t3, et3⟩ : ∃ t : ByteArray, Hid (t = t2 ++ a) := ⟨_, rfl⟩
      have zt3 : t3.size = (t2).size + (a).size := by rw [et3.out, ByteArray.size_append]
      have ht3 : Hd t3 := by rw [et3.out]; exact ht2.append _
      have ad3 : ∀ u : World, (Op.stringOp .add t2 a).run Try.prog u = .ok (.string t3) u := fun u => by rw [et3.out]; exact addB _ _ u (by omega)
      obtain ⟨t4, et4⟩ : ∃ t : ByteArray, Hid (t = t3 ++ (⟨#[32]⟩ : ByteArray)) := ⟨_, rfl⟩
      have zt4 : t4.size = (t3).size + ((⟨#[32]⟩ : ByteArray)).size := by rw [et4.out, ByteArray.size_append]
      have ht4 : Hd t4 := by rw [et4.out]; exact ht3.append _
      have ad4 : ∀ u : World, (Op.stringOp .add t3 (⟨#[32]⟩ : ByteArray)).run Try.prog u = .ok (.string t4) u := fun u => by rw [et4.out]; exact addB _ _ u (by omega)
      obtain ⟨t5, et5⟩ : ∃ t : ByteArray, Hid (t = t4 ++ b) := ⟨_, rfl⟩
      have zt5 : t5.size = (t4).size + (b).size := by rw [et5.out, ByteArray.size_append]
      have ht5 : Hd t5 := by rw [et5.out]; exact ht4.append _
      have ad5 : ∀ u : World, (Op.stringOp .add t4 b).run Try.prog u = .ok (.string t5) u := fun u => by rw [et5.out]; exact addB _ _ u (by omega)
      obtain ⟨t6, et6⟩ : ∃ t : ByteArray, Hid (t = t5 ++ (⟨#[41]⟩ : ByteArray)) := ⟨_, rfl⟩
      have zt6 : t6.size = (t5).size + ((⟨#[41]⟩ : ByteArray)).size := by rw [et6.out, ByteArray.size_append]
      have ht6 : Hd t6 := by rw [et6.out]; exact ht5.append _
      have ad6 : ∀ u : World, (Op.stringOp .add t5 (⟨#[41]⟩ : ByteArray)).run Try.prog u = .ok (.string t6) u := fun u => by rw [et6.out]; exact addB _ _ u (by omega)
      go_wp2_with fail
      go_ret
      exact ⟨t6, rfl, by rw [HB.out]; omega, ht6, c4, g4'⟩
    · have l0 : Hd (⟨#[40]⟩ : ByteArray) := ⟨_, _, rfl, by decide⟩
      have y0 : ((⟨#[40]⟩ : ByteArray)).size = 1 := rfl
      have y1 : ((⟨#[32]⟩ : ByteArray)).size = 1 := rfl
      have y2 : ((⟨#[41]⟩ : ByteArray)).size = 1 := rfl
      have hB1 : Below w3.heap.size w3 (w3.alloc (Obj.cells (eP6.map Value.string).toArray 9)) := (Below.refl _ _).alloc (Nat.le_refl _) _
      go_wp2_with fail
      refine (picks_any w0 v zs _ P w3.heap.size 6 eP6 (c3.kept (hB1.mono (by omega))) (by omega) (by decide) (by decide) (fun i hi => strs_new w3 eP6 9 i hi)).mono ?_
      rintro e w4 ⟨q, hq, rfl, c4, g4⟩
      have hq10 := eP6_size q hq
      have g4' := grown_trans g3' (draw_step hB1 g4)
      clear hq hB1 g4
      obtain ⟨t1, et1⟩ : ∃ t : ByteArray, Hid (t = (⟨#[40]⟩ : ByteArray) ++ q) := ⟨_, rfl⟩
      have zt1 : t1.size = ((⟨#[40]⟩ : ByteArray)).size + (q).size := by rw [et1.out, ByteArray.size_append]
      have ht1 : Hd t1 := by rw [et1.out]; exact l0.append _
      have ad1 : ∀ u : World, (Op.stringOp .add (⟨#[40]⟩ : ByteArray) q).run Try.prog u = .ok (.string t1) u := fun u => by rw [et1.out]; exact addB _ _ u (by omega)
      obtain ⟨t2, et2⟩ : ∃ t : ByteArray, Hid (t = t1 ++ (⟨#[32]⟩ : ByteArray)) := ⟨_, rfl⟩
      have zt2 : t2.size = (t1).size + ((⟨#[32]⟩ : ByteArray)).size := by rw [et2.out, ByteArray.size_append]
      have ht2 : Hd t2 := by rw [et2.out]; exact ht1.append _
      have ad2 : ∀ u : World, (Op.stringOp .add t1 (⟨#[32]⟩ : ByteArray)).run Try.prog u = .ok (.string t2) u := fun u => by rw [et2.out]; exact addB _ _ u (by omega)
      obtain ⟨t3, et3⟩ : ∃ t : ByteArray, Hid (t = t2 ++ a) := ⟨_, rfl⟩
      have zt3 : t3.size = (t2).size + (a).size := by rw [et3.out, ByteArray.size_append]
      have ht3 : Hd t3 := by rw [et3.out]; exact ht2.append _
      have ad3 : ∀ u : World, (Op.stringOp .add t2 a).run Try.prog u = .ok (.string t3) u := fun u => by rw [et3.out]; exact addB _ _ u (by omega)
      obtain ⟨t4, et4⟩ : ∃ t : ByteArray, Hid (t = t3 ++ (⟨#[41]⟩ : ByteArray)) := ⟨_, rfl⟩
      have zt4 : t4.size = (t3).size + ((⟨#[41]⟩ : ByteArray)).size := by rw [et4.out, ByteArray.size_append]
      have ht4 : Hd t4 := by rw [et4.out]; exact ht3.append _
      have ad4 : ∀ u : World, (Op.stringOp .add t3 (⟨#[41]⟩ : ByteArray)).run Try.prog u = .ok (.string t4) u := fun u => by rw [et4.out]; exact addB _ _ u (by omega)
      go_wp2_with fail
      go_ret
      exact ⟨t4, rfl, by rw [HB.out]; omega, ht4, c4, g4'⟩
    · go_wp2_with fail
      go_ret
      exact ⟨a, rfl, by rw [HB.out]; omega, hda, c3, g3'⟩
end Go.Proofs.Ytacbhbmjhlgflaa

/-
  The contracts of spec.l4Texts and spec.l4DrawProgram: a text that is not blank. No condition.
-/
namespace Go.Proofs.Ytacbhbmjhlgflaa
open Go.RowKit

def texts18 : List ByteArray := [⟨#[40, 100, 101, 102, 105, 110, 101, 32, 40, 102, 32, 110, 41, 32, 40, 105, 102, 32, 40, 60, 32, 110, 32, 50, 41, 32, 110, 32, 40, 43, 32, 40, 102, 32, 40, 45, 32, 110, 32, 49, 41, 41, 32, 40, 102, 32, 40, 45, 32, 110, 32, 50, 41, 41, 41, 41, 41, 32, 40, 102, 32, 54, 41]⟩, ⟨#[40, 100, 101, 102, 105, 110, 101, 32, 40, 117, 112, 32, 110, 41, 32, 40, 105, 102, 32, 40, 60, 32, 110, 32, 51, 41, 32, 40, 100, 111, 32, 40, 112, 114, 105, 110, 116, 32, 110, 41, 32, 40, 117, 112, 32, 40, 43, 32, 110, 32, 49, 41, 41, 41, 32, 110, 41, 41, 32, 40, 117, 112, 32, 48, 41]⟩, ⟨#[40, 108, 101, 116, 32, 120, 32, 53, 32, 40, 108, 101, 116, 32, 102, 32, 40, 102, 110, 32, 40, 121, 41, 32, 40, 43, 32, 120, 32, 121, 41, 41, 32, 40, 112, 114, 105, 110, 116, 32, 40, 102, 32, 52, 41, 41, 41, 41]⟩, ⟨#[40, 112, 114, 105, 110, 116, 32, 40, 99, 97, 108, 108, 99, 99, 32, 40, 102, 110, 32, 40, 107, 41, 32, 40, 100, 111, 32, 40, 107, 32, 55, 41, 32, 56, 41, 41, 41, 41]⟩, ⟨#[40, 100, 101, 102, 105, 110, 101, 32, 40, 109, 97, 112, 32, 102, 32, 108, 41, 32, 40, 105, 102, 32, 40, 110, 117, 108, 108, 63, 32, 108, 41, 32, 40, 41, 32, 40, 99, 111, 110, 115, 32, 40, 102, 32, 40, 99, 97, 114, 32, 108, 41, 41, 32, 40, 109, 97, 112, 32, 102, 32, 40, 99, 100, 114, 32, 108, 41, 41, 41, 41, 41, 32, 40, 112, 114, 105, 110, 116, 32, 40, 109, 97, 112, 32, 40, 102, 110, 32, 40, 120, 41, 32, 40, 42, 32, 120, 32, 120, 41, 41, 32, 40, 113, 117, 111, 116, 101, 32, 40, 49, 32, 50, 32, 51, 41, 41, 41, 41]⟩, ⟨#[40, 100, 111, 32, 40, 115, 112, 97, 119, 110, 32, 40, 102, 110, 32, 40, 41, 32, 40, 100, 111, 32, 40, 112, 114, 105, 110, 116, 32, 49, 41, 32, 40, 112, 114, 105, 110, 116, 32, 50, 41, 41, 41, 41, 32, 40, 112, 114, 105, 110, 116, 32, 51, 41, 41]⟩, ⟨#[40, 108, 101, 116, 32, 112, 32, 40, 115, 112, 97, 119, 110, 32, 40, 102, 110, 32, 40, 41, 32, 40, 112, 114, 105, 110, 116, 32, 40, 114, 101, 99, 118, 41, 41, 41, 41, 32, 40, 100, 111, 32, 40, 115, 101, 110, 100, 32, 112, 32, 40, 113, 117, 111, 116, 101, 32, 40, 97, 32, 98, 41, 41, 41, 32, 48, 41, 41]⟩, ⟨#[40, 108, 101, 116, 32, 112, 32, 40, 115, 112, 97, 119, 110, 32, 40, 102, 110, 32, 40, 41, 32, 40, 108, 101, 116, 32, 102, 32, 40, 114, 101, 99, 118, 41, 32, 40, 112, 114, 105, 110, 116, 32, 40, 102, 32, 53, 41, 41, 41, 41, 41, 32, 40, 108, 101, 116, 32, 122, 32, 57, 32, 40, 115, 101, 110, 100, 32, 112, 32, 40, 102, 110, 32, 40, 120, 41, 32, 40, 43, 32, 120, 32, 122, 41, 41, 41, 41, 41]⟩, ⟨#[40, 100, 111, 32, 40, 112, 114, 105, 110, 116, 32, 49, 41, 32, 40, 103, 111, 32, 49, 41, 32, 40, 112, 114, 105, 110, 116, 32, 50, 41, 32, 40, 103, 111, 32, 48, 41, 32, 40, 112, 114, 105, 110, 116, 32, 51, 41, 41]⟩, ⟨#[40, 108, 101, 116, 32, 109, 101, 32, 40, 115, 101, 108, 102, 41, 32, 40, 100, 111, 32, 40, 115, 112, 97, 119, 110, 32, 40, 102, 110, 32, 40, 41, 32, 40, 100, 111, 32, 40, 103, 111, 32, 49, 41, 32, 40, 115, 101, 110, 100, 32, 109, 101, 32, 52, 50, 41, 41, 41, 41, 32, 40, 112, 114, 105, 110, 116, 32, 40, 114, 101, 99, 118, 41, 41, 41, 41]⟩, ⟨#[40, 100, 101, 102, 105, 110, 101, 32, 40, 108, 111, 111, 112, 32, 110, 41, 32, 40, 105, 102, 32, 40, 61, 32, 110, 32, 48, 41, 32, 40, 112, 114, 105, 110, 116, 32, 40, 113, 117, 111, 116, 101, 32, 101, 110, 100, 41, 41, 32, 40, 108, 111, 111, 112, 32, 40, 45, 32, 110, 32, 49, 41, 41, 41, 41, 32, 40, 108, 111, 111, 112, 32, 57, 41]⟩, ⟨#[40, 112, 114, 105, 110, 116, 32, 40, 99, 97, 114, 32, 40, 113, 117, 111, 116, 101, 32, 40, 41, 41, 41, 41]⟩, ⟨#[40, 112, 114, 105, 110, 116, 32, 40, 102, 32, 49, 41, 41]⟩, ⟨#[40, 43, 32, 49, 32, 35, 116, 41]⟩, ⟨#[40, 112, 114, 105, 110, 116, 32, 40, 99, 111, 110, 115, 32, 49, 32, 40, 99, 111, 110, 115, 32, 50, 32, 40, 41, 41, 41, 41]⟩, ⟨#[40, 100, 101, 102, 105, 110, 101, 32, 40, 112, 105, 110, 103, 32, 112, 32, 110, 41, 32, 40, 105, 102, 32, 40, 60, 32, 110, 32, 49, 41, 32, 48, 32, 40, 100, 111, 32, 40, 115, 101, 110, 100, 32, 112, 32, 110, 41, 32, 40, 112, 114, 105, 110, 116, 32, 40, 114, 101, 99, 118, 41, 41, 32, 40, 112, 105, 110, 103, 32, 112, 32, 40, 45, 32, 110, 32, 49, 41, 41, 41, 41, 41, 32, 40, 108, 101, 116, 32, 109, 101, 32, 40, 115, 101, 108, 102, 41, 32, 40, 112, 105, 110, 103, 32, 40, 115, 112, 97, 119, 110, 32, 40, 102, 110, 32, 40, 41, 32, 40, 100, 111, 32, 40, 103, 111, 32, 49, 41, 32, 40, 115, 101, 110, 100, 32, 109, 101, 32, 40, 43, 32, 49, 48, 32, 40, 114, 101, 99, 118, 41, 41, 41, 32, 40, 115, 101, 110, 100, 32, 109, 101, 32, 40, 43, 32, 49, 48, 32, 40, 114, 101, 99, 118, 41, 41, 41, 41, 41, 41, 32, 50, 41, 41]⟩, ⟨#[40, 108, 101, 116, 32, 107, 32, 40, 99, 97, 108, 108, 99, 99, 32, 40, 102, 110, 32, 40, 99, 41, 32, 99, 41, 41, 32, 40, 105, 102, 32, 40, 112, 97, 105, 114, 63, 32, 107, 41, 32, 40, 112, 114, 105, 110, 116, 32, 40, 99, 97, 114, 32, 107, 41, 41, 32, 40, 107, 32, 40, 113, 117, 111, 116, 101, 32, 40, 53, 41, 41, 41, 41, 41]⟩, ⟨#[40, 108, 101, 116, 32, 112, 32, 40, 115, 112, 97, 119, 110, 32, 40, 102, 110, 32, 40, 41, 32, 40, 100, 111, 32, 40, 103, 111, 32, 49, 41, 32, 40, 108, 101, 116, 32, 107, 32, 40, 114, 101, 99, 118, 41, 32, 40, 107, 32, 56, 41, 41, 41, 41, 41, 32, 40, 112, 114, 105, 110, 116, 32, 40, 99, 97, 108, 108, 99, 99, 32, 40, 102, 110, 32, 40, 107, 41, 32, 40, 100, 111, 32, 40, 115, 101, 110, 100, 32, 112, 32, 107, 41, 32, 51, 41, 41, 41, 41, 41]⟩]
set_option maxRecDepth 100000 in
theorem texts18_ok : ∀ s ∈ texts18, s.size ≤ 300 ∧ Hd s := by
  intro s hs
  simp only [texts18, List.mem_cons, List.not_mem_nil, or_false] at hs
  rcases hs with rfl | rfl | rfl | rfl | rfl | rfl | rfl | rfl | rfl | rfl | rfl | rfl | rfl | rfl | rfl | rfl | rfl | rfl <;> exact ⟨by decide, _, _, rfl, by decide⟩
set_option maxRecDepth 100000 in
set_option maxHeartbeats 3200000 in
theorem dtexts_any (w : World) : Calls Try.prog 114 #[] w fun e w' => e = .returned (.slice (some ⟨w.heap.size, 0, none⟩) 18 18) ∧ w' = w.alloc (Obj.cells (texts18.map Value.string).toArray 9) := by
  go_enter Try.func114, Try.ntmps114
  go_wp2_with fail
  go_ret
  exact ⟨rfl, rfl⟩
set_option maxRecDepth 100000 in
set_option maxHeartbeats 3200000 in
theorem dprog_any (w0 : World) (v : Value) (zs : List Int) (P : Nat) (w : World) (c : Cur w0 v zs w P) :
    Calls Try.prog 100 #[.pointer (some ⟨P, 0, none⟩)] w fun e w' => ∃ s : ByteArray, e = .returned (.string s) ∧ s.size ≤ 1500 ∧ Hd s ∧ Cur w0 v zs w' P ∧ w.grownBy w' (some P) := by
  go_enter Try.func100, Try.ntmps100
  go_wp2_with fail
  refine (once_any w0 v zs _ P 4 c (by omega)).mono ?_
  rintro e w1 ⟨b, rfl, c1, g1⟩
  have hP := c1.lt
  cases b with
  | false =>
    have hB1 : Below w1.heap.size w1 (w1.alloc (Obj.cells (texts18.map Value.string).toArray 9)) := (Below.refl _ _).alloc (Nat.le_refl _) _
    go_wp2_with fail
    refine (dtexts_any w1).mono ?_
    rintro e w2 ⟨rfl, hw2⟩
    have hst : ∀ i, i < texts18.length → w2.cell? ⟨w1.heap.size, i, none⟩ = some (.string (texts18.getD i ByteArray.empty)) := fun i hi => by rw [hw2]; exact strs_new w1 texts18 9 i hi
    have hb2 : Below w1.heap.size w1 w2 := by rw [hw2]; exact hB1
    have HST : Hid (∀ i, i < texts18.length → w2.cell? ⟨w1.heap.size, i, none⟩ = some (.string (texts18.getD i ByteArray.empty))) := hst
    clear hw2 hB1 hst
    go_wp2_with fail
    refine (picks_any w0 v zs _ P w1.heap.size 18 texts18 (c1.kept (hb2.mono (by omega))) (by omega) (by decide) (by decide) HST.out).mono ?_
    rintro e w3 ⟨s, hs, rfl, c3, g3⟩
    have hs10 := texts18_ok s hs
    have g3' := grown_trans g1 (draw_step hb2 g3)
    clear hs
    go_wp2_with fail
    go_ret
    exact ⟨s, rfl, by omega, hs10.2, c3, g3'⟩
  | true =>
    go_wp2_with fail
    refine (dexpr_any w0 v zs P 3 (by omega) 3 rfl (by omega) _ c1).mono ?_
    rintro e w3 ⟨s, rfl, hs, hh, c3, g3⟩
    have hB := eB_le (show 3 ≤ 3 by omega)
    have g3' := grown_trans g1 g3
    go_wp2_with fail
    go_ret
    exact ⟨s, rfl, by omega, hh, c3, g3'⟩
end Go.Proofs.Ytacbhbmjhlgflaa

/-
  The contract of spec.Compile. No condition beyond the pool's and the list's length.
-/
namespace Go.Proofs.Ytacbhbmjhlgflaa
open Go.RowKit

theorem results_code {P : Program} {fn : Func} {p u u' : Tmp} {ty : TypeId} (h : fn.results = #[.cell p ty, .tmp u, .tmp u']) (tmps : Array Value) (w : World) (g : Nat) (t : TypeId) (cs : Array Value) (fr : Nat × Nat) (d : TypeDesc)
    (hp : tmps.getD p undef = .pointer (some ⟨g, 0, none⟩)) (hg : w.heap[g]? = some (.cells cs t fr))
    (hu : P.underlying ty = some d) (hd : (match d with | .struct _ | .array _ _ => true | _ => false) = true) (hi : (P.info? ty).map (·.size) = some cs.size) :
    (results fn tmps).run P w = .ok (.tuple #[.agg cs, tmps.getD u undef, tmps.getD u' undef]) w := by
  have hp' : tmps[p]?.getD undef = .pointer (some ⟨g, 0, none⟩) := by simpa using hp
  simp [results, h, hp', asAddr, run_loadVar_row w g t ty cs fr d hg hu hd hi]
theorem Try.sizeCd : (Try.prog.info? 41).map (·.size) = some 3 := by kernel_rfl
/-- What an answer of Compile is. -/
def CompAns (w : World) (r : (List Nd × List In × List Df) × Int × Int) (e : Ending) (w' : World) : Prop :=
  ∃ v1 v2 v3 : Value, e = .returned (.tuple #[.agg #[v1, v2, v3], .int .i64 r.2.1, .int .i64 r.2.2]) ∧ w'.ownsRow w.heap.size 63 5 v1 r.1.1.length (ncs r.1.1) ∧ w'.ownsRow w.heap.size 115 4 v2 r.1.2.1.length (incs r.1.2.1) ∧ w'.ownsRow w.heap.size 60 3 v3 r.1.2.2.length (dfcs r.1.2.2) ∧ Below w.heap.size w w'
/-- A struct stored whole, and what stays. -/
theorem wpList_store_turn {P : Program} {ops : Array Oper} {rest : List Oper} {o : Oper} {a : Act} {w : World} {Q : Exit → Act → World → Prop} (hgd : o.guard = none) (ty : TypeId) (x y : Operand) (ho : o.op = .store ty x y)
    (g : Nat) (cells : Array Value) (hx : a.eval x = .pointer (some ⟨g, 0, none⟩)) (hy : a.eval y = .agg cells)
    (t : TypeId) (old : Array Value) (hg : w.heap[g]? = some (.cells old t (0, 0))) (hi : (P.info? ty).map (·.size) = some cells.size)
    (hold : old.size = cells.size) (h1 : cells.all (·.oneCell') = true)
    (h : ∀ w2 : World, w2.heap[g]? = some (.cells cells t (0, 0)) → w.grownBy w2 (some g) → wpList P ops Q rest (a.put o.dst undef) w2) : wpList P ops Q (o :: rest) a w :=
  wpList_store_row hgd ty x y ho g cells hx hy t old hg hi hold h1 (h _ (setRow_heap w g old _ t _ hg) ⟨rfl, rfl, rfl, by simp, fun k _ hk => setRow_other w g k _ (fun e => hk (by rw [e]))⟩)
theorem grown_set3 (W : World) (b : Nat) (x y z : Value) : W.grownBy (((W.setCell ⟨b, 0, none⟩ x).setCell ⟨b, 1, none⟩ y).setCell ⟨b, 2, none⟩ z) (some b) :=
  grown_trans (grown_trans (grown_set W b 0 x) (grown_set _ b 1 y)) (grown_set _ b 2 z)
theorem store3 {W : World} {b : Nat} {a a' a'' : Value} (h : W.heap[b]? = some (.cells #[a, a', a''] 41 (0, 0))) (x y z : Value) : (((W.setCell ⟨b, 0, none⟩ x).setCell ⟨b, 1, none⟩ y).setCell ⟨b, 2, none⟩ z).heap[b]? = some (.cells #[x, y, z] 41 (0, 0)) :=
  heap_setCell_same _ b 2 _ _ z (heap_setCell_same _ b 1 _ _ y (heap_setCell_same W b 0 _ _ x h))
theorem cells3 {W : World} {b : Nat} {a a' a'' : Value} (h : W.heap[b]? = some (.cells #[a, a', a''] 41 (0, 0))) : W.cell? ⟨b, 0, none⟩ = some a ∧ W.cell? ⟨b, 1, none⟩ = some a' ∧ W.cell? ⟨b, 2, none⟩ = some a'' ∧ W.frozen? ⟨b, 0, none⟩ = false ∧ W.frozen? ⟨b, 1, none⟩ = false ∧ W.frozen? ⟨b, 2, none⟩ = false :=
  ⟨cell_of_row W b 0 _ _ _ h, cell_of_row W b 1 _ _ _ h, cell_of_row W b 2 _ _ _ h, frozen_of_row W b 0 _ _ h, frozen_of_row W b 1 _ _ h, frozen_of_row W b 2 _ _ h⟩
theorem none_ans {w W W' : World} (hB : Below w.heap.size w W) (hg : W.grownBy W' (some (w.heap.size + 1))) (h p : Int) : CompAns w (([], [], []), h, p) (.returned (.tuple #[.agg #[.slice none 0 0, .slice none 0 0, .slice none 0 0], .int .i64 h, .int .i64 p])) W' :=
  ⟨_, _, _, rfl, ⟨rfl, .inl ⟨rfl, rfl⟩⟩, ⟨rfl, .inl ⟨rfl, rfl⟩⟩, ⟨rfl, .inl ⟨rfl, rfl⟩⟩, hB.grown hg hB.size (fun k hk => by simp at hk; omega)⟩

set_option maxRecDepth 100000 in
set_option maxHeartbeats 6400000 in
theorem scompile_any (v : Value) (xs : List Nd) (vl : Value) (l : List Int) (w : World) (R : NRow w v xs) (T : TRow w vl l) (hlen : l.length ≤ 1048576) (hxl : xs.length ≤ 4194304) :
    Calls Try.prog 101 #[.agg #[v], vl] w fun e w' => CompAns w (compR xs l) e w' := by
  obtain ⟨ao, cap, rfl⟩ := R.small
  obtain ⟨al, cl, rfl, hlc, hcm⟩ := T.form
  have hB0 : Below w.heap.size w ((w.alloc (Obj.cells #[.slice ao xs.length cap] 33)).alloc (Obj.cells #[.slice none 0 0, .slice none 0 0, .slice none 0 0] 41)) := ((Below.refl _ _).alloc (Nat.le_refl _) _).alloc (by simp) _
  have ha0 : ((w.alloc (Obj.cells #[.slice ao xs.length cap] 33)).alloc (Obj.cells #[.slice none 0 0, .slice none 0 0, .slice none 0 0] 41)).heap[w.heap.size]? = some (.cells #[.slice ao xs.length cap] 33 (0, 0)) := (heap_alloc_old _ _ (by simp)).trans (heap_alloc_new _ _)
  have hr0 : ((w.alloc (Obj.cells #[.slice ao xs.length cap] 33)).alloc (Obj.cells #[.slice none 0 0, .slice none 0 0, .slice none 0 0] 41)).heap[w.heap.size + 1]? = some (.cells #[.slice none 0 0, .slice none 0 0, .slice none 0 0] 41 (0, 0)) := heap_alloc2_new _ _ _
  go_enter Try.func101, Try.ntmps101
  go_wp2_with fail
  generalize (w.alloc (Obj.cells #[.slice ao xs.length cap] 33)).alloc (Obj.cells #[.slice none 0 0, .slice none 0 0, .slice none 0 0] 41) = w0 at *
  refine (spool_any _ xs _ (R.below hB0)).mono ?_
  rintro e w1 ⟨rfl, hb1⟩
  have hlt0 := (Array.getElem?_eq_some_iff.1 hr0).1
  have ha1 := (hb1.block _ (by omega)).trans ha0
  have hr1 := (hb1.block _ hlt0).trans hr0
  have hB1 := hB0.trans (hb1.mono hB0.size)
  cases hp : poolB xs with
  | false =>
    have HR : Hid (compR xs l = (([], [], []), 3, 0)) := by unfold Hid compR; rw [hp]; rfl
    obtain ⟨r0, r1, r2, z0, z1, z2⟩ := cells3 hr1
    have hS := store3 hr1 (.slice none 0 0) (.slice none 0 0) (.slice none 0 0)
    go_wp2_with fail
    exact bodyPost_ret (results_code rfl _ _ (w.heap.size + 1) 41 _ (0, 0) _ rfl hS Try.underlying41 rfl Try.sizeC) rfl (by rw [HR.out]; exact none_ans hB1 (grown_set3 _ _ _ _ _) _ _)
  | true =>
    have HT : Hid (TRow w1 (.slice al l.length cl) l) := T.below hB1
    have c1 : w1.cell? ⟨w.heap.size, 0, none⟩ = some (.slice ao xs.length cap) := cell_of_row w1 _ 0 _ _ _ ha1
    have R1 := R.below hB1
    have hlt1 := (Array.getElem?_eq_some_iff.1 hr1).1
    clear hb1 hr0 ha0 hB0 R T
    go_wp2_with fail
    go_loopw [7] (fun i wr => ∃ k : Nat, k ≤ l.length ∧ i = .int .i64 k ∧ Below w1.heap.size w1 wr ∧ Hid (allI xs l = (l.drop k).all (hasI xs))) (fun i _ => l.length - (intOf i).toNat)
    case atStart => exact ⟨0, by omega, rfl, Below.refl _ _, rfl⟩
    case round =>
      obtain ⟨k, hk, rfl, hbr, HA⟩ := hrel
      have hrr := (hbr.block _ hlt1).trans hr1
      have cr := (hbr.cell (p := ⟨w.heap.size, 0, none⟩) (show w.heap.size < w1.heap.size by omega)).trans c1
      have Rr := R1.below hbr
      have hBr := hB1.trans (hbr.mono hB1.size)
      by_cases hlt : k < l.length
      · obtain ⟨g, o, rfl, hg, hc⟩ := (HT.out.below hbr).cell k hlt
        obtain ⟨z, hz⟩ : ∃ z, Hid (l.getD k 0 = z) := ⟨_, rfl⟩
        rw [hz.out] at hc
        have HA2 : Hid (allI xs l = (hasI xs z && (l.drop (k + 1)).all (hasI xs))) := by unfold Hid; rw [HA.out, all_drop _ _ _ hlt, hz.out]
        have hlt' : (k : Int) < l.length := by omega
        have hltr : w.heap.size < wr.heap.size := by have := hbr.size; omega
        clear c1 HA
        go_wp2_with fail
        go_region_held (fun w' => w'.cell? ⟨w.heap.size, 0, none⟩ = some (.slice ao xs.length cap) ∧ w'.cell? ⟨g, o + k, none⟩ = some (.int .i64 z)) (first | exact ⟨s0, s1⟩ | go_keep) (first
          | (go_at_call 30; refine (shas_all _ xs z _ ?_).mono ?_; exact Rr.below (Below.refl _ _).drew; rintro e w2 ⟨rfl, hb2⟩; have hb02 : Below wr.heap.size wr w2 := (Below.refl _ _).drew.trans hb2; have s0 := (hb02.cell (p := ⟨w.heap.size, 0, none⟩) hltr).trans cr; have s1 := (hb02.cell (p := ⟨g, o + k, none⟩) hg).trans hc))
        have hb12 := hbr.trans (hb02.mono hbr.size)
        have hr2 := (hb12.block _ hlt1).trans hr1
        have hB2 := hB1.trans (hb12.mono hB1.size)
        clear s0 s1 cr hc hrr
        cases hh : hasI xs z with
        | false =>
          have HR : Hid (compR xs l = (([], [], []), 3, 0)) := by unfold Hid compR; rw [HA2.out, hh, hp]; rfl
          clear HA2
          obtain ⟨r0, r1, r2, z0, z1, z2⟩ := cells3 hr2
          have hS := store3 hr2 (.slice none 0 0) (.slice none 0 0) (.slice none 0 0)
          go_wp2_with fail
          exact bodyPost_ret (results_code rfl _ _ (w.heap.size + 1) 41 _ (0, 0) _ rfl hS Try.underlying41 rfl Try.sizeC) rfl (by rw [HR.out]; exact none_ans hB2 (grown_set3 _ _ _ _ _) _ _)
        | true =>
          have HA3 : Hid (allI xs l = (l.drop (k + 1)).all (hasI xs)) := by unfold Hid; rw [HA2.out, hh, Bool.true_and]
          clear HA2
          go_wp2_with fail
          go_roundw
          case rel => exact ⟨k + 1, by omega, by go_num, hb12, HA3⟩
          case measure => simp [intOf]; omega
      · have HA2 : Hid (allI xs l = true) := by unfold Hid; rw [HA.out, List.drop_eq_nil_of_le (by omega)]; rfl
        have hlt' : ¬ (k : Int) < l.length := by omega
        clear HA
        go_wp2_with fail
        refine (scopy_any _ xs _ Rr (by omega)).mono ?_
        rintro e w2 ⟨v2, rfl, ho2, hb2⟩
        obtain ⟨a2, q2, rfl⟩ := own_form ho2
        have hb12 := hbr.trans (hb2.mono hbr.size)
        have hr2 := (hb12.block _ hlt1).trans hr1
        have hB2 := hB1.trans (hb12.mono hB1.size)
        have hBM := (Array.getElem?_eq_some_iff.1 hr2).1
        have hB3 : Below w2.heap.size w2 (w2.alloc (Obj.cells #[.slice a2 xs.length q2, .slice none 0 0, .slice none 0 0, .int .i64 0] 160)) := (Below.refl _ _).alloc (Nat.le_refl _) _
        have K0 : Mk xs w2.heap.size 0 (w2.alloc (Obj.cells #[.slice a2 xs.length q2, .slice none 0 0, .slice none 0 0, .int .i64 0] 160)) ⟨[], [], 0⟩ :=
          ⟨_, _, _, [], [], heap_alloc_new _ _, own_mono (own_below ho2 hB3) (Nat.zero_le _), ⟨rfl, .inl ⟨rfl, rfl⟩⟩, ⟨rfl, .inl ⟨rfl, rfl⟩⟩, fun _ => ⟨rfl, rfl⟩, by simp, by simp⟩
        have cM : (w2.alloc (Obj.cells #[.slice a2 xs.length q2, .slice none 0 0, .slice none 0 0, .int .i64 0] 160)).cell? ⟨w2.heap.size, 0, none⟩ = some (.slice a2 xs.length q2) := cell_of_row _ _ 0 _ _ _ (heap_alloc_new w2 _)
        have bM : (w2.alloc (Obj.cells #[.slice a2 xs.length q2, .slice none 0 0, .slice none 0 0, .int .i64 0] 160)).heap[w2.heap.size]? = some (.cells #[.slice a2 xs.length q2, .slice none 0 0, .slice none 0 0, .int .i64 0] 160 (0, 0)) := heap_alloc_new w2 _
        have hb13 := hb12.trans (hB3.mono hb12.size)
        have HT3 : Hid (TRow (w2.alloc (Obj.cells #[.slice a2 xs.length q2, .slice none 0 0, .slice none 0 0, .int .i64 0] 160)) (.slice al l.length cl) l) := HT.out.below hb13
        have hr3 := (hB3.block _ hBM).trans hr2
        have hB3' := hB2.trans (hB3.mono hB2.size)
        have ho3 := own_mono (own_below ho2 hB3) (show w.heap.size ≤ wr.heap.size by have := hbr.size; omega)
        have HIn : Hid (∀ k, k < l.length → ∃ n : Nat, l.getD k 0 = n ∧ n < xs.length) := fun k hk => by
          have h1 := HA2.out
          unfold allI at h1
          rw [List.all_eq_true] at h1
          have h2 := h1 (l.getD k 0) (by rw [List.getD_eq_getElem?_getD, List.getElem?_eq_getElem hk]; exact List.getElem_mem _)
          simp only [hasI, Bool.and_eq_true, decide_eq_true_eq] at h2
          exact ⟨(l.getD k 0).toNat, by omega, by omega⟩
        have HCR : Hid (compR xs l = (if (ctops xs l 0 ⟨[], [], 0⟩).1.how = 0 then
      (if codeB xs (ctops xs l 0 ⟨[], [], 0⟩).1.list (ctops xs l 0 ⟨[], [], 0⟩).1.defs then ((xs, (ctops xs l 0 ⟨[], [], 0⟩).1.list, (ctops xs l 0 ⟨[], [], 0⟩).1.defs), 0, (l.length : Int)) else (([], [], []), 3, 0))
     else if (ctops xs l 0 ⟨[], [], 0⟩).1.how = 3 then (([], [], []), 3, 0) else (([], [], []), (ctops xs l 0 ⟨[], [], 0⟩).1.how, ((ctops xs l 0 ⟨[], [], 0⟩).2 : Int)))) := by
          unfold Hid compR
          rw [hp, HA2.out]
          rfl
        clear HA2 hb2 ho2 cr c1 hrr Rr hBr hb12 hr2 hB2 hb13 hbr
        go_wp2_with fail
        generalize w2.alloc (Obj.cells #[.slice a2 xs.length q2, .slice none 0 0, .slice none 0 0, .int .i64 0] 160) = w3 at *
        generalize w2.heap.size = M at *
        go_loopw [9] (fun i wr => ∃ (k : Nat) (sk : CS), k ≤ l.length ∧ i = .int .i64 k ∧ Mk xs M k wr sk ∧ CF M w3 wr ∧ Hid (sk.how = 0 ∧ Sm sk ∧ ctops xs l 0 ⟨[], [], 0⟩ = ctops xs (l.drop k) k sk)) (fun i _ => l.length - (intOf i).toNat)
        case atStart => exact ⟨0, ⟨[], [], 0⟩, by omega, rfl, K0, CF.refl _ _, ⟨rfl, ⟨by simp, by simp⟩, rfl⟩⟩
        case round =>
          obtain ⟨k, sk, hkl, rfl, kr, fr, HK⟩ := hrel
          have hrr := fr.keep _ _ _ _ hr3 (by omega) (by decide) (by decide)
          have hBr := hB3'.trans (fr.below.mono (by omega))
          by_cases hlt : k < l.length
          · obtain ⟨n, hn, hnl⟩ := HIn.out k hlt
            obtain ⟨g, o, rfl, hg, hc⟩ := (fr.trow' K0 HT3.out).cell k hlt
            rw [hn] at hc
            have hlt' : (k : Int) < l.length := by omega
            have HK2 : Hid (ctops xs l 0 ⟨[], [], 0⟩ = if (ctop xs n sk).how = 0 then ctops xs (l.drop (k + 1)) (k + 1) (ctop xs n sk) else (ctop xs n sk, k)) := by
              unfold Hid
              rw [HK.out.2.2, List.drop_eq_getElem_cons hlt, show l[k] = (n : Int) by rw [← hn, List.getD_eq_getElem?_getD, List.getElem?_eq_getElem hlt]; rfl, ctops]
            have HS2 : Hid (Sm (ctop xs n sk)) := ctop_sm xs (ndAt_s hp) n sk HK.out.2.1
            clear hn
            go_wp2_with fail
            refine (s4top_any xs hp M k (by omega) n hnl sk wr kr HK.out.1).mono ?_
            rintro r w4 ⟨rfl, k4, f4⟩
            generalize ctop xs n sk = s4 at *
            have fr4 := fr.trans f4
            have hr4 := fr4.keep _ _ _ _ hr3 (by omega) (by decide) (by decide)
            have hB4 := hB3'.trans (fr4.below.mono (by omega))
            have k4' := k4
            obtain ⟨pv, lv, dv, L, D, h4⟩ := k4
            have c43 := h4.cells.2.2.2.1
            clear hc HK
            by_cases h3 : s4.how = 3
            · have HR : Hid (compR xs l = (([], [], []), 3, 0)) := by
                unfold Hid
                rw [HCR.out, HK2.out, if_neg (by omega : ¬ s4.how = 0)]
                dsimp only
                rw [if_neg (by omega), if_pos h3]
              rw [h3] at c43
              clear HCR HK2
              obtain ⟨r0, r1, r2, z0, z1, z2⟩ := cells3 hr4
              have hS := store3 hr4 (.slice none 0 0) (.slice none 0 0) (.slice none 0 0)
              go_wp2_with fail
              exact bodyPost_ret (results_code rfl _ _ (w.heap.size + 1) 41 _ (0, 0) _ rfl hS Try.underlying41 rfl Try.sizeC) rfl (by rw [HR.out]; exact none_ans hB4 (grown_set3 _ _ _ _ _) _ _)
            · by_cases h0 : s4.how = 0
              · have HK3 : Hid (s4.how = 0 ∧ Sm s4 ∧ ctops xs l 0 ⟨[], [], 0⟩ = ctops xs (l.drop (k + 1)) (k + 1) s4) := ⟨h0, HS2.out, by rw [HK2.out, if_pos h0]⟩
                rw [h0] at c43
                clear HCR HK2
                go_wp2_with fail
                go_roundw
                case rel => exact ⟨k + 1, s4, by omega, by go_num, k4', fr4, HK3⟩
                case measure => simp [intOf]; omega
              · have HR : Hid (compR xs l = (([], [], []), s4.how, (k : Int))) := by
                  unfold Hid
                  rw [HCR.out, HK2.out, if_neg h0]
                  dsimp only
                  rw [if_neg h0, if_neg h3]
                have b3 : (s4.how == 3) = false := by simpa using h3
                have b0 : (s4.how == 0) = false := by simpa using h0
                obtain ⟨r0, r1, r2, z0, z1, z2⟩ := cells3 hr4
                have m1 : ¬ w.heap.size + 1 = M := by omega
                have m2 : ¬ M = w.heap.size + 1 := by omega
                clear HCR HK2
                go_wp2_with fail
                go_region_held (fun w' => w'.cell? ⟨M, 3, none⟩ = some (.int .i64 s4.how)) (go_keep) (fail)
                have hS := store3 hr4 (.slice none 0 0) (.slice none 0 0) (.slice none 0 0)
                go_wp2_with fail
                exact bodyPost_ret (results_code rfl _ _ (w.heap.size + 1) 41 _ (0, 0) _ rfl hS Try.underlying41 rfl Try.sizeC) rfl (by rw [HR.out]; exact none_ans hB4 (by have gg := grown_set3 w4 (w.heap.size + 1) (.slice none 0 0) (.slice none 0 0) (.slice none 0 0); exact ⟨gg.os, gg.tape, gg.output, gg.size, gg.block⟩) _ _)
          · have HK2 : Hid (ctops xs l 0 ⟨[], [], 0⟩ = (sk, k)) := by unfold Hid; rw [HK.out.2.2, List.drop_eq_nil_of_le (by omega)]; rfl
            have hlt' : ¬ (k : Int) < l.length := by omega
            obtain ⟨pv, lv, dv, L, D, h4⟩ := kr
            obtain ⟨rfl, rfl⟩ := h4.same HK.out.1
            obtain ⟨c0, c1, c2, _⟩ := h4.cells
            have hpv : pv = .slice a2 xs.length q2 := by
              have := c0.symm.trans (fr.first.trans cM)
              exact Option.some.inj this
            subst hpv
            obtain ⟨al2, ql2, rfl⟩ := own_form h4.list
            obtain ⟨ad2, qd2, rfl⟩ := own_form h4.defs
            have op := fr.own ho3 bM (by decide) (by decide) (by decide)
            have ol := own_mono h4.list (show w.heap.size ≤ M + 1 by omega)
            have od := own_mono h4.defs (show w.heap.size ≤ M + 1 by omega)
            have HSm : Hid (Sm sk) := HK.out.2.1
            have h0 := HK.out.1
            have hM := h4.lt
            have hL4 := h4.len
            have hD4 := h4.many
            clear HK h4
            go_wp2_with fail
            go_region_held (fun w' => w'.cell? ⟨M, 0, none⟩ = some (.slice a2 xs.length q2) ∧ w'.cell? ⟨M, 1, none⟩ = some (.slice al2 sk.list.length ql2) ∧ w'.cell? ⟨M, 2, none⟩ = some (.slice ad2 sk.defs.length qd2)) (go_keep) (fail)
            have hB5 : Below wr.heap.size wr (wr.alloc (Obj.cells #[.slice a2 xs.length q2, .slice al2 sk.list.length ql2, .slice ad2 sk.defs.length qd2] 41)).drew := ((Below.refl _ _).alloc (Nat.le_refl _) _).drew
            have hbx : (wr.alloc (Obj.cells #[.slice a2 xs.length q2, .slice al2 sk.list.length ql2, .slice ad2 sk.defs.length qd2] 41)).drew.heap[wr.heap.size]? = some (.cells #[.slice a2 xs.length q2, .slice al2 sk.list.length ql2, .slice ad2 sk.defs.length qd2] 41 (0, 0)) := heap_alloc_new wr _
            go_upto_region 18 with fail
            generalize (wr.alloc (Obj.cells #[.slice a2 xs.length q2, .slice al2 sk.list.length ql2, .slice ad2 sk.defs.length qd2] 41)).drew = w5 at hB5 hbx ⊢
            have hr5 := (hB5.block _ (Array.getElem?_eq_some_iff.1 hrr).1).trans hrr
            have op5 := own_below op hB5
            have ol5 := own_below ol hB5
            have od5 := own_below od hB5
            have hBB5 := hBr.trans (hB5.mono hBr.size)
            have HPS := pool_s2 hp
            obtain ⟨x0, x1, x2, _⟩ := cells3 hbx
            have hx5 := (Array.getElem?_eq_some_iff.1 hbx).1
            clear c0 c1 c2 op ol od hrr
            go_wp2_with fail
            refine (scodeok_any _ _ _ xs sk.list sk.defs _ (NRow.of_own op5 (by omega) HPS.2) (InRow.of_own ol5 (by omega) (fun x hx => Nat.le_trans (HSm.out.1 x hx) (by unfold maxLen; omega))) (DfRow.of_own od5 (by omega) (fun x hx => Nat.le_trans (HSm.out.2 x hx) (by unfold maxLen; omega)))).mono ?_
            rintro e w6 ⟨rfl, hb6⟩
            have hr6 := (hb6.block _ (Array.getElem?_eq_some_iff.1 hr5).1).trans hr5
            have hbx6 := (hb6.block _ hx5).trans hbx
            have op6 := own_below op5 hb6
            have ol6 := own_below ol5 hb6
            have od6 := own_below od5 hb6
            have hBB6 := hBB5.trans (hb6.mono hBB5.size)
            clear x0 x1 x2 op5 ol5 od5 hr5 hbx
            cases hcb : codeB xs sk.list sk.defs with
            | false =>
              have HR : Hid (compR xs l = (([], [], []), 3, 0)) := by
                unfold Hid
                rw [HCR.out, HK2.out]
                dsimp only
                rw [if_pos h0, hcb]
                rfl
              clear HCR HK2
              obtain ⟨r0, r1, r2, z0, z1, z2⟩ := cells3 hr6
              have hS := store3 hr6 (.slice none 0 0) (.slice none 0 0) (.slice none 0 0)
              go_wp2_with fail
              exact bodyPost_ret (results_code rfl _ _ (w.heap.size + 1) 41 _ (0, 0) _ rfl hS Try.underlying41 rfl Try.sizeC) rfl (by rw [HR.out]; exact none_ans hBB6 (grown_set3 _ _ _ _ _) _ _)
            | true =>
              have HR : Hid (compR xs l = ((xs, sk.list, sk.defs), 0, (l.length : Int))) := by
                unfold Hid
                rw [HCR.out, HK2.out]
                dsimp only
                rw [if_pos h0, hcb]
                rfl
              obtain ⟨r0, r1, r2, z0, z1, z2⟩ := cells3 hr6
              obtain ⟨x0, x1, x2, _⟩ := cells3 hbx6
              have hS := store3 hr6 (.slice a2 xs.length q2) (.slice al2 sk.list.length ql2) (.slice ad2 sk.defs.length qd2)
              have gg := grown_set3 w6 (w.heap.size + 1) (.slice a2 xs.length q2) (.slice al2 sk.list.length ql2) (.slice ad2 sk.defs.length qd2)
              have op7 := op6.kept gg (.inr (own_ne op6 hr6 (by decide)))
              have ol7 := ol6.kept gg (.inr (own_ne ol6 hr6 (by decide)))
              have od7 := od6.kept gg (.inr (own_ne od6 hr6 (by decide)))
              have hBB7 := hBB6.grown gg hBB6.size (fun k hk => by simp at hk; omega)
              clear HCR HK2
              go_wp2_with fail
              exact bodyPost_ret (results_code rfl _ _ (w.heap.size + 1) 41 _ (0, 0) _ rfl hS Try.underlying41 rfl Try.sizeC) rfl (by rw [HR.out]; exact ⟨_, _, _, rfl, op7, ol7, od7, hBB7⟩)
end Go.Proofs.Ytacbhbmjhlgflaa

/-
  What the text "(print 1)" is read as and compiled to: plain mathematics. Nothing of the program; no condition.
-/
namespace Go.Proofs.Ytacbhbmjhlgflaa
open Go.RowKit

def tF : ByteArray := ⟨#[40, 112, 114, 105, 110, 116, 32, 49, 41]⟩
def xsF : List Nd := [⟨4, 0, ⟨#[112, 114, 105, 110, 116]⟩, 0, 0⟩, ⟨3, 1, ByteArray.empty, 0, 0⟩, ⟨1, 0, ByteArray.empty, 0, 0⟩, ⟨5, 0, ByteArray.empty, 1, 2⟩, ⟨5, 0, ByteArray.empty, 0, 3⟩]
theorem num_print : numB [112, 114, 105, 110, 116] = false := by
  cases h : numB [112, 114, 105, 110, 116] with
  | false => rfl
  | true =>
    have hb := (numB_body h).1 112 (by decide)
    revert hb
    decide
theorem num_one : numB [49] = true := (numB_iff _).2 ⟨1, by omega, by kernel_rfl⟩
theorem word_print : wordNd ⟨#[112, 114, 105, 110, 116]⟩ = ⟨4, 0, ⟨#[112, 114, 105, 110, 116]⟩, 0, 0⟩ := by
  unfold wordNd
  rw [if_neg (by decide +kernel), if_neg (by decide +kernel), if_neg (by rw [show (ByteArray.mk #[112, 114, 105, 110, 116]).data.toList = [112, 114, 105, 110, 116] from rfl, num_print]; decide)]
theorem word_one : wordNd ⟨#[49]⟩ = ⟨3, 1, ByteArray.empty, 0, 0⟩ := by
  unfold wordNd
  rw [if_neg (by decide +kernel), if_neg (by decide +kernel), if_pos (by rw [show (ByteArray.mk #[49]).data.toList = [49] from rfl]; exact num_one)]
  rfl
theorem ok_print : wordOk ⟨#[112, 114, 105, 110, 116]⟩ = true := by
  unfold wordOk
  rw [show nameB ⟨#[112, 114, 105, 110, 116]⟩ = true by decide +kernel, Bool.or_true]
theorem ok_one : wordOk ⟨#[49]⟩ = true := by
  unfold wordOk
  rw [show (ByteArray.mk #[49]).data.toList = [49] from rfl, num_one]
  simp
theorem rd_fall : rd tF 0 0 ⟨[], [], 0, []⟩ = .ok ⟨xsF, [], 0, [4]⟩ := by
  rw [rd_mark (by decide) (by decide)]
  show rd tF 1 1 ⟨[], [(0, [])], 0, []⟩ = _
  rw [rd_skip 6 1 (by omega) (by decide) (by decide), rd_end (by omega) (by decide) (by decide)]
  unfold rdWord
  rw [show tF.extract 1 6 = ⟨#[112, 114, 105, 110, 116]⟩ by kernel_rfl, if_pos ok_print, word_print]
  show rd tF 6 6 ⟨[⟨4, 0, ⟨#[112, 114, 105, 110, 116]⟩, 0, 0⟩], [(0, [])], 0, [0]⟩ = _
  rw [rd_mark (by decide) (by decide)]
  show rd tF 7 7 ⟨[⟨4, 0, ⟨#[112, 114, 105, 110, 116]⟩, 0, 0⟩], [(0, [])], 0, [0]⟩ = _
  rw [rd_skip 8 7 (by omega) (by decide) (by decide), rd_end (by omega) (by decide) (by decide)]
  unfold rdWord
  rw [show tF.extract 7 8 = ⟨#[49]⟩ by kernel_rfl, if_pos ok_one, word_one]
  show rd tF 8 8 ⟨[⟨4, 0, ⟨#[112, 114, 105, 110, 116]⟩, 0, 0⟩, ⟨3, 1, ByteArray.empty, 0, 0⟩], [(0, [])], 0, [0, 1]⟩ = _
  rw [rd_mark (by decide) (by decide)]
  show rd tF 9 9 ⟨xsF, [], 0, [4]⟩ = _
  exact rd_done tF _
theorem readR_fall : readR [] tF = (xsF, [4], 0, 9) := by
  unfold readR
  rw [if_pos (by decide), if_pos (by decide), rd_fall]
  show (if poolB xsF = true then _ else _) = _
  rw [if_pos (by decide +kernel)]
  rfl
theorem compR_fall : (compR xsF [4]).2.1 = 0 := by decide +kernel
end Go.Proofs.Ytacbhbmjhlgflaa

/-
  The contract of spec.l4DrawRight: code that is right, and not empty, in rows of the call's own; nothing else is turned but the cursor. No condition.
-/
namespace Go.Proofs.Ytacbhbmjhlgflaa
open Go.RowKit

theorem NRow.none (w : World) : NRow w (.slice none 0 0) [] := ⟨Option.none, 0, rfl, by simp, by simp, by simp, fun h => absurd rfl h⟩
theorem Fits.wordQ {n f i : Nat} {s s1 : RS} {t : ByteArray} {a : Int} (F : Fits n f s) (hf : f ≤ i) (ht : t.size ≤ 1048576) (hs : t.size = 0 ∨ f < i) (e : Go.Proofs.Ytacbhbmjhlgflaa.wordQ t a s = .ok s1) : Fits n i s1 := by
  unfold Go.Proofs.Ytacbhbmjhlgflaa.wordQ at e
  split at e
  · cases e; exact F.mono hf
  split at e
  · cases e
    rename_i h0 _
    refine (F.word _ ?_).mono (by omega)
    exact Nat.le_trans (wordNd_size t) (by unfold maxLen; omega)
  · cases e
theorem rd_fits4 {t : ByteArray} (n f i : Nat) (s s' : RS) (h4 : t.size ≤ 400) (hf : f ≤ i) (hi : i ≤ t.size) (h : Fits n f s) (e : rd t f i s = .ok s') : Fits n t.size s' := by
  induction hk : t.size - i generalizing f i s with
  | zero =>
    have hie : i = t.size := by omega
    subst hie
    rw [rd_stop2 hf] at e
    exact h.wordQ hf (by rw [ByteArray.size_extract]; omega) (by rw [ByteArray.size_extract]; omega) e
  | succ k ih =>
    have hlt : i < t.size := by omega
    cases hw : wb (t[i].toNat : Int) with
    | true =>
      rw [rd_in hlt hw] at e
      exact ih f (i + 1) s (by omega) (by omega) h e (by omega)
    | false =>
      rw [rd_at2 hlt hw hf] at e
      cases h1 : wordQ (t.extract f i) f s with
      | bad a b => rw [h1] at e; cases e
      | ok s1 =>
        rw [h1] at e
        change ((rdMark (t[i].toNat : Int) i s1).andThen fun s2 => rd t (i + 1) (i + 1) s2) = _ at e
        cases h2 : rdMark (t[i].toNat : Int) i s1 with
        | bad a b => rw [h2] at e; cases e
        | ok s2 =>
          rw [h2] at e
          have F1 : Fits n i s1 := h.wordQ hf (by rw [ByteArray.size_extract]; omega) (by rw [ByteArray.size_extract]; omega) h1
          exact ih (i + 1) (i + 1) s2 (Nat.le_refl _) (by omega) (F1.mark (by omega) h2) e (by omega)
theorem readR_len (t : ByteArray) : (readR [] t).2.1.length ≤ 400 := by
  unfold readR
  split
  · split
    · rename_i h4
      cases hr : rd t 0 0 ⟨[], [], 0, []⟩ with
      | bad h p => simp
      | ok s =>
        have F := rd_fits4 0 0 0 _ s h4 (Nat.le_refl _) (Nat.zero_le _) ⟨by simp, by simp, by simp, by simp, by simp⟩ hr
        have f2 := F.vs
        simp only
        split
        · split
          · simp only; omega
          · simp
        · simp
    · simp
  · simp
theorem readR_pool (t : ByteArray) : poolB (readR [] t).1 = true := by
  unfold readR
  split
  · split
    · cases hr : rd t 0 0 ⟨[], [], 0, []⟩ with
      | bad h p => rfl
      | ok s =>
        simp only
        split
        · split
          · assumption
          · rfl
        · rfl
    · rfl
  · rfl
theorem poolB_sz {xs : List Nd} (h : poolB xs = true) : ∀ x ∈ xs, x.s.size ≤ maxLen := by
  intro x hx
  obtain ⟨i, hi, e⟩ := List.mem_iff_getElem.1 hx
  have h1 := ndAt_s h (i : Int)
  have h2 : ndAt xs (i : Int) = x := ndAt_some (by rw [List.getElem?_eq_getElem hi, e])
  rw [h2] at h1
  unfold maxLen
  omega
theorem compR_good {xs : List Nd} {l : List Int} (h : (compR xs l).2.1 = 0) (hl : l ≠ []) : codeB (compR xs l).1.1 (compR xs l).1.2.1 (compR xs l).1.2.2 = true ∧ (compR xs l).1.2.1 ≠ [] := by
  unfold compR at h ⊢
  split
  · rename_i h1
    rw [if_pos h1] at h
    split
    · rename_i h2
      rw [if_pos h2] at h
      split
      · rename_i h3
        refine ⟨h3, ?_⟩
        cases l with
        | nil => exact absurd rfl hl
        | cons v l =>
          have := ctops_ne xs v l 0 _ h2
          intro e
          simp only at e
          rw [e] at this
          simp at this
      · rename_i h3
        rw [if_neg h3] at h
        simp at h
    · rename_i h2
      rw [if_neg h2] at h
      split
      · rename_i h3; rw [if_pos h3] at h; simp at h
      · rename_i h3; rw [if_neg h3] at h; exact absurd h h2
  · rename_i h1
    rw [if_neg h1] at h
    simp at h

/-- Code of the call's own: its three rows. -/
def Own3 (w : World) (B : Nat) (v1 v2 v3 : Value) (ns : List Nd) (is : List In) (ds : List Df) : Prop :=
  w.ownsRow B 63 5 v1 ns.length (ncs ns) ∧ w.ownsRow B 115 4 v2 is.length (incs is) ∧ w.ownsRow B 60 3 v3 ds.length (dfcs ds)

theorem Own3.below {w w' : World} {B : Nat} {v1 v2 v3 : Value} {ns : List Nd} {is : List In} {ds : List Df} (h : Own3 w B v1 v2 v3 ns is ds) (hb : Below w.heap.size w w') : Own3 w' B v1 v2 v3 ns is ds := ⟨own_below h.1 hb, own_below h.2.1 hb, own_below h.2.2 hb⟩
theorem Own3.mono {w : World} {B B' : Nat} {v1 v2 v3 : Value} {ns : List Nd} {is : List In} {ds : List Df} (h : Own3 w B v1 v2 v3 ns is ds) (hb : B' ≤ B) : Own3 w B' v1 v2 v3 ns is ds := ⟨own_mono h.1 hb, own_mono h.2.1 hb, own_mono h.2.2 hb⟩
theorem own3_put {w0 w W : World} {B b P : Nat} {v v1 v2 v3 u1 u2 u3 x1 x2 x3 : Value} {zs : List Int} {ns : List Nd} {is : List In} {ds : List Df} (hr : W.heap[b]? = some (.cells #[x1, x2, x3] 41 (0, 0))) (o : Own3 W B v1 v2 v3 ns is ds) (c : Cur w0 v zs W P) (hg : w.grownBy W (some P)) (hP : P < w.heap.size) (hb : w.heap.size ≤ b) :
    let W' := ((W.setCell ⟨b, 0, none⟩ u1).setCell ⟨b, 1, none⟩ u2).setCell ⟨b, 2, none⟩ u3
    W'.heap[b]? = some (.cells #[u1, u2, u3] 41 (0, 0)) ∧ Own3 W' B v1 v2 v3 ns is ds ∧ Cur w0 v zs W' P ∧ w.grownBy W' (some P) := by
  have n1 := own_ne o.1 hr (by decide)
  have n2 := own_ne o.2.1 hr (by decide)
  have n3 := own_ne o.2.2 hr (by decide)
  have hB : Below w.heap.size W (((W.setCell ⟨b, 0, none⟩ u1).setCell ⟨b, 1, none⟩ u2).setCell ⟨b, 2, none⟩ u3) := (((Below.refl _ _).setCell (p := ⟨b, 0, none⟩) hb u1).setCell (p := ⟨b, 1, none⟩) hb u2).setCell (p := ⟨b, 2, none⟩) hb u3
  obtain ⟨c', g'⟩ := draw_done c hg hB hP
  exact ⟨store3 hr u1 u2 u3, ⟨ownsRow_setCell_other (ownsRow_setCell_other (ownsRow_setCell_other o.1 (a := ⟨b, 0, none⟩) n1 u1) (a := ⟨b, 1, none⟩) n1 u2) (a := ⟨b, 2, none⟩) n1 u3, ownsRow_setCell_other (ownsRow_setCell_other (ownsRow_setCell_other o.2.1 (a := ⟨b, 0, none⟩) n2 u1) (a := ⟨b, 1, none⟩) n2 u2) (a := ⟨b, 2, none⟩) n2 u3, ownsRow_setCell_other (ownsRow_setCell_other (ownsRow_setCell_other o.2.2 (a := ⟨b, 0, none⟩) n3 u1) (a := ⟨b, 1, none⟩) n3 u2) (a := ⟨b, 2, none⟩) n3 u3⟩, c', g'⟩

set_option maxRecDepth 100000 in
set_option maxHeartbeats 6400000 in
theorem d4right_any (w0 : World) (v : Value) (zs : List Int) (P : Nat) (w : World) (c : Cur w0 v zs w P) :
    Calls Try.prog 85 #[.pointer (some ⟨P, 0, none⟩)] w fun e w' => ∃ v1 v2 v3 ns is ds, e = .returned (.agg #[v1, v2, v3]) ∧ codeB ns is ds = true ∧ is ≠ [] ∧ Own3 w' w.heap.size v1 v2 v3 ns is ds ∧ Cur w0 v zs w' P ∧ w.grownBy w' (some P) := by
  have hP := c.lt
  have hB0 : Below w.heap.size w (w.alloc (Obj.cells #[.slice none 0 0, .slice none 0 0, .slice none 0 0] 41)) := (Below.refl _ _).alloc (Nat.le_refl _) _
  have c0 := c.kept (hB0.mono (show P + 1 ≤ w.heap.size by omega))
  have hr0 := heap_alloc_new w (Obj.cells #[.slice none 0 0, .slice none 0 0, .slice none 0 0] 41)
  have g0 : w.grownBy (w.alloc (Obj.cells #[.slice none 0 0, .slice none 0 0, .slice none 0 0] 41)) (some P) := World.grownBy_alloc _ _ _
  go_enter Try.func85, Try.ntmps85
  go_wp2_with fail
  generalize w.alloc (Obj.cells #[.slice none 0 0, .slice none 0 0, .slice none 0 0] 41) = w1 at *
  go_loopw [3] (fun i wr => ∃ k : Nat, k ≤ 4 ∧ i = .int .i64 k ∧ wr.heap[w.heap.size]? = some (.cells #[.slice none 0 0, .slice none 0 0, .slice none 0 0] 41 (0, 0)) ∧ Cur w0 v zs wr P ∧ w.grownBy wr (some P)) (fun i _ => 4 - (intOf i).toNat)
  case atStart => exact ⟨0, by omega, rfl, hr0, c0, g0⟩
  case round =>
    clear hr0 c0 g0 hB0
    obtain ⟨k, hk, rfl, hr, cc, gg⟩ := hrel
    by_cases hlt : k < 4
    · have hlt' : (k : Int) < 4 := by omega
      go_wp2_with fail
      refine (dprog_any w0 v zs P wr cc).mono ?_
      rintro e w3 ⟨s, rfl, hs, hd, c3, g3⟩
      have hr3 := (g3.block _ (Array.getElem?_eq_some_iff.1 hr).1 (by simp; omega)).trans hr
      have gg3 := grown_trans gg g3
      clear hr cc gg g3
      go_wp2_with fail
      refine (sread_any (.slice none 0 0) [] s w3 (NRow.none _) (by unfold maxLen; omega)).mono ?_
      rintro e w4 ⟨vp, vl, rfl, hop, hol, hb4⟩
      have hpool := readR_pool s
      have hlen := readR_len s
      have hne := readR_some [] s hd.notBlank
      generalize readR [] s = r at *
      obtain ⟨xs, ls, how, pl⟩ := r
      simp only at hpool hlen hne hop hol
      obtain ⟨a4, q4, rfl⟩ := own_form hop
      obtain ⟨a5, q5, rfl⟩ := own_form hol
      have hP3 := c3.lt
      have hsw : w.heap.size ≤ w3.heap.size := gg3.size
      obtain ⟨c4, g4⟩ := draw_done c3 gg3 (hb4.mono hsw) hP
      have hr4 := (hb4.block _ (Array.getElem?_eq_some_iff.1 hr3).1).trans hr3
      clear hr3 c3 gg3 hd hs
      have hs4 := hb4.size
      have hBa : Below w4.heap.size w4 (w4.alloc (Obj.cells #[.slice a4 xs.length q4] 33)) := (Below.refl _ _).alloc (Nat.le_refl _) _
      go_wp2_with fail
      generalize w4.alloc (Obj.cells #[.slice a4 xs.length q4] 33) = w5 at *
      have R5 := NRow.of_own (own_below hop hBa) (by have := poolB_len hpool; omega) (poolB_sz hpool)
      have T5 := TRow.of_own (own_below hol hBa)
      refine (scompile_any _ xs _ ls _ R5 T5 (by omega) (by have := poolB_len hpool; omega)).mono ?_
      rintro e w6 ⟨v1, v2, v3, rfl, o1, o2, o3, hb6⟩
      have hgood := @compR_good xs ls
      generalize compR xs ls = cr at *
      obtain ⟨⟨ns, is, ds⟩, fine, cp⟩ := cr
      simp only at hgood o1 o2 o3
      obtain ⟨a1, q1, rfl⟩ := own_form o1
      obtain ⟨a2, q2, rfl⟩ := own_form o2
      obtain ⟨a3, q3, rfl⟩ := own_form o3
      have hb46 := hBa.trans (hb6.mono hBa.size)
      obtain ⟨c6, g6⟩ := draw_done c4 g4 (hb46.mono (by omega)) hP
      have hr6 := (hb46.block _ (Array.getElem?_eq_some_iff.1 hr4).1).trans hr4
      have hs5 := hBa.size
      have hs6 := hb6.size
      clear hr4 c4 g4 hBa R5 T5 hop hol
      have hBc : Below w6.heap.size w6 (w6.alloc (Obj.cells #[.slice a1 ns.length q1, .slice a2 is.length q2, .slice a3 ds.length q3] 41)) := (Below.refl _ _).alloc (Nat.le_refl _) _
      have hcn := heap_alloc_new w6 (Obj.cells #[.slice a1 ns.length q1, .slice a2 is.length q2, .slice a3 ds.length q3] 41)
      have hr7 := (hBc.block _ (Array.getElem?_eq_some_iff.1 hr6).1).trans hr6
      obtain ⟨c7, g7⟩ := draw_done c6 g6 (hBc.mono (show w.heap.size ≤ w6.heap.size by omega)) hP
      have O7 := (Own3.below ⟨o1, o2, o3⟩ hBc).mono (show w.heap.size ≤ w5.heap.size by omega)
      clear o1 o2 o3 c6 g6 hr6 hBc hb46 hb4 hb6
      by_cases hh : how = 0
      · subst hh
        by_cases hf : fine = 0
        · subst hf
          obtain ⟨hcb, hin⟩ := hgood rfl (hne rfl)
          obtain ⟨r0, r1, r2, z0, z1, z2⟩ := cells3 hr7
          obtain ⟨y0, y1, y2, _, _, _⟩ := cells3 hcn
          go_wp2_with fail
          generalize w6.alloc (Obj.cells #[.slice a1 ns.length q1, .slice a2 is.length q2, .slice a3 ds.length q3] 41) = w7 at *
          obtain ⟨h8, O8, c8, g8⟩ := own3_put (u1 := .slice a1 ns.length q1) (u2 := .slice a2 is.length q2) (u3 := .slice a3 ds.length q3) hr7 O7 c7 g7 hP (Nat.le_refl _)
          exact bodyPost_ret (results_cell_row rfl _ _ w.heap.size 41 _ (0, 0) _ rfl h8 Try.underlying41 rfl Try.sizeC) rfl ⟨_, _, _, ns, is, ds, rfl, hcb, hin, O8, c8, g8⟩
        · go_wp2_with fail
          generalize w6.alloc (Obj.cells #[.slice a1 ns.length q1, .slice a2 is.length q2, .slice a3 ds.length q3] 41) = w7 at *
          go_roundw
          case rel => exact ⟨k + 1, by omega, by go_num, hr7, c7, g7⟩
          case measure => simp [intOf]; omega
      · go_wp2_with fail
        generalize w6.alloc (Obj.cells #[.slice a1 ns.length q1, .slice a2 is.length q2, .slice a3 ds.length q3] 41) = w7 at *
        go_roundw
        case rel => exact ⟨k + 1, by omega, by go_num, hr7, c7, g7⟩
        case measure => simp [intOf]; omega
    · have hlt' : ¬ (k : Int) < 4 := by omega
      have hSR := sread_any (.slice none 0 0) [] tF wr (NRow.none _) (by decide)
      rw [readR_fall] at hSR
      go_wp2_with fail
      refine hSR.mono ?_
      rintro e w4 ⟨vp, vl, rfl, hop, hol, hb4⟩
      obtain ⟨xs, hxs⟩ : ∃ xs, Hid (xsF = xs) := ⟨_, rfl⟩
      obtain ⟨ls, hls⟩ : ∃ ls : List Int, Hid ([4] = ls) := ⟨_, rfl⟩
      have hpool : poolB xs = true := by rw [← hxs.out]; decide +kernel
      have hlen : ls.length ≤ 400 := by rw [← hls.out]; decide
      have hcr := compR_fall
      have hgood := @compR_good xsF [4] compR_fall (by simp)
      simp only [hxs.out, hls.out] at hop hol hcr hgood
      obtain ⟨a4, q4, rfl⟩ := own_form hop
      obtain ⟨a5, q5, rfl⟩ := own_form hol
      have hsw : w.heap.size ≤ wr.heap.size := gg.size
      obtain ⟨c4, g4⟩ := draw_done cc gg (hb4.mono hsw) hP
      have hr4 := (hb4.block _ (Array.getElem?_eq_some_iff.1 hr).1).trans hr
      clear hr cc gg hSR
      have hs4 := hb4.size
      have hBa : Below w4.heap.size w4 (w4.alloc (Obj.cells #[.slice a4 xs.length q4] 33)) := (Below.refl _ _).alloc (Nat.le_refl _) _
      go_wp2_with fail
      generalize w4.alloc (Obj.cells #[.slice a4 xs.length q4] 33) = w5 at *
      have R5 := NRow.of_own (own_below hop hBa) (by have := poolB_len hpool; omega) (poolB_sz hpool)
      have T5 := TRow.of_own (own_below hol hBa)
      refine (scompile_any _ xs _ ls _ R5 T5 (by omega) (by have := poolB_len hpool; omega)).mono ?_
      rintro e w6 ⟨v1, v2, v3, rfl, o1, o2, o3, hb6⟩
      generalize compR xs ls = cr at *
      obtain ⟨⟨ns, is, ds⟩, fine, cp⟩ := cr
      simp only at hgood o1 o2 o3
      obtain ⟨a1, q1, rfl⟩ := own_form o1
      obtain ⟨a2, q2, rfl⟩ := own_form o2
      obtain ⟨a3, q3, rfl⟩ := own_form o3
      have hb46 := hBa.trans (hb6.mono hBa.size)
      obtain ⟨c6, g6⟩ := draw_done c4 g4 (hb46.mono (by omega)) hP
      have hr6 := (hb46.block _ (Array.getElem?_eq_some_iff.1 hr4).1).trans hr4
      have hs5 := hBa.size
      have hs6 := hb6.size
      clear hr4 c4 g4 hBa R5 T5 hop hol
      have hBc : Below w6.heap.size w6 (w6.alloc (Obj.cells #[.slice a1 ns.length q1, .slice a2 is.length q2, .slice a3 ds.length q3] 41)) := (Below.refl _ _).alloc (Nat.le_refl _) _
      have hcn := heap_alloc_new w6 (Obj.cells #[.slice a1 ns.length q1, .slice a2 is.length q2, .slice a3 ds.length q3] 41)
      have hr7 := (hBc.block _ (Array.getElem?_eq_some_iff.1 hr6).1).trans hr6
      obtain ⟨c7, g7⟩ := draw_done c6 g6 (hBc.mono (show w.heap.size ≤ w6.heap.size by omega)) hP
      have O7 := (Own3.below ⟨o1, o2, o3⟩ hBc).mono (show w.heap.size ≤ w5.heap.size by omega)
      clear o1 o2 o3 c6 g6 hr6 hBc hb46 hb4 hb6
      obtain ⟨hcb, hin⟩ := hgood
      obtain ⟨r0, r1, r2, z0, z1, z2⟩ := cells3 hr7
      obtain ⟨y0, y1, y2, _, _, _⟩ := cells3 hcn
      go_wp2_with fail
      generalize w6.alloc (Obj.cells #[.slice a1 ns.length q1, .slice a2 is.length q2, .slice a3 ds.length q3] 41) = w7 at *
      obtain ⟨h8, O8, c8, g8⟩ := own3_put (u1 := .slice a1 ns.length q1) (u2 := .slice a2 is.length q2) (u3 := .slice a3 ds.length q3) hr7 O7 c7 g7 hP (Nat.le_refl _)
      exact bodyPost_ret (results_cell_row rfl _ _ w.heap.size 41 _ (0, 0) _ rfl h8 Try.underlying41 rfl Try.sizeC) rfl ⟨_, _, _, ns, is, ds, rfl, hcb, hin, O8, c8, g8⟩
end Go.Proofs.Ytacbhbmjhlgflaa

/-
  Contract of the draws' l2Spoil: some node, and nothing turned but the cursor.
-/
namespace Go.Proofs.Ytacbhbmjhlgflaa
open Go.RowKit

def picksI : List Int := [-1, 2, 99, 100, 1000000000, 1000000001, -1000000000, -1000000001]
def picksS : List ByteArray := [⟨#[]⟩, ⟨#[97]⟩, ⟨#[65, 98]⟩, ⟨#[97, 98, 99, 100, 101, 102, 103, 104, 105, 106, 107, 108]⟩, ⟨#[97, 98, 99, 100, 101, 102, 103, 104, 105, 106, 107, 108, 109]⟩, ⟨#[97, 49]⟩]
theorem picksS_size : ∀ s ∈ picksS, s.size ≤ 40 := by decide
theorem nd_cells {w : World} {B : Nat} {y : Nd} (h : w.heap[B]? = some (ndO y)) : w.cell? ⟨B, 0, none⟩ = some (.int .i64 y.k) ∧ w.cell? ⟨B, 1, none⟩ = some (.int .i64 y.n) ∧ w.cell? ⟨B, 2, none⟩ = some (.string y.s) ∧ w.cell? ⟨B, 3, none⟩ = some (.int .i64 y.a) ∧ w.cell? ⟨B, 4, none⟩ = some (.int .i64 y.b) := by
  have hc : ∀ j, w.cell? ⟨B, j, none⟩ = #[Value.int .i64 y.k, .int .i64 y.n, .string y.s, .int .i64 y.a, .int .i64 y.b][j]? := fun j => cell_of_row w _ j _ _ _ h
  exact ⟨hc 0, hc 1, hc 2, hc 3, hc 4⟩
theorem nd_free {w : World} {B : Nat} {y : Nd} (h : w.heap[B]? = some (ndO y)) (j : Nat) : w.frozen? ⟨B, j, none⟩ = false := frozen_of_row w _ j _ _ h
theorem blk_ne {w : World} {B : Nat} {o : Obj} {v : Value} {j : Nat} {D : Nat} (h : w.heap[B]? = some o) (hne : D ≠ B) : (w.setCell ⟨D, j, none⟩ v).heap[B]? = some o := (heap_setCell_other w ⟨D, j, none⟩ B v (fun e => hne e.symm)).trans h

set_option maxHeartbeats 1600000 in
theorem dspoil_any (w0 : World) (v : Value) (zs : List Int) (w : World) (P : Nat) (x : Nd) (c : Cur w0 v zs w P) (hx : x.s.size ≤ 40) :
    Calls Try.prog 87 #[.pointer (some ⟨P, 0, none⟩), ndV x] w fun e w' => ∃ y : Nd, e = .returned (ndV y) ∧ y.s.size ≤ 40 ∧ Cur w0 v zs w' P ∧ w.grownBy w' (some P) := by
  have hP := c.lt
  have hB0 : Below w.heap.size w ((w.alloc (ndO x)).alloc (ndO zeroN)) := ((Below.refl _ _).alloc (Nat.le_refl _) _).alloc (by simp) _
  have c0 := c.kept (hB0.mono (show P + 1 ≤ w.heap.size by omega))
  rw [ndV]
  go_enter Try.func87, Try.ntmps87
  go_wp2_with fail
  refine (below_any w0 v zs _ P 8 c0 (by omega)).mono ?_
  rintro e w1 ⟨r, rfl, hr0, hr1, c1, g1⟩
  have hr := hr1 (by omega)
  have hb1 : w1.heap[w.heap.size]? = some (ndO x) := (g1.block _ (by simp; omega) (by simp; omega)).trans ((heap_alloc_old _ _ (by simp)).trans (heap_alloc_new _ _))
  have hd1 : w1.heap[w.heap.size + 1]? = some (ndO zeroN) := (g1.block _ (by simp) (by simp; omega)).trans (heap_alloc2_new _ _ _)
  have g1' := draw_step hB0 g1
  have hs1 := (Array.getElem?_eq_some_iff.1 hd1).1
  clear hB0 g1 hr1 c0
  by_cases h0 : r = 0
  · subst h0
    go_wp2_with fail
    refine (below_any w0 v zs _ P 11 c1 (by omega)).mono ?_
    rintro e w2 ⟨q, rfl, hq0, hq1, c2, g2⟩
    have hq := hq1 (by omega)
    have hb2 := (g2.block _ (Array.getElem?_eq_some_iff.1 hb1).1 (by simp; omega)).trans hb1
    have hd2 := (g2.block _ hs1 (by simp; omega)).trans hd1
    have g2' := grown_trans g1' g2
    obtain ⟨d0, d1, d2, d3, d4⟩ := nd_cells hb2
    have f0 := nd_free hb2 0
    clear g2 hq1
    go_wp2_with (refine wpList_store_nd rfl _ _ rfl (w.heap.size + 1) (⟨q, x.n, x.s, x.a, x.b⟩) rfl rfl zeroN (blk_ne (j := 0) (v := .int .i64 (q)) hd2 (by omega : w.heap.size ≠ w.heap.size + 1)) ?_)
    intro w5 h5 b5 hs5
    obtain ⟨c6, g6⟩ := draw_done c2 g2' (((Below.refl _ _).setCell (p := ⟨w.heap.size, 0, none⟩) (Nat.le_refl _) _).trans (b5.mono (Nat.le_succ _))) hP
    go_wp2_with fail
    exact bodyPost_ret (results_cell_row rfl _ _ (w.heap.size + 1) 63 _ (0, 0) _ rfl h5 Try.underlying63 rfl Try.sizeN) rfl ⟨_, rfl, hx, c6, g6⟩
  by_cases h1 : r = 1
  · subst h1
    go_wp2_with fail
    refine (below_any w0 v zs _ P 20 c1 (by omega)).mono ?_
    rintro e w2 ⟨q, rfl, hq0, hq1, c2, g2⟩
    have hq := hq1 (by omega)
    have hb2 := (g2.block _ (Array.getElem?_eq_some_iff.1 hb1).1 (by simp; omega)).trans hb1
    have hd2 := (g2.block _ hs1 (by simp; omega)).trans hd1
    have g2' := grown_trans g1' g2
    obtain ⟨d0, d1, d2, d3, d4⟩ := nd_cells hb2
    have f0 := nd_free hb2 3
    clear g2 hq1
    go_wp2_with (refine wpList_store_nd rfl _ _ rfl (w.heap.size + 1) (⟨x.k, x.n, x.s, q - 1, x.b⟩) rfl rfl zeroN (blk_ne (j := 3) (v := .int .i64 (q - 1)) hd2 (by omega : w.heap.size ≠ w.heap.size + 1)) ?_)
    intro w5 h5 b5 hs5
    obtain ⟨c6, g6⟩ := draw_done c2 g2' (((Below.refl _ _).setCell (p := ⟨w.heap.size, 3, none⟩) (Nat.le_refl _) _).trans (b5.mono (Nat.le_succ _))) hP
    go_wp2_with fail
    exact bodyPost_ret (results_cell_row rfl _ _ (w.heap.size + 1) 63 _ (0, 0) _ rfl h5 Try.underlying63 rfl Try.sizeN) rfl ⟨_, rfl, hx, c6, g6⟩
  by_cases h2 : r = 2
  · subst h2
    go_wp2_with fail
    refine (below_any w0 v zs _ P 20 c1 (by omega)).mono ?_
    rintro e w2 ⟨q, rfl, hq0, hq1, c2, g2⟩
    have hq := hq1 (by omega)
    have hb2 := (g2.block _ (Array.getElem?_eq_some_iff.1 hb1).1 (by simp; omega)).trans hb1
    have hd2 := (g2.block _ hs1 (by simp; omega)).trans hd1
    have g2' := grown_trans g1' g2
    obtain ⟨d0, d1, d2, d3, d4⟩ := nd_cells hb2
    have f0 := nd_free hb2 4
    clear g2 hq1
    go_wp2_with (refine wpList_store_nd rfl _ _ rfl (w.heap.size + 1) (⟨x.k, x.n, x.s, x.a, q - 1⟩) rfl rfl zeroN (blk_ne (j := 4) (v := .int .i64 (q - 1)) hd2 (by omega : w.heap.size ≠ w.heap.size + 1)) ?_)
    intro w5 h5 b5 hs5
    obtain ⟨c6, g6⟩ := draw_done c2 g2' (((Below.refl _ _).setCell (p := ⟨w.heap.size, 4, none⟩) (Nat.le_refl _) _).trans (b5.mono (Nat.le_succ _))) hP
    go_wp2_with fail
    exact bodyPost_ret (results_cell_row rfl _ _ (w.heap.size + 1) 63 _ (0, 0) _ rfl h5 Try.underlying63 rfl Try.sizeN) rfl ⟨_, rfl, hx, c6, g6⟩
  by_cases h3 : r = 3
  · subst h3
    have hB1 : Below w1.heap.size w1 (w1.alloc (Obj.cells (picksI.map (Value.int .i64)).toArray 3)) := (Below.refl _ _).alloc (Nat.le_refl _) _
    have hc1 := c1.lt
    go_wp2_with fail
    refine (pick_any w0 v zs _ P w1.heap.size 8 picksI (c1.kept (hB1.mono (by omega))) (by omega) (by decide) (by decide) (by decide) (fun i hi => ints_new w1 picksI 3 i hi)).mono ?_
    rintro e w2 ⟨q, rfl, hq0, hq1, c2, g2⟩
    have hb2 := (g2.block _ (by have := (Array.getElem?_eq_some_iff.1 hb1).1; simp; omega) (by simp; omega)).trans ((heap_alloc_old _ _ (Array.getElem?_eq_some_iff.1 hb1).1).trans hb1)
    have hd2 := (g2.block _ (by simp; omega) (by simp; omega)).trans ((heap_alloc_old _ _ hs1).trans hd1)
    have g2' := grown_trans g1' (draw_step hB1 g2)
    obtain ⟨d0, d1, d2, d3, d4⟩ := nd_cells hb2
    have f0 := nd_free hb2 1
    clear g2 hB1
    go_wp2_with (refine wpList_store_nd rfl _ _ rfl (w.heap.size + 1) (⟨x.k, q, x.s, x.a, x.b⟩) rfl rfl zeroN (blk_ne (j := 1) (v := .int .i64 q) hd2 (by omega : w.heap.size ≠ w.heap.size + 1)) ?_)
    intro w5 h5 b5 hs5
    obtain ⟨c6, g6⟩ := draw_done c2 g2' (((Below.refl _ _).setCell (p := ⟨w.heap.size, 1, none⟩) (Nat.le_refl _) _).trans (b5.mono (Nat.le_succ _))) hP
    go_wp2_with fail
    exact bodyPost_ret (results_cell_row rfl _ _ (w.heap.size + 1) 63 _ (0, 0) _ rfl h5 Try.underlying63 rfl Try.sizeN) rfl ⟨_, rfl, hx, c6, g6⟩
  by_cases h4 : r = 4
  · subst h4
    have hB1 : Below w1.heap.size w1 (w1.alloc (Obj.cells (picksS.map Value.string).toArray 9)) := (Below.refl _ _).alloc (Nat.le_refl _) _
    have hc1 := c1.lt
    go_wp2_with fail
    refine (picks_any w0 v zs _ P w1.heap.size 6 picksS (c1.kept (hB1.mono (by omega))) (by omega) (by decide) (by decide) (fun i hi => strs_new w1 picksS 9 i hi)).mono ?_
    rintro e w2 ⟨q, hq, rfl, c2, g2⟩
    have hb2 := (g2.block _ (by have := (Array.getElem?_eq_some_iff.1 hb1).1; simp; omega) (by simp; omega)).trans ((heap_alloc_old _ _ (Array.getElem?_eq_some_iff.1 hb1).1).trans hb1)
    have hd2 := (g2.block _ (by simp; omega) (by simp; omega)).trans ((heap_alloc_old _ _ hs1).trans hd1)
    have g2' := grown_trans g1' (draw_step hB1 g2)
    obtain ⟨d0, d1, d2, d3, d4⟩ := nd_cells hb2
    have f0 := nd_free hb2 2
    have hq40 := picksS_size q hq
    clear g2 hB1 hq
    go_wp2_with (refine wpList_store_nd rfl _ _ rfl (w.heap.size + 1) (⟨x.k, x.n, q, x.a, x.b⟩) rfl rfl zeroN (blk_ne (j := 2) (v := .string q) hd2 (by omega : w.heap.size ≠ w.heap.size + 1)) ?_)
    intro w5 h5 b5 hs5
    obtain ⟨c6, g6⟩ := draw_done c2 g2' (((Below.refl _ _).setCell (p := ⟨w.heap.size, 2, none⟩) (Nat.le_refl _) _).trans (b5.mono (Nat.le_succ _))) hP
    go_wp2_with fail
    exact bodyPost_ret (results_cell_row rfl _ _ (w.heap.size + 1) 63 _ (0, 0) _ rfl h5 Try.underlying63 rfl Try.sizeN) rfl ⟨_, rfl, hq40, c6, g6⟩
  · obtain ⟨d0, d1, d2, d3, d4⟩ := nd_cells hb1
    go_wp2_with (refine wpList_store_nd rfl _ _ rfl (w.heap.size + 1) (x) rfl rfl zeroN (hd1) ?_)
    intro w5 h5 b5 hs5
    obtain ⟨c6, g6⟩ := draw_done c1 g1' ((b5.mono (Nat.le_succ _))) hP
    go_wp2_with fail
    exact bodyPost_ret (results_cell_row rfl _ _ (w.heap.size + 1) 63 _ (0, 0) _ rfl h5 Try.underlying63 rfl Try.sizeN) rfl ⟨_, rfl, hx, c6, g6⟩
end Go.Proofs.Ytacbhbmjhlgflaa

/-
  Contracts of the draws of pools: l2DrawRight, l2Draw: some pool of the call's own, and nothing turned but the cursor.
-/
namespace Go.Proofs.Ytacbhbmjhlgflaa
open Go.RowKit

theorem own_not {w : World} {base k : Nat} {e : TypeId} {v : Value} {n : Nat} {xs : List Value} (h : w.ownsRow base e k v n xs) {P : Nat} (hP : P < base) : v.ownBlock = none ∨ v.ownBlock ≠ some P := by
  cases hv : v.ownBlock with
  | none => exact Or.inl rfl
  | some k => right; intro e; have := (h.lt k hv).1; simp at e; omega
/-- A variable of the type Pool that holds the nodes xs, in a row of the call's own. -/
def PV (w : World) (b base : Nat) (xs : List Nd) : Prop := ∃ v', w.heap[b]? = some (.cells #[v'] 33 (0, 0)) ∧ w.ownsRow base 63 5 v' xs.length (ncs xs)
theorem PV.lt {w : World} {b base : Nat} {xs : List Nd} (h : PV w b base xs) : b < w.heap.size := by obtain ⟨_, h, _⟩ := h; exact (Array.getElem?_eq_some_iff.1 h).1
theorem PV.kept {w w' : World} {b base P : Nat} {xs : List Nd} (h : PV w b base xs) (hg : w.grownBy w' (some P)) (hP : P < base) (hb : P ≠ b) : PV w' b base xs := by
  obtain ⟨v', h1, h2⟩ := h
  exact ⟨v', (hg.block b (Array.getElem?_eq_some_iff.1 h1).1 (by simpa using fun e => hb e.symm)).trans h1, h2.kept hg (own_not h2 hP)⟩
theorem PV.alloc {w : World} {b base : Nat} {xs : List Nd} (h : PV w b base xs) (o : Obj) : PV (w.alloc o) b base xs := by
  obtain ⟨v', h1, h2⟩ := h
  exact ⟨v', (heap_alloc_old _ _ (Array.getElem?_eq_some_iff.1 h1).1).trans h1, h2.alloc _⟩

set_option maxHeartbeats 1600000 in
theorem dright_any (w0 : World) (v : Value) (zs : List Int) (w : World) (P : Nat) (c : Cur w0 v zs w P) :
    Calls Try.prog 86 #[.pointer (some ⟨P, 0, none⟩)] w fun e w' => ∃ (v' : Value) (xs : List Nd), e = .returned (.agg #[v']) ∧ xs.length ≤ 15 ∧ (∀ x ∈ xs, x.s.size ≤ 40) ∧ w'.ownsRow w.heap.size 63 5 v' xs.length (ncs xs) ∧ Cur w0 v zs w' P ∧ w.grownBy w' (some P) := by
  have hP := c.lt
  have hB0 : Below w.heap.size w ((w.alloc (.cells #[.slice none 0 0] 33)).alloc (.cells #[.slice none 0 0] 33)) := ((Below.refl _ _).alloc (Nat.le_refl _) _).alloc (by simp) _
  have c0 := c.kept (hB0.mono (show P + 1 ≤ w.heap.size by omega))
  go_enter Try.func86, Try.ntmps86
  go_wp2_with fail
  refine (below_any w0 v zs _ P 16 c0 (by omega)).mono ?_
  rintro e w1 ⟨n, rfl, hn0, hn1, c1, g1⟩
  have hn := hn1 (by omega)
  obtain ⟨n, rfl⟩ := Int.eq_ofNat_of_zero_le hn0
  have hr1 : w1.heap[w.heap.size]? = some (.cells #[.slice none 0 0] 33 (0, 0)) := (g1.block _ (by simp; omega) (by simp; omega)).trans ((heap_alloc_old _ _ (by simp)).trans (heap_alloc_new _ _))
  have hb1 : w1.heap[w.heap.size + 1]? = some (.cells #[.slice none 0 0] 33 (0, 0)) := (g1.block _ (by simp) (by simp; omega)).trans (heap_alloc2_new _ _ _)
  have g1' := draw_step hB0 g1
  clear hB0 g1 hn1 c0
  go_wp2_with fail
  go_loopw [5] (fun i wr => ∃ (xs : List Nd), xs.length ≤ n ∧ i = .int .i64 xs.length ∧ Hid (∀ x ∈ xs, x.s.size ≤ 40) ∧ wr.heap[w.heap.size]? = some (.cells #[.slice none 0 0] 33 (0, 0)) ∧ PV wr (w.heap.size + 1) (w.heap.size + 1) xs ∧ Cur w0 v zs wr P ∧ w.grownBy wr (some P)) (fun i _ => n - (intOf i).toNat)
  case atStart => exact ⟨[], by simp, rfl, by simp [Hid], hr1, ⟨_, hb1, World.ownsRow_nil w1 _ 63 5⟩, c1, g1'⟩
  case round =>
    clear hr1 hb1 c1 g1'
    obtain ⟨xs, hx, rfl, HZ, hr, hpv, cc, gg⟩ := hrel
    by_cases hlt : xs.length < n
    · go_wp2_with fail
      refine (dnode_any w0 v zs wr P xs.length cc (by omega)).mono ?_
      rintro e w3 ⟨x, rfl, hx40, c3, g3⟩
      have hpv3 := hpv.kept g3 (by omega) (by omega)
      have hr3 := (g3.block _ (Array.getElem?_eq_some_iff.1 hr).1 (by simp; omega)).trans hr
      have gg3 := grown_trans gg g3
      obtain ⟨v3, hb3, ho3⟩ := hpv3
      obtain ⟨a3, q3, rfl⟩ := own_form ho3
      clear hpv g3 gg cc hr
      rw [ndV]
      go_wp2_with fail
      refine (sadd_any (w.heap.size + 1) (w.heap.size + 1) a3 q3 xs x w3 hb3 ho3 (by omega) (Nat.le_refl _)).mono ?_
      rintro e w4 ⟨v4, rfl, hb4, ho4, hB4⟩
      obtain ⟨c5, g5⟩ := draw_done c3 gg3 (hB4.mono (Nat.le_succ _)) hP
      have hr5 := (hB4.block w.heap.size (by omega)).trans hr3
      clear hb3 ho3 hB4 c3 gg3 hr3
      go_wp2_with fail
      go_roundw
      case rel =>
        refine ⟨xs ++ [x], by simp; omega, by simp, ?_, hr5, ⟨_, hb4, ho4⟩, c5, g5⟩
        intro z hz
        simp only [List.mem_append, List.mem_singleton] at hz
        rcases hz with hz | rfl
        · exact HZ.out z hz
        · exact hx40
      case measure => simp [intOf]; omega
    · obtain ⟨v3, hb3, ho3⟩ := hpv
      obtain ⟨a3, q3, rfl⟩ := own_form ho3
      have hc3 : wr.cell? ⟨w.heap.size + 1, 0, none⟩ = some (.slice a3 xs.length q3) := by rw [cell_of_row wr _ 0 _ _ _ hb3]; rfl
      have hd3 : wr.cell? ⟨w.heap.size, 0, none⟩ = some (.slice none 0 0) := by rw [cell_of_row wr _ 0 _ _ _ hr]; rfl
      have hf3 : wr.frozen? ⟨w.heap.size, 0, none⟩ = false := frozen_of_row wr _ 0 _ _ hr
      obtain ⟨p1, p2, p3⟩ := put_pool hr ho3 (Below.refl w.heap.size wr) (by omega) (Nat.le_refl _)
      obtain ⟨c5, g5⟩ := draw_done cc gg p3 hP
      go_wp2_with fail
      refine bodyPost_ret (results_cell_row rfl _ _ w.heap.size 33 _ (0, 0) _ rfl p1 Try.underlying33 rfl Try.sizeP) rfl ⟨_, xs, rfl, by omega, HZ.out, p2, c5, g5⟩
end Go.Proofs.Ytacbhbmjhlgflaa

/-
  Contract of the draws' l2Draw: some pool of the call's own, and nothing turned but the cursor.
-/
namespace Go.Proofs.Ytacbhbmjhlgflaa
open Go.RowKit

/-- A node stored cell by cell into a row of the call's own. -/
theorem own_set_node {w : World} {base g i cap : Nat} {xs : List Nd} (nd : Nd) (hi : i < xs.length) (hown : w.ownsRow base 63 5 (.slice (some ⟨g, 0, none⟩) xs.length cap) xs.length (ncs xs)) :
    (((((w.setCell ⟨g, i * 5, none⟩ (.int .i64 nd.k)).setCell ⟨g, i * 5 + 1, none⟩ (.int .i64 nd.n)).setCell ⟨g, i * 5 + 2, none⟩ (.string nd.s)).setCell ⟨g, i * 5 + 3, none⟩ (.int .i64 nd.a)).setCell ⟨g, i * 5 + 4, none⟩ (.int .i64 nd.b)).ownsRow base 63 5 (.slice (some ⟨g, 0, none⟩) xs.length cap) xs.length (ncs (xs.set i nd)) := by
  have e0 : xs[i]? = some xs[i] := List.getElem?_eq_getElem hi
  have get : ∀ y : Nd, (xs.set i y)[i]? = some y := fun y => by simp [hi]
  have s0 := hown.stored (i * 5) (.int .i64 nd.k)
  rw [ncs_set0 xs i xs[i] ⟨nd.k, xs[i].n, xs[i].s, xs[i].a, xs[i].b⟩ e0 _ rfl] at s0
  have s1 := s0.1.stored (i * 5 + 1) (.int .i64 nd.n)
  rw [ncs_set (xs.set i ⟨nd.k, xs[i].n, xs[i].s, xs[i].a, xs[i].b⟩) i ⟨nd.k, xs[i].n, xs[i].s, xs[i].a, xs[i].b⟩ ⟨nd.k, nd.n, xs[i].s, xs[i].a, xs[i].b⟩ (get _) 1 (by omega) (.int .i64 nd.n) rfl, List.set_set] at s1
  have s2 := s1.1.stored (i * 5 + 2) (.string nd.s)
  rw [ncs_set (xs.set i ⟨nd.k, nd.n, xs[i].s, xs[i].a, xs[i].b⟩) i ⟨nd.k, nd.n, xs[i].s, xs[i].a, xs[i].b⟩ ⟨nd.k, nd.n, nd.s, xs[i].a, xs[i].b⟩ (get _) 2 (by omega) (.string nd.s) rfl, List.set_set] at s2
  have s3 := s2.1.stored (i * 5 + 3) (.int .i64 nd.a)
  rw [ncs_set (xs.set i ⟨nd.k, nd.n, nd.s, xs[i].a, xs[i].b⟩) i ⟨nd.k, nd.n, nd.s, xs[i].a, xs[i].b⟩ ⟨nd.k, nd.n, nd.s, nd.a, xs[i].b⟩ (get _) 3 (by omega) (.int .i64 nd.a) rfl, List.set_set] at s3
  have s4 := s3.1.stored (i * 5 + 4) (.int .i64 nd.b)
  rw [ncs_set (xs.set i ⟨nd.k, nd.n, nd.s, nd.a, xs[i].b⟩) i ⟨nd.k, nd.n, nd.s, nd.a, xs[i].b⟩ ⟨nd.k, nd.n, nd.s, nd.a, nd.b⟩ (get _) 4 (by omega) (.int .i64 nd.b) rfl, List.set_set] at s4
  exact s4.1
/-- Where a draw of a pool stands: the result's variable is empty still, the pool's holds xs. -/
def DS (w0 : World) (v : Value) (zs : List Int) (P : Nat) (w : World) (b : Nat) (xs : List Nd) (wx : World) : Prop :=
  wx.heap[w.heap.size]? = some (.cells #[.slice none 0 0] 33 (0, 0)) ∧ PV wx b (w.heap.size + 1) xs ∧ Cur w0 v zs wx P ∧ w.grownBy wx (some P)
theorem DS.turn {w0 : World} {v : Value} {zs : List Int} {P : Nat} {w wx wy : World} {b : Nat} {xs : List Nd} (h : DS w0 v zs P w b xs wx) (hP : P < w.heap.size) (hb : w.heap.size < b) (c : Cur w0 v zs wy P) (g : wx.grownBy wy (some P)) : DS w0 v zs P w b xs wy :=
  ⟨(g.block _ (Array.getElem?_eq_some_iff.1 h.1).1 (by simp; omega)).trans h.1, h.2.1.kept g (by omega) (by omega), c, grown_trans h.2.2.2 g⟩
theorem DS.drew {w0 : World} {v : Value} {zs : List Int} {P : Nat} {w wx : World} {b : Nat} {xs : List Nd} (h : DS w0 v zs P w b xs wx) (n : Nat) (hP : P < w.heap.size) (hb : w.heap.size < b) : DS w0 v zs P w b xs (wx.drewN n) :=
  h.turn hP hb (h.2.2.1.kept ⟨rfl, rfl, rfl, Nat.le_refl _, fun _ _ => rfl⟩) ⟨rfl, rfl, rfl, Nat.le_refl _, fun _ _ _ => rfl⟩

theorem DS.set {w0 : World} {v : Value} {zs : List Int} {P : Nat} {w w5 : World} {b B i cap : Nat} {xs : List Nd} (y : Nd) (hi : i < xs.length) (hr : w5.heap[w.heap.size]? = some (.cells #[.slice none 0 0] 33 (0, 0))) (hb : w5.heap[b]? = some (.cells #[.slice (some ⟨B, 0, none⟩) xs.length cap] 33 (0, 0)))
    (ho : w5.ownsRow (w.heap.size + 1) 63 5 (.slice (some ⟨B, 0, none⟩) xs.length cap) xs.length (ncs xs)) (c : Cur w0 v zs w5 P) (g : w.grownBy w5 (some P)) (hP : P < w.heap.size) (_hb : w.heap.size < b) :
    DS w0 v zs P w b (xs.set i y) (((((w5.setCell ⟨B, i * 5, none⟩ (.int .i64 y.k)).setCell ⟨B, i * 5 + 1, none⟩ (.int .i64 y.n)).setCell ⟨B, i * 5 + 2, none⟩ (.string y.s)).setCell ⟨B, i * 5 + 3, none⟩ (.int .i64 y.a)).setCell ⟨B, i * 5 + 4, none⟩ (.int .i64 y.b)) := by
  have hBl := (ho.lt B rfl).1
  have hBb : B ≠ b := fun e => own_ne ho hb (by decide) (by simp [Value.ownBlock, e])
  have hBr : B ≠ w.heap.size := by omega
  have bel : Below w.heap.size w5 (((((w5.setCell ⟨B, i * 5, none⟩ (.int .i64 y.k)).setCell ⟨B, i * 5 + 1, none⟩ (.int .i64 y.n)).setCell ⟨B, i * 5 + 2, none⟩ (.string y.s)).setCell ⟨B, i * 5 + 3, none⟩ (.int .i64 y.a)).setCell ⟨B, i * 5 + 4, none⟩ (.int .i64 y.b)) :=
    ((((((Below.refl _ _).setCell (p := ⟨B, i * 5, none⟩) (by simp; omega) _).setCell (p := ⟨B, i * 5 + 1, none⟩) (by simp; omega) _).setCell (p := ⟨B, i * 5 + 2, none⟩) (by simp; omega) _).setCell (p := ⟨B, i * 5 + 3, none⟩) (by simp; omega) _).setCell (p := ⟨B, i * 5 + 4, none⟩) (by simp; omega) _)
  obtain ⟨c6, g6⟩ := draw_done c g bel hP
  have hs := own_set_node y hi ho
  refine ⟨blk_ne (blk_ne (blk_ne (blk_ne (blk_ne hr hBr) hBr) hBr) hBr) hBr, ⟨_, blk_ne (blk_ne (blk_ne (blk_ne (blk_ne hb hBb) hBb) hBb) hBb) hBb, ?_⟩, c6, g6⟩
  rw [List.length_set]
  exact hs

set_option maxRecDepth 100000 in
set_option maxHeartbeats 3200000 in
theorem ddraw_any (w0 : World) (v : Value) (zs : List Int) (w : World) (P : Nat) (c : Cur w0 v zs w P) :
    Calls Try.prog 54 #[.pointer (some ⟨P, 0, none⟩)] w fun e w' => ∃ (v' : Value) (xs : List Nd), e = .returned (.agg #[v']) ∧ xs.length ≤ 3001 ∧ (∀ x ∈ xs, x.s.size ≤ 40) ∧ w'.ownsRow w.heap.size 63 5 v' xs.length (ncs xs) ∧ Cur w0 v zs w' P ∧ w.grownBy w' (some P) := by
  have hP := c.lt
  obtain ⟨n0, hn, hn0, hn1, hn2⟩ := info_parts Try.infoN
  have hB0 : Below w.heap.size w (w.alloc (.cells #[.slice none 0 0] 33)) := (Below.refl _ _).alloc (Nat.le_refl _) _
  have c0 := c.kept (hB0.mono (show P + 1 ≤ w.heap.size by omega))
  go_enter Try.func54, Try.ntmps54
  go_wp2_with fail
  refine (dright_any w0 v zs _ P c0).mono ?_
  rintro e w1 ⟨v1, xs, rfl, hl, hz, ho1, c1, g1⟩
  obtain ⟨a1, q1, rfl⟩ := own_form ho1
  have hr1 : w1.heap[w.heap.size]? = some (.cells #[.slice none 0 0] 33 (0, 0)) := (g1.block _ (by simp) (by simp; omega)).trans (heap_alloc_new _ _)
  have g1' := draw_step hB0 g1
  have hlt1 := (Array.getElem?_eq_some_iff.1 hr1).1
  have D2 : DS w0 v zs P w w1.heap.size xs (w1.alloc (.cells #[.slice a1 xs.length q1] 33)) :=
    ⟨(heap_alloc_old _ _ hlt1).trans hr1, ⟨_, heap_alloc_new _ _, own_mono (ho1.alloc _) (by simp)⟩, c1.kept ((Below.refl _ _).alloc (by omega) _), grown_trans g1' (World.grownBy_alloc w1 _ _)⟩
  have HZ : Hid (∀ x ∈ xs, x.s.size ≤ 40) := hz
  clear hB0 g1 c0 hr1 g1' ho1 hz c1
  go_upto_region 2 with fail
  generalize w1.alloc (Obj.cells #[Value.slice a1 xs.length q1] 33) = w2 at D2 ⊢
  generalize w1.heap.size = b at D2 hlt1 ⊢
  go_cut [15] from 6 (fun s15 wx => ∃ bb : Bool, s15 = .bool bb ∧ (bb = true → 0 < xs.length) ∧ DS w0 v zs P w b xs wx)
  case first =>
    have D2' := D2
    obtain ⟨_, ⟨v3, hb3, ho3⟩, c3, _⟩ := D2'
    obtain ⟨a3, q3, rfl⟩ := own_form ho3
    have hc3 : w2.cell? ⟨b, 0, none⟩ = some (.slice a3 xs.length q3) := by rw [cell_of_row w2 _ 0 _ _ _ hb3]; rfl
    clear ho3 hb3
    by_cases hx0 : 0 < xs.length
    · have hx0' : (0 : Int) < xs.length := by omega
      go_wp2_with fail
      refine (once_any w0 v zs _ P 12 c3 (by omega)).mono ?_
      rintro e w4 ⟨b', rfl, c4, g4⟩
      have D4 := D2.turn hP hlt1 c4 g4
      clear D2 c3 hc3
      go_wp2_with fail
      go_meet
      case rel => exact ⟨b', rfl, fun _ => hx0, D4⟩
    · have hx0' : ¬ (0 : Int) < xs.length := by omega
      go_wp2_with fail
      go_meet
      case rel => exact ⟨false, rfl, (fun h => by cases h), D2⟩
  case rest =>
    obtain ⟨bb, rfl, hbb, D3⟩ := hcut
    clear D2 w2
    obtain ⟨w3, hw3⟩ : ∃ w3, w3 = wc := ⟨_, rfl⟩
    subst hw3
    go_upto_if 15 with fail
    go_cut [] from 6 (fun wx => ∃ ys : List Nd, ys.length ≤ 15 ∧ Hid (∀ x ∈ ys, x.s.size ≤ 40) ∧ DS w0 v zs P w b ys wx)
    case first =>
      cases bb with
      | false =>
        go_wp2_with fail
        go_meet
        case rel => exact ⟨xs, hl, HZ, D3⟩
      | true =>
        have hx0 := hbb rfl
        have D3' := D3
        obtain ⟨_, ⟨v3, hb3, ho3⟩, c3, _⟩ := D3'
        obtain ⟨a3, q3, rfl⟩ := own_form ho3
        have hc3 : w3.cell? ⟨b, 0, none⟩ = some (.slice a3 xs.length q3) := by rw [cell_of_row w3 _ 0 _ _ _ hb3]; rfl
        clear ho3 hb3
        go_wp2_with fail
        refine (below_any w0 v zs _ P xs.length c3 (by omega)).mono ?_
        rintro e w4 ⟨i, rfl, hi0, hi1, c4, g4⟩
        have hi := hi1 (by omega)
        obtain ⟨i, rfl⟩ := Int.eq_ofNat_of_zero_le hi0
        have hil : i < xs.length := by omega
        have D4 := D3.turn hP hlt1 c4 g4
        clear D3 c3 hc3 g4 hi1 c4
        have D4' := D4
        obtain ⟨_, ⟨v4, hb4, ho4⟩, c4, _⟩ := D4'
        rcases ho4.2 with ⟨rfl, h0⟩ | ⟨B, capB, cur, rfl, hBb, _⟩
        · omega
        have hc4 : w4.cell? ⟨b, 0, none⟩ = some (.slice (some ⟨B, 0, none⟩) xs.length capB) := by rw [cell_of_row w4 _ 0 _ _ _ hb4]; rfl
        obtain ⟨x, hx⟩ : ∃ x, xs[i]? = some x := ⟨xs[i], by simp [hil]⟩
        have hx40 := HZ.out x (List.mem_of_getElem? hx)
        have hcz : ∀ (W : World), W.ownsRow (w.heap.size + 1) 63 5 (.slice (some ⟨B, 0, none⟩) xs.length capB) xs.length (ncs xs) → W.cell? ⟨B, i * 5, none⟩ = some (.int .i64 x.k) ∧ W.cell? ⟨B, i * 5 + 1, none⟩ = some (.int .i64 x.n) ∧ W.cell? ⟨B, i * 5 + 2, none⟩ = some (.string x.s) ∧ W.cell? ⟨B, i * 5 + 3, none⟩ = some (.int .i64 x.a) ∧ W.cell? ⟨B, i * 5 + 4, none⟩ = some (.int .i64 x.b) := fun W h => by
          have e : ∀ j, j < 5 → W.cell? ⟨B, i * 5 + j, none⟩ = x.cs[j]? := fun j hj => by
            rw [h.cellAt (i * 5 + j) (by omega), ncs_get xs i x hx j hj]
          exact ⟨e 0 (by omega), e 1 (by omega), e 2 (by omega), e 3 (by omega), e 4 (by omega)⟩
        obtain ⟨e0, e1, e2, e3, e4⟩ := hcz _ ho4
        have hset : ∀ y : Nd, y.s.size ≤ 40 → Hid (∀ z ∈ xs.set i y, z.s.size ≤ 40) := fun y hy z hz => by
          rcases List.mem_or_eq_of_mem_set hz with h | h
          · exact HZ.out z h
          · rw [h]; exact hy
        go_wp2_with fail
        go_region_with (go_at_call 87; refine (dspoil_any w0 v zs _ P x ?_ hx40).mono ?_; exact c4.kept ⟨rfl, rfl, rfl, Nat.le_refl _, fun _ _ => rfl⟩; rintro e w5 ⟨y, rfl, hy40, c5, g5⟩; have g5' : w4.grownBy w5 (some P) := ⟨g5.os, g5.tape, g5.output, g5.size, g5.block⟩; have hb5 := (g5'.block b (Array.getElem?_eq_some_iff.1 hb4).1 (by simp; omega)).trans hb4; have ho5 := ho4.kept g5' (own_not ho4 (by omega)); have hc5 : w5.cell? ⟨b, 0, none⟩ = some (.slice (some ⟨B, 0, none⟩) xs.length capB) := cell_of_row w5 b 0 _ _ _ hb5; obtain ⟨t0, t1, t2, t3, t4⟩ := hcz _ ho5; have f0 := ho5.frozenAt (i * 5); have f1 := ho5.frozenAt (i * 5 + 1); have f2 := ho5.frozenAt (i * 5 + 2); have f3 := ho5.frozenAt (i * 5 + 3); have f4 := ho5.frozenAt (i * 5 + 4); rw [ndV])
        all_goals
          have D6 := DS.set (b := b) y hil ((g5'.block _ (Array.getElem?_eq_some_iff.1 D4.1).1 (by simp; omega)).trans D4.1) hb5 ho5 c5 (grown_trans D4.2.2.2 g5') hP hlt1
          go_wp2_with fail
          go_meet
          case rel => exact ⟨xs.set i y, by simp; omega, hset y hy40, D6⟩
    case rest =>
      obtain ⟨ys, hyl, HY, D5⟩ := hcut
      clear HZ hl hbb D3
      obtain ⟨w5, hw5⟩ : ∃ w5, w5 = wc := ⟨_, rfl⟩
      subst hw5
      go_wp2_with fail
      refine (once_any w0 v zs _ P 60 D5.2.2.1 (by omega)).mono ?_
      rintro e w6 ⟨b', rfl, c6, g6⟩
      have D6 := D5.turn hP hlt1 c6 g6
      clear D5 g6
      cases b' with
      | false =>
        obtain ⟨hr, ⟨v3, hb3, ho3⟩, cc, gg⟩ := D6
        obtain ⟨a3, q3, rfl⟩ := own_form ho3
        have hc3 : w6.cell? ⟨b, 0, none⟩ = some (.slice a3 ys.length q3) := by rw [cell_of_row w6 _ 0 _ _ _ hb3]; rfl
        have hd3 : w6.cell? ⟨w.heap.size, 0, none⟩ = some (.slice none 0 0) := by rw [cell_of_row w6 _ 0 _ _ _ hr]; rfl
        have hf3 : w6.frozen? ⟨w.heap.size, 0, none⟩ = false := frozen_of_row w6 _ 0 _ _ hr
        obtain ⟨p1, p2, p3⟩ := put_pool hr ho3 (Below.refl w.heap.size w6) (by omega) (Nat.le_refl _)
        obtain ⟨c5, g5⟩ := draw_done cc gg p3 hP
        have hne : w.heap.size ≠ b := by omega
        go_wp2_with fail
        refine bodyPost_ret (results_cell_row rfl _ _ w.heap.size 33 _ (0, 0) _ rfl p1 Try.underlying33 rfl Try.sizeP) rfl ⟨_, ys, rfl, by omega, HY.out, p2, c5, g5⟩
      | true =>
        go_wp2_with fail
        refine (below_any w0 v zs _ P 2 c6 (by omega)).mono ?_
        rintro e w7 ⟨x, rfl, hx0, hx1, c7, g7⟩
        have hx := hx1 (by omega)
        have D7 := D6.turn hP hlt1 c7 g7
        clear D6 g7 hx1 c6 c7 HY
        obtain ⟨m, hm⟩ : ∃ m : Nat, (3000 : Int) + x = m := ⟨(3000 + x).toNat, by omega⟩
        have hm1 : m ≤ 3001 := by omega
        obtain ⟨hr, ⟨v3, hb3, ho3⟩, cc, gg⟩ := D7
        have hr7 := (Array.getElem?_eq_some_iff.1 hr).1
        have hb7 := (Array.getElem?_eq_some_iff.1 hb3).1
        have hbytes : n0.bytes * m ≤ 281474976710656 := by rw [hn2]; omega
        have HM : Hid ((3000 : Int) + x = m) := hm
        clear hm
        go_wp2_with (at_make; refine wpList_make_full _ rfl _ _ 31 rfl (w.heap.size + 1) 63 n0 _ 5 Try.underlying31 hn hn0 hn1 _ _ _ _ m rfl rfl HM.out HM.out hbytes (by unfold maxLen; omega) (by omega) ?_)
        intro w8 hown hgrow
        have hr8 := (hgrow.block _ hr7 (by simp)).trans hr
        have hb8 := (hgrow.block _ hb7 (by simp)).trans hb3
        obtain ⟨c8, g8⟩ := draw_done cc gg ⟨hgrow.os, hgrow.tape, hgrow.output, hgrow.size, fun k hk => hgrow.block k (by omega) (by simp)⟩ hP
        have hown8 : w8.ownsRow (w.heap.size + 1) 63 5 (.slice (some ⟨w7.heap.size, 0, none⟩) m m) m (ncs (List.replicate m zeroN)) := by rw [ncs_zeros]; exact hown
        have hf8 : w8.frozen? ⟨b, 0, none⟩ = false := frozen_of_row w8 _ 0 _ _ hb8
        have hc8 : w8.cell? ⟨b, 0, none⟩ = some v3 := by rw [cell_of_row w8 _ 0 _ _ _ hb8]; rfl
        have hb9 := heap_setCell_same w8 b 0 _ _ (.slice (some ⟨w7.heap.size, 0, none⟩) m m) hb8
        have hown9 := ownsRow_setCell_other hown8 (a := ⟨b, 0, none⟩) (own_ne hown8 hb8 (by decide)) (.slice (some ⟨w7.heap.size, 0, none⟩) m m)
        have hr9 := blk_ne (j := 0) (v := (.slice (some ⟨w7.heap.size, 0, none⟩) m m)) hr8 (by omega : b ≠ w.heap.size)
        obtain ⟨c9, g9⟩ := draw_done c8 g8 ((Below.refl _ _).setCell (p := ⟨b, 0, none⟩) (by simp; omega) (.slice (some ⟨w7.heap.size, 0, none⟩) m m)) hP
        generalize w7.heap.size = B at hown9 hb9 hr9 c9 g9 hf8 hc8 ⊢
        clear hgrow hown hown8 hr8 c8 g8 hb3 ho3 cc gg hr HM
        go_upto_region 7 with fail
        generalize w8.setCell ⟨b, 0, none⟩ (.slice (some ⟨B, 0, none⟩) m m) = w9 at hown9 hb9 hr9 c9 g9 ⊢
        clear hf8 hc8 hb8
        go_wp2_with fail
        go_loopw [5] (fun i wr => ∃ (k : Nat) (zn : List Nd), k ≤ m ∧ zn.length = m ∧ i = .int .i64 k ∧ Hid (∀ x ∈ zn, x.s.size ≤ 40) ∧ wr.heap[w.heap.size]? = some (.cells #[.slice none 0 0] 33 (0, 0)) ∧ wr.heap[b]? = some (.cells #[.slice (some ⟨B, 0, none⟩) m m] 33 (0, 0)) ∧ wr.ownsRow (w.heap.size + 1) 63 5 (.slice (some ⟨B, 0, none⟩) m m) m (ncs zn) ∧ Cur w0 v zs wr P ∧ w.grownBy wr (some P)) (fun i _ => m - (intOf i).toNat)
        case atStart => exact ⟨0, List.replicate m zeroN, by omega, by simp, rfl, (fun x hx => by rw [List.eq_of_mem_replicate hx]; exact empty40), hr9, hb9, hown9, c9, g9⟩
        case round =>
          clear hown9 hb9 hr9 c9 g9
          obtain ⟨k, zn, hk, hzn, rfl, HZ, hrr, hbr, hor, ccr, ggr⟩ := hrel
          have Hzn : Hid (zn.length = m) := hzn
          have hcr : wr.cell? ⟨b, 0, none⟩ = some (.slice (some ⟨B, 0, none⟩) m m) := by rw [cell_of_row wr _ 0 _ _ _ hbr]; rfl
          have hne : w.heap.size ≠ b := by omega
          have hBl := (hor.lt B rfl).1
          clear hzn
          by_cases hlt : k < m
          · have hkz : k < zn.length := by rw [Hzn.out]; exact hlt
            obtain ⟨z, hz⟩ : ∃ z, zn[k]? = some z := ⟨zn[k], by simp [hkz]⟩
            have ek : wr.cell? ⟨B, k * 5, none⟩ = some (.int .i64 z.k) := by
              have := hor.cellAt (k * 5 + 0) (by omega)
              rw [ncs_get zn k z hz 0 (by omega)] at this
              exact this
            have fk := hor.frozenAt (k * 5)
            have hst := (hor.stored (k * 5) (.int .i64 1)).1
            rw [ncs_set0 zn k z ⟨1, z.n, z.s, z.a, z.b⟩ hz _ rfl] at hst
            have hz40 := HZ.out z (List.mem_of_getElem? hz)
            have HZ' : Hid (∀ x ∈ zn.set k ⟨1, z.n, z.s, z.a, z.b⟩, x.s.size ≤ 40) := fun x hx => by
              rcases List.mem_or_eq_of_mem_set hx with h | h
              · exact HZ.out x h
              · rw [h]; exact hz40
            have hBb : B ≠ b := fun e => own_ne hor hbr (by decide) (by simp [Value.ownBlock, e])
            have hbr' := blk_ne (j := k * 5) (v := (.int .i64 1)) hbr hBb
            have hrr' := blk_ne (j := k * 5) (v := (.int .i64 1)) hrr (by omega : B ≠ w.heap.size)
            obtain ⟨c9, g9⟩ := draw_done ccr ggr ((Below.refl _ _).setCell (p := ⟨B, k * 5, none⟩) (by simp; omega) (.int .i64 1)) hP
            clear hor hbr hrr ccr ggr hz HZ
            go_wp2_with fail
            go_roundw
            case rel => exact ⟨k + 1, _, by omega, by rw [List.length_set]; exact Hzn.out, by go_num, HZ', hrr', hbr', hst, c9, g9⟩
            case measure => simp [intOf]; omega
          · have hd3 : wr.cell? ⟨w.heap.size, 0, none⟩ = some (.slice none 0 0) := by rw [cell_of_row wr _ 0 _ _ _ hrr]; rfl
            have hf3 : wr.frozen? ⟨w.heap.size, 0, none⟩ = false := frozen_of_row wr _ 0 _ _ hrr
            obtain ⟨p1, p2, p3⟩ := put_pool hrr hor (Below.refl w.heap.size wr) (by omega) (Nat.le_refl _)
            obtain ⟨c5, g5⟩ := draw_done ccr ggr p3 hP
            go_wp2_with fail
            refine bodyPost_ret (results_cell_row rfl _ _ w.heap.size 33 _ (0, 0) _ rfl p1 Try.underlying33 rfl Try.sizeP) rfl ⟨_, zn, rfl, by rw [Hzn.out]; omega, HZ.out, by rw [Hzn.out]; exact p2, c5, g5⟩
end Go.Proofs.Ytacbhbmjhlgflaa

/-
  Contracts of the draws' l2DrawAt and DrawSizeOf.
-/
namespace Go.Proofs.Ytacbhbmjhlgflaa
open Go.RowKit

theorem wrapB (x : Int) : -9223372036854775808 ≤ IntKind.i64.wrap x ∧ IntKind.i64.wrap x ≤ 9223372036854775807 := by rw [IntKind.wrap_i64]; omega

set_option maxRecDepth 100000 in
set_option maxHeartbeats 1600000 in
theorem ddrawat_any (w0 : World) (v : Value) (zs : List Int) (w : World) (P : Nat) (ao : Option Addr) (n cap : Nat) (c : Cur w0 v zs w P) (hn : n ≤ 100000) :
    Calls Try.prog 58 #[.pointer (some ⟨P, 0, none⟩), .agg #[.slice ao n cap]] w fun e w' => ∃ x : Int, e = .returned (.int .i64 x) ∧ -9223372036854775808 ≤ x ∧ x ≤ 9223372036854775807 ∧ Cur w0 v zs w' P ∧ w.grownBy w' (some P) := by
  have hP := c.lt
  have hB0 : Below w.heap.size w (w.alloc (.cells #[.slice ao n cap] 33)) := (Below.refl _ _).alloc (Nat.le_refl _) _
  have c0 := c.kept (hB0.mono (show P + 1 ≤ w.heap.size by omega))
  have g0' : w.grownBy (w.alloc (.cells #[.slice ao n cap] 33)) (some P) := World.grownBy_alloc w _ _
  have hb0 : (w.alloc (.cells #[.slice ao n cap] 33)).heap[w.heap.size]? = some (.cells #[.slice ao n cap] 33 (0, 0)) := heap_alloc_new _ _
  have hpick : ∀ (w1 : World) (B : Nat) (nn : Int), B = w1.heap.size → 0 ≤ nn → nn ≤ 100000 → Cur w0 v zs w1 P → w.grownBy w1 (some P) → Calls Try.prog 56 #[.pointer (some ⟨P, 0, none⟩), .slice (some ⟨B, 0, none⟩) 3 3] (w1.alloc (Obj.cells #[.int .i64 (-1), .int .i64 0, .int .i64 nn] 3)) fun e w' => ∃ x : Int, e = .returned (.int .i64 x) ∧ -9223372036854775808 ≤ x ∧ x ≤ 9223372036854775807 ∧ Cur w0 v zs w' P ∧ w.grownBy w' (some P) := by
    intro w1 B nn hBe hnn0 hnn1 c1 g1
    subst hBe
    have hlt := c1.lt
    have hB1 : Below w1.heap.size w1 (w1.alloc (Obj.cells #[.int .i64 (-1), .int .i64 0, .int .i64 nn] 3)) := (Below.refl _ _).alloc (Nat.le_refl _) _
    have hr : ∀ y ∈ [(-1 : Int), 0, nn], -9223372036854775808 ≤ y ∧ y ≤ 9223372036854775807 := by
      intro y hy
      simp only [List.mem_cons, List.not_mem_nil, or_false] at hy
      omega
    refine (pick_any w0 v zs _ P w1.heap.size 3 [-1, 0, nn] (c1.kept (hB1.mono (by omega))) (by omega) (by simp) (by simp) hr (fun i hi => ints_new w1 [-1, 0, nn] 3 i hi)).mono ?_
    rintro e w2 ⟨q, rfl, hq0, hq1, c2, g2⟩
    exact ⟨q, rfl, hq0, hq1, c2, grown_trans g1 (draw_step hB1 g2)⟩
  by_cases h0 : n = 0
  · subst h0
    go_enter Try.func58, Try.ntmps58
    go_wp2_with fail
    refine (hpick (w.alloc (.cells #[.slice ao 0 cap] 33)) (w.heap.size + 1) 0 (by simp) (by omega) (by omega) c0 g0').mono ?_
    rintro e w2 ⟨q, rfl, hq0, hq1, c2, g2⟩
    go_wp2_with fail
    go_ret
    exact ⟨q, rfl, hq0, hq1, c2, g2⟩
  · have h0' : ¬ (n : Int) = 0 := by omega
    have h1 : 0 < n := by omega
    go_enter Try.func58, Try.ntmps58
    go_wp2_with fail
    refine (once_any w0 v zs _ P 20 c0 (by omega)).mono ?_
    rintro e w1 ⟨b, rfl, c1, g1⟩
    have g1' := grown_trans g0' g1
    have hb1 : w1.heap[w.heap.size]? = some (.cells #[.slice ao n cap] 33 (0, 0)) := (g1.block _ (by simp) (by simp; omega)).trans hb0
    have hc1 : w1.cell? ⟨w.heap.size, 0, none⟩ = some (.slice ao n cap) := by rw [cell_of_row w1 _ 0 _ _ _ hb1]; rfl
    have hsz1 := (Array.getElem?_eq_some_iff.1 hb1).1
    clear c0 g0' hb0 hB0 g1
    cases b with
    | true =>
      go_wp2_with fail
      refine (hpick w1 w1.heap.size n rfl (by omega) (by omega) c1 g1').mono ?_
      rintro e w2 ⟨q, rfl, hq0, hq1, c2, g2⟩
      go_wp2_with fail
      go_ret
      exact ⟨q, rfl, hq0, hq1, c2, g2⟩
    | false =>
      clear hpick
      go_wp2_with fail
      go_region_with (first
        | (go_at_call 89; refine (lmin_any _ _ _).mono ?_; rintro e w2 ⟨rfl, rfl⟩)
        | (go_at_call 57; refine (below_any w0 v zs _ P (min (n : Int) 9) ?_ (by omega)).mono ?_; exact c1.kept ⟨rfl, rfl, rfl, Nat.le_refl _, fun _ _ => rfl⟩; rintro e w3 ⟨x, rfl, hx0, hx1, c3, g3⟩; have g3' : w1.grownBy w3 (some P) := ⟨g3.os, g3.tape, g3.output, g3.size, g3.block⟩; have hb3 := (g3'.block _ hsz1 (by simp; omega)).trans hb1; have hc3 : w3.cell? ⟨w.heap.size, 0, none⟩ = some (.slice ao n cap) := cell_of_row w3 _ 0 _ _ _ hb3; have hx := hx1 (by omega)))
      all_goals
        clear hx1
        go_wp2_with fail
        go_ret
        refine ⟨_, rfl, (wrapB _).1, (wrapB _).2, ?_⟩
        exact ⟨c3.kept ⟨rfl, rfl, rfl, Nat.le_refl _, fun _ _ => rfl⟩, grown_trans g1' ⟨g3'.os, g3'.tape, g3'.output, g3'.size, g3'.block⟩⟩
end Go.Proofs.Ytacbhbmjhlgflaa

/-
  The regions of spec.l4Draw that draw their order, each alone: one field of an instruction is turned. No condition.
-/
namespace Go.Proofs.Ytacbhbmjhlgflaa
open Go.RowKit

/-- What there is while code is drawn: the answer's box, the code's variable, its rows, the cursor. -/
structure DX (w0 : World) (v : Value) (zs : List Int) (P : Nat) (w : World) (bx : Nat) (v1 v2 v3 : Value) (ns : List Nd) (is : List In) (ds : List Df) (W : World) : Prop where
  res : W.heap[w.heap.size]? = some (.cells #[.slice none 0 0, .slice none 0 0, .slice none 0 0] 41 (0, 0))
  box : W.heap[bx]? = some (.cells #[v1, v2, v3] 41 (0, 0))
  own : Own3 W (w.heap.size + 1) v1 v2 v3 ns is ds
  cur : Cur w0 v zs W P
  grown : w.grownBy W (some P)
  hP : P < w.heap.size
  hbx : w.heap.size < bx
theorem DX.turn {w0 w W W' : World} {v v1 v2 v3 : Value} {zs : List Int} {P bx : Nat} {ns : List Nd} {is : List In} {ds : List Df} (h : DX w0 v zs P w bx v1 v2 v3 ns is ds W) (c : Cur w0 v zs W' P) (g : W.grownBy W' (some P)) : DX w0 v zs P w bx v1 v2 v3 ns is ds W' :=
  have hP := h.hP
  have hb := h.hbx
  ⟨(g.block _ (Array.getElem?_eq_some_iff.1 h.res).1 (by simp; omega)).trans h.res, (g.block _ (Array.getElem?_eq_some_iff.1 h.box).1 (by simp; omega)).trans h.box,
    ⟨h.own.1.kept g (own_not h.own.1 (by omega)), h.own.2.1.kept g (own_not h.own.2.1 (by omega)), h.own.2.2.kept g (own_not h.own.2.2 (by omega))⟩, c, grown_trans h.grown g, hP, hb⟩
theorem DX.on {w0 w W W' : World} {v v1 v2 v3 : Value} {zs : List Int} {P bx : Nat} {ns : List Nd} {is : List In} {ds : List Df} (h : DX w0 v zs P w bx v1 v2 v3 ns is ds W) (hb : Below W.heap.size W W') : DX w0 v zs P w bx v1 v2 v3 ns is ds W' := by
  obtain ⟨c, g⟩ := draw_done h.cur h.grown (hb.mono h.grown.size) h.hP
  exact ⟨(hb.block _ (Array.getElem?_eq_some_iff.1 h.res).1).trans h.res, (hb.block _ (Array.getElem?_eq_some_iff.1 h.box).1).trans h.box, h.own.below hb, c, g, h.hP, h.hbx⟩
theorem DX.cell1 {w0 w W : World} {v v1 v2 v3 : Value} {zs : List Int} {P bx : Nat} {ns : List Nd} {is : List In} {ds : List Df} (h : DX w0 v zs P w bx v1 v2 v3 ns is ds W) : W.cell? ⟨bx, 1, none⟩ = some v2 := cell_of_row _ _ 1 _ _ _ h.box
theorem DX.cell2 {w0 w W : World} {v v1 v2 v3 : Value} {zs : List Int} {P bx : Nat} {ns : List Nd} {is : List In} {ds : List Df} (h : DX w0 v zs P w bx v1 v2 v3 ns is ds W) : W.cell? ⟨bx, 2, none⟩ = some v3 := cell_of_row _ _ 2 _ _ _ h.box
/-- One field of one instruction is turned. -/
theorem DX.op {w0 w W : World} {v v1 v3 : Value} {zs : List Int} {P bx g2 q2 : Nat} {ns : List Nd} {is : List In} {ds : List Df} (h : DX w0 v zs P w bx v1 (.slice (some ⟨g2, 0, none⟩) is.length q2) v3 ns is ds W) (i j : Nat) (x y : In) (u : Value) (hx : is[i]? = some x) (hj : j < 4) (hy : x.cs.set j u = y.cs) :
    DX w0 v zs P w bx v1 (.slice (some ⟨g2, 0, none⟩) (is.set i y).length q2) v3 ns (is.set i y) ds (W.setCell ⟨g2, i * 4 + j, none⟩ u) := by
  have s := h.own.2.1.stored (i * 4 + j) u
  rw [incs_set is i x y hx j hj u hy] at s
  have hl : is.length = (is.set i y).length := by simp
  have hg := (h.own.2.1.lt g2 rfl).1
  have hB : Below (w.heap.size + 1) W (W.setCell ⟨g2, i * 4 + j, none⟩ u) := (Below.refl _ _).setCell (p := ⟨g2, i * 4 + j, none⟩) hg u
  obtain ⟨c, g⟩ := draw_done h.cur h.grown (hB.mono (by omega)) h.hP
  have ne1 : v1.ownBlock ≠ some g2 := by
    rcases h.own.2.1.2 with ⟨e, _⟩ | ⟨g', cap, cur, e, _, hc, _⟩
    · cases e
    · cases e; exact own_ne h.own.1 hc (by decide)
  have ne3 : v3.ownBlock ≠ some g2 := by
    rcases h.own.2.1.2 with ⟨e, _⟩ | ⟨g', cap, cur, e, _, hc, _⟩
    · cases e
    · cases e; exact own_ne h.own.2.2 hc (by decide)
  have neb : bx ≠ g2 := fun e => own_ne h.own.2.1 h.box (by decide) (by rw [e]; rfl)
  rw [hl] at s
  refine ⟨(hB.block _ (by omega)).trans h.res, ?_, ⟨ownsRow_setCell_other h.own.1 (a := ⟨g2, i * 4 + j, none⟩) ne1 u, s.1, ownsRow_setCell_other h.own.2.2 (a := ⟨g2, i * 4 + j, none⟩) ne3 u⟩, c, g, h.hP, h.hbx⟩
  rw [heap_setCell_other W ⟨g2, i * 4 + j, none⟩ _ _ neb, h.box, hl]
theorem DX.ne {w0 w W : World} {v v1 v3 : Value} {zs : List Int} {P bx g2 q2 : Nat} {ns : List Nd} {is : List In} {ds : List Df} (h : DX w0 v zs P w bx v1 (.slice (some ⟨g2, 0, none⟩) is.length q2) v3 ns is ds W) : bx ≠ g2 := fun e => own_ne h.own.2.1 h.box (by decide) (by rw [e]; rfl)
theorem DX.at {w0 w W : World} {v v1 v3 : Value} {zs : List Int} {P bx g2 q2 : Nat} {ns : List Nd} {is : List In} {ds : List Df} (h : DX w0 v zs P w bx v1 (.slice (some ⟨g2, 0, none⟩) is.length q2) v3 ns is ds W) (i j : Nat) (hi : i < is.length) (hj : j < 4) : (∃ u, W.cell? ⟨g2, i * 4 + j, none⟩ = some u) ∧ W.frozen? ⟨g2, i * 4 + j, none⟩ = false :=
  ⟨⟨_, (h.own.2.1.cellAt (i * 4 + j) (by omega)).trans (List.getElem?_eq_getElem (by rw [incs_length]; omega))⟩, h.own.2.1.frozenAt (i * 4 + j)⟩
theorem far1 {W : World} {b g k j : Nat} {u z : Value} (h : W.cell? ⟨b, j, none⟩ = some u) (hn : b ≠ g) : (W.setCell ⟨g, k, none⟩ z).cell? ⟨b, j, none⟩ = some u := (World.cell?_setCell_far W ⟨g, k, none⟩ ⟨b, j, none⟩ z (fun e => hn e.symm)).trans h
theorem cur_drew {w0 W : World} {v : Value} {zs : List Int} {P : Nat} (c : Cur w0 v zs W P) : Cur w0 v zs W.drew P := c.kept ((Below.refl _ _).drew)
theorem cur_drewA {w0 W : World} {v : Value} {zs : List Int} {P : Nat} (c : Cur w0 v zs W P) (ob : Obj) : Cur w0 v zs (W.alloc ob).drew P := c.kept (((Below.refl _ _).alloc c.lt _).drew)
theorem grown_drew {W W' : World} {P : Nat} (g : W.drew.grownBy W' (some P)) : W.grownBy W' (some P) := draw_step ((Below.refl _ _).drew) g
theorem grown_drewA {W W' : World} {P : Nat} {ob : Obj} (g : (W.alloc ob).drew.grownBy W' (some P)) : W.grownBy W' (some P) := draw_step (((Below.refl _ _).alloc (Nat.le_refl _) _).drew) g

set_option maxRecDepth 100000 in
set_option maxHeartbeats 3200000 in
theorem dd_reg5 {t1 t2 t5 t6 t7 t8 t9 t10 t11 t12 t13 t14 t15 t16 t17 t18 t19 t20 t21 t22 t23 t24 t25 t26 t27 t28 t29 t30 t31 t32 t33 t34 t35 t36 t37 t38 t39 t40 t41 t42 t43 t44 t45 t46 t47 t48 t49 t50 t51 t52 t53 t54 t55 t56 t57 t58 t59 t60 t61 t62 t63 t64 t65 t66 t67 t68 t69 t70 t71 t72 t73 t74 t75 t76 t77 t78 t79 t80 t81 t82 t83 : Value} {fs : List Deferred} (w0 : World) (v : Value) (zs : List Int) (P : Nat) (w : World) (bx : Nat) (v1 v3 : Value) (g2 q2 : Nat) (ns : List Nd) (is : List In) (ds : List Df) (i : Nat) (W : World) (Q : Exit → Act → World → Prop) (D : DX w0 v zs P w bx v1 (.slice (some ⟨g2, 0, none⟩) is.length q2) v3 ns is ds W) (hi : i < is.length)
    (hQ : ∀ u16 u17 u18 u19 u20 u21 u22 y wx, y.s.size ≤ maxLen ∨ is[i]?.map (·.s) = some y.s → DX w0 v zs P w bx v1 (.slice (some ⟨g2, 0, none⟩) (is.set i y).length q2) v3 ns (is.set i y) ds wx → Q .normal ⟨#[.pointer (some ⟨P, 0, none⟩), t1, t2, .pointer (some ⟨bx, 0, none⟩), .int .i64 i, t5, t6, t7, t8, t9, t10, t11, t12, t13, t14, t15, u16, u17, u18, u19, u20, u21, u22, t23, t24, t25, t26, t27, t28, t29, t30, t31, t32, t33, t34, t35, t36, t37, t38, t39, t40, t41, t42, t43, t44, t45, t46, t47, t48, t49, t50, t51, t52, t53, t54, t55, t56, t57, t58, t59, t60, t61, t62, t63, t64, t65, t66, t67, t68, t69, t70, t71, t72, t73, t74, t75, t76, t77, t78, t79, t80, t81, t82, t83], fs⟩ wx) :
    (Code.region 5 #[{ dst := some 16, op := Op.fieldAddr 41 (Operand.tmp 3) 1, type := 0, pos := "l04_code.go:371", after := #[], guard := none }, { dst := some 17, op := Op.load 38 (Operand.tmp 16), type := 38, pos := "l04_code.go:371", after := #[{ on := 0, ground := Ground.data }], guard := none }, { dst := some 18, op := Op.move (Operand.tmp 4), type := 3, pos := "l04_code.go:371", after := #[], guard := none }, { dst := some 19, op := Op.move (Operand.tmp 0), type := 89, pos := "l04_code.go:371", after := #[], guard := none }, { dst := some 20, op := Op.call { callee := Callee.value (Operand.func 57), args := #[Operand.tmp 19, Operand.const (Value.int IntKind.i64 11)], argTypes := #[89, 3] }, type := 3, pos := "l04_code.go:371", after := #[{ on := 3, ground := Ground.data }], guard := none }, { dst := some 21, op := Op.indexAddr 38 (Operand.tmp 17) (Operand.tmp 18), type := 0, pos := "l04_code.go:371", after := #[{ on := 1, ground := Ground.data }, { on := 2, ground := Ground.data }, { on := 0, ground := Ground.phase }, { on := 1, ground := Ground.phase }, { on := 2, ground := Ground.phase }, { on := 3, ground := Ground.phase }, { on := 4, ground := Ground.phase }], guard := none }, { dst := some 22, op := Op.fieldAddr 115 (Operand.tmp 21) 0, type := 0, pos := "l04_code.go:371", after := #[{ on := 5, ground := Ground.data }, { on := 0, ground := Ground.phase }, { on := 1, ground := Ground.phase }, { on := 2, ground := Ground.phase }, { on := 3, ground := Ground.phase }, { on := 4, ground := Ground.phase }], guard := none }, { dst := none, op := Op.store 3 (Operand.tmp 22) (Operand.tmp 20), type := 0, pos := "l04_code.go:371", after := #[{ on := 6, ground := Ground.data }, { on := 4, ground := Ground.data }, { on := 4, ground := Ground.chain }, { on := 0, ground := Ground.phase }, { on := 1, ground := Ground.phase }, { on := 2, ground := Ground.phase }, { on := 3, ground := Ground.phase }, { on := 4, ground := Ground.phase }], guard := none }] true).wp Try.prog Q ⟨#[.pointer (some ⟨P, 0, none⟩), t1, t2, .pointer (some ⟨bx, 0, none⟩), .int .i64 i, t5, t6, t7, t8, t9, t10, t11, t12, t13, t14, t15, t16, t17, t18, t19, t20, t21, t22, t23, t24, t25, t26, t27, t28, t29, t30, t31, t32, t33, t34, t35, t36, t37, t38, t39, t40, t41, t42, t43, t44, t45, t46, t47, t48, t49, t50, t51, t52, t53, t54, t55, t56, t57, t58, t59, t60, t61, t62, t63, t64, t65, t66, t67, t68, t69, t70, t71, t72, t73, t74, t75, t76, t77, t78, t79, t80, t81, t82, t83], fs⟩ W := by
  have hlt : (i : Int) < is.length := by omega
  have hP := D.hP
  have hbx := D.hbx
  have neb := D.ne
  have neP : g2 ≠ P := by have := (D.own.2.1.lt g2 rfl).1; omega
  have bP : bx ≠ P := by omega
  obtain ⟨x, hx⟩ : ∃ x, is[i]? = some x := ⟨is[i], by simp [hi]⟩
  have s0 := D.cell1
  go_region_held3 (fun w' => w'.cell? ⟨bx, 1, none⟩ = some (.slice (some ⟨g2, 0, none⟩) is.length q2)) (first | (with_reducible exact s1) | (with_reducible exact far1 s1 neb) | go_keep) (first
    | (go_at_call 57; with_reducible refine (below_any w0 v zs _ P 11 ?_ (by omega)).mono ?_; (with_reducible exact cur_drew D.cur); rintro e w2 ⟨z, rfl, hz0, hz1, c2, g2'⟩
       have D1 := D.turn c2 (grown_drew g2')
       have s1 := D1.cell1
       obtain ⟨⟨uu, cc⟩, ff⟩ := D1.at i 0 hi (by omega)
       try simp only [Nat.add_zero] at cc ff))
  all_goals
    have D2 := D1.op i 0 x ⟨z, x.n, x.i, x.s⟩ (.int .i64 z) hx (by omega) rfl
    exact hQ _ _ _ _ _ _ _ ⟨z, x.n, x.i, x.s⟩ _ (Or.inr (by rw [hx]; rfl)) D2

set_option maxRecDepth 100000 in
set_option maxHeartbeats 3200000 in
theorem dd_reg9 {t1 t2 t5 t6 t7 t8 t9 t10 t11 t12 t13 t14 t15 t16 t17 t18 t19 t20 t21 t22 t23 t24 t25 t26 t27 t28 t29 t30 t31 t32 t33 t34 t35 t36 t37 t38 t39 t40 t41 t42 t43 t44 t45 t46 t47 t48 t49 t50 t51 t52 t53 t54 t55 t56 t57 t58 t59 t60 t61 t62 t63 t64 t65 t66 t67 t68 t69 t70 t71 t72 t73 t74 t75 t76 t77 t78 t79 t80 t81 t82 t83 : Value} {fs : List Deferred} (w0 : World) (v : Value) (zs : List Int) (P : Nat) (w : World) (bx : Nat) (v1 v3 : Value) (g2 q2 : Nat) (ns : List Nd) (is : List In) (ds : List Df) (i : Nat) (W : World) (Q : Exit → Act → World → Prop) (D : DX w0 v zs P w bx v1 (.slice (some ⟨g2, 0, none⟩) is.length q2) v3 ns is ds W) (hi : i < is.length)
    (hQ : ∀ u45 u46 u47 u48 u49 u50 u51 u52 y wx, y.s.size ≤ maxLen ∨ is[i]?.map (·.s) = some y.s → DX w0 v zs P w bx v1 (.slice (some ⟨g2, 0, none⟩) (is.set i y).length q2) v3 ns (is.set i y) ds wx → Q .normal ⟨#[.pointer (some ⟨P, 0, none⟩), t1, t2, .pointer (some ⟨bx, 0, none⟩), .int .i64 i, t5, t6, t7, t8, t9, t10, t11, t12, t13, t14, t15, t16, t17, t18, t19, t20, t21, t22, t23, t24, t25, t26, t27, t28, t29, t30, t31, t32, t33, t34, t35, t36, t37, t38, t39, t40, t41, t42, t43, t44, u45, u46, u47, u48, u49, u50, u51, u52, t53, t54, t55, t56, t57, t58, t59, t60, t61, t62, t63, t64, t65, t66, t67, t68, t69, t70, t71, t72, t73, t74, t75, t76, t77, t78, t79, t80, t81, t82, t83], fs⟩ wx) :
    (Code.region 9 #[{ dst := some 45, op := Op.fieldAddr 41 (Operand.tmp 3) 1, type := 0, pos := "l04_code.go:375", after := #[], guard := none }, { dst := some 46, op := Op.load 38 (Operand.tmp 45), type := 38, pos := "l04_code.go:375", after := #[{ on := 0, ground := Ground.data }], guard := none }, { dst := some 47, op := Op.move (Operand.tmp 4), type := 3, pos := "l04_code.go:375", after := #[], guard := none }, { dst := some 48, op := Op.move (Operand.tmp 0), type := 89, pos := "l04_code.go:375", after := #[], guard := none }, { dst := some 49, op := Op.call { callee := Callee.value (Operand.func 57), args := #[Operand.tmp 48, Operand.const (Value.int IntKind.i64 7)], argTypes := #[89, 3] }, type := 3, pos := "l04_code.go:375", after := #[{ on := 3, ground := Ground.data }], guard := none }, { dst := some 50, op := Op.binOp BinOp.sub 3 (Operand.tmp 49) (Operand.const (Value.int IntKind.i64 1)) 3, type := 3, pos := "l04_code.go:375", after := #[{ on := 4, ground := Ground.data }], guard := none }, { dst := some 51, op := Op.indexAddr 38 (Operand.tmp 46) (Operand.tmp 47), type := 0, pos := "l04_code.go:375", after := #[{ on := 1, ground := Ground.data }, { on := 2, ground := Ground.data }, { on := 0, ground := Ground.phase }, { on := 1, ground := Ground.phase }, { on := 2, ground := Ground.phase }, { on := 3, ground := Ground.phase }, { on := 4, ground := Ground.phase }, { on := 5, ground := Ground.phase }], guard := none }, { dst := some 52, op := Op.fieldAddr 115 (Operand.tmp 51) 2, type := 0, pos := "l04_code.go:375", after := #[{ on := 6, ground := Ground.data }, { on := 0, ground := Ground.phase }, { on := 1, ground := Ground.phase }, { on := 2, ground := Ground.phase }, { on := 3, ground := Ground.phase }, { on := 4, ground := Ground.phase }, { on := 5, ground := Ground.phase }], guard := none }, { dst := none, op := Op.store 3 (Operand.tmp 52) (Operand.tmp 50), type := 0, pos := "l04_code.go:375", after := #[{ on := 7, ground := Ground.data }, { on := 5, ground := Ground.data }, { on := 4, ground := Ground.chain }, { on := 0, ground := Ground.phase }, { on := 1, ground := Ground.phase }, { on := 2, ground := Ground.phase }, { on := 3, ground := Ground.phase }, { on := 4, ground := Ground.phase }, { on := 5, ground := Ground.phase }], guard := none }] true).wp Try.prog Q ⟨#[.pointer (some ⟨P, 0, none⟩), t1, t2, .pointer (some ⟨bx, 0, none⟩), .int .i64 i, t5, t6, t7, t8, t9, t10, t11, t12, t13, t14, t15, t16, t17, t18, t19, t20, t21, t22, t23, t24, t25, t26, t27, t28, t29, t30, t31, t32, t33, t34, t35, t36, t37, t38, t39, t40, t41, t42, t43, t44, t45, t46, t47, t48, t49, t50, t51, t52, t53, t54, t55, t56, t57, t58, t59, t60, t61, t62, t63, t64, t65, t66, t67, t68, t69, t70, t71, t72, t73, t74, t75, t76, t77, t78, t79, t80, t81, t82, t83], fs⟩ W := by
  have hlt : (i : Int) < is.length := by omega
  have hP := D.hP
  have hbx := D.hbx
  have neb := D.ne
  have neP : g2 ≠ P := by have := (D.own.2.1.lt g2 rfl).1; omega
  have bP : bx ≠ P := by omega
  obtain ⟨x, hx⟩ : ∃ x, is[i]? = some x := ⟨is[i], by simp [hi]⟩
  have s0 := D.cell1
  go_region_held3 (fun w' => w'.cell? ⟨bx, 1, none⟩ = some (.slice (some ⟨g2, 0, none⟩) is.length q2)) (first | (with_reducible exact s1) | (with_reducible exact far1 s1 neb) | go_keep) (first
    | (go_at_call 57; with_reducible refine (below_any w0 v zs _ P 7 ?_ (by omega)).mono ?_; (with_reducible exact cur_drew D.cur); rintro e w2 ⟨z, rfl, hz0, hz1, c2, g2'⟩
       have D1 := D.turn c2 (grown_drew g2')
       have s1 := D1.cell1
       obtain ⟨⟨uu, cc⟩, ff⟩ := D1.at i 2 hi (by omega)
       try simp only [Nat.add_zero] at cc ff))
  all_goals
    have D2 := D1.op i 2 x ⟨x.o, x.n, IntKind.i64.wrap (z - 1), x.s⟩ (.int .i64 (IntKind.i64.wrap (z - 1))) hx (by omega) rfl
    exact hQ _ _ _ _ _ _ _ _ ⟨x.o, x.n, IntKind.i64.wrap (z - 1), x.s⟩ _ (Or.inr (by rw [hx]; rfl)) D2

set_option maxRecDepth 100000 in
set_option maxHeartbeats 3200000 in
theorem dd_reg7 {t1 t2 t5 t6 t7 t8 t9 t10 t11 t12 t13 t14 t15 t16 t17 t18 t19 t20 t21 t22 t23 t24 t25 t26 t27 t28 t29 t30 t31 t32 t33 t34 t35 t36 t37 t38 t39 t40 t41 t42 t43 t44 t45 t46 t47 t48 t49 t50 t51 t52 t53 t54 t55 t56 t57 t58 t59 t60 t61 t62 t63 t64 t65 t66 t67 t68 t69 t70 t71 t72 t73 t74 t75 t76 t77 t78 t79 t80 t81 t82 t83 : Value} {fs : List Deferred} (w0 : World) (v : Value) (zs : List Int) (P : Nat) (w : World) (bx : Nat) (v1 v3 : Value) (g2 q2 : Nat) (ns : List Nd) (is : List In) (ds : List Df) (i : Nat) (W : World) (Q : Exit → Act → World → Prop) (D : DX w0 v zs P w bx v1 (.slice (some ⟨g2, 0, none⟩) is.length q2) v3 ns is ds W) (hi : i < is.length) (hl : is.length ≤ 4000)
    (hQ : ∀ u25 u26 u27 u28 u29 u30 u31 u32 u33 u34 u35 u36 u37 u38 u39 u40 u41 u42 y wx, y.s.size ≤ maxLen ∨ is[i]?.map (·.s) = some y.s → DX w0 v zs P w bx v1 (.slice (some ⟨g2, 0, none⟩) (is.set i y).length q2) v3 ns (is.set i y) ds wx → Q .normal ⟨#[.pointer (some ⟨P, 0, none⟩), t1, t2, .pointer (some ⟨bx, 0, none⟩), .int .i64 i, t5, t6, t7, t8, t9, t10, t11, t12, t13, t14, t15, t16, t17, t18, t19, t20, t21, t22, t23, t24, u25, u26, u27, u28, u29, u30, u31, u32, u33, u34, u35, u36, u37, u38, u39, u40, u41, u42, t43, t44, t45, t46, t47, t48, t49, t50, t51, t52, t53, t54, t55, t56, t57, t58, t59, t60, t61, t62, t63, t64, t65, t66, t67, t68, t69, t70, t71, t72, t73, t74, t75, t76, t77, t78, t79, t80, t81, t82, t83], fs⟩ wx) :
    (Code.region 7 #[{ dst := some 25, op := Op.fieldAddr 41 (Operand.tmp 3) 1, type := 0, pos := "l04_code.go:373", after := #[], guard := none }, { dst := some 26, op := Op.load 38 (Operand.tmp 25), type := 38, pos := "l04_code.go:373", after := #[{ on := 0, ground := Ground.data }], guard := none }, { dst := some 27, op := Op.move (Operand.tmp 4), type := 3, pos := "l04_code.go:373", after := #[], guard := none }, { dst := some 28, op := Op.move (Operand.tmp 0), type := 89, pos := "l04_code.go:373", after := #[], guard := none }, { dst := some 29, op := Op.move (Operand.tmp 4), type := 3, pos := "l04_code.go:373", after := #[], guard := none }, { dst := some 30, op := Op.move (Operand.tmp 4), type := 3, pos := "l04_code.go:373", after := #[], guard := none }, { dst := some 31, op := Op.binOp BinOp.add 3 (Operand.tmp 30) (Operand.const (Value.int IntKind.i64 1)) 3, type := 3, pos := "l04_code.go:373", after := #[{ on := 5, ground := Ground.data }], guard := none }, { dst := some 32, op := Op.fieldAddr 41 (Operand.tmp 3) 1, type := 0, pos := "l04_code.go:373", after := #[], guard := none }, { dst := some 33, op := Op.load 38 (Operand.tmp 32), type := 38, pos := "l04_code.go:373", after := #[{ on := 7, ground := Ground.data }], guard := none }, { dst := some 34, op := Op.call { callee := Callee.builtin Builtin.len, args := #[Operand.tmp 33], argTypes := #[38] }, type := 3, pos := "l04_code.go:373", after := #[{ on := 8, ground := Ground.data }], guard := none }, { dst := some 35, op := Op.fieldAddr 41 (Operand.tmp 3) 1, type := 0, pos := "l04_code.go:373", after := #[], guard := none }, { dst := some 36, op := Op.load 38 (Operand.tmp 35), type := 38, pos := "l04_code.go:373", after := #[{ on := 10, ground := Ground.data }], guard := none }, { dst := some 37, op := Op.call { callee := Callee.builtin Builtin.len, args := #[Operand.tmp 36], argTypes := #[38] }, type := 3, pos := "l04_code.go:373", after := #[{ on := 11, ground := Ground.data }], guard := none }, { dst := some 38, op := Op.binOp BinOp.add 3 (Operand.tmp 37) (Operand.const (Value.int IntKind.i64 1)) 3, type := 3, pos := "l04_code.go:373", after := #[{ on := 12, ground := Ground.data }], guard := none }, { dst := some 39, op := Op.buildSlice 97 6 #[(0, Operand.const (Value.int IntKind.i64 (-1))), (1, Operand.const (Value.int IntKind.i64 0)), (2, Operand.tmp 29), (3, Operand.tmp 31), (4, Operand.tmp 34), (5, Operand.tmp 38)], type := 97, pos := "l04_code.go:373", after := #[{ on := 4, ground := Ground.data }, { on := 6, ground := Ground.data }, { on := 9, ground := Ground.data }, { on := 13, ground := Ground.data }], guard := none }, { dst := some 40, op := Op.call { callee := Callee.value (Operand.func 56), args := #[Operand.tmp 28, Operand.tmp 39], argTypes := #[89, 97] }, type := 3, pos := "l04_code.go:373", after := #[{ on := 3, ground := Ground.data }, { on := 14, ground := Ground.data }], guard := none }, { dst := some 41, op := Op.indexAddr 38 (Operand.tmp 26) (Operand.tmp 27), type := 0, pos := "l04_code.go:373", after := #[{ on := 1, ground := Ground.data }, { on := 2, ground := Ground.data }, { on := 0, ground := Ground.phase }, { on := 1, ground := Ground.phase }, { on := 2, ground := Ground.phase }, { on := 3, ground := Ground.phase }, { on := 4, ground := Ground.phase }, { on := 5, ground := Ground.phase }, { on := 6, ground := Ground.phase }, { on := 7, ground := Ground.phase }, { on := 8, ground := Ground.phase }, { on := 9, ground := Ground.phase }, { on := 10, ground := Ground.phase }, { on := 11, ground := Ground.phase }, { on := 12, ground := Ground.phase }, { on := 13, ground := Ground.phase }, { on := 14, ground := Ground.phase }, { on := 15, ground := Ground.phase }], guard := none }, { dst := some 42, op := Op.fieldAddr 115 (Operand.tmp 41) 1, type := 0, pos := "l04_code.go:373", after := #[{ on := 16, ground := Ground.data }, { on := 0, ground := Ground.phase }, { on := 1, ground := Ground.phase }, { on := 2, ground := Ground.phase }, { on := 3, ground := Ground.phase }, { on := 4, ground := Ground.phase }, { on := 5, ground := Ground.phase }, { on := 6, ground := Ground.phase }, { on := 7, ground := Ground.phase }, { on := 8, ground := Ground.phase }, { on := 9, ground := Ground.phase }, { on := 10, ground := Ground.phase }, { on := 11, ground := Ground.phase }, { on := 12, ground := Ground.phase }, { on := 13, ground := Ground.phase }, { on := 14, ground := Ground.phase }, { on := 15, ground := Ground.phase }], guard := none }, { dst := none, op := Op.store 3 (Operand.tmp 42) (Operand.tmp 40), type := 0, pos := "l04_code.go:373", after := #[{ on := 17, ground := Ground.data }, { on := 15, ground := Ground.data }, { on := 15, ground := Ground.chain }, { on := 0, ground := Ground.phase }, { on := 1, ground := Ground.phase }, { on := 2, ground := Ground.phase }, { on := 3, ground := Ground.phase }, { on := 4, ground := Ground.phase }, { on := 5, ground := Ground.phase }, { on := 6, ground := Ground.phase }, { on := 7, ground := Ground.phase }, { on := 8, ground := Ground.phase }, { on := 9, ground := Ground.phase }, { on := 10, ground := Ground.phase }, { on := 11, ground := Ground.phase }, { on := 12, ground := Ground.phase }, { on := 13, ground := Ground.phase }, { on := 14, ground := Ground.phase }, { on := 15, ground := Ground.phase }], guard := none }] true).wp Try.prog Q ⟨#[.pointer (some ⟨P, 0, none⟩), t1, t2, .pointer (some ⟨bx, 0, none⟩), .int .i64 i, t5, t6, t7, t8, t9, t10, t11, t12, t13, t14, t15, t16, t17, t18, t19, t20, t21, t22, t23, t24, t25, t26, t27, t28, t29, t30, t31, t32, t33, t34, t35, t36, t37, t38, t39, t40, t41, t42, t43, t44, t45, t46, t47, t48, t49, t50, t51, t52, t53, t54, t55, t56, t57, t58, t59, t60, t61, t62, t63, t64, t65, t66, t67, t68, t69, t70, t71, t72, t73, t74, t75, t76, t77, t78, t79, t80, t81, t82, t83], fs⟩ W := by
  have hlt : (i : Int) < is.length := by omega
  have hP := D.hP
  have hbx := D.hbx
  have neb := D.ne
  have neP : g2 ≠ P := by have := (D.own.2.1.lt g2 rfl).1; omega
  have bP : bx ≠ P := by omega
  obtain ⟨x, hx⟩ : ∃ x, is[i]? = some x := ⟨is[i], by simp [hi]⟩
  have s0 := D.cell1
  have hWP : W.heap.size ≠ P := by have := D.cur.lt; omega
  have hw1 := wrapB ((i : Int) + 1)
  have hw2 := wrapB ((is.length : Int) + 1)
  go_region_held3 (fun w' => w'.cell? ⟨bx, 1, none⟩ = some (.slice (some ⟨g2, 0, none⟩) is.length q2)) (first | (with_reducible exact s1) | (with_reducible exact far1 s1 neb) | go_keep) (first
    | (go_at_call 56; refine (pick_any w0 v zs _ P W.heap.size 6 [-1, 0, (i : Int), IntKind.i64.wrap ((i : Int) + 1), (is.length : Int), IntKind.i64.wrap ((is.length : Int) + 1)] ?_ (by omega) (by simp) (by simp) ?_ ?_).mono ?_; (with_reducible exact cur_drewA D.cur _); (intro x hx; simp only [List.mem_cons, List.not_mem_nil, or_false] at hx; omega); (intro j hj; exact ints_new W [-1, 0, (i : Int), IntKind.i64.wrap ((i : Int) + 1), (is.length : Int), IntKind.i64.wrap ((is.length : Int) + 1)] 3 j hj); rintro e w2 ⟨z, rfl, hz0, hz1, c2, g2'⟩
       have D1 := D.turn c2 (grown_drewA g2')
       have s1 := D1.cell1
       obtain ⟨⟨uu, cc⟩, ff⟩ := D1.at i 1 hi (by omega)
       try simp only [Nat.add_zero] at cc ff))
  all_goals
    have D2 := D1.op i 1 x ⟨x.o, z, x.i, x.s⟩ (.int .i64 z) hx (by omega) rfl
    exact hQ _ _ _ _ _ _ _ _ _ _ _ _ _ _ _ _ _ _ ⟨x.o, z, x.i, x.s⟩ _ (Or.inr (by rw [hx]; rfl)) D2

set_option maxRecDepth 100000 in
set_option maxHeartbeats 3200000 in
theorem dd_reg11 {t1 t2 t5 t6 t7 t8 t9 t10 t11 t12 t13 t14 t15 t16 t17 t18 t19 t20 t21 t22 t23 t24 t25 t26 t27 t28 t29 t30 t31 t32 t33 t34 t35 t36 t37 t38 t39 t40 t41 t42 t43 t44 t45 t46 t47 t48 t49 t50 t51 t52 t53 t54 t55 t56 t57 t58 t59 t60 t61 t62 t63 t64 t65 t66 t67 t68 t69 t70 t71 t72 t73 t74 t75 t76 t77 t78 t79 t80 t81 t82 t83 : Value} {fs : List Deferred} (w0 : World) (v : Value) (zs : List Int) (P : Nat) (w : World) (bx : Nat) (v1 v3 : Value) (g2 q2 : Nat) (ns : List Nd) (is : List In) (ds : List Df) (i : Nat) (W : World) (Q : Exit → Act → World → Prop) (D : DX w0 v zs P w bx v1 (.slice (some ⟨g2, 0, none⟩) is.length q2) v3 ns is ds W) (hi : i < is.length)
    (hQ : ∀ u55 u56 u57 u58 u59 u60 u61 u62 y wx, y.s.size ≤ maxLen ∨ is[i]?.map (·.s) = some y.s → DX w0 v zs P w bx v1 (.slice (some ⟨g2, 0, none⟩) (is.set i y).length q2) v3 ns (is.set i y) ds wx → Q .normal ⟨#[.pointer (some ⟨P, 0, none⟩), t1, t2, .pointer (some ⟨bx, 0, none⟩), .int .i64 i, t5, t6, t7, t8, t9, t10, t11, t12, t13, t14, t15, t16, t17, t18, t19, t20, t21, t22, t23, t24, t25, t26, t27, t28, t29, t30, t31, t32, t33, t34, t35, t36, t37, t38, t39, t40, t41, t42, t43, t44, t45, t46, t47, t48, t49, t50, t51, t52, t53, t54, u55, u56, u57, u58, u59, u60, u61, u62, t63, t64, t65, t66, t67, t68, t69, t70, t71, t72, t73, t74, t75, t76, t77, t78, t79, t80, t81, t82, t83], fs⟩ wx) :
    (Code.region 11 #[{ dst := some 55, op := Op.fieldAddr 41 (Operand.tmp 3) 1, type := 0, pos := "l04_code.go:377", after := #[], guard := none }, { dst := some 56, op := Op.load 38 (Operand.tmp 55), type := 38, pos := "l04_code.go:377", after := #[{ on := 0, ground := Ground.data }], guard := none }, { dst := some 57, op := Op.move (Operand.tmp 4), type := 3, pos := "l04_code.go:377", after := #[], guard := none }, { dst := some 58, op := Op.move (Operand.tmp 0), type := 89, pos := "l04_code.go:377", after := #[], guard := none }, { dst := some 59, op := Op.buildSlice 93 3 #[(0, Operand.const (Value.string { data := #[] })), (1, Operand.const (Value.string { data := #[97] })), (2, Operand.const (Value.string { data := #[65] }))], type := 93, pos := "l04_code.go:377", after := #[], guard := none }, { dst := some 60, op := Op.call { callee := Callee.value (Operand.func 52), args := #[Operand.tmp 58, Operand.tmp 59], argTypes := #[89, 93] }, type := 9, pos := "l04_code.go:377", after := #[{ on := 3, ground := Ground.data }, { on := 4, ground := Ground.data }], guard := none }, { dst := some 61, op := Op.indexAddr 38 (Operand.tmp 56) (Operand.tmp 57), type := 0, pos := "l04_code.go:377", after := #[{ on := 1, ground := Ground.data }, { on := 2, ground := Ground.data }, { on := 0, ground := Ground.phase }, { on := 1, ground := Ground.phase }, { on := 2, ground := Ground.phase }, { on := 3, ground := Ground.phase }, { on := 4, ground := Ground.phase }, { on := 5, ground := Ground.phase }], guard := none }, { dst := some 62, op := Op.fieldAddr 115 (Operand.tmp 61) 3, type := 0, pos := "l04_code.go:377", after := #[{ on := 6, ground := Ground.data }, { on := 0, ground := Ground.phase }, { on := 1, ground := Ground.phase }, { on := 2, ground := Ground.phase }, { on := 3, ground := Ground.phase }, { on := 4, ground := Ground.phase }, { on := 5, ground := Ground.phase }], guard := none }, { dst := none, op := Op.store 9 (Operand.tmp 62) (Operand.tmp 60), type := 0, pos := "l04_code.go:377", after := #[{ on := 7, ground := Ground.data }, { on := 5, ground := Ground.data }, { on := 5, ground := Ground.chain }, { on := 0, ground := Ground.phase }, { on := 1, ground := Ground.phase }, { on := 2, ground := Ground.phase }, { on := 3, ground := Ground.phase }, { on := 4, ground := Ground.phase }, { on := 5, ground := Ground.phase }], guard := none }] true).wp Try.prog Q ⟨#[.pointer (some ⟨P, 0, none⟩), t1, t2, .pointer (some ⟨bx, 0, none⟩), .int .i64 i, t5, t6, t7, t8, t9, t10, t11, t12, t13, t14, t15, t16, t17, t18, t19, t20, t21, t22, t23, t24, t25, t26, t27, t28, t29, t30, t31, t32, t33, t34, t35, t36, t37, t38, t39, t40, t41, t42, t43, t44, t45, t46, t47, t48, t49, t50, t51, t52, t53, t54, t55, t56, t57, t58, t59, t60, t61, t62, t63, t64, t65, t66, t67, t68, t69, t70, t71, t72, t73, t74, t75, t76, t77, t78, t79, t80, t81, t82, t83], fs⟩ W := by
  have hlt : (i : Int) < is.length := by omega
  have hP := D.hP
  have hbx := D.hbx
  have neb := D.ne
  have neP : g2 ≠ P := by have := (D.own.2.1.lt g2 rfl).1; omega
  have bP : bx ≠ P := by omega
  obtain ⟨x, hx⟩ : ∃ x, is[i]? = some x := ⟨is[i], by simp [hi]⟩
  have s0 := D.cell1
  have hWP : W.heap.size ≠ P := by have := D.cur.lt; omega
  go_region_held3 (fun w' => w'.cell? ⟨bx, 1, none⟩ = some (.slice (some ⟨g2, 0, none⟩) is.length q2)) (first | (with_reducible exact s1) | (with_reducible exact far1 s1 neb) | go_keep) (first
    | (go_at_call 52; refine (picks_any w0 v zs _ P W.heap.size 3 [ByteArray.mk #[], ByteArray.mk #[97], ByteArray.mk #[65]] ?_ (by omega) (by decide) (by decide) ?_).mono ?_; (with_reducible exact cur_drewA D.cur _); (intro j hj; exact strs_new W [ByteArray.mk #[], ByteArray.mk #[97], ByteArray.mk #[65]] 9 j hj); rintro e w2 ⟨z, hz, rfl, c2, g2'⟩
       have D1 := D.turn c2 (grown_drewA g2')
       have s1 := D1.cell1
       obtain ⟨⟨uu, cc⟩, ff⟩ := D1.at i 3 hi (by omega)
       try simp only [Nat.add_zero] at cc ff))
  all_goals
    have D2 := D1.op i 3 x ⟨x.o, x.n, x.i, z⟩ (.string z) hx (by omega) rfl
    exact hQ _ _ _ _ _ _ _ _ ⟨x.o, x.n, x.i, z⟩ _ (Or.inl (by simp only [List.mem_cons, List.not_mem_nil, or_false] at hz; rcases hz with rfl | rfl | rfl <;> (unfold maxLen; simp [ByteArray.size]))) D2

end Go.Proofs.Ytacbhbmjhlgflaa

/-
  The region of spec.l4Draw that draws one definition more. No condition.
-/
namespace Go.Proofs.Ytacbhbmjhlgflaa
open Go.RowKit

theorem DX.def {w0 w W W' : World} {v v1 v2 v3 v3' : Value} {zs : List Int} {P bx : Nat} {ns : List Nd} {is : List In} {ds ds' : List Df} (h : DX w0 v zs P w bx v1 v2 v3 ns is ds W) (ho : W'.ownsRow (w.heap.size + 1) 60 3 v3' ds'.length (dfcs ds')) (hg : W.grownBy W' v3.ownBlock) :
    DX w0 v zs P w bx v1 v2 v3' ns is ds' (W'.setCell ⟨bx, 2, none⟩ v3') := by
  have hP := h.hP
  have hb := h.hbx
  have n1 : v3.ownBlock ≠ some w.heap.size := own_ne h.own.2.2 h.res (by decide)
  have n2 : v3.ownBlock ≠ some bx := own_ne h.own.2.2 h.box (by decide)
  have hB : Below w.heap.size W W' := (Below.refl _ _).grown hg h.grown.size (fun k hk => by have := (h.own.2.2.lt k hk).1; omega)
  have hb' := (hg.block _ (Array.getElem?_eq_some_iff.1 h.box).1 (fun e => n2 e.symm)).trans h.box
  have hr' := (hg.block _ (Array.getElem?_eq_some_iff.1 h.res).1 (fun e => n1 e.symm)).trans h.res
  have hB2 := hB.setCell (p := ⟨bx, 2, none⟩) (Nat.le_of_lt hb) v3'
  obtain ⟨c, g⟩ := draw_done h.cur h.grown hB2 hP
  have k1 : v1.ownBlock = none ∨ v1.ownBlock ≠ v3.ownBlock := by
    rcases h.own.1.2 with ⟨rfl, _⟩ | ⟨g1, cap1, cur1, rfl, _, hc1, _⟩
    · exact Or.inl rfl
    · exact Or.inr fun e => own_ne h.own.2.2 hc1 (by decide) e.symm
  have k2 : v2.ownBlock = none ∨ v2.ownBlock ≠ v3.ownBlock := by
    rcases h.own.2.1.2 with ⟨rfl, _⟩ | ⟨g1, cap1, cur1, rfl, _, hc1, _⟩
    · exact Or.inl rfl
    · exact Or.inr fun e => own_ne h.own.2.2 hc1 (by decide) e.symm
  have p1 := h.own.1.kept hg k1
  have p2 := h.own.2.1.kept hg k2
  exact ⟨(heap_setCell_other W' ⟨bx, 2, none⟩ _ _ (by simp; omega)).trans hr', heap_setCell_same W' bx 2 _ _ v3' hb',
    ⟨ownsRow_setCell_other p1 (a := ⟨bx, 2, none⟩) (own_ne p1 hb' (by decide)) v3', ownsRow_setCell_other p2 (a := ⟨bx, 2, none⟩) (own_ne p2 hb' (by decide)) v3', ownsRow_setCell_other ho (a := ⟨bx, 2, none⟩) (own_ne ho hb' (by decide)) v3'⟩, c, g, hP, hb⟩

set_option maxRecDepth 100000 in
set_option maxHeartbeats 3200000 in
theorem dd_reg13 {t1 t2 t4 t5 t6 t7 t8 t9 t10 t11 t12 t13 t14 t15 t16 t17 t18 t19 t20 t21 t22 t23 t24 t25 t26 t27 t28 t29 t30 t31 t32 t33 t34 t35 t36 t37 t38 t39 t40 t41 t42 t43 t44 t45 t46 t47 t48 t49 t50 t51 t52 t53 t54 t55 t56 t57 t58 t59 t60 t61 t62 t63 t64 t65 t66 t67 t68 t69 t70 t71 t72 t73 t74 t75 t76 t77 t78 t79 t80 t81 t82 t83 : Value} {fs : List Deferred} (w0 : World) (v : Value) (zs : List Int) (P : Nat) (w : World) (bx : Nat) (v1 v2 : Value) (a3 : Option Addr) (q3 : Nat) (ns : List Nd) (is : List In) (ds : List Df) (W : World) (Q : Exit → Act → World → Prop) (D : DX w0 v zs P w bx v1 v2 (.slice a3 ds.length q3) ns is ds W) (hl : ds.length ≤ 4000)
    (hQ : ∀ u65 u66 u67 u68 u69 u70 u71 u72 u73 u74 u75 u76 u77 v3' y wx, y.s.size ≤ maxLen → DX w0 v zs P w bx v1 v2 v3' ns is (ds ++ [y]) wx → Q .normal ⟨#[.pointer (some ⟨P, 0, none⟩), t1, t2, .pointer (some ⟨bx, 0, none⟩), t4, t5, t6, t7, t8, t9, t10, t11, t12, t13, t14, t15, t16, t17, t18, t19, t20, t21, t22, t23, t24, t25, t26, t27, t28, t29, t30, t31, t32, t33, t34, t35, t36, t37, t38, t39, t40, t41, t42, t43, t44, t45, t46, t47, t48, t49, t50, t51, t52, t53, t54, t55, t56, t57, t58, t59, t60, t61, t62, t63, t64, u65, u66, u67, u68, u69, u70, u71, u72, u73, u74, u75, u76, u77, t78, t79, t80, t81, t82, t83], fs⟩ wx) :
    (Code.region 13 #[{ dst := some 65, op := Op.fieldAddr 41 (Operand.tmp 3) 2, type := 0, pos := "l04_code.go:379", after := #[], guard := none }, { dst := some 66, op := Op.load 39 (Operand.tmp 65), type := 39, pos := "l04_code.go:379", after := #[{ on := 0, ground := Ground.data }], guard := none }, { dst := some 67, op := Op.move (Operand.tmp 0), type := 89, pos := "l04_code.go:379", after := #[], guard := none }, { dst := some 68, op := Op.buildSlice 93 4 #[(0, Operand.const (Value.string { data := #[102] })), (1, Operand.const (Value.string { data := #[109, 97, 105, 110] })), (2, Operand.const (Value.string { data := #[122, 122] })), (3, Operand.const (Value.string { data := #[65] }))], type := 93, pos := "l04_code.go:379", after := #[], guard := none }, { dst := some 69, op := Op.call { callee := Callee.value (Operand.func 52), args := #[Operand.tmp 67, Operand.tmp 68], argTypes := #[89, 93] }, type := 9, pos := "l04_code.go:379", after := #[{ on := 2, ground := Ground.data }, { on := 3, ground := Ground.data }], guard := none }, { dst := some 70, op := Op.move (Operand.tmp 0), type := 89, pos := "l04_code.go:379", after := #[], guard := none }, { dst := some 71, op := Op.call { callee := Callee.value (Operand.func 57), args := #[Operand.tmp 70, Operand.const (Value.int IntKind.i64 60)], argTypes := #[89, 3] }, type := 3, pos := "l04_code.go:379", after := #[{ on := 5, ground := Ground.data }, { on := 4, ground := Ground.chain }], guard := none }, { dst := some 72, op := Op.move (Operand.tmp 0), type := 89, pos := "l04_code.go:379", after := #[], guard := none }, { dst := some 73, op := Op.call { callee := Callee.value (Operand.func 57), args := #[Operand.tmp 72, Operand.const (Value.int IntKind.i64 6)], argTypes := #[89, 3] }, type := 3, pos := "l04_code.go:379", after := #[{ on := 7, ground := Ground.data }, { on := 6, ground := Ground.chain }], guard := none }, { dst := some 74, op := Op.build 60 #[(0, Operand.tmp 69), (1, Operand.tmp 71), (2, Operand.tmp 73)], type := 60, pos := "l04_code.go:379", after := #[{ on := 4, ground := Ground.data }, { on := 6, ground := Ground.data }, { on := 8, ground := Ground.data }], guard := none }, { dst := some 75, op := Op.buildSlice 39 1 #[(0, Operand.tmp 74)], type := 39, pos := "l04_code.go:379", after := #[{ on := 9, ground := Ground.data }], guard := none }, { dst := some 76, op := Op.call { callee := Callee.builtin Builtin.append, args := #[Operand.tmp 66, Operand.tmp 75], argTypes := #[39, 39] }, type := 39, pos := "l04_code.go:379", after := #[{ on := 1, ground := Ground.data }, { on := 10, ground := Ground.data }, { on := 8, ground := Ground.chain }], guard := none }, { dst := some 77, op := Op.fieldAddr 41 (Operand.tmp 3) 2, type := 0, pos := "l04_code.go:379", after := #[{ on := 0, ground := Ground.phase }, { on := 1, ground := Ground.phase }, { on := 2, ground := Ground.phase }, { on := 3, ground := Ground.phase }, { on := 4, ground := Ground.phase }, { on := 5, ground := Ground.phase }, { on := 6, ground := Ground.phase }, { on := 7, ground := Ground.phase }, { on := 8, ground := Ground.phase }, { on := 9, ground := Ground.phase }, { on := 10, ground := Ground.phase }, { on := 11, ground := Ground.phase }], guard := none }, { dst := none, op := Op.store 39 (Operand.tmp 77) (Operand.tmp 76), type := 0, pos := "l04_code.go:379", after := #[{ on := 12, ground := Ground.data }, { on := 11, ground := Ground.data }, { on := 11, ground := Ground.chain }, { on := 0, ground := Ground.phase }, { on := 1, ground := Ground.phase }, { on := 2, ground := Ground.phase }, { on := 3, ground := Ground.phase }, { on := 4, ground := Ground.phase }, { on := 5, ground := Ground.phase }, { on := 6, ground := Ground.phase }, { on := 7, ground := Ground.phase }, { on := 8, ground := Ground.phase }, { on := 9, ground := Ground.phase }, { on := 10, ground := Ground.phase }, { on := 11, ground := Ground.phase }], guard := none }] true).wp Try.prog Q ⟨#[.pointer (some ⟨P, 0, none⟩), t1, t2, .pointer (some ⟨bx, 0, none⟩), t4, t5, t6, t7, t8, t9, t10, t11, t12, t13, t14, t15, t16, t17, t18, t19, t20, t21, t22, t23, t24, t25, t26, t27, t28, t29, t30, t31, t32, t33, t34, t35, t36, t37, t38, t39, t40, t41, t42, t43, t44, t45, t46, t47, t48, t49, t50, t51, t52, t53, t54, t55, t56, t57, t58, t59, t60, t61, t62, t63, t64, t65, t66, t67, t68, t69, t70, t71, t72, t73, t74, t75, t76, t77, t78, t79, t80, t81, t82, t83], fs⟩ W := by
  obtain ⟨i0, hi, hz0, hz1, hz2⟩ := info_parts Try.infoDf
  have hP := D.hP
  have hbx := D.hbx
  have hWP : W.heap.size ≠ P := by have := D.cur.lt; omega
  have s0 := D.cell2
  have lb : bx < W.heap.size := (Array.getElem?_eq_some_iff.1 D.box).1
  have ls : ∀ ob : Obj, (W.alloc ob).cell? ⟨bx, 2, none⟩ = some (.slice a3 ds.length q3) := fun ob => (D.on ((Below.refl _ _).alloc (Nat.le_refl _) ob)).cell2
  refine wp_region_noPanic ?_
  go_region_law (first
    | (go_simp; go_at_call 52; refine (picks_any w0 v zs _ P W.heap.size 4 [ByteArray.mk #[102], ByteArray.mk #[109, 97, 105, 110], ByteArray.mk #[122, 122], ByteArray.mk #[65]] ?_ (by omega) (by decide) (by decide) ?_).mono ?_; (with_reducible exact cur_drewA D.cur _); (intro j hj; exact strs_new W [ByteArray.mk #[102], ByteArray.mk #[109, 97, 105, 110], ByteArray.mk #[122, 122], ByteArray.mk #[65]] 9 j hj); rintro e w2 ⟨s, hs, rfl, c2, g2⟩
       have D1 := D.turn c2 (grown_drewA g2)
       have s1 := D1.cell2)
    | (go_simp; go_at_call 57; with_reducible refine (below_any w0 v zs _ P 60 D1.cur (by omega)).mono ?_; rintro e w3 ⟨z1, rfl, _, _, c3, g3⟩
       have D2 := D1.turn c3 g3
       have s2 := D2.cell2)
    | (go_simp; go_at_call 57; with_reducible refine (below_any w0 v zs _ P 6 D2.cur (by omega)).mono ?_; rintro e w4 ⟨z2, rfl, _, _, c4, g4⟩
       have D3 := D2.turn c4 g4
       have s3 := D3.cell2
       have lb4 : bx < w4.heap.size := (Array.getElem?_eq_some_iff.1 D3.box).1
       have hn4 := heap_alloc_new w4 (Obj.cells #[.string s, .int .i64 z1, .int .i64 z2] 60)
       have D4 := D3.on ((Below.refl _ _).alloc (Nat.le_refl _) (Obj.cells #[.string s, .int .i64 z1, .int .i64 z2] 60))
       have hbs := D4.grown.size)
    | (refine step_append_lies _ rfl _ _ 39 rfl (w.heap.size + 1) 60 i0 _ 3 32 Try.underlying39 hi hz0 hz1 hz2 rfl (by decide) _ _ _ rfl D4.own.2.2 ⟨w4.heap.size, 0, none⟩ 1 1 (dfcs [⟨s, z1, z2⟩]) rfl rfl (World.news_of_block (cs := #[.string s, .int .i64 z1, .int .i64 z2]) (t := 60) (fr := (0, 0)) hn4) (dfcs_one _) (by omega) (by unfold maxLen; omega) (by omega) (by have := (Array.getElem?_eq_some_iff.1 D4.box).1; omega) (w4.heap.size + 1) (by simp) ?_
       intro g capg w5 hown hgrow hat hgl
       have n2 := own_ne D4.own.2.2 D4.box (by decide)
       have hb5 := (hgrow.block _ (Array.getElem?_eq_some_iff.1 D4.box).1 (fun e => n2 e.symm)).trans D4.box
       have s5 : w5.cell? ⟨bx, 2, none⟩ = some (.slice a3 ds.length q3) := cell_of_row _ _ 2 _ _ _ hb5
       have f5 : w5.frozen? ⟨bx, 2, none⟩ = false := frozen_of_row _ _ 2 _ _ hb5))
  all_goals
    have hown2 : w5.ownsRow (w.heap.size + 1) 60 3 (.slice (some ⟨g, 0, none⟩) (ds.length + 1) capg) (ds ++ [(⟨s, z1, z2⟩ : Df)]).length (dfcs (ds ++ [(⟨s, z1, z2⟩ : Df)])) := by
      rw [dfcs_append, List.length_append]
      exact hown
    have hsz : s.size ≤ maxLen := by
      simp only [List.mem_cons, List.not_mem_nil, or_false] at hs
      unfold maxLen
      rcases hs with rfl | rfl | rfl | rfl <;> simp [ByteArray.size]
    exact NoPanic.normal <| hQ _ _ _ _ _ _ _ _ _ _ _ _ _ _ ⟨s, z1, z2⟩ _ hsz (D4.def hown2 hgrow)
end Go.Proofs.Ytacbhbmjhlgflaa

/-
  The contract of spec.l4Draw: some code, in rows of the call's own; nothing else is turned but the cursor. No condition.
-/
namespace Go.Proofs.Ytacbhbmjhlgflaa
open Go.RowKit

/-- How much drawn code has. -/
structure Sz3 (ns : List Nd) (is : List In) (ds : List Df) : Prop where
  l1 : ns.length ≤ 3001
  l2 : is.length ≤ 400
  l3 : ds.length ≤ 21
  z1 : ∀ x ∈ ns, x.s.size ≤ maxLen
  z2 : ∀ x ∈ is, x.s.size ≤ maxLen
  z3 : ∀ x ∈ ds, x.s.size ≤ maxLen
  ne : is ≠ []
theorem Sz3.set {ns : List Nd} {is : List In} {ds : List Df} (h : Sz3 ns is ds) (i : Nat) (y : In) (hy : y.s.size ≤ maxLen ∨ is[i]?.map (·.s) = some y.s) : Sz3 ns (is.set i y) ds := by
  refine ⟨h.l1, by rw [List.length_set]; exact h.l2, h.l3, h.z1, ?_, h.z3, fun e => h.ne (by have := congrArg List.length e; simp at this; exact this)⟩
  intro x hx
  rcases List.mem_or_eq_of_mem_set hx with hx | rfl
  · exact h.z2 x hx
  · rcases hy with hy | hy
    · exact hy
    · cases hq : is[i]? with
      | none => rw [hq] at hy; cases hy
      | some z =>
        rw [hq] at hy
        have e : z.s = x.s := by simpa using hy
        rw [← e]
        exact h.z2 z (List.mem_of_getElem? hq)
theorem empty_sz {s : ByteArray} (h : (s.toList == []) = true) : s.size ≤ 12 := by
  have e : s.toList = [] := by simpa using h
  rw [ByteArray.toList_eq] at e
  have := congrArg List.length e
  rw [Array.length_toList] at this
  have h0 : s.size = 0 := this
  omega
theorem nameB_sz {s : ByteArray} (h : nameB s = true) : s.size ≤ 12 := by
  simp only [nameB, Bool.and_eq_true, decide_eq_true_eq] at h
  exact h.1.2
theorem instrB_sz {x : In} {i : Int} {n1 n2 : Nat} (h : instrB x i n1 n2 = true) : x.s.size ≤ 12 := by
  unfold instrB at h
  repeat' split at h
  all_goals try simp only [litB, varB, globalB, wayB, funB, callB, bareB, Bool.and_eq_true] at h
  · exact empty_sz h.1.1.2
  · exact empty_sz h.1.1.1.1
  · exact nameB_sz h.2
  · exact empty_sz h.1.1.2
  · exact empty_sz h.1.1.2
  · exact empty_sz h.1.1.1.1
  · exact empty_sz h.1.1.2
  · exact empty_sz h.2
  · exact empty_sz h.2
  · cases h
theorem insB_sz : ∀ (is : List In) (i n1 n2 : Nat), insB is i n1 n2 = true → ∀ x ∈ is, x.s.size ≤ 12
  | [], _, _, _, _, x, hx => by cases hx
  | y :: is, i, n1, n2, h, x, hx => by
    simp only [insB, Bool.and_eq_true] at h
    rcases List.mem_cons.1 hx with rfl | hx
    · exact instrB_sz h.1
    · exact insB_sz is (i + 1) n1 n2 h.2 x hx
theorem dfsB_sz : ∀ (all ds : List Df) (n2 i : Nat), dfsB all n2 ds i = true → ∀ x ∈ ds, x.s.size ≤ 12
  | _, [], _, _, _, x, hx => by cases hx
  | all, y :: ds, n2, i, h, x, hx => by
    simp only [dfsB, Bool.and_eq_true] at h
    rcases List.mem_cons.1 hx with rfl | hx
    · simp only [dfB, Bool.and_eq_true] at h
      exact nameB_sz h.1.1.1.1
    · exact dfsB_sz all ds n2 (i + 1) h.2 x hx
theorem codeB_sz {ns : List Nd} {is : List In} {ds : List Df} (h : codeB ns is ds = true) (hn : is ≠ []) : Sz3 ns is ds ∧ ds.length ≤ 20 := by
  simp only [codeB, Bool.and_eq_true, decide_eq_true_eq] at h
  obtain ⟨⟨hp, h2, h3⟩, h4, h5⟩ := h
  have := poolB_len hp
  have hm : ∀ n : Nat, n ≤ 12 → n ≤ maxLen := fun n h => by unfold maxLen; omega
  exact ⟨⟨by omega, h2, by omega, poolB_sz hp, fun x hx => hm _ (insB_sz is 0 _ _ h3 x hx), fun x hx => hm _ (dfsB_sz ds ds _ 0 h5 x hx), hn⟩, h4⟩

set_option maxRecDepth 100000 in
set_option maxHeartbeats 6400000 in
theorem d4draw_any (w0 : World) (v : Value) (zs : List Int) (P : Nat) (w : World) (c : Cur w0 v zs w P) :
    Calls Try.prog 51 #[.pointer (some ⟨P, 0, none⟩)] w fun e w' => ∃ v1 v2 v3 ns is ds, e = .returned (.agg #[v1, v2, v3]) ∧ Sz3 ns is ds ∧ Own3 w' w.heap.size v1 v2 v3 ns is ds ∧ Cur w0 v zs w' P ∧ w.grownBy w' (some P) := by
  have hP := c.lt
  have hB0 : Below w.heap.size w (w.alloc (Obj.cells #[.slice none 0 0, .slice none 0 0, .slice none 0 0] 41)) := (Below.refl _ _).alloc (Nat.le_refl _) _
  have c0 := c.kept (hB0.mono (show P + 1 ≤ w.heap.size by omega))
  have hr0 := heap_alloc_new w (Obj.cells #[.slice none 0 0, .slice none 0 0, .slice none 0 0] 41)
  have hsz : (w.alloc (Obj.cells #[.slice none 0 0, .slice none 0 0, .slice none 0 0] 41)).heap.size = w.heap.size + 1 := by simp
  go_enter Try.func51, Try.ntmps51
  go_wp2_with fail
  generalize w.alloc (Obj.cells #[.slice none 0 0, .slice none 0 0, .slice none 0 0] 41) = w1 at *
  refine (d4right_any w0 v zs P w1 c0).mono ?_
  rintro e w2 ⟨v1, v2, v3, ns, is, ds, rfl, hcb, hne, O2, c2, g2⟩
  obtain ⟨hS, hd20⟩ := codeB_sz hcb hne
  obtain ⟨a1, q1, rfl⟩ := own_form O2.1
  obtain ⟨gi, qi, rfl, _, _⟩ := O2.2.1.form (List.length_pos_iff.2 hne)
  obtain ⟨a3, q3, rfl⟩ := own_form O2.2.2
  have g12 : w.grownBy w2 (some P) := draw_step hB0 g2
  have hr2 := (g2.block _ (Array.getElem?_eq_some_iff.1 hr0).1 (by simp; omega)).trans hr0
  have hBx : Below w2.heap.size w2 (w2.alloc (Obj.cells #[.slice a1 ns.length q1, .slice (some ⟨gi, 0, none⟩) is.length qi, .slice a3 ds.length q3] 41)) := (Below.refl _ _).alloc (Nat.le_refl _) _
  obtain ⟨c3, g3⟩ := draw_done c2 g12 (hBx.mono g12.size) hP
  have hlt2 := (Array.getElem?_eq_some_iff.1 hr2).1
  have D : DX w0 v zs P w w2.heap.size (.slice a1 ns.length q1) (.slice (some ⟨gi, 0, none⟩) is.length qi) (.slice a3 ds.length q3) ns is ds (w2.alloc (Obj.cells #[.slice a1 ns.length q1, .slice (some ⟨gi, 0, none⟩) is.length qi, .slice a3 ds.length q3] 41)) :=
    ⟨(hBx.block _ hlt2).trans hr2, heap_alloc_new _ _, (O2.below hBx).mono (by omega), c3, g3, hP, hlt2⟩
  have k1 := D.cell1
  clear hB0 c0 hr0 hsz O2 c2 g2 g12 hr2 hBx c3 g3 hlt2 c
  go_wp2_with fail
  generalize w2.alloc (Obj.cells #[.slice a1 ns.length q1, .slice (some ⟨gi, 0, none⟩) is.length qi, .slice a3 ds.length q3] 41) = w3 at *
  generalize w2.heap.size = bx at *
  have hl2 := hS.l2
  refine (below_any w0 v zs _ P is.length D.cur (by omega)).mono ?_
  rintro e w4 ⟨i, rfl, hi0, hi1, c4, g4⟩
  obtain ⟨i, rfl⟩ := Int.eq_ofNat_of_zero_le hi0
  have hi : i < is.length := by
    have : 0 < is.length := List.length_pos_iff.2 hne
    have := hi1 (by omega)
    omega
  replace D := D.turn c4 g4
  clear k1 c4 g4 hi0 hi1
  go_wp2_with fail
  refine (below_any w0 v zs _ P 25 D.cur (by omega)).mono ?_
  rintro e w5 ⟨z, rfl, hz0, _, c5, g5⟩
  replace D := D.turn c5 g5
  clear c5 g5
  by_cases h0 : z = 0
  · subst h0
    go_wp2_with fail
    refine dd_reg5 w0 v zs P w bx _ _ gi qi ns is ds i w5 _ D hi ?_
    intro u16 u17 u18 u19 u20 u21 u22 y w6 hy D
    have hS6 := hS.set i y hy
    have hle : (is.set i y).length = is.length := by simp
    rw [hle] at D
    obtain ⟨y0, y1, y2, _, _, _⟩ := cells3 D.box
    obtain ⟨r0, r1, r2, z0, z1, z2⟩ := cells3 D.res
    obtain ⟨h8, O8, c8, g8⟩ := own3_put (u1 := .slice a1 ns.length q1) (u2 := .slice (some ⟨gi, 0, none⟩) is.length qi) (u3 := .slice a3 ds.length q3) D.res D.own D.cur D.grown hP (Nat.le_refl _)
    go_wp2_with fail
    exact bodyPost_ret (results_cell_row rfl _ _ w.heap.size 41 _ (0, 0) _ rfl h8 Try.underlying41 rfl Try.sizeC) rfl ⟨_, _, _, _, _, _, rfl, hS6, O8.mono (by omega), c8, g8⟩
  by_cases h1 : z = 1
  · subst h1
    go_wp2_with fail
    refine dd_reg7 w0 v zs P w bx _ _ gi qi ns is ds i w5 _ D hi (by omega) ?_
    intro u25 u26 u27 u28 u29 u30 u31 u32 u33 u34 u35 u36 u37 u38 u39 u40 u41 u42 y w6 hy D
    have hS6 := hS.set i y hy
    have hle : (is.set i y).length = is.length := by simp
    rw [hle] at D
    obtain ⟨y0, y1, y2, _, _, _⟩ := cells3 D.box
    obtain ⟨r0, r1, r2, z0, z1, z2⟩ := cells3 D.res
    obtain ⟨h8, O8, c8, g8⟩ := own3_put (u1 := .slice a1 ns.length q1) (u2 := .slice (some ⟨gi, 0, none⟩) is.length qi) (u3 := .slice a3 ds.length q3) D.res D.own D.cur D.grown hP (Nat.le_refl _)
    go_wp2_with fail
    exact bodyPost_ret (results_cell_row rfl _ _ w.heap.size 41 _ (0, 0) _ rfl h8 Try.underlying41 rfl Try.sizeC) rfl ⟨_, _, _, _, _, _, rfl, hS6, O8.mono (by omega), c8, g8⟩
  by_cases h2 : z = 2
  · subst h2
    go_wp2_with fail
    refine dd_reg9 w0 v zs P w bx _ _ gi qi ns is ds i w5 _ D hi ?_
    intro u45 u46 u47 u48 u49 u50 u51 u52 y w6 hy D
    have hS6 := hS.set i y hy
    have hle : (is.set i y).length = is.length := by simp
    rw [hle] at D
    obtain ⟨y0, y1, y2, _, _, _⟩ := cells3 D.box
    obtain ⟨r0, r1, r2, z0, z1, z2⟩ := cells3 D.res
    obtain ⟨h8, O8, c8, g8⟩ := own3_put (u1 := .slice a1 ns.length q1) (u2 := .slice (some ⟨gi, 0, none⟩) is.length qi) (u3 := .slice a3 ds.length q3) D.res D.own D.cur D.grown hP (Nat.le_refl _)
    go_wp2_with fail
    exact bodyPost_ret (results_cell_row rfl _ _ w.heap.size 41 _ (0, 0) _ rfl h8 Try.underlying41 rfl Try.sizeC) rfl ⟨_, _, _, _, _, _, rfl, hS6, O8.mono (by omega), c8, g8⟩
  by_cases h3 : z = 3
  · subst h3
    go_wp2_with fail
    refine dd_reg11 w0 v zs P w bx _ _ gi qi ns is ds i w5 _ D hi ?_
    intro u55 u56 u57 u58 u59 u60 u61 u62 y w6 hy D
    have hS6 := hS.set i y hy
    have hle : (is.set i y).length = is.length := by simp
    rw [hle] at D
    obtain ⟨y0, y1, y2, _, _, _⟩ := cells3 D.box
    obtain ⟨r0, r1, r2, z0, z1, z2⟩ := cells3 D.res
    obtain ⟨h8, O8, c8, g8⟩ := own3_put (u1 := .slice a1 ns.length q1) (u2 := .slice (some ⟨gi, 0, none⟩) is.length qi) (u3 := .slice a3 ds.length q3) D.res D.own D.cur D.grown hP (Nat.le_refl _)
    go_wp2_with fail
    exact bodyPost_ret (results_cell_row rfl _ _ w.heap.size 41 _ (0, 0) _ rfl h8 Try.underlying41 rfl Try.sizeC) rfl ⟨_, _, _, _, _, _, rfl, hS6, O8.mono (by omega), c8, g8⟩
  by_cases h4 : z = 4
  · subst h4
    go_wp2_with fail
    refine dd_reg13 w0 v zs P w bx _ _ a3 q3 ns is ds w5 _ D (by omega) ?_
    intro u65 u66 u67 u68 u69 u70 u71 u72 u73 u74 u75 u76 u77 v9 y w6 hy D
    have hS6 : Sz3 ns is (ds ++ [y]) := ⟨hS.l1, hS.l2, by simp; omega, hS.z1, hS.z2, fun x hx => by
      rcases List.mem_append.1 hx with hx | hx
      · exact hS.z3 x hx
      · rw [List.mem_singleton] at hx; subst hx; exact hy, hS.ne⟩
    obtain ⟨a9, q9, rfl⟩ := own_form D.own.2.2
    generalize ds ++ [y] = ds9 at *
    obtain ⟨y0, y1, y2, _, _, _⟩ := cells3 D.box
    obtain ⟨r0, r1, r2, z0, z1, z2⟩ := cells3 D.res
    obtain ⟨h8, O8, c8, g8⟩ := own3_put (u1 := .slice a1 ns.length q1) (u2 := .slice (some ⟨gi, 0, none⟩) is.length qi) (u3 := .slice a9 ds9.length q9) D.res D.own D.cur D.grown hP (Nat.le_refl _)
    go_wp2_with fail
    exact bodyPost_ret (results_cell_row rfl _ _ w.heap.size 41 _ (0, 0) _ rfl h8 Try.underlying41 rfl Try.sizeC) rfl ⟨_, _, _, _, _, _, rfl, hS6, O8.mono (by omega), c8, g8⟩
  by_cases h5 : z = 5
  · subst h5
    go_wp2_with fail
    refine (ddraw_any w0 v zs _ P D.cur).mono ?_
    rintro e w6 ⟨v6, xs, rfl, hx1, hx2, ho6, c6, g6⟩
    obtain ⟨a6, q6, rfl⟩ := own_form ho6
    have hs5 := D.grown.size
    have lr5 := (Array.getElem?_eq_some_iff.1 D.res).1
    replace D := D.turn c6 g6
    have hS6 : Sz3 xs is ds := ⟨hx1, hS.l2, hS.l3, fun x hx => by have := hx2 x hx; unfold maxLen; omega, hS.z2, hS.z3, hS.ne⟩
    obtain ⟨y0, y1, y2, f0, f1, f2⟩ := cells3 D.box
    have hbx := D.hbx
    have hne6 := own_ne ho6 D.box (by decide)
    have hrd : (w6.setCell ⟨bx, 0, none⟩ (.slice a6 xs.length q6)).heap[bx]? = some (.cells #[.slice a6 xs.length q6, .slice (some ⟨gi, 0, none⟩) is.length qi, .slice a3 ds.length q3] 41 (0, 0)) := heap_setCell_same w6 bx 0 _ _ _ D.box
    have hBs : Below w.heap.size w6 (w6.setCell ⟨bx, 0, none⟩ (.slice a6 xs.length q6)) := (Below.refl _ _).setCell (p := ⟨bx, 0, none⟩) (Nat.le_of_lt hbx) _
    obtain ⟨c7, g7⟩ := draw_done D.cur D.grown hBs hP
    have D7 : DX w0 v zs P w bx (.slice a6 xs.length q6) (.slice (some ⟨gi, 0, none⟩) is.length qi) (.slice a3 ds.length q3) xs is ds (w6.setCell ⟨bx, 0, none⟩ (.slice a6 xs.length q6)) :=
      ⟨(heap_setCell_other w6 ⟨bx, 0, none⟩ _ _ (by simp; omega)).trans D.res, hrd, ⟨own_mono (ownsRow_setCell_other ho6 (a := ⟨bx, 0, none⟩) hne6 _) (by omega), ownsRow_setCell_other D.own.2.1 (a := ⟨bx, 0, none⟩) (own_ne D.own.2.1 D.box (by decide)) _, ownsRow_setCell_other D.own.2.2 (a := ⟨bx, 0, none⟩) (own_ne D.own.2.2 D.box (by decide)) _⟩, c7, g7, hP, hbx⟩
    clear hrd hBs c7 g7 hne6 ho6 c6 g6
    obtain ⟨x0, x1, x2, _, _, _⟩ := cells3 D7.box
    obtain ⟨r0, r1, r2, z0, z1, z2⟩ := cells3 D7.res
    obtain ⟨h8, O8, c8, g8⟩ := own3_put (u1 := .slice a6 xs.length q6) (u2 := .slice (some ⟨gi, 0, none⟩) is.length qi) (u3 := .slice a3 ds.length q3) D7.res D7.own D7.cur D7.grown hP (Nat.le_refl _)
    go_wp2_with fail
    exact bodyPost_ret (results_cell_row rfl _ _ w.heap.size 41 _ (0, 0) _ rfl h8 Try.underlying41 rfl Try.sizeC) rfl ⟨_, _, _, _, _, _, rfl, hS6, O8.mono (by omega), c8, g8⟩
  obtain ⟨y0, y1, y2, _, _, _⟩ := cells3 D.box
  obtain ⟨r0, r1, r2, z0, z1, z2⟩ := cells3 D.res
  obtain ⟨h8, O8, c8, g8⟩ := own3_put (u1 := .slice a1 ns.length q1) (u2 := .slice (some ⟨gi, 0, none⟩) is.length qi) (u3 := .slice a3 ds.length q3) D.res D.own D.cur D.grown hP (Nat.le_refl _)
  go_wp2_with fail
  exact bodyPost_ret (results_cell_row rfl _ _ w.heap.size 41 _ (0, 0) _ rfl h8 Try.underlying41 rfl Try.sizeC) rfl ⟨_, _, _, _, _, _, rfl, hS, O8.mono (by omega), c8, g8⟩
end Go.Proofs.Ytacbhbmjhlgflaa

/-
  Contract of the draws' DrawSizeOf.
-/
namespace Go.Proofs.Ytacbhbmjhlgflaa
open Go.RowKit

theorem PV.below {w w' : World} {b base : Nat} {xs : List Nd} (h : PV w b base xs) (hb : Below w.heap.size w w') : PV w' b base xs := by
  obtain ⟨v', h1, h2⟩ := h
  exact ⟨v', (hb.block b (Array.getElem?_eq_some_iff.1 h1).1).trans h1, own_below h2 hb⟩
theorem PV.turn {w w' : World} {b P : Nat} {xs : List Nd} (h : PV w b (P + 1) xs) (hg : w.grownBy w' (some P)) (hb : P < b) : PV w' b (P + 1) xs := h.kept hg (by omega) (by omega)
theorem below_own {w0 w w' : World} {v : Value} {zs : List Int} {P : Nat} (c : Cur w0 v zs w P) (hb : Below (P + 1) w w') : Cur w0 v zs w' P := c.kept hb

end Go.Proofs.Ytacbhbmjhlgflaa

/-
  The contract of the draw spec.DrawMachineNew: some code, and a name. No condition.
-/
namespace Go.Proofs.Ytacbhbmjhlgflaa
open Go.RowKit

set_option maxRecDepth 100000 in
set_option maxHeartbeats 3200000 in
theorem ddn_reg {t0 t1 t3 t6 t7 t8 t9 t10 t11 t12 t13 : Value} {fs : List Deferred} (w0 : World) (v : Value) (zs : List Int) (P b2 b5 B : Nat) (a1 a2 a3 : Option Addr) (n1 n2 n3 q1 q2 q3 : Nat) (ns : List Nd) (is : List In) (ds : List Df) (W : World) (Q : Exit → Act → World → Prop)
    (c : Cur w0 v zs W P) (hr : W.heap[b2]? = some (.cells #[.slice none 0 0, .slice none 0 0, .slice none 0 0] 41 (0, 0))) (hx : W.heap[b5]? = some (.cells #[.slice a1 n1 q1, .slice a2 n2 q2, .slice a3 n3 q3] 41 (0, 0))) (O : Own3 W B (.slice a1 n1 q1) (.slice a2 n2 q2) (.slice a3 n3 q3) ns is ds) (h2 : b2 < P) (h5 : P < b5) (hB : P < B)
    (hQ : ∀ u10 u11 u12 u13 s wx, s.size ≤ 40 → wx.heap[b2]? = some (.cells #[.slice a1 n1 q1, .slice a2 n2 q2, .slice a3 n3 q3] 41 (0, 0)) → Own3 wx B (.slice a1 n1 q1) (.slice a2 n2 q2) (.slice a3 n3 q3) ns is ds → Below b2 W wx → Q .normal ⟨#[t0, t1, .pointer (some ⟨b2, 0, none⟩), .string s, .pointer (some ⟨P, 0, none⟩), .pointer (some ⟨b5, 0, none⟩), t6, t7, t8, t9, u10, u11, u12, u13], fs⟩ wx) :
    (Code.region 3 #[{ dst := some 10, op := Op.load 41 (Operand.tmp 5), type := 41, pos := "l06_machine.go:374", after := #[], guard := none }, { dst := some 11, op := Op.move (Operand.tmp 4), type := 89, pos := "l06_machine.go:374", after := #[], guard := none }, { dst := some 12, op := Op.buildSlice 93 5 #[(0, Operand.const (Value.string { data := #[109, 97, 105, 110] })), (1, Operand.const (Value.string { data := #[109, 97, 105, 110] })), (2, Operand.const (Value.string { data := #[102] })), (3, Operand.const (Value.string { data := #[117, 112] })), (4, Operand.const (Value.string { data := #[122, 122] }))], type := 93, pos := "l06_machine.go:374", after := #[], guard := none }, { dst := some 13, op := Op.call { callee := Callee.value (Operand.func 52), args := #[Operand.tmp 11, Operand.tmp 12], argTypes := #[89, 93] }, type := 9, pos := "l06_machine.go:374", after := #[{ on := 1, ground := Ground.data }, { on := 2, ground := Ground.data }], guard := none }, { dst := none, op := Op.store 41 (Operand.tmp 2) (Operand.tmp 10), type := 0, pos := "l06_machine.go:374", after := #[{ on := 0, ground := Ground.data }, { on := 3, ground := Ground.chain }, { on := 0, ground := Ground.phase }, { on := 1, ground := Ground.textOnly Departure.lateStores }, { on := 2, ground := Ground.textOnly Departure.lateStores }, { on := 3, ground := Ground.textOnly Departure.lateStoresUnsure }], guard := none }, { dst := some 3, op := Op.assign (Operand.tmp 13), type := 9, pos := "l06_machine.go:374", after := #[{ on := 3, ground := Ground.data }, { on := 4, ground := Ground.chain }, { on := 0, ground := Ground.phase }, { on := 1, ground := Ground.phase }, { on := 2, ground := Ground.phase }, { on := 3, ground := Ground.phase }, { on := 4, ground := Ground.phase }], guard := none }] true).wp Try.prog Q ⟨#[t0, t1, .pointer (some ⟨b2, 0, none⟩), t3, .pointer (some ⟨P, 0, none⟩), .pointer (some ⟨b5, 0, none⟩), t6, t7, t8, t9, t10, t11, t12, t13], fs⟩ W := by
  have hWP : W.heap.size ≠ P := by have := c.lt; omega
  have l2 := (Array.getElem?_eq_some_iff.1 hr).1
  have l5 := (Array.getElem?_eq_some_iff.1 hx).1
  have n25 : b5 ≠ b2 := by omega
  obtain ⟨y0, y1, y2, _, _, _⟩ := cells3 hx
  go_region_held3 (fun w' => w'.cell? ⟨b5, 0, none⟩ = some (.slice a1 n1 q1) ∧ w'.cell? ⟨b5, 1, none⟩ = some (.slice a2 n2 q2) ∧ w'.cell? ⟨b5, 2, none⟩ = some (.slice a3 n3 q3)) (first | (with_reducible exact s1) | (with_reducible exact ⟨far1 (far1 (far1 s1.1 n25) n25) n25, far1 (far1 (far1 s1.2.1 n25) n25) n25, far1 (far1 (far1 s1.2.2 n25) n25) n25⟩) | go_keep) (first
    | (go_at_call 52; refine (picks_any w0 v zs _ P W.heap.size 5 [ByteArray.mk #[109, 97, 105, 110], ByteArray.mk #[109, 97, 105, 110], ByteArray.mk #[102], ByteArray.mk #[117, 112], ByteArray.mk #[122, 122]] ?_ (by omega) (by decide) (by decide) ?_).mono ?_; (with_reducible exact cur_drewA c _); (intro j hj; exact strs_new W [ByteArray.mk #[109, 97, 105, 110], ByteArray.mk #[109, 97, 105, 110], ByteArray.mk #[102], ByteArray.mk #[117, 112], ByteArray.mk #[122, 122]] 9 j hj); rintro e w2 ⟨s, hs, rfl, c2, g2⟩
       have g := grown_drewA g2
       have hr2 := (g.block _ l2 (by simp; omega)).trans hr
       have hx2 := (g.block _ l5 (by simp; omega)).trans hx
       have O2 : Own3 w2 B (.slice a1 n1 q1) (.slice a2 n2 q2) (.slice a3 n3 q3) ns is ds := ⟨O.1.kept g (own_not O.1 hB), O.2.1.kept g (own_not O.2.1 hB), O.2.2.kept g (own_not O.2.2 hB)⟩
       have s1 : w2.cell? ⟨b5, 0, none⟩ = some (.slice a1 n1 q1) ∧ w2.cell? ⟨b5, 1, none⟩ = some (.slice a2 n2 q2) ∧ w2.cell? ⟨b5, 2, none⟩ = some (.slice a3 n3 q3) := ⟨cell_of_row _ _ 0 _ _ _ hx2, cell_of_row _ _ 1 _ _ _ hx2, cell_of_row _ _ 2 _ _ _ hx2⟩
       obtain ⟨r0, r1, r2, z0, z1, z2⟩ := cells3 hr2))
  all_goals
    have hsz : s.size ≤ 40 := by
      simp only [List.mem_cons, List.not_mem_nil, or_false] at hs
      rcases hs with rfl | rfl | rfl | rfl | rfl <;> simp [ByteArray.size]
    have m1 := own_ne O2.1 hr2 (by decide)
    have m2 := own_ne O2.2.1 hr2 (by decide)
    have m3 := own_ne O2.2.2 hr2 (by decide)
    have hBw : Below b2 W w2 := ⟨g.os, g.tape, g.output, g.size, fun k hk => g.block k (by omega) (by simp; omega)⟩
    exact hQ _ _ _ _ s _ hsz (store3 hr2 _ _ _) ⟨ownsRow_setCell_other (ownsRow_setCell_other (ownsRow_setCell_other O2.1 (a := ⟨b2, 0, none⟩) m1 _) (a := ⟨b2, 1, none⟩) m1 _) (a := ⟨b2, 2, none⟩) m1 _, ownsRow_setCell_other (ownsRow_setCell_other (ownsRow_setCell_other O2.2.1 (a := ⟨b2, 0, none⟩) m2 _) (a := ⟨b2, 1, none⟩) m2 _) (a := ⟨b2, 2, none⟩) m2 _, ownsRow_setCell_other (ownsRow_setCell_other (ownsRow_setCell_other O2.2.2 (a := ⟨b2, 0, none⟩) m3 _) (a := ⟨b2, 1, none⟩) m3 _) (a := ⟨b2, 2, none⟩) m3 _⟩ (((hBw.setCell (p := ⟨b2, 0, none⟩) (Nat.le_refl _) _).setCell (p := ⟨b2, 1, none⟩) (Nat.le_refl _) _).setCell (p := ⟨b2, 2, none⟩) (Nat.le_refl _) _)

set_option maxRecDepth 100000 in
set_option maxHeartbeats 3200000 in
theorem ddn_any (v : Value) (zs : List Int) (w : World) (R : Row w v zs) (hl : zs.length ≤ 1048576) :
    Calls Try.prog 19 #[v] w fun e w' => ∃ (v1 v2 v3 : Value) (ns : List Nd) (is : List In) (ds : List Df) (s : ByteArray), e = .returned (.tuple #[.agg #[v1, v2, v3], .string s]) ∧ Sz3 ns is ds ∧ s.size ≤ 40 ∧ Own3 w' w.heap.size v1 v2 v3 ns is ds ∧ Below w.heap.size w w' := by
  have hB0 : Below w.heap.size w (w.alloc (.cells #[.slice none 0 0, .slice none 0 0, .slice none 0 0] 41)) := (Below.refl _ _).alloc (Nat.le_refl _) _
  have hr0 := heap_alloc_new w (Obj.cells #[.slice none 0 0, .slice none 0 0, .slice none 0 0] 41)
  have R0 := R.below hB0
  go_enter Try.func19, Try.ntmps19
  go_wp2_with fail
  generalize hA : w.alloc (Obj.cells #[.slice none 0 0, .slice none 0 0, .slice none 0 0] 41) = wA at hB0 hr0 R0 ⊢
  have hA1 : wA.heap.size = w.heap.size + 1 := by rw [← hA]; simp
  have HA1 : Hid (wA.heap.size = w.heap.size + 1) := hA1
  clear hA hA1
  refine (new_any v zs wA R0 hl).mono ?_
  rintro e w1 ⟨rfl, c1, b1⟩
  have hlr : w.heap.size < wA.heap.size := by rw [HA1.out]; omega
  have hP1 := c1.lt
  have hr1 := (c1.2.1.block _ (Array.getElem?_eq_some_iff.1 hr0).1).trans hr0
  clear b1 hr0
  go_wp2_with fail
  generalize HP : wA.heap.size = P at c1 hlr hP1 HA1 ⊢
  refine (d4draw_any wA v zs P w1 c1).mono ?_
  rintro e w2 ⟨v1, v2, v3, ns, is, ds, rfl, hS, O2, c2, g2⟩
  obtain ⟨a1, q1, rfl⟩ := own_form O2.1
  obtain ⟨a2, q2, rfl⟩ := own_form O2.2.1
  obtain ⟨a3, q3, rfl⟩ := own_form O2.2.2
  have hr2 := (g2.block _ (Array.getElem?_eq_some_iff.1 hr1).1 (by simp; omega)).trans hr1
  have hs12 := g2.size
  have hBx : Below w2.heap.size w2 (w2.alloc (Obj.cells #[.slice a1 ns.length q1, .slice a2 is.length q2, .slice a3 ds.length q3] 41)) := (Below.refl _ _).alloc (Nat.le_refl _) _
  have hx3 := heap_alloc_new w2 (Obj.cells #[.slice a1 ns.length q1, .slice a2 is.length q2, .slice a3 ds.length q3] 41)
  have c3 := c2.kept (hBx.mono (by omega))
  have hr3 := (hBx.block _ (Array.getElem?_eq_some_iff.1 hr2).1).trans hr2
  have O3 := O2.below hBx
  clear hr1 g2 c1 c2 hr2 O2 hBx
  go_wp2_with fail
  generalize w2.alloc (Obj.cells #[.slice a1 ns.length q1, .slice a2 is.length q2, .slice a3 ds.length q3] 41) = w3 at *
  refine ddn_reg wA v zs P w.heap.size w2.heap.size w1.heap.size a1 a2 a3 ns.length is.length ds.length q1 q2 q3 ns is ds w3 _ c3 hr3 hx3 O3 hlr (by omega) hP1 ?_
  intro u10 u11 u12 u13 s w4 hs h4 O4 b4
  have hB3 : Below w.heap.size w w3 := hB0.trans (c3.2.1.mono (by omega))
  go_wp2_with fail
  exact bodyPost_ret (results_row_tmp rfl _ _ w.heap.size 41 _ (0, 0) _ rfl h4 Try.underlying41 rfl Try.sizeC) rfl ⟨_, _, _, ns, is, ds, s, rfl, hS, hs, O4.mono (by omega), hB3.trans b4⟩
end Go.Proofs.Ytacbhbmjhlgflaa
