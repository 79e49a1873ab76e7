/-
  Slices of slices of texts: the contracts of the laws' helpers. No condition.
-/
import Derived.Test.YtllfojddaobpmaaWLs
namespace Go.Proofs.Ytllfojddaobpmaa
open Go.RowKit

/-- What the one cell of a slice of texts says. -/
def ES (B : Nat) (w : World) (cs : List Value) (ts : List ByteArray) : Prop := ∃ v, cs = [v] ∧ StRow w v ts ∧ Fr B v
theorem stbS : Stb ES := ⟨fun _ _ _ _ _ ⟨v, h, r, f⟩ hk => ⟨v, h, r.kp f hk, f⟩, fun _ _ _ _ _ ⟨v, h, r, f⟩ hc => ⟨v, h, r, f.mono hc⟩⟩
def SmS (ts : List ByteArray) : Prop := ts.length ≤ 1048576
theorem Try.infoSs8 : (Try.prog.info? 70).map (fun i => (i.zero, i.size, i.bytes)) = some (some (.slice none 0 0), 1, 24) := by kernel_rfl
theorem range_one {w : World} {g o : Nat} {v : Value} (h : w.rangeAt g o [v]) : w.cell? ⟨g, o, none⟩ = some v := h 0 v rfl
theorem flat_sing (us : List Value) : (us.map fun u => [u]).flatten = us := by
  induction us with
  | nil => rfl
  | cons u us ih => simp [ih]

set_option maxRecDepth 100000 in
set_option maxHeartbeats 3200000 in
theorem tosss_any (v : Value) (xs : List (List ByteArray)) (B : Nat) (w : World) (R : XRow B 1 ES w v xs) (hm : xs.length ≤ 2097152) (hs : ∀ x ∈ xs, SmS x) :
    Calls Try.prog 30 #[v] w fun e w' => ∃ v', e = .returned v' ∧ XRow w.heap.size 1 ES w' v' xs ∧ Below w.heap.size w w' := by
  obtain ⟨ao, cap, rfl, hcap, hm0, hcell⟩ := R
  obtain ⟨i0, hi, hz0, hz1, hz2⟩ := info_parts Try.infoSs8
  have hbytes : i0.bytes * xs.length ≤ 281474976710656 := by rw [hz2]; omega
  have hmax : xs.length ≤ maxLen := by unfold maxLen; omega
  go_enter Try.func30, Try.ntmps30
  go_wp2_with (at_make; refine wpList_make_full _ rfl _ _ 37 rfl w.heap.size 70 i0 _ 1 Try.underlying37 hi hz0 hz1 _ _ _ _ xs.length rfl rfl rfl rfl hbytes hmax (Nat.le_refl _) ?_)
  intro w1 hown hgrow
  have hbel : Below w.heap.size w w1 := (Below.refl _ _).grown hgrow (Nat.le_refl _) (by intro k hk; cases hk)
  clear hgrow
  go_wp2
  go_loopw [4] (fun i wr => ∃ (j : Nat) (us : List Value), j ≤ xs.length ∧ i = .int .i64 j ∧ Hid (us.length = xs.length) ∧ Hid (∀ (i : Nat) c x, i < j → us[i]? = some c → xs[i]? = some x → StRow wr c x ∧ Fr (w.heap.size + 1) c) ∧ wr.ownsRow w.heap.size 70 1 (.slice (some ⟨w.heap.size, 0, none⟩) xs.length xs.length) xs.length us ∧ Below w.heap.size w wr) (fun i _ => xs.length - (intOf i).toNat)
  case atStart => exact ⟨0, _, by omega, rfl, by unfold Hid; simp [madeCells], fun i c x h => by omega, hown, hbel⟩
  case round =>
    clear hown hbel hbytes hmax
    obtain ⟨j, us, hj, rfl, HL, HE, hown, hbel⟩ := hrel
    by_cases hlt : j < xs.length
    · obtain ⟨g, o, rfl, _, hg, hcell⟩ := hcell (by intro e; subst e; simp at hlt)
      obtain ⟨x, hx⟩ : ∃ x, xs[j]? = some x := ⟨xs[j], by simp [hlt]⟩
      obtain ⟨cs, hcs, hr, hE⟩ := hcell j x hx
      have HX : Hid (xs[j]? = some x) := hx
      replace hr := range_below hr hbel hg
      obtain ⟨u, rfl, R1, _⟩ := stbS.1 _ _ _ _ _ hE (Kp.of_below hbel)
      have c0 := range_one hr
      rw [Nat.mul_one] at c0
      have hsx := hs x (List.mem_of_getElem? hx)
      obtain ⟨p0, q0, rfl⟩ := R1.small
      have hwl : w.heap.size + 1 ≤ wr.heap.size := (hown.lt w.heap.size rfl).2
      clear hcell hx hcs hr hE
      go_wp2_with fail
      refine (tostrs_any _ x _ R1 (by unfold SmS at hsx; omega)).mono ?_
      rintro e w2 ⟨u2, rfl, O2, hb2⟩
      have F2 := Fr.of_own O2
      have P2 := StRow.of_own O2 (by unfold SmS at hsx; omega) R1.szs
      obtain ⟨p2, q2, rfl⟩ := own_form O2
      have hown2 := own_below hown hb2
      have hB2 := hbel.trans (hb2.mono hbel.size)
      have hk2 : Kp (w.heap.size + 1) wr w2 := Kp.of_below hb2
      have d0 := hown2.cellAt j (by omega)
      obtain ⟨y, hy⟩ : ∃ y, us[j]? = some y := ⟨_, List.getElem?_eq_getElem (by rw [HL.out]; exact hlt)⟩
      rw [hy] at d0
      have f0 := hown2.frozenAt j
      obtain ⟨S0, g0⟩ := hown2.stored j (.slice p2 x.length q2)
      have hB3 : Below w.heap.size w (w2.setCell ⟨w.heap.size, j, none⟩ (.slice p2 x.length q2)) := hB2.setCell (p := ⟨w.heap.size, j, none⟩) (by simp) _
      have hk3 : Kp (w.heap.size + 1) w2 (w2.setCell ⟨w.heap.size, j, none⟩ (.slice p2 x.length q2)) := Kp.of_set (by omega)
      have HL3 : Hid ((us.set j (.slice p2 x.length q2)).length = xs.length) := by unfold Hid; rw [List.length_set]; exact HL.out
      have HE3 : Hid (∀ (i : Nat) c y, i < j + 1 → (us.set j (.slice p2 x.length q2))[i]? = some c → xs[i]? = some y → StRow (w2.setCell ⟨w.heap.size, j, none⟩ (.slice p2 x.length q2)) c y ∧ Fr (w.heap.size + 1) c) := by
        intro i c z hij hc hz
        by_cases e : i = j
        · subst e
          rw [List.getElem?_set_self (by rw [HL.out]; exact hlt)] at hc
          rw [HX.out] at hz
          cases hc
          cases hz
          exact ⟨P2.kp (F2.mono hwl) hk3, F2.mono hwl⟩
        · rw [List.getElem?_set_ne (fun h => e h.symm)] at hc
          obtain ⟨h1, h2⟩ := HE.out i c z (by omega) hc hz
          exact ⟨(h1.kp h2 hk2).kp h2 hk3, h2⟩
      clear hown hown2 hb2 hbel g0 hy HE HL HX P2 F2 O2 hk2 hk3 c0
      go_wp2
      go_roundw
      case rel => exact ⟨j + 1, _, by omega, by go_num, HL3, HE3, S0, hB3⟩
      case measure => simp [intOf]; omega
    · go_wp2
      go_ret
      have : j = xs.length := by omega
      subst this
      rw [← flat_sing us] at hown
      refine ⟨_, rfl, XRow.of_own hown (by rw [List.length_map]; exact HL.out) (by intro c hc; simp at hc; obtain ⟨a, _, rfl⟩ := hc; rfl) hm0 (fun i c x hc hx => ?_), hbel⟩
      rw [List.getElem?_map] at hc
      cases hu : us[i]? with
      | none => rw [hu] at hc; cases hc
      | some u =>
        rw [hu] at hc
        cases hc
        obtain ⟨h1, h2⟩ := HE.out i u x (List.getElem?_eq_some_iff.1 hx).1 hu hx
        exact ⟨u, rfl, h1, h2.mono (by omega)⟩

set_option maxRecDepth 100000 in
set_option maxHeartbeats 1600000 in
theorem szsss_any (v : Value) (xs : List (List ByteArray)) (B : Nat) (l : Int) (w : World) (R : XRow B 1 ES w v xs) (hl0 : 0 ≤ l) (hl1 : l ≤ 1048576) :
    Calls Try.prog 24 #[v, .int .i64 l] w fun e w' => ∃ r : Int, e = .returned (.int .i64 r) ∧ -1 ≤ r ∧ r ≤ 1048576 ∧ (0 ≤ r → xs.length ≤ 1048576 ∧ ∀ x ∈ xs, SmS x) ∧ Below w.heap.size w w' := by
  obtain ⟨ao, cap, rfl, hcap, hm, hcell⟩ := R
  by_cases hlen : (xs.length : Int) ≤ l
  · go_enter Try.func24, Try.ntmps24
    go_wp2
    go_loopw [1, 5] (fun l i wr => ∃ (k : Nat) (r : Int), k ≤ xs.length ∧ i = .int .i64 k ∧ l = .int .i64 r ∧ 0 ≤ r ∧ r ≤ 1048576 ∧ Hid (∀ (j : Nat) x, xs[j]? = some x → j < k → SmS x) ∧ Below w.heap.size w wr) (fun _ i _ => xs.length - (intOf i).toNat)
    case atStart => exact ⟨0, _, by omega, rfl, rfl, by omega, by omega, fun j x _ h => by omega, Below.refl _ _⟩
    case round =>
      obtain ⟨k, r, hk, rfl, rfl, hr0, hr1, HA, hb⟩ := hrel
      by_cases hlt : k < xs.length
      · obtain ⟨g, o, rfl, _, hg, hcell⟩ := hcell (by intro e; subst e; simp at hlt)
        obtain ⟨x, hx⟩ : ∃ x, xs[k]? = some x := ⟨xs[k], by simp [hlt]⟩
        obtain ⟨cs, hcs, hr, hE⟩ := hcell k x hx
        have HX : Hid (xs[k]? = some x) := hx
        replace hr := range_below hr hb hg
        obtain ⟨u, rfl, R1, _⟩ := stbS.1 _ _ _ _ _ hE (Kp.of_below hb)
        have c0 := range_one hr
        rw [Nat.mul_one] at c0
        obtain ⟨p0, q0, rfl⟩ := R1.small
        clear hcell hx hcs hr hE
        go_wp2_with fail
        refine (szstrs_any _ x r _ R1 hr0 hr1).mono ?_
        rintro e w2 ⟨r2, rfl, h0, h1, h2, hb2⟩
        have hB2 := hb.trans (hb2.mono hb.size)
        clear hb2 c0
        by_cases hr2 : r2 < 0
        · have HR : Hid (r2 = -1) := by unfold Hid; omega
          go_wp2
          go_ret
          exact ⟨-1, rfl, by omega, by omega, fun h => by omega, hB2⟩
        · have h2 := (h2 (by omega)).1
          have HA2 : Hid (∀ (j : Nat) x, xs[j]? = some x → j < k + 1 → SmS x) := by
            intro j y hy hj
            by_cases e : j = k
            · subst e
              rw [HX.out] at hy
              cases hy
              exact h2
            · exact HA.out j y hy (by omega)
          go_wp2
          go_roundw
          case rel => exact ⟨k + 1, _, by omega, by go_num, rfl, by omega, by omega, HA2, hB2⟩
          case measure => simp [intOf]; omega
      · go_wp2
        go_ret
        refine ⟨r, rfl, by omega, by omega, fun _ => ⟨by omega, fun x hx => ?_⟩, hb⟩
        obtain ⟨j, hj, e⟩ := List.getElem_of_mem hx
        exact HA.out j x (by rw [← e]; simp [hj]) (by omega)
  · go_enter Try.func24, Try.ntmps24
    go_wp2
    go_ret
    exact ⟨-1, rfl, by omega, by omega, fun h => by omega, Below.refl _ _⟩

set_option maxRecDepth 100000 in
set_option maxHeartbeats 1600000 in
theorem eqsss_any (va vb : Value) (xs : List (List ByteArray)) (B C : Nat) (w : World) (Ra : XRow B 1 ES w va xs) (Rb : XRow C 1 ES w vb xs) :
    Calls Try.prog 38 #[va, vb] w fun e w' => e = .returned (.bool true) ∧ Below w.heap.size w w' := by
  obtain ⟨aa, ca, rfl, hca, hm, hcella⟩ := Ra
  obtain ⟨ab, cb, rfl, hcb, _, hcellb⟩ := Rb
  have hn : ((xs.length : Int) != (xs.length : Int)) = false := by simp
  go_enter Try.func38, Try.ntmps38
  go_wp2
  go_loopw [5] (fun i wr => ∃ k : Nat, k ≤ xs.length ∧ i = .int .i64 k ∧ Below w.heap.size w wr) (fun i _ => xs.length - (intOf i).toNat)
  case atStart => exact ⟨0, by omega, rfl, Below.refl _ _⟩
  case round =>
    obtain ⟨k, hk, rfl, hb⟩ := hrel
    by_cases hlt : k < xs.length
    · obtain ⟨ga, oa, rfl, _, hga, hcella⟩ := hcella (by intro e; subst e; simp at hlt)
      obtain ⟨gb, ob, rfl, _, hgb, hcellb⟩ := hcellb (by intro e; subst e; simp at hlt)
      obtain ⟨x, hx⟩ : ∃ x, xs[k]? = some x := ⟨xs[k], by simp [hlt]⟩
      obtain ⟨cs, hcs, ra, hEa⟩ := hcella k x hx
      obtain ⟨ds, hds, rb, hEb⟩ := hcellb k x hx
      replace ra := range_below ra hb hga
      replace rb := range_below rb hb hgb
      obtain ⟨ua, rfl, R1, _⟩ := stbS.1 _ _ _ _ _ hEa (Kp.of_below hb)
      obtain ⟨ub, rfl, R2, _⟩ := stbS.1 _ _ _ _ _ hEb (Kp.of_below hb)
      have c1 := range_one ra
      have c2 := range_one rb
      rw [Nat.mul_one] at c1 c2
      have HC : ∀ W, Below wr.heap.size wr W → Calls Try.prog 63 #[ua, ub] W fun e w' => e = .returned (.bool true) ∧ Below W.heap.size W w' := fun W hW => eqstrs_any _ _ x W (R1.below hW) (R2.below hW)
      have hga' := Nat.lt_of_lt_of_le hga hb.size
      have hgb' := Nat.lt_of_lt_of_le hgb hb.size
      clear hcella hcellb hx hEa hEb ra rb
      go_wp2_with fail
      refine eqr_Ss ga oa gb ob xs.length ca cb k ua ub wr _ hlt hga' hgb' c1 c2 HC ?_
      intro u17 u18 u19 u20 u21 u22 u23 u24 u25 W hW
      have hB2 : Below w.heap.size w W := hb.trans (hW.mono hb.size)
      clear HC c1 c2
      go_wp2
      go_roundw
      case rel => exact ⟨k + 1, by omega, by go_num, hB2⟩
      case measure => simp [intOf]; omega
    · go_wp2
      go_ret
      exact ⟨rfl, hb⟩
end Go.Proofs.Ytllfojddaobpmaa
