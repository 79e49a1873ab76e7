/-
  Texts that stood by themselves, laid into one.
-/
import Derived.Test.YtbgkofinmdpmcaaGreatDoorBoolsM
import Derived.Test.YtbgkofinmdpmcaaGreatDoorSzStepM
import Derived.Test.YtbgkofinmdpmcaaGreatDoorIKeepM
import Derived.Test.YtbgkofinmdpmcaaGreatDoorLVBrM
import Derived.Test.YtbgkofinmdpmcaaGreatDoorRNumsM
import Derived.Test.YtbgkofinmdpmcaaGreatDoorDVrM
import Derived.Test.YtbgkofinmdpmcaaGreatDoorSGTextM
import Derived.Test.YtbgkofinmdpmcaaGreatDoorWrM
import Derived.Test.YtbgkofinmdpmcaaGreatDoorTo2M
import Derived.Deep.CutRange
import Derived.Deep.DeepCutAuto
/-
  What is kept: as it was, all reached, and kept again the same: plain mathematics. Nothing of the program; no condition.
-/
namespace Go.Proofs.YtbgkofinmdpmcaaGreatDoor
open Go.RowKit

/-- What goes by the same steps is written alike, and as great. -/
theorem bis_text {xs ys : List Nd} (hx : poolB xs = true) (hy : poolB ys = true) (Rl : Nat → Nat → Prop)
    (hR : ∀ i j, Rl i j → ∃ x y, xs[i]? = some x ∧ ys[j]? = some y ∧ y.k = x.k ∧ y.n = x.n ∧ y.s = x.s ∧ (hasA x.k = true → Rl x.a.toNat y.a.toNat) ∧ (hasB x.k = true → Rl x.b.toNat y.b.toNat)) :
    ∀ i j, Rl i j → fullT xs i = fullT ys j ∧ restT xs i = restT ys j ∧ sizeR xs i = sizeR ys j := by
  intro a
  induction a using Nat.strongRecOn with
  | _ a ih =>
    intro b h
    obtain ⟨x, y, hxa, hyb, e1, e2, e3, rA, rB⟩ := hR a b h
    have hnx := poolB_at hx hxa
    have hny := poolB_at hy hyb
    obtain ⟨xk, xn, xs', xa, xb⟩ := x
    obtain ⟨yk, yn, ys', ya, yb⟩ := y
    dsimp only at e1 e2 e3 rA rB
    subst e1 e2 e3
    have pa : hasA yk = true → ∃ m n : Nat, xa = m ∧ ya = n ∧ m < a ∧ n < b ∧ Rl m n := fun hh => by
      have h1 := nodeB_A hnx hh
      have h2 := nodeB_A hny hh
      dsimp only at h1 h2
      obtain ⟨m, rfl⟩ := Int.eq_ofNat_of_zero_le h1.1
      obtain ⟨n, rfl⟩ := Int.eq_ofNat_of_zero_le h2.1
      exact ⟨m, n, rfl, rfl, by omega, by omega, by simpa using rA hh⟩
    have pb : hasB yk = true → ∃ m n : Nat, xb = m ∧ yb = n ∧ m < a ∧ n < b ∧ Rl m n := fun hh => by
      have h1 := nodeB_B hnx hh
      have h2 := nodeB_B hny hh
      dsimp only at h1 h2
      obtain ⟨m, rfl⟩ := Int.eq_ofNat_of_zero_le h1.1
      obtain ⟨n, rfl⟩ := Int.eq_ofNat_of_zero_le h2.1
      exact ⟨m, n, rfl, rfl, by omega, by omega, by simpa using rB hh⟩
    have hsize : sizeR xs a = sizeR ys b := by
      rw [sizeR_step xs a _ hx hxa, sizeR_step ys b _ hy hyb]
      dsimp only
      have eA : (if hasA yk then sizeR xs xa else 0) = (if hasA yk then sizeR ys ya else 0) := by
        cases hh : hasA yk with
        | false => rfl
        | true =>
          obtain ⟨m, n, rfl, rfl, hm, hn, he⟩ := pa hh
          rw [(ih m hm n he).2.2]
      have eB : (if hasB yk then sizeR xs xb else 0) = (if hasB yk then sizeR ys yb else 0) := by
        cases hh : hasB yk with
        | false => rfl
        | true =>
          obtain ⟨m, n, rfl, rfl, hm, hn, he⟩ := pb hh
          rw [(ih m hm n he).2.2]
      rw [eA, eB]
    by_cases h5 : yk = 5
    · subst h5
      obtain ⟨m, n, rfl, rfl, hm, hn, he⟩ := pa rfl
      obtain ⟨m', n', rfl, rfl, hm', hn', he'⟩ := pb rfl
      obtain ⟨f1, _, _⟩ := ih m hm n he
      obtain ⟨_, r1, _⟩ := ih m' hm' n' he'
      refine ⟨?_, ?_, hsize⟩
      · rw [fullT_pair hx hxa rfl rfl rfl hm hm', fullT_pair hy hyb rfl rfl rfl hn hn', f1, r1]
      · rw [restT_pair hx hxa rfl rfl rfl hm hm', restT_pair hy hyb rfl rfl rfl hn hn', f1, r1]
    · have hw : wordL ⟨yk, yn, ys', xa, xb⟩ = wordL ⟨yk, yn, ys', ya, yb⟩ := rfl
      refine ⟨?_, ?_, hsize⟩
      · rw [fullT_word hxa h5, fullT_word hyb h5, hw]
      · by_cases h1 : yk = 1
        · rw [restT_nil hxa h1, restT_nil hyb h1]
        · rw [restT_word hxa h5 h1, restT_word hyb h5 h1, hw]

end Go.Proofs.YtbgkofinmdpmcaaGreatDoor

/-
  What follows for what is kept: plain mathematics. Nothing of the program; no condition.
-/
namespace Go.Proofs.YtbgkofinmdpmcaaGreatDoor
open Go.RowKit

theorem its_okK (xs : List Nd) (bs : List Bool) (k : Nat) (hz : ∀ y ∈ xs, y.s.size ≤ maxLen) : ∀ p ∈ its xs bs k, p.2.s.size ≤ maxLen := by
  induction xs generalizing k with
  | nil => simp [its]
  | cons x xs ih =>
    intro p hp
    have ih := ih (k + 1) (fun y hy => hz y (List.mem_cons_of_mem _ hy))
    simp only [its] at hp
    split at hp
    · rcases List.mem_cons.1 hp with rfl | hp
      · exact hz x List.mem_cons_self
      · exact ih p hp
    · exact ih p hp
theorem fold_okK (a : Nat) (l : List (Nat × Nd)) (s : List Nd × List Int) (hl : ∀ p ∈ l, p.2.s.size ≤ maxLen) (hs : ∀ y ∈ s.1, y.s.size ≤ maxLen) : ∀ y ∈ (l.foldl (mvS a) s).1, y.s.size ≤ maxLen := by
  induction l generalizing s with
  | nil => exact hs
  | cons p l ih =>
    rw [List.foldl_cons]
    refine ih _ (fun q hq => hl q (List.mem_cons_of_mem _ hq)) (fun y hy => ?_)
    simp only [mvS, List.mem_append, List.mem_singleton] at hy
    rcases hy with hy | rfl
    · exact hs y hy
    · exact hl p List.mem_cons_self
theorem hasI_of {xs : List Nd} {z : Int} (h0 : 0 ≤ z) (h1 : z < xs.length) : hasI xs z = true := by unfold hasI; simp [h0, h1]
theorem at8_text (xs : List Nd) (rs : List Int) (hp : poolB xs = true) (i j : Nat) (h : At8 xs rs 0 i j) : fullT xs i = fullT (mvN 0 xs rs) j ∧ restT xs i = restT (mvN 0 xs rs) j ∧ sizeR xs i = sizeR (mvN 0 xs rs) j := by
  refine bis_text hp (keep_right xs rs hp) (At8 xs rs 0) (fun i j hij => ?_) i j h
  obtain ⟨x, p, hx, rfl, e3, hA, hB⟩ := at8_step xs rs hp 0 i j hij
  exact ⟨x, nrm (mvAll 0 xs (reachL xs rs)).2 x, hx, by rw [Nat.zero_add]; exact e3, rfl, rfl, rfl, hA, hB⟩
theorem keep_text (xs : List Nd) (rs : List Int) (hp : poolB xs = true) (hr : allI xs rs = true) (r : Int) (h : r ∈ rs) :
    writeR (mvN 0 xs rs) ((mvAll 0 xs (reachL xs rs)).2.getD r.toNat 0) = writeR xs r ∧ sizeR (mvN 0 xs rs) ((mvAll 0 xs (reachL xs rs)).2.getD r.toNat 0) = sizeR xs r := by
  obtain ⟨h8, h0, h1⟩ := at8_root xs rs hp hr 0 r h
  obtain ⟨t1, _, t3⟩ := at8_text xs rs hp _ _ h8
  obtain ⟨x, p, hx, e, e3, _, _⟩ := at8_step xs rs hp 0 _ _ h8
  have hl := (List.getElem?_eq_some_iff.1 e3).1
  have hxl := (List.getElem?_eq_some_iff.1 hx).1
  generalize (mvAll 0 xs (reachL xs rs)).2.getD r.toNat 0 = z at *
  have hq := keep_right xs rs hp
  have i1 : hasI xs r = true := hasI_of h0 (by omega)
  have i2 : hasI (mvN 0 xs rs) z = true := hasI_of h1 (by omega)
  refine ⟨?_, ?_⟩
  · unfold writeR
    rw [hp, hq, i1, i2, t1]
  · rw [Int.toNat_of_nonneg h0, Int.toNat_of_nonneg h1] at t3
    exact t3.symm
theorem keep_law (xs : List Nd) (rs : List Int) (h : (keepR xs rs).length = rs.length) :
    (∀ i, i < rs.length → writeR (keepL xs rs) ((keepR xs rs).getD i 0) = writeR xs (rs.getD i 0) ∧ sizeR (keepL xs rs) ((keepR xs rs).getD i 0) = sizeR xs (rs.getD i 0)) ∧
    poolB (keepL xs rs) = true ∧ (keepL (keepL xs rs) (keepR xs rs)).length = (keepL xs rs).length ∧ keepR (keepL xs rs) (keepR xs rs) = keepR xs rs := by
  cases hok : (poolB xs && allI xs rs) with
  | false =>
    have e1 : keepL xs rs = [] := by unfold keepL; rw [hok]; rfl
    have e2 : keepR xs rs = [] := by unfold keepR; rw [hok]; rfl
    rw [e2] at h
    have hrs : rs = [] := List.eq_nil_of_length_eq_zero (by simpa using h.symm)
    subst hrs
    rw [e1, e2]
    exact ⟨fun i hi => absurd hi (by simp), rfl, rfl, rfl⟩
  | true =>
    obtain ⟨hp, hr⟩ := (Bool.and_eq_true _ _).mp hok
    have e1 : keepL xs rs = mvN 0 xs rs := by unfold keepL; rw [hok]; rfl
    have e2 : keepR xs rs = mvR 0 xs rs rs := by unfold keepR; rw [hok]; rfl
    have hq := keep_right xs rs hp
    obtain ⟨g1, g2, g3⟩ := keep_again xs rs hp hr
    have hok2 : (poolB (mvN 0 xs rs) && allI (mvN 0 xs rs) (mvR 0 xs rs rs)) = true := by rw [hq, g1]; rfl
    rw [e1, e2]
    refine ⟨fun i hi => ?_, hq, ?_, ?_⟩
    · have hm : rs.getD i 0 ∈ rs := by simp [List.getD_eq_getElem?_getD, List.getElem?_eq_getElem hi]
      have e : (mvR 0 xs rs rs).getD i 0 = (mvAll 0 xs (reachL xs rs)).2.getD (rs.getD i 0).toNat 0 := by
        unfold mvR
        simp [List.getD_eq_getElem?_getD, List.getElem?_map, List.getElem?_eq_getElem hi]
      rw [e]
      exact keep_text xs rs hp hr _ hm
    · unfold keepL; rw [hok2, if_pos rfl, g2]
    · unfold keepR; rw [hok2, if_pos rfl, g3]
theorem keepL_max (xs : List Nd) (rs : List Int) (hz : ∀ y ∈ xs, y.s.size ≤ maxLen) : ∀ y ∈ keepL xs rs, y.s.size ≤ maxLen := by
  unfold keepL
  split
  · exact fold_okK 0 _ _ (its_okK xs _ 0 hz) (by simp)
  · simp
theorem keep_no (xs : List Nd) (rs : List Int) (h : (keepR xs rs).length ≠ rs.length) : keepL xs rs = [] ∧ keepR xs rs = [] := by
  cases hok : (poolB xs && allI xs rs) with
  | false => exact ⟨by unfold keepL; rw [hok]; rfl, by unfold keepR; rw [hok]; rfl⟩
  | true =>
    exfalso
    apply h
    unfold keepR
    rw [hok, if_pos rfl]
    simp [mvR]
end Go.Proofs.YtbgkofinmdpmcaaGreatDoor

/-
  The law FnValueBytes, walked: for every list of bytes it returns true. The table of powers of ten and the variable errors.errorType read as they are laid.
-/
namespace Go.Proofs.YtbgkofinmdpmcaaGreatDoor
open Go.RowKit

/-- What is packed is read; there it is written, and as great, as it was. -/
theorem pack_back (xs : List Nd) (v : Int) (h : vpB xs v = true) : ∃ ys : List Nd, vpR xs v = strOfNums (wireL ys) ∧ vrR (sb (vpR xs v)) = some ys ∧ writeR ys ((ys.length : Int) - 1) = writeR xs v ∧ sizeR ys ((ys.length : Int) - 1) = sizeR xs v := by
  have h' := h
  unfold vpB at h'
  rw [Bool.and_eq_true] at h'
  obtain ⟨hp, hv⟩ := h'
  have hr : allI xs [v] = true := by unfold allI; simp [hv]
  obtain ⟨r1, r2, r3⟩ := pack_read xs v hp hv
  obtain ⟨k1, k2⟩ := keep_text xs [v] hp hr v (by simp)
  rw [r3] at k1 k2
  have e : vpR xs v = strOfNums (wireL (mvN 0 xs [v])) := by unfold vpR; rw [if_pos h]
  exact ⟨_, e, by rw [e, sb_str (wireL_wf _)]; exact r1, k1, k2⟩
/-- What is read is packed as it was. -/
theorem read_back (t : ByteArray) (ys : List Nd) (h : vrR (sb t) = some ys) : vpB ys ((ys.length : Int) - 1) = true ∧ vpR ys ((ys.length : Int) - 1) = t := by
  obtain ⟨⟨h1, h2⟩, h3, h4⟩ := (vrR_spec (sb t) (sb_wf t) ys).1 h
  have hp := (vr_pool (sb_wf t) h).1
  have hpos := List.length_pos_iff.2 h3
  have hvp : vpB ys ((ys.length : Int) - 1) = true := by unfold vpB hasI; rw [hp]; simp; omega
  refine ⟨hvp, ?_⟩
  unfold vpR
  rw [if_pos hvp, h4, strOfNums_sb]

theorem fvb_big (ao : Option Addr) (len cap : Nat) (w : World) (hl : 1048576 < len) (hm : len ≤ 9223372036854775807) :
    Calls Tryz.prog 3 #[.slice ao len cap] w fun e w' => e = .returned (.bool true) ∧ Below w.heap.size w w' := by
  go_enter Tryz.func3, Tryz.ntmps3
  go_wp2_with (go_at_call 4; go_in)
  go_ret
  exact ⟨rfl, Below.refl _ _⟩

set_option maxRecDepth 100000 in
set_option maxHeartbeats 6400000 in
theorem fvb_small (ao : Option Addr) (cap : Nat) (zs : List Int) (w : World) (R : Row w (.slice ao zs.length cap) zs) (hl : zs.length ≤ 1048576) (hT : Pow w.heap.size w) (hE : ErrT w) :
    Calls Tryz.prog 3 #[.slice ao zs.length cap] w fun e w' => e = .returned (.bool true) ∧ Below w.heap.size w w' := by
  have HW : ∀ (W : World) (u : Value) (ys : List Nd) (z : Int), Below w.heap.size w W → NRow W u ys → Calls Tryz.prog 9 #[.agg #[u], .int .i64 z] W fun e w' => e = .returned (.string (tx (writeR ys z))) ∧ Below W.heap.size W w' := fun W u ys z hb RN => iwrite_any u ys z W RN ((hT.on hb).mono hb.size)
  have HR : ∀ (W : World) (s : ByteArray), Below w.heap.size w W → s.size ≤ 1048576 → Calls Tryz.prog 8 #[.string s] W fun e w' => VrAns W.heap.size (sb s) e w' ∧ Below W.heap.size W w' := fun W s hb hs => ivread_any s W (by omega) (hE.below hb (Nat.le_refl _))
  clear hT hE
  go_enter Tryz.func3, Tryz.ntmps3
  go_wp2_with (go_at_call 4; go_in)
  refine (dvpack8_any _ zs w R hl).mono ?_
  rintro e w1 ⟨v1, xs, a, rfl, hxl, hz, ho1, b1⟩
  have R1 := NRow.of_own ho1 (by omega) (fun x hx => Nat.le_trans (hz x hx) (by unfold maxLen; omega))
  obtain ⟨a1, q1, rfl⟩ := own_form ho1
  have hB2 : Below w1.heap.size w1 (w1.alloc (Obj.cells #[.slice a1 xs.length q1] 26)) := (Below.refl _ _).alloc (Nat.le_refl _) _
  have R2 := R1.below hB2
  have hq2 : (w1.alloc (Obj.cells #[.slice a1 xs.length q1] 26)).heap[w1.heap.size]? = some (.cells #[.slice a1 xs.length q1] 26 (0, 0)) := heap_alloc_new _ _
  have hBB2 := b1.trans (hB2.mono b1.size)
  clear ho1 R1 hz b1 hB2
  go_wp2_with fail
  generalize w1.alloc (Obj.cells #[.slice a1 xs.length q1] 26) = w2 at *
  generalize w1.heap.size = q at *
  have hql := (Array.getElem?_eq_some_iff.1 hq2).1
  have H1 := ivpack_any _ xs a w2 R2
  have H2 := fun (W : World) (RW : NRow W (.slice a1 xs.length q1) xs) => svpack_any _ xs a W RW
  have HPB : Hid (vpB xs a = true → ∃ ys : List Nd, vpR xs a = strOfNums (wireL ys) ∧ vrR (sb (vpR xs a)) = some ys ∧ writeR ys ((ys.length : Int) - 1) = writeR xs a ∧ sizeR ys ((ys.length : Int) - 1) = sizeR xs a) := pack_back xs a
  have HSZ : Hid (vpB xs a = true → (vpR xs a).size ≤ 200000) := fun h => vpR_size xs a (by unfold vpB at h; rw [Bool.and_eq_true] at h; exact poolB_len h.1)
  obtain ⟨s, hs⟩ : ∃ s, Hid (vpR xs a = s) := ⟨_, rfl⟩
  obtain ⟨tb, htb⟩ : ∃ tb, Hid (vpB xs a = tb) := ⟨_, rfl⟩
  rw [hs.out, htb.out] at H1 H2
  have HPB : Hid (tb = true → ∃ ys : List Nd, s = strOfNums (wireL ys) ∧ vrR (sb s) = some ys ∧ writeR ys ((ys.length : Int) - 1) = writeR xs a ∧ sizeR ys ((ys.length : Int) - 1) = sizeR xs a) := by have := HPB.out; rw [hs.out, htb.out] at this; exact this
  have HSZ : Hid (tb = true → s.size ≤ 200000) := by have := HSZ.out; rw [hs.out, htb.out] at this; exact this
  clear hs htb
  refine H1.mono ?_
  rintro e w3 ⟨rfl, hb3⟩
  have hq3 := (hb3.block _ hql).trans hq2
  have c3 : w3.cell? ⟨q, 0, none⟩ = some (.slice a1 xs.length q1) := cell_of_row w3 _ 0 _ _ _ hq3
  have R3 := R2.below hb3
  have hBB3 := hBB2.trans (hb3.mono hBB2.size)
  clear hq2 R2 hb3 hBB2 H1
  go_wp2_with fail
  refine (H2 _ R3).mono ?_
  rintro e w4 ⟨rfl, hb4⟩
  have hq4 := (hb4.block _ (Array.getElem?_eq_some_iff.1 hq3).1).trans hq3
  have c4 : w4.cell? ⟨q, 0, none⟩ = some (.slice a1 xs.length q1) := cell_of_row w4 _ 0 _ _ _ hq4
  have R4 := R3.below hb4
  have hBB4 := hBB3.trans (hb4.mono hBB3.size)
  clear hq3 R3 hb4 hBB3 c3 H2 hql
  go_upto_if 43 with fail
  go_cut [] from 3 (fun wx => Below w.heap.size w wx)
  case first =>
    cases tb with
    | false =>
      go_wp2_with fail
      go_meet
      case rel => exact hBB4
    | true =>
      obtain ⟨ys, es, er, ew, ez⟩ := HPB.out rfl
      have hsz := HSZ.out rfl
      have hpy := (vr_pool (sb_wf s) er).1
      have hly := poolB_len hpy
      have HH := HR w4 s hBB4 (by omega)
      unfold VrAns at HH
      obtain ⟨e1, e2, e3⟩ := vr_yes er
      rw [e1, e2, e3] at HH
      have HEW : Hid (writeR ys ((ys.length : Int) - 1) = writeR xs a) := ew
      have HEZ : Hid (sizeR ys ((ys.length : Int) - 1) = sizeR xs a) := ez
      have hzy := ndok_max (pool_ndok hpy)
      clear e1 e2 e3 er es ew ez HPB HSZ hpy
      go_wp2_with fail
      refine HH.mono ?_
      rintro e w5 ⟨⟨v5, rfl, o5⟩, hb5⟩
      obtain ⟨a5, q5, rfl⟩ := own_form o5
      have B6 : Below w5.heap.size w5 (w5.alloc (Obj.cells #[.slice a5 ys.length q5] 26)) := (Below.refl _ _).alloc (Nat.le_refl _) _
      have y6 : (w5.alloc (Obj.cells #[.slice a5 ys.length q5] 26)).heap[w5.heap.size]? = some (.cells #[.slice a5 ys.length q5] 26 (0, 0)) := heap_alloc_new _ _
      have hb46 := hb5.trans (B6.mono hb5.size)
      have q6 := (hb46.block _ (Array.getElem?_eq_some_iff.1 hq4).1).trans hq4
      have Rp := R4.below hb46
      have Rq : NRow (w5.alloc (Obj.cells #[.slice a5 ys.length q5] 26)) (.slice a5 ys.length q5) ys := NRow.of_own (own_below o5 B6) (by omega) hzy
      have hBB6 := hBB4.trans (hb46.mono hBB4.size)
      clear HH hb46 B6 hb5 o5 hq4 c4 R4 hBB4
      go_wp2_with fail
      generalize w5.alloc (Obj.cells #[.slice a5 ys.length q5] 26) = w6 at *
      generalize w5.heap.size = bq at *
      have TB : ∀ W, Below w6.heap.size w6 W → Below w.heap.size w W := fun W hW => hBB6.trans (hW.mono hBB6.size)
      refine vb_reg10 bq q ((ys.length : Int) - 1) a (.slice a5 ys.length q5) (.slice a1 xs.length q1) (tx (writeR xs a)) (sizeR xs a) w6 _ ⟨cell_of_row w6 _ 0 _ _ _ y6, cell_of_row w6 _ 0 _ _ _ q6⟩ (Array.getElem?_eq_some_iff.1 y6).1 (Array.getElem?_eq_some_iff.1 q6).1
        (fun W hW => by have := HW W _ ys ((ys.length : Int) - 1) (TB W hW) (Rq.below hW); rw [HEW.out] at this; exact this)
        (fun W hW => HW W _ xs a (TB W hW) (Rp.below hW))
        (fun W hW => by have := isize_any _ ys ((ys.length : Int) - 1) W (Rq.below hW); rw [HEZ.out] at this; exact this)
        (fun W hW => isize_any _ xs a W (Rp.below hW)) ?_
      intro u50 u51 u52 u53 u54 u55 u56 u57 u58 u59 u60 u61 u62 u63 u64 u65 u66 u67 u68 wx hbx
      have BX := TB wx hbx
      go_wp2_with fail
      go_meet
      case rel => exact BX
  case rest =>
    obtain ⟨w5, hw5⟩ : ∃ w5, w5 = wc := ⟨_, rfl⟩
    subst hw5
    clear HPB HSZ hq4 c4 R4 hBB4 HW
    go_wp2_with fail
    refine (dvread8_any _ zs w5 (R.below hcut) hl).mono ?_
    rintro e w6 ⟨t, rfl, ht, hb6⟩
    have hBB6 := hcut.trans (hb6.mono hcut.size)
    clear hb6 hcut
    have HH := HR w6 t hBB6 (by omega)
    have HS := fun W : World => svread_any t W (by omega)
    unfold VrAns at HH HS
    have HF : Hid ((vrB (sb t) = false ∧ vrL (sb t) = []) ∨ (vrB (sb t) = true ∧ vpB (vrL (sb t)) (vrI (sb t)) = true ∧ vpR (vrL (sb t)) (vrI (sb t)) = t ∧ vrI (sb t) = ((vrL (sb t)).length : Int) - 1)) := by
      unfold Hid
      cases hv : vrR (sb t) with
      | none => obtain ⟨e1, e2, e3⟩ := vr_no hv; exact Or.inl ⟨e3, e1⟩
      | some ys =>
        obtain ⟨e1, e2, e3⟩ := vr_yes hv
        obtain ⟨f1, f2⟩ := read_back t ys hv
        rw [e1, e2, e3]
        exact Or.inr ⟨rfl, f1, f2, rfl⟩
    have HBD : (vrL (sb t)).length ≤ 3000 ∧ ∀ x ∈ vrL (sb t), x.s.size ≤ maxLen := by
      cases hv : vrR (sb t) with
      | none => rw [(vr_no hv).1]; exact ⟨by simp, by intro x hx; cases hx⟩
      | some ys =>
        rw [(vr_yes hv).1]
        have hp := (vr_pool (sb_wf t) hv).1
        exact ⟨poolB_len hp, ndok_max (pool_ndok hp)⟩
    obtain ⟨L, hL⟩ : ∃ L, Hid (vrL (sb t) = L) := ⟨_, rfl⟩
    obtain ⟨I, hI⟩ : ∃ I, Hid (vrI (sb t) = I) := ⟨_, rfl⟩
    obtain ⟨O, hO⟩ : ∃ O, Hid (vrB (sb t) = O) := ⟨_, rfl⟩
    rw [hL.out, hI.out, hO.out] at HH HS
    rw [hL.out] at HBD
    have HF : Hid ((O = false ∧ L = []) ∨ (O = true ∧ vpB L I = true ∧ vpR L I = t ∧ I = (L.length : Int) - 1)) := by have := HF.out; rw [hL.out, hI.out, hO.out] at this; exact this
    clear hL hI hO HR
    obtain ⟨hlL, hzL⟩ := HBD
    go_wp2_with fail
    refine HH.mono ?_
    rintro e w7 ⟨⟨v7, rfl, o7⟩, hb7⟩
    obtain ⟨a7, q7, rfl⟩ := own_form o7
    have B8 : Below w7.heap.size w7 (w7.alloc (Obj.cells #[.slice a7 L.length q7] 26)) := (Below.refl _ _).alloc (Nat.le_refl _) _
    have y8 : (w7.alloc (Obj.cells #[.slice a7 L.length q7] 26)).heap[w7.heap.size]? = some (.cells #[.slice a7 L.length q7] 26 (0, 0)) := heap_alloc_new _ _
    have o8 := own_below o7 B8
    have hBB8 := hBB6.trans ((hb7.trans (B8.mono hb7.size)).mono hBB6.size)
    clear HH hb7 B8 o7 hBB6
    go_wp2_with fail
    generalize w7.alloc (Obj.cells #[.slice a7 L.length q7] 26) = w8 at *
    generalize w7.heap.size = bq at *
    refine (HS w8).mono ?_
    rintro e w9 ⟨⟨v9, rfl, o9⟩, hb9⟩
    obtain ⟨a9, q9, rfl⟩ := own_form o9
    have B10 : Below w9.heap.size w9 (w9.alloc (Obj.cells #[.slice a9 L.length q9] 26)) := (Below.refl _ _).alloc (Nat.le_refl _) _
    have b810 := hb9.trans (B10.mono hb9.size)
    have y10 := (b810.block _ (Array.getElem?_eq_some_iff.1 y8).1).trans y8
    have o10 := own_below o8 b810
    have hBB10 := hBB8.trans (b810.mono hBB8.size)
    have c10 : (w9.alloc (Obj.cells #[.slice a9 L.length q9] 26)).cell? ⟨bq, 0, none⟩ = some (.slice a7 L.length q7) := cell_of_row _ _ 0 _ _ _ y10
    have R10 : NRow (w9.alloc (Obj.cells #[.slice a9 L.length q9] 26)) (.slice a7 L.length q7) L := NRow.of_own o10 (by omega) hzL
    clear HS hb9 B10 b810 o9 o8 y8 hBB8
    have HK := ivpack_any _ L I _ R10
    obtain ⟨tx2, hx2⟩ : ∃ tx2, Hid (vpR L I = tx2) := ⟨_, rfl⟩
    obtain ⟨tb2, hb2⟩ : ∃ tb2, Hid (vpB L I = tb2) := ⟨_, rfl⟩
    rw [hx2.out, hb2.out] at HK
    have HF : Hid ((O = false ∧ L = []) ∨ (O = true ∧ tb2 = true ∧ tx2 = t ∧ I = (L.length : Int) - 1)) := by have := HF.out; rw [hx2.out, hb2.out] at this; exact this
    clear hx2 hb2
    go_wp2_with fail
    refine HK.mono ?_
    rintro e w11 ⟨rfl, hb11⟩
    have y11 := (hb11.block _ (Array.getElem?_eq_some_iff.1 y10).1).trans y10
    have c11 : w11.cell? ⟨bq, 0, none⟩ = some (.slice a7 L.length q7) := cell_of_row _ _ 0 _ _ _ y11
    have hBB11 := hBB10.trans (hb11.mono hBB10.size)
    clear HK hb11 y10 c10 R10 o10 hBB10
    rcases HF.out with ⟨rfl, hL0⟩ | ⟨rfl, rfl, rfl, rfl⟩
    · have hl0 : (L.length : Int) = 0 := by rw [hL0]; rfl
      clear hL0 HF
      go_wp2
      go_ret
      exact ⟨rfl, hBB11⟩
    · clear HF
      go_wp2
      go_ret
      exact ⟨rfl, hBB11⟩
end Go.Proofs.YtbgkofinmdpmcaaGreatDoor
