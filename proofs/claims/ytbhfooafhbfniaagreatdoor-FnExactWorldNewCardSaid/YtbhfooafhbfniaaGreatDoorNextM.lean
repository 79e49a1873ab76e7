/-
  Texts that stood by themselves, laid into one.
-/
import Derived.Test.YtbhfooafhbfniaaGreatDoorDecM
import Derived.Test.YtbhfooafhbfniaaGreatDoorShapeM
import Derived.Laws.CopyOwn
/-
  Contract of spec.GetNum, for every slice of bytes within the form's reach and every place.
-/
namespace Go.Proofs.YtbhfooafhbfniaaGreatDoor
open Go.RowKit
theorem unit_step (k : Nat) (h : k + 1 < 9) : wrap64 (lim k * 128) = lim (k + 1) := by
  have h1 := lim_pos k
  have h2 := lim_eight (show k ≤ 8 by omega)
  have h3 := lim_seven (show k ≤ 7 by omega)
  rw [IntWalk.wrap64_in _ ⟨by omega, by omega⟩]
  simp only [lim]
  omega
set_option maxHeartbeats 800000 in
theorem sget_any (v : Value) (zs : List Int) (a : Int) (w : World) (h : Row w v zs) (hlo : -9223372036854775808 ≤ a) (hhi : a ≤ 9223372036854775807) :
    Calls Tryz.prog 128 #[v, .int .i64 a] w fun e w' => e = .returned (gV (gN zs a)) ∧ w' = w := by
  obtain ⟨ao, cap, rfl, hcap, hm, hz, hcell⟩ := h
  by_cases hneg : a < 0
  · rw [gN_neg zs a hneg]
    go_enter Tryz.func128, Tryz.ntmps128
    go_wp2
    go_ret3
    exact ⟨rfl, rfl⟩
  by_cases hout : (zs.length : Int) ≤ a
  · obtain ⟨n, rfl⟩ := Int.eq_ofNat_of_zero_le (show 0 ≤ a by omega)
    rw [gN_none zs n ((Sc.start zs n).out (Or.inr (by omega)))]
    go_enter Tryz.func128, Tryz.ntmps128
    go_wp2
    go_ret3
    exact ⟨rfl, rfl⟩
  obtain ⟨n, rfl⟩ := Int.eq_ofNat_of_zero_le (show 0 ≤ a by omega)
  obtain ⟨g, o, rfl, hg, hcell⟩ := hcell (by intro e; subst e; simp at hout)
  have hn : n < zs.length := by omega
  clear hneg hout hlo hhi
  go_enter Tryz.func128, Tryz.ntmps128
  go_wp2
  go_loop [7, 8, 9] (fun x u i => ∃ (k : Nat) (U : Int) (acc : List Int), k ≤ 9 ∧ n + k ≤ zs.length ∧ i = .int .i64 k ∧ u = .int .i64 U ∧ x = .int .i64 (val acc) ∧ Hid (k < 9 → U = lim k) ∧ Hid (Sc zs n k acc)) (fun _ _ i => 9 - (intOf i).toNat)
  case atStart => exact ⟨0, 1, [], by omega, by omega, rfl, rfl, rfl, fun _ => rfl, Sc.start zs n⟩
  case round =>
    obtain ⟨k, U, acc, hk, hkl, rfl, rfl, rfl, HU, HS⟩ := hrel
    by_cases h9 : k < 9
    · by_cases hlt : n + k < zs.length
      · have hc := hcell (n + k) hlt
        have hU := HU.out h9
        have hvb := val_bounds acc
        rw [HS.out.1] at hvb
        subst hU
        clear HU
        have hml := mul_lim zs[n + k] k
        have hl8 := lim_eight (show k ≤ 8 by omega)
        have hb := hz zs[n + k] (List.getElem_mem _)
        clear hcell hz
        by_cases hb128 : zs[n + k] < 128
        · have hlast := HS.out.last h9 hlt hb128
          have hal := HS.out.1
          by_cases hz0 : zs[n + k] = 0
          · by_cases hk0 : 0 < k
            · have Hv : Hid (gN zs (n : Int) = (0, 0, false)) := gN_zero zs n acc (by rw [hlast, hz0]) (by omega)
              clear hlast hal
              go_wp2
              go_ret3
              exact ⟨by rw [Hv.out]; rfl, rfl⟩
            · have Hv : Hid (gN zs (n : Int) = (val acc, (n : Int) + k + 1, true)) := by
                have := gN_some zs n acc zs[n + k] hlast (by omega)
                rw [hal, hz0] at this
                simpa [Hid] using this
              clear hlast hal
              go_wp2
              go_ret3
              exact ⟨by rw [Hv.out]; rfl, rfl⟩
          · have Hv : Hid (gN zs (n : Int) = (val acc + zs[n + k] % 128 * lim k, (n : Int) + k + 1, true)) := by
              have := gN_some zs n acc zs[n + k] hlast (by omega)
              rw [hal] at this; exact this
            clear hlast hal
            go_wp2
            go_ret3
            exact ⟨by rw [Hv.out]; rfl, rfl⟩
        · go_wp2
          refine ⟨⟨_, _, _, _, _, _, ⟨k + 1, by omega, by omega, ?ra, wrap64 (lim k * 128), ?rb, acc ++ [zs[n + k]], ?rc, ?rd, HS.out.more h9 hlt (by omega)⟩, rfl, rfl, rfl, rfl, rfl, rfl⟩, by simp [intOf]; omega⟩
          case ra => go_num
          case rb => rfl
          case rc => rw [val_snoc, HS.out.1]
          case rd => exact fun h => unit_step k h
      · have Hv : Hid (gN zs (n : Int) = (0, 0, false)) := gN_none zs n (HS.out.out (Or.inr (by omega)))
        go_wp2
        go_ret3
        exact ⟨by rw [Hv.out]; rfl, rfl⟩
    · have Hv : Hid (gN zs (n : Int) = (0, 0, false)) := gN_none zs n (HS.out.out (Or.inl (by omega)))
      go_wp2
      go_ret3
      exact ⟨by rw [Hv.out]; rfl, rfl⟩
end Go.Proofs.YtbhfooafhbfniaaGreatDoor
/-
  Plain mathematics: a number that is got stands there in just the bytes that it is put in. Nothing of the program; no condition.
-/
namespace Go.Proofs.YtbhfooafhbfniaaGreatDoor
theorem scan_len : ∀ (f : Nat) (ys bs : List Int), scan f ys = some bs → bs ≠ [] ∧ bs.length ≤ f ∧ ∃ rest, ys = bs ++ rest
  | 0, _, _, h => by simp [scan] at h
  | _ + 1, [], _, h => by simp [scan] at h
  | f + 1, b :: ys, bs, h => by
    simp only [scan] at h
    split at h
    · cases h; exact ⟨by simp, by simp, ys, rfl⟩
    · cases hs : scan f ys with
      | none => rw [hs] at h; cases h
      | some cs =>
        rw [hs] at h
        cases h
        obtain ⟨h1, h2, rest, h3⟩ := scan_len f ys cs hs
        exact ⟨by simp, by simp; omega, rest, by rw [h3]; rfl⟩
theorem enc_scan : ∀ (f : Nat) (ys bs : List Int), (∀ z ∈ ys, 0 ≤ z ∧ z ≤ 255) → scan f ys = some bs → (1 < bs.length → bs.getLast? ≠ some 0) → enc f (val bs) = bs
  | 0, _, _, _, h, _ => by simp [scan] at h
  | _ + 1, [], _, _, h, _ => by simp [scan] at h
  | f + 1, b :: ys, bs, hz, h, hl => by
    have hb := hz b (by simp)
    simp only [scan] at h
    split at h
    · rename_i hlt
      cases h
      have e : val [b] = b := by simp only [val]; omega
      rw [e, enc_last f b hlt]
    · rename_i hge
      cases hs : scan f ys with
      | none => rw [hs] at h; cases h
      | some cs =>
        rw [hs] at h
        cases h
        obtain ⟨hne, hlen, _⟩ := scan_len f ys cs hs
        have hlast : (b :: cs).getLast? = cs.getLast? := List.getLast?_cons_of_ne_nil hne
        have hl2 : cs.getLast? ≠ some 0 := by
          rw [← hlast]
          apply hl
          have := List.length_pos_iff.2 hne
          simp
          omega
        have ih := enc_scan f ys cs (fun z h => hz z (by simp [h])) hs (fun _ => hl2)
        have hv := (val_bounds cs).1
        have hv1 : 1 ≤ val cs := by
          rcases Int.lt_or_le 0 (val cs) with h0 | h0
          · omega
          · have h00 : val cs = 0 := by omega
            rw [h00] at ih
            cases f with
            | zero => rw [← ih] at hne; simp [enc] at hne
            | succ f =>
              rw [enc_last f 0 (by omega)] at ih
              rw [← ih] at hl2
              simp at hl2
        have e : val (b :: cs) = b % 128 + 128 * val cs := rfl
        rw [e, enc_more f _ (by omega)]
        have e1 : (b % 128 + 128 * val cs) % 128 + 128 = b := by omega
        have e2 : (b % 128 + 128 * val cs) / 128 = val cs := by omega
        rw [e1, e2, ih]
theorem gN_bytes {zs : List Int} {a x next : Int} (hz : ∀ z ∈ zs, 0 ≤ z ∧ z ≤ 255) (h : gN zs a = (x, next, true)) : 0 ≤ a ∧ 0 ≤ x ∧ next = a + (encI x).length ∧ ∃ rest, zs.drop a.toNat = encI x ++ rest := by
  unfold gN at h
  split at h
  · cases h
  · rename_i ha
    cases hs : scan 9 (zs.drop a.toNat) with
    | none => rw [hs] at h; cases h
    | some bs =>
      rw [hs] at h
      simp only at h
      split at h
      · cases h
      · rename_i hc
        cases h
        have hd : ∀ z ∈ zs.drop a.toNat, 0 ≤ z ∧ z ≤ 255 := fun z h => hz z (List.mem_of_mem_drop h)
        have he := enc_scan 9 _ bs hd hs (fun h1 h2 => hc ⟨h1, h2⟩)
        obtain ⟨_, _, rest, hr⟩ := scan_len 9 _ bs hs
        have hv := (val_bounds bs).1
        have hE : encI (val bs) = bs := by rw [encI_pos _ hv, he]
        exact ⟨by omega, hv, by rw [hE], rest, by rw [hE]; exact hr⟩
end Go.Proofs.YtbhfooafhbfniaaGreatDoor
/-
  Contract of (*impl.numForm).add: one byte more in the form.
-/
namespace Go.Proofs.YtbhfooafhbfniaaGreatDoor
open Go.RowKit
def formC (xs : List Int) : Array Value := (bv (xs ++ List.replicate (9 - xs.length) 0) ++ [Value.int .i64 xs.length]).toArray
theorem formC_get (xs : List Int) (h : xs.length ≤ 9) (i : Nat) (hi : i < 9) : (formC xs)[i]? = some (.int .u8 ((xs ++ List.replicate (9 - xs.length) 0).getD i 0)) := by
  have hl : (xs ++ List.replicate (9 - xs.length) 0).length = 9 := by simp; omega
  unfold formC
  rw [List.getElem?_toArray, List.getElem?_append_left (by rw [bv_length, hl]; exact hi)]
  exact bv_get _ i (by rw [hl]; exact hi)
theorem formC_count (xs : List Int) (h : xs.length ≤ 9) : (formC xs)[9]? = some (.int .i64 xs.length) := by
  have hl : (xs ++ List.replicate (9 - xs.length) 0).length = 9 := by simp; omega
  unfold formC
  rw [List.getElem?_toArray, List.getElem?_append_right (by rw [bv_length, hl]; exact Nat.le_refl _)]
  simp [bv_length, hl]
theorem formC_add (xs : List Int) (b : Int) (h : xs.length < 9) : ((formC xs).setIfInBounds xs.length (.int .u8 b)).setIfInBounds 9 (.int .i64 ((xs.length : Int) + 1)) = formC (xs ++ [b]) := by
  have e : List.replicate (9 - xs.length) (0 : Int) = 0 :: List.replicate (9 - (xs ++ [b]).length) 0 := by
    rw [show 9 - xs.length = (9 - (xs ++ [b]).length) + 1 by simp; omega, List.replicate_succ]
  apply Array.ext'
  simp only [formC, Array.toList_setIfInBounds, List.toList_toArray, bv, List.map_append]
  rw [e]
  simp only [List.map_cons, List.append_assoc]
  rw [List.set_append_right _ _ (by simp)]
  simp only [List.length_map, Nat.sub_self, List.cons_append, List.set_cons_zero]
  rw [List.set_append_right _ _ (by simp; omega)]
  rw [show 9 - (List.map (Value.int IntKind.u8) xs).length = 9 - (xs.length + 1) + 1 by simp; omega, List.set_cons_succ]
  rw [List.set_append_right _ _ (by simp)]
  simp
set_option maxRecDepth 100000 in
set_option maxHeartbeats 400000 in
theorem add_any (B : Nat) (b : Int) (xs : List Int) (w : World) (hx : xs.length < 9) (hh : w.heap[B]? = some (.cells (formC xs) 245 (0, 0))) :
    Calls Tryz.prog 178 #[.pointer (some ⟨B, 0, none⟩), .int .u8 b] w fun e w' => e = .returned (.tuple #[]) ∧ w'.heap[B]? = some (.cells (formC (xs ++ [b])) 245 (0, 0)) ∧ Below B w w' := by
  have h1 : ∀ i, w.cell? ⟨B, i, none⟩ = (formC xs)[i]? := fun i => cell_of_row w B i _ 245 (0, 0) hh
  have h2 : ∀ i, w.frozen? ⟨B, i, none⟩ = false := fun i => frozen_of_row w B i _ 245 hh
  have c9 : w.cell? ⟨B, 9, none⟩ = some (.int .i64 xs.length) := by rw [h1, formC_count xs (by omega)]
  have f9 := h2 9
  have ck := (h1 xs.length).trans (formC_get xs (by omega) xs.length hx)
  have fk := h2 xs.length
  clear h1 h2
  go_enter Tryz.func178, Tryz.ntmps178
  go_wp2
  go_region
  all_goals go_wp2
  all_goals go_end0
  refine ⟨rfl, ?_, (((Below.refl B w).setCell (p := ⟨B, xs.length, none⟩) (Nat.le_refl B) _).setCell (p := ⟨B, 9, none⟩) (Nat.le_refl B) _).drew⟩
  rw [← formC_add xs b hx]
  exact heap_setCell_same _ B 9 _ 245 _ (heap_setCell_same w B xs.length _ 245 _ hh)
end Go.Proofs.YtbhfooafhbfniaaGreatDoor
/-
  Contract of impl.formOf: the form of a number from 0 on holds the number's bytes.
-/
namespace Go.Proofs.YtbhfooafhbfniaaGreatDoor
open Go.RowKit
end Go.Proofs.YtbhfooafhbfniaaGreatDoor
/-
  Contract of (*impl.numForm).number: the number of the bytes that the form holds; none where the highest of several is 0.
-/
namespace Go.Proofs.YtbhfooafhbfniaaGreatDoor
open Go.RowKit
def nV (bs : List Int) : Int × Bool := if 1 < bs.length ∧ bs.getLast? = some 0 then (0, false) else (val bs, true)
theorem form_byte (bs : List Int) (h : bs.length ≤ 9) (w : World) (F : Nat) (hh : w.heap[F]? = some (.cells (formC bs) 245 (0, 0))) (i : Nat) (hi : i < bs.length) :
    w.cell? ⟨F, i, none⟩ = some (.int .u8 bs[i]) := by
  rw [cell_of_row w F i _ 245 (0, 0) hh, formC_get bs h i (by omega), List.getD_eq_getElem?_getD, List.getElem?_append_left hi]
  simp [hi]
theorem val_drop (bs : List Int) (m : Nat) (h : m < bs.length) : val (bs.drop m) = val (bs.drop (m + 1)) * 128 + bs[m] % 128 := by
  rw [List.drop_eq_getElem_cons h]
  simp only [val]
  omega
theorem nV_bad (bs : List Int) (n : Nat) (l : Int) (hn : bs.length = n + 1) (hl : bs[n]? = some l) (h0 : 0 < n) (h : l = 0) : nV bs = (0, false) := by
  have e : bs.getLast? = some 0 := by rw [List.getLast?_eq_getElem?, hn, Nat.add_sub_cancel, hl, h]
  unfold nV
  rw [if_pos ⟨by omega, e⟩]
theorem nV_ok (bs : List Int) (n : Nat) (l : Int) (hn : bs.length = n + 1) (hl : bs[n]? = some l) (h : n = 0 ∨ (0 < n ∧ ¬ l = 0)) : nV bs = (val bs, true) := by
  have e : bs.getLast? = some l := by rw [List.getLast?_eq_getElem?, hn, Nat.add_sub_cancel, hl]
  unfold nV
  rw [if_neg]
  rw [e, hn]
  simp only [Option.some.injEq]
  omega
set_option maxHeartbeats 800000 in
theorem number_any (F : Nat) (bs : List Int) (w : World) (h1 : 1 ≤ bs.length) (h9 : bs.length ≤ 9) (hz : ∀ z ∈ bs, 0 ≤ z ∧ z ≤ 255) (hh : w.heap[F]? = some (.cells (formC bs) 245 (0, 0))) :
    Calls Tryz.prog 179 #[.pointer (some ⟨F, 0, none⟩)] w fun e w' => e = .returned (.tuple #[.int .i64 (nV bs).1, .bool (nV bs).2]) ∧ w' = w := by
  obtain ⟨n, hn⟩ : ∃ n, bs.length = n + 1 := ⟨bs.length - 1, by omega⟩
  have hn9 : n < 9 := by omega
  have c9 : w.cell? ⟨F, 9, none⟩ = some (.int .i64 ((n : Int) + 1)) := by
    rw [cell_of_row w F 9 _ 245 (0, 0) hh, formC_count bs h9, hn]; simp
  have hb := form_byte bs h9 w F hh
  clear hh
  obtain ⟨l, hl⟩ : ∃ l, bs[n]? = some l := ⟨bs[n], by simp⟩
  have hcl : w.cell? ⟨F, n, none⟩ = some (.int .u8 l) := by
    have := hb n (by omega)
    rw [this]
    rw [List.getElem?_eq_getElem (by omega)] at hl
    rw [Option.some.inj hl]
  have hl0 := hz l (List.mem_of_getElem? hl)
  by_cases hbad : 0 < n ∧ l = 0
  · have Hv : Hid (nV bs = (0, false)) := nV_bad bs n l hn hl hbad.1 hbad.2
    obtain ⟨hn0, rfl⟩ := hbad
    clear hb hz hl hn
    go_enter Tryz.func179, Tryz.ntmps179
    go_wp2
    go_ret2
    exact ⟨by rw [Hv.out]; rfl, rfl⟩
  · have hd : n = 0 ∨ (0 < n ∧ ¬ l = 0) := by omega
    have Hv : Hid (nV bs = (val bs, true)) := nV_ok bs n l hn hl hd
    have HN : Hid (bs.length = n + 1) := hn
    have hd : n < 1 ∨ (0 < n ∧ ¬ l = 0) := by omega
    clear hbad hn hl
    rcases hd with hd | ⟨hd, hl1⟩
    all_goals
      go_enter Tryz.func179, Tryz.ntmps179
      go_wp2
      go_loop [5, 6] (fun x i => ∃ (j : Nat) (q : Int), j ≤ n + 1 ∧ i = .int .i64 q ∧ x = .int .i64 (val (bs.drop j)) ∧ Hid (q = (j : Int) - 1)) (fun _ i => (intOf i + 1).toNat)
      case atStart => exact ⟨n + 1, n, by omega, by go_num, by rw [List.drop_eq_nil_of_le (by have := HN.out; omega)]; rfl, by unfold Hid; omega⟩
      case round =>
        obtain ⟨j, q, hj, rfl, rfl, HQ⟩ := hrel
        cases j with
        | zero =>
          have hq : q < 0 := by have := HQ.out; omega
          go_wp2
          go_ret2
          exact ⟨by rw [Hv.out]; rfl, rfl⟩
        | succ m =>
          have hq : q = (m : Int) := by have := HQ.out; omega
          subst hq
          clear HQ
          have hml : m < bs.length := by have := HN.out; omega
          have hc := hb m hml
          have hv := val_bounds (bs.drop (m + 1))
          have hlim := lim_eight (show (bs.drop (m + 1)).length ≤ 8 by simp; omega)
          have Hd : Hid (val (bs.drop m) = val (bs.drop (m + 1)) * 128 + bs[m] % 128) := val_drop bs m hml
          have hzm := hz bs[m] (List.getElem_mem _)
          clear hb hz
          go_wp2
          go_round
          case rel => exact ⟨m, _, by omega, rfl, by rw [Hd.out], rfl⟩
          case measure => simp [intOf]
end Go.Proofs.YtbhfooafhbfniaaGreatDoor
/-
  Contract of (impl.reader).next: the byte at the place, and the place one further; none where there is no byte.
-/
namespace Go.Proofs.YtbhfooafhbfniaaGreatDoor
open Go.RowKit
def One (w : World) (P : Nat) (a : Int) : Prop := w.heap[P]? = some (.cells #[.int .i64 a] 3 (0, 0))
theorem One.cell {w : World} {P : Nat} {a : Int} (h : One w P a) : w.cell? ⟨P, 0, none⟩ = some (.int .i64 a) := by
  rw [cell_of_row w P 0 _ 3 (0, 0) h]; rfl
theorem One.free {w : World} {P : Nat} {a : Int} (h : One w P a) : w.frozen? ⟨P, 0, none⟩ = false := frozen_of_row w P 0 _ 3 h
theorem One.lt {w : World} {P : Nat} {a : Int} (h : One w P a) : P < w.heap.size := (Array.getElem?_eq_some_iff.1 h).1
theorem One.set {w : World} {P : Nat} {a : Int} (h : One w P a) (b : Int) : One (w.setCell ⟨P, 0, none⟩ (.int .i64 b)) P b := heap_setCell_same w P 0 _ 3 _ h
theorem One.kept {w w' : World} {P : Nat} {a : Int} (h : One w P a) {row : Option Nat} (hg : w.grownBy w' row) (hne : some P ≠ row) : One w' P a := (hg.block P h.lt hne).trans h
theorem One.below {w w' : World} {P B : Nat} {a : Int} (h : One w P a) (hb : Below B w w') (hP : P < B) : One w' P a := (hb.block P hP).trans h
set_option maxHeartbeats 400000 in
theorem next_no (v : Value) (zs : List Int) (P : Nat) (a : Int) (w : World) (R : ∃ ao cap, v = .slice ao zs.length cap) (h : One w P a) (_hl : zs.length ≤ 140737488351232) (ha : a < 0 ∨ (zs.length : Int) ≤ a) :
    Calls Tryz.prog 177 #[.agg #[v, .pointer (some ⟨P, 0, none⟩)]] w fun e w' => e = .returned (.tuple #[.int .u8 0, .bool false]) ∧ One w' P a ∧ w.grownBy w' (some P) := by
  obtain ⟨ao, cap, rfl⟩ := R
  have hc := h.cell
  have hP := h.lt
  by_cases ha1 : a < 0
  · clear ha
    go_enter Tryz.func177, Tryz.ntmps177
    go_wp2
    go_ret2
    exact ⟨rfl, h.kept (World.grownBy_alloc w _ none) (by simp), World.grownBy_alloc w _ _⟩
  · have ha2 : (zs.length : Int) ≤ a := by omega
    clear ha
    go_enter Tryz.func177, Tryz.ntmps177
    go_wp2
    go_ret2
    exact ⟨rfl, h.kept (World.grownBy_alloc w _ none) (by simp), World.grownBy_alloc w _ _⟩
set_option maxHeartbeats 400000 in
theorem next_yes (zs : List Int) (P n g o cap : Nat) (w : World) (h : One w P n) (hl : zs.length ≤ 140737488351232) (hn : n < zs.length)
    (hc0 : w.cell? ⟨g, o + n, none⟩ = some (.int .u8 zs[n])) (hgP : g ≠ P) :
    Calls Tryz.prog 177 #[.agg #[.slice (some ⟨g, o, none⟩) zs.length cap, .pointer (some ⟨P, 0, none⟩)]] w fun e w' => e = .returned (.tuple #[.int .u8 zs[n], .bool true]) ∧ One w' P ((n : Int) + 1) ∧ w.grownBy w' (some P) := by
  have hc := h.cell
  have hf := h.free
  have hP := h.lt
  have hg := World.block_lt_of_cell? _ _ hc0
  simp only at hg
  generalize zs[n] = b at hc0 ⊢
  go_enter Tryz.func177, Tryz.ntmps177
  go_wp2
  go_ret2
  have h1 := (h.set ((n : Int) + 1)).kept (World.grownBy_alloc (w.setCell ⟨P, 0, none⟩ (.int .i64 ((n : Int) + 1))) (.cells #[.slice (some ⟨g, o, none⟩) zs.length cap, .pointer (some ⟨P, 0, none⟩)] 177) none) (by simp)
  exact ⟨rfl, h1, grown_trans (grown_set w P 0 _) (World.grownBy_alloc _ _ _)⟩
theorem grown_then {w w1 w2 : World} {row : Option Nat} {B : Nat} (h : w.grownBy w1 row) (k : Below B w1 w2) (hB : w.heap.size ≤ B) : w.grownBy w2 row :=
  ⟨k.os.trans h.os, k.tape.trans h.tape, k.output.trans h.output, Nat.le_trans h.size k.size, fun i hi hne => (k.block i (by omega)).trans (h.block i hi hne)⟩
theorem gN_nV (zs : List Int) (n : Nat) (bs : List Int) (h : scan 9 (zs.drop n) = some bs) :
    (gN zs (n : Int)).1 = (nV bs).1 ∧ (gN zs (n : Int)).2.2 = (nV bs).2 ∧ ((gN zs (n : Int)).2.2 = true → (gN zs (n : Int)).2.1 = (n : Int) + bs.length) := by
  have h1 : ¬ (n : Int) < 0 := by omega
  simp only [gN, h1, if_false, Int.toNat_natCast, h, nV]
  split <;> simp
end Go.Proofs.YtbhfooafhbfniaaGreatDoor
