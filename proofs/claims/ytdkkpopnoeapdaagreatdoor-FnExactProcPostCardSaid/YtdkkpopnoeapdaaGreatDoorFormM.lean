/-
  Texts that stood by themselves, laid into one.
-/
import Derived.Test.YtdkkpopnoeapdaaGreatDoorDecM
import Derived.Test.YtdkkpopnoeapdaaGreatDoorStore2M
import Derived.Laws.CopyOwn
/-
  Contract of spec.GetNum, for every slice of bytes within the form's reach and every place.
-/
namespace Go.Proofs.YtdkkpopnoeapdaaGreatDoor
open Go.RowKit

theorem unit_step (k : Nat) (h : k + 1 < 9) : wrap64 (lim k * 128) = lim (k + 1) := by
  have h1 := lim_pos k
  have h2 := lim_eight (show k ≤ 8 by omega)
  have h3 := lim_seven (show k ≤ 7 by omega)
  rw [IntWalk.wrap64_in _ ⟨by omega, by omega⟩]
  simp only [lim]
  omega

set_option maxHeartbeats 800000 in
theorem sget_any (v : Value) (zs : List Int) (a : Int) (w : World) (h : Row w v zs) (hlo : -9223372036854775808 ≤ a) (hhi : a ≤ 9223372036854775807) :
    Calls Tryz.prog 105 #[v, .int .i64 a] w fun e w' => e = .returned (gV (gN zs a)) ∧ w' = w := by
  obtain ⟨ao, cap, rfl, hcap, hm, hz, hcell⟩ := h
  by_cases hneg : a < 0
  · rw [gN_neg zs a hneg]
    go_enter Tryz.func105, Tryz.ntmps105
    go_wp2
    go_ret3
    exact ⟨rfl, rfl⟩
  by_cases hout : (zs.length : Int) ≤ a
  · obtain ⟨n, rfl⟩ := Int.eq_ofNat_of_zero_le (show 0 ≤ a by omega)
    rw [gN_none zs n ((Sc.start zs n).out (Or.inr (by omega)))]
    go_enter Tryz.func105, Tryz.ntmps105
    go_wp2
    go_ret3
    exact ⟨rfl, rfl⟩
  obtain ⟨n, rfl⟩ := Int.eq_ofNat_of_zero_le (show 0 ≤ a by omega)
  obtain ⟨g, o, rfl, hg, hcell⟩ := hcell (by intro e; subst e; simp at hout)
  have hn : n < zs.length := by omega
  clear hneg hout hlo hhi
  go_enter Tryz.func105, Tryz.ntmps105
  go_wp2
  go_loop [7, 8, 9] (fun x u i => ∃ (k : Nat) (U : Int) (acc : List Int), k ≤ 9 ∧ n + k ≤ zs.length ∧ i = .int .i64 k ∧ u = .int .i64 U ∧ x = .int .i64 (val acc) ∧ Hid (k < 9 → U = lim k) ∧ Hid (Sc zs n k acc)) (fun _ _ i => 9 - (intOf i).toNat)
  case atStart => exact ⟨0, 1, [], by omega, by omega, rfl, rfl, rfl, fun _ => rfl, Sc.start zs n⟩
  case round =>
    obtain ⟨k, U, acc, hk, hkl, rfl, rfl, rfl, HU, HS⟩ := hrel
    by_cases h9 : k < 9
    · by_cases hlt : n + k < zs.length
      · have hc := hcell (n + k) hlt
        have hU := HU.out h9
        have hvb := val_bounds acc
        rw [HS.out.1] at hvb
        subst hU
        clear HU
        have hml := mul_lim zs[n + k] k
        have hl8 := lim_eight (show k ≤ 8 by omega)
        have hb := hz zs[n + k] (List.getElem_mem _)
        clear hcell hz
        by_cases hb128 : zs[n + k] < 128
        · have hlast := HS.out.last h9 hlt hb128
          have hal := HS.out.1
          by_cases hz0 : zs[n + k] = 0
          · by_cases hk0 : 0 < k
            · have Hv : Hid (gN zs (n : Int) = (0, 0, false)) := gN_zero zs n acc (by rw [hlast, hz0]) (by omega)
              clear hlast hal
              go_wp2
              go_ret3
              exact ⟨by rw [Hv.out]; rfl, rfl⟩
            · have Hv : Hid (gN zs (n : Int) = (val acc, (n : Int) + k + 1, true)) := by
                have := gN_some zs n acc zs[n + k] hlast (by omega)
                rw [hal, hz0] at this
                simpa [Hid] using this
              clear hlast hal
              go_wp2
              go_ret3
              exact ⟨by rw [Hv.out]; rfl, rfl⟩
          · have Hv : Hid (gN zs (n : Int) = (val acc + zs[n + k] % 128 * lim k, (n : Int) + k + 1, true)) := by
              have := gN_some zs n acc zs[n + k] hlast (by omega)
              rw [hal] at this; exact this
            clear hlast hal
            go_wp2
            go_ret3
            exact ⟨by rw [Hv.out]; rfl, rfl⟩
        · go_wp2
          refine ⟨⟨_, _, _, _, _, _, ⟨k + 1, by omega, by omega, ?ra, wrap64 (lim k * 128), ?rb, acc ++ [zs[n + k]], ?rc, ?rd, HS.out.more h9 hlt (by omega)⟩, rfl, rfl, rfl, rfl, rfl, rfl⟩, by simp [intOf]; omega⟩
          case ra => go_num
          case rb => rfl
          case rc => rw [val_snoc, HS.out.1]
          case rd => exact fun h => unit_step k h
      · have Hv : Hid (gN zs (n : Int) = (0, 0, false)) := gN_none zs n (HS.out.out (Or.inr (by omega)))
        go_wp2
        go_ret3
        exact ⟨by rw [Hv.out]; rfl, rfl⟩
    · have Hv : Hid (gN zs (n : Int) = (0, 0, false)) := gN_none zs n (HS.out.out (Or.inl (by omega)))
      go_wp2
      go_ret3
      exact ⟨by rw [Hv.out]; rfl, rfl⟩

end Go.Proofs.YtdkkpopnoeapdaaGreatDoor

/-
  Plain mathematics: a number that is got stands there in just the bytes that it is put in. Nothing of the program; no condition.
-/
namespace Go.Proofs.YtdkkpopnoeapdaaGreatDoor

theorem scan_len : ∀ (f : Nat) (ys bs : List Int), scan f ys = some bs → bs ≠ [] ∧ bs.length ≤ f ∧ ∃ rest, ys = bs ++ rest
  | 0, _, _, h => by simp [scan] at h
  | _ + 1, [], _, h => by simp [scan] at h
  | f + 1, b :: ys, bs, h => by
    simp only [scan] at h
    split at h
    · cases h; exact ⟨by simp, by simp, ys, rfl⟩
    · cases hs : scan f ys with
      | none => rw [hs] at h; cases h
      | some cs =>
        rw [hs] at h
        cases h
        obtain ⟨h1, h2, rest, h3⟩ := scan_len f ys cs hs
        exact ⟨by simp, by simp; omega, rest, by rw [h3]; rfl⟩
theorem enc_scan : ∀ (f : Nat) (ys bs : List Int), (∀ z ∈ ys, 0 ≤ z ∧ z ≤ 255) → scan f ys = some bs → (1 < bs.length → bs.getLast? ≠ some 0) → enc f (val bs) = bs
  | 0, _, _, _, h, _ => by simp [scan] at h
  | _ + 1, [], _, _, h, _ => by simp [scan] at h
  | f + 1, b :: ys, bs, hz, h, hl => by
    have hb := hz b (by simp)
    simp only [scan] at h
    split at h
    · rename_i hlt
      cases h
      have e : val [b] = b := by simp only [val]; omega
      rw [e, enc_last f b hlt]
    · rename_i hge
      cases hs : scan f ys with
      | none => rw [hs] at h; cases h
      | some cs =>
        rw [hs] at h
        cases h
        obtain ⟨hne, hlen, _⟩ := scan_len f ys cs hs
        have hlast : (b :: cs).getLast? = cs.getLast? := List.getLast?_cons_of_ne_nil hne
        have hl2 : cs.getLast? ≠ some 0 := by
          rw [← hlast]
          apply hl
          have := List.length_pos_iff.2 hne
          simp
          omega
        have ih := enc_scan f ys cs (fun z h => hz z (by simp [h])) hs (fun _ => hl2)
        have hv := (val_bounds cs).1
        have hv1 : 1 ≤ val cs := by
          rcases Int.lt_or_le 0 (val cs) with h0 | h0
          · omega
          · have h00 : val cs = 0 := by omega
            rw [h00] at ih
            cases f with
            | zero => rw [← ih] at hne; simp [enc] at hne
            | succ f =>
              rw [enc_last f 0 (by omega)] at ih
              rw [← ih] at hl2
              simp at hl2
        have e : val (b :: cs) = b % 128 + 128 * val cs := rfl
        rw [e, enc_more f _ (by omega)]
        have e1 : (b % 128 + 128 * val cs) % 128 + 128 = b := by omega
        have e2 : (b % 128 + 128 * val cs) / 128 = val cs := by omega
        rw [e1, e2, ih]
/-- A number that is got: its bytes are there. -/
theorem gN_bytes {zs : List Int} {a x next : Int} (hz : ∀ z ∈ zs, 0 ≤ z ∧ z ≤ 255) (h : gN zs a = (x, next, true)) : 0 ≤ a ∧ 0 ≤ x ∧ next = a + (encI x).length ∧ ∃ rest, zs.drop a.toNat = encI x ++ rest := by
  unfold gN at h
  split at h
  · cases h
  · rename_i ha
    cases hs : scan 9 (zs.drop a.toNat) with
    | none => rw [hs] at h; cases h
    | some bs =>
      rw [hs] at h
      simp only at h
      split at h
      · cases h
      · rename_i hc
        cases h
        have hd : ∀ z ∈ zs.drop a.toNat, 0 ≤ z ∧ z ≤ 255 := fun z h => hz z (List.mem_of_mem_drop h)
        have he := enc_scan 9 _ bs hd hs (fun h1 h2 => hc ⟨h1, h2⟩)
        obtain ⟨_, _, rest, hr⟩ := scan_len 9 _ bs hs
        have hv := (val_bounds bs).1
        have hE : encI (val bs) = bs := by rw [encI_pos _ hv, he]
        exact ⟨by omega, hv, by rw [hE], rest, by rw [hE]; exact hr⟩
end Go.Proofs.YtdkkpopnoeapdaaGreatDoor

/-
  Contract of (*impl.numForm).add: one byte more in the form.
-/
namespace Go.Proofs.YtdkkpopnoeapdaaGreatDoor
open Go.RowKit

/-- The cells of a form that holds the bytes xs. -/
def formC (xs : List Int) : Array Value := (bv (xs ++ List.replicate (9 - xs.length) 0) ++ [Value.int .i64 xs.length]).toArray
theorem formC_size (xs : List Int) (h : xs.length ≤ 9) : (formC xs).size = 10 := by simp [formC, bv]; omega
theorem formC_get (xs : List Int) (h : xs.length ≤ 9) (i : Nat) (hi : i < 9) : (formC xs)[i]? = some (.int .u8 ((xs ++ List.replicate (9 - xs.length) 0).getD i 0)) := by
  have hl : (xs ++ List.replicate (9 - xs.length) 0).length = 9 := by simp; omega
  unfold formC
  rw [List.getElem?_toArray, List.getElem?_append_left (by rw [bv_length, hl]; exact hi)]
  exact bv_get _ i (by rw [hl]; exact hi)
theorem formC_count (xs : List Int) (h : xs.length ≤ 9) : (formC xs)[9]? = some (.int .i64 xs.length) := by
  have hl : (xs ++ List.replicate (9 - xs.length) 0).length = 9 := by simp; omega
  unfold formC
  rw [List.getElem?_toArray, List.getElem?_append_right (by rw [bv_length, hl]; exact Nat.le_refl _)]
  simp [bv_length, hl]
theorem formC_add (xs : List Int) (b : Int) (h : xs.length < 9) : ((formC xs).setIfInBounds xs.length (.int .u8 b)).setIfInBounds 9 (.int .i64 ((xs.length : Int) + 1)) = formC (xs ++ [b]) := by
  have e : List.replicate (9 - xs.length) (0 : Int) = 0 :: List.replicate (9 - (xs ++ [b]).length) 0 := by
    rw [show 9 - xs.length = (9 - (xs ++ [b]).length) + 1 by simp; omega, List.replicate_succ]
  apply Array.ext'
  simp only [formC, Array.toList_setIfInBounds, List.toList_toArray, bv, List.map_append]
  rw [e]
  simp only [List.map_cons, List.append_assoc]
  rw [List.set_append_right _ _ (by simp)]
  simp only [List.length_map, Nat.sub_self, List.cons_append, List.set_cons_zero]
  rw [List.set_append_right _ _ (by simp; omega)]
  rw [show 9 - (List.map (Value.int IntKind.u8) xs).length = 9 - (xs.length + 1) + 1 by simp; omega, List.set_cons_succ]
  rw [List.set_append_right _ _ (by simp)]
  simp

set_option maxRecDepth 100000 in
set_option maxHeartbeats 400000 in
theorem add_any (B : Nat) (b : Int) (xs : List Int) (w : World) (hx : xs.length < 9) (hh : w.heap[B]? = some (.cells (formC xs) 218 (0, 0))) :
    Calls Tryz.prog 158 #[.pointer (some ⟨B, 0, none⟩), .int .u8 b] w fun e w' => e = .returned (.tuple #[]) ∧ w'.heap[B]? = some (.cells (formC (xs ++ [b])) 218 (0, 0)) ∧ Below B w w' := by
  have h1 : ∀ i, w.cell? ⟨B, i, none⟩ = (formC xs)[i]? := fun i => cell_of_row w B i _ 218 (0, 0) hh
  have h2 : ∀ i, w.frozen? ⟨B, i, none⟩ = false := fun i => frozen_of_row w B i _ 218 hh
  have c9 : w.cell? ⟨B, 9, none⟩ = some (.int .i64 xs.length) := by rw [h1, formC_count xs (by omega)]
  have f9 := h2 9
  have ck := (h1 xs.length).trans (formC_get xs (by omega) xs.length hx)
  have fk := h2 xs.length
  clear h1 h2
  go_enter Tryz.func158, Tryz.ntmps158
  go_wp2
  go_region
  all_goals go_wp2
  all_goals go_end0
  refine ⟨rfl, ?_, (((Below.refl B w).setCell (p := ⟨B, xs.length, none⟩) (Nat.le_refl B) _).setCell (p := ⟨B, 9, none⟩) (Nat.le_refl B) _).drew⟩
  rw [← formC_add xs b hx]
  exact heap_setCell_same _ B 9 _ 218 _ (heap_setCell_same w B xs.length _ 218 _ hh)

end Go.Proofs.YtdkkpopnoeapdaaGreatDoor

/-
  Contract of impl.formOf: the form of a number from 0 on holds the number's bytes.
-/
namespace Go.Proofs.YtdkkpopnoeapdaaGreatDoor
open Go.RowKit

theorem Tryz.infoForm : (Tryz.prog.info? 218).map (·.size) = some 10 := by kernel_rfl
theorem formC_one (xs : List Int) : (formC xs).all (·.oneCell') = true := by
  rw [Array.all_eq_true_iff_forall_mem]
  intro v hv
  simp only [formC, bv, List.mem_toArray, List.mem_append, List.mem_map, List.mem_singleton] at hv
  rcases hv with ⟨z, _, rfl⟩ | rfl <;> rfl

theorem Tryz.infoFormC (xs : List Int) (h : xs.length ≤ 9) : Hid ((Tryz.prog.info? 218).map (·.size) = some (formC xs).size) := by
  unfold Hid; rw [formC_size xs h]; exact Tryz.infoForm
theorem formC_sizes (xs ys : List Int) (h : xs.length ≤ 9) (k : ys.length ≤ 9) : Hid ((formC xs).size = (formC ys).size) := by
  unfold Hid; rw [formC_size xs h, formC_size ys k]
theorem snoc_le (xs : List Int) (b : Int) (f : Nat) (h : xs.length + f = 8) : (xs ++ [b]).length ≤ 9 := by simp; omega

set_option maxRecDepth 100000 in
set_option maxHeartbeats 400000 in
theorem form_any (x : Int) (w : World) (hx : 0 ≤ x) (hm : x ≤ 9223372036854775807) :
    Calls Tryz.prog 164 #[.int .i64 x] w fun e w' => e = .returned (.agg (formC (enc 9 x))) ∧ Below w.heap.size w w' := by
  go_enter Tryz.func164, Tryz.ntmps164
  go_wp2_with fail
  go_loopw [0] (fun y wr => ∃ (f : Nat) (q : Int) (acc : List Int), y = .int .i64 q ∧ 0 ≤ q ∧ q ≤ 9223372036854775807 ∧ acc.length + f = 8 ∧ Hid (q < lim (f + 1)) ∧ Hid (acc ++ enc (f + 1) q = enc 9 x) ∧ wr.heap[w.heap.size + 1]? = some (.cells (formC acc) 218 (0, 0)) ∧ wr.heap[w.heap.size]? = some (.cells (formC []) 218 (0, 0)) ∧ Below w.heap.size w wr) (fun y _ => (intOf y).toNat)
  case atStart =>
    exact ⟨8, x, [], rfl, hx, hm, rfl, by unfold Hid; rw [lim_nine]; omega, rfl, heap_alloc2_new _ _ _, heap_alloc2_old _ _ _, ((Below.refl _ _).alloc (Nat.le_refl _) _).alloc (by simp) _⟩
  case round =>
    obtain ⟨f, q, acc, rfl, hq0, hq1, hlen, Hl, Ha, hh, hr, hbel⟩ := hrel
    by_cases hlt : q < 128
    · have Hi1 := Tryz.infoFormC (acc ++ [q]) (snoc_le acc q f hlen)
      have Hsz := formC_sizes [] (acc ++ [q]) (Nat.zero_le _) (snoc_le acc q f hlen)
      have HO : Hid ((formC (acc ++ [q])).all (·.oneCell') = true) := formC_one _
      go_wp2_with fail
      refine (add_any _ _ acc _ (by omega) hh).mono ?_
      rintro e w1 ⟨rfl, hh1, hbel1⟩
      have hr1 : w1.heap[w.heap.size]? = some (.cells (formC []) 218 (0, 0)) := (hbel1.block _ (by omega)).trans hr
      go_wp2_with (first | refine wpList_load_row rfl 218 _ rfl (w.heap.size + 1) rfl 218 _ (0, 0) _ hh1 Tryz.underlying218 rfl Hi1.out ?_ | refine wpList_store_row rfl 218 _ _ rfl w.heap.size _ rfl rfl 218 _ hr1 Hi1.out Hsz.out HO.out ?_)
      have e9 : enc 9 x = acc ++ [q] := by rw [← Ha.out, enc_last f q hlt]
      rw [e9]
      refine bodyPost_ret (results_cell_row rfl _ _ w.heap.size 218 _ (0, 0) _ rfl (setRow_heap w1 w.heap.size _ _ 218 _ hr1) Tryz.underlying218 rfl Hi1.out) rfl ⟨rfl, ?_⟩
      exact below_setRow (hbel.trans (hbel1.mono (by omega))) (Nat.le_refl _) _
    · go_wp2_with fail
      refine (add_any _ _ acc _ (by omega) hh).mono ?_
      rintro e w1 ⟨rfl, hh1, hbel1⟩
      go_wp2_with fail
      go_roundw
      case rel =>
        obtain ⟨f', rfl, hl⟩ := lim_more f q (by omega) Hl.out
        refine ⟨f', q / 128, acc ++ [q % 128 + 128], rfl, by omega, by omega, by simp; omega, hl, ?_, hh1, (hbel1.block _ (by omega)).trans hr, hbel.trans (hbel1.mono (by omega))⟩
        have e := enc_more (f' + 1) q (by omega)
        have e2 := Ha.out
        rw [e] at e2
        unfold Hid
        rw [← e2]
        simp
      case measure => simp [intOf]; omega

end Go.Proofs.YtdkkpopnoeapdaaGreatDoor
