/-
  Texts that stood by themselves, laid into one.
-/
import Derived.Test.YtaojlmoppbknbaaGreatDoorRows
import Derived.WalkKit
import Derived.WalkLawsBesides
import Derived.WalkSpells
import Derived.Deep.QuietTactic
import Derived.BigQuiet
/-
  Helpers for the proofs over this seat: what it is for a slice of bytes to read as a list of numbers in a world. Nothing of the program is proved here; no condition.
-/
namespace Go.Proofs.YtaojlmoppbknbaaGreatDoor
open Go.RowKit

/-- The slice value v reads in w as the bytes zs: its length is theirs, each fits a byte, and where there is one it lies at its place. -/
def Row (w : World) (v : Value) (zs : List Int) : Prop :=
  ∃ ao cap, v = .slice ao zs.length cap ∧ zs.length ≤ cap ∧ zs.length ≤ 140737488351232 ∧ (∀ z ∈ zs, 0 ≤ z ∧ z ≤ 255) ∧
    (zs ≠ [] → ∃ g o, ao = some ⟨g, o, none⟩ ∧ g < w.heap.size ∧ ∀ i, i < zs.length → w.cell? ⟨g, o + i, none⟩ = some (.int .u8 (zs.getD i 0)))

theorem Row.below {w w' : World} {v : Value} {zs : List Int} (h : Row w v zs) (hb : Below w.heap.size w w') : Row w' v zs := by
  obtain ⟨ao, cap, rfl, hc, hm, hz, hcell⟩ := h
  refine ⟨ao, cap, rfl, hc, hm, hz, fun hne => ?_⟩
  obtain ⟨g, o, rfl, hg, hcell⟩ := hcell hne
  exact ⟨g, o, rfl, Nat.lt_of_lt_of_le hg hb.size, fun i hi => (hb.cell (p := ⟨g, o + i, none⟩) hg).trans (hcell i hi)⟩

theorem Tryz.infoU8 : (Tryz.prog.info? 5).map (fun i => (i.zero, i.size, i.bytes)) = some (some (.int .u8 0), 1, 1) := by kernel_rfl

/-- The cells of bytes. -/
def bv (zs : List Int) : List Value := zs.map (Value.int .u8)
theorem bv_length (zs : List Int) : (bv zs).length = zs.length := by simp [bv]
theorem bv_append (a b : List Int) : bv (a ++ b) = bv a ++ bv b := by simp [bv]
theorem bv_get (zs : List Int) (i : Nat) (h : i < zs.length) : (bv zs)[i]? = some (.int .u8 (zs.getD i 0)) := by
  simp [bv, List.getD, h]

/-- What the call owns reads as what it holds. -/
theorem Row.of_own {w : World} {base : Nat} {v : Value} {zs : List Int} (h : w.ownsRow base 5 1 v zs.length (bv zs)) (hm : zs.length ≤ 140737488351232) (hz : ∀ z ∈ zs, 0 ≤ z ∧ z ≤ 255) : Row w v zs := by
  rcases h.2 with ⟨rfl, h0⟩ | ⟨g, cap, cur, rfl, hb, hg, hnc, hcm, hcs, htake⟩
  · have : zs = [] := List.eq_nil_of_length_eq_zero h0
    subst this
    exact ⟨none, 0, rfl, by simp, by simp, by simp, fun h => absurd rfl h⟩
  · refine ⟨_, cap, rfl, hnc, hm, hz, fun _ => ⟨g, 0, rfl, (Array.getElem?_eq_some_iff.1 hg).1, fun i hi => ?_⟩⟩
    have := h.cellAt i (by omega)
    rw [Nat.zero_add, this, bv_get zs i hi]

end Go.Proofs.YtaojlmoppbknbaaGreatDoor

/-
  Plain mathematics of a number's bytes: groups of seven bits, the lowest first. Nothing of the program; no condition.
-/
namespace Go.Proofs.YtaojlmoppbknbaaGreatDoor

/-- A number's bytes, f of them at most. -/
def enc : Nat → Int → List Int
  | 0, _ => []
  | f + 1, x => if x < 128 then [x] else (x % 128 + 128) :: enc f (x / 128)
/-- What f bytes can't hold. -/
def lim : Nat → Int
  | 0 => 1
  | f + 1 => 128 * lim f
theorem lim_nine : lim 9 = 9223372036854775808 := by simp [lim]
theorem lim_pos (f : Nat) : 1 ≤ lim f := by
  induction f with
  | zero => simp [lim]
  | succ f ih => simp only [lim]; omega
theorem enc_last (f : Nat) (x : Int) (h : x < 128) : enc (f + 1) x = [x] := by simp [enc, h]
theorem enc_more (f : Nat) (x : Int) (h : 128 ≤ x) : enc (f + 1) x = (x % 128 + 128) :: enc f (x / 128) := by
  have : ¬ x < 128 := by omega
  simp [enc, this]
theorem lim_more (f : Nat) (y : Int) (h : 128 ≤ y) (hy : y < lim (f + 1)) : ∃ f', f = f' + 1 ∧ y / 128 < lim f := by
  cases f with
  | zero => simp [lim] at hy; omega
  | succ f' => exact ⟨f', rfl, by simp only [lim] at hy ⊢; omega⟩
theorem enc_length (f : Nat) (x : Int) : (enc f x).length ≤ f := by
  induction f generalizing x with
  | zero => simp [enc]
  | succ f ih =>
    simp only [enc]
    split
    · simp
    · simp only [List.length_cons]; have := ih (x / 128); omega
theorem enc_wf (f : Nat) (x : Int) (h : 0 ≤ x) : ∀ z ∈ enc f x, 0 ≤ z ∧ z ≤ 255 := by
  induction f generalizing x with
  | zero => simp [enc]
  | succ f ih =>
    simp only [enc]
    split
    · intro z hz; simp at hz; omega
    · intro z hz
      simp only [List.mem_cons] at hz
      rcases hz with rfl | hz
      · omega
      · exact ih _ (by omega) z hz
/-- The bytes of any int: none of one below 0. -/
def encI (x : Int) : List Int := if x < 0 then [] else enc 9 x
theorem encI_neg (x : Int) (h : x < 0) : encI x = [] := by simp [encI, h]
theorem encI_pos (x : Int) (h : 0 ≤ x) : encI x = enc 9 x := by
  have : ¬ x < 0 := by omega
  simp [encI, this]
theorem encI_length (x : Int) : (encI x).length ≤ 9 := by
  unfold encI; split
  · simp
  · exact enc_length 9 x
theorem encI_wf (x : Int) : ∀ z ∈ encI x, 0 ≤ z ∧ z ≤ 255 := by
  unfold encI; split
  · simp
  · exact enc_wf 9 x (by omega)

end Go.Proofs.YtaojlmoppbknbaaGreatDoor

/-
  Plain mathematics of reading a number from bytes. Nothing of the program; no condition.
-/
namespace Go.Proofs.YtaojlmoppbknbaaGreatDoor
open Go.RowKit

/-- The bytes of the form that stands ahead, f of them at most: up to the first below 128. -/
def scan : Nat → List Int → Option (List Int)
  | 0, _ => none
  | _ + 1, [] => none
  | f + 1, b :: bs => if b < 128 then some [b] else (scan f bs).map (b :: ·)
/-- The number of a form. -/
def val : List Int → Int
  | [] => 0
  | b :: bs => b % 128 + 128 * val bs
theorem val_bounds (bs : List Int) : 0 ≤ val bs ∧ val bs < lim bs.length := by
  induction bs with
  | nil => simp [val, lim]
  | cons b bs ih => simp only [val, List.length_cons, lim]; omega
theorem val_snoc (bs : List Int) (b : Int) : val (bs ++ [b]) = val bs + b % 128 * lim bs.length := by
  induction bs with
  | nil => simp [val, lim]
  | cons c bs ih =>
    simp only [List.cons_append, val, ih, List.length_cons, lim]
    rw [Int.mul_add, ← Int.mul_assoc, ← Int.mul_assoc, Int.mul_comm (b % 128) 128]
    omega
theorem lim_mono {a b : Nat} (h : a ≤ b) : lim a ≤ lim b := by
  induction h with
  | refl => exact Int.le_refl _
  | step h ih => rename_i m; have := lim_pos m; simp only [lim]; omega
theorem mul_lim (b : Int) (k : Nat) : 0 ≤ b % 128 * lim k ∧ b % 128 * lim k ≤ 127 * lim k := by
  have h1 : 0 ≤ b % 128 := by omega
  have h2 : b % 128 ≤ 127 := by omega
  have h3 := lim_pos k
  exact ⟨Int.mul_nonneg h1 (by omega), Int.mul_le_mul_of_nonneg_right h2 (by omega)⟩

def gN (zs : List Int) (a : Int) : Int × Int × Bool :=
  if a < 0 then (0, 0, false) else
  match scan 9 (zs.drop a.toNat) with
  | none => (0, 0, false)
  | some bs => if 1 < bs.length ∧ bs.getLast? = some 0 then (0, 0, false) else (val bs, a + bs.length, true)
theorem gN_neg (zs : List Int) (a : Int) (h : a < 0) : gN zs a = (0, 0, false) := by simp [gN, h]
theorem gN_none (zs : List Int) (a : Nat) (h : scan 9 (zs.drop a) = none) : gN zs (a : Int) = (0, 0, false) := by
  have : ¬ (a : Int) < 0 := by omega
  simp [gN, h]
theorem gN_zero (zs : List Int) (a : Nat) (acc : List Int) (h : scan 9 (zs.drop a) = some (acc ++ [0])) (hk : 0 < acc.length) : gN zs (a : Int) = (0, 0, false) := by
  have : ¬ (a : Int) < 0 := by omega
  simp [gN, h]
  intro h0; subst h0; simp at hk
theorem gN_some (zs : List Int) (a : Nat) (acc : List Int) (b : Int) (h : scan 9 (zs.drop a) = some (acc ++ [b])) (hk : ¬ (b = 0 ∧ 0 < acc.length)) :
    gN zs (a : Int) = (val acc + b % 128 * lim acc.length, (a : Int) + acc.length + 1, true) := by
  have h1 : ¬ (a : Int) < 0 := by omega
  have h2 : ¬ (1 < (acc ++ [b]).length ∧ (acc ++ [b]).getLast? = some 0) := by
    simp only [List.length_append, List.length_cons, List.length_nil, List.getLast?_append, List.getLast?_singleton, Option.some_or, Option.some.injEq]
    omega
  simp only [gN, h1, if_false, Int.toNat_natCast, h]
  rw [if_neg h2, val_snoc]
  simp only [List.length_append, List.length_cons, List.length_nil]
  congr 2

/-- k bytes of the form have gone by. -/
def Sc (zs : List Int) (a k : Nat) (acc : List Int) : Prop := acc.length = k ∧ scan 9 (zs.drop a) = (scan (9 - k) (zs.drop (a + k))).map (acc ++ ·)
theorem Sc.start (zs : List Int) (a : Nat) : Sc zs a 0 [] := ⟨rfl, by simp⟩
theorem Sc.more {zs : List Int} {a k : Nat} {acc : List Int} (h : Sc zs a k acc) (hk : k < 9) (hl : a + k < zs.length) (hb : 128 ≤ zs[a + k]) : Sc zs a (k + 1) (acc ++ [zs[a + k]]) := by
  refine ⟨by simp [h.1], ?_⟩
  rw [h.2, show 9 - k = 9 - (k + 1) + 1 by omega, List.drop_eq_getElem_cons hl]
  simp only [scan]
  rw [if_neg (by omega), Option.map_map]
  congr 1
  funext x
  simp
theorem Sc.last {zs : List Int} {a k : Nat} {acc : List Int} (h : Sc zs a k acc) (hk : k < 9) (hl : a + k < zs.length) (hb : zs[a + k] < 128) : scan 9 (zs.drop a) = some (acc ++ [zs[a + k]]) := by
  rw [h.2, show 9 - k = 9 - (k + 1) + 1 by omega, List.drop_eq_getElem_cons hl]
  simp only [scan]
  rw [if_pos hb]
  rfl
theorem Sc.out {zs : List Int} {a k : Nat} {acc : List Int} (h : Sc zs a k acc) (hk : 9 ≤ k ∨ zs.length ≤ a + k) : scan 9 (zs.drop a) = none := by
  rw [h.2]
  rcases hk with hk | hk
  · rw [show 9 - k = 0 by omega]; rfl
  · rw [List.drop_eq_nil_of_le hk]
    cases 9 - k <;> rfl

/-- What GetNum answers, as a value. -/
abbrev gV (r : Int × Int × Bool) : Value := .tuple #[.int .i64 r.1, .int .i64 r.2.1, .bool r.2.2]

theorem lim_eight {k : Nat} (h : k ≤ 8) : lim k ≤ 72057594037927936 := by
  have := lim_mono h
  rw [show lim 8 = 72057594037927936 from by simp [lim]] at this
  exact this
theorem lim_seven {k : Nat} (h : k ≤ 7) : lim k ≤ 562949953421312 := by
  have := lim_mono h
  rw [show lim 7 = 562949953421312 from by simp [lim]] at this
  exact this

end Go.Proofs.YtaojlmoppbknbaaGreatDoor

/-
  Contract of spec.GetNum, for every slice of bytes within the form's reach and every place.
-/
namespace Go.Proofs.YtaojlmoppbknbaaGreatDoor
open Go.RowKit

theorem unit_step (k : Nat) (h : k + 1 < 9) : wrap64 (lim k * 128) = lim (k + 1) := by
  have h1 := lim_pos k
  have h2 := lim_eight (show k ≤ 8 by omega)
  have h3 := lim_seven (show k ≤ 7 by omega)
  rw [IntWalk.wrap64_in _ ⟨by omega, by omega⟩]
  simp only [lim]
  omega

set_option maxHeartbeats 800000 in
theorem sget_any (v : Value) (zs : List Int) (a : Int) (w : World) (h : Row w v zs) (hlo : -9223372036854775808 ≤ a) (hhi : a ≤ 9223372036854775807) :
    Calls Tryz.prog 35 #[v, .int .i64 a] w fun e w' => e = .returned (gV (gN zs a)) ∧ w' = w := by
  obtain ⟨ao, cap, rfl, hcap, hm, hz, hcell⟩ := h
  by_cases hneg : a < 0
  · rw [gN_neg zs a hneg]
    go_enter Tryz.func35, Tryz.ntmps35
    go_wp2
    go_ret3
    exact ⟨rfl, rfl⟩
  by_cases hout : (zs.length : Int) ≤ a
  · obtain ⟨n, rfl⟩ := Int.eq_ofNat_of_zero_le (show 0 ≤ a by omega)
    rw [gN_none zs n ((Sc.start zs n).out (Or.inr (by omega)))]
    go_enter Tryz.func35, Tryz.ntmps35
    go_wp2
    go_ret3
    exact ⟨rfl, rfl⟩
  obtain ⟨n, rfl⟩ := Int.eq_ofNat_of_zero_le (show 0 ≤ a by omega)
  obtain ⟨g, o, rfl, hg, hcell⟩ := hcell (by intro e; subst e; simp at hout)
  have hn : n < zs.length := by omega
  clear hneg hout hlo hhi
  go_enter Tryz.func35, Tryz.ntmps35
  go_wp2
  go_loop [7, 8, 9] (fun x u i => ∃ (k : Nat) (U : Int) (acc : List Int), k ≤ 9 ∧ n + k ≤ zs.length ∧ i = .int .i64 k ∧ u = .int .i64 U ∧ x = .int .i64 (val acc) ∧ Hid (k < 9 → U = lim k) ∧ Hid (Sc zs n k acc)) (fun _ _ i => 9 - (intOf i).toNat)
  case atStart => exact ⟨0, 1, [], by omega, by omega, rfl, rfl, rfl, fun _ => rfl, Sc.start zs n⟩
  case round =>
    obtain ⟨k, U, acc, hk, hkl, rfl, rfl, rfl, HU, HS⟩ := hrel
    by_cases h9 : k < 9
    · by_cases hlt : n + k < zs.length
      · have hc := hcell (n + k) hlt
        have hU := HU.out h9
        have hvb := val_bounds acc
        rw [HS.out.1] at hvb
        subst hU
        clear HU
        have hml := mul_lim zs[n + k] k
        have hl8 := lim_eight (show k ≤ 8 by omega)
        have hb := hz zs[n + k] (List.getElem_mem _)
        clear hcell hz
        by_cases hb128 : zs[n + k] < 128
        · have hlast := HS.out.last h9 hlt hb128
          have hal := HS.out.1
          by_cases hz0 : zs[n + k] = 0
          · by_cases hk0 : 0 < k
            · have Hv : Hid (gN zs (n : Int) = (0, 0, false)) := gN_zero zs n acc (by rw [hlast, hz0]) (by omega)
              clear hlast hal
              go_wp2
              go_ret3
              exact ⟨by rw [Hv.out]; rfl, rfl⟩
            · have Hv : Hid (gN zs (n : Int) = (val acc, (n : Int) + k + 1, true)) := by
                have := gN_some zs n acc zs[n + k] hlast (by omega)
                rw [hal, hz0] at this
                simpa [Hid] using this
              clear hlast hal
              go_wp2
              go_ret3
              exact ⟨by rw [Hv.out]; rfl, rfl⟩
          · have Hv : Hid (gN zs (n : Int) = (val acc + zs[n + k] % 128 * lim k, (n : Int) + k + 1, true)) := by
              have := gN_some zs n acc zs[n + k] hlast (by omega)
              rw [hal] at this; exact this
            clear hlast hal
            go_wp2
            go_ret3
            exact ⟨by rw [Hv.out]; rfl, rfl⟩
        · go_wp2
          refine ⟨⟨_, _, _, _, _, _, ⟨k + 1, by omega, by omega, ?ra, wrap64 (lim k * 128), ?rb, acc ++ [zs[n + k]], ?rc, ?rd, HS.out.more h9 hlt (by omega)⟩, rfl, rfl, rfl, rfl, rfl, rfl⟩, by simp [intOf]; omega⟩
          case ra => go_num
          case rb => rfl
          case rc => rw [val_snoc, HS.out.1]
          case rd => exact fun h => unit_step k h
      · have Hv : Hid (gN zs (n : Int) = (0, 0, false)) := gN_none zs n (HS.out.out (Or.inr (by omega)))
        go_wp2
        go_ret3
        exact ⟨by rw [Hv.out]; rfl, rfl⟩
    · have Hv : Hid (gN zs (n : Int) = (0, 0, false)) := gN_none zs n (HS.out.out (Or.inl (by omega)))
      go_wp2
      go_ret3
      exact ⟨by rw [Hv.out]; rfl, rfl⟩

end Go.Proofs.YtaojlmoppbknbaaGreatDoor
