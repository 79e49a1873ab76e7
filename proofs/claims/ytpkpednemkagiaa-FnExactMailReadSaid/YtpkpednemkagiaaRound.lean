/-
  Plain mathematics: what is put is got, whatever stands behind it. Nothing of the program; no condition.
-/
import Derived.Test.YtpkpednemkagiaaGText
namespace Go.Proofs.Ytpkpednemkagiaa
open Go.RowKit

theorem scan_enc (post : List Int) (f : Nat) (x : Int) (h0 : 0 ≤ x) (hl : x < lim (f + 1)) : scan (f + 1) (enc (f + 1) x ++ post) = some (enc (f + 1) x) := by
  induction f generalizing x with
  | zero =>
    have hx : x < 128 := by simpa [lim] using hl
    rw [enc_last 0 x hx]; simp [scan, hx]
  | succ f ih =>
    by_cases hx : x < 128
    · rw [enc_last _ x hx]; simp [scan, hx]
    · obtain ⟨f', hf, hl'⟩ := lim_more (f + 1) x (by omega) hl
      rw [enc_more _ x (by omega), List.cons_append]
      simp only [scan]
      rw [if_neg (by omega), ih (x / 128) (by omega) hl']
      rfl
theorem val_enc (f : Nat) (x : Int) (h0 : 0 ≤ x) (hl : x < lim (f + 1)) : val (enc (f + 1) x) = x := by
  induction f generalizing x with
  | zero =>
    have hx : x < 128 := by simpa [lim] using hl
    rw [enc_last 0 x hx]; simp only [val]; omega
  | succ f ih =>
    by_cases hx : x < 128
    · rw [enc_last _ x hx]; simp only [val]; omega
    · obtain ⟨f', hf, hl'⟩ := lim_more (f + 1) x (by omega) hl
      rw [enc_more _ x (by omega)]
      simp only [val]
      rw [ih (x / 128) (by omega) hl']
      omega
theorem last_enc (f : Nat) (x : Int) (h0 : 0 < x) (hl : x < lim (f + 1)) : (enc (f + 1) x).getLast? ≠ some 0 := by
  induction f generalizing x with
  | zero =>
    have hx : x < 128 := by simpa [lim] using hl
    rw [enc_last 0 x hx]; simp; omega
  | succ f ih =>
    by_cases hx : x < 128
    · rw [enc_last _ x hx]; simp; omega
    · obtain ⟨f', hf, hl'⟩ := lim_more (f + 1) x (by omega) hl
      rw [enc_more _ x (by omega)]
      have hne : enc (f + 1) (x / 128) ≠ [] := by
        intro e
        have := scan_enc [] f (x / 128) (by omega) hl'
        rw [e] at this
        simp [scan] at this
      rw [List.getLast?_cons_of_ne_nil hne]
      exact ih (x / 128) (by omega) hl'
theorem nine_lim {x : Int} (h : x ≤ 9223372036854775807) : x < lim (8 + 1) := by
  rw [lim_nine]; omega

theorem gN_enc (pre post : List Int) (x : Int) (h0 : 0 ≤ x) (h1 : x ≤ 9223372036854775807) : gN (pre ++ (enc 9 x ++ post)) (pre.length : Int) = (x, (pre.length : Int) + (enc 9 x).length, true) := by
  have hs : scan 9 ((pre ++ (enc 9 x ++ post)).drop pre.length) = some (enc 9 x) := by
    rw [List.drop_left]
    exact scan_enc post 8 x h0 (nine_lim h1)
  have hneg : ¬ (pre.length : Int) < 0 := by omega
  simp only [gN, hneg, if_false, Int.toNat_natCast, hs]
  rw [if_neg, val_enc 8 x h0 (nine_lim h1)]
  intro hbad
  rcases Int.lt_or_eq_of_le h0 with h | h
  · exact last_enc 8 x h (nine_lim h1) hbad.2
  · subst h
    have := hbad.1
    rw [enc_last 8 0 (by omega)] at this
    simp at this

theorem strOfNums_sb (s : ByteArray) : strOfNums (sb s) = s := by
  have e0 : ∀ l : List UInt8, (l.map fun b => (b.toNat : Int)).map (fun n => UInt8.ofNat n.toNat) = l := by
    intro l
    induction l with
    | nil => rfl
    | cons b l ih => simp only [List.map_cons, ih]; simp
  have e : (sb s).map (fun n => UInt8.ofNat n.toNat) = s.data.toList := e0 _
  unfold strOfNums
  rw [e]

theorem gT_pt (s : ByteArray) (post : List Int) (h : s.size ≤ 1048576) : gT (pt s ++ post) 0 = (s, ((pt s).length : Int), true) := by
  have hp : pt s = enc 9 s.size ++ sb s := by rw [pt, encI_pos _ (by omega)]
  have hg : gN (pt s ++ post) 0 = (((s.size : Nat) : Int), (((enc 9 s.size).length : Nat) : Int), true) := by
    have := gN_enc [] (sb s ++ post) s.size (by omega) (by omega)
    rw [hp, List.append_assoc]
    simpa using this
  have hlen : (pt s ++ post).length = (enc 9 s.size).length + s.size + post.length := by rw [hp]; simp [sb_length]; omega
  rw [gT_yes _ 0 s.size _ hg (by rw [hlen]; omega)]
  have hcut : List.take s.size (List.drop (enc 9 s.size).length (pt s ++ post)) = sb s := by
    rw [hp, List.append_assoc, List.drop_left]
    rw [← sb_length s]
    exact List.take_left
  rw [hcut, strOfNums_sb, pt_length, encI_pos _ (by omega)]
  simp

end Go.Proofs.Ytpkpednemkagiaa
