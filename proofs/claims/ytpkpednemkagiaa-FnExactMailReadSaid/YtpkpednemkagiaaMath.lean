/-
  Plain mathematics of a number's bytes: groups of seven bits, the lowest first. Nothing of the program; no condition.
-/
import Derived.Test.YtpkpednemkagiaaOwn
namespace Go.Proofs.Ytpkpednemkagiaa

/-- A number's bytes, f of them at most. -/
def enc : Nat → Int → List Int
  | 0, _ => []
  | f + 1, x => if x < 128 then [x] else (x % 128 + 128) :: enc f (x / 128)
/-- What f bytes can't hold. -/
def lim : Nat → Int
  | 0 => 1
  | f + 1 => 128 * lim f
theorem lim_nine : lim 9 = 9223372036854775808 := by simp [lim]
theorem lim_pos (f : Nat) : 1 ≤ lim f := by
  induction f with
  | zero => simp [lim]
  | succ f ih => simp only [lim]; omega
theorem enc_last (f : Nat) (x : Int) (h : x < 128) : enc (f + 1) x = [x] := by simp [enc, h]
theorem enc_more (f : Nat) (x : Int) (h : 128 ≤ x) : enc (f + 1) x = (x % 128 + 128) :: enc f (x / 128) := by
  have : ¬ x < 128 := by omega
  simp [enc, this]
theorem lim_more (f : Nat) (y : Int) (h : 128 ≤ y) (hy : y < lim (f + 1)) : ∃ f', f = f' + 1 ∧ y / 128 < lim f := by
  cases f with
  | zero => simp [lim] at hy; omega
  | succ f' => exact ⟨f', rfl, by simp only [lim] at hy ⊢; omega⟩
theorem enc_length (f : Nat) (x : Int) : (enc f x).length ≤ f := by
  induction f generalizing x with
  | zero => simp [enc]
  | succ f ih =>
    simp only [enc]
    split
    · simp
    · simp only [List.length_cons]; have := ih (x / 128); omega
theorem enc_wf (f : Nat) (x : Int) (h : 0 ≤ x) : ∀ z ∈ enc f x, 0 ≤ z ∧ z ≤ 255 := by
  induction f generalizing x with
  | zero => simp [enc]
  | succ f ih =>
    simp only [enc]
    split
    · intro z hz; simp at hz; omega
    · intro z hz
      simp only [List.mem_cons] at hz
      rcases hz with rfl | hz
      · omega
      · exact ih _ (by omega) z hz
/-- The bytes of any int: none of one below 0. -/
def encI (x : Int) : List Int := if x < 0 then [] else enc 9 x
theorem encI_neg (x : Int) (h : x < 0) : encI x = [] := by simp [encI, h]
theorem encI_pos (x : Int) (h : 0 ≤ x) : encI x = enc 9 x := by
  have : ¬ x < 0 := by omega
  simp [encI, this]
theorem encI_length (x : Int) : (encI x).length ≤ 9 := by
  unfold encI; split
  · simp
  · exact enc_length 9 x
theorem encI_wf (x : Int) : ∀ z ∈ encI x, 0 ≤ z ∧ z ≤ 255 := by
  unfold encI; split
  · simp
  · exact enc_wf 9 x (by omega)

end Go.Proofs.Ytpkpednemkagiaa
