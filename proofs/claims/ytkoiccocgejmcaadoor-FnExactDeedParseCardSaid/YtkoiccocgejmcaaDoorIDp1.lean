/-
  The contracts of strings.CutPrefix, strings.LastIndex at one byte, and impl.readNumber. The listed variables read as they are laid.
-/
import Derived.Test.YtkoiccocgejmcaaDoorSDp2
import Derived.Test.YtkoiccocgejmcaaDoorIDl
namespace Go.Proofs.YtkoiccocgejmcaaDoor
open Go.RowKit

theorem tx_all (s : ByteArray) : s = tx s.data.toList := by unfold tx; apply ByteArray.ext; simp
theorem tx_extract (l : List UInt8) (a b : Nat) : (tx l).extract a b = tx ((l.drop a).take (b - a)) := by rw [tx_ext, tx_list]
theorem tx_tail (l : List UInt8) (a b : Nat) (h : l.length ≤ b) : (tx l).extract a b = tx (l.drop a) := by
  rw [tx_extract, List.take_of_length_le (by rw [List.length_drop]; omega)]
theorem tx_head (l : List UInt8) (b : Nat) : (tx l).extract 0 b = tx (l.take b) := by rw [tx_extract]; simp

/-- Whether a text begins so. -/
def pre (p l : List UInt8) : Bool := l.take p.length == p

set_option maxHeartbeats 800000 in
theorem cutpre_any (l p : List UInt8) (w : World) :
    Calls Tryd.prog 25 #[.string (tx l), .string (tx p)] w fun e w' => e = .returned (.tuple #[.string (tx (if pre p l then l.drop p.length else l)), .bool (pre p l)]) ∧ w' = w := by
  have z1 := tx_size l
  have z2 := tx_size p
  by_cases hlen : p.length ≤ l.length
  · have hge : (p.length : Int) ≤ (l.length : Int) := by omega
    have ht : (tx l).extract p.length l.length = tx (l.drop p.length) := tx_tail _ _ _ (by omega)
    have hq : (((tx l).extract 0 p.length).toList == (tx p).toList) = pre p l := by rw [tx_head, ByteArray.toList_eq, ByteArray.toList_eq, tx_list, tx_list]; rfl
    cases hp : pre p l with
    | true =>
      rw [hp] at hq
      go_enter Tryd.func25, Tryd.ntmps25
      go_wp2
      go_ret2
      exact ⟨by rw [← ht]; rfl, rfl⟩
    | false =>
      rw [hp] at hq
      go_enter Tryd.func25, Tryd.ntmps25
      go_wp2
      go_ret2
      exact ⟨rfl, rfl⟩
  · have HF : Hid (pre p l = false) := by
      unfold Hid pre
      rw [beq_eq_false_iff_ne]
      intro e
      have := congrArg List.length e
      rw [List.length_take] at this
      omega
    have hge : ¬ (p.length : Int) ≤ (l.length : Int) := by omega
    rw [HF.out]
    go_enter Tryd.func25, Tryd.ntmps25
    go_wp2
    go_ret2
    exact ⟨rfl, rfl⟩

/-- Where the last blank of a text is: -1 where there is none. -/
def LastB (l : List UInt8) (n : Int) : Prop := (n = -1 ∧ ∀ c ∈ l, c ≠ 32) ∨ (0 ≤ n ∧ l[n.toNat]? = some 32 ∧ ∀ c ∈ l.drop (n.toNat + 1), c ≠ 32)

set_option maxRecDepth 100000 in
set_option maxHeartbeats 800000 in
theorem lastidxb_any (s : ByteArray) (w : World) (hl : s.size ≤ 1048576) :
    Calls Tryd.prog 48 #[.string s, .int .u8 32] w fun e w' => (∃ n : Int, e = .returned (.int .i64 n) ∧ LastB s.data.toList n) ∧ w' = w := by
  have HL : Hid (s.data.toList.length = s.size) := by unfold Hid; rw [Array.length_toList]; rfl
  go_enter Tryd.func48, Tryd.ntmps48
  go_wp2_with fail
  go_loopg [5] s.size (fun gk v5 wr => wr = w ∧ v5 = .int .i64 ((gk : Int) - 1) ∧ gk ≤ s.size ∧ Hid (∀ c ∈ s.data.toList.drop gk, c ≠ 32))
  case atStart => exact ⟨rfl, rfl, Nat.le_refl _, by unfold Hid; rw [List.drop_eq_nil_of_le (by rw [HL.out]; exact Nat.le_refl _)]; simp⟩
  case round =>
    obtain ⟨rfl, rfl, hk, HA⟩ := hrel
    by_cases h0 : gk = 0
    · subst h0
      have HN : Hid (LastB s.data.toList (-1)) := Or.inl ⟨rfl, by have := HA.out; simpa using this⟩
      go_wp2_with fail
      go_ret
      exact ⟨⟨-1, rfl, HN.out⟩, rfl⟩
    · obtain ⟨k, rfl⟩ : ∃ k, gk = k + 1 := ⟨gk - 1, by omega⟩
      have hks : k < s.size := by omega
      have hki : (k : Int) < (s.size : Int) := by omega
      have e1 : (((k + 1 : Nat) : Int) - 1) = (k : Int) := by omega
      rw [e1]
      by_cases hc : s[k].toNat = 32
      · have hc' : ((s[k].toNat : Int) == 32) = true := by rw [beq_iff_eq]; omega
        have HN : Hid (LastB s.data.toList k) := Or.inr ⟨by omega, by simp only [Int.toNat_natCast]; rw [get_list17 s k hks]; congr 1; exact UInt8.toNat_inj.1 hc, by simpa using HA.out⟩
        go_wp2_with fail
        go_ret
        exact ⟨⟨k, rfl, HN.out⟩, rfl⟩
      · have hc' : ((s[k].toNat : Int) == 32) = false := by rw [beq_eq_false_iff_ne]; omega
        have HN : Hid (∀ c ∈ s.data.toList.drop k, c ≠ 32) := by
          unfold Hid
          rw [drop_next _ k _ (get_list17 s k hks)]
          intro c hcm
          rcases List.mem_cons.1 hcm with rfl | h
          · intro e; rw [e] at hc; exact hc rfl
          · exact HA.out c h
        go_wp2_with fail
        go_roundg k
        case rel => exact ⟨rfl, rfl, by omega, HN⟩
        case measure => omega

set_option maxHeartbeats 800000 in
theorem lastidx_any (s : ByteArray) (w : World) (hl : s.size ≤ 1048576) :
    Calls Tryd.prog 39 #[.string s, .string ⟨#[32]⟩] w fun e w' => (∃ n : Int, e = .returned (.int .i64 n) ∧ LastB s.data.toList n) ∧ w' = w := by
  have L := lastidxb_any s w hl
  go_enter Tryd.func39, Tryd.ntmps39
  go_wp2_with fail
  refine L.mono ?_
  rintro e w1 ⟨⟨n, rfl, hn⟩, rfl⟩
  go_wp2_with fail
  go_ret
  exact ⟨⟨n, rfl, hn⟩, rfl⟩
end Go.Proofs.YtkoiccocgejmcaaDoor
