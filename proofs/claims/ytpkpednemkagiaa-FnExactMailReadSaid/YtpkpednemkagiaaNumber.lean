/-
  Contract of (*impl.numForm).number: the number of the bytes that the form holds; none where the highest of several is 0.
-/
import Derived.Test.YtpkpednemkagiaaDec
import Derived.Test.YtpkpednemkagiaaForm
namespace Go.Proofs.Ytpkpednemkagiaa
open Go.RowKit

/-- What number answers. -/
def nV (bs : List Int) : Int × Bool := if 1 < bs.length ∧ bs.getLast? = some 0 then (0, false) else (val bs, true)

theorem form_byte (bs : List Int) (h : bs.length ≤ 9) (w : World) (F : Nat) (hh : w.heap[F]? = some (.cells (formC bs) 65 (0, 0))) (i : Nat) (hi : i < bs.length) :
    w.cell? ⟨F, i, none⟩ = some (.int .u8 bs[i]) := by
  rw [cell_of_row w F i _ 65 (0, 0) hh, formC_get bs h i (by omega), List.getD_eq_getElem?_getD, List.getElem?_append_left hi]
  simp [hi]
theorem val_drop (bs : List Int) (m : Nat) (h : m < bs.length) : val (bs.drop m) = val (bs.drop (m + 1)) * 128 + bs[m] % 128 := by
  rw [List.drop_eq_getElem_cons h]
  simp only [val]
  omega

theorem nV_bad (bs : List Int) (n : Nat) (l : Int) (hn : bs.length = n + 1) (hl : bs[n]? = some l) (h0 : 0 < n) (h : l = 0) : nV bs = (0, false) := by
  have e : bs.getLast? = some 0 := by rw [List.getLast?_eq_getElem?, hn, Nat.add_sub_cancel, hl, h]
  unfold nV
  rw [if_pos ⟨by omega, e⟩]
theorem nV_ok (bs : List Int) (n : Nat) (l : Int) (hn : bs.length = n + 1) (hl : bs[n]? = some l) (h : n = 0 ∨ (0 < n ∧ ¬ l = 0)) : nV bs = (val bs, true) := by
  have e : bs.getLast? = some l := by rw [List.getLast?_eq_getElem?, hn, Nat.add_sub_cancel, hl]
  unfold nV
  rw [if_neg]
  rw [e, hn]
  simp only [Option.some.injEq]
  omega

set_option maxHeartbeats 800000 in
theorem number_any (F : Nat) (bs : List Int) (w : World) (h1 : 1 ≤ bs.length) (h9 : bs.length ≤ 9) (hz : ∀ z ∈ bs, 0 ≤ z ∧ z ≤ 255) (hh : w.heap[F]? = some (.cells (formC bs) 65 (0, 0))) :
    Calls Try.prog 35 #[.pointer (some ⟨F, 0, none⟩)] w fun e w' => e = .returned (.tuple #[.int .i64 (nV bs).1, .bool (nV bs).2]) ∧ w' = w := by
  obtain ⟨n, hn⟩ : ∃ n, bs.length = n + 1 := ⟨bs.length - 1, by omega⟩
  have hn9 : n < 9 := by omega
  have c9 : w.cell? ⟨F, 9, none⟩ = some (.int .i64 ((n : Int) + 1)) := by
    rw [cell_of_row w F 9 _ 65 (0, 0) hh, formC_count bs h9, hn]; simp
  have hb := form_byte bs h9 w F hh
  clear hh
  obtain ⟨l, hl⟩ : ∃ l, bs[n]? = some l := ⟨bs[n], by simp⟩
  have hcl : w.cell? ⟨F, n, none⟩ = some (.int .u8 l) := by
    have := hb n (by omega)
    rw [this]
    rw [List.getElem?_eq_getElem (by omega)] at hl
    rw [Option.some.inj hl]
  have hl0 := hz l (List.mem_of_getElem? hl)
  by_cases hbad : 0 < n ∧ l = 0
  · have Hv : Hid (nV bs = (0, false)) := nV_bad bs n l hn hl hbad.1 hbad.2
    obtain ⟨hn0, rfl⟩ := hbad
    clear hb hz hl hn
    go_enter Try.func35, Try.ntmps35
    go_wp2
    go_ret2
    exact ⟨by rw [Hv.out]; rfl, rfl⟩
  · have hd : n = 0 ∨ (0 < n ∧ ¬ l = 0) := by omega
    have Hv : Hid (nV bs = (val bs, true)) := nV_ok bs n l hn hl hd
    have HN : Hid (bs.length = n + 1) := hn
    have hd : n < 1 ∨ (0 < n ∧ ¬ l = 0) := by omega
    clear hbad hn hl
    rcases hd with hd | ⟨hd, hl1⟩
    all_goals
      go_enter Try.func35, Try.ntmps35
      go_wp2
      go_loop [5, 6] (fun x i => ∃ (j : Nat) (q : Int), j ≤ n + 1 ∧ i = .int .i64 q ∧ x = .int .i64 (val (bs.drop j)) ∧ Hid (q = (j : Int) - 1)) (fun _ i => (intOf i + 1).toNat)
      case atStart => exact ⟨n + 1, n, by omega, by go_num, by rw [List.drop_eq_nil_of_le (by have := HN.out; omega)]; rfl, by unfold Hid; omega⟩
      case round =>
        obtain ⟨j, q, hj, rfl, rfl, HQ⟩ := hrel
        cases j with
        | zero =>
          have hq : q < 0 := by have := HQ.out; omega
          go_wp2
          go_ret2
          exact ⟨by rw [Hv.out]; rfl, rfl⟩
        | succ m =>
          have hq : q = (m : Int) := by have := HQ.out; omega
          subst hq
          clear HQ
          have hml : m < bs.length := by have := HN.out; omega
          have hc := hb m hml
          have hv := val_bounds (bs.drop (m + 1))
          have hlim := lim_eight (show (bs.drop (m + 1)).length ≤ 8 by simp; omega)
          have Hd : Hid (val (bs.drop m) = val (bs.drop (m + 1)) * 128 + bs[m] % 128) := val_drop bs m hml
          have hzm := hz bs[m] (List.getElem_mem _)
          clear hb hz
          go_wp2
          go_round
          case rel => exact ⟨m, _, by omega, rfl, by rw [Hd.out], rfl⟩
          case measure => simp [intOf]

end Go.Proofs.Ytpkpednemkagiaa
