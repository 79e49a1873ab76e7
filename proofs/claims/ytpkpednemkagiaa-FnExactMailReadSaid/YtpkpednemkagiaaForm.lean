/-
  Contract of impl.formOf: the form of a number from 0 on holds the number's bytes.
-/
import Derived.Test.YtpkpednemkagiaaAdd
import Derived.Laws.CopyOwn
namespace Go.Proofs.Ytpkpednemkagiaa
open Go.RowKit

theorem Try.infoForm : (Try.prog.info? 65).map (·.size) = some 10 := by kernel_rfl
theorem formC_one (xs : List Int) : (formC xs).all (·.oneCell') = true := by
  rw [Array.all_eq_true_iff_forall_mem]
  intro v hv
  simp only [formC, bv, List.mem_toArray, List.mem_append, List.mem_map, List.mem_singleton] at hv
  rcases hv with ⟨z, _, rfl⟩ | rfl <;> rfl

theorem Try.infoFormC (xs : List Int) (h : xs.length ≤ 9) : Hid ((Try.prog.info? 65).map (·.size) = some (formC xs).size) := by
  unfold Hid; rw [formC_size xs h]; exact Try.infoForm
theorem formC_sizes (xs ys : List Int) (h : xs.length ≤ 9) (k : ys.length ≤ 9) : Hid ((formC xs).size = (formC ys).size) := by
  unfold Hid; rw [formC_size xs h, formC_size ys k]
theorem snoc_le (xs : List Int) (b : Int) (f : Nat) (h : xs.length + f = 8) : (xs ++ [b]).length ≤ 9 := by simp; omega

set_option maxRecDepth 100000 in
set_option maxHeartbeats 400000 in
theorem form_any (x : Int) (w : World) (hx : 0 ≤ x) (hm : x ≤ 9223372036854775807) :
    Calls Try.prog 41 #[.int .i64 x] w fun e w' => e = .returned (.agg (formC (enc 9 x))) ∧ Below w.heap.size w w' := by
  go_enter Try.func41, Try.ntmps41
  go_wp2_with fail
  go_loopw [0] (fun y wr => ∃ (f : Nat) (q : Int) (acc : List Int), y = .int .i64 q ∧ 0 ≤ q ∧ q ≤ 9223372036854775807 ∧ acc.length + f = 8 ∧ Hid (q < lim (f + 1)) ∧ Hid (acc ++ enc (f + 1) q = enc 9 x) ∧ wr.heap[w.heap.size + 1]? = some (.cells (formC acc) 65 (0, 0)) ∧ wr.heap[w.heap.size]? = some (.cells (formC []) 65 (0, 0)) ∧ Below w.heap.size w wr) (fun y _ => (intOf y).toNat)
  case atStart =>
    exact ⟨8, x, [], rfl, hx, hm, rfl, by unfold Hid; rw [lim_nine]; omega, rfl, heap_alloc2_new _ _ _, heap_alloc2_old _ _ _, ((Below.refl _ _).alloc (Nat.le_refl _) _).alloc (by simp) _⟩
  case round =>
    obtain ⟨f, q, acc, rfl, hq0, hq1, hlen, Hl, Ha, hh, hr, hbel⟩ := hrel
    by_cases hlt : q < 128
    · have Hi1 := Try.infoFormC (acc ++ [q]) (snoc_le acc q f hlen)
      have Hsz := formC_sizes [] (acc ++ [q]) (Nat.zero_le _) (snoc_le acc q f hlen)
      have HO : Hid ((formC (acc ++ [q])).all (·.oneCell') = true) := formC_one _
      go_wp2_with fail
      refine (add_any _ _ acc _ (by omega) hh).mono ?_
      rintro e w1 ⟨rfl, hh1, hbel1⟩
      have hr1 : w1.heap[w.heap.size]? = some (.cells (formC []) 65 (0, 0)) := (hbel1.block _ (by omega)).trans hr
      go_wp2_with (first | refine wpList_load_row rfl 65 _ rfl (w.heap.size + 1) rfl 65 _ (0, 0) _ hh1 Try.underlying65 rfl Hi1.out ?_ | refine wpList_store_row rfl 65 _ _ rfl w.heap.size _ rfl rfl 65 _ hr1 Hi1.out Hsz.out HO.out ?_)
      have e9 : enc 9 x = acc ++ [q] := by rw [← Ha.out, enc_last f q hlt]
      rw [e9]
      refine bodyPost_ret (results_cell_row rfl _ _ w.heap.size 65 _ (0, 0) _ rfl (setRow_heap w1 w.heap.size _ _ 65 _ hr1) Try.underlying65 rfl Hi1.out) rfl ⟨rfl, ?_⟩
      exact below_setRow (hbel.trans (hbel1.mono (by omega))) (Nat.le_refl _) _
    · go_wp2_with fail
      refine (add_any _ _ acc _ (by omega) hh).mono ?_
      rintro e w1 ⟨rfl, hh1, hbel1⟩
      go_wp2_with fail
      go_roundw
      case rel =>
        obtain ⟨f', rfl, hl⟩ := lim_more f q (by omega) Hl.out
        refine ⟨f', q / 128, acc ++ [q % 128 + 128], rfl, by omega, by omega, by simp; omega, hl, ?_, hh1, (hbel1.block _ (by omega)).trans hr, hbel.trans (hbel1.mono (by omega))⟩
        have e := enc_more (f' + 1) q (by omega)
        have e2 := Ha.out
        rw [e] at e2
        unfold Hid
        rw [← e2]
        simp
      case measure => simp [intOf]; omega

end Go.Proofs.Ytpkpednemkagiaa
