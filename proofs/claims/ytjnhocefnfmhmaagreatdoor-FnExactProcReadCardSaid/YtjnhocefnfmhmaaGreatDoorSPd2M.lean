/-
  The contract of spec.l12ReadTexts: a row of texts is read, or something is wrong. No condition but bounds.
-/
import Derived.Test.YtjnhocefnfmhmaaGreatDoorSPdM
namespace Go.Proofs.YtjnhocefnfmhmaaGreatDoor
open Go.RowKit

theorem encI_pos_len (n : Nat) : 1 ≤ (encI (n : Int)).length := by
  rw [encI_pos _ (by omega), enc]
  split <;> simp
theorem txt8_moves {zs : List Int} {c : Int} (hz : ∀ z ∈ zs, 0 ≤ z ∧ z ≤ 255) (hc : 0 ≤ c) (hl : c ≤ zs.length) : 0 ≤ (txt8 zs c true).2.1 ∧ (txt8 zs c true).2.1 ≤ zs.length ∧ ((txt8 zs c true).2.2 = true → c < (txt8 zs c true).2.1) ∧ (txt8 zs c true).1.size ≤ zs.length := by
  unfold txt8
  cases hk : (gT zs c).2.2 with
  | false =>
    refine ⟨hc, hl, ?_, ?_⟩
    · intro h
      cases h
    · show ByteArray.size ⟨#[]⟩ ≤ _
      simp [ByteArray.size]
  | true =>
    have hr := gT_range zs c
    have hL := gT_lies (zs := zs) (a := c) (next := (gT zs c).2.1) (s := (gT zs c).1) hz (by rw [← hk])
    refine ⟨hr.1, hr.2, fun _ => ?_, gT_size zs c⟩
    have h1 := hL.2.1
    rw [pt_length] at h1
    have h2 := encI_pos_len (gT zs c).1.size
    show c < (gT zs c).2.1
    omega
theorem num8_moves {zs : List Int} {a : Int} {ok : Bool} (ha : 0 ≤ a) (hl : a ≤ zs.length) : 0 ≤ (num8 zs a ok).1 ∧ (num8 zs a ok).1 ≤ 9223372036854775807 ∧ 0 ≤ (num8 zs a ok).2.1 ∧ (num8 zs a ok).2.1 ≤ zs.length := by
  unfold num8
  cases hk : (ok && (gN zs a).2.2) with
  | false => exact ⟨by simp, by simp, ha, hl⟩
  | true =>
    have hg : (gN zs a).2.2 = true := by cases ok <;> simp_all
    have := rd1_range (zs := zs) (a := a) (p := ((gN zs a).1, (gN zs a).2.1)) (by unfold rd1; rw [hg]; rfl)
    exact this

set_option maxRecDepth 100000 in
set_option maxHeartbeats 3200000 in
theorem s12rts_any (b : Nat) (v : Value) (zs : List Int) (a : Int) (ok : Bool) (W0 w : World) (R : Row W0 v zs) (hb : Below W0.heap.size W0 w) (hbb : W0.heap.size ≤ b) (h : C8 w b v a ok) (ha : 0 ≤ a) (hl : a ≤ zs.length) (hz : ∀ z ∈ zs, 0 ≤ z ∧ z ≤ 255) (hzl : zs.length ≤ 1048576) :
    Calls Tryz.prog 45 #[.pointer (some ⟨b, 0, none⟩)] w fun e w' => ∃ (v' : Value) (ts : List ByteArray) (c : Int) (k : Bool), tsL zs (num8 zs a ok).1.toNat [] (num8 zs a ok).2.1 (num8 zs a ok).2.2 = (ts, c, k) ∧ e = .returned v' ∧ (0 ≤ c ∧ c ≤ zs.length ∧ ts.length ≤ zs.length + 1) ∧ C8 w' b v c k ∧ w'.ownsRow w.heap.size 9 1 v' ts.length (stv ts) ∧ w.grownBy w' (some b) := by
  have lb : b < w.heap.size := (Array.getElem?_eq_some_iff.1 h).1
  obtain ⟨i0, hi, hz0, hz1, hz2⟩ := info_parts Tryz.infoStr
  have hbE : Below w.heap.size w (w.alloc (Obj.cells #[] 9)) := (Below.refl _ _).alloc (Nat.le_refl _) _
  have oE := own_none0 w 9 1 w.heap.size (Nat.le_refl _)
  have hE : C8 (w.alloc (Obj.cells #[] 9)) b v a ok := blk_bel h hbE
  have hbel := hb.trans (hbE.mono hb.size)
  have hG := World.grownBy_alloc w (Obj.cells #[] 9) (some b)
  have HN := s8num_any b v zs a ok _ (R.below hbel) hE (by omega) (by omega)
  have hm := num8_moves (zs := zs) (a := a) (ok := ok) ha hl
  obtain ⟨nn, hnn⟩ : ∃ n, Hid (num8 zs a ok = n) := ⟨_, rfl⟩
  obtain ⟨n, a1, k1⟩ := nn
  rw [hnn.out] at HN hm ⊢
  simp only at HN hm ⊢
  clear hnn
  go_enter Tryz.func45, Tryz.ntmps45
  go_wp2_with fail
  generalize w.alloc (Obj.cells #[] 9) = wE at *
  refine HN.mono ?_
  rintro e w1 ⟨rfl, h1, g1⟩
  have own1 := own_pastP oE lb g1
  replace hG := grown_new hG g1 (fun k hk => Or.inl (by cases hk; rfl))
  replace hbel := hbel.grown g1 hbel.size (fun k hk => by cases hk; exact hbb)
  clear HN g1 oE hE hbE h hb
  obtain ⟨m1, m2, m3, m4⟩ := hm
  go_wp2_with fail
  go_loopw [3, 5] (fun vo i wr => ∃ (k : Nat) (ts : List ByteArray) (c : Int) (kk : Bool), (k : Int) ≤ n ∧ i = .int .i64 k ∧ Hid (tsL zs n.toNat [] a1 k1 = tsL zs (n.toNat - k) ts c kk) ∧ (kk = true → (ts.length : Int) ≤ c) ∧ ts.length ≤ zs.length + 1 ∧ (0 ≤ c ∧ c ≤ zs.length) ∧ C8 wr b v c kk ∧ wr.ownsRow w.heap.size 9 1 vo ts.length (stv ts) ∧ Below W0.heap.size W0 wr ∧ w.grownBy wr (some b)) (fun _ i _ => n.toNat - (intOf i).toNat)
  case atStart => exact ⟨0, [], a1, k1, by omega, rfl, rfl, fun _ => by simpa using m3, by simp, ⟨m3, m4⟩, h1, own1, hbel, hG⟩
  case round =>
    clear h1 own1 hbel hG
    obtain ⟨k, ts, c, kk, hk, rfl, HT, hc1, hc2, ⟨hc3, hc4⟩, hC, own, hbel, hGr⟩ := hrel
    have ck : wr.cell? ⟨b, 2, none⟩ = some (.bool kk) := cell_of_row _ _ 2 _ _ _ hC
    by_cases hlt : (k : Int) < n
    · cases kk with
      | false =>
        have HF : Hid (tsL zs n.toNat [] a1 k1 = (ts, c, false)) := by unfold Hid; rw [HT.out, tsL_false]
        go_wp2
        go_ret
        exact ⟨u3, ts, c, false, HF.out, rfl, ⟨hc3, hc4, hc2⟩, hC, own, hGr⟩
      | true =>
        have hc1' := hc1 rfl
        have HS : Hid (tsL zs n.toNat [] a1 k1 = tsL zs (n.toNat - (k + 1)) (ts ++ [(txt8 zs c true).1]) (txt8 zs c true).2.1 (txt8 zs c true).2.2) := by
          unfold Hid
          rw [HT.out, show n.toNat - k = (n.toNat - (k + 1)) + 1 by omega]
          rfl
        have hmv := txt8_moves (zs := zs) hz hc3 hc4
        have HR := s12rt_any b v zs c true wr (R.below hbel) hC (by omega) (by omega)
        obtain ⟨tt, htt⟩ : ∃ t, Hid (txt8 zs c true = t) := ⟨_, rfl⟩
        obtain ⟨tx, tn, tk⟩ := tt
        rw [htt.out] at HR HS hmv
        simp only at HR HS hmv
        obtain ⟨v1, v2, v3, v4⟩ := hmv
        clear htt HT
        go_wp2_with fail
        refine HR.mono ?_
        rintro e w2 ⟨rfl, hC2, g2⟩
        have own2 := own_pastP own lb g2
        have hG2 := grown_new hGr g2 (fun j hj => Or.inl (by cases hj; rfl))
        have hbel2 := hbel.grown g2 hbel.size (fun j hj => by cases hj; exact hbb)
        have hsm : tx.size ≤ maxLen := by unfold maxLen; omega
        have S1 := StRow.one9 w2 tx hsm
        have hbA : Below w2.heap.size w2 (w2.alloc (Obj.cells #[.string tx] 9)) := (Below.refl _ _).alloc (Nat.le_refl _) _
        have P2 := own_below own2 hbA
        have hC3 : C8 (w2.alloc (Obj.cells #[.string tx] 9)) b v tn tk := blk_bel hC2 hbA
        have hG3 := grown_new hG2 (World.grownBy_alloc w2 (Obj.cells #[.string tx] 9) none) (fun j hj => by cases hj)
        have hbel3 := hbel2.trans (hbA.mono hbel2.size)
        have hle : w.heap.size ≤ (w2.alloc (Obj.cells #[.string tx] 9)).heap.size := hG3.size
        clear own own2 hG2 hbel2 hbel hGr g2 HR hC hC2 hbA ck hc1
        go_wp2_with (at_builtin; refine wpList_append_own_any _ rfl _ _ 31 rfl w.heap.size 9 i0 _ 1 16 Tryz.underlying31 hi hz0 hz1 hz2 rfl (by decide) _ ts.length _ rfl P2 (some ⟨w2.heap.size, 0, none⟩) 1 1 (stv [tx]) rfl (by simp [stv]) S1.nilcap S1.cells (stv_one [tx]) (by unfold maxLen; omega) (by omega) hle ?_)
        intro v5 w5 O5 hgr5
        have hC5 : C8 w5 b v tn tk := (hgr5.block _ (blk_lt hC3) (fun e => own_ne P2 hC3 (by decide) e.symm)).trans hC3
        have hG5 := grown_new hG3 hgr5 (fun j hj => Or.inr (P2.lt j hj).1)
        have hbel5 := hbel3.grown hgr5 hbel3.size (fun j hj => by have := (P2.lt j hj).1; omega)
        have O6 : w5.ownsRow w.heap.size 9 1 v5 (ts ++ [tx]).length (stv (ts ++ [tx])) := by rw [stv_append, List.length_append]; exact O5
        clear O5 hgr5 P2 hC3 hG3 hbel3 S1 hle
        go_wp2
        go_roundw
        case rel => exact ⟨k + 1, ts ++ [tx], tn, tk, by omega, by go_num, HS, fun h => by have := v3 h; simp; omega, by simp; omega, ⟨v1, v2⟩, hC5, O6, hbel5, hG5⟩
        case measure => simp [intOf]; omega
    · have hke : n.toNat - k = 0 := by omega
      rw [hke] at HT
      cases kk with
      | false =>
        go_wp2
        go_ret
        first
          | exact ⟨u3, ts, c, false, HT.out, rfl, ⟨hc3, hc4, hc2⟩, hC, own, hGr⟩
          | exact ⟨u3, ts, c, Or.inl ⟨HT.out, rfl, ⟨hc3, hc4, hc2⟩, hC, own, hGr⟩⟩
      | true =>
        go_wp2
        go_ret
        first
          | exact ⟨u3, ts, c, true, HT.out, rfl, ⟨hc3, hc4, hc2⟩, hC, own, hGr⟩
          | exact ⟨u3, ts, c, Or.inr ⟨HT.out, rfl, ⟨hc3, hc4, hc2⟩, hC, own, hGr⟩⟩
end Go.Proofs.YtjnhocefnfmhmaaGreatDoor
