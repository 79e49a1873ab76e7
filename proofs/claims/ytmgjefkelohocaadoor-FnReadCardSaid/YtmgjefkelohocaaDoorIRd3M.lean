/-
  The contract of impl's text reader over a whole text. The table of powers of ten and the two error variables are there.
-/
import Derived.Test.YtmgjefkelohocaaDoorIRd2M
import Derived.Lib.OthersKept
import Derived.Laws.RangeAny
namespace Go.Proofs.YtmgjefkelohocaaDoor
open Go.RowKit

theorem below_iterAt {B k : Nat} {w w' : World} (h : Below B w w') (hk : B ≤ k) (t : ByteArray) (p : Nat) : Below B w (w'.iterAt k t p) := by
  refine ⟨h.os, h.tape, h.output, ?_, fun j hj => ?_⟩
  · show _ ≤ (w'.heap.setIfInBounds k _).size
    rw [Array.size_setIfInBounds]
    exact h.size
  · show (w'.heap.setIfInBounds k _)[j]? = _
    rw [Array.getElem?_setIfInBounds_ne (by omega)]
    exact h.block j hj
theorem iterAt_other {w : World} {k j : Nat} {t : ByteArray} {p p' : Nat} {cs : Array Value} {e : TypeId} {fr : Nat × Nat} (hk : w.heap[k]? = some (.stringIter t p)) (hj : w.heap[j]? = some (.cells cs e fr)) : (w.iterAt k t p').heap[j]? = w.heap[j]? := by
  show (w.heap.setIfInBounds k _)[j]? = _
  rw [Array.getElem?_setIfInBounds_ne]
  intro q
  subst q
  rw [hk] at hj
  cases hj
theorem own_iterAt {w : World} {base k n m : Nat} {e : TypeId} {t : ByteArray} {p p' : Nat} {v : Value} {l : List Value} (h : w.ownsRow base e m v n l) (hk : w.heap[k]? = some (.stringIter t p)) : (w.iterAt k t p').ownsRow base e m v n l := by
  refine own_same h fun j hj => ?_
  rcases h.2 with ⟨rfl, _⟩ | ⟨g, cap, cur, rfl, _, hg, _⟩
  · cases hj
  · simp only [Value.ownBlock, Option.some.injEq] at hj
    subst hj
    exact iterAt_other hk hg
theorem RdOk.iterAt {base P k : Nat} {w : World} {s : RS} {t : ByteArray} {p : Nat} (h : RdOk base P w s) (hk : w.heap[k]? = some (.stringIter t p)) (p' : Nat) : RdOk base P (w.iterAt k t p') s := by
  obtain ⟨vn, vl, st, lv, D⟩ := h
  exact ⟨vn, vl, st, lv, ⟨(iterAt_other hk D.blk).trans D.blk, own_iterAt D.nod hk, D.stk.same (fun j hj => by rcases hj with ⟨cs, q⟩ | ⟨cs, q⟩ <;> exact iterAt_other hk q), D.lo, D.le⟩⟩
theorem Fits.room {n i : Nat} {s : RS} (F : Fits n i s) (hn : n ≤ 3000) (hi : i ≤ 401) : Room s :=
  ⟨by have := F.ns; omega, by have := F.vs; omega, by have := F.lo; omega, fun p hp => by have := F.all p hp; omega⟩
theorem wb_high {b : Int} (h : 128 ≤ b) : wb b = false := by
  unfold wb nb digB
  simp
  omega
theorem mark_high {c : Int} (h : 128 ≤ c) (i : Nat) (s : RS) : rdMark c i s = .bad 2 i := by
  unfold rdMark
  rw [if_neg (by omega), if_neg (by omega), if_neg (by omega)]
/-- What 'next' tells at a byte: a sign c of d bytes that reads as that byte does. -/
theorem next_rd {P : Program} (w : World) (k : Nat) (t : ByteArray) (pos : Nat) (hk : w.heap[k]? = some (.stringIter t pos)) (h : pos < t.size) :
    ∃ c d : Nat, (∀ ty, (Instr.next (.pointer (some ⟨k, 0, none⟩)) true ty).run P w = .ok (.tuple #[.bool true, .int .i64 pos, .int .i32 c]) (w.iterAt k t (pos + d))) ∧
      (decide ((c : Int) < 128) && wb c) = wb (t[pos].toNat : Int) ∧ (∀ s, rdMark c pos s = rdMark (t[pos].toNat : Int) pos s) ∧ (wb (t[pos].toNat : Int) = true → d = 1) ∧ (∀ s s', rdMark (t[pos].toNat : Int) pos s = .ok s' → d = 1) := by
  by_cases ha : t[pos].toNat < 128
  · refine ⟨t[pos].toNat, 1, fun ty => Lib.run_next_ascii_at w k t pos ty hk h ha, ?_, fun _ => rfl, fun _ => rfl, fun _ _ _ => rfl⟩
    rw [decide_eq_true (by omega), Bool.true_and]
  · have hd := decode_high t pos h (by omega)
    refine ⟨(Utf8.decode t pos).1, (Utf8.decode t pos).2, fun ty => Lib.run_next_any_at w k t pos ty hk h, ?_, ?_, ?_, ?_⟩
    · rw [decide_eq_false (by omega), Bool.false_and, wb_high (b := (t[pos].toNat : Int)) (by omega)]
    · intro s
      rw [mark_high (by omega), mark_high (by omega)]
    · intro q
      rw [wb_high (by omega)] at q
      cases q
    · intro s s' q
      rw [mark_high (by omega)] at q
      cases q
theorem rd_at {t : ByteArray} {f i : Nat} {s : RS} (h : i < t.size) (hw : wb (t[i].toNat : Int) = false) (hf : f ≤ i) : rd t f i s = (wordR (t.extract f i) f s).andThen fun s1 => (rdMark (t[i].toNat : Int) i s1).andThen fun s2 => rd t (i + 1) (i + 1) s2 := by
  rw [rd, dif_pos h, if_neg (by rw [hw]; decide)]
  congr 1
  unfold wordR rdWord
  rw [ByteArray.size_extract]
  by_cases h2 : f < i
  · rw [if_pos h2, if_neg (show ¬ min i t.size - f = 0 by omega)]
  · rw [if_neg h2, if_pos (by omega)]
theorem rd_stop {t : ByteArray} {f : Nat} {s : RS} (hf : f ≤ t.size) : rd t f t.size s = wordR (t.extract f t.size) f s := by
  rw [rd, dif_neg (by omega)]
  unfold wordR rdWord
  rw [ByteArray.size_extract]
  by_cases h2 : f < t.size
  · rw [if_pos h2, if_neg (show ¬ min t.size t.size - f = 0 by omega)]
  · rw [if_neg h2, if_pos (by omega)]
theorem Fits.wordR {n f i : Nat} {s s1 : RS} {t : ByteArray} {a : Int} (F : Fits n f s) (hf : f ≤ i) (ht : t.size ≤ 1048576) (hs : t.size = 0 ∨ f < i) (e : wordR t a s = .ok s1) : Fits n i s1 := by
  unfold Go.Proofs.YtmgjefkelohocaaDoor.wordR at e
  split at e
  · cases e; exact F.mono hf
  split at e
  · cases e
    rename_i h0 _
    refine (F.word _ ?_).mono (by omega)
    exact Nat.le_trans (wordNd_size t) (by unfold maxLen; omega)
  · cases e

def RdPostB (base P : Nat) (w : World) (r : RdR) (e : Ending) (w' : World) : Prop := e = rdEnd r ∧ Below base w w' ∧ ∀ s', r = .ok s' → RdOk base P w' s'

set_option maxRecDepth 100000 in
set_option maxHeartbeats 3200000 in
theorem rall_any (base P B n : Nat) (s : RS) (t : ByteArray) (w : World) (D : RdOk base P w s) (F : Fits n 0 s) (hn : n ≤ 3000) (hb : base ≤ w.heap.size) (hB : B ≤ base) (hP : Pow B w) (hE : Errs B w) (ht : t.size ≤ 400) :
    Calls Tryd.prog 71 #[.pointer (some ⟨P, 0, none⟩), .string t] w (RdPostB base P w (rd t 0 0 s)) := by
  have hi0 : (w.iter t 0).heap[w.heap.size]? = some (.stringIter t 0) := World.iter_heap w t 0
  have hb0 : Below w.heap.size w (w.iter t 0) := (Below.refl _ _).alloc (Nat.le_refl _) _
  go_enter Tryd.func71, Tryd.ntmps71
  go_wp2_with fail
  go_loopw [4] (fun fr wr => ∃ (f pos : Nat) (s1 : RS), fr = .int .i64 f ∧ f ≤ pos ∧ pos ≤ t.size ∧ wr.heap[w.heap.size]? = some (.stringIter t pos) ∧ Below base w wr ∧ RdOk base P wr s1 ∧ Fits n f s1 ∧ Hid (rd t 0 0 s = rd t f pos s1)) (fun _ wr => t.size - wr.iterPos w.heap.size)
  case atStart => exact ⟨0, 0, s, rfl, by omega, by omega, hi0, hb0.mono hb, D.below hb0, F, rfl⟩
  case round =>
    obtain ⟨f, pos, s1, rfl, hfp, hpt, hit, hbr, D1, F1, HD⟩ := hrel
    have hip : wr.iterPos w.heap.size = pos := by simp [World.iterPos, hit]
    have hszr := hbr.size
    by_cases hlt : pos < t.size
    · obtain ⟨c, d, hnx, hcw, hcm, hd1, hd2⟩ := next_rd (P := Tryd.prog) wr w.heap.size t pos hit hlt
      have hb2 := below_iterAt hbr (k := w.heap.size) hb t (pos + d)
      have D2 := D1.iterAt hit (pos + d)
      have hit2 := Lib.iterAt_heap wr w.heap.size t pos (pos + d) hit
      generalize hw2 : wr.iterAt w.heap.size t (pos + d) = w2 at hnx hb2 D2 hit2
      have hip2 : w2.iterPos w.heap.size = pos + d := by simp [World.iterPos, hit2]
      clear hw2
      have hsz2 := hb2.size
      go_wp2_with fail
      refine (iswordrune_any c _ (by omega)).mono ?_
      rintro e w3 ⟨rfl, rfl⟩
      rw [hcw]
      cases hwb : wb (t[pos].toNat : Int) with
      | true =>
        have hd := hd1 hwb
        subst hd
        have HD2 : Hid (rd t 0 0 s = rd t f (pos + 1) s1) := by unfold Hid; rw [HD.out, rd_in hlt hwb]
        go_wp2_with fail
        go_roundw
        case rel => exact ⟨f, pos + 1, s1, rfl, by omega, by omega, hit2, hb2, D2, F1, HD2⟩
        case measure => (rw [hip, hip2]; omega)
      | false =>
        have HA := rd_at (s := s1) hlt hwb hfp
        have hfp2 : (f : Int) ≤ pos := by omega
        have hpt2 : (pos : Int) ≤ t.size := by omega
        have hex := ByteArray.size_extract (a := t) (b := f) (e := pos)
        have HX : Hid (rd t 0 0 s = (wordR (t.extract f pos) f s1).andThen fun s1 => (rdMark (t[pos].toNat : Int) pos s1).andThen fun s2 => rd t (pos + 1) (pos + 1) s2) := by unfold Hid; rw [HD.out, HA]
        clear HA HD hnx hd1
        go_wp2_with fail
        refine (rword_any base P B s1 (t.extract f pos) f _ D2 (F1.room hn (by omega)) (by omega) (by omega) (hP.on (hb2.mono hB)) (hE.on (hb2.mono hB)) (by omega)).mono ?_
        rintro e w4 ⟨he, F4, D4⟩
        have hb4 := hb2.trans F4.below
        have hsz4 := hb4.size
        cases hr : wordR (t.extract f pos) f s1 with
        | bad h p =>
          have he2 : e = .panicked (oops h p) := by rw [he, hr]; rfl
          have HX2 : Hid (rd t 0 0 s = .bad h p) := by unfold Hid; rw [HX.out, hr]; rfl
          subst he2
          exact ⟨rfl, by rw [HX2.out]; rfl, hb4, fun s' q => by rw [HX2.out] at q; cases q⟩
        | ok s2 =>
          have he2 : e = .returned (.tuple #[]) := by rw [he, hr]; rfl
          subst he2
          have D5 := D4 s2 hr
          have F5 : Fits n pos s2 := F1.wordR hfp (by omega) (by omega) hr
          have hit4 := F4.iter _ _ _ hit2
          have HX2 : Hid (rd t 0 0 s = (rdMark (t[pos].toNat : Int) pos s2).andThen fun s2 => rd t (pos + 1) (pos + 1) s2) := by unfold Hid; rw [HX.out, hr]; rfl
          clear HX D4 F4 D2 hb2 hit2 hip2 hit D1 hbr
          go_wp2_with fail
          refine (rmark_any base P s2 c pos _ D5 (F5.room hn (by omega)) (by omega)).mono ?_
          rintro e w5 ⟨he5, F6, D6⟩
          rw [hcm] at he5 D6
          have hb6 := hb4.trans F6.below
          have hit6 := F6.iter _ _ _ hit4
          cases hm : rdMark (t[pos].toNat : Int) pos s2 with
          | bad h p =>
            have he2 : e = .panicked (oops h p) := by rw [he5, hm]; rfl
            have HX3 : Hid (rd t 0 0 s = .bad h p) := by unfold Hid; rw [HX2.out, hm]; rfl
            subst he2
            exact ⟨rfl, by rw [HX3.out]; rfl, hb6, fun s' q => by rw [HX3.out] at q; cases q⟩
          | ok s3 =>
            have he2 : e = .returned (.tuple #[]) := by rw [he5, hm]; rfl
            subst he2
            have hd := hd2 s2 s3 hm
            subst hd
            have HX3 : Hid (rd t 0 0 s = rd t (pos + 1) (pos + 1) s3) := by unfold Hid; rw [HX2.out, hm]; rfl
            have hip6 : w5.iterPos w.heap.size = pos + 1 := by simp [World.iterPos, hit6]
            have D7 := D6 s3 hm
            have F7 := F5.mark (by omega) hm
            clear HX2 D6
            go_wp2_with fail
            go_roundw
            case rel => exact ⟨pos + 1, pos + 1, s3, by go_num, by omega, by omega, hit6, hb6, D7, F7, HX3⟩
            case measure => (rw [hip6, hip]; omega)
    · have hpe : pos = t.size := by omega
      subst hpe
      have hnx : ∀ ty, (Instr.next (.pointer (some ⟨w.heap.size, 0, none⟩)) true ty).run Tryd.prog wr = _ := fun ty => Lib.run_next_end_at wr w.heap.size t t.size ty hit hlt
      have hfp2 : (f : Int) ≤ t.size := by omega
      have hex := ByteArray.size_extract (a := t) (b := f) (e := t.size)
      have HX : Hid (rd t 0 0 s = wordR (t.extract f t.size) f s1) := by unfold Hid; rw [HD.out, rd_stop hfp]
      go_wp2_with fail
      refine (rword_any base P B s1 (t.extract f t.size) f _ D1 (F1.room hn (by omega)) (by omega) (by omega) (hP.on (hbr.mono hB)) (hE.on (hbr.mono hB)) (by omega)).mono ?_
      rintro e w4 ⟨he, F4, D4⟩
      have hb4 := hbr.trans F4.below
      cases hr : wordR (t.extract f t.size) f s1 with
      | bad h p =>
        have he2 : e = .panicked (oops h p) := by rw [he, hr]; rfl
        have HX2 : Hid (rd t 0 0 s = .bad h p) := by unfold Hid; rw [HX.out, hr]
        subst he2
        exact ⟨rfl, by rw [HX2.out]; rfl, hb4, fun s' q => by rw [HX2.out] at q; cases q⟩
      | ok s2 =>
        have he2 : e = .returned (.tuple #[]) := by rw [he, hr]; rfl
        have HX2 : Hid (rd t 0 0 s = .ok s2) := by unfold Hid; rw [HX.out, hr]
        subst he2
        have D5 := D4 s2 hr
        go_wp2_with fail
        go_end0
        exact ⟨by rw [HX2.out]; rfl, hb4, fun s' q => by rw [HX2.out] at q; cases q; exact D5⟩
end Go.Proofs.YtmgjefkelohocaaDoor
