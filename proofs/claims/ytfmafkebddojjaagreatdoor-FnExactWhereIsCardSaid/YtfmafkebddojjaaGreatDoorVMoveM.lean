/-
  Texts that stood by themselves, laid into one.
-/
import Derived.Test.YtfmafkebddojjaaGreatDoorMcTM
import Derived.Test.YtfmafkebddojjaaGreatDoorRcWhyM
import Derived.Test.YtfmafkebddojjaaGreatDoorMach2M
import Derived.Test.YtfmafkebddojjaaGreatDoorBsM
import Derived.Test.YtfmafkebddojjaaGreatDoorShapeM
import Derived.Test.YtfmafkebddojjaaGreatDoorNumberM
import Derived.Test.YtfmafkebddojjaaGreatDoorSPTextM
import Derived.Test.YtfmafkebddojjaaGreatDoorSGTextM
import Derived.LaidEql
import Derived.Stop.Asserts
import Derived.RowKitTokens
import Derived.Test.YtfmafkebddojjaaGreatDoorIWire2M
/-
  When what is read of bytes is a value: plain mathematics. Both ways of asking whether nothing else is there come to the same. No condition.
-/
set_option maxRecDepth 100000
set_option maxHeartbeats 4000000
namespace Go.Proofs.YtfmafkebddojjaaGreatDoor
open Go.RowKit
theorem ZjH (xs : List Nd) (bs : List Bool) (k : Nat) (h : (its xs bs k).length = xs.length) : ∀ i, i < xs.length -> bs.getD (k + i) false = true := by
 induction xs generalizing k with
 | nil => intro i hi; simp at hi
 | cons x xs ih =>
  have hle := Zig xs bs (k + 1)
  simp only [its] at h
  split at h
  ·rename_i hb
   simp only [List.length_cons, Nat.add_right_cancel_iff] at h
   intro i hi
   cases i with
   | zero => exact hb
   | succ i => rw [show k + (i + 1) = k + 1 + i by omega]; exact ih (k + 1) h i (by simpa using hi)
  ·simp at h; omega
def allR (xs : List Nd) (rs : List Int) : Bool := !(Zas xs rs).contains false
theorem ZgU (xs : List Nd) (rs : List Int) : allR xs rs = true <-> ∀ i, i < xs.length -> (Zas xs rs).getD i false = true := by
 unfold allR
 rw [Bool.not_eq_true', <- Bool.not_eq_true, List.contains_iff_mem]
 constructor
 ·intro h i hi
  rw [List.getD_eq_getElem?_getD, List.getElem?_eq_getElem (by rw [Za4]; exact hi)]
  cases hb : (Zas xs rs)[i]'(by rw [Za4]; exact hi) with
  | true => rfl
  | false => exact absurd (by rw [<- hb]; exact List.getElem_mem _) h
 ·intro h hm
  obtain ⟨i, hi, he⟩ := List.getElem_of_mem hm
  have := h i (by rw [<- Za4 xs rs]; exact hi)
  rw [List.getD_eq_getElem?_getD, List.getElem?_eq_getElem hi, he] at this
  cases this
theorem ZdB (xs : List Nd) (rs : List Int) (hp : Zap xs = true) (hr : allI xs rs = true) : Zbw (mvN 0 xs rs) = Zbw xs <-> allR xs rs = true := by
 rw [ZgU]
 have hl := ZaD hp
 constructor
 ·intro h
  have hm := Zf8 0 xs rs
  have e : ((mvN 0 xs rs).length : Int) = (xs.length : Int) := Zfn (by omega) (by omega) (by omega) (by omega) h
  have e2 : (its xs (Zas xs rs) 0).length = xs.length := by
   have : (mvN 0 xs rs).length = (its xs (Zas xs rs) 0).length := (Zdm _ _ _).1
   omega
  intro i hi
  have := ZjH xs (Zas xs rs) 0 e2 i hi
  rwa [Nat.zero_add] at this
 ·intro h
  rw [(ZfA xs rs hp hr h).1]
def vrR (zs : List Int) : Option (List Nd) :=
 (rdP zs 0).bind fun q => if q.2 = zs.length /\ q.1 ≠ [] /\ allR q.1 [(q.1.length : Int) - 1] = true then some q.1 else none
theorem Zgl {xs : List Nd} (h : xs ≠ []) : allI xs [(xs.length : Int) - 1] = true := by
 have := List.length_pos_iff.2 h
 simp [allI, hasI]
 omega
theorem Zky (zs : List Int) (hz : ∀ z ∈ zs, 0 <= z /\ z <= 255) (xs : List Nd) : vrR zs = some xs <-> (sOk zs 0 true = true /\ (sP zs 0 true).1 = xs) /\ xs ≠ [] /\ Zbw (mvN 0 xs [(xs.length : Int) - 1]) = zs := by
 rw [ZkD]
 unfold vrR
 rw [Option.bind_eq_some_iff]
 constructor
 ·rintro ⟨⟨ys, b⟩, h1, h2⟩
  split at h2
  ·rename_i hc
   cases h2
   obtain ⟨c1, c2, c3⟩ := hc
   simp only at c1 c2 c3
   subst c1
   obtain ⟨hp, hw⟩ := ZgV hz h1
   exact ⟨h1, c2, ((ZdB ys _ hp (Zgl c2)).2 c3).trans hw⟩
  ·cases h2
 ·rintro ⟨h1, h2, h3⟩
  obtain ⟨hp, hw⟩ := ZgV hz h1
  refine ⟨_, h1, ?_⟩
  rw [if_pos ⟨rfl, h2, (ZdB xs _ hp (Zgl h2)).1 (h3.trans hw.symm)⟩]
def vb (zs : List Bool) : List Value := zs.map .bool
theorem Zcs (zs : List Bool) (i : Nat) (h : i < zs.length) : (vb zs)[i]? = some (.bool (zs.getD i false)) := by simp [vb, List.getD, h]
theorem ZdX (zs : List Bool) (i : Nat) (z : Bool) : (vb zs).set i (.bool z) = vb (zs.set i z) := by simp [vb, List.map_set]
def BRow (w : World) (v : Value) (zs : List Bool) : Prop :=
 ∃ ao cap, v = .slice ao zs.length cap /\ (zs.length <= cap /\ (ao = none -> cap = 0)) /\ zs.length <= 9223372036854775807 /\ (zs ≠ [] -> ∃ g o, ao = some ⟨g, o, none⟩ /\ g < w.heap.size /\ ∀ i, i < zs.length -> w.cell? ⟨g, o + i, none⟩ = some (.bool (zs.getD i false)))
theorem BRow.of_own {w : World} {base : Nat} {v : Value} {zs : List Bool} (h : w.ownsRow base 4 1 v zs.length (vb zs)) (hm : zs.length <= 9223372036854775807) : BRow w v zs := by
 rcases h.2 with ⟨rfl, h0⟩ | ⟨g, cap, cur, rfl, hb, hg, hnc, hcm, hcs, htake⟩
 ·have : zs = [] := List.eq_nil_of_length_eq_zero h0
  subst this
  exact ⟨none, 0, rfl, by simp, by simp, fun h => absurd rfl h⟩
 ·refine ⟨_, cap, rfl, ⟨hnc, fun h => by cases h⟩, hm, fun _ => ⟨g, 0, rfl, (bl hg), fun i hi => ?_⟩⟩
  have := h.cellAt i (by omega)
  rw [Nat.zero_add, this, Zcs zs i hi]
def mk3 (k : Int) : Bool := k % 3 == 0
def ZlQ (k : Int) (zs : List Bool) (i : Nat) : List Bool := (List.range i).map (fun (j : Nat) => mk3 (k + (j : Int))) ++ zs.drop i
theorem Zmx : (Tryz.prog.info? 4).map (fun i => (i.zero, i.size, i.bytes)) = some (some (.bool false), 1, 1) := by kernel_rfl
theorem Ziz (n : Nat) : vb (List.replicate n false) = (madeCells #[Value.bool false] n).toList := by rw [toList_madeCells_one]; simp [vb]
theorem ZfW {xs : List Nd} {rs : List Int} (h : allI xs rs = true) (k : Nat) (hk : k < rs.length) : 0 <= rs.getD k 0 /\ rs.getD k 0 < xs.length := by
 unfold allI at h
 rw [List.all_eq_true] at h
 have := h (rs.getD k 0) (by rw [List.getD_eq_getElem?_getD, List.getElem?_eq_getElem hk]; exact List.getElem_mem _)
 simpa [hasI] using this
theorem ZhD (ao : Option Addr) (cap : Nat) (vl : Value) (xs : List Nd) (rs : List Int) (w : World) (R : NRow w (.slice ao xs.length cap) xs) (L : IRow w vl rs) (hp : Zap xs = true) (hr : allI xs rs = true) :
  Calls Tryz.prog 261 #[.agg #[.slice ao xs.length cap], vl] w fun e w' => ∃ v', e = .returned v' /\ w'.ownsRow w.heap.size 4 1 v' xs.length (vb (Zas xs rs)) /\ Below w.heap.size w w' := by
 have hlen := ZaD hp
 have hB0 : Below w.heap.size w (w.alloc (Obj.cells #[.slice ao xs.length cap] 40)) := (Below.refl _ _).alloc (Nat.le_refl _) _
 have hbx := heap_alloc_new w (Obj.cells #[.slice ao xs.length cap] 40)
 have R0 := R.below hB0
 have L0 := L.below hB0
 clear R L
 have hs0 : (w.alloc (Obj.cells #[.slice ao xs.length cap] 40)).heap.size = w.heap.size + 1 := by simp
 obtain ⟨i0, hi, hz0, hz1, hz2⟩ := info_parts Zmx
 have hbytes : i0.bytes * xs.length <= 281474976710656 := by rw [hz2]; omega
 have hmax : xs.length <= maxLen := by unfold maxLen; omega
 go_enter Tryz.func261, Tryz.ntmps261
 go_wp2_with (at_make; refine wpList_make_full _ rfl _ _ 300 rfl (w.heap.size + 1) 4 i0 (.bool false) 1 Tryz.underlying300 hi hz0 hz1 _ _ _ _ xs.length rfl rfl rfl rfl hbytes hmax (by simp) ?_)
 intro w1 hown hgrow
 generalize w.alloc (Obj.cells #[.slice ao xs.length cap] 40) = w0 at *
 have hB1 : Below (w.heap.size + 1) w0 w1 := (Below.refl _ _).grown hgrow (by omega) (by intro k hk; cases hk)
 clear hgrow hbytes hmax
 obtain ⟨al, cl, rfl, hcl, _, hlc⟩ := L0
 go_wp2_with fail
 go_loopw [18] (fun i wr => ∃ (k : Nat) (bs : List Bool), k <= rs.length /\ i = .int .i64 k /\ bs.length = xs.length /\ Hid ((rs.drop k).foldl setB bs = ZcT xs.length rs) /\ wr.ownsRow (w.heap.size + 1) 4 1 (.slice (some ⟨w.heap.size + 1, 0, none⟩) xs.length xs.length) xs.length (vb bs) /\ Below (w.heap.size + 1) w0 wr) (fun i _ => rs.length - (intOf i).toNat)
 case atStart => exact ⟨0, List.replicate xs.length false, by omega, rfl, by simp, rfl, by rw [Ziz]; exact hown, hB1⟩
 case round =>
  clear hown hB1
  obtain ⟨k, bs, hk, rfl, hbl, HF, hown, hB⟩ := hrel
  by_cases hlt : k < rs.length
  ·obtain ⟨g, o, rfl, hg, hlc⟩ := hlc (by intro e; subst e; simp at hlt)
   have ez := (hB.cell (p := ⟨g, o + k, none⟩) (by simp; omega)).trans (hlc k hlt)
   obtain ⟨h1, h2⟩ := ZfW hr k hlt
   have HF2 : Hid ((rs.drop (k + 1)).foldl setB (setB bs (rs.getD k 0)) = ZcT xs.length rs) := (Zfm rs bs k hlt).symm.trans HF.out
   generalize rs.getD k 0 = z at ez h1 h2 HF2
   obtain ⟨nz, rfl⟩ := Int.eq_ofNat_of_zero_le h1
   have ec := hown.cellAt nz (by omega)
   rw [Zcs _ _ (by omega)] at ec
   have ef := hown.frozenAt nz
   have hs := (hown.stored nz (.bool true)).1
   rw [ZdX] at hs
   clear hlc hr HF
   go_wp2
   go_roundw
   case rel => exact ⟨k + 1, setB bs nz, by omega, by go_num, by rw [Zbg, hbl], HF2, hs, hB.setCell (p := ⟨w.heap.size + 1, nz, none⟩) (Nat.le_refl _) _⟩
   case measure => simp [intOf]; omega
  ·have hkx : k = rs.length := by omega
   subst hkx
   have HR : Hid (down xs xs.length bs = Zas xs rs) := by
    have := HF.out
    rw [List.drop_length, List.foldl_nil] at this
    rw [this]
    rfl
   clear HF hk hlt hlc hr
   have ep := (hB.cell (p := ⟨w.heap.size, 0, none⟩) (by simp)).trans ((cell_of_row w0 _ 0 _ _ _ hbx).trans rfl)
   have hBw : w.heap.size + 1 < wr.heap.size := (hown.lt _ rfl).2
   go_wp2_with fail
   go_loopw [8] (fun i wq => ∃ (k : Nat) (cs : List Bool), k <= xs.length /\ i = .int .i64 ((k : Int) - 1) /\ cs.length = xs.length /\ Hid (down xs k cs = Zas xs rs) /\ wq.ownsRow (w.heap.size + 1) 4 1 (.slice (some ⟨w.heap.size + 1, 0, none⟩) xs.length xs.length) xs.length (vb cs) /\ Below (w.heap.size + 1) w0 wq) (fun i _ => (intOf i + 1).toNat)
   case atStart => exact ⟨xs.length, bs, Nat.le_refl _, rfl, hbl, HR, hown, hB⟩
   case round =>
    clear hown hB HR hbl ep hBw
    clear bs
    obtain ⟨k, bs, hk, rfl, hbl, HR, hown, hB⟩ := hrel
    have ep := (hB.cell (p := ⟨w.heap.size, 0, none⟩) (by simp)).trans ((cell_of_row w0 _ 0 _ _ _ hbx).trans rfl)
    have hBw : w.heap.size + 1 < wr.heap.size := (hown.lt _ rfl).2
    rcases Nat.eq_zero_or_pos k with rfl | hpos
    ·have HQ : Hid (bs = Zas xs rs) := HR
     clear HR
     go_wp2
     go_ret
     rw [HQ.out] at hown
     exact ⟨_, rfl, Zaf hown (by omega), hB0.trans (hB.mono (by omega))⟩
    ·obtain ⟨j, rfl⟩ : ∃ j, k = j + 1 := ⟨k - 1, by omega⟩
     rw [show ((j + 1 : Nat) : Int) - 1 = (j : Int) by omega]
     obtain ⟨ao', cap', e', _, _, hz, hcell⟩ := R0
     simp only [Value.slice.injEq, true_and] at e'
     obtain ⟨rfl, rfl⟩ := e'
     obtain ⟨g, o, rfl, hg, hcell⟩ := hcell (by intro e; subst e; simp at hk)
     obtain ⟨x, hx⟩ : ∃ x, xs[j]? = some x := ⟨xs[j], by simp⟩
     obtain ⟨c0, c1, c2, c3, c4⟩ := (hcell j x hx).below hB (by rw [hs0] at hg; exact hg)
     have hnb := Za9 hp hx
     have hkd := ZhV hnb
     have HD : Hid (down xs j (Zar x (bs.getD j false) bs) = Zas xs rs) := (Zev xs bs j x hx).symm.trans HR.out
     have hA : hasA x.k = true -> 0 <= x.a /\ x.a < (j : Int) := fun h => ZbZ hnb h
     have hBb : hasB x.k = true -> 0 <= x.b /\ x.b < (j : Int) := fun h => ZbX hnb h
     clear hcell hx HR hnb
     go_wp2_with fail
     refine (Zde x.k _).mono ?_
     rintro e w4 ⟨rfl, hb4⟩
     rw [ZfI, if_pos hkd]
     have hbox := (hb4.block wr.heap.size (by simp)).trans (heap_alloc_new _ _)
     have d3 := cell_of_row w4 _ 3 _ _ _ hbox
     have d4 := cell_of_row w4 _ 4 _ _ _ hbox
     simp only [List.getElem?_toArray, List.getElem?_cons_succ, List.getElem?_cons_zero] at d3 d4
     have hB4' : Below wr.heap.size wr w4 := ((Below.refl wr.heap.size wr).alloc (Nat.le_refl _) _).trans (hb4.mono (by simp))
     have hown4 := Zad hown hB4'
     have hB4 := hB.trans (hB4'.mono (by omega))
     have hw4 : wr.heap.size < w4.heap.size := (bl hbox)
     have hw4' : w.heap.size + 1 < w4.heap.size := by omega
     have hne4 : w.heap.size + 1 ≠ wr.heap.size := by omega
     have e0 := hown4.cellAt j (by omega)
     rw [Zcs _ _ (by omega)] at e0
     clear c0 c1 c2 c3 c4 hbox hb4 hB4' hown hB ep
     have hrl : ∀ z, (Zar x z bs).length = xs.length := fun z => (Zbs x z bs).trans hbl
     cases hb : bs.getD j false with
     | false =>
      rw [hb] at e0 HD
      have hl2 := hrl false
      have HE : Hid (Zar x false bs = bs) := by unfold Hid Zar; simp
      clear hA hBb hrl hb
      go_wp2
      refine ⟨⟨j, bs, by omega, by go_num, hbl, by rw [HE.out] at HD; exact HD, hown4.alloc _, hB4.alloc (by omega) _⟩, by simp [intOf]⟩
     | true =>
      rw [hb] at e0 HD
      have hl2 := hrl true
      clear hrl hb
      cases hAk : hasA x.k with
      | false =>
       have hBk : hasB x.k = false := by
        unfold hasA at hAk; unfold hasB
        simp only [decide_eq_false_iff_not] at hAk ⊢
        omega
       have HE : Hid (Zar x true bs = bs) := by unfold Hid Zar; rw [hAk, hBk]; simp
       rw [hBk]
       clear hA hBb
       go_wp2
       refine ⟨⟨j, bs, by omega, by go_num, hbl, by rw [HE.out] at HD; exact HD, hown4.alloc _, hB4.alloc (by omega) _⟩, by simp [intOf]⟩
      | true =>
       obtain ⟨ha1, ha2⟩ := hA hAk
       obtain ⟨na, hna⟩ := Int.eq_ofNat_of_zero_le ha1
       rw [hna] at d3 ha2
       have e1 := hown4.cellAt na (by omega)
       rw [Zcs _ _ (by omega)] at e1
       have f1 := hown4.frozenAt na
       have hs1 := (hown4.stored na (.bool true)).1
       rw [ZdX] at hs1
       have hnj : na ≠ j := by omega
       have hB5 := hB4.setCell (p := ⟨w.heap.size + 1, na, none⟩) (Nat.le_refl _) (.bool true)
       cases hBk : hasB x.k with
       | false =>
        have HE : Hid (Zar x true bs = bs.set na true) := by unfold Hid Zar setB; rw [hAk, hBk, hna]; simp
        clear hA hBb
        go_wp2
        refine ⟨⟨j, bs.set na true, by omega, by go_num, by simpa using hbl, by rw [HE.out] at HD; exact HD, hs1.alloc _, hB5.alloc (by simp; omega) _⟩, by simp [intOf]⟩
       | true =>
        obtain ⟨hb1, hb2⟩ := hBb hBk
        obtain ⟨nb', hnb'⟩ := Int.eq_ofNat_of_zero_le hb1
        rw [hnb'] at d4 hb2
        have HE : Hid (Zar x true bs = (bs.set na true).set nb' true) := by unfold Hid Zar setB; rw [hAk, hBk, hna, hnb']; simp
        have e2 := hs1.cellAt nb' (by omega)
        rw [Zcs _ _ (by simp; omega)] at e2
        have f2 := hs1.frozenAt nb'
        have hs2 := (hs1.stored nb' (.bool true)).1
        rw [ZdX] at hs2
        have hB6 := hB5.setCell (p := ⟨w.heap.size + 1, nb', none⟩) (Nat.le_refl _) (.bool true)
        clear hA hBb
        go_wp2
        refine ⟨⟨j, (bs.set na true).set nb' true, by omega, by go_num, by simpa using hbl, by rw [HE.out] at HD; exact HD, hs2.alloc _, hB6.alloc (by simp; omega) _⟩, by simp [intOf]⟩
def ZlW (xs : List Nd) (rs : List Int) : List Bool := if Zap xs && allI xs rs then Zas xs rs else []
theorem Zie (v : Value) (bs : List Bool) (w : World) (R : BRow w v bs) (hl : bs.length <= 4194304) :
  Calls Tryz.prog 281 #[v, .bool false] w fun e w' => ∃ r : Int, e = .returned (.int .i64 r) /\ (0 <= r <-> false ∈ bs) /\ w' = w := by
 obtain ⟨ao, cap, rfl, _, _, hcell⟩ := R
 go_enter Tryz.func281, Tryz.ntmps281
 go_wp2_with fail
 go_loopw [8] (fun i wr => ∃ k : Nat, k <= bs.length /\ i = .int .i64 k /\ Hid (∀ j, j < k -> bs[j]? = some true) /\ wr = w) (fun i _ => bs.length - (intOf i).toNat)
 case atStart => exact ⟨0, by omega, rfl, fun j hj => by omega, rfl⟩
 case round =>
  obtain ⟨k, hk, rfl, HA, rfl⟩ := hrel
  by_cases hlt : k < bs.length
  ·obtain ⟨g, o, rfl, hg, hcell⟩ := hcell (by intro e; subst e; simp at hlt)
   have hc := hcell k hlt
   clear hcell
   obtain ⟨b, hb⟩ : ∃ b, bs[k]? = some b := ⟨bs[k], by simp [hlt]⟩
   rw [show bs.getD k false = b by simp [List.getD, hb]] at hc
   cases b with
   | false =>
    have hm : false ∈ bs := List.mem_of_getElem? hb
    go_wp2
    go_ret
    exact ⟨k, rfl, ⟨fun _ => hm, fun _ => by omega⟩, rfl⟩
   | true =>
    have HA2 : Hid (∀ j, j < k + 1 -> bs[j]? = some true) := fun j hj => by
     rcases Nat.lt_or_ge j k with h | h
     ·exact HA.out j h
     ·obtain rfl : j = k := by omega
      exact hb
    go_wp2
    go_roundw
    case rel => exact ⟨k + 1, by omega, by go_num, HA2, by trivial⟩
    case measure => simp [intOf]; omega
  ·have hke : k = bs.length := by omega
   subst hke
   have hm : false ∉ bs := fun h => by
    obtain ⟨j, hj, he⟩ := List.getElem_of_mem h
    have := HA.out j hj
    rw [List.getElem?_eq_getElem hj, he] at this
    cases this
   go_wp2
   go_ret
   exact ⟨-1, rfl, ⟨fun h => by omega, fun h => absurd h hm⟩, rfl⟩
theorem ZeE (v : Value) (bs : List Bool) (w : World) (R : BRow w v bs) (hl : bs.length <= 4194304) :
  Calls Tryz.prog 260 #[v, .bool false] w fun e w' => e = .returned (.bool (bs.contains false)) /\ w' = w := by
 go_enter Tryz.func260, Tryz.ntmps260
 go_wp2_with fail
 refine (Zie v bs w R hl).mono ?_
 rintro e w1 ⟨r, rfl, hr, rfl⟩
 have HE : Hid (bs.contains false = decide (0 <= r)) := by
  unfold Hid
  rw [Bool.eq_iff_iff, List.contains_iff_mem, decide_eq_true_eq]
  exact hr.symm
 clear hr
 go_wp2
 go_ret
 exact ⟨by rw [HE.out]; rfl, rfl⟩
theorem Zd9 (v vl : Value) (xs : List Nd) (rs : List Int) (w : World) (R : NRow w v xs) (L : IRow w vl rs) (hp : Zap xs = true) (hr : allI xs rs = true) :
  Calls Tryz.prog 253 #[.agg #[v], vl] w fun e w' => e = .returned (.bool (allR xs rs)) /\ Below w.heap.size w w' := by
 obtain ⟨ao, cap, rfl, _⟩ := id R
 have hlen := ZaD hp
 have hB0 : Below w.heap.size w (w.alloc (Obj.cells #[.slice ao xs.length cap] 40)) := (Below.refl _ _).alloc (Nat.le_refl _) _
 go_enter Tryz.func253, Tryz.ntmps253
 go_wp2_with fail
 refine (ZhD ao cap vl xs rs _ (R.below hB0) (L.below hB0) hp hr).mono ?_
 rintro e w1 ⟨v1, rfl, ho, hb1⟩
 have hB1 := hB0.trans (hb1.mono hB0.size)
 have hrl := Za4 xs rs
 have HL : Hid ((Zas xs rs).length = xs.length) := hrl
 rw [<- hrl] at ho
 have RB := BRow.of_own ho (by omega)
 clear hrl
 have HC := ZeE v1 (Zas xs rs) _ RB (by rw [HL.out]; omega)
 obtain ⟨cb, hcb⟩ : ∃ cb, Hid ((Zas xs rs).contains false = cb) := ⟨_, rfl⟩
 rw [hcb.out] at HC
 have HA : Hid (allR xs rs = !cb) := by unfold Hid allR; rw [hcb.out]
 clear hcb
 go_wp2_with fail
 refine HC.mono ?_
 rintro e w2 ⟨rfl, rfl⟩
 go_wp2
 go_ret
 exact ⟨by rw [HA.out]; rfl, hB1⟩
end Go.Proofs.YtfmafkebddojjaaGreatDoor
namespace Go.Proofs.YtfmafkebddojjaaGreatDoor
open Go.RowKit Go.Extern.Stop Go.Stop Go.Extern
theorem ZlC (t : Value) (w : World) :
  Calls Tryz.prog 254 #[.nilIface, t] w fun e w' => e = .returned (.bool false) /\ w' = w := by
 go_enter Tryz.func254, Tryz.ntmps254
 go_wp2
 go_ret
 exact ⟨rfl, rfl⟩
theorem Tryz.asValueOfP (t : Addr) (w : World) : (ReflectliteValue.unpack (.iface 307 (.pointer (some t)))).run Tryz.prog w
  = .ok (.agg #[.pointer (some ⟨1, 307, none⟩), .pointer (some ⟨w.heap.size, 0, none⟩), .int .u64 150]) (w.alloc (.cells #[.pointer (some t)] 307)) := by kernel_rfl
theorem Tryz.asTypeP (a : Addr) (w : World) : (ReflectliteValue.methodAny (ReflectliteValue.valueError "reflectlite.Value.Type" 0) (fun t _ _ _ => ReflectliteType.toType t) #[.agg #[.pointer (some ⟨1, 307, none⟩), .pointer (some a), .int .u64 150]]).run Tryz.prog w
  = .ok (.iface 336 (.agg #[.pointer (some ⟨1, 307, none⟩)])) w := by kernel_rfl
theorem Tryz.asMethodKind (h : Value) (w : World) : (Go.method 479 336 (.agg #[h]) "Kind").run Tryz.prog w = .ok (303, h) w := by kernel_rfl
theorem Tryz.asKindP (w : World) : ((ReflectliteType.abiMethod fun t => (fun a : Nat => Value.int IntKind.u8 (a : Int)) <$> Rtype.kind t) #[.pointer (some ⟨1, 307, none⟩)]).run Tryz.prog w = .ok (.int .u8 22) w := by kernel_rfl
theorem Tryz.asKindT (w : World) : ((ReflectliteType.abiMethod fun t => (fun a : Nat => Value.int IntKind.u8 (a : Int)) <$> Rtype.kind t) #[.pointer (some ⟨1, 289, none⟩)]).run Tryz.prog w = .ok (.int .u8 25) w := by kernel_rfl
theorem rlm (z : Sem Value) (f : TypeId -> Addr -> Nat -> Nat -> Sem Value) (v : Value) :
  ReflectliteValue.method z f #[v] = (do match <- ReflectliteValue.parts v with | none => z | some (t, a, fl) => f t a fl (fl % 32)) := rfl
theorem Tryz.asPartsP (a : Addr) (w : World) : (ReflectliteValue.parts (.agg #[.pointer (some ⟨1, 307, none⟩), .pointer (some a), .int .u64 150])).run Tryz.prog w = .ok (some (307, a, 150)) w := by kernel_rfl
theorem Tryz.asIsNilP (a p : Addr) (W : World) (ha : W.cell? a = some (.pointer (some p))) :
  (ReflectliteValue.method (ReflectliteValue.valueError "reflectlite.Value.IsNil" 0) ReflectliteValue.isNil #[.agg #[.pointer (some ⟨1, 307, none⟩), .pointer (some a), .int .u64 150]]).run Tryz.prog W = .ok (.bool false) W := by
 rw [rlm]
 simp only [Sem.run_bind, Tryz.asPartsP, Result.andThen]
 simp [ReflectliteValue.isNil, loadVar, isAgg, underlying, Tryz.underlying307, ha, Result.andThen]
theorem Tryz.asMethodElem (h : Value) (w : World) : (Go.method 479 336 (.agg #[h]) "Elem").run Tryz.prog w = .ok (315, .agg #[h]) w := by kernel_rfl
theorem Tryz.asMethodImplements (h : Value) (w : World) : (Go.method 479 336 (.agg #[h]) "Implements").run Tryz.prog w = .ok (316, .agg #[h]) w := by kernel_rfl
theorem Tryz.asMethodAssignableTo (h : Value) (w : World) : (Go.method 479 336 (.agg #[h]) "AssignableTo").run Tryz.prog w = .ok (313, .agg #[h]) w := by kernel_rfl
theorem Tryz.asElemP (w : World) : (ReflectliteType.method ReflectliteType.elem #[.agg #[.pointer (some ⟨1, 307, none⟩)]]).run Tryz.prog w = .ok (.iface 336 (.agg #[.pointer (some ⟨1, 289, none⟩)])) w := by kernel_rfl
theorem Tryz.asImplementsT (w : World) : (ReflectliteType.relation "Implements" ReflectliteType.implements_ #[.agg #[.pointer (some ⟨1, 289, none⟩)], .iface 336 (.agg #[.pointer (some ⟨1, 259, none⟩)])]).run Tryz.prog w = .ok (.bool true) w := by kernel_rfl
theorem Tryz.asTypeOfT (v : Value) (w : World) : (ReflectliteType.typeOf #[.iface 289 v]).run Tryz.prog w = .ok (.iface 336 (.agg #[.pointer (some ⟨1, 289, none⟩)])) w := by kernel_rfl
theorem Tryz.asAssignableT (w : World) : (ReflectliteType.relation "AssignableTo" ReflectliteType.assignableTo #[.agg #[.pointer (some ⟨1, 289, none⟩)], .iface 336 (.agg #[.pointer (some ⟨1, 289, none⟩)])]).run Tryz.prog w = .ok (.bool true) w := by kernel_rfl
theorem Tryz.asValueOfT (p : Int) (w : World) : (ReflectliteValue.unpack (.iface 289 (.agg #[.int .i64 p]))).run Tryz.prog w
  = .ok (.agg #[.pointer (some ⟨1, 289, none⟩), .pointer (some ⟨w.heap.size, 0, none⟩), .int .u64 153]) (w.alloc (.cells #[.int .i64 p] 289)) := by kernel_rfl
theorem Tryz.asElemOfP (w : World) : (Rtype.elem? 307).run Tryz.prog w = .ok (some 289) w := by kernel_rfl
theorem Tryz.asMkT (p : Addr) (w : World) : (ReflectliteValue.mk 289 p ReflectliteValue.flagAddr).run Tryz.prog w = .ok (.agg #[.pointer (some ⟨1, 289, none⟩), .pointer (some p), .int .u64 409]) w := by kernel_rfl
theorem Tryz.asElemV (a p : Addr) (W : World) (ha : W.cell? a = some (.pointer (some p))) :
  (ReflectliteValue.method (ReflectliteValue.valueError "reflectlite.Value.Elem" 0) ReflectliteValue.elem #[.agg #[.pointer (some ⟨1, 307, none⟩), .pointer (some a), .int .u64 150]]).run Tryz.prog W
   = .ok (.agg #[.pointer (some ⟨1, 289, none⟩), .pointer (some p), .int .u64 409]) W := by
 rw [rlm]
 simp only [Sem.run_bind, Tryz.asPartsP, Result.andThen]
 simp [ReflectliteValue.elem, loadVar, isAgg, underlying, Tryz.underlying307, ha, Result.andThen, Tryz.asElemOfP, Tryz.asMkT]
theorem Tryz.asPartsA (a : Addr) (w : World) : (ReflectliteValue.parts (.agg #[.pointer (some ⟨1, 289, none⟩), .pointer (some a), .int .u64 409])).run Tryz.prog w = .ok (some (289, a, 409)) w := by kernel_rfl
theorem Tryz.asPartsT (a : Addr) (w : World) : (ReflectliteValue.parts (.agg #[.pointer (some ⟨1, 289, none⟩), .pointer (some a), .int .u64 153])).run Tryz.prog w = .ok (some (289, a, 153)) w := by kernel_rfl
theorem Tryz.asDirect (w : World) : (Rtype.directlyAssignable 289 289).run Tryz.prog w = .ok true w := by kernel_rfl
def ErrT (w : World) : Prop := w.cell? ⟨0, 0, none⟩ = some (.iface 336 (.agg #[.pointer (some ⟨1, 259, none⟩)]))
theorem ErrT.below {w w' : World} {B : Nat} (h : ErrT w) (hb : Below B w w') (hB : w.heap.size <= B) : ErrT w' := by
 have hl := World.block_lt_of_cell? _ _ h
 unfold ErrT
 rw [hb.cell (p := ⟨0, 0, none⟩) (Nat.lt_of_lt_of_le hl hB)]
 exact h
theorem Tryz.asSet (tb b : Nat) (p q : Int) (W : World) (hb : W.heap[b]? = some (.cells #[.int .i64 p] 289 (0, 0))) (ht : W.heap[tb]? = some (.cells #[.int .i64 q] 289 (0, 0))) :
  (ReflectliteValue.set #[.agg #[.pointer (some ⟨1, 289, none⟩), .pointer (some ⟨tb, 0, none⟩), .int .u64 409], .agg #[.pointer (some ⟨1, 289, none⟩), .pointer (some ⟨b, 0, none⟩), .int .u64 153]]).run Tryz.prog W
   = .ok (.tuple #[]) (W.setCell ⟨tb, 0, none⟩ (.int .i64 p)) := by
 have c0 : W.cell? ⟨b, 0, none⟩ = some (.int .i64 p) := cell_of_row _ _ 0 _ _ _ hb
 have c1 : W.cell? ⟨tb, 0, none⟩ = some (.int .i64 q) := cell_of_row _ _ 0 _ _ _ ht
 have f1 : W.frozen? ⟨tb, 0, none⟩ = false := frozen_of_row _ _ 0 _ _ ht
 show (ReflectliteValue.parts _ >>= _).run Tryz.prog W = _
 simp only [Sem.run_bind, Array.getLit, List.getElem_toArray, List.getElem_cons_zero, List.getElem_cons_succ, Tryz.asPartsA, Tryz.asPartsT, Result.andThen]
 simp [ReflectliteValue.flagAddr, loadVar, isAgg, underlying, Tryz.underlying289, Result.andThen, Tryz.asDirect, storeVar, Value.cells, storeCells, Addr.add]
 have hl : (loadCells ⟨b, 0, none⟩ 1).run Tryz.prog W = .ok #[.int .i64 p] W := run_loadCells_list (P := Tryz.prog) W ⟨b, 0, none⟩ [.int .i64 p] (fun j v hj => by
  cases j with
  | zero => cases hj; exact c0
  | succ j => simp at hj)
 rw [hl]
 simp [storeCells, Addr.add]
 rw [run_store Tryz.prog W ⟨tb, 0, none⟩ _ _ (by rfl)]
 simp [c1, f1]
theorem Zlx (p q : Int) (t : Nat) (w : World) (hg : ErrT w) (ht : w.heap[t]? = some (.cells #[.int .i64 q] 289 (0, 0))) :
  Calls Tryz.prog 254 #[.iface 289 (.agg #[.int .i64 p]), .iface 307 (.pointer (some ⟨t, 0, none⟩))] w fun ev w' => ev = .returned (.bool true) /\ w.grownBy w' (some t) := by
 have h6 := @run_callFunc_extern Tryz.prog 262 _ (fun args => ReflectliteValue.unpack (args.getD 0 (.tuple #[]))) Tryz.func262 (by kernel_rfl) (by kernel_rfl) (by kernel_rfl) (by kernel_rfl)
 have h7 := @run_callFunc_extern Tryz.prog 263 _ (ReflectliteValue.methodAny (ReflectliteValue.valueError "reflectlite.Value.Type" 0) (fun t _ _ _ => ReflectliteType.toType t)) Tryz.func263 (by kernel_rfl) (by kernel_rfl) (by kernel_rfl) (by kernel_rfl)
 have h8 := @run_callFunc_extern Tryz.prog 264 _ (ReflectliteValue.method (ReflectliteValue.valueError "reflectlite.Value.IsNil" 0) ReflectliteValue.isNil) Tryz.func264 (by kernel_rfl) (by kernel_rfl) (by kernel_rfl) (by kernel_rfl)
 have h27 := @run_callFunc_extern Tryz.prog 303 _ (ReflectliteType.abiMethod fun t => do pure (.int .u8 (<- Rtype.kind t))) Tryz.func303 (by kernel_rfl) (by kernel_rfl) (by kernel_rfl) (by kernel_rfl)
 have h37 := @run_callFunc_extern Tryz.prog 315 _ (ReflectliteType.method ReflectliteType.elem) Tryz.func315 (by kernel_rfl) (by kernel_rfl) (by kernel_rfl) (by kernel_rfl)
 have h38 := @run_callFunc_extern Tryz.prog 316 _ (ReflectliteType.relation "Implements" ReflectliteType.implements_) Tryz.func316 (by kernel_rfl) (by kernel_rfl) (by kernel_rfl) (by kernel_rfl)
 have h10 := @run_callFunc_extern Tryz.prog 282 _ ReflectliteType.typeOf Tryz.func282 (by kernel_rfl) (by kernel_rfl) (by kernel_rfl) (by kernel_rfl)
 have h35 := @run_callFunc_extern Tryz.prog 313 _ (ReflectliteType.relation "AssignableTo" ReflectliteType.assignableTo) Tryz.func313 (by kernel_rfl) (by kernel_rfl) (by kernel_rfl) (by kernel_rfl)
 have h11 := @run_callFunc_extern Tryz.prog 283 _ (ReflectliteValue.method (ReflectliteValue.valueError "reflectlite.Value.Elem" 0) ReflectliteValue.elem) Tryz.func283 (by kernel_rfl) (by kernel_rfl) (by kernel_rfl) (by kernel_rfl)
 have h12 := @run_callFunc_extern Tryz.prog 284 _ ReflectliteValue.set Tryz.func284 (by kernel_rfl) (by kernel_rfl) (by kernel_rfl) (by kernel_rfl)
 have tO := Tryz.asTypeOfT
 have mA := Tryz.asMethodAssignableTo
 have a25 := Tryz.asAssignableT
 have v25 := Tryz.asValueOfT
 have f6 := Tryz.asValueOfP
 have f7 := Tryz.asTypeP
 have mK := Tryz.asMethodKind
 have mE := Tryz.asMethodElem
 have mI := Tryz.asMethodImplements
 have k27 := Tryz.asKindP
 have k25 := Tryz.asKindT
 have e27 := Tryz.asElemP
 have i25 := Tryz.asImplementsT
 obtain ⟨t', ht'⟩ : ∃ t' : Addr, t' = ⟨t, 0, none⟩ := ⟨_, rfl⟩
 have n8 := Tryz.asIsNilP ⟨w.heap.size, 0, none⟩ ⟨t, 0, none⟩ ((w.alloc (.cells #[.pointer (some ⟨t, 0, none⟩)] 307)).alloc (.cells #[.pointer (some ⟨1, 307, none⟩), .pointer (some ⟨w.heap.size, 0, none⟩), .int .u64 150] 323)) (by simp)
 have hlt : 0 < w.heap.size := World.block_lt_of_cell? _ _ hg
 have hg2 : ((w.alloc (.cells #[.pointer (some ⟨t, 0, none⟩)] 307)).alloc (.cells #[.pointer (some ⟨1, 307, none⟩), .pointer (some ⟨w.heap.size, 0, none⟩), .int .u64 150] 323)).cell? ⟨0, 0, none⟩ = some (.iface 336 (.agg #[.pointer (some ⟨1, 259, none⟩)])) := by
  rw [World.cell?_alloc_lt _ _ ⟨0, 0, none⟩ (by simp <;> omega), World.cell?_alloc_lt _ _ ⟨0, 0, none⟩ hlt]; exact hg
 have htl : t < w.heap.size := (bl ht)
 have el := Tryz.asElemV ⟨w.heap.size, 0, none⟩ ⟨t, 0, none⟩ (((w.alloc (.cells #[.pointer (some ⟨t, 0, none⟩)] 307)).alloc (.cells #[.pointer (some ⟨1, 307, none⟩), .pointer (some ⟨w.heap.size, 0, none⟩), .int .u64 150] 323)).alloc (.cells #[.pointer (some ⟨1, 307, none⟩), .pointer (some ⟨w.heap.size, 0, none⟩), .int .u64 150] 323)) (by rw [World.cell?_alloc_lt _ _ ⟨w.heap.size, 0, none⟩ (by simp <;> omega)]; simp)
 have st := Tryz.asSet t (w.heap.size + 1 + 1 + 1) p q ((((w.alloc (.cells #[.pointer (some ⟨t, 0, none⟩)] 307)).alloc (.cells #[.pointer (some ⟨1, 307, none⟩), .pointer (some ⟨w.heap.size, 0, none⟩), .int .u64 150] 323)).alloc (.cells #[.pointer (some ⟨1, 307, none⟩), .pointer (some ⟨w.heap.size, 0, none⟩), .int .u64 150] 323)).alloc (.cells #[.int .i64 p] 289))
  (by have := heap_alloc_new (((w.alloc (.cells #[.pointer (some ⟨t, 0, none⟩)] 307)).alloc (.cells #[.pointer (some ⟨1, 307, none⟩), .pointer (some ⟨w.heap.size, 0, none⟩), .int .u64 150] 323)).alloc (.cells #[.pointer (some ⟨1, 307, none⟩), .pointer (some ⟨w.heap.size, 0, none⟩), .int .u64 150] 323)) (.cells #[.int .i64 p] 289); simpa using this)
  (by rw [heap_alloc_old _ _ (by simp <;> omega), heap_alloc_old _ _ (by simp <;> omega), heap_alloc_old _ _ (by simp <;> omega), heap_alloc_old _ _ htl]; exact ht)
 have hG : w.grownBy (((((w.alloc (.cells #[.pointer (some ⟨t, 0, none⟩)] 307)).alloc (.cells #[.pointer (some ⟨1, 307, none⟩), .pointer (some ⟨w.heap.size, 0, none⟩), .int .u64 150] 323)).alloc (.cells #[.pointer (some ⟨1, 307, none⟩), .pointer (some ⟨w.heap.size, 0, none⟩), .int .u64 150] 323)).alloc (.cells #[.int .i64 p] 289)).setCell ⟨t, 0, none⟩ (.int .i64 p)) (some t) :=
  Zai (Zai (Zai (Zai (World.grownBy_alloc w _ _) (World.grownBy_alloc _ _ _)) (World.grownBy_alloc _ _ _)) (World.grownBy_alloc _ _ _)) (Zag _ t 0 _)
 clear ht' t' hlt htl ht hg
 go_enter Tryz.func254, Tryz.ntmps254
 go_wp2
 refine wp_loop_rounds 1 ?_
 rw [rounds_succ]
 go_wp2
 go_ret
 exact ⟨rfl, hG⟩
theorem Ze6 (w : World) : Calls Tryz.prog 246 #[.nilIface] w fun e w' => e = .returned (.bool false) /\ Below w.heap.size w w' := by
 go_enter Tryz.func246, Tryz.ntmps246
 go_wp2_with fail
 refine (ZlC _ _).mono ?_
 rintro e w1 ⟨rfl, rfl⟩
 go_wp2
 go_ret
 exact ⟨rfl, (Below.refl _ _).alloc (Nat.le_refl _) _⟩
theorem Ze8 (p : Int) (w : World) (hg : ErrT w) : Calls Tryz.prog 246 #[.iface 289 (.agg #[.int .i64 p])] w fun e w' => e = .returned (.bool true) /\ Below w.heap.size w w' := by
 go_enter Tryz.func246, Tryz.ntmps246
 go_wp2_with fail
 have hB : Below w.heap.size w (w.alloc (Obj.cells #[.int .i64 0] 289)) := (Below.refl _ _).alloc (Nat.le_refl _) _
 refine (Zlx p 0 w.heap.size _ (hg.below hB (Nat.le_refl _)) (heap_alloc_new _ _)).mono ?_
 rintro e w1 ⟨rfl, hgr⟩
 go_wp2
 go_ret
 exact ⟨rfl, hB.grown hgr hB.size (fun k hk => by simp at hk; omega)⟩
end Go.Proofs.YtfmafkebddojjaaGreatDoor
namespace Go.Proofs.YtfmafkebddojjaaGreatDoor
open Go.RowKit
theorem ZgT (a : Nat) (xs : List Nd) (rs : List Int) (hp : Zap xs = true) (ha : a + (mvN a xs rs).length <= 3000) : ∀ x ∈ mvN a xs rs, NdOk x := by
 have I := Zjg a xs (Zas xs rs) (fun i x h => Za9 hp h) (ZbU xs rs (fun i x h => Za9 hp h))
 intro x hx
 obtain ⟨j, hj⟩ := List.getElem?_of_mem hx
 have hjl : j < (mvN a xs rs).length := (List.getElem?_eq_some_iff.1 hj).1
 exact Ziv (I.ok j x hj) (by omega)
theorem ZbB {xs : List Nd} (h : Zap xs = true) : xs.length <= 3000 := by simp only [Zap, Bool.and_eq_true, decide_eq_true_eq] at h; exact h.1
theorem Zbx {xs : List Nd} (h : ∀ x ∈ xs, NdOk x) : ∀ x ∈ xs, x.s.size <= maxLen := fun x hx => by have := (h x hx).2.2.1; unfold maxLen; omega
theorem ZgS {w : World} {z : Int} {g : Nat} (h : w.heap[g]? = some (.cells #[.int .i64 z] 3 (0, 0))) : IRow w (.slice (some ⟨g, 0, none⟩) 1 1) [z] := by
 refine ⟨_, 1, rfl, ⟨by simp, fun h => by cases h⟩, by simp, fun _ => ⟨g, 0, rfl, (bl h), fun i hi => ?_⟩⟩
 have : i = 0 := by simpa using hi
 subst this
 rw [cell_of_row w _ 0 _ _ _ h]
 rfl
end Go.Proofs.YtfmafkebddojjaaGreatDoor
