/-
  Texts that stood by themselves, laid into one.
-/
import Derived.Test.YtkchakcebdenjaaGreatFo3M
/-
  Whether a form is as told: the contracts of all asTold. No condition beyond a right pool that has the values.
-/
namespace Go.Proofs.YtkchakcebdenjaaGreat
open Go.RowKit
def fnB (xs : List Nd) (vs bs : List Int) : Bool := decide (0 < bs.length) && (decide (vs.length ≤ 4) && allVars xs vs)
def tellB (xs : List Nd) : Fm → Bool
  | .lit _ => true
  | .men s => !rsv s
  | .quo l => decide ((l.length : Int) = 1)
  | .cho l => decide ((l.length : Int) = 3)
  | .seq l => decide (0 < l.length)
  | .cal l => decide ((l.length : Int) ≤ 5)
  | .fn vs bs => fnB xs vs bs
  | .bin vs bs _ => fnB xs vs bs
  | .defn s vs bs => !(s.toList == []) && (!rsv s && fnB xs vs bs)
  | .stray => false
set_option maxRecDepth 100000 in
set_option maxHeartbeats 1600000 in
theorem isnovar_any (ao : Option Addr) (cap : Nat) (xs : List Nd) (v : Nat) (w : World) (R : NRow w (.slice ao xs.length cap) xs) (hv : v < xs.length) :
    Calls Tryz.prog 152 #[.agg #[.slice ao xs.length cap], .int .i64 v] w fun e w' => e = .returned (.bool (!(varN xs v))) ∧ Below w.heap.size w w' := by
  have hB : Below w.heap.size w (w.alloc (Obj.cells #[.slice ao xs.length cap] 29)) := (Below.refl _ _).alloc (Nat.le_refl _) _
  have hx : (w.alloc (Obj.cells #[.slice ao xs.length cap] 29)).heap[w.heap.size]? = some (Obj.cells #[.slice ao xs.length cap] 29) := heap_alloc_new _ _
  obtain ⟨x, hxm⟩ : ∃ x, xs[v]? = some x := ⟨xs[v], List.getElem?_eq_getElem hv⟩
  have HN := ndAt_some hxm
  have RA := R.below hB
  obtain ⟨ao', cap', e', _, _, _, hcell⟩ := RA
  simp only [Value.slice.injEq] at e'
  obtain ⟨rfl, _, rfl⟩ := e'
  obtain ⟨gp, op, rfl, hgp, hcell⟩ := hcell (by intro e; rw [e] at hv; simp at hv)
  obtain ⟨d0, d1, d2, d3, d4⟩ := hcell v x hxm
  have k0 : (w.alloc (Obj.cells #[.slice (some ⟨gp, op, none⟩) xs.length cap] 29)).cell? ⟨w.heap.size, 0, none⟩ = some (.slice (some ⟨gp, op, none⟩) xs.length cap) := cell_of_row _ _ 0 _ _ _ hx
  have HV : Hid (varN xs (v : Int) = (decide (x.k = 4) && !rsv x.s)) := by unfold Hid varN; rw [HN]
  clear hcell HN hx
  by_cases h4 : x.k = 4
  · go_enter Tryz.func152, Tryz.ntmps152
    go_wp2_with fail
    refine (iisform_any x.s _).mono ?_
    rintro e w1 ⟨rfl, rfl⟩
    go_wp2
    go_ret
    exact ⟨by rw [HV.out, decide_eq_true h4]; simp, hB⟩
  · have hd : (x.k != 4) = true := by simpa using h4
    go_enter Tryz.func152, Tryz.ntmps152
    go_wp2_with fail
    go_ret
    exact ⟨by rw [HV.out, decide_eq_false h4]; simp, hB⟩
set_option maxRecDepth 100000 in
set_option maxHeartbeats 1600000 in
theorem fxnovar_any (ao : Option Addr) (cap : Nat) (xs : List Nd) (u : Value) (l : List Int) (w : World) (R : NRow w (.slice ao xs.length cap) xs) (T : TRow w u l) (hv : InP xs l) :
    Calls Tryz.prog 153 #[u, .func (.func 152) #[.agg #[.slice ao xs.length cap]] #[]] w fun e w' => ∃ q : Int, e = .returned (.int .i64 q) ∧ decide (0 ≤ q) = !(allVars xs l) ∧ -1 ≤ q ∧ Below w.heap.size w w' := by
  obtain ⟨a1, c1, rfl, hlc, hcm⟩ := T.form
  go_enter Tryz.func153, Tryz.ntmps153
  go_wp2_with fail
  go_loopw [8] (fun i wr => ∃ k : Nat, k ≤ l.length ∧ i = .int .i64 k ∧ Hid (allVars xs (l.take k) = true) ∧ Below w.heap.size w wr) (fun i _ => l.length - (intOf i).toNat)
  case atStart => exact ⟨0, by omega, rfl, rfl, Below.refl _ _⟩
  case round =>
    obtain ⟨k, hk, rfl, HK, hb⟩ := hrel
    by_cases hlt : k < l.length
    · obtain ⟨z, hz⟩ : ∃ z, l[k]? = some z := ⟨l[k], List.getElem?_eq_getElem hlt⟩
      have hzg : l.getD k 0 = z := by rw [List.getD_eq_getElem?_getD, hz]; rfl
      obtain ⟨n, rfl, hn⟩ := hv z (List.mem_of_getElem? hz)
      obtain ⟨g, o, rfl, hg, ck⟩ := (T.below hb).cell k hlt
      rw [hzg] at ck
      have Rw := R.below hb
      obtain ⟨b, hbb⟩ : ∃ b, Hid (varN xs (n : Int) = b) := ⟨_, rfl⟩
      go_wp2_with fail
      refine (isnovar_any ao cap xs n _ Rw hn).mono ?_
      rintro e w2 ⟨rfl, hb2⟩
      rw [hbb.out]
      have hB2 := hb.trans (hb2.mono hb.size)
      clear hb2 ck Rw
      cases b with
      | false =>
        have HA : Hid (allVars xs l = false) := allVars_bad xs l k n hz hbb.out
        clear HK hbb hz
        go_wp2
        go_ret
        refine ⟨k, rfl, ?_, by omega, hB2⟩
        rw [HA.out]
        simp
      | true =>
        have HA : Hid (allVars xs (l.take (k + 1)) = true) := by unfold Hid; rw [allVars_snoc xs l k n hz, HK.out, hbb.out]; rfl
        clear HK hbb hz
        go_wp2
        go_roundw
        case rel => exact ⟨k + 1, by omega, by go_num, HA, hB2⟩
        case measure => simp [intOf]; omega
    · have HA : Hid (allVars xs l = true) := by
        have := HK.out
        rw [List.take_of_length_le (by omega)] at this
        exact this
      clear HK
      go_wp2
      go_ret
      refine ⟨-1, rfl, ?_, by omega, hb⟩
      rw [HA.out]
      decide
set_option maxRecDepth 100000 in
set_option maxHeartbeats 1600000 in
theorem cfnovar_any (ao : Option Addr) (cap : Nat) (xs : List Nd) (u : Value) (l : List Int) (w : World) (R : NRow w (.slice ao xs.length cap) xs) (T : TRow w u l) (hv : InP xs l) :
    Calls Tryz.prog 151 #[u, .func (.func 152) #[.agg #[.slice ao xs.length cap]] #[]] w fun e w' => e = .returned (.bool (!(allVars xs l))) ∧ Below w.heap.size w w' := by
  go_enter Tryz.func151, Tryz.ntmps151
  go_wp2_with fail
  refine (fxnovar_any ao cap xs u l _ R T hv).mono ?_
  rintro e w2 ⟨q, rfl, hq, _, hb2⟩
  go_wp2
  go_ret
  exact ⟨by rw [← hq]; rfl, hb2⟩
theorem box2 (w : World) (a b : Obj) : Below w.heap.size w ((w.alloc a).alloc b) ∧ ((w.alloc a).alloc b).heap[w.heap.size]? = some a ∧ ((w.alloc a).alloc b).heap[w.heap.size + 1]? = some b :=
  ⟨((Below.refl _ _).alloc (Nat.le_refl _) _).alloc (by simp) _, (heap_alloc_old _ _ (by simp)).trans (heap_alloc_new _ _), by have := heap_alloc_new (w.alloc a) b; simpa using this⟩
set_option maxRecDepth 100000 in
set_option maxHeartbeats 3200000 in
theorem atfun_any (ao : Option Addr) (cap : Nat) (xs : List Nd) (u y : Value) (vs bs : List Int) (w : World) (R : NRow w (.slice ao xs.length cap) xs) (T : TRow w u vs) (T2 : TRow w y bs) (hv : InP xs vs) :
    Calls Tryz.prog 150 #[.agg #[u, y], .agg #[.slice ao xs.length cap]] w fun e w' => e = .returned (.bool (fnB xs vs bs)) ∧ Below w.heap.size w w' := by
  have hmf : ∀ (fn : Fn) (first cap : Array Value) (w : World), (Instr.makeFunc fn first cap).run Tryz.prog w = .ok (.func fn first cap) w := fun _ _ _ _ => rfl
  obtain ⟨a1, c1, rfl, _⟩ := T.form
  obtain ⟨a2, c2, rfl, _⟩ := T2.form
  obtain ⟨hB, hx, hy⟩ := box2 w (Obj.cells #[.slice a1 vs.length c1, .slice a2 bs.length c2] 112) (Obj.cells #[.slice ao xs.length cap] 29)
  have k0 := cell_of_row _ _ 0 _ _ _ hx
  have k1 := cell_of_row _ _ 1 _ _ _ hx
  have k2 := cell_of_row _ _ 0 _ _ _ hy
  have RA := R.below hB
  have TA := T.below hB
  clear hx hy
  obtain ⟨W, hW⟩ : ∃ W, Hid (((w.alloc (Obj.cells #[.slice a1 vs.length c1, .slice a2 bs.length c2] 112)).alloc (Obj.cells #[.slice ao xs.length cap] 29)) = W) := ⟨_, rfl⟩
  by_cases h1 : 0 < bs.length
  · by_cases h2 : vs.length ≤ 4
    · have HF : Hid (fnB xs vs bs = allVars xs vs) := by unfold Hid fnB; rw [decide_eq_true h1, decide_eq_true h2]; rfl
      go_enter Tryz.func150, Tryz.ntmps150
      go_wp2_with fail
      refine (cfnovar_any ao cap xs _ vs _ RA TA hv).mono ?_
      rintro e w2 ⟨rfl, hb2⟩
      have hB2 := hB.trans (hb2.mono hB.size)
      obtain ⟨b, hbb⟩ : ∃ b, Hid (allVars xs vs = b) := ⟨_, rfl⟩
      rw [hbb.out]
      clear hb2 RA TA
      cases b <;>
        (go_wp2
         go_ret
         exact ⟨by rw [HF.out, hbb.out]; rfl, hB2⟩)
    · have HF : Hid (fnB xs vs bs = false) := by unfold Hid fnB; rw [decide_eq_false h2]; simp
      go_enter Tryz.func150, Tryz.ntmps150
      go_wp2_with fail
      go_ret
      exact ⟨by rw [HF.out]; rfl, hB⟩
  · have HF : Hid (fnB xs vs bs = false) := by unfold Hid fnB; rw [decide_eq_false h1]; simp
    go_enter Tryz.func150, Tryz.ntmps150
    go_wp2_with fail
    go_ret
    exact ⟨by rw [HF.out]; rfl, hB⟩
end Go.Proofs.YtkchakcebdenjaaGreat
/-
  The other asTold. No condition beyond a right pool that has the values.
-/
namespace Go.Proofs.YtkchakcebdenjaaGreat
open Go.RowKit
set_option maxHeartbeats 1600000 in
theorem atlit_any (v : Int) (p : Value) (w : World) : Calls Tryz.prog 156 #[.agg #[.int .i64 v], .agg #[p]] w fun e w' => e = .returned (.bool true) ∧ Below w.heap.size w w' := by
  go_enter Tryz.func156, Tryz.ntmps156
  go_wp2
  go_ret
  exact ⟨rfl, by first | exact Below.refl _ _ | exact (box2 w _ _).1 | exact (Below.refl _ _).alloc (Nat.le_refl _) _⟩
set_option maxHeartbeats 1600000 in
theorem atstray_any (p : Value) (w : World) : Calls Tryz.prog 158 #[.agg #[], .agg #[p]] w fun e w' => e = .returned (.bool false) ∧ Below w.heap.size w w' := by
  go_enter Tryz.func158, Tryz.ntmps158
  go_wp2
  go_ret
  exact ⟨rfl, by first | exact Below.refl _ _ | exact (box2 w _ _).1 | exact (Below.refl _ _).alloc (Nat.le_refl _) _⟩
set_option maxHeartbeats 1600000 in
theorem atmen_any (s : ByteArray) (p : Value) (w : World) : Calls Tryz.prog 157 #[.agg #[.string s], .agg #[p]] w fun e w' => e = .returned (.bool (!rsv s)) ∧ Below w.heap.size w w' := by
  obtain ⟨hB, hx, hy⟩ := box2 w (Obj.cells #[.string s] 156) (Obj.cells #[p] 29)
  have k0 := cell_of_row _ _ 0 _ _ _ hx
  go_enter Tryz.func157, Tryz.ntmps157
  go_wp2_with fail
  refine (iisform_any s _).mono ?_
  rintro e w1 ⟨rfl, rfl⟩
  go_wp2
  go_ret
  exact ⟨rfl, hB⟩
set_option maxHeartbeats 1600000 in
theorem atquo_any (a : Option Addr) (n c : Nat) (p : Value) (w : World) : Calls Tryz.prog 159 #[.slice a n c, .agg #[p]] w fun e w' => e = .returned (.bool (decide ((n : Int) = 1))) ∧ Below w.heap.size w w' := by
  have hB := (Below.refl w.heap.size w).alloc (Nat.le_refl _) (Obj.cells #[p] 29)
  go_enter Tryz.func159, Tryz.ntmps159
  go_wp2
  go_ret
  exact ⟨rfl, hB⟩
set_option maxHeartbeats 1600000 in
theorem atcho_any (a : Option Addr) (n c : Nat) (p : Value) (w : World) : Calls Tryz.prog 160 #[.slice a n c, .agg #[p]] w fun e w' => e = .returned (.bool (decide ((n : Int) = 3))) ∧ Below w.heap.size w w' := by
  have hB := (Below.refl w.heap.size w).alloc (Nat.le_refl _) (Obj.cells #[p] 29)
  go_enter Tryz.func160, Tryz.ntmps160
  go_wp2
  go_ret
  exact ⟨rfl, hB⟩
set_option maxHeartbeats 1600000 in
theorem atseq_any (a : Option Addr) (n c : Nat) (p : Value) (w : World) : Calls Tryz.prog 161 #[.slice a n c, .agg #[p]] w fun e w' => e = .returned (.bool (decide (0 < n))) ∧ Below w.heap.size w w' := by
  have hB := (Below.refl w.heap.size w).alloc (Nat.le_refl _) (Obj.cells #[p] 29)
  go_enter Tryz.func161, Tryz.ntmps161
  go_wp2
  go_ret
  exact ⟨rfl, hB⟩
set_option maxHeartbeats 1600000 in
theorem atcal_any (a : Option Addr) (n c : Nat) (p : Value) (w : World) : Calls Tryz.prog 162 #[.slice a n c, .agg #[p]] w fun e w' => e = .returned (.bool (decide ((n : Int) ≤ 5))) ∧ Below w.heap.size w w' := by
  have hB := (Below.refl w.heap.size w).alloc (Nat.le_refl _) (Obj.cells #[p] 29)
  go_enter Tryz.func162, Tryz.ntmps162
  go_wp2
  go_ret
  exact ⟨rfl, hB⟩
set_option maxHeartbeats 1600000 in
theorem atbin_any (ao : Option Addr) (cap : Nat) (xs : List Nd) (u y : Value) (vs bs : List Int) (v : Int) (w : World) (R : NRow w (.slice ao xs.length cap) xs) (T : TRow w u vs) (T2 : TRow w y bs) (hv : InP xs vs) :
    Calls Tryz.prog 163 #[.agg #[u, y, .int .i64 v], .agg #[.slice ao xs.length cap]] w fun e w' => e = .returned (.bool (fnB xs vs bs)) ∧ Below w.heap.size w w' := by
  obtain ⟨hB, hx, hy⟩ := box2 w (Obj.cells #[u, y, .int .i64 v] 180) (Obj.cells #[.slice ao xs.length cap] 29)
  have k0 := cell_of_row _ _ 0 _ _ _ hx
  have k1 := cell_of_row _ _ 1 _ _ _ hx
  have k2 := cell_of_row _ _ 0 _ _ _ hy
  go_enter Tryz.func163, Tryz.ntmps163
  go_wp2_with fail
  refine (atfun_any ao cap xs u y vs bs _ (R.below hB) (T.below hB) (T2.below hB) hv).mono ?_
  rintro e w1 ⟨rfl, hb⟩
  have hB1 := hB.trans (hb.mono hB.size)
  clear hb hx hy k0 k1 k2 hB
  go_wp2
  go_ret
  exact ⟨rfl, hB1⟩
set_option maxHeartbeats 1600000 in
theorem atdef_any (ao : Option Addr) (cap : Nat) (xs : List Nd) (s : ByteArray) (u y : Value) (vs bs : List Int) (w : World) (R : NRow w (.slice ao xs.length cap) xs) (T : TRow w u vs) (T2 : TRow w y bs) (hv : InP xs vs) :
    Calls Tryz.prog 155 #[.agg #[.string s, u, y], .agg #[.slice ao xs.length cap]] w fun e w' => e = .returned (.bool (!(s.toList == []) && (!rsv s && fnB xs vs bs))) ∧ Below w.heap.size w w' := by
  obtain ⟨hB, hx, hy⟩ := box2 w (Obj.cells #[.string s, u, y] 114) (Obj.cells #[.slice ao xs.length cap] 29)
  have k0 := cell_of_row _ _ 0 _ _ _ hx
  have k1 := cell_of_row _ _ 1 _ _ _ hx
  have k3 := cell_of_row _ _ 2 _ _ _ hx
  have k2 := cell_of_row _ _ 0 _ _ _ hy
  obtain ⟨b1, h1⟩ : ∃ b, (s.toList == ([] : List UInt8)) = b := ⟨_, rfl⟩
  obtain ⟨b2, h2⟩ : ∃ b, Hid (rsv s = b) := ⟨_, rfl⟩
  cases b1 with
  | true =>
    have HF : Hid ((!(s.toList == []) && (!rsv s && fnB xs vs bs)) = false) := by unfold Hid; rw [h1]; rfl
    go_enter Tryz.func155, Tryz.ntmps155
    go_wp2_with fail
    go_ret
    exact ⟨by rw [HF.out]; rfl, hB⟩
  | false =>
    cases b2 with
    | true =>
      have HF : Hid ((!(s.toList == []) && (!rsv s && fnB xs vs bs)) = false) := by unfold Hid; rw [h1, h2.out]; rfl
      go_enter Tryz.func155, Tryz.ntmps155
      go_wp2_with fail
      refine (iisform_any s _).mono ?_
      rintro e w1 ⟨rfl, rfl⟩
      rw [h2.out]
      go_wp2_with fail
      go_ret
      exact ⟨by rw [HF.out]; rfl, hB⟩
    | false =>
      have HF : Hid ((!(s.toList == []) && (!rsv s && fnB xs vs bs)) = fnB xs vs bs) := by unfold Hid; rw [h1, h2.out]; rfl
      go_enter Tryz.func155, Tryz.ntmps155
      go_wp2_with fail
      refine (iisform_any s _).mono ?_
      rintro e w1 ⟨rfl, rfl⟩
      rw [h2.out]
      go_wp2_with fail
      refine (atfun_any ao cap xs u y vs bs _ (R.below hB) (T.below hB) (T2.below hB) hv).mono ?_
      rintro e w1 ⟨rfl, hb⟩
      have hB1 := hB.trans (hb.mono hB.size)
      clear hb hx hy k0 k1 k2 k3 hB
      obtain ⟨b, hbb⟩ : ∃ b, Hid (fnB xs vs bs = b) := ⟨_, rfl⟩
      rw [hbb.out]
      go_wp2
      go_ret
      exact ⟨by rw [HF.out, hbb.out]; rfl, hB1⟩
end Go.Proofs.YtkchakcebdenjaaGreat
