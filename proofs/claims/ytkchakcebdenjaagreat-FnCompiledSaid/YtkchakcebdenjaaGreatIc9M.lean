/-
  The contract of the compiler's expression. No condition beyond the compiler's memory and a right pool that has the value.
-/
import Derived.Test.YtkchakcebdenjaaGreatIc8M
namespace Go.Proofs.YtkchakcebdenjaaGreat
open Go.RowKit
theorem info_zero {P : Program} {t : TypeId} {z : Value} (h : (P.info? t).map (·.zero) = some (some z)) : ∃ i, P.info? t = some i ∧ i.zero = some z := by
  cases hi : P.info? t with
  | none => rw [hi] at h; cases h
  | some i => rw [hi] at h; exact ⟨i, rfl, by simpa using h⟩
theorem Tryz.zf_lit : (Tryz.prog.info? 154).map (·.zero) = some (some (.agg #[.int .i64 0])) := by kernel_rfl
theorem ok_lit (xT : TypeId) (v : Value) (w : World) : (Instr.typeAssert (.iface 154 v) xT 154 true).run Tryz.prog w = .ok (.tuple #[v, .bool true]) w := by
  simp [Instr.typeAssert, run_underlying Tryz.underlying154, go_sem, Result.andThen]
theorem ne_lit (t : TypeId) (ht : ¬ t = 154) (xT : TypeId) (v : Value) (w : World) : (Instr.typeAssert (.iface t v) xT 154 true).run Tryz.prog w = .ok (.tuple #[.agg #[.int .i64 0], .bool false]) w := by
  obtain ⟨i0, hi, hz0⟩ := info_zero Tryz.zf_lit
  simp [Instr.typeAssert, run_underlying Tryz.underlying154, zeroValue, typeInfo, go_sem, Result.andThen, hi, hz0, ht]
theorem Tryz.zf_men : (Tryz.prog.info? 156).map (·.zero) = some (some (.agg #[.string ByteArray.empty])) := by kernel_rfl
theorem ok_men (xT : TypeId) (v : Value) (w : World) : (Instr.typeAssert (.iface 156 v) xT 156 true).run Tryz.prog w = .ok (.tuple #[v, .bool true]) w := by
  simp [Instr.typeAssert, run_underlying Tryz.underlying156, go_sem, Result.andThen]
theorem ne_men (t : TypeId) (ht : ¬ t = 156) (xT : TypeId) (v : Value) (w : World) : (Instr.typeAssert (.iface t v) xT 156 true).run Tryz.prog w = .ok (.tuple #[.agg #[.string ByteArray.empty], .bool false]) w := by
  obtain ⟨i0, hi, hz0⟩ := info_zero Tryz.zf_men
  simp [Instr.typeAssert, run_underlying Tryz.underlying156, zeroValue, typeInfo, go_sem, Result.andThen, hi, hz0, ht]
theorem Tryz.zf_quo : (Tryz.prog.info? 168).map (·.zero) = some (some (.slice none 0 0)) := by kernel_rfl
theorem ok_quo (xT : TypeId) (v : Value) (w : World) : (Instr.typeAssert (.iface 168 v) xT 168 true).run Tryz.prog w = .ok (.tuple #[v, .bool true]) w := by
  simp [Instr.typeAssert, run_underlying Tryz.underlying168, go_sem, Result.andThen]
theorem ne_quo (t : TypeId) (ht : ¬ t = 168) (xT : TypeId) (v : Value) (w : World) : (Instr.typeAssert (.iface t v) xT 168 true).run Tryz.prog w = .ok (.tuple #[.slice none 0 0, .bool false]) w := by
  obtain ⟨i0, hi, hz0⟩ := info_zero Tryz.zf_quo
  simp [Instr.typeAssert, run_underlying Tryz.underlying168, zeroValue, typeInfo, go_sem, Result.andThen, hi, hz0, ht]
theorem Tryz.zf_cho : (Tryz.prog.info? 169).map (·.zero) = some (some (.slice none 0 0)) := by kernel_rfl
theorem ok_cho (xT : TypeId) (v : Value) (w : World) : (Instr.typeAssert (.iface 169 v) xT 169 true).run Tryz.prog w = .ok (.tuple #[v, .bool true]) w := by
  simp [Instr.typeAssert, run_underlying Tryz.underlying169, go_sem, Result.andThen]
theorem ne_cho (t : TypeId) (ht : ¬ t = 169) (xT : TypeId) (v : Value) (w : World) : (Instr.typeAssert (.iface t v) xT 169 true).run Tryz.prog w = .ok (.tuple #[.slice none 0 0, .bool false]) w := by
  obtain ⟨i0, hi, hz0⟩ := info_zero Tryz.zf_cho
  simp [Instr.typeAssert, run_underlying Tryz.underlying169, zeroValue, typeInfo, go_sem, Result.andThen, hi, hz0, ht]
theorem Tryz.zf_seq : (Tryz.prog.info? 170).map (·.zero) = some (some (.slice none 0 0)) := by kernel_rfl
theorem ok_seq (xT : TypeId) (v : Value) (w : World) : (Instr.typeAssert (.iface 170 v) xT 170 true).run Tryz.prog w = .ok (.tuple #[v, .bool true]) w := by
  simp [Instr.typeAssert, run_underlying Tryz.underlying170, go_sem, Result.andThen]
theorem ne_seq (t : TypeId) (ht : ¬ t = 170) (xT : TypeId) (v : Value) (w : World) : (Instr.typeAssert (.iface t v) xT 170 true).run Tryz.prog w = .ok (.tuple #[.slice none 0 0, .bool false]) w := by
  obtain ⟨i0, hi, hz0⟩ := info_zero Tryz.zf_seq
  simp [Instr.typeAssert, run_underlying Tryz.underlying170, zeroValue, typeInfo, go_sem, Result.andThen, hi, hz0, ht]
theorem Tryz.zf_fun : (Tryz.prog.info? 112).map (·.zero) = some (some (.agg #[.slice none 0 0, .slice none 0 0])) := by kernel_rfl
theorem ok_fun (xT : TypeId) (v : Value) (w : World) : (Instr.typeAssert (.iface 112 v) xT 112 true).run Tryz.prog w = .ok (.tuple #[v, .bool true]) w := by
  simp [Instr.typeAssert, run_underlying Tryz.underlying112, go_sem, Result.andThen]
theorem ne_fun (t : TypeId) (ht : ¬ t = 112) (xT : TypeId) (v : Value) (w : World) : (Instr.typeAssert (.iface t v) xT 112 true).run Tryz.prog w = .ok (.tuple #[.agg #[.slice none 0 0, .slice none 0 0], .bool false]) w := by
  obtain ⟨i0, hi, hz0⟩ := info_zero Tryz.zf_fun
  simp [Instr.typeAssert, run_underlying Tryz.underlying112, zeroValue, typeInfo, go_sem, Result.andThen, hi, hz0, ht]
theorem Tryz.zf_bin : (Tryz.prog.info? 180).map (·.zero) = some (some (.agg #[.slice none 0 0, .slice none 0 0, .int .i64 0])) := by kernel_rfl
theorem ok_bin (xT : TypeId) (v : Value) (w : World) : (Instr.typeAssert (.iface 180 v) xT 180 true).run Tryz.prog w = .ok (.tuple #[v, .bool true]) w := by
  simp [Instr.typeAssert, run_underlying Tryz.underlying180, go_sem, Result.andThen]
theorem ne_bin (t : TypeId) (ht : ¬ t = 180) (xT : TypeId) (v : Value) (w : World) : (Instr.typeAssert (.iface t v) xT 180 true).run Tryz.prog w = .ok (.tuple #[.agg #[.slice none 0 0, .slice none 0 0, .int .i64 0], .bool false]) w := by
  obtain ⟨i0, hi, hz0⟩ := info_zero Tryz.zf_bin
  simp [Instr.typeAssert, run_underlying Tryz.underlying180, zeroValue, typeInfo, go_sem, Result.andThen, hi, hz0, ht]
theorem Tryz.zf_cal : (Tryz.prog.info? 171).map (·.zero) = some (some (.slice none 0 0)) := by kernel_rfl
theorem ok_cal (xT : TypeId) (v : Value) (w : World) : (Instr.typeAssert (.iface 171 v) xT 171 true).run Tryz.prog w = .ok (.tuple #[v, .bool true]) w := by
  simp [Instr.typeAssert, run_underlying Tryz.underlying171, go_sem, Result.andThen]
theorem ne_cal (t : TypeId) (ht : ¬ t = 171) (xT : TypeId) (v : Value) (w : World) : (Instr.typeAssert (.iface t v) xT 171 true).run Tryz.prog w = .ok (.tuple #[.slice none 0 0, .bool false]) w := by
  obtain ⟨i0, hi, hz0⟩ := info_zero Tryz.zf_cal
  simp [Instr.typeAssert, run_underlying Tryz.underlying171, zeroValue, typeInfo, go_sem, Result.andThen, hi, hz0, ht]
set_option maxRecDepth 100000 in
set_option maxHeartbeats 12800000 in
theorem iexpr_any (xs : List Nd) (hp : poolB xs = true) (C : Nat) (num : Int) : ∀ (v : Nat), v < xs.length → ∀ f, v < f → ICE xs C num (cexp xs f) v := by
  intro v
  induction v using Nat.strongRecOn with
  | _ v ih =>
  intro hv f hf s env w h h0 hl hb
  obtain ⟨f', rfl⟩ : ∃ f', f = f' + 1 := ⟨f - 1, by omega⟩
  have hst := cexp_stay xs f'
  have hm := cexp_mono xs f'
  have HE : ∀ z : Int, (∃ n : Nat, z = n ∧ n < v) → ICE xs C num (cexp xs f') z ∧ env.length + 1 + z.toNat ≤ 3001 := by
    rintro _ ⟨n, rfl, hn⟩
    exact ⟨ih n hn (by omega) f' (by omega), by simp at hb ⊢; omega⟩
  have HC : Hid (cexp xs (f' + 1) v env s = if tellB xs (formF xs v) then cfm (cexp xs f') xs (formF xs v) env s else { s with how := 1 }) := cone_form _ hp v hv env s h0
  have hlt := formF_lt hp v
  have hin := formF_in hp v hv
  have h' := h
  obtain ⟨pv, lv, dv, fv, K⟩ := h'
  have c0 := K.cells.1
  have R := K.pool
  obtain ⟨ao, cap, rfl⟩ : ∃ ao cap, pv = .slice ao xs.length cap := by obtain ⟨ao, cap, e, _⟩ := R; exact ⟨ao, cap, e⟩
  go_enter Tryz.func126, Tryz.ntmps126
  go_wp2_with fail
  refine (iformof_any ao cap xs v _ R hp hv).mono ?_
  rintro r w1 ⟨u, rfl, hu, hb1⟩
  have I1 := h.on hb1
  have F1 := IF.of_below (C := C) hb1 (Nat.le_of_lt h.lt)
  generalize formF xs v = f at *
  generalize cexp xs f' = e at *
  clear ih K R c0
  go_wp2_with fail
  refine (iaskfm_any xs C num env _ _ f u _ I1 hu hin).mono ?_
  rintro r w2 ⟨hO, hb2⟩
  have I2 := I1.on hb2
  have F2 := F1.trans (IF.of_below (C := C) hb2 (Nat.le_of_lt I1.lt))
  replace hu := hu.below hb2
  clear F1 hb1 I1
  rcases hO.symm with ⟨ht, rfl⟩ | ⟨ht, rfl⟩
  · go_wp2_with fail
    refine ⟨rfl, ?_, F2⟩
    rw [HC.out, ht]
    exact Or.inr ⟨by simp, rfl⟩
  have HS : Hid (cexp xs (f' + 1) v env s = cfm e xs f env s) := by unfold Hid; rw [HC.out, ht]; rfl
  clear HC hb2
  have hen : env.length ≤ 3001 := by omega
  have HL : ∀ {l : List Int}, LtL v l → ∀ z ∈ l, ICE xs C num e z ∧ env.length + z.toNat ≤ 3001 := fun hl z hz => by
    obtain ⟨q1, q2⟩ := HE z (hl z hz)
    exact ⟨q1, by omega⟩
  have HL1 : ∀ {l : List Int}, LtL v l → ∀ z ∈ l, ICE xs C num e z ∧ env.length + 1 + z.toNat ≤ 3001 := fun hl z hz => HE z (hl z hz)
  cases f with
  | lit n =>
    have a0 := ok_lit
    obtain rfl : u = .iface 154 (.agg #[.int .i64 n]) := hu
    have hbA : Below w2.heap.size w2 (w2.alloc (Obj.cells #[.int .i64 n] 154)) := (Below.refl _ _).alloc (Nat.le_refl _) _
    have hxA : (w2.alloc (Obj.cells #[.int .i64 n] 154)).heap[w2.heap.size]? = some (.cells #[.int .i64 n] 154 (0, 0)) := heap_alloc_new _ _
    have IA := I2.on hbA
    have FA := F2.trans (IF.of_below hbA (Nat.le_of_lt I2.lt))
    go_wp2_with fail
    refine (iputc_any xs C num env s (ins 1 n 0) _ IA h0 hl).mono ?_
    rintro r w3 ⟨hO, F3⟩
    have FF := FA.trans F3
    rcases hO.symm with ⟨hn, rfl⟩ | ⟨q1, l1, rfl, I3⟩
    · go_wp2_with fail
      exact ⟨rfl, Out.bad hn HS.out, FF⟩
    go_wp2_with fail
    exact bodyPost_end (results_nil0 rfl _ _) rfl ⟨by rw [HS.out]; exact Or.inl ⟨q1, l1, rfl, I3⟩, FF⟩
  | men t =>
    have a0 := ne_lit 156 (by decide)
    have a1 := ok_men
    obtain rfl : u = .iface 156 (.agg #[.string t]) := hu
    have hbA : Below w2.heap.size w2 (w2.alloc (Obj.cells #[.string t] 156)) := (Below.refl _ _).alloc (Nat.le_refl _) _
    have hxA : (w2.alloc (Obj.cells #[.string t] 156)).heap[w2.heap.size]? = some (.cells #[.string t] 156 (0, 0)) := heap_alloc_new _ _
    have IA := I2.on hbA
    have FA := F2.trans (IF.of_below hbA (Nat.le_of_lt I2.lt))
    go_wp2_with fail
    refine (imeanc_any xs C num env _ _ t _ IA).mono ?_
    rintro r w4 ⟨rfl, hb4⟩
    have I4 := IA.on hb4
    have F4 := FA.trans (IF.of_below hb4 (Nat.le_of_lt IA.lt))
    go_wp2_with fail
    refine (iputc_any xs C num env s (meanR env t) _ I4 h0 hl).mono ?_
    rintro r w3 ⟨hO, F3⟩
    have FF := F4.trans F3
    rcases hO.symm with ⟨hn, rfl⟩ | ⟨q1, l1, rfl, I3⟩
    · go_wp2_with fail
      exact ⟨rfl, Out.bad hn HS.out, FF⟩
    go_wp2_with fail
    exact bodyPost_end (results_nil0 rfl _ _) rfl ⟨by rw [HS.out]; exact Or.inl ⟨q1, l1, rfl, I3⟩, FF⟩
  | quo l =>
    have a0 := ne_lit 168 (by decide)
    have a1 := ne_men 168 (by decide)
    have a2 := ok_quo
    obtain ⟨x, rfl, T⟩ := hu
    obtain ⟨a, c, rfl, _⟩ := T.form
    have ht' := of_decide_eq_true ht
    have hl1 : l.length = 1 := by omega
    obtain ⟨g, o, rfl, hg, hc⟩ := T.cell 0 (by omega)
    have hc' : w2.cell? ⟨g, o, none⟩ = some (.int .i64 (l.getD 0 0)) := hc
    obtain ⟨z, hz⟩ : ∃ z, l.getD 0 0 = z := ⟨_, rfl⟩
    rw [hz] at hc hc'
    have HS2 : Hid (cexp xs (f' + 1) v env s = s.emit (ins 1 z 0)) := by unfold Hid; rw [HS.out, ← hz]; rfl
    clear HS hz
    go_wp2_with fail
    refine (iputc_any xs C num env s (ins 1 z 0) _ I2 h0 hl).mono ?_
    rintro r w3 ⟨hO, F3⟩
    have FF := F2.trans F3
    rcases hO.symm with ⟨hn, rfl⟩ | ⟨q1, l1, rfl, I3⟩
    · go_wp2_with fail
      exact ⟨rfl, Out.bad hn HS2.out, FF⟩
    go_wp2_with fail
    exact bodyPost_end (results_nil0 rfl _ _) rfl ⟨by rw [HS2.out]; exact Or.inl ⟨q1, l1, rfl, I3⟩, FF⟩
  | cho l =>
    have a0 := ne_lit 169 (by decide)
    have a1 := ne_men 169 (by decide)
    have a2 := ne_quo 169 (by decide)
    have a3 := ok_cho
    obtain ⟨x, rfl, T⟩ := hu
    obtain ⟨a, c, rfl, _⟩ := T.form
    have ht' := of_decide_eq_true ht
    have hl3 : l.length = 3 := by omega
    obtain ⟨g, o, rfl, hg, hc0⟩ := T.cell 0 (by omega)
    have hc0' : w2.cell? ⟨g, o, none⟩ = some (.int .i64 (l.getD 0 0)) := hc0
    obtain ⟨g1, o1, e1, _, hc1⟩ := T.cell 1 (by omega)
    obtain ⟨g2, o2, e2, _, hc2⟩ := T.cell 2 (by omega)
    simp only [Option.some.injEq, Addr.mk.injEq, and_true] at e1 e2
    obtain ⟨rfl, rfl⟩ := e1
    obtain ⟨rfl, rfl⟩ := e2
    have hzz : ∀ z ∈ [l.getD 0 0, l.getD 1 0, l.getD 2 0], z ∈ l := fun z hz => by
      simp only [List.mem_cons, List.not_mem_nil, or_false] at hz
      rcases hz with rfl | rfl | rfl
      all_goals (rw [List.getD_eq_getElem?_getD, List.getElem?_eq_getElem (by omega)]; exact List.getElem_mem _)
    have HE3 : ∀ z ∈ [l.getD 0 0, l.getD 1 0, l.getD 2 0], ICE xs C num e z ∧ env.length + z.toNat ≤ 3001 := fun z hz => HL hlt z (hzz z hz)
    have HS1 : Hid (cexp xs (f' + 1) v env s = cif e (l.getD 0 0) (l.getD 1 0) (l.getD 2 0) env s) := HS
    clear HS hzz
    generalize l.getD 0 0 = z0 at *
    generalize l.getD 1 0 = z1 at *
    generalize l.getD 2 0 = z2 at *
    have ID := I2.on (below_dN w2 1)
    have FD := F2.trans (IF.of_below (below_dN w2 1) (Nat.le_of_lt I2.lt))
    by_cases hh : (cif e z0 z1 z2 env s).how = 0
    · go_wp2_with fail
      go_region_with (go_at_call 130; refine (ichoicec_any xs C num e hm hst z0 z1 z2 s env _ ID h0 hl HE3).mono ?_; rintro r w3 ⟨hO, F3⟩; rcases hO.symm with ⟨hn, _⟩ | ⟨q1, l1, rfl, I3⟩; exact absurd hh hn)
      all_goals
        go_wp2_with fail
        exact bodyPost_end (results_nil0 rfl _ _) rfl ⟨by rw [HS1.out]; exact Or.inl ⟨q1, l1, rfl, I3⟩, FD.trans F3⟩
    · go_wp2_with fail
      refine wp_region_held_drew (S := fun w' => w'.cell? ⟨g, o, none⟩ = some (.int .i64 z0) ∧ w'.cell? ⟨g, o + 1, none⟩ = some (.int .i64 z1) ∧ w'.cell? ⟨g, o + 2, none⟩ = some (.int .i64 z2)) (by kernel_rfl) ⟨hc0', hc1, hc2⟩ (fun hHeld => ?_)
      refine wpAnyH_take (i := 0) (v := .pointer (some ⟨C, 0, none⟩)) rfl (by kernel_rfl) (by kernel_rfl) (by kernel_rfl) (fun _ _ _ h => h) (Or.inl ⟨by rfl, by intro w hSw; obtain ⟨y0, y1, y2⟩ := hSw; go_simp⟩) (by assumption) ?_
      refine wpAnyH_take (i := 1) (v := .slice (some ⟨g, o, none⟩) 3 c) rfl (by kernel_rfl) (by kernel_rfl) (by kernel_rfl) (fun _ _ _ h => h) (Or.inl ⟨by rfl, by intro w hSw; obtain ⟨y0, y1, y2⟩ := hSw; go_simp⟩) (by assumption) ?_
      refine wpAnyH_take (i := 2) (v := .pointer (some ⟨g, o, none⟩)) rfl (by kernel_rfl) (by kernel_rfl) (by kernel_rfl) (fun _ _ _ h => h) (Or.inl ⟨by rfl, by intro w hSw; obtain ⟨y0, y1, y2⟩ := hSw; go_simp⟩) (by assumption) ?_
      refine wpAnyH_take (i := 3) (v := .int .i64 z0) rfl (by kernel_rfl) (by kernel_rfl) (by kernel_rfl) (fun _ _ _ h => h) (Or.inl ⟨by rfl, by intro w hSw; obtain ⟨y0, y1, y2⟩ := hSw; go_simp⟩) (by assumption) ?_
      refine wpAnyH_take (i := 4) (v := .slice (some ⟨g, o, none⟩) 3 c) rfl (by kernel_rfl) (by kernel_rfl) (by kernel_rfl) (fun _ _ _ h => h) (Or.inl ⟨by rfl, by intro w hSw; obtain ⟨y0, y1, y2⟩ := hSw; go_simp⟩) (by assumption) ?_
      refine wpAnyH_take (i := 5) (v := .pointer (some ⟨g, o + 1, none⟩)) rfl (by kernel_rfl) (by kernel_rfl) (by kernel_rfl) (fun _ _ _ h => h) (Or.inl ⟨by rfl, by intro w hSw; obtain ⟨y0, y1, y2⟩ := hSw; go_simp⟩) (by assumption) ?_
      refine wpAnyH_take (i := 6) (v := .int .i64 z1) rfl (by kernel_rfl) (by kernel_rfl) (by kernel_rfl) (fun _ _ _ h => h) (Or.inl ⟨by rfl, by intro w hSw; obtain ⟨y0, y1, y2⟩ := hSw; go_simp⟩) (by assumption) ?_
      refine wpAnyH_take (i := 7) (v := .slice (some ⟨g, o, none⟩) 3 c) rfl (by kernel_rfl) (by kernel_rfl) (by kernel_rfl) (fun _ _ _ h => h) (Or.inl ⟨by rfl, by intro w hSw; obtain ⟨y0, y1, y2⟩ := hSw; go_simp⟩) (by assumption) ?_
      refine wpAnyH_take (i := 8) (v := .pointer (some ⟨g, o + 2, none⟩)) rfl (by kernel_rfl) (by kernel_rfl) (by kernel_rfl) (fun _ _ _ h => h) (Or.inl ⟨by rfl, by intro w hSw; obtain ⟨y0, y1, y2⟩ := hSw; go_simp⟩) (by assumption) ?_
      refine wpAnyH_take (i := 9) (v := .int .i64 z2) rfl (by kernel_rfl) (by kernel_rfl) (by kernel_rfl) (fun _ _ _ h => h) (Or.inl ⟨by rfl, by intro w hSw; obtain ⟨y0, y1, y2⟩ := hSw; go_simp⟩) (by assumption) ?_
      refine wpAnyH_ready (rs := [10]) (by kernel_rfl) (by simp) ?_
      refine AllReadyH.cons rfl (fun K hK => ?_) AllReadyH.nil
      go_simp
      go_wp2_with (go_at_call 130; refine (ichoicec_any xs C num e hm hst z0 z1 z2 s env _ ID h0 hl HE3).mono ?_; rintro r w3 ⟨hO, F3⟩; rcases hO with ⟨q1, _⟩ | ⟨hn, rfl⟩; exact absurd q1 hh)
      exact ⟨rfl, Out.bad hn HS1.out, FD.trans F3⟩
  | seq l =>
    have a0 := ne_lit 170 (by decide)
    have a1 := ne_men 170 (by decide)
    have a2 := ne_quo 170 (by decide)
    have a3 := ne_cho 170 (by decide)
    have a4 := ok_seq
    obtain ⟨x, rfl, T⟩ := hu
    obtain ⟨a, c, rfl, _⟩ := T.form
    have ht' := of_decide_eq_true ht
    go_wp2_with fail
    refine (ibodyc_any xs C num e hst l _ s env _ I2 h0 hl T (HL hlt)).mono ?_
    rintro r w3 ⟨hO, F3⟩
    have FF := F2.trans F3
    rcases hO.symm with ⟨hn, rfl⟩ | ⟨q1, l1, rfl, I3⟩
    · go_wp2_with fail
      exact ⟨rfl, Out.bad hn HS.out, FF⟩
    go_wp2_with fail
    exact bodyPost_end (results_nil0 rfl _ _) rfl ⟨by rw [HS.out]; exact Or.inl ⟨q1, l1, rfl, I3⟩, FF⟩
  | fn vs bs =>
    have a0 := ne_lit 112 (by decide)
    have a1 := ne_men 112 (by decide)
    have a2 := ne_quo 112 (by decide)
    have a3 := ne_cho 112 (by decide)
    have a4 := ne_seq 112 (by decide)
    have a5 := ok_fun
    obtain ⟨x, y, rfl, T, T2⟩ := hu
    obtain ⟨a1, k1, rfl, _⟩ := T.form
    obtain ⟨a2, k2, rfl, _⟩ := T2.form
    have ht' : fnB xs vs bs = true := ht
    unfold fnB at ht'
    simp only [Bool.and_eq_true, decide_eq_true_eq] at ht'
    obtain ⟨hb0, hv4, hva⟩ := ht'
    have hbA : Below w2.heap.size w2 (w2.alloc (Obj.cells #[.slice a1 vs.length k1, .slice a2 bs.length k2] 112)) := (Below.refl _ _).alloc (Nat.le_refl _) _
    have hxA : (w2.alloc (Obj.cells #[.slice a1 vs.length k1, .slice a2 bs.length k2] 112)).heap[w2.heap.size]? = some (.cells #[.slice a1 vs.length k1, .slice a2 bs.length k2] 112 (0, 0)) := heap_alloc_new _ _
    have IA := I2.on hbA
    have FA := F2.trans (IF.of_below hbA (Nat.le_of_lt I2.lt))
    go_wp2_with fail
    refine (ifunc_any xs C num e hm hst vs bs _ _ s env _ IA h0 hl hen (T.below hbA) hin hv4 hva (T2.below hbA) (HL1 hlt.2)).mono ?_
    rintro r w3 ⟨hO, F3⟩
    have FF := FA.trans F3
    rcases hO.symm with ⟨hn, rfl⟩ | ⟨q1, l1, rfl, I3⟩
    · go_wp2_with fail
      exact ⟨rfl, Out.bad hn HS.out, FF⟩
    go_wp2_with fail
    exact bodyPost_end (results_nil0 rfl _ _) rfl ⟨by rw [HS.out]; exact Or.inl ⟨q1, l1, rfl, I3⟩, FF⟩
  | bin vs bs z =>
    have a0 := ne_lit 180 (by decide)
    have a1 := ne_men 180 (by decide)
    have a2 := ne_quo 180 (by decide)
    have a3 := ne_cho 180 (by decide)
    have a4 := ne_seq 180 (by decide)
    have a5 := ne_fun 180 (by decide)
    have a6 := ok_bin
    obtain ⟨x, y, rfl, T, T2⟩ := hu
    obtain ⟨a1, k1, rfl, _⟩ := T.form
    obtain ⟨a2, k2, rfl, _⟩ := T2.form
    have ht' : fnB xs vs bs = true := ht
    unfold fnB at ht'
    simp only [Bool.and_eq_true, decide_eq_true_eq] at ht'
    obtain ⟨hb0, hv4, hva⟩ := ht'
    have hbA : Below w2.heap.size w2 (w2.alloc (Obj.cells #[.slice a1 vs.length k1, .slice a2 bs.length k2, .int .i64 z] 180)) := (Below.refl _ _).alloc (Nat.le_refl _) _
    have hxA : (w2.alloc (Obj.cells #[.slice a1 vs.length k1, .slice a2 bs.length k2, .int .i64 z] 180)).heap[w2.heap.size]? = some (.cells #[.slice a1 vs.length k1, .slice a2 bs.length k2, .int .i64 z] 180 (0, 0)) := heap_alloc_new _ _
    have IA := I2.on hbA
    have FA := F2.trans (IF.of_below hbA (Nat.le_of_lt I2.lt))
    have b0 := cell_of_row _ _ 0 _ _ _ hxA
    have b1 := cell_of_row _ _ 1 _ _ _ hxA
    have HS1 : Hid (cexp xs (f' + 1) v env s = (e z env (cnames e xs vs bs env s)).emit (ins 7 0 1)) := HS
    clear HS
    go_wp2_with fail
    refine (ifunc_any xs C num e hm hst vs bs _ _ s env _ IA h0 hl hen (T.below hbA) hin hv4 hva (T2.below hbA) (HL1 hlt.2.1)).mono ?_
    rintro r w4 ⟨hO, F4⟩
    rcases hO.symm with ⟨hn, rfl⟩ | ⟨q1, l1, rfl, I4⟩
    · go_wp2_with fail
      exact ⟨rfl, Out.bad hn (HS1.out.trans (by rw [hst _ _ _ hn, emit_stay _ _ hn])), FA.trans F4⟩
    have hx4 := F4.keep _ _ _ _ hxA (by have := I2.lt; omega) (by decide) (by decide) (by decide)
    have b2 := cell_of_row _ _ 2 _ _ _ hx4
    have FB := FA.trans F4
    generalize cnames e xs vs bs env s = s1 at *
    clear hxA IA FA F4 b0 b1
    go_wp2_with fail
    obtain ⟨ez, bz⟩ := HL hlt.2.2 z (by simp)
    refine (ez s1 env _ I4 q1 l1 bz).mono ?_
    rintro r w5 ⟨hO, F5⟩
    rcases hO.symm with ⟨hn, rfl⟩ | ⟨q2, l2, rfl, I5⟩
    · go_wp2_with fail
      exact ⟨rfl, Out.bad hn (HS1.out.trans (by rw [emit_stay _ _ hn])), FB.trans F5⟩
    go_wp2_with fail
    refine (iputc_any xs C num env _ (ins 7 0 1) _ I5 q2 l2).mono ?_
    rintro r w3 ⟨hO, F3⟩
    have FF := (FB.trans F5).trans F3
    rcases hO.symm with ⟨hn, rfl⟩ | ⟨q1, l1, rfl, I3⟩
    · go_wp2_with fail
      exact ⟨rfl, Out.bad hn HS1.out, FF⟩
    go_wp2_with fail
    exact bodyPost_end (results_nil0 rfl _ _) rfl ⟨by rw [HS1.out]; exact Or.inl ⟨q1, l1, rfl, I3⟩, FF⟩
  | cal l =>
    have a0 := ne_lit 171 (by decide)
    have a1 := ne_men 171 (by decide)
    have a2 := ne_quo 171 (by decide)
    have a3 := ne_cho 171 (by decide)
    have a4 := ne_seq 171 (by decide)
    have a5 := ne_fun 171 (by decide)
    have a6 := ne_bin 171 (by decide)
    have a7 := ok_cal
    obtain ⟨x, rfl, T⟩ := hu
    obtain ⟨a, c, rfl, _⟩ := T.form
    have ht' := of_decide_eq_true ht
    go_wp2_with fail
    refine (icallc_any xs C num e hst l _ s env _ I2 h0 hl T (HL hlt)).mono ?_
    rintro r w3 ⟨hO, F3⟩
    have FF := F2.trans F3
    rcases hO.symm with ⟨hn, rfl⟩ | ⟨q1, l1, rfl, I3⟩
    · go_wp2_with fail
      exact ⟨rfl, Out.bad hn HS.out, FF⟩
    go_wp2_with fail
    exact bodyPost_end (results_nil0 rfl _ _) rfl ⟨by rw [HS.out]; exact Or.inl ⟨q1, l1, rfl, I3⟩, FF⟩
  | defn t vs bs =>
    have a0 := ne_lit 114 (by decide)
    have a1 := ne_men 114 (by decide)
    have a2 := ne_quo 114 (by decide)
    have a3 := ne_cho 114 (by decide)
    have a4 := ne_seq 114 (by decide)
    have a5 := ne_fun 114 (by decide)
    have a6 := ne_bin 114 (by decide)
    have a7 := ne_cal 114 (by decide)
    obtain ⟨x, y, rfl, T, T2⟩ := hu
    obtain ⟨_, _, _, K2⟩ := show ∃ p q r, ∃ fv, IC xs C w2 num env p q r fv s.list s.defs from I2
    obtain ⟨fv2, K2⟩ := K2
    have c3 := K2.cells.2.2.2.1
    go_wp2_with fail
    refine (icwrong_any C 1 num _ c3).mono ?_
    rintro r w3 ⟨rfl, rfl⟩
    go_wp2_with fail
    refine ⟨rfl, ?_, F2⟩
    rw [HS.out]
    exact Or.inr ⟨by simp [cfm], rfl⟩
  | stray =>
    exact absurd ht (by simp [tellB])
end Go.Proofs.YtkchakcebdenjaaGreat
