/-
  Texts that stood by themselves, laid into one.
-/
import Derived.Test.YtpkpednemkagiaaRdr8M
import Derived.Deep.MidRow
import Derived.Deep.RegionHeld3
import Derived.Test.YtpkpednemkagiaaMlMM
import Derived.Test.YtpkpednemkagiaaS12tM
import Derived.Test.YtpkpednemkagiaaShapeM
/-
  Helpers for regions that draw their order and load whole structs. Nothing of the program; no condition.
-/
namespace Go.Proofs.Ytpkpednemkagiaa
open Go.RowKit

/-- A whole struct's load yields in every world in which its block is so. -/
theorem yields_row {P : Program} {ops : Array Oper} {S : World → Prop} {op : Oper} {a : Act} (hw : Region.wanted op (yielded ops a.tmps) = true) (ty : TypeId) (x : Operand) (ho : op.op = .load ty x)
    (b : Nat) (hx : a.eval x = .pointer (some ⟨b, 0, none⟩)) (cs : Array Value) (t : TypeId) (d : TypeDesc) (hS : ∀ w, S w → w.heap[b]? = some (.cells cs t (0, 0)))
    (hu : P.underlying ty = some d) (hd : d.isRow = true) (hi : (P.info? ty).map (·.size) = some cs.size) : YieldsIf P ops S op (.agg cs) a := by
  have h := yieldsIf_load_mid (P := P) (ops := ops) (S := S) (op := op) (a := a) hw ty x ho b 0 hx cs.toList d (fun w hw' => by
    have hr := World.rangeAt_of_block (hS w hw') 0 cs.size
    simpa using hr) hu hd (by simpa using hi)
  simpa using h

theorem own_other {w w' : World} {B k n g : Nat} {e : TypeId} {v : Value} {l : List Value} (h : w.ownsRow B e k v n l) (hg : v.ownBlock ≠ some g) (hb : ∀ j, j ≠ g → w'.heap[j]? = w.heap[j]?) : w'.ownsRow B e k v n l := by
  refine ⟨h.1, ?_⟩
  rcases h.2 with ⟨rfl, h0⟩ | ⟨gg, cap, cur, rfl, hB, hgg, hr⟩
  · exact Or.inl ⟨rfl, h0⟩
  · exact Or.inr ⟨gg, cap, cur, rfl, hB, (hb gg (fun e => hg (by rw [e]; rfl))).trans hgg, hr⟩
theorem drew_bel (w : World) : Below w.heap.size w w.drew := (Below.refl _ _).drew
theorem alloc_bel (w : World) (o : Obj) : Below w.heap.size w (w.alloc o) := (Below.refl _ _).alloc (Nat.le_refl _) _
theorem blk_lt {w : World} {b : Nat} {o : Obj} (h : w.heap[b]? = some o) : b < w.heap.size := (Array.getElem?_eq_some_iff.1 h).1
theorem blk_bel {w w' : World} {b : Nat} {o : Obj} (h : w.heap[b]? = some o) (hb : Below w.heap.size w w') : w'.heap[b]? = some o := (hb.block _ (blk_lt h)).trans h
end Go.Proofs.Ytpkpednemkagiaa

/-
  The contract of spec.MailRead. No condition but bounds.
-/
namespace Go.Proofs.Ytpkpednemkagiaa
open Go.RowKit

theorem mEnd_txt {zs : List Int} {k p a : Int} {t : ByteArray} {n : Int} {ok : Bool} (h : txt8 zs a true = (t, n, ok)) : mEnd zs k p a = if ok = true ∧ n = zs.length then some (k, p, t) else none := by
  unfold mEnd
  rw [rt_txt8] at h
  cases hr : rt zs a with
  | none =>
    rw [hr] at h
    simp only [Prod.mk.injEq] at h
    obtain ⟨_, _, rfl⟩ := h
    simp
  | some q =>
    rw [hr] at h
    simp only [Prod.mk.injEq] at h
    obtain ⟨rfl, rfl, rfl⟩ := h
    simp

set_option maxRecDepth 100000 in
set_option maxHeartbeats 6400000 in
theorem smailr_any (s : ByteArray) (w : World) (hs : s.size ≤ 1048576) :
    Calls Try.prog 5 #[.string s] w fun e w' => e = .returned (mrA (mrd (sb s))) ∧ Below w.heap.size w w' := by
  have hsl := sb_length s
  go_enter Try.func5, Try.ntmps5
  go_wp2_with (first
    | (refine wpList_bytes8 _ rfl _ 9 25 5 rfl Try.underlying9 Try.underlying25 Try.underlying5 s rfl ?_; intro cap w2 g0 g1 g2 g3))
  have RR := row_of_bytes (w := w) (by omega) g0 g1 g3
  have hB : Below w.heap.size w w2 := (Below.refl _ w).grown g2 (Nat.le_refl _) (fun k hk => by cases hk)
  clear g1 g2 g0
  have hb := alloc_bel w2 (Obj.cells #[.slice (some ⟨w.heap.size, 0, none⟩) s.size cap, .int .i64 0, .bool true] 34)
  have hC : C8 (w2.alloc (Obj.cells #[.slice (some ⟨w.heap.size, 0, none⟩) s.size cap, .int .i64 0, .bool true] 34)) w2.heap.size (.slice (some ⟨w.heap.size, 0, none⟩) s.size cap) 0 true := heap_alloc_new _ _
  have hW : Below w2.heap.size w2 (w2.alloc (Obj.cells #[.slice (some ⟨w.heap.size, 0, none⟩) s.size cap, .int .i64 0, .bool true] 34)) := hb
  replace hB := hB.trans (hb.mono hB.size)
  clear hb
  obtain ⟨u0, hu0⟩ : ∃ u, w2.alloc (Obj.cells #[.slice (some ⟨w.heap.size, 0, none⟩) s.size cap, .int .i64 0, .bool true] 34) = u := ⟨_, rfl⟩
  rw [hu0] at hC hW hB ⊢
  clear hu0
  obtain ⟨V, hV⟩ : ∃ V, V = (Value.slice (some ⟨w.heap.size, 0, none⟩) s.size cap) := ⟨_, rfl⟩
  rw [← hV] at hC RR
  clear hV
  have HN := s8num_any w2.heap.size V (sb s) 0 true u0 (RR.below hW) hC (by omega) (by omega)
  have hm1 := num8_range (sb s) 0 true (by omega) (by omega)
  have HM : Hid (mrd (sb s) = (rd1 (sb s) 0).bind fun k => if k.1 = 1 then (rd1 (sb s) k.2).bind fun p => mEnd (sb s) 1 p.1 p.2 else if k.1 = 2 then mEnd (sb s) 2 0 k.2 else none) := rfl
  have hR := rd1_num8 (sb s) 0
  obtain ⟨nn, N1⟩ : ∃ n, num8 (sb s) 0 true = n := ⟨_, rfl⟩
  obtain ⟨k, a1, k1⟩ := nn
  rw [N1] at HN hm1 hR
  simp only at HN hm1 hR
  obtain ⟨_, _, m13, m14⟩ := hm1
  have HK : Hid ((k1 = true → rd1 (sb s) 0 = some (k, a1)) ∧ (k1 = false → rd1 (sb s) 0 = none ∧ k = 0)) := by
    cases h : rd1 (sb s) 0 with
    | none =>
      have e := num8_none h
      rw [e] at N1
      cases N1
      exact ⟨fun h => (by cases h), fun _ => ⟨rfl, rfl⟩⟩
    | some q =>
      have e := hR.2 q h
      simp only [Prod.mk.injEq] at e
      obtain ⟨rfl, rfl, rfl⟩ := e
      exact ⟨fun _ => rfl, fun h => by cases h⟩
  clear N1 hR
  refine HN.mono ?_
  rintro e u1 ⟨rfl, hC, g⟩
  replace hB := hB.grown g hB.size (fun k hk => by cases hk; exact Nat.le_of_lt g3)
  replace hW := hW.grown g hW.size (fun k hk => by cases hk; omega)
  clear HN g
  have fin : ∀ (p a2 : Int) (k2 : Bool) (u : World), 0 ≤ a2 → a2 ≤ (sb s).length → C8 u w2.heap.size V a2 k2 → Below w.heap.size w u → Below w2.heap.size w2 u → (k2 = true → mrd (sb s) = if 1 ≤ k ∧ k ≤ 2 then mEnd (sb s) k p a2 else none) → (k2 = false → mrd (sb s) = none) → True := fun _ _ _ _ _ _ _ _ _ _ _ => trivial
  by_cases h1 : k = 1
  · subst h1
    obtain rfl : k1 = true := by
      cases k1 with
      | true => rfl
      | false => exact absurd (HK.out.2 rfl).2 (by decide)
    have e0 := HK.out.1 rfl
    have HN := s8num_any w2.heap.size V (sb s) a1 true u1 (RR.below hW) hC (by omega) (by omega)
    have hm1 := num8_range (sb s) a1 true m13 m14
    have hR := rd1_num8 (sb s) a1
    obtain ⟨nn, N1⟩ : ∃ n, num8 (sb s) a1 true = n := ⟨_, rfl⟩
    obtain ⟨p, a2, k2⟩ := nn
    rw [N1] at HN hm1 hR
    simp only at HN hm1 hR
    obtain ⟨_, _, m23, m24⟩ := hm1
    have HP : Hid ((k2 = true → mrd (sb s) = mEnd (sb s) 1 p a2) ∧ (k2 = false → mrd (sb s) = none)) := by
      unfold Hid
      rw [HM.out, e0]
      simp only [Option.bind_some, if_pos]
      cases h : rd1 (sb s) a1 with
      | none =>
        have e := num8_none h
        rw [e] at N1
        cases N1
        exact ⟨fun h => (by cases h), fun _ => rfl⟩
      | some q =>
        have e := hR.2 q h
        simp only [Prod.mk.injEq] at e
        obtain ⟨rfl, rfl, rfl⟩ := e
        exact ⟨fun _ => rfl, fun h => by cases h⟩
    clear N1 hR HM HK e0
    go_wp2_with fail
    refine HN.mono ?_
    rintro e u2 ⟨rfl, hC, g⟩
    replace hB := hB.grown g hB.size (fun k hk => by cases hk; exact Nat.le_of_lt g3)
    replace hW := hW.grown g hW.size (fun k hk => by cases hk; omega)
    clear HN g fin
    have HT := s12rt_any w2.heap.size V (sb s) a2 k2 u2 (RR.below hW) hC (by omega) (by omega)
    obtain ⟨nn, N3⟩ : ∃ n, txt8 (sb s) a2 k2 = n := ⟨_, rfl⟩
    obtain ⟨t, a3, k3⟩ := nn
    rw [N3] at HT
    simp only at HT
    have HE : Hid (mrd (sb s) = if k3 = true ∧ a3 = s.size then some (1, p, t) else none) := by
      unfold Hid
      cases k2 with
      | false => rw [txt8_false] at N3; cases N3; rw [HP.out.2 rfl]; simp
      | true => rw [HP.out.1 rfl, mEnd_txt N3, hsl]
    clear N3 HP
    go_wp2_with fail
    refine HT.mono ?_
    rintro e u3 ⟨rfl, hC, g⟩
    replace hB := hB.grown g hB.size (fun k hk => by cases hk; exact Nat.le_of_lt g3)
    clear HT g
    unfold C8 at hC
    have x1 : u3.cell? ⟨w2.heap.size, 1, none⟩ = some (.int .i64 a3) := cell_of_row _ _ 1 _ _ _ hC
    have x2 : u3.cell? ⟨w2.heap.size, 2, none⟩ = some (.bool k3) := cell_of_row _ _ 2 _ _ _ hC
    cases k3 with
    | false =>
      have HE2 : Hid (mrd (sb s) = none) := by unfold Hid; rw [HE.out]; simp
      clear HE
      go_wp2
      (try simp only [Exit.inBlock, Exit.then])
      refine bodyPost_ret (results_tmp4 rfl _ _ _) rfl ?_
      exact ⟨by rw [HE2.out]; rfl, hB⟩
    | true =>
      by_cases h3 : a3 = s.size
      · have HE2 : Hid (mrd (sb s) = some (1, p, t)) := by unfold Hid; rw [HE.out]; simp [h3]
        clear HE
        subst h3
        go_wp2_with fail
        refine (lin_any _ _ _ _).mono ?_
        rintro e u4 ⟨rfl, rfl⟩
        go_wp2
        (try simp only [Exit.inBlock, Exit.then])
        refine bodyPost_ret (results_tmp4 rfl _ _ _) rfl ?_
        exact ⟨by rw [HE2.out]; rfl, hB⟩
      · have HE2 : Hid (mrd (sb s) = none) := by unfold Hid; rw [HE.out]; simp [h3]
        clear HE
        go_wp2
        (try simp only [Exit.inBlock, Exit.then])
        refine bodyPost_ret (results_tmp4 rfl _ _ _) rfl ?_
        exact ⟨by rw [HE2.out]; rfl, hB⟩
  · clear fin
    have HT := s12rt_any w2.heap.size V (sb s) a1 k1 u1 (RR.below hW) hC (by omega) (by omega)
    obtain ⟨nn, N3⟩ : ∃ n, txt8 (sb s) a1 k1 = n := ⟨_, rfl⟩
    obtain ⟨t, a3, k3⟩ := nn
    rw [N3] at HT
    simp only at HT
    have HE : Hid (mrd (sb s) = if k3 = true ∧ a3 = s.size ∧ k = 2 then some (2, 0, t) else none) := by
      unfold Hid
      cases k1 with
      | false => rw [txt8_false] at N3; cases N3; rw [HM.out, (HK.out.2 rfl).1]; simp
      | true =>
        rw [HM.out, HK.out.1 rfl]
        simp only [Option.bind_some, if_neg h1]
        by_cases h2 : k = 2
        · rw [if_pos h2, mEnd_txt N3, hsl]; simp [h2]
        · rw [if_neg h2]; simp [h2]
    clear N3 HM HK
    go_wp2_with fail
    refine HT.mono ?_
    rintro e u3 ⟨rfl, hC, g⟩
    replace hB := hB.grown g hB.size (fun k hk => by cases hk; exact Nat.le_of_lt g3)
    clear HT g
    unfold C8 at hC
    have x1 : u3.cell? ⟨w2.heap.size, 1, none⟩ = some (.int .i64 a3) := cell_of_row _ _ 1 _ _ _ hC
    have x2 : u3.cell? ⟨w2.heap.size, 2, none⟩ = some (.bool k3) := cell_of_row _ _ 2 _ _ _ hC
    cases k3 with
    | false =>
      have HE2 : Hid (mrd (sb s) = none) := by unfold Hid; rw [HE.out]; simp
      clear HE
      go_wp2
      (try simp only [Exit.inBlock, Exit.then])
      refine bodyPost_ret (results_tmp4 rfl _ _ _) rfl ?_
      exact ⟨by rw [HE2.out]; rfl, hB⟩
    | true =>
      by_cases h3 : a3 = s.size
      · by_cases h2 : k = 2
        · have HE2 : Hid (mrd (sb s) = some (2, 0, t)) := by unfold Hid; rw [HE.out]; simp [h3, h2]
          clear HE
          subst h3
          subst h2
          go_wp2_with fail
          refine (lin_any _ _ _ _).mono ?_
          rintro e u4 ⟨rfl, rfl⟩
          go_wp2
          (try simp only [Exit.inBlock, Exit.then])
          refine bodyPost_ret (results_tmp4 rfl _ _ _) rfl ?_
          exact ⟨by rw [HE2.out]; rfl, hB⟩
        · have HE2 : Hid (mrd (sb s) = none) := by unfold Hid; rw [HE.out]; simp [h2]
          clear HE
          subst h3
          have hi : (decide (1 ≤ k) && decide (k ≤ 2)) = false := by simp; omega
          go_wp2_with fail
          refine (lin_any _ _ _ _).mono ?_
          rintro e u4 ⟨rfl, rfl⟩
          rw [hi]
          go_wp2
          (try simp only [Exit.inBlock, Exit.then])
          refine bodyPost_ret (results_tmp4 rfl _ _ _) rfl ?_
          exact ⟨by rw [HE2.out]; rfl, hB⟩
      · have HE2 : Hid (mrd (sb s) = none) := by unfold Hid; rw [HE.out]; simp [h3]
        clear HE
        go_wp2
        (try simp only [Exit.inBlock, Exit.then])
        refine bodyPost_ret (results_tmp4 rfl _ _ _) rfl ?_
        exact ⟨by rw [HE2.out]; rfl, hB⟩
end Go.Proofs.Ytpkpednemkagiaa
