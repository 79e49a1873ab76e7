/-
  Contract of a window's sorted: what is held still, in order. No condition but small numbers.
-/
import Derived.Test.YtgjebgdingahjaaWLook
import Derived.Test.YtgjebgdingahjaaLkShowM
import Derived.Test.YtgjebgdingahjaaWith
namespace Go.Proofs.Ytgjebgdingahjaa
open Go.RowKit Go.Maps

/-- The piece of a number. -/
def look (ps : List Pc) (x : Int) : Option Pc := ps.find? (fun p => p.n == x)
theorem look_some {ps : List Pc} {x : Int} {p : Pc} (h : look ps x = some p) : p ∈ ps ∧ p.n = x := by
  unfold look at h
  exact ⟨List.mem_of_find?_eq_some h, by simpa using List.find?_some h⟩
theorem look_none {ps : List Pc} {x : Int} (h : look ps x = none) : ∀ p ∈ ps, p.n ≠ x := by
  unfold look at h
  rw [List.find?_eq_none] at h
  intro p hp e
  exact h p hp (by simpa using e)
/-- The pieces of the numbers ns, in their order. -/
def srt (ps : List Pc) (ns : List Int) : List Pc := ns.filterMap (look ps)
theorem srt_at (ps : List Pc) (ns : List Int) (j : Nat) (x : Int) (h : ns[j]? = some x) : srt ps (ns.take (j + 1)) = srt ps (ns.take j) ++ (look ps x).toList := by
  obtain ⟨hl, rfl⟩ := List.getElem?_eq_some_iff.1 h
  unfold srt
  rw [List.take_succ_eq_append_getElem hl, List.filterMap_append]
  congr 1
theorem srt_len (ps : List Pc) (ns : List Int) : (srt ps ns).length ≤ ns.length := List.length_filterMap_le _ _
theorem look_mem {ps : List Pc} (ha : Asc ps) {p : Pc} (hp : p ∈ ps) : look ps p.n = some p := by
  induction ps with
  | nil => simp at hp
  | cons q qs ih =>
    have hq := List.pairwise_cons.1 ha
    unfold look
    rw [List.find?_cons]
    rcases List.mem_cons.1 hp with rfl | hp
    · simp
    · have := hq.1 p hp
      have hne : (q.n == p.n) = false := by simp; omega
      rw [hne]
      exact ih hq.2 hp
theorem srt_self {ps : List Pc} (ha : Asc ps) : ∀ qs : List Pc, (∀ q ∈ qs, q ∈ ps) → srt ps (qs.map (·.n)) = qs := by
  intro qs
  induction qs with
  | nil => intro _; rfl
  | cons q qs ih =>
    intro h
    have hq := look_mem ha (h q List.mem_cons_self)
    have := ih (fun y hy => h y (List.mem_cons_of_mem _ hy))
    unfold srt at this ⊢
    rw [List.map_cons, List.filterMap_cons, hq]
    simp only [this]
theorem srt_all {ps : List Pc} {ns gone : List Int} (ha : Asc ps) (hn : ns = gone ++ ps.map (·.n)) (hg : ∀ x ∈ gone, ∀ p ∈ ps, p.n ≠ x) : srt ps ns = ps := by
  subst hn
  have h1 : srt ps gone = [] := by
    unfold srt
    rw [List.filterMap_eq_nil_iff]
    intro x hx
    cases hl : look ps x with
    | none => rfl
    | some p =>
      obtain ⟨hp, e⟩ := look_some hl
      exact absurd e (hg x hx p hp)
  have h2 := srt_self ha ps (fun q hq => hq)
  unfold srt at h1 h2 ⊢
  rw [List.filterMap_append, h1, h2]
  rfl

set_option maxRecDepth 100000 in
set_option maxHeartbeats 1600000 in
theorem wsorted_any (w : World) (B bw : Nat) (next below : Int) (v : Value) (mb n : Nat) (ns : List Int) (ps : List Pc) (W : WS w B bw next below v mb n ns ps) (HN : Hid (∃ gone : List Int, ns = gone ++ ps.map (·.n) ∧ ∀ x ∈ gone, ∀ p ∈ ps, p.n ≠ x)) (ha : Asc ps) (hlen : ns.length ≤ 1000) (HR : Hid (∀ x ∈ ns, 0 ≤ x ∧ x ≤ 1000000)) (hz : ∀ p ∈ ps, p.s.size ≤ maxLen) :
    Calls Try.prog 17 #[.pointer (some ⟨bw, 0, none⟩)] w fun e w' => ∃ u, e = .returned u ∧ w'.ownsRow w.heap.size 36 2 u ps.length (pccs ps) ∧ Below w.heap.size w w' := by
  obtain ⟨i0, hi, hz0, hz1, hz2⟩ := info_parts Try.infoPc
  have hbw := W.lt
  obtain ⟨ao, cap, rfl⟩ := own_form W.row
  have hB0 : Below w.heap.size w (w.alloc (Obj.cells #[] 36)) := (Below.refl _ _).alloc (Nat.le_refl _) _
  have own0 := own_none0 w 36 2 w.heap.size (Nat.le_refl _)
  have W0 := W.kept hB0
  have c2 := cell_of_row _ _ 2 _ _ _ W0.box
  simp only [List.getElem?_toArray, List.getElem?_cons_zero, List.getElem?_cons_succ] at c2
  clear W0
  go_enter Try.func17, Try.ntmps17
  go_wp2
  go_loopw [3, 14] (fun p q wr => ∃ j : Nat, j ≤ ns.length ∧ q = .int .i64 j ∧ wr.ownsRow w.heap.size 36 2 p (srt ps (ns.take j)).length (pccs (srt ps (ns.take j))) ∧ Below w.heap.size w wr) (fun _ q _ => ns.length - (intOf q).toNat)
  case atStart => exact ⟨0, by omega, rfl, own0, hB0⟩
  case round =>
    clear own0 hB0 c2
    obtain ⟨j, hj, rfl, hown, hb⟩ := hrel
    by_cases hlt : j < ns.length
    · have Wr := W.kept hb
      obtain ⟨x, hx⟩ : ∃ x, ns[j]? = some x := ⟨ns[j], by simp [hlt]⟩
      obtain ⟨hx0, hx1⟩ := HR.out x (List.mem_of_getElem? hx)
      obtain ⟨D, hD, hM⟩ := Wr.map
      have hbr := Nat.lt_of_lt_of_le hbw hb.size
      have c3 := cell_of_row _ _ 3 _ _ _ Wr.box
      simp only [List.getElem?_toArray, List.getElem?_cons_zero, List.getElem?_cons_succ] at c3
      rcases Wr.row.2 with ⟨e, h0⟩ | ⟨g, cg, cur, e, _, _⟩
      · omega
      simp only [Value.slice.injEq, true_and] at e
      obtain ⟨rfl, rfl⟩ := e
      have cj := Wr.row.cellAt j (by omega)
      have ej : (nv ns)[j]? = some (.int .i64 x) := by unfold nv; rw [List.getElem?_map, hx]; rfl
      rw [ej] at cj
      have hL := srt_len ps (ns.take j)
      have hL2 : (srt ps (ns.take j)).length ≤ 1000 := by simp at hL; omega
      have HE : Hid (srt ps (ns.take (j + 1)) = srt ps (ns.take j) ++ (look ps x).toList) := srt_at ps ns j x hx
      obtain ⟨ap, cp, hpv⟩ := own_form hown
      subst hpv
      clear hL ej hx
      cases hlk : look ps x with
      | none =>
        have hrun := look_no hD hM (look_none hlk) hx0 hx1
        have own2 : (wr.alloc (Obj.cells #[.int .i64 0, .string ⟨#[]⟩] 36)).ownsRow w.heap.size 36 2 (.slice ap (srt ps (ns.take j)).length cp) (srt ps (ns.take (j + 1))).length (pccs (srt ps (ns.take (j + 1)))) := by
          rw [HE.out, hlk]
          simpa using hown.alloc _
        have hBn := hb.alloc hb.size (Obj.cells #[.int .i64 0, .string ⟨#[]⟩] 36)
        clear hown HE hM hD Wr
        go_wp2
        go_roundw
        case rel => exact ⟨j + 1, by omega, by go_num, own2, hBn⟩
        case measure => simp [intOf]; omega
      | some p =>
        obtain ⟨hp, hpx⟩ := look_some hlk
        have hrun := look_yes hD hM hp (by omega) (by omega)
        rw [hpx] at hrun
        have hps := hz p hp
        have own1 := hown.alloc (Obj.cells #[.int .i64 x, .string p.s] 36)
        have hBn := hb.alloc hb.size (Obj.cells #[.int .i64 x, .string p.s] 36)
        have L0 := PcRow.lit1 (wr.alloc (Obj.cells #[.int .i64 x, .string p.s] 36)) ⟨x, p.s⟩ hps
        have hsa : (wr.alloc (Obj.cells #[.int .i64 x, .string p.s] 36)).heap.size = wr.heap.size + 1 := by simp
        have L1 : PcRow ((wr.alloc (Obj.cells #[.int .i64 x, .string p.s] 36)).alloc (Obj.cells #[.int .i64 x, .string p.s] 36)) (.slice (some ⟨wr.heap.size + 1, 0, none⟩) 1 1) [⟨x, p.s⟩] := by rw [← hsa]; exact L0
        clear L0 hsa
        have HC : Hid (srt ps (ns.take (j + 1)) = srt ps (ns.take j) ++ [⟨x, p.s⟩]) := by
          unfold Hid
          rw [HE.out, hlk, ← hpx]
          rfl
        clear hown HE hM hD Wr hlk
        generalize srt ps (ns.take j) = L at *
        go_wp2_with (at_builtin; refine wpList_append_own_any _ rfl _ _ 25 rfl w.heap.size 36 i0 _ 2 24 Try.underlying25 hi hz0 hz1 hz2 rfl (by decide) _ _ _ rfl (own1.alloc _) (some ⟨wr.heap.size + 1, 0, none⟩) 1 1 (pccs [⟨x, p.s⟩]) rfl rfl L1.nilcap L1.cells (pccs_one _) (by unfold maxLen; omega) (by omega) (by have := hb.size; simp; omega) ?_)
        intro u4 w4 o4 hg4
        have hB4 : Below w.heap.size w w4 := (hBn.alloc hBn.size _).grown hg4 (by have := hb.size; simp; omega) (fun k hk => (own1.lt k hk).1)
        have o4' : w4.ownsRow w.heap.size 36 2 u4 (srt ps (ns.take (j + 1))).length (pccs (srt ps (ns.take (j + 1)))) := by rw [HC.out, pccs_append, List.length_append]; exact o4
        clear hg4 o4 own1 hBn L1 HC
        go_wp2
        go_roundw
        case rel => exact ⟨j + 1, by omega, by go_num, o4', hB4⟩
        case measure => simp [intOf]; omega
    · have hjj : j = ns.length := by omega
      subst hjj
      rw [List.take_length] at hown
      obtain ⟨gone, h1, h2⟩ := HN.out
      rw [srt_all ha h1 h2] at hown
      clear W HR HN
      go_wp2
      go_ret
      exact ⟨_, rfl, hown, hb⟩
end Go.Proofs.Ytgjebgdingahjaa
