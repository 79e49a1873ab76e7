/-
  What passes a window, one behind the other; what is known while LinkTake runs. No condition.
-/
import Derived.Test.YtgjebgdingahjaaWHeld
import Derived.Test.YtgjebgdingahjaaWSorted
namespace Go.Proofs.Ytgjebgdingahjaa
open Go.RowKit Go.Maps

/-- What has passed is out; what will is what passes of qs from g on. -/
def UpIs (g0 : Int) (PS : List Pc) (out : List ByteArray) (g : Int) (qs : List Pc) : Prop := upGo g0 PS = (out ++ (upGo g qs).1, (upGo g qs).2.1, (upGo g qs).2.2)
theorem UpIs.start (g0 : Int) (PS : List Pc) : UpIs g0 PS [] g0 PS := rfl
theorem UpIs.step {g0 : Int} {PS : List Pc} {out : List ByteArray} {g : Int} {z : Pc} {qs : List Pc} (h : UpIs g0 PS out g (z :: qs)) (hz : z.n = g) : UpIs g0 PS (out ++ [z.s]) (g + 1) qs := by
  unfold UpIs at h ⊢
  rw [h]
  simp only [upGo, if_pos hz, List.append_assoc, List.singleton_append]
theorem UpIs.fin {g0 : Int} {PS : List Pc} {out : List ByteArray} {g : Int} {qs : List Pc} (h : UpIs g0 PS out g qs) (hz : ∀ z ∈ qs, z.n ≠ g) : upGo g0 PS = (out, g, qs) := by
  unfold UpIs at h
  rw [h]
  cases qs with
  | nil => simp [upGo]
  | cons z qs => simp [upGo, if_neg (hz z List.mem_cons_self)]
/-- What is held still, and the numbers. -/
def QOk (E g : Int) (ns : List Int) (qs : List Pc) : Prop := Asc qs ∧ (∀ z ∈ qs, g ≤ z.n ∧ z.n < E ∧ z.s.size ≤ maxLen) ∧ 0 ≤ g ∧ g ≤ 100000 ∧ ∃ gone : List Int, ns = gone ++ qs.map (·.n) ∧ ∀ x ∈ gone, 0 ≤ x ∧ x < g
theorem QOk.sorted {E g : Int} {ns : List Int} {qs : List Pc} (h : QOk E g ns qs) (hE : E ≤ 100000) : (∃ gone : List Int, ns = gone ++ qs.map (·.n) ∧ ∀ x ∈ gone, ∀ p ∈ qs, p.n ≠ x) ∧ (∀ x ∈ ns, 0 ≤ x ∧ x ≤ 1000000) := by
  obtain ⟨_, h2, h3, h4, gone, h5, h6⟩ := h
  refine ⟨⟨gone, h5, fun x hx p hp => ?_⟩, fun x hx => ?_⟩
  · have := h6 x hx
    have := h2 p hp
    omega
  · rw [h5] at hx
    rcases List.mem_append.1 hx with hx | hx
    · have := h6 x hx
      omega
    · simp only [List.mem_map] at hx
      obtain ⟨p, hp, rfl⟩ := hx
      have := h2 p hp
      omega
theorem QOk.step {E : Int} {ns : List Int} {z : Pc} {qs : List Pc} (h : QOk E z.n ns (z :: qs)) (hE : E ≤ 100000) : QOk E (z.n + 1) ns qs := by
  obtain ⟨h1, h2, h3, h4, gone, h5, h6⟩ := h
  have hp := List.pairwise_cons.1 h1
  refine ⟨hp.2, fun y hy => ?_, by omega, ?_, gone ++ [z.n], by rw [h5]; simp, fun x hx => ?_⟩
  · have := hp.1 y hy
    have := h2 y (List.mem_cons_of_mem _ hy)
    exact ⟨by omega, this.2⟩
  · have := h2 z List.mem_cons_self
    omega
  · rcases List.mem_append.1 hx with hx | hx
    · have := h6 x hx
      omega
    · simp only [List.mem_singleton] at hx
      omega

/-- A window's pass, whatever is held. -/
theorem wpass_any (w : World) (B bw : Nat) (g E : Int) (v : Value) (mb n : Nat) (ns : List Int) (qs : List Pc) (W : WS w B bw g E v mb n ns qs) (hq : QOk E g ns qs) (hE : E ≤ 100000) (hB : B ≤ w.heap.size) :
    Calls Try.prog 16 #[.pointer (some ⟨bw, 0, none⟩)] w fun e w' => ∃ (y : Pc) (b : Bool) (g' : Int) (qs' : List Pc), e = .returned (.tuple #[.agg #[.int .i64 y.n, .string y.s], .bool b]) ∧ WS w' B bw g' E v mb n ns qs' ∧ QOk E g' ns qs' ∧ Far B bw mb w w' ∧ y.s.size ≤ maxLen ∧
      (b = true → qs'.length + 1 = qs.length ∧ ∀ g0 PS out, UpIs g0 PS out g qs → UpIs g0 PS (out ++ [y.s]) g' qs') ∧ (b = false → g' = g ∧ qs' = qs ∧ ∀ z ∈ qs, z.n ≠ g) := by
  have h := hq
  obtain ⟨h1, h2, h3, h4, _⟩ := hq
  have none : (∀ z ∈ qs, z.n ≠ g) → Calls Try.prog 16 #[.pointer (some ⟨bw, 0, none⟩)] w fun e w' => ∃ (y : Pc) (b : Bool) (g' : Int) (qs' : List Pc), e = .returned (.tuple #[.agg #[.int .i64 y.n, .string y.s], .bool b]) ∧ WS w' B bw g' E v mb n ns qs' ∧ QOk E g' ns qs' ∧ Far B bw mb w w' ∧ y.s.size ≤ maxLen ∧
      (b = true → qs'.length + 1 = qs.length ∧ ∀ g0 PS out, UpIs g0 PS out g qs → UpIs g0 PS (out ++ [y.s]) g' qs') ∧ (b = false → g' = g ∧ qs' = qs ∧ ∀ z ∈ qs, z.n ≠ g) := fun hn => by
    refine (wpass_no w B bw g E v mb n ns qs W hn h3 (by omega)).mono ?_
    rintro e w' ⟨rfl, hb⟩
    exact ⟨⟨0, ⟨#[]⟩⟩, false, g, qs, rfl, W.kept hb, h, ⟨hb.mono hB, hb.size, fun k hk _ _ => hb.block k hk⟩, Nat.zero_le _, by simp, fun _ => ⟨rfl, rfl, hn⟩⟩
  cases qs with
  | nil => exact none (by simp)
  | cons z qs =>
    by_cases hz : z.n = g
    · subst hz
      refine (wpass_yes w B bw z.n E v mb n ns z qs W rfl h1 h3 (by omega) hB).mono ?_
      rintro e w' ⟨rfl, W', F⟩
      exact ⟨z, true, z.n + 1, qs, rfl, W', h.step hE, F, (h2 z List.mem_cons_self).2.2, fun _ => ⟨rfl, fun g0 PS out hu => hu.step rfl⟩, fun e => by cases e⟩
    · refine none fun y hy => ?_
      have hp := List.pairwise_cons.1 h1
      have hz2 := h2 z List.mem_cons_self
      rcases List.mem_cons.1 hy with rfl | hy
      · exact hz
      · have := hp.1 y hy
        omega

/-- What is held once a piece was taken is so. -/
theorem hl_ok {l : Lk} {x : Pc} (h : linkB l = true) (hh : ∀ p ∈ l.h, p.s.size ≤ maxLen) (hx : x.s.size ≤ maxLen) : QOk (lend l) l.got ((hl l.got (lend l) x l.h).map (·.n)) (hl l.got (lend l) x l.h) ∧ (hl l.got (lend l) x l.h).length ≤ 4 := by
  have hn := linkB_nums h
  have hl3 := h
  rw [linkB_held hn] at hl3
  obtain ⟨ha, hr⟩ := heldB_asc hl3
  have hlen := heldB_few hl3 (by unfold lend; split <;> omega)
  unfold hl
  split
  · rename_i hin
    have hle := holdL_len x l.h
    refine ⟨⟨holdL_asc ha, fun z hz => ?_, by omega, by omega, [], by simp, by simp⟩, by omega⟩
    rcases holdL_mem x l.h z hz with rfl | hz
    · exact ⟨hin.1, hin.2, hx⟩
    · have := hr z hz
      exact ⟨by omega, this.2, hh z hz⟩
  · exact ⟨⟨ha, fun z hz => by have := hr z hz; exact ⟨by omega, this.2, hh z hz⟩, by omega, by omega, [], by simp, by simp⟩, by omega⟩

/-- What is known while LinkTake runs. -/
structure TS (w : World) (LC : Array Value) (Bw bw mb : Nat) (E : Int) (v : Value) (ns : List Int) (wr : World) (up : Value) (out : List ByteArray) (g : Int) (qs : List Pc) : Prop where
  win : ∃ n, n ≤ 10 ∧ WS wr Bw bw g E v mb n ns qs
  row : wr.ownsRow (w.heap.size + 3) 9 1 up out.length (stv out)
  lnk : wr.heap[w.heap.size]? = some (.cells LC 27 (0, 0))
  res : wr.heap[w.heap.size + 2]? = some (.cells #[.int .i64 0, .int .i64 0, .slice none 0 0, .int .i64 0, .slice none 0 0] 27 (0, 0))
  bel : Below w.heap.size w wr
  lo : w.heap.size + 4 ≤ Bw
  hi : Bw ≤ wr.heap.size
section
variable {w : World} {LC : Array Value} {Bw bw mb : Nat} {E : Int} {v : Value} {ns : List Int} {wr w' : World} {up up' : Value} {out : List ByteArray} {g g' : Int} {qs qs' : List Pc}
theorem TS.below (T : TS w LC Bw bw mb E v ns wr up out g qs) (hb : Below wr.heap.size wr w') : TS w LC Bw bw mb E v ns w' up out g qs := by
  obtain ⟨n, hn, W⟩ := T.win
  exact ⟨⟨n, hn, W.kept hb⟩, own_below T.row hb, (hb.block _ (Array.getElem?_eq_some_iff.1 T.lnk).1).trans T.lnk, (hb.block _ (Array.getElem?_eq_some_iff.1 T.res).1).trans T.res, T.bel.trans (hb.mono T.bel.size), T.lo, Nat.le_trans T.hi hb.size⟩
theorem TS.pass (T : TS w LC Bw bw mb E v ns wr up out g qs) {n : Nat} (hn : n ≤ 10) (W' : WS w' Bw bw g' E v mb n ns qs') (F : Far Bw bw mb wr w') : TS w LC Bw bw mb E v ns w' up out g' qs' := by
  obtain ⟨n0, hn0, W⟩ := T.win
  obtain ⟨D, hD, _⟩ := W.map
  have hlo := T.lo
  refine ⟨⟨n, hn, W'⟩, ?_, (F.1.block _ (by omega)).trans T.lnk, (F.1.block _ (by omega)).trans T.res, T.bel.trans (F.1.mono (by omega)), T.lo, Nat.le_trans T.hi F.2.1⟩
  refine ⟨T.row.1, ?_⟩
  rcases T.row.2 with ⟨e, h0⟩ | ⟨k, cap, cur, e, hB, hk, hr⟩
  · exact Or.inl ⟨e, h0⟩
  · refine Or.inr ⟨k, cap, cur, e, hB, (F.2.2 k (Array.getElem?_eq_some_iff.1 hk).1 (fun e => ?_) (fun e => ?_)).trans hk, hr⟩
    · subst e
      have := W.box
      rw [hk] at this
      cases this
    · exact map_ne hD hk e.symm
theorem TS.put (T : TS w LC Bw bw mb E v ns wr up out g qs) {s : ByteArray} (hg : wr.grownBy w' up.ownBlock) (ho : w'.ownsRow (w.heap.size + 3) 9 1 up' (out.length + 1) (stv (out ++ [s]))) : TS w LC Bw bw mb E v ns w' up' (out ++ [s]) g qs := by
  obtain ⟨n0, hn0, W⟩ := T.win
  obtain ⟨D, hD, hM⟩ := W.map
  have hlt := W.lt
  have hlo := T.lo
  have hub : ∀ k, up.ownBlock = some k → w.heap.size + 3 ≤ k := fun k hk => (T.row.lt k hk).1
  have hmo : some mb ≠ up.ownBlock := by
    intro e
    rcases T.row.2 with ⟨e1, _⟩ | ⟨k, c, cur, e1, _, hk, _⟩
    · rw [e1] at e; cases e
    · rw [e1] at e
      cases e
      exact map_ne hD hk rfl
  have W' : WS w' Bw bw g E v mb n0 ns qs := by
    refine ⟨(hg.block bw hlt (fun e => own_ne T.row W.box (by decide) e.symm)).trans W.box, W.row.kept hg ?_, ⟨D, hD.kept hg hmo, hM⟩, W.lob, W.lom⟩
    rcases W.row.2 with ⟨e, _⟩ | ⟨k, c, cur, e, _, hk, _⟩
    · rw [e]; exact Or.inl rfl
    · refine Or.inr fun e' => ?_
      rw [e] at e'
      exact own_ne T.row hk (by decide) e'.symm
  exact ⟨⟨n0, hn0, W'⟩, by rw [List.length_append]; exact ho, (hg.block _ (Array.getElem?_eq_some_iff.1 T.lnk).1 (fun e => own_ne T.row T.lnk (by decide) e.symm)).trans T.lnk, (hg.block _ (Array.getElem?_eq_some_iff.1 T.res).1 (fun e => own_ne T.row T.res (by decide) e.symm)).trans T.res, T.bel.grown hg T.bel.size (fun k hk => by have := hub k hk; omega), T.lo, Nat.le_trans T.hi hg.size⟩
theorem TS.turn (T : TS w LC Bw bw mb E v ns wr up out g qs) {k : Nat} {c : Array Value} {fr : Nat × Nat} (hk : wr.heap[k]? = some (.cells c 36 fr)) (hkB : w.heap.size ≤ k) (hg : wr.grownBy w' (some k)) : TS w LC Bw bw mb E v ns w' up out g qs := by
  obtain ⟨n0, hn0, W⟩ := T.win
  obtain ⟨D, hD, hM⟩ := W.map
  have hlt := W.lt
  have ne : ∀ {j : Nat} {c' : Array Value} {t : TypeId} {fr' : Nat × Nat}, wr.heap[j]? = some (.cells c' t fr') → t ≠ 36 → (some j : Option Nat) ≠ some k := fun h ht e => by
    cases e
    rw [hk] at h
    cases h
    exact ht rfl
  have W' : WS w' Bw bw g E v mb n0 ns qs := by
    refine ⟨(hg.block bw hlt (ne W.box (by decide))).trans W.box, W.row.kept hg ?_, ⟨D, hD.kept hg (fun e => map_ne hD hk (by simpa using e)), hM⟩, W.lob, W.lom⟩
    exact Or.inr (own_ne W.row hk (by decide))
  exact ⟨⟨n0, hn0, W'⟩, T.row.kept hg (Or.inr (own_ne T.row hk (by decide))), (hg.block _ (Array.getElem?_eq_some_iff.1 T.lnk).1 (ne T.lnk (by decide))).trans T.lnk, (hg.block _ (Array.getElem?_eq_some_iff.1 T.res).1 (ne T.res (by decide))).trans T.res, T.bel.grown hg T.bel.size (fun j hj => by cases hj; exact hkB), T.lo, Nat.le_trans T.hi hg.size⟩
end
def slen : Value → Nat
  | .slice _ n _ => n
  | _ => 0
end Go.Proofs.Ytgjebgdingahjaa
