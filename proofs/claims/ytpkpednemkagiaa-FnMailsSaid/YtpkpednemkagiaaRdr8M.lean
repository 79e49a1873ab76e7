/-
  Texts that stood by themselves, laid into one.
-/
import Derived.Test.YtpkpednemkagiaaDraw2M
import Derived.Test.YtpkpednemkagiaaNdM
import Derived.Test.YtpkpednemkagiaaGTextM
import Derived.Deep.RegionHeld3
/-
  A whole struct stored, and what stays where one block alone is turned. Nothing of the program; no condition.
-/
namespace Go.Proofs.Ytpkpednemkagiaa
open Go.RowKit

theorem wpList_store_own2 {P : Program} {ops : Array Oper} {rest : List Oper} {o : Oper} {a : Act} {w : World} {Q : Exit → Act → World → Prop} (hgd : o.guard = none) (ty : TypeId) (x y : Operand) (ho : o.op = .store ty x y)
    (g : Nat) (cells : Array Value) (hx : a.eval x = .pointer (some ⟨g, 0, none⟩)) (hy : a.eval y = .agg cells)
    (t : TypeId) (old : Array Value) (hg : w.heap[g]? = some (.cells old t (0, 0))) (hi : (P.info? ty).map (·.size) = some cells.size)
    (hold : old.size = cells.size) (h1 : cells.all (·.oneCell') = true)
    (h : ∀ w2 : World, w2.heap[g]? = some (.cells cells t (0, 0)) → Below g w w2 → w2.heap.size = w.heap.size → (∀ k, k ≠ g → w2.heap[k]? = w.heap[k]?) → wpList P ops Q rest (a.put o.dst undef) w2) : wpList P ops Q (o :: rest) a w :=
  wpList_store_row hgd ty x y ho g cells hx hy t old hg hi hold h1 (h _ (setRow_heap w g old _ t _ hg) (below_setRow (Below.refl _ _) (Nat.le_refl _) _) (size_setRow w g cells) (fun k hk => setRow_other w g k cells hk))

theorem own_keep {w w' : World} {B k n g : Nat} {e : TypeId} {v : Value} {l : List Value} (h : w.ownsRow B e k v n l) (hg : g < B) (hb : ∀ j, j ≠ g → w'.heap[j]? = w.heap[j]?) : w'.ownsRow B e k v n l := by
  refine ⟨h.1, ?_⟩
  rcases h.2 with ⟨rfl, h0⟩ | ⟨gg, cap, cur, rfl, hB, hgg, hr⟩
  · exact Or.inl ⟨rfl, h0⟩
  · exact Or.inr ⟨gg, cap, cur, rfl, hB, (hb gg (by omega)).trans hgg, hr⟩
theorem own_ne {w : World} {B : Nat} {e t : TypeId} {k : Nat} {v : Value} {n j : Nat} {xs : List Value} {c : Array Value} {fr : Nat × Nat} (h : w.ownsRow B e k v n xs) (hj : w.heap[j]? = some (.cells c t fr)) (hte : t ≠ e) : v.ownBlock ≠ some j := by
  rcases h.2 with ⟨rfl, _⟩ | ⟨g, cap, cur, rfl, hB, hg, _⟩
  · simp [Value.ownBlock]
  · intro e'
    simp only [Value.ownBlock, Option.some.injEq] at e'
    subst e'
    rw [hg] at hj
    cases hj
    exact hte rfl
theorem own_none0 (W : World) (t : TypeId) (k B : Nat) (h : B ≤ W.heap.size) : (W.alloc (Obj.cells #[] t)).ownsRow B t k (.slice (some ⟨W.heap.size, 0, none⟩) 0 0) 0 [] :=
  own_mono (World.ownsRow_made W #[] 0 (Nat.le_refl _) (by simp) (by simp)) h
end Go.Proofs.Ytpkpednemkagiaa

/-
  Contracts of impl.readerOf and (impl.reader).end. No condition but bounds.
-/
namespace Go.Proofs.Ytpkpednemkagiaa
open Go.RowKit

theorem strN_size (l : List Int) : (strOfNums l).size = l.length := by
  unfold strOfNums
  simp [ByteArray.size]
def badV (p : Int) : Value := .iface 70 (.agg #[.int .i64 p])
/-- Whether all was read. -/
def EndAns (b : Int) (n : Nat) (r : Value) : Prop := (b < n ∧ ∃ p, r = badV p) ∨ (¬ b < n ∧ r = .nilIface)
set_option maxHeartbeats 800000 in
theorem rend_any (v : Value) (zs : List Int) (P : Nat) (b : Int) (w : World) (R : ∃ ao cap, v = .slice ao zs.length cap) (h1 : One w P b) :
    Calls Try.prog 20 #[.agg #[v, .pointer (some ⟨P, 0, none⟩)]] w fun e w' => ∃ r, e = .returned r ∧ EndAns b zs.length r ∧ Below w.heap.size w w' := by
  obtain ⟨ao, cap, rfl⟩ := R
  have hB0 : Below w.heap.size w (w.alloc (Obj.cells #[Value.slice ao zs.length cap, Value.pointer (some ⟨P, 0, none⟩)] 40)) := (Below.refl _ _).alloc (Nat.le_refl _) _
  have h2 := h1.below hB0 h1.lt
  have hc := h2.cell
  obtain ⟨W, hW⟩ : ∃ W, w.alloc (Obj.cells #[Value.slice ao zs.length cap, Value.pointer (some ⟨P, 0, none⟩)] 40) = W := ⟨_, rfl⟩
  have hx : W.heap[w.heap.size]? = some (.cells #[Value.slice ao zs.length cap, Value.pointer (some ⟨P, 0, none⟩)] 40 (0, 0)) := by rw [← hW]; exact heap_alloc_new _ _
  rw [hW] at hB0 h2 hc
  have b0 : W.cell? ⟨w.heap.size, 0, none⟩ = some (.slice ao zs.length cap) := cell_of_row W _ 0 _ _ _ hx
  have b1 : W.cell? ⟨w.heap.size, 1, none⟩ = some (.pointer (some ⟨P, 0, none⟩)) := cell_of_row W _ 1 _ _ _ hx
  go_enter Try.func20, Try.ntmps20
  go_wp2_with fail
  go_quiet (fail)
  by_cases hlt : b < zs.length
  · have HE : ∀ p, EndAns b zs.length (badV p) := fun p => Or.inl ⟨hlt, p, rfl⟩
    go_wp2
    go_ret
    exact ⟨_, rfl, HE _, hB0.trans ⟨rfl, rfl, rfl, Nat.le_refl _, fun _ _ => rfl⟩⟩
  · have HE : EndAns b zs.length .nilIface := Or.inr ⟨hlt, rfl⟩
    go_wp2
    go_ret
    exact ⟨_, rfl, HE, hB0.trans ⟨rfl, rfl, rfl, Nat.le_refl _, fun _ _ => rfl⟩⟩
theorem wpList_bytes8 {P : Program} (w : World) {ops : Array Oper} {rest : List Oper} {o : Oper} {a : Act} {Q : Exit → Act → World → Prop} (hg : o.guard = none) (x : Operand) (src dst e : TypeId) (ho : o.op = .convert src dst x)
    (hs : P.underlying src = some .string) (hd : P.underlying dst = some (.slice e)) (he : P.underlying e = some (.int .u8)) (s : ByteArray) (hx : a.eval x = .string s)
    (h : ∀ cap w', s.size ≤ cap → (∀ j u, (bv (sb s))[j]? = some u → w'.cell? ((⟨w.heap.size, 0, none⟩ : Addr).add j) = some u) → w.grownBy w' none → w.heap.size < w'.heap.size → wpList P ops Q rest (a.put o.dst (.slice (some ⟨w.heap.size, 0, none⟩) s.size cap)) w') :
    wpList P ops Q (o :: rest) a w := by
  refine wpList_plain hg fun K hK => ?_
  obtain ⟨cap, w', hrun, h0, h1, h2, h3⟩ : ∃ cap w', (convert src dst (.string s)).run P w = .ok (.slice (some ⟨w.heap.size, 0, none⟩) s.size cap) w' ∧ s.size ≤ cap ∧
      (∀ j u, (bv (sb s))[j]? = some u → w'.cell? ((⟨w.heap.size, 0, none⟩ : Addr).add j) = some u) ∧ w.grownBy w' none ∧ w.heap.size < w'.heap.size := by
    refine ⟨_, _, run_bytes_of_string w src dst e s hs hd he, ?_, ?_, ?_, ?_⟩
    · exact grownCap_ge _ _ _ _
    · intro j u hu
      rw [Addr.add_lit, Nat.zero_add, cell_of_row _ w.heap.size j _ e _ (heap_alloc_new w.drew _)]
      exact bytesRow_get s _ j u hu
    · have hga := World.grownBy_alloc w.drew (Obj.cells (bytesRow s (grownCap w s.size 0 e)) e ((bytesRow s (grownCap w s.size 0 e)).size, (bytesRow s (grownCap w s.size 0 e)).size + 1)) none
      exact ⟨hga.os, hga.tape, hga.output, hga.size, hga.block⟩
    · show w.heap.size < (w.heap.push _).size
      simp
  unfold Oper.wp
  simp [execOp, ho, hx, hrun, Result.andThen]
  exact hK _ _ (h cap w' h0 h1 h2 h3)
theorem Try.sizeRd : (Try.prog.info? 40).map (·.size) = some 2 := by kernel_rfl
/-- The bytes of a text that were laid are a row. -/
theorem row_of_bytes {w w' : World} {s : ByteArray} {cap : Nat} (hs : s.size ≤ 140737488351232) (h0 : s.size ≤ cap) (h1 : ∀ j u, (bv (sb s))[j]? = some u → w'.cell? ((⟨w.heap.size, 0, none⟩ : Addr).add j) = some u) (h3 : w.heap.size < w'.heap.size) : Row w' (.slice (some ⟨w.heap.size, 0, none⟩) s.size cap) (sb s) := by
  refine ⟨some ⟨w.heap.size, 0, none⟩, cap, by rw [sb_length], by rw [sb_length]; exact h0, by rw [sb_length]; exact hs, sb_wf s, fun _ => ⟨w.heap.size, 0, rfl, h3, fun i hi => ?_⟩⟩
  have := h1 i (.int .u8 ((sb s).getD i 0)) (by rw [bv_get (sb s) i hi])
  rwa [Addr.add_lit] at this

set_option maxRecDepth 100000 in
set_option maxHeartbeats 1600000 in
theorem readerof_any (s : ByteArray) (w : World) (hs : s.size ≤ 140737488351232) :
    Calls Try.prog 17 #[.string s] w fun e w' => ∃ v W0 P, e = .returned (.agg #[v, .pointer (some ⟨P, 0, none⟩)]) ∧ Row W0 v (sb s) ∧ Below w.heap.size w W0 ∧ Below W0.heap.size W0 w' ∧ W0.heap.size ≤ P ∧ One w' P 0 := by
  go_enter Try.func17, Try.ntmps17
  go_wp2_with (first
    | (refine wpList_bytes8 _ rfl _ 9 25 5 rfl Try.underlying9 Try.underlying25 Try.underlying5 s rfl ?_; intro cap w2 h0 h1 h2 h3; have x2 := (h2.block w.heap.size (by simp) (by simp)).trans (heap_alloc_new w _); have hbx := (heap_alloc_old w2 (Obj.cells #[Value.int .i64 0] 3) (Array.getElem?_eq_some_iff.1 x2).1).trans x2)
    | (refine wpList_store_row rfl 40 _ _ rfl w.heap.size #[.slice (some ⟨w.heap.size + 1, 0, none⟩) s.size cap, .pointer (some ⟨w2.heap.size, 0, none⟩)] rfl rfl 40 _ hbx Try.sizeRd rfl (by simp [Value.oneCell']) ?_))
  have e1 : (w.alloc (Obj.cells #[Value.slice none 0 0, Value.pointer none] 40)).heap.size = w.heap.size + 1 := by simp
  have RR := row_of_bytes (w := w.alloc (Obj.cells #[Value.slice none 0 0, Value.pointer none] 40)) hs h0 h1 h3
  rw [e1] at RR h3
  have hx2 := setRow_heap w2 w.heap.size _ #[.slice (some ⟨w.heap.size + 1, 0, none⟩) s.size cap, .pointer (some ⟨w2.heap.size, 0, none⟩)] _ _ x2
  have hx3 := setRow_heap (w2.alloc (Obj.cells #[Value.int .i64 0] 3)) w.heap.size _ #[.slice (some ⟨w.heap.size + 1, 0, none⟩) s.size cap, .pointer (some ⟨w2.heap.size, 0, none⟩)] _ _ hbx
  have hRow : Row (w2.setRow w.heap.size #[.slice (some ⟨w.heap.size + 1, 0, none⟩) s.size cap, .pointer (some ⟨w2.heap.size, 0, none⟩)]) (.slice (some ⟨w.heap.size + 1, 0, none⟩) s.size cap) (sb s) := by
    obtain ⟨ao, c, q1, q2, q3, q4, q5⟩ := RR
    refine ⟨ao, c, q1, q2, q3, q4, fun hne => ?_⟩
    obtain ⟨g, o, rfl, hg, hc⟩ := q5 hne
    obtain ⟨rfl, rfl⟩ : g = w.heap.size + 1 ∧ o = 0 := by
      simp only [Value.slice.injEq, Option.some.injEq, Addr.mk.injEq] at q1
      exact ⟨q1.1.1.symm, q1.1.2.1.symm⟩
    refine ⟨_, _, rfl, by rw [size_setRow]; exact hg, fun i hi => ?_⟩
    rw [World.cell?_of_block (w := w2) (setRow_other w2 w.heap.size (w.heap.size + 1) _ (by omega))]
    exact hc i hi
  have hBW : Below w.heap.size w (w2.setRow w.heap.size #[.slice (some ⟨w.heap.size + 1, 0, none⟩) s.size cap, .pointer (some ⟨w2.heap.size, 0, none⟩)]) := by
    have hB0 : Below w.heap.size w (w.alloc (Obj.cells #[Value.slice none 0 0, Value.pointer none] 40)) := (Below.refl _ _).alloc (Nat.le_refl _) _
    have hB2 : Below w.heap.size w w2 := hB0.grown h2 hB0.size (fun k hk => by cases hk)
    exact below_setRow hB2 (Nat.le_refl _) _
  have hBF : Below w2.heap.size (w2.setRow w.heap.size #[.slice (some ⟨w.heap.size + 1, 0, none⟩) s.size cap, .pointer (some ⟨w2.heap.size, 0, none⟩)]) ((w2.alloc (Obj.cells #[Value.int .i64 0] 3)).setRow w.heap.size #[.slice (some ⟨w.heap.size + 1, 0, none⟩) s.size cap, .pointer (some ⟨w2.heap.size, 0, none⟩)]) := by
    refine ⟨rfl, rfl, rfl, by simp, fun k hk => ?_⟩
    by_cases hkk : k = w.heap.size
    · subst hkk
      rw [hx2, hx3]
    · rw [setRow_other _ _ _ _ hkk, setRow_other _ _ _ _ hkk]
      exact heap_alloc_old w2 _ hk
  have hOne : One ((w2.alloc (Obj.cells #[Value.int .i64 0] 3)).setRow w.heap.size #[.slice (some ⟨w.heap.size + 1, 0, none⟩) s.size cap, .pointer (some ⟨w2.heap.size, 0, none⟩)]) w2.heap.size 0 := (setRow_other _ _ _ _ (by omega)).trans (heap_alloc_new w2 _)
  clear hbx h1 h2 e1
  go_wp2
  exact bodyPost_ret (results_cell_row rfl _ _ w.heap.size 40 _ (0, 0) _ rfl hx3 Try.underlying40 rfl Try.sizeRd) rfl ⟨_, _, _, rfl, hRow, hBW, by rw [size_setRow]; exact hBF, by rw [size_setRow]; exact Nat.le_refl _, hOne⟩
end Go.Proofs.Ytpkpednemkagiaa
