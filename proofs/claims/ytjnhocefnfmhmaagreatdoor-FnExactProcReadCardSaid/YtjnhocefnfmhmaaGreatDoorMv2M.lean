/-
  Contract of impl's moved: what the nodes that are reached come to behind so many others, and where the roots are then. Conditions: the pool is right, all roots are nodes of it.
-/
import Derived.Test.YtjnhocefnfmhmaaGreatDoorMv3M
namespace Go.Proofs.YtjnhocefnfmhmaaGreatDoor
open Go.RowKit Go.Shelf
attribute [local go_sem] Oper.semAt_some

theorem wpListIn_full {F : Fence} {n : Nat} {P : Program} (w : World) {ops : Array Oper} {rest : List Oper} {o : Oper} {a : Act} {Q : Exit → Act → World → Prop}
    (hg : o.guard = none) (l c : Operand) (t : TypeId) (hop : o.op = Op.makeSlice t l c)
    (base : Nat) (e : TypeId) (i : TypeInfo) (z : Value) (size : Nat) (h1 : P.underlying t = some (.slice e)) (h2 : P.info? e = some i) (h3 : i.zero = some z) (h4 : i.size = size)
    (kl kc : IntKind) (L C : Int) (m : Nat) (hl : a.eval l = .int kl L) (hc : a.eval c = .int kc C) (hL : L = (m : Int)) (hC : C = (m : Int)) (b2 : i.bytes * m ≤ 281474976710656) (b3 : m ≤ maxLen) (b4 : base ≤ w.heap.size)
    (hK : ∀ w', w'.ownsRow base e size (.slice (some ⟨w.heap.size, 0, none⟩) m m) m (madeCells z.cells (m * size)).toList → w.grownBy w' none → wpListIn F n P ops Q rest (a.put o.dst (.slice (some ⟨w.heap.size, 0, none⟩) m m)) w') :
    wpListIn F n P ops Q (o :: rest) a w := by
  refine wpListIn_plain hg fun K hK' => ?_
  obtain ⟨w', hrun, r1, r2⟩ := run_make_full (P := P) w base t e i z size h1 h2 h3 h4 kl kc m b2 b3 b4
  subst hL
  subst hC
  unfold Oper.wpIn
  refine ⟨?_, ?_⟩
  · simp [Oper.about, hop]
  · rw [Oper.semAt_plain F _ _ (by rw [hop]; intro c hc'; cases hc')]
    simp [execOp, hop, hl, hc, hrun, Result.andThen]
    exact hK' _ _ (hK w' r1 r2)

theorem own_split7 {w : World} {B B' : Nat} {e e' : TypeId} {k k' : Nat} {v v' : Value} {n n' : Nat} {xs xs' : List Value} (h : w.ownsRow B e k v n xs) (h' : w.ownsRow B' e' k' v' n' xs') (hne : e ≠ e') : v.ownBlock = none ∨ v.ownBlock ≠ v'.ownBlock := by
  rcases h.2 with ⟨rfl, _⟩ | ⟨g, cap, cur, rfl, hB, hg, _⟩
  · exact Or.inl rfl
  · refine Or.inr fun e => ?_
    rcases h'.2 with ⟨rfl, _⟩ | ⟨g', cap', cur', rfl, hB', hg', _⟩
    · cases e
    · simp only [Value.ownBlock, Option.some.injEq] at e
      subst e
      rw [hg] at hg'
      injection hg' with h1
      injection h1 with _ h2 _
      exact hne h2
theorem own_ne7 {w : World} {B : Nat} {e t : TypeId} {k j : Nat} {v : Value} {n : Nat} {xs : List Value} {c : Array Value} (h : w.ownsRow B e k v n xs) (hj : w.heap[j]? = some (.cells c t (0, 0))) (ht : t ≠ e) : v.ownBlock ≠ some j := by
  rcases h.2 with ⟨rfl, _⟩ | ⟨g, cap, cur, rfl, hB, hg, _⟩
  · simp [Value.ownBlock]
  · intro e'
    simp only [Value.ownBlock, Option.some.injEq] at e'
    subst e'
    rw [hg] at hj
    injection hj with h1
    injection h1 with _ h2 _
    exact ht h2.symm
theorem Tryz.infoI8 : (Tryz.prog.info? 3).map (fun i => (i.zero, i.size, i.bytes)) = some (some (.int .i64 0), 1, 8) := by kernel_rfl

set_option maxRecDepth 100000 in
set_option maxHeartbeats 6400000 in
theorem moved_any (ao : Option Addr) (cap : Nat) (vl : Value) (xs : List Nd) (rs : List Int) (a : Nat) (w : World) (R : NRow w (.slice ao xs.length cap) xs) (L : IRow w vl rs) (hp : poolB xs = true) (hr : allI xs rs = true) (ha : a ≤ 3000) (hrs : rs.length ≤ 1048576) :
    Calls Tryz.prog 105 #[.agg #[.slice ao xs.length cap], vl, .int .i64 a] w fun e w' => ∃ v1 v2, e = .returned (.tuple #[v1, v2]) ∧ w'.ownsRow w.heap.size 153 5 v1 (mvN a xs rs).length (ncs (mvN a xs rs)) ∧ w'.ownsRow w.heap.size 3 1 v2 rs.length (iv (mvR a xs rs rs)) ∧ Below w.heap.size w w' := by
  have hlen := poolB_len hp
  obtain ⟨i0, hi, hz0, hz1, hz2⟩ := info_parts Tryz.infoI8
  obtain ⟨n0, hn, hn0, hn1, hn2⟩ := info_parts Tryz.infoN
  have hbytes : i0.bytes * xs.length ≤ 281474976710656 := by rw [hz2]; omega
  have hmax : xs.length ≤ maxLen := by unfold maxLen; omega
  obtain ⟨W4, hW4⟩ : ∃ W4, (((w.alloc (Obj.cells #[Value.slice ao xs.length cap] 40)).alloc (Obj.cells #[Value.int IntKind.i64 (a : Int)] 3)).alloc (Obj.cells #[] 153)).alloc (Obj.cells #[Value.slice (some { block := w.heap.size + 1 + 1, off := 0 }) 0 0] 38) = W4 := ⟨_, rfl⟩
  have hB4 : Below w.heap.size w W4 := by rw [← hW4]; exact ((((Below.refl _ w).alloc (Nat.le_refl _) _).alloc (by simp) _).alloc (by simp; omega) _).alloc (by simp; omega) _
  have hs4 : W4.heap.size = w.heap.size + 1 + 1 + 1 + 1 := by rw [← hW4]; simp
  have bP : Boxed W4 w.heap.size 40 (.slice ao xs.length cap) := by rw [← hW4]; exact (((Boxed.new w 40 _).alloc _).alloc _).alloc _
  have bA : Boxed W4 (w.heap.size + 1) 3 (.int .i64 (a : Int)) := by
    rw [← hW4]
    have := ((Boxed.new (w.alloc (Obj.cells #[Value.slice ao xs.length cap] 40)) 3 (.int .i64 (a : Int))).alloc (Obj.cells #[] 153)).alloc (Obj.cells #[Value.slice (some { block := w.heap.size + 1 + 1, off := 0 }) 0 0] 38)
    simpa using this
  have b8 : Boxed W4 (w.heap.size + 1 + 1 + 1) 38 (.slice (some { block := w.heap.size + 1 + 1, off := 0 }) 0 0) := by
    rw [← hW4]
    have := Boxed.new (((w.alloc (Obj.cells #[Value.slice ao xs.length cap] 40)).alloc (Obj.cells #[Value.int IntKind.i64 (a : Int)] 3)).alloc (Obj.cells #[] 153)) 38 (.slice (some { block := w.heap.size + 1 + 1, off := 0 }) 0 0)
    simpa using this
  have hoN : W4.ownsRow w.heap.size 153 5 (.slice (some { block := w.heap.size + 1 + 1, off := 0 }) 0 0) 0 [] := by
    rw [← hW4]
    have := (own_none0 ((w.alloc (Obj.cells #[Value.slice ao xs.length cap] 40)).alloc (Obj.cells #[Value.int IntKind.i64 (a : Int)] 3)) 153 5 w.heap.size (by simp; omega)).alloc (Obj.cells #[Value.slice (some { block := w.heap.size + 1 + 1, off := 0 }) 0 0] 38)
    simpa using this
  have HW4 : Hid ((((w.alloc (Obj.cells #[Value.slice ao xs.length cap] 40)).alloc (Obj.cells #[Value.int IntKind.i64 (a : Int)] 3)).alloc (Obj.cells #[] 153)).alloc (Obj.cells #[Value.slice (some { block := w.heap.size + 1 + 1, off := 0 }) 0 0] 38) = W4) := hW4
  clear hW4
  refine (callsIn_wide (n := 6)).1 ?_
  refine callsIn_of_wp_marks Tryz.func105 rfl trivial ?_ rfl
  simp only [Tryz.ntmps105, List.size_toArray, List.length_cons, List.length_nil, Nat.reduceAdd, Nat.reduceSub, Array.replicate_succ, Array.replicate_zero, List.push_toArray, List.append_toArray, List.nil_append, List.cons_append]
  gi_wp2_with (gi_at_make; refine wpListIn_full _ rfl _ _ 110 rfl (w.heap.size + 1 + 1 + 1 + 1) 3 i0 (.int .i64 0) 1 Tryz.underlying110 hi hz0 hz1 _ _ _ _ xs.length rfl rfl rfl rfl hbytes hmax (by simp) ?_)
  intro w5 hown5 hg5
  rw [HW4.out] at hg5
  have hB5 : Below w.heap.size w w5 := hB4.grown hg5 hB4.size (fun k hk => by cases hk)
  have bP5 := bP.kept hg5 (by simp)
  have bA5 := bA.kept hg5 (by simp)
  have b85 := b8.kept hg5 (by simp)
  have hoN5 := hoN.kept hg5 (Or.inr (by simp [Value.ownBlock]))
  have hs5 : w.heap.size + 1 + 1 + 1 + 1 < w5.heap.size := (hown5.lt _ rfl).2
  have hB6 : Below w.heap.size w (w5.alloc (Obj.cells #[Value.slice (some { block := w.heap.size + 1 + 1 + 1 + 1, off := 0 }) xs.length xs.length] 110)) := hB5.alloc hB5.size _
  have cP5 := bP5.cell
  have hlt5 : w.heap.size < w5.heap.size := by omega
  clear HW4 hB4 bP bA b8 hoN hg5 hs4 hbytes hmax
  gi_wp2_with (refine ⟨trivial, ?_⟩; gi_at_call 129; refine (callsIn_wide.2 (ireached_any ao cap vl xs rs _ (R.below hB6) (L.below hB6) hp hr)).mono ?_; rintro e w7 ⟨Bp, Bh, vh, rfl, hp1, hh1, hp2, hh2, hcp, hch, hoh, hb7⟩)
  have hB7 := hB6.trans (hb7.mono hB6.size)
  obtain ⟨ah, ch, rfl⟩ := own_form hoh
  have hsz6 : (w5.alloc (Obj.cells #[Value.slice (some { block := w.heap.size + 1 + 1 + 1 + 1, off := 0 }) xs.length xs.length] 110)).heap.size = w5.heap.size + 1 := by simp
  have bA7 := (bA5.alloc (Obj.cells #[Value.slice (some { block := w.heap.size + 1 + 1 + 1 + 1, off := 0 }) xs.length xs.length] 110)).kept (grown_below2 hb7 none) (by simp)
  have b87 := (b85.alloc (Obj.cells #[Value.slice (some { block := w.heap.size + 1 + 1 + 1 + 1, off := 0 }) xs.length xs.length] 110)).kept (grown_below2 hb7 none) (by simp)
  have b97 := (Boxed.new w5 110 (.slice (some { block := w.heap.size + 1 + 1 + 1 + 1, off := 0 }) xs.length xs.length)).kept (grown_below2 hb7 none) (by simp)
  have hoN7 := own_below (hoN5.alloc (Obj.cells #[Value.slice (some { block := w.heap.size + 1 + 1 + 1 + 1, off := 0 }) xs.length xs.length] 110)) hb7
  have hoP7 := own_mono (B' := w.heap.size) (own_below (hown5.alloc (Obj.cells #[Value.slice (some { block := w.heap.size + 1 + 1 + 1 + 1, off := 0 }) xs.length xs.length] 110)) hb7) (by omega)
  rw [hsz6] at hp1 hh1 hoh
  have hs7 : w5.heap.size + 1 ≤ w7.heap.size := by have := hb7.size; rw [hsz6] at this; exact this
  have R7 := R.below hB7
  have hbl := reachL_length xs rs
  have hzero : iv (mvF a xs.length []).2 = (madeCells #[Value.int .i64 0] xs.length).toList := by show iv (List.replicate xs.length 0) = (madeCells #[Value.int .i64 0] xs.length).toList; rw [toList_madeCells_one]; simp [iv]
  have R7' := R7
  obtain ⟨aox, capx, ex, hcx, _, hzs, hcellx⟩ := R7'
  simp only [Value.slice.injEq, true_and] at ex
  obtain ⟨rfl, rfl⟩ := ex
  have B7 := BRow.of_own (zs := reachL xs rs) (by rw [hbl]; exact hoh) (by rw [hbl]; omega)
  obtain ⟨aoh, caph, eh, hcaph, _, hcellh⟩ := B7
  rw [hbl] at eh hcaph
  simp only [Value.slice.injEq, true_and] at eh
  obtain ⟨rfl, rfl⟩ := eh
  clear hbl
  have hbl := reachL_length xs rs
  have hseq := reach1_stops Fence.wide 5 trivial rfl (by omega) (fun b => b < w.heap.size ∨ (w5.heap.size + 1 ≤ b ∧ b < w7.heap.size)) Bp Bh ao ah cap ch xs (reachL xs rs) w7 (fun b hb => by have := hB7.size; omega) (Or.inr ⟨hp1, hp2⟩) (Or.inr ⟨hh1, hh2⟩) hcp hch hlen hcx.1 hcaph.1
    (fun hne => by
      have R' := R
      obtain ⟨_, _, e', _, _, _, hcell⟩ := R'
      simp only [Value.slice.injEq, true_and] at e'
      obtain ⟨rfl, rfl⟩ := e'
      obtain ⟨g, o, rfl, hg, hcell⟩ := hcell hne
      exact ⟨g, o, rfl, Or.inl hg, fun i x hx => (hcell i x hx).below hB7 hg⟩)
    (fun hne => by
      obtain ⟨g, o, e, hg, hcell⟩ := hcellh (by intro e; rw [e] at hbl; exact hne (List.eq_nil_of_length_eq_zero hbl.symm))
      subst e
      exact ⟨g, o, rfl, Or.inr ⟨by have := (hoh.lt g rfl).1; omega, hg⟩, fun i hi => hcell i (by rw [hbl]; exact hi)⟩)
  refine wpIn_rangeFunc_ownH rfl (by omega) (gf := 159) (lb := #[.pointer (some ⟨Bp, 0, none⟩), .pointer (some ⟨Bh, 0, none⟩)]) rfl trivial (enters_of Tryz.func159 (by kernel_rfl) rfl)
    hseq KpZ.trans (fun W l o o' hl _ _ _ b hb => World.putObj_heap_other (by have := hB7.size; omega)) (Below.refl _ _) (fun _ => rfl)
    (fun pre W => (Boxed W (w.heap.size + 1) 3 (.int .i64 (a : Int)) ∧ (∃ v, Boxed W (w.heap.size + 1 + 1 + 1) 38 v ∧ W.ownsRow w.heap.size 153 5 v (mvF a xs.length (pre.map (·.1))).1.length (ncs (mvF a xs.length (pre.map (·.1))).1) ∧ (∀ g, v.ownBlock = some g → g < w5.heap.size + 1 ∨ w7.heap.size ≤ g))) ∧ (∃ v, Boxed W w5.heap.size 110 v ∧ W.ownsRow w.heap.size 3 1 v xs.length (iv (mvF a xs.length (pre.map (·.1))).2) ∧ v = .slice (some { block := w.heap.size + 1 + 1 + 1 + 1, off := 0 }) xs.length xs.length) ∧ Below w.heap.size w W ∧ w7.heap.size ≤ W.heap.size)
    (fun _ _ _ => False)
    (OwnFrom.and (OwnFrom.and (Own.from (boxed_own _ _ _) _) (Own.from (holdsRow_own _ _ _ _ _ (fun (pre : List (Itm xs)) => (mvF a xs.length (pre.map (·.1))).1.length) (fun (pre : List (Itm xs)) => ncs (mvF a xs.length (pre.map (·.1))).1) (fun _ v => ∀ g, v.ownBlock = some g → g < w5.heap.size + 1 ∨ w7.heap.size ≤ g)) _)) (OwnFrom.and (Own.from (holdsRow_own _ _ _ _ _ (fun (_ : List (Itm xs)) => xs.length) (fun (pre : List (Itm xs)) => iv (mvF a xs.length (pre.map (·.1))).2) (fun _ v => v = .slice (some { block := w.heap.size + 1 + 1 + 1 + 1, off := 0 }) xs.length xs.length)) _) (OwnFrom.and (ownFrom_below (Nat.le_refl _) (by omega)) (fun _ X Y _ h hg _ => Nat.le_trans h hg.size))))
    (fun _ _ _ _ _ hs _ _ => hs)
    ⟨⟨bA7, _, b87, hoN7, fun g hg => by simp only [Value.ownBlock, Option.some.injEq] at hg; omega⟩, ⟨_, b97, by rw [List.map_nil, hzero]; exact hoP7, rfl⟩, hB7, Nat.le_refl _⟩
    (fun x a' W => ∃ Bx, w7.heap.size ≤ Bx ∧ W.heap[Bx]? = some (.cells #[.int .i64 x.1.2.k, .int .i64 x.1.2.n, .string x.1.2.s, .int .i64 x.1.2.a, .int .i64 x.1.2.b] 153 (0, 0)) ∧ a' = { tmps := #[.agg #[.slice ao xs.length cap], vl, .int .i64 (a : Int), .pointer (some ⟨w.heap.size, 0, none⟩), undef, .pointer (some ⟨w.heap.size + 1, 0, none⟩), .slice none 0 0, .slice none 0 0, .pointer (some ⟨w.heap.size + 1 + 1 + 1, 0, none⟩), .pointer (some ⟨w5.heap.size, 0, none⟩), .int .i64 (x.1.1 : Int), .pointer (some ⟨Bx, 0, none⟩), undef, undef, undef, .slice (some ⟨w.heap.size + 1 + 1, 0, none⟩) 0 0, .pointer (some ⟨w.heap.size, 0, none⟩), .slice ao xs.length cap, .int .i64 (xs.length : Int), .slice (some ⟨w.heap.size + 1 + 1 + 1 + 1, 0, none⟩) xs.length xs.length, .agg #[.slice ao xs.length cap], vl, .func (.func 159) #[] #[.pointer (some ⟨Bp, 0, none⟩), .pointer (some ⟨Bh, 0, none⟩)], .int .i64 (x.1.1 : Int), .agg #[.int .i64 x.1.2.k, .int .i64 x.1.2.n, .string x.1.2.s, .int .i64 x.1.2.a, .int .i64 x.1.2.b], undef, undef, undef, undef, undef, undef, undef, undef, undef, undef, undef, undef, undef, undef, undef, undef, undef, undef, undef, undef, undef, undef, undef, undef, undef, undef, undef, undef, undef, undef, undef, undef], defers := [] })
    (fun x a' _ X Y row hs hg hr => by
      obtain ⟨Bx, h1, h2, h3⟩ := hs
      refine ⟨Bx, h1, (hg.block Bx (Array.getElem?_eq_some_iff.1 h2).1 (fun e => ?_)).trans h2, h3⟩
      obtain ⟨_, o, ho, hc⟩ := hr Bx e.symm
      rw [h2] at ho; cases ho; cases hc)
    ?assign ?body ?done ?stop
  case assign =>
    rintro l pre x W K ⟨⟨bA, v8, b8, ho8, hg8⟩, ⟨_, b9, ho9, rfl⟩, hB, hsz⟩ hK
    simp only [ienc]
    gi_wp2
    exact hK _ _ ((KeepsOthers.alloc _ _).from _) (KpZ.alloc (fun b hb => by have := hB.size; omega) _) ⟨⟨bA.alloc _, v8, b8.alloc _, ho8.alloc _, hg8⟩, ⟨_, b9.alloc _, ho9.alloc _, rfl⟩, hB.alloc hB.size _, by simp; omega⟩ ⟨W.heap.size, hsz, World.alloc_heap_new W _, rfl⟩
  case body =>
    rintro l pre ⟨⟨k, x⟩, hx⟩ a' W hl ⟨r, hr⟩ ⟨⟨bA, v8, b8, ho8, hg8⟩, ⟨_, b9, ho9, rfl⟩, hB, hsz⟩ ⟨Bx, hBx, bX, rfl⟩ hlt
    dsimp only at hx bX ⊢
    have hk : k < xs.length := (List.getElem?_eq_some_iff.1 hx).1
    have hnb := poolB_at hp hx
    have hlS := mvF_len a xs.length (pre.map (·.1))
    have HM : Hid (mvF a xs.length ((pre ++ [(⟨(k, x), hx⟩ : Itm xs)]).map (·.1)) = mvS a (mvF a xs.length (pre.map (·.1))) (k, x)) := by unfold Hid; rw [List.map_append]; exact mvF_snoc _ _ _ _
    rw [List.length_map] at hlS
    obtain ⟨hl1, hl2⟩ := hlS
    generalize mvF a xs.length (pre.map (·.1)) = s at *
    obtain ⟨S1, S2⟩ := s
    simp only at hl1 hl2 ho8 ho9
    obtain ⟨a8, q8, rfl⟩ := own_form ho8
    have hl3 : S1.length ≤ 3000 := by omega
    have HL1 : Hid (S1.length = pre.length) := hl1
    clear hl1
    have cA := bA.cell
    have c8 := b8.cell
    have c9 := b9.cell
    have hlA := bA.lt
    have hl8 := b8.lt
    have hl9 := b9.lt
    have hlP := (ho9.lt _ rfl).2
    have hlX := (Array.getElem?_eq_some_iff.1 bX).1
    have e9 := ho9.cellAt k (by omega)
    rw [iv_get _ _ (by omega)] at e9
    have f9 := ho9.frozenAt k
    have hs9 := (ho9.stored k (.int .i64 ((a : Int) + S1.length))).1
    rw [iv_set] at hs9
    have g9 := grown_set W (w.heap.size + 1 + 1 + 1 + 1) k (.int .i64 ((a : Int) + S1.length))
    have b8' := b8.kept g9 (by simp)
    have b9' := b9.kept g9 (by simp; omega)
    have bA' := bA.kept g9 (by simp)
    have bX' := (g9.block Bx hlX (by simp; omega)).trans bX
    have ho8' := ho8.kept g9 (own_split7 ho8 ho9 (by decide))
    have hB' := hB.setCell (p := ⟨w.heap.size + 1 + 1 + 1 + 1, k, none⟩) (by simp; omega) (.int .i64 ((a : Int) + S1.length))
    have hK' : KeepsFrom w7.heap.size W (W.setCell ⟨w.heap.size + 1 + 1 + 1 + 1, k, none⟩ (.int .i64 ((a : Int) + S1.length))) := (KeepsOthers.setCell _ _ _).from _
    have hZ' : KpZ (fun b => b < w.heap.size ∨ (w5.heap.size + 1 ≤ b ∧ b < w7.heap.size)) W (W.setCell ⟨w.heap.size + 1 + 1 + 1 + 1, k, none⟩ (.int .i64 ((a : Int) + S1.length))) := fun b hb => Below.heap_setCell _ _ _ _ (by simp; omega)
    have hsz' : w7.heap.size ≤ (W.setCell ⟨w.heap.size + 1 + 1 + 1 + 1, k, none⟩ (.int .i64 ((a : Int) + S1.length))).heap.size := by simpa [World.setCell] using hsz
    have hcells : ∀ i, i < xs.length → (W.setCell ⟨w.heap.size + 1 + 1 + 1 + 1, k, none⟩ (.int .i64 ((a : Int) + S1.length))).cell? ⟨w.heap.size + 1 + 1 + 1 + 1, i, none⟩ = some (.int .i64 ((S2.set k ((a : Int) + S1.length)).getD i 0)) := fun i hi => (hs9.cellAt i (by omega)).trans (iv_get _ _ (by simp; omega))
    have hnA : hasA x.k = true → 0 ≤ x.a ∧ x.a < (k : Int) := fun h => nodeB_A hnb h
    have hnB : hasB x.k = true → 0 ≤ x.b ∧ x.b < (k : Int) := fun h => nodeB_B hnb h
    have hnr : nrm (S2.set k ((a : Int) + S1.length)) x = nrm S2 x := nrm_set _ _ _ _ (fun h => by have := hnA h; omega) (fun h => by have := hnB h; omega)
    have hkd := nodeB_kind hnb
    have hlP' : w.heap.size + 1 + 1 + 1 + 1 < (W.setCell ⟨w.heap.size + 1 + 1 + 1 + 1, k, none⟩ (.int .i64 ((a : Int) + S1.length))).heap.size := by simpa [World.setCell] using hlP
    clear bA b8 ho8 b9 ho9 hB hsz bX hseq g9 hnb
    gi_wp2_with fail
    clear cA c8 c9 e9 f9
    generalize W.setCell ⟨w.heap.size + 1 + 1 + 1 + 1, k, none⟩ (.int .i64 ((a : Int) + S1.length)) = Wr at *
    refine mv_region l 4 _ _ _ _ xs.length w.heap.size a8 q8 S1 (S2.set k ((a : Int) + S1.length)) x Wr b8' b9' bX' ho8' hcells hlP' hl3 hB'.size hkd (fun h => by have := hnA h; omega) (fun h => by have := hnB h; omega) ?_
    intro a' w4 w6 g cap' tmp hb4 hown' hgrow hat
    rw [hnr] at hown'
    have b84 : Boxed w4 _ _ _ := (hb4.block _ b8'.lt).trans b8'
    have ho84 := own_below ho8' hb4
    have hB4w := hB'.trans (hb4.mono hB'.size)
    obtain ⟨_, hv2, hr2, hk2, hb2⟩ := b84.appended (by decide) ho84 hB4w.size (by omega) hown' hgrow
    have hblk : ∀ (b : Nat) (c : Array Value) (t : TypeId), Wr.heap[b]? = some (.cells c t (0, 0)) → t ≠ 153 → b ≠ w.heap.size + 1 + 1 + 1 → (w6.setCell ⟨w.heap.size + 1 + 1 + 1, 0, none⟩ (.slice (some ⟨g, 0, none⟩) (S1.length + 1) cap')).heap[b]? = some (.cells c t (0, 0)) := fun b c t hb ht hne => by
      have h4 := (hb4.block b (Array.getElem?_eq_some_iff.1 hb).1).trans hb
      have hl4 := (Array.getElem?_eq_some_iff.1 h4).1
      rw [Below.heap_setCell _ _ _ _ hne, hgrow.block b (by simp; omega) (fun e => own_ne7 ho84 h4 ht e.symm), Below.heap_alloc _ _ _ hl4, h4]
    have hsW : Wr.heap.size ≤ w4.heap.size := hb4.size
    refine ⟨hK'.trans (((KeepsFrom.of_grownBy (grown_below2 hb4 none) (fun j e => by cases e))).trans (hk2.from _)), hZ'.trans (fun b hb => ?_), ⟨hblk _ _ _ bA' (by decide) (by omega), _, hv2, ?_, ?_⟩, ⟨_, hblk _ _ _ b9' (by decide) (by omega), ?_, rfl⟩, hB4w.trans hb2, Nat.le_trans (Nat.le_trans hsz' hsW) hb2.size⟩
    · have hbW : b < Wr.heap.size := by have := hB'.size; omega
      have hl4 : b < w4.heap.size := by omega
      have hne8 : b ≠ w.heap.size + 1 + 1 + 1 := by omega
      rw [Below.heap_setCell _ _ _ _ hne8, hgrow.block b (by simp; omega) (fun e => ?_), Below.heap_alloc _ _ _ hl4, hb4.block b hbW]
      have h1 := (ho84.lt b e.symm).1
      have h2 := hg8 b e.symm
      omega
    · rw [HM.out]
      show World.ownsRow _ _ _ _ _ (S1 ++ [nrm S2 x]).length (ncs (S1 ++ [nrm S2 x]))
      rw [List.length_append, ncs_append]
      exact hr2
    · intro g1 hg1
      simp only [Value.ownBlock, Option.some.injEq] at hg1
      subst hg1
      rcases hat with h | h
      · exact hg8 _ h
      · right; omega
    · rw [HM.out]
      show World.ownsRow _ _ _ _ _ _ (iv (S2.set k ((a + S1.length : Nat) : Int)))
      rw [Int.natCast_add]
      exact ((((own_below hs9 hb4).alloc tmp).kept hgrow (own_split7 (own_below hs9 hb4) ho84 (by decide))).kept (grownBy_setCell' w6 _ _) (Or.inr (by simp [Value.ownBlock])))
  case done =>
    rintro D ys W hD hS ⟨⟨bA, v8, b8, ho8, hg8⟩, ⟨_, b9, ho9, rfl⟩, hB, hsz⟩ hK
    have hM : mvF a xs.length (ys.map (·.1)) = mvAll a xs (reachL xs rs) := by rw [hS]; rfl
    rw [hM] at ho8 ho9
    have HR : Hid (mvR a xs rs rs = rs.map (fun r => (mvAll a xs (reachL xs rs)).2.getD r.toNat 0)) := rfl
    have HN : Hid (mvN a xs rs = (mvAll a xs (reachL xs rs)).1) := rfl
    have hl2 : (mvAll a xs (reachL xs rs)).2.length = xs.length := (mvF_len _ _ _).2
    have hl1 : (mvAll a xs (reachL xs rs)).1.length ≤ 3000 := by have := mvN_len a xs rs; rw [HN.out] at this; omega
    clear hM hS hseq bA
    generalize mvAll a xs (reachL xs rs) = M at *
    obtain ⟨S1, S2⟩ := M
    simp only at hl1 hl2 ho8 ho9 HN HR
    obtain ⟨a8, q8, rfl⟩ := own_form ho8
    obtain ⟨al, cl, rfl, hcl, _, hlc⟩ := L.below hB
    have hlcap : i0.bytes * rs.length ≤ 281474976710656 := by rw [hz2]; omega
    have hlmax : rs.length ≤ maxLen := by unfold maxLen; omega
    gi_wp2_with (gi_at_make; refine wpListIn_make_own _ rfl _ _ 110 rfl W.heap.size 3 i0 (.int .i64 0) 1 Tryz.underlying110 hi hz0 hz1 _ _ _ rs.length rfl rfl rfl hlcap hlmax (Nat.le_refl _) ?_)
    intro w9 hown9 hg9
    have hB9 : Below W.heap.size W w9 := (Below.refl _ _).grown hg9 (Nat.le_refl _) (fun k hk => by cases hk)
    clear hg9
    gi_wp2_with fail
    gi_loopw [43, 12] (fun i s wr => ∃ (j : Nat), j ≤ rs.length ∧ i = .int .i64 j ∧ wr.ownsRow W.heap.size 3 1 s j (iv ((rs.take j).map (fun r => S2.getD r.toNat 0))) ∧ Below W.heap.size W wr) (fun i _ _ => rs.length - (intOf i).toNat)
    case atStart => exact ⟨0, by omega, rfl, hown9, hB9⟩
    case round =>
      clear hown9 hB9
      obtain ⟨j, hj, rfl, hownj, hBj⟩ := hrel
      by_cases hlt : j < rs.length
      · obtain ⟨g, o, rfl, hg, hlc⟩ := hlc (by intro e; subst e; simp at hlt)
        have ez := (hBj.cell (p := ⟨g, o + j, none⟩) hg).trans (hlc j hlt)
        obtain ⟨z0, z1⟩ := allI_at hr j hlt
        have HT : Hid (iv ((rs.take (j + 1)).map (fun r => S2.getD r.toNat 0)) = iv ((rs.take j).map (fun r => S2.getD r.toNat 0)) ++ [.int .i64 (S2.getD (rs.getD j 0).toNat 0)]) := by
          unfold Hid
          rw [List.take_succ_eq_append_getElem hlt, List.map_append, iv_append, List.getD_eq_getElem?_getD (l := rs), List.getElem?_eq_getElem hlt]
          rfl
        generalize rs.getD j 0 = z at ez z0 z1 HT
        obtain ⟨nz, rfl⟩ := Int.eq_ofNat_of_zero_le z0
        rw [Int.toNat_natCast] at HT
        have e9 := (hBj.cell (p := ⟨w.heap.size + 1 + 1 + 1 + 1, nz, none⟩) (ho9.lt _ rfl).2).trans ((ho9.cellAt nz (by omega)).trans (iv_get _ _ (by omega)))
        have c9 : wr.cell? ⟨w5.heap.size, 0, none⟩ = some (.slice (some ⟨w.heap.size + 1 + 1 + 1 + 1, 0, none⟩) xs.length xs.length) := (hBj.cell (p := ⟨w5.heap.size, 0, none⟩) b9.lt).trans b9.cell
        generalize S2.getD nz 0 = y at e9 HT
        obtain ⟨asj, qsj, rfl⟩ := own_form hownj
        clear hlc hr
        have hsj := hBj.size
        gi_wp2_with (gi_at_builtin; refine wpListIn_append_own _ rfl _ _ 110 rfl W.heap.size 3 i0 (.int .i64 0) 1 8 Tryz.underlying110 hi hz0 hz1 hz2 rfl (by decide) _ _ _ rfl (hownj.alloc _) ⟨wr.heap.size, 0, none⟩ 1 1 [.int .i64 y] rfl rfl (cell_one_new _ _ _) (by simp [Value.oneCell']) (by omega) (by omega) (by simp; omega) ?_)
        intro v7 w8 hown8 hg8' _
        have hB8 : Below W.heap.size W w8 := (hBj.alloc hsj _).grown hg8' (by simp; omega) (fun k hk => (hownj.lt k hk).1)
        have hown8' : w8.ownsRow W.heap.size 3 1 v7 (j + 1) (iv ((rs.take (j + 1)).map (fun r => S2.getD r.toNat 0))) := by rw [HT.out]; simpa only [List.map_take, List.getD_eq_getElem?_getD] using hown8
        clear hg8' hown8
        gi_wp2_with fail
        go_roundw
        case rel => exact ⟨j + 1, by omega, by simp, hown8', hB8⟩
        case measure => simp [intOf]; omega
      · have hje : j = rs.length := by omega
        subst hje
        have hc8 : wr.cell? ⟨w.heap.size + 1 + 1 + 1, 0, none⟩ = some (.slice a8 S1.length q8) := (hBj.cell (p := ⟨w.heap.size + 1 + 1 + 1, 0, none⟩) b8.lt).trans b8.cell
        have hKj := (hBj.block D (Array.getElem?_eq_some_iff.1 hK).1).trans hK
        have ho8j := own_below ho8 hBj
        rw [List.take_length, ← HR.out] at hownj
        obtain ⟨asj, qsj, rfl⟩ := own_form hownj
        gi_wp2_with fail
        refine ⟨by simp, .inl ⟨_, _, rfl, run_takeDeferred hKj, ?_⟩⟩
        have hDB : Below w.heap.size wr (wr.putObj D (.deferred none)) := belowK_b (w := w7) hB7.size wr D _ _ hD hKj rfl rfl
        exact ⟨_, results_tmp2 rfl _ _ _, .slice a8 S1.length q8, .slice asj rs.length qsj, rfl, by rw [HN.out]; exact ownsRow_putObj ho8j _ hKj rfl, own_mono (ownsRow_putObj hownj _ hKj rfl) hB.size, (hB.trans (hBj.mono hB.size)).trans hDB⟩
  case stop =>
    rintro D c pre W _ _ h _
    exact h.elim
end Go.Proofs.YtjnhocefnfmhmaaGreatDoor
