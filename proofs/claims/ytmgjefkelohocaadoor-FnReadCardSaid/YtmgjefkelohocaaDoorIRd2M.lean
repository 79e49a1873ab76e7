/-
  The contracts of impl's text reader: a word, the end of a list, a mark. The table of powers of ten and the two error variables are there.
-/
import Derived.Test.YtmgjefkelohocaaDoorWordM
import Derived.Test.YtmgjefkelohocaaDoorIWordM
namespace Go.Proofs.YtmgjefkelohocaaDoor
open Go.RowKit

/-- What a reader panics with. -/
def oops (h p : Int) : List PanicEntry := [{ v := .iface 76 (.agg #[.int .i64 h, .int .i64 p]), recovered := false }]
def rdEnd : RdR → Ending
  | .ok _ => .returned (.tuple #[])
  | .bad h p => .panicked (oops h p)
def RdOk (base P : Nat) (w : World) (s : RS) : Prop := ∃ vn vl st lv, Rdr base P w vn vl st lv s
theorem RdOk.below {base P : Nat} {w w' : World} {s : RS} (h : RdOk base P w s) (hb : Below w.heap.size w w') : RdOk base P w' s := by
  obtain ⟨vn, vl, st, lv, D⟩ := h
  exact ⟨vn, vl, st, lv, D.below hb⟩
def RdPost (base P : Nat) (w : World) (r : RdR) (e : Ending) (w' : World) : Prop := e = rdEnd r ∧ RF base w w' ∧ ∀ s', r = .ok s' → RdOk base P w' s'
/-- There is room. -/
structure Room (s : RS) : Prop where
  ns : s.ns.length ≤ 600000
  vs : s.vs.length ≤ 1000
  lo : s.lo.length ≤ 1000
  all : ∀ p ∈ s.lo, p.2.length ≤ 1000
theorem Rdr.len {base P : Nat} {w : World} {vn vl lv : Value} {st : List Rec} {s : RS} (D : Rdr base P w vn vl st lv s) : st.length = s.lo.length := by rw [← D.lo.out, List.length_map]

theorem results_none {P : Program} {fn : Func} (h : fn.results = #[]) (tmps : Array Value) (w : World) : (results fn tmps).run P w = .ok (.tuple #[]) w := by simp [results, h]
def wordR (t : ByteArray) (a : Int) (s : RS) : RdR := if t.size = 0 then .ok s else if wordOk t then .ok (s.put [wordNd t]) else .bad 3 a

set_option maxRecDepth 100000 in
set_option maxHeartbeats 3200000 in
theorem rword_any (base P B : Nat) (s : RS) (t : ByteArray) (a : Int) (w : World) (D : RdOk base P w s) (O : Room s) (hb : base ≤ w.heap.size) (hB : B ≤ w.heap.size) (hP : Pow B w) (hE : Errs B w) (ht : t.size ≤ 1048576) :
    Calls Tryd.prog 88 #[.pointer (some ⟨P, 0, none⟩), .string t, .int .i64 a] w (RdPost base P w (wordR t a s)) := by
  go_enter Tryd.func88, Tryd.ntmps88
  by_cases h0 : t.size = 0
  · have e : t = ByteArray.empty := by
      apply ByteArray.ext
      apply Array.eq_empty_of_size_eq_zero
      exact h0
    subst e
    go_wp2_with fail
    have HW : wordR ByteArray.empty a s = .ok s := rfl
    refine bodyPost_ret (results_none rfl _ _) rfl ?_
    exact ⟨by rw [HW]; rfl, RF.refl _ _, fun s' h => by rw [HW] at h; cases h; exact D⟩
  · have ht1 : ((t.toList == ([] : List UInt8)) = false) := by
      rw [ByteArray.toList_eq]
      simpa using fun e : t.data = #[] => h0 (by show t.data.size = 0; rw [e]; rfl)
    go_wp2_with fail
    refine (wordnode_any t B w hB hP hE (by unfold maxLen; omega) (by omega)).mono ?_
    rintro e w1 ⟨y, rfl, hy, hb1⟩
    have hq : (w1.alloc (ndO zeroN)).heap[w1.heap.size]? = some (ndO zeroN) := heap_alloc_new _ _
    have hs1 := hb1.size
    go_wp2_with (refine wpList_store_nd rfl _ _ rfl w1.heap.size y rfl rfl zeroN hq ?_)
    intro w2 hx2 hb2 hs2
    have hB2 : Below w.heap.size w w2 := hb1.trans ((((Below.refl _ _).alloc (Nat.le_refl _) _).trans hb2).mono hs1)
    cases hok : wordOk t with
    | false =>
      have HW : Hid (wordR t a s = .bad 3 a) := by unfold Hid wordR; rw [if_neg h0, hok]; rfl
      go_wp2_with fail
      exact ⟨rfl, by rw [HW.out]; rfl, RF.of_below hB2 hb, fun s' h => by rw [HW.out] at h; cases h⟩
    | true =>
      have hy1 : Hid (y = wordNd t) := hy hok
      have HW : Hid (wordR t a s = .ok (s.put [y])) := by unfold Hid wordR; rw [if_neg h0, hok, hy1.out]; rfl
      have hys : y.s.size ≤ maxLen := by
        rw [hy1.out]
        exact Nat.le_trans (wordNd_size t) (by unfold maxLen; omega)
      have n0 : w2.cell? ⟨w1.heap.size, 0, none⟩ = some (.int .i64 y.k) := by rw [cell_of_row w2 _ 0 _ _ _ hx2]; rfl
      have n1 : w2.cell? ⟨w1.heap.size, 1, none⟩ = some (.int .i64 y.n) := by rw [cell_of_row w2 _ 1 _ _ _ hx2]; rfl
      have n2 : w2.cell? ⟨w1.heap.size, 2, none⟩ = some (.string y.s) := by rw [cell_of_row w2 _ 2 _ _ _ hx2]; rfl
      have n3 : w2.cell? ⟨w1.heap.size, 3, none⟩ = some (.int .i64 y.a) := by rw [cell_of_row w2 _ 3 _ _ _ hx2]; rfl
      have n4 : w2.cell? ⟨w1.heap.size, 4, none⟩ = some (.int .i64 y.b) := by rw [cell_of_row w2 _ 4 _ _ _ hx2]; rfl
      have hB3 : Below w.heap.size w (w2.alloc (Obj.cells #[.int .i64 y.k, .int .i64 y.n, .string y.s, .int .i64 y.a, .int .i64 y.b] 55)) := hB2.alloc hB2.size _
      have hsz2 := hB2.size
      have own3 : (w2.alloc (Obj.cells #[.int .i64 y.k, .int .i64 y.n, .string y.s, .int .i64 y.a, .int .i64 y.b] 55)).ownsRow base 55 5 (.slice (some ⟨w2.heap.size, 0, none⟩) 1 1) [y].length (ncs [y]) :=
        ⟨rfl, .inr ⟨w2.heap.size, 1, _, rfl, by omega, heap_alloc_new _ _, Nat.le_refl _, by unfold maxLen; omega, rfl, rfl⟩⟩
      have R3 := NRow.of_own own3 (by simp) (by intro x hx; rw [List.mem_singleton] at hx; subst hx; exact hys)
      obtain ⟨vn, vl, st, lv, D1⟩ := D
      have hl := D1.len
      have o1 := O.ns
      have o2 := O.vs
      have o3 := O.lo
      clear hy hs2
      go_wp2_with fail
      refine (rput_any base P vn vl lv _ st s [y] _ (D1.below hB3) R3 (by simp) (by simp; omega) (by omega) (by omega) (by simp; omega)).mono ?_
      rintro e w4 ⟨rfl, ⟨vn', lv', D4⟩, F4⟩
      go_wp2_with fail
      go_end0
      exact ⟨by rw [HW.out]; rfl, (RF.of_below hB3 hb).trans F4, fun s' h => by rw [HW.out] at h; cases h; exact ⟨vn', vl, st, lv', D4⟩⟩

set_option maxRecDepth 100000 in
set_option maxHeartbeats 3200000 in
theorem rendlist_any (base P : Nat) (s : RS) (i : Nat) (w : World) (D : RdOk base P w s) (O : Room s) (hb : base ≤ w.heap.size) :
    Calls Tryd.prog 96 #[.pointer (some ⟨P, 0, none⟩), .int .i64 i] w (RdPost base P w (rdClose i s)) := by
  obtain ⟨vn, vl, st, lv, D1⟩ := D
  have hb0 := hb
  have hl := D1.len
  have o1 := O.ns
  have o2 := O.vs
  have o3 := O.lo
  obtain ⟨blk, nod, stk, lo, le⟩ := D1
  obtain ⟨an, cn, rfl⟩ := own_form nod
  obtain ⟨g, capo, hoe, hgb, hgl⟩ := stk.recs.form (by simp)
  rw [List.length_append, List.length_singleton] at hoe
  subst hoe
  have hst4 : st.length ≤ 1000 := by omega
  have c1 : w.cell? ⟨P, 0 + 1, none⟩ = some (.slice (some ⟨g, 0, none⟩) (st.length + 1) capo) := by rw [cell_of_row w _ 1 _ _ _ blk]; rfl
  have f1 : w.frozen? ⟨P, 0 + 1, none⟩ = false := frozen_of_row w _ 1 _ _ blk
  clear hl
  go_enter Tryd.func96, Tryd.ntmps96
  rcases List.eq_nil_or_concat st with rfl | ⟨st0, ⟨a0, lv0, zs0⟩, rfl⟩
  · have HW : Hid (rdClose i s = .bad 5 i) := by
      unfold Hid rdClose
      rw [← lo.out]
      rfl
    go_wp2_with fail
    exact ⟨rfl, by rw [HW.out]; rfl, RF.refl _ _, fun s' h => by rw [HW.out] at h; cases h⟩
  · rw [List.concat_eq_append] at *
    have hlo : Hid (s.lo = st0.map (fun e => (e.1, e.2.2)) ++ [(a0, zs0)]) := by unfold Hid; rw [← lo.out, List.map_append]; rfl
    have HW : Hid (rdClose i s = .ok ((⟨s.ns, st0.map (fun e => (e.1, e.2.2)), a0, zs0⟩ : RS).put (more s.vs s.ns.length 0))) := by
      unfold Hid rdClose
      rw [hlo.out]
      simp only [List.getLast?_concat, List.dropLast_concat]
    have hl1 : (st0 ++ [(a0, lv0, zs0)]).length = st0.length + 1 := by simp
    rw [hl1] at stk hst4 c1 blk
    have SR := stk.recs
    rw [List.length_append, hl1, List.length_singleton] at SR
    have cT := SR.cellAt ((st0.length + 1) * 2 + 1) (by omega)
    have q1 := (stC_at (st0 ++ [(a0, lv0, zs0)]) (s.a, lv, s.vs) []).2
    rw [hl1] at q1
    rw [q1] at cT
    have hcapo : st0.length + 1 ≤ capo := by
      rcases SR.2 with ⟨e, _⟩ | ⟨g', c', cur, e, _, _, h1, _⟩
      · cases e
      · simp only [Value.slice.injEq] at e
        rw [e.2.2]; omega
    have own := stk.own (s.a, lv, s.vs) (by simp)
    clear q1 SR
    rw [← hl1] at stk
    have stkp := stk.pop
    rw [hl1] at stkp
    have ne1 : ∀ {j : Nat}, (∃ cs, w.heap[j]? = some (Obj.cells cs 81 (0, 0))) ∨ (∃ cs, w.heap[j]? = some (Obj.cells cs 3 (0, 0))) → j ≠ P := by
      intro j hj e
      subst e
      rcases hj with ⟨cs, q⟩ | ⟨cs, q⟩ <;> (rw [blk] at q; cases q)
    have blk2 := heap_setCell_same w P 1 _ _ (.slice (some ⟨g, 0, none⟩) (st0.length + 1) capo) blk
    have F2 : RF base w _ := RF.of_set (o := 1) blk le (.slice (some ⟨g, 0, none⟩) (st0.length + 1) capo)
    have nod2 := ownsRow_setCell_other nod (a := ⟨P, 1, none⟩) (own_ne nod blk (by decide)) (.slice (some ⟨g, 0, none⟩) (st0.length + 1) capo)
    have stk2 : IStk base (w.setCell ⟨P, 1, none⟩ (.slice (some ⟨g, 0, none⟩) (st0.length + 1) capo)) _ _ := stkp.same fun j hj => heap_setCell_other w ⟨P, 1, none⟩ j _ (ne1 hj)
    have own2 := ownsRow_setCell_other own (a := ⟨P, 1, none⟩) (own_ne own blk (by decide)) (.slice (some ⟨g, 0, none⟩) (st0.length + 1) capo)
    have hs2 := F2.below.size
    have d0 : (w.setCell ⟨P, 1, none⟩ (.slice (some ⟨g, 0, none⟩) (st0.length + 1) capo)).cell? ⟨P, 0, none⟩ = some (.slice an s.ns.length cn) := by rw [cell_of_row _ _ 0 _ _ _ blk2]; rfl
    go_wp2_with fail
    refine (listnodes_any s.ns.length _ s.vs _ (IRow.of_own own2 (by omega)) (by omega) (by omega)).mono ?_
    rintro e w3 ⟨v3, rfl, own3, hb3⟩
    have hm3 := more_length s.vs s.ns.length 0
    have R3 := NRow.of_own own3 (by omega) (more_ok _ _ _)
    have hlen0 : st0.length ≤ 1000 := by omega
    have hz0 : zs0.length ≤ 1000 := O.all (a0, zs0) (by rw [hlo.out]; simp)
    have D2 : Rdr base P (w.setCell ⟨P, 1, none⟩ (.slice (some ⟨g, 0, none⟩) (st0.length + 1) capo)) (.slice an s.ns.length cn) (.slice (some ⟨g, 0, none⟩) (st0.length + 1) capo) st0 lv0 ⟨s.ns, st0.map (fun e => (e.1, e.2.2)), a0, zs0⟩ := ⟨blk2, nod2, stk2, rfl, le⟩
    have F3 := F2.trans (RF.of_below hb3 (by omega))
    have hs3 := F3.below.size
    have D3 := D2.below hb3
    clear D2 d0 cT c1 f1 blk2 nod2 stk2 own2 F2 own stkp stk nod blk ne1 hb3 own3
    go_wp2_with fail
    refine (rput_any base P _ _ lv0 _ st0 ⟨s.ns, st0.map (fun e => (e.1, e.2.2)), a0, zs0⟩ (more s.vs s.ns.length 0) _ D3 R3 (by omega) (by simp only; omega) (by simp only; omega) (by omega) (by omega)).mono ?_
    rintro e w4 ⟨rfl, ⟨vn', lv', D4⟩, F4⟩
    go_wp2_with fail
    go_end0
    exact ⟨by rw [HW.out]; rfl, F3.trans F4, fun s' h => by rw [HW.out] at h; cases h; exact ⟨_, _, _, _, D4⟩⟩

theorem Tryd.infoOI : (Tryd.prog.info? 81).map (fun i => (i.zero, i.size, i.bytes)) = some (some (.agg #[.int .i64 0, .slice none 0 0]), 2, 32) := by kernel_rfl

set_option maxRecDepth 100000 in
set_option maxHeartbeats 3200000 in
theorem rmark_any (base P : Nat) (s : RS) (c : Int) (i : Nat) (w : World) (D : RdOk base P w s) (O : Room s) (hb : base ≤ w.heap.size) :
    Calls Tryd.prog 89 #[.pointer (some ⟨P, 0, none⟩), .int .i32 c, .int .i64 i] w (RdPost base P w (rdMark c i s)) := by
  go_enter Tryd.func89, Tryd.ntmps89
  by_cases h32 : c = 32
  · subst h32
    have HW : Hid (rdMark 32 i s = .ok s) := rfl
    go_wp2_with fail
    go_end0
    exact ⟨by rw [HW.out]; rfl, RF.refl _ _, fun s' h => by rw [HW.out] at h; cases h; exact D⟩
  have h32' : (c == 32) = false := by simpa using h32
  by_cases h40 : c = 40
  · subst h40
    have HW : Hid (rdMark 40 i s = .ok ⟨s.ns, s.lo ++ [(s.a, s.vs)], i, []⟩) := rfl
    obtain ⟨vn, vl, st, lv, D1⟩ := D
    have hl := D1.len
    have o3 := O.lo
    obtain ⟨iO, hiO, hzO0, hzO1, hzO2⟩ := info_parts Tryd.infoOI
    obtain ⟨blk, nod, stk, lo, le⟩ := D1
    obtain ⟨an, cn, rfl⟩ := own_form nod
    obtain ⟨g, capo, hoe, hgb, hgl⟩ := stk.recs.form (by simp)
    rw [List.length_append, List.length_singleton] at hoe
    subst hoe
    have hst4 : st.length ≤ 1000 := by omega
    have c1 : w.cell? ⟨P, 0 + 1, none⟩ = some (.slice (some ⟨g, 0, none⟩) (st.length + 1) capo) := by rw [cell_of_row w _ 1 _ _ _ blk]; rfl
    clear hl
    have hPl := (Array.getElem?_eq_some_iff.1 blk).1
    have BA : Below w.heap.size w (w.alloc (Obj.cells #[.int .i64 i, .slice none 0 0] 81)) := (Below.refl w.heap.size w).alloc (Nat.le_refl _) _
    have SA := stk.below BA
    have hrl : (st ++ [(s.a, lv, s.vs)]).length = st.length + 1 := by simp
    have SR := SA.recs
    rw [hrl] at SR
    go_wp2_with (at_builtin; refine wpList_append_lies _ rfl _ _ 82 rfl base 81 iO _ 2 32 Tryd.underlying82 hiO hzO0 hzO1 hzO2 rfl (by decide) _ _ _ rfl SR ⟨w.heap.size, 0, none⟩ 1 1 [.int .i64 i, .slice none 0 0] rfl rfl (World.news_of_block (cs := #[.int .i64 i, .slice none 0 0]) (t := 81) (fr := (0, 0)) (heap_alloc_new w _)) (by simp [Value.oneCell']) (by omega) (by unfold maxLen; omega) (by omega) (by simp; omega) (w.heap.size + 1) (by simp) ?_)
    intro g2 cap2 w3 hown hgrow hat hgl2
    have S3 := SA.push i (by rw [hrl]; exact hown) hgrow
    have blkA := (BA.block P hPl).trans blk
    have blk3 := (hgrow.block P (by simp; omega) (fun e => own_ne SR blkA (by decide) e.symm)).trans blkA
    have nod3 := (own_below nod BA).kept hgrow (own_apart (own_below nod BA) SR (by decide))
    have F3 := (RF.of_below (base := base) BA hb).trans (RF.of_grown SR (by simp; omega) hgrow)
    have d1 : w3.cell? ⟨P, 0 + 1, none⟩ = some (.slice (some ⟨g, 0, none⟩) (st.length + 1) capo) := by rw [cell_of_row w3 _ 1 _ _ _ blk3]; rfl
    have f1 : w3.frozen? ⟨P, 0 + 1, none⟩ = false := frozen_of_row w3 _ 1 _ _ blk3
    have blk4 := heap_setCell_same w3 P 1 _ _ (.slice (some ⟨g2, 0, none⟩) (st.length + 1 + 1) cap2) blk3
    have F4 := F3.trans (RF.of_set (o := 1) blk3 le (.slice (some ⟨g2, 0, none⟩) (st.length + 1 + 1) cap2))
    have nod4 := ownsRow_setCell_other nod3 (a := ⟨P, 1, none⟩) (own_ne nod3 blk3 (by decide)) (.slice (some ⟨g2, 0, none⟩) (st.length + 1 + 1) cap2)
    have stk4 : IStk base (w3.setCell ⟨P, 1, none⟩ (.slice (some ⟨g2, 0, none⟩) (st.length + 1 + 1) cap2)) _ _ := S3.same fun j hj => heap_setCell_other w3 ⟨P, 1, none⟩ j _ (fun e => by
      have e' : j = P := e
      subst e'
      rcases hj with ⟨cs, q⟩ | ⟨cs, q⟩ <;> (rw [blk3] at q; cases q))
    have lo4 : Hid ((st ++ [(s.a, lv, s.vs)]).map (fun e => (e.1, e.2.2)) = s.lo ++ [(s.a, s.vs)]) := by unfold Hid; rw [List.map_append, lo.out]; rfl
    clear c1 SA SR hown hgrow hat stk nod blk S3 nod3 F3
    go_wp2_with fail
    go_end0
    exact ⟨by rw [HW.out]; rfl, F4, fun s' h => by rw [HW.out] at h; cases h; exact ⟨_, _, _, _, ⟨blk4, nod4, stk4, lo4, le⟩⟩⟩
  have h40' : (c == 40) = false := by simpa using h40
  by_cases h41 : c = 41
  · subst h41
    have HW : Hid (rdMark 41 i s = rdClose i s) := rfl
    go_wp2_with fail
    refine (rendlist_any base P s i w D O hb).mono ?_
    rintro e w1 ⟨he, F1, D1⟩
    cases hr : rdClose i s with
    | ok s' =>
      have he2 : e = .returned (.tuple #[]) := by rw [he, hr]; rfl
      subst he2
      go_wp2_with fail
      go_end0
      exact ⟨by rw [HW.out, hr]; rfl, F1, fun s2 h => by rw [HW.out] at h; exact D1 s2 h⟩
    | bad h p =>
      have he2 : e = .panicked (oops h p) := by rw [he, hr]; rfl
      subst he2
      exact ⟨rfl, by rw [HW.out, hr]; rfl, F1, fun s2 h => by rw [HW.out] at h; exact D1 s2 h⟩
  have h41' : (c == 41) = false := by simpa using h41
  have HW : Hid (rdMark c i s = .bad 2 i) := by unfold Hid rdMark; rw [if_neg h32, if_neg h40, if_neg h41]
  go_wp2_with fail
  exact ⟨rfl, by rw [HW.out]; rfl, RF.refl _ _, fun s' h => by rw [HW.out] at h; cases h⟩
end Go.Proofs.YtmgjefkelohocaaDoor
