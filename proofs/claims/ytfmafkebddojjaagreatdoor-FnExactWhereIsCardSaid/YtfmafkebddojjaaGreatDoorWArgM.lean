/-
  What a world that came in reads as. Nothing of the program; no condition.
-/
import Derived.Test.YtfmafkebddojjaaGreatDoorWHomeM
import Derived.Test.YtfmafkebddojjaaGreatDoorDfArgM
set_option maxRecDepth 100000
set_option maxHeartbeats 3200000
namespace Go.Proofs.YtfmafkebddojjaaGreatDoor
open Go.ChangeShapes Go.WideShapes Go.ChangeAt Go.RowKit Go.Deep
section
variable {H : Type} {enc : TypeId × Value -> H} {w : World} {base : Nat} {spare : Nat -> Bool} {held : Bool}
theorem Zeg {α : Type} [Inhabited α] {T t : TypeId} {k : Nat} (hT : Tryz.prog.underlying T = some (.slice t)) (hk : Tryz.prog.cellsOf t = k) (hk0 : 0 < k) {E : Nat -> World -> List Value -> α -> Prop}
  (hE : ∀ (fuel : Nat) (cs : List Value) (y : DataW H × List MemPlace), DataW.trod enc Tryz.prog w base spare held fuel t cs = some y -> ∃ x, cs.length = k /\ E 0 w cs x)
  {fuel : Nat} {v' : Value} {y0 : DataW H × List MemPlace} (h0 : DataW.trod enc Tryz.prog w base spare held fuel T [v'] = some y0) : ∃ xs, XRow 0 k E w v' xs := by
 rcases open_slice hT h0 with ⟨hcs, _⟩ | ⟨a, len, cap, m, n, D, Pl, hcs, _, hl, hm, hmm, _, hx⟩
 ·simp at hcs
  subst hcs
  exact ⟨[], none, 0, rfl, by simp, by simp, fun h => absurd rfl h⟩
 ·simp at hcs
  subst hcs
  have hlm : len <= m := by rw [hmm]; split <;> omega
  rw [hk] at hx
  have each : ∀ i, i < m -> ∃ q : List Value × α, (q.1.length = k /\ E 0 w q.1 q.2) /\ ∀ j, j < k -> w.cell? (a.add (i * k + j)) = q.1[j]? := by
   intro i hi
   obtain ⟨cs', h1, h2⟩ := hx i hi
   obtain ⟨x, hl, he⟩ := hE _ _ _ h2
   obtain ⟨_, hlen, hcell⟩ := World.cells?_some h1
   refine ⟨(cs', x), ⟨hl, he⟩, fun j hj => ?_⟩
   have := hcell j (by omega)
   rw [add_add] at this
   rw [this]
  obtain ⟨q, hq⟩ := choose_lt each
  refine ⟨(List.range len).map fun i => (q i).2, some a, cap, ?_, ?_, ?_, ?_⟩
  ·simp
  ·exact ⟨by simp; omega, fun h => by cases h⟩
  ·unfold maxLen at hm; simp; omega
  ·intro hne
   have hpos : 0 < len := by
    rcases Nat.eq_zero_or_pos len with h0 | h0
    ·subst h0; simp at hne
    ·exact h0
   obtain ⟨b, off, spot⟩ := a
   obtain ⟨⟨hl0, _⟩, hc0⟩ := hq 0 (by omega)
   have hc := hc0 0 hk0
   obtain ⟨u0, hu0⟩ : ∃ u, (q 0).1[0]? = some u := ⟨_, List.getElem?_eq_getElem (by omega)⟩
   rw [hu0] at hc
   have hspot : spot = none := by simpa [Addr.add] using World.cell?_spot hc
   subst hspot
   have hb := World.block_lt_of_cell? _ _ hc
   refine ⟨b, off, rfl, Nat.zero_le _, by simpa [Addr.add_lit] using hb, fun i x hi => ?_⟩
   have hil : i < len := by
    have := (List.getElem?_eq_some_iff.1 hi).1
    simpa using this
   have hxe : x = (q i).2 := by
    rw [List.getElem?_map, List.getElem?_range hil] at hi
    simpa using hi.symm
   subst hxe
   obtain ⟨⟨h1, h2⟩, h3⟩ := hq i (by omega)
   refine ⟨(q i).1, h1, fun j u hj => ?_, h2⟩
   have hjk : j < k := by have := (List.getElem?_eq_some_iff.1 hj).1; omega
   have := h3 j hjk
   rw [Addr.add_lit] at this
   rw [Nat.add_assoc, this]
   exact hj
theorem ZhS (fuel : Nat) (cs : List Value) (y : DataW H × List MemPlace) (hf : DataW.trod enc Tryz.prog w base spare held fuel 111 cs = some y) : ∃ h : Hm, cs.length = 12 /\ EH 0 w cs h := by
 obtain ⟨xs, n, _, _, hl, hlen, hff⟩ := DataW.trod_struct Tryz.underlying111 hf
 rw [show Tryz.prog.cellsOf 111 = 12 by kernel_rfl] at hl
 match cs, hl with
 | [v0, v1, v2, v3, v4, v5, v6, v7, v8, v9, v10, v11], _ =>
  have g0 := hff 0 _ rfl
  have g1 := hff 1 _ rfl
  have i0 : Tryz.prog.cellsOf 3 = 1 := by kernel_rfl
  have i1 : Tryz.prog.cellsOf 109 = 11 := by kernel_rfl
  match xs, hlen with
  | [y0, y1], _ =>
   simp [i0, i1] at g0 g1
   obtain ⟨m0, e0, _⟩ := DataW.trod_int Tryz.underlying3 g0
   simp only [List.cons.injEq, and_true] at e0
   subst e0
   obtain ⟨xs, n, _, _, hl, hlen, hff⟩ := DataW.trod_struct Tryz.underlying109 g1
   have k0 := hff 0 _ rfl
   have k1 := hff 1 _ rfl
   have k2 := hff 2 _ rfl
   have k3 := hff 3 _ rfl
   have i2 : Tryz.prog.cellsOf 107 = 8 := by kernel_rfl
   have i3 : Tryz.prog.cellsOf 54 = 1 := by kernel_rfl
   match xs, hlen with
   | [z0, z1, z2, z3], _ =>
    simp [i0, i2, i3] at k0 k1 k2 k3
    obtain ⟨m1, e1, _⟩ := DataW.trod_int Tryz.underlying3 k0
    simp only [List.cons.injEq, and_true] at e1
    subst e1
    obtain ⟨xs, m, rfl, rfl, rfl, rfl, rfl, rfl, rfl, R⟩ := Zg6 k1
    obtain ⟨bx, Rb⟩ := Zca k2
    obtain ⟨ox, Ro⟩ := Zca k3
    exact ⟨⟨m0, m1, xs, m, bx, ox⟩, rfl, v2, v10, v11, rfl, R, Rb, Ro, Fr.zero _, Fr.zero _, Fr.zero _⟩
theorem ZhX (fuel : Nat) (cs : List Value) (y : DataW H × List MemPlace) (hf : DataW.trod enc Tryz.prog w base spare held fuel 115 cs = some y) : ∃ l : Lk, cs.length = 5 /\ EL 0 w cs l := by
 obtain ⟨xs, n, _, _, hl, hlen, hff⟩ := DataW.trod_struct Tryz.underlying115 hf
 rw [show Tryz.prog.cellsOf 115 = 5 by kernel_rfl] at hl
 match cs, hl with
 | [v0, v1, v2, v3, v4], _ =>
  have g0 := hff 0 _ rfl
  have g1 := hff 1 _ rfl
  have g2 := hff 2 _ rfl
  have g3 := hff 3 _ rfl
  have g4 := hff 4 _ rfl
  have i0 : Tryz.prog.cellsOf 3 = 1 := by kernel_rfl
  have i1 : Tryz.prog.cellsOf 54 = 1 := by kernel_rfl
  have i2 : Tryz.prog.cellsOf 113 = 1 := by kernel_rfl
  match xs, hlen with
  | [y0, y1, y2, y3, y4], _ =>
   simp [i0, i1, i2] at g0 g1 g2 g3 g4
   obtain ⟨m0, e0, _⟩ := DataW.trod_int Tryz.underlying3 g0
   obtain ⟨m1, e1, _⟩ := DataW.trod_int Tryz.underlying3 g1
   obtain ⟨m3, e3, _⟩ := DataW.trod_int Tryz.underlying3 g3
   obtain ⟨ss, R1⟩ := Zca g2
   obtain ⟨ps, R2⟩ := Zkx g4
   simp only [List.cons.injEq, and_true] at e0 e1 e3
   subst e0 e1 e3
   exact ⟨⟨m0, m1, ss, m3, ps⟩, rfl, v2, v4, rfl, R1, R2, Fr.zero _, Fr.zero _⟩
theorem Zh3 (fuel : Nat) (cs : List Value) (y : DataW H × List MemPlace) (hf : DataW.trod enc Tryz.prog w base spare held fuel 119 cs = some y) : ∃ g : Gm, cs.length = 5 /\ EG 0 w cs g := by
 obtain ⟨xs, n, _, _, hl, hlen, hff⟩ := DataW.trod_struct Tryz.underlying119 hf
 rw [show Tryz.prog.cellsOf 119 = 5 by kernel_rfl] at hl
 match cs, hl with
 | [v0, v1, v2, v3, v4], _ =>
  have g0 := hff 0 _ rfl
  have g1 := hff 1 _ rfl
  have g2 := hff 2 _ rfl
  have g3 := hff 3 _ rfl
  have i0 : Tryz.prog.cellsOf 3 = 1 := by kernel_rfl
  have i1 : Tryz.prog.cellsOf 117 = 2 := by kernel_rfl
  match xs, hlen with
  | [y0, y1, y2, y3], _ =>
   simp [i0, i1] at g0 g1 g2 g3
   obtain ⟨m0, e0, _⟩ := DataW.trod_int Tryz.underlying3 g0
   obtain ⟨m1, e1, _⟩ := DataW.trod_int Tryz.underlying3 g1
   obtain ⟨m2, e2, _⟩ := DataW.trod_int Tryz.underlying3 g2
   simp only [List.cons.injEq, and_true] at e0 e1 e2
   subst e0 e1 e2
   obtain ⟨nd, hc, hs⟩ := ZgX g3
   simp only [Pc.cs, List.cons.injEq, and_true] at hc
   obtain ⟨rfl, rfl⟩ := hc
   exact ⟨⟨m0, m1, m2, nd.n, nd.s⟩, rfl, rfl, hs⟩
theorem Zfv (fuel : Nat) (cs : List Value) (y : DataW H × List MemPlace) (hf : DataW.trod enc Tryz.prog w base spare held fuel 122 cs = some y) : ∃ p : Pd, cs.length = 3 /\ EP 0 w cs p := by
 obtain ⟨xs, n, _, _, hl, hlen, hff⟩ := DataW.trod_struct Tryz.underlying122 hf
 rw [show Tryz.prog.cellsOf 122 = 3 by kernel_rfl] at hl
 match cs, hl with
 | [v0, v1, v2], _ =>
  have g0 := hff 0 _ rfl
  have g1 := hff 1 _ rfl
  have g2 := hff 2 _ rfl
  have i0 : Tryz.prog.cellsOf 3 = 1 := by kernel_rfl
  have i1 : Tryz.prog.cellsOf 9 = 1 := by kernel_rfl
  match xs, hlen with
  | [y0, y1, y2], _ =>
   simp [i0, i1] at g0 g1 g2
   obtain ⟨m0, e0, _⟩ := DataW.trod_int Tryz.underlying3 g0
   obtain ⟨m1, e1, _⟩ := DataW.trod_int Tryz.underlying3 g1
   obtain ⟨m2, e2, _, hs⟩ := DataW.trod_string Tryz.underlying9 g2
   simp only [List.cons.injEq, and_true] at e0 e1 e2
   subst e0 e1 e2
   exact ⟨⟨m0, m1, m2⟩, rfl, rfl, hs⟩
theorem Zed (fuel : Nat) (cs : List Value) (y : DataW H × List MemPlace) (hf : DataW.trod enc Tryz.prog w base spare held fuel 54 cs = some y) : ∃ ts, cs.length = 1 /\ ES 0 w cs ts := by
 rcases open_slice Tryz.underlying54 hf with ⟨hcs, _⟩ | ⟨a, len, cap, m, n, D, Pl, hcs, _⟩
 ·subst hcs
  obtain ⟨ts, R⟩ := Zca hf
  exact ⟨ts, rfl, _, rfl, R, Fr.zero _⟩
 ·subst hcs
  obtain ⟨ts, R⟩ := Zca hf
  exact ⟨ts, rfl, _, rfl, R, Fr.zero _⟩
theorem Zhn {v : Value} {d : DataW H} {p : List MemPlace} (hv : Value.okWide Tryz.prog w .any base 35 v) (h : DataW.Trod enc Tryz.prog w 0 (fun _ => true) true 35 v d p) :
  ∃ vn vi vf vh vl vg vp va vt, ∃ d : Wd, v = .agg #[vn, vi, vf, .int .i64 d.pl, vh, vl, vg, vp, .int .i64 d.nx, va, vt] /\ WR 0 w vn vi vf vh vl vg vp va vt d := by
 haveI : Inhabited Hm := ⟨⟨0, 0, [], ⟨0, 0, 0, 0, 0, 0, 0⟩, [], []⟩⟩
 haveI : Inhabited Lk := ⟨⟨0, 0, [], 0, []⟩⟩
 haveI : Inhabited Gm := ⟨⟨0, 0, 0, 0, ByteArray.empty⟩⟩
 haveI : Inhabited Pd := ⟨⟨0, 0, ByteArray.empty⟩⟩
 obtain ⟨cs, rfl, hsz⟩ := okWide_struct Tryz.underlying35 hv
 rw [show Tryz.prog.cellsOf 35 = 11 by kernel_rfl] at hsz
 obtain ⟨fuel, hf⟩ := h
 obtain ⟨v0, v1, v2, v3, v4, v5, v6, v7, v8, v9, v10, rfl⟩ : ∃ v0 v1 v2 v3 v4 v5 v6 v7 v8 v9 v10, cs = #[v0, v1, v2, v3, v4, v5, v6, v7, v8, v9, v10] := by
  obtain ⟨l⟩ := cs
  match l, hsz with
  | [v0, v1, v2, v3, v4, v5, v6, v7, v8, v9, v10], _ => exact ⟨v0, v1, v2, v3, v4, v5, v6, v7, v8, v9, v10, rfl⟩
 obtain ⟨xs, n, _, _, hl, hlen, hff⟩ := DataW.trod_struct Tryz.underlying35 hf
 have g0 := hff 0 _ rfl
 have g1 := hff 1 _ rfl
 have g2 := hff 2 _ rfl
 have g3 := hff 3 _ rfl
 have g4 := hff 4 _ rfl
 have g5 := hff 5 _ rfl
 have g6 := hff 6 _ rfl
 have g7 := hff 7 _ rfl
 have g8 := hff 8 _ rfl
 have i0 : Tryz.prog.cellsOf 3 = 1 := by kernel_rfl
 have i1 : Tryz.prog.cellsOf 28 = 3 := by kernel_rfl
 have i2 : Tryz.prog.cellsOf 29 = 1 := by kernel_rfl
 have i3 : Tryz.prog.cellsOf 30 = 1 := by kernel_rfl
 have i4 : Tryz.prog.cellsOf 31 = 1 := by kernel_rfl
 have i5 : Tryz.prog.cellsOf 32 = 1 := by kernel_rfl
 have i6 : Tryz.prog.cellsOf 33 = 1 := by kernel_rfl
 match xs, hlen with
 | [y0, y1, y2, y3, y4, y5, y6, y7, y8], _ =>
  simp [Value.cells, i0, i1, i2, i3, i4, i5, i6] at g0 g1 g2 g3 g4 g5 g6 g7 g8
  obtain ⟨m1, e1, _⟩ := DataW.trod_int Tryz.underlying3 g1
  obtain ⟨m6, e6, _⟩ := DataW.trod_int Tryz.underlying3 g6
  simp only [List.cons.injEq, and_true] at e1 e6
  subst e1 e6
  obtain ⟨hs, Rh⟩ := Zeg (α := Hm) Tryz.underlying29 (k := 12) (by kernel_rfl) (by decide) ZhS g2
  obtain ⟨ls, Rl⟩ := Zeg (α := Lk) Tryz.underlying30 (k := 5) (by kernel_rfl) (by decide) ZhX g3
  obtain ⟨gs, Rg⟩ := Zeg (α := Gm) Tryz.underlying31 (k := 5) (by kernel_rfl) (by decide) Zh3 g4
  obtain ⟨ps, Rp⟩ := Zeg (α := Pd) Tryz.underlying32 (k := 3) (by kernel_rfl) (by decide) Zfv g5
  obtain ⟨ga, Ra⟩ := Zeg (α := List ByteArray) Tryz.underlying33 (k := 1) (by kernel_rfl) (by decide) Zed g7
  obtain ⟨tk, Rt⟩ := Zeg (α := List ByteArray) Tryz.underlying33 (k := 1) (by kernel_rfl) (by decide) Zed g8
  obtain ⟨xs, n, _, _, hl, hlen, hff⟩ := DataW.trod_struct Tryz.underlying28 g0
  have k0 := hff 0 _ rfl
  have k1 := hff 1 _ rfl
  have k2 := hff 2 _ rfl
  have j0 : Tryz.prog.cellsOf 24 = 1 := by kernel_rfl
  have j1 : Tryz.prog.cellsOf 25 = 1 := by kernel_rfl
  have j2 : Tryz.prog.cellsOf 26 = 1 := by kernel_rfl
  match xs, hlen with
  | [z0, z1, z2], _ =>
   simp [j0, j1, j2] at k0 k1 k2
   obtain ⟨q0, n', _, _, h0⟩ := trod_struct1 Tryz.underlying24 k0
   have i3 : Tryz.prog.cellsOf 22 = 1 := by kernel_rfl
   simp [i3] at h0
   obtain ⟨ns, R1⟩ := ZgK h0
   obtain ⟨is, R2⟩ := Zkc k1
   obtain ⟨ds, R3⟩ := Zkr k2
   exact ⟨v0, v1, v2, v4, v5, v6, v7, v9, v10, ⟨ns, is, ds, m1, hs, ls, gs, ps, m6, ga, tk⟩, rfl, R1, R2, R3, Rh, Rl, Rg, Rp, Ra, Rt, Fr.zero _, Fr.zero _, Fr.zero _⟩
end
end Go.Proofs.YtfmafkebddojjaaGreatDoor
