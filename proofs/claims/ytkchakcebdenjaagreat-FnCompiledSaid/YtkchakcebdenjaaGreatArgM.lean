/-
  Texts that stood by themselves, laid into one.
-/
import Derived.Test.YtkchakcebdenjaaGreatCpQM
import Derived.Test.YtkchakcebdenjaaGreatLFCrM
import Derived.Test.YtkchakcebdenjaaGreatDCpM
import Derived.Test.YtkchakcebdenjaaGreatMkListM
import Derived.Test.YtkchakcebdenjaaGreatDefOfM
import Derived.Test.YtkchakcebdenjaaGreatShapeM
import Derived.ProofKit
import Derived.OpenShut
import Derived.ShutString
import Derived.ChangeOld
import Derived.Below
/-
  The law FnCompiled, walked: at every argument it returns true.
-/
namespace Go.Proofs.YtkchakcebdenjaaGreat
open Go.RowKit
theorem dfsB_at {all : List Df} {n2 : Nat} : ∀ {ds : List Df} {i : Nat}, dfsB all n2 ds i = true → ∀ {k : Nat} {d : Df}, ds[k]? = some d → dfB all n2 d (i + k) = true
  | [], _, _, k, d, h => by simp at h
  | x :: ds, i, hb, k, d, h => by
    unfold dfsB at hb
    simp only [Bool.and_eq_true] at hb
    cases k with
    | zero => simp at h; subst h; exact hb.1
    | succ k =>
      have := dfsB_at hb.2 (k := k) (by simpa using h)
      rw [show i + (k + 1) = i + 1 + k by omega]
      exact this
theorem insB_at {n1 n2 : Nat} : ∀ {is : List In} {i : Nat}, insB is i n1 n2 = true → ∀ {k : Nat} {x : In}, is[k]? = some x → instrB x ((i + k : Nat) : Int) n1 n2 = true
  | [], _, _, k, d, h => by simp at h
  | x :: ds, i, hb, k, d, h => by
    unfold insB at hb
    simp only [Bool.and_eq_true] at hb
    cases k with
    | zero => simp at h; subst h; exact hb.1
    | succ k =>
      have := insB_at hb.2 (k := k) (by simpa using h)
      rw [show i + (k + 1) = i + 1 + k by omega]
      exact this
theorem codeB_def {ns : List Nd} {is : List In} {ds : List Df} (h : codeB ns is ds = true) {k : Nat} {d : Df} (hk : ds[k]? = some d) :
    dfIdx ds d.s 0 = (k : Int) ∧ ∃ (m : Nat) (x : In), d.p = (m : Int) ∧ m < is.length ∧ is[m]? = some x ∧ x.o ≠ 0 := by
  unfold codeB at h
  simp only [Bool.and_eq_true] at h
  have h1 := dfsB_at h.2.2 hk
  unfold dfB at h1
  simp only [Bool.and_eq_true, decide_eq_true_eq, beq_iff_eq, Nat.zero_add] at h1
  obtain ⟨⟨⟨_, h2⟩, h3, h4⟩, _⟩ := h1
  obtain ⟨m, hm⟩ := Int.eq_ofNat_of_zero_le h3
  have hlt : m < is.length := by omega
  have h5 := insB_at h.1.2.2 (k := m) (x := is[m]) (by simp [hlt])
  refine ⟨h2, m, is[m], hm, hlt, by simp [hlt], fun e => ?_⟩
  unfold instrB at h5
  simp [e] at h5
set_option maxRecDepth 100000 in
set_option maxHeartbeats 400000 in
theorem fcompiled_big (ao : Option Addr) (len cap : Nat) (w : World) (hl : 1048576 < len) (hm : len ≤ 9223372036854775807) :
    Calls Tryz.prog 4 #[.slice ao len cap] w fun e w' => e = .returned (.bool true) ∧ Below w.heap.size w w' := by
  go_enter Tryz.func4, Tryz.ntmps4
  go_wp2_with (go_at_call 17; go_in)
  go_ret
  exact ⟨rfl, Below.refl _ _⟩
set_option maxRecDepth 100000 in
set_option maxHeartbeats 6400000 in
theorem fcompiled_small (ao : Option Addr) (cap : Nat) (zs : List Int) (w : World) (R : Row w (.slice ao zs.length cap) zs) (hl : zs.length ≤ 1048576) :
    Calls Tryz.prog 4 #[.slice ao zs.length cap] w fun e w' => e = .returned (.bool true) ∧ Below w.heap.size w w' := by
  go_enter Tryz.func4, Tryz.ntmps4
  go_wp2_with (go_at_call 17; go_in)
  refine (dcompile_any _ zs w R hl).mono ?_
  rintro e w1 ⟨v1, vl, xs, l, rfl, hxl, hxs, hll, O1, I1, b1⟩
  obtain ⟨a1, q1, rfl⟩ := own_form O1
  obtain ⟨al, ql, rfl⟩ := own_form I1
  have hz : ∀ x ∈ xs, x.s.size ≤ maxLen := fun x hx => Nat.le_trans (hxs x hx) (by unfold maxLen; omega)
  have hBx : Below w1.heap.size w1 (w1.alloc (Obj.cells #[.slice a1 xs.length q1] 29)) := (Below.refl _ _).alloc (Nat.le_refl _) _
  have hx2 := heap_alloc_new w1 (Obj.cells #[.slice a1 xs.length q1] 29)
  have O2 := own_below O1 hBx
  have I2 := own_below I1 hBx
  have hB2 := b1.trans (hBx.mono b1.size)
  clear O1 I1 b1 hBx R
  obtain ⟨⟨y1, y2, y3⟩, n1, n2, n3⟩ := compR_ok xs l hz
  have Q := compR_q xs l
  have ST := fun (u v : Value) (W : World) (R : NRow W u xs) (T : TRow W v l) => scompile_any u xs v l W R T (by omega) (by omega)
  have IT := fun (u v : Value) (W : World) (R : NRow W u xs) (T : TRow W v l) (TI : IRow W v l) => icompile_any u xs v l W R T TI (by omega) (by omega)
  generalize compR xs l = cc at *
  obtain ⟨⟨ns, is, ds⟩, how, at9⟩ := cc
  obtain ⟨Qb, Qo⟩ := Q
  dsimp only at y1 y2 y3 n1 n2 n3 Qb Qo
  go_wp2_with fail
  generalize w1.alloc (Obj.cells #[.slice a1 xs.length q1] 29) = w2 at *
  generalize w1.heap.size = bx at *
  refine (IT _ _ _ (NRow.of_own O2 (by omega) hz) (TRow.of_own I2) (IRow.of_own I2 (by omega))).mono ?_
  rintro e w3 ⟨p1, p2, p3, rfl, o1, o2, o3, hb3⟩
  obtain ⟨d1, e1, rfl⟩ := own_form o1
  obtain ⟨d2, e2, rfl⟩ := own_form o2
  obtain ⟨d3, e3, rfl⟩ := own_form o3
  obtain ⟨V4, hB4, hc4⟩ := VarC.new (c := (ns, is, ds)) hB2 hb3 o1 o2 o3
  dsimp only at V4
  have O4 := own_below O2 hc4
  have I4 := own_below I2 hc4
  have hx4 := (hc4.block _ (Array.getElem?_eq_some_iff.1 hx2).1).trans hx2
  have hk3 : w3.cell? ⟨bx, 0, none⟩ = some (.slice a1 xs.length q1) := by rw [cell_of_row w3 _ 0 _ _ _ ((hb3.block _ (Array.getElem?_eq_some_iff.1 hx2).1).trans hx2)]; rfl
  have k4 : (w3.alloc (Obj.cells #[.slice d1 ns.length e1, .slice d2 is.length e2, .slice d3 ds.length e3] 33)).cell? ⟨bx, 0, none⟩ = some (.slice a1 xs.length q1) := by rw [cell_of_row _ _ 0 _ _ _ hx4]; rfl
  clear O2 I2 hB2 hx2 hb3 o1 o2 o3 hc4 hk3
  go_wp2_with fail
  generalize w3.alloc (Obj.cells #[.slice d1 ns.length e1, .slice d2 is.length e2, .slice d3 ds.length e3] 33) = w4 at *
  generalize w3.heap.size = b4 at *
  generalize w2.heap.size = lo4 at *
  refine (ST _ _ _ (NRow.of_own O4 (by omega) hz) (TRow.of_own I4)).mono ?_
  rintro e w5 ⟨p1, p2, p3, rfl, o1, o2, o3, hb5⟩
  obtain ⟨f1, g1, rfl⟩ := own_form o1
  obtain ⟨f2, g2, rfl⟩ := own_form o2
  obtain ⟨f3, g3, rfl⟩ := own_form o3
  obtain ⟨_, hB6, hc6⟩ := VarC.new (c := (ns, is, ds)) hB4 hb5 o1 o2 o3
  have V6 := V4.below hc6
  clear O4 I4 hB4 hx4 k4 hb5 o1 o2 o3 hc6 V4 ST IT
  have hne1 : (how != how) = false := by simp
  have hne2 : (at9 != at9) = false := by simp
  by_cases hh : how = 0
  · obtain ⟨hcb, ha9, hdl0, hasc⟩ := Qo hh
    have hdl : Hid (ds.length = l.length) := hdl0
    clear hdl0
    have hhf : (how != 0) = false := by simp [hh]
    clear Qb Qo
    subst ha9
    go_wp2_with fail
    generalize w5.alloc (Obj.cells #[.slice f1 ns.length g1, .slice f2 is.length g2, .slice f3 ds.length g3] 33) = w6 at *
    go_loopw [11] (fun i wr => ∃ k : Nat, k ≤ ds.length ∧ i = .int .i64 k ∧ VarC wr b4 lo4 b4 (.slice d1 ns.length e1) (.slice d2 is.length e2) (.slice d3 ds.length e3) (ns, is, ds) ∧ Below w.heap.size w wr) (fun i _ => ds.length - (intOf i).toNat)
    case atStart => exact ⟨0, Nat.zero_le _, rfl, V6, hB6⟩
    case round =>
      clear V6 hB6
      obtain ⟨k, hk, rfl, V, hB⟩ := hrel
      obtain ⟨c0, c1, c2, _, _, _⟩ := cells3 V.blk
      by_cases hlt : k < ds.length
      · obtain ⟨d, hd⟩ : ∃ d, ds[k]? = some d := ⟨ds[k], by simp [hlt]⟩
        obtain ⟨hdi, m, x, hdp, hml, hxm, hx0⟩ := codeB_def hcb hd
        have R3 := DfRow.of_own V.o3 (by dsimp only; omega) n3
        have R3' := R3
        obtain ⟨ao3, cap3, e3', _, _, _, hc3⟩ := R3'
        obtain ⟨g, o, rfl, hg, hc3⟩ := hc3 (by rintro rfl; simp at hlt)
        obtain ⟨rfl, rfl⟩ : d3 = some ⟨g, o, none⟩ ∧ e3 = cap3 := by cases e3'; exact ⟨rfl, rfl⟩
        obtain ⟨ao2, cap2, e2', _, _, _, hc2⟩ := InRow.of_own V.o2 (by dsimp only; omega) n2
        obtain ⟨gi, oi, rfl, hgi, hc2⟩ := hc2 (by rintro rfl; simp at hml)
        obtain ⟨rfl, rfl⟩ : d2 = some ⟨gi, oi, none⟩ ∧ e2 = cap2 := by cases e2'; exact ⟨rfl, rfl⟩
        obtain ⟨u0, u1, _⟩ := hc3 k d hd
        rw [hdp] at u1
        obtain ⟨t0, _⟩ := hc2 m x hxm
        have hlt' : (k : Int) < ds.length := by omega
        have hml' : (m : Int) < is.length := by omega
        have hb4l := V.lt
        have hxe : (x.o == 0) = false := by simpa using hx0
        rcases Nat.eq_zero_or_pos k with rfl | hk0
        · simp only [Nat.zero_mul, Nat.add_zero] at u0 u1
          have HC : ∀ W, Below wr.heap.size wr W → Calls Tryz.prog 19 #[.agg #[.slice d1 ns.length e1, .slice (some ⟨gi, oi, none⟩) is.length e2, .slice (some ⟨g, o, none⟩) ds.length e3], .string d.s] W fun e w' => e = .returned (.int .i64 0) ∧ Below W.heap.size W w' := fun W hb => by
            refine (idefof_any _ _ _ _ _ _ _ ds d.s W (R3.below hb)).mono ?_
            rintro e w' ⟨rfl, hb'⟩
            exact ⟨by rw [hdi]; rfl, hb'⟩
          clear c0 c1 hc2 hc3
          go_wp2_with fail
          refine lfc_r13z b4 g o gi oi m ns.length is.length ds.length e1 e2 e3 d1 x.o d.s _ _ V.blk hg hgi u0 u1 t0 hlt hml hxe HC ?_
          intro u74' u75' u76' u77' u78' u79' u80' u81' u82' u83' u84' u85' u86' u87' u88' u89' u90' u91' u92' u93' u94' u95' u96' u97' u98' u99' u100' u101' u102' u103' u104' u105' u106' u107' u108' u109' u110' u111' u112' u113' u114' u115' u116' w9 hb89
          have V9 := V.below hb89
          have hB9 := hB.trans (hb89.mono hB.size)
          clear hb89 V hB HC u0 u1 t0 c2
          go_wp2_with fail
          go_roundw
          case rel => exact ⟨1, by omega, by go_num, V9, hB9⟩
          case measure => simp [intOf]; omega
        · obtain ⟨j, hj0⟩ : ∃ j : Nat, k = j + 1 := ⟨k - 1, by omega⟩
          obtain ⟨d', hd'⟩ : ∃ d', ds[j]? = some d' := ⟨ds[j]'(by omega), by simp⟩
          have hasc' : d'.p < (m : Int) := by rw [← hdp]; exact hasc j d' d hd' (by rw [← hj0]; exact hd)
          have hge : decide (d'.p ≥ (m : Int)) = false := by simp; omega
          obtain ⟨_, t1, _⟩ := hc3 j d' hd'
          have W1 : IntKind.i64.wrap ((k : Int) - 1) = (j : Int) := by rw [IntKind.wrap_i64]; omega
          have hjl : (j : Int) < ds.length := by omega
          have hkg : decide ((k : Int) > 0) = true := by simp; omega
          have hk0' : (k : Int) > 0 := by omega
          clear hj0 hd' hasc hdp
          have sS : wr.cell? ⟨b4, 0, none⟩ = some (.slice d1 ns.length e1) ∧ wr.cell? ⟨b4, 1, none⟩ = some (.slice (some ⟨gi, oi, none⟩) is.length e2) ∧ wr.cell? ⟨b4, 2, none⟩ = some (.slice (some ⟨g, o, none⟩) ds.length e3) ∧ wr.cell? ⟨g, o + k * 3, none⟩ = some (.string d.s) ∧ wr.cell? ⟨g, o + k * 3 + 1, none⟩ = some (.int .i64 m) ∧ wr.cell? ⟨g, o + j * 3 + 1, none⟩ = some (.int .i64 d'.p) ∧ wr.cell? ⟨gi, oi + m * 4, none⟩ = some (.int .i64 x.o) := ⟨c0, c1, c2, u0, u1, t1, t0⟩
          clear c0 c1 c2 u0 u1 t0 t1 hc2 hc3
          go_wp2_with fail
          go_region_held (fun w' => w'.cell? ⟨b4, 0, none⟩ = some (.slice d1 ns.length e1) ∧ w'.cell? ⟨b4, 1, none⟩ = some (.slice (some ⟨gi, oi, none⟩) is.length e2) ∧ w'.cell? ⟨b4, 2, none⟩ = some (.slice (some ⟨g, o, none⟩) ds.length e3) ∧ w'.cell? ⟨g, o + k * 3, none⟩ = some (.string d.s) ∧ w'.cell? ⟨g, o + k * 3 + 1, none⟩ = some (.int .i64 m) ∧ w'.cell? ⟨g, o + j * 3 + 1, none⟩ = some (.int .i64 d'.p) ∧ w'.cell? ⟨gi, oi + m * 4, none⟩ = some (.int .i64 x.o)) (first | exact s9 | go_keep) (first
            | (go_at_call 19; refine (idefof_any _ _ _ _ _ _ _ ds d.s _ ?_).mono ?_; exact R3.below (Below.refl _ _).drew; rintro e w9 ⟨rfl, hb9⟩
               have hb89 : Below wr.heap.size wr w9 := step_drew hb9
               have s9 : w9.cell? ⟨b4, 0, none⟩ = some (.slice d1 ns.length e1) ∧ w9.cell? ⟨b4, 1, none⟩ = some (.slice (some ⟨gi, oi, none⟩) is.length e2) ∧ w9.cell? ⟨b4, 2, none⟩ = some (.slice (some ⟨g, o, none⟩) ds.length e3) ∧ w9.cell? ⟨g, o + k * 3, none⟩ = some (.string d.s) ∧ w9.cell? ⟨g, o + k * 3 + 1, none⟩ = some (.int .i64 m) ∧ w9.cell? ⟨g, o + j * 3 + 1, none⟩ = some (.int .i64 d'.p) ∧ w9.cell? ⟨gi, oi + m * 4, none⟩ = some (.int .i64 x.o) := ⟨(hb89.cell (p := ⟨b4, 0, none⟩) hb4l).trans sS.1, (hb89.cell (p := ⟨b4, 1, none⟩) hb4l).trans sS.2.1, (hb89.cell (p := ⟨b4, 2, none⟩) hb4l).trans sS.2.2.1, (hb89.cell (p := ⟨g, o + k * 3, none⟩) hg).trans sS.2.2.2.1, (hb89.cell (p := ⟨g, o + k * 3 + 1, none⟩) hg).trans sS.2.2.2.2.1, (hb89.cell (p := ⟨g, o + j * 3 + 1, none⟩) hg).trans sS.2.2.2.2.2.1, (hb89.cell (p := ⟨gi, oi + m * 4, none⟩) hgi).trans sS.2.2.2.2.2.2⟩))
          all_goals
            have V9 := V.below hb89
            have hB9 := hB.trans (hb89.mono hB.size)
            clear s9 sS hb9 hb89 V hB
            go_wp2_with fail
            go_roundw
            case rel => exact ⟨k + 1, by omega, by go_num, V9, hB9⟩
            case measure => simp [intOf]; omega
      · have hlt' : ¬ (k : Int) < ds.length := by omega
        have R1 := NRow.of_own V.o1 (by dsimp only; omega) n1
        have R2 := InRow.of_own V.o2 (by dsimp only; omega) n2
        have R3 := DfRow.of_own V.o3 (by dsimp only; omega) n3
        go_wp2_with fail
        refine (icodeok_any _ _ _ ns is ds _ R1 R2 R3).mono ?_
        rintro e w9 ⟨rfl, hb9⟩
        have hB9 := hB.trans (hb9.mono hB.size)
        have V9 := V.below hb9
        obtain ⟨r0, r1, r2, _, _, _⟩ := cells3 V9.blk
        have hde : ((ds.length : Int) == (l.length : Int)) = true := by rw [hdl.out]; simp
        have hle : ((l.length : Int) == (l.length : Int)) = true := by simp
        rw [hcb]
        go_wp2_with fail
        go_ret
        exact ⟨rfl, hB9⟩
  · obtain ⟨rfl, rfl, h0, h1⟩ := Qb hh
    have hhf : (how != 0) = true := by simpa using hh
    clear Qb Qo
    simp only [List.length_nil] at V6 hB6 ⊢
    obtain ⟨c0, c1, c2, _, _, _⟩ := cells3 V6.blk
    by_cases hlt : at9 < l.length
    · go_wp2_with fail
      go_ret
      exact ⟨rfl, hB6⟩
    · have h2 : at9 = 0 := by omega
      have h3 : (at9 == 0) = true := by simpa using h2
      clear h2
      go_wp2_with fail
      go_ret
      exact ⟨rfl, hB6⟩
end Go.Proofs.YtkchakcebdenjaaGreat
/-
  What a slice of bytes that came in reads as. Nothing of the program; no condition.
-/
namespace Go.Proofs.YtkchakcebdenjaaGreat
open Go.ChangeShapes Go.WideShapes Go.ChangeAt Go.RowKit
theorem ownKnob_none : ownKnob Tryz.prog.godebug = none := by kernel_rfl
theorem laidOut_true : laidOutB Tryz.prog = true := by kernel_rfl
def IsRow (k : IntKind) (w : World) (a : Option Addr) (len cap : Nat) (zs : List Int) : Prop :=
  (a = none ∧ len = 0 ∧ cap = 0 ∧ zs = []) ∨
  ∃ x, a = some x ∧ len ≤ cap ∧ cap ≤ maxLen ∧ zs.length = cap ∧ (∀ i, i < zs.length → w.cell? (x.add i) = some (.int k (zs.getD i 0))) ∧ ∀ n ∈ zs, (Lit.int k n).wf = true
theorem IsRow.len {w : World} {a : Option Addr} {len cap : Nat} {zs : List Int} (h : IsRow .u8 w a len cap zs) : len ≤ 9223372036854775807 ∧ (zs.take len).length = len := by
  rcases h with ⟨rfl, rfl, rfl, rfl⟩ | ⟨x, rfl, hl, hm, hz, _⟩
  · simp
  · unfold maxLen at hm
    simp only [List.length_take]
    omega
theorem IsRow.row {w : World} {a : Option Addr} {len cap : Nat} {zs : List Int} (h : IsRow .u8 w a len cap zs) (hm : len ≤ 140737488351232) : Row w (.slice a (zs.take len).length cap) (zs.take len) := by
  have hlen := h.len.2
  rcases h with ⟨rfl, rfl, rfl, rfl⟩ | ⟨x, rfl, hl, _, hz, hcell, hwf⟩
  · exact ⟨none, 0, rfl, by simp, by simp, by simp, fun h => absurd rfl h⟩
  · refine ⟨some x, cap, rfl, by omega, by omega, fun z hz' => bounds_u8 (hwf z (List.mem_of_mem_take hz')), fun hne => ?_⟩
    have hpos : 0 < len := by
      rcases Nat.eq_zero_or_pos len with h0 | h0
      · subst h0; simp at hne
      · exact h0
    obtain ⟨b, off, spot⟩ := x
    have hc := hcell 0 (by omega)
    have hspot : spot = none := by simpa [Addr.add] using World.cell?_spot hc
    subst hspot
    have hb := World.block_lt_of_cell? _ _ hc
    refine ⟨b, off, rfl, by simpa [Addr.add_lit] using hb, fun i hi => ?_⟩
    have hc := hcell i (by omega)
    rw [Addr.add_lit] at hc
    rw [hc]
    simp only [List.getD_eq_getElem?_getD, List.getElem?_take]
    rw [if_pos (by omega)]
end Go.Proofs.YtkchakcebdenjaaGreat
