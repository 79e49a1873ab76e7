/-
  Texts that stood by themselves, laid into one.
-/
import Derived.Test.YtbhfooafhbfniaaGreatDoorInM
import Derived.Test.YtbhfooafhbfniaaGreatDoorCodeM
import Derived.Test.YtbhfooafhbfniaaGreatDoorBsM
import Derived.Test.YtbhfooafhbfniaaGreatDoorShapeM
import Derived.Lib.SliceRun
/-
  Worlds: what one is, and the contracts of the laws' szWorld, toWorld, eqWorld. No condition.
-/
namespace Go.Proofs.YtbhfooafhbfniaaGreatDoor
open Go.RowKit
structure Wd where
  ns : List Nd
  is : List In
  ds : List Df
  pl : Int
  hs : List Hm
  ls : List Lk
  gs : List Gm
  ps : List Pd
  nx : Int
  ga : List (List ByteArray)
  tk : List (List ByteArray)
theorem InRow.kp {w w' : World} {v : Value} {xs : List In} {B : Nat} (R : InRow w v xs) (hf : Fr B v) (hk : Kp B w w') : InRow w' v xs := by
  obtain ⟨ao, cap, rfl, hc, hm, hz, hcell⟩ := R
  refine ⟨ao, cap, rfl, hc, hm, hz, fun hne => ?_⟩
  obtain ⟨g, o, rfl, hg, hcell⟩ := hcell hne
  have e := kp_cell hk hf rfl hg
  refine ⟨g, o, rfl, Nat.lt_of_lt_of_le hg hk.1, fun i x hi => ?_⟩
  obtain ⟨c0, c1, c2, c3⟩ := hcell i x hi
  exact ⟨(World.cell?_of_block e).trans c0, (World.cell?_of_block e).trans c1, (World.cell?_of_block e).trans c2, (World.cell?_of_block e).trans c3⟩
theorem DfRow.kp {w w' : World} {v : Value} {xs : List Df} {B : Nat} (R : DfRow w v xs) (hf : Fr B v) (hk : Kp B w w') : DfRow w' v xs := by
  obtain ⟨ao, cap, rfl, hc, hm, hz, hcell⟩ := R
  refine ⟨ao, cap, rfl, hc, hm, hz, fun hne => ?_⟩
  obtain ⟨g, o, rfl, hg, hcell⟩ := hcell hne
  have e := kp_cell hk hf rfl hg
  refine ⟨g, o, rfl, Nat.lt_of_lt_of_le hg hk.1, fun i x hi => ?_⟩
  obtain ⟨c0, c1, c2⟩ := hcell i x hi
  exact ⟨(World.cell?_of_block e).trans c0, (World.cell?_of_block e).trans c1, (World.cell?_of_block e).trans c2⟩
structure WR (B : Nat) (w : World) (vn vi vf vh vl vg vp va vt : Value) (d : Wd) : Prop where
  rn : NRow w vn d.ns
  ri : InRow w vi d.is
  rf : DfRow w vf d.ds
  rh : XRow B 12 EH w vh d.hs
  rl : XRow B 5 EL w vl d.ls
  rg : XRow B 5 EG w vg d.gs
  rp : XRow B 3 EP w vp d.ps
  ra : XRow B 1 ES w va d.ga
  rt : XRow B 1 ES w vt d.tk
  fn : Fr B vn
  fi : Fr B vi
  ff : Fr B vf
theorem WR.kp {B : Nat} {w w' : World} {vn vi vf vh vl vg vp va vt : Value} {d : Wd} (R : WR B w vn vi vf vh vl vg vp va vt d) (hk : Kp B w w') : WR B w' vn vi vf vh vl vg vp va vt d :=
  ⟨R.rn.kp R.fn hk, R.ri.kp R.fi hk, R.rf.kp R.ff hk, R.rh.kp stbH hk, R.rl.kp stbL hk, R.rg.kp stbG hk, R.rp.kp stbP hk, R.ra.kp stbS hk, R.rt.kp stbS hk, R.fn, R.fi, R.ff⟩
theorem WR.below {B : Nat} {w w' : World} {vn vi vf vh vl vg vp va vt : Value} {d : Wd} (R : WR B w vn vi vf vh vl vg vp va vt d) (hb : Below w.heap.size w w') : WR B w' vn vi vf vh vl vg vp va vt d := R.kp (Kp.of_below hb)
theorem WR.form {B : Nat} {w : World} {vn vi vf vh vl vg vp va vt : Value} {d : Wd} (R : WR B w vn vi vf vh vl vg vp va vt d) : (∃ ao cap, vn = .slice ao d.ns.length cap) ∧ (∃ ao cap, vi = .slice ao d.is.length cap) ∧ (∃ ao cap, vf = .slice ao d.ds.length cap) ∧ (∃ ao cap, vh = .slice ao d.hs.length cap) ∧ (∃ ao cap, vl = .slice ao d.ls.length cap) ∧ (∃ ao cap, vg = .slice ao d.gs.length cap) ∧ (∃ ao cap, vp = .slice ao d.ps.length cap) ∧ (∃ ao cap, va = .slice ao d.ga.length cap) ∧ (∃ ao cap, vt = .slice ao d.tk.length cap) :=
  ⟨R.rn.small8, R.ri.small, R.rf.small, R.rh.small, R.rl.small, R.rg.small, R.rp.small, R.ra.small, R.rt.small⟩
structure SmW (d : Wd) : Prop where
  hn : d.ns.length ≤ 1048576
  hi : d.is.length ≤ 1048576
  hf : d.ds.length ≤ 1048576
  hh : d.hs.length ≤ 1048576 ∧ ∀ x ∈ d.hs, SmH x
  hl : d.ls.length ≤ 1048576 ∧ ∀ x ∈ d.ls, SmL x
  hg : d.gs.length ≤ 1048576 ∧ ∀ x ∈ d.gs, SmG x
  hp : d.ps.length ≤ 1048576 ∧ ∀ x ∈ d.ps, SmP x
  ha : d.ga.length ≤ 1048576 ∧ ∀ x ∈ d.ga, SmS x
  ht : d.tk.length ≤ 1048576 ∧ ∀ x ∈ d.tk, SmS x
theorem Tryz.sizeWd : (Tryz.prog.info? 43).map (·.size) = some 11 := by kernel_rfl
theorem Tryz.sizeCode8 : (Tryz.prog.info? 36).map (·.size) = some 3 := by kernel_rfl
set_option maxRecDepth 100000 in
set_option maxHeartbeats 6400000 in
theorem eqworld_any (vn vi vf vh vl vg vp va vt un ui uf uh ul ug up ua ut : Value) (d : Wd) (B C : Nat) (w : World) (R : WR B w vn vi vf vh vl vg vp va vt d) (Q : WR C w un ui uf uh ul ug up ua ut d) :
    Calls Tryz.prog 8 #[.agg #[vn, vi, vf, .int .i64 d.pl, vh, vl, vg, vp, .int .i64 d.nx, va, vt], .agg #[un, ui, uf, .int .i64 d.pl, uh, ul, ug, up, .int .i64 d.nx, ua, ut]] w fun e w' => e = .returned (.bool true) ∧ Below w.heap.size w w' := by
  obtain ⟨⟨aan, ccn, rfl⟩, ⟨aai, cci, rfl⟩, ⟨aaf, ccf, rfl⟩, ⟨aah, cch, rfl⟩, ⟨aal, ccl, rfl⟩, ⟨aag, ccg, rfl⟩, ⟨aap, ccp, rfl⟩, ⟨aaa, cca, rfl⟩, ⟨aat, cct, rfl⟩⟩ := R.form
  obtain ⟨⟨bbn, een, rfl⟩, ⟨bbi, eei, rfl⟩, ⟨bbf, eef, rfl⟩, ⟨bbh, eeh, rfl⟩, ⟨bbl, eel, rfl⟩, ⟨bbg, eeg, rfl⟩, ⟨bbp, eep, rfl⟩, ⟨bba, eea, rfl⟩, ⟨bbt, eet, rfl⟩⟩ := Q.form
  obtain ⟨hB, hx, hy⟩ := two_boxes w (Obj.cells #[.slice aan d.ns.length ccn, .slice aai d.is.length cci, .slice aaf d.ds.length ccf, .int .i64 d.pl, .slice aah d.hs.length cch, .slice aal d.ls.length ccl, .slice aag d.gs.length ccg, .slice aap d.ps.length ccp, .int .i64 d.nx, .slice aaa d.ga.length cca, .slice aat d.tk.length cct] 43) (Obj.cells #[.slice bbn d.ns.length een, .slice bbi d.is.length eei, .slice bbf d.ds.length eef, .int .i64 d.pl, .slice bbh d.hs.length eeh, .slice bbl d.ls.length eel, .slice bbg d.gs.length eeg, .slice bbp d.ps.length eep, .int .i64 d.nx, .slice bba d.ga.length eea, .slice bbt d.tk.length eet] 43)
  go_enter Tryz.func8, Tryz.ntmps8
  go_wp2_with (first
    | (refine wpList_load_sub rfl 36 _ rfl w.heap.size 0 rfl _ 43 #[.slice aan d.ns.length ccn, .slice aai d.is.length cci, .slice aaf d.ds.length ccf] _ hx rfl Tryz.underlying36 rfl Tryz.sizeCode8 ?_)
    | (refine wpList_load_sub rfl 36 _ rfl (w.heap.size + 1) 0 rfl _ 43 #[.slice bbn d.ns.length een, .slice bbi d.is.length eei, .slice bbf d.ds.length eef] _ hy rfl Tryz.underlying36 rfl Tryz.sizeCode8 ?_))
  refine (eqcode_any _ _ _ _ _ _ d.ns d.is d.ds _ (R.rn.below hB) (R.ri.below hB) (R.rf.below hB) (Q.rn.below hB) (Q.ri.below hB) (Q.rf.below hB)).mono ?_
  rintro e w0 ⟨rfl, hb⟩
  replace hx := (hb.block _ (Array.getElem?_eq_some_iff.1 hx).1).trans hx
  replace hy := (hb.block _ (Array.getElem?_eq_some_iff.1 hy).1).trans hy
  replace hB := hB.trans (hb.mono hB.size)
  clear hb
  have i1 : w0.cell? ⟨w.heap.size, 0 + 3, none⟩ = some (.int .i64 d.pl) := cell_of_row w0 _ 3 _ _ _ hx
  have i2 : w0.cell? ⟨w.heap.size + 1, 0 + 3, none⟩ = some (.int .i64 d.pl) := cell_of_row w0 _ 3 _ _ _ hy
  have k1 : w0.cell? ⟨w.heap.size, 0 + 4, none⟩ = some (.slice aah d.hs.length cch) := cell_of_row w0 _ 4 _ _ _ hx
  have k2 : w0.cell? ⟨w.heap.size + 1, 0 + 4, none⟩ = some (.slice bbh d.hs.length eeh) := cell_of_row w0 _ 4 _ _ _ hy
  go_wp2_with fail
  refine (eqhms_any _ _ d.hs B C _ (R.rh.below stbH hB) (Q.rh.below stbH hB)).mono ?_
  rintro e w1 ⟨rfl, hb⟩
  replace hx := (hb.block _ (Array.getElem?_eq_some_iff.1 hx).1).trans hx
  replace hy := (hb.block _ (Array.getElem?_eq_some_iff.1 hy).1).trans hy
  replace hB := hB.trans (hb.mono hB.size)
  clear hb k1 k2 i1 i2
  have k1 : w1.cell? ⟨w.heap.size, 0 + 5, none⟩ = some (.slice aal d.ls.length ccl) := cell_of_row w1 _ 5 _ _ _ hx
  have k2 : w1.cell? ⟨w.heap.size + 1, 0 + 5, none⟩ = some (.slice bbl d.ls.length eel) := cell_of_row w1 _ 5 _ _ _ hy
  go_wp2_with fail
  refine (eqlks_any _ _ d.ls B C _ (R.rl.below stbL hB) (Q.rl.below stbL hB)).mono ?_
  rintro e w2 ⟨rfl, hb⟩
  replace hx := (hb.block _ (Array.getElem?_eq_some_iff.1 hx).1).trans hx
  replace hy := (hb.block _ (Array.getElem?_eq_some_iff.1 hy).1).trans hy
  replace hB := hB.trans (hb.mono hB.size)
  clear hb k1 k2
  have k1 : w2.cell? ⟨w.heap.size, 0 + 6, none⟩ = some (.slice aag d.gs.length ccg) := cell_of_row w2 _ 6 _ _ _ hx
  have k2 : w2.cell? ⟨w.heap.size + 1, 0 + 6, none⟩ = some (.slice bbg d.gs.length eeg) := cell_of_row w2 _ 6 _ _ _ hy
  go_wp2_with fail
  refine (eqgms_any _ _ d.gs B C _ (R.rg.below stbG hB) (Q.rg.below stbG hB)).mono ?_
  rintro e w3 ⟨rfl, hb⟩
  replace hx := (hb.block _ (Array.getElem?_eq_some_iff.1 hx).1).trans hx
  replace hy := (hb.block _ (Array.getElem?_eq_some_iff.1 hy).1).trans hy
  replace hB := hB.trans (hb.mono hB.size)
  clear hb k1 k2
  have k1 : w3.cell? ⟨w.heap.size, 0 + 7, none⟩ = some (.slice aap d.ps.length ccp) := cell_of_row w3 _ 7 _ _ _ hx
  have k2 : w3.cell? ⟨w.heap.size + 1, 0 + 7, none⟩ = some (.slice bbp d.ps.length eep) := cell_of_row w3 _ 7 _ _ _ hy
  go_wp2_with fail
  refine (eqpds_any _ _ d.ps B C _ (R.rp.below stbP hB) (Q.rp.below stbP hB)).mono ?_
  rintro e w4 ⟨rfl, hb⟩
  replace hx := (hb.block _ (Array.getElem?_eq_some_iff.1 hx).1).trans hx
  replace hy := (hb.block _ (Array.getElem?_eq_some_iff.1 hy).1).trans hy
  replace hB := hB.trans (hb.mono hB.size)
  clear hb k1 k2
  have i1 : w4.cell? ⟨w.heap.size, 0 + 8, none⟩ = some (.int .i64 d.nx) := cell_of_row w4 _ 8 _ _ _ hx
  have i2 : w4.cell? ⟨w.heap.size + 1, 0 + 8, none⟩ = some (.int .i64 d.nx) := cell_of_row w4 _ 8 _ _ _ hy
  have k1 : w4.cell? ⟨w.heap.size, 0 + 9, none⟩ = some (.slice aaa d.ga.length cca) := cell_of_row w4 _ 9 _ _ _ hx
  have k2 : w4.cell? ⟨w.heap.size + 1, 0 + 9, none⟩ = some (.slice bba d.ga.length eea) := cell_of_row w4 _ 9 _ _ _ hy
  go_wp2_with fail
  refine (eqsss_any _ _ d.ga B C _ (R.ra.below stbS hB) (Q.ra.below stbS hB)).mono ?_
  rintro e w5 ⟨rfl, hb⟩
  replace hx := (hb.block _ (Array.getElem?_eq_some_iff.1 hx).1).trans hx
  replace hy := (hb.block _ (Array.getElem?_eq_some_iff.1 hy).1).trans hy
  replace hB := hB.trans (hb.mono hB.size)
  clear hb k1 k2 i1 i2
  have k1 : w5.cell? ⟨w.heap.size, 0 + 10, none⟩ = some (.slice aat d.tk.length cct) := cell_of_row w5 _ 10 _ _ _ hx
  have k2 : w5.cell? ⟨w.heap.size + 1, 0 + 10, none⟩ = some (.slice bbt d.tk.length eet) := cell_of_row w5 _ 10 _ _ _ hy
  go_wp2_with fail
  refine (eqsss_any _ _ d.tk B C _ (R.rt.below stbS hB) (Q.rt.below stbS hB)).mono ?_
  rintro e w6 ⟨rfl, hb⟩
  replace hx := (hb.block _ (Array.getElem?_eq_some_iff.1 hx).1).trans hx
  replace hy := (hb.block _ (Array.getElem?_eq_some_iff.1 hy).1).trans hy
  replace hB := hB.trans (hb.mono hB.size)
  clear hb k1 k2
  clear hx hy
  go_wp2
  go_ret
  exact ⟨rfl, hB⟩
end Go.Proofs.YtbhfooafhbfniaaGreatDoor
/-
  Contracts of impl's with and Make, and of spec's l2Copy and Make: a node behind a pool.
-/
namespace Go.Proofs.YtbhfooafhbfniaaGreatDoor
open Go.RowKit
theorem wpList_append_own_any {P : Program} (w : World) {ops : Array Oper} {rest : List Oper} {o : Oper} {a : Act} {Q : Exit → Act → World → Prop}
    (hg : o.guard = none) (s x : Operand) (t : TypeId) (hop : o.op = Op.call { callee := Callee.builtin Builtin.append, args := #[s, x], argTypes := #[t, t] })
    (base : Nat) (e : TypeId) (i : TypeInfo) (z : Value) (size bytes : Nat) (h1 : P.underlying t = some (.slice e)) (h2 : P.info? e = some i) (h3 : i.zero = some z) (h4 : i.size = size) (h5 : i.bytes = bytes) (h6 : z.cells.size = size) (h7 : 0 < size)
    (v : Value) (k : Nat) (xs : List Value) (hs : a.eval s = v) (hown : w.ownsRow base e size v k xs) (ao : Option Addr) (m c : Nat) (news : List Value) (hx : a.eval x = .slice ao m c) (hn : news.length = m * size)
    (hnone : ao = none → m = 0 ∧ c = 0) (hc : ∀ ad, ao = some ad → ∀ j u, news[j]? = some u → w.cell? (ad.add j) = some u) (h1c : ∀ u ∈ news, u.oneCell' = true) (b1 : k + m ≤ maxLen) (b2 : (k + m) * bytes ≤ 140737488355328) (b3 : base ≤ w.heap.size)
    (hK : ∀ v' w', w'.ownsRow base e size v' (k + m) (xs ++ news) → w.grownBy w' v.ownBlock → wpList P ops Q rest (a.put o.dst v') w') :
    wpList P ops Q (o :: rest) a w := by
  cases ao with
  | some ad => exact wpList_append_own w hg s x t hop base e i z size bytes h1 h2 h3 h4 h5 h6 h7 v k xs hs hown ad m c news hx hn (hc ad rfl) h1c b1 b2 b3 (fun v' w' h1 h2 _ => hK v' w' h1 h2)
  | none =>
    obtain ⟨rfl, rfl⟩ := hnone rfl
    have hnews : news = [] := List.eq_nil_of_length_eq_zero (by simpa using hn)
    subst hnews
    refine wpList_plain hg fun K hK' => ?_
    have hrun := run_append_owned_none (P := P) w base t o.type e i size h1 h2 _ k xs hown
    unfold Oper.wp
    simp [execOp, hop, resolve, invoke, builtin, hs, hx, hrun, Result.andThen]
    exact hK' _ _ (by simpa using hK v w (by simpa using hown) (World.grownBy.refl _ _))
theorem NRow.nilcap {w : World} {ao : Option Addr} {n cap : Nat} {xs : List Nd} (h : NRow w (.slice ao n cap) xs) : ao = none → n = 0 ∧ cap = 0 := by
  obtain ⟨ao', cap', e, ⟨h1, h2⟩, _⟩ := h
  simp only [Value.slice.injEq] at e
  obtain ⟨rfl, rfl, rfl⟩ := e
  intro h
  have := h2 h
  omega
theorem Tryz.sizeP : (Tryz.prog.info? 32).map (·.size) = some 1 := by kernel_rfl
set_option maxHeartbeats 800000 in
theorem with_any (v vm : Value) (xs ys : List Nd) (w : World) (R : NRow w v xs) (Rm : NRow w vm ys) (hm : xs.length + ys.length ≤ 4194304) :
    Calls Tryz.prog 84 #[.agg #[v], vm] w fun e w' => ∃ v', e = .returned (.agg #[v']) ∧ w'.ownsRow w.heap.size 130 5 v' (xs ++ ys).length (ncs (xs ++ ys)) ∧ Below w.heap.size w w' := by
  have R' := R
  have Rm' := Rm
  obtain ⟨ao, cap, rfl, hcap, _, _, _⟩ := R'
  obtain ⟨am, capm, rfl, hcapm, _, _, _⟩ := Rm'
  obtain ⟨i0, hi, hz0, hz1, hz2⟩ := info_parts Tryz.infoN
  have hbytes : i0.bytes * (xs.length + ys.length) ≤ 281474976710656 := by rw [hz2]; omega
  have hmax : xs.length + ys.length ≤ maxLen := by unfold maxLen; omega
  go_enter Tryz.func84, Tryz.ntmps84
  go_wp2_with (at_make; refine wpList_make_own _ rfl _ _ 30 rfl (w.heap.size + 2) 130 i0 _ 5 Tryz.underlying30 hi hz0 hz1 _ _ _ (xs.length + ys.length) rfl rfl (by omega) hbytes hmax (by simp) ?_)
  intro w1 hown hgrow
  have hbel : Below (w.heap.size + 2) ((w.alloc (Obj.cells #[.slice ao xs.length cap] 32)).alloc (Obj.cells #[.slice none 0 0] 32)) w1 := (Below.refl _ _).grown hgrow (by simp) (by intro k hk; cases hk)
  have hB0 : Below w.heap.size w ((w.alloc (Obj.cells #[.slice ao xs.length cap] 32)).alloc (Obj.cells #[.slice none 0 0] 32)) := ((Below.refl _ _).alloc (Nat.le_refl _) _).alloc (by simp) _
  have hB1 : Below w.heap.size w w1 := hB0.trans (hbel.mono (by omega))
  have hx1 : w1.heap[w.heap.size]? = some (.cells #[.slice ao xs.length cap] 32 (0, 0)) := (hbel.block _ (by omega)).trans (heap_alloc2_old _ _ _)
  have hy1 : w1.heap[w.heap.size + 1]? = some (.cells #[.slice none 0 0] 32 (0, 0)) := (hbel.block _ (by omega)).trans (heap_alloc2_new _ _ _)
  have hc1 : w1.cell? ⟨w.heap.size, 0, none⟩ = some (.slice ao xs.length cap) := by rw [cell_of_row w1 _ 0 _ _ _ hx1]; rfl
  have R1 := R.below hB1
  have Rm1 := Rm.below hB1
  clear hgrow
  go_wp2_with (at_builtin; refine wpList_append_fits_any _ rfl _ _ 30 rfl (w.heap.size + 2) 130 i0 5 Tryz.underlying30 hi hz1 _ 0 _ [] rfl hown ao xs.length cap (ncs xs) rfl (by rw [ncs_length]) R1.nilcap R1.cells (ncs_one xs) (by omega) ?_)
  intro w2 hown2 hg2
  have hbel2 : Below (w.heap.size + 2) w1 w2 := (Below.refl _ _).grown hg2 (by have := hbel.size; simp at this; omega) (fun k hk => by simp at hk; omega)
  have hB2 := hB1.trans (hbel2.mono (by omega))
  have hx2 := (hbel2.block _ (by omega)).trans hx1
  have hy2 := (hbel2.block _ (by omega)).trans hy1
  have Rm2 := Rm.below hB2
  clear hg2 hown R1 Rm1 hx1 hy1 hc1 hB1 hbel
  go_wp2_with (at_builtin; refine wpList_append_fits_any _ rfl _ _ 30 rfl (w.heap.size + 2) 130 i0 5 Tryz.underlying30 hi hz1 _ _ _ _ rfl hown2 am ys.length capm (ncs ys) rfl (by rw [ncs_length]) Rm2.nilcap Rm2.cells (ncs_one ys) (by omega) ?_)
  intro w3 hown3 hg3
  have hbel3 : Below (w.heap.size + 2) w2 w3 := (Below.refl _ _).grown hg3 (by have := hB2.size; have := (Array.getElem?_eq_some_iff.1 hy2).1; omega) (fun k hk => by simp at hk; omega)
  have hB3 := hB2.trans (hbel3.mono (by omega))
  have hy3 := (hbel3.block _ (by omega)).trans hy2
  have c3 : w3.cell? ⟨w.heap.size + 1, 0, none⟩ = some (.slice none 0 0) := by rw [cell_of_row w3 _ 0 _ _ _ hy3]; rfl
  have f3 : w3.frozen? ⟨w.heap.size + 1, 0, none⟩ = false := frozen_of_row w3 _ 0 _ _ hy3
  clear hg3 hown2 hx2 hy2 Rm2 hB2 hbel2 hbel3
  go_wp2
  have hb4 := heap_setCell_same w3 (w.heap.size + 1) 0 _ _ (.slice (some ⟨w.heap.size + 1 + 1, 0, none⟩) (xs.length + ys.length) (xs.length + ys.length)) hy3
  refine bodyPost_ret (results_cell_row rfl _ _ (w.heap.size + 1) 32 _ (0, 0) _ rfl hb4 Tryz.underlying32 rfl Tryz.sizeP) rfl ⟨_, rfl, ?_, ?_⟩
  · have := own_mono (B' := w.heap.size) (ownsRow_setCell_below hown3 (a := ⟨w.heap.size + 1, 0, none⟩) (by simp) (.slice (some ⟨w.heap.size + 1 + 1, 0, none⟩) (xs.length + ys.length) (xs.length + ys.length))) (by omega)
    simpa [ncs_append] using this
  · exact hB3.setCell (p := ⟨w.heap.size + 1, 0, none⟩) (by simp) _
set_option maxHeartbeats 800000 in
theorem scopy_any (v : Value) (xs : List Nd) (w : World) (R : NRow w v xs) (hm : xs.length ≤ 4194304) :
    Calls Tryz.prog 53 #[.agg #[v]] w fun e w' => ∃ v', e = .returned (.agg #[v']) ∧ w'.ownsRow w.heap.size 130 5 v' xs.length (ncs xs) ∧ Below w.heap.size w w' := by
  have R' := R
  obtain ⟨ao, cap, rfl, hcap, _, _, _⟩ := R'
  obtain ⟨i0, hi, hz0, hz1, hz2⟩ := info_parts Tryz.infoN
  have hB0 : Below w.heap.size w (((w.alloc (Obj.cells #[.slice ao xs.length cap] 32)).alloc (Obj.cells #[.slice none 0 0] 32)).alloc (Obj.cells #[] 130)) := (((Below.refl _ _).alloc (Nat.le_refl _) _).alloc (by simp) _).alloc (by simp; omega) _
  have R1 := R.below hB0
  have own1 : (((w.alloc (Obj.cells #[.slice ao xs.length cap] 32)).alloc (Obj.cells #[.slice none 0 0] 32)).alloc (Obj.cells #[] 130)).ownsRow (w.heap.size + 2) 130 5 (.slice (some ⟨w.heap.size + 1 + 1, 0, none⟩) 0 0) 0 (ncs []) := by
    have := World.ownsRow_made (base := w.heap.size + 2) (e := 130) (size := 5) ((w.alloc (Obj.cells #[.slice ao xs.length cap] 32)).alloc (Obj.cells #[.slice none 0 0] 32)) #[] 0 (by simp) (by simp) (by simp)
    simpa [ncs_nil] using this
  go_enter Tryz.func53, Tryz.ntmps53
  go_wp2_with (at_builtin; refine wpList_append_own_any _ rfl _ _ 30 rfl (w.heap.size + 2) 130 i0 _ 5 48 Tryz.underlying30 hi hz0 hz1 hz2 rfl (by decide) _ 0 _ rfl own1 ao xs.length cap (ncs xs) rfl (by rw [ncs_length]) R1.nilcap R1.cells (ncs_one xs) (by unfold maxLen; omega) (by omega) (by simp) ?_)
  intro v2 w2 hown2 hg2
  obtain ⟨ao2, cap2, rfl⟩ := own_form hown2
  have hbel2 : Below (w.heap.size + 2) (((w.alloc (Obj.cells #[.slice ao xs.length cap] 32)).alloc (Obj.cells #[.slice none 0 0] 32)).alloc (Obj.cells #[] 130)) w2 := (Below.refl _ _).grown hg2 (by simp) (fun k hk => by simp [Value.ownBlock] at hk; omega)
  have hB2 := hB0.trans (hbel2.mono (by omega))
  have hy2 : w2.heap[w.heap.size + 1]? = some (.cells #[.slice none 0 0] 32 (0, 0)) := (hbel2.block _ (by omega)).trans ((heap_alloc_old _ _ (by simp)).trans (heap_alloc2_new _ _ _))
  have c3 : w2.cell? ⟨w.heap.size + 1, 0, none⟩ = some (.slice none 0 0) := by rw [cell_of_row w2 _ 0 _ _ _ hy2]; rfl
  have f3 : w2.frozen? ⟨w.heap.size + 1, 0, none⟩ = false := frozen_of_row w2 _ 0 _ _ hy2
  clear hg2 R1 own1 hbel2
  go_wp2
  have hb4 := heap_setCell_same w2 (w.heap.size + 1) 0 _ _ (.slice ao2 xs.length cap2) hy2
  refine bodyPost_ret (results_cell_row rfl _ _ (w.heap.size + 1) 32 _ (0, 0) _ (by simp) hb4 Tryz.underlying32 rfl Tryz.sizeP) rfl ⟨_, rfl, ?_, ?_⟩
  · have := own_mono (B' := w.heap.size) (ownsRow_setCell_below hown2 (a := ⟨w.heap.size + 1, 0, none⟩) (by simp) (.slice ao2 xs.length cap2)) (by omega)
    simpa [ncs_nil] using this
  · exact hB2.setCell (p := ⟨w.heap.size + 1, 0, none⟩) (by simp) _
end Go.Proofs.YtbhfooafhbfniaaGreatDoor
/-
  Contracts of slices.Clone at rows of instructions and of definitions. No condition.
-/
namespace Go.Proofs.YtbhfooafhbfniaaGreatDoor
open Go.RowKit
theorem InRow.nilcap {w : World} {ao : Option Addr} {n cap : Nat} {xs : List In} (h : InRow w (.slice ao n cap) xs) : ao = none → n = 0 ∧ cap = 0 := by
  obtain ⟨ao', cap', e, ⟨h1, h2⟩, _⟩ := h
  simp only [Value.slice.injEq] at e
  obtain ⟨rfl, rfl, rfl⟩ := e
  intro h
  have := h2 h
  omega
theorem InRow.cells {w : World} {ao : Option Addr} {n cap : Nat} {xs : List In} (h : InRow w (.slice ao n cap) xs) : ∀ ad, ao = some ad → ∀ j u, (incs xs)[j]? = some u → w.cell? (ad.add j) = some u := by
  intro ad hao j u hu
  have hj := (List.getElem?_eq_some_iff.1 hu).1
  rw [incs_length] at hj
  obtain ⟨ao', cap', e, _, _, _, hcell⟩ := h
  simp only [Value.slice.injEq] at e
  obtain ⟨rfl, rfl, rfl⟩ := e
  have hne : xs ≠ [] := by intro e; subst e; simp at hj
  obtain ⟨g, o, e, hg, hc⟩ := hcell hne
  rw [e] at hao
  cases hao
  have hi : j / 4 < xs.length := by omega
  have hc' := hc (j / 4) xs[j / 4] (by simp [hi])
  have hr : j % 4 < 4 := Nat.mod_lt _ (by decide)
  have hx := incs_get xs (j / 4) xs[j / 4] (by simp [hi]) (j % 4) hr
  rw [show j / 4 * 4 + j % 4 = j by omega, hu] at hx
  rw [Addr.add_lit, show o + j = o + j / 4 * 4 + j % 4 by omega]
  have h3 : j % 4 = 0 ∨ j % 4 = 1 ∨ j % 4 = 2 ∨ j % 4 = 3 := by omega
  obtain ⟨d0, d1, d2, d3⟩ := hc'
  rcases h3 with h3 | h3 | h3 | h3
  · rw [h3] at hx ⊢; simp [In.cs] at hx; subst hx; simpa using d0
  · rw [h3] at hx ⊢; simp [In.cs] at hx; subst hx; simpa using d1
  · rw [h3] at hx ⊢; simp [In.cs] at hx; subst hx; simpa using d2
  · rw [h3] at hx ⊢; simp [In.cs] at hx; subst hx; simpa using d3
set_option maxRecDepth 100000 in
set_option maxHeartbeats 800000 in
theorem inclone_any (v : Value) (xs : List In) (w : World) (R : InRow w v xs) (hm : xs.length ≤ 1048576) :
    Calls Tryz.prog 85 #[v] w fun e w' => ∃ v', e = .returned v' ∧ w'.ownsRow w.heap.size 99 4 v' xs.length (incs xs) ∧ Below w.heap.size w w' := by
  have R0 := R
  obtain ⟨ao, cap, rfl⟩ := R.small
  obtain ⟨i0, hi, hz0, hz1, hz2⟩ := info_parts Tryz.infoIn
  cases ao with
  | none =>
    obtain ⟨h1, h2⟩ := R0.nilcap rfl
    have hx : xs = [] := List.eq_nil_of_length_eq_zero h1
    subst hx
    subst h2
    clear R R0
    have hq := fun w => run_eql_nil_slice (P := Tryz.prog) w 33 99 none 0 0 0 0 Tryz.underlying33
    go_enter Tryz.func85, Tryz.ntmps85
    go_wp2
    go_ret
    exact ⟨_, rfl, ⟨rfl, Or.inl ⟨rfl, rfl⟩⟩, Below.refl _ _⟩
  | some ad =>
    have hb := (Below.refl w.heap.size w).alloc (Nat.le_refl _) (Obj.cells #[] 99)
    have own0 := own_none0 w 99 4 w.heap.size (Nat.le_refl _)
    have R1 := R.below hb
    clear R R0
    have hq := fun w => Lib.run_eql_slice_nil (P := Tryz.prog) w 33 99 (some ad) xs.length cap 0 0 Tryz.underlying33
    go_enter Tryz.func85, Tryz.ntmps85
    go_wp2_with (at_builtin; refine wpList_append_own_any _ rfl _ _ 33 rfl w.heap.size 99 i0 _ 4 40 Tryz.underlying33 hi hz0 hz1 hz2 rfl (by decide) _ 0 _ rfl own0 _ _ _ (incs xs) rfl (incs_length xs) R1.nilcap R1.cells (incs_one xs) (by unfold maxLen; omega) (by omega) (by simp) ?_)
    intro v' w' ho hg
    have hB : Below w.heap.size w w' := hb.grown hg (by simp) (fun k hk => by simp [Value.ownBlock] at hk; omega)
    obtain ⟨a2, c2, rfl⟩ := own_form ho
    clear hg own0 R1 hb
    go_wp2
    go_ret
    exact ⟨_, rfl, ho, hB⟩
theorem DfRow.nilcap {w : World} {ao : Option Addr} {n cap : Nat} {xs : List Df} (h : DfRow w (.slice ao n cap) xs) : ao = none → n = 0 ∧ cap = 0 := by
  obtain ⟨ao', cap', e, ⟨h1, h2⟩, _⟩ := h
  simp only [Value.slice.injEq] at e
  obtain ⟨rfl, rfl, rfl⟩ := e
  intro h
  have := h2 h
  omega
theorem DfRow.cells {w : World} {ao : Option Addr} {n cap : Nat} {xs : List Df} (h : DfRow w (.slice ao n cap) xs) : ∀ ad, ao = some ad → ∀ j u, (dfcs xs)[j]? = some u → w.cell? (ad.add j) = some u := by
  intro ad hao j u hu
  have hj := (List.getElem?_eq_some_iff.1 hu).1
  rw [dfcs_length] at hj
  obtain ⟨ao', cap', e, _, _, _, hcell⟩ := h
  simp only [Value.slice.injEq] at e
  obtain ⟨rfl, rfl, rfl⟩ := e
  have hne : xs ≠ [] := by intro e; subst e; simp at hj
  obtain ⟨g, o, e, hg, hc⟩ := hcell hne
  rw [e] at hao
  cases hao
  have hi : j / 3 < xs.length := by omega
  have hc' := hc (j / 3) xs[j / 3] (by simp [hi])
  have hr : j % 3 < 3 := Nat.mod_lt _ (by decide)
  have hx := dfcs_get xs (j / 3) xs[j / 3] (by simp [hi]) (j % 3) hr
  rw [show j / 3 * 3 + j % 3 = j by omega, hu] at hx
  rw [Addr.add_lit, show o + j = o + j / 3 * 3 + j % 3 by omega]
  have h3 : j % 3 = 0 ∨ j % 3 = 1 ∨ j % 3 = 2 := by omega
  obtain ⟨d0, d1, d2⟩ := hc'
  rcases h3 with h3 | h3 | h3
  · rw [h3] at hx ⊢; simp [Df.cs] at hx; subst hx; simpa using d0
  · rw [h3] at hx ⊢; simp [Df.cs] at hx; subst hx; simpa using d1
  · rw [h3] at hx ⊢; simp [Df.cs] at hx; subst hx; simpa using d2
set_option maxRecDepth 100000 in
set_option maxHeartbeats 800000 in
theorem dfclone_any (v : Value) (xs : List Df) (w : World) (R : DfRow w v xs) (hm : xs.length ≤ 1048576) :
    Calls Tryz.prog 86 #[v] w fun e w' => ∃ v', e = .returned v' ∧ w'.ownsRow w.heap.size 101 3 v' xs.length (dfcs xs) ∧ Below w.heap.size w w' := by
  have R0 := R
  obtain ⟨ao, cap, rfl⟩ := R.small
  obtain ⟨i0, hi, hz0, hz1, hz2⟩ := info_parts Tryz.infoDf
  cases ao with
  | none =>
    obtain ⟨h1, h2⟩ := R0.nilcap rfl
    have hx : xs = [] := List.eq_nil_of_length_eq_zero h1
    subst hx
    subst h2
    clear R R0
    have hq := fun w => run_eql_nil_slice (P := Tryz.prog) w 34 101 none 0 0 0 0 Tryz.underlying34
    go_enter Tryz.func86, Tryz.ntmps86
    go_wp2
    go_ret
    exact ⟨_, rfl, ⟨rfl, Or.inl ⟨rfl, rfl⟩⟩, Below.refl _ _⟩
  | some ad =>
    have hb := (Below.refl w.heap.size w).alloc (Nat.le_refl _) (Obj.cells #[] 101)
    have own0 := own_none0 w 101 3 w.heap.size (Nat.le_refl _)
    have R1 := R.below hb
    clear R R0
    have hq := fun w => Lib.run_eql_slice_nil (P := Tryz.prog) w 34 101 (some ad) xs.length cap 0 0 Tryz.underlying34
    go_enter Tryz.func86, Tryz.ntmps86
    go_wp2_with (at_builtin; refine wpList_append_own_any _ rfl _ _ 34 rfl w.heap.size 101 i0 _ 3 32 Tryz.underlying34 hi hz0 hz1 hz2 rfl (by decide) _ 0 _ rfl own0 _ _ _ (dfcs xs) rfl (dfcs_length xs) R1.nilcap R1.cells (dfcs_one xs) (by unfold maxLen; omega) (by omega) (by simp) ?_)
    intro v' w' ho hg
    have hB : Below w.heap.size w w' := hb.grown hg (by simp) (fun k hk => by simp [Value.ownBlock] at hk; omega)
    obtain ⟨a2, c2, rfl⟩ := own_form ho
    clear hg own0 R1 hb
    go_wp2
    go_ret
    exact ⟨_, rfl, ho, hB⟩
end Go.Proofs.YtbhfooafhbfniaaGreatDoor
