/-
  Texts that stood by themselves, laid into one.
-/
import Derived.Test.YtfmafkebddojjaaGreatDoorWhMvM
/-
  Contracts of impl's WhereIs and of what it goes by. No condition but that the variable errors.errorType reads as it is laid.
-/
set_option maxRecDepth 100000
set_option maxHeartbeats 3200000
namespace Go.Proofs.YtfmafkebddojjaaGreatDoor
open Go.RowKit
structure WB (d : Wd) (p : Int) (bw bp : Nat) (an ai af ah al ag ap aa ab : Option Addr) (cn ci cf ch cl cg cp ca cb : Nat) (w : World) : Prop where
 x : w.heap[bw]? = some (.cells #[.slice an d.ns.length cn, .slice ai d.is.length ci, .slice af d.ds.length cf, .int .i64 d.pl, .slice ah d.hs.length ch, .slice al d.ls.length cl, .slice ag d.gs.length cg, .slice ap d.ps.length cp, .int .i64 d.nx, .slice aa d.ga.length ca, .slice ab d.tk.length cb] 50 (0, 0))
 p : w.cell? ⟨bp, 0, none⟩ = some (.int .i64 p)
 pl : bp < w.heap.size
 R : WR 0 w (.slice an d.ns.length cn) (.slice ai d.is.length ci) (.slice af d.ds.length cf) (.slice ah d.hs.length ch) (.slice al d.ls.length cl) (.slice ag d.gs.length cg) (.slice ap d.ps.length cp) (.slice aa d.ga.length ca) (.slice ab d.tk.length cb) d
 e : ErrT w
theorem WB.below {d : Wd} {p : Int} {bw bp : Nat} {an ai af ah al ag ap aa ab : Option Addr} {cn ci cf ch cl cg cp ca cb : Nat} {w w' : World} (h : WB d p bw bp an ai af ah al ag ap aa ab cn ci cf ch cl cg cp ca cb w) (hb : Below w.heap.size w w') : WB d p bw bp an ai af ah al ag ap aa ab cn ci cf ch cl cg cp ca cb w' :=
 ⟨Zal h.x hb, (hb.cell (p := ⟨bp, 0, none⟩) h.pl).trans h.p, Nat.lt_of_lt_of_le h.pl hb.size, h.R.below hb, h.e.below hb (Nat.le_refl _)⟩
theorem Zgf (s : ByteArray) (d : Wd) (p : Int) (bw bp : Nat) (an ai af ah al ag ap aa ab : Option Addr) (cn ci cf ch cl cg cp ca cb : Nat) (w : World) (K : WB d p bw bp an ai af ah al ag ap aa ab cn ci cf ch cl cg cp ca cb w) (hs : s.size <= 1048576) :
  Calls Tryz.prog 160 #[.string s, .pointer (some ⟨bw, 0, none⟩), .pointer (some ⟨bp, 0, none⟩)] w fun e w' => e = .returned (.bool (movB d.ns d.is d.ds p s)) /\ Below w.heap.size w w' := by
 have hx := K.x
 have hp := K.p
 go_enter Tryz.func160, Tryz.ntmps160
 go_wp2_with (refine wpList_load_row rfl 50 _ rfl bw rfl 50 #[.slice an d.ns.length cn, .slice ai d.is.length ci, .slice af d.ds.length cf, .int .i64 d.pl, .slice ah d.hs.length ch, .slice al d.ls.length cl, .slice ag d.gs.length cg, .slice ap d.ps.length cp, .int .i64 d.nx, .slice aa d.ga.length ca, .slice ab d.tk.length cb] (0, 0) _ hx Tryz.underlying50 rfl Zmt ?_)
 refine (ZeZ _ _ _ _ _ _ _ _ _ d s _ _ K.R hs K.e).mono ?_
 rintro e w1 ⟨⟨ok, I, rfl, hy, hn⟩, hb⟩
 have hp1 : w1.cell? ⟨bp, 0, none⟩ = some (.int .i64 p) := (hb.cell (p := ⟨bp, 0, none⟩) K.pl).trans hp
 clear hx hp
 cases ok with
 | false =>
  have HR : Hid (movB d.ns d.is d.ds p s = false) := by
   unfold Hid movB
   rw [hn rfl]
   by_cases h0 : 0 < p
   ·simp; omega
   ·simp [h0]
  clear hn hy
  go_wp2
  go_ret
  exact ⟨retB HR.out.symm, hb⟩
 | true =>
  have HR : Hid (movB d.ns d.is d.ds p s = (I == p)) := by
   unfold Hid movB
   obtain ⟨h1, h2⟩ := hy rfl
   rw [h1]
   by_cases h0 : 0 < p
   ·simp [h0]
   ·have : (I == p) = false := by simp; omega
    simp [this, h0]
  clear hn hy
  go_wp2
  go_ret
  exact ⟨retB HR.out.symm, hb⟩
theorem ZiP (v : Value) (ts : List ByteArray) (d : Wd) (p : Int) (bw bp : Nat) (an ai af ah al ag ap aa ab : Option Addr) (cn ci cf ch cl cg cp ca cb : Nat) (w : World) (R : StRow w v ts) (K : WB d p bw bp an ai af ah al ag ap aa ab cn ci cf ch cl cg cp ca cb w) (hz : ∀ x ∈ ts, x.size <= 1048576) :
  Calls Tryz.prog 200 #[v, .func (.func 160) #[] #[.pointer (some ⟨bw, 0, none⟩), .pointer (some ⟨bp, 0, none⟩)]] w fun e w' => e = .returned (.int .i64 (Zba (movB d.ns d.is d.ds p) ts 0)) /\ Below w.heap.size w w' := by
 obtain ⟨ao, cap, rfl, hcap, hm, hzz, hcell⟩ := R
 have HF := fun s => Zgf s d p bw bp an ai af ah al ag ap aa ab cn ci cf ch cl cg cp ca cb
 generalize movB d.ns d.is d.ds p = f at *
 go_enter Tryz.func200, Tryz.ntmps200
 go_wp2_with fail
 go_loopw [8] (fun i wr => ∃ k : Nat, k <= ts.length /\ i = .int .i64 k /\ Hid (Zba f ts 0 = Zba f (ts.drop k) k) /\ Below w.heap.size w wr) (fun i _ => ts.length - (intOf i).toNat)
 case atStart => exact ⟨0, by omega, rfl, rfl, Below.refl _ _⟩
 case round =>
  obtain ⟨k, hk, rfl, HK, hb⟩ := hrel
  by_cases hlt : k < ts.length
  ·obtain ⟨g, o, rfl, hg, hcell⟩ := hcell (by intro e; subst e; simp at hlt)
   obtain ⟨x, hx⟩ : ∃ x, ts[k]? = some x := ⟨ts[k], by simp [hlt]⟩
   have c0 := (hb.cell (p := ⟨g, o + k, none⟩) hg).trans (hcell k x hx)
   have hsx := hz x (List.mem_of_getElem? hx)
   clear hcell
   cases e : f x with
   | true =>
    have HR : Hid (Zba f ts 0 = k) := by unfold Hid; rw [HK.out, Zg9 f ts k x hx e]
    clear hx HK
    go_wp2_with fail
    refine (HF x _ (K.below hb) hsx).mono ?_
    rintro e' w2 ⟨rfl, hb2⟩
    rw [e]
    have hB2 := hb.trans (hb2.mono hb.size)
    clear c0 hb2
    go_wp2
    go_ret
    exact ⟨ZbR HR.out.symm, hB2⟩
   | false =>
    have HR : Hid (Zba f ts 0 = Zba f (ts.drop (k + 1)) (k + 1)) := by unfold Hid; rw [HK.out, ZfY f ts k x hx e]
    clear hx HK
    go_wp2_with fail
    refine (HF x _ (K.below hb) hsx).mono ?_
    rintro e' w2 ⟨rfl, hb2⟩
    rw [e]
    have hB2 := hb.trans (hb2.mono hb.size)
    clear c0 hb2
    go_wp2
    go_roundw
    case rel => exact ⟨k + 1, by omega, by go_num, HR, hB2⟩
    case measure => simp [intOf]; omega
  ·have HR : Hid (Zba f ts 0 = -1) := by unfold Hid; rw [HK.out, Zh1 f ts k (by omega)]
   clear HK hcell
   go_wp2
   go_ret
   exact ⟨ZbR HR.out.symm, hb⟩
theorem Zjb (v : Value) (ts : List ByteArray) (d : Wd) (p : Int) (bw bp : Nat) (an ai af ah al ag ap aa ab : Option Addr) (cn ci cf ch cl cg cp ca cb : Nat) (w : World) (R : StRow w v ts) (K : WB d p bw bp an ai af ah al ag ap aa ab cn ci cf ch cl cg cp ca cb w) (hz : ∀ x ∈ ts, x.size <= 1048576) :
  Calls Tryz.prog 159 #[v, .func (.func 160) #[] #[.pointer (some ⟨bw, 0, none⟩), .pointer (some ⟨bp, 0, none⟩)]] w fun e w' => e = .returned (.bool (ts.any (movB d.ns d.is d.ds p))) /\ Below w.heap.size w w' := by
 have IX := ZiP v ts d p bw bp an ai af ah al ag ap aa ab cn ci cf ch cl cg cp ca cb w R K hz
 rw [<- Zea (movB d.ns d.is d.ds p) ts 0]
 generalize Zba (movB d.ns d.is d.ds p) ts 0 = m at *
 obtain ⟨ao, cap, rfl⟩ := R.small
 go_enter Tryz.func159, Tryz.ntmps159
 go_wp2_with fail
 refine IX.mono ?_
 rintro e w1 ⟨rfl, hb⟩
 go_wp2
 go_ret
 exact ⟨by first | rfl | simp, hb⟩
def wayT (d : Wd) (k : Nat) : List ByteArray := (d.ga.getD k []).drop ((d.ls[k]?.map Lk.got).getD 0).toNat
theorem Zk6 {d : Wd} {i : Nat} {l : Lk} {ts : List ByteArray} (hl : d.ls[i]? = some l) (ht : d.ga[i]? = some ts) : wayT d i = ts.drop l.got.toNat := by
 unfold wayT
 rw [hl, List.getD_eq_getElem?_getD, ht]
 rfl
theorem Zic {d : Wd} {k : Nat} (h : ∀ x ∈ d.ga, SmS x) : ∀ x ∈ wayT d k, x.size <= 1048576 := by
 intro x hx
 have hx' := List.mem_of_mem_drop hx
 rw [List.getD_eq_getElem?_getD] at hx'
 cases hk : d.ga[k]? with
 | none => rw [hk] at hx'; cases hx'
 | some ts => rw [hk] at hx'; exact (h ts (List.mem_of_getElem? hk)).2 x hx'
def RetT (ts : List ByteArray) (e : Ending) (w : World) : Prop := ∃ v, e = .returned v /\ StRow w v ts
theorem ZeV {w : World} {pa : Option Addr} {n qa : Nat} {ts : List ByteArray} (h : StRow w (.slice pa n qa) ts) (hn : ts.length = n) (g k : Nat) (hk : k = min g n) (X : Option Addr) (m c : Nat) (hX : (qa = k /\ X = pa) \/ (k < qa /\ X = Option.map (fun x => x.add k) pa)) (hm : m = n - k) (hc : c = qa - k) : StRow w (.slice X m c) (ts.drop g) := by
 have hd : ts.drop g = ts.drop k := by
  by_cases h : g <= n
  ·rw [show k = g by omega]
  ·rw [List.drop_eq_nil_of_le (show ts.length <= g by omega), List.drop_eq_nil_of_le (by omega)]
 have hl : (ts.drop k).length = n - k := by rw [List.length_drop, hn]
 obtain ⟨ao', cap', e, hcc, hm', hz, hcell⟩ := h
 simp only [Value.slice.injEq] at e
 obtain ⟨rfl, e2, rfl⟩ := e
 rw [hd]
 subst hm hc
 have hz' : ∀ x ∈ ts.drop k, x.size <= maxLen := fun x hx => hz x (List.mem_of_mem_drop hx)
 rcases hX with ⟨rfl, rfl⟩ | ⟨hlt, rfl⟩
 ·have h0 : ts.drop qa = [] := List.drop_eq_nil_of_le (by omega)
  rw [h0]
  exact ⟨_, _, by rw [show n - qa = 0 by omega]; rfl, ⟨by simp, fun h => by omega⟩, by simp, by simp, fun h => absurd rfl h⟩
 ·refine ⟨_, _, by rw [hl], ⟨by rw [hl]; omega, fun h => ?_⟩, by omega, hz', fun hne => ?_⟩
  ·cases hp : pa with
   | none => have := hcc.2 hp; omega
   | some ad => rw [hp] at h; cases h
  ·have hne' : ts ≠ [] := fun e => hne (by rw [e]; simp)
   obtain ⟨g', o', e, hg, hcell2⟩ := hcell hne'
   subst e
   have hadd : (⟨g', o', none⟩ : Addr).add k = ⟨g', o' + k, none⟩ := by unfold Addr.add; split <;> simp_all
   refine ⟨g', o' + k, by rw [Option.map_some, hadd], hg, fun i x hi => ?_⟩
   rw [List.getElem?_drop] at hi
   rw [Nat.add_assoc]
   exact hcell2 (k + i) x hi
theorem Zf6 (vn vi vf vh vl vg vp va vt : Value) (d : Wd) (k : Nat) (w0 w : World) (R : WR 0 w0 vn vi vf vh vl vg vp va vt d) (hbw : Below w0.heap.size w0 w) (h1 : k < d.ls.length) (h2 : k < d.ga.length) :
  Calls Tryz.prog 148 #[.agg #[vn, vi, vf, .int .i64 d.pl, vh, vl, vg, vp, .int .i64 d.nx, va, vt], .int .i64 k] w fun e w' => RetT (wayT d k) e w0 /\ Below w.heap.size w w' := by
 have R0 := R
 obtain ⟨⟨an, cn, rfl⟩, ⟨ai, ci, rfl⟩, ⟨af, cf, rfl⟩, ⟨ah, ch, rfl⟩, ⟨al, cl, rfl⟩, ⟨ag, cg, rfl⟩, ⟨ap, cp, rfl⟩, ⟨aa, ca, rfl⟩, ⟨ab, cb, rfl⟩⟩ := R.form
 clear R
 obtain ⟨aol, capl, hhl, _, _, hcelll⟩ := R0.rl
 obtain ⟨aoa, capa, hha, _, _, hcella⟩ := R0.ra
 simp only [Value.slice.injEq] at hhl hha
 obtain ⟨rfl, _, rfl⟩ := hhl
 obtain ⟨rfl, _, rfl⟩ := hha
 obtain ⟨gl, ol, rfl, _, hgl, hcelll⟩ := hcelll (by intro e; rw [e] at h1; simp at h1)
 obtain ⟨ga, oa, rfl, _, hga, hcella⟩ := hcella (by intro e; rw [e] at h2; simp at h2)
 obtain ⟨l, hl⟩ : ∃ x, d.ls[k]? = some x := ⟨d.ls[k], List.getElem?_eq_getElem _⟩
 obtain ⟨ts, hta⟩ : ∃ x, d.ga[k]? = some x := ⟨d.ga[k], List.getElem?_eq_getElem _⟩
 obtain ⟨cs, hcs, hr, vq, vh', hc, L1, L2, _, _⟩ := hcelll k l hl
 obtain ⟨ca', _, hra, ua, rfl, A1, _⟩ := hcella k ts hta
 obtain ⟨pq, qq, rfl⟩ := L1.small
 obtain ⟨ph, qh, rfl⟩ := L2.small
 obtain rfl : cs = (#[.int .i64 l.sent, .int .i64 l.acked, .slice pq l.q.length qq, .int .i64 l.got, .slice ph l.h.length qh] : Array Value).toList := congrArg Array.toList hc
 have ON : Hid (wayT d k = ts.drop l.got.toNat) := Zk6 hl hta
 have hB0 := ZaE w (Obj.cells #[.slice an d.ns.length cn, .slice ai d.is.length ci, .slice af d.ds.length cf, .int .i64 d.pl, .slice ah d.hs.length ch, .slice (some ⟨gl, ol, none⟩) d.ls.length cl, .slice ag d.gs.length cg, .slice ap d.ps.length cp, .int .i64 d.nx, .slice (some ⟨ga, oa, none⟩) d.ga.length ca, .slice ab d.tk.length cb] 50)
 have hx := heap_alloc_new w (Obj.cells #[.slice an d.ns.length cn, .slice ai d.is.length ci, .slice af d.ds.length cf, .int .i64 d.pl, .slice ah d.hs.length ch, .slice (some ⟨gl, ol, none⟩) d.ls.length cl, .slice ag d.gs.length cg, .slice ap d.ps.length cp, .int .i64 d.nx, .slice (some ⟨ga, oa, none⟩) d.ga.length ca, .slice ab d.tk.length cb] 50)
 have k1 := cell_of_row _ _ 9 _ _ _ hx
 have k2 := cell_of_row _ _ 5 _ _ _ hx
 have HB := hbw.trans (hB0.mono hbw.size)
 have k3 := ZbE (Zaj hra HB hga)
 have k4 := Zaj hr HB hgl 3 _ rfl
 rw [Nat.mul_one] at k3
 have hk1 : (k : Int) < (d.ls.length : Int) := by omega
 have hk2 : (k : Int) < (d.ga.length : Int) := by omega
 obtain ⟨pa, qa, rfl⟩ := A1.small
 have hcA : ts.length <= qa /\ (pa = none -> qa = 0) := by
  obtain ⟨ao, cap, e, hc, _⟩ := A1
  simp only [Value.slice.injEq] at e
  obtain ⟨rfl, _, rfl⟩ := e
  exact hc
 have fin : ∀ (e : Ending) (v : Value), e = .returned v -> StRow w0 v (ts.drop l.got.toNat) -> RetT (wayT d k) e w0 := by
  intro e v he h
  rw [ON.out]
  exact ⟨v, he, h⟩
 generalize wayT d k = b at *
 clear hcelll hcella hl hta hc hcs hra hr hx L1 L2 ON R0
 by_cases g1 : l.got < 0
 ·by_cases h0 : qa = 0
  ·subst h0
   go_enter Tryz.func148, Tryz.ntmps148
   go_wp2
   go_ret
   exact ⟨fin _ _ rfl (ZeV A1 rfl l.got.toNat 0 (by have := hcA.1; omega) _ _ _ (Or.inl ⟨rfl, rfl⟩) (by have := hcA.1; omega) (by omega)), hB0⟩
  ·have h1 : 0 < qa := by omega
   go_enter Tryz.func148, Tryz.ntmps148
   go_wp2
   go_ret
   exact ⟨fin _ _ rfl (by rw [show l.got.toNat = 0 by omega]; exact A1), hB0⟩
 ·by_cases g2 : (ts.length : Int) < l.got
  ·by_cases h0 : qa = ts.length
   ·go_enter Tryz.func148, Tryz.ntmps148
    go_wp2
    go_ret
    exact ⟨fin _ _ rfl (ZeV A1 rfl l.got.toNat ts.length (by omega) _ _ _ (Or.inl ⟨h0, rfl⟩) (by omega) (by omega)), hB0⟩
   ·have h1 : ts.length < qa := by omega
    go_enter Tryz.func148, Tryz.ntmps148
    go_wp2
    go_ret
    exact ⟨fin _ _ rfl (ZeV A1 rfl l.got.toNat ts.length (by omega) _ _ _ (Or.inr ⟨h1, rfl⟩) (by omega) (by omega)), hB0⟩
  ·have g3 : l.got <= (ts.length : Int) := by omega
   by_cases h0 : qa = l.got.toNat
   ·go_enter Tryz.func148, Tryz.ntmps148
    go_wp2
    go_ret
    exact ⟨fin _ _ rfl (ZeV A1 rfl l.got.toNat l.got.toNat (by omega) _ _ _ (Or.inl ⟨h0, rfl⟩) (by omega) (by omega)), hB0⟩
   ·have h1 : l.got.toNat < qa := by omega
    go_enter Tryz.func148, Tryz.ntmps148
    go_wp2
    go_ret
    exact ⟨fin _ _ rfl (ZeV A1 rfl l.got.toNat l.got.toNat (by omega) _ _ _ (Or.inr ⟨h1, rfl⟩) (by omega) (by omega)), hB0⟩
theorem Zcj (vn vi vf vh vl vg vp va vt : Value) (d : Wd) (k : Nat) (p : Int) (w : World) (R : WR 0 w vn vi vf vh vl vg vp va vt d) (hS : SmW d) (hE : ErrT w) (h1 : k < d.ls.length) (h2 : k < d.ga.length) :
  Calls Tryz.prog 117 #[.agg #[vn, vi, vf, .int .i64 d.pl, vh, vl, vg, vp, .int .i64 d.nx, va, vt], .int .i64 k, .int .i64 p] w fun e w' => e = .returned (.bool (onW d p k)) /\ Below w.heap.size w w' := by
 have hmf : ∀ (fn : Fn) (first cap : Array Value) (w : World), (Instr.makeFunc fn first cap).run Tryz.prog w = .ok (.func fn first cap) w := fun _ _ _ _ => rfl
 have R0 := R
 obtain ⟨⟨an, cn, rfl⟩, ⟨ai, ci, rfl⟩, ⟨af, cf, rfl⟩, ⟨ah, ch, rfl⟩, ⟨al, cl, rfl⟩, ⟨ag, cg, rfl⟩, ⟨ap, cp, rfl⟩, ⟨aa, ca, rfl⟩, ⟨ab, cb, rfl⟩⟩ := R.form
 clear R
 obtain ⟨hB0, hx, hy⟩ := Zat w (Obj.cells #[.slice an d.ns.length cn, .slice ai d.is.length ci, .slice af d.ds.length cf, .int .i64 d.pl, .slice ah d.hs.length ch, .slice al d.ls.length cl, .slice ag d.gs.length cg, .slice ap d.ps.length cp, .int .i64 d.nx, .slice aa d.ga.length ca, .slice ab d.tk.length cb] 50) (Obj.cells #[.int .i64 p] 3)
 have hz : ∀ x ∈ wayT d k, x.size <= 1048576 := Zic hS.ha.2
 have K : WB d p w.heap.size (w.heap.size + 1) an ai af ah al ag ap aa ab cn ci cf ch cl cg cp ca cb _ := ⟨hx, cell_of_row _ _ 0 _ _ _ hy, Zao hy, R0.below hB0, hE.below hB0 (Nat.le_refl _)⟩
 clear hy
 go_enter Tryz.func117, Tryz.ntmps117
 go_wp2_with (refine wpList_load_row rfl 50 _ rfl w.heap.size rfl 50 #[.slice an d.ns.length cn, .slice ai d.is.length ci, .slice af d.ds.length cf, .int .i64 d.pl, .slice ah d.hs.length ch, .slice al d.ls.length cl, .slice ag d.gs.length cg, .slice ap d.ps.length cp, .int .i64 d.nx, .slice aa d.ga.length ca, .slice ab d.tk.length cb] (0, 0) _ hx Tryz.underlying50 rfl Zmt ?_)
 refine (Zf6 _ _ _ _ _ _ _ _ _ d k _ _ K.R (Below.refl _ _) h1 h2).mono ?_
 rintro e w1 ⟨⟨v, rfl, hv⟩, hb⟩
 replace hv := hv.below hb
 replace hB0 := hB0.trans (hb.mono hB0.size)
 replace K := K.below hb
 clear hb hx
 have ON : Hid (onW d p k = (wayT d k).any (movB d.ns d.is d.ds p)) := rfl
 obtain ⟨ao, cap, hvf⟩ := hv.small
 have FC := Zjb v _ d p _ _ _ _ _ _ _ _ _ _ _ _ _ _ _ _ _ _ _ _ _ hv K hz
 rw [<- ON.out] at FC
 subst hvf
 clear ON hv K hz
 obtain ⟨b, hb0⟩ : ∃ b, onW d p k = b := ⟨_, rfl⟩
 rw [hb0] at FC
 have HB0 : Hid (onW d p k = b) := hb0
 clear hb0
 go_wp2_with fail
 refine FC.mono ?_
 rintro e w2 ⟨rfl, hb⟩
 replace hB0 := hB0.trans (hb.mono hB0.size)
 clear FC
 go_wp2
 go_ret
 exact ⟨retB HB0.out.symm, hB0⟩
def MvAns (r : Int) (e : Ending) : Prop := ∃ ok : Bool, e = .returned (.tuple #[.int .i64 (if ok then r else 0), .bool ok]) /\ (ok = false -> r = -1)
theorem MvAns.no {r : Int} {e : Ending} (he : e = .returned (.tuple #[.int .i64 0, .bool false])) (h : r = -1) : MvAns r e := ⟨false, he, fun _ => h⟩
theorem MvAns.yes {r q : Int} {e : Ending} (he : e = .returned (.tuple #[.int .i64 q, .bool true])) (h : r = q) : MvAns r e := ⟨true, by rw [if_pos rfl, h, he], (fun h => by cases h)⟩
theorem Zdw (vn vi vf vh vl vg vp va vt : Value) (d : Wd) (k : Nat) (w : World) (R : WR 0 w vn vi vf vh vl vg vp va vt d) (hp : 0 < d.pl) :
  Calls Tryz.prog 118 #[.agg #[vn, vi, vf, .int .i64 d.pl, vh, vl, vg, vp, .int .i64 d.nx, va, vt], .int .i64 k] w fun e w' => e = .returned (.int .i64 ((k : Int) % d.pl)) /\ Below w.heap.size w w' := by
 obtain ⟨⟨an, cn, rfl⟩, ⟨ai, ci, rfl⟩, ⟨af, cf, rfl⟩, ⟨ah, ch, rfl⟩, ⟨al, cl, rfl⟩, ⟨ag, cg, rfl⟩, ⟨ap, cp, rfl⟩, ⟨aa, ca, rfl⟩, ⟨ab, cb, rfl⟩⟩ := R.form
 clear R
 have hB0 := ZaE w (Obj.cells #[.slice an d.ns.length cn, .slice ai d.is.length ci, .slice af d.ds.length cf, .int .i64 d.pl, .slice ah d.hs.length ch, .slice al d.ls.length cl, .slice ag d.gs.length cg, .slice ap d.ps.length cp, .int .i64 d.nx, .slice aa d.ga.length ca, .slice ab d.tk.length cb] 50)
 have hx0 := heap_alloc_new w (Obj.cells #[.slice an d.ns.length cn, .slice ai d.is.length ci, .slice af d.ds.length cf, .int .i64 d.pl, .slice ah d.hs.length ch, .slice al d.ls.length cl, .slice ag d.gs.length cg, .slice ap d.ps.length cp, .int .i64 d.nx, .slice aa d.ga.length ca, .slice ab d.tk.length cb] 50)
 have c3 : (w.alloc (Obj.cells #[.slice an d.ns.length cn, .slice ai d.is.length ci, .slice af d.ds.length cf, .int .i64 d.pl, .slice ah d.hs.length ch, .slice al d.ls.length cl, .slice ag d.gs.length cg, .slice ap d.ps.length cp, .int .i64 d.nx, .slice aa d.ga.length ca, .slice ab d.tk.length cb] 50)).cell? ⟨w.heap.size, 0 + 3, none⟩ = some (.int .i64 d.pl) := cell_of_row _ _ 3 _ _ _ hx0
 have hne : d.pl ≠ 0 := by omega
 clear hx0
 go_enter Tryz.func118, Tryz.ntmps118
 go_wp2
 go_ret
 exact ⟨rfl, hB0⟩
theorem ZfE (vn vi vf vh vl vg vp va vt : Value) (d : Wd) (p : Int) (w : World) (R : WR 0 w vn vi vf vh vl vg vp va vt d) (hS : SmW d) (hE : ErrT w) :
  Calls Tryz.prog 65 #[.agg #[vn, vi, vf, .int .i64 d.pl, vh, vl, vg, vp, .int .i64 d.nx, va, vt], .int .i64 p] w fun e w' => MvAns (whL d p) e /\ Below w.heap.size w w' := by
 have R0 := R
 obtain ⟨⟨an, cn, rfl⟩, ⟨ai, ci, rfl⟩, ⟨af, cf, rfl⟩, ⟨ah, ch, rfl⟩, ⟨al, cl, rfl⟩, ⟨ag, cg, rfl⟩, ⟨ap, cp, rfl⟩, ⟨aa, ca, rfl⟩, ⟨ab, cb, rfl⟩⟩ := R.form
 clear R
 have hB0 := ZaE w (Obj.cells #[.slice an d.ns.length cn, .slice ai d.is.length ci, .slice af d.ds.length cf, .int .i64 d.pl, .slice ah d.hs.length ch, .slice al d.ls.length cl, .slice ag d.gs.length cg, .slice ap d.ps.length cp, .int .i64 d.nx, .slice aa d.ga.length ca, .slice ab d.tk.length cb] 50)
 have hx0 := heap_alloc_new w (Obj.cells #[.slice an d.ns.length cn, .slice ai d.is.length ci, .slice af d.ds.length cf, .int .i64 d.pl, .slice ah d.hs.length ch, .slice al d.ls.length cl, .slice ag d.gs.length cg, .slice ap d.ps.length cp, .int .i64 d.nx, .slice aa d.ga.length ca, .slice ab d.tk.length cb] 50)
 go_enter Tryz.func65, Tryz.ntmps65
 by_cases hp : d.pl < 1
 ·have HW : Hid (whL d p = -1) := by unfold Hid whL; rw [if_neg (by omega)]
  have c3 : (w.alloc (Obj.cells #[.slice an d.ns.length cn, .slice ai d.is.length ci, .slice af d.ds.length cf, .int .i64 d.pl, .slice ah d.hs.length ch, .slice al d.ls.length cl, .slice ag d.gs.length cg, .slice ap d.ps.length cp, .int .i64 d.nx, .slice aa d.ga.length ca, .slice ab d.tk.length cb] 50)).cell? ⟨w.heap.size, 0 + 3, none⟩ = some (.int .i64 d.pl) := cell_of_row _ _ 3 _ _ _ hx0
  go_wp2
  exact bodyPost_ret (results_tmp2 rfl _ _ _) rfl ⟨MvAns.no rfl HW.out, hB0⟩
 ·have hpl : 0 < d.pl := by omega
  have HW : Hid (whL d p = whGo (onW d p) d.pl (min d.ls.length d.ga.length - 0) 0) := by unfold Hid whL; rw [if_pos hpl]; rfl
  obtain ⟨m, hm⟩ : ∃ m, min d.ls.length d.ga.length = m := ⟨_, rfl⟩
  rw [hm] at HW
  have hm1 : m <= d.ls.length := by omega
  have hm2 : m <= d.ga.length := by omega
  have c3 : (w.alloc (Obj.cells #[.slice an d.ns.length cn, .slice ai d.is.length ci, .slice af d.ds.length cf, .int .i64 d.pl, .slice ah d.hs.length ch, .slice al d.ls.length cl, .slice ag d.gs.length cg, .slice ap d.ps.length cp, .int .i64 d.nx, .slice aa d.ga.length ca, .slice ab d.tk.length cb] 50)).cell? ⟨w.heap.size, 0 + 3, none⟩ = some (.int .i64 d.pl) := cell_of_row _ _ 3 _ _ _ hx0
  have c5 : (w.alloc (Obj.cells #[.slice an d.ns.length cn, .slice ai d.is.length ci, .slice af d.ds.length cf, .int .i64 d.pl, .slice ah d.hs.length ch, .slice al d.ls.length cl, .slice ag d.gs.length cg, .slice ap d.ps.length cp, .int .i64 d.nx, .slice aa d.ga.length ca, .slice ab d.tk.length cb] 50)).cell? ⟨w.heap.size, 0 + 5, none⟩ = some (.slice al d.ls.length cl) := cell_of_row _ _ 5 _ _ _ hx0
  have c9 : (w.alloc (Obj.cells #[.slice an d.ns.length cn, .slice ai d.is.length ci, .slice af d.ds.length cf, .int .i64 d.pl, .slice ah d.hs.length ch, .slice al d.ls.length cl, .slice ag d.gs.length cg, .slice ap d.ps.length cp, .int .i64 d.nx, .slice aa d.ga.length ca, .slice ab d.tk.length cb] 50)).cell? ⟨w.heap.size, 0 + 9, none⟩ = some (.slice aa d.ga.length ca) := cell_of_row _ _ 9 _ _ _ hx0
  have HM : Hid (min d.ls.length d.ga.length = m) := hm
  clear hm
  by_cases hlg : (d.ga.length : Int) < (d.ls.length : Int)
  ·have HG : Hid (d.ga.length = m) := by have := HM.out; unfold Hid; omega
   go_wp2_with fail
   clear c3 c5 c9
   generalize w.alloc (Obj.cells #[.slice an d.ns.length cn, .slice ai d.is.length ci, .slice af d.ds.length cf, .int .i64 d.pl, .slice ah d.hs.length ch, .slice al d.ls.length cl, .slice ag d.gs.length cg, .slice ap d.ps.length cp, .int .i64 d.nx, .slice aa d.ga.length ca, .slice ab d.tk.length cb] 50) = W0 at *
   go_loopw [17] (fun i wr => ∃ k : Nat, k <= m /\ i = .int .i64 k /\ Hid (whL d p = whGo (onW d p) d.pl (m - k) k) /\ Below W0.heap.size W0 wr) (fun i _ => m - (intOf i).toNat)
   case atStart => exact ⟨0, by omega, rfl, HW, Below.refl _ _⟩
   case round =>
    clear HW
    obtain ⟨k, hk, rfl, HK, hb⟩ := hrel
    have hxr := Zal hx0 hb
    have hBr := hB0.trans (hb.mono hB0.size)
    by_cases hlt : k < m
    ·have h1 : k < d.ls.length := by omega
     have h2 : k < d.ga.length := by omega
     have hk20 : k < 1048576 := by have := hS.hl.1; omega
     have hkg : (k : Int) < (d.ga.length : Int) := by have := HG.out; omega
     cases e : onW d p k with
     | true =>
      have HB : Hid (whL d p = (k : Int) % d.pl) := by unfold Hid; rw [HK.out, Zew hlt e]
      go_wp2_with (refine wpList_load_row rfl 50 _ rfl w.heap.size rfl 50 #[.slice an d.ns.length cn, .slice ai d.is.length ci, .slice af d.ds.length cf, .int .i64 d.pl, .slice ah d.hs.length ch, .slice al d.ls.length cl, .slice ag d.gs.length cg, .slice ap d.ps.length cp, .int .i64 d.nx, .slice aa d.ga.length ca, .slice ab d.tk.length cb] (0, 0) _ hxr Tryz.underlying50 rfl Zmt ?_)
      refine (Zcj _ _ _ _ _ _ _ _ _ d k p _ (R0.below hBr) hS (hE.below hBr (Nat.le_refl _)) h1 h2).mono ?_
      rintro e' w2 ⟨rfl, hb2⟩
      rw [e]
      replace hxr := Zal hxr hb2
      replace hBr := hBr.trans (hb2.mono hBr.size)
      clear hb2 hb HK
      go_wp2_with (refine wpList_load_row rfl 50 _ rfl w.heap.size rfl 50 #[.slice an d.ns.length cn, .slice ai d.is.length ci, .slice af d.ds.length cf, .int .i64 d.pl, .slice ah d.hs.length ch, .slice al d.ls.length cl, .slice ag d.gs.length cg, .slice ap d.ps.length cp, .int .i64 d.nx, .slice aa d.ga.length ca, .slice ab d.tk.length cb] (0, 0) _ hxr Tryz.underlying50 rfl Zmt ?_)
      refine (Zdw _ _ _ _ _ _ _ _ _ d k _ (R0.below hBr) hpl).mono ?_
      rintro e' w3 ⟨rfl, hb3⟩
      replace hBr := hBr.trans (hb3.mono hBr.size)
      clear hb3 hxr
      go_wp2
      exact bodyPost_ret (results_tmp2 rfl _ _ _) rfl ⟨MvAns.yes rfl HB.out, hBr⟩
     | false =>
      have HB : Hid (whL d p = whGo (onW d p) d.pl (m - (k + 1)) (k + 1)) := by unfold Hid; rw [HK.out, ZdJ hlt e]
      go_wp2_with (refine wpList_load_row rfl 50 _ rfl w.heap.size rfl 50 #[.slice an d.ns.length cn, .slice ai d.is.length ci, .slice af d.ds.length cf, .int .i64 d.pl, .slice ah d.hs.length ch, .slice al d.ls.length cl, .slice ag d.gs.length cg, .slice ap d.ps.length cp, .int .i64 d.nx, .slice aa d.ga.length ca, .slice ab d.tk.length cb] (0, 0) _ hxr Tryz.underlying50 rfl Zmt ?_)
      refine (Zcj _ _ _ _ _ _ _ _ _ d k p _ (R0.below hBr) hS (hE.below hBr (Nat.le_refl _)) h1 h2).mono ?_
      rintro e' w2 ⟨rfl, hb2⟩
      rw [e]
      have hb3 := hb.trans (hb2.mono hb.size)
      clear hb2 hb HK hxr hBr
      go_wp2
      go_roundw
      case rel => exact ⟨k + 1, by omega, by go_num, HB, hb3⟩
      case measure => simp [intOf]; omega
    ·have HB : Hid (whL d p = -1) := by unfold Hid; rw [HK.out, ZeS (by omega)]
     have hkg : ¬ (k : Int) < (d.ga.length : Int) := by have := HG.out; omega
     clear HK hxr
     go_wp2
     refine bodyPost_ret (results_tmp2 rfl _ _ _) rfl ?_
     exact ⟨MvAns.no rfl HB.out, hBr⟩
  ·have HG : Hid (d.ls.length = m) := by have := HM.out; unfold Hid; omega
   go_wp2_with fail
   clear c3 c5 c9
   generalize w.alloc (Obj.cells #[.slice an d.ns.length cn, .slice ai d.is.length ci, .slice af d.ds.length cf, .int .i64 d.pl, .slice ah d.hs.length ch, .slice al d.ls.length cl, .slice ag d.gs.length cg, .slice ap d.ps.length cp, .int .i64 d.nx, .slice aa d.ga.length ca, .slice ab d.tk.length cb] 50) = W0 at *
   go_loopw [17] (fun i wr => ∃ k : Nat, k <= m /\ i = .int .i64 k /\ Hid (whL d p = whGo (onW d p) d.pl (m - k) k) /\ Below W0.heap.size W0 wr) (fun i _ => m - (intOf i).toNat)
   case atStart => exact ⟨0, by omega, rfl, HW, Below.refl _ _⟩
   case round =>
    clear HW
    obtain ⟨k, hk, rfl, HK, hb⟩ := hrel
    have hxr := Zal hx0 hb
    have hBr := hB0.trans (hb.mono hB0.size)
    by_cases hlt : k < m
    ·have h1 : k < d.ls.length := by omega
     have h2 : k < d.ga.length := by omega
     have hk20 : k < 1048576 := by have := hS.hl.1; omega
     have hkg : (k : Int) < (d.ls.length : Int) := by have := HG.out; omega
     cases e : onW d p k with
     | true =>
      have HB : Hid (whL d p = (k : Int) % d.pl) := by unfold Hid; rw [HK.out, Zew hlt e]
      go_wp2_with (refine wpList_load_row rfl 50 _ rfl w.heap.size rfl 50 #[.slice an d.ns.length cn, .slice ai d.is.length ci, .slice af d.ds.length cf, .int .i64 d.pl, .slice ah d.hs.length ch, .slice al d.ls.length cl, .slice ag d.gs.length cg, .slice ap d.ps.length cp, .int .i64 d.nx, .slice aa d.ga.length ca, .slice ab d.tk.length cb] (0, 0) _ hxr Tryz.underlying50 rfl Zmt ?_)
      refine (Zcj _ _ _ _ _ _ _ _ _ d k p _ (R0.below hBr) hS (hE.below hBr (Nat.le_refl _)) h1 h2).mono ?_
      rintro e' w2 ⟨rfl, hb2⟩
      rw [e]
      replace hxr := Zal hxr hb2
      replace hBr := hBr.trans (hb2.mono hBr.size)
      clear hb2 hb HK
      go_wp2_with (refine wpList_load_row rfl 50 _ rfl w.heap.size rfl 50 #[.slice an d.ns.length cn, .slice ai d.is.length ci, .slice af d.ds.length cf, .int .i64 d.pl, .slice ah d.hs.length ch, .slice al d.ls.length cl, .slice ag d.gs.length cg, .slice ap d.ps.length cp, .int .i64 d.nx, .slice aa d.ga.length ca, .slice ab d.tk.length cb] (0, 0) _ hxr Tryz.underlying50 rfl Zmt ?_)
      refine (Zdw _ _ _ _ _ _ _ _ _ d k _ (R0.below hBr) hpl).mono ?_
      rintro e' w3 ⟨rfl, hb3⟩
      replace hBr := hBr.trans (hb3.mono hBr.size)
      clear hb3 hxr
      go_wp2
      exact bodyPost_ret (results_tmp2 rfl _ _ _) rfl ⟨MvAns.yes rfl HB.out, hBr⟩
     | false =>
      have HB : Hid (whL d p = whGo (onW d p) d.pl (m - (k + 1)) (k + 1)) := by unfold Hid; rw [HK.out, ZdJ hlt e]
      go_wp2_with (refine wpList_load_row rfl 50 _ rfl w.heap.size rfl 50 #[.slice an d.ns.length cn, .slice ai d.is.length ci, .slice af d.ds.length cf, .int .i64 d.pl, .slice ah d.hs.length ch, .slice al d.ls.length cl, .slice ag d.gs.length cg, .slice ap d.ps.length cp, .int .i64 d.nx, .slice aa d.ga.length ca, .slice ab d.tk.length cb] (0, 0) _ hxr Tryz.underlying50 rfl Zmt ?_)
      refine (Zcj _ _ _ _ _ _ _ _ _ d k p _ (R0.below hBr) hS (hE.below hBr (Nat.le_refl _)) h1 h2).mono ?_
      rintro e' w2 ⟨rfl, hb2⟩
      rw [e]
      have hb3 := hb.trans (hb2.mono hb.size)
      clear hb2 hb HK hxr hBr
      go_wp2
      go_roundw
      case rel => exact ⟨k + 1, by omega, by go_num, HB, hb3⟩
      case measure => simp [intOf]; omega
    ·have HB : Hid (whL d p = -1) := by unfold Hid; rw [HK.out, ZeS (by omega)]
     have hkg : ¬ (k : Int) < (d.ls.length : Int) := by have := HG.out; omega
     clear HK hxr
     go_wp2
     refine bodyPost_ret (results_tmp2 rfl _ _ _) rfl ?_
     exact ⟨MvAns.no rfl HB.out, hBr⟩
theorem Zhd (vn vi vf vh vl vg vp va vt : Value) (d : Wd) (p : Int) (w : World) (R : WR 0 w vn vi vf vh vl vg vp va vt d) (hS : SmW d) (hE : ErrT w) :
  Calls Tryz.prog 27 #[.agg #[vn, vi, vf, .int .i64 d.pl, vh, vl, vg, vp, .int .i64 d.nx, va, vt], .int .i64 p] w fun e w' => e = .returned (.int .i64 (whR d p)) /\ Below w.heap.size w w' := by
 have R0 := R
 obtain ⟨⟨an, cn, rfl⟩, ⟨ai, ci, rfl⟩, ⟨af, cf, rfl⟩, ⟨ah, ch, rfl⟩, ⟨al, cl, rfl⟩, ⟨ag, cg, rfl⟩, ⟨ap, cp, rfl⟩, ⟨aa, ca, rfl⟩, ⟨ab, cb, rfl⟩⟩ := R.form
 clear R
 have hB0 := ZaE w (Obj.cells #[.slice an d.ns.length cn, .slice ai d.is.length ci, .slice af d.ds.length cf, .int .i64 d.pl, .slice ah d.hs.length ch, .slice al d.ls.length cl, .slice ag d.gs.length cg, .slice ap d.ps.length cp, .int .i64 d.nx, .slice aa d.ga.length ca, .slice ab d.tk.length cb] 50)
 have hx0 := heap_alloc_new w (Obj.cells #[.slice an d.ns.length cn, .slice ai d.is.length ci, .slice af d.ds.length cf, .int .i64 d.pl, .slice ah d.hs.length ch, .slice al d.ls.length cl, .slice ag d.gs.length cg, .slice ap d.ps.length cp, .int .i64 d.nx, .slice aa d.ga.length ca, .slice ab d.tk.length cb] 50)
 go_enter Tryz.func27, Tryz.ntmps27
 go_wp2_with (refine wpList_load_row rfl 50 _ rfl w.heap.size rfl 50 #[.slice an d.ns.length cn, .slice ai d.is.length ci, .slice af d.ds.length cf, .int .i64 d.pl, .slice ah d.hs.length ch, .slice al d.ls.length cl, .slice ag d.gs.length cg, .slice ap d.ps.length cp, .int .i64 d.nx, .slice aa d.ga.length ca, .slice ab d.tk.length cb] (0, 0) _ hx0 Tryz.underlying50 rfl Zmt ?_)
 refine (Zgc _ _ _ _ _ _ _ _ _ d p _ _ (R0.below hB0)).mono ?_
 rintro e w1 ⟨rfl, hb⟩
 have hx1 := Zal hx0 hb
 have hB1 := hB0.trans (hb.mono hB0.size)
 clear hb hx0 hB0
 rcases Zen d.hs p 0 with hm | ⟨k, hm, hk⟩
 ·have HW : Hid (whR d p = whL d p) := ZgI hm
  rw [hm]
  clear hm
  go_wp2_with (refine wpList_load_row rfl 50 _ rfl w.heap.size rfl 50 #[.slice an d.ns.length cn, .slice ai d.is.length ci, .slice af d.ds.length cf, .int .i64 d.pl, .slice ah d.hs.length ch, .slice al d.ls.length cl, .slice ag d.gs.length cg, .slice ap d.ps.length cp, .int .i64 d.nx, .slice aa d.ga.length ca, .slice ab d.tk.length cb] (0, 0) _ hx1 Tryz.underlying50 rfl Zmt ?_)
  refine (ZfE _ _ _ _ _ _ _ _ _ d p _ (R0.below hB1) hS (hE.below hB1 (Nat.le_refl _))).mono ?_
  rintro e w2 ⟨⟨ok, rfl, hno⟩, hb⟩
  replace hB1 := hB1.trans (hb.mono hB1.size)
  clear hb hx1
  cases ok with
  | false =>
   have HR : Hid (whR d p = -1) := by unfold Hid; rw [HW.out, hno rfl]
   clear hno HW
   go_wp2
   go_ret
   exact ⟨ZbR HR.out.symm, hB1⟩
  | true =>
   rw [if_pos rfl]
   clear hno
   go_wp2
   go_ret
   exact ⟨ZbR HW.out.symm, hB1⟩
 ·rw [Nat.zero_add] at hm
  rw [hm]
  obtain ⟨x, hx⟩ : ∃ x, d.hs[k]? = some x := ⟨d.hs[k], by simp [hk]⟩
  have HR : Hid (whR d p = x.pl) := ZgF hm hx
  obtain ⟨aoh, caph, hhh, _, _, hcellh⟩ := R0.rh
  simp only [Value.slice.injEq] at hhh
  obtain ⟨rfl, _, rfl⟩ := hhh
  obtain ⟨g, o, rfl, _, hg, hcellh⟩ := hcellh (by intro e; rw [e] at hk; simp at hk)
  obtain ⟨cs, hcs, hr, v1, v2, v3, hc, _⟩ := hcellh k x hx
  obtain rfl : cs = (#[.int .i64 x.pl, .int .i64 x.i, v1, .int .i64 x.m.p, .int .i64 x.m.s, .int .i64 x.m.e, .int .i64 x.m.d, .int .i64 x.m.t, .int .i64 x.m.q, .int .i64 x.m.r, v2, v3] : Array Value).toList := congrArg Array.toList hc
  have d1 : w1.cell? ⟨g, o + k * 12, none⟩ = some (.int .i64 x.pl) := Zaj hr hB1 hg 0 _ rfl
  have c4 : w1.cell? ⟨w.heap.size, 0 + 4, none⟩ = some (.slice (some ⟨g, o, none⟩) d.hs.length ch) := cell_of_row w1 _ 4 _ _ _ hx1
  have hki : (k : Int) < (d.hs.length : Int) := by omega
  have hk0 : (0 : Int) <= (k : Int) := by omega
  clear hcellh hc hcs hr hx hm hx1
  go_wp2
  go_ret
  exact ⟨ZbR HR.out.symm, hB1⟩
end Go.Proofs.YtfmafkebddojjaaGreatDoor
