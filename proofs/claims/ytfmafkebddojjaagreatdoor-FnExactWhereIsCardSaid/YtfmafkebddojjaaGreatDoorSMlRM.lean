/-
  Texts that stood by themselves, laid into one.
-/
import Derived.Test.YtfmafkebddojjaaGreatDoorXRM
import Derived.Test.YtfmafkebddojjaaGreatDoorWHomeM
import Derived.Test.YtfmafkebddojjaaGreatDoorSR8M
import Derived.Test.YtfmafkebddojjaaGreatDoorSGTextM
import Derived.Test.YtfmafkebddojjaaGreatDoorMcTM
import Derived.Test.YtfmafkebddojjaaGreatDoorSPTextM
import Derived.Test.YtfmafkebddojjaaGreatDoorMRgM
import Derived.Test.YtfmafkebddojjaaGreatDoorShapeM
/-
  Who is moved by a payload, and where a process is: plain mathematics. No condition.
-/
set_option maxRecDepth 100000
set_option maxHeartbeats 6400000
namespace Go.Proofs.YtfmafkebddojjaaGreatDoor
open Go.RowKit
theorem WR.mono {B C : Nat} {w : World} {vn vi vf vh vl vg vp va vt : Value} {d : Wd} (R : WR B w vn vi vf vh vl vg vp va vt d) (h : C <= B) : WR C w vn vi vf vh vl vg vp va vt d :=
 ⟨R.rn, R.ri, R.rf, R.rh.mono stbH h, R.rl.mono stbL h, R.rg.mono stbG h, R.rp.mono stbP h, R.ra.mono stbS h, R.rt.mono stbS h, R.fn.mono h, R.fi.mono h, R.ff.mono h⟩
def movN (ns : List Nd) (is : List In) (ds : List Df) (s : ByteArray) : Int :=
 match mrd (sb s) with
 | none => 0
 | some (k, _, t) => if k = 2 then (pdT (pdR ns is ds (sb t))).1 else 0
def movB (ns : List Nd) (is : List In) (ds : List Df) (p : Int) (s : ByteArray) : Bool := decide (0 < p) && (movN ns is ds s == p)
theorem Zfo {ns : List Nd} {is : List In} {ds : List Df} {s : ByteArray} (h : mrd (sb s) = none) : movN ns is ds s = 0 := by unfold movN; rw [h]
theorem Zd5 {ns : List Nd} {is : List In} {ds : List Df} {s : ByteArray} {k p : Int} {t : ByteArray} (h : mrd (sb s) = some (k, p, t)) (hk : k ≠ 2) : movN ns is ds s = 0 := by unfold movN; rw [h]; exact if_neg hk
theorem Zfl {ns : List Nd} {is : List In} {ds : List Df} {s : ByteArray} {p : Int} {t : ByteArray} (h : mrd (sb s) = some (2, p, t)) : movN ns is ds s = (pdT (pdR ns is ds (sb t))).1 := by unfold movN; rw [h]; exact if_pos rfl
theorem ZiB {ns : List Nd} {is : List In} {ds : List Df} {zs : List Int} {I : Int} {X : List Nd} {M : Mc} {BX OX : List ByteArray} {ok : Bool} (h : pdT (pdR ns is ds zs) = (I, X, M, BX, OX, ok)) : (ok = true -> 1 <= I) /\ (ok = false -> I = 0) := by
 cases hp : pdR ns is ds zs with
 | none =>
  rw [hp] at h
  simp only [pdT, Prod.mk.injEq] at h
  obtain ⟨rfl, _, _, _, _, rfl⟩ := h
  exact ⟨(fun h => by cases h), fun _ => rfl⟩
 | some q =>
  have hq := hp
  rw [hp] at h
  obtain ⟨i, m, b, o⟩ := q
  simp only [pdT, Prod.mk.injEq] at h
  obtain ⟨rfl, _, _, _, _, rfl⟩ := h
  refine ⟨fun _ => ?_, (fun h => by cases h)⟩
  unfold pdR at hq
  simp only [Option.bind_eq_some_iff] at hq
  obtain ⟨p, _, t, _, b', _, o', _, hq⟩ := hq
  split at hq
  ·rw [Option.bind_eq_some_iff] at hq
   obtain ⟨r, _, hq⟩ := hq
   split at hq
   ·rename_i hpr
    simp only [Option.some.injEq, Prod.mk.injEq] at hq
    obtain ⟨rfl, _⟩ := hq
    unfold ZbJ pidB at hpr
    simp at hpr
    omega
   ·cases hq
  ·cases hq
theorem ZgR {zs : List Int} {k p : Int} {t : ByteArray} (h : mrd zs = some (k, p, t)) : t.size <= zs.length := by
 have key : ∀ {k' p' a : Int} {q : Int × Int × ByteArray}, mEnd zs k' p' a = some q -> q.2.2.size <= zs.length := by
  intro k' p' a q hq
  unfold mEnd at hq
  rw [Option.bind_eq_some_iff] at hq
  obtain ⟨r, h1, h2⟩ := hq
  split at h2
  ·cases h2
   unfold rt at h1
   split at h1
   ·cases h1
    exact Zcx zs a
   ·cases h1
  ·cases h2
 unfold mrd at h
 rw [Option.bind_eq_some_iff] at h
 obtain ⟨r, _, h⟩ := h
 split at h
 ·rw [Option.bind_eq_some_iff] at h
  obtain ⟨p', _, h⟩ := h
  exact key h
 ·split at h
  ·exact key h
  ·cases h
def Zba (f : ByteArray -> Bool) : List ByteArray -> Nat -> Int
 | [], _ => -1
 | s :: ss, i => if f s then i else Zba f ss (i + 1)
theorem Zg9 (f : ByteArray -> Bool) (ss : List ByteArray) (i : Nat) (s : ByteArray) (hx : ss[i]? = some s) (e : f s = true) : Zba f (ss.drop i) i = i := by
 obtain ⟨hl, he⟩ := List.getElem?_eq_some_iff.1 hx
 rw [List.drop_eq_getElem_cons hl, he, Zba, if_pos e]
theorem ZfY (f : ByteArray -> Bool) (ss : List ByteArray) (i : Nat) (s : ByteArray) (hx : ss[i]? = some s) (e : f s = false) : Zba f (ss.drop i) i = Zba f (ss.drop (i + 1)) (i + 1) := by
 obtain ⟨hl, he⟩ := List.getElem?_eq_some_iff.1 hx
 rw [List.drop_eq_getElem_cons hl, he, Zba, if_neg (by rw [e]; simp)]
theorem Zh1 (f : ByteArray -> Bool) (ss : List ByteArray) (i : Nat) (h : ss.length <= i) : Zba f (ss.drop i) i = -1 := by
 rw [List.drop_eq_nil_of_le h, Zba]
theorem Zea (f : ByteArray -> Bool) : ∀ (ss : List ByteArray) (i : Nat), decide (0 <= Zba f ss i) = ss.any f
 | [], i => by simp [Zba]
 | s :: ss, i => by
  rw [Zba, List.any_cons]
  cases f s with
  | true => simp
  | false => simp [Zea f ss (i + 1)]
def onW (d : Wd) (p : Int) (i : Nat) : Bool := ((d.ga.getD i []).drop ((d.ls[i]?.map Lk.got).getD 0).toNat).any (movB d.ns d.is d.ds p)
theorem Zly {d : Wd} {p : Int} {i : Nat} {l : Lk} {ts : List ByteArray} (hl : d.ls[i]? = some l) (ht : d.ga[i]? = some ts) : onW d p i = (ts.drop l.got.toNat).any (movB d.ns d.is d.ds p) := by
 unfold onW
 rw [hl, List.getD_eq_getElem?_getD, ht]
 rfl
def whGo (f : Nat -> Bool) (pl : Int) : Nat -> Nat -> Int
 | 0, _ => -1
 | n + 1, i => if f i then (i : Int) % pl else whGo f pl n (i + 1)
theorem Zew {f : Nat -> Bool} {pl : Int} {m k : Nat} (hk : k < m) (h : f k = true) : whGo f pl (m - k) k = (k : Int) % pl := by
 obtain ⟨n, hn⟩ : ∃ n, m - k = n + 1 := ⟨m - k - 1, by omega⟩
 rw [hn, whGo, if_pos h]
theorem ZdJ {f : Nat -> Bool} {pl : Int} {m k : Nat} (hk : k < m) (h : f k = false) : whGo f pl (m - k) k = whGo f pl (m - (k + 1)) (k + 1) := by
 obtain ⟨n, hn⟩ : ∃ n, m - k = n + 1 := ⟨m - k - 1, by omega⟩
 rw [hn, whGo, if_neg (by rw [h]; simp)]
 congr 1
 omega
theorem ZeS {f : Nat -> Bool} {pl : Int} {m k : Nat} (hk : m <= k) : whGo f pl (m - k) k = -1 := by
 rw [show m - k = 0 by omega, whGo]
def whL (d : Wd) (p : Int) : Int := if 0 < d.pl then whGo (onW d p) d.pl (min d.ls.length d.ga.length) 0 else -1
def whR (d : Wd) (p : Int) : Int := if 0 <= Za2 d.hs p 0 then (d.hs[(Za2 d.hs p 0).toNat]?.map Hm.pl).getD 0 else whL d p
theorem Zen : ∀ (hs : List Hm) (p : Int) (i : Nat), Za2 hs p i = -1 \/ ∃ k : Nat, Za2 hs p i = (i + k : Nat) /\ k < hs.length
 | [], p, i => Or.inl rfl
 | h :: hs, p, i => by
  rw [Za2]
  split
  ·exact Or.inr ⟨0, by simp, by simp⟩
  ·rcases Zen hs p (i + 1) with h1 | ⟨k, h1, h2⟩
   ·exact Or.inl h1
   ·exact Or.inr ⟨k + 1, by rw [h1]; congr 1; omega, by simp; omega⟩
theorem ZgF {d : Wd} {p : Int} {k : Nat} {h : Hm} (hk : Za2 d.hs p 0 = k) (hx : d.hs[k]? = some h) : whR d p = h.pl := by
 unfold whR
 rw [hk, if_pos (by omega), show ((k : Int)).toNat = k by omega, hx]
 rfl
theorem ZgI {d : Wd} {p : Int} (hk : Za2 d.hs p 0 = -1) : whR d p = whL d p := by
 unfold whR
 rw [hk, if_neg (by omega)]
theorem ZcH (b : Nat) (v : Value) (zs : List Int) (at_ : Int) (ok : Bool) (w : World) (R : Row w v zs) (h : C8 w b v at_ ok) (hlo : -9223372036854775808 <= at_) (hhi : at_ <= 9223372036854775807) :
  Calls Tryz.prog 144 #[.pointer (some ⟨b, 0, none⟩)] w fun e w' => e = .returned (.string (txt8 zs at_ ok).1) /\ C8 w' b v (txt8 zs at_ ok).2.1 (txt8 zs at_ ok).2.2 /\ w.grownBy w' (some b) := by
 have R' := R
 obtain ⟨ao, cap, rfl, _⟩ := R'
 unfold C8 at h
 have c0 : w.cell? ⟨b, 0, none⟩ = some (.slice ao zs.length cap) := cell_of_row _ _ 0 _ _ _ h
 have c1 : w.cell? ⟨b, 1, none⟩ = some (.int .i64 at_) := cell_of_row _ _ 1 _ _ _ h
 have c2 : w.cell? ⟨b, 2, none⟩ = some (.bool ok) := cell_of_row _ _ 2 _ _ _ h
 have f1 : w.frozen? ⟨b, 1, none⟩ = false := frozen_of_row _ _ 1 _ _ h
 have f2 : w.frozen? ⟨b, 2, none⟩ = false := frozen_of_row _ _ 2 _ _ h
 obtain ⟨g, hg⟩ : ∃ g, Hid (gT zs at_ = g) := ⟨_, rfl⟩
 obtain ⟨gx, gn, gk⟩ := g
 have HG : ∀ W : World, Row W (.slice ao zs.length cap) zs -> Calls Tryz.prog 174 #[.slice ao zs.length cap, .int .i64 at_] W fun e w' => e = .returned (.tuple #[.string gx, .int .i64 gn, .bool gk]) /\ w' = W := fun W RW => by
  have := Zef _ zs at_ W RW hlo hhi
  rw [hg.out] at this
  exact this
 have HN : Hid (txt8 zs at_ ok = if ok && gk then (gx, gn, true) else (⟨#[]⟩, at_, false)) := by unfold Hid txt8; rw [hg.out]
 have hd : ∀ m, Below w.heap.size w (w.drewN m) := fun m => ⟨rfl, rfl, rfl, Nat.le_refl _, fun _ _ => rfl⟩
 go_enter Tryz.func144, Tryz.ntmps144
 go_wp2_with fail
 go_quiet (first | (go_at_call 174; refine Calls.quiet_of_same (HG _ R)))
 all_goals
  have lt := (bl h)
  have h2 := ((hd nq).block _ lt).trans h
  have g2 : w.grownBy (w.drewN nq) (some b) := ⟨rfl, rfl, rfl, Nat.le_refl _, fun _ _ _ => rfl⟩
  clear c0 c1 c2 f1 f2 hd HG
  generalize w.drewN nq = w2 at *
  have c1 : w2.cell? ⟨b, 1, none⟩ = some (.int .i64 at_) := cell_of_row _ _ 1 _ _ _ h2
  have c2 : w2.cell? ⟨b, 2, none⟩ = some (.bool ok) := cell_of_row _ _ 2 _ _ _ h2
  have f1 : w2.frozen? ⟨b, 1, none⟩ = false := frozen_of_row _ _ 1 _ _ h2
  have f2 : w2.frozen? ⟨b, 2, none⟩ = false := frozen_of_row _ _ 2 _ _ h2
  cases gk with
  | false =>
   have HN2 : Hid (txt8 zs at_ ok = (⟨#[]⟩, at_, false)) := by unfold Hid; rw [HN.out, Bool.and_false]; rfl
   clear HN hg
   go_wp2
   go_ret
   rw [HN2.out]
   exact ⟨rfl, heap_setCell_same w2 b 2 _ _ (.bool false) h2, Zai g2 (Zag w2 b 2 _)⟩
  | true =>
   cases ok with
   | false =>
    have HN2 : Hid (txt8 zs at_ false = (⟨#[]⟩, at_, false)) := HN.out
    clear HN hg
    go_wp2
    go_ret
    rw [HN2.out]
    exact ⟨rfl, heap_setCell_same w2 b 2 _ _ (.bool false) h2, Zai g2 (Zag w2 b 2 _)⟩
   | true =>
    have HN2 : Hid (txt8 zs at_ true = (gx, gn, true)) := HN.out
    clear HN hg
    go_wp2
    go_ret
    rw [HN2.out]
    exact ⟨rfl, heap_setCell_same w2 b 1 _ _ (.int .i64 gn) h2, Zai g2 (Zag w2 b 1 _)⟩
theorem ZgD {zs : List Int} {k p a : Int} {t : ByteArray} {n : Int} {ok : Bool} (h : txt8 zs a true = (t, n, ok)) : mEnd zs k p a = if ok = true /\ n = zs.length then some (k, p, t) else none := by
 unfold mEnd
 rw [Zf4] at h
 cases hr : rt zs a with
 | none =>
  rw [hr] at h
  simp only [Prod.mk.injEq] at h
  obtain ⟨_, _, rfl⟩ := h
  simp
 | some q =>
  rw [hr] at h
  simp only [Prod.mk.injEq] at h
  obtain ⟨rfl, rfl, rfl⟩ := h
  simp
theorem Zia (s : ByteArray) (w : World) (hs : s.size <= 1048576) :
  Calls Tryz.prog 95 #[.string s] w fun e w' => e = .returned (mrA (mrd (sb s))) /\ Below w.heap.size w w' := by
 have hsl := ZaF s
 go_enter Tryz.func95, Tryz.ntmps95
 go_wp2_with (first
  | (refine Za7 _ rfl _ 9 162 5 rfl Tryz.underlying9 Tryz.underlying162 Tryz.underlying5 s rfl ?_; intro cap w2 g0 g1 g2 g3))
 have RR := Zbj (w := w) (by omega) g0 g1 g3
 have hB : Below w.heap.size w w2 := (Below.refl _ w).grown g2 (Nat.le_refl _) (fun k hk => by cases hk)
 clear g1 g2 g0
 have hb := ZaE w2 (Obj.cells #[.slice (some ⟨w.heap.size, 0, none⟩) s.size cap, .int .i64 0, .bool true] 197)
 have hC : C8 (w2.alloc (Obj.cells #[.slice (some ⟨w.heap.size, 0, none⟩) s.size cap, .int .i64 0, .bool true] 197)) w2.heap.size (.slice (some ⟨w.heap.size, 0, none⟩) s.size cap) 0 true := heap_alloc_new _ _
 have hW : Below w2.heap.size w2 (w2.alloc (Obj.cells #[.slice (some ⟨w.heap.size, 0, none⟩) s.size cap, .int .i64 0, .bool true] 197)) := hb
 replace hB := hB.trans (hb.mono hB.size)
 clear hb
 obtain ⟨u0, hu0⟩ : ∃ u, w2.alloc (Obj.cells #[.slice (some ⟨w.heap.size, 0, none⟩) s.size cap, .int .i64 0, .bool true] 197) = u := ⟨_, rfl⟩
 rw [hu0] at hC hW hB ⊢
 clear hu0
 obtain ⟨V, hV⟩ : ∃ V, V = (Value.slice (some ⟨w.heap.size, 0, none⟩) s.size cap) := ⟨_, rfl⟩
 rw [<- hV] at hC RR
 clear hV
 have HN := Zb5 w2.heap.size V (sb s) 0 true u0 (RR.below hW) hC (by omega) (by omega)
 have hm1 := ZcP (sb s) 0 true (by omega) (by omega)
 have HM : Hid (mrd (sb s) = (rd1 (sb s) 0).bind fun k => if k.1 = 1 then (rd1 (sb s) k.2).bind fun p => mEnd (sb s) 1 p.1 p.2 else if k.1 = 2 then mEnd (sb s) 2 0 k.2 else none) := rfl
 have hR := ZaG (sb s) 0
 obtain ⟨nn, N1⟩ : ∃ n, num8 (sb s) 0 true = n := ⟨_, rfl⟩
 obtain ⟨k, a1, k1⟩ := nn
 rw [N1] at HN hm1 hR
 simp only at HN hm1 hR
 obtain ⟨_, _, m13, m14⟩ := hm1
 have HK : Hid ((k1 = true -> rd1 (sb s) 0 = some (k, a1)) /\ (k1 = false -> rd1 (sb s) 0 = none /\ k = 0)) := by
  cases h : rd1 (sb s) 0 with
  | none =>
   have e := ZaA h
   rw [e] at N1
   cases N1
   exact ⟨fun h => (by cases h), fun _ => ⟨rfl, rfl⟩⟩
  | some q =>
   have e := hR.2 q h
   simp only [Prod.mk.injEq] at e
   obtain ⟨rfl, rfl, rfl⟩ := e
   exact ⟨fun _ => rfl, fun h => by cases h⟩
 clear N1 hR
 refine HN.mono ?_
 rintro e u1 ⟨rfl, hC, g⟩
 replace hB := hB.grown g hB.size (fun k hk => by cases hk; exact Nat.le_of_lt g3)
 replace hW := hW.grown g hW.size (fun k hk => by cases hk; omega)
 clear HN g
 have fin : ∀ (p a2 : Int) (k2 : Bool) (u : World), 0 <= a2 -> a2 <= (sb s).length -> C8 u w2.heap.size V a2 k2 -> Below w.heap.size w u -> Below w2.heap.size w2 u -> (k2 = true -> mrd (sb s) = if 1 <= k /\ k <= 2 then mEnd (sb s) k p a2 else none) -> (k2 = false -> mrd (sb s) = none) -> True := fun _ _ _ _ _ _ _ _ _ _ _ => trivial
 by_cases h1 : k = 1
 ·subst h1
  obtain rfl : k1 = true := by
   cases k1 with
   | true => rfl
   | false => exact absurd (HK.out.2 rfl).2 (by decide)
  have e0 := HK.out.1 rfl
  have HN := Zb5 w2.heap.size V (sb s) a1 true u1 (RR.below hW) hC (by omega) (by omega)
  have hm1 := ZcP (sb s) a1 true m13 m14
  have hR := ZaG (sb s) a1
  obtain ⟨nn, N1⟩ : ∃ n, num8 (sb s) a1 true = n := ⟨_, rfl⟩
  obtain ⟨p, a2, k2⟩ := nn
  rw [N1] at HN hm1 hR
  simp only at HN hm1 hR
  obtain ⟨_, _, m23, m24⟩ := hm1
  have HP : Hid ((k2 = true -> mrd (sb s) = mEnd (sb s) 1 p a2) /\ (k2 = false -> mrd (sb s) = none)) := by
   unfold Hid
   rw [HM.out, e0]
   simp only [Option.bind_some, if_pos]
   cases h : rd1 (sb s) a1 with
   | none =>
    have e := ZaA h
    rw [e] at N1
    cases N1
    exact ⟨fun h => (by cases h), fun _ => rfl⟩
   | some q =>
    have e := hR.2 q h
    simp only [Prod.mk.injEq] at e
    obtain ⟨rfl, rfl, rfl⟩ := e
    exact ⟨fun _ => rfl, fun h => by cases h⟩
  clear N1 hR HM HK e0
  go_wp2_with fail
  refine HN.mono ?_
  rintro e u2 ⟨rfl, hC, g⟩
  replace hB := hB.grown g hB.size (fun k hk => by cases hk; exact Nat.le_of_lt g3)
  replace hW := hW.grown g hW.size (fun k hk => by cases hk; omega)
  clear HN g fin
  have HT := ZcH w2.heap.size V (sb s) a2 k2 u2 (RR.below hW) hC (by omega) (by omega)
  obtain ⟨nn, N3⟩ : ∃ n, txt8 (sb s) a2 k2 = n := ⟨_, rfl⟩
  obtain ⟨t, a3, k3⟩ := nn
  rw [N3] at HT
  simp only at HT
  have HE : Hid (mrd (sb s) = if k3 = true /\ a3 = s.size then some (1, p, t) else none) := by
   unfold Hid
   cases k2 with
   | false => rw [ZdR] at N3; cases N3; rw [HP.out.2 rfl]; simp
   | true => rw [HP.out.1 rfl, ZgD N3, hsl]
  clear N3 HP
  go_wp2_with fail
  refine HT.mono ?_
  rintro e u3 ⟨rfl, hC, g⟩
  replace hB := hB.grown g hB.size (fun k hk => by cases hk; exact Nat.le_of_lt g3)
  clear HT g
  unfold C8 at hC
  have x1 : u3.cell? ⟨w2.heap.size, 1, none⟩ = some (.int .i64 a3) := cell_of_row _ _ 1 _ _ _ hC
  have x2 : u3.cell? ⟨w2.heap.size, 2, none⟩ = some (.bool k3) := cell_of_row _ _ 2 _ _ _ hC
  cases k3 with
  | false =>
   have HE2 : Hid (mrd (sb s) = none) := by unfold Hid; rw [HE.out]; simp
   clear HE
   go_wp2
   (try simp only [Exit.inBlock, Exit.then])
   refine bodyPost_ret (ZaM rfl _ _ _) rfl ?_
   exact ⟨by rw [HE2.out]; rfl, hB⟩
  | true =>
   by_cases h3 : a3 = s.size
   ·have HE2 : Hid (mrd (sb s) = some (1, p, t)) := by unfold Hid; rw [HE.out]; simp [h3]
    clear HE
    subst h3
    go_wp2_with fail
    refine (Zau _ _ _ _).mono ?_
    rintro e u4 ⟨rfl, rfl⟩
    go_wp2
    (try simp only [Exit.inBlock, Exit.then])
    refine bodyPost_ret (ZaM rfl _ _ _) rfl ?_
    exact ⟨by rw [HE2.out]; rfl, hB⟩
   ·have HE2 : Hid (mrd (sb s) = none) := by unfold Hid; rw [HE.out]; simp [h3]
    clear HE
    go_wp2
    (try simp only [Exit.inBlock, Exit.then])
    refine bodyPost_ret (ZaM rfl _ _ _) rfl ?_
    exact ⟨by rw [HE2.out]; rfl, hB⟩
 ·clear fin
  have HT := ZcH w2.heap.size V (sb s) a1 k1 u1 (RR.below hW) hC (by omega) (by omega)
  obtain ⟨nn, N3⟩ : ∃ n, txt8 (sb s) a1 k1 = n := ⟨_, rfl⟩
  obtain ⟨t, a3, k3⟩ := nn
  rw [N3] at HT
  simp only at HT
  have HE : Hid (mrd (sb s) = if k3 = true /\ a3 = s.size /\ k = 2 then some (2, 0, t) else none) := by
   unfold Hid
   cases k1 with
   | false => rw [ZdR] at N3; cases N3; rw [HM.out, (HK.out.2 rfl).1]; simp
   | true =>
    rw [HM.out, HK.out.1 rfl]
    simp only [Option.bind_some, if_neg h1]
    by_cases h2 : k = 2
    ·rw [if_pos h2, ZgD N3, hsl]; simp [h2]
    ·rw [if_neg h2]; simp [h2]
  clear N3 HM HK
  go_wp2_with fail
  refine HT.mono ?_
  rintro e u3 ⟨rfl, hC, g⟩
  replace hB := hB.grown g hB.size (fun k hk => by cases hk; exact Nat.le_of_lt g3)
  clear HT g
  unfold C8 at hC
  have x1 : u3.cell? ⟨w2.heap.size, 1, none⟩ = some (.int .i64 a3) := cell_of_row _ _ 1 _ _ _ hC
  have x2 : u3.cell? ⟨w2.heap.size, 2, none⟩ = some (.bool k3) := cell_of_row _ _ 2 _ _ _ hC
  cases k3 with
  | false =>
   have HE2 : Hid (mrd (sb s) = none) := by unfold Hid; rw [HE.out]; simp
   clear HE
   go_wp2
   (try simp only [Exit.inBlock, Exit.then])
   refine bodyPost_ret (ZaM rfl _ _ _) rfl ?_
   exact ⟨by rw [HE2.out]; rfl, hB⟩
  | true =>
   by_cases h3 : a3 = s.size
   ·by_cases h2 : k = 2
    ·have HE2 : Hid (mrd (sb s) = some (2, 0, t)) := by unfold Hid; rw [HE.out]; simp [h3, h2]
     clear HE
     subst h3
     subst h2
     go_wp2_with fail
     refine (Zau _ _ _ _).mono ?_
     rintro e u4 ⟨rfl, rfl⟩
     go_wp2
     (try simp only [Exit.inBlock, Exit.then])
     refine bodyPost_ret (ZaM rfl _ _ _) rfl ?_
     exact ⟨by rw [HE2.out]; rfl, hB⟩
    ·have HE2 : Hid (mrd (sb s) = none) := by unfold Hid; rw [HE.out]; simp [h2]
     clear HE
     subst h3
     have hi : (decide (1 <= k) && decide (k <= 2)) = false := by simp; omega
     go_wp2_with fail
     refine (Zau _ _ _ _).mono ?_
     rintro e u4 ⟨rfl, rfl⟩
     rw [hi]
     go_wp2
     (try simp only [Exit.inBlock, Exit.then])
     refine bodyPost_ret (ZaM rfl _ _ _) rfl ?_
     exact ⟨by rw [HE2.out]; rfl, hB⟩
   ·have HE2 : Hid (mrd (sb s) = none) := by unfold Hid; rw [HE.out]; simp [h3]
    clear HE
    go_wp2
    (try simp only [Exit.inBlock, Exit.then])
    refine bodyPost_ret (ZaM rfl _ _ _) rfl ?_
    exact ⟨by rw [HE2.out]; rfl, hB⟩
end Go.Proofs.YtfmafkebddojjaaGreatDoor
