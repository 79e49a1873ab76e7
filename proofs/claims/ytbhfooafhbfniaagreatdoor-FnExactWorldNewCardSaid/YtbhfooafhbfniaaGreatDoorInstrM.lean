/-
  Texts that stood by themselves, laid into one.
-/
import Derived.Test.YtbhfooafhbfniaaGreatDoorPrAppNM
import Derived.Test.YtbhfooafhbfniaaGreatDoorBsM
import Derived.Maps.AppendAt
import Derived.Test.YtbhfooafhbfniaaGreatDoorCodeM
/-
  Where impl.emptyWorld stands: a new world's box and its rows; how that goes over its steps. No condition.
-/
namespace Go.Proofs.YtbhfooafhbfniaaGreatDoor
open Go.RowKit
theorem own_lt9 {w : World} {B k n g : Nat} {e : TypeId} {v : Value} {l : List Value} (h : w.ownsRow B e k v n l) (hg : v.ownBlock = some g) : g < w.heap.size := by
  rcases h.2 with ⟨rfl, _⟩ | ⟨g', cap, cur, rfl, hB, hgg, _⟩
  · cases hg
  · simp only [Value.ownBlock, Option.some.injEq] at hg
    subst hg
    exact (Array.getElem?_eq_some_iff.1 hgg).1
theorem own_grow9 {w w' : World} {B k n : Nat} {e : TypeId} {v : Value} {l : List Value} {o : Option Nat} (h : w.ownsRow B e k v n l) (hg : w.grownBy w' o) (hne : ∀ g, v.ownBlock = some g → o ≠ some g) : w'.ownsRow B e k v n l := by
  refine ⟨h.1, ?_⟩
  rcases h.2 with ⟨rfl, h0⟩ | ⟨g', cap, cur, rfl, hB, hgg, hr⟩
  · exact Or.inl ⟨rfl, h0⟩
  · refine Or.inr ⟨g', cap, cur, rfl, hB, ?_, hr⟩
    rw [← hgg]
    exact hg.block g' (Array.getElem?_eq_some_iff.1 hgg).1 (fun e => hne g' rfl e.symm)
theorem own_two9 {w : World} {B B' k k' n n' : Nat} {e e' : TypeId} {v v' : Value} {l l' : List Value} (h : w.ownsRow B e k v n l) (h' : w.ownsRow B' e' k' v' n' l') (hne : e ≠ e') : ∀ g, v.ownBlock = some g → v'.ownBlock ≠ some g := by
  intro g h1 h2
  rcases h.2 with ⟨rfl, _⟩ | ⟨g', cap, cur, rfl, hB, hgg, _⟩
  · cases h1
  · simp only [Value.ownBlock, Option.some.injEq] at h1
    subst h1
    exact own_ne h' hgg hne h2
def zls (n : Nat) : List Value := (List.replicate n [Value.int .i64 0, .int .i64 0, .slice none 0 0, .int .i64 0, .slice none 0 0]).flatten
theorem zls_succ (n : Nat) : zls (n + 1) = zls n ++ [Value.int .i64 0, .int .i64 0, .slice none 0 0, .int .i64 0, .slice none 0 0] := by
  unfold zls
  rw [List.replicate_succ']
  simp
structure EW (B : Nat) (w : World) (b : Nat) (y1 y2 y3 vl va vt : Value) (ns : List Nd) (is : List In) (ds : List Df) (pl : Int) (nl na nt : Nat) : Prop where
  x : w.heap[b]? = some (.cells #[y1, y2, y3, .int .i64 pl, .slice none 0 0, vl, .slice none 0 0, .slice none 0 0, .int .i64 2, va, vt] 43 (0, 0))
  bb : B ≤ b
  o1 : w.ownsRow B 130 5 y1 ns.length (ncs ns)
  o2 : w.ownsRow B 99 4 y2 is.length (incs is)
  o3 : w.ownsRow B 101 3 y3 ds.length (dfcs ds)
  l : w.ownsRow B 106 5 vl nl (zls nl)
  a : w.ownsRow B 57 1 va na (List.replicate na (.slice none 0 0))
  t : w.ownsRow B 57 1 vt nt (List.replicate nt (.slice none 0 0))
  ap : ∀ k, va.ownBlock = some k → vt.ownBlock ≠ some k
theorem EW.below {B : Nat} {w w' : World} {b : Nat} {y1 y2 y3 vl va vt : Value} {ns : List Nd} {is : List In} {ds : List Df} {pl : Int} {nl na nt : Nat} (S : EW B w b y1 y2 y3 vl va vt ns is ds pl nl na nt) (hb : Below w.heap.size w w') : EW B w' b y1 y2 y3 vl va vt ns is ds pl nl na nt :=
  ⟨blk_bel S.x hb, S.bb, own_below S.o1 hb, own_below S.o2 hb, own_below S.o3 hb, own_below S.l hb, own_below S.a hb, own_below S.t hb, S.ap⟩
theorem EW.boxl {B : Nat} {w w1 : World} {b : Nat} {y1 y2 y3 vl va vt : Value} {ns : List Nd} {is : List In} {ds : List Df} {pl : Int} {nl na nt : Nat} (S : EW B w b y1 y2 y3 vl va vt ns is ds pl nl na nt) (hg : w.grownBy w1 vl.ownBlock) : w1.heap[b]? = some (.cells #[y1, y2, y3, .int .i64 pl, .slice none 0 0, vl, .slice none 0 0, .slice none 0 0, .int .i64 2, va, vt] 43 (0, 0)) :=
  (hg.block _ (blk_lt S.x) (fun e => own_ne S.l S.x (by decide) e.symm)).trans S.x
theorem EW.setl {B : Nat} {w w1 w2 : World} {b : Nat} {y1 y2 y3 vl va vt v' : Value} {ns : List Nd} {is : List In} {ds : List Df} {pl : Int} {nl na nt : Nat} (S : EW B w b y1 y2 y3 vl va vt ns is ds pl nl na nt) (G : w1.ownsRow B 106 5 v' (nl + 1) (zls (nl + 1))) (hg : w.grownBy w1 vl.ownBlock)
    (hv : w2.heap[b]? = some (.cells #[y1, y2, y3, .int .i64 pl, .slice none 0 0, v', .slice none 0 0, .slice none 0 0, .int .i64 2, va, vt] 43 (0, 0))) (ho : ∀ j, j ≠ b → w2.heap[j]? = w1.heap[j]?) : EW B w2 b y1 y2 y3 v' va vt ns is ds pl (nl + 1) na nt := by
  have h1 := S.boxl hg
  exact ⟨hv, S.bb, own_other (own_grow9 S.o1 hg (own_two9 S.o1 S.l (by decide))) (own_ne (own_grow9 S.o1 hg (own_two9 S.o1 S.l (by decide))) h1 (by decide)) ho, own_other (own_grow9 S.o2 hg (own_two9 S.o2 S.l (by decide))) (own_ne (own_grow9 S.o2 hg (own_two9 S.o2 S.l (by decide))) h1 (by decide)) ho, own_other (own_grow9 S.o3 hg (own_two9 S.o3 S.l (by decide))) (own_ne (own_grow9 S.o3 hg (own_two9 S.o3 S.l (by decide))) h1 (by decide)) ho, own_other G (own_ne G h1 (by decide)) ho, own_other (own_grow9 S.a hg (own_two9 S.a S.l (by decide))) (own_ne (own_grow9 S.a hg (own_two9 S.a S.l (by decide))) h1 (by decide)) ho, own_other (own_grow9 S.t hg (own_two9 S.t S.l (by decide))) (own_ne (own_grow9 S.t hg (own_two9 S.t S.l (by decide))) h1 (by decide)) ho, S.ap⟩
theorem EW.boxa {B : Nat} {w w1 : World} {b : Nat} {y1 y2 y3 vl va vt : Value} {ns : List Nd} {is : List In} {ds : List Df} {pl : Int} {nl na nt : Nat} (S : EW B w b y1 y2 y3 vl va vt ns is ds pl nl na nt) (hg : w.grownBy w1 va.ownBlock) : w1.heap[b]? = some (.cells #[y1, y2, y3, .int .i64 pl, .slice none 0 0, vl, .slice none 0 0, .slice none 0 0, .int .i64 2, va, vt] 43 (0, 0)) :=
  (hg.block _ (blk_lt S.x) (fun e => own_ne S.a S.x (by decide) e.symm)).trans S.x
theorem EW.seta {B : Nat} {w w1 w2 : World} {b : Nat} {y1 y2 y3 vl va vt v' : Value} {ns : List Nd} {is : List In} {ds : List Df} {pl : Int} {nl na nt : Nat} (S : EW B w b y1 y2 y3 vl va vt ns is ds pl nl na nt) (G : w1.ownsRow B 57 1 v' (na + 1) (List.replicate (na + 1) (.slice none 0 0))) (hg : w.grownBy w1 va.ownBlock) (hk : v'.ownBlock = va.ownBlock ∨ v'.ownBlock = some w.heap.size)
    (hv : w2.heap[b]? = some (.cells #[y1, y2, y3, .int .i64 pl, .slice none 0 0, vl, .slice none 0 0, .slice none 0 0, .int .i64 2, v', vt] 43 (0, 0))) (ho : ∀ j, j ≠ b → w2.heap[j]? = w1.heap[j]?) : EW B w2 b y1 y2 y3 vl v' vt ns is ds pl nl (na + 1) nt := by
  have h1 := S.boxa hg
  exact ⟨hv, S.bb, own_other (own_grow9 S.o1 hg (own_two9 S.o1 S.a (by decide))) (own_ne (own_grow9 S.o1 hg (own_two9 S.o1 S.a (by decide))) h1 (by decide)) ho, own_other (own_grow9 S.o2 hg (own_two9 S.o2 S.a (by decide))) (own_ne (own_grow9 S.o2 hg (own_two9 S.o2 S.a (by decide))) h1 (by decide)) ho, own_other (own_grow9 S.o3 hg (own_two9 S.o3 S.a (by decide))) (own_ne (own_grow9 S.o3 hg (own_two9 S.o3 S.a (by decide))) h1 (by decide)) ho, own_other (own_grow9 S.l hg (own_two9 S.l S.a (by decide))) (own_ne (own_grow9 S.l hg (own_two9 S.l S.a (by decide))) h1 (by decide)) ho, own_other G (own_ne G h1 (by decide)) ho, own_other (own_grow9 S.t hg (fun k h2 h3 => S.ap k h3 h2)) (own_ne (own_grow9 S.t hg (fun k h2 h3 => S.ap k h3 h2)) h1 (by decide)) ho, (fun k h2 h3 => by rcases hk with e | e; rw [e] at h2; exact S.ap k h2 h3; rw [e] at h2; cases h2; have := own_lt9 S.t h3; omega)⟩
theorem EW.boxt {B : Nat} {w w1 : World} {b : Nat} {y1 y2 y3 vl va vt : Value} {ns : List Nd} {is : List In} {ds : List Df} {pl : Int} {nl na nt : Nat} (S : EW B w b y1 y2 y3 vl va vt ns is ds pl nl na nt) (hg : w.grownBy w1 vt.ownBlock) : w1.heap[b]? = some (.cells #[y1, y2, y3, .int .i64 pl, .slice none 0 0, vl, .slice none 0 0, .slice none 0 0, .int .i64 2, va, vt] 43 (0, 0)) :=
  (hg.block _ (blk_lt S.x) (fun e => own_ne S.t S.x (by decide) e.symm)).trans S.x
theorem EW.sett {B : Nat} {w w1 w2 : World} {b : Nat} {y1 y2 y3 vl va vt v' : Value} {ns : List Nd} {is : List In} {ds : List Df} {pl : Int} {nl na nt : Nat} (S : EW B w b y1 y2 y3 vl va vt ns is ds pl nl na nt) (G : w1.ownsRow B 57 1 v' (nt + 1) (List.replicate (nt + 1) (.slice none 0 0))) (hg : w.grownBy w1 vt.ownBlock) (hk : v'.ownBlock = vt.ownBlock ∨ v'.ownBlock = some w.heap.size)
    (hv : w2.heap[b]? = some (.cells #[y1, y2, y3, .int .i64 pl, .slice none 0 0, vl, .slice none 0 0, .slice none 0 0, .int .i64 2, va, v'] 43 (0, 0))) (ho : ∀ j, j ≠ b → w2.heap[j]? = w1.heap[j]?) : EW B w2 b y1 y2 y3 vl va v' ns is ds pl nl na (nt + 1) := by
  have h1 := S.boxt hg
  exact ⟨hv, S.bb, own_other (own_grow9 S.o1 hg (own_two9 S.o1 S.t (by decide))) (own_ne (own_grow9 S.o1 hg (own_two9 S.o1 S.t (by decide))) h1 (by decide)) ho, own_other (own_grow9 S.o2 hg (own_two9 S.o2 S.t (by decide))) (own_ne (own_grow9 S.o2 hg (own_two9 S.o2 S.t (by decide))) h1 (by decide)) ho, own_other (own_grow9 S.o3 hg (own_two9 S.o3 S.t (by decide))) (own_ne (own_grow9 S.o3 hg (own_two9 S.o3 S.t (by decide))) h1 (by decide)) ho, own_other (own_grow9 S.l hg (own_two9 S.l S.t (by decide))) (own_ne (own_grow9 S.l hg (own_two9 S.l S.t (by decide))) h1 (by decide)) ho, own_other (own_grow9 S.a hg (fun k h2 h3 => S.ap k h2 h3)) (own_ne (own_grow9 S.a hg (fun k h2 h3 => S.ap k h2 h3)) h1 (by decide)) ho, own_other G (own_ne G h1 (by decide)) ho, (fun k h2 h3 => by rcases hk with e | e; rw [e] at h3; exact S.ap k h2 h3; rw [e] at h3; cases h3; have := own_lt9 S.a h2; omega)⟩
end Go.Proofs.YtbhfooafhbfniaaGreatDoor
/-
  Contract of impl.emptyWorld. Places from 1 to 3.
-/
namespace Go.Proofs.YtbhfooafhbfniaaGreatDoor
open Go.RowKit
theorem EW.away {B : Nat} {w w' : World} {b q : Nat} {y1 y2 y3 vl va vt : Value} {ns : List Nd} {is : List In} {ds : List Df} {pl : Int} {nl na nt : Nat} {c : Array Value} (S : EW B w b y1 y2 y3 vl va vt ns is ds pl nl na nt) (hq : w.heap[q]? = some (.cells c 43 (0, 0))) (hbq : b ≠ q) (ho : ∀ j, j ≠ q → w'.heap[j]? = w.heap[j]?) : EW B w' b y1 y2 y3 vl va vt ns is ds pl nl na nt :=
  ⟨(ho b hbq).trans S.x, S.bb, own_other S.o1 (own_ne S.o1 hq (by decide)) ho, own_other S.o2 (own_ne S.o2 hq (by decide)) ho, own_other S.o3 (own_ne S.o3 hq (by decide)) ho, own_other S.l (own_ne S.l hq (by decide)) ho, own_other S.a (own_ne S.a hq (by decide)) ho, own_other S.t (own_ne S.t hq (by decide)) ho, S.ap⟩
theorem lit_cells (w : World) (cs : Array Value) (t : TypeId) : ∀ j u, cs.toList[j]? = some u → (w.alloc (.cells cs t)).cell? ((⟨w.heap.size, 0, none⟩ : Addr).add j) = some u := by
  intro j u hu
  rw [Addr.add_lit, Nat.zero_add, cell_of_row _ _ j _ _ _ (heap_alloc_new w (Obj.cells cs t))]
  simpa using hu
set_option maxRecDepth 100000 in
set_option maxHeartbeats 3200000 in
theorem iemptyworld_any (v1 v2 v3 : Value) (ns : List Nd) (is : List In) (ds : List Df) (w : World) (R1 : NRow w v1 ns) (R2 : InRow w v2 is) (R3 : DfRow w v3 ds) (h1 : ns.length ≤ 1048576) (h2 : is.length ≤ 1048576) (h3 : ds.length ≤ 1048576) (p : Nat) (hp1 : 1 ≤ p) (hp3 : p ≤ 3) :
    Calls Tryz.prog 24 #[.agg #[v1, v2, v3], .int .i64 (p : Int)] w fun e w' => (∃ b y1 y2 y3 vl va vt, e = .returned (.agg #[y1, y2, y3, .int .i64 (p : Int), .slice none 0 0, vl, .slice none 0 0, .slice none 0 0, .int .i64 2, va, vt]) ∧ EW w.heap.size w' b y1 y2 y3 vl va vt ns is ds (p : Int) (p * p) (p * p) (p * p)) ∧ Below w.heap.size w w' := by
  obtain ⟨a1, c1, rfl⟩ := R1.small8
  obtain ⟨a2, c2, rfl⟩ := R2.small
  obtain ⟨a3, c3, rfl⟩ := R3.small
  obtain ⟨il, hil, hzl0, hzl1, hzl2⟩ := info_parts Tryz.infoLk8
  obtain ⟨ia, hia, hza0, hza1, hza2⟩ := info_parts Tryz.infoSs8
  obtain ⟨hB, hx, hy⟩ := two_boxes w (Obj.cells #[.slice a1 ns.length c1, .slice a2 is.length c2, .slice a3 ds.length c3] 36) (Obj.cells #[.slice none 0 0, .slice none 0 0, .slice none 0 0, .int .i64 0, .slice none 0 0, .slice none 0 0, .slice none 0 0, .slice none 0 0, .int .i64 0, .slice none 0 0, .slice none 0 0] 43)
  go_enter Tryz.func24, Tryz.ntmps24
  go_wp2_with (refine wpList_load_row rfl 36 _ rfl w.heap.size rfl 36 #[.slice a1 ns.length c1, .slice a2 is.length c2, .slice a3 ds.length c3] (0, 0) _ hx Tryz.underlying36 rfl Tryz.sizeCode8 ?_)
  refine (icodecopied_any _ _ _ ns is ds _ (R1.below hB) (R2.below hB) (R3.below hB) h1 h2 h3).mono ?_
  rintro e w1 ⟨y1, y2, y3, rfl, O1, O2, O3, hb⟩
  obtain ⟨d1, e1, rfl⟩ := own_form O1
  obtain ⟨d2, e2, rfl⟩ := own_form O2
  obtain ⟨d3, e3, rfl⟩ := own_form O3
  have hs0 := hB.size
  replace hy := blk_bel hy hb
  replace hB := hB.trans (hb.mono hB.size)
  clear hx hb
  go_wp2_with (refine wpList_store_own2 rfl 43 _ _ rfl w1.heap.size #[.slice d1 ns.length e1, .slice d2 is.length e2, .slice d3 ds.length e3, .int .i64 (p : Int), .slice none 0 0, .slice none 0 0, .slice none 0 0, .slice none 0 0, .int .i64 2, .slice none 0 0, .slice none 0 0] rfl rfl 43 _ (heap_alloc_new _ _) Tryz.sizeWd rfl (by simp [Value.oneCell']) ?_)
  intro w2 hv hbg hs2 ho2
  have hb : Below w1.heap.size w1 w2 := ((Below.refl _ _).alloc (Nat.le_refl _) _).trans hbg
  have hlt1 := blk_lt hy
  obtain ⟨b, hbb⟩ : ∃ b, w1.heap.size = b := ⟨_, rfl⟩
  have S0 : EW w.heap.size w2 b (.slice d1 ns.length e1) (.slice d2 is.length e2) (.slice d3 ds.length e3) (.slice none 0 0) (.slice none 0 0) (.slice none 0 0) ns is ds (p : Int) 0 0 0 := ⟨by rw [← hbb]; exact hv, by rw [← hbb]; exact hB.size, own_mono (own_below O1 hb) hs0, own_mono (own_below O2 hb) hs0, own_mono (own_below O3 hb) hs0, ⟨rfl, Or.inl ⟨rfl, rfl⟩⟩, ⟨rfl, Or.inl ⟨rfl, rfl⟩⟩, ⟨rfl, Or.inl ⟨rfl, rfl⟩⟩, fun k h => by cases h⟩
  replace hy := blk_bel hy hb
  replace hB := hB.trans (hb.mono hB.size)
  have hyb : w.heap.size + 1 < b := by omega
  rw [hbb]
  clear hv hbg hs2 ho2 hb O1 O2 O3
  go_wp2_with fail
  go_loopw [11] (fun s11 wr => ∃ (i : Nat) (vl va vt : Value), i ≤ p ∧ s11 = .int .i64 i ∧ EW w.heap.size wr b (.slice d1 ns.length e1) (.slice d2 is.length e2) (.slice d3 ds.length e3) vl va vt ns is ds (p : Int) (i * p) (i * p) (i * p) ∧ wr.heap[w.heap.size + 1]? = some (.cells #[.slice none 0 0, .slice none 0 0, .slice none 0 0, .int .i64 0, .slice none 0 0, .slice none 0 0, .slice none 0 0, .slice none 0 0, .int .i64 0, .slice none 0 0, .slice none 0 0] 43 (0, 0)) ∧ Below w.heap.size w wr) (fun s11 _ => p - (intOf s11).toNat)
  case atStart => exact ⟨0, _, _, _, by omega, rfl, by simpa using S0, hy, hB⟩
  case round =>
    clear S0 hy hB
    obtain ⟨i, vl, va, vt, hi, rfl, S, hy, hB⟩ := hrel
    by_cases hlt : i < p
    · have hlt' : (i : Int) < (p : Int) := by omega
      have h6 : i * p ≤ 2 * 3 := Nat.mul_le_mul (by omega) hp3
      go_wp2_with fail
      go_loopw [14] (fun s14 wr => ∃ (j nl : Nat) (vl va vt : Value), j ≤ p ∧ s14 = .int .i64 j ∧ Hid (nl = i * p + j) ∧ EW w.heap.size wr b (.slice d1 ns.length e1) (.slice d2 is.length e2) (.slice d3 ds.length e3) vl va vt ns is ds (p : Int) nl nl nl ∧ wr.heap[w.heap.size + 1]? = some (.cells #[.slice none 0 0, .slice none 0 0, .slice none 0 0, .int .i64 0, .slice none 0 0, .slice none 0 0, .slice none 0 0, .slice none 0 0, .int .i64 0, .slice none 0 0, .slice none 0 0] 43 (0, 0)) ∧ Below w.heap.size w wr) (fun s14 _ => p - (intOf s14).toNat)
      case atStart => exact ⟨0, i * p, _, _, _, by omega, rfl, rfl, S, hy, hB⟩
      case round =>
        clear S hy hB
        obtain ⟨j, nl, vl, va, vt, hj, rfl, HN, S, hy, hB⟩ := hrel
        have hn9 : nl ≤ 9 := by have := HN.out; omega
        have hsz := hB.size
        by_cases hjl : j < p
        · have hjl' : (j : Int) < (p : Int) := by omega
          obtain ⟨al, cl, rfl⟩ := own_form S.l
          obtain ⟨aa, ca, rfl⟩ := own_form S.a
          obtain ⟨at_, ct, rfl⟩ := own_form S.t
          have kkl : (wr.alloc (Obj.cells #[.int .i64 0, .int .i64 0, .slice none 0 0, .int .i64 0, .slice none 0 0] 106)).cell? ⟨b, 0 + 5, none⟩ = some (.slice al nl cl) := cell_of_row _ _ 5 _ _ _ (blk_bel S.x (alloc_bel _ _))
          have kkl' : wr.cell? ⟨b, 0 + 5, none⟩ = some (.slice al nl cl) := cell_of_row _ _ 5 _ _ _ S.x
          have Ol := own_below S.l (alloc_bel wr (Obj.cells #[.int .i64 0, .int .i64 0, .slice none 0 0, .int .i64 0, .slice none 0 0] 106))
          go_wp2_with (at_builtin; refine wpList_append_own_any _ rfl _ _ 38 rfl w.heap.size 106 il _ 5 72 Tryz.underlying38 hil hzl0 hzl1 hzl2 rfl (by decide) _ nl _ rfl Ol _ _ _ [Value.int .i64 0, .int .i64 0, .slice none 0 0, .int .i64 0, .slice none 0 0] rfl rfl (fun h => by cases h) (fun ad h => by cases h; exact lit_cells _ _ _) (by simp [Value.oneCell']) (by unfold maxLen; omega) (by omega) (by simp; omega) ?_)
          intro vn wn hol hgl
          rw [← zls_succ] at hol
          obtain ⟨al2, cl2, rfl⟩ := own_form hol
          have S1 := S.below (alloc_bel wr (Obj.cells #[.int .i64 0, .int .i64 0, .slice none 0 0, .int .i64 0, .slice none 0 0] 106))
          have hbx := S1.boxl hgl
          go_wp2_with (refine wpList_store_at rfl 38 _ _ rfl b 5 (.slice al2 (nl + 1) cl2) #[.slice al2 (nl + 1) cl2] rfl rfl rfl rfl 43 #[.slice d1 ns.length e1, .slice d2 is.length e2, .slice d3 ds.length e3, .int .i64 (p : Int), .slice none 0 0, .slice al nl cl, .slice none 0 0, .slice none 0 0, .int .i64 2, .slice aa nl ca, .slice at_ nl ct] #[.slice d1 ns.length e1, .slice d2 is.length e2, .slice d3 ds.length e3, .int .i64 (p : Int), .slice none 0 0, .slice al2 (nl + 1) cl2, .slice none 0 0, .slice none 0 0, .int .i64 2, .slice aa nl ca, .slice at_ nl ct] hbx (by simp) (by kernel_rfl) rfl ?_)
          intro w6 hv hbg hs2 ho2
          have S2 := S1.setl hol hgl hv ho2
          have hy1 := (hgl.block _ (blk_lt (blk_bel hy (alloc_bel _ (Obj.cells #[.int .i64 0, .int .i64 0, .slice none 0 0, .int .i64 0, .slice none 0 0] 106)))) (fun e => own_ne Ol (blk_bel hy (alloc_bel _ _)) (by decide) e.symm)).trans (blk_bel hy (alloc_bel _ _))
          replace hy := (ho2 _ (by omega)).trans hy1
          replace hB := ((hB.alloc hB.size (Obj.cells #[.int .i64 0, .int .i64 0, .slice none 0 0, .int .i64 0, .slice none 0 0] 106)).grown hgl (by have := hB.size; simp; omega) (fun k hk => own_ge9 Ol hk)).trans (hbg.mono S.bb)
          clear hv hbg hs2 ho2 hbx S1 hy1 hol hgl Ol kkl kkl' S
          have S := S2
          clear S2
          replace hsz := hB.size
          have kka : (w6.alloc (Obj.cells #[.slice none 0 0] 57)).cell? ⟨b, 0 + 9, none⟩ = some (.slice aa nl ca) := cell_of_row _ _ 9 _ _ _ (blk_bel S.x (alloc_bel _ _))
          have kka' : w6.cell? ⟨b, 0 + 9, none⟩ = some (.slice aa nl ca) := cell_of_row _ _ 9 _ _ _ S.x
          have Oa := own_below S.a (alloc_bel w6 (Obj.cells #[.slice none 0 0] 57))
          go_wp2_with (at_builtin; refine wpList_append_own_at _ rfl _ _ 41 rfl w.heap.size 57 ia _ 1 24 Tryz.underlying41 hia hza0 hza1 hza2 rfl (by decide) _ nl _ rfl Oa _ _ _ [Value.slice none 0 0] rfl rfl (lit_cells _ _ _) (by simp [Value.oneCell']) (by unfold maxLen; omega) (by omega) (by simp; omega) ?_)
          intro vn wn hoa hga _ hk
          rw [show List.replicate nl (Value.slice none 0 0) ++ [Value.slice none 0 0] = List.replicate (nl + 1) (.slice none 0 0) from (List.replicate_succ').symm] at hoa
          obtain ⟨aa2, ca2, rfl⟩ := own_form hoa
          have S1 := S.below (alloc_bel w6 (Obj.cells #[.slice none 0 0] 57))
          have hbx := S1.boxa hga
          go_wp2_with (refine wpList_store_at rfl 41 _ _ rfl b 9 (.slice aa2 (nl + 1) ca2) #[.slice aa2 (nl + 1) ca2] rfl rfl rfl rfl 43 #[.slice d1 ns.length e1, .slice d2 is.length e2, .slice d3 ds.length e3, .int .i64 (p : Int), .slice none 0 0, .slice al2 (nl + 1) cl2, .slice none 0 0, .slice none 0 0, .int .i64 2, .slice aa nl ca, .slice at_ nl ct] #[.slice d1 ns.length e1, .slice d2 is.length e2, .slice d3 ds.length e3, .int .i64 (p : Int), .slice none 0 0, .slice al2 (nl + 1) cl2, .slice none 0 0, .slice none 0 0, .int .i64 2, .slice aa2 (nl + 1) ca2, .slice at_ nl ct] hbx (by simp) (by kernel_rfl) rfl ?_)
          intro w7 hv hbg hs2 ho2
          have S2 := S1.seta hoa hga (by simpa using hk) hv ho2
          have hy1 := (hga.block _ (blk_lt (blk_bel hy (alloc_bel _ (Obj.cells #[.slice none 0 0] 57)))) (fun e => own_ne Oa (blk_bel hy (alloc_bel _ _)) (by decide) e.symm)).trans (blk_bel hy (alloc_bel _ _))
          replace hy := (ho2 _ (by omega)).trans hy1
          replace hB := ((hB.alloc hB.size (Obj.cells #[.slice none 0 0] 57)).grown hga (by have := hB.size; simp; omega) (fun k hk => own_ge9 Oa hk)).trans (hbg.mono S.bb)
          clear hv hbg hs2 ho2 hbx S1 hy1 hoa hga Oa kka kka' S hk
          have S := S2
          clear S2
          replace hsz := hB.size
          have kkt : (w7.alloc (Obj.cells #[.slice none 0 0] 57)).cell? ⟨b, 0 + 10, none⟩ = some (.slice at_ nl ct) := cell_of_row _ _ 10 _ _ _ (blk_bel S.x (alloc_bel _ _))
          have kkt' : w7.cell? ⟨b, 0 + 10, none⟩ = some (.slice at_ nl ct) := cell_of_row _ _ 10 _ _ _ S.x
          have Ot := own_below S.t (alloc_bel w7 (Obj.cells #[.slice none 0 0] 57))
          go_wp2_with (at_builtin; refine wpList_append_own_at _ rfl _ _ 41 rfl w.heap.size 57 ia _ 1 24 Tryz.underlying41 hia hza0 hza1 hza2 rfl (by decide) _ nl _ rfl Ot _ _ _ [Value.slice none 0 0] rfl rfl (lit_cells _ _ _) (by simp [Value.oneCell']) (by unfold maxLen; omega) (by omega) (by simp; omega) ?_)
          intro vn wn hot hgt _ hk
          rw [show List.replicate nl (Value.slice none 0 0) ++ [Value.slice none 0 0] = List.replicate (nl + 1) (.slice none 0 0) from (List.replicate_succ').symm] at hot
          obtain ⟨at2, ct2, rfl⟩ := own_form hot
          have S1 := S.below (alloc_bel w7 (Obj.cells #[.slice none 0 0] 57))
          have hbx := S1.boxt hgt
          go_wp2_with (refine wpList_store_at rfl 41 _ _ rfl b 10 (.slice at2 (nl + 1) ct2) #[.slice at2 (nl + 1) ct2] rfl rfl rfl rfl 43 #[.slice d1 ns.length e1, .slice d2 is.length e2, .slice d3 ds.length e3, .int .i64 (p : Int), .slice none 0 0, .slice al2 (nl + 1) cl2, .slice none 0 0, .slice none 0 0, .int .i64 2, .slice aa2 (nl + 1) ca2, .slice at_ nl ct] #[.slice d1 ns.length e1, .slice d2 is.length e2, .slice d3 ds.length e3, .int .i64 (p : Int), .slice none 0 0, .slice al2 (nl + 1) cl2, .slice none 0 0, .slice none 0 0, .int .i64 2, .slice aa2 (nl + 1) ca2, .slice at2 (nl + 1) ct2] hbx (by simp) (by kernel_rfl) rfl ?_)
          intro w8 hv hbg hs2 ho2
          have S2 := S1.sett hot hgt (by simpa using hk) hv ho2
          have hy1 := (hgt.block _ (blk_lt (blk_bel hy (alloc_bel _ (Obj.cells #[.slice none 0 0] 57)))) (fun e => own_ne Ot (blk_bel hy (alloc_bel _ _)) (by decide) e.symm)).trans (blk_bel hy (alloc_bel _ _))
          replace hy := (ho2 _ (by omega)).trans hy1
          replace hB := ((hB.alloc hB.size (Obj.cells #[.slice none 0 0] 57)).grown hgt (by have := hB.size; simp; omega) (fun k hk => own_ge9 Ot hk)).trans (hbg.mono S.bb)
          clear hv hbg hs2 ho2 hbx S1 hy1 hot hgt Ot kkt kkt' S hk
          have S := S2
          clear S2
          replace hsz := hB.size
          have HN2 : Hid (nl + 1 = i * p + (j + 1)) := by have := HN.out; unfold Hid; omega
          clear HN
          go_wp2
          go_roundw
          case rel => exact ⟨j + 1, nl + 1, _, _, _, by omega, by go_num, HN2, S, hy, hB⟩
          case measure => simp [intOf]; omega
        · have hjl' : ¬ (j : Int) < (p : Int) := by omega
          have hne : nl = (i + 1) * p := by have := HN.out; rw [Nat.succ_mul]; omega
          rw [hne] at S
          clear HN hne
          go_wp2
          go_roundw
          case rel => exact ⟨i + 1, _, _, _, by omega, by go_num, S, hy, hB⟩
          case measure => simp [intOf]; omega
    · have hlt' : ¬ (i : Int) < (p : Int) := by omega
      obtain rfl : i = p := by omega
      obtain ⟨al, cl, rfl⟩ := own_form S.l
      obtain ⟨aa, ca, rfl⟩ := own_form S.a
      obtain ⟨at_, ct, rfl⟩ := own_form S.t
      go_wp2_with (first
        | (refine wpList_load_row rfl 43 _ rfl b rfl 43 #[.slice d1 ns.length e1, .slice d2 is.length e2, .slice d3 ds.length e3, .int .i64 (i : Int), .slice none 0 0, .slice al (i * i) cl, .slice none 0 0, .slice none 0 0, .int .i64 2, .slice aa (i * i) ca, .slice at_ (i * i) ct] (0, 0) _ S.x Tryz.underlying43 rfl Tryz.sizeWd ?_)
        | (refine wpList_store_own2 rfl 43 _ _ rfl (w.heap.size + 1) #[.slice d1 ns.length e1, .slice d2 is.length e2, .slice d3 ds.length e3, .int .i64 (i : Int), .slice none 0 0, .slice al (i * i) cl, .slice none 0 0, .slice none 0 0, .int .i64 2, .slice aa (i * i) ca, .slice at_ (i * i) ct] rfl rfl 43 _ hy Tryz.sizeWd rfl (by simp [Value.oneCell']) ?_))
      intro w9 hv hbg hs9 ho9
      have S2 := S.away hy (by omega) ho9
      have hB2 := hB.trans (hbg.mono (by omega))
      clear S hy hB hbg hs9 ho9
      go_wp2
      exact bodyPost_ret (results_cell_row rfl _ _ (w.heap.size + 1) 43 _ (0, 0) _ rfl hv Tryz.underlying43 rfl Tryz.sizeWd) rfl ⟨⟨b, _, _, _, _, _, _, rfl, S2⟩, hB2⟩
end Go.Proofs.YtbhfooafhbfniaaGreatDoor
/-
  The place of the first definition of a name, and the contracts of spec.DefOf and impl.DefOf. No condition.
-/
namespace Go.Proofs.YtbhfooafhbfniaaGreatDoor
open Go.RowKit
def dfIdx : List Df → ByteArray → Nat → Int
  | [], _, _ => -1
  | d :: ds, s, i => if d.s.toList == s.toList then i else dfIdx ds s (i + 1)
theorem dfIdx_hit (ds : List Df) (s : ByteArray) (i : Nat) (d : Df) (h : ds[i]? = some d) (e : (d.s.toList == s.toList) = true) : dfIdx (ds.drop i) s i = i := by
  obtain ⟨hl, he⟩ := List.getElem?_eq_some_iff.1 h
  rw [List.drop_eq_getElem_cons hl, he, dfIdx, if_pos e]
theorem dfIdx_miss (ds : List Df) (s : ByteArray) (i : Nat) (d : Df) (h : ds[i]? = some d) (e : (d.s.toList == s.toList) = false) : dfIdx (ds.drop i) s i = dfIdx (ds.drop (i + 1)) s (i + 1) := by
  obtain ⟨hl, he⟩ := List.getElem?_eq_some_iff.1 h
  rw [List.drop_eq_getElem_cons hl, he, dfIdx, if_neg (by rw [e]; simp)]
theorem dfIdx_end (ds : List Df) (s : ByteArray) (i : Nat) (h : ds.length ≤ i) : dfIdx (ds.drop i) s i = -1 := by
  rw [List.drop_eq_nil_of_le h, dfIdx]
set_option maxHeartbeats 800000 in
theorem sdefof_any (a1 a2 : Option Addr) (n1 c1 n2 c2 : Nat) (v3 : Value) (ds : List Df) (s : ByteArray) (w : World) (R : DfRow w v3 ds) :
    Calls Tryz.prog 79 #[.agg #[.slice a1 n1 c1, .slice a2 n2 c2, v3], .string s] w fun e w' => e = .returned (.int .i64 (dfIdx ds s 0)) ∧ Below w.heap.size w w' := by
  obtain ⟨ao, cap, rfl, hcap, hm, hz, hcell⟩ := R
  go_enter Tryz.func79, Tryz.ntmps79
  have hB0 : Below w.heap.size w (w.alloc (Obj.cells #[.slice a1 n1 c1, .slice a2 n2 c2, .slice ao ds.length cap] 36)) := (Below.refl _ _).alloc (Nat.le_refl _) _
  have hx0 := heap_alloc_new w (Obj.cells #[.slice a1 n1 c1, .slice a2 n2 c2, .slice ao ds.length cap] 36)
  go_wp2_with fail
  generalize w.alloc (Obj.cells #[.slice a1 n1 c1, .slice a2 n2 c2, .slice ao ds.length cap] 36) = w0 at *
  have hc0 : w0.cell? ⟨w.heap.size, 0 + 2, none⟩ = some (.slice ao ds.length cap) := by rw [cell_of_row w0 _ 2 _ _ _ hx0]; rfl
  have hs0 := (Array.getElem?_eq_some_iff.1 hx0).1
  go_loopw [5] (fun i wr => ∃ k : Nat, k ≤ ds.length ∧ i = .int .i64 k ∧ Hid (dfIdx ds s 0 = dfIdx (ds.drop k) s k) ∧ Below w0.heap.size w0 wr) (fun i _ => ds.length - (intOf i).toNat)
  case atStart => exact ⟨0, by omega, rfl, rfl, Below.refl _ _⟩
  case round =>
    obtain ⟨k, hk, rfl, HK, hb⟩ := hrel
    have hB := hB0.trans (hb.mono hB0.size)
    have hcr := (hb.cell (p := ⟨w.heap.size, 0 + 2, none⟩) hs0).trans hc0
    by_cases hlt : k < ds.length
    · obtain ⟨g, o, rfl, hg, hcell⟩ := hcell (by intro e; subst e; simp at hlt)
      obtain ⟨x, hx⟩ : ∃ x, ds[k]? = some x := ⟨ds[k], by simp [hlt]⟩
      obtain ⟨d0, d1, d2⟩ := (hcell k x hx).below hB hg
      clear hcell
      cases e : (x.s.toList == s.toList) with
      | true =>
        have HR : Hid (dfIdx ds s 0 = k) := by unfold Hid; rw [HK.out, dfIdx_hit ds s k x hx e]
        clear hx HK
        go_wp2
        go_ret
        exact ⟨by rw [HR.out]; rfl, hB⟩
      | false =>
        have HR : Hid (dfIdx ds s 0 = dfIdx (ds.drop (k + 1)) s (k + 1)) := by unfold Hid; rw [HK.out, dfIdx_miss ds s k x hx e]
        clear hx HK
        go_wp2
        go_roundw
        case rel => exact ⟨k + 1, by omega, by go_num, HR, hb⟩
        case measure => simp [intOf]; omega
    · have HR : Hid (dfIdx ds s 0 = -1) := by unfold Hid; rw [HK.out, dfIdx_end ds s k (by omega)]
      clear HK hcell
      go_wp2
      go_ret
      exact ⟨by rw [HR.out]; rfl, hB⟩
set_option maxHeartbeats 400000 in
theorem defofc_any (d : Df) (s : ByteArray) (q : Nat) (w : World) (hq : w.cell? ⟨q, 0, none⟩ = some (.string s)) (hl : q < w.heap.size) :
    Calls Tryz.prog 107 #[.agg #[.string d.s, .int .i64 d.p, .int .i64 d.m], .pointer (some ⟨q, 0, none⟩)] w fun e w' => e = .returned (.bool (d.s.toList == s.toList)) ∧ Below w.heap.size w w' := by
  have hne : ¬ q = w.heap.size := by omega
  go_enter Tryz.func107, Tryz.ntmps107
  go_wp2
  go_ret
  exact ⟨rfl, (Below.refl _ _).alloc (Nat.le_refl _) _⟩
set_option maxHeartbeats 800000 in
theorem indexfunc_any (v3 : Value) (ds : List Df) (s : ByteArray) (q : Nat) (w : World) (R : DfRow w v3 ds) (hq : w.cell? ⟨q, 0, none⟩ = some (.string s)) (hl : q < w.heap.size) :
    Calls Tryz.prog 106 #[v3, .func (.func 107) #[] #[.pointer (some ⟨q, 0, none⟩)]] w fun e w' => e = .returned (.int .i64 (dfIdx ds s 0)) ∧ Below w.heap.size w w' := by
  obtain ⟨ao, cap, rfl, hcap, hm, hz, hcell⟩ := R
  go_enter Tryz.func106, Tryz.ntmps106
  go_wp2_with fail
  go_loopw [8] (fun i wr => ∃ k : Nat, k ≤ ds.length ∧ i = .int .i64 k ∧ Hid (dfIdx ds s 0 = dfIdx (ds.drop k) s k) ∧ Below w.heap.size w wr) (fun i _ => ds.length - (intOf i).toNat)
  case atStart => exact ⟨0, by omega, rfl, rfl, Below.refl _ _⟩
  case round =>
    obtain ⟨k, hk, rfl, HK, hb⟩ := hrel
    have hcr := (hb.cell (p := ⟨q, 0, none⟩) hl).trans hq
    have hlr := Nat.lt_of_lt_of_le hl hb.size
    by_cases hlt : k < ds.length
    · obtain ⟨g, o, rfl, hg, hcell⟩ := hcell (by intro e; subst e; simp at hlt)
      obtain ⟨x, hx⟩ : ∃ x, ds[k]? = some x := ⟨ds[k], by simp [hlt]⟩
      obtain ⟨d0, d1, d2⟩ := (hcell k x hx).below hb hg
      clear hcell
      cases e : (x.s.toList == s.toList) with
      | true =>
        have HR : Hid (dfIdx ds s 0 = k) := by unfold Hid; rw [HK.out, dfIdx_hit ds s k x hx e]
        clear hx HK
        go_wp2_with fail
        refine (defofc_any x s q _ hcr hlr).mono ?_
        rintro e' w2 ⟨rfl, hb2⟩
        rw [e]
        have hB2 := hb.trans (hb2.mono hb.size)
        clear d0 d1 d2 hcr hb2
        go_wp2
        go_ret
        exact ⟨by rw [HR.out]; rfl, hB2⟩
      | false =>
        have HR : Hid (dfIdx ds s 0 = dfIdx (ds.drop (k + 1)) s (k + 1)) := by unfold Hid; rw [HK.out, dfIdx_miss ds s k x hx e]
        clear hx HK
        go_wp2_with fail
        refine (defofc_any x s q _ hcr hlr).mono ?_
        rintro e' w2 ⟨rfl, hb2⟩
        rw [e]
        have hB2 := hb.trans (hb2.mono hb.size)
        clear d0 d1 d2 hcr hb2
        go_wp2
        go_roundw
        case rel => exact ⟨k + 1, by omega, by go_num, HR, hB2⟩
        case measure => simp [intOf]; omega
    · have HR : Hid (dfIdx ds s 0 = -1) := by unfold Hid; rw [HK.out, dfIdx_end ds s k (by omega)]
      clear HK hcell
      go_wp2
      go_ret
      exact ⟨by rw [HR.out]; rfl, hb⟩
set_option maxHeartbeats 800000 in
theorem idefof_any (a1 a2 : Option Addr) (n1 c1 n2 c2 : Nat) (v3 : Value) (ds : List Df) (s : ByteArray) (w : World) (R : DfRow w v3 ds) :
    Calls Tryz.prog 88 #[.agg #[.slice a1 n1 c1, .slice a2 n2 c2, v3], .string s] w fun e w' => e = .returned (.int .i64 (dfIdx ds s 0)) ∧ Below w.heap.size w w' := by
  have hmf : ∀ (fn : Fn) (first cap : Array Value) (w : World), (Instr.makeFunc fn first cap).run Tryz.prog w = .ok (.func fn first cap) w := fun _ _ _ _ => rfl
  obtain ⟨a3, c3, rfl⟩ := R.small
  go_enter Tryz.func88, Tryz.ntmps88
  go_wp2_with fail
  have hB0 : Below w.heap.size w ((w.alloc (Obj.cells #[.slice a1 n1 c1, .slice a2 n2 c2, .slice a3 ds.length c3] 36)).alloc (Obj.cells #[.string s] 9)) := ((Below.refl _ _).alloc (Nat.le_refl _) _).alloc (by simp) _
  refine (indexfunc_any _ ds s (w.heap.size + 1) _ (R.below hB0) ?_ ?_).mono ?_
  · rw [cell_of_row _ _ 0 _ _ _ (heap_alloc2_new _ _ _)]; rfl
  · simp
  rintro e w1 ⟨rfl, hb1⟩
  have hB1 := hB0.trans (hb1.mono hB0.size)
  clear hB0 hb1
  go_wp2
  go_ret
  exact ⟨rfl, hB1⟩
end Go.Proofs.YtbhfooafhbfniaaGreatDoor
/-
  When an instruction is right, and the contracts of impl's rules. No condition.
-/
namespace Go.Proofs.YtbhfooafhbfniaaGreatDoor
open Go.RowKit
def bareB (x : In) : Bool := x.n == 0 && x.i == 0 && x.s.toList == []
def litB (x : In) (n1 : Nat) : Bool := x.i == 0 && x.s.toList == [] && decide (0 ≤ x.n) && decide (x.n < n1)
def varB (x : In) : Bool := x.s.toList == [] && decide (0 ≤ x.n) && decide (x.n ≤ 20) && decide (0 ≤ x.i) && decide (x.i < 4)
def globalB (x : In) : Bool := x.n == 0 && x.i == 0 && nameB x.s
def wayB (x : In) (i : Int) (n2 : Nat) : Bool := x.i == 0 && x.s.toList == [] && decide (i < x.n) && decide (x.n ≤ n2)
def funB (x : In) (i : Int) (n2 : Nat) : Bool := x.s.toList == [] && decide (i < x.n) && decide (x.n < n2) && decide (0 ≤ x.i) && decide (x.i ≤ 4)
def callB (x : In) : Bool := x.n == 0 && x.s.toList == [] && decide (0 ≤ x.i) && decide (x.i ≤ 4)
set_option maxHeartbeats 1600000 in
theorem isbare_any (x : In) (a1 a2 a3 : Option Addr) (n1 n2 n3 c1 c2 c3 : Nat) (i : Int) (w : World) :
    Calls Tryz.prog 142 #[.agg #[.int .i64 x.o, .int .i64 x.n, .int .i64 x.i, .string x.s], .agg #[.slice a1 n1 c1, .slice a2 n2 c2, .slice a3 n3 c3], .int .i64 i] w fun e w' => e = .returned (.bool (bareB x)) ∧ Below w.heap.size w w' := by
  go_enter Tryz.func142, Tryz.ntmps142
  go_wp2
  all_goals
    go_ret
    refine ⟨retB ?_, ?_⟩
    · unfold bareB
      first
        | (simp [*]; done)
        | (simp [*]; omega)
        | (rw [Bool.eq_iff_iff]; simp [*]; omega)
    · first
        | exact ((Below.refl _ _).alloc (Nat.le_refl _) _).alloc (by simp) _
        | exact (((Below.refl _ _).alloc (Nat.le_refl _) _).alloc (by simp) _).alloc (by simp; omega) _
set_option maxHeartbeats 1600000 in
theorem islit_any (x : In) (a1 a2 a3 : Option Addr) (n1 n2 n3 c1 c2 c3 : Nat) (i : Int) (w : World) :
    Calls Tryz.prog 136 #[.agg #[.int .i64 x.o, .int .i64 x.n, .int .i64 x.i, .string x.s], .agg #[.slice a1 n1 c1, .slice a2 n2 c2, .slice a3 n3 c3], .int .i64 i] w fun e w' => e = .returned (.bool (litB x n1)) ∧ Below w.heap.size w w' := by
  go_enter Tryz.func136, Tryz.ntmps136
  go_wp2
  all_goals
    go_ret
    refine ⟨retB ?_, ?_⟩
    · unfold litB
      first
        | (simp [*]; done)
        | (simp [*]; omega)
        | (rw [Bool.eq_iff_iff]; simp [*]; omega)
    · first
        | exact ((Below.refl _ _).alloc (Nat.le_refl _) _).alloc (by simp) _
        | exact (((Below.refl _ _).alloc (Nat.le_refl _) _).alloc (by simp) _).alloc (by simp; omega) _
set_option maxHeartbeats 1600000 in
theorem isvar_any (x : In) (a1 a2 a3 : Option Addr) (n1 n2 n3 c1 c2 c3 : Nat) (i : Int) (w : World) :
    Calls Tryz.prog 137 #[.agg #[.int .i64 x.o, .int .i64 x.n, .int .i64 x.i, .string x.s], .agg #[.slice a1 n1 c1, .slice a2 n2 c2, .slice a3 n3 c3], .int .i64 i] w fun e w' => e = .returned (.bool (varB x)) ∧ Below w.heap.size w w' := by
  go_enter Tryz.func137, Tryz.ntmps137
  go_wp2
  all_goals
    go_ret
    refine ⟨retB ?_, ?_⟩
    · unfold varB
      first
        | (simp [*]; done)
        | (simp [*]; omega)
        | (rw [Bool.eq_iff_iff]; simp [*]; omega)
    · first
        | exact ((Below.refl _ _).alloc (Nat.le_refl _) _).alloc (by simp) _
        | exact (((Below.refl _ _).alloc (Nat.le_refl _) _).alloc (by simp) _).alloc (by simp; omega) _
set_option maxHeartbeats 1600000 in
theorem isglobal_any (x : In) (a1 a2 a3 : Option Addr) (n1 n2 n3 c1 c2 c3 : Nat) (i : Int) (w : World) (hs : x.s.size ≤ maxLen) :
    Calls Tryz.prog 138 #[.agg #[.int .i64 x.o, .int .i64 x.n, .int .i64 x.i, .string x.s], .agg #[.slice a1 n1 c1, .slice a2 n2 c2, .slice a3 n3 c3], .int .i64 i] w fun e w' => e = .returned (.bool (globalB x)) ∧ Below w.heap.size w w' := by
  go_enter Tryz.func138, Tryz.ntmps138
  go_wp2_with (go_at_call 120; refine (iname_any x.s _ hs).mono ?_; rintro e w1 ⟨rfl, rfl⟩)
  all_goals
    go_ret
    refine ⟨retB ?_, ?_⟩
    · unfold globalB
      first
        | (simp [*]; done)
        | (simp [*]; omega)
        | (rw [Bool.eq_iff_iff]; simp [*]; omega)
    · first
        | exact ((Below.refl _ _).alloc (Nat.le_refl _) _).alloc (by simp) _
        | exact (((Below.refl _ _).alloc (Nat.le_refl _) _).alloc (by simp) _).alloc (by simp; omega) _
set_option maxHeartbeats 1600000 in
theorem isway_any (x : In) (a1 a2 a3 : Option Addr) (n1 n2 n3 c1 c2 c3 : Nat) (i : Int) (w : World) :
    Calls Tryz.prog 139 #[.agg #[.int .i64 x.o, .int .i64 x.n, .int .i64 x.i, .string x.s], .agg #[.slice a1 n1 c1, .slice a2 n2 c2, .slice a3 n3 c3], .int .i64 i] w fun e w' => e = .returned (.bool (wayB x i n2)) ∧ Below w.heap.size w w' := by
  go_enter Tryz.func139, Tryz.ntmps139
  go_wp2
  all_goals
    go_ret
    refine ⟨retB ?_, ?_⟩
    · unfold wayB
      first
        | (simp [*]; done)
        | (simp [*]; omega)
        | (rw [Bool.eq_iff_iff]; simp [*]; omega)
    · first
        | exact ((Below.refl _ _).alloc (Nat.le_refl _) _).alloc (by simp) _
        | exact (((Below.refl _ _).alloc (Nat.le_refl _) _).alloc (by simp) _).alloc (by simp; omega) _
set_option maxHeartbeats 1600000 in
theorem isfun_any (x : In) (a1 a2 a3 : Option Addr) (n1 n2 n3 c1 c2 c3 : Nat) (i : Int) (w : World) :
    Calls Tryz.prog 140 #[.agg #[.int .i64 x.o, .int .i64 x.n, .int .i64 x.i, .string x.s], .agg #[.slice a1 n1 c1, .slice a2 n2 c2, .slice a3 n3 c3], .int .i64 i] w fun e w' => e = .returned (.bool (funB x i n2)) ∧ Below w.heap.size w w' := by
  go_enter Tryz.func140, Tryz.ntmps140
  go_wp2
  all_goals
    go_ret
    refine ⟨retB ?_, ?_⟩
    · unfold funB
      first
        | (simp [*]; done)
        | (simp [*]; omega)
        | (rw [Bool.eq_iff_iff]; simp [*]; omega)
    · first
        | exact ((Below.refl _ _).alloc (Nat.le_refl _) _).alloc (by simp) _
        | exact (((Below.refl _ _).alloc (Nat.le_refl _) _).alloc (by simp) _).alloc (by simp; omega) _
set_option maxHeartbeats 1600000 in
theorem iscall_any (x : In) (a1 a2 a3 : Option Addr) (n1 n2 n3 c1 c2 c3 : Nat) (i : Int) (w : World) :
    Calls Tryz.prog 141 #[.agg #[.int .i64 x.o, .int .i64 x.n, .int .i64 x.i, .string x.s], .agg #[.slice a1 n1 c1, .slice a2 n2 c2, .slice a3 n3 c3], .int .i64 i] w fun e w' => e = .returned (.bool (callB x)) ∧ Below w.heap.size w w' := by
  go_enter Tryz.func141, Tryz.ntmps141
  go_wp2
  all_goals
    go_ret
    refine ⟨retB ?_, ?_⟩
    · unfold callB
      first
        | (simp [*]; done)
        | (simp [*]; omega)
        | (rw [Bool.eq_iff_iff]; simp [*]; omega)
    · first
        | exact ((Below.refl _ _).alloc (Nat.le_refl _) _).alloc (by simp) _
        | exact (((Below.refl _ _).alloc (Nat.le_refl _) _).alloc (by simp) _).alloc (by simp; omega) _
end Go.Proofs.YtbhfooafhbfniaaGreatDoor
