/-
  Texts that stood by themselves, laid into one.
-/
import Derived.Test.YtpkpednemkagiaaBsM
import Derived.Test.YtpkpednemkagiaaMlMM
import Derived.Test.YtpkpednemkagiaaShapeM
/-
  Contracts of MailWord and MailMove, of the program and of the specification. No condition but that the text is at most 1048576 bytes.
-/
namespace Go.Proofs.Ytpkpednemkagiaa
open Go.RowKit

/-- The payloads. -/
def mwL (p : Int) (s : ByteArray) : List Int := (encI 1 ++ encI p) ++ pt s
def mmL (s : ByteArray) : List Int := encI 2 ++ pt s
def mwR (p : Int) (s : ByteArray) : ByteArray := if p < 0 then ⟨#[]⟩ else strOfNums (mwL p s)
def mmR (s : ByteArray) : ByteArray := strOfNums (mmL s)

set_option maxRecDepth 100000 in
set_option maxHeartbeats 1600000 in
theorem smword_any (p : Int) (s : ByteArray) (w : World) (hp : p ≤ 9223372036854775807) (hs : s.size ≤ 1048576) :
    Calls Try.prog 27 #[.int .i64 p, .string s] w fun e w' => e = .returned (.string (mwR p s)) ∧ Below w.heap.size w w' := by
  go_enter Try.func27, Try.ntmps27
  by_cases hn : p < 0
  · have HR : Hid (mwR p s = ⟨#[]⟩) := if_pos hn
    go_wp2
    go_ret
    exact ⟨by rw [HR.out]; rfl, Below.refl _ _⟩
  · have HR : Hid (mwR p s = strOfNums ((encI 1 ++ encI p) ++ pt s)) := if_neg hn
    have hl1 := encI_length 1
    have hlp := encI_length p
    have hls : (pt s).length ≤ 1048585 := by have := encI_length s.size; rw [pt_length]; omega
    go_wp2_with fail
    refine (sput_any 1 _ (by decide)).mono ?_
    rintro e w1 ⟨u1, rfl, own1, bel1⟩
    go_wp2_with fail
    refine (sput_any p _ hp).mono ?_
    rintro e w2 ⟨u2, rfl, own2, bel2⟩
    obtain ⟨p2, q2, rfl⟩ := own_form own2
    have own1' := own_below own1 bel2
    have b2 := bel1.trans (bel2.mono bel1.size)
    clear own1 bel1 bel2
    go_wp2_with (at_builtin; refine wpList_put3 rfl _ _ rfl rfl own1' b2.size rfl own2 (by omega) ?_)
    intro u3 w3 own3 bel3 st3
    have b3 := b2.trans bel3
    unfold OwnB at own3
    clear own1' own2 bel3 st3 b2
    have hl3 : (encI 1 ++ encI p).length ≤ 18 := by rw [List.length_append]; omega
    obtain ⟨bs, hbs⟩ : ∃ bs, Hid (encI 1 ++ encI p = bs) := ⟨_, rfl⟩
    rw [hbs.out] at own3 hl3 HR
    go_wp2_with fail
    refine (sptext_any s _ (by omega)).mono ?_
    rintro e w4 ⟨u4, rfl, own4, bel4⟩
    obtain ⟨p4, q4, rfl⟩ := own_form own4
    have own3' := own_below own3 bel4
    have b4 := b3.trans (bel4.mono b3.size)
    clear own3 bel4 b3
    go_wp2_with (at_builtin; refine wpList_put3 rfl _ _ rfl rfl own3' b4.size rfl own4 (by omega) ?_)
    intro u5 w5 own5 bel5 st5
    have b5 := b4.trans bel5
    unfold OwnB at own5
    clear own3' own4 bel5 st5 b4
    obtain ⟨es, hes⟩ : ∃ es, Hid (bs ++ pt s = es) := ⟨_, rfl⟩
    rw [hes.out] at own5 HR
    obtain ⟨p7, q7, rfl⟩ := own_form own5
    have hT := own_text own5
    go_wp2_with (refine wpList_bytes_text _ rfl _ 25 9 5 rfl Try.underlying25 Try.underlying9 Try.underlying5 p7 es.length q7 es rfl rfl hT ?_)
    go_ret
    exact ⟨by rw [HR.out]; rfl, b5⟩

set_option maxRecDepth 100000 in
set_option maxHeartbeats 1600000 in
theorem smmove_any (s : ByteArray) (w : World) (hs : s.size ≤ 1048576) :
    Calls Try.prog 29 #[.string s] w fun e w' => e = .returned (.string (mmR s)) ∧ Below w.heap.size w w' := by
  have HR : Hid (mmR s = strOfNums (encI 2 ++ pt s)) := rfl
  have hl1 := encI_length 2
  have hls : (pt s).length ≤ 1048585 := by have := encI_length s.size; rw [pt_length]; omega
  go_enter Try.func29, Try.ntmps29
  go_wp2_with fail
  refine (sput_any 2 _ (by decide)).mono ?_
  rintro e w3 ⟨u3, rfl, own3, b3⟩
  obtain ⟨bs, hbs⟩ : ∃ bs, Hid (encI 2 = bs) := ⟨_, rfl⟩
  rw [hbs.out] at own3 hl1 HR
  go_wp2_with fail
  refine (sptext_any s _ (by omega)).mono ?_
  rintro e w4 ⟨u4, rfl, own4, bel4⟩
  obtain ⟨p4, q4, rfl⟩ := own_form own4
  have own3' := own_below own3 bel4
  have b4 := b3.trans (bel4.mono b3.size)
  clear own3 bel4 b3
  go_wp2_with (at_builtin; refine wpList_put3 rfl _ _ rfl rfl own3' b4.size rfl own4 (by omega) ?_)
  intro u5 w5 own5 bel5 st5
  have b5 := b4.trans bel5
  unfold OwnB at own5
  clear own3' own4 bel5 st5 b4
  obtain ⟨es, hes⟩ : ∃ es, Hid (bs ++ pt s = es) := ⟨_, rfl⟩
  rw [hes.out] at own5 HR
  obtain ⟨p7, q7, rfl⟩ := own_form own5
  have hT := own_text own5
  go_wp2_with (refine wpList_bytes_text _ rfl _ 25 9 5 rfl Try.underlying25 Try.underlying9 Try.underlying5 p7 es.length q7 es rfl rfl hT ?_)
  go_ret
  exact ⟨by rw [HR.out]; rfl, b5⟩

set_option maxRecDepth 100000 in
set_option maxHeartbeats 1600000 in
theorem imword_any (p : Int) (s : ByteArray) (w : World) (hp : p ≤ 9223372036854775807) (hs : s.size ≤ 1048576) :
    Calls Try.prog 9 #[.int .i64 p, .string s] w fun e w' => e = .returned (.string (mwR p s)) ∧ Below w.heap.size w w' := by
  go_enter Try.func9, Try.ntmps9
  by_cases hn : p < 0
  · have HR : Hid (mwR p s = ⟨#[]⟩) := if_pos hn
    go_wp2
    go_ret
    exact ⟨by rw [HR.out]; rfl, Below.refl _ _⟩
  · have HR : Hid (mwR p s = strOfNums ((encI 1 ++ encI p) ++ pt s)) := if_neg hn
    have hl1 := encI_length 1
    have hlp := encI_length p
    have hls : (pt s).length ≤ 1048585 := by have := encI_length s.size; rw [pt_length]; omega
    have hdl : Below w.heap.size w (w.alloc (Obj.cells (iv [1, p]).toArray 3)) := (Below.refl _ _).alloc (Nat.le_refl _) _
    go_wp2_with fail
    refine (putnums_big (.slice none 0 0) [] w.heap.size w.heap.size [1, p] _ ⟨rfl, Or.inl ⟨rfl, rfl⟩⟩ hdl.size (heap_alloc_new _ _) (by intro z hz; simp at hz; rcases hz with rfl | rfl; decide; exact hp) (by simp) (by simp)).mono ?_
    rintro e w3 ⟨u3, rfl, own3, bel3, st3⟩
    have own3' : w3.ownsRow w.heap.size 5 1 u3 (encI 1 ++ encI p).length (bv (encI 1 ++ encI p)) := by
      simp only [List.nil_append, List.flatMap_cons, List.flatMap_nil, List.append_nil] at own3
      exact own3
    have b3 := hdl.trans bel3
    clear own3 bel3 st3 hdl
    have hl3 : (encI 1 ++ encI p).length ≤ 18 := by rw [List.length_append]; omega
    obtain ⟨bs, hbs⟩ : ∃ bs, Hid (encI 1 ++ encI p = bs) := ⟨_, rfl⟩
    rw [hbs.out] at own3' hl3 HR
    go_wp2_with fail
    refine (iptext_any s _ (by omega)).mono ?_
    rintro e w4 ⟨u4, rfl, own4, bel4⟩
    obtain ⟨p4, q4, rfl⟩ := own_form own4
    have own3 := own_below own3' bel4
    have b4 := b3.trans (bel4.mono b3.size)
    clear own3' bel4 b3
    go_wp2_with (at_builtin; refine wpList_put3 rfl _ _ rfl rfl own3 b4.size rfl own4 (by omega) ?_)
    intro u5 w5 own5 bel5 st5
    have b5 := b4.trans bel5
    unfold OwnB at own5
    clear own3 own4 bel5 st5 b4
    obtain ⟨es, hes⟩ : ∃ es, Hid (bs ++ pt s = es) := ⟨_, rfl⟩
    rw [hes.out] at own5 HR
    obtain ⟨p7, q7, rfl⟩ := own_form own5
    have hT := own_text own5
    go_wp2_with (refine wpList_bytes_text _ rfl _ 25 9 5 rfl Try.underlying25 Try.underlying9 Try.underlying5 p7 es.length q7 es rfl rfl hT ?_)
    go_ret
    exact ⟨by rw [HR.out]; rfl, b5⟩

set_option maxRecDepth 100000 in
set_option maxHeartbeats 1600000 in
theorem immove_any (s : ByteArray) (w : World) (hs : s.size ≤ 1048576) :
    Calls Try.prog 11 #[.string s] w fun e w' => e = .returned (.string (mmR s)) ∧ Below w.heap.size w w' := by
  have HR : Hid (mmR s = strOfNums (encI 2 ++ pt s)) := rfl
  have hl1 := encI_length 2
  have hls : (pt s).length ≤ 1048585 := by have := encI_length s.size; rw [pt_length]; omega
  have hdl : Below w.heap.size w (w.alloc (Obj.cells (iv [2]).toArray 3)) := (Below.refl _ _).alloc (Nat.le_refl _) _
  go_enter Try.func11, Try.ntmps11
  go_wp2_with fail
  refine (putnums_big (.slice none 0 0) [] w.heap.size w.heap.size [2] _ ⟨rfl, Or.inl ⟨rfl, rfl⟩⟩ hdl.size (heap_alloc_new _ _) (by intro z hz; simp at hz; subst hz; decide) (by simp) (by simp)).mono ?_
  rintro e w3 ⟨u3, rfl, own3, bel3, st3⟩
  have own3' : w3.ownsRow w.heap.size 5 1 u3 (encI 2).length (bv (encI 2)) := by
    simp only [List.nil_append, List.flatMap_cons, List.flatMap_nil, List.append_nil] at own3
    exact own3
  have b3 := hdl.trans bel3
  clear own3 bel3 st3 hdl
  obtain ⟨bs, hbs⟩ : ∃ bs, Hid (encI 2 = bs) := ⟨_, rfl⟩
  rw [hbs.out] at own3' hl1 HR
  go_wp2_with fail
  refine (iptext_any s _ (by omega)).mono ?_
  rintro e w4 ⟨u4, rfl, own4, bel4⟩
  obtain ⟨p4, q4, rfl⟩ := own_form own4
  have own3 := own_below own3' bel4
  have b4 := b3.trans (bel4.mono b3.size)
  clear own3' bel4 b3
  go_wp2_with (at_builtin; refine wpList_put3 rfl _ _ rfl rfl own3 b4.size rfl own4 (by omega) ?_)
  intro u5 w5 own5 bel5 st5
  have b5 := b4.trans bel5
  unfold OwnB at own5
  clear own3 own4 bel5 st5 b4
  obtain ⟨es, hes⟩ : ∃ es, Hid (bs ++ pt s = es) := ⟨_, rfl⟩
  rw [hes.out] at own5 HR
  obtain ⟨p7, q7, rfl⟩ := own_form own5
  have hT := own_text own5
  go_wp2_with (refine wpList_bytes_text _ rfl _ 25 9 5 rfl Try.underlying25 Try.underlying9 Try.underlying5 p7 es.length q7 es rfl rfl hT ?_)
  go_ret
  exact ⟨by rw [HR.out]; rfl, b5⟩
end Go.Proofs.Ytpkpednemkagiaa

/-
  A payload is read as it was, and what is read is written as it was: plain mathematics. No condition but bounds.
-/
namespace Go.Proofs.Ytpkpednemkagiaa
open Go.RowKit

theorem mwL_wf (p : Int) (s : ByteArray) : ∀ z ∈ mwL p s, 0 ≤ z ∧ z ≤ 255 := by
  intro z hz
  simp only [mwL, List.mem_append] at hz
  rcases hz with (h | h) | h
  · exact encI_wf _ z h
  · exact encI_wf _ z h
  · exact pt_wf s z h
theorem mmL_wf (s : ByteArray) : ∀ z ∈ mmL s, 0 ≤ z ∧ z ≤ 255 := by
  intro z hz
  simp only [mmL, List.mem_append] at hz
  rcases hz with h | h
  · exact encI_wf _ z h
  · exact pt_wf s z h
theorem mEnd_put (pre : List Int) (k p : Int) (s : ByteArray) (h : s.size ≤ 1048576) : mEnd (pre ++ pt s) k p pre.length = some (k, p, s) := by
  have hg := gT_put pre [] s h
  rw [List.append_nil] at hg
  unfold mEnd rt
  rw [hg]
  simp
theorem mrd_word (p : Int) (s : ByteArray) (h0 : 0 ≤ p) (h1 : p ≤ 9223372036854775807) (hs : s.size ≤ 1048576) : mrd (sb (mwR p s)) = some (1, p, s) := by
  rw [mwR, if_neg (by omega), sb_str (mwL_wf p s)]
  have e1 := rd1_put [] (encI p ++ pt s) 1 (by decide) (by decide)
  have e2 := rd1_put (encI 1) (pt s) p h0 h1
  have e3 := mEnd_put (encI 1 ++ encI p) 1 p s hs
  rw [List.nil_append, ← List.append_assoc] at e1
  rw [← List.append_assoc] at e2
  unfold mrd mwL
  simp only [List.length_nil, Int.natCast_zero, Int.zero_add] at e1
  rw [e1]
  simp only [Option.bind_some, if_pos]
  rw [e2]
  simp only [Option.bind_some]
  rw [List.length_append, Int.natCast_add] at e3
  exact e3
theorem mrd_move (s : ByteArray) (hs : s.size ≤ 1048576) : mrd (sb (mmR s)) = some (2, 0, s) := by
  rw [mmR, sb_str (mmL_wf s)]
  have e1 := rd1_put [] (pt s) 2 (by decide) (by decide)
  have e3 := mEnd_put (encI 2) 2 0 s hs
  rw [List.nil_append] at e1
  unfold mrd mmL
  simp only [List.length_nil, Int.natCast_zero, Int.zero_add] at e1
  rw [e1]
  simp only [Option.bind_some, if_neg (show ¬ (2 : Int) = 1 by decide), if_pos]
  exact e3
theorem mEnd_lies {zs : List Int} {k p a k' p' : Int} {t : ByteArray} (hz : ∀ z ∈ zs, 0 ≤ z ∧ z ≤ 255) (h : mEnd zs k p a = some (k', p', t)) : k' = k ∧ p' = p ∧ Lies zs a (pt t) zs.length := by
  unfold mEnd rt at h
  rw [Option.bind_eq_some_iff] at h
  obtain ⟨q, h1, h2⟩ := h
  split at h1
  · rename_i hk
    cases h1
    split at h2
    · rename_i hl
      simp only [Option.some.injEq, Prod.mk.injEq] at h2
      obtain ⟨rfl, rfl, rfl⟩ := h2
      refine ⟨rfl, rfl, ?_⟩
      have := gT_lies (next := (gT zs a).2.1) (s := (gT zs a).1) hz (by rw [← hk])
      simp only at hl
      rw [hl] at this
      exact this
    · cases h2
  · cases h1
theorem lies_all {zs L : List Int} (h : Lies zs 0 L zs.length) : zs = L := by
  obtain ⟨_, h2, r, h3⟩ := h
  simp only [Int.toNat_zero, List.drop_zero] at h3
  have : r = [] := by
    apply List.eq_nil_of_length_eq_zero
    have := congrArg List.length h3
    rw [List.length_append] at this
    omega
  rw [h3, this, List.append_nil]
/-- What is read is written as it was. -/
theorem mrd_back {s : ByteArray} {k p : Int} {t : ByteArray} (h : mrd (sb s) = some (k, p, t)) : ((k = 1 ∧ 0 ≤ p ∧ mwR p t = s) ∨ (k = 2 ∧ p = 0 ∧ mmR t = s)) ∧ p ≤ 9223372036854775807 ∧ t.size ≤ s.size := by
  have hz := sb_wf s
  unfold mrd at h
  rw [Option.bind_eq_some_iff] at h
  obtain ⟨⟨k0, a0⟩, h1, h2⟩ := h
  obtain ⟨l1, _⟩ := rd1_lies hz h1
  simp only at h2
  split at h2
  · rename_i hk
    subst hk
    rw [Option.bind_eq_some_iff] at h2
    obtain ⟨⟨p0, a1⟩, h3, h4⟩ := h2
    obtain ⟨l2, hp0⟩ := rd1_lies hz h3
    obtain ⟨rfl, rfl, l3⟩ := mEnd_lies hz h4
    have hmx := (rd1_range h3).2.1
    have e := lies_all ((l1.append l2).append l3)
    have hsz : t.size ≤ s.size := by
      have := congrArg List.length e
      rw [sb_length, List.length_append, pt_length] at this
      omega
    refine ⟨Or.inl ⟨rfl, hp0, ?_⟩, hmx, hsz⟩
    rw [mwR, if_neg (by omega)]
    show strOfNums ((encI 1 ++ encI _) ++ pt t) = s
    rw [← e, strOfNums_sb]
  · split at h2
    · rename_i hk
      subst hk
      obtain ⟨rfl, rfl, l3⟩ := mEnd_lies hz h2
      have e := lies_all (l1.append l3)
      have hsz : t.size ≤ s.size := by
        have := congrArg List.length e
        rw [sb_length, List.length_append, pt_length] at this
        omega
      refine ⟨Or.inr ⟨rfl, rfl, ?_⟩, by decide, hsz⟩
      show strOfNums (encI 2 ++ pt t) = s
      rw [← e, strOfNums_sb]
    · cases h2
theorem mwR_size (p : Int) (s : ByteArray) : (mwR p s).size ≤ s.size + 27 := by
  unfold mwR
  split
  · show 0 ≤ _
    omega
  · have h1 := encI_length 1
    have h2 := encI_length p
    have h3 := encI_length s.size
    have e : (strOfNums (mwL p s)).size = (mwL p s).length := by rw [← sb_length, sb_str (mwL_wf p s)]
    rw [e, mwL, List.length_append, List.length_append, pt_length]
    omega
theorem mmR_size (s : ByteArray) : (mmR s).size ≤ s.size + 18 := by
  unfold mmR
  have h1 := encI_length 2
  have h3 := encI_length s.size
  have e : (strOfNums (mmL s)).size = (mmL s).length := by rw [← sb_length, sb_str (mmL_wf s)]
  rw [e, mmL, List.length_append, pt_length]
  omega
end Go.Proofs.Ytpkpednemkagiaa

/-
  Contracts of DrawMailWord, DrawMailMove and DrawMailRead: some number and text; some text. No condition.
-/
namespace Go.Proofs.Ytpkpednemkagiaa
open Go.RowKit

def picks13 : List ByteArray := [⟨#[]⟩, ⟨#[97]⟩, ⟨#[98, 99, 100]⟩]
theorem picks13_size : ∀ s ∈ picks13, s.size ≤ 3 := by decide

set_option maxRecDepth 100000 in
set_option maxHeartbeats 1600000 in
theorem dmailw_any (v : Value) (zs : List Int) (w : World) (R : Row w v zs) (hl : zs.length ≤ 1048576) :
    Calls Try.prog 8 #[v] w fun e w' => ∃ (x : Int) (s : ByteArray), e = .returned (.tuple #[.int .i64 x, .string s]) ∧ x ≤ 300 ∧ -10 ≤ x ∧ s.size ≤ 3 ∧ Below w.heap.size w w' := by
  go_enter Try.func8, Try.ntmps8
  go_wp2_with fail
  refine (new_any v zs w R hl).mono ?_
  rintro e w1 ⟨rfl, c1, b1⟩
  go_wp2_with fail
  refine (below_any w v zs w1 w.heap.size 300 c1 (by omega)).mono ?_
  rintro e w2 ⟨x, rfl, hx0, hx1, c2, g2⟩
  have hx := hx1 (by omega)
  have b2 : Below w.heap.size w w2 := b1.grown g2 b1.size (fun k hk => by simp at hk; omega)
  clear c1 b1 g2 hx1
  go_wp2_with fail
  refine (below_any w v zs w2 w.heap.size 20 c2 (by omega)).mono ?_
  rintro e w3 ⟨y, rfl, hy0, hy1, c3, g3⟩
  have hy := hy1 (by omega)
  have b3 : Below w.heap.size w w3 := b2.grown g3 b2.size (fun k hk => by simp at hk; omega)
  clear c2 b2 g3 hy1
  have hlt := c3.lt
  go_wp2_with fail
  refine (picks_any w v zs _ w.heap.size w3.heap.size 3 picks13 (c3.kept ((Below.refl _ _).alloc (by omega) _)) (by omega) (by decide) (by decide) (fun i hi => strs_new w3 picks13 9 i hi)).mono ?_
  rintro e w4 ⟨s, hs, rfl, c4, g4⟩
  have hsz := picks13_size s hs
  have b4 : Below w.heap.size w w4 := (b3.alloc b3.size _).grown g4 (by simp; omega) (fun k hk => by simp at hk; omega)
  clear c3 b3 g4 c4
  go_wp2_with fail
  go_ret2
  refine ⟨_, s, rfl, ?_, ?_, hsz, b4⟩
  · omega
  · omega

set_option maxRecDepth 100000 in
set_option maxHeartbeats 1600000 in
theorem dmailm_any (v : Value) (zs : List Int) (w : World) (R : Row w v zs) (hl : zs.length ≤ 1048576) :
    Calls Try.prog 10 #[v] w fun e w' => ∃ s : ByteArray, e = .returned (.string s) ∧ s.size ≤ 9 ∧ Below w.heap.size w w' := by
  go_enter Try.func10, Try.ntmps10
  go_wp2_with fail
  refine (new_any v zs w R hl).mono ?_
  rintro e w1 ⟨rfl, c1, b1⟩
  go_wp2_with fail
  refine (draw_any w _ zs _ w.heap.size 9 c1 (by omega) (by omega)).mono ?_
  rintro e w2 ⟨v2, acc, rfl, hacc, hz, own, c2, g2⟩
  have b2 : Below w.heap.size w w2 := b1.grown g2 b1.size (fun k hk => by simp at hk; omega)
  have hlen : acc.length ≤ 9 := by omega
  have R2 := Row.of_own own (by omega) hz
  obtain ⟨ao2, cap2, rfl, _, _, _, hcell⟩ := R2
  have hc : acc.length ≠ 0 → ∃ g o', ao2 = some ⟨g, o', none⟩ ∧ ∀ i, i < acc.length → w2.cell? ⟨g, o' + i, none⟩ = some (.int .u8 (acc.getD i 0)) := by
    intro h0
    obtain ⟨g, o, h1, _, h2⟩ := hcell (by intro e; subst e; simp at h0)
    exact ⟨g, o, h1, h2⟩
  have hsz : (strOfNums acc).size ≤ 9 := by rw [← sb_length, sb_str hz]; exact hlen
  clear own c1 c2 g2 hz hcell b1
  go_wp2_with (refine wpList_bytes_string _ rfl _ 25 9 5 rfl Try.underlying25 Try.underlying9 Try.underlying5 _ _ _ acc rfl rfl hc ?_)
  go_ret
  exact ⟨_, rfl, hsz, b2⟩

set_option maxRecDepth 100000 in
set_option maxHeartbeats 1600000 in
theorem dmailr_any (v : Value) (zs : List Int) (w : World) (R : Row w v zs) (hl : zs.length ≤ 1048576) :
    Calls Try.prog 12 #[v] w fun e w' => ∃ s : ByteArray, e = .returned (.string s) ∧ s.size ≤ 100 ∧ Below w.heap.size w w' := by
  go_enter Try.func12, Try.ntmps12
  go_wp2_with fail
  refine (new_any v zs w R hl).mono ?_
  rintro e w1 ⟨rfl, c1, b1⟩
  go_wp2_with fail
  refine (below_any w v zs w1 w.heap.size 300 c1 (by omega)).mono ?_
  rintro e w2 ⟨x, rfl, hx0, hx1, c2, g2⟩
  have hx := hx1 (by omega)
  have b2 : Below w.heap.size w w2 := b1.grown g2 b1.size (fun k hk => by simp at hk; omega)
  clear c1 b1 g2 hx1
  have hlt := c2.lt
  go_wp2_with fail
  refine (picks_any w v zs _ w.heap.size w2.heap.size 3 picks13 (c2.kept ((Below.refl _ _).alloc (by omega) _)) (by omega) (by decide) (by decide) (fun i hi => strs_new w2 picks13 9 i hi)).mono ?_
  rintro e w3 ⟨s, hs, rfl, c3, g3⟩
  have hsz := picks13_size s hs
  have b3 : Below w.heap.size w w3 := (b2.alloc b2.size _).grown g3 (by simp; omega) (fun k hk => by simp at hk; omega)
  clear c2 b2 g3 hlt
  go_wp2_with fail
  refine (smword_any x s _ (by omega) (by omega)).mono ?_
  rintro e w4 ⟨rfl, h4⟩
  have c4 := c3.kept (h4.mono c3.lt)
  have b4 := b3.trans (h4.mono b3.size)
  have hr := mwR_size x s
  obtain ⟨r, hrr⟩ : ∃ r, mwR x s = r := ⟨_, rfl⟩
  rw [hrr] at hr ⊢
  clear c3 b3 h4 hrr
  go_wp2_with fail
  refine (once_any w v zs _ w.heap.size 2 c4 (by omega)).mono ?_
  rintro e w5 ⟨bb, rfl, c5, g5⟩
  have b5 : Below w.heap.size w w5 := b4.grown g5 b4.size (fun k hk => by simp at hk; omega)
  clear c4 b4 g5
  cases bb with
  | false =>
    go_wp2_with fail
    refine (spoil_any w v zs _ w.heap.size r c5 (by omega)).mono ?_
    rintro e w6 ⟨t, rfl, ht, c6, g6⟩
    have b6 : Below w.heap.size w w6 := b5.grown g6 b5.size (fun k hk => by simp at hk; omega)
    go_wp2_with fail
    go_ret
    exact ⟨t, rfl, by omega, b6⟩
  | true =>
    have hlt := c5.lt
    go_wp2_with fail
    refine (picks_any w v zs _ w.heap.size w5.heap.size 3 picks13 (c5.kept ((Below.refl _ _).alloc (by omega) _)) (by omega) (by decide) (by decide) (fun i hi => strs_new w5 picks13 9 i hi)).mono ?_
    rintro e w6 ⟨s2, hs2, rfl, c6, g6⟩
    have hsz2 := picks13_size s2 hs2
    have b6 : Below w.heap.size w w6 := (b5.alloc b5.size _).grown g6 (by simp; omega) (fun k hk => by simp at hk; omega)
    clear c5 b5 g6 hlt
    go_wp2_with fail
    refine (smmove_any s2 _ (by omega)).mono ?_
    rintro e w7 ⟨rfl, h7⟩
    have c7 := c6.kept (h7.mono c6.lt)
    have b7 := b6.trans (h7.mono b6.size)
    have hr2 := mmR_size s2
    obtain ⟨r2, hrr⟩ : ∃ r, mmR s2 = r := ⟨_, rfl⟩
    rw [hrr] at hr2 ⊢
    clear c6 b6 h7 hrr
    go_wp2_with fail
    refine (spoil_any w v zs _ w.heap.size r2 c7 (by omega)).mono ?_
    rintro e w8 ⟨t, rfl, ht, c8, g8⟩
    have b8 : Below w.heap.size w w8 := b7.grown g8 b7.size (fun k hk => by simp at hk; omega)
    go_wp2_with fail
    go_ret
    exact ⟨t, rfl, by omega, b8⟩
end Go.Proofs.Ytpkpednemkagiaa
