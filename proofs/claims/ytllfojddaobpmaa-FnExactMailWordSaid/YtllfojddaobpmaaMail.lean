/-
  Contracts of MailWord and MailMove, of the program and of the specification. No condition but that the text is at most 1048576 bytes.
-/
import Derived.Test.YtllfojddaobpmaaPutN
import Derived.Test.YtllfojddaobpmaaBs
namespace Go.Proofs.Ytllfojddaobpmaa
open Go.RowKit

/-- The payloads. -/
def mwL (p : Int) (s : ByteArray) : List Int := (encI 1 ++ encI p) ++ pt s
def mmL (s : ByteArray) : List Int := encI 2 ++ pt s
def mwR (p : Int) (s : ByteArray) : ByteArray := if p < 0 then ⟨#[]⟩ else strOfNums (mwL p s)
def mmR (s : ByteArray) : ByteArray := strOfNums (mmL s)

set_option maxRecDepth 100000 in
set_option maxHeartbeats 1600000 in
theorem smword_any (p : Int) (s : ByteArray) (w : World) (hp : p ≤ 9223372036854775807) (hs : s.size ≤ 1048576) :
    Calls Try.prog 6 #[.int .i64 p, .string s] w fun e w' => e = .returned (.string (mwR p s)) ∧ Below w.heap.size w w' := by
  go_enter Try.func6, Try.ntmps6
  by_cases hn : p < 0
  · have HR : Hid (mwR p s = ⟨#[]⟩) := if_pos hn
    go_wp2
    go_ret
    exact ⟨by rw [HR.out]; rfl, Below.refl _ _⟩
  · have HR : Hid (mwR p s = strOfNums ((encI 1 ++ encI p) ++ pt s)) := if_neg hn
    have hl1 := encI_length 1
    have hlp := encI_length p
    have hls : (pt s).length ≤ 1048585 := by have := encI_length s.size; rw [pt_length]; omega
    go_wp2_with fail
    refine (sput_any 1 _ (by decide)).mono ?_
    rintro e w1 ⟨u1, rfl, own1, bel1⟩
    go_wp2_with fail
    refine (sput_any p _ hp).mono ?_
    rintro e w2 ⟨u2, rfl, own2, bel2⟩
    obtain ⟨p2, q2, rfl⟩ := own_form own2
    have own1' := own_below own1 bel2
    have b2 := bel1.trans (bel2.mono bel1.size)
    clear own1 bel1 bel2
    go_wp2_with (at_builtin; refine wpList_put3 rfl _ _ rfl rfl own1' b2.size rfl own2 (by omega) ?_)
    intro u3 w3 own3 bel3 st3
    have b3 := b2.trans bel3
    unfold OwnB at own3
    clear own1' own2 bel3 st3 b2
    have hl3 : (encI 1 ++ encI p).length ≤ 18 := by rw [List.length_append]; omega
    obtain ⟨bs, hbs⟩ : ∃ bs, Hid (encI 1 ++ encI p = bs) := ⟨_, rfl⟩
    rw [hbs.out] at own3 hl3 HR
    go_wp2_with fail
    refine (sptext_any s _ (by omega)).mono ?_
    rintro e w4 ⟨u4, rfl, own4, bel4⟩
    obtain ⟨p4, q4, rfl⟩ := own_form own4
    have own3' := own_below own3 bel4
    have b4 := b3.trans (bel4.mono b3.size)
    clear own3 bel4 b3
    go_wp2_with (at_builtin; refine wpList_put3 rfl _ _ rfl rfl own3' b4.size rfl own4 (by omega) ?_)
    intro u5 w5 own5 bel5 st5
    have b5 := b4.trans bel5
    unfold OwnB at own5
    clear own3' own4 bel5 st5 b4
    obtain ⟨es, hes⟩ : ∃ es, Hid (bs ++ pt s = es) := ⟨_, rfl⟩
    rw [hes.out] at own5 HR
    obtain ⟨p7, q7, rfl⟩ := own_form own5
    have hT := own_text own5
    go_wp2_with (refine wpList_bytes_text _ rfl _ 58 9 5 rfl Try.underlying58 Try.underlying9 Try.underlying5 p7 es.length q7 es rfl rfl hT ?_)
    go_ret
    exact ⟨by rw [HR.out]; rfl, b5⟩

set_option maxRecDepth 100000 in
set_option maxHeartbeats 1600000 in
theorem smmove_any (s : ByteArray) (w : World) (hs : s.size ≤ 1048576) :
    Calls Try.prog 8 #[.string s] w fun e w' => e = .returned (.string (mmR s)) ∧ Below w.heap.size w w' := by
  have HR : Hid (mmR s = strOfNums (encI 2 ++ pt s)) := rfl
  have hl1 := encI_length 2
  have hls : (pt s).length ≤ 1048585 := by have := encI_length s.size; rw [pt_length]; omega
  go_enter Try.func8, Try.ntmps8
  go_wp2_with fail
  refine (sput_any 2 _ (by decide)).mono ?_
  rintro e w3 ⟨u3, rfl, own3, b3⟩
  obtain ⟨bs, hbs⟩ : ∃ bs, Hid (encI 2 = bs) := ⟨_, rfl⟩
  rw [hbs.out] at own3 hl1 HR
  go_wp2_with fail
  refine (sptext_any s _ (by omega)).mono ?_
  rintro e w4 ⟨u4, rfl, own4, bel4⟩
  obtain ⟨p4, q4, rfl⟩ := own_form own4
  have own3' := own_below own3 bel4
  have b4 := b3.trans (bel4.mono b3.size)
  clear own3 bel4 b3
  go_wp2_with (at_builtin; refine wpList_put3 rfl _ _ rfl rfl own3' b4.size rfl own4 (by omega) ?_)
  intro u5 w5 own5 bel5 st5
  have b5 := b4.trans bel5
  unfold OwnB at own5
  clear own3' own4 bel5 st5 b4
  obtain ⟨es, hes⟩ : ∃ es, Hid (bs ++ pt s = es) := ⟨_, rfl⟩
  rw [hes.out] at own5 HR
  obtain ⟨p7, q7, rfl⟩ := own_form own5
  have hT := own_text own5
  go_wp2_with (refine wpList_bytes_text _ rfl _ 58 9 5 rfl Try.underlying58 Try.underlying9 Try.underlying5 p7 es.length q7 es rfl rfl hT ?_)
  go_ret
  exact ⟨by rw [HR.out]; rfl, b5⟩

set_option maxRecDepth 100000 in
set_option maxHeartbeats 1600000 in
theorem imword_any (p : Int) (s : ByteArray) (w : World) (hp : p ≤ 9223372036854775807) (hs : s.size ≤ 1048576) :
    Calls Try.prog 7 #[.int .i64 p, .string s] w fun e w' => e = .returned (.string (mwR p s)) ∧ Below w.heap.size w w' := by
  go_enter Try.func7, Try.ntmps7
  by_cases hn : p < 0
  · have HR : Hid (mwR p s = ⟨#[]⟩) := if_pos hn
    go_wp2
    go_ret
    exact ⟨by rw [HR.out]; rfl, Below.refl _ _⟩
  · have HR : Hid (mwR p s = strOfNums ((encI 1 ++ encI p) ++ pt s)) := if_neg hn
    have hl1 := encI_length 1
    have hlp := encI_length p
    have hls : (pt s).length ≤ 1048585 := by have := encI_length s.size; rw [pt_length]; omega
    have hdl : Below w.heap.size w (w.alloc (Obj.cells (iv [1, p]).toArray 3)) := (Below.refl _ _).alloc (Nat.le_refl _) _
    go_wp2_with fail
    refine (putnums_big (.slice none 0 0) [] w.heap.size w.heap.size [1, p] _ ⟨rfl, Or.inl ⟨rfl, rfl⟩⟩ hdl.size (heap_alloc_new _ _) (by intro z hz; simp at hz; rcases hz with rfl | rfl; decide; exact hp) (by simp) (by simp)).mono ?_
    rintro e w3 ⟨u3, rfl, own3, bel3, st3⟩
    have own3' : w3.ownsRow w.heap.size 5 1 u3 (encI 1 ++ encI p).length (bv (encI 1 ++ encI p)) := by
      simp only [List.nil_append, List.flatMap_cons, List.flatMap_nil, List.append_nil] at own3
      exact own3
    have b3 := hdl.trans bel3
    clear own3 bel3 st3 hdl
    have hl3 : (encI 1 ++ encI p).length ≤ 18 := by rw [List.length_append]; omega
    obtain ⟨bs, hbs⟩ : ∃ bs, Hid (encI 1 ++ encI p = bs) := ⟨_, rfl⟩
    rw [hbs.out] at own3' hl3 HR
    go_wp2_with fail
    refine (iptext_any s _ (by omega)).mono ?_
    rintro e w4 ⟨u4, rfl, own4, bel4⟩
    obtain ⟨p4, q4, rfl⟩ := own_form own4
    have own3 := own_below own3' bel4
    have b4 := b3.trans (bel4.mono b3.size)
    clear own3' bel4 b3
    go_wp2_with (at_builtin; refine wpList_put3 rfl _ _ rfl rfl own3 b4.size rfl own4 (by omega) ?_)
    intro u5 w5 own5 bel5 st5
    have b5 := b4.trans bel5
    unfold OwnB at own5
    clear own3 own4 bel5 st5 b4
    obtain ⟨es, hes⟩ : ∃ es, Hid (bs ++ pt s = es) := ⟨_, rfl⟩
    rw [hes.out] at own5 HR
    obtain ⟨p7, q7, rfl⟩ := own_form own5
    have hT := own_text own5
    go_wp2_with (refine wpList_bytes_text _ rfl _ 58 9 5 rfl Try.underlying58 Try.underlying9 Try.underlying5 p7 es.length q7 es rfl rfl hT ?_)
    go_ret
    exact ⟨by rw [HR.out]; rfl, b5⟩

set_option maxRecDepth 100000 in
set_option maxHeartbeats 1600000 in
theorem immove_any (s : ByteArray) (w : World) (hs : s.size ≤ 1048576) :
    Calls Try.prog 9 #[.string s] w fun e w' => e = .returned (.string (mmR s)) ∧ Below w.heap.size w w' := by
  have HR : Hid (mmR s = strOfNums (encI 2 ++ pt s)) := rfl
  have hl1 := encI_length 2
  have hls : (pt s).length ≤ 1048585 := by have := encI_length s.size; rw [pt_length]; omega
  have hdl : Below w.heap.size w (w.alloc (Obj.cells (iv [2]).toArray 3)) := (Below.refl _ _).alloc (Nat.le_refl _) _
  go_enter Try.func9, Try.ntmps9
  go_wp2_with fail
  refine (putnums_big (.slice none 0 0) [] w.heap.size w.heap.size [2] _ ⟨rfl, Or.inl ⟨rfl, rfl⟩⟩ hdl.size (heap_alloc_new _ _) (by intro z hz; simp at hz; subst hz; decide) (by simp) (by simp)).mono ?_
  rintro e w3 ⟨u3, rfl, own3, bel3, st3⟩
  have own3' : w3.ownsRow w.heap.size 5 1 u3 (encI 2).length (bv (encI 2)) := by
    simp only [List.nil_append, List.flatMap_cons, List.flatMap_nil, List.append_nil] at own3
    exact own3
  have b3 := hdl.trans bel3
  clear own3 bel3 st3 hdl
  obtain ⟨bs, hbs⟩ : ∃ bs, Hid (encI 2 = bs) := ⟨_, rfl⟩
  rw [hbs.out] at own3' hl1 HR
  go_wp2_with fail
  refine (iptext_any s _ (by omega)).mono ?_
  rintro e w4 ⟨u4, rfl, own4, bel4⟩
  obtain ⟨p4, q4, rfl⟩ := own_form own4
  have own3 := own_below own3' bel4
  have b4 := b3.trans (bel4.mono b3.size)
  clear own3' bel4 b3
  go_wp2_with (at_builtin; refine wpList_put3 rfl _ _ rfl rfl own3 b4.size rfl own4 (by omega) ?_)
  intro u5 w5 own5 bel5 st5
  have b5 := b4.trans bel5
  unfold OwnB at own5
  clear own3 own4 bel5 st5 b4
  obtain ⟨es, hes⟩ : ∃ es, Hid (bs ++ pt s = es) := ⟨_, rfl⟩
  rw [hes.out] at own5 HR
  obtain ⟨p7, q7, rfl⟩ := own_form own5
  have hT := own_text own5
  go_wp2_with (refine wpList_bytes_text _ rfl _ 58 9 5 rfl Try.underlying58 Try.underlying9 Try.underlying5 p7 es.length q7 es rfl rfl hT ?_)
  go_ret
  exact ⟨by rw [HR.out]; rfl, b5⟩
end Go.Proofs.Ytllfojddaobpmaa
