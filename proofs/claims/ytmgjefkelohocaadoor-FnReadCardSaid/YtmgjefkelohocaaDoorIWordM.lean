/-
  Texts that stood by themselves, laid into one.
-/
import Derived.Shelf.LaysM
import Derived.Shelf.LaysC
import Derived.Shelf.Strconv.Clone
import Derived.Shelf.Strconv.AtoiAll
import Derived.Shelf.Strconv.ErrVarAll
import Derived.Test.YtmgjefkelohocaaDoorProg
import Derived.Test.YtmgjefkelohocaaDoorRdM
import Derived.Test.YtmgjefkelohocaaDoorWordM
/-
  The contracts of the library functions strconv.Atoi and strings.Clone at this program, by one application each. The variables of the errors hold what they are laid with.
-/
namespace Go.Proofs
open Go.Shelf
def Tryd.laysM316_ren : Go.Shelf.Ren := ⟨fun | 316 => 105 | n => n, fun | 9 => 9 | 3 => 3 | 4 => 4 | 37 => 22 | 0 => 0 | 127 => 150 | 5 => 5 | n => n, fun | n => n⟩
theorem Tryd.laysM316 : Go.Proofs.LaysM.n316 Tryd.prog Tryd.laysM316_ren := {
  mixed := by kernel_rfl
  f316 := Tryd.func105.trans (congrArg some (by kernel_rfl))
  t0 := Tryd.underlying0
  a0 := Tryd.isAgg0
  z0 := Tryd.sizeOf0
  v0 := Tryd.zeroValue0
  t3 := Tryd.underlying3
  a3 := Tryd.isAgg3
  z3 := Tryd.sizeOf3
  v3 := Tryd.zeroValue3
  t4 := Tryd.underlying4
  a4 := Tryd.isAgg4
  z4 := Tryd.sizeOf4
  v4 := Tryd.zeroValue4
  t9 := Tryd.underlying9
  a9 := Tryd.isAgg9
  z9 := Tryd.sizeOf9
  v9 := Tryd.zeroValue9
  t37 := Tryd.underlying22
  a37 := Tryd.isAgg22
  z37 := Tryd.sizeOf22
  v37 := Tryd.zeroValue22
  t127 := Tryd.underlying150
  a127 := Tryd.isAgg150
  z127 := Tryd.sizeOf150
  v127 := Tryd.zeroValue150
  t5 := Tryd.underlying5
  a5 := Tryd.isAgg5
  z5 := Tryd.sizeOf5
  v5 := Tryd.zeroValue5
  i0 := by kernel_rfl
  i3 := by kernel_rfl
  i4 := by kernel_rfl
  i5 := by kernel_rfl
  i9 := by kernel_rfl
  i37 := by kernel_rfl
  i127 := by kernel_rfl }
open Go.RowKit in
theorem Tryd.stringslite_Clone (s : ByteArray) (w : World) (hlim : s.size ≤ 281474976710656) :
    Calls Tryd.prog 105 #[.string s] w fun e w' => e = .returned (.string s) ∧ Below w.heap.size w w' := Any.stringslite_Clone Tryd.laysM316 s w hlim
def Tryd.laysC172_ren : Go.Shelf.Ren := ⟨fun | 172 => 106 | 244 => 112 | 245 => 113 | 247 => 116 | 279 => 117 | 280 => 118 | 281 => 119 | 282 => 120 | 287 => 121 | 316 => 105 | 171 => 85 | 205 => 122 | 321 => 123 | 322 => 124 | 243 => 92 | 246 => 97 | 283 => 101 | 284 => 102 | 285 => 103 | 286 => 104 | 129 => 108 | 317 => 107 | 318 => 109 | 319 => 110 | 320 => 111 | 337 => 114 | 338 => 115 | n => n, fun | 9 => 9 | 3 => 3 | 75 => 141 | 76 => 142 | 4 => 4 | 5 => 5 | 167 => 153 | 37 => 22 | 0 => 0 | 85 => 154 | 2 => 2 | 168 => 156 | 53 => 135 | 175 => 161 | 46 => 122 | 210 => 164 | 127 => 150 | 145 => 169 | 143 => 167 | 21 => 21 | 171 => 134 | 173 => 138 | 212 => 146 | 51 => 147 | 20 => 20 | 213 => 148 | 232 => 159 | 233 => 160 | 80 => 170 | n => n, fun | 15 => 3 | 16 => 4 | 17 => 0 | 18 => 1 | 19 => 2 | n => n⟩
theorem Tryd.laysC172 : Go.Proofs.LaysC.n172 Tryd.prog Tryd.laysC172_ren := {
  mixed := by kernel_rfl
  f129 := Tryd.func108.trans (congrArg some (by kernel_rfl))
  f171 := Tryd.func85.trans (congrArg some (by kernel_rfl))
  f172 := Tryd.func106.trans (congrArg some (by kernel_rfl))
  f205 := Tryd.func122.trans (congrArg some (by kernel_rfl))
  f243 := Tryd.func92.trans (congrArg some (by kernel_rfl))
  f244 := Tryd.func112.trans (congrArg some (by kernel_rfl))
  f245 := Tryd.func113.trans (congrArg some (by kernel_rfl))
  f246 := Tryd.func97.trans (congrArg some (by kernel_rfl))
  f247 := Tryd.func116.trans (congrArg some (by kernel_rfl))
  f279 := Tryd.func117.trans (congrArg some (by kernel_rfl))
  f280 := Tryd.func118.trans (congrArg some (by kernel_rfl))
  f281 := Tryd.func119.trans (congrArg some (by kernel_rfl))
  f282 := Tryd.func120.trans (congrArg some (by kernel_rfl))
  f283 := Tryd.func101.trans (congrArg some (by kernel_rfl))
  f284 := Tryd.func102.trans (congrArg some (by kernel_rfl))
  f285 := Tryd.func103.trans (congrArg some (by kernel_rfl))
  f286 := Tryd.func104.trans (congrArg some (by kernel_rfl))
  f287 := Tryd.func121.trans (congrArg some (by kernel_rfl))
  f316 := Tryd.func105.trans (congrArg some (by kernel_rfl))
  f317 := Tryd.func107.trans (congrArg some (by kernel_rfl))
  f318 := Tryd.func109.trans (congrArg some (by kernel_rfl))
  f319 := Tryd.func110.trans (congrArg some (by kernel_rfl))
  f320 := Tryd.func111.trans (congrArg some (by kernel_rfl))
  f321 := Tryd.func123.trans (congrArg some (by kernel_rfl))
  f322 := Tryd.func124.trans (congrArg some (by kernel_rfl))
  f337 := Tryd.func114.trans (congrArg some (by kernel_rfl))
  f338 := Tryd.func115.trans (congrArg some (by kernel_rfl))
  t0 := Tryd.underlying0
  a0 := Tryd.isAgg0
  z0 := Tryd.sizeOf0
  v0 := Tryd.zeroValue0
  t2 := Tryd.underlying2
  a2 := Tryd.isAgg2
  z2 := Tryd.sizeOf2
  v2 := Tryd.zeroValue2
  t3 := Tryd.underlying3
  a3 := Tryd.isAgg3
  z3 := Tryd.sizeOf3
  v3 := Tryd.zeroValue3
  t4 := Tryd.underlying4
  a4 := Tryd.isAgg4
  z4 := Tryd.sizeOf4
  v4 := Tryd.zeroValue4
  t5 := Tryd.underlying5
  a5 := Tryd.isAgg5
  z5 := Tryd.sizeOf5
  v5 := Tryd.zeroValue5
  t9 := Tryd.underlying9
  a9 := Tryd.isAgg9
  z9 := Tryd.sizeOf9
  v9 := Tryd.zeroValue9
  t20 := Tryd.underlying20
  a20 := Tryd.isAgg20
  z20 := Tryd.sizeOf20
  v20 := Tryd.zeroValue20
  t21 := Tryd.underlying21
  a21 := Tryd.isAgg21
  z21 := Tryd.sizeOf21
  v21 := Tryd.zeroValue21
  t37 := Tryd.underlying22
  a37 := Tryd.isAgg22
  z37 := Tryd.sizeOf22
  v37 := Tryd.zeroValue22
  t46 := Tryd.underlying122
  a46 := Tryd.isAgg122
  z46 := Tryd.sizeOf122
  v46 := Tryd.zeroValue122
  t51 := Tryd.underlying147
  a51 := Tryd.isAgg147
  z51 := Tryd.sizeOf147
  v51 := Tryd.zeroValue147
  t53 := Tryd.underlying135
  a53 := Tryd.isAgg135
  z53 := Tryd.sizeOf135
  v53 := Tryd.zeroValue135
  t75 := Tryd.underlying141
  a75 := Tryd.isAgg141
  z75 := Tryd.sizeOf141
  v75 := Tryd.zeroValue141
  t76 := Tryd.underlying142
  a76 := Tryd.isAgg142
  z76 := Tryd.sizeOf142
  v76 := Tryd.zeroValue142
  t85 := Tryd.underlying154
  a85 := Tryd.isAgg154
  z85 := Tryd.sizeOf154
  v85 := Tryd.zeroValue154
  t127 := Tryd.underlying150
  a127 := Tryd.isAgg150
  z127 := Tryd.sizeOf150
  v127 := Tryd.zeroValue150
  t143 := Tryd.underlying167
  a143 := Tryd.isAgg167
  z143 := Tryd.sizeOf167
  v143 := Tryd.zeroValue167
  t145 := Tryd.underlying169
  a145 := Tryd.isAgg169
  z145 := Tryd.sizeOf169
  v145 := Tryd.zeroValue169
  t167 := Tryd.underlying153
  a167 := Tryd.isAgg153
  z167 := Tryd.sizeOf153
  v167 := Tryd.zeroValue153
  t168 := Tryd.underlying156
  a168 := Tryd.isAgg156
  z168 := Tryd.sizeOf156
  v168 := Tryd.zeroValue156
  t171 := Tryd.underlying134
  a171 := Tryd.isAgg134
  z171 := Tryd.sizeOf134
  v171 := Tryd.zeroValue134
  t173 := Tryd.underlying138
  a173 := Tryd.isAgg138
  z173 := Tryd.sizeOf138
  v173 := Tryd.zeroValue138
  t175 := Tryd.underlying161
  a175 := Tryd.isAgg161
  z175 := Tryd.sizeOf161
  v175 := Tryd.zeroValue161
  t210 := Tryd.underlying164
  a210 := Tryd.isAgg164
  z210 := Tryd.sizeOf164
  v210 := Tryd.zeroValue164
  t212 := Tryd.underlying146
  a212 := Tryd.isAgg146
  z212 := Tryd.sizeOf146
  v212 := Tryd.zeroValue146
  t213 := Tryd.underlying148
  a213 := Tryd.isAgg148
  z213 := Tryd.sizeOf148
  t232 := Tryd.underlying159
  a232 := Tryd.isAgg159
  z232 := Tryd.sizeOf159
  v232 := Tryd.zeroValue159
  t233 := Tryd.underlying160
  a233 := Tryd.isAgg160
  z233 := Tryd.sizeOf160
  v233 := Tryd.zeroValue160
  g15 := by kernel_rfl
  g16 := by kernel_rfl
  g17 := by kernel_rfl
  g18 := by kernel_rfl
  g19 := by kernel_rfl
  t80 := Tryd.underlying170
  a80 := Tryd.isAgg170
  z80 := Tryd.sizeOf170
  v80 := Tryd.zeroValue170
  i0 := by kernel_rfl
  i2 := by kernel_rfl
  i3 := by kernel_rfl
  i4 := by kernel_rfl
  i5 := by kernel_rfl
  i9 := by kernel_rfl
  i20 := by kernel_rfl
  i21 := by kernel_rfl
  i37 := by kernel_rfl
  i46 := by kernel_rfl
  i51 := by kernel_rfl
  i53 := by kernel_rfl
  i75 := by kernel_rfl
  i76 := by kernel_rfl
  i80 := by kernel_rfl
  i85 := by kernel_rfl
  i127 := by kernel_rfl
  i143 := by kernel_rfl
  i145 := by kernel_rfl
  i167 := by kernel_rfl
  i168 := by kernel_rfl
  i171 := by kernel_rfl
  i173 := by kernel_rfl
  i175 := by kernel_rfl
  i210 := by kernel_rfl
  i212 := by kernel_rfl
  i232 := by kernel_rfl
  i233 := by kernel_rfl
  m15 := by kernel_rfl
  m16 := by kernel_rfl
  m17 := by kernel_rfl
  m18 := by kernel_rfl
  m19 := by kernel_rfl
  c0 := by kernel_rfl
  c2 := by kernel_rfl
  c3 := by kernel_rfl
  c4 := by kernel_rfl
  c5 := by kernel_rfl
  c9 := by kernel_rfl
  c20 := by kernel_rfl
  c21 := by kernel_rfl
  c37 := by kernel_rfl
  c46 := by kernel_rfl
  c51 := by kernel_rfl
  c53 := by kernel_rfl
  c75 := by kernel_rfl
  c76 := by kernel_rfl
  c80 := by kernel_rfl
  c85 := by kernel_rfl
  c127 := by kernel_rfl
  c143 := by kernel_rfl
  c145 := by kernel_rfl
  c167 := by kernel_rfl
  c168 := by kernel_rfl
  c171 := by kernel_rfl
  c173 := by kernel_rfl
  c175 := by kernel_rfl
  c210 := by kernel_rfl
  c212 := by kernel_rfl
  c213 := by kernel_rfl
  c232 := by kernel_rfl
  c233 := by kernel_rfl }
open Go.RowKit in
theorem Tryd.strconv_Atoi_ok (s : ByteArray) (hmax : s.size ≤ 9223372036854775806) (v : Int) (h : Lib.atoiAll s.data.toList = .ok v) (w : World) :
    Calls Tryd.prog 106 #[.string s] w fun e w' => e = .returned (.tuple #[.int .i64 v, .nilIface]) ∧ (w' = w ∨ ∃ t, w' = Lib.bytesWorld w 5 t) := Any.strconv_Atoi_ok Tryd.laysC172 s hmax v h w
open Go.RowKit in
theorem Tryd.strconv_Atoi_syntax_var (s : ByteArray) (hlim : s.size ≤ 281474976710656) (h : Lib.atoiAll s.data.toList = .«syntax») (tp : TypeId) (p : Value) (w : World) (hvar : w.var? Tryd.prog "strconv.ErrSyntax" = some #[.iface tp p]) :
    Calls Tryd.prog 106 #[.string s] w fun e w' => ∃ N, e = .returned (.tuple #[.int .i64 0, .iface 156 (.pointer (some ⟨N, 0, none⟩))]) ∧ w.heap.size ≤ N ∧ w'.heap[N]? = some (.cells #[.string ⟨#[65, 116, 111, 105]⟩, .string s, .iface tp p] 164 (0, 0)) ∧ Below w.heap.size w w' := Any.strconv_Atoi_syntax_var Tryd.laysC172 s hlim h tp p w hvar
open Go.RowKit in
theorem Tryd.strconv_Atoi_range_var (s : ByteArray) (hlim : s.size ≤ 281474976710656) (h : Lib.atoiAll s.data.toList = .range) (tp : TypeId) (p : Value) (w : World) (hvar : w.var? Tryd.prog "strconv.ErrRange" = some #[.iface tp p]) :
    Calls Tryd.prog 106 #[.string s] w fun e w' => ∃ N, e = .returned (.tuple #[.int .i64 (Lib.atoiSat s.data.toList), .iface 156 (.pointer (some ⟨N, 0, none⟩))]) ∧ w.heap.size ≤ N ∧ w'.heap[N]? = some (.cells #[.string ⟨#[65, 116, 111, 105]⟩, .string s, .iface tp p] 164 (0, 0)) ∧ Below w.heap.size w w' := Any.strconv_Atoi_range_var Tryd.laysC172 s hlim h tp p w hvar
end Go.Proofs

/-
  The contracts of impl.isWordRune, wordNumber and wordNode. The library's table of powers of ten and its two errors read as they are laid.
-/
namespace Go.Proofs.YtmgjefkelohocaaDoor
open Go.RowKit

/-- The library's two errors of numbers are there, whatever is done from B on. -/
def Errs (B : Nat) (w : World) : Prop := ∀ w', Below B w w' → (∃ t p, w'.var? Tryd.prog "strconv.ErrSyntax" = some #[.iface t p]) ∧ (∃ t p, w'.var? Tryd.prog "strconv.ErrRange" = some #[.iface t p])
theorem Errs.on {B : Nat} {w w' : World} (h : Errs B w) (hb : Below B w w') : Errs B w' := fun w2 h2 => h w2 (hb.trans h2)

set_option maxHeartbeats 400000 in
theorem iswordrune_any (c : Int) (w : World) (hc : 0 ≤ c) : Calls Tryd.prog 87 #[.int .i32 c] w fun e w' => e = .returned (.bool (decide (c < 128) && wb c)) ∧ w' = w := by
  go_enter Tryd.func87, Tryd.ntmps87
  by_cases h : c < 128
  · have hcv : c % 256 = c := by omega
    by_cases h35 : c = 35
    · subst h35
      go_wp2
      go_ret
      exact ⟨rfl, rfl⟩
    · by_cases hd : 48 ≤ c ∧ c ≤ 57
      · have HW : Hid ((decide (c < 128) && wb c) = true) := by unfold Hid wb digB; simp [h, hd]
        obtain ⟨hd1, hd2⟩ := hd
        go_wp2_with fail
        go_ret
        exact ⟨by rw [HW.out]; rfl, rfl⟩
      · have HW : Hid ((decide (c < 128) && wb c) = (c == 35 || nb c)) := by unfold Hid wb digB; rw [Bool.eq_iff_iff]; simp [h, h35]; omega
        by_cases h48 : 48 ≤ c
        · have h57 : ¬ c ≤ 57 := by omega
          clear hd
          go_wp2_with fail
          refine (inb_any _ _).mono ?_
          rintro e w1 ⟨rfl, rfl⟩
          go_wp2_with fail
          go_ret
          exact ⟨by rw [HW.out]; rfl, rfl⟩
        · clear hd
          go_wp2_with fail
          refine (inb_any _ _).mono ?_
          rintro e w1 ⟨rfl, rfl⟩
          go_wp2_with fail
          go_ret
          exact ⟨by rw [HW.out]; rfl, rfl⟩
  · have HW : Hid ((decide (c < 128) && wb c) = false) := by unfold Hid; simp [h]
    go_wp2_with fail
    go_ret
    exact ⟨by rw [HW.out]; rfl, rfl⟩

set_option maxRecDepth 100000 in
set_option maxHeartbeats 1600000 in
theorem wordnumber_any (s : ByteArray) (B : Nat) (w : World) (hB : B ≤ w.heap.size) (hT : Pow B w) (hE : Errs B w) (hs : s.size ≤ 281474976710656) :
    Calls Tryd.prog 99 #[.string s] w fun e w' => ∃ x : Int, e = .returned (.tuple #[.int .i64 x, .bool (numB s.data.toList)]) ∧ (numB s.data.toList = true → x = tval s.data.toList) ∧ Below w.heap.size w w' := by
  obtain ⟨⟨t1, p1, hv1⟩, ⟨t2, p2, hv2⟩⟩ := hE w (Below.refl _ _)
  go_enter Tryd.func99, Tryd.ntmps99
  cases ha : Lib.atoiAll s.data.toList with
  | «syntax» =>
    have HN : Hid (numB s.data.toList = false) := atoi_bad (fun x => by rw [ha]; simp)
    go_wp2_with fail
    refine (Tryd.strconv_Atoi_syntax_var s hs ha t1 p1 _ hv1).mono ?_
    rintro e w1 ⟨N, rfl, _, _, hb1⟩
    clear hv1 hv2
    go_wp2_with fail
    go_ret2
    exact ⟨0, by rw [HN.out]; rfl, fun h => by (rw [HN.out] at h; cases h), hb1⟩
  | range =>
    have HN : Hid (numB s.data.toList = false) := atoi_bad (fun x => by rw [ha]; simp)
    go_wp2_with fail
    refine (Tryd.strconv_Atoi_range_var s hs ha t2 p2 _ hv2).mono ?_
    rintro e w1 ⟨N, rfl, _, _, hb1⟩
    clear hv1 hv2
    generalize Lib.atoiSat s.data.toList = y
    go_wp2_with fail
    go_ret2
    exact ⟨0, by rw [HN.out]; rfl, fun h => by (rw [HN.out] at h; cases h), hb1⟩
  | ok x =>
    have HN : Hid _ := (atoi_ok ha).1
    have HX : Hid _ := (atoi_ok ha).2
    go_wp2_with fail
    refine (Tryd.strconv_Atoi_ok s (by omega) x ha _).mono ?_
    rintro e w1 ⟨rfl, hw1⟩
    have hb1 : Below w.heap.size w w1 := by
      rcases hw1 with rfl | ⟨t, rfl⟩
      · exact Below.refl _ _
      · exact Lib.bytesWorld_below _ _ _
    clear hv1 hv2 hw1
    by_cases h1 : -1000000000 ≤ x
    · by_cases h2 : x ≤ 1000000000
      · have HN2 : Hid (numB s.data.toList = (Lib.itoa x == s.data.toList)) := by unfold Hid; rw [HN.out]; simp [h1, h2]
        have HE1 : Hid ((Lib.itoa x == s.toList) = (Lib.itoa x == s.data.toList)) := by unfold Hid; rw [ByteArray.toList_eq]
        clear HN
        have h1' : ¬ x < -1000000000 := by omega
        have h2' : ¬ 1000000000 < x := by omega
        go_wp2_with fail
        refine (Tryd.strconv_Itoa x (by omega) (by omega) _ (hT.on (hb1.mono hB)).here).mono ?_
        rintro e w2 ⟨rfl, q, os, hw2⟩
        have hb2 : Below w1.heap.size w1 w2 := by rw [hw2]; exact Lib.below_grow _ _ (Nat.le_refl _) q os
        have hB2 := hb1.trans (hb2.mono hb1.size)
        clear hw2 hb2 hb1
        go_wp2_with fail
        all_goals
          go_ret2
          exact ⟨x, by rw [HN2.out, ← HE1.out]; rfl, HX.out, hB2⟩
      · have HN2 : Hid (numB s.data.toList = false) := by unfold Hid; rw [HN.out]; simp [h2]
        clear HN
        have h1' : ¬ x < -1000000000 := by omega
        have h2' : 1000000000 < x := by omega
        go_wp2_with fail
        go_ret2
        exact ⟨0, by rw [HN2.out]; rfl, fun h => by (rw [HN2.out] at h; cases h), hb1⟩
    · have HN2 : Hid (numB s.data.toList = false) := by unfold Hid; rw [HN.out]; simp [h1]
      clear HN
      have h1' : x < -1000000000 := by omega
      go_wp2_with fail
      go_ret2
      exact ⟨0, by rw [HN2.out]; rfl, fun h => by (rw [HN2.out] at h; cases h), hb1⟩

theorem num_not_name {s : ByteArray} (h : numB s.data.toList = true) : nameB s = false := by
  obtain ⟨h1, h2, _⟩ := numB_body h
  have hbl : body s.data.toList = s.data.toList ∨ body s.data.toList = s.data.toList.drop 1 := by
    by_cases hq : 1 < s.data.toList.length ∧ s.data.toList[0]? = some 45
    · exact .inr (body_sign hq.1 hq.2)
    · exact .inl (body_plain hq)
  have hmem : ∀ c ∈ body s.data.toList, c ∈ s.data.toList := by
    intro c hc
    rcases hbl with e | e
    · rw [e] at hc; exact hc
    · rw [e] at hc; exact List.mem_of_mem_drop hc
  obtain ⟨c, hc⟩ := List.exists_mem_of_ne_nil _ h2
  have hd := h1 c hc
  obtain ⟨k, hk, e⟩ := List.mem_iff_getElem.1 (hmem c hc)
  have hk' : k < s.size := by rw [Array.length_toList] at hk; exact hk
  refine nameB_not k hk' ?_
  have hg := get_list s k hk'
  rw [List.getElem?_eq_getElem hk, e] at hg
  injection hg with hg
  rw [← hg]
  simp only [isDig, Bool.and_eq_true, decide_eq_true_eq] at hd
  rw [Bool.eq_false_iff]
  intro hn
  simp [nb] at hn
  omega

set_option maxHeartbeats 400000 in
theorem sclone_any (s : ByteArray) (w : World) (hs : s.size ≤ 281474976710656) : Calls Tryd.prog 98 #[.string s] w fun e w' => e = .returned (.string s) ∧ Below w.heap.size w w' := by
  go_enter Tryd.func98, Tryd.ntmps98
  go_wp2_with fail
  refine (Tryd.stringslite_Clone s _ hs).mono ?_
  rintro e w1 ⟨rfl, hb1⟩
  go_wp2_with fail
  go_ret
  exact ⟨rfl, hb1⟩

set_option maxRecDepth 100000 in
set_option maxHeartbeats 1600000 in
theorem wordnode_any (s : ByteArray) (B : Nat) (w : World) (hB : B ≤ w.heap.size) (hP : Pow B w) (hE : Errs B w) (hs : s.size ≤ maxLen) (hs2 : s.size ≤ 281474976710656) :
    Calls Tryd.prog 94 #[.string s] w fun e w' => ∃ y : Nd, e = .returned (.tuple #[ndV y, .bool (wordOk s)]) ∧ (wordOk s = true → y = wordNd s) ∧ Below w.heap.size w w' := by
  have HT : Hid ((s.toList == ([35, 116] : List UInt8)) = isT s) := by unfold Hid isT; rw [ByteArray.toList_eq]
  have HF : Hid ((s.toList == ([35, 102] : List UInt8)) = isF s) := by unfold Hid isF; rw [ByteArray.toList_eq]
  have hB0 : Below w.heap.size w (w.alloc (ndO zeroN)) := (Below.refl _ _).alloc (Nat.le_refl _) _
  have hb0 : (w.alloc (ndO zeroN)).heap[w.heap.size]? = some (ndO zeroN) := heap_alloc_new _ _
  go_enter Tryd.func94, Tryd.ntmps94
  cases h1 : (s.toList == ([35, 116] : List UInt8)) with
  | true =>
    have HW : Hid (wordNd s = ⟨2, 1, ByteArray.empty, 0, 0⟩ ∧ wordOk s = true) := by
      have h2 := HT.out.symm.trans h1
      unfold Hid wordNd wordOk
      rw [h2]
      exact ⟨rfl, rfl⟩
    clear HT HF
    go_wp2_with fail
    exact bodyPost_ret (results_row_tmp rfl _ _ w.heap.size 55 _ (0, 0) _ rfl (heap_alloc_new _ _) Tryd.underlying55 rfl Tryd.sizeN) rfl ⟨_, by rw [HW.out.2]; rfl, fun _ => HW.out.1.symm, (Below.refl _ _).alloc (Nat.le_refl _) _⟩
  | false =>
    have HT2 : Hid (isT s = false) := HT.out.symm.trans h1
    clear HT
    cases h2 : (s.toList == ([35, 102] : List UInt8)) with
    | true =>
      have HW : Hid (wordNd s = ⟨2, 0, ByteArray.empty, 0, 0⟩ ∧ wordOk s = true) := by
        have h2 := HF.out.symm.trans h2
        unfold Hid wordNd wordOk
        rw [HT2.out, h2]
        exact ⟨rfl, rfl⟩
      clear HF
      go_wp2_with fail
      exact bodyPost_ret (results_row_tmp rfl _ _ w.heap.size 55 _ (0, 0) _ rfl (heap_alloc_new _ _) Tryd.underlying55 rfl Tryd.sizeN) rfl ⟨_, by rw [HW.out.2]; rfl, fun _ => HW.out.1.symm, (Below.refl _ _).alloc (Nat.le_refl _) _⟩
    | false =>
      have HF2 : Hid (isF s = false) := HF.out.symm.trans h2
      clear HF
      go_wp2_with fail
      refine (iname_any s _ hs).mono ?_
      rintro e w1 ⟨rfl, rfl⟩
      cases hn : nameB s with
      | true =>
        have HW : Hid (wordNd s = ⟨4, 0, s, 0, 0⟩ ∧ wordOk s = true) := by
          have hq : numB s.data.toList = false := by
            rw [Bool.eq_false_iff]
            intro h
            rw [num_not_name h] at hn
            cases hn
          unfold Hid wordNd wordOk
          rw [HT2.out, HF2.out, hn, hq]
          exact ⟨rfl, rfl⟩
        go_wp2_with fail
        refine (sclone_any s _ hs2).mono ?_
        rintro e w2 ⟨rfl, hb2⟩
        have hq2 := (hb2.block _ (by simp)).trans hb0
        have hB2 := hB0.trans (hb2.mono hB0.size)
        clear hb0 hB0 hb2
        go_wp2_with (refine wpList_store_nd rfl _ _ rfl w.heap.size (⟨4, 0, s, 0, 0⟩) rfl rfl zeroN hq2 ?_)
        intro w5 h5 b5 hs5
        go_wp2_with fail
        exact bodyPost_ret (results_row_tmp rfl _ _ w.heap.size 55 _ (0, 0) _ rfl h5 Tryd.underlying55 rfl Tryd.sizeN) rfl ⟨_, by rw [HW.out.2]; rfl, fun _ => HW.out.1.symm, hB2.trans b5⟩
      | false =>
        have HW : Hid (wordOk s = numB s.data.toList ∧ (numB s.data.toList = true → wordNd s = ⟨3, tval s.data.toList, ByteArray.empty, 0, 0⟩)) := by
          unfold Hid wordNd wordOk
          rw [HT2.out, HF2.out, hn]
          refine ⟨by simp, fun h => ?_⟩
          rw [h]
          rfl
        go_wp2_with fail
        refine (wordnumber_any s B _ (Nat.le_trans hB hB0.size) (hP.on (hB0.mono hB)) (hE.on (hB0.mono hB)) hs2).mono ?_
        rintro e w2 ⟨x, rfl, hx, hb2⟩
        have hq2 := (hb2.block _ (by simp)).trans hb0
        have hB2 := hB0.trans (hb2.mono hB0.size)
        clear hb0 hB0 hb2
        have HX : Hid _ := hx
        clear hx
        go_wp2_with (refine wpList_store_nd rfl _ _ rfl w.heap.size (⟨3, x, ByteArray.empty, 0, 0⟩) rfl rfl zeroN hq2 ?_)
        intro w5 h5 b5 hs5
        go_wp2_with fail
        exact bodyPost_ret (results_row_tmp rfl _ _ w.heap.size 55 _ (0, 0) _ rfl h5 Tryd.underlying55 rfl Tryd.sizeN) rfl ⟨⟨3, x, ByteArray.empty, 0, 0⟩, by rw [HW.out.1]; rfl, (fun h => by rw [HW.out.1] at h; rw [HW.out.2 h, HX.out h]), hB2.trans b5⟩
end Go.Proofs.YtmgjefkelohocaaDoor
