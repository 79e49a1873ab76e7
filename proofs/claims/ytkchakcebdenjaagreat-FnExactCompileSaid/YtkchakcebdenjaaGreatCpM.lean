/-
  Texts that stood by themselves, laid into one.
-/
import Derived.Test.YtkchakcebdenjaaGreatCodeM
import Derived.Test.YtkchakcebdenjaaGreatDfM
/-
  The place of the first definition of a name, and the contracts of spec.DefOf and impl.DefOf. No condition.
-/
namespace Go.Proofs.YtkchakcebdenjaaGreat
open Go.RowKit
def dfIdx : List Df → ByteArray → Nat → Int
  | [], _, _ => -1
  | d :: ds, s, i => if d.s.toList == s.toList then i else dfIdx ds s (i + 1)
theorem dfIdx_hit (ds : List Df) (s : ByteArray) (i : Nat) (d : Df) (h : ds[i]? = some d) (e : (d.s.toList == s.toList) = true) : dfIdx (ds.drop i) s i = i := by
  obtain ⟨hl, he⟩ := List.getElem?_eq_some_iff.1 h
  rw [List.drop_eq_getElem_cons hl, he, dfIdx, if_pos e]
theorem dfIdx_miss (ds : List Df) (s : ByteArray) (i : Nat) (d : Df) (h : ds[i]? = some d) (e : (d.s.toList == s.toList) = false) : dfIdx (ds.drop i) s i = dfIdx (ds.drop (i + 1)) s (i + 1) := by
  obtain ⟨hl, he⟩ := List.getElem?_eq_some_iff.1 h
  rw [List.drop_eq_getElem_cons hl, he, dfIdx, if_neg (by rw [e]; simp)]
theorem dfIdx_end (ds : List Df) (s : ByteArray) (i : Nat) (h : ds.length ≤ i) : dfIdx (ds.drop i) s i = -1 := by
  rw [List.drop_eq_nil_of_le h, dfIdx]
set_option maxHeartbeats 800000 in
theorem sdefof_any (a1 a2 : Option Addr) (n1 c1 n2 c2 : Nat) (v3 : Value) (ds : List Df) (s : ByteArray) (w : World) (R : DfRow w v3 ds) :
    Calls Tryz.prog 64 #[.agg #[.slice a1 n1 c1, .slice a2 n2 c2, v3], .string s] w fun e w' => e = .returned (.int .i64 (dfIdx ds s 0)) ∧ Below w.heap.size w w' := by
  obtain ⟨ao, cap, rfl, hcap, hm, hz, hcell⟩ := R
  go_enter Tryz.func64, Tryz.ntmps64
  have hB0 : Below w.heap.size w (w.alloc (Obj.cells #[.slice a1 n1 c1, .slice a2 n2 c2, .slice ao ds.length cap] 33)) := (Below.refl _ _).alloc (Nat.le_refl _) _
  have hx0 := heap_alloc_new w (Obj.cells #[.slice a1 n1 c1, .slice a2 n2 c2, .slice ao ds.length cap] 33)
  go_wp2_with fail
  generalize w.alloc (Obj.cells #[.slice a1 n1 c1, .slice a2 n2 c2, .slice ao ds.length cap] 33) = w0 at *
  have hc0 : w0.cell? ⟨w.heap.size, 0 + 2, none⟩ = some (.slice ao ds.length cap) := by rw [cell_of_row w0 _ 2 _ _ _ hx0]; rfl
  have hs0 := (Array.getElem?_eq_some_iff.1 hx0).1
  go_loopw [5] (fun i wr => ∃ k : Nat, k ≤ ds.length ∧ i = .int .i64 k ∧ Hid (dfIdx ds s 0 = dfIdx (ds.drop k) s k) ∧ Below w0.heap.size w0 wr) (fun i _ => ds.length - (intOf i).toNat)
  case atStart => exact ⟨0, by omega, rfl, rfl, Below.refl _ _⟩
  case round =>
    obtain ⟨k, hk, rfl, HK, hb⟩ := hrel
    have hB := hB0.trans (hb.mono hB0.size)
    have hcr := (hb.cell (p := ⟨w.heap.size, 0 + 2, none⟩) hs0).trans hc0
    by_cases hlt : k < ds.length
    · obtain ⟨g, o, rfl, hg, hcell⟩ := hcell (by intro e; subst e; simp at hlt)
      obtain ⟨x, hx⟩ : ∃ x, ds[k]? = some x := ⟨ds[k], by simp [hlt]⟩
      obtain ⟨d0, d1, d2⟩ := (hcell k x hx).below hB hg
      clear hcell
      cases e : (x.s.toList == s.toList) with
      | true =>
        have HR : Hid (dfIdx ds s 0 = k) := by unfold Hid; rw [HK.out, dfIdx_hit ds s k x hx e]
        clear hx HK
        go_wp2
        go_ret
        exact ⟨by rw [HR.out]; rfl, hB⟩
      | false =>
        have HR : Hid (dfIdx ds s 0 = dfIdx (ds.drop (k + 1)) s (k + 1)) := by unfold Hid; rw [HK.out, dfIdx_miss ds s k x hx e]
        clear hx HK
        go_wp2
        go_roundw
        case rel => exact ⟨k + 1, by omega, by go_num, HR, hb⟩
        case measure => simp [intOf]; omega
    · have HR : Hid (dfIdx ds s 0 = -1) := by unfold Hid; rw [HK.out, dfIdx_end ds s k (by omega)]
      clear HK hcell
      go_wp2
      go_ret
      exact ⟨by rw [HR.out]; rfl, hB⟩
set_option maxHeartbeats 400000 in
theorem defofc_any (d : Df) (s : ByteArray) (q : Nat) (w : World) (hq : w.cell? ⟨q, 0, none⟩ = some (.string s)) (hl : q < w.heap.size) :
    Calls Tryz.prog 52 #[.agg #[.string d.s, .int .i64 d.p, .int .i64 d.m], .pointer (some ⟨q, 0, none⟩)] w fun e w' => e = .returned (.bool (d.s.toList == s.toList)) ∧ Below w.heap.size w w' := by
  have hne : ¬ q = w.heap.size := by omega
  go_enter Tryz.func52, Tryz.ntmps52
  go_wp2
  go_ret
  exact ⟨rfl, (Below.refl _ _).alloc (Nat.le_refl _) _⟩
set_option maxHeartbeats 800000 in
theorem indexfunc_any (v3 : Value) (ds : List Df) (s : ByteArray) (q : Nat) (w : World) (R : DfRow w v3 ds) (hq : w.cell? ⟨q, 0, none⟩ = some (.string s)) (hl : q < w.heap.size) :
    Calls Tryz.prog 51 #[v3, .func (.func 52) #[] #[.pointer (some ⟨q, 0, none⟩)]] w fun e w' => e = .returned (.int .i64 (dfIdx ds s 0)) ∧ Below w.heap.size w w' := by
  obtain ⟨ao, cap, rfl, hcap, hm, hz, hcell⟩ := R
  go_enter Tryz.func51, Tryz.ntmps51
  go_wp2_with fail
  go_loopw [8] (fun i wr => ∃ k : Nat, k ≤ ds.length ∧ i = .int .i64 k ∧ Hid (dfIdx ds s 0 = dfIdx (ds.drop k) s k) ∧ Below w.heap.size w wr) (fun i _ => ds.length - (intOf i).toNat)
  case atStart => exact ⟨0, by omega, rfl, rfl, Below.refl _ _⟩
  case round =>
    obtain ⟨k, hk, rfl, HK, hb⟩ := hrel
    have hcr := (hb.cell (p := ⟨q, 0, none⟩) hl).trans hq
    have hlr := Nat.lt_of_lt_of_le hl hb.size
    by_cases hlt : k < ds.length
    · obtain ⟨g, o, rfl, hg, hcell⟩ := hcell (by intro e; subst e; simp at hlt)
      obtain ⟨x, hx⟩ : ∃ x, ds[k]? = some x := ⟨ds[k], by simp [hlt]⟩
      obtain ⟨d0, d1, d2⟩ := (hcell k x hx).below hb hg
      clear hcell
      cases e : (x.s.toList == s.toList) with
      | true =>
        have HR : Hid (dfIdx ds s 0 = k) := by unfold Hid; rw [HK.out, dfIdx_hit ds s k x hx e]
        clear hx HK
        go_wp2_with fail
        refine (defofc_any x s q _ hcr hlr).mono ?_
        rintro e' w2 ⟨rfl, hb2⟩
        rw [e]
        have hB2 := hb.trans (hb2.mono hb.size)
        clear d0 d1 d2 hcr hb2
        go_wp2
        go_ret
        exact ⟨by rw [HR.out]; rfl, hB2⟩
      | false =>
        have HR : Hid (dfIdx ds s 0 = dfIdx (ds.drop (k + 1)) s (k + 1)) := by unfold Hid; rw [HK.out, dfIdx_miss ds s k x hx e]
        clear hx HK
        go_wp2_with fail
        refine (defofc_any x s q _ hcr hlr).mono ?_
        rintro e' w2 ⟨rfl, hb2⟩
        rw [e]
        have hB2 := hb.trans (hb2.mono hb.size)
        clear d0 d1 d2 hcr hb2
        go_wp2
        go_roundw
        case rel => exact ⟨k + 1, by omega, by go_num, HR, hB2⟩
        case measure => simp [intOf]; omega
    · have HR : Hid (dfIdx ds s 0 = -1) := by unfold Hid; rw [HK.out, dfIdx_end ds s k (by omega)]
      clear HK hcell
      go_wp2
      go_ret
      exact ⟨by rw [HR.out]; rfl, hb⟩
set_option maxHeartbeats 800000 in
theorem idefof_any (a1 a2 : Option Addr) (n1 c1 n2 c2 : Nat) (v3 : Value) (ds : List Df) (s : ByteArray) (w : World) (R : DfRow w v3 ds) :
    Calls Tryz.prog 19 #[.agg #[.slice a1 n1 c1, .slice a2 n2 c2, v3], .string s] w fun e w' => e = .returned (.int .i64 (dfIdx ds s 0)) ∧ Below w.heap.size w w' := by
  have hmf : ∀ (fn : Fn) (first cap : Array Value) (w : World), (Instr.makeFunc fn first cap).run Tryz.prog w = .ok (.func fn first cap) w := fun _ _ _ _ => rfl
  obtain ⟨a3, c3, rfl⟩ := R.small
  go_enter Tryz.func19, Tryz.ntmps19
  go_wp2_with fail
  have hB0 : Below w.heap.size w ((w.alloc (Obj.cells #[.slice a1 n1 c1, .slice a2 n2 c2, .slice a3 ds.length c3] 33)).alloc (Obj.cells #[.string s] 9)) := ((Below.refl _ _).alloc (Nat.le_refl _) _).alloc (by simp) _
  refine (indexfunc_any _ ds s (w.heap.size + 1) _ (R.below hB0) ?_ ?_).mono ?_
  · rw [cell_of_row _ _ 0 _ _ _ (heap_alloc2_new _ _ _)]; rfl
  · simp
  rintro e w1 ⟨rfl, hb1⟩
  have hB1 := hB0.trans (hb1.mono hB0.size)
  clear hB0 hb1
  go_wp2
  go_ret
  exact ⟨rfl, hB1⟩
end Go.Proofs.YtkchakcebdenjaaGreat
/-
  What values are compiled to: plain mathematics. Nothing of the program; no condition.
-/
namespace Go.Proofs.YtkchakcebdenjaaGreat
open Go.RowKit
structure CS where
  list : List In
  defs : List Df
  how : Int
abbrev Env := List (List ByteArray)
def ins (o n i : Int) : In := ⟨o, n, i, ByteArray.empty⟩
def CS.emit (s : CS) (x : In) : CS := if s.how = 0 then (if s.list.length = 400 then { s with how := 3 } else { s with list := s.list ++ [x] }) else s
def CS.place (s : CS) : Nat := if s.how = 0 then (if s.list.length = 400 then 0 else s.list.length) else 0
def CS.lead (s : CS) (at_ : Nat) : CS := if s.how = 0 then { s with list := match s.list[at_]? with
  | some x => s.list.set at_ ⟨x.o, s.list.length, x.i, x.s⟩
  | none => s.list } else s
def isW (s : ByteArray) (l : List UInt8) : Bool := s.toList == l
def wQuote : List UInt8 := [113, 117, 111, 116, 101]
def wIf : List UInt8 := [105, 102]
def wFn : List UInt8 := [102, 110]
def wDo : List UInt8 := [100, 111]
def wLet : List UInt8 := [108, 101, 116]
def wDefine : List UInt8 := [100, 101, 102, 105, 110, 101]
def rsv (s : ByteArray) : Bool := isW s wQuote || isW s wIf || isW s wFn || isW s wDo || isW s wLet || isW s wDefine
def ndAt (xs : List Nd) (v : Int) : Nd := xs.getD v.toNat ⟨0, 0, ByteArray.empty, 0, 0⟩
def varN (xs : List Nd) (v : Int) : Bool := decide ((ndAt xs v).k = 4) && !rsv (ndAt xs v).s
def allVars (xs : List Nd) (l : List Int) : Bool := l.all (varN xs)
def nameL (xs : List Nd) (l : List Int) : List ByteArray := l.map fun v => (ndAt xs v).s
def memB (s : ByteArray) (l : List ByteArray) : Bool := l.any fun t => t.toList == s.toList
def dupB (l : List ByteArray) : Nat → Bool
  | 0 => false
  | k + 1 => dupB l k || memB (l.getD k ByteArray.empty) (l.take k)
def namesHow (xs : List Nd) (l : List Int) : Int := if 4 < l.length then 1 else if allVars xs l then (if dupB (nameL xs l) l.length then 2 else 0) else 1
def idxS : List ByteArray → ByteArray → Nat → Option Nat
  | [], _, _ => none
  | t :: l, s, i => if t.toList == s.toList then some i else idxS l s (i + 1)
def findV : Env → ByteArray → Nat → Option (Nat × Nat)
  | [], _, _ => none
  | l :: env, s, n => match idxS l s 0 with
    | some i => some (n, i)
    | none => findV env s (n + 1)
abbrev Ex := Int → Env → CS → CS
def cseq (e : Ex) (env : Env) : List Int → Bool → CS → CS
  | [], _, s => s
  | v :: l, first, s => if s.how = 0 then cseq e env l false (e v env (if first then s else s.emit (ins 9 0 0))) else s
def cbody (e : Ex) (l : List Int) (env : Env) (s : CS) : CS := cseq e env l true s
def cfun (e : Ex) (names : List ByteArray) (body : List Int) (env : Env) (s : CS) : CS :=
  let s1 := s.emit (ins 6 0 names.length)
  let s2 := s1.emit (ins 5 0 0)
  let s3 := s2.lead s.place
  let s4 := cbody e body (names :: env) s3
  (s4.emit (ins 8 0 0)).lead s1.place
def cif (e : Ex) (a b c : Int) (env : Env) (s : CS) : CS :=
  let s1 := e a env s
  let s2 := e b env (s1.emit (ins 4 0 0))
  let s3 := (s2.emit (ins 5 0 0)).lead s1.place
  (e c env s3).lead s2.place
def cnames (e : Ex) (xs : List Nd) (vars body : List Int) (env : Env) (s : CS) : CS :=
  if namesHow xs vars = 0 then cfun e (nameL xs vars) body env s else { s with how := namesHow xs vars }
def cform (e : Ex) (xs : List Nd) (head : ByteArray) (l : List Int) (env : Env) (s : CS) : CS :=
  if isW head wQuote ∧ l.length = 2 then s.emit (ins 1 (l.getD 1 0) 0)
  else if isW head wIf ∧ l.length = 4 then cif e (l.getD 1 0) (l.getD 2 0) (l.getD 3 0) env s
  else if isW head wDo ∧ 2 ≤ l.length then cbody e (l.drop 1) env s
  else if isW head wFn ∧ 3 ≤ l.length then (if (chainR xs (l.getD 1 0).toNat).2 then cnames e xs (chainR xs (l.getD 1 0).toNat).1 (l.drop 2) env s else { s with how := 1 })
  else if isW head wLet ∧ 4 ≤ l.length then
    (if namesHow xs [l.getD 1 0] = 0 then (e (l.getD 2 0) env (cfun e (nameL xs [l.getD 1 0]) (l.drop 3) env s)).emit (ins 7 0 1) else { s with how := namesHow xs [l.getD 1 0] })
  else { s with how := 1 }
def ccall (e : Ex) (l : List Int) (env : Env) (s : CS) : CS := (l.foldl (fun s u => e u env s) s).emit (ins 7 0 ((l.length : Int) - 1))
def cone (e : Ex) (xs : List Nd) (v : Int) (env : Env) (s : CS) : CS :=
  if s.how = 0 then
    (if (ndAt xs v).k = 1 ∨ (ndAt xs v).k = 2 ∨ (ndAt xs v).k = 3 then s.emit (ins 1 v 0)
     else if (ndAt xs v).k = 4 then (if rsv (ndAt xs v).s then { s with how := 1 } else match findV env (ndAt xs v).s 0 with
       | some (n, i) => s.emit (ins 2 n i)
       | none => s.emit ⟨3, 0, 0, (ndAt xs v).s⟩)
     else if (ndAt xs v).k = 5 then (if (chainR xs v.toNat).2 then
        (let l := (chainR xs v.toNat).1
         let h := ndAt xs (l.getD 0 0)
         if h.k = 4 ∧ rsv h.s then cform e xs h.s l env s else if 5 < l.length then { s with how := 1 } else ccall e l env s)
       else { s with how := 1 })
     else { s with how := 1 })
  else s
def cexp (xs : List Nd) : Nat → Ex
  | 0 => fun _ _ s => s
  | f + 1 => cone (cexp xs f) xs
def cdefine (e : Ex) (name : ByteArray) (names : List ByteArray) (body : List Int) (s : CS) : CS :=
  if 0 ≤ dfIdx s.defs name 0 then { s with how := 2 }
  else (cbody e body [names] { s with defs := s.defs ++ [⟨name, s.list.length, names.length⟩] }).emit (ins 8 0 0)
def wMain : ByteArray := ⟨#[109, 97, 105, 110]⟩
def ctop (xs : List Nd) (v : Int) (s : CS) : CS :=
  let e := cexp xs xs.length
  let l := (chainR xs v.toNat).1
  if (ndAt xs v).k = 5 ∧ (chainR xs v.toNat).2 ∧ (ndAt xs (l.getD 0 0)).k = 4 ∧ isW (ndAt xs (l.getD 0 0)).s wDefine then
    (if 3 ≤ l.length ∧ (ndAt xs (l.getD 1 0)).k = 5 ∧ (chainR xs (l.getD 1 0).toNat).2 ∧ varN xs ((chainR xs (l.getD 1 0).toNat).1.getD 0 0) then
      (let g := (chainR xs (l.getD 1 0).toNat).1
       if namesHow xs (g.drop 1) = 0 then cdefine e (ndAt xs (g.getD 0 0)).s (nameL xs (g.drop 1)) (l.drop 2) s else { s with how := namesHow xs (g.drop 1) })
     else { s with how := 1 })
  else cdefine e wMain [] [v] s
def ctops (xs : List Nd) : List Int → Nat → CS → CS × Nat
  | [], i, s => (s, i)
  | v :: l, i, s => if (ctop xs v s).how = 0 then ctops xs l (i + 1) (ctop xs v s) else (ctop xs v s, i)
def Grow (s s' : CS) : Prop := s'.how = 0 → s.how = 0 ∧ s.list.length ≤ s'.list.length
theorem Grow.refl (s : CS) : Grow s s := fun h => ⟨h, Nat.le_refl _⟩
theorem Grow.trans {a b c : CS} (h : Grow a b) (k : Grow b c) : Grow a c := fun e => by
  have h1 := k e
  have h2 := h h1.1
  exact ⟨h2.1, by omega⟩
theorem Grow.emit (s : CS) (x : In) : Grow s (s.emit x) := by
  unfold Grow CS.emit
  split
  · rename_i h
    split
    · intro e; cases e
    · intro _; exact ⟨h, by simp⟩
  · exact fun h => ⟨h, Nat.le_refl _⟩
theorem Grow.lead (s : CS) (a : Nat) : Grow s (s.lead a) := by
  unfold Grow CS.lead
  split
  · rename_i h
    intro _
    refine ⟨h, ?_⟩
    dsimp only
    split <;> simp
  · exact fun h => ⟨h, Nat.le_refl _⟩
theorem Grow.wrong (s : CS) (k : Int) (hk : k ≠ 0) (s' : CS) (h : s'.how = k) : Grow s s' := fun e => absurd (h.symm.trans e) hk
def Mono (e : Ex) : Prop := ∀ v env s, Grow s (e v env s)
theorem Mono.seq {e : Ex} (h : Mono e) (env : Env) : ∀ (l : List Int) (b : Bool) (s : CS), Grow s (cseq e env l b s) := by
  intro l
  induction l with
  | nil => intro b s; exact Grow.refl s
  | cons v l ih =>
    intro b s
    rw [cseq]
    split
    · refine Grow.trans ?_ (ih false _)
      refine Grow.trans ?_ (h v env _)
      split
      · exact Grow.refl s
      · exact Grow.emit s _
    · exact Grow.refl s
theorem Mono.fn {e : Ex} (h : Mono e) (names : List ByteArray) (body : List Int) (env : Env) (s : CS) : Grow s (cfun e names body env s) := by
  unfold cfun
  exact (((((Grow.emit s _).trans (Grow.emit _ _)).trans (Grow.lead _ _)).trans (h.seq _ _ _ _)).trans (Grow.emit _ _)).trans (Grow.lead _ _)
theorem place_lt {s : CS} {x : In} {s' : CS} (h : Grow (s.emit x) s') : s'.how = 0 → s.place < s'.list.length := by
  intro e
  obtain ⟨h1, h2⟩ := h e
  unfold CS.emit at h1 h2
  unfold CS.place
  split at h1
  · rename_i h0
    rw [if_pos h0] at h2
    rw [if_pos h0]
    split at h1
    · cases h1
    · rename_i h4
      rw [if_neg h4] at h2 ⊢
      simp at h2
      omega
  · rename_i h0
    exact absurd h1 h0
theorem Mono.if_ {e : Ex} (h : Mono e) (a b c : Int) (env : Env) (s : CS) : Grow s (cif e a b c env s) := by
  unfold cif
  exact (((((h a env s).trans (Grow.emit _ _)).trans (h b env _)).trans (Grow.emit _ _)).trans (Grow.lead _ _)).trans ((h c env _).trans (Grow.lead _ _))
theorem Mono.fold {e : Ex} (h : Mono e) (env : Env) : ∀ (l : List Int) (s : CS), Grow s (l.foldl (fun s u => e u env s) s) := by
  intro l
  induction l with
  | nil => intro s; exact Grow.refl s
  | cons v l ih => intro s; exact (h v env s).trans (ih _)
theorem namesHow_ne {xs : List Nd} {l : List Int} (h : ¬ namesHow xs l = 0) (s : CS) : Grow s ⟨s.list, s.defs, namesHow xs l⟩ := Grow.wrong s _ h _ rfl
theorem Mono.names {e : Ex} (h : Mono e) (xs : List Nd) (vars body : List Int) (env : Env) (s : CS) : Grow s (cnames e xs vars body env s) := by
  unfold cnames
  split
  · exact h.fn _ _ _ _
  · rename_i hn; exact namesHow_ne hn s
theorem Mono.form {e : Ex} (h : Mono e) (xs : List Nd) (head : ByteArray) (l : List Int) (env : Env) (s : CS) : Grow s (cform e xs head l env s) := by
  have w1 : Grow s { s with how := 1 } := Grow.wrong s 1 (by decide) _ rfl
  unfold cform
  split
  · exact Grow.emit _ _
  split
  · exact h.if_ _ _ _ _ _
  split
  · exact h.seq _ _ _ _
  split
  · split
    · exact h.names _ _ _ _ _
    · exact w1
  split
  · split
    · exact ((h.fn _ _ _ _).trans (h _ _ _)).trans (Grow.emit _ _)
    · rename_i hn; exact namesHow_ne hn s
  · exact w1
theorem Mono.one {e : Ex} (h : Mono e) (xs : List Nd) : Mono (cone e xs) := by
  intro v env s
  have w1 : Grow s { s with how := 1 } := Grow.wrong s 1 (by decide) _ rfl
  unfold cone
  split
  · split
    · exact Grow.emit _ _
    split
    · split
      · exact w1
      · split <;> exact Grow.emit _ _
    split
    · split
      · dsimp only
        split
        · exact h.form _ _ _ _ _
        split
        · exact w1
        · exact (h.fold _ _ _).trans (Grow.emit _ _)
      · exact w1
    · exact w1
  · exact Grow.refl s
theorem cexp_mono (xs : List Nd) : ∀ f, Mono (cexp xs f) := by
  intro f
  induction f with
  | zero => intro v env s; exact Grow.refl s
  | succ f ih => exact ih.one xs
end Go.Proofs.YtkchakcebdenjaaGreat
