/-
  Texts that stood by themselves, laid into one.
-/
import Derived.Test.YtkchakcebdenjaaGreatInM
import Derived.Test.YtkchakcebdenjaaGreatSNodeM
import Derived.Test.YtkchakcebdenjaaGreatDefOfM
import Derived.Test.YtkchakcebdenjaaGreatShapeM
import Derived.Laws.CopyOwn
/-
  What values are compiled to: plain mathematics. Nothing of the program; no condition.
-/
namespace Go.Proofs.YtkchakcebdenjaaGreat
open Go.RowKit
structure CS where
  list : List In
  defs : List Df
  how : Int
abbrev Env := List (List ByteArray)
def ins (o n i : Int) : In := ⟨o, n, i, ByteArray.empty⟩
def CS.emit (s : CS) (x : In) : CS := if s.how = 0 then (if s.list.length = 400 then { s with how := 3 } else { s with list := s.list ++ [x] }) else s
def CS.place (s : CS) : Nat := if s.how = 0 then (if s.list.length = 400 then 0 else s.list.length) else 0
def CS.lead (s : CS) (at_ : Nat) : CS := if s.how = 0 then { s with list := match s.list[at_]? with
  | some x => s.list.set at_ ⟨x.o, s.list.length, x.i, x.s⟩
  | none => s.list } else s
def isW (s : ByteArray) (l : List UInt8) : Bool := s.toList == l
def wQuote : List UInt8 := [113, 117, 111, 116, 101]
def wIf : List UInt8 := [105, 102]
def wFn : List UInt8 := [102, 110]
def wDo : List UInt8 := [100, 111]
def wLet : List UInt8 := [108, 101, 116]
def wDefine : List UInt8 := [100, 101, 102, 105, 110, 101]
def rsv (s : ByteArray) : Bool := isW s wQuote || isW s wIf || isW s wFn || isW s wDo || isW s wLet || isW s wDefine
def ndAt (xs : List Nd) (v : Int) : Nd := xs.getD v.toNat ⟨0, 0, ByteArray.empty, 0, 0⟩
def varN (xs : List Nd) (v : Int) : Bool := decide ((ndAt xs v).k = 4) && !rsv (ndAt xs v).s
def allVars (xs : List Nd) (l : List Int) : Bool := l.all (varN xs)
def nameL (xs : List Nd) (l : List Int) : List ByteArray := l.map fun v => (ndAt xs v).s
def memB (s : ByteArray) (l : List ByteArray) : Bool := l.any fun t => t.toList == s.toList
def dupB (l : List ByteArray) : Nat → Bool
  | 0 => false
  | k + 1 => dupB l k || memB (l.getD k ByteArray.empty) (l.take k)
def namesHow (xs : List Nd) (l : List Int) : Int := if 4 < l.length then 1 else if allVars xs l then (if dupB (nameL xs l) l.length then 2 else 0) else 1
def idxS : List ByteArray → ByteArray → Nat → Option Nat
  | [], _, _ => none
  | t :: l, s, i => if t.toList == s.toList then some i else idxS l s (i + 1)
def findV : Env → ByteArray → Nat → Option (Nat × Nat)
  | [], _, _ => none
  | l :: env, s, n => match idxS l s 0 with
    | some i => some (n, i)
    | none => findV env s (n + 1)
abbrev Ex := Int → Env → CS → CS
def cseq (e : Ex) (env : Env) : List Int → Bool → CS → CS
  | [], _, s => s
  | v :: l, first, s => if s.how = 0 then cseq e env l false (e v env (if first then s else s.emit (ins 9 0 0))) else s
def cbody (e : Ex) (l : List Int) (env : Env) (s : CS) : CS := cseq e env l true s
def cfun (e : Ex) (names : List ByteArray) (body : List Int) (env : Env) (s : CS) : CS :=
  let s1 := s.emit (ins 6 0 names.length)
  let s2 := s1.emit (ins 5 0 0)
  let s3 := s2.lead s.place
  let s4 := cbody e body (names :: env) s3
  (s4.emit (ins 8 0 0)).lead s1.place
def cif (e : Ex) (a b c : Int) (env : Env) (s : CS) : CS :=
  let s1 := e a env s
  let s2 := e b env (s1.emit (ins 4 0 0))
  let s3 := (s2.emit (ins 5 0 0)).lead s1.place
  (e c env s3).lead s2.place
def cnames (e : Ex) (xs : List Nd) (vars body : List Int) (env : Env) (s : CS) : CS :=
  if namesHow xs vars = 0 then cfun e (nameL xs vars) body env s else { s with how := namesHow xs vars }
def cform (e : Ex) (xs : List Nd) (head : ByteArray) (l : List Int) (env : Env) (s : CS) : CS :=
  if isW head wQuote ∧ l.length = 2 then s.emit (ins 1 (l.getD 1 0) 0)
  else if isW head wIf ∧ l.length = 4 then cif e (l.getD 1 0) (l.getD 2 0) (l.getD 3 0) env s
  else if isW head wDo ∧ 2 ≤ l.length then cbody e (l.drop 1) env s
  else if isW head wFn ∧ 3 ≤ l.length then (if (chainR xs (l.getD 1 0).toNat).2 then cnames e xs (chainR xs (l.getD 1 0).toNat).1 (l.drop 2) env s else { s with how := 1 })
  else if isW head wLet ∧ 4 ≤ l.length then
    (if namesHow xs [l.getD 1 0] = 0 then (e (l.getD 2 0) env (cfun e (nameL xs [l.getD 1 0]) (l.drop 3) env s)).emit (ins 7 0 1) else { s with how := namesHow xs [l.getD 1 0] })
  else { s with how := 1 }
def ccall (e : Ex) (l : List Int) (env : Env) (s : CS) : CS := (l.foldl (fun s u => e u env s) s).emit (ins 7 0 ((l.length : Int) - 1))
def cone (e : Ex) (xs : List Nd) (v : Int) (env : Env) (s : CS) : CS :=
  if s.how = 0 then
    (if (ndAt xs v).k = 1 ∨ (ndAt xs v).k = 2 ∨ (ndAt xs v).k = 3 then s.emit (ins 1 v 0)
     else if (ndAt xs v).k = 4 then (if rsv (ndAt xs v).s then { s with how := 1 } else match findV env (ndAt xs v).s 0 with
       | some (n, i) => s.emit (ins 2 n i)
       | none => s.emit ⟨3, 0, 0, (ndAt xs v).s⟩)
     else if (ndAt xs v).k = 5 then (if (chainR xs v.toNat).2 then
        (let l := (chainR xs v.toNat).1
         let h := ndAt xs (l.getD 0 0)
         if h.k = 4 ∧ rsv h.s then cform e xs h.s l env s else if 5 < l.length then { s with how := 1 } else ccall e l env s)
       else { s with how := 1 })
     else { s with how := 1 })
  else s
def cexp (xs : List Nd) : Nat → Ex
  | 0 => fun _ _ s => s
  | f + 1 => cone (cexp xs f) xs
def cdefine (e : Ex) (name : ByteArray) (names : List ByteArray) (body : List Int) (s : CS) : CS :=
  if 0 ≤ dfIdx s.defs name 0 then { s with how := 2 }
  else (cbody e body [names] { s with defs := s.defs ++ [⟨name, s.list.length, names.length⟩] }).emit (ins 8 0 0)
def wMain : ByteArray := ⟨#[109, 97, 105, 110]⟩
def ctop (xs : List Nd) (v : Int) (s : CS) : CS :=
  let e := cexp xs xs.length
  let l := (chainR xs v.toNat).1
  if (ndAt xs v).k = 5 ∧ (chainR xs v.toNat).2 ∧ (ndAt xs (l.getD 0 0)).k = 4 ∧ isW (ndAt xs (l.getD 0 0)).s wDefine then
    (if 3 ≤ l.length ∧ (ndAt xs (l.getD 1 0)).k = 5 ∧ (chainR xs (l.getD 1 0).toNat).2 ∧ varN xs ((chainR xs (l.getD 1 0).toNat).1.getD 0 0) then
      (let g := (chainR xs (l.getD 1 0).toNat).1
       if namesHow xs (g.drop 1) = 0 then cdefine e (ndAt xs (g.getD 0 0)).s (nameL xs (g.drop 1)) (l.drop 2) s else { s with how := namesHow xs (g.drop 1) })
     else { s with how := 1 })
  else cdefine e wMain [] [v] s
def ctops (xs : List Nd) : List Int → Nat → CS → CS × Nat
  | [], i, s => (s, i)
  | v :: l, i, s => if (ctop xs v s).how = 0 then ctops xs l (i + 1) (ctop xs v s) else (ctop xs v s, i)
def Grow (s s' : CS) : Prop := s'.how = 0 → s.how = 0 ∧ s.list.length ≤ s'.list.length
theorem Grow.refl (s : CS) : Grow s s := fun h => ⟨h, Nat.le_refl _⟩
theorem Grow.trans {a b c : CS} (h : Grow a b) (k : Grow b c) : Grow a c := fun e => by
  have h1 := k e
  have h2 := h h1.1
  exact ⟨h2.1, by omega⟩
theorem Grow.emit (s : CS) (x : In) : Grow s (s.emit x) := by
  unfold Grow CS.emit
  split
  · rename_i h
    split
    · intro e; cases e
    · intro _; exact ⟨h, by simp⟩
  · exact fun h => ⟨h, Nat.le_refl _⟩
theorem Grow.lead (s : CS) (a : Nat) : Grow s (s.lead a) := by
  unfold Grow CS.lead
  split
  · rename_i h
    intro _
    refine ⟨h, ?_⟩
    dsimp only
    split <;> simp
  · exact fun h => ⟨h, Nat.le_refl _⟩
theorem Grow.wrong (s : CS) (k : Int) (hk : k ≠ 0) (s' : CS) (h : s'.how = k) : Grow s s' := fun e => absurd (h.symm.trans e) hk
def Mono (e : Ex) : Prop := ∀ v env s, Grow s (e v env s)
theorem Mono.seq {e : Ex} (h : Mono e) (env : Env) : ∀ (l : List Int) (b : Bool) (s : CS), Grow s (cseq e env l b s) := by
  intro l
  induction l with
  | nil => intro b s; exact Grow.refl s
  | cons v l ih =>
    intro b s
    rw [cseq]
    split
    · refine Grow.trans ?_ (ih false _)
      refine Grow.trans ?_ (h v env _)
      split
      · exact Grow.refl s
      · exact Grow.emit s _
    · exact Grow.refl s
theorem Mono.fn {e : Ex} (h : Mono e) (names : List ByteArray) (body : List Int) (env : Env) (s : CS) : Grow s (cfun e names body env s) := by
  unfold cfun
  exact (((((Grow.emit s _).trans (Grow.emit _ _)).trans (Grow.lead _ _)).trans (h.seq _ _ _ _)).trans (Grow.emit _ _)).trans (Grow.lead _ _)
theorem place_lt {s : CS} {x : In} {s' : CS} (h : Grow (s.emit x) s') : s'.how = 0 → s.place < s'.list.length := by
  intro e
  obtain ⟨h1, h2⟩ := h e
  unfold CS.emit at h1 h2
  unfold CS.place
  split at h1
  · rename_i h0
    rw [if_pos h0] at h2
    rw [if_pos h0]
    split at h1
    · cases h1
    · rename_i h4
      rw [if_neg h4] at h2 ⊢
      simp at h2
      omega
  · rename_i h0
    exact absurd h1 h0
theorem Mono.if_ {e : Ex} (h : Mono e) (a b c : Int) (env : Env) (s : CS) : Grow s (cif e a b c env s) := by
  unfold cif
  exact (((((h a env s).trans (Grow.emit _ _)).trans (h b env _)).trans (Grow.emit _ _)).trans (Grow.lead _ _)).trans ((h c env _).trans (Grow.lead _ _))
theorem Mono.fold {e : Ex} (h : Mono e) (env : Env) : ∀ (l : List Int) (s : CS), Grow s (l.foldl (fun s u => e u env s) s) := by
  intro l
  induction l with
  | nil => intro s; exact Grow.refl s
  | cons v l ih => intro s; exact (h v env s).trans (ih _)
theorem namesHow_ne {xs : List Nd} {l : List Int} (h : ¬ namesHow xs l = 0) (s : CS) : Grow s ⟨s.list, s.defs, namesHow xs l⟩ := Grow.wrong s _ h _ rfl
theorem Mono.names {e : Ex} (h : Mono e) (xs : List Nd) (vars body : List Int) (env : Env) (s : CS) : Grow s (cnames e xs vars body env s) := by
  unfold cnames
  split
  · exact h.fn _ _ _ _
  · rename_i hn; exact namesHow_ne hn s
theorem Mono.form {e : Ex} (h : Mono e) (xs : List Nd) (head : ByteArray) (l : List Int) (env : Env) (s : CS) : Grow s (cform e xs head l env s) := by
  have w1 : Grow s { s with how := 1 } := Grow.wrong s 1 (by decide) _ rfl
  unfold cform
  split
  · exact Grow.emit _ _
  split
  · exact h.if_ _ _ _ _ _
  split
  · exact h.seq _ _ _ _
  split
  · split
    · exact h.names _ _ _ _ _
    · exact w1
  split
  · split
    · exact ((h.fn _ _ _ _).trans (h _ _ _)).trans (Grow.emit _ _)
    · rename_i hn; exact namesHow_ne hn s
  · exact w1
theorem Mono.one {e : Ex} (h : Mono e) (xs : List Nd) : Mono (cone e xs) := by
  intro v env s
  have w1 : Grow s { s with how := 1 } := Grow.wrong s 1 (by decide) _ rfl
  unfold cone
  split
  · split
    · exact Grow.emit _ _
    split
    · split
      · exact w1
      · split <;> exact Grow.emit _ _
    split
    · split
      · dsimp only
        split
        · exact h.form _ _ _ _ _
        split
        · exact w1
        · exact (h.fold _ _ _).trans (Grow.emit _ _)
      · exact w1
    · exact w1
  · exact Grow.refl s
theorem cexp_mono (xs : List Nd) : ∀ f, Mono (cexp xs f) := by
  intro f
  induction f with
  | zero => intro v env s; exact Grow.refl s
  | succ f ih => exact ih.one xs
end Go.Proofs.YtkchakcebdenjaaGreat
/-
  Contracts of impl's with and Make, and of spec's l2Copy and Make: a node behind a pool.
-/
namespace Go.Proofs.YtkchakcebdenjaaGreat
open Go.RowKit
theorem wpList_append_own_any {P : Program} (w : World) {ops : Array Oper} {rest : List Oper} {o : Oper} {a : Act} {Q : Exit → Act → World → Prop}
    (hg : o.guard = none) (s x : Operand) (t : TypeId) (hop : o.op = Op.call { callee := Callee.builtin Builtin.append, args := #[s, x], argTypes := #[t, t] })
    (base : Nat) (e : TypeId) (i : TypeInfo) (z : Value) (size bytes : Nat) (h1 : P.underlying t = some (.slice e)) (h2 : P.info? e = some i) (h3 : i.zero = some z) (h4 : i.size = size) (h5 : i.bytes = bytes) (h6 : z.cells.size = size) (h7 : 0 < size)
    (v : Value) (k : Nat) (xs : List Value) (hs : a.eval s = v) (hown : w.ownsRow base e size v k xs) (ao : Option Addr) (m c : Nat) (news : List Value) (hx : a.eval x = .slice ao m c) (hn : news.length = m * size)
    (hnone : ao = none → m = 0 ∧ c = 0) (hc : ∀ ad, ao = some ad → ∀ j u, news[j]? = some u → w.cell? (ad.add j) = some u) (h1c : ∀ u ∈ news, u.oneCell' = true) (b1 : k + m ≤ maxLen) (b2 : (k + m) * bytes ≤ 140737488355328) (b3 : base ≤ w.heap.size)
    (hK : ∀ v' w', w'.ownsRow base e size v' (k + m) (xs ++ news) → w.grownBy w' v.ownBlock → wpList P ops Q rest (a.put o.dst v') w') :
    wpList P ops Q (o :: rest) a w := by
  cases ao with
  | some ad => exact wpList_append_own w hg s x t hop base e i z size bytes h1 h2 h3 h4 h5 h6 h7 v k xs hs hown ad m c news hx hn (hc ad rfl) h1c b1 b2 b3 (fun v' w' h1 h2 _ => hK v' w' h1 h2)
  | none =>
    obtain ⟨rfl, rfl⟩ := hnone rfl
    have hnews : news = [] := List.eq_nil_of_length_eq_zero (by simpa using hn)
    subst hnews
    refine wpList_plain hg fun K hK' => ?_
    have hrun := run_append_owned_none (P := P) w base t o.type e i size h1 h2 _ k xs hown
    unfold Oper.wp
    simp [execOp, hop, resolve, invoke, builtin, hs, hx, hrun, Result.andThen]
    exact hK' _ _ (by simpa using hK v w (by simpa using hown) (World.grownBy.refl _ _))
theorem NRow.nilcap {w : World} {ao : Option Addr} {n cap : Nat} {xs : List Nd} (h : NRow w (.slice ao n cap) xs) : ao = none → n = 0 ∧ cap = 0 := by
  obtain ⟨ao', cap', e, ⟨h1, h2⟩, _⟩ := h
  simp only [Value.slice.injEq] at e
  obtain ⟨rfl, rfl, rfl⟩ := e
  intro h
  have := h2 h
  omega
theorem Tryz.sizeP : (Tryz.prog.info? 29).map (·.size) = some 1 := by kernel_rfl
set_option maxHeartbeats 800000 in
theorem with_any (v vm : Value) (xs ys : List Nd) (w : World) (R : NRow w v xs) (Rm : NRow w vm ys) (hm : xs.length + ys.length ≤ 4194304) :
    Calls Tryz.prog 32 #[.agg #[v], vm] w fun e w' => ∃ v', e = .returned (.agg #[v']) ∧ w'.ownsRow w.heap.size 92 5 v' (xs ++ ys).length (ncs (xs ++ ys)) ∧ Below w.heap.size w w' := by
  have R' := R
  have Rm' := Rm
  obtain ⟨ao, cap, rfl, hcap, _, _, _⟩ := R'
  obtain ⟨am, capm, rfl, hcapm, _, _, _⟩ := Rm'
  obtain ⟨i0, hi, hz0, hz1, hz2⟩ := info_parts Tryz.infoN
  have hbytes : i0.bytes * (xs.length + ys.length) ≤ 281474976710656 := by rw [hz2]; omega
  have hmax : xs.length + ys.length ≤ maxLen := by unfold maxLen; omega
  go_enter Tryz.func32, Tryz.ntmps32
  go_wp2_with (at_make; refine wpList_make_own _ rfl _ _ 27 rfl (w.heap.size + 2) 92 i0 _ 5 Tryz.underlying27 hi hz0 hz1 _ _ _ (xs.length + ys.length) rfl rfl (by omega) hbytes hmax (by simp) ?_)
  intro w1 hown hgrow
  have hbel : Below (w.heap.size + 2) ((w.alloc (Obj.cells #[.slice ao xs.length cap] 29)).alloc (Obj.cells #[.slice none 0 0] 29)) w1 := (Below.refl _ _).grown hgrow (by simp) (by intro k hk; cases hk)
  have hB0 : Below w.heap.size w ((w.alloc (Obj.cells #[.slice ao xs.length cap] 29)).alloc (Obj.cells #[.slice none 0 0] 29)) := ((Below.refl _ _).alloc (Nat.le_refl _) _).alloc (by simp) _
  have hB1 : Below w.heap.size w w1 := hB0.trans (hbel.mono (by omega))
  have hx1 : w1.heap[w.heap.size]? = some (.cells #[.slice ao xs.length cap] 29 (0, 0)) := (hbel.block _ (by omega)).trans (heap_alloc2_old _ _ _)
  have hy1 : w1.heap[w.heap.size + 1]? = some (.cells #[.slice none 0 0] 29 (0, 0)) := (hbel.block _ (by omega)).trans (heap_alloc2_new _ _ _)
  have hc1 : w1.cell? ⟨w.heap.size, 0, none⟩ = some (.slice ao xs.length cap) := by rw [cell_of_row w1 _ 0 _ _ _ hx1]; rfl
  have R1 := R.below hB1
  have Rm1 := Rm.below hB1
  clear hgrow
  go_wp2_with (at_builtin; refine wpList_append_fits_any _ rfl _ _ 27 rfl (w.heap.size + 2) 92 i0 5 Tryz.underlying27 hi hz1 _ 0 _ [] rfl hown ao xs.length cap (ncs xs) rfl (by rw [ncs_length]) R1.nilcap R1.cells (ncs_one xs) (by omega) ?_)
  intro w2 hown2 hg2
  have hbel2 : Below (w.heap.size + 2) w1 w2 := (Below.refl _ _).grown hg2 (by have := hbel.size; simp at this; omega) (fun k hk => by simp at hk; omega)
  have hB2 := hB1.trans (hbel2.mono (by omega))
  have hx2 := (hbel2.block _ (by omega)).trans hx1
  have hy2 := (hbel2.block _ (by omega)).trans hy1
  have Rm2 := Rm.below hB2
  clear hg2 hown R1 Rm1 hx1 hy1 hc1 hB1 hbel
  go_wp2_with (at_builtin; refine wpList_append_fits_any _ rfl _ _ 27 rfl (w.heap.size + 2) 92 i0 5 Tryz.underlying27 hi hz1 _ _ _ _ rfl hown2 am ys.length capm (ncs ys) rfl (by rw [ncs_length]) Rm2.nilcap Rm2.cells (ncs_one ys) (by omega) ?_)
  intro w3 hown3 hg3
  have hbel3 : Below (w.heap.size + 2) w2 w3 := (Below.refl _ _).grown hg3 (by have := hB2.size; have := (Array.getElem?_eq_some_iff.1 hy2).1; omega) (fun k hk => by simp at hk; omega)
  have hB3 := hB2.trans (hbel3.mono (by omega))
  have hy3 := (hbel3.block _ (by omega)).trans hy2
  have c3 : w3.cell? ⟨w.heap.size + 1, 0, none⟩ = some (.slice none 0 0) := by rw [cell_of_row w3 _ 0 _ _ _ hy3]; rfl
  have f3 : w3.frozen? ⟨w.heap.size + 1, 0, none⟩ = false := frozen_of_row w3 _ 0 _ _ hy3
  clear hg3 hown2 hx2 hy2 Rm2 hB2 hbel2 hbel3
  go_wp2
  have hb4 := heap_setCell_same w3 (w.heap.size + 1) 0 _ _ (.slice (some ⟨w.heap.size + 1 + 1, 0, none⟩) (xs.length + ys.length) (xs.length + ys.length)) hy3
  refine bodyPost_ret (results_cell_row rfl _ _ (w.heap.size + 1) 29 _ (0, 0) _ rfl hb4 Tryz.underlying29 rfl Tryz.sizeP) rfl ⟨_, rfl, ?_, ?_⟩
  · have := own_mono (B' := w.heap.size) (ownsRow_setCell_below hown3 (a := ⟨w.heap.size + 1, 0, none⟩) (by simp) (.slice (some ⟨w.heap.size + 1 + 1, 0, none⟩) (xs.length + ys.length) (xs.length + ys.length))) (by omega)
    simpa [ncs_append] using this
  · exact hB3.setCell (p := ⟨w.heap.size + 1, 0, none⟩) (by simp) _
set_option maxHeartbeats 800000 in
theorem scopy_any (v : Value) (xs : List Nd) (w : World) (R : NRow w v xs) (hm : xs.length ≤ 4194304) :
    Calls Tryz.prog 24 #[.agg #[v]] w fun e w' => ∃ v', e = .returned (.agg #[v']) ∧ w'.ownsRow w.heap.size 92 5 v' xs.length (ncs xs) ∧ Below w.heap.size w w' := by
  have R' := R
  obtain ⟨ao, cap, rfl, hcap, _, _, _⟩ := R'
  obtain ⟨i0, hi, hz0, hz1, hz2⟩ := info_parts Tryz.infoN
  have hB0 : Below w.heap.size w (((w.alloc (Obj.cells #[.slice ao xs.length cap] 29)).alloc (Obj.cells #[.slice none 0 0] 29)).alloc (Obj.cells #[] 92)) := (((Below.refl _ _).alloc (Nat.le_refl _) _).alloc (by simp) _).alloc (by simp; omega) _
  have R1 := R.below hB0
  have own1 : (((w.alloc (Obj.cells #[.slice ao xs.length cap] 29)).alloc (Obj.cells #[.slice none 0 0] 29)).alloc (Obj.cells #[] 92)).ownsRow (w.heap.size + 2) 92 5 (.slice (some ⟨w.heap.size + 1 + 1, 0, none⟩) 0 0) 0 (ncs []) := by
    have := World.ownsRow_made (base := w.heap.size + 2) (e := 92) (size := 5) ((w.alloc (Obj.cells #[.slice ao xs.length cap] 29)).alloc (Obj.cells #[.slice none 0 0] 29)) #[] 0 (by simp) (by simp) (by simp)
    simpa [ncs_nil] using this
  go_enter Tryz.func24, Tryz.ntmps24
  go_wp2_with (at_builtin; refine wpList_append_own_any _ rfl _ _ 27 rfl (w.heap.size + 2) 92 i0 _ 5 48 Tryz.underlying27 hi hz0 hz1 hz2 rfl (by decide) _ 0 _ rfl own1 ao xs.length cap (ncs xs) rfl (by rw [ncs_length]) R1.nilcap R1.cells (ncs_one xs) (by unfold maxLen; omega) (by omega) (by simp) ?_)
  intro v2 w2 hown2 hg2
  obtain ⟨ao2, cap2, rfl⟩ := own_form hown2
  have hbel2 : Below (w.heap.size + 2) (((w.alloc (Obj.cells #[.slice ao xs.length cap] 29)).alloc (Obj.cells #[.slice none 0 0] 29)).alloc (Obj.cells #[] 92)) w2 := (Below.refl _ _).grown hg2 (by simp) (fun k hk => by simp [Value.ownBlock] at hk; omega)
  have hB2 := hB0.trans (hbel2.mono (by omega))
  have hy2 : w2.heap[w.heap.size + 1]? = some (.cells #[.slice none 0 0] 29 (0, 0)) := (hbel2.block _ (by omega)).trans ((heap_alloc_old _ _ (by simp)).trans (heap_alloc2_new _ _ _))
  have c3 : w2.cell? ⟨w.heap.size + 1, 0, none⟩ = some (.slice none 0 0) := by rw [cell_of_row w2 _ 0 _ _ _ hy2]; rfl
  have f3 : w2.frozen? ⟨w.heap.size + 1, 0, none⟩ = false := frozen_of_row w2 _ 0 _ _ hy2
  clear hg2 R1 own1 hbel2
  go_wp2
  have hb4 := heap_setCell_same w2 (w.heap.size + 1) 0 _ _ (.slice ao2 xs.length cap2) hy2
  refine bodyPost_ret (results_cell_row rfl _ _ (w.heap.size + 1) 29 _ (0, 0) _ (by simp) hb4 Tryz.underlying29 rfl Tryz.sizeP) rfl ⟨_, rfl, ?_, ?_⟩
  · have := own_mono (B' := w.heap.size) (ownsRow_setCell_below hown2 (a := ⟨w.heap.size + 1, 0, none⟩) (by simp) (.slice ao2 xs.length cap2)) (by omega)
    simpa [ncs_nil] using this
  · exact hB2.setCell (p := ⟨w.heap.size + 1, 0, none⟩) (by simp) _
end Go.Proofs.YtkchakcebdenjaaGreat
/-
  Contracts of impl.Make and spec.Make: a node behind a pool, or the pool as it was.
-/
namespace Go.Proofs.YtkchakcebdenjaaGreat
open Go.RowKit
def makeL (xs : List Nd) (x : Nd) : List Nd := if poolB xs = true then (if xs.length ≠ 3000 ∧ nodeB x xs.length = true then xs ++ [x] else xs) else []
def makeI (xs : List Nd) (x : Nd) : Int := if poolB xs = true then (if xs.length ≠ 3000 ∧ nodeB x xs.length = true then xs.length else -1) else -1
theorem NRow.nil0 (w : World) : NRow w (.slice none 0 0) [] := ⟨none, 0, rfl, by simp, by simp, by simp, fun h => absurd rfl h⟩
theorem put_pool {B base0 base1 n cap : Nat} {w0 w2 : World} {ao : Option Addr} {xs : List Value} (hy : w2.heap[B]? = some (.cells #[.slice none 0 0] 29 (0, 0))) (ho : w2.ownsRow base1 92 5 (.slice ao n cap) n xs)
    (hB : Below base0 w0 w2) (h1 : B < base1) (h2 : base0 ≤ B) :
    (w2.setCell ⟨B, 0, none⟩ (.slice ao n cap)).heap[B]? = some (.cells #[.slice ao n cap] 29 (0, 0)) ∧ (w2.setCell ⟨B, 0, none⟩ (.slice ao n cap)).ownsRow base0 92 5 (.slice ao n cap) n xs ∧ Below base0 w0 (w2.setCell ⟨B, 0, none⟩ (.slice ao n cap)) :=
  ⟨heap_setCell_same w2 B 0 _ _ _ hy, own_mono (ownsRow_setCell_below ho (a := ⟨B, 0, none⟩) h1 _) (by omega), hB.setCell (p := ⟨B, 0, none⟩) h2 _⟩
end Go.Proofs.YtkchakcebdenjaaGreat
/-
  What grows and turns one block alone. Nothing of the program; no condition.
-/
namespace Go.Proofs.YtkchakcebdenjaaGreat
open Go.RowKit
theorem grown_trans {w1 w2 w3 : World} {row : Option Nat} (h : w1.grownBy w2 row) (k : w2.grownBy w3 row) : w1.grownBy w3 row :=
  ⟨k.os.trans h.os, k.tape.trans h.tape, k.output.trans h.output, Nat.le_trans h.size k.size, fun i hi hne => (k.block i (Nat.lt_of_lt_of_le hi h.size) hne).trans (h.block i hi hne)⟩
theorem grown_set (w : World) (P : Nat) (j : Nat) (v : Value) : w.grownBy (w.setCell ⟨P, j, none⟩ v) (some P) :=
  ⟨rfl, rfl, rfl, by simp [World.setCell], fun k _ hk => heap_setCell_other w ⟨P, j, none⟩ k v (fun e => hk (by simp [e]))⟩
theorem wpList_store_own {P : Program} {ops : Array Oper} {rest : List Oper} {o : Oper} {a : Act} {w : World} {Q : Exit → Act → World → Prop} (hgd : o.guard = none) (ty : TypeId) (x y : Operand) (ho : o.op = .store ty x y)
    (g : Nat) (cells : Array Value) (hx : a.eval x = .pointer (some ⟨g, 0, none⟩)) (hy : a.eval y = .agg cells)
    (t : TypeId) (old : Array Value) (hg : w.heap[g]? = some (.cells old t (0, 0))) (hi : (P.info? ty).map (·.size) = some cells.size)
    (hold : old.size = cells.size) (h1 : cells.all (·.oneCell') = true)
    (h : ∀ w2 : World, w2.heap[g]? = some (.cells cells t (0, 0)) → Below g w w2 → w2.heap.size = w.heap.size → wpList P ops Q rest (a.put o.dst undef) w2) : wpList P ops Q (o :: rest) a w :=
  wpList_store_row hgd ty x y ho g cells hx hy t old hg hi hold h1 (h _ (setRow_heap w g old _ t _ hg) (below_setRow (Below.refl _ _) (Nat.le_refl _) _) (size_setRow w g cells))
end Go.Proofs.YtkchakcebdenjaaGreat
/-
  A whole struct stored, and what stays where one block alone is turned. Nothing of the program; no condition.
-/
namespace Go.Proofs.YtkchakcebdenjaaGreat
open Go.RowKit
theorem wpList_store_own2 {P : Program} {ops : Array Oper} {rest : List Oper} {o : Oper} {a : Act} {w : World} {Q : Exit → Act → World → Prop} (hgd : o.guard = none) (ty : TypeId) (x y : Operand) (ho : o.op = .store ty x y)
    (g : Nat) (cells : Array Value) (hx : a.eval x = .pointer (some ⟨g, 0, none⟩)) (hy : a.eval y = .agg cells)
    (t : TypeId) (old : Array Value) (hg : w.heap[g]? = some (.cells old t (0, 0))) (hi : (P.info? ty).map (·.size) = some cells.size)
    (hold : old.size = cells.size) (h1 : cells.all (·.oneCell') = true)
    (h : ∀ w2 : World, w2.heap[g]? = some (.cells cells t (0, 0)) → Below g w w2 → w2.heap.size = w.heap.size → (∀ k, k ≠ g → w2.heap[k]? = w.heap[k]?) → wpList P ops Q rest (a.put o.dst undef) w2) : wpList P ops Q (o :: rest) a w :=
  wpList_store_row hgd ty x y ho g cells hx hy t old hg hi hold h1 (h _ (setRow_heap w g old _ t _ hg) (below_setRow (Below.refl _ _) (Nat.le_refl _) _) (size_setRow w g cells) (fun k hk => setRow_other w g k cells hk))
theorem own_ne {w : World} {B : Nat} {e t : TypeId} {k : Nat} {v : Value} {n j : Nat} {xs : List Value} {c : Array Value} {fr : Nat × Nat} (h : w.ownsRow B e k v n xs) (hj : w.heap[j]? = some (.cells c t fr)) (hte : t ≠ e) : v.ownBlock ≠ some j := by
  rcases h.2 with ⟨rfl, _⟩ | ⟨g, cap, cur, rfl, hB, hg, _⟩
  · simp [Value.ownBlock]
  · intro e'
    simp only [Value.ownBlock, Option.some.injEq] at e'
    subst e'
    rw [hg] at hj
    cases hj
    exact hte rfl
end Go.Proofs.YtkchakcebdenjaaGreat
