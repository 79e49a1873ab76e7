/-
  An expression makes no definition; a value makes at most one: plain mathematics. Nothing of the program; no condition.
-/
import Derived.Test.YtkchakcebdenjaaGreatSCp7M
namespace Go.Proofs.YtkchakcebdenjaaGreat
open Go.RowKit
theorem emit_defs (s : CS) (x : In) : (s.emit x).defs = s.defs := by
  unfold CS.emit
  split
  · split <;> rfl
  · rfl
theorem lead_defs (s : CS) (a : Nat) : (s.lead a).defs = s.defs := by
  unfold CS.lead
  split <;> rfl
def KeepD (e : Ex) : Prop := ∀ v env s, (e v env s).defs = s.defs
theorem KeepD.seq {e : Ex} (h : KeepD e) (env : Env) : ∀ (l : List Int) (b : Bool) (s : CS), (cseq e env l b s).defs = s.defs := by
  intro l
  induction l with
  | nil => intro b s; rfl
  | cons v l ih =>
    intro b s
    rw [cseq]
    split
    · rw [ih false _, h v env _]
      split
      · rfl
      · exact emit_defs _ _
    · rfl
theorem KeepD.fn {e : Ex} (h : KeepD e) (names : List ByteArray) (body : List Int) (env : Env) (s : CS) : (cfun e names body env s).defs = s.defs := by
  unfold cfun
  dsimp only
  unfold cbody
  rw [lead_defs, emit_defs, h.seq, lead_defs, emit_defs, emit_defs]
theorem KeepD.fold {e : Ex} (h : KeepD e) (env : Env) : ∀ (l : List Int) (s : CS), (l.foldl (fun s u => e u env s) s).defs = s.defs := by
  intro l
  induction l with
  | nil => intro s; rfl
  | cons v l ih => intro s; rw [List.foldl_cons, ih, h]
theorem KeepD.form {e : Ex} (h : KeepD e) (xs : List Nd) (head : ByteArray) (l : List Int) (env : Env) (s : CS) : (cform e xs head l env s).defs = s.defs := by
  unfold cform
  split
  · exact emit_defs _ _
  split
  · unfold cif
    dsimp only
    rw [lead_defs, h, lead_defs, emit_defs, h, emit_defs, h]
  split
  · exact h.seq _ _ _ _
  split
  · split
    · unfold cnames
      split
      · exact h.fn _ _ _ _
      · rfl
    · rfl
  split
  · split
    · rw [emit_defs, h, h.fn]
    · rfl
  · rfl
theorem KeepD.one {e : Ex} (h : KeepD e) (xs : List Nd) : KeepD (cone e xs) := by
  intro v env s
  unfold cone
  split
  · split
    · exact emit_defs _ _
    split
    · split
      · rfl
      · split <;> exact emit_defs _ _
    split
    · split
      · dsimp only
        split
        · exact h.form _ _ _ _ _
        split
        · rfl
        · unfold ccall
          rw [emit_defs, h.fold]
      · rfl
    · rfl
  · rfl
theorem cexp_keepD (xs : List Nd) : ∀ f, KeepD (cexp xs f) := by
  intro f
  induction f with
  | zero => intro v env s; rfl
  | succ f ih => exact ih.one xs
theorem cdefine_len {e : Ex} (h : KeepD e) (name : ByteArray) (names : List ByteArray) (body : List Int) (s : CS) : (cdefine e name names body s).defs.length ≤ s.defs.length + 1 := by
  unfold cdefine
  split
  · exact Nat.le_succ _
  · unfold cbody
    rw [emit_defs, h.seq]
    simp
theorem ctop_len (xs : List Nd) (v : Int) (s : CS) : (ctop xs v s).defs.length ≤ s.defs.length + 1 := by
  unfold ctop
  dsimp only
  split
  · split
    · split
      · exact cdefine_len (cexp_keepD xs _) _ _ _ _
      · exact Nat.le_succ _
    · exact Nat.le_succ _
  · exact cdefine_len (cexp_keepD xs _) _ _ _ _
end Go.Proofs.YtkchakcebdenjaaGreat
