/-
  What MailRead answers: plain mathematics. No condition.
-/
import Derived.Test.YtpkpednemkagiaaRtM
namespace Go.Proofs.Ytpkpednemkagiaa
open Go.RowKit

/-- The text that ends a payload. -/
def mEnd (zs : List Int) (k p a : Int) : Option (Int × Int × ByteArray) := (rt zs a).bind fun t => if t.2 = zs.length then some (k, p, t.1) else none
/-- What a payload says. -/
def mrd (zs : List Int) : Option (Int × Int × ByteArray) :=
  (rd1 zs 0).bind fun k => if k.1 = 1 then (rd1 zs k.2).bind fun p => mEnd zs 1 p.1 p.2 else if k.1 = 2 then mEnd zs 2 0 k.2 else none
def mrA : Option (Int × Int × ByteArray) → Value
  | none => .tuple #[.int .i64 0, .int .i64 0, .string ⟨#[]⟩, .bool false]
  | some (k, p, t) => .tuple #[.int .i64 k, .int .i64 p, .string t, .bool true]
theorem results_tmp4 {fn : Func} {t u v x : Tmp} (h : fn.results = #[.tmp t, .tmp u, .tmp v, .tmp x]) (tmps : Array Value) (P : Program) (w : World) :
    (results fn tmps).run P w = .ok (.tuple #[tmps.getD t undef, tmps.getD u undef, tmps.getD v undef, tmps.getD x undef]) w := by
  simp [results, h]
theorem txt8_false (zs : List Int) (a : Int) : txt8 zs a false = (⟨#[]⟩, a, false) := by simp [txt8]
end Go.Proofs.Ytpkpednemkagiaa
