/-
  Contracts of the draws DrawLinkShow, DrawLinkSend, DrawLinkAck. No condition.
-/
import Derived.Test.YtkhokfkcicaojaaDLk2
import Derived.Test.YtkhokfkcicaojaaLkAckM
namespace Go.Proofs.Ytkhokfkcicaojaa
open Go.RowKit

/-- A link that is drawn: it reads as l. -/
def Lkd (w w' : World) (l : Lk) (v1 v2 : Value) : Prop := StRow w' v1 l.q ∧ PcRow w' v2 l.h ∧ l.q.length ≤ 1000 ∧ l.h.length ≤ 1000 ∧ (∀ x ∈ l.q, x.size ≤ maxLen) ∧ (∀ x ∈ l.h, x.s.size ≤ maxLen) ∧ Below w.heap.size w w'

end Go.Proofs.Ytkhokfkcicaojaa
