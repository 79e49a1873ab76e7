/-
  Contracts of isNameByte, l2NameByte and the two NameOk: each tells whether a text is a name.
-/
import Derived.Test.YtgjebgdingahjaaNd
namespace Go.Proofs.Ytgjebgdingahjaa
open Go.RowKit

end Go.Proofs.Ytgjebgdingahjaa
