/-
  Contracts of isNameByte, l2NameByte and the two NameOk: each tells whether a text is a name.
-/
import Derived.Test.YtllfojddaobpmaaNd
namespace Go.Proofs.Ytllfojddaobpmaa
open Go.RowKit

end Go.Proofs.Ytllfojddaobpmaa
