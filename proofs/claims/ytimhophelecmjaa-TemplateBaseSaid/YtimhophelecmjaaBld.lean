/- strings.Builder's contracts at this program: the shelf's, laid by hand (its own command finds no number for the types of a panic's text, which no body names). -/
import Derived.Shelf.Strings.Builder1
import Derived.Shelf.Strings.Builder2
import Derived.Test.YtimhophelecmjaaProg
namespace Go.Proofs.Ytimhophelecmjaa
open Go.Shelf Go.RowKit
def brenF : Nat → Nat
  | n => n
end Go.Proofs.Ytimhophelecmjaa
