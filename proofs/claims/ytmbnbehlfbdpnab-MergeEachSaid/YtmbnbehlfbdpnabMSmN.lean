/- A clash that there always is. -/
import Derived.Test.YtmbnbehlfbdpnabMAppF
namespace Go.Proofs.Ytmbnbehlfbdpnab
open Go.RowKit

instance : Inhabited Cl := ⟨⟨⟨#[]⟩, ⟨no, no, no⟩⟩⟩
/-- Whether two files are the same. -/
def fiEq (a b : Fi) : Bool := (a.path.toList == b.path.toList) && (a.text.toList == b.text.toList)
end Go.Proofs.Ytmbnbehlfbdpnab
