/-
  A mail, or none, as it is read.
-/
import Derived.Test.YtnmdjdpceegdfaaCRec
import Derived.Test.YtnmdjdpceegdfaaCMailX
namespace Go.Proofs.Ytnmdjdpceegdfaa
open Go.RowKit

abbrev PartsD := ByteArray × ByteArray × ByteArray × ByteArray × ByteArray × Int

def noParts : PartsD := (⟨#[]⟩, ⟨#[]⟩, ⟨#[]⟩, ⟨#[]⟩, ⟨#[]⟩, 0)

def rdNo : Rd PartsD := fun _ i => .ok (noParts, i)

def rdParts : Rd PartsD := rdBind rdText fun _ => rdBind rdText fun _ => rdBind rdText fun _ => rdBind rdText fun _ => rdBind rdText fun _ => rdNum 0 4

def rdMail : Rd (Int × PartsD) := rdBind (rdNum 0 4) fun k => if k = 0 then rdNo else rdParts

end Go.Proofs.Ytnmdjdpceegdfaa
