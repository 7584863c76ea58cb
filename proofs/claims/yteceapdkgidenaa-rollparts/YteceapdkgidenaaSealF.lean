/-
  Slices of bytes that a call itself made (OwnA), behind what Put, Kind, Get, Next and Same of layer 7 return: no statement is proved here.
-/
import Derived.Test.YteceapdkgidenaaSealD
import Derived.Test.YteceapdkgidenaaOwnA
namespace Go.Proofs.Yteceapdkgidenaa
end Go.Proofs.Yteceapdkgidenaa
