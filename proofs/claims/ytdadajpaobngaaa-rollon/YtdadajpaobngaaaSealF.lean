/-
  Slices of bytes that a call itself made (OwnA), behind what Put, Kind, Get, Next and Same of layer 7 return: no statement is proved here.
-/
import Derived.Test.YtdadajpaobngaaaSealD
import Derived.Test.YtdadajpaobngaaaOwnA
namespace Go.Proofs.Ytdadajpaobngaaa
end Go.Proofs.Ytdadajpaobngaaa
