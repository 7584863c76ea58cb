/-
  Texts of my own, joined: no statement is proved here.
-/
import Derived.Deep.Matrix
import Derived.OpenShut
import Derived.Test.YtogdffonjhghcaaGreatDoorJby
set_option linter.unusedSimpArgs false
set_option linter.unusedVariables false
namespace Go.Proofs.YtogdffonjhghcaaGreatDoor
open Go.ChangeShapes Go.WideShapes Go.ChangeAt Go.RowKit
set_option maxRecDepth 100000
section
variable {H : Type} {enc : TypeId × Value → H} {w : World} {base : Nat} {spare : Nat → Bool} {held : Bool}
theorem Zeb {fuel:Nat} {cs:List Value} {x:DataW H×List MemPlace} (h:DataW.trod enc Tryz.prog w base spare held fuel 22 cs=some x):∃ a n c l,cs= [.slice a n c]∧BlsU w a n c l:=by
 rcases Deep.open_slice (e:=64) (by kernel_rfl) h with⟨hcs,_⟩ | ⟨a,len,cap,m,n,D,Pl,hcs,_,hl,hm,hmm,_,hx⟩
 · exact⟨_,_,_, [],hcs,BlsU.nilSlice w⟩
 · have c64:Tryz.prog.cellsOf 64=64:=by kernel_rfl
   have hlm:len≤m:=by rw [hmm];split<;>omega
   have each:∀ i,i < len→∃ y:Blk,∀ j v,y.cs[j]? =some v→w.cell? (a.add (i * 64+j))=some v:=fun i hi=>by
    obtain⟨cs',h1,h2⟩:=hx i (by omega)
    rw [c64]at h1
    obtain⟨y,e1⟩:=Zi5 h2
    obtain⟨_,hlen,hcell⟩:=World.cells?_some h1
    refine⟨y,fun j v hv=>?_⟩
    have hj:j < 64:=by have:=(List.getElem?_eq_some_iff.1 hv).1;rw [y.cs_len]at this;exact this
    have:=hcell j hj
    rw [Deep.add_add,← e1,hv]at this
    exact this
   refine⟨_,_,_,(List.range len).map fun i=>if hi:i < len then Classical.choose (each i hi)else Blk.zero,hcs,by simp,hl,hm,(fun e=>by cases e),fun hn=>?_⟩
   obtain⟨b,o,spot⟩:=a
   have hspot:spot=none:=by
    obtain⟨y,hy⟩:=each 0 hn
    have:=hy 0 _ (List.getElem?_eq_getElem (by rw [y.cs_len];omega))
    simpa [Addr.add]using World.cell?_spot this
   subst hspot
   refine⟨b,o,rfl,fun i hi=>?_⟩
   rw [List.getD_eq_getElem?_getD,List.getElem?_map,List.getElem?_range hi]
   simp only [Option.map_some,Option.getD_some,dif_pos hi]
   have hs:=Classical.choose_spec (each i hi)
   intro j v hv
   have:=hs j v hv
   rw [Addr.add_mid]at this
   rw [show o+i * 64+j=o+(i * 64+j) by omega];exact this
end
end Go.Proofs.YtogdffonjhghcaaGreatDoor
