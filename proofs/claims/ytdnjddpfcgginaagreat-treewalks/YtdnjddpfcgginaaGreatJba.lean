/-
  Texts of my own, joined: no statement is proved here.
-/
import Derived.Test.YtdnjddpfcgginaaGreatJaw
import Derived.Test.YtdnjddpfcgginaaGreatJax
import Derived.Test.YtdnjddpfcgginaaGreatJaz
set_option linter.unusedSimpArgs false
set_option linter.unusedVariables false
namespace Go.Proofs.YtdnjddpfcgginaaGreat
open Go.ChangeShapes Go.WideShapes Go.ChangeAt Go.RowKit
set_option maxRecDepth 100000
set_option maxHeartbeats 8000000 in
theorem an1 {w:World} {U:Nat→Prop} {g B:Nat} {q:Int→Nat} {Z Z':Tz} {E:Int} (h:Tx w U g q B Z) (o:Oz) (s:Sv) (hk:o.k=1)
 (hR:∀ w',Below w.heap.size w w'→Calls Tryz.prog 52 #[.pointer (some ⟨g,0,none⟩), .agg (opC o s).toArray] w' fun e u=>Ret e U g B Z Z' E w' u):
 Calls Tryz.prog 27 #[.pointer (some ⟨g,0,none⟩), .agg (opC o s).toArray] w fun e w'=>Ret e U g B Z Z' E w w':=by
 have hU:=h.low
 go_enter Tryz.func27,Tryz.ntmps27
 go_wp2_with (first
  | (refine Z05 (by rfl) _ (by rfl) o s (by rfl) ?_;intro g1 w1 z1 z2 r1 b1
     have Bc:=b1
     have v1:=b1.size
     have c10:=r1.cell 0 _ rfl
     rw [hk]at c10)
  | (refine Z02 (by rfl) (by rfl) ?_;intro g2 w2 z3 z4 r2 b2
     replace Bc:=Z00q Bc b2 (Nat.le_refl _)
     have v2:=b2.size
     replace r1:=r1.later b2
     clear c10
     have c10:=r1.cell 0 _ rfl
     rw [hk]at c10)
  | (refine Z0k 37 8 _ Z0q (by rfl) _ (by rfl) g1 (by rfl) _ r1 rfl ?_)
  | (go_at_call 52;refine(hR _ Bc).mono ?_;rintro e w3 ⟨A,q',rfl,hA,G⟩
     have r2':=r2.step G.stp (fun e=>by have:=hU g2 e;omega))
  | (refine Z03 (by rfl) _ _ (by rfl) g2 (by rfl) A 0 hA (by rfl) _ r2' rfl ?_;intro w9 r9 s9))
 exact bodyPost_ret (Z0d Z06 Tryz.results27 rfl rfl r9 hA.len) rfl ⟨A,q',rfl,hA,TxG.fin hU Bc G (by omega) (by omega) s9⟩
set_option maxHeartbeats 8000000 in
theorem an2 {w:World} {U:Nat→Prop} {g B:Nat} {q:Int→Nat} {Z Z':Tz} {E:Int} (h:Tx w U g q B Z) (o:Oz) (s:Sv) (hk:o.k=2)
 (hR:∀ w',Below w.heap.size w w'→Calls Tryz.prog 53 #[.pointer (some ⟨g,0,none⟩), .agg (opC o s).toArray] w' fun e u=>Ret e U g B Z Z' E w' u):
 Calls Tryz.prog 27 #[.pointer (some ⟨g,0,none⟩), .agg (opC o s).toArray] w fun e w'=>Ret e U g B Z Z' E w w':=by
 have hU:=h.low
 go_enter Tryz.func27,Tryz.ntmps27
 go_wp2_with (first
  | (refine Z05 (by rfl) _ (by rfl) o s (by rfl) ?_;intro g1 w1 z1 z2 r1 b1
     have Bc:=b1
     have v1:=b1.size
     have c10:=r1.cell 0 _ rfl
     rw [hk]at c10)
  | (refine Z02 (by rfl) (by rfl) ?_;intro g2 w2 z3 z4 r2 b2
     replace Bc:=Z00q Bc b2 (Nat.le_refl _)
     have v2:=b2.size
     replace r1:=r1.later b2
     clear c10
     have c10:=r1.cell 0 _ rfl
     rw [hk]at c10)
  | (refine Z0k 37 8 _ Z0q (by rfl) _ (by rfl) g1 (by rfl) _ r1 rfl ?_)
  | (go_at_call 53;refine(hR _ Bc).mono ?_;rintro e w3 ⟨A,q',rfl,hA,G⟩
     have r2':=r2.step G.stp (fun e=>by have:=hU g2 e;omega))
  | (refine Z03 (by rfl) _ _ (by rfl) g2 (by rfl) A 0 hA (by rfl) _ r2' rfl ?_;intro w9 r9 s9))
 exact bodyPost_ret (Z0d Z06 Tryz.results27 rfl rfl r9 hA.len) rfl ⟨A,q',rfl,hA,TxG.fin hU Bc G (by omega) (by omega) s9⟩
set_option maxHeartbeats 8000000 in
theorem an3 {w:World} {U:Nat→Prop} {g B:Nat} {q:Int→Nat} {Z Z':Tz} {E:Int} (h:Tx w U g q B Z) (o:Oz) (s:Sv) (hk:o.k=3)
 (hR:∀ w',Below w.heap.size w w'→Calls Tryz.prog 54 #[.pointer (some ⟨g,0,none⟩), .agg (opC o s).toArray] w' fun e u=>Ret e U g B Z Z' E w' u):
 Calls Tryz.prog 27 #[.pointer (some ⟨g,0,none⟩), .agg (opC o s).toArray] w fun e w'=>Ret e U g B Z Z' E w w':=by
 have hU:=h.low
 go_enter Tryz.func27,Tryz.ntmps27
 go_wp2_with (first
  | (refine Z05 (by rfl) _ (by rfl) o s (by rfl) ?_;intro g1 w1 z1 z2 r1 b1
     have Bc:=b1
     have v1:=b1.size
     have c10:=r1.cell 0 _ rfl
     rw [hk]at c10)
  | (refine Z02 (by rfl) (by rfl) ?_;intro g2 w2 z3 z4 r2 b2
     replace Bc:=Z00q Bc b2 (Nat.le_refl _)
     have v2:=b2.size
     replace r1:=r1.later b2
     clear c10
     have c10:=r1.cell 0 _ rfl
     rw [hk]at c10)
  | (refine Z0k 37 8 _ Z0q (by rfl) _ (by rfl) g1 (by rfl) _ r1 rfl ?_)
  | (go_at_call 54;refine(hR _ Bc).mono ?_;rintro e w3 ⟨A,q',rfl,hA,G⟩
     have r2':=r2.step G.stp (fun e=>by have:=hU g2 e;omega))
  | (refine Z03 (by rfl) _ _ (by rfl) g2 (by rfl) A 0 hA (by rfl) _ r2' rfl ?_;intro w9 r9 s9))
 exact bodyPost_ret (Z0d Z06 Tryz.results27 rfl rfl r9 hA.len) rfl ⟨A,q',rfl,hA,TxG.fin hU Bc G (by omega) (by omega) s9⟩
set_option maxHeartbeats 8000000 in
theorem an4 {w:World} {U:Nat→Prop} {g B:Nat} {q:Int→Nat} {Z Z':Tz} {E:Int} (h:Tx w U g q B Z) (o:Oz) (s:Sv) (hk:o.k=4)
 (hR:∀ w',Below w.heap.size w w'→Calls Tryz.prog 55 #[.pointer (some ⟨g,0,none⟩), .agg (opC o s).toArray] w' fun e u=>Ret e U g B Z Z' E w' u):
 Calls Tryz.prog 27 #[.pointer (some ⟨g,0,none⟩), .agg (opC o s).toArray] w fun e w'=>Ret e U g B Z Z' E w w':=by
 have hU:=h.low
 go_enter Tryz.func27,Tryz.ntmps27
 go_wp2_with (first
  | (refine Z05 (by rfl) _ (by rfl) o s (by rfl) ?_;intro g1 w1 z1 z2 r1 b1
     have Bc:=b1
     have v1:=b1.size
     have c10:=r1.cell 0 _ rfl
     rw [hk]at c10)
  | (refine Z02 (by rfl) (by rfl) ?_;intro g2 w2 z3 z4 r2 b2
     replace Bc:=Z00q Bc b2 (Nat.le_refl _)
     have v2:=b2.size
     replace r1:=r1.later b2
     clear c10
     have c10:=r1.cell 0 _ rfl
     rw [hk]at c10)
  | (refine Z0k 37 8 _ Z0q (by rfl) _ (by rfl) g1 (by rfl) _ r1 rfl ?_)
  | (go_at_call 55;refine(hR _ Bc).mono ?_;rintro e w3 ⟨A,q',rfl,hA,G⟩
     have r2':=r2.step G.stp (fun e=>by have:=hU g2 e;omega))
  | (refine Z03 (by rfl) _ _ (by rfl) g2 (by rfl) A 0 hA (by rfl) _ r2' rfl ?_;intro w9 r9 s9))
 exact bodyPost_ret (Z0d Z06 Tryz.results27 rfl rfl r9 hA.len) rfl ⟨A,q',rfl,hA,TxG.fin hU Bc G (by omega) (by omega) s9⟩
set_option maxHeartbeats 8000000 in
theorem an5 {w:World} {U:Nat→Prop} {g B:Nat} {q:Int→Nat} {Z Z':Tz} {E:Int} (h:Tx w U g q B Z) (o:Oz) (s:Sv) (hk:o.k=5)
 (hR:∀ w',Below w.heap.size w w'→Calls Tryz.prog 56 #[.pointer (some ⟨g,0,none⟩), .agg (opC o s).toArray] w' fun e u=>Ret e U g B Z Z' E w' u):
 Calls Tryz.prog 27 #[.pointer (some ⟨g,0,none⟩), .agg (opC o s).toArray] w fun e w'=>Ret e U g B Z Z' E w w':=by
 have hU:=h.low
 go_enter Tryz.func27,Tryz.ntmps27
 go_wp2_with (first
  | (refine Z05 (by rfl) _ (by rfl) o s (by rfl) ?_;intro g1 w1 z1 z2 r1 b1
     have Bc:=b1
     have v1:=b1.size
     have c10:=r1.cell 0 _ rfl
     rw [hk]at c10)
  | (refine Z02 (by rfl) (by rfl) ?_;intro g2 w2 z3 z4 r2 b2
     replace Bc:=Z00q Bc b2 (Nat.le_refl _)
     have v2:=b2.size
     replace r1:=r1.later b2
     clear c10
     have c10:=r1.cell 0 _ rfl
     rw [hk]at c10)
  | (refine Z0k 37 8 _ Z0q (by rfl) _ (by rfl) g1 (by rfl) _ r1 rfl ?_)
  | (go_at_call 56;refine(hR _ Bc).mono ?_;rintro e w3 ⟨A,q',rfl,hA,G⟩
     have r2':=r2.step G.stp (fun e=>by have:=hU g2 e;omega))
  | (refine Z03 (by rfl) _ _ (by rfl) g2 (by rfl) A 0 hA (by rfl) _ r2' rfl ?_;intro w9 r9 s9))
 exact bodyPost_ret (Z0d Z06 Tryz.results27 rfl rfl r9 hA.len) rfl ⟨A,q',rfl,hA,TxG.fin hU Bc G (by omega) (by omega) s9⟩
set_option maxHeartbeats 8000000 in
theorem an6 {w:World} {U:Nat→Prop} {g B:Nat} {q:Int→Nat} {Z Z':Tz} {E:Int} (h:Tx w U g q B Z) (o:Oz) (s:Sv) (hk:o.k=6)
 (hR:∀ w',Below w.heap.size w w'→Calls Tryz.prog 57 #[.pointer (some ⟨g,0,none⟩), .agg (opC o s).toArray] w' fun e u=>Ret e U g B Z Z' E w' u):
 Calls Tryz.prog 27 #[.pointer (some ⟨g,0,none⟩), .agg (opC o s).toArray] w fun e w'=>Ret e U g B Z Z' E w w':=by
 have hU:=h.low
 go_enter Tryz.func27,Tryz.ntmps27
 go_wp2_with (first
  | (refine Z05 (by rfl) _ (by rfl) o s (by rfl) ?_;intro g1 w1 z1 z2 r1 b1
     have Bc:=b1
     have v1:=b1.size
     have c10:=r1.cell 0 _ rfl
     rw [hk]at c10)
  | (refine Z02 (by rfl) (by rfl) ?_;intro g2 w2 z3 z4 r2 b2
     replace Bc:=Z00q Bc b2 (Nat.le_refl _)
     have v2:=b2.size
     replace r1:=r1.later b2
     clear c10
     have c10:=r1.cell 0 _ rfl
     rw [hk]at c10)
  | (refine Z0k 37 8 _ Z0q (by rfl) _ (by rfl) g1 (by rfl) _ r1 rfl ?_)
  | (go_at_call 57;refine(hR _ Bc).mono ?_;rintro e w3 ⟨A,q',rfl,hA,G⟩
     have r2':=r2.step G.stp (fun e=>by have:=hU g2 e;omega))
  | (refine Z03 (by rfl) _ _ (by rfl) g2 (by rfl) A 0 hA (by rfl) _ r2' rfl ?_;intro w9 r9 s9))
 exact bodyPost_ret (Z0d Z06 Tryz.results27 rfl rfl r9 hA.len) rfl ⟨A,q',rfl,hA,TxG.fin hU Bc G (by omega) (by omega) s9⟩
set_option maxHeartbeats 8000000 in
theorem an7 {w:World} {U:Nat→Prop} {g B:Nat} {q:Int→Nat} {Z Z':Tz} {E:Int} (h:Tx w U g q B Z) (o:Oz) (s:Sv) (hk:o.k=7)
 (hR:∀ w',Below w.heap.size w w'→Calls Tryz.prog 58 #[.pointer (some ⟨g,0,none⟩), .agg (opC o s).toArray] w' fun e u=>Ret e U g B Z Z' E w' u):
 Calls Tryz.prog 27 #[.pointer (some ⟨g,0,none⟩), .agg (opC o s).toArray] w fun e w'=>Ret e U g B Z Z' E w w':=by
 have hU:=h.low
 go_enter Tryz.func27,Tryz.ntmps27
 go_wp2_with (first
  | (refine Z05 (by rfl) _ (by rfl) o s (by rfl) ?_;intro g1 w1 z1 z2 r1 b1
     have Bc:=b1
     have v1:=b1.size
     have c10:=r1.cell 0 _ rfl
     rw [hk]at c10)
  | (refine Z02 (by rfl) (by rfl) ?_;intro g2 w2 z3 z4 r2 b2
     replace Bc:=Z00q Bc b2 (Nat.le_refl _)
     have v2:=b2.size
     replace r1:=r1.later b2
     clear c10
     have c10:=r1.cell 0 _ rfl
     rw [hk]at c10)
  | (refine Z0k 37 8 _ Z0q (by rfl) _ (by rfl) g1 (by rfl) _ r1 rfl ?_)
  | (go_at_call 58;refine(hR _ Bc).mono ?_;rintro e w3 ⟨A,q',rfl,hA,G⟩
     have r2':=r2.step G.stp (fun e=>by have:=hU g2 e;omega))
  | (refine Z03 (by rfl) _ _ (by rfl) g2 (by rfl) A 0 hA (by rfl) _ r2' rfl ?_;intro w9 r9 s9))
 exact bodyPost_ret (Z0d Z06 Tryz.results27 rfl rfl r9 hA.len) rfl ⟨A,q',rfl,hA,TxG.fin hU Bc G (by omega) (by omega) s9⟩
set_option maxRecDepth 100000
set_option maxHeartbeats 8000000 in
theorem an8 {w:World} {U:Nat→Prop} {g B:Nat} {q:Int→Nat} {Z Z':Tz} {E:Int} (h:Tx w U g q B Z) (o:Oz) (s:Sv) (hk:o.k=8)
 (hR:∀ w',Below w.heap.size w w'→Calls Tryz.prog 59 #[.pointer (some ⟨g,0,none⟩), .agg (opC o s).toArray] w' fun e u=>Ret e U g B Z Z' E w' u):
 Calls Tryz.prog 27 #[.pointer (some ⟨g,0,none⟩), .agg (opC o s).toArray] w fun e w'=>Ret e U g B Z Z' E w w':=by
 have hU:=h.low
 go_enter Tryz.func27,Tryz.ntmps27
 go_wp2_with (first
  | (refine Z05 (by rfl) _ (by rfl) o s (by rfl) ?_;intro g1 w1 z1 z2 r1 b1
     have Bc:=b1
     have v1:=b1.size
     have c10:=r1.cell 0 _ rfl
     rw [hk]at c10)
  | (refine Z02 (by rfl) (by rfl) ?_;intro g2 w2 z3 z4 r2 b2
     replace Bc:=Z00q Bc b2 (Nat.le_refl _)
     have v2:=b2.size
     replace r1:=r1.later b2
     clear c10
     have c10:=r1.cell 0 _ rfl
     rw [hk]at c10)
  | (refine Z0k 37 8 _ Z0q (by rfl) _ (by rfl) g1 (by rfl) _ r1 rfl ?_)
  | (go_at_call 59;refine(hR _ Bc).mono ?_;rintro e w3 ⟨A,q',rfl,hA,G⟩
     have r2':=r2.step G.stp (fun e=>by have:=hU g2 e;omega))
  | (refine Z03 (by rfl) _ _ (by rfl) g2 (by rfl) A 0 hA (by rfl) _ r2' rfl ?_;intro w9 r9 s9))
 exact bodyPost_ret (Z0d Z06 Tryz.results27 rfl rfl r9 hA.len) rfl ⟨A,q',rfl,hA,TxG.fin hU Bc G (by omega) (by omega) s9⟩
set_option maxHeartbeats 8000000 in
theorem an9 {w:World} {U:Nat→Prop} {g B:Nat} {q:Int→Nat} {Z Z':Tz} {E:Int} (h:Tx w U g q B Z) (o:Oz) (s:Sv) (hk:o.k=9)
 (hR:∀ w',Below w.heap.size w w'→Calls Tryz.prog 60 #[.pointer (some ⟨g,0,none⟩), .agg (opC o s).toArray] w' fun e u=>Ret e U g B Z Z' E w' u):
 Calls Tryz.prog 27 #[.pointer (some ⟨g,0,none⟩), .agg (opC o s).toArray] w fun e w'=>Ret e U g B Z Z' E w w':=by
 have hU:=h.low
 go_enter Tryz.func27,Tryz.ntmps27
 go_wp2_with (first
  | (refine Z05 (by rfl) _ (by rfl) o s (by rfl) ?_;intro g1 w1 z1 z2 r1 b1
     have Bc:=b1
     have v1:=b1.size
     have c10:=r1.cell 0 _ rfl
     rw [hk]at c10)
  | (refine Z02 (by rfl) (by rfl) ?_;intro g2 w2 z3 z4 r2 b2
     replace Bc:=Z00q Bc b2 (Nat.le_refl _)
     have v2:=b2.size
     replace r1:=r1.later b2
     clear c10
     have c10:=r1.cell 0 _ rfl
     rw [hk]at c10)
  | (refine Z0k 37 8 _ Z0q (by rfl) _ (by rfl) g1 (by rfl) _ r1 rfl ?_)
  | (go_at_call 60;refine(hR _ Bc).mono ?_;rintro e w3 ⟨A,q',rfl,hA,G⟩
     have r2':=r2.step G.stp (fun e=>by have:=hU g2 e;omega))
  | (refine Z03 (by rfl) _ _ (by rfl) g2 (by rfl) A 0 hA (by rfl) _ r2' rfl ?_;intro w9 r9 s9))
 exact bodyPost_ret (Z0d Z06 Tryz.results27 rfl rfl r9 hA.len) rfl ⟨A,q',rfl,hA,TxG.fin hU Bc G (by omega) (by omega) s9⟩
set_option maxHeartbeats 8000000 in
theorem an10 {w:World} {U:Nat→Prop} {g B:Nat} {q:Int→Nat} {Z Z':Tz} {E:Int} (h:Tx w U g q B Z) (o:Oz) (s:Sv) (hk:o.k=10)
 (hR:∀ w',Below w.heap.size w w'→Calls Tryz.prog 61 #[.pointer (some ⟨g,0,none⟩), .agg (opC o s).toArray] w' fun e u=>Ret e U g B Z Z' E w' u):
 Calls Tryz.prog 27 #[.pointer (some ⟨g,0,none⟩), .agg (opC o s).toArray] w fun e w'=>Ret e U g B Z Z' E w w':=by
 have hU:=h.low
 go_enter Tryz.func27,Tryz.ntmps27
 go_wp2_with (first
  | (refine Z05 (by rfl) _ (by rfl) o s (by rfl) ?_;intro g1 w1 z1 z2 r1 b1
     have Bc:=b1
     have v1:=b1.size
     have c10:=r1.cell 0 _ rfl
     rw [hk]at c10)
  | (refine Z02 (by rfl) (by rfl) ?_;intro g2 w2 z3 z4 r2 b2
     replace Bc:=Z00q Bc b2 (Nat.le_refl _)
     have v2:=b2.size
     replace r1:=r1.later b2
     clear c10
     have c10:=r1.cell 0 _ rfl
     rw [hk]at c10)
  | (refine Z0k 37 8 _ Z0q (by rfl) _ (by rfl) g1 (by rfl) _ r1 rfl ?_)
  | (go_at_call 61;refine(hR _ Bc).mono ?_;rintro e w3 ⟨A,q',rfl,hA,G⟩
     have r2':=r2.step G.stp (fun e=>by have:=hU g2 e;omega))
  | (refine Z03 (by rfl) _ _ (by rfl) g2 (by rfl) A 0 hA (by rfl) _ r2' rfl ?_;intro w9 r9 s9))
 exact bodyPost_ret (Z0d Z06 Tryz.results27 rfl rfl r9 hA.len) rfl ⟨A,q',rfl,hA,TxG.fin hU Bc G (by omega) (by omega) s9⟩
set_option maxHeartbeats 8000000 in
theorem an11 {w:World} {U:Nat→Prop} {g B:Nat} {q:Int→Nat} {Z Z':Tz} {E:Int} (h:Tx w U g q B Z) (o:Oz) (s:Sv) (hk:o.k=11)
 (hR:∀ w',Below w.heap.size w w'→Calls Tryz.prog 62 #[.pointer (some ⟨g,0,none⟩), .agg (opC o s).toArray] w' fun e u=>Ret e U g B Z Z' E w' u):
 Calls Tryz.prog 27 #[.pointer (some ⟨g,0,none⟩), .agg (opC o s).toArray] w fun e w'=>Ret e U g B Z Z' E w w':=by
 have hU:=h.low
 go_enter Tryz.func27,Tryz.ntmps27
 go_wp2_with (first
  | (refine Z05 (by rfl) _ (by rfl) o s (by rfl) ?_;intro g1 w1 z1 z2 r1 b1
     have Bc:=b1
     have v1:=b1.size
     have c10:=r1.cell 0 _ rfl
     rw [hk]at c10)
  | (refine Z02 (by rfl) (by rfl) ?_;intro g2 w2 z3 z4 r2 b2
     replace Bc:=Z00q Bc b2 (Nat.le_refl _)
     have v2:=b2.size
     replace r1:=r1.later b2
     clear c10
     have c10:=r1.cell 0 _ rfl
     rw [hk]at c10)
  | (refine Z0k 37 8 _ Z0q (by rfl) _ (by rfl) g1 (by rfl) _ r1 rfl ?_)
  | (go_at_call 62;refine(hR _ Bc).mono ?_;rintro e w3 ⟨A,q',rfl,hA,G⟩
     have r2':=r2.step G.stp (fun e=>by have:=hU g2 e;omega))
  | (refine Z03 (by rfl) _ _ (by rfl) g2 (by rfl) A 0 hA (by rfl) _ r2' rfl ?_;intro w9 r9 s9))
 exact bodyPost_ret (Z0d Z06 Tryz.results27 rfl rfl r9 hA.len) rfl ⟨A,q',rfl,hA,TxG.fin hU Bc G (by omega) (by omega) s9⟩
set_option maxHeartbeats 8000000 in
theorem an12 {w:World} {U:Nat→Prop} {g B:Nat} {q:Int→Nat} {Z Z':Tz} {E:Int} (h:Tx w U g q B Z) (o:Oz) (s:Sv) (hk:o.k=12)
 (hR:∀ w',Below w.heap.size w w'→Calls Tryz.prog 63 #[.pointer (some ⟨g,0,none⟩), .agg (opC o s).toArray] w' fun e u=>Ret e U g B Z Z' E w' u):
 Calls Tryz.prog 27 #[.pointer (some ⟨g,0,none⟩), .agg (opC o s).toArray] w fun e w'=>Ret e U g B Z Z' E w w':=by
 have hU:=h.low
 go_enter Tryz.func27,Tryz.ntmps27
 go_wp2_with (first
  | (refine Z05 (by rfl) _ (by rfl) o s (by rfl) ?_;intro g1 w1 z1 z2 r1 b1
     have Bc:=b1
     have v1:=b1.size
     have c10:=r1.cell 0 _ rfl
     rw [hk]at c10)
  | (refine Z02 (by rfl) (by rfl) ?_;intro g2 w2 z3 z4 r2 b2
     replace Bc:=Z00q Bc b2 (Nat.le_refl _)
     have v2:=b2.size
     replace r1:=r1.later b2
     clear c10
     have c10:=r1.cell 0 _ rfl
     rw [hk]at c10)
  | (refine Z0k 37 8 _ Z0q (by rfl) _ (by rfl) g1 (by rfl) _ r1 rfl ?_)
  | (go_at_call 63;refine(hR _ Bc).mono ?_;rintro e w3 ⟨A,q',rfl,hA,G⟩
     have r2':=r2.step G.stp (fun e=>by have:=hU g2 e;omega))
  | (refine Z03 (by rfl) _ _ (by rfl) g2 (by rfl) A 0 hA (by rfl) _ r2' rfl ?_;intro w9 r9 s9))
 exact bodyPost_ret (Z0d Z06 Tryz.results27 rfl rfl r9 hA.len) rfl ⟨A,q',rfl,hA,TxG.fin hU Bc G (by omega) (by omega) s9⟩
set_option maxHeartbeats 8000000 in
theorem an13 {w:World} {U:Nat→Prop} {g B:Nat} {q:Int→Nat} {Z Z':Tz} {E:Int} (h:Tx w U g q B Z) (o:Oz) (s:Sv) (hk:o.k=13)
 (hR:∀ w',Below w.heap.size w w'→Calls Tryz.prog 64 #[.pointer (some ⟨g,0,none⟩), .agg (opC o s).toArray] w' fun e u=>Ret e U g B Z Z' E w' u):
 Calls Tryz.prog 27 #[.pointer (some ⟨g,0,none⟩), .agg (opC o s).toArray] w fun e w'=>Ret e U g B Z Z' E w w':=by
 have hU:=h.low
 go_enter Tryz.func27,Tryz.ntmps27
 go_wp2_with (first
  | (refine Z05 (by rfl) _ (by rfl) o s (by rfl) ?_;intro g1 w1 z1 z2 r1 b1
     have Bc:=b1
     have v1:=b1.size
     have c10:=r1.cell 0 _ rfl
     rw [hk]at c10)
  | (refine Z02 (by rfl) (by rfl) ?_;intro g2 w2 z3 z4 r2 b2
     replace Bc:=Z00q Bc b2 (Nat.le_refl _)
     have v2:=b2.size
     replace r1:=r1.later b2
     clear c10
     have c10:=r1.cell 0 _ rfl
     rw [hk]at c10)
  | (refine Z0k 37 8 _ Z0q (by rfl) _ (by rfl) g1 (by rfl) _ r1 rfl ?_)
  | (go_at_call 64;refine(hR _ Bc).mono ?_;rintro e w3 ⟨A,q',rfl,hA,G⟩
     have r2':=r2.step G.stp (fun e=>by have:=hU g2 e;omega))
  | (refine Z03 (by rfl) _ _ (by rfl) g2 (by rfl) A 0 hA (by rfl) _ r2' rfl ?_;intro w9 r9 s9))
 exact bodyPost_ret (Z0d Z06 Tryz.results27 rfl rfl r9 hA.len) rfl ⟨A,q',rfl,hA,TxG.fin hU Bc G (by omega) (by omega) s9⟩
set_option maxHeartbeats 8000000 in
theorem an15 {w:World} {U:Nat→Prop} {g B:Nat} {q:Int→Nat} {Z Z':Tz} (h:Tx w U g q B Z) (o:Oz) (s:Sv) (hk:o.k=15):
 Calls Tryz.prog 27 #[.pointer (some ⟨g,0,none⟩), .agg (opC o s).toArray] w fun e w'=>Ret e U g B Z Z 0 w w':=by
 have hU:=h.low
 go_enter Tryz.func27,Tryz.ntmps27
 go_wp2_with (first
  | (refine Z05 (by rfl) _ (by rfl) o s (by rfl) ?_;intro g1 w1 z1 z2 r1 b1
     have Bc:=b1
     have v1:=b1.size
     have c10:=r1.cell 0 _ rfl
     rw [hk]at c10)
  | (refine Z02 (by rfl) (by rfl) ?_;intro g2 w2 z3 z4 r2 b2
     replace Bc:=Z00q Bc b2 (Nat.le_refl _)
     have v2:=b2.size
     replace r1:=r1.later b2
     clear c10
     have c10:=r1.cell 0 _ rfl
     rw [hk]at c10)
  | (refine Z03 (by rfl) _ _ (by rfl) g2 (by rfl) anZ 0 Z0c (by rfl) _ r2 rfl ?_;intro w9 r9 s9))
 exact bodyPost_ret (Z0d Z06 Tryz.results27 rfl rfl r9 rfl) rfl (Z17 Z0c ((TxG.same h Bc (by omega) s9).more (Nat.le_succ B)))
set_option maxHeartbeats 8000000 in
theorem an0 {w:World} {U:Nat→Prop} {g B:Nat} {q:Int→Nat} {Z Z':Tz} (h:Tx w U g q B Z) (o:Oz) (s:Sv)  (q1:(o.k==1)=false) (q2:(o.k==2)=false) (q3:(o.k==3)=false) (q4:(o.k==4)=false) (q5:(o.k==5)=false) (q6:(o.k==6)=false) (q7:(o.k==7)=false) (q8:(o.k==8)=false) (q9:(o.k==9)=false) (q10:(o.k==10)=false) (q11:(o.k==11)=false) (q12:(o.k==12)=false) (q13:(o.k==13)=false) (q14:(o.k==14)=false) (q15:(o.k==15)=false):
 Calls Tryz.prog 27 #[.pointer (some ⟨g,0,none⟩), .agg (opC o s).toArray] w fun e w'=>Ret e U g B Z Z' 2 w w':=by
 have hU:=h.low
 go_enter Tryz.func27,Tryz.ntmps27
 go_wp2_with (first
  | (refine Z05 (by rfl) _ (by rfl) o s (by rfl) ?_;intro g1 w1 z1 z2 r1 b1
     have Bc:=b1
     have v1:=b1.size
     have c10:=r1.cell 0 _ rfl)
  | (refine Z02 (by rfl) (by rfl) ?_;intro g2 w2 z3 z4 r2 b2
     replace Bc:=Z00q Bc b2 (Nat.le_refl _)
     have v2:=b2.size
     replace r1:=r1.later b2
     clear c10
     have c10:=r1.cell 0 _ rfl)
  | (refine Z03 (by rfl) _ _ (by rfl) g2 (by rfl) anZ 0 Z0c (by rfl) _ r2 rfl ?_;intro w9 r9 s9))
 exact bodyPost_ret (Z0d Z06 Tryz.results27 rfl rfl r9 rfl) rfl (Z0p (by decide) (TxG.same h Bc (by omega) s9))
set_option maxHeartbeats 8000000 in
theorem an14 {w:World} {U:Nat→Prop} {g B:Nat} {q:Int→Nat} {Z Z':Tz} (h:Tx w U g q B Z) (o:Oz) (s:Sv) (hk:o.k=14):
 Calls Tryz.prog 27 #[.pointer (some ⟨g,0,none⟩), .agg (opC o s).toArray] w fun e w'=>Ret e U g B Z Z (Z04 Z.t o.fd) w w':=by
 have hU:=h.low
 go_enter Tryz.func27,Tryz.ntmps27
 go_upto_region 29 with(first
  | (refine Z05 (by rfl) _ (by rfl) o s (by rfl) ?_;intro g1 w1 z1 z2 r1 b1
     have Bc:=b1
     have v1:=b1.size
     have c10:=r1.cell 0 _ rfl
     rw [hk]at c10)
  | (refine Z02 (by rfl) (by rfl) ?_;intro g2 w2 z3 z4 r2 b2
     replace Bc:=Z00q Bc b2 (Nat.le_refl _)
     have v2:=b2.size
     replace r1:=r1.later b2
     clear c10
     have c10:=r1.cell 0 _ rfl
     rw [hk]at c10))
 go_cut [6,7] (fun u v wx=>∃ g6,u= .pointer (some ⟨g6,0,none⟩)∧v= .int .i64 (Z04 Z.t o.fd)∧Below w2.heap.size w2 wx)
 case first=>
  obtain⟨tg,mb,ob,nb,sv,H2,hU2⟩:=h.later Bc
  refine wp_region_held_drew (S:=fun u=>Below w2.heap.size w2 u) (by kernel_rfl) (Below.refl _ _).drew (fun hHeld=>?_)
  refine tl 0 (.pointer (some ⟨g,0,none⟩)) rfl ?_
  try simp only [z]
  refine tl 1 (.pointer (some ⟨g,0,none⟩)) rfl ?_
  try simp only [z]
  refine tl 2 (.pointer (some ⟨g,2,none⟩)) rfl ?_
  try simp only [z]
  refine tl 3 (.pointer (some ⟨ob,0,none⟩)) rfl ?_ (fun u hu=>by have x1:=(H2.later hu).c2;go_simp)
  try simp only [z]
  refine tl 4 (.pointer (some ⟨g1,3,none⟩)) rfl ?_
  try simp only [z]
  refine tl 5 (.int .i64 o.fd) rfl ?_ (fun u hu=>by have x1:=(r1.later hu).cell 3 _ rfl;go_simp)
  try simp only [z]
  refine wpAnyH_ready (rs:= [6,10]) (by kernel_rfl) (by simp) ?_
  refine(AllReadyH.cons (o:=⟨some 110, .call { callee:=Callee.value (.func 65),args:=#[.tmp 107, .tmp 109],argTypes:=#[51,3]},109,_,#[⟨3, .data⟩,⟨5, .data⟩],none⟩) rfl (fun K hK=>?_) (AllReadyH.cons (o:=⟨some 6, .alloc 108,0,_,#[],none⟩) rfl (fun K hK=>?_) AllReadyH.nil))
  · skip
    go_simp
    refine(tget (H2.later hHeld) o.fd).mono ?_
    rintro e w6 ⟨rfl,b6⟩
    try go_wp2_with fail
    try (have p6:=p6.later b6)
    refine hK.out _ _ (Z00q hHeld b6 (Nat.le_refl _)) (fun hHeld=>?_)
    clear hK K
    try simp only [z]
    refine tl 7 (.tuple #[.agg (Z01 Z.t o.fd).cs.toArray, .int .i64 (Z04 Z.t o.fd)]) rfl ?_
    try simp only [z]
    refine tl 8 (.agg (Z01 Z.t o.fd).cs.toArray) rfl ?_
    try simp only [z]
    refine tl 9 (.int .i64 (Z04 Z.t o.fd)) rfl ?_
    try simp only [z]
    refine rd 10 rfl (fun K hK=>?_)
    have zH:=hHeld.size
    refine Z2q rfl (by rfl) ?_
    intro g6 w10 y6 y7 p6 b10
    have m6:w2.heap.size≤g6:=by omega
    refine hK.out _ _ (Z00q hHeld b10 (Nat.le_refl _)) (fun hHeld=>?_)
    clear hK K
    try simp only [z]
    refine rd 11 rfl (fun K hK=>?_)
    refine Z2r rfl _ _ (by rfl) g6 (by rfl) (Z01 Z.t o.fd) (by rfl) _ p6 rfl ?_
    intro w11 p11 s11
    refine hK.out _ _ (((Stp.of_below hHeld (fun _=>False)).next s11 (fun x e=> .inr (by omega))).below (Nat.le_refl _) (fun _ h=>h.elim)) (fun hHeld=>?_)
    clear hK K
    try simp only [Act.put]
    refine tl 12 (.int .i64 (Z04 Z.t o.fd)) rfl ?_
    try simp only [z]
    refine wpAnyH_done (by kernel_rfl) ?_ _
    go_wp2_with fail
    go_meet
    exact⟨g6,rfl,rfl,hHeld⟩
  · skip
    have zH:=hHeld.size
    refine Z2q rfl (by rfl) ?_
    intro g6 w10 y6 y7 p6 b10
    have m6:w2.heap.size≤g6:=by omega
    refine hK.out _ _ (Z00q hHeld b10 (Nat.le_refl _)) (fun hHeld=>?_)
    clear hK K
    try simp only [z]
    refine rd 6 rfl (fun K hK=>?_)
    go_simp
    refine(tget (H2.later hHeld) o.fd).mono ?_
    rintro e w6 ⟨rfl,b6⟩
    try go_wp2_with fail
    try (have p6:=p6.later b6)
    refine hK.out _ _ (Z00q hHeld b6 (Nat.le_refl _)) (fun hHeld=>?_)
    clear hK K
    try simp only [z]
    refine tl 7 (.tuple #[.agg (Z01 Z.t o.fd).cs.toArray, .int .i64 (Z04 Z.t o.fd)]) rfl ?_
    try simp only [z]
    refine tl 8 (.agg (Z01 Z.t o.fd).cs.toArray) rfl ?_
    try simp only [z]
    refine tl 9 (.int .i64 (Z04 Z.t o.fd)) rfl ?_
    try simp only [z]
    refine rd 11 rfl (fun K hK=>?_)
    refine Z2r rfl _ _ (by rfl) g6 (by rfl) (Z01 Z.t o.fd) (by rfl) _ p6 rfl ?_
    intro w11 p11 s11
    refine hK.out _ _ (((Stp.of_below hHeld (fun _=>False)).next s11 (fun x e=> .inr (by omega))).below (Nat.le_refl _) (fun _ h=>h.elim)) (fun hHeld=>?_)
    clear hK K
    try simp only [Act.put]
    refine tl 12 (.int .i64 (Z04 Z.t o.fd)) rfl ?_
    try simp only [z]
    refine wpAnyH_done (by kernel_rfl) ?_ _
    go_wp2_with fail
    go_meet
    exact⟨g6,rfl,rfl,hHeld⟩
 case rest=>
  obtain⟨g6,rfl,rfl,b3⟩:=hcut
  replace Bc:=Z00q Bc b3 (Nat.le_refl _)
  replace r2:=r2.later b3
  have eE:∀ w9,TxG U g q B Z w w9→Ret (.returned (.tuple #[.agg anZ.toArray, .int .i64 (Z04 Z.t o.fd)])) U g B Z Z (Z04 Z.t o.fd) w w9:=fun w9 G=>by
   rcases Z1p Z.t o.fd with e | e
   · rw [e];exact Z17 Z0c (G.more (Nat.le_succ B))
   · rw [e];exact Z0p (by decide) G
  go_wp2_with (refine Z03 (by rfl) _ _ (by rfl) g2 (by rfl) anZ 0 Z0c (by rfl) _ r2 rfl ?_;intro w9 r9 s9)
  exact bodyPost_ret (Z0d Z06 Tryz.results27 rfl rfl r9 rfl) rfl (eE _ (TxG.same h Bc (by omega) s9))
set_option maxRecDepth 100000
theorem Zay {fn:Func} {p:Tmp} {tmps:Array Value} {w:World} {g T n:Nat} {z cs:List Value} (hT:Srt T n z) (h:fn.results=#[.cell p T]) (hp:tmps.getD p undef= .pointer (some ⟨g,0,none⟩)) (hR:Cs w g cs) (hl:cs.length=n):(results fn tmps).run Tryz.prog w= .ok (.agg cs.toArray) w:=by
 have hp':tmps[p]?.getD undef= .pointer (some ⟨g,0,none⟩):=by simpa using hp
 simp [results,h,hp',asAddr,Z46 hT hR hl]
theorem Za9 {w:World} {U:Nat→Prop} {g B n:Nat} {q:Int→Nat} {Z:Tz} (h:Tx w U g q B Z) (hz:Z.ok n) (hn:n≤900) (hB:B≤900) (o:Oz) (ho:o.wfo) (s:Sv) (hs:BsS w s o.d) (he:InE (fun y=>¬U y) s):
 Calls Tryz.prog 55 #[.pointer (some ⟨g,0,none⟩), .agg (opC o s).toArray] w fun e w'=>Ret e U g B Z (Z.wrS o) (Z.wrE o) w w':=by
 by_cases hE:Z.wrE o=0
 · by_cases h4:o.d= []
   · exact Z61 h hz hn hB o ho s hs he hE h4
   · by_cases hx:(Z01 Z.t o.fd).p+o.d.length≤(Z.nd (Z01 Z.t o.fd).i).d.length
     · exact Zcm h hz hn hB o ho s hs he hE h4 hx
     · exact Zcn h hz hn hB o ho s hs he hE h4 hx
 · exact Zco h hz hn hB o ho s hs he hE
theorem Z85 {w:World} {U:Nat→Prop} {g B n:Nat} {q:Int→Nat} {Z:Tz} (h:Tx w U g q B Z) (hz:Z.ok n) (hn:n≤900) (hB:B≤900) (o:Oz) (ho:o.wfo) (s:Sv):
 Calls Tryz.prog 52 #[.pointer (some ⟨g,0,none⟩), .agg (opC o s).toArray] w fun e w'=>Ret e U g B Z (Z.opS o) (Z.opE o) w w':=by
 have hm:n+2≤1000:=by omega
 have hF:=fun w' (b:Below w.heap.size w w')=>Z8o o.fl ho.fl w'
 have hP:=fun w' (b:Below w.heap.size w w')=>Z1i (h.later b) hz hm o.p ho.p 43 (by decide)
 cases h1:flOk o.fl with
 | false=>
   rw [h1]at hF
   have e1:Z.opE o=2:=by unfold Tz.opE;rw [if_neg (by rw [h1];decide)]
   rw [e1];exact op0 h hF
 | true=>
   rw [h1]at hF
   have hf:=Z2c h1
   by_cases h2:Z.paE o.p 43=0
   · have e1:Z.opE o=Z.opF (Z.paI o.p) o.fl:=by unfold Tz.opE;rw [if_pos h1,if_pos h2]
     obtain⟨p1,p2,p3⟩:=Z1e hz (by decide) h2
     have hO:=fun w' (b:Below w.heap.size w w')=>Z8p (h.later b) hz hm (i:=Z.paI o.p) (f:=o.fl) ⟨hf.1,hf.2.1⟩ (p3.imp id (fun e=>e.2))
     rw [Zf4]at e1
     rw [Z1q h2,h2]at hP
     by_cases h3:Z.moE (Z.paI o.p) o.fl=0
     · rw [if_pos h3]at e1
       rw [h3]at hO
       by_cases h4:fdFr Z.t=8
       · rw [if_pos h4]at e1
         rw [e1]
         exact op3 h (decide_eq_true (by omega)) hF hP hO
       · rw [if_neg h4]at e1
         obtain⟨k1,k2⟩:=Z84 hz e1
         rw [e1]
         exact Zf5 h hz hn hB p1 (Z2f p2).2.2 k1 k2 (fun e=>e) ⟨hf.1,hf.2.1⟩ (decide_eq_false (by omega)) hF hP hO
     · rw [if_neg h3]at e1
       rw [e1]
       exact op2 h h3 hF hP hO
   · have e1:Z.opE o=Z.paE o.p 43:=by unfold Tz.opE;rw [if_pos h1,if_neg h2]
     rw [Z1n h2]at hP
     rw [e1]
     exact op1 h h2 hF hP
theorem Z9p {w:World} {U:Nat→Prop} {g B n:Nat} {q:Int→Nat} {Z:Tz} (h:Tx w U g q B Z) (hz:Z.ok n) (hn:n≤900) (hB:B≤900) (o:Oz) (ho:o.wfo) (s:Sv) (hs:BsS w s o.d) (he:InE (fun y=>¬U y) s):
 Calls Tryz.prog 27 #[.pointer (some ⟨g,0,none⟩), .agg (opC o s).toArray] w fun e w'=>Ret e U g B Z (Z.doS o) (Z.doE o) w w':=by
 by_cases k1:o.k=1
 · have e1:Z.doE o=Z.opE o:=by unfold Tz.doE;rw [k1];rfl
   have e2:Z.doS o=Z.opS o:=by unfold Tz.doS;rw [k1];rfl
   rw [e1,e2]
   exact an1 h o s k1 (fun w' b=>(Z85 (h.later b) hz hn hB o ho s))
 by_cases k2:o.k=2
 · have e1:Z.doE o=Z04 Z.t o.fd:=by unfold Tz.doE;rw [k2];rfl
   have e2:Z.doS o=Z.clS o:=by unfold Tz.doS;rw [k2];rfl
   rw [e1,e2]
   exact an2 h o s k2 (fun w' b=>(Z2l (h.later b) hz hn hB o ho s))
 by_cases k3:o.k=3
 · have e1:Z.doE o=Z.reE o:=by unfold Tz.doE;rw [k3];rfl
   have e2:Z.doS o=Z.reS o:=by unfold Tz.doS;rw [k3];rfl
   rw [e1,e2]
   exact an3 h o s k3 (fun w' b=>(Zbh (h.later b) hz hn hB o ho s))
 by_cases k4:o.k=4
 · have e1:Z.doE o=Z.wrE o:=by unfold Tz.doE;rw [k4];rfl
   have e2:Z.doS o=Z.wrS o:=by unfold Tz.doS;rw [k4];rfl
   rw [e1,e2]
   exact an4 h o s k4 (fun w' b=>(Za9 (h.later b) hz hn hB o ho s (hs.later b) he))
 by_cases k5:o.k=5
 · have e1:Z.doE o=Z.skE o:=by unfold Tz.doE;rw [k5];rfl
   have e2:Z.doS o=Z.skS o:=by unfold Tz.doS;rw [k5];rfl
   rw [e1,e2]
   exact an5 h o s k5 (fun w' b=>(Zbi (h.later b) hz hn hB o ho s))
 by_cases k6:o.k=6
 · have e1:Z.doE o=Z.cuE o:=by unfold Tz.doE;rw [k6];rfl
   have e2:Z.doS o=Z.cuS o:=by unfold Tz.doS;rw [k6];rfl
   rw [e1,e2]
   exact an6 h o s k6 (fun w' b=>(Zcl (h.later b) hz hn hB o ho s))
 by_cases k7:o.k=7
 · have e1:Z.doE o=Z.mdE o:=by unfold Tz.doE;rw [k7];rfl
   have e2:Z.doS o=Z.mdS o:=by unfold Tz.doS;rw [k7];rfl
   rw [e1,e2]
   exact an7 h o s k7 (fun w' b=>(Z8n (h.later b) hz hn hB o ho s))
 by_cases k8:o.k=8
 · have e1:Z.doE o=Z.rmE o:=by unfold Tz.doE;rw [k8];rfl
   have e2:Z.doS o=Z.unS o:=by unfold Tz.doS;rw [k8];rfl
   rw [e1,e2]
   exact an8 h o s k8 (fun w' b=>(Z77 (h.later b) hz hn hB o ho s))
 by_cases k9:o.k=9
 · have e1:Z.doE o=Z.liE o:=by unfold Tz.doE;rw [k9];rfl
   have e2:Z.doS o=Z.liS o:=by unfold Tz.doS;rw [k9];rfl
   rw [e1,e2]
   exact an9 h o s k9 (fun w' b=>(Z2x (h.later b) hz hn hB o ho s))
 by_cases k10:o.k=10
 · have e1:Z.doE o=Z.ulE o:=by unfold Tz.doE;rw [k10];rfl
   have e2:Z.doS o=Z.unS o:=by unfold Tz.doS;rw [k10];rfl
   rw [e1,e2]
   exact an10 h o s k10 (fun w' b=>(Z50 (h.later b) hz hn hB o ho s))
 by_cases k11:o.k=11
 · have e1:Z.doE o=Z.rnE o:=by unfold Tz.doE;rw [k11];rfl
   have e2:Z.doS o=Z.rnS o:=by unfold Tz.doS;rw [k11];rfl
   rw [e1,e2]
   exact an11 h o s k11 (fun w' b=>(Z4u (h.later b) hz hn hB o ho s))
 by_cases k12:o.k=12
 · have e1:Z.doE o=(Z.wa o.p).2:=by unfold Tz.doE;rw [k12];rfl
   have e2:Z.doS o=Z:=by unfold Tz.doS;rw [k12];rfl
   rw [e1,e2]
   exact an12 h o s k12 (fun w' b=>(Z60 (h.later b) hz hn hB o ho s))
 by_cases k13:o.k=13
 · have e1:Z.doE o=Z.lsE' o:=by unfold Tz.doE;rw [k13];rfl
   have e2:Z.doS o=Z:=by unfold Tz.doS;rw [k13];rfl
   rw [e1,e2]
   exact an13 h o s k13 (fun w' b=>(Z5v (h.later b) hz hn hB o ho s))
 by_cases k14:o.k=14
 · have e1:Z.doE o=Z04 Z.t o.fd:=by unfold Tz.doE;rw [k14];rfl
   have e2:Z.doS o=Z:=by unfold Tz.doS;rw [k14];rfl
   rw [e1,e2];exact an14 (Z':=Z) h o s k14
 by_cases k15:o.k=15
 · have e1:Z.doE o=0:=by unfold Tz.doE;rw [k15];rfl
   have e2:Z.doS o=Z:=by unfold Tz.doS;rw [k15];rfl
   rw [e1,e2];exact an15 (Z':=Z) h o s k15
 have e1:Z.doE o=2:=by unfold Tz.doE;simp only [k1,k2,k3,k4,k5,k6,k7,k8,k9,k10,k11,k12,k13,k14,k15,if_false]
 rw [e1]
 exact an0 h o s (by simpa using k1) (by simpa using k2) (by simpa using k3) (by simpa using k4) (by simpa using k5) (by simpa using k6) (by simpa using k7) (by simpa using k8) (by simpa using k9) (by simpa using k10) (by simpa using k11) (by simpa using k12) (by simpa using k13) (by simpa using k14) (by simpa using k15)
def RetD (e:Ending) (U:Nat→Prop) (g B:Nat) (Z':Tz) (E:Int) (w w':World):Prop:=∃ A q,e= .returned (.agg A.toArray)∧AnE E A∧TxG U g q (B+1) Z' w w'
theorem Zaj {w w1 w3 w4 w5 w9:World} {U:Nat→Prop} {g B ga gb:Nat} {q:Int→Nat} {Z:Tz} (hU:∀ x,U x→x < w.heap.size) (hb:Below w.heap.size w w1) (G:TxG U g q B Z w1 w3) (b4:Below w3.heap.size w3 w4) (zb:w3.heap.size≤gb) (s5:Stp (fun x=>x=gb) w4 w5) (za:w.heap.size≤ga) (zc:ga < w1.heap.size) (s9:Stp (fun x=>x=ga) w5 w9):TxG U g q B Z w w9:=by
 obtain⟨U',t,s,e⟩:=G
 have z1:=hb.size
 have z2:=s.size
 have z4:=b4.size
 have z5:=s5.size
 have lo:=t.low
 have n1:∀ x,U' x→¬x=gb:=fun x hx c=>by have:=lo x hx;omega
 have n2:∀ x,U' x→¬x=ga:=fun x hx c=>by
  rcases e x hx with d | d
  · have:=hU x d;omega
  · omega
 refine⟨U',((t.later b4).step s5 n1).step s9 n2,?_,fun x hx=>?_⟩
 · refine(((Stp.of_below hb U).next s (fun y c=> .inl c)).next (Stp.of_below b4 (fun _=>False)) (fun y c=>c.elim)).next s5 (fun y c=> .inr (by omega)) |>.next s9 (fun y c=> .inr (by omega))
 · rcases e x hx with d | d
   · exact .inl d
   · have:=s9.size;exact .inr (by omega)
set_option maxHeartbeats 8000000 in
theorem do_a {w:World} {U:Nat→Prop} {g B:Nat} {q:Int→Nat} {Z Z':Tz} {E:Int} (hE:E=0) (h:Tx w U g q B Z) (o:Oz) (s:Sv)
 (hR:∀ w',Below w.heap.size w w'→Calls Tryz.prog 27 #[.pointer (some ⟨g,0,none⟩), .agg (opC o s).toArray] w' fun e u=>Ret e U g B Z Z' E w' u):
 Calls Tryz.prog 8 #[.pointer (some ⟨g,0,none⟩), .agg (opC o s).toArray] w fun e w'=>RetD e U g B Z' 0 w w':=by
 have hU:=h.low
 subst hE
 have hE:(if (0:Int)=0 then Z' else Z)=Z':=if_pos rfl
 have tk1:True:=trivial
 go_enter Tryz.func8,Tryz.ntmps8
 go_wp2_with (first
  | (refine Z05 (by rfl) _ (by rfl) o s (by rfl) ?_;intro g1 w1 z1 z2 r1 b1
     have Bc:=b1
     have v1:=b1.size)
  | (refine Z02 (by rfl) (by rfl) ?_;clear tk1;intro g2 w2 z3 z4 r2 b2
     replace Bc:=Z00q Bc b2 (Nat.le_refl _)
     have v2:=b2.size
     replace r1:=r1.later b2)
  | (refine Z0k 37 8 _ Z0q (by rfl) _ (by rfl) g1 (by rfl) _ r1 rfl ?_)
  | (go_at_call 27;refine(hR _ Bc).mono ?_;rintro e w3 ⟨A,q',rfl,hA,G⟩
     rw [hE]at G
     have v3:=G.stp.size
     have l2:=r2.lt
     replace r2:=r2.step G.stp (fun e=>by have:=hU g2 e;omega))
  | (refine Z02 (by rfl) (by rfl) ?_;intro g3 w4 z5 z6 r4 b4
     replace r2:=r2.later b4
     have v4:=b4.size)
  | (refine Z03 (by rfl) _ _ (by rfl) g3 (by rfl) A 0 hA (by rfl) _ r4 rfl ?_;intro w5 r5 s5
     replace r2:=r2.step s5 (fun e=>by omega)
     have v5:=s5.size)
  | (refine Z0k 34 7 _ Z06 (by rfl) _ (by rfl) g3 (by rfl) A r5 hA.len ?_)
  | (refine Z03 (by rfl) _ _ (by rfl) g2 (by rfl) A 0 hA (by rfl) _ r2 rfl ?_;intro w9 r9 s9))
 exact bodyPost_ret (Zay Z06 Tryz.results8 rfl r9 hA.len) rfl ⟨A,q',rfl,hA,Zaj hU Bc G b4 z5 s5 (by omega) (by omega) s9⟩
set_option maxHeartbeats 8000000 in
theorem do_b {w:World} {U:Nat→Prop} {g B:Nat} {q:Int→Nat} {Z Z':Tz} {E:Int} (hne:¬E=0) (h:Tx w U g q B Z) (o:Oz) (s:Sv)
 (hR:∀ w',Below w.heap.size w w'→Calls Tryz.prog 27 #[.pointer (some ⟨g,0,none⟩), .agg (opC o s).toArray] w' fun e u=>Ret e U g B Z Z' E w' u):
 Calls Tryz.prog 8 #[.pointer (some ⟨g,0,none⟩), .agg (opC o s).toArray] w fun e w'=>RetD e U g B Z E w w':=by
 have hU:=h.low
 have hE:(if E=0 then Z' else Z)=Z:=if_neg hne
 have qE:(E != 0)=true:=by simpa using hne
 clear hne
 have tk1:True:=trivial
 go_enter Tryz.func8,Tryz.ntmps8
 go_wp2_with (first
  | (refine Z05 (by rfl) _ (by rfl) o s (by rfl) ?_;intro g1 w1 z1 z2 r1 b1
     have Bc:=b1
     have v1:=b1.size)
  | (refine Z02 (by rfl) (by rfl) ?_;clear tk1;intro g2 w2 z3 z4 r2 b2
     replace Bc:=Z00q Bc b2 (Nat.le_refl _)
     have v2:=b2.size
     replace r1:=r1.later b2)
  | (refine Z0k 37 8 _ Z0q (by rfl) _ (by rfl) g1 (by rfl) _ r1 rfl ?_)
  | (go_at_call 27;refine(hR _ Bc).mono ?_;rintro e w3 ⟨A,q',rfl,hA,G⟩
     rw [hE]at G
     have v3:=G.stp.size
     have l2:=r2.lt
     replace r2:=r2.step G.stp (fun e=>by have:=hU g2 e;omega))
  | (refine Z02 (by rfl) (by rfl) ?_;intro g3 w4 z5 z6 r4 b4
     replace r2:=r2.later b4
     have v4:=b4.size)
  | (refine Z03 (by rfl) _ _ (by rfl) g3 (by rfl) A 0 hA (by rfl) _ r4 rfl ?_;intro w5 r5 s5
     replace r2:=r2.step s5 (fun e=>by omega)
     have v5:=s5.size)
  | (refine Z0k 34 7 _ Z06 (by rfl) _ (by rfl) g3 (by rfl) A r5 hA.len ?_)
  | (refine Z03 (by rfl) _ _ (by rfl) g2 (by rfl) (anC E 0 nilV nilV 0 0 0) E (Z09 E) (by rfl) _ r2 rfl ?_;intro w9 r9 s9))
 exact bodyPost_ret (Zay Z06 Tryz.results8 rfl r9 rfl) rfl ⟨anC E 0 nilV nilV 0 0 0,q',rfl,Z09 E,Zaj hU Bc G b4 z5 s5 (by omega) (by omega) s9⟩
theorem Z1k {w:World} {U:Nat→Prop} {g B n:Nat} {q:Int→Nat} {Z:Tz} (h:Tx w U g q B Z) (hz:Z.ok n) (hn:n≤900) (hB:B≤900) (o:Oz) (ho:o.wfo) (s:Sv) (hs:BsS w s o.d) (he:InE (fun y=>¬U y) s):
 Calls Tryz.prog 8 #[.pointer (some ⟨g,0,none⟩), .agg (opC o s).toArray] w fun e w'=>RetD e U g B (Z.do1 o) (Z.doE o) w w':=by
 have hR:=fun w' (b:Below w.heap.size w w')=>Z9p (h.later b) hz hn hB o ho s (hs.later b) he
 unfold Tz.do1
 by_cases hE:Z.doE o=0
 · rw [if_pos hE]
   have:=do_a hE h o s hR
   rw [hE];exact this
 · rw [if_neg hE];exact do_b hE h o s hR
end Go.Proofs.YtdnjddpfcgginaaGreat
