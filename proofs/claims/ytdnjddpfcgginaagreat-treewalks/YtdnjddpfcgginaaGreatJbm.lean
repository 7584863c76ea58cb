/-
  Texts of my own, joined: no statement is proved here.
-/
import Derived.Test.YtdnjddpfcgginaaGreatJbl
set_option linter.unusedSimpArgs false
set_option linter.unusedVariables false
namespace Go.Proofs.YtdnjddpfcgginaaGreat
open Go.ChangeShapes Go.WideShapes Go.ChangeAt Go.RowKit
set_option maxRecDepth 100000
set_option maxHeartbeats 8000000 in
theorem rd1 {w:World} {U:Nat→Prop} {y:Nat} {Z Z':Tz} {E:Int} (h:Dx w U y Z) (o:Oz) (s:Sv) (hk:o.k=1)
 (hR:∀ w',Below w.heap.size w w'→Calls Tryz.prog 29 #[.pointer (some ⟨y,0,none⟩), .agg (opC o s).toArray] w' fun e u=>RetY e U y Z' E w' u):
 Calls Tryz.prog 10 #[.pointer (some ⟨y,0,none⟩), .agg (opC o s).toArray] w fun e w'=>RetY e U y Z' E w w':=by
 have hU:=h.low
 go_enter Tryz.func10,Tryz.ntmps10
 go_wp2_with (first
  | (refine Z05 (by rfl) _ (by rfl) o s (by rfl) ?_;intro g1 w1 z1 z2 r1 b1
     have Bc:=b1
     have v1:=b1.size
     have c10:=r1.cell 0 _ rfl
     try rw [hk]at c10)
  | (refine Z02 (by rfl) (by rfl) ?_;intro g2 w2 z3 z4 r2 b2
     replace Bc:=Z00q Bc b2 (Nat.le_refl _)
     have v2:=b2.size
     replace r1:=r1.later b2
     clear c10
     have c10:=r1.cell 0 _ rfl
     try rw [hk]at c10)
  | (refine Z0k 37 8 _ Z0q (by rfl) _ (by rfl) g1 (by rfl) _ r1 rfl ?_)
  | (go_at_call 29;refine(hR _ Bc).mono ?_;rintro e w3 ⟨A,rfl,hA,G⟩
     have r2':=r2.step G.stp (fun e=>by have:=hU g2 e;omega))
  | (refine Z03 (by rfl) _ _ (by rfl) g2 (by rfl) A E hA (by rfl) _ r2' rfl ?_;intro w9 r9 s9))
 exact bodyPost_ret (Z0a Z06 Tryz.results10 rfl r9 hA.len) rfl ⟨A,rfl,hA,Z0z hU Bc G (by omega) (by omega) s9⟩
set_option maxHeartbeats 8000000 in
theorem rd2 {w:World} {U:Nat→Prop} {y:Nat} {Z Z':Tz} {E:Int} (h:Dx w U y Z) (o:Oz) (s:Sv) (hk:o.k=2)
 (hR:∀ w',Below w.heap.size w w'→Calls Tryz.prog 30 #[.pointer (some ⟨y,0,none⟩), .agg (opC o s).toArray] w' fun e u=>RetY e U y Z' E w' u):
 Calls Tryz.prog 10 #[.pointer (some ⟨y,0,none⟩), .agg (opC o s).toArray] w fun e w'=>RetY e U y Z' E w w':=by
 have hU:=h.low
 go_enter Tryz.func10,Tryz.ntmps10
 go_wp2_with (first
  | (refine Z05 (by rfl) _ (by rfl) o s (by rfl) ?_;intro g1 w1 z1 z2 r1 b1
     have Bc:=b1
     have v1:=b1.size
     have c10:=r1.cell 0 _ rfl
     try rw [hk]at c10)
  | (refine Z02 (by rfl) (by rfl) ?_;intro g2 w2 z3 z4 r2 b2
     replace Bc:=Z00q Bc b2 (Nat.le_refl _)
     have v2:=b2.size
     replace r1:=r1.later b2
     clear c10
     have c10:=r1.cell 0 _ rfl
     try rw [hk]at c10)
  | (refine Z0k 37 8 _ Z0q (by rfl) _ (by rfl) g1 (by rfl) _ r1 rfl ?_)
  | (go_at_call 30;refine(hR _ Bc).mono ?_;rintro e w3 ⟨A,rfl,hA,G⟩
     have r2':=r2.step G.stp (fun e=>by have:=hU g2 e;omega))
  | (refine Z03 (by rfl) _ _ (by rfl) g2 (by rfl) A E hA (by rfl) _ r2' rfl ?_;intro w9 r9 s9))
 exact bodyPost_ret (Z0a Z06 Tryz.results10 rfl r9 hA.len) rfl ⟨A,rfl,hA,Z0z hU Bc G (by omega) (by omega) s9⟩
set_option maxHeartbeats 8000000 in
theorem rd3 {w:World} {U:Nat→Prop} {y:Nat} {Z Z':Tz} {E:Int} (h:Dx w U y Z) (o:Oz) (s:Sv) (hk:o.k=3)
 (hR:∀ w',Below w.heap.size w w'→Calls Tryz.prog 30 #[.pointer (some ⟨y,0,none⟩), .agg (opC o s).toArray] w' fun e u=>RetY e U y Z' E w' u):
 Calls Tryz.prog 10 #[.pointer (some ⟨y,0,none⟩), .agg (opC o s).toArray] w fun e w'=>RetY e U y Z' E w w':=by
 have hU:=h.low
 go_enter Tryz.func10,Tryz.ntmps10
 go_wp2_with (first
  | (refine Z05 (by rfl) _ (by rfl) o s (by rfl) ?_;intro g1 w1 z1 z2 r1 b1
     have Bc:=b1
     have v1:=b1.size
     have c10:=r1.cell 0 _ rfl
     try rw [hk]at c10)
  | (refine Z02 (by rfl) (by rfl) ?_;intro g2 w2 z3 z4 r2 b2
     replace Bc:=Z00q Bc b2 (Nat.le_refl _)
     have v2:=b2.size
     replace r1:=r1.later b2
     clear c10
     have c10:=r1.cell 0 _ rfl
     try rw [hk]at c10)
  | (refine Z0k 37 8 _ Z0q (by rfl) _ (by rfl) g1 (by rfl) _ r1 rfl ?_)
  | (go_at_call 30;refine(hR _ Bc).mono ?_;rintro e w3 ⟨A,rfl,hA,G⟩
     have r2':=r2.step G.stp (fun e=>by have:=hU g2 e;omega))
  | (refine Z03 (by rfl) _ _ (by rfl) g2 (by rfl) A E hA (by rfl) _ r2' rfl ?_;intro w9 r9 s9))
 exact bodyPost_ret (Z0a Z06 Tryz.results10 rfl r9 hA.len) rfl ⟨A,rfl,hA,Z0z hU Bc G (by omega) (by omega) s9⟩
set_option maxHeartbeats 8000000 in
theorem rd4 {w:World} {U:Nat→Prop} {y:Nat} {Z Z':Tz} {E:Int} (h:Dx w U y Z) (o:Oz) (s:Sv) (hk:o.k=4)
 (hR:∀ w',Below w.heap.size w w'→Calls Tryz.prog 30 #[.pointer (some ⟨y,0,none⟩), .agg (opC o s).toArray] w' fun e u=>RetY e U y Z' E w' u):
 Calls Tryz.prog 10 #[.pointer (some ⟨y,0,none⟩), .agg (opC o s).toArray] w fun e w'=>RetY e U y Z' E w w':=by
 have hU:=h.low
 go_enter Tryz.func10,Tryz.ntmps10
 go_wp2_with (first
  | (refine Z05 (by rfl) _ (by rfl) o s (by rfl) ?_;intro g1 w1 z1 z2 r1 b1
     have Bc:=b1
     have v1:=b1.size
     have c10:=r1.cell 0 _ rfl
     try rw [hk]at c10)
  | (refine Z02 (by rfl) (by rfl) ?_;intro g2 w2 z3 z4 r2 b2
     replace Bc:=Z00q Bc b2 (Nat.le_refl _)
     have v2:=b2.size
     replace r1:=r1.later b2
     clear c10
     have c10:=r1.cell 0 _ rfl
     try rw [hk]at c10)
  | (refine Z0k 37 8 _ Z0q (by rfl) _ (by rfl) g1 (by rfl) _ r1 rfl ?_)
  | (go_at_call 30;refine(hR _ Bc).mono ?_;rintro e w3 ⟨A,rfl,hA,G⟩
     have r2':=r2.step G.stp (fun e=>by have:=hU g2 e;omega))
  | (refine Z03 (by rfl) _ _ (by rfl) g2 (by rfl) A E hA (by rfl) _ r2' rfl ?_;intro w9 r9 s9))
 exact bodyPost_ret (Z0a Z06 Tryz.results10 rfl r9 hA.len) rfl ⟨A,rfl,hA,Z0z hU Bc G (by omega) (by omega) s9⟩
set_option maxHeartbeats 8000000 in
theorem rd5 {w:World} {U:Nat→Prop} {y:Nat} {Z Z':Tz} {E:Int} (h:Dx w U y Z) (o:Oz) (s:Sv) (hk:o.k=5)
 (hR:∀ w',Below w.heap.size w w'→Calls Tryz.prog 30 #[.pointer (some ⟨y,0,none⟩), .agg (opC o s).toArray] w' fun e u=>RetY e U y Z' E w' u):
 Calls Tryz.prog 10 #[.pointer (some ⟨y,0,none⟩), .agg (opC o s).toArray] w fun e w'=>RetY e U y Z' E w w':=by
 have hU:=h.low
 go_enter Tryz.func10,Tryz.ntmps10
 go_wp2_with (first
  | (refine Z05 (by rfl) _ (by rfl) o s (by rfl) ?_;intro g1 w1 z1 z2 r1 b1
     have Bc:=b1
     have v1:=b1.size
     have c10:=r1.cell 0 _ rfl
     try rw [hk]at c10)
  | (refine Z02 (by rfl) (by rfl) ?_;intro g2 w2 z3 z4 r2 b2
     replace Bc:=Z00q Bc b2 (Nat.le_refl _)
     have v2:=b2.size
     replace r1:=r1.later b2
     clear c10
     have c10:=r1.cell 0 _ rfl
     try rw [hk]at c10)
  | (refine Z0k 37 8 _ Z0q (by rfl) _ (by rfl) g1 (by rfl) _ r1 rfl ?_)
  | (go_at_call 30;refine(hR _ Bc).mono ?_;rintro e w3 ⟨A,rfl,hA,G⟩
     have r2':=r2.step G.stp (fun e=>by have:=hU g2 e;omega))
  | (refine Z03 (by rfl) _ _ (by rfl) g2 (by rfl) A E hA (by rfl) _ r2' rfl ?_;intro w9 r9 s9))
 exact bodyPost_ret (Z0a Z06 Tryz.results10 rfl r9 hA.len) rfl ⟨A,rfl,hA,Z0z hU Bc G (by omega) (by omega) s9⟩
set_option maxHeartbeats 8000000 in
theorem rd14 {w:World} {U:Nat→Prop} {y:Nat} {Z Z':Tz} {E:Int} (h:Dx w U y Z) (o:Oz) (s:Sv) (hk:o.k=14)
 (hR:∀ w',Below w.heap.size w w'→Calls Tryz.prog 30 #[.pointer (some ⟨y,0,none⟩), .agg (opC o s).toArray] w' fun e u=>RetY e U y Z' E w' u):
 Calls Tryz.prog 10 #[.pointer (some ⟨y,0,none⟩), .agg (opC o s).toArray] w fun e w'=>RetY e U y Z' E w w':=by
 have hU:=h.low
 go_enter Tryz.func10,Tryz.ntmps10
 go_wp2_with (first
  | (refine Z05 (by rfl) _ (by rfl) o s (by rfl) ?_;intro g1 w1 z1 z2 r1 b1
     have Bc:=b1
     have v1:=b1.size
     have c10:=r1.cell 0 _ rfl
     try rw [hk]at c10)
  | (refine Z02 (by rfl) (by rfl) ?_;intro g2 w2 z3 z4 r2 b2
     replace Bc:=Z00q Bc b2 (Nat.le_refl _)
     have v2:=b2.size
     replace r1:=r1.later b2
     clear c10
     have c10:=r1.cell 0 _ rfl
     try rw [hk]at c10)
  | (refine Z0k 37 8 _ Z0q (by rfl) _ (by rfl) g1 (by rfl) _ r1 rfl ?_)
  | (go_at_call 30;refine(hR _ Bc).mono ?_;rintro e w3 ⟨A,rfl,hA,G⟩
     have r2':=r2.step G.stp (fun e=>by have:=hU g2 e;omega))
  | (refine Z03 (by rfl) _ _ (by rfl) g2 (by rfl) A E hA (by rfl) _ r2' rfl ?_;intro w9 r9 s9))
 exact bodyPost_ret (Z0a Z06 Tryz.results10 rfl r9 hA.len) rfl ⟨A,rfl,hA,Z0z hU Bc G (by omega) (by omega) s9⟩
set_option maxHeartbeats 8000000 in
theorem rd7 {w:World} {U:Nat→Prop} {y:Nat} {Z Z':Tz} {E:Int} (h:Dx w U y Z) (o:Oz) (s:Sv) (hk:o.k=7)
 (hR:∀ w',Below w.heap.size w w'→Calls Tryz.prog 31 #[.pointer (some ⟨y,0,none⟩), .agg (opC o s).toArray] w' fun e u=>RetY e U y Z' E w' u):
 Calls Tryz.prog 10 #[.pointer (some ⟨y,0,none⟩), .agg (opC o s).toArray] w fun e w'=>RetY e U y Z' E w w':=by
 have hU:=h.low
 go_enter Tryz.func10,Tryz.ntmps10
 go_wp2_with (first
  | (refine Z05 (by rfl) _ (by rfl) o s (by rfl) ?_;intro g1 w1 z1 z2 r1 b1
     have Bc:=b1
     have v1:=b1.size
     have c10:=r1.cell 0 _ rfl
     try rw [hk]at c10)
  | (refine Z02 (by rfl) (by rfl) ?_;intro g2 w2 z3 z4 r2 b2
     replace Bc:=Z00q Bc b2 (Nat.le_refl _)
     have v2:=b2.size
     replace r1:=r1.later b2
     clear c10
     have c10:=r1.cell 0 _ rfl
     try rw [hk]at c10)
  | (refine Z0k 37 8 _ Z0q (by rfl) _ (by rfl) g1 (by rfl) _ r1 rfl ?_)
  | (go_at_call 31;refine(hR _ Bc).mono ?_;rintro e w3 ⟨A,rfl,hA,G⟩
     have r2':=r2.step G.stp (fun e=>by have:=hU g2 e;omega))
  | (refine Z03 (by rfl) _ _ (by rfl) g2 (by rfl) A E hA (by rfl) _ r2' rfl ?_;intro w9 r9 s9))
 exact bodyPost_ret (Z0a Z06 Tryz.results10 rfl r9 hA.len) rfl ⟨A,rfl,hA,Z0z hU Bc G (by omega) (by omega) s9⟩
set_option maxRecDepth 100000
set_option maxHeartbeats 8000000 in
theorem rd8 {w:World} {U:Nat→Prop} {y:Nat} {Z Z':Tz} {E:Int} (h:Dx w U y Z) (o:Oz) (s:Sv) (hk:o.k=8)
 (hR:∀ w',Below w.heap.size w w'→Calls Tryz.prog 31 #[.pointer (some ⟨y,0,none⟩), .agg (opC o s).toArray] w' fun e u=>RetY e U y Z' E w' u):
 Calls Tryz.prog 10 #[.pointer (some ⟨y,0,none⟩), .agg (opC o s).toArray] w fun e w'=>RetY e U y Z' E w w':=by
 have hU:=h.low
 go_enter Tryz.func10,Tryz.ntmps10
 go_wp2_with (first
  | (refine Z05 (by rfl) _ (by rfl) o s (by rfl) ?_;intro g1 w1 z1 z2 r1 b1
     have Bc:=b1
     have v1:=b1.size
     have c10:=r1.cell 0 _ rfl
     try rw [hk]at c10)
  | (refine Z02 (by rfl) (by rfl) ?_;intro g2 w2 z3 z4 r2 b2
     replace Bc:=Z00q Bc b2 (Nat.le_refl _)
     have v2:=b2.size
     replace r1:=r1.later b2
     clear c10
     have c10:=r1.cell 0 _ rfl
     try rw [hk]at c10)
  | (refine Z0k 37 8 _ Z0q (by rfl) _ (by rfl) g1 (by rfl) _ r1 rfl ?_)
  | (go_at_call 31;refine(hR _ Bc).mono ?_;rintro e w3 ⟨A,rfl,hA,G⟩
     have r2':=r2.step G.stp (fun e=>by have:=hU g2 e;omega))
  | (refine Z03 (by rfl) _ _ (by rfl) g2 (by rfl) A E hA (by rfl) _ r2' rfl ?_;intro w9 r9 s9))
 exact bodyPost_ret (Z0a Z06 Tryz.results10 rfl r9 hA.len) rfl ⟨A,rfl,hA,Z0z hU Bc G (by omega) (by omega) s9⟩
set_option maxHeartbeats 8000000 in
theorem rd10 {w:World} {U:Nat→Prop} {y:Nat} {Z Z':Tz} {E:Int} (h:Dx w U y Z) (o:Oz) (s:Sv) (hk:o.k=10)
 (hR:∀ w',Below w.heap.size w w'→Calls Tryz.prog 31 #[.pointer (some ⟨y,0,none⟩), .agg (opC o s).toArray] w' fun e u=>RetY e U y Z' E w' u):
 Calls Tryz.prog 10 #[.pointer (some ⟨y,0,none⟩), .agg (opC o s).toArray] w fun e w'=>RetY e U y Z' E w w':=by
 have hU:=h.low
 go_enter Tryz.func10,Tryz.ntmps10
 go_wp2_with (first
  | (refine Z05 (by rfl) _ (by rfl) o s (by rfl) ?_;intro g1 w1 z1 z2 r1 b1
     have Bc:=b1
     have v1:=b1.size
     have c10:=r1.cell 0 _ rfl
     try rw [hk]at c10)
  | (refine Z02 (by rfl) (by rfl) ?_;intro g2 w2 z3 z4 r2 b2
     replace Bc:=Z00q Bc b2 (Nat.le_refl _)
     have v2:=b2.size
     replace r1:=r1.later b2
     clear c10
     have c10:=r1.cell 0 _ rfl
     try rw [hk]at c10)
  | (refine Z0k 37 8 _ Z0q (by rfl) _ (by rfl) g1 (by rfl) _ r1 rfl ?_)
  | (go_at_call 31;refine(hR _ Bc).mono ?_;rintro e w3 ⟨A,rfl,hA,G⟩
     have r2':=r2.step G.stp (fun e=>by have:=hU g2 e;omega))
  | (refine Z03 (by rfl) _ _ (by rfl) g2 (by rfl) A E hA (by rfl) _ r2' rfl ?_;intro w9 r9 s9))
 exact bodyPost_ret (Z0a Z06 Tryz.results10 rfl r9 hA.len) rfl ⟨A,rfl,hA,Z0z hU Bc G (by omega) (by omega) s9⟩
set_option maxHeartbeats 8000000 in
theorem rd9 {w:World} {U:Nat→Prop} {y:Nat} {Z Z':Tz} {E:Int} (h:Dx w U y Z) (o:Oz) (s:Sv) (hk:o.k=9)
 (hR:∀ w',Below w.heap.size w w'→Calls Tryz.prog 32 #[.pointer (some ⟨y,0,none⟩), .agg (opC o s).toArray] w' fun e u=>RetY e U y Z' E w' u):
 Calls Tryz.prog 10 #[.pointer (some ⟨y,0,none⟩), .agg (opC o s).toArray] w fun e w'=>RetY e U y Z' E w w':=by
 have hU:=h.low
 go_enter Tryz.func10,Tryz.ntmps10
 go_wp2_with (first
  | (refine Z05 (by rfl) _ (by rfl) o s (by rfl) ?_;intro g1 w1 z1 z2 r1 b1
     have Bc:=b1
     have v1:=b1.size
     have c10:=r1.cell 0 _ rfl
     try rw [hk]at c10)
  | (refine Z02 (by rfl) (by rfl) ?_;intro g2 w2 z3 z4 r2 b2
     replace Bc:=Z00q Bc b2 (Nat.le_refl _)
     have v2:=b2.size
     replace r1:=r1.later b2
     clear c10
     have c10:=r1.cell 0 _ rfl
     try rw [hk]at c10)
  | (refine Z0k 37 8 _ Z0q (by rfl) _ (by rfl) g1 (by rfl) _ r1 rfl ?_)
  | (go_at_call 32;refine(hR _ Bc).mono ?_;rintro e w3 ⟨A,rfl,hA,G⟩
     have r2':=r2.step G.stp (fun e=>by have:=hU g2 e;omega))
  | (refine Z03 (by rfl) _ _ (by rfl) g2 (by rfl) A E hA (by rfl) _ r2' rfl ?_;intro w9 r9 s9))
 exact bodyPost_ret (Z0a Z06 Tryz.results10 rfl r9 hA.len) rfl ⟨A,rfl,hA,Z0z hU Bc G (by omega) (by omega) s9⟩
set_option maxHeartbeats 8000000 in
theorem rd11 {w:World} {U:Nat→Prop} {y:Nat} {Z Z':Tz} {E:Int} (h:Dx w U y Z) (o:Oz) (s:Sv) (hk:o.k=11)
 (hR:∀ w',Below w.heap.size w w'→Calls Tryz.prog 33 #[.pointer (some ⟨y,0,none⟩), .agg (opC o s).toArray] w' fun e u=>RetY e U y Z' E w' u):
 Calls Tryz.prog 10 #[.pointer (some ⟨y,0,none⟩), .agg (opC o s).toArray] w fun e w'=>RetY e U y Z' E w w':=by
 have hU:=h.low
 go_enter Tryz.func10,Tryz.ntmps10
 go_wp2_with (first
  | (refine Z05 (by rfl) _ (by rfl) o s (by rfl) ?_;intro g1 w1 z1 z2 r1 b1
     have Bc:=b1
     have v1:=b1.size
     have c10:=r1.cell 0 _ rfl
     try rw [hk]at c10)
  | (refine Z02 (by rfl) (by rfl) ?_;intro g2 w2 z3 z4 r2 b2
     replace Bc:=Z00q Bc b2 (Nat.le_refl _)
     have v2:=b2.size
     replace r1:=r1.later b2
     clear c10
     have c10:=r1.cell 0 _ rfl
     try rw [hk]at c10)
  | (refine Z0k 37 8 _ Z0q (by rfl) _ (by rfl) g1 (by rfl) _ r1 rfl ?_)
  | (go_at_call 33;refine(hR _ Bc).mono ?_;rintro e w3 ⟨A,rfl,hA,G⟩
     have r2':=r2.step G.stp (fun e=>by have:=hU g2 e;omega))
  | (refine Z03 (by rfl) _ _ (by rfl) g2 (by rfl) A E hA (by rfl) _ r2' rfl ?_;intro w9 r9 s9))
 exact bodyPost_ret (Z0a Z06 Tryz.results10 rfl r9 hA.len) rfl ⟨A,rfl,hA,Z0z hU Bc G (by omega) (by omega) s9⟩
set_option maxHeartbeats 8000000 in
theorem rd6 {w:World} {U:Nat→Prop} {y:Nat} {Z Z':Tz} {E:Int} (h:Dx w U y Z) (o:Oz) (s:Sv) (hk:o.k=6)
 (hR:∀ w',Below w.heap.size w w'→Calls Tryz.prog 34 #[.pointer (some ⟨y,0,none⟩), .agg (opC o s).toArray] w' fun e u=>RetY e U y Z' E w' u):
 Calls Tryz.prog 10 #[.pointer (some ⟨y,0,none⟩), .agg (opC o s).toArray] w fun e w'=>RetY e U y Z' E w w':=by
 have hU:=h.low
 go_enter Tryz.func10,Tryz.ntmps10
 go_wp2_with (first
  | (refine Z05 (by rfl) _ (by rfl) o s (by rfl) ?_;intro g1 w1 z1 z2 r1 b1
     have Bc:=b1
     have v1:=b1.size
     have c10:=r1.cell 0 _ rfl
     try rw [hk]at c10)
  | (refine Z02 (by rfl) (by rfl) ?_;intro g2 w2 z3 z4 r2 b2
     replace Bc:=Z00q Bc b2 (Nat.le_refl _)
     have v2:=b2.size
     replace r1:=r1.later b2
     clear c10
     have c10:=r1.cell 0 _ rfl
     try rw [hk]at c10)
  | (refine Z0k 37 8 _ Z0q (by rfl) _ (by rfl) g1 (by rfl) _ r1 rfl ?_)
  | (go_at_call 34;refine(hR _ Bc).mono ?_;rintro e w3 ⟨A,rfl,hA,G⟩
     have r2':=r2.step G.stp (fun e=>by have:=hU g2 e;omega))
  | (refine Z03 (by rfl) _ _ (by rfl) g2 (by rfl) A E hA (by rfl) _ r2' rfl ?_;intro w9 r9 s9))
 exact bodyPost_ret (Z0a Z06 Tryz.results10 rfl r9 hA.len) rfl ⟨A,rfl,hA,Z0z hU Bc G (by omega) (by omega) s9⟩
set_option maxHeartbeats 8000000 in
theorem rd12 {w:World} {U:Nat→Prop} {y:Nat} {Z Z':Tz} {E:Int} (h:Dx w U y Z) (o:Oz) (s:Sv) (hk:o.k=12)
 (hR:∀ w',Below w.heap.size w w'→Calls Tryz.prog 34 #[.pointer (some ⟨y,0,none⟩), .agg (opC o s).toArray] w' fun e u=>RetY e U y Z' E w' u):
 Calls Tryz.prog 10 #[.pointer (some ⟨y,0,none⟩), .agg (opC o s).toArray] w fun e w'=>RetY e U y Z' E w w':=by
 have hU:=h.low
 go_enter Tryz.func10,Tryz.ntmps10
 go_wp2_with (first
  | (refine Z05 (by rfl) _ (by rfl) o s (by rfl) ?_;intro g1 w1 z1 z2 r1 b1
     have Bc:=b1
     have v1:=b1.size
     have c10:=r1.cell 0 _ rfl
     try rw [hk]at c10)
  | (refine Z02 (by rfl) (by rfl) ?_;intro g2 w2 z3 z4 r2 b2
     replace Bc:=Z00q Bc b2 (Nat.le_refl _)
     have v2:=b2.size
     replace r1:=r1.later b2
     clear c10
     have c10:=r1.cell 0 _ rfl
     try rw [hk]at c10)
  | (refine Z0k 37 8 _ Z0q (by rfl) _ (by rfl) g1 (by rfl) _ r1 rfl ?_)
  | (go_at_call 34;refine(hR _ Bc).mono ?_;rintro e w3 ⟨A,rfl,hA,G⟩
     have r2':=r2.step G.stp (fun e=>by have:=hU g2 e;omega))
  | (refine Z03 (by rfl) _ _ (by rfl) g2 (by rfl) A E hA (by rfl) _ r2' rfl ?_;intro w9 r9 s9))
 exact bodyPost_ret (Z0a Z06 Tryz.results10 rfl r9 hA.len) rfl ⟨A,rfl,hA,Z0z hU Bc G (by omega) (by omega) s9⟩
set_option maxHeartbeats 8000000 in
theorem rd13 {w:World} {U:Nat→Prop} {y:Nat} {Z Z':Tz} {E:Int} (h:Dx w U y Z) (o:Oz) (s:Sv) (hk:o.k=13)
 (hR:∀ w',Below w.heap.size w w'→Calls Tryz.prog 34 #[.pointer (some ⟨y,0,none⟩), .agg (opC o s).toArray] w' fun e u=>RetY e U y Z' E w' u):
 Calls Tryz.prog 10 #[.pointer (some ⟨y,0,none⟩), .agg (opC o s).toArray] w fun e w'=>RetY e U y Z' E w w':=by
 have hU:=h.low
 go_enter Tryz.func10,Tryz.ntmps10
 go_wp2_with (first
  | (refine Z05 (by rfl) _ (by rfl) o s (by rfl) ?_;intro g1 w1 z1 z2 r1 b1
     have Bc:=b1
     have v1:=b1.size
     have c10:=r1.cell 0 _ rfl
     try rw [hk]at c10)
  | (refine Z02 (by rfl) (by rfl) ?_;intro g2 w2 z3 z4 r2 b2
     replace Bc:=Z00q Bc b2 (Nat.le_refl _)
     have v2:=b2.size
     replace r1:=r1.later b2
     clear c10
     have c10:=r1.cell 0 _ rfl
     try rw [hk]at c10)
  | (refine Z0k 37 8 _ Z0q (by rfl) _ (by rfl) g1 (by rfl) _ r1 rfl ?_)
  | (go_at_call 34;refine(hR _ Bc).mono ?_;rintro e w3 ⟨A,rfl,hA,G⟩
     have r2':=r2.step G.stp (fun e=>by have:=hU g2 e;omega))
  | (refine Z03 (by rfl) _ _ (by rfl) g2 (by rfl) A E hA (by rfl) _ r2' rfl ?_;intro w9 r9 s9))
 exact bodyPost_ret (Z0a Z06 Tryz.results10 rfl r9 hA.len) rfl ⟨A,rfl,hA,Z0z hU Bc G (by omega) (by omega) s9⟩
set_option maxHeartbeats 8000000 in
theorem rd15 {w:World} {U:Nat→Prop} {y:Nat} {Z:Tz} (h:Dx w U y Z) (o:Oz) (s:Sv) (hk:o.k=15):
 Calls Tryz.prog 10 #[.pointer (some ⟨y,0,none⟩), .agg (opC o s).toArray] w fun e w'=>RetY e U y Z 0 w w':=by
 have hU:=h.low
 go_enter Tryz.func10,Tryz.ntmps10
 go_wp2_with (first
  | (refine Z05 (by rfl) _ (by rfl) o s (by rfl) ?_;intro g1 w1 z1 z2 r1 b1
     have Bc:=b1
     have v1:=b1.size
     have c10:=r1.cell 0 _ rfl
     try rw [hk]at c10)
  | (refine Z02 (by rfl) (by rfl) ?_;intro g2 w2 z3 z4 r2 b2
     replace Bc:=Z00q Bc b2 (Nat.le_refl _)
     have v2:=b2.size
     replace r1:=r1.later b2
     clear c10
     have c10:=r1.cell 0 _ rfl
     try rw [hk]at c10)
  | (refine Z03 (by rfl) _ _ (by rfl) g2 (by rfl) anZ 0 Z0c (by rfl) _ r2 rfl ?_;intro w9 r9 s9))
 exact bodyPost_ret (Z0a Z06 Tryz.results10 rfl r9 rfl) rfl ⟨anZ,rfl,Z0c,Z0e h Bc (by omega) s9⟩
set_option maxHeartbeats 8000000 in
theorem rd0 {w:World} {U:Nat→Prop} {y:Nat} {Z:Tz} (h:Dx w U y Z) (o:Oz) (s:Sv) (q1:(o.k==1)=false) (q2:(o.k==2)=false) (q3:(o.k==3)=false) (q4:(o.k==4)=false) (q5:(o.k==5)=false) (q6:(o.k==6)=false) (q7:(o.k==7)=false) (q8:(o.k==8)=false) (q9:(o.k==9)=false) (q10:(o.k==10)=false) (q11:(o.k==11)=false) (q12:(o.k==12)=false) (q13:(o.k==13)=false) (q14:(o.k==14)=false) (q15:(o.k==15)=false):
 Calls Tryz.prog 10 #[.pointer (some ⟨y,0,none⟩), .agg (opC o s).toArray] w fun e w'=>RetY e U y Z 2 w w':=by
 have hU:=h.low
 go_enter Tryz.func10,Tryz.ntmps10
 go_wp2_with (first
  | (refine Z05 (by rfl) _ (by rfl) o s (by rfl) ?_;intro g1 w1 z1 z2 r1 b1
     have Bc:=b1
     have v1:=b1.size
     have c10:=r1.cell 0 _ rfl
     try rw [hk]at c10)
  | (refine Z02 (by rfl) (by rfl) ?_;intro g2 w2 z3 z4 r2 b2
     replace Bc:=Z00q Bc b2 (Nat.le_refl _)
     have v2:=b2.size
     replace r1:=r1.later b2
     clear c10
     have c10:=r1.cell 0 _ rfl
     try rw [hk]at c10)
  | (go_at_call 35;refine(Z0b _ _).mono ?_;rintro e wf ⟨rfl,bf⟩
     replace Bc:=Z00q Bc bf (Nat.le_refl _)
     replace r2:=r2.later bf)
  | (refine Z03 (by rfl) _ _ (by rfl) g2 (by rfl) (anC 2 0 nilV nilV 0 0 0) 2 (Z09 2) (by rfl) _ r2 rfl ?_;intro w9 r9 s9))
 exact bodyPost_ret (Z0a Z06 Tryz.results10 rfl r9 rfl) rfl ⟨_,rfl,Z09 2,Z0e h Bc (by omega) s9⟩
set_option maxRecDepth 100000
theorem Zdt {w:World} {U:Nat→Prop} {y n:Nat} {Z:Tz} (h:Dx w U y Z) (hz:Z.ok n) (hn:n≤900) (o:Oz) (ho:o.wfo) (s:Sv) (hs:BsS w s o.d) (he:InE (fun z=>¬U z) s):
 Calls Tryz.prog 10 #[.pointer (some ⟨y,0,none⟩), .agg (opC o s).toArray] w fun e w'=>RetY e U y (Z.do1 o) (Z.doE o) w w':=by
 by_cases hk:o.k=1
 · have e1:Z.doE o=Z.opE o:=by unfold Tz.doE;rw [if_pos hk]
   have e2:Z.do1 o=if Z.opE o=0 then Z.opS o else Z:=by
    unfold Tz.do1
    rw [e1]
    congr 1
    unfold Tz.doS;rw [if_pos hk]
   rw [e1,e2]
   exact rd1 h o s hk (fun w' b=>Zb4 (h.later b) hz hn o ho s)
 have q1:(o.k==1)=false:=by simpa using hk
 have p1:=hk
 clear hk
 by_cases hk:o.k=2
 · have e1:Z.doE o=Z04 Z.t o.fd:=by unfold Tz.doE;rw [if_neg (by omega),if_pos hk]
   have e2:Z.do1 o=if Z04 Z.t o.fd=0 then Z.clS o else Z:=by
    unfold Tz.do1
    rw [e1]
    congr 1
    unfold Tz.doS;rw [if_neg (by omega),if_pos hk]
   rw [e1,e2]
   exact rd2 h o s hk (fun w' b=>Z9x (h.later b) hz hn o ho s hk)
 have q2:(o.k==2)=false:=by simpa using hk
 have p2:=hk
 clear hk
 by_cases hk:o.k=3
 · have e1:Z.doE o=Z.reE o:=by unfold Tz.doE;rw [if_neg (by omega),if_neg (by omega),if_pos hk]
   have e2:Z.do1 o=if Z.reE o=0 then Z.reS o else Z:=by
    unfold Tz.do1
    rw [e1]
    congr 1
    unfold Tz.doS;rw [if_neg (by omega),if_neg (by omega),if_pos hk]
   rw [e1,e2]
   exact rd3 h o s hk (fun w' b=>Zb6 (h.later b) hz hn o ho s hk)
 have q3:(o.k==3)=false:=by simpa using hk
 have p3:=hk
 clear hk
 by_cases hk:o.k=4
 · have e1:Z.doE o=Z.wrE o:=by unfold Tz.doE;rw [if_neg (by omega),if_neg (by omega),if_neg (by omega),if_pos hk]
   have e2:Z.do1 o=if Z.wrE o=0 then Z.wrS o else Z:=by
    unfold Tz.do1
    rw [e1]
    congr 1
    unfold Tz.doS;rw [if_neg (by omega),if_neg (by omega),if_neg (by omega),if_pos hk]
   rw [e1,e2]
   exact rd4 h o s hk (fun w' b=>Za5 (h.later b) hz hn o ho s (hs.later b) he hk)
 have q4:(o.k==4)=false:=by simpa using hk
 have p4:=hk
 clear hk
 by_cases hk:o.k=5
 · have e1:Z.doE o=Z.skE o:=by unfold Tz.doE;rw [if_neg (by omega),if_neg (by omega),if_neg (by omega),if_neg (by omega),if_pos hk]
   have e2:Z.do1 o=if Z.skE o=0 then Z.skS o else Z:=by
    unfold Tz.do1
    rw [e1]
    congr 1
    unfold Tz.doS;rw [if_neg (by omega),if_neg (by omega),if_neg (by omega),if_neg (by omega),if_pos hk]
   rw [e1,e2]
   exact rd5 h o s hk (fun w' b=>Zb7 (h.later b) hz hn o ho s hk)
 have q5:(o.k==5)=false:=by simpa using hk
 have p5:=hk
 clear hk
 by_cases hk:o.k=6
 · have e1:Z.doE o=Z.cuE o:=by unfold Tz.doE;rw [if_neg (by omega),if_neg (by omega),if_neg (by omega),if_neg (by omega),if_neg (by omega),if_pos hk]
   have e2:Z.do1 o=if Z.cuE o=0 then Z.cuS o else Z:=by
    unfold Tz.do1
    rw [e1]
    congr 1
    unfold Tz.doS;rw [if_neg (by omega),if_neg (by omega),if_neg (by omega),if_neg (by omega),if_neg (by omega),if_pos hk]
   rw [e1,e2]
   exact rd6 h o s hk (fun w' b=>Zaw (h.later b) hz hn o ho s hk)
 have q6:(o.k==6)=false:=by simpa using hk
 have p6:=hk
 clear hk
 by_cases hk:o.k=7
 · have e1:Z.doE o=Z.mdE o:=by unfold Tz.doE;rw [if_neg (by omega),if_neg (by omega),if_neg (by omega),if_neg (by omega),if_neg (by omega),if_neg (by omega),if_pos hk]
   have e2:Z.do1 o=if Z.mdE o=0 then Z.mdS o else Z:=by
    unfold Tz.do1
    rw [e1]
    congr 1
    unfold Tz.doS;rw [if_neg (by omega),if_neg (by omega),if_neg (by omega),if_neg (by omega),if_neg (by omega),if_neg (by omega),if_pos hk]
   rw [e1,e2]
   exact rd7 h o s hk (fun w' b=>Za1 (h.later b) hz hn o ho s hk)
 have q7:(o.k==7)=false:=by simpa using hk
 have p7:=hk
 clear hk
 by_cases hk:o.k=8
 · have e1:Z.doE o=Z.rmE o:=by unfold Tz.doE;rw [if_neg (by omega),if_neg (by omega),if_neg (by omega),if_neg (by omega),if_neg (by omega),if_neg (by omega),if_neg (by omega),if_pos hk]
   have e2:Z.do1 o=if Z.rmE o=0 then Z.unS o else Z:=by
    unfold Tz.do1
    rw [e1]
    congr 1
    unfold Tz.doS;rw [if_neg (by omega),if_neg (by omega),if_neg (by omega),if_neg (by omega),if_neg (by omega),if_neg (by omega),if_neg (by omega),if_pos hk]
   rw [e1,e2]
   exact rd8 h o s hk (fun w' b=>Za4 (h.later b) hz hn o ho s hk)
 have q8:(o.k==8)=false:=by simpa using hk
 have p8:=hk
 clear hk
 by_cases hk:o.k=9
 · have e1:Z.doE o=Z.liE o:=by unfold Tz.doE;rw [if_neg (by omega),if_neg (by omega),if_neg (by omega),if_neg (by omega),if_neg (by omega),if_neg (by omega),if_neg (by omega),if_neg (by omega),if_pos hk]
   have e2:Z.do1 o=if Z.liE o=0 then Z.liS o else Z:=by
    unfold Tz.do1
    rw [e1]
    congr 1
    unfold Tz.doS;rw [if_neg (by omega),if_neg (by omega),if_neg (by omega),if_neg (by omega),if_neg (by omega),if_neg (by omega),if_neg (by omega),if_neg (by omega),if_pos hk]
   rw [e1,e2]
   exact rd9 h o s hk (fun w' b=>Zb1 (h.later b) hz hn o ho s)
 have q9:(o.k==9)=false:=by simpa using hk
 have p9:=hk
 clear hk
 by_cases hk:o.k=10
 · have e1:Z.doE o=Z.ulE o:=by unfold Tz.doE;rw [if_neg (by omega),if_neg (by omega),if_neg (by omega),if_neg (by omega),if_neg (by omega),if_neg (by omega),if_neg (by omega),if_neg (by omega),if_neg (by omega),if_pos hk]
   have e2:Z.do1 o=if Z.ulE o=0 then Z.unS o else Z:=by
    unfold Tz.do1
    rw [e1]
    congr 1
    unfold Tz.doS;rw [if_neg (by omega),if_neg (by omega),if_neg (by omega),if_neg (by omega),if_neg (by omega),if_neg (by omega),if_neg (by omega),if_neg (by omega),if_neg (by omega),if_pos hk]
   rw [e1,e2]
   exact rd10 h o s hk (fun w' b=>Z8x (h.later b) hz hn o ho s hk)
 have q10:(o.k==10)=false:=by simpa using hk
 have p10:=hk
 clear hk
 by_cases hk:o.k=11
 · have e1:Z.doE o=Z.rnE o:=by unfold Tz.doE;rw [if_neg (by omega),if_neg (by omega),if_neg (by omega),if_neg (by omega),if_neg (by omega),if_neg (by omega),if_neg (by omega),if_neg (by omega),if_neg (by omega),if_neg (by omega),if_pos hk]
   have e2:Z.do1 o=if Z.rnE o=0 then Z.rnS o else Z:=by
    unfold Tz.do1
    rw [e1]
    congr 1
    unfold Tz.doS;rw [if_neg (by omega),if_neg (by omega),if_neg (by omega),if_neg (by omega),if_neg (by omega),if_neg (by omega),if_neg (by omega),if_neg (by omega),if_neg (by omega),if_neg (by omega),if_pos hk]
   rw [e1,e2]
   exact rd11 h o s hk (fun w' b=>Z8w (h.later b) hz hn o ho s)
 have q11:(o.k==11)=false:=by simpa using hk
 have p11:=hk
 clear hk
 by_cases hk:o.k=12
 · have e1:Z.doE o=(Z.wa o.p).2:=by unfold Tz.doE;rw [if_neg (by omega),if_neg (by omega),if_neg (by omega),if_neg (by omega),if_neg (by omega),if_neg (by omega),if_neg (by omega),if_neg (by omega),if_neg (by omega),if_neg (by omega),if_neg (by omega),if_pos hk]
   have e2:Z.do1 o=Z:=by
    unfold Tz.do1
    rw [e1]
    split<;>try rfl
    unfold Tz.doS;rw [if_neg (by omega),if_neg (by omega),if_neg (by omega),if_neg (by omega),if_neg (by omega),if_neg (by omega),if_neg (by omega),if_neg (by omega),if_neg (by omega),if_neg (by omega),if_neg (by omega)]
   rw [e1,e2]
   exact rd12 h o s hk (fun w' b=>Zb8 (h.later b) hz hn o ho s hk)
 have q12:(o.k==12)=false:=by simpa using hk
 have p12:=hk
 clear hk
 by_cases hk:o.k=13
 · have e1:Z.doE o=Z.lsE' o:=by unfold Tz.doE;rw [if_neg (by omega),if_neg (by omega),if_neg (by omega),if_neg (by omega),if_neg (by omega),if_neg (by omega),if_neg (by omega),if_neg (by omega),if_neg (by omega),if_neg (by omega),if_neg (by omega),if_neg (by omega),if_pos hk]
   have e2:Z.do1 o=Z:=by
    unfold Tz.do1
    rw [e1]
    split<;>try rfl
    unfold Tz.doS;rw [if_neg (by omega),if_neg (by omega),if_neg (by omega),if_neg (by omega),if_neg (by omega),if_neg (by omega),if_neg (by omega),if_neg (by omega),if_neg (by omega),if_neg (by omega),if_neg (by omega)]
   rw [e1,e2]
   exact rd13 h o s hk (fun w' b=>Zb2 (h.later b) hz hn o ho s hk)
 have q13:(o.k==13)=false:=by simpa using hk
 have p13:=hk
 clear hk
 by_cases hk:o.k=14
 · have e1:Z.doE o=Z04 Z.t o.fd:=by unfold Tz.doE;rw [if_neg (by omega),if_neg (by omega),if_neg (by omega),if_neg (by omega),if_neg (by omega),if_neg (by omega),if_neg (by omega),if_neg (by omega),if_neg (by omega),if_neg (by omega),if_neg (by omega),if_neg (by omega),if_neg (by omega),if_pos hk]
   have e2:Z.do1 o=Z:=by
    unfold Tz.do1
    rw [e1]
    split<;>try rfl
    unfold Tz.doS;rw [if_neg (by omega),if_neg (by omega),if_neg (by omega),if_neg (by omega),if_neg (by omega),if_neg (by omega),if_neg (by omega),if_neg (by omega),if_neg (by omega),if_neg (by omega),if_neg (by omega)]
   rw [e1,e2]
   exact rd14 h o s hk (fun w' b=>Z9z (h.later b) hz hn o ho s hk)
 have q14:(o.k==14)=false:=by simpa using hk
 have p14:=hk
 clear hk
 by_cases hk:o.k=15
 · have e1:Z.doE o=0:=by unfold Tz.doE;rw [if_neg p1,if_neg p2,if_neg p3,if_neg p4,if_neg p5,if_neg p6,if_neg p7,if_neg p8,if_neg p9,if_neg p10,if_neg p11,if_neg p12,if_neg p13,if_neg p14,if_pos hk]
   have e2:Z.do1 o=Z:=by
    unfold Tz.do1
    rw [e1,if_pos rfl]
    unfold Tz.doS;rw [if_neg p1,if_neg p2,if_neg p3,if_neg p4,if_neg p5,if_neg p6,if_neg p7,if_neg p8,if_neg p9,if_neg p10,if_neg p11]
   rw [e1,e2]
   exact rd15 h o s hk
 have q15:(o.k==15)=false:=by simpa using hk
 have e1:Z.doE o=2:=by unfold Tz.doE;rw [if_neg p1,if_neg p2,if_neg p3,if_neg p4,if_neg p5,if_neg p6,if_neg p7,if_neg p8,if_neg p9,if_neg p10,if_neg p11,if_neg p12,if_neg p13,if_neg p14,if_neg hk]
 have e2:Z.do1 o=Z:=by unfold Tz.do1;rw [e1,if_neg (by decide)]
 rw [e1,e2]
 exact rd0 h o s q1 q2 q3 q4 q5 q6 q7 q8 q9 q10 q11 q12 q13 q14 q15
set_option maxRecDepth 100000
def nwC:List Value:= [.int .i64 0, .int .i64 0, .slice none 0 0, .slice none 0 0, .int .i64 2, .int .i64 1, .slice none 0 0, .slice none 0 0]
def nwF:Nat→Value:=fun i=>nwC.getD i undef
section
variable {ops : Array Oper} {rest : List Oper} {o : Oper} {a : Act} {w : World} {Q : Exit → Act → World → Prop}
theorem Zbq (hw:Region.wanted o (yielded ops a.tmps)=true) (x z:Operand) (ho:o.op= .buildSlice 39 2 #[(0,x),(1,z)]) (hx:a.eval x= .agg #[.int .i64 0, .int .i64 0, .slice none 0 0, .slice none 0 0]) (hz:a.eval z= .agg #[.int .i64 2, .int .i64 1, .slice none 0 0, .slice none 0 0])
 (h:∀ g w',w.heap.size≤g→Nr w' g 2 2 nwF→Below w.heap.size w w'→wpList Tryz.prog ops Q rest (a.put o.dst (.slice (some ⟨g,0,none⟩) 2 2)) w'):wpList Tryz.prog ops Q (o::rest) a w:=by
 have hR:(w.alloc (.cells nwC.toArray 76)).ownsRow 0 76 4 (.slice (some ⟨w.heap.size,0,none⟩) 2 2) 2 nwC:=
  ⟨rfl, .inr ⟨w.heap.size,2,nwC.toArray,rfl,Nat.zero_le _,heap_alloc_new w _,Nat.le_refl _,by unfold maxLen;omega,rfl,rfl⟩⟩
 refine Z11 hw _ _ ?_ (h w.heap.size _ (Nat.le_refl _) hR ((Below.refl _ _).alloc (Nat.le_refl _) _))
 have:(Instr.buildSlice 39 2 #[(0, .agg #[.int .i64 0, .int .i64 0, .slice none 0 0, .slice none 0 0]),(1, .agg #[.int .i64 2, .int .i64 1, .slice none 0 0, .slice none 0 0])]).run Tryz.prog w= .ok (.slice (some ⟨w.heap.size,0,none⟩) 2 2) (w.alloc (.cells nwC.toArray 76)):=by kernel_rfl
 simp [execOp,ho,hx,hz,this]
end
set_option maxHeartbeats 4000000 in
theorem Zcc (w:World):
 Calls Tryz.prog 7 #[] w fun e w'=>∃ y U,e= .returned (.pointer (some ⟨y,0,none⟩))∧Below w.heap.size w w'∧Dx w' U y Tz.new∧∀ x,U x→w.heap.size≤x:=by
 go_enter Tryz.func7,Tryz.ntmps7
 go_wp2_with (first
  | (refine Zbq (by rfl) _ _ (by rfl) (by rfl) (by rfl) ?_;intro r w1 hr R1 b1)
  | (go_at_call 26;refine(Zaz _).mono ?_;rintro e w2 ⟨fb,rfl,z2,b2,R2⟩
     have B2:=Z00q b1 b2 (Nat.le_refl _))
  | (refine Z2n 42 (by rfl) _ (by rfl) [.slice (some ⟨r,0,none⟩) 2 2, .pointer (some ⟨fb,0,none⟩)] (by rfl) (by simp [Value.oneCell']) ?_;intro y w3 z3 z4 r3 b3
     have B3:=Z00q B2 b3 (Nat.le_refl _)))
 have R1':Nr w3 r 2 2 nwF:=R1.step (Stp.of_below (Z00q b2 b3 (Nat.le_refl _)) (fun _=>False)) id
 have lr:=R1.lt
 have lf:=R2.lt
 have sz3:=b3.size
 have sz2:=b2.size
 have D:Dw w3 y fb r 2 (fun _=>False) nwF (fun _=>Sv.nil) (fun _=>Sv.nil) Tz.new:=by
  refine⟨r3,R1',R2.step (Stp.of_below b3 (fun _=>False)) id,by omega,by omega,by omega,fun x e=>e.elim,?_,fun i _=>?_,fun i _=>?_⟩
  · intro i hi
    have hi2:i < 2:=hi
    match i,hi2 with
    | 0,_=>exact⟨rfl,rfl,rfl,rfl⟩
    | 1,_=>exact⟨rfl,rfl,rfl,rfl⟩
  · match i with
    | 0=>exact⟨Z0y _,InE.nil _⟩
    | 1=>exact⟨Z0y _,InE.nil _⟩
    | i+2=>exact⟨Z0y _,InE.nil _⟩
  · match i with
    | 0=>exact⟨EsS.nil _,InE.nil _⟩
    | 1=>exact⟨EsS.nil _,InE.nil _⟩
    | i+2=>exact⟨EsS.nil _,InE.nil _⟩
 go_returns
 exact ⟨y,fun x=>x=y∨x=fb∨x=r∨False,rfl,B3,⟨fb,r,2,_,_,_,_,D,fun x=>Iff.rfl⟩,fun x hx=>by
  rcases hx with e | e | e | e
  · omega
  · have:=b1.size;omega
  · omega
  · exact e.elim⟩
end Go.Proofs.YtdnjddpfcgginaaGreat
