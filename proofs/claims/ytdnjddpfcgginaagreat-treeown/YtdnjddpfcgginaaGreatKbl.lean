/-
  Texts of my own, joined: no statement is proved here.
-/
import Derived.Test.YtdnjddpfcgginaaGreatKbk
set_option linter.unusedSimpArgs false
set_option linter.unusedVariables false
namespace Go.Proofs.YtdnjddpfcgginaaGreat
open Go.ChangeShapes Go.WideShapes Go.ChangeAt Go.RowKit
set_option maxRecDepth 100000
set_option maxHeartbeats 8000000 in
theorem rd1 {w:World} {U:Nat→Prop} {y:Nat} {Z Z':Tz} {E:Int} (h:Dx w U y Z) (o:Oz) (s:Sv) (hk:o.k=1)
 (hR:∀ w',Below w.heap.size w w'→Calls Tryz.prog 29 #[.pointer (some ⟨y,0,none⟩), .agg (opC o s).toArray] w' fun e u=>RetY e U y Z' E w' u):
 Calls Tryz.prog 10 #[.pointer (some ⟨y,0,none⟩), .agg (opC o s).toArray] w fun e w'=>RetY e U y Z' E w w':=by
 have hU:=h.low
 go_enter Tryz.func10,Tryz.ntmps10
 go_wp2_with (first
  | (refine Z05 (by rfl) _ (by rfl) o s (by rfl) ?_;intro g1 w1 z1 z2 r1 b1
     have Bc:=b1
     have v1:=b1.size
     have c10:=r1.cell 0 _ rfl
     try rw [hk]at c10)
  | (refine Z02 (by rfl) (by rfl) ?_;intro g2 w2 z3 z4 r2 b2
     replace Bc:=Z00q Bc b2 (Nat.le_refl _)
     have v2:=b2.size
     replace r1:=r1.later b2
     clear c10
     have c10:=r1.cell 0 _ rfl
     try rw [hk]at c10)
  | (refine Z0k 37 8 _ Z0r (by rfl) _ (by rfl) g1 (by rfl) _ r1 rfl ?_)
  | (go_at_call 29;refine(hR _ Bc).mono ?_;rintro e w3 ⟨A,rfl,hA,G⟩
     have r2':=r2.step G.stp (fun e=>by have:=hU g2 e;omega))
  | (refine Z03 (by rfl) _ _ (by rfl) g2 (by rfl) A E hA (by rfl) _ r2' rfl ?_;intro w9 r9 s9))
 exact bodyPost_ret (Z0a Z06 Tryz.results10 rfl r9 hA.len) rfl ⟨A,rfl,hA,Z11 hU Bc G (by omega) (by omega) s9⟩
set_option maxHeartbeats 8000000 in
theorem rd2 {w:World} {U:Nat→Prop} {y:Nat} {Z Z':Tz} {E:Int} (h:Dx w U y Z) (o:Oz) (s:Sv) (hk:o.k=2)
 (hR:∀ w',Below w.heap.size w w'→Calls Tryz.prog 30 #[.pointer (some ⟨y,0,none⟩), .agg (opC o s).toArray] w' fun e u=>RetY e U y Z' E w' u):
 Calls Tryz.prog 10 #[.pointer (some ⟨y,0,none⟩), .agg (opC o s).toArray] w fun e w'=>RetY e U y Z' E w w':=by
 have hU:=h.low
 go_enter Tryz.func10,Tryz.ntmps10
 go_wp2_with (first
  | (refine Z05 (by rfl) _ (by rfl) o s (by rfl) ?_;intro g1 w1 z1 z2 r1 b1
     have Bc:=b1
     have v1:=b1.size
     have c10:=r1.cell 0 _ rfl
     try rw [hk]at c10)
  | (refine Z02 (by rfl) (by rfl) ?_;intro g2 w2 z3 z4 r2 b2
     replace Bc:=Z00q Bc b2 (Nat.le_refl _)
     have v2:=b2.size
     replace r1:=r1.later b2
     clear c10
     have c10:=r1.cell 0 _ rfl
     try rw [hk]at c10)
  | (refine Z0k 37 8 _ Z0r (by rfl) _ (by rfl) g1 (by rfl) _ r1 rfl ?_)
  | (go_at_call 30;refine(hR _ Bc).mono ?_;rintro e w3 ⟨A,rfl,hA,G⟩
     have r2':=r2.step G.stp (fun e=>by have:=hU g2 e;omega))
  | (refine Z03 (by rfl) _ _ (by rfl) g2 (by rfl) A E hA (by rfl) _ r2' rfl ?_;intro w9 r9 s9))
 exact bodyPost_ret (Z0a Z06 Tryz.results10 rfl r9 hA.len) rfl ⟨A,rfl,hA,Z11 hU Bc G (by omega) (by omega) s9⟩
set_option maxHeartbeats 8000000 in
theorem rd3 {w:World} {U:Nat→Prop} {y:Nat} {Z Z':Tz} {E:Int} (h:Dx w U y Z) (o:Oz) (s:Sv) (hk:o.k=3)
 (hR:∀ w',Below w.heap.size w w'→Calls Tryz.prog 30 #[.pointer (some ⟨y,0,none⟩), .agg (opC o s).toArray] w' fun e u=>RetY e U y Z' E w' u):
 Calls Tryz.prog 10 #[.pointer (some ⟨y,0,none⟩), .agg (opC o s).toArray] w fun e w'=>RetY e U y Z' E w w':=by
 have hU:=h.low
 go_enter Tryz.func10,Tryz.ntmps10
 go_wp2_with (first
  | (refine Z05 (by rfl) _ (by rfl) o s (by rfl) ?_;intro g1 w1 z1 z2 r1 b1
     have Bc:=b1
     have v1:=b1.size
     have c10:=r1.cell 0 _ rfl
     try rw [hk]at c10)
  | (refine Z02 (by rfl) (by rfl) ?_;intro g2 w2 z3 z4 r2 b2
     replace Bc:=Z00q Bc b2 (Nat.le_refl _)
     have v2:=b2.size
     replace r1:=r1.later b2
     clear c10
     have c10:=r1.cell 0 _ rfl
     try rw [hk]at c10)
  | (refine Z0k 37 8 _ Z0r (by rfl) _ (by rfl) g1 (by rfl) _ r1 rfl ?_)
  | (go_at_call 30;refine(hR _ Bc).mono ?_;rintro e w3 ⟨A,rfl,hA,G⟩
     have r2':=r2.step G.stp (fun e=>by have:=hU g2 e;omega))
  | (refine Z03 (by rfl) _ _ (by rfl) g2 (by rfl) A E hA (by rfl) _ r2' rfl ?_;intro w9 r9 s9))
 exact bodyPost_ret (Z0a Z06 Tryz.results10 rfl r9 hA.len) rfl ⟨A,rfl,hA,Z11 hU Bc G (by omega) (by omega) s9⟩
set_option maxHeartbeats 8000000 in
theorem rd4 {w:World} {U:Nat→Prop} {y:Nat} {Z Z':Tz} {E:Int} (h:Dx w U y Z) (o:Oz) (s:Sv) (hk:o.k=4)
 (hR:∀ w',Below w.heap.size w w'→Calls Tryz.prog 30 #[.pointer (some ⟨y,0,none⟩), .agg (opC o s).toArray] w' fun e u=>RetY e U y Z' E w' u):
 Calls Tryz.prog 10 #[.pointer (some ⟨y,0,none⟩), .agg (opC o s).toArray] w fun e w'=>RetY e U y Z' E w w':=by
 have hU:=h.low
 go_enter Tryz.func10,Tryz.ntmps10
 go_wp2_with (first
  | (refine Z05 (by rfl) _ (by rfl) o s (by rfl) ?_;intro g1 w1 z1 z2 r1 b1
     have Bc:=b1
     have v1:=b1.size
     have c10:=r1.cell 0 _ rfl
     try rw [hk]at c10)
  | (refine Z02 (by rfl) (by rfl) ?_;intro g2 w2 z3 z4 r2 b2
     replace Bc:=Z00q Bc b2 (Nat.le_refl _)
     have v2:=b2.size
     replace r1:=r1.later b2
     clear c10
     have c10:=r1.cell 0 _ rfl
     try rw [hk]at c10)
  | (refine Z0k 37 8 _ Z0r (by rfl) _ (by rfl) g1 (by rfl) _ r1 rfl ?_)
  | (go_at_call 30;refine(hR _ Bc).mono ?_;rintro e w3 ⟨A,rfl,hA,G⟩
     have r2':=r2.step G.stp (fun e=>by have:=hU g2 e;omega))
  | (refine Z03 (by rfl) _ _ (by rfl) g2 (by rfl) A E hA (by rfl) _ r2' rfl ?_;intro w9 r9 s9))
 exact bodyPost_ret (Z0a Z06 Tryz.results10 rfl r9 hA.len) rfl ⟨A,rfl,hA,Z11 hU Bc G (by omega) (by omega) s9⟩
set_option maxHeartbeats 8000000 in
theorem rd5 {w:World} {U:Nat→Prop} {y:Nat} {Z Z':Tz} {E:Int} (h:Dx w U y Z) (o:Oz) (s:Sv) (hk:o.k=5)
 (hR:∀ w',Below w.heap.size w w'→Calls Tryz.prog 30 #[.pointer (some ⟨y,0,none⟩), .agg (opC o s).toArray] w' fun e u=>RetY e U y Z' E w' u):
 Calls Tryz.prog 10 #[.pointer (some ⟨y,0,none⟩), .agg (opC o s).toArray] w fun e w'=>RetY e U y Z' E w w':=by
 have hU:=h.low
 go_enter Tryz.func10,Tryz.ntmps10
 go_wp2_with (first
  | (refine Z05 (by rfl) _ (by rfl) o s (by rfl) ?_;intro g1 w1 z1 z2 r1 b1
     have Bc:=b1
     have v1:=b1.size
     have c10:=r1.cell 0 _ rfl
     try rw [hk]at c10)
  | (refine Z02 (by rfl) (by rfl) ?_;intro g2 w2 z3 z4 r2 b2
     replace Bc:=Z00q Bc b2 (Nat.le_refl _)
     have v2:=b2.size
     replace r1:=r1.later b2
     clear c10
     have c10:=r1.cell 0 _ rfl
     try rw [hk]at c10)
  | (refine Z0k 37 8 _ Z0r (by rfl) _ (by rfl) g1 (by rfl) _ r1 rfl ?_)
  | (go_at_call 30;refine(hR _ Bc).mono ?_;rintro e w3 ⟨A,rfl,hA,G⟩
     have r2':=r2.step G.stp (fun e=>by have:=hU g2 e;omega))
  | (refine Z03 (by rfl) _ _ (by rfl) g2 (by rfl) A E hA (by rfl) _ r2' rfl ?_;intro w9 r9 s9))
 exact bodyPost_ret (Z0a Z06 Tryz.results10 rfl r9 hA.len) rfl ⟨A,rfl,hA,Z11 hU Bc G (by omega) (by omega) s9⟩
set_option maxHeartbeats 8000000 in
theorem rd14 {w:World} {U:Nat→Prop} {y:Nat} {Z Z':Tz} {E:Int} (h:Dx w U y Z) (o:Oz) (s:Sv) (hk:o.k=14)
 (hR:∀ w',Below w.heap.size w w'→Calls Tryz.prog 30 #[.pointer (some ⟨y,0,none⟩), .agg (opC o s).toArray] w' fun e u=>RetY e U y Z' E w' u):
 Calls Tryz.prog 10 #[.pointer (some ⟨y,0,none⟩), .agg (opC o s).toArray] w fun e w'=>RetY e U y Z' E w w':=by
 have hU:=h.low
 go_enter Tryz.func10,Tryz.ntmps10
 go_wp2_with (first
  | (refine Z05 (by rfl) _ (by rfl) o s (by rfl) ?_;intro g1 w1 z1 z2 r1 b1
     have Bc:=b1
     have v1:=b1.size
     have c10:=r1.cell 0 _ rfl
     try rw [hk]at c10)
  | (refine Z02 (by rfl) (by rfl) ?_;intro g2 w2 z3 z4 r2 b2
     replace Bc:=Z00q Bc b2 (Nat.le_refl _)
     have v2:=b2.size
     replace r1:=r1.later b2
     clear c10
     have c10:=r1.cell 0 _ rfl
     try rw [hk]at c10)
  | (refine Z0k 37 8 _ Z0r (by rfl) _ (by rfl) g1 (by rfl) _ r1 rfl ?_)
  | (go_at_call 30;refine(hR _ Bc).mono ?_;rintro e w3 ⟨A,rfl,hA,G⟩
     have r2':=r2.step G.stp (fun e=>by have:=hU g2 e;omega))
  | (refine Z03 (by rfl) _ _ (by rfl) g2 (by rfl) A E hA (by rfl) _ r2' rfl ?_;intro w9 r9 s9))
 exact bodyPost_ret (Z0a Z06 Tryz.results10 rfl r9 hA.len) rfl ⟨A,rfl,hA,Z11 hU Bc G (by omega) (by omega) s9⟩
set_option maxHeartbeats 8000000 in
theorem rd7 {w:World} {U:Nat→Prop} {y:Nat} {Z Z':Tz} {E:Int} (h:Dx w U y Z) (o:Oz) (s:Sv) (hk:o.k=7)
 (hR:∀ w',Below w.heap.size w w'→Calls Tryz.prog 31 #[.pointer (some ⟨y,0,none⟩), .agg (opC o s).toArray] w' fun e u=>RetY e U y Z' E w' u):
 Calls Tryz.prog 10 #[.pointer (some ⟨y,0,none⟩), .agg (opC o s).toArray] w fun e w'=>RetY e U y Z' E w w':=by
 have hU:=h.low
 go_enter Tryz.func10,Tryz.ntmps10
 go_wp2_with (first
  | (refine Z05 (by rfl) _ (by rfl) o s (by rfl) ?_;intro g1 w1 z1 z2 r1 b1
     have Bc:=b1
     have v1:=b1.size
     have c10:=r1.cell 0 _ rfl
     try rw [hk]at c10)
  | (refine Z02 (by rfl) (by rfl) ?_;intro g2 w2 z3 z4 r2 b2
     replace Bc:=Z00q Bc b2 (Nat.le_refl _)
     have v2:=b2.size
     replace r1:=r1.later b2
     clear c10
     have c10:=r1.cell 0 _ rfl
     try rw [hk]at c10)
  | (refine Z0k 37 8 _ Z0r (by rfl) _ (by rfl) g1 (by rfl) _ r1 rfl ?_)
  | (go_at_call 31;refine(hR _ Bc).mono ?_;rintro e w3 ⟨A,rfl,hA,G⟩
     have r2':=r2.step G.stp (fun e=>by have:=hU g2 e;omega))
  | (refine Z03 (by rfl) _ _ (by rfl) g2 (by rfl) A E hA (by rfl) _ r2' rfl ?_;intro w9 r9 s9))
 exact bodyPost_ret (Z0a Z06 Tryz.results10 rfl r9 hA.len) rfl ⟨A,rfl,hA,Z11 hU Bc G (by omega) (by omega) s9⟩
set_option maxRecDepth 100000
set_option maxHeartbeats 8000000 in
theorem rd8 {w:World} {U:Nat→Prop} {y:Nat} {Z Z':Tz} {E:Int} (h:Dx w U y Z) (o:Oz) (s:Sv) (hk:o.k=8)
 (hR:∀ w',Below w.heap.size w w'→Calls Tryz.prog 31 #[.pointer (some ⟨y,0,none⟩), .agg (opC o s).toArray] w' fun e u=>RetY e U y Z' E w' u):
 Calls Tryz.prog 10 #[.pointer (some ⟨y,0,none⟩), .agg (opC o s).toArray] w fun e w'=>RetY e U y Z' E w w':=by
 have hU:=h.low
 go_enter Tryz.func10,Tryz.ntmps10
 go_wp2_with (first
  | (refine Z05 (by rfl) _ (by rfl) o s (by rfl) ?_;intro g1 w1 z1 z2 r1 b1
     have Bc:=b1
     have v1:=b1.size
     have c10:=r1.cell 0 _ rfl
     try rw [hk]at c10)
  | (refine Z02 (by rfl) (by rfl) ?_;intro g2 w2 z3 z4 r2 b2
     replace Bc:=Z00q Bc b2 (Nat.le_refl _)
     have v2:=b2.size
     replace r1:=r1.later b2
     clear c10
     have c10:=r1.cell 0 _ rfl
     try rw [hk]at c10)
  | (refine Z0k 37 8 _ Z0r (by rfl) _ (by rfl) g1 (by rfl) _ r1 rfl ?_)
  | (go_at_call 31;refine(hR _ Bc).mono ?_;rintro e w3 ⟨A,rfl,hA,G⟩
     have r2':=r2.step G.stp (fun e=>by have:=hU g2 e;omega))
  | (refine Z03 (by rfl) _ _ (by rfl) g2 (by rfl) A E hA (by rfl) _ r2' rfl ?_;intro w9 r9 s9))
 exact bodyPost_ret (Z0a Z06 Tryz.results10 rfl r9 hA.len) rfl ⟨A,rfl,hA,Z11 hU Bc G (by omega) (by omega) s9⟩
set_option maxHeartbeats 8000000 in
theorem rd10 {w:World} {U:Nat→Prop} {y:Nat} {Z Z':Tz} {E:Int} (h:Dx w U y Z) (o:Oz) (s:Sv) (hk:o.k=10)
 (hR:∀ w',Below w.heap.size w w'→Calls Tryz.prog 31 #[.pointer (some ⟨y,0,none⟩), .agg (opC o s).toArray] w' fun e u=>RetY e U y Z' E w' u):
 Calls Tryz.prog 10 #[.pointer (some ⟨y,0,none⟩), .agg (opC o s).toArray] w fun e w'=>RetY e U y Z' E w w':=by
 have hU:=h.low
 go_enter Tryz.func10,Tryz.ntmps10
 go_wp2_with (first
  | (refine Z05 (by rfl) _ (by rfl) o s (by rfl) ?_;intro g1 w1 z1 z2 r1 b1
     have Bc:=b1
     have v1:=b1.size
     have c10:=r1.cell 0 _ rfl
     try rw [hk]at c10)
  | (refine Z02 (by rfl) (by rfl) ?_;intro g2 w2 z3 z4 r2 b2
     replace Bc:=Z00q Bc b2 (Nat.le_refl _)
     have v2:=b2.size
     replace r1:=r1.later b2
     clear c10
     have c10:=r1.cell 0 _ rfl
     try rw [hk]at c10)
  | (refine Z0k 37 8 _ Z0r (by rfl) _ (by rfl) g1 (by rfl) _ r1 rfl ?_)
  | (go_at_call 31;refine(hR _ Bc).mono ?_;rintro e w3 ⟨A,rfl,hA,G⟩
     have r2':=r2.step G.stp (fun e=>by have:=hU g2 e;omega))
  | (refine Z03 (by rfl) _ _ (by rfl) g2 (by rfl) A E hA (by rfl) _ r2' rfl ?_;intro w9 r9 s9))
 exact bodyPost_ret (Z0a Z06 Tryz.results10 rfl r9 hA.len) rfl ⟨A,rfl,hA,Z11 hU Bc G (by omega) (by omega) s9⟩
set_option maxHeartbeats 8000000 in
theorem rd9 {w:World} {U:Nat→Prop} {y:Nat} {Z Z':Tz} {E:Int} (h:Dx w U y Z) (o:Oz) (s:Sv) (hk:o.k=9)
 (hR:∀ w',Below w.heap.size w w'→Calls Tryz.prog 32 #[.pointer (some ⟨y,0,none⟩), .agg (opC o s).toArray] w' fun e u=>RetY e U y Z' E w' u):
 Calls Tryz.prog 10 #[.pointer (some ⟨y,0,none⟩), .agg (opC o s).toArray] w fun e w'=>RetY e U y Z' E w w':=by
 have hU:=h.low
 go_enter Tryz.func10,Tryz.ntmps10
 go_wp2_with (first
  | (refine Z05 (by rfl) _ (by rfl) o s (by rfl) ?_;intro g1 w1 z1 z2 r1 b1
     have Bc:=b1
     have v1:=b1.size
     have c10:=r1.cell 0 _ rfl
     try rw [hk]at c10)
  | (refine Z02 (by rfl) (by rfl) ?_;intro g2 w2 z3 z4 r2 b2
     replace Bc:=Z00q Bc b2 (Nat.le_refl _)
     have v2:=b2.size
     replace r1:=r1.later b2
     clear c10
     have c10:=r1.cell 0 _ rfl
     try rw [hk]at c10)
  | (refine Z0k 37 8 _ Z0r (by rfl) _ (by rfl) g1 (by rfl) _ r1 rfl ?_)
  | (go_at_call 32;refine(hR _ Bc).mono ?_;rintro e w3 ⟨A,rfl,hA,G⟩
     have r2':=r2.step G.stp (fun e=>by have:=hU g2 e;omega))
  | (refine Z03 (by rfl) _ _ (by rfl) g2 (by rfl) A E hA (by rfl) _ r2' rfl ?_;intro w9 r9 s9))
 exact bodyPost_ret (Z0a Z06 Tryz.results10 rfl r9 hA.len) rfl ⟨A,rfl,hA,Z11 hU Bc G (by omega) (by omega) s9⟩
set_option maxHeartbeats 8000000 in
theorem rd11 {w:World} {U:Nat→Prop} {y:Nat} {Z Z':Tz} {E:Int} (h:Dx w U y Z) (o:Oz) (s:Sv) (hk:o.k=11)
 (hR:∀ w',Below w.heap.size w w'→Calls Tryz.prog 33 #[.pointer (some ⟨y,0,none⟩), .agg (opC o s).toArray] w' fun e u=>RetY e U y Z' E w' u):
 Calls Tryz.prog 10 #[.pointer (some ⟨y,0,none⟩), .agg (opC o s).toArray] w fun e w'=>RetY e U y Z' E w w':=by
 have hU:=h.low
 go_enter Tryz.func10,Tryz.ntmps10
 go_wp2_with (first
  | (refine Z05 (by rfl) _ (by rfl) o s (by rfl) ?_;intro g1 w1 z1 z2 r1 b1
     have Bc:=b1
     have v1:=b1.size
     have c10:=r1.cell 0 _ rfl
     try rw [hk]at c10)
  | (refine Z02 (by rfl) (by rfl) ?_;intro g2 w2 z3 z4 r2 b2
     replace Bc:=Z00q Bc b2 (Nat.le_refl _)
     have v2:=b2.size
     replace r1:=r1.later b2
     clear c10
     have c10:=r1.cell 0 _ rfl
     try rw [hk]at c10)
  | (refine Z0k 37 8 _ Z0r (by rfl) _ (by rfl) g1 (by rfl) _ r1 rfl ?_)
  | (go_at_call 33;refine(hR _ Bc).mono ?_;rintro e w3 ⟨A,rfl,hA,G⟩
     have r2':=r2.step G.stp (fun e=>by have:=hU g2 e;omega))
  | (refine Z03 (by rfl) _ _ (by rfl) g2 (by rfl) A E hA (by rfl) _ r2' rfl ?_;intro w9 r9 s9))
 exact bodyPost_ret (Z0a Z06 Tryz.results10 rfl r9 hA.len) rfl ⟨A,rfl,hA,Z11 hU Bc G (by omega) (by omega) s9⟩
set_option maxHeartbeats 8000000 in
theorem rd6 {w:World} {U:Nat→Prop} {y:Nat} {Z Z':Tz} {E:Int} (h:Dx w U y Z) (o:Oz) (s:Sv) (hk:o.k=6)
 (hR:∀ w',Below w.heap.size w w'→Calls Tryz.prog 34 #[.pointer (some ⟨y,0,none⟩), .agg (opC o s).toArray] w' fun e u=>RetY e U y Z' E w' u):
 Calls Tryz.prog 10 #[.pointer (some ⟨y,0,none⟩), .agg (opC o s).toArray] w fun e w'=>RetY e U y Z' E w w':=by
 have hU:=h.low
 go_enter Tryz.func10,Tryz.ntmps10
 go_wp2_with (first
  | (refine Z05 (by rfl) _ (by rfl) o s (by rfl) ?_;intro g1 w1 z1 z2 r1 b1
     have Bc:=b1
     have v1:=b1.size
     have c10:=r1.cell 0 _ rfl
     try rw [hk]at c10)
  | (refine Z02 (by rfl) (by rfl) ?_;intro g2 w2 z3 z4 r2 b2
     replace Bc:=Z00q Bc b2 (Nat.le_refl _)
     have v2:=b2.size
     replace r1:=r1.later b2
     clear c10
     have c10:=r1.cell 0 _ rfl
     try rw [hk]at c10)
  | (refine Z0k 37 8 _ Z0r (by rfl) _ (by rfl) g1 (by rfl) _ r1 rfl ?_)
  | (go_at_call 34;refine(hR _ Bc).mono ?_;rintro e w3 ⟨A,rfl,hA,G⟩
     have r2':=r2.step G.stp (fun e=>by have:=hU g2 e;omega))
  | (refine Z03 (by rfl) _ _ (by rfl) g2 (by rfl) A E hA (by rfl) _ r2' rfl ?_;intro w9 r9 s9))
 exact bodyPost_ret (Z0a Z06 Tryz.results10 rfl r9 hA.len) rfl ⟨A,rfl,hA,Z11 hU Bc G (by omega) (by omega) s9⟩
set_option maxHeartbeats 8000000 in
theorem rd12 {w:World} {U:Nat→Prop} {y:Nat} {Z Z':Tz} {E:Int} (h:Dx w U y Z) (o:Oz) (s:Sv) (hk:o.k=12)
 (hR:∀ w',Below w.heap.size w w'→Calls Tryz.prog 34 #[.pointer (some ⟨y,0,none⟩), .agg (opC o s).toArray] w' fun e u=>RetY e U y Z' E w' u):
 Calls Tryz.prog 10 #[.pointer (some ⟨y,0,none⟩), .agg (opC o s).toArray] w fun e w'=>RetY e U y Z' E w w':=by
 have hU:=h.low
 go_enter Tryz.func10,Tryz.ntmps10
 go_wp2_with (first
  | (refine Z05 (by rfl) _ (by rfl) o s (by rfl) ?_;intro g1 w1 z1 z2 r1 b1
     have Bc:=b1
     have v1:=b1.size
     have c10:=r1.cell 0 _ rfl
     try rw [hk]at c10)
  | (refine Z02 (by rfl) (by rfl) ?_;intro g2 w2 z3 z4 r2 b2
     replace Bc:=Z00q Bc b2 (Nat.le_refl _)
     have v2:=b2.size
     replace r1:=r1.later b2
     clear c10
     have c10:=r1.cell 0 _ rfl
     try rw [hk]at c10)
  | (refine Z0k 37 8 _ Z0r (by rfl) _ (by rfl) g1 (by rfl) _ r1 rfl ?_)
  | (go_at_call 34;refine(hR _ Bc).mono ?_;rintro e w3 ⟨A,rfl,hA,G⟩
     have r2':=r2.step G.stp (fun e=>by have:=hU g2 e;omega))
  | (refine Z03 (by rfl) _ _ (by rfl) g2 (by rfl) A E hA (by rfl) _ r2' rfl ?_;intro w9 r9 s9))
 exact bodyPost_ret (Z0a Z06 Tryz.results10 rfl r9 hA.len) rfl ⟨A,rfl,hA,Z11 hU Bc G (by omega) (by omega) s9⟩
set_option maxHeartbeats 8000000 in
theorem rd13 {w:World} {U:Nat→Prop} {y:Nat} {Z Z':Tz} {E:Int} (h:Dx w U y Z) (o:Oz) (s:Sv) (hk:o.k=13)
 (hR:∀ w',Below w.heap.size w w'→Calls Tryz.prog 34 #[.pointer (some ⟨y,0,none⟩), .agg (opC o s).toArray] w' fun e u=>RetY e U y Z' E w' u):
 Calls Tryz.prog 10 #[.pointer (some ⟨y,0,none⟩), .agg (opC o s).toArray] w fun e w'=>RetY e U y Z' E w w':=by
 have hU:=h.low
 go_enter Tryz.func10,Tryz.ntmps10
 go_wp2_with (first
  | (refine Z05 (by rfl) _ (by rfl) o s (by rfl) ?_;intro g1 w1 z1 z2 r1 b1
     have Bc:=b1
     have v1:=b1.size
     have c10:=r1.cell 0 _ rfl
     try rw [hk]at c10)
  | (refine Z02 (by rfl) (by rfl) ?_;intro g2 w2 z3 z4 r2 b2
     replace Bc:=Z00q Bc b2 (Nat.le_refl _)
     have v2:=b2.size
     replace r1:=r1.later b2
     clear c10
     have c10:=r1.cell 0 _ rfl
     try rw [hk]at c10)
  | (refine Z0k 37 8 _ Z0r (by rfl) _ (by rfl) g1 (by rfl) _ r1 rfl ?_)
  | (go_at_call 34;refine(hR _ Bc).mono ?_;rintro e w3 ⟨A,rfl,hA,G⟩
     have r2':=r2.step G.stp (fun e=>by have:=hU g2 e;omega))
  | (refine Z03 (by rfl) _ _ (by rfl) g2 (by rfl) A E hA (by rfl) _ r2' rfl ?_;intro w9 r9 s9))
 exact bodyPost_ret (Z0a Z06 Tryz.results10 rfl r9 hA.len) rfl ⟨A,rfl,hA,Z11 hU Bc G (by omega) (by omega) s9⟩
set_option maxHeartbeats 8000000 in
theorem rd15 {w:World} {U:Nat→Prop} {y:Nat} {Z:Tz} (h:Dx w U y Z) (o:Oz) (s:Sv) (hk:o.k=15):
 Calls Tryz.prog 10 #[.pointer (some ⟨y,0,none⟩), .agg (opC o s).toArray] w fun e w'=>RetY e U y Z 0 w w':=by
 have hU:=h.low
 go_enter Tryz.func10,Tryz.ntmps10
 go_wp2_with (first
  | (refine Z05 (by rfl) _ (by rfl) o s (by rfl) ?_;intro g1 w1 z1 z2 r1 b1
     have Bc:=b1
     have v1:=b1.size
     have c10:=r1.cell 0 _ rfl
     try rw [hk]at c10)
  | (refine Z02 (by rfl) (by rfl) ?_;intro g2 w2 z3 z4 r2 b2
     replace Bc:=Z00q Bc b2 (Nat.le_refl _)
     have v2:=b2.size
     replace r1:=r1.later b2
     clear c10
     have c10:=r1.cell 0 _ rfl
     try rw [hk]at c10)
  | (refine Z03 (by rfl) _ _ (by rfl) g2 (by rfl) anZ 0 Z0c (by rfl) _ r2 rfl ?_;intro w9 r9 s9))
 exact bodyPost_ret (Z0a Z06 Tryz.results10 rfl r9 rfl) rfl ⟨anZ,rfl,Z0c,Z0e h Bc (by omega) s9⟩
set_option maxHeartbeats 8000000 in
theorem rd0 {w:World} {U:Nat→Prop} {y:Nat} {Z:Tz} (h:Dx w U y Z) (o:Oz) (s:Sv) (q1:(o.k==1)=false) (q2:(o.k==2)=false) (q3:(o.k==3)=false) (q4:(o.k==4)=false) (q5:(o.k==5)=false) (q6:(o.k==6)=false) (q7:(o.k==7)=false) (q8:(o.k==8)=false) (q9:(o.k==9)=false) (q10:(o.k==10)=false) (q11:(o.k==11)=false) (q12:(o.k==12)=false) (q13:(o.k==13)=false) (q14:(o.k==14)=false) (q15:(o.k==15)=false):
 Calls Tryz.prog 10 #[.pointer (some ⟨y,0,none⟩), .agg (opC o s).toArray] w fun e w'=>RetY e U y Z 2 w w':=by
 have hU:=h.low
 go_enter Tryz.func10,Tryz.ntmps10
 go_wp2_with (first
  | (refine Z05 (by rfl) _ (by rfl) o s (by rfl) ?_;intro g1 w1 z1 z2 r1 b1
     have Bc:=b1
     have v1:=b1.size
     have c10:=r1.cell 0 _ rfl
     try rw [hk]at c10)
  | (refine Z02 (by rfl) (by rfl) ?_;intro g2 w2 z3 z4 r2 b2
     replace Bc:=Z00q Bc b2 (Nat.le_refl _)
     have v2:=b2.size
     replace r1:=r1.later b2
     clear c10
     have c10:=r1.cell 0 _ rfl
     try rw [hk]at c10)
  | (go_at_call 35;refine(Z0b _ _).mono ?_;rintro e wf ⟨rfl,bf⟩
     replace Bc:=Z00q Bc bf (Nat.le_refl _)
     replace r2:=r2.later bf)
  | (refine Z03 (by rfl) _ _ (by rfl) g2 (by rfl) (anC 2 0 nilV nilV 0 0 0) 2 (Z07 2) (by rfl) _ r2 rfl ?_;intro w9 r9 s9))
 exact bodyPost_ret (Z0a Z06 Tryz.results10 rfl r9 rfl) rfl ⟨_,rfl,Z07 2,Z0e h Bc (by omega) s9⟩
set_option maxRecDepth 100000
theorem Zea {w:World} {U:Nat→Prop} {y n:Nat} {Z:Tz} (h:Dx w U y Z) (hz:Z.ok n) (hn:n≤900) (o:Oz) (ho:o.wfo) (s:Sv) (hs:BsS w s o.d) (he:InE (fun z=>¬U z) s):
 Calls Tryz.prog 10 #[.pointer (some ⟨y,0,none⟩), .agg (opC o s).toArray] w fun e w'=>RetY e U y (Z.do1 o) (Z.doE o) w w':=by
 by_cases hk:o.k=1
 · have e1:Z.doE o=Z.opE o:=by unfold Tz.doE;rw [if_pos hk]
   have e2:Z.do1 o=if Z.opE o=0 then Z.opS o else Z:=by
    unfold Tz.do1
    rw [e1]
    congr 1
    unfold Tz.doS;rw [if_pos hk]
   rw [e1,e2]
   exact rd1 h o s hk (fun w' b=>Zbb (h.later b) hz hn o ho s)
 have q1:(o.k==1)=false:=by simpa using hk
 have p1:=hk
 clear hk
 by_cases hk:o.k=2
 · have e1:Z.doE o=Z04 Z.t o.fd:=by unfold Tz.doE;rw [if_neg (by omega),if_pos hk]
   have e2:Z.do1 o=if Z04 Z.t o.fd=0 then Z.clS o else Z:=by
    unfold Tz.do1
    rw [e1]
    congr 1
    unfold Tz.doS;rw [if_neg (by omega),if_pos hk]
   rw [e1,e2]
   exact rd2 h o s hk (fun w' b=>Za2 (h.later b) hz hn o ho s hk)
 have q2:(o.k==2)=false:=by simpa using hk
 have p2:=hk
 clear hk
 by_cases hk:o.k=3
 · have e1:Z.doE o=Z.reE o:=by unfold Tz.doE;rw [if_neg (by omega),if_neg (by omega),if_pos hk]
   have e2:Z.do1 o=if Z.reE o=0 then Z.reS o else Z:=by
    unfold Tz.do1
    rw [e1]
    congr 1
    unfold Tz.doS;rw [if_neg (by omega),if_neg (by omega),if_pos hk]
   rw [e1,e2]
   exact rd3 h o s hk (fun w' b=>Zbd (h.later b) hz hn o ho s hk)
 have q3:(o.k==3)=false:=by simpa using hk
 have p3:=hk
 clear hk
 by_cases hk:o.k=4
 · have e1:Z.doE o=Z.wrE o:=by unfold Tz.doE;rw [if_neg (by omega),if_neg (by omega),if_neg (by omega),if_pos hk]
   have e2:Z.do1 o=if Z.wrE o=0 then Z.wrS o else Z:=by
    unfold Tz.do1
    rw [e1]
    congr 1
    unfold Tz.doS;rw [if_neg (by omega),if_neg (by omega),if_neg (by omega),if_pos hk]
   rw [e1,e2]
   exact rd4 h o s hk (fun w' b=>Za9 (h.later b) hz hn o ho s (hs.later b) he hk)
 have q4:(o.k==4)=false:=by simpa using hk
 have p4:=hk
 clear hk
 by_cases hk:o.k=5
 · have e1:Z.doE o=Z.skE o:=by unfold Tz.doE;rw [if_neg (by omega),if_neg (by omega),if_neg (by omega),if_neg (by omega),if_pos hk]
   have e2:Z.do1 o=if Z.skE o=0 then Z.skS o else Z:=by
    unfold Tz.do1
    rw [e1]
    congr 1
    unfold Tz.doS;rw [if_neg (by omega),if_neg (by omega),if_neg (by omega),if_neg (by omega),if_pos hk]
   rw [e1,e2]
   exact rd5 h o s hk (fun w' b=>Zbe (h.later b) hz hn o ho s hk)
 have q5:(o.k==5)=false:=by simpa using hk
 have p5:=hk
 clear hk
 by_cases hk:o.k=6
 · have e1:Z.doE o=Z.cuE o:=by unfold Tz.doE;rw [if_neg (by omega),if_neg (by omega),if_neg (by omega),if_neg (by omega),if_neg (by omega),if_pos hk]
   have e2:Z.do1 o=if Z.cuE o=0 then Z.cuS o else Z:=by
    unfold Tz.do1
    rw [e1]
    congr 1
    unfold Tz.doS;rw [if_neg (by omega),if_neg (by omega),if_neg (by omega),if_neg (by omega),if_neg (by omega),if_pos hk]
   rw [e1,e2]
   exact rd6 h o s hk (fun w' b=>Zb4 (h.later b) hz hn o ho s hk)
 have q6:(o.k==6)=false:=by simpa using hk
 have p6:=hk
 clear hk
 by_cases hk:o.k=7
 · have e1:Z.doE o=Z.mdE o:=by unfold Tz.doE;rw [if_neg (by omega),if_neg (by omega),if_neg (by omega),if_neg (by omega),if_neg (by omega),if_neg (by omega),if_pos hk]
   have e2:Z.do1 o=if Z.mdE o=0 then Z.mdS o else Z:=by
    unfold Tz.do1
    rw [e1]
    congr 1
    unfold Tz.doS;rw [if_neg (by omega),if_neg (by omega),if_neg (by omega),if_neg (by omega),if_neg (by omega),if_neg (by omega),if_pos hk]
   rw [e1,e2]
   exact rd7 h o s hk (fun w' b=>Za5 (h.later b) hz hn o ho s hk)
 have q7:(o.k==7)=false:=by simpa using hk
 have p7:=hk
 clear hk
 by_cases hk:o.k=8
 · have e1:Z.doE o=Z.rmE o:=by unfold Tz.doE;rw [if_neg (by omega),if_neg (by omega),if_neg (by omega),if_neg (by omega),if_neg (by omega),if_neg (by omega),if_neg (by omega),if_pos hk]
   have e2:Z.do1 o=if Z.rmE o=0 then Z.unS o else Z:=by
    unfold Tz.do1
    rw [e1]
    congr 1
    unfold Tz.doS;rw [if_neg (by omega),if_neg (by omega),if_neg (by omega),if_neg (by omega),if_neg (by omega),if_neg (by omega),if_neg (by omega),if_pos hk]
   rw [e1,e2]
   exact rd8 h o s hk (fun w' b=>Za8 (h.later b) hz hn o ho s hk)
 have q8:(o.k==8)=false:=by simpa using hk
 have p8:=hk
 clear hk
 by_cases hk:o.k=9
 · have e1:Z.doE o=Z.liE o:=by unfold Tz.doE;rw [if_neg (by omega),if_neg (by omega),if_neg (by omega),if_neg (by omega),if_neg (by omega),if_neg (by omega),if_neg (by omega),if_neg (by omega),if_pos hk]
   have e2:Z.do1 o=if Z.liE o=0 then Z.liS o else Z:=by
    unfold Tz.do1
    rw [e1]
    congr 1
    unfold Tz.doS;rw [if_neg (by omega),if_neg (by omega),if_neg (by omega),if_neg (by omega),if_neg (by omega),if_neg (by omega),if_neg (by omega),if_neg (by omega),if_pos hk]
   rw [e1,e2]
   exact rd9 h o s hk (fun w' b=>Zb8 (h.later b) hz hn o ho s)
 have q9:(o.k==9)=false:=by simpa using hk
 have p9:=hk
 clear hk
 by_cases hk:o.k=10
 · have e1:Z.doE o=Z.ulE o:=by unfold Tz.doE;rw [if_neg (by omega),if_neg (by omega),if_neg (by omega),if_neg (by omega),if_neg (by omega),if_neg (by omega),if_neg (by omega),if_neg (by omega),if_neg (by omega),if_pos hk]
   have e2:Z.do1 o=if Z.ulE o=0 then Z.unS o else Z:=by
    unfold Tz.do1
    rw [e1]
    congr 1
    unfold Tz.doS;rw [if_neg (by omega),if_neg (by omega),if_neg (by omega),if_neg (by omega),if_neg (by omega),if_neg (by omega),if_neg (by omega),if_neg (by omega),if_neg (by omega),if_pos hk]
   rw [e1,e2]
   exact rd10 h o s hk (fun w' b=>Z8v (h.later b) hz hn o ho s hk)
 have q10:(o.k==10)=false:=by simpa using hk
 have p10:=hk
 clear hk
 by_cases hk:o.k=11
 · have e1:Z.doE o=Z.rnE o:=by unfold Tz.doE;rw [if_neg (by omega),if_neg (by omega),if_neg (by omega),if_neg (by omega),if_neg (by omega),if_neg (by omega),if_neg (by omega),if_neg (by omega),if_neg (by omega),if_neg (by omega),if_pos hk]
   have e2:Z.do1 o=if Z.rnE o=0 then Z.rnS o else Z:=by
    unfold Tz.do1
    rw [e1]
    congr 1
    unfold Tz.doS;rw [if_neg (by omega),if_neg (by omega),if_neg (by omega),if_neg (by omega),if_neg (by omega),if_neg (by omega),if_neg (by omega),if_neg (by omega),if_neg (by omega),if_neg (by omega),if_pos hk]
   rw [e1,e2]
   exact rd11 h o s hk (fun w' b=>Z8u (h.later b) hz hn o ho s)
 have q11:(o.k==11)=false:=by simpa using hk
 have p11:=hk
 clear hk
 by_cases hk:o.k=12
 · have e1:Z.doE o=(Z.wa o.p).2:=by unfold Tz.doE;rw [if_neg (by omega),if_neg (by omega),if_neg (by omega),if_neg (by omega),if_neg (by omega),if_neg (by omega),if_neg (by omega),if_neg (by omega),if_neg (by omega),if_neg (by omega),if_neg (by omega),if_pos hk]
   have e2:Z.do1 o=Z:=by
    unfold Tz.do1
    rw [e1]
    split<;>try rfl
    unfold Tz.doS;rw [if_neg (by omega),if_neg (by omega),if_neg (by omega),if_neg (by omega),if_neg (by omega),if_neg (by omega),if_neg (by omega),if_neg (by omega),if_neg (by omega),if_neg (by omega),if_neg (by omega)]
   rw [e1,e2]
   exact rd12 h o s hk (fun w' b=>Zbf (h.later b) hz hn o ho s hk)
 have q12:(o.k==12)=false:=by simpa using hk
 have p12:=hk
 clear hk
 by_cases hk:o.k=13
 · have e1:Z.doE o=Z.lsE' o:=by unfold Tz.doE;rw [if_neg (by omega),if_neg (by omega),if_neg (by omega),if_neg (by omega),if_neg (by omega),if_neg (by omega),if_neg (by omega),if_neg (by omega),if_neg (by omega),if_neg (by omega),if_neg (by omega),if_neg (by omega),if_pos hk]
   have e2:Z.do1 o=Z:=by
    unfold Tz.do1
    rw [e1]
    split<;>try rfl
    unfold Tz.doS;rw [if_neg (by omega),if_neg (by omega),if_neg (by omega),if_neg (by omega),if_neg (by omega),if_neg (by omega),if_neg (by omega),if_neg (by omega),if_neg (by omega),if_neg (by omega),if_neg (by omega)]
   rw [e1,e2]
   exact rd13 h o s hk (fun w' b=>Zb9 (h.later b) hz hn o ho s hk)
 have q13:(o.k==13)=false:=by simpa using hk
 have p13:=hk
 clear hk
 by_cases hk:o.k=14
 · have e1:Z.doE o=Z04 Z.t o.fd:=by unfold Tz.doE;rw [if_neg (by omega),if_neg (by omega),if_neg (by omega),if_neg (by omega),if_neg (by omega),if_neg (by omega),if_neg (by omega),if_neg (by omega),if_neg (by omega),if_neg (by omega),if_neg (by omega),if_neg (by omega),if_neg (by omega),if_pos hk]
   have e2:Z.do1 o=Z:=by
    unfold Tz.do1
    rw [e1]
    split<;>try rfl
    unfold Tz.doS;rw [if_neg (by omega),if_neg (by omega),if_neg (by omega),if_neg (by omega),if_neg (by omega),if_neg (by omega),if_neg (by omega),if_neg (by omega),if_neg (by omega),if_neg (by omega),if_neg (by omega)]
   rw [e1,e2]
   exact rd14 h o s hk (fun w' b=>Za4 (h.later b) hz hn o ho s hk)
 have q14:(o.k==14)=false:=by simpa using hk
 have p14:=hk
 clear hk
 by_cases hk:o.k=15
 · have e1:Z.doE o=0:=by unfold Tz.doE;rw [if_neg p1,if_neg p2,if_neg p3,if_neg p4,if_neg p5,if_neg p6,if_neg p7,if_neg p8,if_neg p9,if_neg p10,if_neg p11,if_neg p12,if_neg p13,if_neg p14,if_pos hk]
   have e2:Z.do1 o=Z:=by
    unfold Tz.do1
    rw [e1,if_pos rfl]
    unfold Tz.doS;rw [if_neg p1,if_neg p2,if_neg p3,if_neg p4,if_neg p5,if_neg p6,if_neg p7,if_neg p8,if_neg p9,if_neg p10,if_neg p11]
   rw [e1,e2]
   exact rd15 h o s hk
 have q15:(o.k==15)=false:=by simpa using hk
 have e1:Z.doE o=2:=by unfold Tz.doE;rw [if_neg p1,if_neg p2,if_neg p3,if_neg p4,if_neg p5,if_neg p6,if_neg p7,if_neg p8,if_neg p9,if_neg p10,if_neg p11,if_neg p12,if_neg p13,if_neg p14,if_neg hk]
 have e2:Z.do1 o=Z:=by unfold Tz.do1;rw [e1,if_neg (by decide)]
 rw [e1,e2]
 exact rd0 h o s q1 q2 q3 q4 q5 q6 q7 q8 q9 q10 q11 q12 q13 q14 q15
set_option maxRecDepth 100000
def nwC:List Value:= [.int .i64 0, .int .i64 0, .slice none 0 0, .slice none 0 0, .int .i64 2, .int .i64 1, .slice none 0 0, .slice none 0 0]
def nwF:Nat→Value:=fun i=>nwC.getD i undef
section
variable {ops : Array Oper} {rest : List Oper} {o : Oper} {a : Act} {w : World} {Q : Exit → Act → World → Prop}
theorem Zc1 (hw:Region.wanted o (yielded ops a.tmps)=true) (x z:Operand) (ho:o.op= .buildSlice 39 2 #[(0,x),(1,z)]) (hx:a.eval x= .agg #[.int .i64 0, .int .i64 0, .slice none 0 0, .slice none 0 0]) (hz:a.eval z= .agg #[.int .i64 2, .int .i64 1, .slice none 0 0, .slice none 0 0])
 (h:∀ g w',w.heap.size≤g→Nr w' g 2 2 nwF→Below w.heap.size w w'→wpList Tryz.prog ops Q rest (a.put o.dst (.slice (some ⟨g,0,none⟩) 2 2)) w'):wpList Tryz.prog ops Q (o::rest) a w:=by
 have hR:(w.alloc (.cells nwC.toArray 76)).ownsRow 0 76 4 (.slice (some ⟨w.heap.size,0,none⟩) 2 2) 2 nwC:=
  ⟨rfl, .inr ⟨w.heap.size,2,nwC.toArray,rfl,Nat.zero_le _,heap_alloc_new w _,Nat.le_refl _,by unfold maxLen;omega,rfl,rfl⟩⟩
 refine Z0z hw _ _ ?_ (h w.heap.size _ (Nat.le_refl _) hR ((Below.refl _ _).alloc (Nat.le_refl _) _))
 have:(Instr.buildSlice 39 2 #[(0, .agg #[.int .i64 0, .int .i64 0, .slice none 0 0, .slice none 0 0]),(1, .agg #[.int .i64 2, .int .i64 1, .slice none 0 0, .slice none 0 0])]).run Tryz.prog w= .ok (.slice (some ⟨w.heap.size,0,none⟩) 2 2) (w.alloc (.cells nwC.toArray 76)):=by kernel_rfl
 simp [execOp,ho,hx,hz,this]
end
set_option maxHeartbeats 4000000 in
theorem Zcs (w:World):
 Calls Tryz.prog 7 #[] w fun e w'=>∃ y U,e= .returned (.pointer (some ⟨y,0,none⟩))∧Below w.heap.size w w'∧Dx w' U y Tz.new∧∀ x,U x→w.heap.size≤x:=by
 go_enter Tryz.func7,Tryz.ntmps7
 go_wp2_with (first
  | (refine Zc1 (by rfl) _ _ (by rfl) (by rfl) (by rfl) ?_;intro r w1 hr R1 b1)
  | (go_at_call 26;refine(Zb6 _).mono ?_;rintro e w2 ⟨fb,rfl,z2,b2,R2⟩
     have B2:=Z00q b1 b2 (Nat.le_refl _))
  | (refine Z2m 42 (by rfl) _ (by rfl) [.slice (some ⟨r,0,none⟩) 2 2, .pointer (some ⟨fb,0,none⟩)] (by rfl) (by simp [Value.oneCell']) ?_;intro y w3 z3 z4 r3 b3
     have B3:=Z00q B2 b3 (Nat.le_refl _)))
 have R1':Nr w3 r 2 2 nwF:=R1.step (Stp.of_below (Z00q b2 b3 (Nat.le_refl _)) (fun _=>False)) id
 have lr:=R1.lt
 have lf:=R2.lt
 have sz3:=b3.size
 have sz2:=b2.size
 have D:Dw w3 y fb r 2 (fun _=>False) nwF (fun _=>Sv.nil) (fun _=>Sv.nil) Tz.new:=by
  refine⟨r3,R1',R2.step (Stp.of_below b3 (fun _=>False)) id,by omega,by omega,by omega,fun x e=>e.elim,?_,fun i _=>?_,fun i _=>?_⟩
  · intro i hi
    have hi2:i < 2:=hi
    match i,hi2 with
    | 0,_=>exact⟨rfl,rfl,rfl,rfl⟩
    | 1,_=>exact⟨rfl,rfl,rfl,rfl⟩
  · match i with
    | 0=>exact⟨Z0y _,InE.nil _⟩
    | 1=>exact⟨Z0y _,InE.nil _⟩
    | i+2=>exact⟨Z0y _,InE.nil _⟩
  · match i with
    | 0=>exact⟨EsS.nil _,InE.nil _⟩
    | 1=>exact⟨EsS.nil _,InE.nil _⟩
    | i+2=>exact⟨EsS.nil _,InE.nil _⟩
 go_returns
 exact ⟨y,fun x=>x=y∨x=fb∨x=r∨False,rfl,B3,⟨fb,r,2,_,_,_,_,D,fun x=>Iff.rfl⟩,fun x hx=>by
  rcases hx with e | e | e | e
  · omega
  · have:=b1.size;omega
  · omega
  · exact e.elim⟩
set_option maxRecDepth 100000
theorem Z9t (w:World):
 Calls Tryz.prog 38 #[.map none] w fun e w'=>e= .returned (.map none)∧w=w':=by
 refine Calls.mono (AnyW.maps_Clone_nil YtdnjddpfcgginaaGreat.cloneT w) ?_
 rintro e w' ⟨rfl,rfl⟩
 exact⟨rfl,rfl⟩
def Tz.part (Z:Tz) (left:Int→Bool):Tz:=⟨(List.range Z.N.length).map fun(i:Nat)=>if left (i:Int)=true then Nd.zero else Z.N.getD i Nd.zero,Z.t⟩
theorem Z3z (Z:Tz) (left:Int→Bool):(Z.part left).N.length=Z.N.length:=by unfold Tz.part;simp
theorem Z3s (Z:Tz) (left:Int→Bool) (i:Int):(Z.part left).nd i=if left (i.toNat:Int)=true then Nd.zero else Z.nd i:=by
 unfold Tz.part Tz.nd
 simp only
 by_cases h:i.toNat < Z.N.length
 · rw [List.getD_eq_getElem?_getD,List.getElem?_map,List.getElem?_range h];rfl
 · rw [List.getD_eq_getElem?_getD,List.getElem?_eq_none (by simp;omega),List.getD_eq_getElem?_getD,List.getElem?_eq_none (by omega)]
   simp
theorem Zb3 {Z:Tz} {left:Int→Bool} (h:∀ k,left k=false):Z.part left=Z:=by
 refine Z2r (Z3z _ _) (fun j hj=>?_) rfl
 rw [Z3s,if_neg (by rw [h];decide)]
theorem Zcl {Z:Tz} {left:Int→Bool} {k:Int} (hk:0≤k∧k.toNat < Z.N.length):(Z.part left).up k (Z.nd k)=Z.part (fun x=>left x&& !decide (x=k)):=by
 refine Z2r (by unfold Tz.up;simp [Z3z]) (fun j hj=>?_) rfl
 rw [Z20 (by rw [Z3z];exact hk.2),Z3s,Z3s]
 have ej:((j.toNat:Nat):Int)=j:=by omega
 by_cases e:j.toNat=k.toNat
 · have e2:j=k:=by omega
   subst e2
   rw [if_pos rfl,if_neg (by rw [ej];simp)]
 · have e2:¬j=k:=fun c=>e (by rw [c])
   rw [if_neg e,ej]
   simp [e2]
theorem Tw.born {w w':World} {tg:Nat→Nat} {g mb ob B:Nat} {q nb:Int→Nat} {sv:Int→Sv} {Z:Tz} (h:Tw w tg g mb ob q nb sv B Z) {k:Int} (hl:1≤k∧k.toNat < Z.N.length) (hz:(Z.nd k).k=0) (y:Nd) (hy:y.k≠0) {b bm:Nat} {s1:Sv}
 (s:Stp (fun x=>x=mb) w w') (hb:w.heap.size≤b) (hbm:y.k=2→w.heap.size≤bm∧b≠bm) (hs:∀ r,s1.v.ownBlock=some r→w.heap.size≤r∧r≠b∧(y.k=2→r≠bm))
 (hM:MpI Tryz.prog 3 w' mb (upd (nF q Z) k (some (.pointer (some ⟨b,0,none⟩))))) (hn:Cs w' b (ndC y s1 bm)) (hd:OwD w' s1.v y.d) (hT:y.k=2→MpT w' bm B y.nm):
 ∃ tg',Tw w' tg' g mb ob (qUp q k b) (fun j=>if j=k then bm else nb j) (fun j=>if j=k then s1 else sv j) B (Z.up k y)∧∀ x,tg' x≠0→tg x≠0∨w.heap.size≤x:=by
 classical
 have t1:=h.tt
 have t2:=h.mt
 have hn':=s.size
 let tg':Nat→Nat:=fun x=>if x=b then 3 * k.toNat+4 else if s1.v.ownBlock=some x then 3 * k.toNat+5 else if y.k=2∧x=bm then 3 * k.toNat+6 else tg x
 have lt:∀ x,x < w.heap.size→tg' x=tg x:=fun x hx=>by
  show(if x=b then _ else _)=_
  rw [if_neg (by omega),if_neg (fun e=>by have:=(hs x e).1;omega),if_neg (fun e=>by have:=(hbm e.1).1;omega)]
 have lt':∀ x,tg x≠0→tg' x=tg x:=fun x hx=>lt x (h.low x hx)
 have N:=fun j=>Z20 (x:=y) hl.2 j
 have eqk:∀ j:Int,1≤j→j.toNat=k.toNat→j=k:=fun j _ e=>by omega
 have off:∀ x c,tg x=c→c≠2→¬x=mb:=fun x c hx hc e=>by rw [e]at hx;omega
 have lv':∀ j,((Z.up k y).nd j).k≠0→1≤j:=fun j hj=>by
  rw [N j]at hj
  by_cases e:j.toNat=k.toNat
  · omega
  · rw [if_neg e]at hj;exact h.lv j hj
 have hnF:nF (qUp q k b) (Z.up k y)=upd (nF q Z) k (some (.pointer (some ⟨b,0,none⟩))):=by
  funext j
  unfold nF upd qUp
  rw [N j]
  by_cases e:j=k
  · subst e;rw [if_pos rfl,if_pos rfl,if_pos rfl,if_neg hy]
  · have e2:¬j.toNat=k.toNat:=fun c=>e (by omega)
    rw [if_neg e2,if_neg e,if_neg e]
 refine⟨tg',⟨fun x hx=>?_,lv',?_,by rw [lt' g (by omega)];exact t1,by rw [hnF];exact hM,by rw [lt' mb (by omega)];exact t2,?_,fun j hj=>?_,fun j hj=>?_,fun j hj=>?_⟩,fun x hx=>?_⟩
 · by_cases e:x < w.heap.size
   · omega
   · have hx':(if x=b then 3 * k.toNat+4 else if s1.v.ownBlock=some x then 3 * k.toNat+5 else if y.k=2∧x=bm then 3 * k.toNat+6 else tg x)≠0:=hx
     by_cases e1:x=b
     · rw [e1];exact hn.lt
     · rw [if_neg e1]at hx'
       by_cases e2:s1.v.ownBlock=some x
       · exact(hd.lt x e2).2
       · rw [if_neg e2]at hx'
         by_cases e3:y.k=2∧x=bm
         · rw [e3.2];exact(hT e3.1).lt
         · rw [if_neg e3]at hx';have:=h.low x hx';omega
 · have:=h.tr.step s (fun e=>by rw [e]at t1;omega)
   unfold trC Tz.top at this ⊢
   rw [up_len];exact this
 · obtain⟨U,u1,u2⟩:=h.fd
   exact⟨U,u1.step s (fun x hx=>off x 3 (u2 x hx) (by decide)),fun x hx=>by rw [lt' x (by have:=u2 x hx;omega)];exact u2 x hx⟩
 · have hj1:=lv' j hj
   rw [N j]at hj ⊢
   by_cases e:j.toNat=k.toNat
   · rw [if_pos e]
     obtain rfl:=eqk j hj1 e
     unfold qUp
     simp only [if_true]
     exact⟨if_pos rfl,hn⟩
   · rw [if_neg e]at hj ⊢
     have e2:¬j=k:=fun c=>e (by rw [c])
     obtain⟨u1,u2⟩:=h.nd j hj
     unfold qUp
     simp only [if_neg e2]
     exact⟨by rw [lt' _ (by omega)];exact u1,u2.step s (off _ _ u1 (by omega))⟩
 · have hj1:=lv' j hj
   rw [N j]at hj ⊢
   by_cases e:j.toNat=k.toNat
   · rw [if_pos e]
     obtain rfl:=eqk j hj1 e
     simp only [if_true]
     refine⟨hd,fun r hr=>?_⟩
     show(if r=b then _ else _)=_
     rw [if_neg (hs r hr).2.1,if_pos hr]
   · rw [if_neg e]at hj ⊢
     have e2:¬j=k:=fun c=>e (by rw [c])
     obtain⟨u1,u2⟩:=h.dt j hj
     simp only [if_neg e2]
     exact⟨u1.step s (fun r hr=>off r _ (u2 r hr) (by omega)),fun r hr=>by rw [lt' r (by have:=u2 r hr;omega)];exact u2 r hr⟩
 · have hj1:=lv' j (by rw [hj];decide)
   rw [N j]at hj ⊢
   by_cases e:j.toNat=k.toNat
   · rw [if_pos e]at hj ⊢
     obtain rfl:=eqk j hj1 e
     simp only [if_true]
     refine⟨?_,hT hj⟩
     show(if bm=b then _ else _)=_
     rw [if_neg (fun c=>(hbm hj).2 c.symm),if_neg (fun c=>(hs bm c).2.2 hj rfl),if_pos ⟨hj,rfl⟩]
   · rw [if_neg e]at hj ⊢
     have e2:¬j=k:=fun c=>e (by rw [c])
     obtain⟨u1,u2⟩:=h.nm j hj
     simp only [if_neg e2]
     exact⟨by rw [lt' _ (by omega)];exact u1,u2.step s (off _ _ u1 (by omega))⟩
 · by_cases e:x < w.heap.size
   · left;rw [← lt x e];exact hx
   · right;omega
theorem Zc7 {w:World} {kk:Int} {b n:Nat} {l:List Ent} (h:kk=2→MpT w b n l):
 Calls Tryz.prog 38 #[.map (mo kk b)] w fun e w'=>∃ bm,e= .returned (.map (mo kk bm))∧(kk=2→w.heap.size≤bm∧MpT w' bm n l)∧Below w.heap.size w w':=by
 by_cases hk:kk=2
 · unfold mo
   rw [if_pos hk]
   refine(Z9s (h hk)).mono ?_
   rintro e w' ⟨bm,rfl,h1,h2,h3⟩
   exact⟨bm,by rw [if_pos hk],fun _=>⟨h1,h2⟩,h3⟩
 · unfold mo
   rw [if_neg hk]
   refine(Z9t w).mono ?_
   rintro e w' ⟨rfl,rfl⟩
   exact⟨0,by rw [if_neg hk],fun e=>absurd e hk,Below.refl _ _⟩
theorem Tw.void {w:World} {g mb ob B:Nat} {Uo:Nat→Prop} {Z:Tz} (hz:∀ i,(Z.nd i).k=0) (tr:Cs w g (trC mb ob Z)) (mp:MpI Tryz.prog 3 w mb (fun _=>none)) (fd:Fd w Uo ob Z.t) (ne:g≠mb) (nU:∀ x,Uo x→x≠g∧x≠mb):
 ∃ tg,Tw w tg g mb ob (fun _=>0) (fun _=>0) (fun _=>Sv.nil) B Z∧∀ x,tg x≠0→x=g∨x=mb∨Uo x:=by
 classical
 have lF:=fd.low
 have lm:=mp.lt
 have lg:=tr.lt
 have hno:∀ i,(Z.nd i).k≠0→False:=fun i e=>e (hz i)
 have hnF:nF (fun _=>0) Z=fun _=>none:=by
  funext i
  unfold nF
  rw [if_pos (hz i)]
 have hin:∀ x,(if x=g then 1 else if x=mb then 2 else if Uo x then 3 else 0)≠0→x=g∨x=mb∨Uo x:=fun x hx=>by
  by_cases e1:x=g
  · exact .inl e1
  · rw [if_neg e1]at hx
    by_cases e2:x=mb
    · exact .inr (.inl e2)
    · rw [if_neg e2]at hx
      by_cases e3:Uo x
      · exact .inr (.inr e3)
      · rw [if_neg e3]at hx;exact absurd rfl hx
 refine⟨fun x=>if x=g then 1 else if x=mb then 2 else if Uo x then 3 else 0,⟨fun x hx=>?_,fun i e=>(hno i e).elim,tr,if_pos rfl,by rw [hnF];exact mp,?_,⟨Uo,fd,fun x hx=>?_⟩,fun i e=>(hno i e).elim,fun i e=>(hno i e).elim,fun i e=>(hno i (by rw [e];decide)).elim⟩,hin⟩
 · rcases hin x hx with e | e | e
   · omega
   · omega
   · exact lF x e
 · rw [if_neg (fun e=>ne e.symm),if_pos rfl]
 · rw [if_neg (nU x hx).1,if_neg (nU x hx).2,if_pos hx]
set_option maxRecDepth 100000
theorem Z2k {w:World} {U:Nat→Prop} {g B:Nat} {q:Int→Nat} {Z:Tz} (h:Tx w U g q B Z):
 Calls Tryz.prog 17 #[.pointer (some ⟨g,0,none⟩)] w fun e w'=>∃ g' U',e= .returned (.pointer (some ⟨g',0,none⟩))∧Fd w' U' g' Z.t∧Below w.heap.size w w':=by
 obtain⟨tg,mb,ob,nb,sv,H,hU⟩:=h
 have c2:=H.c2
 obtain⟨Uo,hFd,hUo⟩:=H.fd
 have hC:=Z5b hFd
 go_enter Tryz.func17,Tryz.ntmps17
 go_wp2_with (first
  | (go_at_call 36;refine hC.mono ?_;rintro e w1 ⟨g',U',rfl,h1,b1,h2⟩))
 go_returns
 exact⟨g',U',rfl,h1,b1⟩
theorem Zb1 (w:World):Calls Tryz.prog 17 #[.pointer none] w fun e w'=>e= .returned (.pointer none)∧w=w':=by
 go_enter Tryz.func17,Tryz.ntmps17
 go_wp2
 go_returns
 exact⟨rfl,rfl⟩
theorem Zal (w:World):Calls Tryz.prog 11 #[.pointer none] w fun e w'=>e= .returned (.pointer none)∧w=w':=by
 go_enter Tryz.func11,Tryz.ntmps11
 go_wp2
 go_returns
 exact⟨rfl,rfl⟩
theorem Za0 (w:World):Calls Tryz.prog 20 #[.pointer none] w fun e w'=>e= .returned (.slice none 0 0)∧w=w':=by
 go_enter Tryz.func20,Tryz.ntmps20
 go_wp2
 go_returns
 exact⟨rfl,rfl⟩
end Go.Proofs.YtdnjddpfcgginaaGreat
