/-
  Texts of my own, joined: no statement is proved here.
-/
import Derived.Test.YtdnjddpfcgginaaGreatKaq
set_option linter.unusedSimpArgs false
set_option linter.unusedVariables false
namespace Go.Proofs.YtdnjddpfcgginaaGreat
open Go.ChangeShapes Go.WideShapes Go.ChangeAt Go.RowKit
set_option maxRecDepth 100000
set_option maxHeartbeats 8000000 in
theorem Zhk {w:World} {U:Nat→Prop} {y n:Nat} {Z:Tz} (h:Dx w U y Z) (hz:Z.ok n) (hn:n≤900) (o:Oz) (s:Sv) {E:Int} (hE:E≠0)
 (hS1:∀ w',Below w.heap.size w w'→Calls Tryz.prog 49 #[.string (str o.p)] w' fun e u=>(∃ a N c,e= .returned (.tuple #[.slice a N c, .int .i64 E])∧Sts u a N c (spN o.p))∧Below w'.heap.size w' u):
 Calls Tryz.prog 33 #[.pointer (some ⟨y,0,none⟩), .agg (opC o s).toArray] w fun e w'=>RetY e U y Z E w w':=by
 have qE:(E != 0)=true:=by simpa using hE
 go_enter Tryz.func33,Tryz.ntmps33
 go_wp2_with (first
  | (refine Z05 (by rfl) _ (by rfl) o s (by rfl) ?_;intro g1 w1 z1 z2 r1 b1
     have Bc:=b1
     have v1:=b1.size
     try clear c11
     try clear c12
     have c11:=r1.cell 1 _ rfl
     have c12:=r1.cell 2 _ rfl)
  | (refine Z02 (by rfl) (by rfl) ?_;intro g2 w2 z3 z4 r2 b2
     replace Bc:=Z00q Bc b2 (Nat.le_refl _)
     have v2:=b2.size
     try (replace r1:=r1.later b2)
     try (replace r2:=r2.later b2)
     try (replace S1:=S1.later b2)
     try (replace S2:=S2.later b2)
     try clear c11
     try clear c12
     have c11:=r1.cell 1 _ rfl
     have c12:=r1.cell 2 _ rfl)
  | (go_at_call 49;refine(hS1 _ Bc).mono ?_;clear hS1;rintro e ws1 ⟨⟨a1,N1,cc1,rfl,S1⟩,bs1⟩
     replace Bc:=Z00q Bc bs1 (Nat.le_refl _)
     have vs1:=bs1.size
     try (replace r1:=r1.later bs1)
     try (replace r2:=r2.later bs1)
     try (replace S1:=S1.later bs1)
     try (replace S2:=S2.later bs1)
     try clear c11
     try clear c12
     have c11:=r1.cell 1 _ rfl
     have c12:=r1.cell 2 _ rfl
     have hn1:=S1.len
     subst hn1)
  | (go_at_call 35;refine(Z0b _ _).mono ?_;rintro e wf ⟨rfl,bf⟩
     replace Bc:=Z00q Bc bf (Nat.le_refl _)
     replace r2:=r2.later bf)
  | (refine Z03 (by rfl) _ _ (by rfl) g2 (by rfl) (anC E 0 nilV nilV 0 0 0) E (Z07 E) (by rfl) _ r2 rfl ?_;intro w9 r9 s9))
 exact bodyPost_ret (Z0a Z06 Tryz.results33 rfl r9 rfl) rfl ⟨anC E 0 nilV nilV 0 0 0,rfl,Z07 E,Z0e h Bc (by omega) s9⟩
set_option maxHeartbeats 8000000 in
theorem Zhl {w:World} {U:Nat→Prop} {y n:Nat} {Z:Tz} (h:Dx w U y Z) (hz:Z.ok n) (hn:n≤900) (o:Oz) (s:Sv) {E:Int} (hE:E≠0)
 (hS1:∀ w',Below w.heap.size w w'→Calls Tryz.prog 49 #[.string (str o.p)] w' fun e u=>(∃ a N c,e= .returned (.tuple #[.slice a N c, .int .i64 0])∧Sts u a N c (spN o.p))∧Below w'.heap.size w' u)
 (hS2:∀ w',Below w.heap.size w w'→Calls Tryz.prog 49 #[.string (str o.q)] w' fun e u=>(∃ a N c,e= .returned (.tuple #[.slice a N c, .int .i64 E])∧Sts u a N c (spN o.q))∧Below w'.heap.size w' u):
 Calls Tryz.prog 33 #[.pointer (some ⟨y,0,none⟩), .agg (opC o s).toArray] w fun e w'=>RetY e U y Z E w w':=by
 have qE:(E != 0)=true:=by simpa using hE
 go_enter Tryz.func33,Tryz.ntmps33
 go_wp2_with (first
  | (refine Z05 (by rfl) _ (by rfl) o s (by rfl) ?_;intro g1 w1 z1 z2 r1 b1
     have Bc:=b1
     have v1:=b1.size
     try clear c11
     try clear c12
     have c11:=r1.cell 1 _ rfl
     have c12:=r1.cell 2 _ rfl)
  | (refine Z02 (by rfl) (by rfl) ?_;intro g2 w2 z3 z4 r2 b2
     replace Bc:=Z00q Bc b2 (Nat.le_refl _)
     have v2:=b2.size
     try (replace r1:=r1.later b2)
     try (replace r2:=r2.later b2)
     try (replace S1:=S1.later b2)
     try (replace S2:=S2.later b2)
     try clear c11
     try clear c12
     have c11:=r1.cell 1 _ rfl
     have c12:=r1.cell 2 _ rfl)
  | (go_at_call 49;refine(hS1 _ Bc).mono ?_;clear hS1;rintro e ws1 ⟨⟨a1,N1,cc1,rfl,S1⟩,bs1⟩
     replace Bc:=Z00q Bc bs1 (Nat.le_refl _)
     have vs1:=bs1.size
     try (replace r1:=r1.later bs1)
     try (replace r2:=r2.later bs1)
     try (replace S1:=S1.later bs1)
     try (replace S2:=S2.later bs1)
     try clear c11
     try clear c12
     have c11:=r1.cell 1 _ rfl
     have c12:=r1.cell 2 _ rfl
     have hn1:=S1.len
     subst hn1)
  | (go_at_call 49;refine(hS2 _ Bc).mono ?_;clear hS2;rintro e ws2 ⟨⟨a2,N2,cc2,rfl,S2⟩,bs2⟩
     replace Bc:=Z00q Bc bs2 (Nat.le_refl _)
     have vs2:=bs2.size
     try (replace r1:=r1.later bs2)
     try (replace r2:=r2.later bs2)
     try (replace S1:=S1.later bs2)
     try (replace S2:=S2.later bs2)
     try clear c11
     try clear c12
     have c11:=r1.cell 1 _ rfl
     have c12:=r1.cell 2 _ rfl
     have hn2:=S2.len
     subst hn2)
  | (go_at_call 35;refine(Z0b _ _).mono ?_;rintro e wf ⟨rfl,bf⟩
     replace Bc:=Z00q Bc bf (Nat.le_refl _)
     replace r2:=r2.later bf)
  | (refine Z03 (by rfl) _ _ (by rfl) g2 (by rfl) (anC E 0 nilV nilV 0 0 0) E (Z07 E) (by rfl) _ r2 rfl ?_;intro w9 r9 s9))
 exact bodyPost_ret (Z0a Z06 Tryz.results33 rfl r9 rfl) rfl ⟨anC E 0 nilV nilV 0 0 0,rfl,Z07 E,Z0e h Bc (by omega) s9⟩
set_option maxHeartbeats 8000000 in
theorem Zhm {w:World} {U:Nat→Prop} {y n:Nat} {Z:Tz} (h:Dx w U y Z) (hz:Z.ok n) (hn:n≤900) (o:Oz) (s:Sv) (hn1:spN o.p= [])
 (hS1:∀ w',Below w.heap.size w w'→Calls Tryz.prog 49 #[.string (str o.p)] w' fun e u=>(∃ a N c,e= .returned (.tuple #[.slice a N c, .int .i64 0])∧Sts u a N c (spN o.p))∧Below w'.heap.size w' u)
 (hS2:∀ w',Below w.heap.size w w'→Calls Tryz.prog 49 #[.string (str o.q)] w' fun e u=>(∃ a N c,e= .returned (.tuple #[.slice a N c, .int .i64 0])∧Sts u a N c (spN o.q))∧Below w'.heap.size w' u):
 Calls Tryz.prog 33 #[.pointer (some ⟨y,0,none⟩), .agg (opC o s).toArray] w fun e w'=>RetY e U y Z 51 w w':=by
 have g1':(spN o.p).length=0:=by rw [hn1];rfl
 clear hn1
 go_enter Tryz.func33,Tryz.ntmps33
 go_wp2_with (first
  | (refine Z05 (by rfl) _ (by rfl) o s (by rfl) ?_;intro g1 w1 z1 z2 r1 b1
     have Bc:=b1
     have v1:=b1.size
     try clear c11
     try clear c12
     have c11:=r1.cell 1 _ rfl
     have c12:=r1.cell 2 _ rfl)
  | (refine Z02 (by rfl) (by rfl) ?_;intro g2 w2 z3 z4 r2 b2
     replace Bc:=Z00q Bc b2 (Nat.le_refl _)
     have v2:=b2.size
     try (replace r1:=r1.later b2)
     try (replace r2:=r2.later b2)
     try (replace S1:=S1.later b2)
     try (replace S2:=S2.later b2)
     try clear c11
     try clear c12
     have c11:=r1.cell 1 _ rfl
     have c12:=r1.cell 2 _ rfl)
  | (go_at_call 49;refine(hS1 _ Bc).mono ?_;clear hS1;rintro e ws1 ⟨⟨a1,N1,cc1,rfl,S1⟩,bs1⟩
     replace Bc:=Z00q Bc bs1 (Nat.le_refl _)
     have vs1:=bs1.size
     try (replace r1:=r1.later bs1)
     try (replace r2:=r2.later bs1)
     try (replace S1:=S1.later bs1)
     try (replace S2:=S2.later bs1)
     try clear c11
     try clear c12
     have c11:=r1.cell 1 _ rfl
     have c12:=r1.cell 2 _ rfl
     have hn1:=S1.len
     subst hn1)
  | (go_at_call 49;refine(hS2 _ Bc).mono ?_;clear hS2;rintro e ws2 ⟨⟨a2,N2,cc2,rfl,S2⟩,bs2⟩
     replace Bc:=Z00q Bc bs2 (Nat.le_refl _)
     have vs2:=bs2.size
     try (replace r1:=r1.later bs2)
     try (replace r2:=r2.later bs2)
     try (replace S1:=S1.later bs2)
     try (replace S2:=S2.later bs2)
     try clear c11
     try clear c12
     have c11:=r1.cell 1 _ rfl
     have c12:=r1.cell 2 _ rfl
     have hn2:=S2.len
     subst hn2)
  | (go_at_call 35;refine(Z0b _ _).mono ?_;rintro e wf ⟨rfl,bf⟩
     replace Bc:=Z00q Bc bf (Nat.le_refl _)
     replace r2:=r2.later bf)
  | (refine Z03 (by rfl) _ _ (by rfl) g2 (by rfl) (anC 51 0 nilV nilV 0 0 0) 51 (Z07 51) (by rfl) _ r2 rfl ?_;intro w9 r9 s9))
 exact bodyPost_ret (Z0a Z06 Tryz.results33 rfl r9 rfl) rfl ⟨anC 51 0 nilV nilV 0 0 0,rfl,Z07 51,Z0e h Bc (by omega) s9⟩
set_option maxHeartbeats 8000000 in
theorem Zhn {w:World} {U:Nat→Prop} {y n:Nat} {Z:Tz} (h:Dx w U y Z) (hz:Z.ok n) (hn:n≤900) (o:Oz) (s:Sv) (hn1:spN o.p≠ []) (hn2:spN o.q= [])
 (hS1:∀ w',Below w.heap.size w w'→Calls Tryz.prog 49 #[.string (str o.p)] w' fun e u=>(∃ a N c,e= .returned (.tuple #[.slice a N c, .int .i64 0])∧Sts u a N c (spN o.p))∧Below w'.heap.size w' u)
 (hS2:∀ w',Below w.heap.size w w'→Calls Tryz.prog 49 #[.string (str o.q)] w' fun e u=>(∃ a N c,e= .returned (.tuple #[.slice a N c, .int .i64 0])∧Sts u a N c (spN o.q))∧Below w'.heap.size w' u):
 Calls Tryz.prog 33 #[.pointer (some ⟨y,0,none⟩), .agg (opC o s).toArray] w fun e w'=>RetY e U y Z 51 w w':=by
 have g1':(((spN o.p).length:Int)==0)=false:=by simpa using hn1
 have g2':(spN o.q).length=0:=by rw [hn2];rfl
 clear hn1 hn2
 go_enter Tryz.func33,Tryz.ntmps33
 go_wp2_with (first
  | (refine Z05 (by rfl) _ (by rfl) o s (by rfl) ?_;intro g1 w1 z1 z2 r1 b1
     have Bc:=b1
     have v1:=b1.size
     try clear c11
     try clear c12
     have c11:=r1.cell 1 _ rfl
     have c12:=r1.cell 2 _ rfl)
  | (refine Z02 (by rfl) (by rfl) ?_;intro g2 w2 z3 z4 r2 b2
     replace Bc:=Z00q Bc b2 (Nat.le_refl _)
     have v2:=b2.size
     try (replace r1:=r1.later b2)
     try (replace r2:=r2.later b2)
     try (replace S1:=S1.later b2)
     try (replace S2:=S2.later b2)
     try clear c11
     try clear c12
     have c11:=r1.cell 1 _ rfl
     have c12:=r1.cell 2 _ rfl)
  | (go_at_call 49;refine(hS1 _ Bc).mono ?_;clear hS1;rintro e ws1 ⟨⟨a1,N1,cc1,rfl,S1⟩,bs1⟩
     replace Bc:=Z00q Bc bs1 (Nat.le_refl _)
     have vs1:=bs1.size
     try (replace r1:=r1.later bs1)
     try (replace r2:=r2.later bs1)
     try (replace S1:=S1.later bs1)
     try (replace S2:=S2.later bs1)
     try clear c11
     try clear c12
     have c11:=r1.cell 1 _ rfl
     have c12:=r1.cell 2 _ rfl
     have hn1:=S1.len
     subst hn1)
  | (go_at_call 49;refine(hS2 _ Bc).mono ?_;clear hS2;rintro e ws2 ⟨⟨a2,N2,cc2,rfl,S2⟩,bs2⟩
     replace Bc:=Z00q Bc bs2 (Nat.le_refl _)
     have vs2:=bs2.size
     try (replace r1:=r1.later bs2)
     try (replace r2:=r2.later bs2)
     try (replace S1:=S1.later bs2)
     try (replace S2:=S2.later bs2)
     try clear c11
     try clear c12
     have c11:=r1.cell 1 _ rfl
     have c12:=r1.cell 2 _ rfl
     have hn2:=S2.len
     subst hn2)
  | (go_at_call 35;refine(Z0b _ _).mono ?_;rintro e wf ⟨rfl,bf⟩
     replace Bc:=Z00q Bc bf (Nat.le_refl _)
     replace r2:=r2.later bf)
  | (refine Z03 (by rfl) _ _ (by rfl) g2 (by rfl) (anC 51 0 nilV nilV 0 0 0) 51 (Z07 51) (by rfl) _ r2 rfl ?_;intro w9 r9 s9))
 exact bodyPost_ret (Z0a Z06 Tryz.results33 rfl r9 rfl) rfl ⟨anC 51 0 nilV nilV 0 0 0,rfl,Z07 51,Z0e h Bc (by omega) s9⟩
set_option maxRecDepth 100000
set_option maxHeartbeats 8000000 in
theorem rr_p {w:World} {U:Nat→Prop} {y n:Nat} {Z:Tz} (h:Dx w U y Z) (hz:Z.ok n) (hn:n≤900) (o:Oz) (s:Sv) (hn1:spN o.p≠ []) (hn2:spN o.q≠ []) {E:Int} (hE:E≠0)
 (hS1:∀ w',Below w.heap.size w w'→Calls Tryz.prog 49 #[.string (str o.p)] w' fun e u=>(∃ a N c,e= .returned (.tuple #[.slice a N c, .int .i64 0])∧Sts u a N c (spN o.p))∧Below w'.heap.size w' u)
 (hS2:∀ w',Below w.heap.size w w'→Calls Tryz.prog 49 #[.string (str o.q)] w' fun e u=>(∃ a N c,e= .returned (.tuple #[.slice a N c, .int .i64 0])∧Sts u a N c (spN o.q))∧Below w'.heap.size w' u)
 (hP:∀ w',Below w.heap.size w w'→Calls Tryz.prog 66 #[.pointer (some ⟨y,0,none⟩), .string (str o.p), .int .i64 51] w' fun e u=>(∃ d t,e= .returned (.tuple #[.int .i64 d, .string t, .int .i64 E]))∧Below w'.heap.size w' u):
 Calls Tryz.prog 33 #[.pointer (some ⟨y,0,none⟩), .agg (opC o s).toArray] w fun e w'=>RetY e U y Z E w w':=by
 have g1':(((spN o.p).length:Int)==0)=false:=by simpa using hn1
 have g2':(((spN o.q).length:Int)==0)=false:=by simpa using hn2
 clear hn1 hn2
 have qE:(E != 0)=true:=by simpa using hE
 go_enter Tryz.func33,Tryz.ntmps33
 go_wp2_with (first
  | (refine Z05 (by rfl) _ (by rfl) o s (by rfl) ?_;intro g1 w1 z1 z2 r1 b1
     have Bc:=b1
     have v1:=b1.size
     try clear c11
     try clear c12
     have c11:=r1.cell 1 _ rfl
     have c12:=r1.cell 2 _ rfl)
  | (refine Z02 (by rfl) (by rfl) ?_;intro g2 w2 z3 z4 r2 b2
     replace Bc:=Z00q Bc b2 (Nat.le_refl _)
     have v2:=b2.size
     try (replace r1:=r1.later b2)
     try (replace r2:=r2.later b2)
     try (replace S1:=S1.later b2)
     try (replace S2:=S2.later b2)
     try clear c11
     try clear c12
     have c11:=r1.cell 1 _ rfl
     have c12:=r1.cell 2 _ rfl)
  | (go_at_call 49;refine(hS1 _ Bc).mono ?_;clear hS1;rintro e ws1 ⟨⟨a1,N1,cc1,rfl,S1⟩,bs1⟩
     replace Bc:=Z00q Bc bs1 (Nat.le_refl _)
     have vs1:=bs1.size
     try (replace r1:=r1.later bs1)
     try (replace r2:=r2.later bs1)
     try (replace S1:=S1.later bs1)
     try (replace S2:=S2.later bs1)
     try clear c11
     try clear c12
     have c11:=r1.cell 1 _ rfl
     have c12:=r1.cell 2 _ rfl
     have hn1:=S1.len
     subst hn1)
  | (go_at_call 49;refine(hS2 _ Bc).mono ?_;clear hS2;rintro e ws2 ⟨⟨a2,N2,cc2,rfl,S2⟩,bs2⟩
     replace Bc:=Z00q Bc bs2 (Nat.le_refl _)
     have vs2:=bs2.size
     try (replace r1:=r1.later bs2)
     try (replace r2:=r2.later bs2)
     try (replace S1:=S1.later bs2)
     try (replace S2:=S2.later bs2)
     try clear c11
     try clear c12
     have c11:=r1.cell 1 _ rfl
     have c12:=r1.cell 2 _ rfl
     have hn2:=S2.len
     subst hn2)
  | (go_at_call 66;refine(hP _ Bc).mono ?_;clear hP;rintro e wp ⟨⟨dd,tt,rfl⟩,bp⟩
     replace Bc:=Z00q Bc bp (Nat.le_refl _)
     have vp:=bp.size
     try (replace r1:=r1.later bp)
     try (replace r2:=r2.later bp)
     try (replace S1:=S1.later bp)
     try (replace S2:=S2.later bp)
     try clear c11
     try clear c12
     have c11:=r1.cell 1 _ rfl
     have c12:=r1.cell 2 _ rfl)
  | (go_at_call 35;refine(Z0b _ _).mono ?_;rintro e wf ⟨rfl,bf⟩
     replace Bc:=Z00q Bc bf (Nat.le_refl _)
     replace r2:=r2.later bf)
  | (refine Z03 (by rfl) _ _ (by rfl) g2 (by rfl) (anC E 0 nilV nilV 0 0 0) E (Z07 E) (by rfl) _ r2 rfl ?_;intro w9 r9 s9))
 exact bodyPost_ret (Z0a Z06 Tryz.results33 rfl r9 rfl) rfl ⟨anC E 0 nilV nilV 0 0 0,rfl,Z07 E,Z0e h Bc (by omega) s9⟩
set_option maxHeartbeats 8000000 in
theorem rr_n {w:World} {U:Nat→Prop} {y n:Nat} {Z:Tz} (h:Dx w U y Z) (hz:Z.ok n) (hn:n≤900) (o:Oz) (s:Sv) (hn1:spN o.p≠ []) (hn2:spN o.q≠ []) {D:Int} {a:List UInt8}
 (hS1:∀ w',Below w.heap.size w w'→Calls Tryz.prog 49 #[.string (str o.p)] w' fun e u=>(∃ a N c,e= .returned (.tuple #[.slice a N c, .int .i64 0])∧Sts u a N c (spN o.p))∧Below w'.heap.size w' u)
 (hS2:∀ w',Below w.heap.size w w'→Calls Tryz.prog 49 #[.string (str o.q)] w' fun e u=>(∃ a N c,e= .returned (.tuple #[.slice a N c, .int .i64 0])∧Sts u a N c (spN o.q))∧Below w'.heap.size w' u)
 (hP:∀ w',Below w.heap.size w w'→Calls Tryz.prog 66 #[.pointer (some ⟨y,0,none⟩), .string (str o.p), .int .i64 51] w' fun e u=>e= .returned (.tuple #[.int .i64 D, .string (str a), .int .i64 0])∧Below w'.heap.size w' u)
 (hF1:∀ w',Below w.heap.size w w'→Calls Tryz.prog 67 #[.pointer (some ⟨y,0,none⟩), .int .i64 D, .string (str a)] w' fun e u=>e= .returned (.int .i64 0)∧w'=u):
 Calls Tryz.prog 33 #[.pointer (some ⟨y,0,none⟩), .agg (opC o s).toArray] w fun e w'=>RetY e U y Z 40 w w':=by
 have g1':(((spN o.p).length:Int)==0)=false:=by simpa using hn1
 have g2':(((spN o.q).length:Int)==0)=false:=by simpa using hn2
 clear hn1 hn2
 go_enter Tryz.func33,Tryz.ntmps33
 go_wp2_with (first
  | (refine Z05 (by rfl) _ (by rfl) o s (by rfl) ?_;intro g1 w1 z1 z2 r1 b1
     have Bc:=b1
     have v1:=b1.size
     try clear c11
     try clear c12
     have c11:=r1.cell 1 _ rfl
     have c12:=r1.cell 2 _ rfl)
  | (refine Z02 (by rfl) (by rfl) ?_;intro g2 w2 z3 z4 r2 b2
     replace Bc:=Z00q Bc b2 (Nat.le_refl _)
     have v2:=b2.size
     try (replace r1:=r1.later b2)
     try (replace r2:=r2.later b2)
     try (replace S1:=S1.later b2)
     try (replace S2:=S2.later b2)
     try clear c11
     try clear c12
     have c11:=r1.cell 1 _ rfl
     have c12:=r1.cell 2 _ rfl)
  | (go_at_call 49;refine(hS1 _ Bc).mono ?_;clear hS1;rintro e ws1 ⟨⟨a1,N1,cc1,rfl,S1⟩,bs1⟩
     replace Bc:=Z00q Bc bs1 (Nat.le_refl _)
     have vs1:=bs1.size
     try (replace r1:=r1.later bs1)
     try (replace r2:=r2.later bs1)
     try (replace S1:=S1.later bs1)
     try (replace S2:=S2.later bs1)
     try clear c11
     try clear c12
     have c11:=r1.cell 1 _ rfl
     have c12:=r1.cell 2 _ rfl
     have hn1:=S1.len
     subst hn1)
  | (go_at_call 49;refine(hS2 _ Bc).mono ?_;clear hS2;rintro e ws2 ⟨⟨a2,N2,cc2,rfl,S2⟩,bs2⟩
     replace Bc:=Z00q Bc bs2 (Nat.le_refl _)
     have vs2:=bs2.size
     try (replace r1:=r1.later bs2)
     try (replace r2:=r2.later bs2)
     try (replace S1:=S1.later bs2)
     try (replace S2:=S2.later bs2)
     try clear c11
     try clear c12
     have c11:=r1.cell 1 _ rfl
     have c12:=r1.cell 2 _ rfl
     have hn2:=S2.len
     subst hn2)
  | (go_at_call 66;refine(hP _ Bc).mono ?_;clear hP;rintro e wp ⟨rfl,bp⟩
     replace Bc:=Z00q Bc bp (Nat.le_refl _)
     have vp:=bp.size
     try (replace r1:=r1.later bp)
     try (replace r2:=r2.later bp)
     try (replace S1:=S1.later bp)
     try (replace S2:=S2.later bp)
     try clear c11
     try clear c12
     have c11:=r1.cell 1 _ rfl
     have c12:=r1.cell 2 _ rfl)
  | (go_at_call 67;refine(hF1 _ Bc).mono ?_;clear hF1;rintro e u ⟨rfl,rfl⟩)
  | (go_at_call 35;refine(Z0b _ _).mono ?_;rintro e wf ⟨rfl,bf⟩
     replace Bc:=Z00q Bc bf (Nat.le_refl _)
     replace r2:=r2.later bf)
  | (refine Z03 (by rfl) _ _ (by rfl) g2 (by rfl) (anC 40 0 nilV nilV 0 0 0) 40 (Z07 40) (by rfl) _ r2 rfl ?_;intro w9 r9 s9))
 exact bodyPost_ret (Z0a Z06 Tryz.results33 rfl r9 rfl) rfl ⟨anC 40 0 nilV nilV 0 0 0,rfl,Z07 40,Z0e h Bc (by omega) s9⟩
set_option maxHeartbeats 8000000 in
theorem rr_i {w:World} {U:Nat→Prop} {y n:Nat} {Z:Tz} (h:Dx w U y Z) (hz:Z.ok n) (hn:n≤900) (o:Oz) (s:Sv) (hn1:spN o.p≠ []) (hn2:spN o.q≠ []) {D i:Int} {a:List UInt8} (hi:1≤i∧i.toNat < Z.N.length) (hki:(Z.nd i).k=2)
 (hS1:∀ w',Below w.heap.size w w'→Calls Tryz.prog 49 #[.string (str o.p)] w' fun e u=>(∃ a N c,e= .returned (.tuple #[.slice a N c, .int .i64 0])∧Sts u a N c (spN o.p))∧Below w'.heap.size w' u)
 (hS2:∀ w',Below w.heap.size w w'→Calls Tryz.prog 49 #[.string (str o.q)] w' fun e u=>(∃ a N c,e= .returned (.tuple #[.slice a N c, .int .i64 0])∧Sts u a N c (spN o.q))∧Below w'.heap.size w' u)
 (hP:∀ w',Below w.heap.size w w'→Calls Tryz.prog 66 #[.pointer (some ⟨y,0,none⟩), .string (str o.p), .int .i64 51] w' fun e u=>e= .returned (.tuple #[.int .i64 D, .string (str a), .int .i64 0])∧Below w'.heap.size w' u)
 (hF1:∀ w',Below w.heap.size w w'→Calls Tryz.prog 67 #[.pointer (some ⟨y,0,none⟩), .int .i64 D, .string (str a)] w' fun e u=>e= .returned (.int .i64 i)∧w'=u)
 (hI:∀ w' a1 N1 c1 a2 N2 c2,Sts w' a1 N1 c1 (spN o.p)→Sts w' a2 N2 c2 (spN o.q)→Calls Tryz.prog 77 #[.slice a1 N1 c1, .slice a2 N2 c2] w' fun e u=>e= .returned (.bool true)∧Below w'.heap.size w' u):
 Calls Tryz.prog 33 #[.pointer (some ⟨y,0,none⟩), .agg (opC o s).toArray] w fun e w'=>RetY e U y Z 49 w w':=by
 have g1':(((spN o.p).length:Int)==0)=false:=by simpa using hn1
 have g2':(((spN o.q).length:Int)==0)=false:=by simpa using hn2
 clear hn1 hn2
 have hU:=h.low
 obtain⟨fb,r,c,A,F,sd,sn,H,hUU⟩:=h
 obtain⟨ki,rfl⟩:∃ ki:Nat,i=(ki:Int):=⟨i.toNat,by omega⟩
 have hik:ki < Z.N.length:=by simpa using hi.2
 have a7:(ki:Int) < (Z.N.length:Int):=by omega
 have a6:(0:Int)≤(ki:Int):=by omega
 have qi:((ki:Int)==0)=false:=by simp;omega
 go_enter Tryz.func33,Tryz.ntmps33
 go_wp2_with (first
  | (refine Z05 (by rfl) _ (by rfl) o s (by rfl) ?_;intro g1 w1 z1 z2 r1 b1
     have Bc:=b1
     have v1:=b1.size
     try clear c11
     try clear c12
     have c11:=r1.cell 1 _ rfl
     have c12:=r1.cell 2 _ rfl)
  | (refine Z02 (by rfl) (by rfl) ?_;intro g2 w2 z3 z4 r2 b2
     replace Bc:=Z00q Bc b2 (Nat.le_refl _)
     have v2:=b2.size
     try (replace r1:=r1.later b2)
     try (replace r2:=r2.later b2)
     try (replace S1:=S1.later b2)
     try (replace S2:=S2.later b2)
     try clear c11
     try clear c12
     have c11:=r1.cell 1 _ rfl
     have c12:=r1.cell 2 _ rfl)
  | (go_at_call 49;refine(hS1 _ Bc).mono ?_;clear hS1;rintro e ws1 ⟨⟨a1,N1,cc1,rfl,S1⟩,bs1⟩
     replace Bc:=Z00q Bc bs1 (Nat.le_refl _)
     have vs1:=bs1.size
     try (replace r1:=r1.later bs1)
     try (replace r2:=r2.later bs1)
     try (replace S1:=S1.later bs1)
     try (replace S2:=S2.later bs1)
     try clear c11
     try clear c12
     have c11:=r1.cell 1 _ rfl
     have c12:=r1.cell 2 _ rfl
     have hn1:=S1.len
     subst hn1)
  | (go_at_call 49;refine(hS2 _ Bc).mono ?_;clear hS2;rintro e ws2 ⟨⟨a2,N2,cc2,rfl,S2⟩,bs2⟩
     replace Bc:=Z00q Bc bs2 (Nat.le_refl _)
     have vs2:=bs2.size
     try (replace r1:=r1.later bs2)
     try (replace r2:=r2.later bs2)
     try (replace S1:=S1.later bs2)
     try (replace S2:=S2.later bs2)
     try clear c11
     try clear c12
     have c11:=r1.cell 1 _ rfl
     have c12:=r1.cell 2 _ rfl
     have hn2:=S2.len
     subst hn2)
  | (go_at_call 66;refine(hP _ Bc).mono ?_;clear hP;rintro e wp ⟨rfl,bp⟩
     replace Bc:=Z00q Bc bp (Nat.le_refl _)
     have vp:=bp.size
     try (replace r1:=r1.later bp)
     try (replace r2:=r2.later bp)
     try (replace S1:=S1.later bp)
     try (replace S2:=S2.later bp)
     try clear c11
     try clear c12
     have c11:=r1.cell 1 _ rfl
     have c12:=r1.cell 2 _ rfl)
  | (go_at_call 67;refine(hF1 _ Bc).mono ?_;clear hF1;rintro e u ⟨rfl,rfl⟩
     have q0:=(H.later Bc).c0
     have qk:=(H.later Bc).nk hik
     have ql:=(H.later Bc).nl hik
     rw [hki]at qk)
  | (go_at_call 77;refine(hI _ _ _ _ _ _ _ S1 S2).mono ?_;clear hI;rintro e wi ⟨rfl,bi⟩
     replace Bc:=Z00q Bc bi (Nat.le_refl _)
     have vi:=bi.size
     try (replace r1:=r1.later bi)
     try (replace r2:=r2.later bi)
     try (replace S1:=S1.later bi)
     try (replace S2:=S2.later bi)
     try clear c11
     try clear c12
     have c11:=r1.cell 1 _ rfl
     have c12:=r1.cell 2 _ rfl)
  | (go_at_call 35;refine(Z0b _ _).mono ?_;rintro e wf ⟨rfl,bf⟩
     replace Bc:=Z00q Bc bf (Nat.le_refl _)
     replace r2:=r2.later bf)
  | (refine Z03 (by rfl) _ _ (by rfl) g2 (by rfl) (anC 49 0 nilV nilV 0 0 0) 49 (Z07 49) (by rfl) _ r2 rfl ?_;intro w9 r9 s9))
 exact bodyPost_ret (Z0a Z06 Tryz.results33 rfl r9 rfl) rfl ⟨anC 49 0 nilV nilV 0 0 0,rfl,Z07 49,(Z0e ⟨fb,r,c,A,F,sd,sn,H,hUU⟩ Bc (by omega) s9)⟩
end Go.Proofs.YtdnjddpfcgginaaGreat
