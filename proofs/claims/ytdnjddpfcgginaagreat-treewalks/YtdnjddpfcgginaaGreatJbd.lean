/-
  Texts of my own, joined: no statement is proved here.
-/
import Derived.Test.YtdnjddpfcgginaaGreatJas
set_option linter.unusedSimpArgs false
set_option linter.unusedVariables false
namespace Go.Proofs.YtdnjddpfcgginaaGreat
open Go.ChangeShapes Go.WideShapes Go.ChangeAt Go.RowKit
set_option maxRecDepth 100000
section
variable {Z : Tz} {m n : Nat} {x : Int → Int}
theorem Z9n:∀ (l:List (List UInt8)) (i:Int),(Z.wk l i).2≠0→(Z.wk l i).1=0
 | [],i,h=>absurd rfl h
 | s::r,i,h=>by
   unfold Tz.wk at h ⊢
   by_cases h1:(Z.nd i).k=2
   · rw [if_pos h1]at h ⊢
     by_cases h2:lk (Z.nd i).nm s=0
     · rw [if_pos h2]
     · rw [if_neg h2]at h ⊢;exact Z9n r _ h
   · rw [if_neg h1]
theorem Zh9 (hz:Z.okD m n x) (hm:m≤1000) (p:List UInt8):wfi (Z.wa p).1:=by
 by_cases h:(Z.wa p).2=0
 · have h1:=hz.live (Z26 hz h)
   have h2:=hz.few
   exact Z2b (by omega)
 · have :(Z.wa p).1=0:=by
    unfold Tz.wa at h ⊢
    by_cases h1:spE p=0
    · rw [if_pos h1]at h ⊢;exact Z9n _ _ h
    · rw [if_neg h1]
   rw [this];exact Z2b (by decide)
theorem Z9m (s:List UInt8):∀ (l:List (List UInt8)) (i:Int),(Z.wk (l++ [s]) i).2=0→(Z.wk l i).2=0∧(Z.nd (Z.wk l i).1).k=2∧lk (Z.nd (Z.wk l i).1).nm s=(Z.wk (l++ [s]) i).1∧(Z.wk (l++ [s]) i).1≠0
 | [],i,h=>by
   simp only [List.nil_append]at h ⊢
   unfold Tz.wk at h ⊢
   by_cases h1:(Z.nd i).k=2
   · rw [if_pos h1]at h
     by_cases h2:lk (Z.nd i).nm s=0
     · rw [if_pos h2]at h;cases h
     · rw [if_pos h1,if_neg h2]
       unfold Tz.wk
       exact⟨rfl,h1,rfl,h2⟩
   · rw [if_neg h1]at h;cases h
 | t::r,i,h=>by
   simp only [List.cons_append]at h ⊢
   unfold Tz.wk at h ⊢
   by_cases h1:(Z.nd i).k=2
   · rw [if_pos h1]at h
     by_cases h2:lk (Z.nd i).nm t=0
     · rw [if_pos h2]at h;cases h
     · rw [if_neg h2]at h
       rw [if_pos h1,if_neg h2,if_pos h1,if_neg h2]
       exact Z9m s r _ h
   · rw [if_neg h1]at h;cases h
theorem Zfg {p:List UInt8} (he:(Z.wa p).2=0) (hg:lsE p=0):jE (lsN p)=0∧Z.wa (jS (lsN p))=(Z.paD p,0)∧(Z.nd (Z.paD p)).k=2∧lk (Z.nd (Z.paD p)).nm (lsS p)=(Z.wa p).1∧(Z.wa p).1≠0:=by
 obtain⟨h1,h2,h3⟩:=Z57 hg
 have h4:=Z5f (Z3m h1).1
 have h5:jE (lsN p)=0:=by
  rw [Z56 (fun y hy=>h4.1 y (by rw [← h3];simp [hy])),if_neg]
  have:=h4.2
  rw [← h3]at this;simp at this;omega
 obtain⟨h6,h7⟩:=Za6 h5
 unfold Tz.wa at he ⊢
 rw [if_pos h1]at he ⊢
 rw [if_pos h6,h7]
 rw [← h3]at he ⊢
 obtain⟨k1,k2,k3,k4⟩:=Z9m (lsS p) (lsN p) 1 he
 unfold Tz.paD
 exact⟨h5,by rw [← k1],k2,k3,k4⟩
end
section
variable {ops : Array Oper} {rest : List Oper} {o : Oper} {a : Act} {w : World} {Q : Exit → Act → World → Prop}
theorem Zd1 (hw:Region.wanted o (yielded ops a.tmps)=true) (x:Operand) (ho:o.op= .load 37 x) (b i:Nat) (hx:a.eval x= .pointer (some ⟨b,i,none⟩)) (t:Ox) (hr:w.rangeAt b i t.cs)
 (h:wpList Tryz.prog ops Q rest (a.put o.dst (.agg (opC t.o t.d).toArray)) w):wpList Tryz.prog ops Q (o::rest) a w:=by
 refine Z11 hw _ _ ?_ h
 obtain⟨d,k1,k2⟩:=Z0q.und
 have:(loadVar 37 ⟨b,i,none⟩).run Tryz.prog w= .ok (.agg t.cs.toArray) w:=run_loadVar_mid w b _ _ t.cs _ hr k1 k2 (by rw [Z0q.size];rfl)
 simp [execOp,ho,hx,Instr.loadAt,Instr.sureAddr,this];rfl
end
set_option maxRecDepth 100000
set_option maxHeartbeats 8000000 in
theorem Zh0 {w:World} {U:Nat→Prop} {y n:Nat} {Z:Tz} (h:Dx w U y Z) (hz:Z.ok n) (hn:n≤900) (o:Oz) (s:Sv) {E:Int} (hE:E≠0)
 (hS1:∀ w',Below w.heap.size w w'→Calls Tryz.prog 49 #[.string (str o.p)] w' fun e u=>(∃ a N c,e= .returned (.tuple #[.slice a N c, .int .i64 E])∧Sts u a N c (spN o.p))∧Below w'.heap.size w' u):
 Calls Tryz.prog 33 #[.pointer (some ⟨y,0,none⟩), .agg (opC o s).toArray] w fun e w'=>RetY e U y Z E w w':=by
 have qE:(E != 0)=true:=by simpa using hE
 go_enter Tryz.func33,Tryz.ntmps33
 go_wp2_with (first
  | (refine Z05 (by rfl) _ (by rfl) o s (by rfl) ?_;intro g1 w1 z1 z2 r1 b1
     have Bc:=b1
     have v1:=b1.size
     try clear c11
     try clear c12
     have c11:=r1.cell 1 _ rfl
     have c12:=r1.cell 2 _ rfl)
  | (refine Z02 (by rfl) (by rfl) ?_;intro g2 w2 z3 z4 r2 b2
     replace Bc:=Z00q Bc b2 (Nat.le_refl _)
     have v2:=b2.size
     try (replace r1:=r1.later b2)
     try (replace r2:=r2.later b2)
     try (replace S1:=S1.later b2)
     try (replace S2:=S2.later b2)
     try clear c11
     try clear c12
     have c11:=r1.cell 1 _ rfl
     have c12:=r1.cell 2 _ rfl)
  | (go_at_call 49;refine(hS1 _ Bc).mono ?_;clear hS1;rintro e ws1 ⟨⟨a1,N1,cc1,rfl,S1⟩,bs1⟩
     replace Bc:=Z00q Bc bs1 (Nat.le_refl _)
     have vs1:=bs1.size
     try (replace r1:=r1.later bs1)
     try (replace r2:=r2.later bs1)
     try (replace S1:=S1.later bs1)
     try (replace S2:=S2.later bs1)
     try clear c11
     try clear c12
     have c11:=r1.cell 1 _ rfl
     have c12:=r1.cell 2 _ rfl
     have hn1:=S1.len
     subst hn1)
  | (go_at_call 35;refine(Z0b _ _).mono ?_;rintro e wf ⟨rfl,bf⟩
     replace Bc:=Z00q Bc bf (Nat.le_refl _)
     replace r2:=r2.later bf)
  | (refine Z03 (by rfl) _ _ (by rfl) g2 (by rfl) (anC E 0 nilV nilV 0 0 0) E (Z09 E) (by rfl) _ r2 rfl ?_;intro w9 r9 s9))
 exact bodyPost_ret (Z0a Z06 Tryz.results33 rfl r9 rfl) rfl ⟨anC E 0 nilV nilV 0 0 0,rfl,Z09 E,Z0e h Bc (by omega) s9⟩
set_option maxHeartbeats 8000000 in
theorem Zh1 {w:World} {U:Nat→Prop} {y n:Nat} {Z:Tz} (h:Dx w U y Z) (hz:Z.ok n) (hn:n≤900) (o:Oz) (s:Sv) {E:Int} (hE:E≠0)
 (hS1:∀ w',Below w.heap.size w w'→Calls Tryz.prog 49 #[.string (str o.p)] w' fun e u=>(∃ a N c,e= .returned (.tuple #[.slice a N c, .int .i64 0])∧Sts u a N c (spN o.p))∧Below w'.heap.size w' u)
 (hS2:∀ w',Below w.heap.size w w'→Calls Tryz.prog 49 #[.string (str o.q)] w' fun e u=>(∃ a N c,e= .returned (.tuple #[.slice a N c, .int .i64 E])∧Sts u a N c (spN o.q))∧Below w'.heap.size w' u):
 Calls Tryz.prog 33 #[.pointer (some ⟨y,0,none⟩), .agg (opC o s).toArray] w fun e w'=>RetY e U y Z E w w':=by
 have qE:(E != 0)=true:=by simpa using hE
 go_enter Tryz.func33,Tryz.ntmps33
 go_wp2_with (first
  | (refine Z05 (by rfl) _ (by rfl) o s (by rfl) ?_;intro g1 w1 z1 z2 r1 b1
     have Bc:=b1
     have v1:=b1.size
     try clear c11
     try clear c12
     have c11:=r1.cell 1 _ rfl
     have c12:=r1.cell 2 _ rfl)
  | (refine Z02 (by rfl) (by rfl) ?_;intro g2 w2 z3 z4 r2 b2
     replace Bc:=Z00q Bc b2 (Nat.le_refl _)
     have v2:=b2.size
     try (replace r1:=r1.later b2)
     try (replace r2:=r2.later b2)
     try (replace S1:=S1.later b2)
     try (replace S2:=S2.later b2)
     try clear c11
     try clear c12
     have c11:=r1.cell 1 _ rfl
     have c12:=r1.cell 2 _ rfl)
  | (go_at_call 49;refine(hS1 _ Bc).mono ?_;clear hS1;rintro e ws1 ⟨⟨a1,N1,cc1,rfl,S1⟩,bs1⟩
     replace Bc:=Z00q Bc bs1 (Nat.le_refl _)
     have vs1:=bs1.size
     try (replace r1:=r1.later bs1)
     try (replace r2:=r2.later bs1)
     try (replace S1:=S1.later bs1)
     try (replace S2:=S2.later bs1)
     try clear c11
     try clear c12
     have c11:=r1.cell 1 _ rfl
     have c12:=r1.cell 2 _ rfl
     have hn1:=S1.len
     subst hn1)
  | (go_at_call 49;refine(hS2 _ Bc).mono ?_;clear hS2;rintro e ws2 ⟨⟨a2,N2,cc2,rfl,S2⟩,bs2⟩
     replace Bc:=Z00q Bc bs2 (Nat.le_refl _)
     have vs2:=bs2.size
     try (replace r1:=r1.later bs2)
     try (replace r2:=r2.later bs2)
     try (replace S1:=S1.later bs2)
     try (replace S2:=S2.later bs2)
     try clear c11
     try clear c12
     have c11:=r1.cell 1 _ rfl
     have c12:=r1.cell 2 _ rfl
     have hn2:=S2.len
     subst hn2)
  | (go_at_call 35;refine(Z0b _ _).mono ?_;rintro e wf ⟨rfl,bf⟩
     replace Bc:=Z00q Bc bf (Nat.le_refl _)
     replace r2:=r2.later bf)
  | (refine Z03 (by rfl) _ _ (by rfl) g2 (by rfl) (anC E 0 nilV nilV 0 0 0) E (Z09 E) (by rfl) _ r2 rfl ?_;intro w9 r9 s9))
 exact bodyPost_ret (Z0a Z06 Tryz.results33 rfl r9 rfl) rfl ⟨anC E 0 nilV nilV 0 0 0,rfl,Z09 E,Z0e h Bc (by omega) s9⟩
set_option maxHeartbeats 8000000 in
theorem Zh2 {w:World} {U:Nat→Prop} {y n:Nat} {Z:Tz} (h:Dx w U y Z) (hz:Z.ok n) (hn:n≤900) (o:Oz) (s:Sv) (hn1:spN o.p= [])
 (hS1:∀ w',Below w.heap.size w w'→Calls Tryz.prog 49 #[.string (str o.p)] w' fun e u=>(∃ a N c,e= .returned (.tuple #[.slice a N c, .int .i64 0])∧Sts u a N c (spN o.p))∧Below w'.heap.size w' u)
 (hS2:∀ w',Below w.heap.size w w'→Calls Tryz.prog 49 #[.string (str o.q)] w' fun e u=>(∃ a N c,e= .returned (.tuple #[.slice a N c, .int .i64 0])∧Sts u a N c (spN o.q))∧Below w'.heap.size w' u):
 Calls Tryz.prog 33 #[.pointer (some ⟨y,0,none⟩), .agg (opC o s).toArray] w fun e w'=>RetY e U y Z 51 w w':=by
 have g1':(spN o.p).length=0:=by rw [hn1];rfl
 clear hn1
 go_enter Tryz.func33,Tryz.ntmps33
 go_wp2_with (first
  | (refine Z05 (by rfl) _ (by rfl) o s (by rfl) ?_;intro g1 w1 z1 z2 r1 b1
     have Bc:=b1
     have v1:=b1.size
     try clear c11
     try clear c12
     have c11:=r1.cell 1 _ rfl
     have c12:=r1.cell 2 _ rfl)
  | (refine Z02 (by rfl) (by rfl) ?_;intro g2 w2 z3 z4 r2 b2
     replace Bc:=Z00q Bc b2 (Nat.le_refl _)
     have v2:=b2.size
     try (replace r1:=r1.later b2)
     try (replace r2:=r2.later b2)
     try (replace S1:=S1.later b2)
     try (replace S2:=S2.later b2)
     try clear c11
     try clear c12
     have c11:=r1.cell 1 _ rfl
     have c12:=r1.cell 2 _ rfl)
  | (go_at_call 49;refine(hS1 _ Bc).mono ?_;clear hS1;rintro e ws1 ⟨⟨a1,N1,cc1,rfl,S1⟩,bs1⟩
     replace Bc:=Z00q Bc bs1 (Nat.le_refl _)
     have vs1:=bs1.size
     try (replace r1:=r1.later bs1)
     try (replace r2:=r2.later bs1)
     try (replace S1:=S1.later bs1)
     try (replace S2:=S2.later bs1)
     try clear c11
     try clear c12
     have c11:=r1.cell 1 _ rfl
     have c12:=r1.cell 2 _ rfl
     have hn1:=S1.len
     subst hn1)
  | (go_at_call 49;refine(hS2 _ Bc).mono ?_;clear hS2;rintro e ws2 ⟨⟨a2,N2,cc2,rfl,S2⟩,bs2⟩
     replace Bc:=Z00q Bc bs2 (Nat.le_refl _)
     have vs2:=bs2.size
     try (replace r1:=r1.later bs2)
     try (replace r2:=r2.later bs2)
     try (replace S1:=S1.later bs2)
     try (replace S2:=S2.later bs2)
     try clear c11
     try clear c12
     have c11:=r1.cell 1 _ rfl
     have c12:=r1.cell 2 _ rfl
     have hn2:=S2.len
     subst hn2)
  | (go_at_call 35;refine(Z0b _ _).mono ?_;rintro e wf ⟨rfl,bf⟩
     replace Bc:=Z00q Bc bf (Nat.le_refl _)
     replace r2:=r2.later bf)
  | (refine Z03 (by rfl) _ _ (by rfl) g2 (by rfl) (anC 51 0 nilV nilV 0 0 0) 51 (Z09 51) (by rfl) _ r2 rfl ?_;intro w9 r9 s9))
 exact bodyPost_ret (Z0a Z06 Tryz.results33 rfl r9 rfl) rfl ⟨anC 51 0 nilV nilV 0 0 0,rfl,Z09 51,Z0e h Bc (by omega) s9⟩
set_option maxHeartbeats 8000000 in
theorem Zh3 {w:World} {U:Nat→Prop} {y n:Nat} {Z:Tz} (h:Dx w U y Z) (hz:Z.ok n) (hn:n≤900) (o:Oz) (s:Sv) (hn1:spN o.p≠ []) (hn2:spN o.q= [])
 (hS1:∀ w',Below w.heap.size w w'→Calls Tryz.prog 49 #[.string (str o.p)] w' fun e u=>(∃ a N c,e= .returned (.tuple #[.slice a N c, .int .i64 0])∧Sts u a N c (spN o.p))∧Below w'.heap.size w' u)
 (hS2:∀ w',Below w.heap.size w w'→Calls Tryz.prog 49 #[.string (str o.q)] w' fun e u=>(∃ a N c,e= .returned (.tuple #[.slice a N c, .int .i64 0])∧Sts u a N c (spN o.q))∧Below w'.heap.size w' u):
 Calls Tryz.prog 33 #[.pointer (some ⟨y,0,none⟩), .agg (opC o s).toArray] w fun e w'=>RetY e U y Z 51 w w':=by
 have g1':(((spN o.p).length:Int)==0)=false:=by simpa using hn1
 have g2':(spN o.q).length=0:=by rw [hn2];rfl
 clear hn1 hn2
 go_enter Tryz.func33,Tryz.ntmps33
 go_wp2_with (first
  | (refine Z05 (by rfl) _ (by rfl) o s (by rfl) ?_;intro g1 w1 z1 z2 r1 b1
     have Bc:=b1
     have v1:=b1.size
     try clear c11
     try clear c12
     have c11:=r1.cell 1 _ rfl
     have c12:=r1.cell 2 _ rfl)
  | (refine Z02 (by rfl) (by rfl) ?_;intro g2 w2 z3 z4 r2 b2
     replace Bc:=Z00q Bc b2 (Nat.le_refl _)
     have v2:=b2.size
     try (replace r1:=r1.later b2)
     try (replace r2:=r2.later b2)
     try (replace S1:=S1.later b2)
     try (replace S2:=S2.later b2)
     try clear c11
     try clear c12
     have c11:=r1.cell 1 _ rfl
     have c12:=r1.cell 2 _ rfl)
  | (go_at_call 49;refine(hS1 _ Bc).mono ?_;clear hS1;rintro e ws1 ⟨⟨a1,N1,cc1,rfl,S1⟩,bs1⟩
     replace Bc:=Z00q Bc bs1 (Nat.le_refl _)
     have vs1:=bs1.size
     try (replace r1:=r1.later bs1)
     try (replace r2:=r2.later bs1)
     try (replace S1:=S1.later bs1)
     try (replace S2:=S2.later bs1)
     try clear c11
     try clear c12
     have c11:=r1.cell 1 _ rfl
     have c12:=r1.cell 2 _ rfl
     have hn1:=S1.len
     subst hn1)
  | (go_at_call 49;refine(hS2 _ Bc).mono ?_;clear hS2;rintro e ws2 ⟨⟨a2,N2,cc2,rfl,S2⟩,bs2⟩
     replace Bc:=Z00q Bc bs2 (Nat.le_refl _)
     have vs2:=bs2.size
     try (replace r1:=r1.later bs2)
     try (replace r2:=r2.later bs2)
     try (replace S1:=S1.later bs2)
     try (replace S2:=S2.later bs2)
     try clear c11
     try clear c12
     have c11:=r1.cell 1 _ rfl
     have c12:=r1.cell 2 _ rfl
     have hn2:=S2.len
     subst hn2)
  | (go_at_call 35;refine(Z0b _ _).mono ?_;rintro e wf ⟨rfl,bf⟩
     replace Bc:=Z00q Bc bf (Nat.le_refl _)
     replace r2:=r2.later bf)
  | (refine Z03 (by rfl) _ _ (by rfl) g2 (by rfl) (anC 51 0 nilV nilV 0 0 0) 51 (Z09 51) (by rfl) _ r2 rfl ?_;intro w9 r9 s9))
 exact bodyPost_ret (Z0a Z06 Tryz.results33 rfl r9 rfl) rfl ⟨anC 51 0 nilV nilV 0 0 0,rfl,Z09 51,Z0e h Bc (by omega) s9⟩
set_option maxRecDepth 100000
set_option maxHeartbeats 8000000 in
theorem rr_p {w:World} {U:Nat→Prop} {y n:Nat} {Z:Tz} (h:Dx w U y Z) (hz:Z.ok n) (hn:n≤900) (o:Oz) (s:Sv) (hn1:spN o.p≠ []) (hn2:spN o.q≠ []) {E:Int} (hE:E≠0)
 (hS1:∀ w',Below w.heap.size w w'→Calls Tryz.prog 49 #[.string (str o.p)] w' fun e u=>(∃ a N c,e= .returned (.tuple #[.slice a N c, .int .i64 0])∧Sts u a N c (spN o.p))∧Below w'.heap.size w' u)
 (hS2:∀ w',Below w.heap.size w w'→Calls Tryz.prog 49 #[.string (str o.q)] w' fun e u=>(∃ a N c,e= .returned (.tuple #[.slice a N c, .int .i64 0])∧Sts u a N c (spN o.q))∧Below w'.heap.size w' u)
 (hP:∀ w',Below w.heap.size w w'→Calls Tryz.prog 66 #[.pointer (some ⟨y,0,none⟩), .string (str o.p), .int .i64 51] w' fun e u=>(∃ d t,e= .returned (.tuple #[.int .i64 d, .string t, .int .i64 E]))∧Below w'.heap.size w' u):
 Calls Tryz.prog 33 #[.pointer (some ⟨y,0,none⟩), .agg (opC o s).toArray] w fun e w'=>RetY e U y Z E w w':=by
 have g1':(((spN o.p).length:Int)==0)=false:=by simpa using hn1
 have g2':(((spN o.q).length:Int)==0)=false:=by simpa using hn2
 clear hn1 hn2
 have qE:(E != 0)=true:=by simpa using hE
 go_enter Tryz.func33,Tryz.ntmps33
 go_wp2_with (first
  | (refine Z05 (by rfl) _ (by rfl) o s (by rfl) ?_;intro g1 w1 z1 z2 r1 b1
     have Bc:=b1
     have v1:=b1.size
     try clear c11
     try clear c12
     have c11:=r1.cell 1 _ rfl
     have c12:=r1.cell 2 _ rfl)
  | (refine Z02 (by rfl) (by rfl) ?_;intro g2 w2 z3 z4 r2 b2
     replace Bc:=Z00q Bc b2 (Nat.le_refl _)
     have v2:=b2.size
     try (replace r1:=r1.later b2)
     try (replace r2:=r2.later b2)
     try (replace S1:=S1.later b2)
     try (replace S2:=S2.later b2)
     try clear c11
     try clear c12
     have c11:=r1.cell 1 _ rfl
     have c12:=r1.cell 2 _ rfl)
  | (go_at_call 49;refine(hS1 _ Bc).mono ?_;clear hS1;rintro e ws1 ⟨⟨a1,N1,cc1,rfl,S1⟩,bs1⟩
     replace Bc:=Z00q Bc bs1 (Nat.le_refl _)
     have vs1:=bs1.size
     try (replace r1:=r1.later bs1)
     try (replace r2:=r2.later bs1)
     try (replace S1:=S1.later bs1)
     try (replace S2:=S2.later bs1)
     try clear c11
     try clear c12
     have c11:=r1.cell 1 _ rfl
     have c12:=r1.cell 2 _ rfl
     have hn1:=S1.len
     subst hn1)
  | (go_at_call 49;refine(hS2 _ Bc).mono ?_;clear hS2;rintro e ws2 ⟨⟨a2,N2,cc2,rfl,S2⟩,bs2⟩
     replace Bc:=Z00q Bc bs2 (Nat.le_refl _)
     have vs2:=bs2.size
     try (replace r1:=r1.later bs2)
     try (replace r2:=r2.later bs2)
     try (replace S1:=S1.later bs2)
     try (replace S2:=S2.later bs2)
     try clear c11
     try clear c12
     have c11:=r1.cell 1 _ rfl
     have c12:=r1.cell 2 _ rfl
     have hn2:=S2.len
     subst hn2)
  | (go_at_call 66;refine(hP _ Bc).mono ?_;clear hP;rintro e wp ⟨⟨dd,tt,rfl⟩,bp⟩
     replace Bc:=Z00q Bc bp (Nat.le_refl _)
     have vp:=bp.size
     try (replace r1:=r1.later bp)
     try (replace r2:=r2.later bp)
     try (replace S1:=S1.later bp)
     try (replace S2:=S2.later bp)
     try clear c11
     try clear c12
     have c11:=r1.cell 1 _ rfl
     have c12:=r1.cell 2 _ rfl)
  | (go_at_call 35;refine(Z0b _ _).mono ?_;rintro e wf ⟨rfl,bf⟩
     replace Bc:=Z00q Bc bf (Nat.le_refl _)
     replace r2:=r2.later bf)
  | (refine Z03 (by rfl) _ _ (by rfl) g2 (by rfl) (anC E 0 nilV nilV 0 0 0) E (Z09 E) (by rfl) _ r2 rfl ?_;intro w9 r9 s9))
 exact bodyPost_ret (Z0a Z06 Tryz.results33 rfl r9 rfl) rfl ⟨anC E 0 nilV nilV 0 0 0,rfl,Z09 E,Z0e h Bc (by omega) s9⟩
set_option maxHeartbeats 8000000 in
theorem rr_n {w:World} {U:Nat→Prop} {y n:Nat} {Z:Tz} (h:Dx w U y Z) (hz:Z.ok n) (hn:n≤900) (o:Oz) (s:Sv) (hn1:spN o.p≠ []) (hn2:spN o.q≠ []) {D:Int} {a:List UInt8}
 (hS1:∀ w',Below w.heap.size w w'→Calls Tryz.prog 49 #[.string (str o.p)] w' fun e u=>(∃ a N c,e= .returned (.tuple #[.slice a N c, .int .i64 0])∧Sts u a N c (spN o.p))∧Below w'.heap.size w' u)
 (hS2:∀ w',Below w.heap.size w w'→Calls Tryz.prog 49 #[.string (str o.q)] w' fun e u=>(∃ a N c,e= .returned (.tuple #[.slice a N c, .int .i64 0])∧Sts u a N c (spN o.q))∧Below w'.heap.size w' u)
 (hP:∀ w',Below w.heap.size w w'→Calls Tryz.prog 66 #[.pointer (some ⟨y,0,none⟩), .string (str o.p), .int .i64 51] w' fun e u=>e= .returned (.tuple #[.int .i64 D, .string (str a), .int .i64 0])∧Below w'.heap.size w' u)
 (hF1:∀ w',Below w.heap.size w w'→Calls Tryz.prog 67 #[.pointer (some ⟨y,0,none⟩), .int .i64 D, .string (str a)] w' fun e u=>e= .returned (.int .i64 0)∧w'=u):
 Calls Tryz.prog 33 #[.pointer (some ⟨y,0,none⟩), .agg (opC o s).toArray] w fun e w'=>RetY e U y Z 40 w w':=by
 have g1':(((spN o.p).length:Int)==0)=false:=by simpa using hn1
 have g2':(((spN o.q).length:Int)==0)=false:=by simpa using hn2
 clear hn1 hn2
 go_enter Tryz.func33,Tryz.ntmps33
 go_wp2_with (first
  | (refine Z05 (by rfl) _ (by rfl) o s (by rfl) ?_;intro g1 w1 z1 z2 r1 b1
     have Bc:=b1
     have v1:=b1.size
     try clear c11
     try clear c12
     have c11:=r1.cell 1 _ rfl
     have c12:=r1.cell 2 _ rfl)
  | (refine Z02 (by rfl) (by rfl) ?_;intro g2 w2 z3 z4 r2 b2
     replace Bc:=Z00q Bc b2 (Nat.le_refl _)
     have v2:=b2.size
     try (replace r1:=r1.later b2)
     try (replace r2:=r2.later b2)
     try (replace S1:=S1.later b2)
     try (replace S2:=S2.later b2)
     try clear c11
     try clear c12
     have c11:=r1.cell 1 _ rfl
     have c12:=r1.cell 2 _ rfl)
  | (go_at_call 49;refine(hS1 _ Bc).mono ?_;clear hS1;rintro e ws1 ⟨⟨a1,N1,cc1,rfl,S1⟩,bs1⟩
     replace Bc:=Z00q Bc bs1 (Nat.le_refl _)
     have vs1:=bs1.size
     try (replace r1:=r1.later bs1)
     try (replace r2:=r2.later bs1)
     try (replace S1:=S1.later bs1)
     try (replace S2:=S2.later bs1)
     try clear c11
     try clear c12
     have c11:=r1.cell 1 _ rfl
     have c12:=r1.cell 2 _ rfl
     have hn1:=S1.len
     subst hn1)
  | (go_at_call 49;refine(hS2 _ Bc).mono ?_;clear hS2;rintro e ws2 ⟨⟨a2,N2,cc2,rfl,S2⟩,bs2⟩
     replace Bc:=Z00q Bc bs2 (Nat.le_refl _)
     have vs2:=bs2.size
     try (replace r1:=r1.later bs2)
     try (replace r2:=r2.later bs2)
     try (replace S1:=S1.later bs2)
     try (replace S2:=S2.later bs2)
     try clear c11
     try clear c12
     have c11:=r1.cell 1 _ rfl
     have c12:=r1.cell 2 _ rfl
     have hn2:=S2.len
     subst hn2)
  | (go_at_call 66;refine(hP _ Bc).mono ?_;clear hP;rintro e wp ⟨rfl,bp⟩
     replace Bc:=Z00q Bc bp (Nat.le_refl _)
     have vp:=bp.size
     try (replace r1:=r1.later bp)
     try (replace r2:=r2.later bp)
     try (replace S1:=S1.later bp)
     try (replace S2:=S2.later bp)
     try clear c11
     try clear c12
     have c11:=r1.cell 1 _ rfl
     have c12:=r1.cell 2 _ rfl)
  | (go_at_call 67;refine(hF1 _ Bc).mono ?_;clear hF1;rintro e u ⟨rfl,rfl⟩)
  | (go_at_call 35;refine(Z0b _ _).mono ?_;rintro e wf ⟨rfl,bf⟩
     replace Bc:=Z00q Bc bf (Nat.le_refl _)
     replace r2:=r2.later bf)
  | (refine Z03 (by rfl) _ _ (by rfl) g2 (by rfl) (anC 40 0 nilV nilV 0 0 0) 40 (Z09 40) (by rfl) _ r2 rfl ?_;intro w9 r9 s9))
 exact bodyPost_ret (Z0a Z06 Tryz.results33 rfl r9 rfl) rfl ⟨anC 40 0 nilV nilV 0 0 0,rfl,Z09 40,Z0e h Bc (by omega) s9⟩
set_option maxHeartbeats 8000000 in
theorem rr_i {w:World} {U:Nat→Prop} {y n:Nat} {Z:Tz} (h:Dx w U y Z) (hz:Z.ok n) (hn:n≤900) (o:Oz) (s:Sv) (hn1:spN o.p≠ []) (hn2:spN o.q≠ []) {D i:Int} {a:List UInt8} (hi:1≤i∧i.toNat < Z.N.length) (hki:(Z.nd i).k=2)
 (hS1:∀ w',Below w.heap.size w w'→Calls Tryz.prog 49 #[.string (str o.p)] w' fun e u=>(∃ a N c,e= .returned (.tuple #[.slice a N c, .int .i64 0])∧Sts u a N c (spN o.p))∧Below w'.heap.size w' u)
 (hS2:∀ w',Below w.heap.size w w'→Calls Tryz.prog 49 #[.string (str o.q)] w' fun e u=>(∃ a N c,e= .returned (.tuple #[.slice a N c, .int .i64 0])∧Sts u a N c (spN o.q))∧Below w'.heap.size w' u)
 (hP:∀ w',Below w.heap.size w w'→Calls Tryz.prog 66 #[.pointer (some ⟨y,0,none⟩), .string (str o.p), .int .i64 51] w' fun e u=>e= .returned (.tuple #[.int .i64 D, .string (str a), .int .i64 0])∧Below w'.heap.size w' u)
 (hF1:∀ w',Below w.heap.size w w'→Calls Tryz.prog 67 #[.pointer (some ⟨y,0,none⟩), .int .i64 D, .string (str a)] w' fun e u=>e= .returned (.int .i64 i)∧w'=u)
 (hI:∀ w' a1 N1 c1 a2 N2 c2,Sts w' a1 N1 c1 (spN o.p)→Sts w' a2 N2 c2 (spN o.q)→Calls Tryz.prog 77 #[.slice a1 N1 c1, .slice a2 N2 c2] w' fun e u=>e= .returned (.bool true)∧Below w'.heap.size w' u):
 Calls Tryz.prog 33 #[.pointer (some ⟨y,0,none⟩), .agg (opC o s).toArray] w fun e w'=>RetY e U y Z 49 w w':=by
 have g1':(((spN o.p).length:Int)==0)=false:=by simpa using hn1
 have g2':(((spN o.q).length:Int)==0)=false:=by simpa using hn2
 clear hn1 hn2
 have hU:=h.low
 obtain⟨fb,r,c,A,F,sd,sn,H,hUU⟩:=h
 obtain⟨ki,rfl⟩:∃ ki:Nat,i=(ki:Int):=⟨i.toNat,by omega⟩
 have hik:ki < Z.N.length:=by simpa using hi.2
 have a7:(ki:Int) < (Z.N.length:Int):=by omega
 have a6:(0:Int)≤(ki:Int):=by omega
 have qi:((ki:Int)==0)=false:=by simp;omega
 go_enter Tryz.func33,Tryz.ntmps33
 go_wp2_with (first
  | (refine Z05 (by rfl) _ (by rfl) o s (by rfl) ?_;intro g1 w1 z1 z2 r1 b1
     have Bc:=b1
     have v1:=b1.size
     try clear c11
     try clear c12
     have c11:=r1.cell 1 _ rfl
     have c12:=r1.cell 2 _ rfl)
  | (refine Z02 (by rfl) (by rfl) ?_;intro g2 w2 z3 z4 r2 b2
     replace Bc:=Z00q Bc b2 (Nat.le_refl _)
     have v2:=b2.size
     try (replace r1:=r1.later b2)
     try (replace r2:=r2.later b2)
     try (replace S1:=S1.later b2)
     try (replace S2:=S2.later b2)
     try clear c11
     try clear c12
     have c11:=r1.cell 1 _ rfl
     have c12:=r1.cell 2 _ rfl)
  | (go_at_call 49;refine(hS1 _ Bc).mono ?_;clear hS1;rintro e ws1 ⟨⟨a1,N1,cc1,rfl,S1⟩,bs1⟩
     replace Bc:=Z00q Bc bs1 (Nat.le_refl _)
     have vs1:=bs1.size
     try (replace r1:=r1.later bs1)
     try (replace r2:=r2.later bs1)
     try (replace S1:=S1.later bs1)
     try (replace S2:=S2.later bs1)
     try clear c11
     try clear c12
     have c11:=r1.cell 1 _ rfl
     have c12:=r1.cell 2 _ rfl
     have hn1:=S1.len
     subst hn1)
  | (go_at_call 49;refine(hS2 _ Bc).mono ?_;clear hS2;rintro e ws2 ⟨⟨a2,N2,cc2,rfl,S2⟩,bs2⟩
     replace Bc:=Z00q Bc bs2 (Nat.le_refl _)
     have vs2:=bs2.size
     try (replace r1:=r1.later bs2)
     try (replace r2:=r2.later bs2)
     try (replace S1:=S1.later bs2)
     try (replace S2:=S2.later bs2)
     try clear c11
     try clear c12
     have c11:=r1.cell 1 _ rfl
     have c12:=r1.cell 2 _ rfl
     have hn2:=S2.len
     subst hn2)
  | (go_at_call 66;refine(hP _ Bc).mono ?_;clear hP;rintro e wp ⟨rfl,bp⟩
     replace Bc:=Z00q Bc bp (Nat.le_refl _)
     have vp:=bp.size
     try (replace r1:=r1.later bp)
     try (replace r2:=r2.later bp)
     try (replace S1:=S1.later bp)
     try (replace S2:=S2.later bp)
     try clear c11
     try clear c12
     have c11:=r1.cell 1 _ rfl
     have c12:=r1.cell 2 _ rfl)
  | (go_at_call 67;refine(hF1 _ Bc).mono ?_;clear hF1;rintro e u ⟨rfl,rfl⟩
     have q0:=(H.later Bc).c0
     have qk:=(H.later Bc).nk hik
     have ql:=(H.later Bc).nl hik
     rw [hki]at qk)
  | (go_at_call 77;refine(hI _ _ _ _ _ _ _ S1 S2).mono ?_;clear hI;rintro e wi ⟨rfl,bi⟩
     replace Bc:=Z00q Bc bi (Nat.le_refl _)
     have vi:=bi.size
     try (replace r1:=r1.later bi)
     try (replace r2:=r2.later bi)
     try (replace S1:=S1.later bi)
     try (replace S2:=S2.later bi)
     try clear c11
     try clear c12
     have c11:=r1.cell 1 _ rfl
     have c12:=r1.cell 2 _ rfl)
  | (go_at_call 35;refine(Z0b _ _).mono ?_;rintro e wf ⟨rfl,bf⟩
     replace Bc:=Z00q Bc bf (Nat.le_refl _)
     replace r2:=r2.later bf)
  | (refine Z03 (by rfl) _ _ (by rfl) g2 (by rfl) (anC 49 0 nilV nilV 0 0 0) 49 (Z09 49) (by rfl) _ r2 rfl ?_;intro w9 r9 s9))
 exact bodyPost_ret (Z0a Z06 Tryz.results33 rfl r9 rfl) rfl ⟨anC 49 0 nilV nilV 0 0 0,rfl,Z09 49,(Z0e ⟨fb,r,c,A,F,sd,sn,H,hUU⟩ Bc (by omega) s9)⟩
end Go.Proofs.YtdnjddpfcgginaaGreat
