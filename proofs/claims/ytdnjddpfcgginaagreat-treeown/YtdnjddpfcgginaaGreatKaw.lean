/-
  Texts of my own, joined: no statement is proved here.
-/
import Derived.Deep.CutBlock
import Derived.Deep.DeepCutAuto
import Derived.Test.YtdnjddpfcgginaaGreatKav
set_option linter.unusedSimpArgs false
set_option linter.unusedVariables false
namespace Go.Proofs.YtdnjddpfcgginaaGreat
open Go.ChangeShapes Go.WideShapes Go.ChangeAt Go.RowKit
set_option maxRecDepth 100000
set_option maxHeartbeats 2000000 in
theorem mo_a {w:World} {g:Nat} {i f:Int} (hb:bits .and .i64 f 4=0):Calls Tryz.prog 95 #[.pointer (some ⟨g,0,none⟩), .int .i64 0, .int .i64 f] w fun e u=>e= .returned (.int .i64 40)∧w=u:=by
 go_enter Tryz.func95,Tryz.ntmps95
 go_wp2
 go_returns
 exact⟨rfl,rfl⟩
set_option maxHeartbeats 2000000 in
theorem mo_b {w:World} {g:Nat} {i f:Int} (hb:bits .and .i64 f 4=4):Calls Tryz.prog 95 #[.pointer (some ⟨g,0,none⟩), .int .i64 0, .int .i64 f] w fun e u=>e= .returned (.int .i64 0)∧w=u:=by
 go_enter Tryz.func95,Tryz.ntmps95
 go_wp2
 go_returns
 exact⟨rfl,rfl⟩
set_option maxHeartbeats 2000000 in
theorem mo_c {w:World} {g:Nat} {i f:Int} (qi:(i==0)=false) (hb:bits .and .i64 f 8=8):Calls Tryz.prog 95 #[.pointer (some ⟨g,0,none⟩), .int .i64 i, .int .i64 f] w fun e u=>e= .returned (.int .i64 41)∧w=u:=by
 go_enter Tryz.func95,Tryz.ntmps95
 go_wp2
 go_returns
 exact⟨rfl,rfl⟩
set_option maxHeartbeats 2000000 in
theorem mo_d {w:World} {g:Nat} {i f:Int} (qi:(i==0)=false) (hb:bits .and .i64 f 8=0)
 (hD:Calls Tryz.prog 104 #[.pointer (some ⟨g,0,none⟩), .int .i64 i] w fun e u=>e= .returned (.bool true)∧w=u):Calls Tryz.prog 95 #[.pointer (some ⟨g,0,none⟩), .int .i64 i, .int .i64 f] w fun e u=>e= .returned (.int .i64 43)∧w=u:=by
 go_enter Tryz.func95,Tryz.ntmps95
 go_wp2_with (go_at_call 104;refine hD.mono ?_;rintro e u ⟨rfl,rfl⟩)
 go_returns
 exact⟨rfl,rfl⟩
set_option maxHeartbeats 2000000 in
theorem mo_e {w:World} {g:Nat} {i f:Int} (qi:(i==0)=false) (hb:bits .and .i64 f 8=0)
 (hD:Calls Tryz.prog 104 #[.pointer (some ⟨g,0,none⟩), .int .i64 i] w fun e u=>e= .returned (.bool false)∧w=u):Calls Tryz.prog 95 #[.pointer (some ⟨g,0,none⟩), .int .i64 i, .int .i64 f] w fun e u=>e= .returned (.int .i64 0)∧w=u:=by
 go_enter Tryz.func95,Tryz.ntmps95
 go_wp2_with (go_at_call 104;refine hD.mono ?_;rintro e u ⟨rfl,rfl⟩)
 go_returns
 exact⟨rfl,rfl⟩
def Tz.moE (Z:Tz) (i f:Int):Int:=if i=0 then(if f / 4 % 2=0 then 40 else 0)else(if f / 8 % 2=1 then 41 else if (Z.nd i).k=2 then 43 else 0)
theorem Zfn (Z:Tz) (i f:Int):Z.opF i f=if Z.moE i f=0 then(if fdFr Z.t=8 then 47 else 0)else Z.moE i f:=by
 unfold Tz.opF Tz.moE
 split<;>split<;>(try split)<;>simp_all
theorem Z8n {w:World} {U:Nat→Prop} {g B m n:Nat} {q:Int→Nat} {Z:Tz} {x:Int→Int} (h:Tx w U g q B Z) (hz:Z.okD m n x) (hm:m≤1000) {i f:Int} (hf:0≤f∧f≤31) (hi:i=0∨(Z.nd i).k≠0):
 Calls Tryz.prog 95 #[.pointer (some ⟨g,0,none⟩), .int .i64 i, .int .i64 f] w fun e w'=>e= .returned (.int .i64 (Z.moE i f))∧w=w':=by
 have F:=Z9u hf
 have F4:=F.b4
 have F8:=F.b8
 unfold Tz.moE
 by_cases h1:i=0
 · subst h1
   rw [if_pos rfl]
   by_cases h2:f / 4 % 2=0
   · rw [if_neg (by omega)]at F4
     rw [if_pos h2];exact mo_a (i:=0) F4
   · rw [if_pos (by omega)]at F4
     rw [if_neg h2];exact mo_b (i:=0) F4
 · have hk:=hi.resolve_left h1
   have hD:=Z1u h hz hm hk
   have qi:(i==0)=false:=by simpa using h1
   rw [if_neg h1]
   by_cases h2:f / 8 % 2=1
   · rw [if_pos h2]at F8 ⊢;exact mo_c qi F8
   · rw [if_neg h2]at F8 ⊢
     by_cases h3:(Z.nd i).k=2
     · rw [if_pos h3];rw [decide_eq_true h3]at hD;exact mo_d qi F8 hD
     · rw [if_neg h3];rw [decide_eq_false h3]at hD;exact mo_e qi F8 hD
set_option maxRecDepth 100000
set_option maxHeartbeats 2000000 in
theorem Z8m (f:Int) (hw:wfi f) (w:World):Calls Tryz.prog 93 #[.int .i64 f] w fun e w'=>e= .returned (.bool (flOk f))∧Below w.heap.size w w':=by
 have hR:Hid (flOk f=flB (bits .and .i64 f (-32)) (bits .and .i64 f 3) (bits .and .i64 f 8) (bits .and .i64 f 4) (bits .and .i64 f 16) (bits .and .i64 f 2)):=(Zf0 hw).symm
 obtain⟨v,hv⟩:∃ v,Hid (flOk f=v):=⟨_,rfl⟩
 rw [hv.out]
 have hR2:=hR.out
 rw [hv.out]at hR2
 obtain⟨a,ha⟩:∃ a,bits .and .i64 f (-32)=a:=⟨_,rfl⟩
 obtain⟨b3,hb3⟩:∃ a,bits .and .i64 f 3=a:=⟨_,rfl⟩
 obtain⟨b8,hb8⟩:∃ a,bits .and .i64 f 8=a:=⟨_,rfl⟩
 obtain⟨b4,hb4⟩:∃ a,bits .and .i64 f 4=a:=⟨_,rfl⟩
 obtain⟨b16,hb16⟩:∃ a,bits .and .i64 f 16=a:=⟨_,rfl⟩
 obtain⟨b2,hb2⟩:∃ a,bits .and .i64 f 2=a:=⟨_,rfl⟩
 rw [ha,hb3,hb8,hb4,hb16,hb2]at hR2
 unfold flB at hR2
 clear hR hv
 have hR3:Hid _:=hR2
 clear hR2
 by_cases h1:a=0
 · rw [h1]at ha
   by_cases h2:b3=0
   · rw [h2]at hb3
     go_enter Tryz.func93,Tryz.ntmps93
     go_wp2_with go_in
     go_returns
     exact⟨by rw [hR3.out,h1,h2];simp,by go_grown⟩
   · by_cases h3:b8=0
     · rw [h3]at hb8
       by_cases h5:b16=0
       · rw [h5]at hb16
         have qb3:(b3 != 0)=true:=by simp [h2]
         go_enter Tryz.func93,Tryz.ntmps93
         go_wp2_with go_in
         go_returns
         exact⟨by rw [hR3.out,h1,h3,h5];simp [h2],by go_grown⟩
       · by_cases h6:b2=0
         · rw [h6]at hb2
           have qb3:(b3 != 0)=true:=by simp [h2]
           have qb16:(b16 != 0)=true:=by simp [h5]
           go_enter Tryz.func93,Tryz.ntmps93
           go_wp2_with go_in
           go_returns
           exact⟨by rw [hR3.out,h1,h3,h6];simp [h2,h5],by go_grown⟩
         · have qb3:(b3 != 0)=true:=by simp [h2]
           have qb16:(b16 != 0)=true:=by simp [h5]
           have qb2:(b2 != 0)=true:=by simp [h6]
           go_enter Tryz.func93,Tryz.ntmps93
           go_wp2_with go_in
           go_returns
           exact⟨by rw [hR3.out,h1,h3];simp [h2,h5,h6],by go_grown⟩
     · by_cases h4:b4=0
       · rw [h4]at hb4
         have qb3:(b3 != 0)=true:=by simp [h2]
         have qb8:(b8 != 0)=true:=by simp [h3]
         go_enter Tryz.func93,Tryz.ntmps93
         go_wp2_with go_in
         go_returns
         exact⟨by rw [hR3.out,h1,h4];simp [h2,h3],by go_grown⟩
       · by_cases h5:b16=0
         · rw [h5]at hb16
           have qb3:(b3 != 0)=true:=by simp [h2]
           have qb8:(b8 != 0)=true:=by simp [h3]
           have qb4:(b4 != 0)=true:=by simp [h4]
           go_enter Tryz.func93,Tryz.ntmps93
           go_wp2_with go_in
           go_returns
           exact⟨by rw [hR3.out,h1,h5];simp [h2,h3,h4],by go_grown⟩
         · by_cases h6:b2=0
           · rw [h6]at hb2
             have qb3:(b3 != 0)=true:=by simp [h2]
             have qb8:(b8 != 0)=true:=by simp [h3]
             have qb4:(b4 != 0)=true:=by simp [h4]
             have qb16:(b16 != 0)=true:=by simp [h5]
             go_enter Tryz.func93,Tryz.ntmps93
             go_wp2_with go_in
             go_returns
             exact⟨by rw [hR3.out,h1,h6];simp [h2,h3,h4,h5],by go_grown⟩
           · have qb3:(b3 != 0)=true:=by simp [h2]
             have qb8:(b8 != 0)=true:=by simp [h3]
             have qb4:(b4 != 0)=true:=by simp [h4]
             have qb16:(b16 != 0)=true:=by simp [h5]
             have qb2:(b2 != 0)=true:=by simp [h6]
             go_enter Tryz.func93,Tryz.ntmps93
             go_wp2_with go_in
             go_returns
             exact⟨by rw [hR3.out,h1];simp [h2,h3,h4,h5,h6],by go_grown⟩
 · have qa:(a != 0)=true:=by simp [h1]
   go_enter Tryz.func93,Tryz.ntmps93
   go_wp2_with go_in
   go_returns
   exact⟨by rw [hR3.out];simp [h1],by go_grown⟩
set_option maxRecDepth 100000
set_option maxHeartbeats 8000000 in
theorem op0 {w:World} {g:Nat} {o:Oz} {s:Sv} {U:Nat→Prop} {q:Int→Nat} {B:Nat} {Z Z':Tz} (h:Tx w U g q B Z)
 (hF:∀ w',Below w.heap.size w w'→Calls Tryz.prog 93 #[.int .i64 o.fl] w' fun e u=>e= .returned (.bool false)∧Below w'.heap.size w' u):
 Calls Tryz.prog 52 #[.pointer (some ⟨g,0,none⟩), .agg (opC o s).toArray] w fun e w'=>Ret e U g B Z Z' 2 w w':=by
 have hne:(2:Int)≠0:=by decide
 go_enter Tryz.func52,Tryz.ntmps52
 go_wp2_with (first
  | (refine Z05 (by rfl) _ (by rfl) o s (by rfl) ?_;intro g1 w1 z1 z2 r1 b1
     have Bc:=b1
     have v1:=b1.size
     try clear c11
     try clear c16
     try clear d2
     have c11:=r1.cell 1 _ rfl
     have c16:=r1.cell 6 _ rfl
     try (have d2:=r3.cell 2 _ rfl))
  | (refine Z02 (by rfl) (by rfl) ?_;intro g2 w2 z3 z4 r2 b2
     replace Bc:=Z00q Bc b2 (Nat.le_refl _)
     have v2:=b2.size
     try (replace r1:=r1.later b2)
     try (replace r2:=r2.later b2)
     try (replace r3:=r3.later b2)
     try clear c11
     try clear c16
     try clear d2
     have c11:=r1.cell 1 _ rfl
     have c16:=r1.cell 6 _ rfl
     try (have d2:=r3.cell 2 _ rfl))
  | (go_at_call 93;refine(hF _ Bc).mono ?_;rintro e wm1 ⟨rfl,bm1⟩;clear hF
     replace Bc:=Z00q Bc bm1 (Nat.le_refl _)
     have vm1:=bm1.size
     try (replace r1:=r1.later bm1)
     try (replace r2:=r2.later bm1)
     try (replace r3:=r3.later bm1)
     try clear c11
     try clear c16
     try clear d2
     have c11:=r1.cell 1 _ rfl
     have c16:=r1.cell 6 _ rfl
     try (have d2:=r3.cell 2 _ rfl))
  | (refine Z03 (by rfl) _ _ (by rfl) g2 (by rfl) anZ 0 Z0c (by rfl) _ r2 rfl ?_;intro w9 r9 s9))
 exact bodyPost_ret (Z0d Z06 Tryz.results52 rfl rfl r9 rfl) rfl (Z0q hne (TxG.same h Bc (by omega) s9))
set_option maxHeartbeats 8000000 in
theorem op1 {w:World} {g:Nat} {o:Oz} {s:Sv} {U:Nat→Prop} {q:Int→Nat} {B:Nat} {Z Z':Tz} (h:Tx w U g q B Z) {d:Option Nat} {a:List UInt8} {c E:Int} (hne:E≠0)
 (hF:∀ w',Below w.heap.size w w'→Calls Tryz.prog 93 #[.int .i64 o.fl] w' fun e u=>e= .returned (.bool true)∧Below w'.heap.size w' u)
 (hP:∀ w',Below w.heap.size w w'→Calls Tryz.prog 94 #[.pointer (some ⟨g,0,none⟩), .string (str o.p), .int .i64 43] w' fun e u=>e= .returned (.tuple #[.agg (spC d a c).toArray, .int .i64 E])∧Below w'.heap.size w' u):
 Calls Tryz.prog 52 #[.pointer (some ⟨g,0,none⟩), .agg (opC o s).toArray] w fun e w'=>Ret e U g B Z Z' E w w':=by
 have qE:(E != 0)=true:=by simpa using hne
 go_enter Tryz.func52,Tryz.ntmps52
 go_wp2_with (first
  | (refine Z05 (by rfl) _ (by rfl) o s (by rfl) ?_;intro g1 w1 z1 z2 r1 b1
     have Bc:=b1
     have v1:=b1.size
     try clear c11
     try clear c16
     try clear d2
     have c11:=r1.cell 1 _ rfl
     have c16:=r1.cell 6 _ rfl
     try (have d2:=r3.cell 2 _ rfl))
  | (refine Z02 (by rfl) (by rfl) ?_;intro g2 w2 z3 z4 r2 b2
     replace Bc:=Z00q Bc b2 (Nat.le_refl _)
     have v2:=b2.size
     try (replace r1:=r1.later b2)
     try (replace r2:=r2.later b2)
     try (replace r3:=r3.later b2)
     try clear c11
     try clear c16
     try clear d2
     have c11:=r1.cell 1 _ rfl
     have c16:=r1.cell 6 _ rfl
     try (have d2:=r3.cell 2 _ rfl))
  | (go_at_call 93;refine(hF _ Bc).mono ?_;rintro e wm1 ⟨rfl,bm1⟩;clear hF
     replace Bc:=Z00q Bc bm1 (Nat.le_refl _)
     have vm1:=bm1.size
     try (replace r1:=r1.later bm1)
     try (replace r2:=r2.later bm1)
     try (replace r3:=r3.later bm1)
     try clear c11
     try clear c16
     try clear d2
     have c11:=r1.cell 1 _ rfl
     have c16:=r1.cell 6 _ rfl
     try (have d2:=r3.cell 2 _ rfl))
  | (go_at_call 94;refine(hP _ Bc).mono ?_;rintro e wm2 ⟨rfl,bm2⟩;clear hP
     replace Bc:=Z00q Bc bm2 (Nat.le_refl _)
     have vm2:=bm2.size
     try (replace r1:=r1.later bm2)
     try (replace r2:=r2.later bm2)
     try (replace r3:=r3.later bm2)
     try clear c11
     try clear c16
     try clear d2
     have c11:=r1.cell 1 _ rfl
     have c16:=r1.cell 6 _ rfl
     try (have d2:=r3.cell 2 _ rfl))
  | (refine Z08 (by rfl) (by rfl) ?_;intro g3 wa z5 z6 r3 b5
     replace Bc:=Z00q Bc b5 (Nat.le_refl _)
     have v5:=b5.size
     try (replace r1:=r1.later b5)
     try (replace r2:=r2.later b5)
     try (replace r3:=r3.later b5)
     try clear c11
     try clear c16
     try clear d2
     have c11:=r1.cell 1 _ rfl
     have c16:=r1.cell 6 _ rfl
     try (have d2:=r3.cell 2 _ rfl))
  | (refine Z09 (by rfl) _ _ (by rfl) g3 (by rfl) d a c (by rfl) _ r3 rfl ?_;intro w5 q5 s5
     replace r3:=q5
     have v6:=s5.size
     replace Bc:=((Stp.of_below Bc (fun _=>False)).next s5 (fun y e=> .inr (by omega))).below (Nat.le_refl _) (fun y e=>e.elim)
     try (replace r1:=r1.step s5 (fun e=>by omega))
     try (replace r2:=r2.step s5 (fun e=>by omega))
     try clear c11
     try clear c16
     try clear d2
     have c11:=r1.cell 1 _ rfl
     have c16:=r1.cell 6 _ rfl
     try (have d2:=r3.cell 2 _ rfl))
  | (refine Z03 (by rfl) _ _ (by rfl) g2 (by rfl) anZ 0 Z0c (by rfl) _ r2 rfl ?_;intro w9 r9 s9))
 exact bodyPost_ret (Z0d Z06 Tryz.results52 rfl rfl r9 rfl) rfl (Z0q hne (TxG.same h Bc (by omega) s9))
set_option maxHeartbeats 8000000 in
theorem op2 {w:World} {g:Nat} {o:Oz} {s:Sv} {U:Nat→Prop} {q:Int→Nat} {B:Nat} {Z Z':Tz} (h:Tx w U g q B Z) {d:Option Nat} {a:List UInt8} {c E:Int} (hne:E≠0)
 (hF:∀ w',Below w.heap.size w w'→Calls Tryz.prog 93 #[.int .i64 o.fl] w' fun e u=>e= .returned (.bool true)∧Below w'.heap.size w' u)
 (hP:∀ w',Below w.heap.size w w'→Calls Tryz.prog 94 #[.pointer (some ⟨g,0,none⟩), .string (str o.p), .int .i64 43] w' fun e u=>e= .returned (.tuple #[.agg (spC d a c).toArray, .int .i64 0])∧Below w'.heap.size w' u)
 (hO:∀ w',Below w.heap.size w w'→Calls Tryz.prog 95 #[.pointer (some ⟨g,0,none⟩), .int .i64 c, .int .i64 o.fl] w' fun e u=>e= .returned (.int .i64 E)∧w'=u):
 Calls Tryz.prog 52 #[.pointer (some ⟨g,0,none⟩), .agg (opC o s).toArray] w fun e w'=>Ret e U g B Z Z' E w w':=by
 have qE:(E != 0)=true:=by simpa using hne
 go_enter Tryz.func52,Tryz.ntmps52
 go_wp2_with (first
  | (refine Z05 (by rfl) _ (by rfl) o s (by rfl) ?_;intro g1 w1 z1 z2 r1 b1
     have Bc:=b1
     have v1:=b1.size
     try clear c11
     try clear c16
     try clear d2
     have c11:=r1.cell 1 _ rfl
     have c16:=r1.cell 6 _ rfl
     try (have d2:=r3.cell 2 _ rfl))
  | (refine Z02 (by rfl) (by rfl) ?_;intro g2 w2 z3 z4 r2 b2
     replace Bc:=Z00q Bc b2 (Nat.le_refl _)
     have v2:=b2.size
     try (replace r1:=r1.later b2)
     try (replace r2:=r2.later b2)
     try (replace r3:=r3.later b2)
     try clear c11
     try clear c16
     try clear d2
     have c11:=r1.cell 1 _ rfl
     have c16:=r1.cell 6 _ rfl
     try (have d2:=r3.cell 2 _ rfl))
  | (go_at_call 93;refine(hF _ Bc).mono ?_;rintro e wm1 ⟨rfl,bm1⟩;clear hF
     replace Bc:=Z00q Bc bm1 (Nat.le_refl _)
     have vm1:=bm1.size
     try (replace r1:=r1.later bm1)
     try (replace r2:=r2.later bm1)
     try (replace r3:=r3.later bm1)
     try clear c11
     try clear c16
     try clear d2
     have c11:=r1.cell 1 _ rfl
     have c16:=r1.cell 6 _ rfl
     try (have d2:=r3.cell 2 _ rfl))
  | (go_at_call 94;refine(hP _ Bc).mono ?_;rintro e wm2 ⟨rfl,bm2⟩;clear hP
     replace Bc:=Z00q Bc bm2 (Nat.le_refl _)
     have vm2:=bm2.size
     try (replace r1:=r1.later bm2)
     try (replace r2:=r2.later bm2)
     try (replace r3:=r3.later bm2)
     try clear c11
     try clear c16
     try clear d2
     have c11:=r1.cell 1 _ rfl
     have c16:=r1.cell 6 _ rfl
     try (have d2:=r3.cell 2 _ rfl))
  | (refine Z08 (by rfl) (by rfl) ?_;intro g3 wa z5 z6 r3 b5
     replace Bc:=Z00q Bc b5 (Nat.le_refl _)
     have v5:=b5.size
     try (replace r1:=r1.later b5)
     try (replace r2:=r2.later b5)
     try (replace r3:=r3.later b5)
     try clear c11
     try clear c16
     try clear d2
     have c11:=r1.cell 1 _ rfl
     have c16:=r1.cell 6 _ rfl
     try (have d2:=r3.cell 2 _ rfl))
  | (refine Z09 (by rfl) _ _ (by rfl) g3 (by rfl) d a c (by rfl) _ r3 rfl ?_;intro w5 q5 s5
     replace r3:=q5
     have v6:=s5.size
     replace Bc:=((Stp.of_below Bc (fun _=>False)).next s5 (fun y e=> .inr (by omega))).below (Nat.le_refl _) (fun y e=>e.elim)
     try (replace r1:=r1.step s5 (fun e=>by omega))
     try (replace r2:=r2.step s5 (fun e=>by omega))
     try clear c11
     try clear c16
     try clear d2
     have c11:=r1.cell 1 _ rfl
     have c16:=r1.cell 6 _ rfl
     try (have d2:=r3.cell 2 _ rfl))
  | (go_at_call 95;refine(hO _ Bc).mono ?_;rintro e u ⟨rfl,rfl⟩;clear hO)
  | (refine Z03 (by rfl) _ _ (by rfl) g2 (by rfl) anZ 0 Z0c (by rfl) _ r2 rfl ?_;intro w9 r9 s9))
 exact bodyPost_ret (Z0d Z06 Tryz.results52 rfl rfl r9 rfl) rfl (Z0q hne (TxG.same h Bc (by omega) s9))
set_option maxHeartbeats 8000000 in
theorem op3 {w:World} {g:Nat} {o:Oz} {s:Sv} {U:Nat→Prop} {q:Int→Nat} {B:Nat} {Z Z':Tz} (h:Tx w U g q B Z) {d:Option Nat} {a:List UInt8} {c:Int} (hf8:decide ((fdFr Z.t:Int)=8)=true)
 (hF:∀ w',Below w.heap.size w w'→Calls Tryz.prog 93 #[.int .i64 o.fl] w' fun e u=>e= .returned (.bool true)∧Below w'.heap.size w' u)
 (hP:∀ w',Below w.heap.size w w'→Calls Tryz.prog 94 #[.pointer (some ⟨g,0,none⟩), .string (str o.p), .int .i64 43] w' fun e u=>e= .returned (.tuple #[.agg (spC d a c).toArray, .int .i64 0])∧Below w'.heap.size w' u)
 (hO:∀ w',Below w.heap.size w w'→Calls Tryz.prog 95 #[.pointer (some ⟨g,0,none⟩), .int .i64 c, .int .i64 o.fl] w' fun e u=>e= .returned (.int .i64 0)∧w'=u):
 Calls Tryz.prog 52 #[.pointer (some ⟨g,0,none⟩), .agg (opC o s).toArray] w fun e w'=>Ret e U g B Z Z' 47 w w':=by
 have hne:(47:Int)≠0:=by decide
 go_enter Tryz.func52,Tryz.ntmps52
 go_wp2_with (first
  | (refine Z05 (by rfl) _ (by rfl) o s (by rfl) ?_;intro g1 w1 z1 z2 r1 b1
     have Bc:=b1
     have v1:=b1.size
     try clear c11
     try clear c16
     try clear d2
     have c11:=r1.cell 1 _ rfl
     have c16:=r1.cell 6 _ rfl
     try (have d2:=r3.cell 2 _ rfl))
  | (refine Z02 (by rfl) (by rfl) ?_;intro g2 w2 z3 z4 r2 b2
     replace Bc:=Z00q Bc b2 (Nat.le_refl _)
     have v2:=b2.size
     try (replace r1:=r1.later b2)
     try (replace r2:=r2.later b2)
     try (replace r3:=r3.later b2)
     try clear c11
     try clear c16
     try clear d2
     have c11:=r1.cell 1 _ rfl
     have c16:=r1.cell 6 _ rfl
     try (have d2:=r3.cell 2 _ rfl))
  | (go_at_call 93;refine(hF _ Bc).mono ?_;rintro e wm1 ⟨rfl,bm1⟩;clear hF
     replace Bc:=Z00q Bc bm1 (Nat.le_refl _)
     have vm1:=bm1.size
     try (replace r1:=r1.later bm1)
     try (replace r2:=r2.later bm1)
     try (replace r3:=r3.later bm1)
     try clear c11
     try clear c16
     try clear d2
     have c11:=r1.cell 1 _ rfl
     have c16:=r1.cell 6 _ rfl
     try (have d2:=r3.cell 2 _ rfl))
  | (go_at_call 94;refine(hP _ Bc).mono ?_;rintro e wm2 ⟨rfl,bm2⟩;clear hP
     replace Bc:=Z00q Bc bm2 (Nat.le_refl _)
     have vm2:=bm2.size
     try (replace r1:=r1.later bm2)
     try (replace r2:=r2.later bm2)
     try (replace r3:=r3.later bm2)
     try clear c11
     try clear c16
     try clear d2
     have c11:=r1.cell 1 _ rfl
     have c16:=r1.cell 6 _ rfl
     try (have d2:=r3.cell 2 _ rfl))
  | (refine Z08 (by rfl) (by rfl) ?_;intro g3 wa z5 z6 r3 b5
     replace Bc:=Z00q Bc b5 (Nat.le_refl _)
     have v5:=b5.size
     try (replace r1:=r1.later b5)
     try (replace r2:=r2.later b5)
     try (replace r3:=r3.later b5)
     try clear c11
     try clear c16
     try clear d2
     have c11:=r1.cell 1 _ rfl
     have c16:=r1.cell 6 _ rfl
     try (have d2:=r3.cell 2 _ rfl))
  | (refine Z09 (by rfl) _ _ (by rfl) g3 (by rfl) d a c (by rfl) _ r3 rfl ?_;intro w5 q5 s5
     replace r3:=q5
     have v6:=s5.size
     replace Bc:=((Stp.of_below Bc (fun _=>False)).next s5 (fun y e=> .inr (by omega))).below (Nat.le_refl _) (fun y e=>e.elim)
     try (replace r1:=r1.step s5 (fun e=>by omega))
     try (replace r2:=r2.step s5 (fun e=>by omega))
     try clear c11
     try clear c16
     try clear d2
     have c11:=r1.cell 1 _ rfl
     have c16:=r1.cell 6 _ rfl
     try (have d2:=r3.cell 2 _ rfl)
     obtain⟨tg,mb,ob,nb,sv,H,hU1⟩:=h.later Bc
     have t2:=H.c2
     obtain⟨V,hV1,hV2⟩:=H.fd
     have hL:=Z6w hV1
     rw [hf8]at hL)
  | (go_at_call 95;refine(hO _ Bc).mono ?_;rintro e u ⟨rfl,rfl⟩;clear hO)
  | (go_at_call 96;refine hL.mono ?_;rintro e u ⟨rfl,rfl⟩)
  | (refine Z03 (by rfl) _ _ (by rfl) g2 (by rfl) anZ 0 Z0c (by rfl) _ r2 rfl ?_;intro w9 r9 s9))
 exact bodyPost_ret (Z0d Z06 Tryz.results52 rfl rfl r9 rfl) rfl (Z0q hne (TxG.same h Bc (by omega) s9))
set_option maxRecDepth 100000
theorem Zc8 {t:FT} {fd:Int} (h:Z04 t fd=46):Z12 t fd=t:=by
 unfold Z04 at h
 unfold Z12
 cases hh:Z0u t fd with
 | none=>rfl
 | some f=>rw [hh]at h;cases h
theorem Z2j {w:World} {U:Nat→Prop} {g B n:Nat} {q:Int→Nat} {Z:Tz} (h:Tx w U g q B Z) (hz:Z.ok n) (hn:n≤900) (hB:B≤900) (o:Oz) (ho:o.wfo) (s:Sv):
 Calls Tryz.prog 53 #[.pointer (some ⟨g,0,none⟩), .agg (opC o s).toArray] w fun e w'=>Ret e U g B Z (Z.clS o) (Z04 Z.t o.fd) w w':=by
 have hm:n+2≤1000:=by omega
 have hU:=h.low
 have hgE:=Z1q Z.t o.fd
 go_enter Tryz.func53,Tryz.ntmps53
 go_upto_region 1 with(first
  | (refine Z05 (by rfl) _ (by rfl) o s (by rfl) ?_;intro g1 w1 z1 z2 r1 b1
     have c10:=r1.cell 0 _ rfl
     have c11:=r1.cell 1 _ rfl
     have c12:=r1.cell 2 _ rfl
     have c13:=r1.cell 3 _ rfl
     have c14:=r1.cell 4 _ rfl
     have c15:=r1.cell 5 _ rfl
     have c16:=r1.cell 6 _ rfl)
  | (refine Z02 (by rfl) (by rfl) ?_;intro g2 w2 z3 z4 r2 b2
     have B2:=Z00q b1 b2 (Nat.le_refl _)
     have r12:=r1.later b2
     clear c10 c11 c12 c13 c14 c15 c16
     have c10:=r12.cell 0 _ rfl
     have c11:=r12.cell 1 _ rfl
     have c12:=r12.cell 2 _ rfl
     have c13:=r12.cell 3 _ rfl
     have c14:=r12.cell 4 _ rfl
     have c15:=r12.cell 5 _ rfl
     have c16:=r12.cell 6 _ rfl))
 go_cut [6,7] (fun u v wx=>∃ g6 U1,u= .pointer (some ⟨g6,0,none⟩)∧v= .int .i64 (Z04 Z.t o.fd)∧Cs wx g6 (Z01 Z.t o.fd).cs∧w2.heap.size≤g6∧Tx wx U1 g q B (Z.fds (Z12 Z.t o.fd))∧¬U1 g6∧Stp U w2 wx∧Grew U U1 w2 wx)
 case first=>
  obtain⟨tg,mb,ob,nb,sv,Hc,hU2⟩:=h.later B2
  have n1:¬tg g1≠0:=fun e=>by have:=hU g1 ((hU2 g1).2 e);omega
  refine wp_region_held_drew (S:=fun u=>u.cell? ⟨g,2,none⟩=some (.pointer (some ⟨ob,0,none⟩))∧Stp (fun y=>tg y≠0) w2 u∧u.cell? ⟨g1,3,none⟩=some (.int .i64 o.fd)) (by kernel_rfl) ⟨Hc.c2,(Stp.refl _ _).drew,r12.cell 3 _ rfl⟩ (fun hHeld=>?_)
  replace Hc:=Hc.later (show Below w2.heap.size w2 w2.drew from(Below.refl _ _).drew)
  have r1c:=r12.later (show Below w2.heap.size w2 w2.drew from(Below.refl _ _).drew)
  refine tl 0 (.pointer (some ⟨g,0,none⟩)) rfl ?_
  try simp only [z]
  refine tl 1 (.pointer (some ⟨g,0,none⟩)) rfl ?_
  try simp only [z]
  refine tl 2 (.pointer (some ⟨g,2,none⟩)) rfl ?_
  try simp only [z]
  refine tl 3 (.pointer (some ⟨ob,0,none⟩)) rfl ?_ (fun u hu=>by have x1:=hu.1;go_simp)
  try simp only [z]
  refine tl 4 (.pointer (some ⟨g1,3,none⟩)) rfl ?_
  try simp only [z]
  refine tl 5 (.int .i64 o.fd) rfl ?_ (fun u hu=>by have x1:=hu.2.2;go_simp)
  try simp only [z]
  refine wpAnyH_ready (rs:= [6,10]) (by kernel_rfl) (by simp) ?_
  refine(AllReadyH.cons (o:=⟨some 15, .call { callee:=Callee.value (.func 100),args:=#[.tmp 12, .tmp 14],argTypes:=#[51,3]},109,_,#[⟨3, .data⟩,⟨5, .data⟩],none⟩) rfl (fun K hK=>?_) (AllReadyH.cons (o:=⟨some 6, .alloc 108,0,_,#[],none⟩) rfl (fun K hK=>?_) AllReadyH.nil))
  · skip
    go_simp
    have zH:=hHeld.2.1.size
    refine(Zbq Hc o.fd).mono ?_
    rintro e wS ⟨rfl,tS,HS,sS,gS⟩
    try go_wp2_with fail
    have r1c:=r1c.step sS n1
    have zS:=sS.size
    have lS:=HS.low
    try (have nS:¬tS g6≠0:=fun e=>by rcases gS g6 e with c | c;exact n6 c;omega)
    try (have p6:=p6.step sS n6)
    refine hK.out _ _ (⟨HS.c2,hHeld.2.1.trans sS,r1c.cell 3 _ rfl⟩) (fun hHeld=>?_)
    clear hK K
    try simp only [z]
    refine tl 7 (.tuple #[.agg (Z01 Z.t o.fd).cs.toArray, .int .i64 (Z04 Z.t o.fd)]) rfl ?_
    try simp only [z]
    refine tl 8 (.agg (Z01 Z.t o.fd).cs.toArray) rfl ?_
    try simp only [z]
    refine tl 9 (.int .i64 (Z04 Z.t o.fd)) rfl ?_
    try simp only [z]
    refine rd 10 rfl (fun K hK=>?_)
    have zH:=hHeld.2.1.size
    refine Z2p rfl (by rfl) ?_
    intro g6 w10 y6 y7 p6 b10
    have m6:w2.heap.size≤g6:=by omega
    have z10:=b10.size
    have r1c:=r1c.later b10
    have n6:¬tg g6≠0:=fun e=>by have:=hU g6 ((hU2 g6).2 e);have:=B2.size;omega
    try (have nS:¬tS g6≠0:=fun e=>by have:=lS g6 e;omega)
    try (replace Hc:=Hc.later b10)
    try (replace HS:=HS.later b10)
    refine hK.out _ _ (⟨by first | exact HS.c2 | exact Hc.c2,hHeld.2.1.trans (Stp.of_below b10 _),r1c.cell 3 _ rfl⟩) (fun hHeld=>?_)
    clear hK K
    try simp only [z]
    refine rd 11 rfl (fun K hK=>?_)
    refine Z2q rfl _ _ (by rfl) g6 (by rfl) (Z01 Z.t o.fd) (by rfl) _ p6 rfl ?_
    intro w11 p11 s11
    replace HS:=HS.step s11 (fun y hy e=>nS (e▸hy))
    have r1c:=r1c.step s11 (fun e=>by omega)
    have z11:=s11.size
    refine hK.out _ _ (⟨HS.c2,hHeld.2.1.next s11 (fun y e=> .inr (by omega)),r1c.cell 3 _ rfl⟩) (fun hHeld=>?_)
    clear hK K
    try simp only [Act.put]
    refine tl 12 (.int .i64 (Z04 Z.t o.fd)) rfl ?_
    try simp only [z]
    refine wpAnyH_done (by kernel_rfl) ?_ _
    go_wp2_with fail
    go_meet
    exact⟨g6,_,rfl,rfl,p11,m6,⟨tS,mb,ob,nb,sv,HS,fun y=>Iff.rfl⟩,nS,hHeld.2.1.mono (fun y e=> .inl ((hU2 y).2 e)),fun y hy=>by rcases gS y hy with c | c;exact .inl ((hU2 y).2 c);exact .inr ⟨by omega,HS.low y hy⟩⟩
  · skip
    have zH:=hHeld.2.1.size
    refine Z2p rfl (by rfl) ?_
    intro g6 w10 y6 y7 p6 b10
    have m6:w2.heap.size≤g6:=by omega
    have z10:=b10.size
    have r1c:=r1c.later b10
    have n6:¬tg g6≠0:=fun e=>by have:=hU g6 ((hU2 g6).2 e);have:=B2.size;omega
    try (have nS:¬tS g6≠0:=fun e=>by have:=lS g6 e;omega)
    try (replace Hc:=Hc.later b10)
    try (replace HS:=HS.later b10)
    refine hK.out _ _ (⟨by first | exact HS.c2 | exact Hc.c2,hHeld.2.1.trans (Stp.of_below b10 _),r1c.cell 3 _ rfl⟩) (fun hHeld=>?_)
    clear hK K
    try simp only [z]
    refine rd 6 rfl (fun K hK=>?_)
    go_simp
    have zH:=hHeld.2.1.size
    refine(Zbq Hc o.fd).mono ?_
    rintro e wS ⟨rfl,tS,HS,sS,gS⟩
    try go_wp2_with fail
    have r1c:=r1c.step sS n1
    have zS:=sS.size
    have lS:=HS.low
    try (have nS:¬tS g6≠0:=fun e=>by rcases gS g6 e with c | c;exact n6 c;omega)
    try (have p6:=p6.step sS n6)
    refine hK.out _ _ (⟨HS.c2,hHeld.2.1.trans sS,r1c.cell 3 _ rfl⟩) (fun hHeld=>?_)
    clear hK K
    try simp only [z]
    refine tl 7 (.tuple #[.agg (Z01 Z.t o.fd).cs.toArray, .int .i64 (Z04 Z.t o.fd)]) rfl ?_
    try simp only [z]
    refine tl 8 (.agg (Z01 Z.t o.fd).cs.toArray) rfl ?_
    try simp only [z]
    refine tl 9 (.int .i64 (Z04 Z.t o.fd)) rfl ?_
    try simp only [z]
    refine rd 11 rfl (fun K hK=>?_)
    refine Z2q rfl _ _ (by rfl) g6 (by rfl) (Z01 Z.t o.fd) (by rfl) _ p6 rfl ?_
    intro w11 p11 s11
    replace HS:=HS.step s11 (fun y hy e=>nS (e▸hy))
    have r1c:=r1c.step s11 (fun e=>by omega)
    have z11:=s11.size
    refine hK.out _ _ (⟨HS.c2,hHeld.2.1.next s11 (fun y e=> .inr (by omega)),r1c.cell 3 _ rfl⟩) (fun hHeld=>?_)
    clear hK K
    try simp only [Act.put]
    refine tl 12 (.int .i64 (Z04 Z.t o.fd)) rfl ?_
    try simp only [z]
    refine wpAnyH_done (by kernel_rfl) ?_ _
    go_wp2_with fail
    go_meet
    exact⟨g6,_,rfl,rfl,p11,m6,⟨tS,mb,ob,nb,sv,HS,fun y=>Iff.rfl⟩,nS,hHeld.2.1.mono (fun y e=> .inl ((hU2 y).2 e)),fun y hy=>by rcases gS y hy with c | c;exact .inl ((hU2 y).2 c);exact .inr ⟨by omega,HS.low y hy⟩⟩
 case rest=>
  obtain⟨g6,U1,rfl,rfl,p6,m6,hT,n6,sT,eT⟩:=hcut
  have nU2:¬U g2:=fun e=>by have:=hU g2 e;have:=b1.size;omega
  have r23:=r2.step sT nU2
  have zzT:=sT.size
  have zzb1:=b1.size
  have nV2:¬U1 g2:=fun e=>by rcases eT g2 e with c | c;exact nU2 c;omega
  rcases hgE with h0 | h0
  · obtain⟨f,f1,f2,f3,f4⟩:=Z1m hz h0
    have hz1:=Z7j hz o.fd
    have c60:=p6.cell 0 _ rfl
    rw [f2]at c60
    have L:=Z6z hT hz1 hm (i:=f.i) (by show(Z.nd f.i).k≠0;rw [f3];decide)
    have eS:Hid (Z.clS o=(Z.fds (Z12 Z.t o.fd)).gone f.i):=by show _=_;unfold Tz.clS;rw [f2]
    obtain⟨fi,hfi⟩:∃ fi,Hid (f.i=fi):=⟨_,rfl⟩
    rw [hfi.out]at c60 L
    go_wp2_with (first
     | (go_at_call 101;refine L.mono ?_;rintro e w6 ⟨rfl,G6⟩
        have r26:=r23.step G6.stp nV2)
     | (refine Z03 (by rfl) _ _ (by rfl) g2 (by rfl) anZ 0 Z0c (by rfl) _ r26 rfl ?_;intro w9 r9 s9))
    refine bodyPost_ret (Z0d Z06 Tryz.results53 rfl rfl r9 rfl) rfl ?_
    show Ret _ U g B Z (Z.clS o) (Z04 Z.t o.fd) w _
    rw [h0,eS.out]
    rw [← hfi.out]at G6
    obtain⟨U6,t6,s6,e6⟩:=G6
    exact Z16 Z0c ((TxG.fin hU B2 (TxG.join sT eT t6 s6 e6) (by omega) r2.lt s9).more (Nat.le_succ B))
  · have eT2:Z.fds (Z12 Z.t o.fd)=Z:=by rw [Zc8 h0];rfl
    rw [eT2]at hT
    go_wp2_with (first
     | (refine Z03 (by rfl) _ _ (by rfl) g2 (by rfl) anZ 0 Z0c (by rfl) _ r23 rfl ?_;intro w9 r9 s9))
    refine bodyPost_ret (Z0d Z06 Tryz.results53 rfl rfl r9 rfl) rfl ?_
    show Ret _ U g B Z (Z.clS o) (Z04 Z.t o.fd) w _
    rw [h0]
    exact Z0q (by decide) (TxG.fin hU B2 ⟨U1,hT,sT,eT⟩ (by omega) r2.lt s9)
set_option maxRecDepth 100000
theorem Zhp:∀ w,(sizeOf 3).run Tryz.prog w= .ok 1 w:=fun w=>by kernel_rfl
theorem Zem {w w5 wc wd we wf:World} {U U1 U2 U3:Nat→Prop} {g B ga gb:Nat} {q:Int→Nat} {Z:Tz} (Bc:Below w.heap.size w w5) (a1:w.heap.size≤ga) (a2:w.heap.size≤gb) (s1:Stp (fun y=>U y∨y=ga) w5 wc) (e1:Grew U U1 w5 wc) (s2:Stp U1 wc wd) (e2:Grew U1 U2 wc wd) (s3:Stp U2 wd we) (e3:Grew U2 U3 wd we) (t:Tx we U3 g q B Z) (n:¬U3 gb) (s4:Stp (fun y=>y=gb) we wf):TxG U g q B Z w wf:=by
 have z0:=Bc.size
 have z1:=s1.size
 have z2:=s2.size
 have z3:=s3.size
 have z4:=s4.size
 have E2:=e1.trans e2 z1 z2
 have E3:=E2.trans e3 (by omega) z3
 refine⟨U3,t.step s4 (fun y hy e=>n (e▸hy)),?_,fun y hy=>?_⟩
 · refine((((Stp.of_below Bc U).next s1 (fun y e=>?_)).next s2 (fun y e=>?_)).next s3 (fun y e=>?_)).next s4 (fun y e=> .inr (by omega))
   · rcases e with e | e
     · exact .inl e
     · exact .inr (by omega)
   · rcases e1 y e with c | c
     · exact .inl c
     · exact .inr (by omega)
   · rcases E2 y e with c | c
     · exact .inl c
     · exact .inr (by omega)
 · rcases E3 y hy with c | c
   · exact .inl c
   · exact .inr (by omega)
set_option maxHeartbeats 8000000 in
theorem Zfo {w:World} {g:Nat} {o:Oz} {s:Sv} {U:Nat→Prop} {q:Int→Nat} {B n:Nat} {Z:Tz} (h:Tx w U g q B Z) (hz:Z.ok n) (hn:n≤900) (hB:B≤900) {D i:Int} {a:List UInt8} (hD:(Z.nd D).k=2) (ha:a.length≤10) (h1:(Z.opS1 D a i).okD (n+3) (n+1) x0) (hj:((Z.opS1 D a i).nd (Z.opJ i)).k=1) (hlk:i=0→lk (Z.nd D).nm a=0) (hf:0≤o.fl∧o.fl≤31) (hf8:decide ((fdFr Z.t:Int)=8)=false)
 (hF:∀ w',Below w.heap.size w w'→Calls Tryz.prog 93 #[.int .i64 o.fl] w' fun e u=>e= .returned (.bool true)∧Below w'.heap.size w' u)
 (hP:∀ w',Below w.heap.size w w'→Calls Tryz.prog 94 #[.pointer (some ⟨g,0,none⟩), .string (str o.p), .int .i64 43] w' fun e u=>e= .returned (.tuple #[.agg (spC (some (q D)) a i).toArray, .int .i64 0])∧Below w'.heap.size w' u)
 (hO:∀ w',Below w.heap.size w w'→Calls Tryz.prog 95 #[.pointer (some ⟨g,0,none⟩), .int .i64 i, .int .i64 o.fl] w' fun e u=>e= .returned (.int .i64 0)∧w'=u):
 Calls Tryz.prog 52 #[.pointer (some ⟨g,0,none⟩), .agg (opC o s).toArray] w fun e w'=>Ret e U g B Z (((Z.opS1 D a i).opS2 (Z.opJ i) o.fl).opS3 (Z.opJ i) o.fl) 0 w w':=by
 have hm:n+3≤1000:=by omega
 have hU:=h.low
 have F:=Z9u hf
 have F3:Hid _:=F.b3
 have F16:Hid _:=F.b16
 have hop:Hid (Z19 ((Z.opS1 D a i).opS2 (Z.opJ i) o.fl).t=0):=by
  show _=_
  have e:((Z.opS1 D a i).opS2 (Z.opJ i) o.fl).t=Z.t:=by
   unfold Tz.opS2 Tz.opS1 Tz.mkN
   split<;>split<;>rfl
  rw [e];unfold Z19
  rw [if_neg (by have:=of_decide_eq_false hf8;omega)]
 clear F
 obtain⟨j,hjj⟩:∃ j,Hid (Z.opJ i=j):=⟨_,rfl⟩
 rw [hjj.out]at hj hop ⊢
 obtain⟨Z1,hZ1⟩:∃ Z1,Hid (Z.opS1 D a i=Z1):=⟨_,rfl⟩
 rw [hZ1.out]at h1 hj hop ⊢
 go_enter Tryz.func52,Tryz.ntmps52
 go_upto_if 44 with(first
  | (refine Z05 (by rfl) _ (by rfl) o s (by rfl) ?_;intro g1 w1 z1 z2 r1 b1
     have Bc:=b1
     have v1:=b1.size
     try clear c11
     try clear c16
     try clear d2
     have c11:=r1.cell 1 _ rfl
     have c16:=r1.cell 6 _ rfl
     try (have d2:=r3.cell 2 _ rfl))
  | (refine Z02 (by rfl) (by rfl) ?_;intro g2 w2 z3 z4 r2 b2
     replace Bc:=Z00q Bc b2 (Nat.le_refl _)
     have v2:=b2.size
     try (replace r1:=r1.later b2)
     try (replace r2:=r2.later b2)
     try (replace r3:=r3.later b2)
     try clear c11
     try clear c16
     try clear d2
     have c11:=r1.cell 1 _ rfl
     have c16:=r1.cell 6 _ rfl
     try (have d2:=r3.cell 2 _ rfl))
  | (go_at_call 93;refine(hF _ Bc).mono ?_;rintro e wm1 ⟨rfl,bm1⟩;clear hF
     replace Bc:=Z00q Bc bm1 (Nat.le_refl _)
     have vm1:=bm1.size
     try (replace r1:=r1.later bm1)
     try (replace r2:=r2.later bm1)
     try (replace r3:=r3.later bm1)
     try clear c11
     try clear c16
     try clear d2
     have c11:=r1.cell 1 _ rfl
     have c16:=r1.cell 6 _ rfl
     try (have d2:=r3.cell 2 _ rfl))
  | (go_at_call 94;refine(hP _ Bc).mono ?_;rintro e wm2 ⟨rfl,bm2⟩;clear hP
     replace Bc:=Z00q Bc bm2 (Nat.le_refl _)
     have vm2:=bm2.size
     try (replace r1:=r1.later bm2)
     try (replace r2:=r2.later bm2)
     try (replace r3:=r3.later bm2)
     try clear c11
     try clear c16
     try clear d2
     have c11:=r1.cell 1 _ rfl
     have c16:=r1.cell 6 _ rfl
     try (have d2:=r3.cell 2 _ rfl))
  | (refine Z08 (by rfl) (by rfl) ?_;intro g3 wa z5 z6 r3 b5
     replace Bc:=Z00q Bc b5 (Nat.le_refl _)
     have v5:=b5.size
     try (replace r1:=r1.later b5)
     try (replace r2:=r2.later b5)
     try (replace r3:=r3.later b5)
     try clear c11
     try clear c16
     try clear d2
     have c11:=r1.cell 1 _ rfl
     have c16:=r1.cell 6 _ rfl
     try (have d2:=r3.cell 2 _ rfl))
  | (refine Z09 (by rfl) _ _ (by rfl) g3 (by rfl) (some (q D)) a i (by rfl) _ r3 rfl ?_;intro w5 q5 s5
     replace r3:=q5
     have v6:=s5.size
     replace Bc:=((Stp.of_below Bc (fun _=>False)).next s5 (fun y e=> .inr (by omega))).below (Nat.le_refl _) (fun y e=>e.elim)
     try (replace r1:=r1.step s5 (fun e=>by omega))
     try (replace r2:=r2.step s5 (fun e=>by omega))
     try clear c11
     try clear c16
     try clear d2
     have c11:=r1.cell 1 _ rfl
     have c16:=r1.cell 6 _ rfl
     try (have d2:=r3.cell 2 _ rfl)
     obtain⟨tg,mb,ob,nb,sv,H,hU1⟩:=h.later Bc
     have t2:=H.c2
     obtain⟨V,hV1,hV2⟩:=H.fd
     have hL:=Z6w hV1
     rw [hf8]at hL)
  | (go_at_call 95;refine(hO _ Bc).mono ?_;rintro e u ⟨rfl,rfl⟩;clear hO)
  | (go_at_call 96;refine hL.mono ?_;rintro e u ⟨rfl,rfl⟩))
 go_cut [] (fun wx=>∃ q1 U1,Tx wx U1 g q1 (B+1) Z1∧Stp (fun y=>U y∨y=g3) w5 wx∧Grew U U1 w5 wx∧wx.cell? ⟨g3,2,none⟩=some (.int .i64 j))
 case first=>
  by_cases h0:i=0
  · have ej:j=Z.top:=by rw [← hjj.out];unfold Tz.opJ;rw [if_pos h0]
    have eZ:Z1=(Z.come 1).nam D a Z.top:=by rw [← hZ1.out];unfold Tz.opS1;rw [if_pos h0];rfl
    subst ej
    subst eZ
    have hz2:=hz.come 1 (.inl rfl) (Z6j hz)
    have ht:Z.top.toNat=Z.N.length:=by unfold Tz.top;omega
    have hdk:=hz.live (i:=D) (by rw [hD];decide)
    have N:=fun j=>Z2o (Z:=Z) 1 j
    have ed:(Z.come 1).nd D=Z.nd D:=by rw [N,if_neg (by omega)]
    have et:(Z.come 1).nd Z.top=⟨1,0, [], []⟩:=by rw [N Z.top,if_pos ht]
    have eq:∀ b,qUp q Z.top b D=q D:=fun b=>by unfold qUp;rw [if_neg (fun e=>by rw [e]at hdk;omega)]
    have hC:=Z7l (h.later Bc) hz (by omega) 1 (.inl rfl)
    have hNm:=fun b U' w' (hx:Tx w' U' g (qUp q Z.top b) B (Z.come 1))=>Z1b hx hz2 (by omega) (by omega) (d:=D) (i:=Z.top) (by rw [ed];exact hD) (by rw [et];decide) a ha Z.top
    have nU:∀ y,w.heap.size≤y→¬U y:=fun y h1 e=>by have:=hU y e;omega
    clear hjj hZ1 hlk hj h1 hop
    subst h0
    go_wp2_with (first
     | (go_at_call 25;refine hC.mono ?_;clear hC;rintro e w6 ⟨b,rfl,U6,t6,s6,e6⟩
        have v6:=s6.size
        have l3:=r3.lt
        have nV3:¬U6 g3:=fun e=>by rcases e6 g3 e with c | c;exact nU g3 (by omega) c;omega
        replace r3:=r3.step s6 (nU g3 (by omega))
        have K7:=hNm b U6
        rw [eq b]at K7)
     | (refine Zdk 3 .i64 Zhp (by rfl) _ _ (by rfl) g3 2 (by rfl) _ (by rfl) _ r3 (by exact(show 2 < 3 by decide)) ?_;intro w7 r7 s7
        replace r3:Cs w7 g3 (spC (some (q D)) a Z.top):=r7
        have t7:=t6.step s7 (fun y hy e=>nV3 (e▸hy))
        have v7:=s7.size
        clear d2
        have d2:=r3.cell 2 _ rfl)
     | (refine Z2f (by rfl) _ (by rfl) g3 (by rfl) (some (q D)) a Z.top r3 ?_)
     | (go_at_call 97;refine(K7 _ t7).mono ?_;rintro e w8 ⟨rfl,U8,t8,s8,e8⟩
        have v8:=s8.size
        replace r3:=r3.step s8 nV3))
    go_meet
    refine⟨qUp q Z.top b,U8,t8,?_,?_,r3.cell 2 _ rfl⟩
    · refine((s6.mono (fun y e=> .inl (.inl e))).next s7 (fun y e=> .inl (.inr e))).next s8 (fun y e=>?_)
      rcases e6 y e with c | c
      · exact .inl (.inl c)
      · exact .inr c.1
    · intro y e
      rcases e8 y e with c | c
      · rcases e6 y c with c2 | c2
        · exact .inl c2
        · exact .inr (by omega)
      · exact .inr (by omega)
  · have ej:j=i:=by rw [← hjj.out];unfold Tz.opJ;rw [if_neg h0]
    have eZ:Z1=Z:=by rw [← hZ1.out];unfold Tz.opS1;rw [if_neg h0]
    subst ej
    subst eZ
    have qi:(j==0)=false:=by simpa using h0
    clear hjj hZ1 hlk hj h1 hop
    go_wp2_with fail
    go_meet
    exact⟨q,U,(h.later Bc).more (Nat.le_succ B),Stp.refl _ _,Grew.refl _ _ _,r3.cell 2 _ rfl⟩
 case rest=>
  obtain⟨q1,U1,T1,S1,E1,d2'⟩:=hcut
  have zc:=S1.size
  have l1:=r1.lt
  have l2:=r2.lt
  have l3:=r3.lt
  have nU:∀ y,w.heap.size≤y→¬U y:=fun y h1 e=>by have:=hU y e;omega
  have nV:∀ y,w.heap.size≤y→y < w5.heap.size→¬U1 y:=fun y h1 h2 e=>by rcases E1 y e with c | c;exact nU y h1 c;omega
  replace r1:=r1.step S1 (fun e=>e.elim (nU g1 (by omega)) (fun e=>by omega))
  replace r2:=r2.step S1 (fun e=>e.elim (nU g2 (by omega)) (fun e=>by omega))
  clear c11 c16 d2 t2 hL
  have c16:=r1.cell 6 _ rfl
  go_upto_if 56 with fail
  go_cut [] (fun wx=>∃ U2,Tx wx U2 g q1 (B+1) (Z1.opS2 j o.fl)∧Stp U1 wc wx∧Grew U1 U2 wc wx)
  case first=>
   by_cases h16:o.fl / 16 % 2=1
   · have f16:=F16.out
     rw [if_pos h16]at f16
     have eZ:Hid (Z1.opS2 j o.fl=Z1.dat j (ctB' (Z1.nd j).d ((0:Nat):Nat))):=by
      show _=_
      unfold Tz.opS2;rw [if_pos h16];unfold ctB';simp
     have hkj:(Z1.nd j).k≠0:=by rw [hj];decide
     go_upto_region 15 with fail
     obtain⟨tg2,mb2,ob2,nb2,sv2,H2,hU2⟩:=T1
     refine Z0p (S:=fun u=>Below wc.heap.size wc u) _ _ (by simp only [List.pop_toArray,List.dropLast_cons_cons,List.dropLast_singleton];rfl) (by simp only [List.back?_toArray,List.getLast?_cons_cons,List.getLast?_singleton];rfl) (by kernel_rfl) (by kernel_rfl) (Below.refl _ _).drew (fun hHeld=>?_)
     refine tl 0 (.pointer (some ⟨g,0,none⟩)) rfl ?_
     try simp only [z]
     refine tl 1 (.pointer (some ⟨g,0,none⟩)) rfl ?_
     try simp only [z]
     refine tl 2 (.pointer (some ⟨g,0,none⟩)) rfl ?_
     try simp only [z]
     refine tl 3 (.map (some mb2)) rfl ?_ (fun u hu=>by have x1:=(H2.later hu).c0;go_simp)
     try simp only [z]
     refine tl 4 (.pointer (some ⟨g3,2,none⟩)) rfl ?_
     try simp only [z]
     refine tl 5 (.int .i64 j) rfl ?_ (fun u hu=>by have x1:=(Stp.of_below hu (fun _=>False)).cell d2' id;go_simp)
     try simp only [z]
     refine tl 6 (.pointer (some ⟨q1 j,0,none⟩)) rfl ?_ (fun u hu=>by have x1:=(H2.later hu).look hkj (Z13 h1 hm hkj);go_simp)
     try simp only [z]
     refine wpAnyH_done (by kernel_rfl) ?_ _
     have T2:Tx wc.drew U1 g q1 (B+1) Z1:=⟨tg2,mb2,ob2,nb2,sv2,H2.later hHeld,hU2⟩
     have R:=Z4z T2 h1 hkj 0 (by omega)
     generalize wc.drew=w6 at *
     show wpList _ _ _ [_] _ _
     go_wp2_with (go_at_call 98;refine R.mono ?_;rintro e w7 ⟨rfl,U7,t7,s7,e7⟩)
     go_meet
     rw [← eZ.out]at t7
     refine⟨U7,t7,(Stp.of_below hHeld U1).next s7 (fun y e=> .inl e),fun y e=>?_⟩
     have:=hHeld.size
     rcases e7 y e with c | c
     · exact .inl c
     · exact .inr (by omega)
   · have f16:=F16.out
     rw [if_neg h16]at f16
     have eZ:Hid (Z1.opS2 j o.fl=Z1):=by show _=_;unfold Tz.opS2;rw [if_neg h16]
     go_wp2_with fail
     go_meet
     exact⟨U1,by rw [eZ.out];exact T1,Stp.refl _ _,Grew.refl _ _ _⟩
  case rest=>
   obtain⟨U2,T2,S2,E2⟩:=hcut
   have zd:=S2.size
   have nW:∀ y,w.heap.size≤y→y < w5.heap.size→¬U2 y:=fun y h1 h2 e=>by rcases E2 y e with c | c;exact nV y h1 h2 c;omega
   have x3:=S2.cell d2' (nV g3 (by omega) (by omega))
   replace r1:=r1.step S2 (nV g1 (by omega) (by omega))
   replace r2:=r2.step S2 (nV g2 (by omega) (by omega))
   clear c16 d2'
   obtain⟨tg4,mb4,ob4,nb4,sv4,H4,hU4⟩:=T2
   have n1:¬tg4 g1≠0:=fun e=>nW g1 (by omega) (by omega) ((hU4 g1).2 e)
   have n3:¬tg4 g3≠0:=fun e=>nW g3 (by omega) (by omega) ((hU4 g3).2 e)
   have c16:=r1.cell 6 _ rfl
   go_upto_region 16 with fail
   obtain⟨N,hN⟩:∃ N,Hid (Z15 (Z1.opS2 j o.fl).t=N):=⟨_,rfl⟩
   go_cut [9,7] (fun u v wx=>u= .int .i64 N∧v= .int .i64 0∧∃ U3,Tx wx U3 g q1 (B+1) ((Z1.opS2 j o.fl).opS3 j o.fl)∧Stp U2 wc wx∧Grew U2 U3 wc wx)
   case first=>
    refine wp_region_held_drew (S:=fun u=>u.cell? ⟨g,2,none⟩=some (.pointer (some ⟨ob4,0,none⟩))∧Stp (fun y=>tg4 y≠0) wc u∧u.cell? ⟨g3,2,none⟩=some (.int .i64 j)∧u.cell? ⟨g1,6,none⟩=some (.int .i64 o.fl)) (by kernel_rfl) ⟨H4.c2,(Stp.refl _ _).drew,x3,c16⟩ (fun hHeld=>?_)
    replace H4:=H4.later (show Below wc.heap.size wc wc.drew from(Below.refl _ _).drew)
    refine tl 0 (.pointer (some ⟨g,0,none⟩)) rfl ?_
    try simp only [z]
    refine tl 1 (.pointer (some ⟨g,0,none⟩)) rfl ?_
    try simp only [z]
    refine tl 2 (.pointer (some ⟨g,2,none⟩)) rfl ?_
    try simp only [z]
    refine tl 3 (.pointer (some ⟨ob4,0,none⟩)) rfl ?_ (fun u hu=>by have x1:=hu.1;go_simp)
    try simp only [z]
    refine tl 4 (.pointer (some ⟨g3,2,none⟩)) rfl ?_
    try simp only [z]
    refine tl 5 (.int .i64 j) rfl ?_ (fun u hu=>by have x1:=hu.2.2.1;go_simp)
    try simp only [z]
    refine tl 6 (.pointer (some ⟨g1,6,none⟩)) rfl ?_
    try simp only [z]
    refine tl 7 (.int .i64 o.fl) rfl ?_ (fun u hu=>by have x1:=hu.2.2.2;go_simp)
    try simp only [z]
    refine tl 8 (.int .i64 (o.fl % 4)) rfl ?_ (fun u hu=>by have x1:=F3.out;go_simp)
    try simp only [z]
    refine rd 9 rfl (fun K hK=>?_)
    go_simp
    refine(Zhq H4 j (o.fl % 4)).mono ?_
    rintro e wS ⟨rfl,tS,HS,sS,gS⟩
    try go_wp2_with fail
    have y3:=sS.cell hHeld.2.2.1 n3
    have y1:=sS.cell hHeld.2.2.2 n1
    refine hK.out _ _ (⟨HS.c2,hHeld.2.1.trans sS,y3,y1⟩) (fun hHeld=>?_)
    clear hK K
    try simp only [z]
    refine tl 10 (.tuple #[.int .i64 (Z15 (Z1.opS2 j o.fl).t), .int .i64 (Z19 (Z1.opS2 j o.fl).t)]) rfl ?_
    try simp only [z]
    refine tl 11 (.int .i64 (Z15 (Z1.opS2 j o.fl).t)) rfl ?_
    try simp only [z]
    refine tl 12 (.int .i64 (Z19 (Z1.opS2 j o.fl).t)) rfl ?_
    try simp only [z]
    refine tl 13 (.int .i64 (Z15 (Z1.opS2 j o.fl).t)) rfl ?_
    try simp only [z]
    refine tl 14 (.int .i64 (Z19 (Z1.opS2 j o.fl).t)) rfl ?_
    try simp only [z]
    refine wpAnyH_done (by kernel_rfl) ?_ _
    go_wp2_with fail
    go_meet
    exact⟨by rw [hN.out],by rw [hop.out],fun y=>tS y≠0,⟨tS,mb4,ob4,nb4,sv4,HS,fun y=>Iff.rfl⟩,hHeld.2.1.mono (fun y e=> .inl ((hU4 y).2 e)),fun y hy=>by rcases gS y hy with c | c;exact .inl ((hU4 y).2 c);exact .inr ⟨c,HS.low y hy⟩⟩
   case rest=>
    obtain⟨rfl,rfl,U3,T3,S3,E3⟩:=hcut
    have ze:=S3.size
    have nX:¬U3 g2:=fun e=>by rcases E3 g2 e with c | c;exact nW g2 (by omega) (by omega) c;omega
    replace r2:=r2.step S3 (nW g2 (by omega) (by omega))
    clear c16
    go_wp2_with (refine Z03 (by rfl) _ _ (by rfl) g2 (by rfl) (anC 0 N nilV nilV 0 0 0) 0 (Z1y _) (by rfl) _ r2 rfl ?_;intro w9 r9 s9)
    exact bodyPost_ret (Z0d Z06 Tryz.results52 rfl rfl r9 rfl) rfl (Z16 (Z1y _) (Zem Bc (by omega) (by omega) S1 E1 S2 E2 S3 E3 T3 nX s9))
end Go.Proofs.YtdnjddpfcgginaaGreat
