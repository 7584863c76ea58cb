/-
  Texts of my own, joined: no statement is proved here.
-/
import Derived.Deep.CutBlock
import Derived.Deep.DeepCutAuto
import Derived.Test.YtdnjddpfcgginaaGreatJal
set_option linter.unusedSimpArgs false
set_option linter.unusedVariables false
namespace Go.Proofs.YtdnjddpfcgginaaGreat
open Go.ChangeShapes Go.WideShapes Go.ChangeAt Go.RowKit
set_option maxRecDepth 100000
def anC (e n:Int) (d l:Value) (k s c:Int):List Value:= [.int .i64 e, .int .i64 n,d,l, .int .i64 k, .int .i64 s, .int .i64 c]
def nilV:Value:= .slice none 0 0
def anZ:List Value:=anC 0 0 nilV nilV 0 0 0
def AnE (e:Int) (A:List Value):Prop:=∃ n d l k s c,A=anC e n d l k s c∧d.oneCell'=true∧l.oneCell'=true
theorem Z0c:AnE 0 anZ:=⟨0,nilV,nilV,0,0,0,rfl,rfl,rfl⟩
theorem AnE.len {e:Int} {A:List Value} (h:AnE e A):A.length=7:=by obtain⟨n,d,l,k,s,c,rfl,_⟩:=h;rfl
theorem AnE.one {e:Int} {A:List Value} (h:AnE e A):∀ v ∈ A,v.oneCell'=true:=by
 obtain⟨n,d,l,k,s,c,rfl,h1,h2⟩:=h
 intro v hv;unfold anC at hv;simp at hv;rcases hv with rfl | rfl | rfl | rfl | rfl | rfl | rfl<;>first | rfl | assumption
theorem AnE.at0 {e:Int} {A:List Value} (h:AnE e A):A[0]? =some (.int .i64 e):=by obtain⟨n,d,l,k,s,c,rfl,_⟩:=h;rfl
theorem Z09 (e:Int):AnE e (anC e 0 nilV nilV 0 0 0):=⟨0,nilV,nilV,0,0,0,rfl,rfl,rfl⟩
theorem Z1x (n:Int):AnE 0 (anC 0 n nilV nilV 0 0 0):=⟨n,nilV,nilV,0,0,0,rfl,rfl,rfl⟩
theorem Z06:Srt 34 7 anZ:=
 ⟨⟨_,Tryz.underlying34,rfl⟩,by kernel_rfl,fun w=>(zero_of_info (v:= .agg anZ.toArray) (n:=7) (by kernel_rfl)).1 w,rfl,Z0c.one⟩
def opC (o:Oz) (s:Sv):List Value:= [.int .i64 o.k, .string (str o.p), .string (str o.q), .int .i64 o.fd, .int .i64 o.n, .int .i64 o.off, .int .i64 o.fl,s.v]
theorem Z4f (o:Oz) (s:Sv):∀ v ∈ opC o s,v.oneCell'=true:=by
 intro v hv;unfold opC at hv;simp at hv;rcases hv with rfl | rfl | rfl | rfl | rfl | rfl | rfl | rfl<;>rfl
def Oz.zero:Oz:=⟨0, [], [],0,0,0,0, []⟩
theorem Z0q:Srt 37 8 (opC Oz.zero Sv.nil):=
 ⟨⟨_,Tryz.underlying37,rfl⟩,by kernel_rfl,fun w=>(zero_of_info (v:= .agg (opC Oz.zero Sv.nil).toArray) (n:=8) (by kernel_rfl)).1 w,rfl,Z4f _ _⟩
structure Oz.wfo (o:Oz):Prop where
 k:wfi o.k
 fd:wfi o.fd
 n:wfi o.n
 off:wfi o.off
 fl:wfi o.fl
 p:o.p.length≤5000
 q:o.q.length≤5000
 d:∀ b ∈ o.d,0≤b∧b≤255
section
variable {ops : Array Oper} {rest : List Oper} {o : Oper} {a : Act} {w : World} {Q : Exit → Act → World → Prop}
theorem Z02 (hw:Region.wanted o (yielded ops a.tmps)=true) (ho:o.op= .alloc 34)
 (h:∀ g w',w.heap.size≤g→g < w'.heap.size→Cs w' g anZ→Below w.heap.size w w'→wpList Tryz.prog ops Q rest (a.put o.dst (.pointer (some ⟨g,0,none⟩))) w'):wpList Tryz.prog ops Q (o::rest) a w:=
 Z1o 34 7 _ Z06 hw ho h
theorem Z03 (hw:Region.wanted o (yielded ops a.tmps)=true) (y z:Operand) (ho:o.op= .store 34 y z) (g:Nat) (hx:a.eval y= .pointer (some ⟨g,0,none⟩)) (A:List Value) (e:Int) (hA:AnE e A) (hy:a.eval z= .agg A.toArray) (cs:List Value) (hR:Cs w g cs) (hl:cs.length=7)
 (h:∀ w',Cs w' g A→Stp (fun x=>x=g) w w'→wpList Tryz.prog ops Q rest (a.put o.dst undef) w'):wpList Tryz.prog ops Q (o::rest) a w:=
 Z1g 34 7 _ Z06 hw y z ho g hx A hy hA.len hA.one cs hR hl h
theorem Z2h (hw:Region.wanted o (yielded ops a.tmps)=true) (y:Operand) (ho:o.op= .load 145 y) (g:Nat) (hx:a.eval y= .pointer (some ⟨g,0,none⟩)) (d:Option Nat) (s:List UInt8) (i:Int) (hR:Cs w g (spC d s i))
 (h:wpList Tryz.prog ops Q rest (a.put o.dst (.agg (spC d s i).toArray)) w):wpList Tryz.prog ops Q (o::rest) a w:=
 Z0k 145 3 _ Z1f hw y ho g hx (spC d s i) hR rfl h
theorem Z05 (hw:Region.wanted o (yielded ops a.tmps)=true) (y:Operand) (ho:o.op= .box 37 y) (oz:Oz) (s:Sv) (hx:a.eval y= .agg (opC oz s).toArray)
 (h:∀ g w',w.heap.size≤g→g < w'.heap.size→Cs w' g (opC oz s)→Below w.heap.size w w'→wpList Tryz.prog ops Q rest (a.put o.dst (.pointer (some ⟨g,0,none⟩))) w'):wpList Tryz.prog ops Q (o::rest) a w:=
 Z2n 37 hw y ho (opC oz s) hx (Z4f _ _) h
end
section
variable {w w1 w2 w3 : World} {g B ga : Nat} {U : Nat → Prop} {q : Int → Nat} {Z : Tz}
theorem TxG.fin (hU:∀ x,U x→x < w.heap.size) (hb:Below w.heap.size w w1) (h:TxG U g q B Z w1 w2) (z1:w.heap.size≤ga) (z2:ga < w1.heap.size) (s:Stp (fun x=>x=ga) w2 w3):TxG U g q B Z w w3:=by
 obtain⟨U',a1,a2,a3⟩:=h
 have hn:∀ x,U' x→¬x=ga:=fun x hx e=>by
  rcases a3 x hx with c | c
  · have:=hU x c;omega
  · omega
 refine⟨U',a1.step s hn,((Stp.of_below hb U).trans a2).next s (fun x e=> .inr (by omega)),fun x hx=>?_⟩
 rcases a3 x hx with c | c
 · exact .inl c
 · exact .inr ⟨Nat.le_trans hb.size c.1,Nat.lt_of_lt_of_le c.2 s.size⟩
theorem TxG.same (h:Tx w U g q B Z) (hb:Below w.heap.size w w1) (z1:w.heap.size≤ga) (s:Stp (fun x=>x=ga) w1 w2):TxG U g q B Z w w2:=
 TxG.refl h (((Stp.of_below hb (fun _=>False)).next s (fun y e=> .inr (by omega))).below (Nat.le_refl _) (fun y e=>e.elim))
theorem TxG.stp (h:TxG U g q B Z w w1):Stp U w w1:=by obtain⟨U',_,a,_⟩:=h;exact a
end
def Ret (e:Ending) (U:Nat→Prop) (g B:Nat) (Z Z':Tz) (E:Int) (w w':World):Prop:=∃ A q,e= .returned (.tuple #[.agg A.toArray, .int .i64 E])∧AnE 0 A∧TxG U g q (B+1) (if E=0 then Z' else Z) w w'
theorem Tx.more {w:World} {U:Nat→Prop} {g B B':Nat} {q:Int→Nat} {Z:Tz} (h:Tx w U g q B Z) (hB:B≤B'):Tx w U g q B' Z:=by
 obtain⟨tg,mb,ob,nb,sv,H,hU⟩:=h
 exact⟨tg,mb,ob,nb,sv,H.more hB,hU⟩
theorem TxG.more {w w':World} {U:Nat→Prop} {g B B':Nat} {q:Int→Nat} {Z:Tz} (h:TxG U g q B Z w w') (hB:B≤B'):TxG U g q B' Z w w':=by
 obtain⟨U',h1,h2,h3⟩:=h
 exact⟨U',h1.more hB,h2,h3⟩
theorem Z0p {U:Nat→Prop} {g B:Nat} {q:Int→Nat} {Z Z':Tz} {E:Int} {w w':World} (hE:E≠0) (h:TxG U g q B Z w w'):Ret (.returned (.tuple #[.agg anZ.toArray, .int .i64 E])) U g B Z Z' E w w':=
 ⟨anZ,q,rfl,Z0c,by rw [if_neg hE];exact h.more (Nat.le_succ B)⟩
theorem Z17 {U:Nat→Prop} {g B:Nat} {q:Int→Nat} {Z Z':Tz} {w w':World} {A:List Value} (hA:AnE 0 A) (h:TxG U g q (B+1) Z' w w'):Ret (.returned (.tuple #[.agg A.toArray, .int .i64 0])) U g B Z Z' 0 w w':=
 ⟨A,q,rfl,hA,by rw [if_pos rfl];exact h⟩
theorem TxG.join {w w1 w2:World} {g B:Nat} {U U' U'':Nat→Prop} {q:Int→Nat} {Z:Tz} (s:Stp U w w1) (e:Grew U U' w w1) (t2:Tx w2 U'' g q B Z) (s2:Stp U' w1 w2) (e2:Grew U' U'' w1 w2):TxG U g q B Z w w2:=by
 refine⟨U'',t2,s.next s2 (fun x hx=>?_),e.trans e2 s.size s2.size⟩
 rcases e x hx with c | c
 · exact .inl c
 · exact .inr c.1
theorem Z8n {w:World} {U:Nat→Prop} {g B n:Nat} {q:Int→Nat} {Z:Tz} (h:Tx w U g q B Z) (hz:Z.ok n) (hn:n≤900) (hB:B≤900) (o:Oz) (ho:o.wfo) (s:Sv):
 Calls Tryz.prog 58 #[.pointer (some ⟨g,0,none⟩), .agg (opC o s).toArray] w fun e w'=>Ret e U g B Z (Z.mdS o) (Z.mdE o) w w':=by
 have hm:n+2≤1000:=by omega
 have hU:=h.low
 have hP:=fun w' (b:Below w.heap.size w w')=>Z1i (h.later b) hz hm o.p ho.p 41 (by decide)
 by_cases h1:Z.paE o.p 41=0
 · obtain⟨p1,p2,p3⟩:=Z1e hz (by decide) h1
   have eE:Z.mdE o=if Z.paI o.p=0 then 0 else 41:=by unfold Tz.mdE;rw [if_pos h1]
   rw [Z1q h1,h1]at hP
   rw [eE]
   clear eE
   by_cases h2:Z.paI o.p=0
   · rw [if_pos h2]
     have hz2:=hz.come 2 (.inr rfl) (Z6g hz)
     have ht:Z.top.toNat=Z.N.length:=by unfold Tz.top;omega
     have hdk:=hz.live (i:=Z.paD o.p) (by rw [p1];decide)
     have N:=fun j=>Z2p (Z:=Z) 2 j
     have ed:(Z.come 2).nd (Z.paD o.p)=Z.nd (Z.paD o.p):=by rw [N,if_neg (by omega)]
     have et:(Z.come 2).nd Z.top=⟨2,0, [], []⟩:=by rw [N Z.top,if_pos ht]
     have eq:∀ b,qUp q Z.top b (Z.paD o.p)=q (Z.paD o.p):=fun b=>by unfold qUp;rw [if_neg (fun e=>by rw [e]at hdk;omega)]
     rw [h2]at hP
     have hNm:=fun b U' w' (hx:Tx w' U' g (qUp q Z.top b) B (Z.come 2))=>Z1b hx hz2 (by omega) (by omega) (d:=Z.paD o.p) (i:=Z.top) (by rw [ed];exact p1) (by rw [et];decide) (lsS o.p) (Z2f p2).2.2 0
     go_enter Tryz.func58,Tryz.ntmps58
     go_wp2_with (first
      | (refine Z05 (by rfl) _ (by rfl) o s (by rfl) ?_;intro g1 w1 z1 z2 r1 b1
         have c10:=r1.cell 0 _ rfl
         have c11:=r1.cell 1 _ rfl
         have c12:=r1.cell 2 _ rfl
         have c13:=r1.cell 3 _ rfl
         have c14:=r1.cell 4 _ rfl
         have c15:=r1.cell 5 _ rfl
         have c16:=r1.cell 6 _ rfl)
      | (refine Z02 (by rfl) (by rfl) ?_;intro g2 w2 z3 z4 r2 b2
         have B2:=Z00q b1 b2 (Nat.le_refl _)
         have r12:=r1.later b2
         clear c10 c11 c12 c13 c14 c15 c16
         have c10:=r12.cell 0 _ rfl
         have c11:=r12.cell 1 _ rfl
         have c12:=r12.cell 2 _ rfl
         have c13:=r12.cell 3 _ rfl
         have c14:=r12.cell 4 _ rfl
         have c15:=r12.cell 5 _ rfl
         have c16:=r12.cell 6 _ rfl)
      | (go_at_call 94;refine(hP _ B2).mono ?_;rintro e w3 ⟨rfl,b3⟩;clear hP
         have B3:=Z00q B2 b3 (Nat.le_refl _)
         have zz3:=B3.size)
      | (refine Z07 (by rfl) (by rfl) ?_;intro g3 w4 z5 z6 r4 b4
         have B4:=Z00q B3 b4 (Nat.le_refl _))
      | (refine Z08 (by rfl) _ _ (by rfl) g3 (by rfl) (some (q (Z.paD o.p))) (lsS o.p) 0 (by rfl) _ r4 rfl ?_;intro w5 r5 s5
         have B5:Below w.heap.size w w5:=((Stp.of_below B4 (fun _=>False)).next s5 (fun y e=> .inr (by omega))).below (Nat.le_refl _) (fun y e=>e.elim)
         have d2:=r5.cell 2 _ rfl
         have r25:Cs w5 g2 anZ:=((r2.later b3).later b4).step s5 (fun e=>by have:=b3.size;omega)
         have gl3:=r5.lt))
     have h5:=h.later B5
     refine Z0r (S:=fun u=>∃ b,TxG U g (qUp q Z.top b) B (Z.come 2) w5 u∨Below w5.heap.size w5 u) _ _ (by simp only [List.pop_toArray,List.dropLast_cons_cons,List.dropLast_singleton];rfl) (by simp only [List.back?_toArray,List.getLast?_cons_cons,List.getLast?_singleton];rfl) (by kernel_rfl) (by kernel_rfl) ⟨0, .inr (Below.refl _ _).drew⟩ (fun hHeld=>?_)
     have kS:∀ u,(∃ b,TxG U g (qUp q Z.top b) B (Z.come 2) w5 u∨Below w5.heap.size w5 u)→Stp U w5 u:=fun u hu=>by
      obtain⟨b,hu | hu⟩:=hu
      · exact hu.stp
      · exact Stp.of_below hu U
     have nU3:¬U g3:=fun e=>by have:=hU g3 e;omega
     have nU2:¬U g2:=fun e=>by have:=hU g2 e;have:=b1.size;omega
     refine tl 0 (.pointer (some ⟨g,0,none⟩)) rfl ?_
     try simp only [z]
     refine tm 1 (.agg (spC (some (q (Z.paD o.p))) (lsS o.p) 0).toArray) rfl
      (Z2y 145 3 _ Z1f (by rfl) _ (by rfl) g3 (by rfl) _ rfl (fun u hu=>r5.step (kS u hu) nU3)) ?_
     try simp only [z]
     refine tl 2 (.pointer (some ⟨g,0,none⟩)) rfl ?_
     try simp only [z]
     refine rd 3 rfl (fun K hK=>?_)
     go_simp
     refine(Z7m (h5.later (show Below w5.heap.size w5 w5.drew from(Below.refl _ _).drew)) hz hm 2 (.inr rfl)).mono ?_
     rintro e w6 ⟨b,rfl,G6⟩
     have G6':TxG U g (qUp q Z.top b) B (Z.come 2) w5 w6:=TxG.behind (Below.refl _ _).drew (fun x hx=>h5.low x hx) G6
     try go_wp2_with fail
     refine hK.out _ _ (⟨b, .inl G6'⟩) (fun hHeld=>?_)
     clear hK K
     try simp only [z]
     refine wpAnyH_done (by kernel_rfl) ?_ _
     obtain⟨U6,t6,s6,e6⟩:=G6'
     have r26:=r25.step s6 nU2
     have K7:=hNm b U6 w6 t6
     rw [eq b]at K7
     show wpList _ _ _ [_] _ _
     go_wp2_with (first
      | (go_at_call 97;refine K7.mono ?_;rintro e w7 ⟨rfl,U7,t7,s7,e7⟩
         have r27:=r26.step s7 (fun e=>by
          rcases e6 g2 e with c | c
          · exact nU2 c
          · have:=r25.lt;omega))
      | (refine Z03 (by rfl) _ _ (by rfl) g2 (by rfl) anZ 0 Z0c (by rfl) _ r27 rfl ?_;intro w9 r9 s9))
     have G7:TxG U g (qUp q Z.top b) (B+1) (Z.mdS o) w5 w7:=TxG.join s6 e6 t7 s7 e7
     exact bodyPost_ret (Z0d Z06 Tryz.results58 rfl rfl r9 rfl) rfl (Z17 Z0c (TxG.fin hU B5 G7 (by omega) r25.lt s9))
   · rw [if_neg h2]
     go_enter Tryz.func58,Tryz.ntmps58
     go_wp2_with (first
      | (refine Z05 (by rfl) _ (by rfl) o s (by rfl) ?_;intro g1 w1 z1 z2 r1 b1
         have c10:=r1.cell 0 _ rfl
         have c11:=r1.cell 1 _ rfl
         have c12:=r1.cell 2 _ rfl
         have c13:=r1.cell 3 _ rfl
         have c14:=r1.cell 4 _ rfl
         have c15:=r1.cell 5 _ rfl
         have c16:=r1.cell 6 _ rfl)
      | (refine Z02 (by rfl) (by rfl) ?_;intro g2 w2 z3 z4 r2 b2
         have B2:=Z00q b1 b2 (Nat.le_refl _)
         have r12:=r1.later b2
         clear c10 c11 c12 c13 c14 c15 c16
         have c10:=r12.cell 0 _ rfl
         have c11:=r12.cell 1 _ rfl
         have c12:=r12.cell 2 _ rfl
         have c13:=r12.cell 3 _ rfl
         have c14:=r12.cell 4 _ rfl
         have c15:=r12.cell 5 _ rfl
         have c16:=r12.cell 6 _ rfl)
      | (go_at_call 94;refine(hP _ B2).mono ?_;rintro e w3 ⟨rfl,b3⟩;clear hP
         have B3:=Z00q B2 b3 (Nat.le_refl _)
         have zz3:=B3.size)
      | (refine Z07 (by rfl) (by rfl) ?_;intro g3 w4 z5 z6 r4 b4
         have B4:=Z00q B3 b4 (Nat.le_refl _))
      | (refine Z08 (by rfl) _ _ (by rfl) g3 (by rfl) (some (q (Z.paD o.p))) (lsS o.p) (Z.paI o.p) (by rfl) _ r4 rfl ?_;intro w5 r5 s5
         have B5:Below w.heap.size w w5:=((Stp.of_below B4 (fun _=>False)).next s5 (fun y e=> .inr (by omega))).below (Nat.le_refl _) (fun y e=>e.elim)
         have d2:=r5.cell 2 _ rfl
         have r25:Cs w5 g2 anZ:=((r2.later b3).later b4).step s5 (fun e=>by have:=b3.size;omega)
         have gl3:=r5.lt)
      | (refine Z03 (by rfl) _ _ (by rfl) g2 (by rfl) anZ 0 Z0c (by rfl) _ r25 rfl ?_;intro w9 r9 s9))
     exact bodyPost_ret (Z0d Z06 Tryz.results58 rfl rfl r9 rfl) rfl (Z0p (by decide) (TxG.same h B5 (by omega) s9))
 · have eE:Z.mdE o=Z.paE o.p 41:=by unfold Tz.mdE;rw [if_neg h1]
   rw [Z1n h1]at hP
   rw [eE]
   clear eE
   go_enter Tryz.func58,Tryz.ntmps58
   go_wp2_with (first
    | (refine Z05 (by rfl) _ (by rfl) o s (by rfl) ?_;intro g1 w1 z1 z2 r1 b1
       have c10:=r1.cell 0 _ rfl
       have c11:=r1.cell 1 _ rfl
       have c12:=r1.cell 2 _ rfl
       have c13:=r1.cell 3 _ rfl
       have c14:=r1.cell 4 _ rfl
       have c15:=r1.cell 5 _ rfl
       have c16:=r1.cell 6 _ rfl)
    | (refine Z02 (by rfl) (by rfl) ?_;intro g2 w2 z3 z4 r2 b2
       have B2:=Z00q b1 b2 (Nat.le_refl _)
       have r12:=r1.later b2
       clear c10 c11 c12 c13 c14 c15 c16
       have c10:=r12.cell 0 _ rfl
       have c11:=r12.cell 1 _ rfl
       have c12:=r12.cell 2 _ rfl
       have c13:=r12.cell 3 _ rfl
       have c14:=r12.cell 4 _ rfl
       have c15:=r12.cell 5 _ rfl
       have c16:=r12.cell 6 _ rfl)
    | (go_at_call 94;refine(hP _ B2).mono ?_;rintro e w3 ⟨rfl,b3⟩;clear hP
       have B3:=Z00q B2 b3 (Nat.le_refl _)
       have zz3:=B3.size)
    | (refine Z07 (by rfl) (by rfl) ?_;intro g3 w4 z5 z6 r4 b4
       have B4:=Z00q B3 b4 (Nat.le_refl _))
    | (refine Z08 (by rfl) _ _ (by rfl) g3 (by rfl) none [] 0 (by rfl) _ r4 rfl ?_;intro w5 r5 s5
       have B5:Below w.heap.size w w5:=((Stp.of_below B4 (fun _=>False)).next s5 (fun y e=> .inr (by omega))).below (Nat.le_refl _) (fun y e=>e.elim)
       have d2:=r5.cell 2 _ rfl
       have r25:Cs w5 g2 anZ:=((r2.later b3).later b4).step s5 (fun e=>by have:=b3.size;omega)
       have gl3:=r5.lt)
    | (refine Z03 (by rfl) _ _ (by rfl) g2 (by rfl) anZ 0 Z0c (by rfl) _ r25 rfl ?_;intro w9 r9 s9))
   exact bodyPost_ret (Z0d Z06 Tryz.results58 rfl rfl r9 rfl) rfl (Z0p h1 (TxG.same h B5 (by omega) s9))
set_option maxRecDepth 100000
theorem Z6a {w:World} {U:Nat→Prop} {g B m n:Nat} {q:Int→Nat} {Z:Tz} {x:Int→Int} (h:Tx w U g q B Z) (hz:Z.okD m n x) (hB:B≤1000) {i:Int} (hk:(Z.nd i).k≠0):
 Calls Tryz.prog 41 #[.pointer (some ⟨q i,0,none⟩)] w fun e w'=>∃ v,e= .returned v∧OwT w.heap.size w' v ((Z.nd i).nm.map (·.s))∧Below w.heap.size w w':=by
 obtain⟨tg,mb,ob,nb,sv,H,hU⟩:=h
 by_cases hd:(Z.nd i).k=2
 · have n3:=H.n3 hd
   have hS:=Z8y (H.nm i hd).2 (hz.so i) (fun e he=>by have:=(hz.nw i e he).2.1;omega) (by omega)
   go_enter Tryz.func41,Tryz.ntmps41
   go_wp2_with (first
    | (go_at_call 80;refine(Z6z _ _).mono ?_;rintro e w1 ⟨rfl,rfl⟩)
    | (go_at_call 79;refine hS.mono ?_;rintro e w2 ⟨v,rfl,o2,b2⟩))
   go_returns
   exact⟨v,rfl,o2,b2⟩
 · have n3:=H.n3' hk hd
   have hN:(Z.nd i).nm= []:=hz.fi i (Z1y hz hk hd)
   rw [hN]
   have hS:=Z8z w
   go_enter Tryz.func41,Tryz.ntmps41
   go_wp2_with (first
    | (go_at_call 80;refine(Z6z _ _).mono ?_;rintro e w1 ⟨rfl,rfl⟩)
    | (go_at_call 79;refine hS.mono ?_;rintro e w2 ⟨v,rfl,o2,b2⟩))
   go_returns
   exact⟨v,rfl,o2,b2⟩
theorem Z5v {w:World} {U:Nat→Prop} {g B n:Nat} {q:Int→Nat} {Z:Tz} (h:Tx w U g q B Z) (hz:Z.ok n) (hn:n≤900) (hB:B≤900) (o:Oz) (ho:o.wfo) (s:Sv):
 Calls Tryz.prog 64 #[.pointer (some ⟨g,0,none⟩), .agg (opC o s).toArray] w fun e w'=>Ret e U g B Z Z (Z.lsE' o) w w':=by
 have hm:n+2≤1000:=by omega
 have hU:=h.low
 have hW:=fun w' (b:Below w.heap.size w w')=>Z22 (h.later b) hz hm o.p ho.p
 by_cases h1:(Z.wa o.p).2=0
 · have hk:=Z26 hz h1
   have hD:=fun w' (b:Below w.heap.size w w')=>Z1s (h.later b) hz hm hk
   rw [h1]at hW
   by_cases h2:(Z.nd (Z.wa o.p).1).k=2
   · have eE:Z.lsE' o=0:=by unfold Tz.lsE';rw [if_pos h1,if_pos h2]
     rw [eE]
     rw [h2]at hD
     clear eE
     have hR:=fun w' (b:Below w.heap.size w w')=>Z6a (h.later b) hz (by omega) hk
     go_enter Tryz.func64,Tryz.ntmps64
     go_wp2_with (first
      | (refine Z05 (by rfl) _ (by rfl) o s (by rfl) ?_;intro g1 w1 z1 z2 r1 b1
         have c10:=r1.cell 0 _ rfl
         have c11:=r1.cell 1 _ rfl
         have c12:=r1.cell 2 _ rfl
         have c13:=r1.cell 3 _ rfl
         have c14:=r1.cell 4 _ rfl
         have c15:=r1.cell 5 _ rfl
         have c16:=r1.cell 6 _ rfl)
      | (refine Z02 (by rfl) (by rfl) ?_;intro g2 w2 z3 z4 r2 b2
         have B2:=Z00q b1 b2 (Nat.le_refl _)
         have r12:=r1.later b2
         clear c10 c11 c12 c13 c14 c15 c16
         have c10:=r12.cell 0 _ rfl
         have c11:=r12.cell 1 _ rfl
         have c12:=r12.cell 2 _ rfl
         have c13:=r12.cell 3 _ rfl
         have c14:=r12.cell 4 _ rfl
         have c15:=r12.cell 5 _ rfl
         have c16:=r12.cell 6 _ rfl)
      | (go_at_call 13;refine(hW _ B2).mono ?_;rintro e w3 ⟨rfl,b3⟩;clear hW
         have B3:=Z00q B2 b3 (Nat.le_refl _)
         have zz3:=B3.size
         have r13:=r12.later b3
         have r23:=r2.later b3
         clear c10 c11 c12 c13 c14 c15 c16
         have c12:=r13.cell 2 _ rfl
         have c14:=r13.cell 4 _ rfl)
      | (go_at_call 104;refine(hD _ B3).mono ?_;rintro e u ⟨rfl,rfl⟩
         obtain⟨tg,mb,ob,nb,sv,H3,hU3⟩:=h.later B3
         have t0:=H3.c0
         have lo:=H3.look hk (Z12 hz hm hk))
      | (go_at_call 41;refine(hR _ B3).mono ?_;rintro e w4 ⟨v,rfl,o4,b4⟩
         obtain⟨a5,c5,rfl,_,_⟩:=o4.shape
         have hAn:AnE 0 (anC 0 0 nilV (.slice a5 (Z.nd (Z.wa o.p).1).nm.length c5) 0 0 0):=⟨0,nilV, .slice a5 (Z.nd (Z.wa o.p).1).nm.length c5,0,0,0,rfl,rfl,rfl⟩
         have B4:=Z00q B3 b4 (Nat.le_refl _)
         have r24:=r23.later b4)
      | (refine Z03 (by rfl) _ _ (by rfl) g2 (by rfl) (anC 0 0 nilV (.slice a5 (Z.nd (Z.wa o.p).1).nm.length c5) 0 0 0) 0 hAn (by rfl) _ r24 rfl ?_;intro w9 r9 s9))
     exact bodyPost_ret (Z0d Z06 Tryz.results64 rfl rfl r9 rfl) rfl (Z17 hAn ((TxG.same h B4 (by omega) s9).more (Nat.le_succ B)))
   · have eE:Z.lsE' o=42:=by unfold Tz.lsE';rw [if_pos h1,if_neg h2]
     rw [eE]
     rw [decide_eq_false h2]at hD
     clear eE
     go_enter Tryz.func64,Tryz.ntmps64
     go_wp2_with (first
      | (refine Z05 (by rfl) _ (by rfl) o s (by rfl) ?_;intro g1 w1 z1 z2 r1 b1
         have c10:=r1.cell 0 _ rfl
         have c11:=r1.cell 1 _ rfl
         have c12:=r1.cell 2 _ rfl
         have c13:=r1.cell 3 _ rfl
         have c14:=r1.cell 4 _ rfl
         have c15:=r1.cell 5 _ rfl
         have c16:=r1.cell 6 _ rfl)
      | (refine Z02 (by rfl) (by rfl) ?_;intro g2 w2 z3 z4 r2 b2
         have B2:=Z00q b1 b2 (Nat.le_refl _)
         have r12:=r1.later b2
         clear c10 c11 c12 c13 c14 c15 c16
         have c10:=r12.cell 0 _ rfl
         have c11:=r12.cell 1 _ rfl
         have c12:=r12.cell 2 _ rfl
         have c13:=r12.cell 3 _ rfl
         have c14:=r12.cell 4 _ rfl
         have c15:=r12.cell 5 _ rfl
         have c16:=r12.cell 6 _ rfl)
      | (go_at_call 13;refine(hW _ B2).mono ?_;rintro e w3 ⟨rfl,b3⟩;clear hW
         have B3:=Z00q B2 b3 (Nat.le_refl _)
         have zz3:=B3.size
         have r13:=r12.later b3
         have r23:=r2.later b3
         clear c10 c11 c12 c13 c14 c15 c16
         have c12:=r13.cell 2 _ rfl
         have c14:=r13.cell 4 _ rfl)
      | (go_at_call 104;refine(hD _ B3).mono ?_;rintro e u ⟨rfl,rfl⟩)
      | (refine Z03 (by rfl) _ _ (by rfl) g2 (by rfl) anZ 0 Z0c (by rfl) _ r23 rfl ?_;intro w9 r9 s9))
     exact bodyPost_ret (Z0d Z06 Tryz.results64 rfl rfl r9 rfl) rfl (Z0p (by decide) (TxG.same h B3 (by omega) s9))
 · have eE:Z.lsE' o=(Z.wa o.p).2:=by unfold Tz.lsE';rw [if_neg h1]
   rw [eE]
   clear eE
   go_enter Tryz.func64,Tryz.ntmps64
   go_wp2_with (first
    | (refine Z05 (by rfl) _ (by rfl) o s (by rfl) ?_;intro g1 w1 z1 z2 r1 b1
       have c10:=r1.cell 0 _ rfl
       have c11:=r1.cell 1 _ rfl
       have c12:=r1.cell 2 _ rfl
       have c13:=r1.cell 3 _ rfl
       have c14:=r1.cell 4 _ rfl
       have c15:=r1.cell 5 _ rfl
       have c16:=r1.cell 6 _ rfl)
    | (refine Z02 (by rfl) (by rfl) ?_;intro g2 w2 z3 z4 r2 b2
       have B2:=Z00q b1 b2 (Nat.le_refl _)
       have r12:=r1.later b2
       clear c10 c11 c12 c13 c14 c15 c16
       have c10:=r12.cell 0 _ rfl
       have c11:=r12.cell 1 _ rfl
       have c12:=r12.cell 2 _ rfl
       have c13:=r12.cell 3 _ rfl
       have c14:=r12.cell 4 _ rfl
       have c15:=r12.cell 5 _ rfl
       have c16:=r12.cell 6 _ rfl)
    | (go_at_call 13;refine(hW _ B2).mono ?_;rintro e w3 ⟨rfl,b3⟩;clear hW
       have B3:=Z00q B2 b3 (Nat.le_refl _)
       have zz3:=B3.size
       have r13:=r12.later b3
       have r23:=r2.later b3
       clear c10 c11 c12 c13 c14 c15 c16
       have c12:=r13.cell 2 _ rfl
       have c14:=r13.cell 4 _ rfl)
    | (refine Z03 (by rfl) _ _ (by rfl) g2 (by rfl) anZ 0 Z0c (by rfl) _ r23 rfl ?_;intro w9 r9 s9))
   exact bodyPost_ret (Z0d Z06 Tryz.results64 rfl rfl r9 rfl) rfl (Z0p h1 (TxG.same h B3 (by omega) s9))
set_option maxRecDepth 100000
section
variable {w : World} {tg : Nat → Nat} {g mb ob B : Nat} {q nb : Int → Nat} {sv : Int → Sv} {Z : Tz}
def TwG (tg:Nat→Nat) (g mb ob:Nat) (q nb:Int→Nat) (sv:Int→Sv) (B:Nat) (Z':Tz) (w w':World):Prop:=∃ tg',Tw w' tg' g mb ob q nb sv B Z'∧Stp (fun y=>tg y≠0) w w'∧∀ y,tg' y≠0→tg y≠0∨w.heap.size≤y
theorem tget (H:Tw w tg g mb ob q nb sv B Z) (fd:Int):
 Calls Tryz.prog 65 #[.pointer (some ⟨ob,0,none⟩), .int .i64 fd] w fun e w'=>e= .returned (.tuple #[.agg (Z01 Z.t fd).cs.toArray, .int .i64 (Z04 Z.t fd)])∧Below w.heap.size w w':=by
 obtain⟨U,h1,h2⟩:=H.fd
 exact Z0o h1 fd
theorem Z8j (H:Tw w tg g mb ob q nb sv B Z) {U U':Nat→Prop} {t:FT} {w':World} (hU:∀ x,U x→tg x=3) (hF:Fd w' U' ob t) (k:Stp U w w') (hG:Grew U U' w w'):TwG tg g mb ob q nb sv B (Z.fds t) w w':=by
 obtain⟨tg',a1,a2,a3⟩:=H.table hU hF k hG
 exact⟨tg',a1,k.mono (fun y e=> .inl (by have:=hU y e;omega)),a3⟩
theorem Z4z (H:Tw w tg g mb ob q nb sv B Z) (fd p:Int):
 Calls Tryz.prog 103 #[.pointer (some ⟨ob,0,none⟩), .int .i64 fd, .int .i64 p] w fun e w'=>e= .returned (.int .i64 (Z0w Z.t fd p))∧TwG tg g mb ob q nb sv B (Z.fds (Z0f Z.t fd p)) w w':=by
 obtain⟨U,h1,h2⟩:=H.fd
 refine(Z3h h1 fd p).mono ?_
 rintro e w' ⟨rfl,k1,k2⟩
 exact⟨rfl,Z8j H h2 k1 k2 (Grew.refl _ _ _)⟩
theorem Zbg (H:Tw w tg g mb ob q nb sv B Z) (fd:Int):
 Calls Tryz.prog 100 #[.pointer (some ⟨ob,0,none⟩), .int .i64 fd] w fun e w'=>e= .returned (.tuple #[.agg (Z01 Z.t fd).cs.toArray, .int .i64 (Z04 Z.t fd)])∧TwG tg g mb ob q nb sv B (Z.fds (Z13 Z.t fd)) w w':=by
 obtain⟨U,h1,h2⟩:=H.fd
 refine(Z4o h1 fd).mono ?_
 rintro e w' ⟨rfl,k1,k2⟩
 exact⟨rfl,Z8j H h2 k1 k2 (Grew.refl _ _ _)⟩
theorem Zh6 (H:Tw w tg g mb ob q nb sv B Z) (i m:Int):
 Calls Tryz.prog 99 #[.pointer (some ⟨ob,0,none⟩), .int .i64 i, .int .i64 m] w fun e w'=>e= .returned (.tuple #[.int .i64 (Z16 Z.t), .int .i64 (Z19 Z.t)])∧TwG tg g mb ob q nb sv B (Z.fds (Z0g Z.t i m)) w w':=by
 obtain⟨U,h1,h2⟩:=H.fd
 refine(Z44 h1 i m).mono ?_
 rintro e w' ⟨rfl,U',k1,k2,k3⟩
 exact⟨rfl,Z8j H h2 k1 k2 k3⟩
end
section
variable {ops : Array Oper} {rest : List Oper} {o : Oper} {a : Act} {w : World} {Q : Exit → Act → World → Prop}
theorem Z2q {E:Prop} {K:Act→World→Prop} (hgd:o.guard=none) (ho:o.op= .alloc 108)
 (h:∀ g w',w.heap.size≤g→g < w'.heap.size→Cs w' g Fl.zero.cs→Below w.heap.size w w'→K (a.put o.dst (.pointer (some ⟨g,0,none⟩))) w'):if Region.wanted o (yielded ops a.tmps)=true then Oper.wp Tryz.prog o a w K Q else E:=
 Z0t 108 3 _ Z2t hgd ho h
theorem Z2r {E:Prop} {K:Act→World→Prop} (hgd:o.guard=none) (x y:Operand) (ho:o.op= .store 108 x y) (g:Nat) (hx:a.eval x= .pointer (some ⟨g,0,none⟩)) (f:Fl) (hy:a.eval y= .agg f.cs.toArray) (cs:List Value) (hR:Cs w g cs) (hl:cs.length=3)
 (h:∀ w',Cs w' g f.cs→Stp (fun x=>x=g) w w'→K (a.put o.dst undef) w'):if Region.wanted o (yielded ops a.tmps)=true then Oper.wp Tryz.prog o a w K Q else E:=
 Z0n 108 3 _ Z2t hgd x y ho g hx f.cs hy rfl f.cs_one cs hR hl h
theorem Z36 {E:Prop} {K:Act→World→Prop} (hgd:o.guard=none) (x y:Operand) (ho:o.op= .store 34 x y) (g:Nat) (hx:a.eval x= .pointer (some ⟨g,0,none⟩)) (A:List Value) (e:Int) (hA:AnE e A) (hy:a.eval y= .agg A.toArray) (cs:List Value) (hR:Cs w g cs) (hl:cs.length=7)
 (h:∀ w',Cs w' g A→Stp (fun x=>x=g) w w'→K (a.put o.dst undef) w'):if Region.wanted o (yielded ops a.tmps)=true then Oper.wp Tryz.prog o a w K Q else E:=
 Z0n 34 7 _ Z06 hgd x y ho g hx A hy hA.len hA.one cs hR hl h
end
theorem Z5d (n:Int) (w:World):(Instr.build 34 #[(1, .int .i64 n)]).run Tryz.prog w= .ok (.agg (anC 0 n nilV nilV 0 0 0).toArray) w:=by kernel_rfl
theorem Z3y {Z:Tz} {fd p:Int} (h:Z04 Z.t fd=0) (hp:0≤p):Z0w Z.t fd p=0:=by
 unfold Z04 at h
 unfold Z0w
 split
 · rw [if_neg (by omega)]
 · rename_i e;rw [if_neg e]at h;cases h
theorem Z3r {w wc wE:World} {tg tS:Nat→Nat} {g mb ob B ga:Nat} {q nb:Int→Nat} {sv:Int→Sv} {Z':Tz} {U:Nat→Prop} (hb:Below w.heap.size w wc) (hU:∀ x,U x↔tg x≠0) (z:w.heap.size≤ga) (HS:Tw wE tS g mb ob q nb sv B Z') (k:Stp (fun y=>tg y≠0∨y=ga) wc wE) (gr:∀ y,tS y≠0→tg y≠0∨wc.heap.size≤y):TxG U g q B Z' w wE:=by
 refine Z4m (tg:=tg) hU HS ((Stp.of_below hb U).next k (fun y e=>?_)) (fun y hy=>?_)
 · rcases e with e | e
   · exact .inl ((hU y).2 e)
   · exact .inr (by omega)
 · rcases gr y hy with e | e
   · exact .inl e
   · exact .inr (Nat.le_trans hb.size e)
set_option maxRecDepth 100000
def tlB (a:Option Addr) (c k:Nat):Option Addr:=if c=k then a else a.map (·.add k)
theorem Zcp:Tryz.prog.elem 29=5:=by kernel_rfl
theorem undB:Tryz.prog.underlying 29=some (.slice (Tryz.prog.elem 29)):=by rw [Zcp];exact elB.und
theorem sizB (w:World):(sizeOf 5).run Tryz.prog w= .ok 1 w:=by kernel_rfl
theorem Zdy (a:Option Addr) (n c l h:Nat) (h1:l≤h) (h2:h≤c) (w:World):(Instr.sliceAt 29 (.slice a n c) (some (.int .i64 (l:Int))) (some (.int .i64 (h:Int))) none).run Tryz.prog w= .ok (.slice (tlB a c l) (h - l) (c - l)) w:=by
 rw [run_sliceAt_slice (h:=undB),run_slice_lh (ht:=undB) (h0:=by omega) (h1:=by omega) (h2:=by omega),Zcp,sizB]
 simp only [Result.andThen,sliced,Int.toNat_natCast,Nat.mul_one]
 rfl
theorem Zad {w:World} {s:Sv} {d:List Int} (h:BsS w s d) (l r:Nat) (h1:l≤r) (h2:r≤s.n):BsS w ⟨tlB s.a s.c l,r - l,s.c - l⟩ ((d.drop l).take (r - l)):=by
 have hl:=h.len
 have hle:=h.le
 have hcap:=h.cap
 refine⟨by simp;omega,by show r - l≤s.c - l;omega,by show s.c - l≤maxLen;omega,fun e=>?_,fun x hx=>h.byte x (List.mem_of_mem_drop (List.mem_of_mem_take hx)),fun hn=>?_⟩
 · have :s.a=none:=by
    unfold tlB at e
    split at e
    · exact e
    · simpa using e
   have:=h.nil this
   show s.c - l=0;omega
 · have hn':0 < r - l:=hn
   obtain⟨b,o,e,hc⟩:=h.cell (by omega)
   refine⟨b,o+l,?_,fun i hi=>?_⟩
   · show tlB s.a s.c l=_
     unfold tlB
     rw [if_neg (by omega),e]
     simp only [Option.map_some,Addr.add_mid]
   · have hi':i < r - l:=hi
     rw [Nat.add_assoc,hc (l+i) (by omega),List.getD_eq_getElem?_getD,List.getD_eq_getElem?_getD,List.getElem?_take,if_pos hi',List.getElem?_drop]
section
variable {ops : Array Oper} {rest : List Oper} {o : Oper} {a : Act} {w : World} {Q : Exit → Act → World → Prop}
theorem Zab (hw:Region.wanted o (yielded ops a.tmps)=true) (x y z:Operand) (ho:o.op= .slice 29 x (some y) (some z) none) (s:Sv) (hx:a.eval x=s.v) (l r:Nat) (hy:a.eval y= .int .i64 (l:Int)) (hz:a.eval z= .int .i64 (r:Int)) (h1:l≤r) (h2:r≤s.c)
 (h:wpList Tryz.prog ops Q rest (a.put o.dst (.slice (tlB s.a s.c l) (r - l) (s.c - l))) w):wpList Tryz.prog ops Q (o::rest) a w:=by
 refine Z11 hw _ _ ?_ h
 simp only [Sv.v]at hx
 simp [execOp,ho,hx,hy,hz,Zdy s.a s.n s.c l r h1 h2]
end
set_option maxHeartbeats 2000000 in
theorem Z4n {w:World} {s:Sv} {l:List Int} (h:BsS w s l) (hl:l.length≤100000):
 Calls Tryz.prog 37 #[.slice s.a s.n s.c] w fun e w'=>∃ s':Sv,e= .returned (.slice s'.a s'.n s'.c)∧OwD w' s'.v l∧(∀ r,s'.v.ownBlock=some r→w.heap.size≤r)∧s'.n=l.length∧Below w.heap.size w w':=by
 have hlen:l.length=s.n:=h.len
 have hcs:=h.cells
 have qnB:∀ (w:World) (a:Option Addr) (n c n' c':Nat),(binOp .eql 29 (.slice a n c) (.slice none n' c')).run Tryz.prog w= .ok (.bool a.isNone) w:=fun w a n c n' c'=>Lib.run_eql_slice_nil w _ _ a n c n' c' elB.und
 have hz:=h.zero
 obtain⟨sa,sn,sc⟩:=s
 simp only at hlen hcs hz ⊢
 subst hlen
 cases sa with
 | none=>
   obtain⟨z1,z2,rfl⟩:=hz rfl
   subst z2
   go_enter Tryz.func37,Tryz.ntmps37
   go_wp2
   go_returns
   exact⟨Sv.nil,rfl,OwD.nil _,(fun r e=>by cases e),rfl,Below.refl _ _⟩
 | some ad=>
   have q0:(w.alloc (.cells #[] 5)).ownsRow 0 5 1 (.slice (some ⟨w.heap.size,0,none⟩) 0 0) 0 []:=World.ownsRow_made w #[] 0 (Nat.zero_le _) (Nat.zero_le _) rfl
   have hN:New w.heap.size (.slice (some ⟨w.heap.size,0,none⟩) 0 0):=fun r e=>by
    have:w.heap.size=r:=by simpa [Value.ownBlock]using e
    omega
   have hcs':∀ ad',some ad=some ad'→∀ j u,(l.map (Value.int .u8))[j]? =some u→(w.alloc (.cells #[] 5)).cell? (ad'.add j)=some u:=fun ad' e j u hu=>by
    have:=hcs ad' e j u hu
    rw [((Below.refl _ w).alloc (Nat.le_refl _) (.cells #[] 5)).cell (World.block_lt_of_cell? w _ this)];exact this
   go_enter Tryz.func37,Tryz.ntmps37
   go_wp2_with (first
    | (refine Z39 elB w.heap.size rfl _ _ (by rfl) (by rfl) q0 hN (some ad) sc (l.map (Value.int .u8)) (by rfl) (by simp) (fun e=>by cases e) hcs' (fun u hu=>by obtain⟨x,_,rfl⟩:=List.mem_map.1 hu;rfl) (by omega) (by simp) ?_;intro v' w' hA))
   go_returns
   obtain⟨h1,h2,h3,h4,h5⟩:=hA
   rw [Nat.zero_add,List.nil_append]at h1
   obtain⟨s',rfl,hs'⟩:=OwD.shape h1
   have k0:Stp (fun _=>False) w (w.alloc (.cells #[] 5)):=Stp.of_alloc _ _ _
   exact⟨s',rfl,h1,h2,hs',(k0.next h4 (F':=fun x=>some w.heap.size=some x) (fun x e=> .inr (by injection e with e;omega))).below (Nat.le_refl _) (fun x e=>e.elim)⟩
theorem bit1 {m:Int} (h:1≤m∧m≤3):bits .and .i64 m 1=m % 2:=by
 obtain rfl | rfl | rfl:m=1∨m=2∨m=3:=by omega
 all_goals decide+kernel
theorem bit2 {m:Int} (h:1≤m∧m≤3):bits .and .i64 m 2=if m < 2 then 0 else 2:=by
 obtain rfl | rfl | rfl:m=1∨m=2∨m=3:=by omega
 all_goals decide+kernel
section
variable {ops : Array Oper} {rest : List Oper} {o : Oper} {a : Act} {w : World} {Q : Exit → Act → World → Prop}
theorem Z14 (hw:Region.wanted o (yielded ops a.tmps)=true) (ho:o.op= .alloc 108)
 (h:∀ g w',w.heap.size≤g→g < w'.heap.size→Cs w' g Fl.zero.cs→Below w.heap.size w w'→wpList Tryz.prog ops Q rest (a.put o.dst (.pointer (some ⟨g,0,none⟩))) w'):wpList Tryz.prog ops Q (o::rest) a w:=Z0x hw ho h
end
def opnE (Z:Tz) (fd c:Int):Int:=if Z04 Z.t fd=0 then(if c=0 then 50 else 0)else 46
def opnF (Z:Tz) (fd c:Int):Fl:=if opnE Z fd c=0 then Z01 Z.t fd else Fl.zero
theorem Z35 {w:World} {U:Nat→Prop} {g B:Nat} {q:Int→Nat} {Z:Tz} (h:Tx w U g q B Z) (fd fl c:Int) (hc:bits .and .i64 (Z01 Z.t fd).m fl=c):
 Calls Tryz.prog 102 #[.pointer (some ⟨g,0,none⟩), .int .i64 fd, .int .i64 fl] w fun e w'=>e= .returned (.tuple #[.agg (opnF Z fd c).cs.toArray, .int .i64 (opnE Z fd c)])∧Below w.heap.size w w':=by
 have hG:=fun w' (b:Below w.heap.size w w') (tg mb ob nb sv) (H:Tw w' tg g mb ob q nb sv B Z)=>tget H fd
 have hU:=h.low
 rcases Z1p Z.t fd with h0 | h0
 · have hc':bits .and .i64 (Z01 Z.t fd).m fl=c:=hc
   by_cases h1:c=0
   · have e1:opnE Z fd c=50:=by unfold opnE;rw [if_pos h0,if_pos h1]
     have e2:opnF Z fd c=Fl.zero:=by unfold opnF;rw [if_neg (by rw [e1];decide)]
     rw [e1,e2]
     clear e1 e2
     rw [h1]at hc'
     go_enter Tryz.func102,Tryz.ntmps102
     go_wp2_with (first
      | (refine Z14 (by rfl) (by rfl) ?_;intro ga w1 z1 z2 r1 b1
         obtain⟨tg,mb,ob,nb,sv,H1,hU1⟩:=h.later b1
         have c2:=H1.c2)
      | (go_at_call 65;refine(tget H1 fd).mono ?_;rintro e w2 ⟨rfl,b2⟩
         rw [h0]
         have B2:=Z00q b1 b2 (Nat.le_refl _)
         have r12:=r1.later b2
         have zz2:=b2.size)
      | (refine Z14 (by rfl) (by rfl) ?_;intro gb w3 z3 z4 r3 b3
         have B3:=Z00q B2 b3 (Nat.le_refl _)
         have r13:=r12.later b3)
      | (refine Z10 (by rfl) _ _ (by rfl) gb (by rfl) (Z01 Z.t fd) (by rfl) _ r3 rfl ?_;intro w4 r4 s4
         have r14:=r13.step s4 (by omega)
         have c4:=r4.cell 2 _ rfl
         have B4:Below w.heap.size w w4:=((Stp.of_below B3 (fun _=>False)).next s4 (fun y e=> .inr (by have:=B2.size;omega))).below (Nat.le_refl _) (fun y e=>e.elim))
      | (refine Z10 (by rfl) _ _ (by rfl) ga (by rfl) Fl.zero (by rfl) _ r14 rfl ?_;intro w5 r5 s5))
     exact bodyPost_ret (Z0d Z2t Tryz.results102 rfl rfl r5 rfl) rfl ⟨rfl,((Stp.of_below B4 (fun _=>False)).next s5 (fun y e=> .inr (by omega))).below (Nat.le_refl _) (fun y e=>e.elim)⟩
   · have e1:opnE Z fd c=0:=by unfold opnE;rw [if_pos h0,if_neg h1]
     have e2:opnF Z fd c=Z01 Z.t fd:=by unfold opnF;rw [if_pos e1]
     rw [e1,e2]
     clear e1 e2
     go_enter Tryz.func102,Tryz.ntmps102
     go_wp2_with (first
      | (refine Z14 (by rfl) (by rfl) ?_;intro ga w1 z1 z2 r1 b1
         obtain⟨tg,mb,ob,nb,sv,H1,hU1⟩:=h.later b1
         have c2:=H1.c2)
      | (go_at_call 65;refine(tget H1 fd).mono ?_;rintro e w2 ⟨rfl,b2⟩
         rw [h0]
         have B2:=Z00q b1 b2 (Nat.le_refl _)
         have r12:=r1.later b2
         have zz2:=b2.size)
      | (refine Z14 (by rfl) (by rfl) ?_;intro gb w3 z3 z4 r3 b3
         have B3:=Z00q B2 b3 (Nat.le_refl _)
         have r13:=r12.later b3)
      | (refine Z10 (by rfl) _ _ (by rfl) gb (by rfl) (Z01 Z.t fd) (by rfl) _ r3 rfl ?_;intro w4 r4 s4
         have r14:=r13.step s4 (by omega)
         have c4:=r4.cell 2 _ rfl
         have B4:Below w.heap.size w w4:=((Stp.of_below B3 (fun _=>False)).next s4 (fun y e=> .inr (by have:=B2.size;omega))).below (Nat.le_refl _) (fun y e=>e.elim))
      | (refine Z5q (by rfl) _ (by rfl) gb (by rfl) (Z01 Z.t fd) r4 ?_)
      | (refine Z10 (by rfl) _ _ (by rfl) ga (by rfl) (Z01 Z.t fd) (by rfl) _ r14 rfl ?_;intro w5 r5 s5))
     exact bodyPost_ret (Z0d Z2t Tryz.results102 rfl rfl r5 rfl) rfl ⟨rfl,((Stp.of_below B4 (fun _=>False)).next s5 (fun y e=> .inr (by omega))).below (Nat.le_refl _) (fun y e=>e.elim)⟩
 · have e1:opnE Z fd c=46:=by unfold opnE;rw [if_neg (by rw [h0];decide)]
   have e2:opnF Z fd c=Fl.zero:=by unfold opnF;rw [if_neg (by rw [e1];decide)]
   rw [e1,e2]
   clear e1 e2
   go_enter Tryz.func102,Tryz.ntmps102
   go_wp2_with (first
    | (refine Z14 (by rfl) (by rfl) ?_;intro ga w1 z1 z2 r1 b1
       obtain⟨tg,mb,ob,nb,sv,H1,hU1⟩:=h.later b1
       have c2:=H1.c2)
    | (go_at_call 65;refine(tget H1 fd).mono ?_;rintro e w2 ⟨rfl,b2⟩
       rw [h0]
       have B2:=Z00q b1 b2 (Nat.le_refl _)
       have r12:=r1.later b2
       have zz2:=b2.size)
    | (refine Z14 (by rfl) (by rfl) ?_;intro gb w3 z3 z4 r3 b3
       have B3:=Z00q B2 b3 (Nat.le_refl _)
       have r13:=r12.later b3)
    | (refine Z10 (by rfl) _ _ (by rfl) gb (by rfl) (Z01 Z.t fd) (by rfl) _ r3 rfl ?_;intro w4 r4 s4
       have r14:=r13.step s4 (by omega)
       have B4:Below w.heap.size w w4:=((Stp.of_below B3 (fun _=>False)).next s4 (fun y e=> .inr (by have:=B2.size;omega))).below (Nat.le_refl _) (fun y e=>e.elim))
    | (refine Z10 (by rfl) _ _ (by rfl) ga (by rfl) Fl.zero (by rfl) _ r14 rfl ?_;intro w5 r5 s5))
   exact bodyPost_ret (Z0d Z2t Tryz.results102 rfl rfl r5 rfl) rfl ⟨rfl,((Stp.of_below B4 (fun _=>False)).next s5 (fun y e=> .inr (by omega))).below (Nat.le_refl _) (fun y e=>e.elim)⟩
end Go.Proofs.YtdnjddpfcgginaaGreat
