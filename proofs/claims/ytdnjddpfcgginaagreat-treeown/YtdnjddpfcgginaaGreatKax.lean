/-
  Texts of my own, joined: no statement is proved here.
-/
import Derived.Test.YtdnjddpfcgginaaGreatKam
set_option linter.unusedSimpArgs false
set_option linter.unusedVariables false
namespace Go.Proofs.YtdnjddpfcgginaaGreat
open Go.ChangeShapes Go.WideShapes Go.ChangeAt Go.RowKit
set_option maxRecDepth 100000
theorem Z56 {w:World} {U:Nat→Prop} {g B n:Nat} {q:Int→Nat} {Z:Tz} (h:Tx w U g q B Z) (hz:Z.ok n) (hn:n≤900) (hB:B≤900) (o:Oz) (ho:o.wfo) (s:Sv):
 Calls Tryz.prog 61 #[.pointer (some ⟨g,0,none⟩), .agg (opC o s).toArray] w fun e w'=>Ret e U g B Z (Z.unS o) (Z.ulE o) w w':=by
 have hm:n+2≤1000:=by omega
 have hU:=h.low
 have hP:=fun w' (b:Below w.heap.size w w')=>Z1k (h.later b) hz hm o.p ho.p 43 (by decide)
 by_cases h1:Z.paE o.p 43=0
 · obtain⟨p1,p2,p3⟩:=Z1f hz (by decide) h1
   rw [Z1r h1,h1]at hP
   by_cases h2:Z.paI o.p=0
   · have eE:Z.ulE o=40:=by unfold Tz.ulE;rw [if_pos h1,if_pos h2]
     rw [eE]
     rw [h2]at hP
     clear eE
     go_enter Tryz.func61,Tryz.ntmps61
     go_wp2_with (first
      | (refine Z05 (by rfl) _ (by rfl) o s (by rfl) ?_;intro g1 w1 z1 z2 r1 b1
         have c10:=r1.cell 0 _ rfl
         have c11:=r1.cell 1 _ rfl
         have c12:=r1.cell 2 _ rfl
         have c13:=r1.cell 3 _ rfl
         have c14:=r1.cell 4 _ rfl
         have c15:=r1.cell 5 _ rfl
         have c16:=r1.cell 6 _ rfl)
      | (refine Z02 (by rfl) (by rfl) ?_;intro g2 w2 z3 z4 r2 b2
         have B2:=Z00q b1 b2 (Nat.le_refl _)
         have r12:=r1.later b2
         clear c10 c11 c12 c13 c14 c15 c16
         have c10:=r12.cell 0 _ rfl
         have c11:=r12.cell 1 _ rfl
         have c12:=r12.cell 2 _ rfl
         have c13:=r12.cell 3 _ rfl
         have c14:=r12.cell 4 _ rfl
         have c15:=r12.cell 5 _ rfl
         have c16:=r12.cell 6 _ rfl)
      | (go_at_call 94;refine(hP _ B2).mono ?_;rintro e w3 ⟨rfl,b3⟩;clear hP
         have B3:=Z00q B2 b3 (Nat.le_refl _)
         have zz3:=B3.size)
      | (refine Z08 (by rfl) (by rfl) ?_;intro g3 w4 z5 z6 r4 b4
         have B4:=Z00q B3 b4 (Nat.le_refl _))
      | (refine Z09 (by rfl) _ _ (by rfl) g3 (by rfl) (some (q (Z.paD o.p))) (lsS o.p) 0 (by rfl) _ r4 rfl ?_;intro w5 r5 s5
         have B5:Below w.heap.size w w5:=((Stp.of_below B4 (fun _=>False)).next s5 (fun y e=> .inr (by omega))).below (Nat.le_refl _) (fun y e=>e.elim)
         have d2:=r5.cell 2 _ rfl
         have r25:Cs w5 g2 anZ:=((r2.later b3).later b4).step s5 (fun e=>by have:=b3.size;omega)
         have gl3:=r5.lt)
      | (refine Z03 (by rfl) _ _ (by rfl) g2 (by rfl) anZ 0 Z0c (by rfl) _ r25 rfl ?_;intro w9 r9 s9))
     exact bodyPost_ret (Z0d Z06 Tryz.results61 rfl rfl r9 rfl) rfl (Z0q (by decide) (TxG.same h B5 (by omega) s9))
   · have hk:(Z.nd (Z.paI o.p)).k≠0:=by
      rcases p3 with p3 | p3
      · exact absurd p3 h2
      · exact p3.2
     have hi2:2≤Z.paI o.p:=by
      rcases p3 with p3 | p3
      · exact absurd p3 h2
      · exact p3.1
     have hD:=fun w' (b:Below w.heap.size w w')=>Z1u (h.later b) hz hm hk
     by_cases h3:(Z.nd (Z.paI o.p)).k=2
     · have eE:Z.ulE o=43:=by unfold Tz.ulE;rw [if_pos h1,if_neg h2,if_pos h3]
       rw [eE]
       rw [h3]at hD
       clear eE
       go_enter Tryz.func61,Tryz.ntmps61
       go_wp2_with (first
       | (refine Z05 (by rfl) _ (by rfl) o s (by rfl) ?_;intro g1 w1 z1 z2 r1 b1
          have c10:=r1.cell 0 _ rfl
          have c11:=r1.cell 1 _ rfl
          have c12:=r1.cell 2 _ rfl
          have c13:=r1.cell 3 _ rfl
          have c14:=r1.cell 4 _ rfl
          have c15:=r1.cell 5 _ rfl
          have c16:=r1.cell 6 _ rfl)
       | (refine Z02 (by rfl) (by rfl) ?_;intro g2 w2 z3 z4 r2 b2
          have B2:=Z00q b1 b2 (Nat.le_refl _)
          have r12:=r1.later b2
          clear c10 c11 c12 c13 c14 c15 c16
          have c10:=r12.cell 0 _ rfl
          have c11:=r12.cell 1 _ rfl
          have c12:=r12.cell 2 _ rfl
          have c13:=r12.cell 3 _ rfl
          have c14:=r12.cell 4 _ rfl
          have c15:=r12.cell 5 _ rfl
          have c16:=r12.cell 6 _ rfl)
       | (go_at_call 94;refine(hP _ B2).mono ?_;rintro e w3 ⟨rfl,b3⟩;clear hP
          have B3:=Z00q B2 b3 (Nat.le_refl _)
          have zz3:=B3.size)
       | (refine Z08 (by rfl) (by rfl) ?_;intro g3 w4 z5 z6 r4 b4
          have B4:=Z00q B3 b4 (Nat.le_refl _))
       | (refine Z09 (by rfl) _ _ (by rfl) g3 (by rfl) (some (q (Z.paD o.p))) (lsS o.p) (Z.paI o.p) (by rfl) _ r4 rfl ?_;intro w5 r5 s5
          have B5:Below w.heap.size w w5:=((Stp.of_below B4 (fun _=>False)).next s5 (fun y e=> .inr (by omega))).below (Nat.le_refl _) (fun y e=>e.elim)
          have d2:=r5.cell 2 _ rfl
          have r25:Cs w5 g2 anZ:=((r2.later b3).later b4).step s5 (fun e=>by have:=b3.size;omega)
          have gl3:=r5.lt)
       | (go_at_call 104;refine(hD _ B5).mono ?_;rintro e u ⟨rfl,rfl⟩)
       | (refine Z03 (by rfl) _ _ (by rfl) g2 (by rfl) anZ 0 Z0c (by rfl) _ r25 rfl ?_;intro w9 r9 s9))
       exact bodyPost_ret (Z0d Z06 Tryz.results61 rfl rfl r9 rfl) rfl (Z0q (by decide) (TxG.same h B5 (by omega) s9))
     · have eE:Z.ulE o=0:=by unfold Tz.ulE;rw [if_pos h1,if_neg h2,if_neg h3]
       rw [eE]
       rw [decide_eq_false h3]at hD
       have hN:=fun w' (b:Below w.heap.size w w')=>Z3b (h.later b) hz hm Z2l p1 (lsS o.p) rfl hi2 (Z3i p2).2.2
       change ∀ w' (b:Below w.heap.size w w'),Calls Tryz.prog _ #[_, .agg (spC _ _ (Z.paI o.p)).toArray] _ _ at hN
       clear eE
       go_enter Tryz.func61,Tryz.ntmps61
       go_wp2_with (first
       | (refine Z05 (by rfl) _ (by rfl) o s (by rfl) ?_;intro g1 w1 z1 z2 r1 b1
          have c10:=r1.cell 0 _ rfl
          have c11:=r1.cell 1 _ rfl
          have c12:=r1.cell 2 _ rfl
          have c13:=r1.cell 3 _ rfl
          have c14:=r1.cell 4 _ rfl
          have c15:=r1.cell 5 _ rfl
          have c16:=r1.cell 6 _ rfl)
       | (refine Z02 (by rfl) (by rfl) ?_;intro g2 w2 z3 z4 r2 b2
          have B2:=Z00q b1 b2 (Nat.le_refl _)
          have r12:=r1.later b2
          clear c10 c11 c12 c13 c14 c15 c16
          have c10:=r12.cell 0 _ rfl
          have c11:=r12.cell 1 _ rfl
          have c12:=r12.cell 2 _ rfl
          have c13:=r12.cell 3 _ rfl
          have c14:=r12.cell 4 _ rfl
          have c15:=r12.cell 5 _ rfl
          have c16:=r12.cell 6 _ rfl)
       | (go_at_call 94;refine(hP _ B2).mono ?_;rintro e w3 ⟨rfl,b3⟩;clear hP
          have B3:=Z00q B2 b3 (Nat.le_refl _)
          have zz3:=B3.size)
       | (refine Z08 (by rfl) (by rfl) ?_;intro g3 w4 z5 z6 r4 b4
          have B4:=Z00q B3 b4 (Nat.le_refl _))
       | (refine Z09 (by rfl) _ _ (by rfl) g3 (by rfl) (some (q (Z.paD o.p))) (lsS o.p) (Z.paI o.p) (by rfl) _ r4 rfl ?_;intro w5 r5 s5
          have B5:Below w.heap.size w w5:=((Stp.of_below B4 (fun _=>False)).next s5 (fun y e=> .inr (by omega))).below (Nat.le_refl _) (fun y e=>e.elim)
          have d2:=r5.cell 2 _ rfl
          have r25:Cs w5 g2 anZ:=((r2.later b3).later b4).step s5 (fun e=>by have:=b3.size;omega)
          have gl3:=r5.lt)
       | (go_at_call 104;refine(hD _ B5).mono ?_;rintro e u ⟨rfl,rfl⟩)
       | (refine Z2f (by rfl) _ (by rfl) g3 (by rfl) (some (q (Z.paD o.p))) (lsS o.p) (Z.paI o.p) r5 ?_)
       | (go_at_call 105;refine(hN _ B5).mono ?_;rintro e w6 ⟨rfl,G6⟩
          have nU2:¬U g2:=fun e=>by have:=hU g2 e;have:=b1.size;omega
          have r26:=r25.step G6.stp nU2)
       | (refine Z03 (by rfl) _ _ (by rfl) g2 (by rfl) anZ 0 Z0c (by rfl) _ r26 rfl ?_;intro w9 r9 s9))
       exact bodyPost_ret (Z0d Z06 Tryz.results61 rfl rfl r9 rfl) rfl (Z16 Z0c ((TxG.fin hU B5 G6 (by omega) r25.lt s9).more (Nat.le_succ B)))
 · have eE:Z.ulE o=Z.paE o.p 43:=by unfold Tz.ulE;rw [if_neg h1]
   rw [Z1o h1]at hP
   rw [eE]
   clear eE
   go_enter Tryz.func61,Tryz.ntmps61
   go_wp2_with (first
    | (refine Z05 (by rfl) _ (by rfl) o s (by rfl) ?_;intro g1 w1 z1 z2 r1 b1
       have c10:=r1.cell 0 _ rfl
       have c11:=r1.cell 1 _ rfl
       have c12:=r1.cell 2 _ rfl
       have c13:=r1.cell 3 _ rfl
       have c14:=r1.cell 4 _ rfl
       have c15:=r1.cell 5 _ rfl
       have c16:=r1.cell 6 _ rfl)
    | (refine Z02 (by rfl) (by rfl) ?_;intro g2 w2 z3 z4 r2 b2
       have B2:=Z00q b1 b2 (Nat.le_refl _)
       have r12:=r1.later b2
       clear c10 c11 c12 c13 c14 c15 c16
       have c10:=r12.cell 0 _ rfl
       have c11:=r12.cell 1 _ rfl
       have c12:=r12.cell 2 _ rfl
       have c13:=r12.cell 3 _ rfl
       have c14:=r12.cell 4 _ rfl
       have c15:=r12.cell 5 _ rfl
       have c16:=r12.cell 6 _ rfl)
    | (go_at_call 94;refine(hP _ B2).mono ?_;rintro e w3 ⟨rfl,b3⟩;clear hP
       have B3:=Z00q B2 b3 (Nat.le_refl _)
       have zz3:=B3.size)
    | (refine Z08 (by rfl) (by rfl) ?_;intro g3 w4 z5 z6 r4 b4
       have B4:=Z00q B3 b4 (Nat.le_refl _))
    | (refine Z09 (by rfl) _ _ (by rfl) g3 (by rfl) none [] 0 (by rfl) _ r4 rfl ?_;intro w5 r5 s5
       have B5:Below w.heap.size w w5:=((Stp.of_below B4 (fun _=>False)).next s5 (fun y e=> .inr (by omega))).below (Nat.le_refl _) (fun y e=>e.elim)
       have d2:=r5.cell 2 _ rfl
       have r25:Cs w5 g2 anZ:=((r2.later b3).later b4).step s5 (fun e=>by have:=b3.size;omega)
       have gl3:=r5.lt)
    | (refine Z03 (by rfl) _ _ (by rfl) g2 (by rfl) anZ 0 Z0c (by rfl) _ r25 rfl ?_;intro w9 r9 s9))
   exact bodyPost_ret (Z0d Z06 Tryz.results61 rfl rfl r9 rfl) rfl (Z0q h1 (TxG.same h B5 (by omega) s9))
set_option maxRecDepth 100000
theorem Zd2 {w:World} {U:Nat→Prop} {g B n:Nat} {q:Int→Nat} {Z:Tz} (h:Tx w U g q B Z) (hz:Z.ok n) (hn:n≤900) (hB:B≤900) (o:Oz) (ho:o.wfo) (s:Sv):
 Calls Tryz.prog 57 #[.pointer (some ⟨g,0,none⟩), .agg (opC o s).toArray] w fun e w'=>Ret e U g B Z (Z.cuS o) (Z.cuE o) w w':=by
 have hm:n+2≤1000:=by omega
 have hU:=h.low
 have hW:=fun w' (b:Below w.heap.size w w')=>Z2z (h.later b) hz hm o.p ho.p
 by_cases h1:(Z.wa o.p).2=0
 · have hk:=Z2d hz h1
   have hD:=fun w' (b:Below w.heap.size w w')=>Z1u (h.later b) hz hm hk
   rw [h1]at hW
   by_cases h2:(Z.nd (Z.wa o.p).1).k=2
   · have eE:Z.cuE o=43:=by unfold Tz.cuE;rw [if_pos h1,if_pos h2]
     rw [eE]
     rw [h2]at hD
     clear eE
     go_enter Tryz.func57,Tryz.ntmps57
     go_wp2_with (first
      | (refine Z05 (by rfl) _ (by rfl) o s (by rfl) ?_;intro g1 w1 z1 z2 r1 b1
         have c10:=r1.cell 0 _ rfl
         have c11:=r1.cell 1 _ rfl
         have c12:=r1.cell 2 _ rfl
         have c13:=r1.cell 3 _ rfl
         have c14:=r1.cell 4 _ rfl
         have c15:=r1.cell 5 _ rfl
         have c16:=r1.cell 6 _ rfl)
      | (refine Z02 (by rfl) (by rfl) ?_;intro g2 w2 z3 z4 r2 b2
         have B2:=Z00q b1 b2 (Nat.le_refl _)
         have r12:=r1.later b2
         clear c10 c11 c12 c13 c14 c15 c16
         have c10:=r12.cell 0 _ rfl
         have c11:=r12.cell 1 _ rfl
         have c12:=r12.cell 2 _ rfl
         have c13:=r12.cell 3 _ rfl
         have c14:=r12.cell 4 _ rfl
         have c15:=r12.cell 5 _ rfl
         have c16:=r12.cell 6 _ rfl)
      | (go_at_call 13;refine(hW _ B2).mono ?_;rintro e w3 ⟨rfl,b3⟩;clear hW
         have B3:=Z00q B2 b3 (Nat.le_refl _)
         have zz3:=B3.size
         have r13:=r12.later b3
         have r23:=r2.later b3
         clear c10 c11 c12 c13 c14 c15 c16
         have c12:=r13.cell 2 _ rfl
         have c14:=r13.cell 4 _ rfl)
      | (go_at_call 104;refine(hD _ B3).mono ?_;rintro e u ⟨rfl,rfl⟩)
      | (refine Z03 (by rfl) _ _ (by rfl) g2 (by rfl) anZ 0 Z0c (by rfl) _ r23 rfl ?_;intro w9 r9 s9))
     exact bodyPost_ret (Z0d Z06 Tryz.results57 rfl rfl r9 rfl) rfl (Z0q (by decide) (TxG.same h B3 (by omega) s9))
   rw [decide_eq_false h2]at hD
   have hnw:=Z28 ho.n
   by_cases h3:o.n < 0
   · have eE:Z.cuE o=2:=by unfold Tz.cuE;rw [if_pos h1,if_neg h2,if_pos h3]
     rw [eE]
     clear eE
     go_enter Tryz.func57,Tryz.ntmps57
     go_wp2_with (first
      | (refine Z05 (by rfl) _ (by rfl) o s (by rfl) ?_;intro g1 w1 z1 z2 r1 b1
         have c10:=r1.cell 0 _ rfl
         have c11:=r1.cell 1 _ rfl
         have c12:=r1.cell 2 _ rfl
         have c13:=r1.cell 3 _ rfl
         have c14:=r1.cell 4 _ rfl
         have c15:=r1.cell 5 _ rfl
         have c16:=r1.cell 6 _ rfl)
      | (refine Z02 (by rfl) (by rfl) ?_;intro g2 w2 z3 z4 r2 b2
         have B2:=Z00q b1 b2 (Nat.le_refl _)
         have r12:=r1.later b2
         clear c10 c11 c12 c13 c14 c15 c16
         have c10:=r12.cell 0 _ rfl
         have c11:=r12.cell 1 _ rfl
         have c12:=r12.cell 2 _ rfl
         have c13:=r12.cell 3 _ rfl
         have c14:=r12.cell 4 _ rfl
         have c15:=r12.cell 5 _ rfl
         have c16:=r12.cell 6 _ rfl)
      | (go_at_call 13;refine(hW _ B2).mono ?_;rintro e w3 ⟨rfl,b3⟩;clear hW
         have B3:=Z00q B2 b3 (Nat.le_refl _)
         have zz3:=B3.size
         have r13:=r12.later b3
         have r23:=r2.later b3
         clear c10 c11 c12 c13 c14 c15 c16
         have c12:=r13.cell 2 _ rfl
         have c14:=r13.cell 4 _ rfl)
      | (go_at_call 104;refine(hD _ B3).mono ?_;rintro e u ⟨rfl,rfl⟩)
      | (refine Z03 (by rfl) _ _ (by rfl) g2 (by rfl) anZ 0 Z0c (by rfl) _ r23 rfl ?_;intro w9 r9 s9))
     exact bodyPost_ret (Z0d Z06 Tryz.results57 rfl rfl r9 rfl) rfl (Z0q (by decide) (TxG.same h B3 (by omega) s9))
   by_cases h4:48640 < o.n
   · have eE:Z.cuE o=31:=by unfold Tz.cuE;rw [if_pos h1,if_neg h2,if_neg h3,if_pos h4]
     rw [eE]
     clear eE
     go_enter Tryz.func57,Tryz.ntmps57
     go_wp2_with (first
      | (refine Z05 (by rfl) _ (by rfl) o s (by rfl) ?_;intro g1 w1 z1 z2 r1 b1
         have c10:=r1.cell 0 _ rfl
         have c11:=r1.cell 1 _ rfl
         have c12:=r1.cell 2 _ rfl
         have c13:=r1.cell 3 _ rfl
         have c14:=r1.cell 4 _ rfl
         have c15:=r1.cell 5 _ rfl
         have c16:=r1.cell 6 _ rfl)
      | (refine Z02 (by rfl) (by rfl) ?_;intro g2 w2 z3 z4 r2 b2
         have B2:=Z00q b1 b2 (Nat.le_refl _)
         have r12:=r1.later b2
         clear c10 c11 c12 c13 c14 c15 c16
         have c10:=r12.cell 0 _ rfl
         have c11:=r12.cell 1 _ rfl
         have c12:=r12.cell 2 _ rfl
         have c13:=r12.cell 3 _ rfl
         have c14:=r12.cell 4 _ rfl
         have c15:=r12.cell 5 _ rfl
         have c16:=r12.cell 6 _ rfl)
      | (go_at_call 13;refine(hW _ B2).mono ?_;rintro e w3 ⟨rfl,b3⟩;clear hW
         have B3:=Z00q B2 b3 (Nat.le_refl _)
         have zz3:=B3.size
         have r13:=r12.later b3
         have r23:=r2.later b3
         clear c10 c11 c12 c13 c14 c15 c16
         have c12:=r13.cell 2 _ rfl
         have c14:=r13.cell 4 _ rfl)
      | (go_at_call 104;refine(hD _ B3).mono ?_;rintro e u ⟨rfl,rfl⟩)
      | (refine Z03 (by rfl) _ _ (by rfl) g2 (by rfl) anZ 0 Z0c (by rfl) _ r23 rfl ?_;intro w9 r9 s9))
     exact bodyPost_ret (Z0d Z06 Tryz.results57 rfl rfl r9 rfl) rfl (Z0q (by decide) (TxG.same h B3 (by omega) s9))
   have eE:Z.cuE o=0:=by unfold Tz.cuE;rw [if_pos h1,if_neg h2,if_neg h3,if_neg h4]
   rw [eE]
   clear eE
   obtain⟨N,hN⟩:∃ N:Nat,o.n=(N:Int):=⟨o.n.toNat,by omega⟩
   have hR:=fun w' (b:Below w.heap.size w w')=>Z4z (h.later b) hz hk N (by omega)
   have eS:Hid (Z.cuS o=Z.dat (Z.wa o.p).1 (ctB' (Z.nd (Z.wa o.p).1).d N)):=by show _=_;unfold Tz.cuS;rw [hN,Int.toNat_natCast]
   go_enter Tryz.func57,Tryz.ntmps57
   go_wp2_with (first
    | (refine Z05 (by rfl) _ (by rfl) o s (by rfl) ?_;intro g1 w1 z1 z2 r1 b1
       have c10:=r1.cell 0 _ rfl
       have c11:=r1.cell 1 _ rfl
       have c12:=r1.cell 2 _ rfl
       have c13:=r1.cell 3 _ rfl
       have c14:=r1.cell 4 _ rfl
       have c15:=r1.cell 5 _ rfl
       have c16:=r1.cell 6 _ rfl)
    | (refine Z02 (by rfl) (by rfl) ?_;intro g2 w2 z3 z4 r2 b2
       have B2:=Z00q b1 b2 (Nat.le_refl _)
       have r12:=r1.later b2
       clear c10 c11 c12 c13 c14 c15 c16
       have c10:=r12.cell 0 _ rfl
       have c11:=r12.cell 1 _ rfl
       have c12:=r12.cell 2 _ rfl
       have c13:=r12.cell 3 _ rfl
       have c14:=r12.cell 4 _ rfl
       have c15:=r12.cell 5 _ rfl
       have c16:=r12.cell 6 _ rfl)
    | (go_at_call 13;refine(hW _ B2).mono ?_;rintro e w3 ⟨rfl,b3⟩;clear hW
       have B3:=Z00q B2 b3 (Nat.le_refl _)
       have zz3:=B3.size
       have r13:=r12.later b3
       have r23:=r2.later b3
       clear c10 c11 c12 c13 c14 c15 c16
       have c12:=r13.cell 2 _ rfl
       have c14:=r13.cell 4 _ rfl)
    | (go_at_call 104;refine(hD _ B3).mono ?_;rintro e u ⟨rfl,rfl⟩))
   obtain⟨tg,mb,ob,nb,sv,H3,hU3⟩:=h.later B3
   refine Z0p (S:=fun u=>Below w3.heap.size w3 u) _ _ (by simp only [List.pop_toArray,List.dropLast_cons_cons,List.dropLast_singleton];rfl) (by simp only [List.back?_toArray,List.getLast?_cons_cons,List.getLast?_singleton];rfl) (by kernel_rfl) (by kernel_rfl) (Below.refl _ _).drew (fun hHeld=>?_)
   refine tl 0 (.pointer (some ⟨g,0,none⟩)) rfl ?_
   try simp only [z]
   refine tl 1 (.pointer (some ⟨g,0,none⟩)) rfl ?_
   try simp only [z]
   refine tl 2 (.pointer (some ⟨g,0,none⟩)) rfl ?_
   try simp only [z]
   refine tl 3 (.map (some mb)) rfl ?_ (fun u hu=>by have x1:=(H3.later hu).c0;go_simp)
   try simp only [z]
   refine tl 4 (.int .i64 (Z.wa o.p).1) rfl ?_
   try simp only [z]
   refine tl 5 (.pointer (some ⟨q (Z.wa o.p).1,0,none⟩)) rfl ?_ (fun u hu=>by have x1:=(H3.later hu).look hk (Z13 hz hm hk);go_simp)
   try simp only [z]
   refine tl 6 (.pointer (some ⟨g1,4,none⟩)) rfl ?_
   try simp only [z]
   refine tl 7 (.int .i64 (N:Int)) rfl ?_ (fun u hu=>by have x1:=(r13.later hu).cell 4 _ rfl;rw [hN]at x1;go_simp)
   try simp only [z]
   refine wpAnyH_done (by kernel_rfl) ?_ _
   have B4:=Z00q B3 hHeld (Nat.le_refl _)
   have r24:=r23.later hHeld
   generalize w3.drew=w4 at *
   show wpList _ _ _ [_] _ _
   go_wp2_with (first
    | (go_at_call 98;refine(hR _ B4).mono ?_;rintro e w6 ⟨rfl,G6⟩
       have nU2:¬U g2:=fun e=>by have:=hU g2 e;have:=b1.size;omega
       have r26:=r24.step G6.stp nU2)
    | (refine Z03 (by rfl) _ _ (by rfl) g2 (by rfl) anZ 0 Z0c (by rfl) _ r26 rfl ?_;intro w9 r9 s9))
   rw [eS.out]
   exact bodyPost_ret (Z0d Z06 Tryz.results57 rfl rfl r9 rfl) rfl (Z16 Z0c ((TxG.fin hU B4 G6 (by omega) r24.lt s9).more (Nat.le_succ B)))
 · have eE:Z.cuE o=(Z.wa o.p).2:=by unfold Tz.cuE;rw [if_neg h1]
   rw [eE]
   clear eE
   go_enter Tryz.func57,Tryz.ntmps57
   go_wp2_with (first
    | (refine Z05 (by rfl) _ (by rfl) o s (by rfl) ?_;intro g1 w1 z1 z2 r1 b1
       have c10:=r1.cell 0 _ rfl
       have c11:=r1.cell 1 _ rfl
       have c12:=r1.cell 2 _ rfl
       have c13:=r1.cell 3 _ rfl
       have c14:=r1.cell 4 _ rfl
       have c15:=r1.cell 5 _ rfl
       have c16:=r1.cell 6 _ rfl)
    | (refine Z02 (by rfl) (by rfl) ?_;intro g2 w2 z3 z4 r2 b2
       have B2:=Z00q b1 b2 (Nat.le_refl _)
       have r12:=r1.later b2
       clear c10 c11 c12 c13 c14 c15 c16
       have c10:=r12.cell 0 _ rfl
       have c11:=r12.cell 1 _ rfl
       have c12:=r12.cell 2 _ rfl
       have c13:=r12.cell 3 _ rfl
       have c14:=r12.cell 4 _ rfl
       have c15:=r12.cell 5 _ rfl
       have c16:=r12.cell 6 _ rfl)
    | (go_at_call 13;refine(hW _ B2).mono ?_;rintro e w3 ⟨rfl,b3⟩;clear hW
       have B3:=Z00q B2 b3 (Nat.le_refl _)
       have zz3:=B3.size
       have r13:=r12.later b3
       have r23:=r2.later b3
       clear c10 c11 c12 c13 c14 c15 c16
       have c12:=r13.cell 2 _ rfl
       have c14:=r13.cell 4 _ rfl)
    | (refine Z03 (by rfl) _ _ (by rfl) g2 (by rfl) anZ 0 Z0c (by rfl) _ r23 rfl ?_;intro w9 r9 s9))
   exact bodyPost_ret (Z0d Z06 Tryz.results57 rfl rfl r9 rfl) rfl (Z0q h1 (TxG.same h B3 (by omega) s9))
set_option maxRecDepth 100000
theorem Z2y {w:World} {U:Nat→Prop} {g B n:Nat} {q:Int→Nat} {Z:Tz} (h:Tx w U g q B Z) (hz:Z.ok n) (hn:n≤900) (hB:B≤900) (o:Oz) (ho:o.wfo) (s:Sv):
 Calls Tryz.prog 60 #[.pointer (some ⟨g,0,none⟩), .agg (opC o s).toArray] w fun e w'=>Ret e U g B Z (Z.liS o) (Z.liE o) w w':=by
 have hm:n+2≤1000:=by omega
 have hU:=h.low
 have hW:=fun w' (b:Below w.heap.size w w')=>Z2z (h.later b) hz hm o.p ho.p
 have hP:=fun w' (b:Below w.heap.size w w')=>Z1k (h.later b) hz hm o.q ho.q 41 (by decide)
 by_cases h1:(Z.wa o.p).2=0
 · have hk:=Z2d hz h1
   have hD:=fun w' (b:Below w.heap.size w w')=>Z1u (h.later b) hz hm hk
   rw [h1]at hW
   by_cases h2:(Z.nd (Z.wa o.p).1).k=2
   · have eE:Z.liE o=43:=by unfold Tz.liE;rw [if_pos h1,if_pos h2]
     rw [eE]
     rw [h2]at hD
     clear eE
     go_enter Tryz.func60,Tryz.ntmps60
     go_wp2_with (first
      | (refine Z05 (by rfl) _ (by rfl) o s (by rfl) ?_;intro g1 w1 z1 z2 r1 b1
         have c10:=r1.cell 0 _ rfl
         have c11:=r1.cell 1 _ rfl
         have c12:=r1.cell 2 _ rfl
         have c13:=r1.cell 3 _ rfl
         have c14:=r1.cell 4 _ rfl
         have c15:=r1.cell 5 _ rfl
         have c16:=r1.cell 6 _ rfl)
      | (refine Z02 (by rfl) (by rfl) ?_;intro g2 w2 z3 z4 r2 b2
         have B2:=Z00q b1 b2 (Nat.le_refl _)
         have r12:=r1.later b2
         clear c10 c11 c12 c13 c14 c15 c16
         have c10:=r12.cell 0 _ rfl
         have c11:=r12.cell 1 _ rfl
         have c12:=r12.cell 2 _ rfl
         have c13:=r12.cell 3 _ rfl
         have c14:=r12.cell 4 _ rfl
         have c15:=r12.cell 5 _ rfl
         have c16:=r12.cell 6 _ rfl)
      | (go_at_call 13;refine(hW _ B2).mono ?_;rintro e w3 ⟨rfl,b3⟩;clear hW
         have B3:=Z00q B2 b3 (Nat.le_refl _)
         have zz3:=B3.size
         have r13:=r12.later b3
         have r23:=r2.later b3
         clear c10 c11 c12 c13 c14 c15 c16
         have c12:=r13.cell 2 _ rfl
         have c14:=r13.cell 4 _ rfl)
      | (go_at_call 104;refine(hD _ B3).mono ?_;rintro e u ⟨rfl,rfl⟩)
      | (refine Z03 (by rfl) _ _ (by rfl) g2 (by rfl) anZ 0 Z0c (by rfl) _ r23 rfl ?_;intro w9 r9 s9))
     exact bodyPost_ret (Z0d Z06 Tryz.results60 rfl rfl r9 rfl) rfl (Z0q (by decide) (TxG.same h B3 (by omega) s9))
   rw [decide_eq_false h2]at hD
   by_cases h3:Z.paE o.q 41=0
   · obtain⟨p1,p2,p3⟩:=Z1f hz (by decide) h3
     rw [Z1r h3,h3]at hP
     by_cases h4:Z.paI o.q=0
     · rw [h4]at hP
       have hlx:=hz.lx (Z.wa o.p).1
       by_cases h5:(Z.nd (Z.wa o.p).1).ln=200
       · have eE:Z.liE o=48:=by unfold Tz.liE;rw [if_pos h1,if_neg h2,if_pos h3,if_pos h4,if_pos h5]
         rw [eE]
         clear eE
         go_enter Tryz.func60,Tryz.ntmps60
         go_wp2_with (first
       | (refine Z05 (by rfl) _ (by rfl) o s (by rfl) ?_;intro g1 w1 z1 z2 r1 b1
          have c10:=r1.cell 0 _ rfl
          have c11:=r1.cell 1 _ rfl
          have c12:=r1.cell 2 _ rfl
          have c13:=r1.cell 3 _ rfl
          have c14:=r1.cell 4 _ rfl
          have c15:=r1.cell 5 _ rfl
          have c16:=r1.cell 6 _ rfl)
       | (refine Z02 (by rfl) (by rfl) ?_;intro g2 w2 z3 z4 r2 b2
          have B2:=Z00q b1 b2 (Nat.le_refl _)
          have r12:=r1.later b2
          clear c10 c11 c12 c13 c14 c15 c16
          have c10:=r12.cell 0 _ rfl
          have c11:=r12.cell 1 _ rfl
          have c12:=r12.cell 2 _ rfl
          have c13:=r12.cell 3 _ rfl
          have c14:=r12.cell 4 _ rfl
          have c15:=r12.cell 5 _ rfl
          have c16:=r12.cell 6 _ rfl)
       | (go_at_call 13;refine(hW _ B2).mono ?_;rintro e w3 ⟨rfl,b3⟩;clear hW
          have B3:=Z00q B2 b3 (Nat.le_refl _)
          have zz3:=B3.size
          have r13:=r12.later b3
          have r23:=r2.later b3
          clear c10 c11 c12 c13 c14 c15 c16
          have c12:=r13.cell 2 _ rfl
          have c14:=r13.cell 4 _ rfl)
       | (go_at_call 104;refine(hD _ B3).mono ?_;rintro e u ⟨rfl,rfl⟩)
       | (go_at_call 94;refine(hP _ B3).mono ?_;rintro e w4 ⟨rfl,b4⟩;clear hP
          have B4:=Z00q B3 b4 (Nat.le_refl _)
          have zz4:=B4.size)
       | (refine Z08 (by rfl) (by rfl) ?_;intro g3 w5 z5 z6 r5 b5
          have B5:=Z00q B4 b5 (Nat.le_refl _))
       | (refine Z09 (by rfl) _ _ (by rfl) g3 (by rfl) (some (q (Z.paD o.q))) (lsS o.q) 0 (by rfl) _ r5 rfl ?_;intro w6 r6 s6
          have B6:Below w.heap.size w w6:=((Stp.of_below B5 (fun _=>False)).next s6 (fun y e=> .inr (by omega))).below (Nat.le_refl _) (fun y e=>e.elim)
          have d2:=r6.cell 2 _ rfl
          have r26:Cs w6 g2 anZ:=((r23.later b4).later b5).step s6 (fun e=>by have:=b4.size;have:=r23.lt;omega)
          have gl3:=r6.lt
          obtain⟨tg,mb,ob,nb,sv,H6,hU6⟩:=h.later B6
          have t0:=H6.c0
          have lo:=H6.look hk (Z13 hz hm hk)
          have n1:=H6.n1 hk
          rw [h5]at n1)
       | (refine Z03 (by rfl) _ _ (by rfl) g2 (by rfl) anZ 0 Z0c (by rfl) _ r26 rfl ?_;intro w9 r9 s9))
         exact bodyPost_ret (Z0d Z06 Tryz.results60 rfl rfl r9 rfl) rfl (Z0q (by decide) (TxG.same h B6 (by omega) s9))
       · have eE:Z.liE o=0:=by unfold Tz.liE;rw [if_pos h1,if_neg h2,if_pos h3,if_pos h4,if_neg h5]
         rw [eE]
         clear eE
         have hlt:(Z.nd (Z.wa o.p).1).ln < 200:=by omega
         have hN:=fun w' (b:Below w.heap.size w w')=>Z1b (h.later b) hz hm (by omega) p1 hk (lsS o.q) (Z3i p2).2.2 0
         go_enter Tryz.func60,Tryz.ntmps60
         go_wp2_with (first
       | (refine Z05 (by rfl) _ (by rfl) o s (by rfl) ?_;intro g1 w1 z1 z2 r1 b1
          have c10:=r1.cell 0 _ rfl
          have c11:=r1.cell 1 _ rfl
          have c12:=r1.cell 2 _ rfl
          have c13:=r1.cell 3 _ rfl
          have c14:=r1.cell 4 _ rfl
          have c15:=r1.cell 5 _ rfl
          have c16:=r1.cell 6 _ rfl)
       | (refine Z02 (by rfl) (by rfl) ?_;intro g2 w2 z3 z4 r2 b2
          have B2:=Z00q b1 b2 (Nat.le_refl _)
          have r12:=r1.later b2
          clear c10 c11 c12 c13 c14 c15 c16
          have c10:=r12.cell 0 _ rfl
          have c11:=r12.cell 1 _ rfl
          have c12:=r12.cell 2 _ rfl
          have c13:=r12.cell 3 _ rfl
          have c14:=r12.cell 4 _ rfl
          have c15:=r12.cell 5 _ rfl
          have c16:=r12.cell 6 _ rfl)
       | (go_at_call 13;refine(hW _ B2).mono ?_;rintro e w3 ⟨rfl,b3⟩;clear hW
          have B3:=Z00q B2 b3 (Nat.le_refl _)
          have zz3:=B3.size
          have r13:=r12.later b3
          have r23:=r2.later b3
          clear c10 c11 c12 c13 c14 c15 c16
          have c12:=r13.cell 2 _ rfl
          have c14:=r13.cell 4 _ rfl)
       | (go_at_call 104;refine(hD _ B3).mono ?_;rintro e u ⟨rfl,rfl⟩)
       | (go_at_call 94;refine(hP _ B3).mono ?_;rintro e w4 ⟨rfl,b4⟩;clear hP
          have B4:=Z00q B3 b4 (Nat.le_refl _)
          have zz4:=B4.size)
       | (refine Z08 (by rfl) (by rfl) ?_;intro g3 w5 z5 z6 r5 b5
          have B5:=Z00q B4 b5 (Nat.le_refl _))
       | (refine Z09 (by rfl) _ _ (by rfl) g3 (by rfl) (some (q (Z.paD o.q))) (lsS o.q) 0 (by rfl) _ r5 rfl ?_;intro w6 r6 s6
          have B6:Below w.heap.size w w6:=((Stp.of_below B5 (fun _=>False)).next s6 (fun y e=> .inr (by omega))).below (Nat.le_refl _) (fun y e=>e.elim)
          have d2:=r6.cell 2 _ rfl
          have r26:Cs w6 g2 anZ:=((r23.later b4).later b5).step s6 (fun e=>by have:=b4.size;have:=r23.lt;omega)
          have gl3:=r6.lt
          obtain⟨tg,mb,ob,nb,sv,H6,hU6⟩:=h.later B6
          have t0:=H6.c0
          have lo:=H6.look hk (Z13 hz hm hk)
          have n1:=H6.n1 hk)
       | (refine Z2f (by rfl) _ (by rfl) g3 (by rfl) (some (q (Z.paD o.q))) (lsS o.q) 0 r6 ?_)
       | (go_at_call 97;refine(hN _ B6).mono ?_;rintro e w7 ⟨rfl,G7⟩
          have nU2:¬U g2:=fun e=>by have:=hU g2 e;have:=b1.size;omega
          have r27:=r26.step G7.stp nU2)
       | (refine Z03 (by rfl) _ _ (by rfl) g2 (by rfl) anZ 0 Z0c (by rfl) _ r27 rfl ?_;intro w9 r9 s9))
         exact bodyPost_ret (Z0d Z06 Tryz.results60 rfl rfl r9 rfl) rfl (Z16 Z0c (TxG.fin hU B6 G7 (by omega) r26.lt s9))
     · have eE:Z.liE o=41:=by unfold Tz.liE;rw [if_pos h1,if_neg h2,if_pos h3,if_neg h4]
       rw [eE]
       clear eE
       go_enter Tryz.func60,Tryz.ntmps60
       go_wp2_with (first
       | (refine Z05 (by rfl) _ (by rfl) o s (by rfl) ?_;intro g1 w1 z1 z2 r1 b1
          have c10:=r1.cell 0 _ rfl
          have c11:=r1.cell 1 _ rfl
          have c12:=r1.cell 2 _ rfl
          have c13:=r1.cell 3 _ rfl
          have c14:=r1.cell 4 _ rfl
          have c15:=r1.cell 5 _ rfl
          have c16:=r1.cell 6 _ rfl)
       | (refine Z02 (by rfl) (by rfl) ?_;intro g2 w2 z3 z4 r2 b2
          have B2:=Z00q b1 b2 (Nat.le_refl _)
          have r12:=r1.later b2
          clear c10 c11 c12 c13 c14 c15 c16
          have c10:=r12.cell 0 _ rfl
          have c11:=r12.cell 1 _ rfl
          have c12:=r12.cell 2 _ rfl
          have c13:=r12.cell 3 _ rfl
          have c14:=r12.cell 4 _ rfl
          have c15:=r12.cell 5 _ rfl
          have c16:=r12.cell 6 _ rfl)
       | (go_at_call 13;refine(hW _ B2).mono ?_;rintro e w3 ⟨rfl,b3⟩;clear hW
          have B3:=Z00q B2 b3 (Nat.le_refl _)
          have zz3:=B3.size
          have r13:=r12.later b3
          have r23:=r2.later b3
          clear c10 c11 c12 c13 c14 c15 c16
          have c12:=r13.cell 2 _ rfl
          have c14:=r13.cell 4 _ rfl)
       | (go_at_call 104;refine(hD _ B3).mono ?_;rintro e u ⟨rfl,rfl⟩)
       | (go_at_call 94;refine(hP _ B3).mono ?_;rintro e w4 ⟨rfl,b4⟩;clear hP
          have B4:=Z00q B3 b4 (Nat.le_refl _)
          have zz4:=B4.size)
       | (refine Z08 (by rfl) (by rfl) ?_;intro g3 w5 z5 z6 r5 b5
          have B5:=Z00q B4 b5 (Nat.le_refl _))
       | (refine Z09 (by rfl) _ _ (by rfl) g3 (by rfl) (some (q (Z.paD o.q))) (lsS o.q) (Z.paI o.q) (by rfl) _ r5 rfl ?_;intro w6 r6 s6
          have B6:Below w.heap.size w w6:=((Stp.of_below B5 (fun _=>False)).next s6 (fun y e=> .inr (by omega))).below (Nat.le_refl _) (fun y e=>e.elim)
          have d2:=r6.cell 2 _ rfl
          have r26:Cs w6 g2 anZ:=((r23.later b4).later b5).step s6 (fun e=>by have:=b4.size;have:=r23.lt;omega)
          have gl3:=r6.lt)
       | (refine Z03 (by rfl) _ _ (by rfl) g2 (by rfl) anZ 0 Z0c (by rfl) _ r26 rfl ?_;intro w9 r9 s9))
       exact bodyPost_ret (Z0d Z06 Tryz.results60 rfl rfl r9 rfl) rfl (Z0q (by decide) (TxG.same h B6 (by omega) s9))
   · have eE:Z.liE o=Z.paE o.q 41:=by unfold Tz.liE;rw [if_pos h1,if_neg h2,if_neg h3]
     rw [Z1o h3]at hP
     rw [eE]
     clear eE
     go_enter Tryz.func60,Tryz.ntmps60
     go_wp2_with (first
      | (refine Z05 (by rfl) _ (by rfl) o s (by rfl) ?_;intro g1 w1 z1 z2 r1 b1
         have c10:=r1.cell 0 _ rfl
         have c11:=r1.cell 1 _ rfl
         have c12:=r1.cell 2 _ rfl
         have c13:=r1.cell 3 _ rfl
         have c14:=r1.cell 4 _ rfl
         have c15:=r1.cell 5 _ rfl
         have c16:=r1.cell 6 _ rfl)
      | (refine Z02 (by rfl) (by rfl) ?_;intro g2 w2 z3 z4 r2 b2
         have B2:=Z00q b1 b2 (Nat.le_refl _)
         have r12:=r1.later b2
         clear c10 c11 c12 c13 c14 c15 c16
         have c10:=r12.cell 0 _ rfl
         have c11:=r12.cell 1 _ rfl
         have c12:=r12.cell 2 _ rfl
         have c13:=r12.cell 3 _ rfl
         have c14:=r12.cell 4 _ rfl
         have c15:=r12.cell 5 _ rfl
         have c16:=r12.cell 6 _ rfl)
      | (go_at_call 13;refine(hW _ B2).mono ?_;rintro e w3 ⟨rfl,b3⟩;clear hW
         have B3:=Z00q B2 b3 (Nat.le_refl _)
         have zz3:=B3.size
         have r13:=r12.later b3
         have r23:=r2.later b3
         clear c10 c11 c12 c13 c14 c15 c16
         have c12:=r13.cell 2 _ rfl
         have c14:=r13.cell 4 _ rfl)
      | (go_at_call 104;refine(hD _ B3).mono ?_;rintro e u ⟨rfl,rfl⟩)
      | (go_at_call 94;refine(hP _ B3).mono ?_;rintro e w4 ⟨rfl,b4⟩;clear hP
         have B4:=Z00q B3 b4 (Nat.le_refl _)
         have zz4:=B4.size)
      | (refine Z08 (by rfl) (by rfl) ?_;intro g3 w5 z5 z6 r5 b5
         have B5:=Z00q B4 b5 (Nat.le_refl _))
      | (refine Z09 (by rfl) _ _ (by rfl) g3 (by rfl) none [] 0 (by rfl) _ r5 rfl ?_;intro w6 r6 s6
         have B6:Below w.heap.size w w6:=((Stp.of_below B5 (fun _=>False)).next s6 (fun y e=> .inr (by omega))).below (Nat.le_refl _) (fun y e=>e.elim)
         have d2:=r6.cell 2 _ rfl
         have r26:Cs w6 g2 anZ:=((r23.later b4).later b5).step s6 (fun e=>by have:=b4.size;have:=r23.lt;omega)
         have gl3:=r6.lt)
      | (refine Z03 (by rfl) _ _ (by rfl) g2 (by rfl) anZ 0 Z0c (by rfl) _ r26 rfl ?_;intro w9 r9 s9))
     exact bodyPost_ret (Z0d Z06 Tryz.results60 rfl rfl r9 rfl) rfl (Z0q h3 (TxG.same h B6 (by omega) s9))
 · have eE:Z.liE o=(Z.wa o.p).2:=by unfold Tz.liE;rw [if_neg h1]
   rw [eE]
   clear eE
   go_enter Tryz.func60,Tryz.ntmps60
   go_wp2_with (first
    | (refine Z05 (by rfl) _ (by rfl) o s (by rfl) ?_;intro g1 w1 z1 z2 r1 b1
       have c10:=r1.cell 0 _ rfl
       have c11:=r1.cell 1 _ rfl
       have c12:=r1.cell 2 _ rfl
       have c13:=r1.cell 3 _ rfl
       have c14:=r1.cell 4 _ rfl
       have c15:=r1.cell 5 _ rfl
       have c16:=r1.cell 6 _ rfl)
    | (refine Z02 (by rfl) (by rfl) ?_;intro g2 w2 z3 z4 r2 b2
       have B2:=Z00q b1 b2 (Nat.le_refl _)
       have r12:=r1.later b2
       clear c10 c11 c12 c13 c14 c15 c16
       have c10:=r12.cell 0 _ rfl
       have c11:=r12.cell 1 _ rfl
       have c12:=r12.cell 2 _ rfl
       have c13:=r12.cell 3 _ rfl
       have c14:=r12.cell 4 _ rfl
       have c15:=r12.cell 5 _ rfl
       have c16:=r12.cell 6 _ rfl)
    | (go_at_call 13;refine(hW _ B2).mono ?_;rintro e w3 ⟨rfl,b3⟩;clear hW
       have B3:=Z00q B2 b3 (Nat.le_refl _)
       have zz3:=B3.size
       have r13:=r12.later b3
       have r23:=r2.later b3
       clear c10 c11 c12 c13 c14 c15 c16
       have c12:=r13.cell 2 _ rfl
       have c14:=r13.cell 4 _ rfl)
    | (refine Z03 (by rfl) _ _ (by rfl) g2 (by rfl) anZ 0 Z0c (by rfl) _ r23 rfl ?_;intro w9 r9 s9))
   exact bodyPost_ret (Z0d Z06 Tryz.results60 rfl rfl r9 rfl) rfl (Z0q h1 (TxG.same h B3 (by omega) s9))
set_option maxRecDepth 100000
theorem Zdp (a b c:Int) (w:World):(Instr.build 32 #[(0, .int .i64 a),(1, .int .i64 b),(2, .int .i64 c)]).run Tryz.prog w= .ok (.agg #[.int .i64 a, .int .i64 b, .int .i64 c]) w:=by kernel_rfl
theorem Zdo (a b c:Int) (w:World):(Instr.build 34 #[(4, .agg #[.int .i64 a, .int .i64 b, .int .i64 c])]).run Tryz.prog w= .ok (.agg (anC 0 0 nilV nilV a b c).toArray) w:=by kernel_rfl
theorem Z62 {w:World} {U:Nat→Prop} {g B n:Nat} {q:Int→Nat} {Z:Tz} (h:Tx w U g q B Z) (hz:Z.ok n) (hn:n≤900) (hB:B≤900) (o:Oz) (ho:o.wfo) (s:Sv):
 Calls Tryz.prog 63 #[.pointer (some ⟨g,0,none⟩), .agg (opC o s).toArray] w fun e w'=>Ret e U g B Z Z (Z.wa o.p).2 w w':=by
 have hm:n+2≤1000:=by omega
 have hU:=h.low
 have hW:=fun w' (b:Below w.heap.size w w')=>Z2z (h.later b) hz hm o.p ho.p
 by_cases h1:(Z.wa o.p).2=0
 · have hk:=Z2d hz h1
   rw [h1]at hW ⊢
   go_enter Tryz.func63,Tryz.ntmps63
   go_wp2_with (first
    | (refine Z05 (by rfl) _ (by rfl) o s (by rfl) ?_;intro g1 w1 z1 z2 r1 b1
       have c10:=r1.cell 0 _ rfl
       have c11:=r1.cell 1 _ rfl
       have c12:=r1.cell 2 _ rfl
       have c13:=r1.cell 3 _ rfl
       have c14:=r1.cell 4 _ rfl
       have c15:=r1.cell 5 _ rfl
       have c16:=r1.cell 6 _ rfl)
    | (refine Z02 (by rfl) (by rfl) ?_;intro g2 w2 z3 z4 r2 b2
       have B2:=Z00q b1 b2 (Nat.le_refl _)
       have r12:=r1.later b2
       clear c10 c11 c12 c13 c14 c15 c16
       have c10:=r12.cell 0 _ rfl
       have c11:=r12.cell 1 _ rfl
       have c12:=r12.cell 2 _ rfl
       have c13:=r12.cell 3 _ rfl
       have c14:=r12.cell 4 _ rfl
       have c15:=r12.cell 5 _ rfl
       have c16:=r12.cell 6 _ rfl)
    | (go_at_call 13;refine(hW _ B2).mono ?_;rintro e w3 ⟨rfl,b3⟩;clear hW
       have B3:=Z00q B2 b3 (Nat.le_refl _)
       have zz3:=B3.size
       obtain⟨tg,mb,ob,nb,sv,H3,hU3⟩:=h.later B3
       have t0:=H3.c0
       have lo:=H3.look hk (Z13 hz hm hk)
       have r13:=r12.later b3
       have r23:=r2.later b3
       clear c10 c11 c12 c13 c14 c15 c16
       have c12:=r13.cell 2 _ rfl
       have c14:=r13.cell 4 _ rfl))
   have nU2:¬U g2:=fun e=>by have:=hU g2 e;have:=b1.size;omega
   have off:∀ y,tg y≠0→¬y=g2:=fun y hy e=>nU2 (e▸(hU3 y).2 hy)
   refine wp_region_held_drew (S:=fun u=>Stp (fun y=>y=g2) w3 u∧∃ A,Cs u g2 A∧A.length=7) (by kernel_rfl) ⟨(Stp.refl _ _).drew,anZ,r23.later (show Below w3.heap.size w3 w3.drew from(Below.refl _ _).drew),rfl⟩ (fun hHeld=>?_)
   refine tl 0 (.pointer (some ⟨q (Z.wa o.p).1,0,none⟩)) rfl ?_
   try simp only [z]
   refine tl 1 (.pointer (some ⟨q (Z.wa o.p).1,0,none⟩)) rfl ?_
   try simp only [z]
   refine tl 2 (.pointer (some ⟨q (Z.wa o.p).1,0,none⟩)) rfl ?_
   try simp only [z]
   refine tl 3 (.int .i64 (Z.nd (Z.wa o.p).1).k) rfl ?_ (fun u hu=>by have x1:=(H3.step hu.1 off).n0 hk;go_simp)
   try simp only [z]
   refine tl 4 (.pointer (some ⟨q (Z.wa o.p).1,0,none⟩)) rfl ?_
   try simp only [z]
   refine tl 5 (.pointer (some ⟨q (Z.wa o.p).1,0,none⟩)) rfl ?_
   try simp only [z]
   refine tl 6 (.pointer (some ⟨q (Z.wa o.p).1,2,none⟩)) rfl ?_
   try simp only [z]
   refine tl 7 (.slice (sv (Z.wa o.p).1).a (sv (Z.wa o.p).1).n (sv (Z.wa o.p).1).c) rfl ?_ (fun u hu=>by have x1:=(H3.step hu.1 off).n2 hk;go_simp)
   try simp only [z]
   refine tl 8 (.int .i64 ((sv (Z.wa o.p).1).n:Int)) rfl ?_
   try simp only [z]
   refine tl 9 (.pointer (some ⟨q (Z.wa o.p).1,0,none⟩)) rfl ?_
   try simp only [z]
   refine tl 10 (.pointer (some ⟨q (Z.wa o.p).1,0,none⟩)) rfl ?_
   try simp only [z]
   refine tl 11 (.pointer (some ⟨q (Z.wa o.p).1,1,none⟩)) rfl ?_
   try simp only [z]
   refine tl 12 (.int .i64 (Z.nd (Z.wa o.p).1).ln) rfl ?_ (fun u hu=>by have x1:=(H3.step hu.1 off).n1 hk;go_simp)
   try simp only [z]
   refine tl 13 (.agg #[.int .i64 (Z.nd (Z.wa o.p).1).k, .int .i64 ((sv (Z.wa o.p).1).n:Int), .int .i64 (Z.nd (Z.wa o.p).1).ln]) rfl ?_ (fun u hu=>by have x1:=Zdp (Z.nd (Z.wa o.p).1).k ((sv (Z.wa o.p).1).n:Int) (Z.nd (Z.wa o.p).1).ln;go_simp)
   try simp only [z]
   refine tl 14 (.agg (anC 0 0 nilV nilV (Z.nd (Z.wa o.p).1).k ((sv (Z.wa o.p).1).n:Int) (Z.nd (Z.wa o.p).1).ln).toArray) rfl ?_ (fun u hu=>by have x1:=Zdo (Z.nd (Z.wa o.p).1).k ((sv (Z.wa o.p).1).n:Int) (Z.nd (Z.wa o.p).1).ln;go_simp;rfl)
   try simp only [z]
   refine rd 15 rfl (fun K hK=>?_)
   obtain⟨hH1,A0,hH2,hH3⟩:=hHeld
   refine Z0n 34 7 _ Z06 rfl _ _ (by rfl) g2 (by rfl) (anC 0 0 nilV nilV (Z.nd (Z.wa o.p).1).k ((sv (Z.wa o.p).1).n:Int) (Z.nd (Z.wa o.p).1).ln) (by rfl) rfl (AnE.one ⟨0,nilV,nilV,_,_,_,rfl,rfl,rfl⟩) _ hH2 hH3 ?_
   intro w9 r9 s9
   refine hK.out _ _ (⟨hH1.trans s9,_,r9,rfl⟩) (fun hHeld=>?_)
   clear hK K
   try simp only [Act.put]
   refine tl 16 (.int .i64 0) rfl ?_
   try simp only [z]
   refine wpAnyH_done (by kernel_rfl) ?_ _
   go_wp2_with fail
   exact bodyPost_ret (Z0d Z06 Tryz.results63 rfl rfl r9 rfl) rfl (Z16 ⟨0,nilV,nilV,_,_,_,rfl,rfl,rfl⟩ ((TxG.same h B3 (by omega) (hH1.trans s9)).more (Nat.le_succ B)))
 · go_enter Tryz.func63,Tryz.ntmps63
   go_wp2_with (first
    | (refine Z05 (by rfl) _ (by rfl) o s (by rfl) ?_;intro g1 w1 z1 z2 r1 b1
       have c10:=r1.cell 0 _ rfl
       have c11:=r1.cell 1 _ rfl
       have c12:=r1.cell 2 _ rfl
       have c13:=r1.cell 3 _ rfl
       have c14:=r1.cell 4 _ rfl
       have c15:=r1.cell 5 _ rfl
       have c16:=r1.cell 6 _ rfl)
    | (refine Z02 (by rfl) (by rfl) ?_;intro g2 w2 z3 z4 r2 b2
       have B2:=Z00q b1 b2 (Nat.le_refl _)
       have r12:=r1.later b2
       clear c10 c11 c12 c13 c14 c15 c16
       have c10:=r12.cell 0 _ rfl
       have c11:=r12.cell 1 _ rfl
       have c12:=r12.cell 2 _ rfl
       have c13:=r12.cell 3 _ rfl
       have c14:=r12.cell 4 _ rfl
       have c15:=r12.cell 5 _ rfl
       have c16:=r12.cell 6 _ rfl)
    | (go_at_call 13;refine(hW _ B2).mono ?_;rintro e w3 ⟨rfl,b3⟩;clear hW
       have B3:=Z00q B2 b3 (Nat.le_refl _)
       have zz3:=B3.size
       have r13:=r12.later b3
       have r23:=r2.later b3
       clear c10 c11 c12 c13 c14 c15 c16
       have c12:=r13.cell 2 _ rfl
       have c14:=r13.cell 4 _ rfl)
    | (refine Z03 (by rfl) _ _ (by rfl) g2 (by rfl) anZ 0 Z0c (by rfl) _ r23 rfl ?_;intro w9 r9 s9))
   exact bodyPost_ret (Z0d Z06 Tryz.results63 rfl rfl r9 rfl) rfl (Z0q h1 (TxG.same h B3 (by omega) s9))
end Go.Proofs.YtdnjddpfcgginaaGreat
