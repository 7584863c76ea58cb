/-
  Texts of my own, joined: no statement is proved here.
-/
import Derived.Test.YtdnjddpfcgginaaGreatKan
set_option linter.unusedSimpArgs false
set_option linter.unusedVariables false
namespace Go.Proofs.YtdnjddpfcgginaaGreat
open Go.ChangeShapes Go.WideShapes Go.ChangeAt Go.RowKit
set_option maxRecDepth 100000
theorem Zbs {w:World} {U:Nat→Prop} {g B n:Nat} {q:Int→Nat} {Z:Tz} (h:Tx w U g q B Z) (hz:Z.ok n) (hn:n≤900) (hB:B≤900) (o:Oz) (ho:o.wfo) (s:Sv):
 Calls Tryz.prog 56 #[.pointer (some ⟨g,0,none⟩), .agg (opC o s).toArray] w fun e w'=>Ret e U g B Z (Z.skS o) (Z.skE o) w w':=by
 have hm:n+2≤1000:=by omega
 have hU:=h.low
 have hgE:=Z1q Z.t o.fd
 have how:=Z28 ho.off
 go_enter Tryz.func56,Tryz.ntmps56
 go_upto_region 1 with(first
  | (refine Z05 (by rfl) _ (by rfl) o s (by rfl) ?_;intro g1 w1 z1 z2 r1 b1
     have c10:=r1.cell 0 _ rfl
     have c11:=r1.cell 1 _ rfl
     have c12:=r1.cell 2 _ rfl
     have c13:=r1.cell 3 _ rfl
     have c14:=r1.cell 4 _ rfl
     have c15:=r1.cell 5 _ rfl
     have c16:=r1.cell 6 _ rfl)
  | (refine Z02 (by rfl) (by rfl) ?_;intro g2 w2 z3 z4 r2 b2
     have B2:=Z00q b1 b2 (Nat.le_refl _)
     have r12:=r1.later b2
     clear c10 c11 c12 c13 c14 c15 c16
     have c10:=r12.cell 0 _ rfl
     have c11:=r12.cell 1 _ rfl
     have c12:=r12.cell 2 _ rfl
     have c13:=r12.cell 3 _ rfl
     have c14:=r12.cell 4 _ rfl
     have c15:=r12.cell 5 _ rfl
     have c16:=r12.cell 6 _ rfl))
 go_cut [6,7] (fun u v wx=>∃ g6,u= .pointer (some ⟨g6,0,none⟩)∧v= .int .i64 (Z04 Z.t o.fd)∧Below w2.heap.size w2 wx)
 case first=>
  obtain⟨tg,mb,ob,nb,sv,H2,hU2⟩:=h.later B2
  refine wp_region_held_drew (S:=fun u=>Below w2.heap.size w2 u) (by kernel_rfl) (Below.refl _ _).drew (fun hHeld=>?_)
  refine tl 0 (.pointer (some ⟨g,0,none⟩)) rfl ?_
  try simp only [z]
  refine tl 1 (.pointer (some ⟨g,0,none⟩)) rfl ?_
  try simp only [z]
  refine tl 2 (.pointer (some ⟨g,2,none⟩)) rfl ?_
  try simp only [z]
  refine tl 3 (.pointer (some ⟨ob,0,none⟩)) rfl ?_ (fun u hu=>by have x1:=(H2.later hu).c2;go_simp)
  try simp only [z]
  refine tl 4 (.pointer (some ⟨g1,3,none⟩)) rfl ?_
  try simp only [z]
  refine tl 5 (.int .i64 o.fd) rfl ?_ (fun u hu=>by have x1:=(r12.later hu).cell 3 _ rfl;go_simp)
  try simp only [z]
  refine wpAnyH_ready (rs:= [6,10]) (by kernel_rfl) (by simp) ?_
  refine(AllReadyH.cons (o:=⟨some 15, .call { callee:=Callee.value (.func 65),args:=#[.tmp 12, .tmp 14],argTypes:=#[51,3]},109,_,#[⟨3, .data⟩,⟨5, .data⟩],none⟩) rfl (fun K hK=>?_) (AllReadyH.cons (o:=⟨some 6, .alloc 108,0,_,#[],none⟩) rfl (fun K hK=>?_) AllReadyH.nil))
  · skip
    go_simp
    refine(tget (H2.later hHeld) o.fd).mono ?_
    rintro e w6 ⟨rfl,b6⟩
    try go_wp2_with fail
    try (have p6:=p6.later b6)
    refine hK.out _ _ (Z00q hHeld b6 (Nat.le_refl _)) (fun hHeld=>?_)
    clear hK K
    try simp only [z]
    refine tl 7 (.tuple #[.agg (Z01 Z.t o.fd).cs.toArray, .int .i64 (Z04 Z.t o.fd)]) rfl ?_
    try simp only [z]
    refine tl 8 (.agg (Z01 Z.t o.fd).cs.toArray) rfl ?_
    try simp only [z]
    refine tl 9 (.int .i64 (Z04 Z.t o.fd)) rfl ?_
    try simp only [z]
    refine rd 10 rfl (fun K hK=>?_)
    have zH:=hHeld.size
    refine Z2p rfl (by rfl) ?_
    intro g6 w10 y6 y7 p6 b10
    have m6:w2.heap.size≤g6:=by omega
    refine hK.out _ _ (Z00q hHeld b10 (Nat.le_refl _)) (fun hHeld=>?_)
    clear hK K
    try simp only [z]
    refine rd 11 rfl (fun K hK=>?_)
    refine Z2q rfl _ _ (by rfl) g6 (by rfl) (Z01 Z.t o.fd) (by rfl) _ p6 rfl ?_
    intro w11 p11 s11
    refine hK.out _ _ (((Stp.of_below hHeld (fun _=>False)).next s11 (fun x e=> .inr (by omega))).below (Nat.le_refl _) (fun _ h=>h.elim)) (fun hHeld=>?_)
    clear hK K
    try simp only [Act.put]
    refine tl 12 (.int .i64 (Z04 Z.t o.fd)) rfl ?_
    try simp only [z]
    refine wpAnyH_done (by kernel_rfl) ?_ _
    go_wp2_with fail
    go_meet
    exact⟨g6,rfl,rfl,hHeld⟩
  · skip
    have zH:=hHeld.size
    refine Z2p rfl (by rfl) ?_
    intro g6 w10 y6 y7 p6 b10
    have m6:w2.heap.size≤g6:=by omega
    refine hK.out _ _ (Z00q hHeld b10 (Nat.le_refl _)) (fun hHeld=>?_)
    clear hK K
    try simp only [z]
    refine rd 6 rfl (fun K hK=>?_)
    go_simp
    refine(tget (H2.later hHeld) o.fd).mono ?_
    rintro e w6 ⟨rfl,b6⟩
    try go_wp2_with fail
    try (have p6:=p6.later b6)
    refine hK.out _ _ (Z00q hHeld b6 (Nat.le_refl _)) (fun hHeld=>?_)
    clear hK K
    try simp only [z]
    refine tl 7 (.tuple #[.agg (Z01 Z.t o.fd).cs.toArray, .int .i64 (Z04 Z.t o.fd)]) rfl ?_
    try simp only [z]
    refine tl 8 (.agg (Z01 Z.t o.fd).cs.toArray) rfl ?_
    try simp only [z]
    refine tl 9 (.int .i64 (Z04 Z.t o.fd)) rfl ?_
    try simp only [z]
    refine rd 11 rfl (fun K hK=>?_)
    refine Z2q rfl _ _ (by rfl) g6 (by rfl) (Z01 Z.t o.fd) (by rfl) _ p6 rfl ?_
    intro w11 p11 s11
    refine hK.out _ _ (((Stp.of_below hHeld (fun _=>False)).next s11 (fun x e=> .inr (by omega))).below (Nat.le_refl _) (fun _ h=>h.elim)) (fun hHeld=>?_)
    clear hK K
    try simp only [Act.put]
    refine tl 12 (.int .i64 (Z04 Z.t o.fd)) rfl ?_
    try simp only [z]
    refine wpAnyH_done (by kernel_rfl) ?_ _
    go_wp2_with fail
    go_meet
    exact⟨g6,rfl,rfl,hHeld⟩
 case rest=>
  obtain⟨g6,rfl,rfl,b3⟩:=hcut
  have B3:=Z00q B2 b3 (Nat.le_refl _)
  have r13:=r12.later b3
  have r23:=r2.later b3
  have zb3:=b3.size
  clear c10 c11 c12 c13 c14 c15 c16
  have c15:=r13.cell 5 _ rfl
  rcases hgE with h0 | h0
  · by_cases h1:o.off < 0
    · have eE:Z.skE o=2:=by unfold Tz.skE;rw [if_pos h0,if_pos (.inl h1)]
      have eH:Hid (Z.skE o=2):=eE
      clear eE
      go_wp2_with (first
      | (refine Z03 (by rfl) _ _ (by rfl) g2 (by rfl) anZ 0 Z0c (by rfl) _ r23 rfl ?_;intro w9 r9 s9))
      refine bodyPost_ret (Z0d Z06 Tryz.results56 rfl rfl r9 rfl) rfl ?_
      show Ret _ U g B Z _ (Z.skE o) w _
      rw [eH.out]
      exact Z0q (by decide) (TxG.same h B3 (by omega) s9)
    by_cases h2:48640 < o.off
    · have eE:Z.skE o=2:=by unfold Tz.skE;rw [if_pos h0,if_pos (.inr h2)]
      have eH:Hid (Z.skE o=2):=eE
      clear eE
      go_wp2_with (first
      | (refine Z03 (by rfl) _ _ (by rfl) g2 (by rfl) anZ 0 Z0c (by rfl) _ r23 rfl ?_;intro w9 r9 s9))
      refine bodyPost_ret (Z0d Z06 Tryz.results56 rfl rfl r9 rfl) rfl ?_
      show Ret _ U g B Z _ (Z.skE o) w _
      rw [eH.out]
      exact Z0q (by decide) (TxG.same h B3 (by omega) s9)
    have eH:Hid (Z.skE o=0):=by show _=_;unfold Tz.skE;rw [if_pos h0,if_neg (by omega)]
    go_wp2_with fail
    obtain⟨tg,mb,ob,nb,sv,Hc,hUc⟩:=h.later B3
    have n1:¬tg g1≠0:=fun e=>by have:=hU g1 ((hUc g1).2 e);omega
    have n2:¬tg g2≠0:=fun e=>by have:=hU g2 ((hUc g2).2 e);have:=b1.size;omega
    have n12:¬g1=g2:=fun e=>by omega
    have zz1:=b1.size
    have zg1:=r23.lt
    have r1c:=r13
    have r2c:=r23
    have eK:Hid (Z0w Z.t o.fd o.off=0):=Z41 h0 (by omega)
    refine wp_region_held_drew (S:=fun u=>u.cell? ⟨g,2,none⟩=some (.pointer (some ⟨ob,0,none⟩))∧Stp (fun y=>tg y≠0∨y=g2) wc u∧u.cell? ⟨g1,3,none⟩=some (.int .i64 o.fd)∧u.cell? ⟨g1,5,none⟩=some (.int .i64 o.off)) (by kernel_rfl) ⟨Hc.c2,(Stp.refl _ _).drew,r1c.cell 3 _ rfl,r1c.cell 5 _ rfl⟩ (fun hHeld=>?_)
    replace Hc:=Hc.later (show Below wc.heap.size wc wc.drew from(Below.refl _ _).drew)
    replace r1c:=r1c.later (show Below wc.heap.size wc wc.drew from(Below.refl _ _).drew)
    replace r2c:=r2c.later (show Below wc.heap.size wc wc.drew from(Below.refl _ _).drew)
    refine tl 0 (.pointer (some ⟨g1,5,none⟩)) rfl ?_
    try simp only [z]
    refine tl 1 (.int .i64 o.off) rfl ?_ (fun u hu=>by have x1:=hu.2.2.2;go_simp)
    try simp only [z]
    refine tl 2 (.agg (anC 0 o.off nilV nilV 0 0 0).toArray) rfl ?_ (fun u hu=>by have x1:=Z5i o.off;go_simp;rfl)
    try simp only [z]
    refine tl 3 (.pointer (some ⟨g,0,none⟩)) rfl ?_
    try simp only [z]
    refine tl 4 (.pointer (some ⟨g,0,none⟩)) rfl ?_
    try simp only [z]
    refine tl 5 (.pointer (some ⟨g,2,none⟩)) rfl ?_
    try simp only [z]
    refine tl 6 (.pointer (some ⟨ob,0,none⟩)) rfl ?_ (fun u hu=>by have x1:=hu.1;go_simp)
    try simp only [z]
    refine tl 7 (.pointer (some ⟨g1,3,none⟩)) rfl ?_
    try simp only [z]
    refine tl 8 (.int .i64 o.fd) rfl ?_ (fun u hu=>by have x1:=hu.2.2.1;go_simp)
    try simp only [z]
    refine tl 9 (.pointer (some ⟨g1,5,none⟩)) rfl ?_
    try simp only [z]
    refine tl 10 (.int .i64 o.off) rfl ?_ (fun u hu=>by have x1:=hu.2.2.2;go_simp)
    try simp only [z]
    refine rd 11 rfl (fun K hK=>?_)
    go_simp
    refine(Z55 Hc o.fd o.off).mono ?_
    rintro e wS ⟨rfl,tS,HS,sS,gS⟩
    try go_wp2_with fail
    have r1c:=r1c.step sS n1
    have r2c:=r2c.step sS n2
    have zS:=hHeld.2.1.size
    refine hK.out _ _ (⟨HS.c2,hHeld.2.1.next sS (fun y e=> .inl (.inl e)),r1c.cell 3 _ rfl,r1c.cell 5 _ rfl⟩) (fun hHeld=>?_)
    clear hK K
    try simp only [z]
    refine rd 12 rfl (fun K hK=>?_)
    refine Z39 rfl _ _ (by rfl) g2 (by rfl) (anC 0 o.off nilV nilV 0 0 0) 0 (Z1y _) (by rfl) _ r2c rfl ?_
    intro wA r2c sA
    have r1c:=r1c.step sA n12
    have zA:=sA.size
    try (replace Hc:=Hc.step sA (fun y hy e=>n2 (e▸hy)))
    try (replace HS:=HS.step sA (fun y hy e=>by subst e;rcases gS y hy with c | c;exact n2 c;omega))
    refine hK.out _ _ (⟨by first | exact HS.c2 | exact Hc.c2,hHeld.2.1.next sA (fun y e=> .inl (.inr e)),r1c.cell 3 _ rfl,r1c.cell 5 _ rfl⟩) (fun hHeld=>?_)
    clear hK K
    try simp only [Act.put]
    refine tl 13 (.int .i64 (Z0w Z.t o.fd o.off)) rfl ?_
    try simp only [z]
    refine wpAnyH_done (by kernel_rfl) ?_ _
    go_wp2_with fail
    refine bodyPost_ret (Z0d Z06 Tryz.results56 rfl rfl r2c rfl) rfl ?_
    rw [eH.out,eK.out]
    exact Z16 (Z1y _) ((Z3u B3 hUc (by omega) HS hHeld.2.1 (fun y hy=>by rcases gS y hy with c | c;exact .inl c;exact .inr (by omega))).more (Nat.le_succ B))
  · have eH:Hid (Z.skE o=46):=by show _=_;unfold Tz.skE;rw [if_neg (by rw [h0];decide)]
    go_wp2_with (first
     | (refine Z03 (by rfl) _ _ (by rfl) g2 (by rfl) anZ 0 Z0c (by rfl) _ r23 rfl ?_;intro w9 r9 s9))
    refine bodyPost_ret (Z0d Z06 Tryz.results56 rfl rfl r9 rfl) rfl ?_
    show Ret _ U g B Z _ (Z.skE o) w _
    rw [eH.out]
    exact Z0q (by decide) (TxG.same h B3 (by omega) s9)
set_option maxRecDepth 100000
theorem Zdn (a:Option Addr) (n c:Nat) (w:World):(Instr.build 34 #[(2, .slice a n c)]).run Tryz.prog w= .ok (.agg (anC 0 0 (.slice a n c) nilV 0 0 0).toArray) w:=by kernel_rfl
set_option maxHeartbeats 8000000 in
theorem Zbr {w:World} {U:Nat→Prop} {g B n:Nat} {q:Int→Nat} {Z:Tz} (h:Tx w U g q B Z) (hz:Z.ok n) (hn:n≤900) (hB:B≤900) (o:Oz) (ho:o.wfo) (s:Sv):
 Calls Tryz.prog 54 #[.pointer (some ⟨g,0,none⟩), .agg (opC o s).toArray] w fun e w'=>Ret e U g B Z (Z.reS o) (Z.reE o) w w':=by
 have hm:n+2≤1000:=by omega
 have hU:=h.low
 have hgE:=Z1q Z.t o.fd
 have hnw:=Z28 ho.n
 obtain⟨c,hc⟩:∃ c,bits .and .i64 (Z01 Z.t o.fd).m 1=c:=⟨_,rfl⟩
 have hO:=fun w' (b:Below w.heap.size w w')=>Z38 (h.later b) o.fd 1 c hc
 by_cases h1:opnE Z o.fd c=0
 · have h0:Z04 Z.t o.fd=0:=by
    unfold opnE at h1
    split at h1
    · rename_i e;exact e
    · cases h1
   have hc0:c≠0:=fun e=>by unfold opnE at h1;rw [if_pos h0,if_pos e]at h1;cases h1
   obtain⟨f,f1,f2,f3,f4,f5,f6,f7⟩:=Z1m hz h0
   have eO:opnF Z o.fd c=f:=by unfold opnF;rw [if_pos h1,f2]
   rw [h1,eO]at hO
   have hmd:¬f.m % 2=0:=fun e=>by rw [f2,bit1 ⟨f6,f7⟩]at hc;omega
   clear eO
   by_cases h2:o.n < 0
   · have eE:Z.reE o=2:=by unfold Tz.reE;rw [if_pos h0,f2,if_neg hmd,if_pos (.inl h2)]
     rw [eE]
     clear eE
     go_enter Tryz.func54,Tryz.ntmps54
     go_wp2_with (first
      | (refine Z05 (by rfl) _ (by rfl) o s (by rfl) ?_;intro g1 w1 z1 z2 r1 b1
         have c10:=r1.cell 0 _ rfl
         have c11:=r1.cell 1 _ rfl
         have c12:=r1.cell 2 _ rfl
         have c13:=r1.cell 3 _ rfl
         have c14:=r1.cell 4 _ rfl
         have c15:=r1.cell 5 _ rfl
         have c16:=r1.cell 6 _ rfl)
      | (refine Z02 (by rfl) (by rfl) ?_;intro g2 w2 z3 z4 r2 b2
         have B2:=Z00q b1 b2 (Nat.le_refl _)
         have r12:=r1.later b2
         clear c10 c11 c12 c13 c14 c15 c16
         have c10:=r12.cell 0 _ rfl
         have c11:=r12.cell 1 _ rfl
         have c12:=r12.cell 2 _ rfl
         have c13:=r12.cell 3 _ rfl
         have c14:=r12.cell 4 _ rfl
         have c15:=r12.cell 5 _ rfl
         have c16:=r12.cell 6 _ rfl)
      | (go_at_call 102;refine(hO _ B2).mono ?_;rintro e w3 ⟨rfl,b3⟩;clear hO
         have B3:=Z00q B2 b3 (Nat.le_refl _)
         have zz3:=B3.size)
      | (refine Z14 (by rfl) (by rfl) ?_;intro g3 w4 z5 z6 r4 b4
         have B4:=Z00q B3 b4 (Nat.le_refl _))
      | (refine Z10 (by rfl) _ _ (by rfl) g3 (by rfl) f (by rfl) _ r4 rfl ?_;intro w5 r5 s5
         have B5:Below w.heap.size w w5:=((Stp.of_below B4 (fun _=>False)).next s5 (fun y e=> .inr (by omega))).below (Nat.le_refl _) (fun y e=>e.elim)
         have r25:Cs w5 g2 anZ:=((r2.later b3).later b4).step s5 (fun e=>by have:=b3.size;omega)
         have r15:Cs w5 g1 (opC o s):=((r12.later b3).later b4).step s5 (fun e=>by have:=b3.size;have:=b2.size;omega)
         have gl3:=r5.lt
         clear c10 c11 c12 c13 c14 c15 c16
         have d0:=r5.cell 0 _ rfl
         have d1:=r5.cell 1 _ rfl
         have c14:=r15.cell 4 _ rfl
         have c17:=r15.cell 7 _ rfl)
      | (refine Z03 (by rfl) _ _ (by rfl) g2 (by rfl) anZ 0 Z0c (by rfl) _ r25 rfl ?_;intro w9 r9 s9))
     exact bodyPost_ret (Z0d Z06 Tryz.results54 rfl rfl r9 rfl) rfl (Z0q (by decide) (TxG.same h B5 (by omega) s9))
   by_cases h3:4096 < o.n
   · have eE:Z.reE o=2:=by unfold Tz.reE;rw [if_pos h0,f2,if_neg hmd,if_pos (.inr h3)]
     rw [eE]
     clear eE
     go_enter Tryz.func54,Tryz.ntmps54
     go_wp2_with (first
      | (refine Z05 (by rfl) _ (by rfl) o s (by rfl) ?_;intro g1 w1 z1 z2 r1 b1
         have c10:=r1.cell 0 _ rfl
         have c11:=r1.cell 1 _ rfl
         have c12:=r1.cell 2 _ rfl
         have c13:=r1.cell 3 _ rfl
         have c14:=r1.cell 4 _ rfl
         have c15:=r1.cell 5 _ rfl
         have c16:=r1.cell 6 _ rfl)
      | (refine Z02 (by rfl) (by rfl) ?_;intro g2 w2 z3 z4 r2 b2
         have B2:=Z00q b1 b2 (Nat.le_refl _)
         have r12:=r1.later b2
         clear c10 c11 c12 c13 c14 c15 c16
         have c10:=r12.cell 0 _ rfl
         have c11:=r12.cell 1 _ rfl
         have c12:=r12.cell 2 _ rfl
         have c13:=r12.cell 3 _ rfl
         have c14:=r12.cell 4 _ rfl
         have c15:=r12.cell 5 _ rfl
         have c16:=r12.cell 6 _ rfl)
      | (go_at_call 102;refine(hO _ B2).mono ?_;rintro e w3 ⟨rfl,b3⟩;clear hO
         have B3:=Z00q B2 b3 (Nat.le_refl _)
         have zz3:=B3.size)
      | (refine Z14 (by rfl) (by rfl) ?_;intro g3 w4 z5 z6 r4 b4
         have B4:=Z00q B3 b4 (Nat.le_refl _))
      | (refine Z10 (by rfl) _ _ (by rfl) g3 (by rfl) f (by rfl) _ r4 rfl ?_;intro w5 r5 s5
         have B5:Below w.heap.size w w5:=((Stp.of_below B4 (fun _=>False)).next s5 (fun y e=> .inr (by omega))).below (Nat.le_refl _) (fun y e=>e.elim)
         have r25:Cs w5 g2 anZ:=((r2.later b3).later b4).step s5 (fun e=>by have:=b3.size;omega)
         have r15:Cs w5 g1 (opC o s):=((r12.later b3).later b4).step s5 (fun e=>by have:=b3.size;have:=b2.size;omega)
         have gl3:=r5.lt
         clear c10 c11 c12 c13 c14 c15 c16
         have d0:=r5.cell 0 _ rfl
         have d1:=r5.cell 1 _ rfl
         have c14:=r15.cell 4 _ rfl
         have c17:=r15.cell 7 _ rfl)
      | (refine Z03 (by rfl) _ _ (by rfl) g2 (by rfl) anZ 0 Z0c (by rfl) _ r25 rfl ?_;intro w9 r9 s9))
     exact bodyPost_ret (Z0d Z06 Tryz.results54 rfl rfl r9 rfl) rfl (Z0q (by decide) (TxG.same h B5 (by omega) s9))
   have eE:Z.reE o=0:=by unfold Tz.reE;rw [if_pos h0,f2,if_neg hmd,if_neg (by omega)]
   rw [eE]
   clear eE
   have hk:(Z.nd f.i).k≠0:=by rw [f3];decide
   obtain⟨K,hK⟩:∃ K:Nat,o.n=(K:Int):=⟨o.n.toNat,by omega⟩
   obtain⟨P,hP⟩:∃ P:Nat,f.p=(P:Int):=⟨f.p.toNat,by omega⟩
   obtain⟨L,hL⟩:∃ L,(Z.nd f.i).d.length=L:=⟨_,rfl⟩
   have hLb:=hz.dl f.i
   rw [hL]at hLb
   go_enter Tryz.func54,Tryz.ntmps54
   go_wp2_with (first
    | (refine Z05 (by rfl) _ (by rfl) o s (by rfl) ?_;intro g1 w1 z1 z2 r1 b1
       have c10:=r1.cell 0 _ rfl
       have c11:=r1.cell 1 _ rfl
       have c12:=r1.cell 2 _ rfl
       have c13:=r1.cell 3 _ rfl
       have c14:=r1.cell 4 _ rfl
       have c15:=r1.cell 5 _ rfl
       have c16:=r1.cell 6 _ rfl)
    | (refine Z02 (by rfl) (by rfl) ?_;intro g2 w2 z3 z4 r2 b2
       have B2:=Z00q b1 b2 (Nat.le_refl _)
       have r12:=r1.later b2
       clear c10 c11 c12 c13 c14 c15 c16
       have c10:=r12.cell 0 _ rfl
       have c11:=r12.cell 1 _ rfl
       have c12:=r12.cell 2 _ rfl
       have c13:=r12.cell 3 _ rfl
       have c14:=r12.cell 4 _ rfl
       have c15:=r12.cell 5 _ rfl
       have c16:=r12.cell 6 _ rfl)
    | (go_at_call 102;refine(hO _ B2).mono ?_;rintro e w3 ⟨rfl,b3⟩;clear hO
       have B3:=Z00q B2 b3 (Nat.le_refl _)
       have zz3:=B3.size)
    | (refine Z14 (by rfl) (by rfl) ?_;intro g3 w4 z5 z6 r4 b4
       have B4:=Z00q B3 b4 (Nat.le_refl _))
    | (refine Z10 (by rfl) _ _ (by rfl) g3 (by rfl) f (by rfl) _ r4 rfl ?_;intro w5 r5 s5
       have B5:Below w.heap.size w w5:=((Stp.of_below B4 (fun _=>False)).next s5 (fun y e=> .inr (by omega))).below (Nat.le_refl _) (fun y e=>e.elim)
       have r25:Cs w5 g2 anZ:=((r2.later b3).later b4).step s5 (fun e=>by have:=b3.size;omega)
       have r15:Cs w5 g1 (opC o s):=((r12.later b3).later b4).step s5 (fun e=>by have:=b3.size;have:=b2.size;omega)
       have gl3:=r5.lt
       clear c10 c11 c12 c13 c14 c15 c16
       have d0:=r5.cell 0 _ rfl
       have d1:=r5.cell 1 _ rfl
       have c14:=r15.cell 4 _ rfl
       have c17:=r15.cell 7 _ rfl))
   obtain⟨tg,mb,ob,nb,sv,H5,hU5⟩:=h.later B5
   obtain⟨e5,s5b,_⟩:=OwD.bsS (H5.dt f.i hk).1 (hz.db f.i)
   rw [hL]at e5
   refine wp_region_held_drew (S:=fun u=>Below w5.heap.size w5 u) (by kernel_rfl) (Below.refl _ _).drew (fun hHeld=>?_)
   refine tl 0 (.pointer (some ⟨g,0,none⟩)) rfl ?_
   try simp only [z]
   refine tl 1 (.pointer (some ⟨g,0,none⟩)) rfl ?_
   try simp only [z]
   refine tl 2 (.pointer (some ⟨g,0,none⟩)) rfl ?_
   try simp only [z]
   refine tl 3 (.map (some mb)) rfl ?_ (fun u hu=>by have x1:=(H5.later hu).c0;go_simp)
   try simp only [z]
   refine tl 4 (.pointer (some ⟨g3,0,none⟩)) rfl ?_
   try simp only [z]
   refine tl 5 (.int .i64 f.i) rfl ?_ (fun u hu=>by have x1:=(r5.later hu).cell 0 _ rfl;go_simp)
   try simp only [z]
   refine tl 6 (.pointer (some ⟨q f.i,0,none⟩)) rfl ?_ (fun u hu=>by have x1:=(H5.later hu).look hk (Z13 hz hm hk);go_simp)
   try simp only [z]
   refine tl 7 (.pointer (some ⟨q f.i,0,none⟩)) rfl ?_
   try simp only [z]
   refine tl 8 (.pointer (some ⟨q f.i,2,none⟩)) rfl ?_
   try simp only [z]
   refine tl 9 (.slice (sv f.i).a (sv f.i).n (sv f.i).c) rfl ?_ (fun u hu=>by have x1:=(H5.later hu).n2 hk;go_simp)
   try simp only [z]
   refine tl 10 (.slice (sv f.i).a (sv f.i).n (sv f.i).c) rfl ?_
   try simp only [z]
   refine wpAnyH_done (by kernel_rfl) ?_ _
   have r56:=r5.later hHeld
   have r16:=r15.later hHeld
   have r26:=r25.later hHeld
   have H6:=H5.later hHeld
   have B6:=Z00q B5 hHeld (Nat.le_refl _)
   have s6b:=s5b.later hHeld
   generalize w5.drew=w6 at *
   clear d0 d1 c14 c17
   have d1:=r56.cell 1 _ rfl
   have c14:=r16.cell 4 _ rfl
   rw [hK]at c14
   rw [hP]at d1
   rw [e5]
   have hle6:=s6b.le
   rw [e5]at hle6
   have hm1:min (P:Int) (L:Int)=((min P L:Nat):Int):=by omega
   have hm2:min (((min P L:Nat):Int)+(K:Int)) (L:Int)=((min (min P L+K) L:Nat):Int):=by omega
   have hFT:min P L≤min (min P L+K) L:=by omega
   have hTL:min (min P L+K) L≤L:=by omega
   have eN:Hid (rdC (Z.nd f.i).d f.p o.n=((min (min P L+K) L - min P L:Nat):Int)):=by show _=_;unfold rdC;rw [hP,hK,hL];omega
   have hsum:(P:Int)+((min (min P L+K) L - min P L:Nat):Int)≤9223372036854775807:=by omega
   obtain⟨F,hF⟩:∃ F,F=min P L:=⟨_,rfl⟩
   rw [← hF]at hm1 hm2 hFT hTL eN hsum
   obtain⟨T,hT⟩:∃ T,T=min (F+K) L:=⟨_,rfl⟩
   rw [← hT]at hm2 hFT hTL eN hsum
   clear hF hT
   have sub:=Zah s6b F T hFT (by rw [e5];exact hTL)
   have hC:=Z3n sub (by simp;omega)
   simp only [List.length_take,List.length_drop,hL,Nat.min_eq_left (show T - F≤L - F by omega)]at hC
   go_wp2_with (first
    | (refine Zae (by rfl) _ _ _ (by rfl) ⟨(sv f.i).a,L,(sv f.i).c⟩ (by rfl) F T (by rfl) (by rfl) hFT (by show T≤(sv f.i).c;omega) ?_)
    | (go_at_call 37;refine hC.mono ?_;rintro e w7 ⟨s7,rfl,o7,v7,n7,b7⟩;clear hC))
   obtain⟨sa7,sn7,sc7⟩:=s7
   simp only at n7
   subst n7
   have H7:=H6.later b7
   have Hc:=H7
   have B7:=Z00q B6 b7 (Nat.le_refl _)
   have zz7:=b7.size
   have n1:¬tg g1≠0:=fun e=>by have:=hU g1 ((hU5 g1).2 e);omega
   have n2:¬tg g2≠0:=fun e=>by have:=hU g2 ((hU5 g2).2 e);have:=b1.size;omega
   have n3:¬tg g3≠0:=fun e=>by have:=hU g3 ((hU5 g3).2 e);omega
   have n12:¬g1=g2:=fun e=>by omega
   have n32:¬g3=g2:=fun e=>by have:=b3.size;omega
   have zz1:=b1.size
   have r1c:=r16.later b7
   have r2c:=r26.later b7
   have r3c:=r56.later b7
   have zg1:=r2c.lt
   have hUc:=hU5
   have eK:Hid (Z0w Z.t o.fd ((P:Int)+((T - F:Nat):Int))=0):=Z41 h0 (by omega)
   have eS:Hid (Z.reS o=Z.fds (Z0f Z.t o.fd ((P:Int)+((T - F:Nat):Int)))):=by show _=_;unfold Tz.reS;rw [f2,eN.out,hP]
   have hA7:AnE 0 (anC 0 0 (.slice sa7 (T - F) sc7) nilV 0 0 0):=⟨0, .slice sa7 (T - F) sc7,nilV,0,0,0,rfl,rfl,rfl⟩
   have hwr:IntKind.i64.wrap ((P:Int)+((T - F:Nat):Int))=(P:Int)+((T - F:Nat):Int):=by rw [IntKind.wrap_i64];omega
   have hpc:f.cs[1]? =some (.int .i64 (P:Int)):=by rw [← hP];rfl
   refine wp_region_held_drew (S:=fun u=>u.cell? ⟨g,2,none⟩=some (.pointer (some ⟨ob,0,none⟩))∧Stp (fun y=>tg y≠0∨y=g2) w7 u∧u.cell? ⟨g1,3,none⟩=some (.int .i64 o.fd)∧u.cell? ⟨g3,1,none⟩=some (.int .i64 (P:Int))) (by kernel_rfl) ⟨Hc.c2,(Stp.refl _ _).drew,r1c.cell 3 _ rfl,r3c.cell 1 _ hpc⟩ (fun hHeld=>?_)
   replace Hc:=Hc.later (show Below w7.heap.size w7 w7.drew from(Below.refl _ _).drew)
   replace r1c:=r1c.later (show Below w7.heap.size w7 w7.drew from(Below.refl _ _).drew)
   replace r3c:=r3c.later (show Below w7.heap.size w7 w7.drew from(Below.refl _ _).drew)
   replace r2c:=r2c.later (show Below w7.heap.size w7 w7.drew from(Below.refl _ _).drew)
   refine tl 0 (.slice sa7 (T - F) sc7) rfl ?_
   try simp only [z]
   refine tl 1 (.agg (anC 0 0 (.slice sa7 (T - F) sc7) nilV 0 0 0).toArray) rfl ?_ (fun u hu=>by have x1:=Zdn sa7 (T - F) sc7;go_simp;rfl)
   try simp only [z]
   refine tl 2 (.pointer (some ⟨g,0,none⟩)) rfl ?_
   try simp only [z]
   refine tl 3 (.pointer (some ⟨g,0,none⟩)) rfl ?_
   try simp only [z]
   refine tl 4 (.pointer (some ⟨g,2,none⟩)) rfl ?_
   try simp only [z]
   refine tl 5 (.pointer (some ⟨ob,0,none⟩)) rfl ?_ (fun u hu=>by have x1:=hu.1;go_simp)
   try simp only [z]
   refine tl 6 (.pointer (some ⟨g1,3,none⟩)) rfl ?_
   try simp only [z]
   refine tl 7 (.int .i64 o.fd) rfl ?_ (fun u hu=>by have x1:=hu.2.2.1;go_simp)
   try simp only [z]
   refine tl 8 (.pointer (some ⟨g3,1,none⟩)) rfl ?_
   try simp only [z]
   refine tl 9 (.int .i64 (P:Int)) rfl ?_ (fun u hu=>by have x1:=hu.2.2.2;go_simp)
   try simp only [z]
   refine tl 10 (.slice sa7 (T - F) sc7) rfl ?_
   try simp only [z]
   refine tl 11 (.int .i64 ((T - F:Nat):Int)) rfl ?_
   try simp only [z]
   refine tl 12 (.int .i64 ((P:Int)+((T - F:Nat):Int))) rfl ?_
   try simp only [z]
   refine rd 13 rfl (fun K hK=>?_)
   go_simp
   refine(Z55 Hc o.fd ((P:Int)+((T - F:Nat):Int))).mono ?_
   rintro e wS ⟨rfl,tS,HS,sS,gS⟩
   try go_wp2_with fail
   have r1c:=r1c.step sS n1
   have r2c:=r2c.step sS n2
   have r3c:=r3c.step sS n3
   have zS:=hHeld.2.1.size
   refine hK.out _ _ (⟨HS.c2,hHeld.2.1.next sS (fun y e=> .inl (.inl e)),r1c.cell 3 _ rfl,r3c.cell 1 _ hpc⟩) (fun hHeld=>?_)
   clear hK K
   try simp only [z]
   refine rd 14 rfl (fun K hK=>?_)
   refine Z39 rfl _ _ (by rfl) g2 (by rfl) (anC 0 0 (.slice sa7 (T - F) sc7) nilV 0 0 0) 0 hA7 (by rfl) _ r2c rfl ?_
   intro wA r2c sA
   have r1c:=r1c.step sA n12
   have r3c:=r3c.step sA n32
   have zA:=sA.size
   try (replace Hc:=Hc.step sA (fun y hy e=>n2 (e▸hy)))
   try (replace HS:=HS.step sA (fun y hy e=>by subst e;rcases gS y hy with c | c;exact n2 c;omega))
   refine hK.out _ _ (⟨by first | exact HS.c2 | exact Hc.c2,hHeld.2.1.next sA (fun y e=> .inl (.inr e)),r1c.cell 3 _ rfl,r3c.cell 1 _ hpc⟩) (fun hHeld=>?_)
   clear hK K
   try simp only [Act.put]
   refine tl 15 (.int .i64 (Z0w Z.t o.fd ((P:Int)+((T - F:Nat):Int)))) rfl ?_
   try simp only [z]
   refine wpAnyH_done (by kernel_rfl) ?_ _
   go_wp2_with fail
   refine bodyPost_ret (Z0d Z06 Tryz.results54 rfl rfl r2c rfl) rfl ?_
   rw [eS.out,eK.out]
   exact Z16 hA7 ((Z3u B7 hUc (by omega) HS hHeld.2.1 (fun y hy=>by rcases gS y hy with c | c;exact .inl c;exact .inr (by omega))).more (Nat.le_succ B))
 · have eE:Z.reE o=opnE Z o.fd c:=by
    unfold Tz.reE
    rcases hgE with h0 | h0
    · rw [if_pos h0]
      obtain⟨f,f1,f2,f3,f4,f5,f6,f7⟩:=Z1m hz h0
      rw [f2,bit1 ⟨f6,f7⟩]at hc
      unfold opnE at h1 ⊢
      rw [if_pos h0]at h1 ⊢
      by_cases hc0:c=0
      · rw [if_pos hc0,f2,if_pos (by omega)]
      · rw [if_neg hc0]at h1;exact absurd rfl h1
    · rw [if_neg (by rw [h0];decide)]
      unfold opnE
      rw [if_neg (by rw [h0];decide)]
   rw [eE]
   clear eE
   go_enter Tryz.func54,Tryz.ntmps54
   go_wp2_with (first
    | (refine Z05 (by rfl) _ (by rfl) o s (by rfl) ?_;intro g1 w1 z1 z2 r1 b1
       have c10:=r1.cell 0 _ rfl
       have c11:=r1.cell 1 _ rfl
       have c12:=r1.cell 2 _ rfl
       have c13:=r1.cell 3 _ rfl
       have c14:=r1.cell 4 _ rfl
       have c15:=r1.cell 5 _ rfl
       have c16:=r1.cell 6 _ rfl)
    | (refine Z02 (by rfl) (by rfl) ?_;intro g2 w2 z3 z4 r2 b2
       have B2:=Z00q b1 b2 (Nat.le_refl _)
       have r12:=r1.later b2
       clear c10 c11 c12 c13 c14 c15 c16
       have c10:=r12.cell 0 _ rfl
       have c11:=r12.cell 1 _ rfl
       have c12:=r12.cell 2 _ rfl
       have c13:=r12.cell 3 _ rfl
       have c14:=r12.cell 4 _ rfl
       have c15:=r12.cell 5 _ rfl
       have c16:=r12.cell 6 _ rfl)
    | (go_at_call 102;refine(hO _ B2).mono ?_;rintro e w3 ⟨rfl,b3⟩;clear hO
       have B3:=Z00q B2 b3 (Nat.le_refl _)
       have zz3:=B3.size)
    | (refine Z14 (by rfl) (by rfl) ?_;intro g3 w4 z5 z6 r4 b4
       have B4:=Z00q B3 b4 (Nat.le_refl _))
    | (refine Z10 (by rfl) _ _ (by rfl) g3 (by rfl) (opnF Z o.fd c) (by rfl) _ r4 rfl ?_;intro w5 r5 s5
       have B5:Below w.heap.size w w5:=((Stp.of_below B4 (fun _=>False)).next s5 (fun y e=> .inr (by omega))).below (Nat.le_refl _) (fun y e=>e.elim)
       have r25:Cs w5 g2 anZ:=((r2.later b3).later b4).step s5 (fun e=>by have:=b3.size;omega)
       have r15:Cs w5 g1 (opC o s):=((r12.later b3).later b4).step s5 (fun e=>by have:=b3.size;have:=b2.size;omega)
       have gl3:=r5.lt
       clear c10 c11 c12 c13 c14 c15 c16
       have d0:=r5.cell 0 _ rfl
       have d1:=r5.cell 1 _ rfl
       have c14:=r15.cell 4 _ rfl
       have c17:=r15.cell 7 _ rfl)
    | (refine Z03 (by rfl) _ _ (by rfl) g2 (by rfl) anZ 0 Z0c (by rfl) _ r25 rfl ?_;intro w9 r9 s9))
   exact bodyPost_ret (Z0d Z06 Tryz.results54 rfl rfl r9 rfl) rfl (Z0q h1 (TxG.same h B5 (by omega) s9))
set_option maxRecDepth 100000
theorem Z64 {w wc wE:World} {tg tS:Nat→Nat} {g mb ob B ga:Nat} {q nb:Int→Nat} {sv:Int→Sv} {Z':Tz} {U U7:Nat→Prop} (sT:Stp U w wc) (eT:Grew U U7 w wc) (hU:∀ x,U7 x↔tg x≠0) (z:w.heap.size≤ga) (HS:Tw wE tS g mb ob q nb sv B Z') (k:Stp (fun y=>tg y≠0∨y=ga) wc wE) (gr:∀ y,tS y≠0→tg y≠0∨wc.heap.size≤y):TxG U g q B Z' w wE:=by
 refine⟨fun x=>tS x≠0,⟨tS,mb,ob,nb,sv,HS,fun x=>Iff.rfl⟩,sT.next k (fun y e=>?_),fun y hy=>?_⟩
 · rcases e with e | e
   · rcases eT y ((hU y).2 e)with c | c
     · exact .inl c
     · exact .inr c.1
   · exact .inr (by omega)
 · rcases gr y hy with e | e
   · rcases eT y ((hU y).2 e)with c | c
     · exact .inl c
     · exact .inr ⟨c.1,Nat.lt_of_lt_of_le c.2 k.size⟩
   · exact .inr ⟨Nat.le_trans sT.size e,HS.low y hy⟩
theorem Zdv {Z:Tz} {i:Int} {d e:List Int} (hi:i.toNat < Z.N.length):(Z.dat i d).dat i e=Z.dat i e:=by
 refine Z2r (by unfold Tz.dat;simp only [up_len]) (fun j hj=>?_) rfl
 unfold Tz.dat
 have e1:=fun y=>Z20 (Z:=Z.up i ⟨(Z.nd i).k,(Z.nd i).ln,d,(Z.nd i).nm⟩) (i:=i) (x:=y) (by rw [up_len];exact hi) j
 rw [e1,Z20 hi j,Z20 hi j,Z20 hi i]
 by_cases h:j.toNat=i.toNat
 · simp [h]
 · simp [h]
theorem Z8d (d:List Int) (P:Nat) (x:List Int):spD (ctB' d (max d.length (P+x.length))) P x=wrB d P x:=rfl
theorem Z70 {w:World} {s:Sv} {d:List Int} (h:OwD w s.v d) (hd:0 < d.length):∃ gd,s.a=some ⟨gd,0,none⟩∧s.v.ownBlock=some gd:=by
 rcases h.2 with⟨e,e2⟩ | ⟨gd,cap,cur,e,_⟩
 · omega
 · simp only [Sv.v]at e
   injection e with e1 e2 e3
   exact⟨gd,e1,by simp only [Sv.v];rw [e1];rfl⟩
theorem InE.later' {w w':World} {U:Nat→Prop} {s:Sv} {l:List Int} (h:BsS w s l) (he:InE (fun y=>¬U y) s) (k:Stp U w w'):BsS w' s l:=h.step k he (fun _ hx=>hx)
set_option maxHeartbeats 4000000 in
theorem Zd5 {w:World} {U:Nat→Prop} {g B n:Nat} {q:Int→Nat} {Z:Tz} (h:Tx w U g q B Z) (hz:Z.ok n) (hn:n≤900) (hB:B≤900) (o:Oz) (ho:o.wfo) (s:Sv) (hs:BsS w s o.d) (he:InE (fun y=>¬U y) s) (hE:Z.wrE o≠0):
 Calls Tryz.prog 55 #[.pointer (some ⟨g,0,none⟩), .agg (opC o s).toArray] w fun e w'=>Ret e U g B Z (Z.wrS o) (Z.wrE o) w w':=by
 have hm:n+2≤1000:=by omega
 have hU:=h.low
 have hgE:=Z1q Z.t o.fd
 have hsn:=hs.len
 obtain⟨c,hc⟩:∃ c,bits .and .i64 (Z01 Z.t o.fd).m 2=c:=⟨_,rfl⟩
 have hO:=fun w' (b:Below w.heap.size w w')=>Z38 (h.later b) o.fd 2 c hc
 by_cases h1:opnE Z o.fd c=0
 · have h0:Z04 Z.t o.fd=0:=by
    unfold opnE at h1
    split at h1
    · rename_i e;exact e
    · cases h1
   have hc0:c≠0:=fun e=>by unfold opnE at h1;rw [if_pos h0,if_pos e]at h1;cases h1
   obtain⟨f,f1,f2,f3,f4,f5,f6,f7⟩:=Z1m hz h0
   have eO:opnF Z o.fd c=f:=by unfold opnF;rw [if_pos h1,f2]
   rw [h1,eO]at hO
   have hmd:¬f.m < 2:=fun e=>by rw [f2,bit2 ⟨f6,f7⟩,if_pos e]at hc;omega
   clear eO
   obtain⟨P,hP⟩:∃ P:Nat,f.p=(P:Int):=⟨f.p.toNat,by omega⟩
   have hpc:f.cs[1]? =some (.int .i64 (P:Int)):=by rw [← hP];rfl
   by_cases h2:4096 < o.d.length
   · have eE:Z.wrE o=2:=by unfold Tz.wrE;rw [if_pos h0,f2,if_neg hmd,if_pos h2]
     rw [eE]
     clear eE
     have h2':4096 < (s.n:Int):=by omega
     go_enter Tryz.func55,Tryz.ntmps55
     go_wp2_with (first
      | (refine Z05 (by rfl) _ (by rfl) o s (by rfl) ?_;intro g1 w1 z1 z2 r1 b1
         have c10:=r1.cell 0 _ rfl
         have c11:=r1.cell 1 _ rfl
         have c12:=r1.cell 2 _ rfl
         have c13:=r1.cell 3 _ rfl
         have c14:=r1.cell 4 _ rfl
         have c15:=r1.cell 5 _ rfl
         have c16:=r1.cell 6 _ rfl)
      | (refine Z02 (by rfl) (by rfl) ?_;intro g2 w2 z3 z4 r2 b2
         have B2:=Z00q b1 b2 (Nat.le_refl _)
         have r12:=r1.later b2
         clear c10 c11 c12 c13 c14 c15 c16
         have c10:=r12.cell 0 _ rfl
         have c11:=r12.cell 1 _ rfl
         have c12:=r12.cell 2 _ rfl
         have c13:=r12.cell 3 _ rfl
         have c14:=r12.cell 4 _ rfl
         have c15:=r12.cell 5 _ rfl
         have c16:=r12.cell 6 _ rfl)
      | (go_at_call 102;refine(hO _ B2).mono ?_;rintro e w3 ⟨rfl,b3⟩;clear hO
         have B3:=Z00q B2 b3 (Nat.le_refl _)
         have zz3:=B3.size)
      | (refine Z14 (by rfl) (by rfl) ?_;intro g3 w4 z5 z6 r4 b4
         have B4:=Z00q B3 b4 (Nat.le_refl _))
      | (refine Z10 (by rfl) _ _ (by rfl) g3 (by rfl) f (by rfl) _ r4 rfl ?_;intro w5 r5 s5
         have B5:Below w.heap.size w w5:=((Stp.of_below B4 (fun _=>False)).next s5 (fun y e=> .inr (by omega))).below (Nat.le_refl _) (fun y e=>e.elim)
         have r25:Cs w5 g2 anZ:=((r2.later b3).later b4).step s5 (fun e=>by have:=b3.size;omega)
         have r15:Cs w5 g1 (opC o s):=((r12.later b3).later b4).step s5 (fun e=>by have:=b3.size;have:=b2.size;omega)
         have gl3:=r5.lt
         clear c10 c11 c12 c13 c14 c15 c16
         have d0:=r5.cell 0 _ rfl
         have d1:=r5.cell 1 _ hpc
         have c14:=r15.cell 4 _ rfl
         have c17:=r15.cell 7 _ rfl)
      | (refine Z03 (by rfl) _ _ (by rfl) g2 (by rfl) anZ 0 Z0c (by rfl) _ r25 rfl ?_;intro w9 r9 s9))
     exact bodyPost_ret (Z0d Z06 Tryz.results55 rfl rfl r9 rfl) rfl (Z0q (by decide) (TxG.same h B5 (by omega) s9))
   have h2':¬4096 < (s.n:Int):=by omega
   by_cases h3:48640 < f.p+o.d.length
   · have eE:Z.wrE o=31:=by unfold Tz.wrE;rw [if_pos h0,f2,if_neg hmd,if_neg h2,if_pos h3]
     rw [eE]
     clear eE
     have h3':48640 < (P:Int)+(s.n:Int):=by omega
     have hPb:(P:Int)≤48640:=by omega
     go_enter Tryz.func55,Tryz.ntmps55
     go_wp2_with (first
      | (refine Z05 (by rfl) _ (by rfl) o s (by rfl) ?_;intro g1 w1 z1 z2 r1 b1
         have c10:=r1.cell 0 _ rfl
         have c11:=r1.cell 1 _ rfl
         have c12:=r1.cell 2 _ rfl
         have c13:=r1.cell 3 _ rfl
         have c14:=r1.cell 4 _ rfl
         have c15:=r1.cell 5 _ rfl
         have c16:=r1.cell 6 _ rfl)
      | (refine Z02 (by rfl) (by rfl) ?_;intro g2 w2 z3 z4 r2 b2
         have B2:=Z00q b1 b2 (Nat.le_refl _)
         have r12:=r1.later b2
         clear c10 c11 c12 c13 c14 c15 c16
         have c10:=r12.cell 0 _ rfl
         have c11:=r12.cell 1 _ rfl
         have c12:=r12.cell 2 _ rfl
         have c13:=r12.cell 3 _ rfl
         have c14:=r12.cell 4 _ rfl
         have c15:=r12.cell 5 _ rfl
         have c16:=r12.cell 6 _ rfl)
      | (go_at_call 102;refine(hO _ B2).mono ?_;rintro e w3 ⟨rfl,b3⟩;clear hO
         have B3:=Z00q B2 b3 (Nat.le_refl _)
         have zz3:=B3.size)
      | (refine Z14 (by rfl) (by rfl) ?_;intro g3 w4 z5 z6 r4 b4
         have B4:=Z00q B3 b4 (Nat.le_refl _))
      | (refine Z10 (by rfl) _ _ (by rfl) g3 (by rfl) f (by rfl) _ r4 rfl ?_;intro w5 r5 s5
         have B5:Below w.heap.size w w5:=((Stp.of_below B4 (fun _=>False)).next s5 (fun y e=> .inr (by omega))).below (Nat.le_refl _) (fun y e=>e.elim)
         have r25:Cs w5 g2 anZ:=((r2.later b3).later b4).step s5 (fun e=>by have:=b3.size;omega)
         have r15:Cs w5 g1 (opC o s):=((r12.later b3).later b4).step s5 (fun e=>by have:=b3.size;have:=b2.size;omega)
         have gl3:=r5.lt
         clear c10 c11 c12 c13 c14 c15 c16
         have d0:=r5.cell 0 _ rfl
         have d1:=r5.cell 1 _ hpc
         have c14:=r15.cell 4 _ rfl
         have c17:=r15.cell 7 _ rfl)
      | (refine Z03 (by rfl) _ _ (by rfl) g2 (by rfl) anZ 0 Z0c (by rfl) _ r25 rfl ?_;intro w9 r9 s9))
     exact bodyPost_ret (Z0d Z06 Tryz.results55 rfl rfl r9 rfl) rfl (Z0q (by decide) (TxG.same h B5 (by omega) s9))
   exact absurd (by unfold Tz.wrE;rw [if_pos h0,f2,if_neg hmd,if_neg h2,if_neg h3]) hE
 · have eE:Z.wrE o=opnE Z o.fd c:=by
    unfold Tz.wrE
    rcases hgE with h0 | h0
    · rw [if_pos h0]
      obtain⟨f,f1,f2,f3,f4,f5,f6,f7⟩:=Z1m hz h0
      rw [f2,bit2 ⟨f6,f7⟩]at hc
      unfold opnE at h1 ⊢
      rw [if_pos h0]at h1 ⊢
      by_cases hc0:c=0
      · rw [if_pos hc0,f2,if_pos (by
         by_cases e:f.m < 2
         · exact e
         · rw [if_neg e]at hc;omega)]
      · rw [if_neg hc0]at h1;exact absurd rfl h1
    · rw [if_neg (by rw [h0];decide)]
      unfold opnE
      rw [if_neg (by rw [h0];decide)]
   rw [eE]
   clear eE
   go_enter Tryz.func55,Tryz.ntmps55
   go_wp2_with (first
    | (refine Z05 (by rfl) _ (by rfl) o s (by rfl) ?_;intro g1 w1 z1 z2 r1 b1
       have c10:=r1.cell 0 _ rfl
       have c11:=r1.cell 1 _ rfl
       have c12:=r1.cell 2 _ rfl
       have c13:=r1.cell 3 _ rfl
       have c14:=r1.cell 4 _ rfl
       have c15:=r1.cell 5 _ rfl
       have c16:=r1.cell 6 _ rfl)
    | (refine Z02 (by rfl) (by rfl) ?_;intro g2 w2 z3 z4 r2 b2
       have B2:=Z00q b1 b2 (Nat.le_refl _)
       have r12:=r1.later b2
       clear c10 c11 c12 c13 c14 c15 c16
       have c10:=r12.cell 0 _ rfl
       have c11:=r12.cell 1 _ rfl
       have c12:=r12.cell 2 _ rfl
       have c13:=r12.cell 3 _ rfl
       have c14:=r12.cell 4 _ rfl
       have c15:=r12.cell 5 _ rfl
       have c16:=r12.cell 6 _ rfl)
    | (go_at_call 102;refine(hO _ B2).mono ?_;rintro e w3 ⟨rfl,b3⟩;clear hO
       have B3:=Z00q B2 b3 (Nat.le_refl _)
       have zz3:=B3.size)
    | (refine Z14 (by rfl) (by rfl) ?_;intro g3 w4 z5 z6 r4 b4
       have B4:=Z00q B3 b4 (Nat.le_refl _))
    | (refine Z10 (by rfl) _ _ (by rfl) g3 (by rfl) (opnF Z o.fd c) (by rfl) _ r4 rfl ?_;intro w5 r5 s5
       have B5:Below w.heap.size w w5:=((Stp.of_below B4 (fun _=>False)).next s5 (fun y e=> .inr (by omega))).below (Nat.le_refl _) (fun y e=>e.elim)
       have r25:Cs w5 g2 anZ:=((r2.later b3).later b4).step s5 (fun e=>by have:=b3.size;omega)
       have r15:Cs w5 g1 (opC o s):=((r12.later b3).later b4).step s5 (fun e=>by have:=b3.size;have:=b2.size;omega)
       have gl3:=r5.lt
       clear c10 c11 c12 c13 c14 c15 c16
       have d0:=r5.cell 0 _ rfl
       have d1:=r5.cell 1 _ rfl
       have c14:=r15.cell 4 _ rfl
       have c17:=r15.cell 7 _ rfl)
    | (refine Z03 (by rfl) _ _ (by rfl) g2 (by rfl) anZ 0 Z0c (by rfl) _ r25 rfl ?_;intro w9 r9 s9))
   exact bodyPost_ret (Z0d Z06 Tryz.results55 rfl rfl r9 rfl) rfl (Z0q h1 (TxG.same h B5 (by omega) s9))
end Go.Proofs.YtdnjddpfcgginaaGreat
