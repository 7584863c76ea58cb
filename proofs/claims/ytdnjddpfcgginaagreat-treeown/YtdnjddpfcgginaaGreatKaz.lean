/-
  Texts of my own, joined: no statement is proved here.
-/
import Derived.Test.YtdnjddpfcgginaaGreatKay
set_option linter.unusedSimpArgs false
set_option linter.unusedVariables false
namespace Go.Proofs.YtdnjddpfcgginaaGreat
open Go.ChangeShapes Go.WideShapes Go.ChangeAt Go.RowKit
set_option maxRecDepth 100000
set_option maxHeartbeats 4000000 in
theorem Z63 {w:World} {U:Nat→Prop} {g B n:Nat} {q:Int→Nat} {Z:Tz} (h:Tx w U g q B Z) (hz:Z.ok n) (hn:n≤900) (hB:B≤900) (o:Oz) (ho:o.wfo) (s:Sv) (hs:BsS w s o.d) (he:InE (fun y=>¬U y) s) (hE:Z.wrE o=0) (h4:o.d= []):
 Calls Tryz.prog 55 #[.pointer (some ⟨g,0,none⟩), .agg (opC o s).toArray] w fun e w'=>Ret e U g B Z (Z.wrS o) (Z.wrE o) w w':=by
 have hm:n+2≤1000:=by omega
 have hU:=h.low
 have hgE:=Z1q Z.t o.fd
 have hsn:=hs.len
 obtain⟨c,hc⟩:∃ c,bits .and .i64 (Z01 Z.t o.fd).m 2=c:=⟨_,rfl⟩
 have hO:=fun w' (b:Below w.heap.size w w')=>Z38 (h.later b) o.fd 2 c hc
 by_cases h1:opnE Z o.fd c=0
 · have h0:Z04 Z.t o.fd=0:=by
    unfold opnE at h1
    split at h1
    · rename_i e;exact e
    · cases h1
   have hc0:c≠0:=fun e=>by unfold opnE at h1;rw [if_pos h0,if_pos e]at h1;cases h1
   obtain⟨f,f1,f2,f3,f4,f5,f6,f7⟩:=Z1m hz h0
   have eO:opnF Z o.fd c=f:=by unfold opnF;rw [if_pos h1,f2]
   rw [h1,eO]at hO
   have hmd:¬f.m < 2:=fun e=>by rw [f2,bit2 ⟨f6,f7⟩,if_pos e]at hc;omega
   clear eO
   obtain⟨P,hP⟩:∃ P:Nat,f.p=(P:Int):=⟨f.p.toNat,by omega⟩
   have hpc:f.cs[1]? =some (.int .i64 (P:Int)):=by rw [← hP];rfl
   have h2:¬4096 < o.d.length:=fun e=>by unfold Tz.wrE at hE;rw [if_pos h0,f2,if_neg hmd,if_pos e]at hE;cases hE
   have h3:¬48640 < f.p+o.d.length:=fun e=>by unfold Tz.wrE at hE;rw [if_pos h0,f2,if_neg hmd,if_neg h2,if_pos e]at hE;cases hE
   have h2':¬4096 < (s.n:Int):=by omega
   rw [hE]
   have h3':¬48640 < (P:Int)+(s.n:Int):=by omega
   have hPb:(P:Int)≤48640:=by omega
   have hk:(Z.nd f.i).k≠0:=by rw [f3];decide
   have hil:=hz.live hk
   obtain⟨L,hL⟩:∃ L,(Z.nd f.i).d.length=L:=⟨_,rfl⟩
   have hLb:=hz.dl f.i
   rw [hL]at hLb
   have h4l:o.d.length=0:=by rw [h4];rfl
   have eS:Hid (Z.wrS o=Z.fds (Z0f Z.t o.fd (P:Int))):=by
    show _=_
    unfold Tz.wrS
    rw [if_pos h4,← hP,Zbi f1 (by omega)];rfl
   obtain⟨sa,sn,sc⟩:=s
   obtain rfl:sn=0:=by simp only at hsn;omega
   have h5:True:=trivial
   have hsnH:Hid (o.d.length=0):=hsn
   have h4H:Hid _:=h4
   have hEH:Hid _:=hE
   clear hsn h4 hE h4l
   go_enter Tryz.func55,Tryz.ntmps55
   go_wp2_with (first
    | (refine Z05 (by rfl) _ (by rfl) o ⟨sa,0,sc⟩ (by rfl) ?_;intro g1 w1 z1 z2 r1 b1
       have c10:=r1.cell 0 _ rfl
       have c11:=r1.cell 1 _ rfl
       have c12:=r1.cell 2 _ rfl
       have c13:=r1.cell 3 _ rfl
       have c14:=r1.cell 4 _ rfl
       have c15:=r1.cell 5 _ rfl
       have c16:=r1.cell 6 _ rfl)
    | (refine Z02 (by rfl) (by rfl) ?_;intro g2 w2 z3 z4 r2 b2
       have B2:=Z00q b1 b2 (Nat.le_refl _)
       have r12:=r1.later b2
       clear c10 c11 c12 c13 c14 c15 c16
       have c10:=r12.cell 0 _ rfl
       have c11:=r12.cell 1 _ rfl
       have c12:=r12.cell 2 _ rfl
       have c13:=r12.cell 3 _ rfl
       have c14:=r12.cell 4 _ rfl
       have c15:=r12.cell 5 _ rfl
       have c16:=r12.cell 6 _ rfl)
    | (go_at_call 102;refine(hO _ B2).mono ?_;rintro e w3 ⟨rfl,b3⟩;clear hO
       have B3:=Z00q B2 b3 (Nat.le_refl _)
       have zz3:=B3.size)
    | (refine Z14 (by rfl) (by rfl) ?_;intro g3 w4 z5 z6 r4 b4
       have B4:=Z00q B3 b4 (Nat.le_refl _))
    | (refine Z10 (by rfl) _ _ (by rfl) g3 (by rfl) f (by rfl) _ r4 rfl ?_;intro w5 r5 s5
       have B5:Below w.heap.size w w5:=((Stp.of_below B4 (fun _=>False)).next s5 (fun y e=> .inr (by omega))).below (Nat.le_refl _) (fun y e=>e.elim)
       have r25:Cs w5 g2 anZ:=((r2.later b3).later b4).step s5 (fun e=>by have:=b3.size;omega)
       have r15:Cs w5 g1 (opC o ⟨sa,0,sc⟩):=((r12.later b3).later b4).step s5 (fun e=>by have:=b3.size;have:=b2.size;omega)
       have gl3:=r5.lt
       clear c10 c11 c12 c13 c14 c15 c16
       have d0:=r5.cell 0 _ rfl
       have d1:=r5.cell 1 _ hpc
       have c14:=r15.cell 4 _ rfl
       have c17:=r15.cell 7 _ rfl))
   obtain⟨tg,mb,ob,nb,sv,H5,hU5⟩:=h.later B5
   obtain⟨e5,s5b,_⟩:=OwD.bsS (H5.dt f.i hk).1 (hz.db f.i)
   rw [hL]at e5
   refine wp_region_held_drew (S:=fun u=>Below w5.heap.size w5 u) (by kernel_rfl) (Below.refl _ _).drew (fun hHeld=>?_)
   refine tl 0 (.pointer (some ⟨g,0,none⟩)) rfl ?_
   try simp only [z]
   refine tl 1 (.pointer (some ⟨g,0,none⟩)) rfl ?_
   try simp only [z]
   refine tl 2 (.pointer (some ⟨g,0,none⟩)) rfl ?_
   try simp only [z]
   refine tl 3 (.map (some mb)) rfl ?_ (fun u hu=>by have x1:=(H5.later hu).c0;go_simp)
   try simp only [z]
   refine tl 4 (.pointer (some ⟨g3,0,none⟩)) rfl ?_
   try simp only [z]
   refine tl 5 (.int .i64 f.i) rfl ?_ (fun u hu=>by have x1:=(r5.later hu).cell 0 _ rfl;go_simp)
   try simp only [z]
   refine tl 6 (.pointer (some ⟨q f.i,0,none⟩)) rfl ?_ (fun u hu=>by have x1:=(H5.later hu).look hk (Z13 hz hm hk);go_simp)
   try simp only [z]
   refine tl 7 (.pointer (some ⟨q f.i,0,none⟩)) rfl ?_
   try simp only [z]
   refine wpAnyH_done (by kernel_rfl) ?_ _
   have r56:=r5.later hHeld
   have r16:=r15.later hHeld
   have r26:=r25.later hHeld
   have H6:=H5.later hHeld
   have B6:=Z00q B5 hHeld (Nat.le_refl _)
   have hs6:=hs.later B6
   have zz6:=hHeld.size
   have zzb1:=b1.size
   have zzb3:=b3.size
   have hT6:=h.later B6
   generalize w5.drew=w6 at *
   clear hHeld d0 d1 c14 c17
   have c17:=r16.cell 7 _ rfl
   have n2c:=H6.n2 hk
   have nU1:¬U g1:=fun e=>by have:=hU g1 e;omega
   have nU2:¬U g2:=fun e=>by have:=hU g2 e;omega
   have nU3:¬U g3:=fun e=>by have:=hU g3 e;omega
   have n12:¬g1=g2:=fun e=>by omega
   have n32:¬g3=g2:=fun e=>by omega
   go_wp2_with fail
   have Hc:=H6
   have r1c:=r16
   have r2c:=r26
   have zg1:=r26.lt
   have hUc:=hU5
   have n1:¬tg g1≠0:=fun e=>nU1 ((hU5 g1).2 e)
   have n2:¬tg g2≠0:=fun e=>nU2 ((hU5 g2).2 e)
   have sT:Stp U w w6:=Stp.of_below B6 U
   have eT:Grew U U w w6:=Grew.refl _ _ _
   have eK:Hid (Z0w Z.t o.fd (P:Int)=0):=Z41 h0 (by omega)
   refine wp_region_held_drew (S:=fun u=>u.cell? ⟨g,2,none⟩=some (.pointer (some ⟨ob,0,none⟩))∧Stp (fun y=>tg y≠0∨y=g2) w6 u∧u.cell? ⟨g1,3,none⟩=some (.int .i64 o.fd)∧u.cell? ⟨g1,7,none⟩=some (.slice sa 0 sc)) (by kernel_rfl) ⟨Hc.c2,(Stp.refl _ _).drew,r1c.cell 3 _ rfl,r1c.cell 7 _ rfl⟩ (fun hHeld=>?_)
   replace Hc:=Hc.later (show Below w6.heap.size w6 w6.drew from(Below.refl _ _).drew)
   replace r1c:=r1c.later (show Below w6.heap.size w6 w6.drew from(Below.refl _ _).drew)
   replace r2c:=r2c.later (show Below w6.heap.size w6 w6.drew from(Below.refl _ _).drew)
   refine tl 0 (.pointer (some ⟨g1,7,none⟩)) rfl ?_
   try simp only [z]
   refine tl 1 (.slice sa 0 sc) rfl ?_ (fun u hu=>by have x1:=hu.2.2.2;go_simp)
   try simp only [z]
   refine tl 2 (.int .i64 0) rfl ?_
   try simp only [z]
   refine tl 3 (.agg (anC 0 0 nilV nilV 0 0 0).toArray) rfl ?_ (fun u hu=>by have x1:=Z5i 0;go_simp;rfl)
   try simp only [z]
   refine tl 4 (.pointer (some ⟨g,0,none⟩)) rfl ?_
   try simp only [z]
   refine tl 5 (.pointer (some ⟨g,0,none⟩)) rfl ?_
   try simp only [z]
   refine tl 6 (.pointer (some ⟨g,2,none⟩)) rfl ?_
   try simp only [z]
   refine tl 7 (.pointer (some ⟨ob,0,none⟩)) rfl ?_ (fun u hu=>by have x1:=hu.1;go_simp)
   try simp only [z]
   refine tl 8 (.pointer (some ⟨g1,3,none⟩)) rfl ?_
   try simp only [z]
   refine tl 9 (.int .i64 o.fd) rfl ?_ (fun u hu=>by have x1:=hu.2.2.1;go_simp)
   try simp only [z]
   refine tl 10 (.int .i64 (P:Int)) rfl ?_
   try simp only [z]
   refine rd 11 rfl (fun K hK=>?_)
   go_simp
   refine(Z55 Hc o.fd (P:Int)).mono ?_
   rintro e wS ⟨rfl,tS,HS,sS,gS⟩
   try go_wp2_with fail
   have r1c:=r1c.step sS n1
   have r2c:=r2c.step sS n2
   have zS:=hHeld.2.1.size
   refine hK.out _ _ (⟨HS.c2,hHeld.2.1.next sS (fun y e=> .inl (.inl e)),r1c.cell 3 _ rfl,r1c.cell 7 _ rfl⟩) (fun hHeld=>?_)
   clear hK K
   try simp only [z]
   refine rd 12 rfl (fun K hK=>?_)
   refine Z39 rfl _ _ (by rfl) g2 (by rfl) (anC 0 0 nilV nilV 0 0 0) 0 (Z1y _) (by rfl) _ r2c rfl ?_
   intro wA r2c sA
   have r1c:=r1c.step sA n12
   have zA:=sA.size
   try (replace Hc:=Hc.step sA (fun y hy e=>n2 (e▸hy)))
   try (replace HS:=HS.step sA (fun y hy e=>by subst e;rcases gS y hy with c | c;exact n2 c;omega))
   refine hK.out _ _ (⟨by first | exact HS.c2 | exact Hc.c2,hHeld.2.1.next sA (fun y e=> .inl (.inr e)),r1c.cell 3 _ rfl,r1c.cell 7 _ rfl⟩) (fun hHeld=>?_)
   clear hK K
   try simp only [Act.put]
   refine tl 13 (.int .i64 (Z0w Z.t o.fd (P:Int))) rfl ?_ (fun u hu=>by go_simp;try rfl)
   try simp only [z]
   refine wpAnyH_done (by kernel_rfl) ?_ _
   go_wp2_with fail
   refine bodyPost_ret (Z0d Z06 Tryz.results55 rfl rfl r2c rfl) rfl ?_
   rw [eS.out,eK.out]
   exact Z16 (Z1y _) ((Z64 sT eT hUc (by omega) HS hHeld.2.1 (fun y hy=>by rcases gS y hy with c | c;exact .inl c;exact .inr (by omega))).more (Nat.le_succ B))
 · exfalso
   unfold opnE at h1
   have:=Z7e hE
   rw [if_pos this.1]at h1
   obtain⟨f,f1,f2,f3,f4,f5,f6,f7⟩:=Z1m hz this.1
   have hm2:=this.2.2.2
   rw [f2]at hm2 hc
   rw [bit2 ⟨f6,f7⟩,if_neg hm2]at hc
   rw [if_neg (by omega)]at h1
   exact h1 rfl
set_option maxRecDepth 100000
set_option maxHeartbeats 4000000 in
theorem Zd3 {w:World} {U:Nat→Prop} {g B n:Nat} {q:Int→Nat} {Z:Tz} (h:Tx w U g q B Z) (hz:Z.ok n) (hn:n≤900) (hB:B≤900) (o:Oz) (ho:o.wfo) (s:Sv) (hs:BsS w s o.d) (he:InE (fun y=>¬U y) s) (hE:Z.wrE o=0) (h4:¬o.d= []) (hx:(Z01 Z.t o.fd).p+o.d.length≤(Z.nd (Z01 Z.t o.fd).i).d.length):
 Calls Tryz.prog 55 #[.pointer (some ⟨g,0,none⟩), .agg (opC o s).toArray] w fun e w'=>Ret e U g B Z (Z.wrS o) (Z.wrE o) w w':=by
 have hm:n+2≤1000:=by omega
 have hU:=h.low
 have hgE:=Z1q Z.t o.fd
 have hsn:=hs.len
 obtain⟨c,hc⟩:∃ c,bits .and .i64 (Z01 Z.t o.fd).m 2=c:=⟨_,rfl⟩
 have hO:=fun w' (b:Below w.heap.size w w')=>Z38 (h.later b) o.fd 2 c hc
 by_cases h1:opnE Z o.fd c=0
 · have h0:Z04 Z.t o.fd=0:=by
    unfold opnE at h1
    split at h1
    · rename_i e;exact e
    · cases h1
   have hc0:c≠0:=fun e=>by unfold opnE at h1;rw [if_pos h0,if_pos e]at h1;cases h1
   obtain⟨f,f1,f2,f3,f4,f5,f6,f7⟩:=Z1m hz h0
   have eO:opnF Z o.fd c=f:=by unfold opnF;rw [if_pos h1,f2]
   rw [h1,eO]at hO
   have hmd:¬f.m < 2:=fun e=>by rw [f2,bit2 ⟨f6,f7⟩,if_pos e]at hc;omega
   clear eO
   obtain⟨P,hP⟩:∃ P:Nat,f.p=(P:Int):=⟨f.p.toNat,by omega⟩
   have hpc:f.cs[1]? =some (.int .i64 (P:Int)):=by rw [← hP];rfl
   have h2:¬4096 < o.d.length:=fun e=>by unfold Tz.wrE at hE;rw [if_pos h0,f2,if_neg hmd,if_pos e]at hE;cases hE
   have h3:¬48640 < f.p+o.d.length:=fun e=>by unfold Tz.wrE at hE;rw [if_pos h0,f2,if_neg hmd,if_neg h2,if_pos e]at hE;cases hE
   have h2':¬4096 < (s.n:Int):=by omega
   rw [hE]
   have h3':¬48640 < (P:Int)+(s.n:Int):=by omega
   have hPb:(P:Int)≤48640:=by omega
   have hk:(Z.nd f.i).k≠0:=by rw [f3];decide
   have hil:=hz.live hk
   obtain⟨L,hL⟩:∃ L,(Z.nd f.i).d.length=L:=⟨_,rfl⟩
   have hLb:=hz.dl f.i
   rw [hL]at hLb
   have h4l:0 < o.d.length:=List.length_pos_iff.2 h4
   rw [f2,hL]at hx
   have eS:Hid (Z.wrS o=(Z.dat f.i (spD (Z.nd f.i).d P o.d)).fds (Z0f (Z.dat f.i (spD (Z.nd f.i).d P o.d)).t o.fd ((P:Int)+(s.n:Int)))):=by
    show _=_
    unfold Tz.wrS
    rw [if_neg h4,f2,hP,Int.toNat_natCast]
    have e1:wrB (Z.nd f.i).d P o.d=spD (Z.nd f.i).d P o.d:=by
     rw [← Z8d,Nat.max_eq_left (by omega),Zds]
    rw [e1,show(o.d.length:Int)=(s.n:Int) by omega];try rfl
   have hil7:=hil.2
   have h6:¬(L:Int) < (P:Int)+(s.n:Int):=by omega
   have h5:0 < (s.n:Int):=by omega
   have h7:P+o.d.length≤L:=by omega
   have hsnH:Hid (o.d.length=s.n):=hsn
   have h4H:Hid _:=h4
   have hEH:Hid _:=hE
   clear hsn h4 hE h4l
   go_enter Tryz.func55,Tryz.ntmps55
   go_wp2_with (first
    | (refine Z05 (by rfl) _ (by rfl) o s (by rfl) ?_;intro g1 w1 z1 z2 r1 b1
       have c10:=r1.cell 0 _ rfl
       have c11:=r1.cell 1 _ rfl
       have c12:=r1.cell 2 _ rfl
       have c13:=r1.cell 3 _ rfl
       have c14:=r1.cell 4 _ rfl
       have c15:=r1.cell 5 _ rfl
       have c16:=r1.cell 6 _ rfl)
    | (refine Z02 (by rfl) (by rfl) ?_;intro g2 w2 z3 z4 r2 b2
       have B2:=Z00q b1 b2 (Nat.le_refl _)
       have r12:=r1.later b2
       clear c10 c11 c12 c13 c14 c15 c16
       have c10:=r12.cell 0 _ rfl
       have c11:=r12.cell 1 _ rfl
       have c12:=r12.cell 2 _ rfl
       have c13:=r12.cell 3 _ rfl
       have c14:=r12.cell 4 _ rfl
       have c15:=r12.cell 5 _ rfl
       have c16:=r12.cell 6 _ rfl)
    | (go_at_call 102;refine(hO _ B2).mono ?_;rintro e w3 ⟨rfl,b3⟩;clear hO
       have B3:=Z00q B2 b3 (Nat.le_refl _)
       have zz3:=B3.size)
    | (refine Z14 (by rfl) (by rfl) ?_;intro g3 w4 z5 z6 r4 b4
       have B4:=Z00q B3 b4 (Nat.le_refl _))
    | (refine Z10 (by rfl) _ _ (by rfl) g3 (by rfl) f (by rfl) _ r4 rfl ?_;intro w5 r5 s5
       have B5:Below w.heap.size w w5:=((Stp.of_below B4 (fun _=>False)).next s5 (fun y e=> .inr (by omega))).below (Nat.le_refl _) (fun y e=>e.elim)
       have r25:Cs w5 g2 anZ:=((r2.later b3).later b4).step s5 (fun e=>by have:=b3.size;omega)
       have r15:Cs w5 g1 (opC o s):=((r12.later b3).later b4).step s5 (fun e=>by have:=b3.size;have:=b2.size;omega)
       have gl3:=r5.lt
       clear c10 c11 c12 c13 c14 c15 c16
       have d0:=r5.cell 0 _ rfl
       have d1:=r5.cell 1 _ hpc
       have c14:=r15.cell 4 _ rfl
       have c17:=r15.cell 7 _ rfl))
   obtain⟨tg,mb,ob,nb,sv,H5,hU5⟩:=h.later B5
   obtain⟨e5,s5b,_⟩:=OwD.bsS (H5.dt f.i hk).1 (hz.db f.i)
   rw [hL]at e5
   refine wp_region_held_drew (S:=fun u=>Below w5.heap.size w5 u) (by kernel_rfl) (Below.refl _ _).drew (fun hHeld=>?_)
   refine tl 0 (.pointer (some ⟨g,0,none⟩)) rfl ?_
   try simp only [z]
   refine tl 1 (.pointer (some ⟨g,0,none⟩)) rfl ?_
   try simp only [z]
   refine tl 2 (.pointer (some ⟨g,0,none⟩)) rfl ?_
   try simp only [z]
   refine tl 3 (.map (some mb)) rfl ?_ (fun u hu=>by have x1:=(H5.later hu).c0;go_simp)
   try simp only [z]
   refine tl 4 (.pointer (some ⟨g3,0,none⟩)) rfl ?_
   try simp only [z]
   refine tl 5 (.int .i64 f.i) rfl ?_ (fun u hu=>by have x1:=(r5.later hu).cell 0 _ rfl;go_simp)
   try simp only [z]
   refine tl 6 (.pointer (some ⟨q f.i,0,none⟩)) rfl ?_ (fun u hu=>by have x1:=(H5.later hu).look hk (Z13 hz hm hk);go_simp)
   try simp only [z]
   refine tl 7 (.pointer (some ⟨q f.i,0,none⟩)) rfl ?_
   try simp only [z]
   refine wpAnyH_done (by kernel_rfl) ?_ _
   have r56:=r5.later hHeld
   have r16:=r15.later hHeld
   have r26:=r25.later hHeld
   have H6:=H5.later hHeld
   have B6:=Z00q B5 hHeld (Nat.le_refl _)
   have hs6:=hs.later B6
   have zz6:=hHeld.size
   have zzb1:=b1.size
   have zzb3:=b3.size
   have hT6:=h.later B6
   generalize w5.drew=w6 at *
   clear hHeld d0 d1 c14 c17
   have c17:=r16.cell 7 _ rfl
   have n2c:=H6.n2 hk
   have nU1:¬U g1:=fun e=>by have:=hU g1 e;omega
   have nU2:¬U g2:=fun e=>by have:=hU g2 e;omega
   have nU3:¬U g3:=fun e=>by have:=hU g3 e;omega
   have n12:¬g1=g2:=fun e=>by omega
   have n32:¬g3=g2:=fun e=>by omega
   have e5i:((sv f.i).n:Int)=(L:Int):=by omega
   go_wp2_with fail
   obtain⟨e7,s7b,_⟩:=OwD.bsS (H6.dt f.i hk).1 (hz.db f.i)
   obtain⟨gd,ga,gb⟩:=Z70 (H6.dt f.i hk).1 (by omega)
   refine Z0p (S:=fun u=>Below w6.heap.size w6 u) _ _ (by simp only [List.pop_toArray,List.dropLast_cons_cons,List.dropLast_singleton];rfl) (by simp only [List.back?_toArray,List.getLast?_cons_cons,List.getLast?_singleton];rfl) (by kernel_rfl) (by kernel_rfl) (Below.refl _ _).drew (fun hHeld=>?_)
   refine tl 0 (.pointer (some ⟨q f.i,0,none⟩)) rfl ?_
   try simp only [z]
   refine tl 1 (.pointer (some ⟨q f.i,0,none⟩)) rfl ?_
   try simp only [z]
   refine tl 2 (.pointer (some ⟨q f.i,2,none⟩)) rfl ?_
   try simp only [z]
   refine tl 3 (.slice (sv f.i).a (sv f.i).n (sv f.i).c) rfl ?_ (fun u hu=>by have x1:=(H6.later hu).n2 hk;go_simp)
   try simp only [z]
   refine tl 4 (.pointer (some ⟨g3,1,none⟩)) rfl ?_
   try simp only [z]
   refine tl 5 (.int .i64 (P:Int)) rfl ?_ (fun u hu=>by have x1:=(r56.later hu).cell 1 _ hpc;go_simp)
   try simp only [z]
   refine tl 6 (.slice (tlB (sv f.i).a (sv f.i).c P) ((sv f.i).n - P) ((sv f.i).c - P)) rfl ?_ (fun u hu=>by go_simp;rw [if_pos (by omega)];unfold tlB;simp only [Option.map_some,Addr.add_mid,Nat.zero_add])
   try simp only [z]
   refine tl 7 (.pointer (some ⟨g1,7,none⟩)) rfl ?_
   try simp only [z]
   refine tl 8 (.slice s.a s.n s.c) rfl ?_ (fun u hu=>by have x1:=(r16.later hu).cell 7 _ rfl;go_simp)
   try simp only [z]
   refine wpAnyH_done (by kernel_rfl) ?_ _
   have H8:=H6.later hHeld
   have r18:=r16.later hHeld
   have r28:=r26.later hHeld
   have hs8:=hs6.later hHeld
   have zz8:=hHeld.size
   have b8:=hHeld
   clear hHeld
   generalize w6.drew=w8 at *
   show wpList _ _ _ [_] _ _
   have hcnt:Hid (o.d=o.d.take (min s.n ((sv f.i).n - P))):=by
    have:=hsnH.out
    show _=_
    rw [List.take_of_length_le];omega
   have hpos:0 < o.d.length→tlB (sv f.i).a (sv f.i).c P=some ⟨gd,P,none⟩:=fun hp=>by
    have hle:=s7b.le
    have:=hsnH.out
    unfold tlB
    rw [if_neg (by omega),ga]
    simp only [Option.map_some,Addr.add_mid,Nat.zero_add]
   go_wp2_with (refine Z7g (by rfl) _ _ (by rfl) (H8.dt f.i hk).1 ga (tlB (sv f.i).a (sv f.i).c P) ((sv f.i).n - P) ((sv f.i).c - P) (by rfl) s (by rfl) o.d hs8 P o.d hcnt.out (by have:=hsnH.out;omega) hpos ?_;intro w9 o9 s9;have k9:Stp (fun x=>(sv f.i).v.ownBlock=some x) w8 w9:=s9.mono (fun x e=> .inl (by rw [gb,e]));have Hc:=H8.bytes hk hil7 o9 k9)
   have tgd:=(H8.dt f.i hk).2 gd gb
   have hUc:=hU5
   have n1:¬tg g1≠0:=fun e=>nU1 ((hU5 g1).2 e)
   have n2:¬tg g2≠0:=fun e=>nU2 ((hU5 g2).2 e)
   have r1c:=r18.step s9 (fun e=>n1 (by rw [e,tgd];omega))
   have r2c:=r28.step s9 (fun e=>n2 (by rw [e,tgd];omega))
   have zg1:=r2c.lt
   have sT:Stp U w w9:=((Stp.of_below B6 U).trans (Stp.of_below b8 U)).next s9 (fun y e=> .inl ((hU5 y).2 (by rw [e,tgd];omega)))
   have eT:Grew U U w w9:=Grew.refl _ _ _
   have eK:Hid (Z0w Z.t o.fd ((P:Int)+(s.n:Int))=0):=Z41 h0 (by omega)
   refine wp_region_held_drew (S:=fun u=>u.cell? ⟨g,2,none⟩=some (.pointer (some ⟨ob,0,none⟩))∧Stp (fun y=>tg y≠0∨y=g2) w9 u∧u.cell? ⟨g1,3,none⟩=some (.int .i64 o.fd)∧u.cell? ⟨g1,7,none⟩=some (.slice s.a s.n s.c)) (by kernel_rfl) ⟨Hc.c2,(Stp.refl _ _).drew,r1c.cell 3 _ rfl,r1c.cell 7 _ rfl⟩ (fun hHeld=>?_)
   replace Hc:=Hc.later (show Below w9.heap.size w9 w9.drew from(Below.refl _ _).drew)
   replace r1c:=r1c.later (show Below w9.heap.size w9 w9.drew from(Below.refl _ _).drew)
   replace r2c:=r2c.later (show Below w9.heap.size w9 w9.drew from(Below.refl _ _).drew)
   refine tl 0 (.pointer (some ⟨g1,7,none⟩)) rfl ?_
   try simp only [z]
   refine tl 1 (.slice s.a s.n s.c) rfl ?_ (fun u hu=>by have x1:=hu.2.2.2;go_simp)
   try simp only [z]
   refine tl 2 (.int .i64 (s.n:Int)) rfl ?_
   try simp only [z]
   refine tl 3 (.agg (anC 0 (s.n:Int) nilV nilV 0 0 0).toArray) rfl ?_ (fun u hu=>by have x1:=Z5i (s.n:Int);go_simp;rfl)
   try simp only [z]
   refine tl 4 (.pointer (some ⟨g,0,none⟩)) rfl ?_
   try simp only [z]
   refine tl 5 (.pointer (some ⟨g,0,none⟩)) rfl ?_
   try simp only [z]
   refine tl 6 (.pointer (some ⟨g,2,none⟩)) rfl ?_
   try simp only [z]
   refine tl 7 (.pointer (some ⟨ob,0,none⟩)) rfl ?_ (fun u hu=>by have x1:=hu.1;go_simp)
   try simp only [z]
   refine tl 8 (.pointer (some ⟨g1,3,none⟩)) rfl ?_
   try simp only [z]
   refine tl 9 (.int .i64 o.fd) rfl ?_ (fun u hu=>by have x1:=hu.2.2.1;go_simp)
   try simp only [z]
   refine tl 10 (.int .i64 ((P:Int)+(s.n:Int))) rfl ?_
   try simp only [z]
   refine rd 11 rfl (fun K hK=>?_)
   go_simp
   refine(Z55 Hc o.fd ((P:Int)+(s.n:Int))).mono ?_
   rintro e wS ⟨rfl,tS,HS,sS,gS⟩
   try go_wp2_with fail
   have r1c:=r1c.step sS n1
   have r2c:=r2c.step sS n2
   have zS:=hHeld.2.1.size
   refine hK.out _ _ (⟨HS.c2,hHeld.2.1.next sS (fun y e=> .inl (.inl e)),r1c.cell 3 _ rfl,r1c.cell 7 _ rfl⟩) (fun hHeld=>?_)
   clear hK K
   try simp only [z]
   refine rd 12 rfl (fun K hK=>?_)
   refine Z39 rfl _ _ (by rfl) g2 (by rfl) (anC 0 (s.n:Int) nilV nilV 0 0 0) 0 (Z1y _) (by rfl) _ r2c rfl ?_
   intro wA r2c sA
   have r1c:=r1c.step sA n12
   have zA:=sA.size
   try (replace Hc:=Hc.step sA (fun y hy e=>n2 (e▸hy)))
   try (replace HS:=HS.step sA (fun y hy e=>by subst e;rcases gS y hy with c | c;exact n2 c;omega))
   refine hK.out _ _ (⟨by first | exact HS.c2 | exact Hc.c2,hHeld.2.1.next sA (fun y e=> .inl (.inr e)),r1c.cell 3 _ rfl,r1c.cell 7 _ rfl⟩) (fun hHeld=>?_)
   clear hK K
   try simp only [Act.put]
   refine tl 13 (.int .i64 (Z0w Z.t o.fd ((P:Int)+(s.n:Int)))) rfl ?_ (fun u hu=>by go_simp;try rfl)
   try simp only [z]
   refine wpAnyH_done (by kernel_rfl) ?_ _
   go_wp2_with fail
   refine bodyPost_ret (Z0d Z06 Tryz.results55 rfl rfl r2c rfl) rfl ?_
   rw [eS.out,eK.out]
   exact Z16 (Z1y _) ((Z64 sT eT hUc (by omega) HS hHeld.2.1 (fun y hy=>by rcases gS y hy with c | c;exact .inl c;exact .inr (by omega))).more (Nat.le_succ B))
 · exfalso
   unfold opnE at h1
   have:=Z7e hE
   rw [if_pos this.1]at h1
   obtain⟨f,f1,f2,f3,f4,f5,f6,f7⟩:=Z1m hz this.1
   have hm2:=this.2.2.2
   rw [f2]at hm2 hc
   rw [bit2 ⟨f6,f7⟩,if_neg hm2]at hc
   rw [if_neg (by omega)]at h1
   exact h1 rfl
set_option maxRecDepth 100000
set_option maxHeartbeats 4000000 in
theorem Zd4 {w:World} {U:Nat→Prop} {g B n:Nat} {q:Int→Nat} {Z:Tz} (h:Tx w U g q B Z) (hz:Z.ok n) (hn:n≤900) (hB:B≤900) (o:Oz) (ho:o.wfo) (s:Sv) (hs:BsS w s o.d) (he:InE (fun y=>¬U y) s) (hE:Z.wrE o=0) (h4:¬o.d= []) (hx:¬(Z01 Z.t o.fd).p+o.d.length≤(Z.nd (Z01 Z.t o.fd).i).d.length):
 Calls Tryz.prog 55 #[.pointer (some ⟨g,0,none⟩), .agg (opC o s).toArray] w fun e w'=>Ret e U g B Z (Z.wrS o) (Z.wrE o) w w':=by
 have hm:n+2≤1000:=by omega
 have hU:=h.low
 have hgE:=Z1q Z.t o.fd
 have hsn:=hs.len
 obtain⟨c,hc⟩:∃ c,bits .and .i64 (Z01 Z.t o.fd).m 2=c:=⟨_,rfl⟩
 have hO:=fun w' (b:Below w.heap.size w w')=>Z38 (h.later b) o.fd 2 c hc
 by_cases h1:opnE Z o.fd c=0
 · have h0:Z04 Z.t o.fd=0:=by
    unfold opnE at h1
    split at h1
    · rename_i e;exact e
    · cases h1
   have hc0:c≠0:=fun e=>by unfold opnE at h1;rw [if_pos h0,if_pos e]at h1;cases h1
   obtain⟨f,f1,f2,f3,f4,f5,f6,f7⟩:=Z1m hz h0
   have eO:opnF Z o.fd c=f:=by unfold opnF;rw [if_pos h1,f2]
   rw [h1,eO]at hO
   have hmd:¬f.m < 2:=fun e=>by rw [f2,bit2 ⟨f6,f7⟩,if_pos e]at hc;omega
   clear eO
   obtain⟨P,hP⟩:∃ P:Nat,f.p=(P:Int):=⟨f.p.toNat,by omega⟩
   have hpc:f.cs[1]? =some (.int .i64 (P:Int)):=by rw [← hP];rfl
   have h2:¬4096 < o.d.length:=fun e=>by unfold Tz.wrE at hE;rw [if_pos h0,f2,if_neg hmd,if_pos e]at hE;cases hE
   have h3:¬48640 < f.p+o.d.length:=fun e=>by unfold Tz.wrE at hE;rw [if_pos h0,f2,if_neg hmd,if_neg h2,if_pos e]at hE;cases hE
   have h2':¬4096 < (s.n:Int):=by omega
   rw [hE]
   have h3':¬48640 < (P:Int)+(s.n:Int):=by omega
   have hPb:(P:Int)≤48640:=by omega
   have hk:(Z.nd f.i).k≠0:=by rw [f3];decide
   have hil:=hz.live hk
   obtain⟨L,hL⟩:∃ L,(Z.nd f.i).d.length=L:=⟨_,rfl⟩
   have hLb:=hz.dl f.i
   rw [hL]at hLb
   have h4l:0 < o.d.length:=List.length_pos_iff.2 h4
   rw [f2,hL]at hx
   have h6:(L:Int) < (P:Int)+(s.n:Int):=by omega
   have h5:0 < (s.n:Int):=by omega
   have ei:(Z.dat f.i (ctB' (Z.nd f.i).d (P+s.n))).nd f.i=⟨(Z.nd f.i).k,(Z.nd f.i).ln,ctB' (Z.nd f.i).d (P+s.n),(Z.nd f.i).nm⟩:=by
    unfold Tz.dat;rw [Z20 hil.2,if_pos rfl]
   have hk7:((Z.dat f.i (ctB' (Z.nd f.i).d (P+s.n))).nd f.i).k≠0:=by rw [ei];exact hk
   have ed:((Z.dat f.i (ctB' (Z.nd f.i).d (P+s.n))).nd f.i).d=ctB' (Z.nd f.i).d (P+s.n):=by rw [ei]
   have hb7:∀ b ∈ ((Z.dat f.i (ctB' (Z.nd f.i).d (P+s.n))).nd f.i).d,0≤b∧b≤255:=by rw [ed];exact Z3j (hz.db f.i) _
   have hl7:((Z.dat f.i (ctB' (Z.nd f.i).d (P+s.n))).nd f.i).d.length=P+s.n:=by rw [ed,Z3w]
   have hlc:(ctB' (Z.nd f.i).d (P+s.n)).length=P+s.n:=Z3w _ _
   have hil7:f.i.toNat < (Z.dat f.i (ctB' (Z.nd f.i).d (P+s.n))).N.length:=by unfold Tz.dat;rw [up_len];exact hil.2
   have eS:Hid (Z.wrS o=((Z.dat f.i (ctB' (Z.nd f.i).d (P+s.n))).dat f.i (spD ((Z.dat f.i (ctB' (Z.nd f.i).d (P+s.n))).nd f.i).d P o.d)).fds (Z0f Z.t o.fd ((P:Int)+(s.n:Int)))):=by
    show _=_
    unfold Tz.wrS
    rw [if_neg h4,f2,hP,Int.toNat_natCast,Zdv hil.2,ed]
    have e1:wrB (Z.nd f.i).d P o.d=spD (ctB' (Z.nd f.i).d (P+s.n)) P o.d:=by
     rw [← Z8d,Nat.max_eq_right (by omega),hsn]
    rw [e1,show(o.d.length:Int)=(s.n:Int) by omega];try rfl
   have h7:P+o.d.length≤P+s.n:=by omega
   have hsnH:Hid (o.d.length=s.n):=hsn
   have h4H:Hid _:=h4
   have hEH:Hid _:=hE
   clear hsn h4 hE h4l
   go_enter Tryz.func55,Tryz.ntmps55
   go_wp2_with (first
    | (refine Z05 (by rfl) _ (by rfl) o s (by rfl) ?_;intro g1 w1 z1 z2 r1 b1
       have c10:=r1.cell 0 _ rfl
       have c11:=r1.cell 1 _ rfl
       have c12:=r1.cell 2 _ rfl
       have c13:=r1.cell 3 _ rfl
       have c14:=r1.cell 4 _ rfl
       have c15:=r1.cell 5 _ rfl
       have c16:=r1.cell 6 _ rfl)
    | (refine Z02 (by rfl) (by rfl) ?_;intro g2 w2 z3 z4 r2 b2
       have B2:=Z00q b1 b2 (Nat.le_refl _)
       have r12:=r1.later b2
       clear c10 c11 c12 c13 c14 c15 c16
       have c10:=r12.cell 0 _ rfl
       have c11:=r12.cell 1 _ rfl
       have c12:=r12.cell 2 _ rfl
       have c13:=r12.cell 3 _ rfl
       have c14:=r12.cell 4 _ rfl
       have c15:=r12.cell 5 _ rfl
       have c16:=r12.cell 6 _ rfl)
    | (go_at_call 102;refine(hO _ B2).mono ?_;rintro e w3 ⟨rfl,b3⟩;clear hO
       have B3:=Z00q B2 b3 (Nat.le_refl _)
       have zz3:=B3.size)
    | (refine Z14 (by rfl) (by rfl) ?_;intro g3 w4 z5 z6 r4 b4
       have B4:=Z00q B3 b4 (Nat.le_refl _))
    | (refine Z10 (by rfl) _ _ (by rfl) g3 (by rfl) f (by rfl) _ r4 rfl ?_;intro w5 r5 s5
       have B5:Below w.heap.size w w5:=((Stp.of_below B4 (fun _=>False)).next s5 (fun y e=> .inr (by omega))).below (Nat.le_refl _) (fun y e=>e.elim)
       have r25:Cs w5 g2 anZ:=((r2.later b3).later b4).step s5 (fun e=>by have:=b3.size;omega)
       have r15:Cs w5 g1 (opC o s):=((r12.later b3).later b4).step s5 (fun e=>by have:=b3.size;have:=b2.size;omega)
       have gl3:=r5.lt
       clear c10 c11 c12 c13 c14 c15 c16
       have d0:=r5.cell 0 _ rfl
       have d1:=r5.cell 1 _ hpc
       have c14:=r15.cell 4 _ rfl
       have c17:=r15.cell 7 _ rfl))
   obtain⟨tg,mb,ob,nb,sv,H5,hU5⟩:=h.later B5
   obtain⟨e5,s5b,_⟩:=OwD.bsS (H5.dt f.i hk).1 (hz.db f.i)
   rw [hL]at e5
   refine wp_region_held_drew (S:=fun u=>Below w5.heap.size w5 u) (by kernel_rfl) (Below.refl _ _).drew (fun hHeld=>?_)
   refine tl 0 (.pointer (some ⟨g,0,none⟩)) rfl ?_
   try simp only [z]
   refine tl 1 (.pointer (some ⟨g,0,none⟩)) rfl ?_
   try simp only [z]
   refine tl 2 (.pointer (some ⟨g,0,none⟩)) rfl ?_
   try simp only [z]
   refine tl 3 (.map (some mb)) rfl ?_ (fun u hu=>by have x1:=(H5.later hu).c0;go_simp)
   try simp only [z]
   refine tl 4 (.pointer (some ⟨g3,0,none⟩)) rfl ?_
   try simp only [z]
   refine tl 5 (.int .i64 f.i) rfl ?_ (fun u hu=>by have x1:=(r5.later hu).cell 0 _ rfl;go_simp)
   try simp only [z]
   refine tl 6 (.pointer (some ⟨q f.i,0,none⟩)) rfl ?_ (fun u hu=>by have x1:=(H5.later hu).look hk (Z13 hz hm hk);go_simp)
   try simp only [z]
   refine tl 7 (.pointer (some ⟨q f.i,0,none⟩)) rfl ?_
   try simp only [z]
   refine wpAnyH_done (by kernel_rfl) ?_ _
   have r56:=r5.later hHeld
   have r16:=r15.later hHeld
   have r26:=r25.later hHeld
   have H6:=H5.later hHeld
   have B6:=Z00q B5 hHeld (Nat.le_refl _)
   have hs6:=hs.later B6
   have zz6:=hHeld.size
   have zzb1:=b1.size
   have zzb3:=b3.size
   have hT6:=h.later B6
   generalize w5.drew=w6 at *
   clear hHeld d0 d1 c14 c17
   have c17:=r16.cell 7 _ rfl
   have n2c:=H6.n2 hk
   have nU1:¬U g1:=fun e=>by have:=hU g1 e;omega
   have nU2:¬U g2:=fun e=>by have:=hU g2 e;omega
   have nU3:¬U g3:=fun e=>by have:=hU g3 e;omega
   have n12:¬g1=g2:=fun e=>by omega
   have n32:¬g3=g2:=fun e=>by omega
   have e5i:((sv f.i).n:Int)=(L:Int):=by omega
   have hR:=Z4z hT6 hz hk (P+s.n) (by omega)
   rw [show((P+s.n:Nat):Int)=(P:Int)+(s.n:Int) by omega]at hR
   go_wp2_with (go_at_call 98;refine hR.mono ?_;rintro e w7 ⟨rfl,U7,⟨tg7,mb7,ob7,nb7,sv7,H7,hU7⟩,s7,g7⟩;clear hR;have r17:=r16.step s7 nU1;have r27:=r26.step s7 nU2;have r57:=r56.step s7 nU3;have hs7:=InE.later' hs6 he s7;have c17b:=r17.cell 7 _ rfl)
   have zz7:=s7.size
   have zr2:=r26.lt
   have zr1:=r16.lt
   obtain⟨e7,s7b,_⟩:=OwD.bsS (H7.dt f.i hk7).1 hb7
   obtain⟨gd,ga,gb⟩:=Z70 (H7.dt f.i hk7).1 (by omega)
   refine Z0p (S:=fun u=>Below w7.heap.size w7 u) _ _ (by simp only [List.pop_toArray,List.dropLast_cons_cons,List.dropLast_singleton];rfl) (by simp only [List.back?_toArray,List.getLast?_cons_cons,List.getLast?_singleton];rfl) (by kernel_rfl) (by kernel_rfl) (Below.refl _ _).drew (fun hHeld=>?_)
   refine tl 0 (.pointer (some ⟨q f.i,0,none⟩)) rfl ?_
   try simp only [z]
   refine tl 1 (.pointer (some ⟨q f.i,0,none⟩)) rfl ?_
   try simp only [z]
   refine tl 2 (.pointer (some ⟨q f.i,2,none⟩)) rfl ?_
   try simp only [z]
   refine tl 3 (.slice (sv7 f.i).a (sv7 f.i).n (sv7 f.i).c) rfl ?_ (fun u hu=>by have x1:=(H7.later hu).n2 hk7;go_simp)
   try simp only [z]
   refine tl 4 (.pointer (some ⟨g3,1,none⟩)) rfl ?_
   try simp only [z]
   refine tl 5 (.int .i64 (P:Int)) rfl ?_ (fun u hu=>by have x1:=(r57.later hu).cell 1 _ hpc;go_simp)
   try simp only [z]
   refine tl 6 (.slice (tlB (sv7 f.i).a (sv7 f.i).c P) ((sv7 f.i).n - P) ((sv7 f.i).c - P)) rfl ?_ (fun u hu=>by go_simp;rw [if_pos (by omega)];unfold tlB;simp only [Option.map_some,Addr.add_mid,Nat.zero_add])
   try simp only [z]
   refine tl 7 (.pointer (some ⟨g1,7,none⟩)) rfl ?_
   try simp only [z]
   refine tl 8 (.slice s.a s.n s.c) rfl ?_ (fun u hu=>by have x1:=(r17.later hu).cell 7 _ rfl;go_simp)
   try simp only [z]
   refine wpAnyH_done (by kernel_rfl) ?_ _
   have H8:=H7.later hHeld
   have r18:=r17.later hHeld
   have r28:=r27.later hHeld
   have hs8:=hs7.later hHeld
   have zz8:=hHeld.size
   have b8:=hHeld
   clear hHeld
   generalize w7.drew=w8 at *
   show wpList _ _ _ [_] _ _
   have hcnt:Hid (o.d=o.d.take (min s.n ((sv7 f.i).n - P))):=by
    have:=hsnH.out
    show _=_
    rw [List.take_of_length_le];omega
   have hpos:0 < o.d.length→tlB (sv7 f.i).a (sv7 f.i).c P=some ⟨gd,P,none⟩:=fun hp=>by
    have hle:=s7b.le
    have:=hsnH.out
    unfold tlB
    rw [if_neg (by omega),ga]
    simp only [Option.map_some,Addr.add_mid,Nat.zero_add]
   go_wp2_with (refine Z7g (by rfl) _ _ (by rfl) (H8.dt f.i hk7).1 ga (tlB (sv7 f.i).a (sv7 f.i).c P) ((sv7 f.i).n - P) ((sv7 f.i).c - P) (by rfl) s (by rfl) o.d hs8 P o.d hcnt.out (by have:=hsnH.out;omega) hpos ?_;intro w9 o9 s9;have k9:Stp (fun x=>(sv7 f.i).v.ownBlock=some x) w8 w9:=s9.mono (fun x e=> .inl (by rw [gb,e]));have Hc:=H8.bytes hk7 hil7 o9 k9)
   have tgd:=(H8.dt f.i hk7).2 gd gb
   have hUc:=hU7
   have n1:¬tg7 g1≠0:=fun e=>by
    rcases g7 g1 ((hU7 g1).2 e)with c | c
    · exact nU1 c
    · omega
   have n2:¬tg7 g2≠0:=fun e=>by
    rcases g7 g2 ((hU7 g2).2 e)with c | c
    · exact nU2 c
    · omega
   have r1c:=r18.step s9 (fun e=>n1 (by rw [e,tgd];omega))
   have r2c:=r28.step s9 (fun e=>n2 (by rw [e,tgd];omega))
   have zg1:=r2c.lt
   have zz9:=s9.size
   have sT:Stp U w w9:=(((Stp.of_below B6 U).trans s7).trans (Stp.of_below b8 U)).next s9 (fun y e=>by
    rcases g7 y ((hU7 y).2 (by rw [e,tgd];omega))with c | c
    · exact .inl c
    · exact .inr (Nat.le_trans B6.size c.1))
   have eT:Grew U U7 w w9:=fun y hy=>by
    rcases g7 y hy with c | c
    · exact .inl c
    · exact .inr ⟨Nat.le_trans B6.size c.1,by omega⟩
   have eK:Hid (Z0w Z.t o.fd ((P:Int)+(s.n:Int))=0):=Z41 h0 (by omega)
   refine wp_region_held_drew (S:=fun u=>u.cell? ⟨g,2,none⟩=some (.pointer (some ⟨ob7,0,none⟩))∧Stp (fun y=>tg7 y≠0∨y=g2) w9 u∧u.cell? ⟨g1,3,none⟩=some (.int .i64 o.fd)∧u.cell? ⟨g1,7,none⟩=some (.slice s.a s.n s.c)) (by kernel_rfl) ⟨Hc.c2,(Stp.refl _ _).drew,r1c.cell 3 _ rfl,r1c.cell 7 _ rfl⟩ (fun hHeld=>?_)
   replace Hc:=Hc.later (show Below w9.heap.size w9 w9.drew from(Below.refl _ _).drew)
   replace r1c:=r1c.later (show Below w9.heap.size w9 w9.drew from(Below.refl _ _).drew)
   replace r2c:=r2c.later (show Below w9.heap.size w9 w9.drew from(Below.refl _ _).drew)
   refine tl 0 (.pointer (some ⟨g1,7,none⟩)) rfl ?_
   try simp only [z]
   refine tl 1 (.slice s.a s.n s.c) rfl ?_ (fun u hu=>by have x1:=hu.2.2.2;go_simp)
   try simp only [z]
   refine tl 2 (.int .i64 (s.n:Int)) rfl ?_
   try simp only [z]
   refine tl 3 (.agg (anC 0 (s.n:Int) nilV nilV 0 0 0).toArray) rfl ?_ (fun u hu=>by have x1:=Z5i (s.n:Int);go_simp;rfl)
   try simp only [z]
   refine tl 4 (.pointer (some ⟨g,0,none⟩)) rfl ?_
   try simp only [z]
   refine tl 5 (.pointer (some ⟨g,0,none⟩)) rfl ?_
   try simp only [z]
   refine tl 6 (.pointer (some ⟨g,2,none⟩)) rfl ?_
   try simp only [z]
   refine tl 7 (.pointer (some ⟨ob7,0,none⟩)) rfl ?_ (fun u hu=>by have x1:=hu.1;go_simp)
   try simp only [z]
   refine tl 8 (.pointer (some ⟨g1,3,none⟩)) rfl ?_
   try simp only [z]
   refine tl 9 (.int .i64 o.fd) rfl ?_ (fun u hu=>by have x1:=hu.2.2.1;go_simp)
   try simp only [z]
   refine tl 10 (.int .i64 ((P:Int)+(s.n:Int))) rfl ?_
   try simp only [z]
   refine rd 11 rfl (fun K hK=>?_)
   go_simp
   refine(Z55 Hc o.fd ((P:Int)+(s.n:Int))).mono ?_
   rintro e wS ⟨rfl,tS,HS,sS,gS⟩
   try go_wp2_with fail
   have r1c:=r1c.step sS n1
   have r2c:=r2c.step sS n2
   have zS:=hHeld.2.1.size
   refine hK.out _ _ (⟨HS.c2,hHeld.2.1.next sS (fun y e=> .inl (.inl e)),r1c.cell 3 _ rfl,r1c.cell 7 _ rfl⟩) (fun hHeld=>?_)
   clear hK K
   try simp only [z]
   refine rd 12 rfl (fun K hK=>?_)
   refine Z39 rfl _ _ (by rfl) g2 (by rfl) (anC 0 (s.n:Int) nilV nilV 0 0 0) 0 (Z1y _) (by rfl) _ r2c rfl ?_
   intro wA r2c sA
   have r1c:=r1c.step sA n12
   have zA:=sA.size
   try (replace Hc:=Hc.step sA (fun y hy e=>n2 (e▸hy)))
   try (replace HS:=HS.step sA (fun y hy e=>by subst e;rcases gS y hy with c | c;exact n2 c;omega))
   refine hK.out _ _ (⟨by first | exact HS.c2 | exact Hc.c2,hHeld.2.1.next sA (fun y e=> .inl (.inr e)),r1c.cell 3 _ rfl,r1c.cell 7 _ rfl⟩) (fun hHeld=>?_)
   clear hK K
   try simp only [Act.put]
   refine tl 13 (.int .i64 (Z0w Z.t o.fd ((P:Int)+(s.n:Int)))) rfl ?_ (fun u hu=>by go_simp;try rfl)
   try simp only [z]
   refine wpAnyH_done (by kernel_rfl) ?_ _
   go_wp2_with fail
   refine bodyPost_ret (Z0d Z06 Tryz.results55 rfl rfl r2c rfl) rfl ?_
   rw [eS.out,eK.out]
   exact Z16 (Z1y _) ((Z64 sT eT hUc (by omega) HS hHeld.2.1 (fun y hy=>by rcases gS y hy with c | c;exact .inl c;exact .inr (by omega))).more (Nat.le_succ B))
 · exfalso
   unfold opnE at h1
   have:=Z7e hE
   rw [if_pos this.1]at h1
   obtain⟨f,f1,f2,f3,f4,f5,f6,f7⟩:=Z1m hz this.1
   have hm2:=this.2.2.2
   rw [f2]at hm2 hc
   rw [bit2 ⟨f6,f7⟩,if_neg hm2]at hc
   rw [if_neg (by omega)]at h1
   exact h1 rfl
set_option maxRecDepth 100000
set_option maxHeartbeats 8000000 in
theorem an1 {w:World} {U:Nat→Prop} {g B:Nat} {q:Int→Nat} {Z Z':Tz} {E:Int} (h:Tx w U g q B Z) (o:Oz) (s:Sv) (hk:o.k=1)
 (hR:∀ w',Below w.heap.size w w'→Calls Tryz.prog 52 #[.pointer (some ⟨g,0,none⟩), .agg (opC o s).toArray] w' fun e u=>Ret e U g B Z Z' E w' u):
 Calls Tryz.prog 27 #[.pointer (some ⟨g,0,none⟩), .agg (opC o s).toArray] w fun e w'=>Ret e U g B Z Z' E w w':=by
 have hU:=h.low
 go_enter Tryz.func27,Tryz.ntmps27
 go_wp2_with (first
  | (refine Z05 (by rfl) _ (by rfl) o s (by rfl) ?_;intro g1 w1 z1 z2 r1 b1
     have Bc:=b1
     have v1:=b1.size
     have c10:=r1.cell 0 _ rfl
     rw [hk]at c10)
  | (refine Z02 (by rfl) (by rfl) ?_;intro g2 w2 z3 z4 r2 b2
     replace Bc:=Z00q Bc b2 (Nat.le_refl _)
     have v2:=b2.size
     replace r1:=r1.later b2
     clear c10
     have c10:=r1.cell 0 _ rfl
     rw [hk]at c10)
  | (refine Z0k 37 8 _ Z0r (by rfl) _ (by rfl) g1 (by rfl) _ r1 rfl ?_)
  | (go_at_call 52;refine(hR _ Bc).mono ?_;rintro e w3 ⟨A,q',rfl,hA,G⟩
     have r2':=r2.step G.stp (fun e=>by have:=hU g2 e;omega))
  | (refine Z03 (by rfl) _ _ (by rfl) g2 (by rfl) A 0 hA (by rfl) _ r2' rfl ?_;intro w9 r9 s9))
 exact bodyPost_ret (Z0d Z06 Tryz.results27 rfl rfl r9 hA.len) rfl ⟨A,q',rfl,hA,TxG.fin hU Bc G (by omega) (by omega) s9⟩
set_option maxHeartbeats 8000000 in
theorem an2 {w:World} {U:Nat→Prop} {g B:Nat} {q:Int→Nat} {Z Z':Tz} {E:Int} (h:Tx w U g q B Z) (o:Oz) (s:Sv) (hk:o.k=2)
 (hR:∀ w',Below w.heap.size w w'→Calls Tryz.prog 53 #[.pointer (some ⟨g,0,none⟩), .agg (opC o s).toArray] w' fun e u=>Ret e U g B Z Z' E w' u):
 Calls Tryz.prog 27 #[.pointer (some ⟨g,0,none⟩), .agg (opC o s).toArray] w fun e w'=>Ret e U g B Z Z' E w w':=by
 have hU:=h.low
 go_enter Tryz.func27,Tryz.ntmps27
 go_wp2_with (first
  | (refine Z05 (by rfl) _ (by rfl) o s (by rfl) ?_;intro g1 w1 z1 z2 r1 b1
     have Bc:=b1
     have v1:=b1.size
     have c10:=r1.cell 0 _ rfl
     rw [hk]at c10)
  | (refine Z02 (by rfl) (by rfl) ?_;intro g2 w2 z3 z4 r2 b2
     replace Bc:=Z00q Bc b2 (Nat.le_refl _)
     have v2:=b2.size
     replace r1:=r1.later b2
     clear c10
     have c10:=r1.cell 0 _ rfl
     rw [hk]at c10)
  | (refine Z0k 37 8 _ Z0r (by rfl) _ (by rfl) g1 (by rfl) _ r1 rfl ?_)
  | (go_at_call 53;refine(hR _ Bc).mono ?_;rintro e w3 ⟨A,q',rfl,hA,G⟩
     have r2':=r2.step G.stp (fun e=>by have:=hU g2 e;omega))
  | (refine Z03 (by rfl) _ _ (by rfl) g2 (by rfl) A 0 hA (by rfl) _ r2' rfl ?_;intro w9 r9 s9))
 exact bodyPost_ret (Z0d Z06 Tryz.results27 rfl rfl r9 hA.len) rfl ⟨A,q',rfl,hA,TxG.fin hU Bc G (by omega) (by omega) s9⟩
set_option maxHeartbeats 8000000 in
theorem an3 {w:World} {U:Nat→Prop} {g B:Nat} {q:Int→Nat} {Z Z':Tz} {E:Int} (h:Tx w U g q B Z) (o:Oz) (s:Sv) (hk:o.k=3)
 (hR:∀ w',Below w.heap.size w w'→Calls Tryz.prog 54 #[.pointer (some ⟨g,0,none⟩), .agg (opC o s).toArray] w' fun e u=>Ret e U g B Z Z' E w' u):
 Calls Tryz.prog 27 #[.pointer (some ⟨g,0,none⟩), .agg (opC o s).toArray] w fun e w'=>Ret e U g B Z Z' E w w':=by
 have hU:=h.low
 go_enter Tryz.func27,Tryz.ntmps27
 go_wp2_with (first
  | (refine Z05 (by rfl) _ (by rfl) o s (by rfl) ?_;intro g1 w1 z1 z2 r1 b1
     have Bc:=b1
     have v1:=b1.size
     have c10:=r1.cell 0 _ rfl
     rw [hk]at c10)
  | (refine Z02 (by rfl) (by rfl) ?_;intro g2 w2 z3 z4 r2 b2
     replace Bc:=Z00q Bc b2 (Nat.le_refl _)
     have v2:=b2.size
     replace r1:=r1.later b2
     clear c10
     have c10:=r1.cell 0 _ rfl
     rw [hk]at c10)
  | (refine Z0k 37 8 _ Z0r (by rfl) _ (by rfl) g1 (by rfl) _ r1 rfl ?_)
  | (go_at_call 54;refine(hR _ Bc).mono ?_;rintro e w3 ⟨A,q',rfl,hA,G⟩
     have r2':=r2.step G.stp (fun e=>by have:=hU g2 e;omega))
  | (refine Z03 (by rfl) _ _ (by rfl) g2 (by rfl) A 0 hA (by rfl) _ r2' rfl ?_;intro w9 r9 s9))
 exact bodyPost_ret (Z0d Z06 Tryz.results27 rfl rfl r9 hA.len) rfl ⟨A,q',rfl,hA,TxG.fin hU Bc G (by omega) (by omega) s9⟩
set_option maxHeartbeats 8000000 in
theorem an4 {w:World} {U:Nat→Prop} {g B:Nat} {q:Int→Nat} {Z Z':Tz} {E:Int} (h:Tx w U g q B Z) (o:Oz) (s:Sv) (hk:o.k=4)
 (hR:∀ w',Below w.heap.size w w'→Calls Tryz.prog 55 #[.pointer (some ⟨g,0,none⟩), .agg (opC o s).toArray] w' fun e u=>Ret e U g B Z Z' E w' u):
 Calls Tryz.prog 27 #[.pointer (some ⟨g,0,none⟩), .agg (opC o s).toArray] w fun e w'=>Ret e U g B Z Z' E w w':=by
 have hU:=h.low
 go_enter Tryz.func27,Tryz.ntmps27
 go_wp2_with (first
  | (refine Z05 (by rfl) _ (by rfl) o s (by rfl) ?_;intro g1 w1 z1 z2 r1 b1
     have Bc:=b1
     have v1:=b1.size
     have c10:=r1.cell 0 _ rfl
     rw [hk]at c10)
  | (refine Z02 (by rfl) (by rfl) ?_;intro g2 w2 z3 z4 r2 b2
     replace Bc:=Z00q Bc b2 (Nat.le_refl _)
     have v2:=b2.size
     replace r1:=r1.later b2
     clear c10
     have c10:=r1.cell 0 _ rfl
     rw [hk]at c10)
  | (refine Z0k 37 8 _ Z0r (by rfl) _ (by rfl) g1 (by rfl) _ r1 rfl ?_)
  | (go_at_call 55;refine(hR _ Bc).mono ?_;rintro e w3 ⟨A,q',rfl,hA,G⟩
     have r2':=r2.step G.stp (fun e=>by have:=hU g2 e;omega))
  | (refine Z03 (by rfl) _ _ (by rfl) g2 (by rfl) A 0 hA (by rfl) _ r2' rfl ?_;intro w9 r9 s9))
 exact bodyPost_ret (Z0d Z06 Tryz.results27 rfl rfl r9 hA.len) rfl ⟨A,q',rfl,hA,TxG.fin hU Bc G (by omega) (by omega) s9⟩
set_option maxHeartbeats 8000000 in
theorem an5 {w:World} {U:Nat→Prop} {g B:Nat} {q:Int→Nat} {Z Z':Tz} {E:Int} (h:Tx w U g q B Z) (o:Oz) (s:Sv) (hk:o.k=5)
 (hR:∀ w',Below w.heap.size w w'→Calls Tryz.prog 56 #[.pointer (some ⟨g,0,none⟩), .agg (opC o s).toArray] w' fun e u=>Ret e U g B Z Z' E w' u):
 Calls Tryz.prog 27 #[.pointer (some ⟨g,0,none⟩), .agg (opC o s).toArray] w fun e w'=>Ret e U g B Z Z' E w w':=by
 have hU:=h.low
 go_enter Tryz.func27,Tryz.ntmps27
 go_wp2_with (first
  | (refine Z05 (by rfl) _ (by rfl) o s (by rfl) ?_;intro g1 w1 z1 z2 r1 b1
     have Bc:=b1
     have v1:=b1.size
     have c10:=r1.cell 0 _ rfl
     rw [hk]at c10)
  | (refine Z02 (by rfl) (by rfl) ?_;intro g2 w2 z3 z4 r2 b2
     replace Bc:=Z00q Bc b2 (Nat.le_refl _)
     have v2:=b2.size
     replace r1:=r1.later b2
     clear c10
     have c10:=r1.cell 0 _ rfl
     rw [hk]at c10)
  | (refine Z0k 37 8 _ Z0r (by rfl) _ (by rfl) g1 (by rfl) _ r1 rfl ?_)
  | (go_at_call 56;refine(hR _ Bc).mono ?_;rintro e w3 ⟨A,q',rfl,hA,G⟩
     have r2':=r2.step G.stp (fun e=>by have:=hU g2 e;omega))
  | (refine Z03 (by rfl) _ _ (by rfl) g2 (by rfl) A 0 hA (by rfl) _ r2' rfl ?_;intro w9 r9 s9))
 exact bodyPost_ret (Z0d Z06 Tryz.results27 rfl rfl r9 hA.len) rfl ⟨A,q',rfl,hA,TxG.fin hU Bc G (by omega) (by omega) s9⟩
set_option maxHeartbeats 8000000 in
theorem an6 {w:World} {U:Nat→Prop} {g B:Nat} {q:Int→Nat} {Z Z':Tz} {E:Int} (h:Tx w U g q B Z) (o:Oz) (s:Sv) (hk:o.k=6)
 (hR:∀ w',Below w.heap.size w w'→Calls Tryz.prog 57 #[.pointer (some ⟨g,0,none⟩), .agg (opC o s).toArray] w' fun e u=>Ret e U g B Z Z' E w' u):
 Calls Tryz.prog 27 #[.pointer (some ⟨g,0,none⟩), .agg (opC o s).toArray] w fun e w'=>Ret e U g B Z Z' E w w':=by
 have hU:=h.low
 go_enter Tryz.func27,Tryz.ntmps27
 go_wp2_with (first
  | (refine Z05 (by rfl) _ (by rfl) o s (by rfl) ?_;intro g1 w1 z1 z2 r1 b1
     have Bc:=b1
     have v1:=b1.size
     have c10:=r1.cell 0 _ rfl
     rw [hk]at c10)
  | (refine Z02 (by rfl) (by rfl) ?_;intro g2 w2 z3 z4 r2 b2
     replace Bc:=Z00q Bc b2 (Nat.le_refl _)
     have v2:=b2.size
     replace r1:=r1.later b2
     clear c10
     have c10:=r1.cell 0 _ rfl
     rw [hk]at c10)
  | (refine Z0k 37 8 _ Z0r (by rfl) _ (by rfl) g1 (by rfl) _ r1 rfl ?_)
  | (go_at_call 57;refine(hR _ Bc).mono ?_;rintro e w3 ⟨A,q',rfl,hA,G⟩
     have r2':=r2.step G.stp (fun e=>by have:=hU g2 e;omega))
  | (refine Z03 (by rfl) _ _ (by rfl) g2 (by rfl) A 0 hA (by rfl) _ r2' rfl ?_;intro w9 r9 s9))
 exact bodyPost_ret (Z0d Z06 Tryz.results27 rfl rfl r9 hA.len) rfl ⟨A,q',rfl,hA,TxG.fin hU Bc G (by omega) (by omega) s9⟩
set_option maxHeartbeats 8000000 in
theorem an7 {w:World} {U:Nat→Prop} {g B:Nat} {q:Int→Nat} {Z Z':Tz} {E:Int} (h:Tx w U g q B Z) (o:Oz) (s:Sv) (hk:o.k=7)
 (hR:∀ w',Below w.heap.size w w'→Calls Tryz.prog 58 #[.pointer (some ⟨g,0,none⟩), .agg (opC o s).toArray] w' fun e u=>Ret e U g B Z Z' E w' u):
 Calls Tryz.prog 27 #[.pointer (some ⟨g,0,none⟩), .agg (opC o s).toArray] w fun e w'=>Ret e U g B Z Z' E w w':=by
 have hU:=h.low
 go_enter Tryz.func27,Tryz.ntmps27
 go_wp2_with (first
  | (refine Z05 (by rfl) _ (by rfl) o s (by rfl) ?_;intro g1 w1 z1 z2 r1 b1
     have Bc:=b1
     have v1:=b1.size
     have c10:=r1.cell 0 _ rfl
     rw [hk]at c10)
  | (refine Z02 (by rfl) (by rfl) ?_;intro g2 w2 z3 z4 r2 b2
     replace Bc:=Z00q Bc b2 (Nat.le_refl _)
     have v2:=b2.size
     replace r1:=r1.later b2
     clear c10
     have c10:=r1.cell 0 _ rfl
     rw [hk]at c10)
  | (refine Z0k 37 8 _ Z0r (by rfl) _ (by rfl) g1 (by rfl) _ r1 rfl ?_)
  | (go_at_call 58;refine(hR _ Bc).mono ?_;rintro e w3 ⟨A,q',rfl,hA,G⟩
     have r2':=r2.step G.stp (fun e=>by have:=hU g2 e;omega))
  | (refine Z03 (by rfl) _ _ (by rfl) g2 (by rfl) A 0 hA (by rfl) _ r2' rfl ?_;intro w9 r9 s9))
 exact bodyPost_ret (Z0d Z06 Tryz.results27 rfl rfl r9 hA.len) rfl ⟨A,q',rfl,hA,TxG.fin hU Bc G (by omega) (by omega) s9⟩
end Go.Proofs.YtdnjddpfcgginaaGreat
