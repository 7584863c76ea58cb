/-
  Texts of my own, joined: no statement is proved here.
-/
import Derived.Test.YtdnjddpfcgginaaGreatKba
set_option linter.unusedSimpArgs false
set_option linter.unusedVariables false
namespace Go.Proofs.YtdnjddpfcgginaaGreat
open Go.ChangeShapes Go.WideShapes Go.ChangeAt Go.RowKit
set_option maxRecDepth 100000
def oW:Oz:=⟨7, [47,97], [],0,0,0,0, []⟩
theorem Z26:oW.wfo:=⟨Z22 (by decide),Z22 (by decide),Z22 (by decide),Z22 (by decide),Z22 (by decide),by decide,by decide,fun b hb=>by cases hb⟩
theorem oW_1:Tz.new.doE oW=0:=by decide+kernel
def zW:Tz:=Tz.new.do1 oW
theorem oW_2:zW.doE oW=41:=by decide+kernel
theorem oW_3:zW.wa [47,97]=(2,0):=by decide+kernel
theorem Z2v:zW.ok 1:=Z7m Z3y oW (fun b hb=>by cases hb)
theorem zW_2:zW.do1 oW=zW:=by unfold Tz.do1;rw [oW_2,if_neg (by decide)]
set_option maxHeartbeats 8000000 in
theorem Zbw (w:World):
 Calls Tryz.prog 5 #[] w fun e w'=>e= .returned (.bool true)∧Below w.heap.size w w':=by
 go_enter Tryz.func5,Tryz.ntmps5
 go_upto_region 3 with(first
  | (go_at_call 6;refine(Z8g _).mono ?_;rintro e w1 ⟨g,U,q,rfl,b1,T1,hU1⟩)
  | (refine Z1i 37 8 _ Z0r (by rfl) (by rfl) ?_;intro gp w2 z1 z2 r2 b2)
  | (refine Z1e 37 8 _ Z0r (by rfl) _ _ (by rfl) gp (by rfl) (opC oW Sv.nil) (by rfl) rfl (Z4e _ _) _ r2 rfl ?_;intro w3 rp s3))
 have T2:Tx w3 U g q 0 Tz.new:=(T1.later b2).step s3 (fun x hx e=>by have:=T1.low x hx;omega)
 have B3:Below w.heap.size w w3:=((Stp.of_below (Z00q b1 b2 (Nat.le_refl _)) (fun _=>False)).next s3 (fun x e=> .inr (by have:=b1.size;omega))).below (Nat.le_refl _) (fun x e=>e.elim)
 have hUl:=T2.low
 have hUw:=hU1
 have nUp:¬U gp:=fun e=>by have:=T1.low gp e;omega
 simp only [Act.put,List.setIfInBounds_toArray,List.set_cons_zero,List.set_cons_succ]
 go_cut [3,4] (fun u v wx=>∃ ga gb A1 A2 q7 U7,u= .pointer (some ⟨ga,0,none⟩)∧v= .pointer (some ⟨gb,0,none⟩)∧AnE 0 A1∧AnE 41 A2∧Cs wx ga A1∧Cs wx gb A2∧Tx wx U7 g q7 2 zW∧Below w.heap.size w wx)
 case first=>
  refine wp_region_held_drew (S:=fun u=>Stp U w3 u) (by kernel_rfl) (Stp.refl _ _).drew (fun hHeld=>?_)
  have bb:Below w3.heap.size w3 w3.drew:=(Below.refl _ _).drew
  refine tl 0 (.pointer (some ⟨g,0,none⟩)) rfl ?_
  try simp only [z]
  refine tm 1 (.agg (opC oW Sv.nil).toArray) rfl
   (Z30 37 8 _ Z0r (by rfl) _ (by rfl) gp (by rfl) _ rfl (fun u hu=>rp.step hu nUp)) ?_
  try simp only [z]
  refine tl 3 (.pointer (some ⟨g,0,none⟩)) rfl ?_
  try simp only [z]
  refine tm 4 (.agg (opC oW Sv.nil).toArray) rfl
   (Z30 37 8 _ Z0r (by rfl) _ (by rfl) gp (by rfl) _ rfl (fun u hu=>rp.step hu nUp)) ?_
  try simp only [z]
  refine wpAnyH_ready (rs:= [2,6,7]) (by kernel_rfl) (by simp) ?_
  refine(AllReadyH.cons (o:=⟨some 11, .call { callee:=Callee.value (.func 8),args:=#[.tmp 9, .tmp 10],argTypes:=#[24,37]},34,_,#[⟨0, .data⟩,⟨1, .data⟩],none⟩) rfl (fun K hK=>?_) (AllReadyH.cons (o:=⟨some 3, .alloc 34,0,_,#[],none⟩) rfl (fun K hK=>?_) (AllReadyH.cons (o:=⟨some 4, .alloc 34,0,_,#[],none⟩) rfl (fun K hK=>?_) AllReadyH.nil)))
  · skip
    go_simp
    refine(Z1h (T2.later bb) Z3y (by decide) (by decide) oW Z26 Sv.nil (Z0y _) (InE.nil _)).mono ?_
    rintro e w6 ⟨A1,q6,rfl,hA1,U6,t6,s6,e6⟩
    try go_wp2_with fail
    rw [oW_1]at hA1
    replace t6:Tx w6 U6 g q6 1 zW:=t6
    have zH:=hHeld.size
    try (have n6A:¬U6 ga:=fun e=>by have:=rA.lt;rcases e6 _ e with c | c;have:=hUl _ c;omega;omega)
    try (have n6B:¬U6 gb:=fun e=>by have:=rB.lt;rcases e6 _ e with c | c;have:=hUl _ c;omega;omega)
    have g6:∀ x,U6 x→U x∨w3.heap.size≤x:=fun x hx=>by rcases e6 x hx with c | c;exact .inl c;exact .inr (by omega)
    try (have rA:=rA.step s6 (fun e=>by have:=hUl _ e;omega))
    try (have rB:=rB.step s6 (fun e=>by have:=hUl _ e;omega))
    refine hK.out _ _ (hHeld.next s6 (fun x e=> .inl e)) (fun hHeld=>?_)
    clear hK K
    try simp only [z]
    refine wpAnyH_ready (rs:= [5,6,7]) (by kernel_rfl) (by simp) ?_
    refine(AllReadyH.cons (o:=⟨some 14, .call { callee:=Callee.value (.func 8),args:=#[.tmp 12, .tmp 13],argTypes:=#[24,37]},34,_,#[⟨3, .data⟩,⟨4, .data⟩,⟨2, .chain⟩],none⟩) rfl (fun K hK=>?_) (AllReadyH.cons (o:=⟨some 3, .alloc 34,0,_,#[],none⟩) rfl (fun K hK=>?_) (AllReadyH.cons (o:=⟨some 4, .alloc 34,0,_,#[],none⟩) rfl (fun K hK=>?_) AllReadyH.nil)))
    · skip
      go_simp
      refine(Z1h t6 Z2v (by decide) (by decide) oW Z26 Sv.nil (Z0y _) (InE.nil _)).mono ?_
      rintro e w7 ⟨A2,q7,rfl,hA2,U7,t7,s7,e7⟩
      try go_wp2_with fail
      rw [oW_2]at hA2
      rw [zW_2]at t7
      replace t7:Tx w7 U7 g q7 2 zW:=t7
      have zH:=hHeld.size
      try (have n7A:¬U7 ga:=fun e=>by have:=rA.lt;rcases e7 _ e with c | c;exact n6A c;omega)
      try (have n7B:¬U7 gb:=fun e=>by have:=rB.lt;rcases e7 _ e with c | c;exact n6B c;omega)
      have g7:∀ x,U7 x→U x∨w3.heap.size≤x:=fun x hx=>by rcases e7 x hx with c | c;exact g6 x c;exact .inr (by omega)
      try (have rA:=rA.step s7 n6A)
      try (have rB:=rB.step s7 n6B)
      refine hK.out _ _ (hHeld.next s7 g6) (fun hHeld=>?_)
      clear hK K
      try simp only [z]
      refine wpAnyH_ready (rs:= [6,7]) (by kernel_rfl) (by simp) ?_
      refine(AllReadyH.cons (o:=⟨some 3, .alloc 34,0,_,#[],none⟩) rfl (fun K hK=>?_) (AllReadyH.cons (o:=⟨some 4, .alloc 34,0,_,#[],none⟩) rfl (fun K hK=>?_) AllReadyH.nil))
      · skip
        refine Z0t 34 7 _ Z06 rfl (by rfl) ?_
        intro ga wA yA1 yA2 rA bA
        have zA:=hHeld.size
        have nA:w3.heap.size≤ga:=by omega
        try (have n6A:¬U6 ga:=fun e=>by have:=t6.low _ e;omega)
        try (have n7A:¬U7 ga:=fun e=>by have:=t7.low _ e;omega)
        try (have nAB:ga≠gb:=by have:=rB.lt;omega)
        try (have bb:=Z00q bb bA (Nat.le_refl _))
        try (have t6:=t6.later bA)
        try (have t7:=t7.later bA)
        try (have rB:=rB.later bA)
        refine hK.out _ _ (hHeld.next (Stp.of_below bA (fun _=>False)) (fun x e=>e.elim)) (fun hHeld=>?_)
        clear hK K
        try simp only [z]
        refine rd 7 rfl (fun K hK=>?_)
        refine Z0t 34 7 _ Z06 rfl (by rfl) ?_
        intro gb wB yB1 yB2 rB bB
        have zB:=hHeld.size
        have nB:w3.heap.size≤gb:=by omega
        try (have n6B:¬U6 gb:=fun e=>by have:=t6.low _ e;omega)
        try (have n7B:¬U7 gb:=fun e=>by have:=t7.low _ e;omega)
        try (have nAB:ga≠gb:=by have:=rA.lt;omega)
        try (have bb:=Z00q bb bB (Nat.le_refl _))
        try (have t6:=t6.later bB)
        try (have t7:=t7.later bB)
        try (have rA:=rA.later bB)
        refine hK.out _ _ (hHeld.next (Stp.of_below bB (fun _=>False)) (fun x e=>e.elim)) (fun hHeld=>?_)
        clear hK K
        try simp only [z]
        refine rd 8 rfl (fun K hK=>?_)
        refine Z0n 34 7 _ Z06 rfl _ _ (by rfl) ga (by rfl) A1 (by rfl) hA1.len hA1.one _ rA rfl ?_
        intro wC rA8 sC
        have rB:=rB.step sC (fun e=>nAB e.symm)
        have t7:=t7.step sC (fun x hx e=>n7A (e▸hx))
        refine hK.out _ _ (hHeld.next sC (fun x e=> .inr (by omega))) (fun hHeld=>?_)
        clear hK K
        try simp only [Act.put]
        refine rd 9 rfl (fun K hK=>?_)
        refine Z0n 34 7 _ Z06 rfl _ _ (by rfl) gb (by rfl) A2 (by rfl) hA2.len hA2.one _ rB rfl ?_
        intro wD rB9 sD
        have rA9:=rA8.step sD nAB
        have t9:=t7.step sD (fun x hx e=>n7B (e▸hx))
        refine hK.out _ _ (hHeld.next sD (fun x e=> .inr (by omega))) (fun hHeld=>?_)
        clear hK K
        try simp only [Act.put]
        refine wpAnyH_done (by kernel_rfl) ?_ _
        go_wp2_with fail
        go_meet
        exact⟨ga,gb,A1,A2,q7,U7,rfl,rfl,hA1,hA2,rA9,rB9,t9,((Stp.of_below B3 (fun _=>False)).next hHeld (fun x e=> .inr (hUw x e))).below (Nat.le_refl _) (fun x e=>e.elim)⟩
      · skip
        refine Z0t 34 7 _ Z06 rfl (by rfl) ?_
        intro gb wB yB1 yB2 rB bB
        have zB:=hHeld.size
        have nB:w3.heap.size≤gb:=by omega
        try (have n6B:¬U6 gb:=fun e=>by have:=t6.low _ e;omega)
        try (have n7B:¬U7 gb:=fun e=>by have:=t7.low _ e;omega)
        try (have nAB:ga≠gb:=by have:=rA.lt;omega)
        try (have bb:=Z00q bb bB (Nat.le_refl _))
        try (have t6:=t6.later bB)
        try (have t7:=t7.later bB)
        try (have rA:=rA.later bB)
        refine hK.out _ _ (hHeld.next (Stp.of_below bB (fun _=>False)) (fun x e=>e.elim)) (fun hHeld=>?_)
        clear hK K
        try simp only [z]
        refine rd 6 rfl (fun K hK=>?_)
        refine Z0t 34 7 _ Z06 rfl (by rfl) ?_
        intro ga wA yA1 yA2 rA bA
        have zA:=hHeld.size
        have nA:w3.heap.size≤ga:=by omega
        try (have n6A:¬U6 ga:=fun e=>by have:=t6.low _ e;omega)
        try (have n7A:¬U7 ga:=fun e=>by have:=t7.low _ e;omega)
        try (have nAB:ga≠gb:=by have:=rB.lt;omega)
        try (have bb:=Z00q bb bA (Nat.le_refl _))
        try (have t6:=t6.later bA)
        try (have t7:=t7.later bA)
        try (have rB:=rB.later bA)
        refine hK.out _ _ (hHeld.next (Stp.of_below bA (fun _=>False)) (fun x e=>e.elim)) (fun hHeld=>?_)
        clear hK K
        try simp only [z]
        refine rd 8 rfl (fun K hK=>?_)
        refine Z0n 34 7 _ Z06 rfl _ _ (by rfl) ga (by rfl) A1 (by rfl) hA1.len hA1.one _ rA rfl ?_
        intro wC rA8 sC
        have rB:=rB.step sC (fun e=>nAB e.symm)
        have t7:=t7.step sC (fun x hx e=>n7A (e▸hx))
        refine hK.out _ _ (hHeld.next sC (fun x e=> .inr (by omega))) (fun hHeld=>?_)
        clear hK K
        try simp only [Act.put]
        refine rd 9 rfl (fun K hK=>?_)
        refine Z0n 34 7 _ Z06 rfl _ _ (by rfl) gb (by rfl) A2 (by rfl) hA2.len hA2.one _ rB rfl ?_
        intro wD rB9 sD
        have rA9:=rA8.step sD nAB
        have t9:=t7.step sD (fun x hx e=>n7B (e▸hx))
        refine hK.out _ _ (hHeld.next sD (fun x e=> .inr (by omega))) (fun hHeld=>?_)
        clear hK K
        try simp only [Act.put]
        refine wpAnyH_done (by kernel_rfl) ?_ _
        go_wp2_with fail
        go_meet
        exact⟨ga,gb,A1,A2,q7,U7,rfl,rfl,hA1,hA2,rA9,rB9,t9,((Stp.of_below B3 (fun _=>False)).next hHeld (fun x e=> .inr (hUw x e))).below (Nat.le_refl _) (fun x e=>e.elim)⟩
    · skip
      refine Z0t 34 7 _ Z06 rfl (by rfl) ?_
      intro ga wA yA1 yA2 rA bA
      have zA:=hHeld.size
      have nA:w3.heap.size≤ga:=by omega
      try (have n6A:¬U6 ga:=fun e=>by have:=t6.low _ e;omega)
      try (have n7A:¬U7 ga:=fun e=>by have:=t7.low _ e;omega)
      try (have nAB:ga≠gb:=by have:=rB.lt;omega)
      try (have bb:=Z00q bb bA (Nat.le_refl _))
      try (have t6:=t6.later bA)
      try (have t7:=t7.later bA)
      try (have rB:=rB.later bA)
      refine hK.out _ _ (hHeld.next (Stp.of_below bA (fun _=>False)) (fun x e=>e.elim)) (fun hHeld=>?_)
      clear hK K
      try simp only [z]
      refine wpAnyH_ready (rs:= [5,7]) (by kernel_rfl) (by simp) ?_
      refine(AllReadyH.cons (o:=⟨some 14, .call { callee:=Callee.value (.func 8),args:=#[.tmp 12, .tmp 13],argTypes:=#[24,37]},34,_,#[⟨3, .data⟩,⟨4, .data⟩,⟨2, .chain⟩],none⟩) rfl (fun K hK=>?_) (AllReadyH.cons (o:=⟨some 4, .alloc 34,0,_,#[],none⟩) rfl (fun K hK=>?_) AllReadyH.nil))
      · skip
        go_simp
        refine(Z1h t6 Z2v (by decide) (by decide) oW Z26 Sv.nil (Z0y _) (InE.nil _)).mono ?_
        rintro e w7 ⟨A2,q7,rfl,hA2,U7,t7,s7,e7⟩
        try go_wp2_with fail
        rw [oW_2]at hA2
        rw [zW_2]at t7
        replace t7:Tx w7 U7 g q7 2 zW:=t7
        have zH:=hHeld.size
        try (have n7A:¬U7 ga:=fun e=>by have:=rA.lt;rcases e7 _ e with c | c;exact n6A c;omega)
        try (have n7B:¬U7 gb:=fun e=>by have:=rB.lt;rcases e7 _ e with c | c;exact n6B c;omega)
        have g7:∀ x,U7 x→U x∨w3.heap.size≤x:=fun x hx=>by rcases e7 x hx with c | c;exact g6 x c;exact .inr (by omega)
        try (have rA:=rA.step s7 n6A)
        try (have rB:=rB.step s7 n6B)
        refine hK.out _ _ (hHeld.next s7 g6) (fun hHeld=>?_)
        clear hK K
        try simp only [z]
        refine rd 7 rfl (fun K hK=>?_)
        refine Z0t 34 7 _ Z06 rfl (by rfl) ?_
        intro gb wB yB1 yB2 rB bB
        have zB:=hHeld.size
        have nB:w3.heap.size≤gb:=by omega
        try (have n6B:¬U6 gb:=fun e=>by have:=t6.low _ e;omega)
        try (have n7B:¬U7 gb:=fun e=>by have:=t7.low _ e;omega)
        try (have nAB:ga≠gb:=by have:=rA.lt;omega)
        try (have bb:=Z00q bb bB (Nat.le_refl _))
        try (have t6:=t6.later bB)
        try (have t7:=t7.later bB)
        try (have rA:=rA.later bB)
        refine hK.out _ _ (hHeld.next (Stp.of_below bB (fun _=>False)) (fun x e=>e.elim)) (fun hHeld=>?_)
        clear hK K
        try simp only [z]
        refine rd 8 rfl (fun K hK=>?_)
        refine Z0n 34 7 _ Z06 rfl _ _ (by rfl) ga (by rfl) A1 (by rfl) hA1.len hA1.one _ rA rfl ?_
        intro wC rA8 sC
        have rB:=rB.step sC (fun e=>nAB e.symm)
        have t7:=t7.step sC (fun x hx e=>n7A (e▸hx))
        refine hK.out _ _ (hHeld.next sC (fun x e=> .inr (by omega))) (fun hHeld=>?_)
        clear hK K
        try simp only [Act.put]
        refine rd 9 rfl (fun K hK=>?_)
        refine Z0n 34 7 _ Z06 rfl _ _ (by rfl) gb (by rfl) A2 (by rfl) hA2.len hA2.one _ rB rfl ?_
        intro wD rB9 sD
        have rA9:=rA8.step sD nAB
        have t9:=t7.step sD (fun x hx e=>n7B (e▸hx))
        refine hK.out _ _ (hHeld.next sD (fun x e=> .inr (by omega))) (fun hHeld=>?_)
        clear hK K
        try simp only [Act.put]
        refine wpAnyH_done (by kernel_rfl) ?_ _
        go_wp2_with fail
        go_meet
        exact⟨ga,gb,A1,A2,q7,U7,rfl,rfl,hA1,hA2,rA9,rB9,t9,((Stp.of_below B3 (fun _=>False)).next hHeld (fun x e=> .inr (hUw x e))).below (Nat.le_refl _) (fun x e=>e.elim)⟩
      · skip
        refine Z0t 34 7 _ Z06 rfl (by rfl) ?_
        intro gb wB yB1 yB2 rB bB
        have zB:=hHeld.size
        have nB:w3.heap.size≤gb:=by omega
        try (have n6B:¬U6 gb:=fun e=>by have:=t6.low _ e;omega)
        try (have n7B:¬U7 gb:=fun e=>by have:=t7.low _ e;omega)
        try (have nAB:ga≠gb:=by have:=rA.lt;omega)
        try (have bb:=Z00q bb bB (Nat.le_refl _))
        try (have t6:=t6.later bB)
        try (have t7:=t7.later bB)
        try (have rA:=rA.later bB)
        refine hK.out _ _ (hHeld.next (Stp.of_below bB (fun _=>False)) (fun x e=>e.elim)) (fun hHeld=>?_)
        clear hK K
        try simp only [z]
        refine rd 5 rfl (fun K hK=>?_)
        go_simp
        refine(Z1h t6 Z2v (by decide) (by decide) oW Z26 Sv.nil (Z0y _) (InE.nil _)).mono ?_
        rintro e w7 ⟨A2,q7,rfl,hA2,U7,t7,s7,e7⟩
        try go_wp2_with fail
        rw [oW_2]at hA2
        rw [zW_2]at t7
        replace t7:Tx w7 U7 g q7 2 zW:=t7
        have zH:=hHeld.size
        try (have n7A:¬U7 ga:=fun e=>by have:=rA.lt;rcases e7 _ e with c | c;exact n6A c;omega)
        try (have n7B:¬U7 gb:=fun e=>by have:=rB.lt;rcases e7 _ e with c | c;exact n6B c;omega)
        have g7:∀ x,U7 x→U x∨w3.heap.size≤x:=fun x hx=>by rcases e7 x hx with c | c;exact g6 x c;exact .inr (by omega)
        try (have rA:=rA.step s7 n6A)
        try (have rB:=rB.step s7 n6B)
        refine hK.out _ _ (hHeld.next s7 g6) (fun hHeld=>?_)
        clear hK K
        try simp only [z]
        refine rd 8 rfl (fun K hK=>?_)
        refine Z0n 34 7 _ Z06 rfl _ _ (by rfl) ga (by rfl) A1 (by rfl) hA1.len hA1.one _ rA rfl ?_
        intro wC rA8 sC
        have rB:=rB.step sC (fun e=>nAB e.symm)
        have t7:=t7.step sC (fun x hx e=>n7A (e▸hx))
        refine hK.out _ _ (hHeld.next sC (fun x e=> .inr (by omega))) (fun hHeld=>?_)
        clear hK K
        try simp only [Act.put]
        refine rd 9 rfl (fun K hK=>?_)
        refine Z0n 34 7 _ Z06 rfl _ _ (by rfl) gb (by rfl) A2 (by rfl) hA2.len hA2.one _ rB rfl ?_
        intro wD rB9 sD
        have rA9:=rA8.step sD nAB
        have t9:=t7.step sD (fun x hx e=>n7B (e▸hx))
        refine hK.out _ _ (hHeld.next sD (fun x e=> .inr (by omega))) (fun hHeld=>?_)
        clear hK K
        try simp only [Act.put]
        refine wpAnyH_done (by kernel_rfl) ?_ _
        go_wp2_with fail
        go_meet
        exact⟨ga,gb,A1,A2,q7,U7,rfl,rfl,hA1,hA2,rA9,rB9,t9,((Stp.of_below B3 (fun _=>False)).next hHeld (fun x e=> .inr (hUw x e))).below (Nat.le_refl _) (fun x e=>e.elim)⟩
    · skip
      refine Z0t 34 7 _ Z06 rfl (by rfl) ?_
      intro gb wB yB1 yB2 rB bB
      have zB:=hHeld.size
      have nB:w3.heap.size≤gb:=by omega
      try (have n6B:¬U6 gb:=fun e=>by have:=t6.low _ e;omega)
      try (have n7B:¬U7 gb:=fun e=>by have:=t7.low _ e;omega)
      try (have nAB:ga≠gb:=by have:=rA.lt;omega)
      try (have bb:=Z00q bb bB (Nat.le_refl _))
      try (have t6:=t6.later bB)
      try (have t7:=t7.later bB)
      try (have rA:=rA.later bB)
      refine hK.out _ _ (hHeld.next (Stp.of_below bB (fun _=>False)) (fun x e=>e.elim)) (fun hHeld=>?_)
      clear hK K
      try simp only [z]
      refine wpAnyH_ready (rs:= [5,6]) (by kernel_rfl) (by simp) ?_
      refine(AllReadyH.cons (o:=⟨some 14, .call { callee:=Callee.value (.func 8),args:=#[.tmp 12, .tmp 13],argTypes:=#[24,37]},34,_,#[⟨3, .data⟩,⟨4, .data⟩,⟨2, .chain⟩],none⟩) rfl (fun K hK=>?_) (AllReadyH.cons (o:=⟨some 3, .alloc 34,0,_,#[],none⟩) rfl (fun K hK=>?_) AllReadyH.nil))
      · skip
        go_simp
        refine(Z1h t6 Z2v (by decide) (by decide) oW Z26 Sv.nil (Z0y _) (InE.nil _)).mono ?_
        rintro e w7 ⟨A2,q7,rfl,hA2,U7,t7,s7,e7⟩
        try go_wp2_with fail
        rw [oW_2]at hA2
        rw [zW_2]at t7
        replace t7:Tx w7 U7 g q7 2 zW:=t7
        have zH:=hHeld.size
        try (have n7A:¬U7 ga:=fun e=>by have:=rA.lt;rcases e7 _ e with c | c;exact n6A c;omega)
        try (have n7B:¬U7 gb:=fun e=>by have:=rB.lt;rcases e7 _ e with c | c;exact n6B c;omega)
        have g7:∀ x,U7 x→U x∨w3.heap.size≤x:=fun x hx=>by rcases e7 x hx with c | c;exact g6 x c;exact .inr (by omega)
        try (have rA:=rA.step s7 n6A)
        try (have rB:=rB.step s7 n6B)
        refine hK.out _ _ (hHeld.next s7 g6) (fun hHeld=>?_)
        clear hK K
        try simp only [z]
        refine rd 6 rfl (fun K hK=>?_)
        refine Z0t 34 7 _ Z06 rfl (by rfl) ?_
        intro ga wA yA1 yA2 rA bA
        have zA:=hHeld.size
        have nA:w3.heap.size≤ga:=by omega
        try (have n6A:¬U6 ga:=fun e=>by have:=t6.low _ e;omega)
        try (have n7A:¬U7 ga:=fun e=>by have:=t7.low _ e;omega)
        try (have nAB:ga≠gb:=by have:=rB.lt;omega)
        try (have bb:=Z00q bb bA (Nat.le_refl _))
        try (have t6:=t6.later bA)
        try (have t7:=t7.later bA)
        try (have rB:=rB.later bA)
        refine hK.out _ _ (hHeld.next (Stp.of_below bA (fun _=>False)) (fun x e=>e.elim)) (fun hHeld=>?_)
        clear hK K
        try simp only [z]
        refine rd 8 rfl (fun K hK=>?_)
        refine Z0n 34 7 _ Z06 rfl _ _ (by rfl) ga (by rfl) A1 (by rfl) hA1.len hA1.one _ rA rfl ?_
        intro wC rA8 sC
        have rB:=rB.step sC (fun e=>nAB e.symm)
        have t7:=t7.step sC (fun x hx e=>n7A (e▸hx))
        refine hK.out _ _ (hHeld.next sC (fun x e=> .inr (by omega))) (fun hHeld=>?_)
        clear hK K
        try simp only [Act.put]
        refine rd 9 rfl (fun K hK=>?_)
        refine Z0n 34 7 _ Z06 rfl _ _ (by rfl) gb (by rfl) A2 (by rfl) hA2.len hA2.one _ rB rfl ?_
        intro wD rB9 sD
        have rA9:=rA8.step sD nAB
        have t9:=t7.step sD (fun x hx e=>n7B (e▸hx))
        refine hK.out _ _ (hHeld.next sD (fun x e=> .inr (by omega))) (fun hHeld=>?_)
        clear hK K
        try simp only [Act.put]
        refine wpAnyH_done (by kernel_rfl) ?_ _
        go_wp2_with fail
        go_meet
        exact⟨ga,gb,A1,A2,q7,U7,rfl,rfl,hA1,hA2,rA9,rB9,t9,((Stp.of_below B3 (fun _=>False)).next hHeld (fun x e=> .inr (hUw x e))).below (Nat.le_refl _) (fun x e=>e.elim)⟩
      · skip
        refine Z0t 34 7 _ Z06 rfl (by rfl) ?_
        intro ga wA yA1 yA2 rA bA
        have zA:=hHeld.size
        have nA:w3.heap.size≤ga:=by omega
        try (have n6A:¬U6 ga:=fun e=>by have:=t6.low _ e;omega)
        try (have n7A:¬U7 ga:=fun e=>by have:=t7.low _ e;omega)
        try (have nAB:ga≠gb:=by have:=rB.lt;omega)
        try (have bb:=Z00q bb bA (Nat.le_refl _))
        try (have t6:=t6.later bA)
        try (have t7:=t7.later bA)
        try (have rB:=rB.later bA)
        refine hK.out _ _ (hHeld.next (Stp.of_below bA (fun _=>False)) (fun x e=>e.elim)) (fun hHeld=>?_)
        clear hK K
        try simp only [z]
        refine rd 5 rfl (fun K hK=>?_)
        go_simp
        refine(Z1h t6 Z2v (by decide) (by decide) oW Z26 Sv.nil (Z0y _) (InE.nil _)).mono ?_
        rintro e w7 ⟨A2,q7,rfl,hA2,U7,t7,s7,e7⟩
        try go_wp2_with fail
        rw [oW_2]at hA2
        rw [zW_2]at t7
        replace t7:Tx w7 U7 g q7 2 zW:=t7
        have zH:=hHeld.size
        try (have n7A:¬U7 ga:=fun e=>by have:=rA.lt;rcases e7 _ e with c | c;exact n6A c;omega)
        try (have n7B:¬U7 gb:=fun e=>by have:=rB.lt;rcases e7 _ e with c | c;exact n6B c;omega)
        have g7:∀ x,U7 x→U x∨w3.heap.size≤x:=fun x hx=>by rcases e7 x hx with c | c;exact g6 x c;exact .inr (by omega)
        try (have rA:=rA.step s7 n6A)
        try (have rB:=rB.step s7 n6B)
        refine hK.out _ _ (hHeld.next s7 g6) (fun hHeld=>?_)
        clear hK K
        try simp only [z]
        refine rd 8 rfl (fun K hK=>?_)
        refine Z0n 34 7 _ Z06 rfl _ _ (by rfl) ga (by rfl) A1 (by rfl) hA1.len hA1.one _ rA rfl ?_
        intro wC rA8 sC
        have rB:=rB.step sC (fun e=>nAB e.symm)
        have t7:=t7.step sC (fun x hx e=>n7A (e▸hx))
        refine hK.out _ _ (hHeld.next sC (fun x e=> .inr (by omega))) (fun hHeld=>?_)
        clear hK K
        try simp only [Act.put]
        refine rd 9 rfl (fun K hK=>?_)
        refine Z0n 34 7 _ Z06 rfl _ _ (by rfl) gb (by rfl) A2 (by rfl) hA2.len hA2.one _ rB rfl ?_
        intro wD rB9 sD
        have rA9:=rA8.step sD nAB
        have t9:=t7.step sD (fun x hx e=>n7B (e▸hx))
        refine hK.out _ _ (hHeld.next sD (fun x e=> .inr (by omega))) (fun hHeld=>?_)
        clear hK K
        try simp only [Act.put]
        refine wpAnyH_done (by kernel_rfl) ?_ _
        go_wp2_with fail
        go_meet
        exact⟨ga,gb,A1,A2,q7,U7,rfl,rfl,hA1,hA2,rA9,rB9,t9,((Stp.of_below B3 (fun _=>False)).next hHeld (fun x e=> .inr (hUw x e))).below (Nat.le_refl _) (fun x e=>e.elim)⟩
  · skip
    refine Z0t 34 7 _ Z06 rfl (by rfl) ?_
    intro ga wA yA1 yA2 rA bA
    have zA:=hHeld.size
    have nA:w3.heap.size≤ga:=by omega
    try (have n6A:¬U6 ga:=fun e=>by have:=t6.low _ e;omega)
    try (have n7A:¬U7 ga:=fun e=>by have:=t7.low _ e;omega)
    try (have nAB:ga≠gb:=by have:=rB.lt;omega)
    try (have bb:=Z00q bb bA (Nat.le_refl _))
    try (have t6:=t6.later bA)
    try (have t7:=t7.later bA)
    try (have rB:=rB.later bA)
    refine hK.out _ _ (hHeld.next (Stp.of_below bA (fun _=>False)) (fun x e=>e.elim)) (fun hHeld=>?_)
    clear hK K
    try simp only [z]
    refine wpAnyH_ready (rs:= [2,7]) (by kernel_rfl) (by simp) ?_
    refine(AllReadyH.cons (o:=⟨some 11, .call { callee:=Callee.value (.func 8),args:=#[.tmp 9, .tmp 10],argTypes:=#[24,37]},34,_,#[⟨0, .data⟩,⟨1, .data⟩],none⟩) rfl (fun K hK=>?_) (AllReadyH.cons (o:=⟨some 4, .alloc 34,0,_,#[],none⟩) rfl (fun K hK=>?_) AllReadyH.nil))
    · skip
      go_simp
      refine(Z1h (T2.later bb) Z3y (by decide) (by decide) oW Z26 Sv.nil (Z0y _) (InE.nil _)).mono ?_
      rintro e w6 ⟨A1,q6,rfl,hA1,U6,t6,s6,e6⟩
      try go_wp2_with fail
      rw [oW_1]at hA1
      replace t6:Tx w6 U6 g q6 1 zW:=t6
      have zH:=hHeld.size
      try (have n6A:¬U6 ga:=fun e=>by have:=rA.lt;rcases e6 _ e with c | c;have:=hUl _ c;omega;omega)
      try (have n6B:¬U6 gb:=fun e=>by have:=rB.lt;rcases e6 _ e with c | c;have:=hUl _ c;omega;omega)
      have g6:∀ x,U6 x→U x∨w3.heap.size≤x:=fun x hx=>by rcases e6 x hx with c | c;exact .inl c;exact .inr (by omega)
      try (have rA:=rA.step s6 (fun e=>by have:=hUl _ e;omega))
      try (have rB:=rB.step s6 (fun e=>by have:=hUl _ e;omega))
      refine hK.out _ _ (hHeld.next s6 (fun x e=> .inl e)) (fun hHeld=>?_)
      clear hK K
      try simp only [z]
      refine wpAnyH_ready (rs:= [5,7]) (by kernel_rfl) (by simp) ?_
      refine(AllReadyH.cons (o:=⟨some 14, .call { callee:=Callee.value (.func 8),args:=#[.tmp 12, .tmp 13],argTypes:=#[24,37]},34,_,#[⟨3, .data⟩,⟨4, .data⟩,⟨2, .chain⟩],none⟩) rfl (fun K hK=>?_) (AllReadyH.cons (o:=⟨some 4, .alloc 34,0,_,#[],none⟩) rfl (fun K hK=>?_) AllReadyH.nil))
      · skip
        go_simp
        refine(Z1h t6 Z2v (by decide) (by decide) oW Z26 Sv.nil (Z0y _) (InE.nil _)).mono ?_
        rintro e w7 ⟨A2,q7,rfl,hA2,U7,t7,s7,e7⟩
        try go_wp2_with fail
        rw [oW_2]at hA2
        rw [zW_2]at t7
        replace t7:Tx w7 U7 g q7 2 zW:=t7
        have zH:=hHeld.size
        try (have n7A:¬U7 ga:=fun e=>by have:=rA.lt;rcases e7 _ e with c | c;exact n6A c;omega)
        try (have n7B:¬U7 gb:=fun e=>by have:=rB.lt;rcases e7 _ e with c | c;exact n6B c;omega)
        have g7:∀ x,U7 x→U x∨w3.heap.size≤x:=fun x hx=>by rcases e7 x hx with c | c;exact g6 x c;exact .inr (by omega)
        try (have rA:=rA.step s7 n6A)
        try (have rB:=rB.step s7 n6B)
        refine hK.out _ _ (hHeld.next s7 g6) (fun hHeld=>?_)
        clear hK K
        try simp only [z]
        refine rd 7 rfl (fun K hK=>?_)
        refine Z0t 34 7 _ Z06 rfl (by rfl) ?_
        intro gb wB yB1 yB2 rB bB
        have zB:=hHeld.size
        have nB:w3.heap.size≤gb:=by omega
        try (have n6B:¬U6 gb:=fun e=>by have:=t6.low _ e;omega)
        try (have n7B:¬U7 gb:=fun e=>by have:=t7.low _ e;omega)
        try (have nAB:ga≠gb:=by have:=rA.lt;omega)
        try (have bb:=Z00q bb bB (Nat.le_refl _))
        try (have t6:=t6.later bB)
        try (have t7:=t7.later bB)
        try (have rA:=rA.later bB)
        refine hK.out _ _ (hHeld.next (Stp.of_below bB (fun _=>False)) (fun x e=>e.elim)) (fun hHeld=>?_)
        clear hK K
        try simp only [z]
        refine rd 8 rfl (fun K hK=>?_)
        refine Z0n 34 7 _ Z06 rfl _ _ (by rfl) ga (by rfl) A1 (by rfl) hA1.len hA1.one _ rA rfl ?_
        intro wC rA8 sC
        have rB:=rB.step sC (fun e=>nAB e.symm)
        have t7:=t7.step sC (fun x hx e=>n7A (e▸hx))
        refine hK.out _ _ (hHeld.next sC (fun x e=> .inr (by omega))) (fun hHeld=>?_)
        clear hK K
        try simp only [Act.put]
        refine rd 9 rfl (fun K hK=>?_)
        refine Z0n 34 7 _ Z06 rfl _ _ (by rfl) gb (by rfl) A2 (by rfl) hA2.len hA2.one _ rB rfl ?_
        intro wD rB9 sD
        have rA9:=rA8.step sD nAB
        have t9:=t7.step sD (fun x hx e=>n7B (e▸hx))
        refine hK.out _ _ (hHeld.next sD (fun x e=> .inr (by omega))) (fun hHeld=>?_)
        clear hK K
        try simp only [Act.put]
        refine wpAnyH_done (by kernel_rfl) ?_ _
        go_wp2_with fail
        go_meet
        exact⟨ga,gb,A1,A2,q7,U7,rfl,rfl,hA1,hA2,rA9,rB9,t9,((Stp.of_below B3 (fun _=>False)).next hHeld (fun x e=> .inr (hUw x e))).below (Nat.le_refl _) (fun x e=>e.elim)⟩
      · skip
        refine Z0t 34 7 _ Z06 rfl (by rfl) ?_
        intro gb wB yB1 yB2 rB bB
        have zB:=hHeld.size
        have nB:w3.heap.size≤gb:=by omega
        try (have n6B:¬U6 gb:=fun e=>by have:=t6.low _ e;omega)
        try (have n7B:¬U7 gb:=fun e=>by have:=t7.low _ e;omega)
        try (have nAB:ga≠gb:=by have:=rA.lt;omega)
        try (have bb:=Z00q bb bB (Nat.le_refl _))
        try (have t6:=t6.later bB)
        try (have t7:=t7.later bB)
        try (have rA:=rA.later bB)
        refine hK.out _ _ (hHeld.next (Stp.of_below bB (fun _=>False)) (fun x e=>e.elim)) (fun hHeld=>?_)
        clear hK K
        try simp only [z]
        refine rd 5 rfl (fun K hK=>?_)
        go_simp
        refine(Z1h t6 Z2v (by decide) (by decide) oW Z26 Sv.nil (Z0y _) (InE.nil _)).mono ?_
        rintro e w7 ⟨A2,q7,rfl,hA2,U7,t7,s7,e7⟩
        try go_wp2_with fail
        rw [oW_2]at hA2
        rw [zW_2]at t7
        replace t7:Tx w7 U7 g q7 2 zW:=t7
        have zH:=hHeld.size
        try (have n7A:¬U7 ga:=fun e=>by have:=rA.lt;rcases e7 _ e with c | c;exact n6A c;omega)
        try (have n7B:¬U7 gb:=fun e=>by have:=rB.lt;rcases e7 _ e with c | c;exact n6B c;omega)
        have g7:∀ x,U7 x→U x∨w3.heap.size≤x:=fun x hx=>by rcases e7 x hx with c | c;exact g6 x c;exact .inr (by omega)
        try (have rA:=rA.step s7 n6A)
        try (have rB:=rB.step s7 n6B)
        refine hK.out _ _ (hHeld.next s7 g6) (fun hHeld=>?_)
        clear hK K
        try simp only [z]
        refine rd 8 rfl (fun K hK=>?_)
        refine Z0n 34 7 _ Z06 rfl _ _ (by rfl) ga (by rfl) A1 (by rfl) hA1.len hA1.one _ rA rfl ?_
        intro wC rA8 sC
        have rB:=rB.step sC (fun e=>nAB e.symm)
        have t7:=t7.step sC (fun x hx e=>n7A (e▸hx))
        refine hK.out _ _ (hHeld.next sC (fun x e=> .inr (by omega))) (fun hHeld=>?_)
        clear hK K
        try simp only [Act.put]
        refine rd 9 rfl (fun K hK=>?_)
        refine Z0n 34 7 _ Z06 rfl _ _ (by rfl) gb (by rfl) A2 (by rfl) hA2.len hA2.one _ rB rfl ?_
        intro wD rB9 sD
        have rA9:=rA8.step sD nAB
        have t9:=t7.step sD (fun x hx e=>n7B (e▸hx))
        refine hK.out _ _ (hHeld.next sD (fun x e=> .inr (by omega))) (fun hHeld=>?_)
        clear hK K
        try simp only [Act.put]
        refine wpAnyH_done (by kernel_rfl) ?_ _
        go_wp2_with fail
        go_meet
        exact⟨ga,gb,A1,A2,q7,U7,rfl,rfl,hA1,hA2,rA9,rB9,t9,((Stp.of_below B3 (fun _=>False)).next hHeld (fun x e=> .inr (hUw x e))).below (Nat.le_refl _) (fun x e=>e.elim)⟩
    · skip
      refine Z0t 34 7 _ Z06 rfl (by rfl) ?_
      intro gb wB yB1 yB2 rB bB
      have zB:=hHeld.size
      have nB:w3.heap.size≤gb:=by omega
      try (have n6B:¬U6 gb:=fun e=>by have:=t6.low _ e;omega)
      try (have n7B:¬U7 gb:=fun e=>by have:=t7.low _ e;omega)
      try (have nAB:ga≠gb:=by have:=rA.lt;omega)
      try (have bb:=Z00q bb bB (Nat.le_refl _))
      try (have t6:=t6.later bB)
      try (have t7:=t7.later bB)
      try (have rA:=rA.later bB)
      refine hK.out _ _ (hHeld.next (Stp.of_below bB (fun _=>False)) (fun x e=>e.elim)) (fun hHeld=>?_)
      clear hK K
      try simp only [z]
      refine rd 2 rfl (fun K hK=>?_)
      go_simp
      refine(Z1h (T2.later bb) Z3y (by decide) (by decide) oW Z26 Sv.nil (Z0y _) (InE.nil _)).mono ?_
      rintro e w6 ⟨A1,q6,rfl,hA1,U6,t6,s6,e6⟩
      try go_wp2_with fail
      rw [oW_1]at hA1
      replace t6:Tx w6 U6 g q6 1 zW:=t6
      have zH:=hHeld.size
      try (have n6A:¬U6 ga:=fun e=>by have:=rA.lt;rcases e6 _ e with c | c;have:=hUl _ c;omega;omega)
      try (have n6B:¬U6 gb:=fun e=>by have:=rB.lt;rcases e6 _ e with c | c;have:=hUl _ c;omega;omega)
      have g6:∀ x,U6 x→U x∨w3.heap.size≤x:=fun x hx=>by rcases e6 x hx with c | c;exact .inl c;exact .inr (by omega)
      try (have rA:=rA.step s6 (fun e=>by have:=hUl _ e;omega))
      try (have rB:=rB.step s6 (fun e=>by have:=hUl _ e;omega))
      refine hK.out _ _ (hHeld.next s6 (fun x e=> .inl e)) (fun hHeld=>?_)
      clear hK K
      try simp only [z]
      refine rd 5 rfl (fun K hK=>?_)
      go_simp
      refine(Z1h t6 Z2v (by decide) (by decide) oW Z26 Sv.nil (Z0y _) (InE.nil _)).mono ?_
      rintro e w7 ⟨A2,q7,rfl,hA2,U7,t7,s7,e7⟩
      try go_wp2_with fail
      rw [oW_2]at hA2
      rw [zW_2]at t7
      replace t7:Tx w7 U7 g q7 2 zW:=t7
      have zH:=hHeld.size
      try (have n7A:¬U7 ga:=fun e=>by have:=rA.lt;rcases e7 _ e with c | c;exact n6A c;omega)
      try (have n7B:¬U7 gb:=fun e=>by have:=rB.lt;rcases e7 _ e with c | c;exact n6B c;omega)
      have g7:∀ x,U7 x→U x∨w3.heap.size≤x:=fun x hx=>by rcases e7 x hx with c | c;exact g6 x c;exact .inr (by omega)
      try (have rA:=rA.step s7 n6A)
      try (have rB:=rB.step s7 n6B)
      refine hK.out _ _ (hHeld.next s7 g6) (fun hHeld=>?_)
      clear hK K
      try simp only [z]
      refine rd 8 rfl (fun K hK=>?_)
      refine Z0n 34 7 _ Z06 rfl _ _ (by rfl) ga (by rfl) A1 (by rfl) hA1.len hA1.one _ rA rfl ?_
      intro wC rA8 sC
      have rB:=rB.step sC (fun e=>nAB e.symm)
      have t7:=t7.step sC (fun x hx e=>n7A (e▸hx))
      refine hK.out _ _ (hHeld.next sC (fun x e=> .inr (by omega))) (fun hHeld=>?_)
      clear hK K
      try simp only [Act.put]
      refine rd 9 rfl (fun K hK=>?_)
      refine Z0n 34 7 _ Z06 rfl _ _ (by rfl) gb (by rfl) A2 (by rfl) hA2.len hA2.one _ rB rfl ?_
      intro wD rB9 sD
      have rA9:=rA8.step sD nAB
      have t9:=t7.step sD (fun x hx e=>n7B (e▸hx))
      refine hK.out _ _ (hHeld.next sD (fun x e=> .inr (by omega))) (fun hHeld=>?_)
      clear hK K
      try simp only [Act.put]
      refine wpAnyH_done (by kernel_rfl) ?_ _
      go_wp2_with fail
      go_meet
      exact⟨ga,gb,A1,A2,q7,U7,rfl,rfl,hA1,hA2,rA9,rB9,t9,((Stp.of_below B3 (fun _=>False)).next hHeld (fun x e=> .inr (hUw x e))).below (Nat.le_refl _) (fun x e=>e.elim)⟩
  · skip
    refine Z0t 34 7 _ Z06 rfl (by rfl) ?_
    intro gb wB yB1 yB2 rB bB
    have zB:=hHeld.size
    have nB:w3.heap.size≤gb:=by omega
    try (have n6B:¬U6 gb:=fun e=>by have:=t6.low _ e;omega)
    try (have n7B:¬U7 gb:=fun e=>by have:=t7.low _ e;omega)
    try (have nAB:ga≠gb:=by have:=rA.lt;omega)
    try (have bb:=Z00q bb bB (Nat.le_refl _))
    try (have t6:=t6.later bB)
    try (have t7:=t7.later bB)
    try (have rA:=rA.later bB)
    refine hK.out _ _ (hHeld.next (Stp.of_below bB (fun _=>False)) (fun x e=>e.elim)) (fun hHeld=>?_)
    clear hK K
    try simp only [z]
    refine wpAnyH_ready (rs:= [2,6]) (by kernel_rfl) (by simp) ?_
    refine(AllReadyH.cons (o:=⟨some 11, .call { callee:=Callee.value (.func 8),args:=#[.tmp 9, .tmp 10],argTypes:=#[24,37]},34,_,#[⟨0, .data⟩,⟨1, .data⟩],none⟩) rfl (fun K hK=>?_) (AllReadyH.cons (o:=⟨some 3, .alloc 34,0,_,#[],none⟩) rfl (fun K hK=>?_) AllReadyH.nil))
    · skip
      go_simp
      refine(Z1h (T2.later bb) Z3y (by decide) (by decide) oW Z26 Sv.nil (Z0y _) (InE.nil _)).mono ?_
      rintro e w6 ⟨A1,q6,rfl,hA1,U6,t6,s6,e6⟩
      try go_wp2_with fail
      rw [oW_1]at hA1
      replace t6:Tx w6 U6 g q6 1 zW:=t6
      have zH:=hHeld.size
      try (have n6A:¬U6 ga:=fun e=>by have:=rA.lt;rcases e6 _ e with c | c;have:=hUl _ c;omega;omega)
      try (have n6B:¬U6 gb:=fun e=>by have:=rB.lt;rcases e6 _ e with c | c;have:=hUl _ c;omega;omega)
      have g6:∀ x,U6 x→U x∨w3.heap.size≤x:=fun x hx=>by rcases e6 x hx with c | c;exact .inl c;exact .inr (by omega)
      try (have rA:=rA.step s6 (fun e=>by have:=hUl _ e;omega))
      try (have rB:=rB.step s6 (fun e=>by have:=hUl _ e;omega))
      refine hK.out _ _ (hHeld.next s6 (fun x e=> .inl e)) (fun hHeld=>?_)
      clear hK K
      try simp only [z]
      refine wpAnyH_ready (rs:= [5,6]) (by kernel_rfl) (by simp) ?_
      refine(AllReadyH.cons (o:=⟨some 14, .call { callee:=Callee.value (.func 8),args:=#[.tmp 12, .tmp 13],argTypes:=#[24,37]},34,_,#[⟨3, .data⟩,⟨4, .data⟩,⟨2, .chain⟩],none⟩) rfl (fun K hK=>?_) (AllReadyH.cons (o:=⟨some 3, .alloc 34,0,_,#[],none⟩) rfl (fun K hK=>?_) AllReadyH.nil))
      · skip
        go_simp
        refine(Z1h t6 Z2v (by decide) (by decide) oW Z26 Sv.nil (Z0y _) (InE.nil _)).mono ?_
        rintro e w7 ⟨A2,q7,rfl,hA2,U7,t7,s7,e7⟩
        try go_wp2_with fail
        rw [oW_2]at hA2
        rw [zW_2]at t7
        replace t7:Tx w7 U7 g q7 2 zW:=t7
        have zH:=hHeld.size
        try (have n7A:¬U7 ga:=fun e=>by have:=rA.lt;rcases e7 _ e with c | c;exact n6A c;omega)
        try (have n7B:¬U7 gb:=fun e=>by have:=rB.lt;rcases e7 _ e with c | c;exact n6B c;omega)
        have g7:∀ x,U7 x→U x∨w3.heap.size≤x:=fun x hx=>by rcases e7 x hx with c | c;exact g6 x c;exact .inr (by omega)
        try (have rA:=rA.step s7 n6A)
        try (have rB:=rB.step s7 n6B)
        refine hK.out _ _ (hHeld.next s7 g6) (fun hHeld=>?_)
        clear hK K
        try simp only [z]
        refine rd 6 rfl (fun K hK=>?_)
        refine Z0t 34 7 _ Z06 rfl (by rfl) ?_
        intro ga wA yA1 yA2 rA bA
        have zA:=hHeld.size
        have nA:w3.heap.size≤ga:=by omega
        try (have n6A:¬U6 ga:=fun e=>by have:=t6.low _ e;omega)
        try (have n7A:¬U7 ga:=fun e=>by have:=t7.low _ e;omega)
        try (have nAB:ga≠gb:=by have:=rB.lt;omega)
        try (have bb:=Z00q bb bA (Nat.le_refl _))
        try (have t6:=t6.later bA)
        try (have t7:=t7.later bA)
        try (have rB:=rB.later bA)
        refine hK.out _ _ (hHeld.next (Stp.of_below bA (fun _=>False)) (fun x e=>e.elim)) (fun hHeld=>?_)
        clear hK K
        try simp only [z]
        refine rd 8 rfl (fun K hK=>?_)
        refine Z0n 34 7 _ Z06 rfl _ _ (by rfl) ga (by rfl) A1 (by rfl) hA1.len hA1.one _ rA rfl ?_
        intro wC rA8 sC
        have rB:=rB.step sC (fun e=>nAB e.symm)
        have t7:=t7.step sC (fun x hx e=>n7A (e▸hx))
        refine hK.out _ _ (hHeld.next sC (fun x e=> .inr (by omega))) (fun hHeld=>?_)
        clear hK K
        try simp only [Act.put]
        refine rd 9 rfl (fun K hK=>?_)
        refine Z0n 34 7 _ Z06 rfl _ _ (by rfl) gb (by rfl) A2 (by rfl) hA2.len hA2.one _ rB rfl ?_
        intro wD rB9 sD
        have rA9:=rA8.step sD nAB
        have t9:=t7.step sD (fun x hx e=>n7B (e▸hx))
        refine hK.out _ _ (hHeld.next sD (fun x e=> .inr (by omega))) (fun hHeld=>?_)
        clear hK K
        try simp only [Act.put]
        refine wpAnyH_done (by kernel_rfl) ?_ _
        go_wp2_with fail
        go_meet
        exact⟨ga,gb,A1,A2,q7,U7,rfl,rfl,hA1,hA2,rA9,rB9,t9,((Stp.of_below B3 (fun _=>False)).next hHeld (fun x e=> .inr (hUw x e))).below (Nat.le_refl _) (fun x e=>e.elim)⟩
      · skip
        refine Z0t 34 7 _ Z06 rfl (by rfl) ?_
        intro ga wA yA1 yA2 rA bA
        have zA:=hHeld.size
        have nA:w3.heap.size≤ga:=by omega
        try (have n6A:¬U6 ga:=fun e=>by have:=t6.low _ e;omega)
        try (have n7A:¬U7 ga:=fun e=>by have:=t7.low _ e;omega)
        try (have nAB:ga≠gb:=by have:=rB.lt;omega)
        try (have bb:=Z00q bb bA (Nat.le_refl _))
        try (have t6:=t6.later bA)
        try (have t7:=t7.later bA)
        try (have rB:=rB.later bA)
        refine hK.out _ _ (hHeld.next (Stp.of_below bA (fun _=>False)) (fun x e=>e.elim)) (fun hHeld=>?_)
        clear hK K
        try simp only [z]
        refine rd 5 rfl (fun K hK=>?_)
        go_simp
        refine(Z1h t6 Z2v (by decide) (by decide) oW Z26 Sv.nil (Z0y _) (InE.nil _)).mono ?_
        rintro e w7 ⟨A2,q7,rfl,hA2,U7,t7,s7,e7⟩
        try go_wp2_with fail
        rw [oW_2]at hA2
        rw [zW_2]at t7
        replace t7:Tx w7 U7 g q7 2 zW:=t7
        have zH:=hHeld.size
        try (have n7A:¬U7 ga:=fun e=>by have:=rA.lt;rcases e7 _ e with c | c;exact n6A c;omega)
        try (have n7B:¬U7 gb:=fun e=>by have:=rB.lt;rcases e7 _ e with c | c;exact n6B c;omega)
        have g7:∀ x,U7 x→U x∨w3.heap.size≤x:=fun x hx=>by rcases e7 x hx with c | c;exact g6 x c;exact .inr (by omega)
        try (have rA:=rA.step s7 n6A)
        try (have rB:=rB.step s7 n6B)
        refine hK.out _ _ (hHeld.next s7 g6) (fun hHeld=>?_)
        clear hK K
        try simp only [z]
        refine rd 8 rfl (fun K hK=>?_)
        refine Z0n 34 7 _ Z06 rfl _ _ (by rfl) ga (by rfl) A1 (by rfl) hA1.len hA1.one _ rA rfl ?_
        intro wC rA8 sC
        have rB:=rB.step sC (fun e=>nAB e.symm)
        have t7:=t7.step sC (fun x hx e=>n7A (e▸hx))
        refine hK.out _ _ (hHeld.next sC (fun x e=> .inr (by omega))) (fun hHeld=>?_)
        clear hK K
        try simp only [Act.put]
        refine rd 9 rfl (fun K hK=>?_)
        refine Z0n 34 7 _ Z06 rfl _ _ (by rfl) gb (by rfl) A2 (by rfl) hA2.len hA2.one _ rB rfl ?_
        intro wD rB9 sD
        have rA9:=rA8.step sD nAB
        have t9:=t7.step sD (fun x hx e=>n7B (e▸hx))
        refine hK.out _ _ (hHeld.next sD (fun x e=> .inr (by omega))) (fun hHeld=>?_)
        clear hK K
        try simp only [Act.put]
        refine wpAnyH_done (by kernel_rfl) ?_ _
        go_wp2_with fail
        go_meet
        exact⟨ga,gb,A1,A2,q7,U7,rfl,rfl,hA1,hA2,rA9,rB9,t9,((Stp.of_below B3 (fun _=>False)).next hHeld (fun x e=> .inr (hUw x e))).below (Nat.le_refl _) (fun x e=>e.elim)⟩
    · skip
      refine Z0t 34 7 _ Z06 rfl (by rfl) ?_
      intro ga wA yA1 yA2 rA bA
      have zA:=hHeld.size
      have nA:w3.heap.size≤ga:=by omega
      try (have n6A:¬U6 ga:=fun e=>by have:=t6.low _ e;omega)
      try (have n7A:¬U7 ga:=fun e=>by have:=t7.low _ e;omega)
      try (have nAB:ga≠gb:=by have:=rB.lt;omega)
      try (have bb:=Z00q bb bA (Nat.le_refl _))
      try (have t6:=t6.later bA)
      try (have t7:=t7.later bA)
      try (have rB:=rB.later bA)
      refine hK.out _ _ (hHeld.next (Stp.of_below bA (fun _=>False)) (fun x e=>e.elim)) (fun hHeld=>?_)
      clear hK K
      try simp only [z]
      refine rd 2 rfl (fun K hK=>?_)
      go_simp
      refine(Z1h (T2.later bb) Z3y (by decide) (by decide) oW Z26 Sv.nil (Z0y _) (InE.nil _)).mono ?_
      rintro e w6 ⟨A1,q6,rfl,hA1,U6,t6,s6,e6⟩
      try go_wp2_with fail
      rw [oW_1]at hA1
      replace t6:Tx w6 U6 g q6 1 zW:=t6
      have zH:=hHeld.size
      try (have n6A:¬U6 ga:=fun e=>by have:=rA.lt;rcases e6 _ e with c | c;have:=hUl _ c;omega;omega)
      try (have n6B:¬U6 gb:=fun e=>by have:=rB.lt;rcases e6 _ e with c | c;have:=hUl _ c;omega;omega)
      have g6:∀ x,U6 x→U x∨w3.heap.size≤x:=fun x hx=>by rcases e6 x hx with c | c;exact .inl c;exact .inr (by omega)
      try (have rA:=rA.step s6 (fun e=>by have:=hUl _ e;omega))
      try (have rB:=rB.step s6 (fun e=>by have:=hUl _ e;omega))
      refine hK.out _ _ (hHeld.next s6 (fun x e=> .inl e)) (fun hHeld=>?_)
      clear hK K
      try simp only [z]
      refine rd 5 rfl (fun K hK=>?_)
      go_simp
      refine(Z1h t6 Z2v (by decide) (by decide) oW Z26 Sv.nil (Z0y _) (InE.nil _)).mono ?_
      rintro e w7 ⟨A2,q7,rfl,hA2,U7,t7,s7,e7⟩
      try go_wp2_with fail
      rw [oW_2]at hA2
      rw [zW_2]at t7
      replace t7:Tx w7 U7 g q7 2 zW:=t7
      have zH:=hHeld.size
      try (have n7A:¬U7 ga:=fun e=>by have:=rA.lt;rcases e7 _ e with c | c;exact n6A c;omega)
      try (have n7B:¬U7 gb:=fun e=>by have:=rB.lt;rcases e7 _ e with c | c;exact n6B c;omega)
      have g7:∀ x,U7 x→U x∨w3.heap.size≤x:=fun x hx=>by rcases e7 x hx with c | c;exact g6 x c;exact .inr (by omega)
      try (have rA:=rA.step s7 n6A)
      try (have rB:=rB.step s7 n6B)
      refine hK.out _ _ (hHeld.next s7 g6) (fun hHeld=>?_)
      clear hK K
      try simp only [z]
      refine rd 8 rfl (fun K hK=>?_)
      refine Z0n 34 7 _ Z06 rfl _ _ (by rfl) ga (by rfl) A1 (by rfl) hA1.len hA1.one _ rA rfl ?_
      intro wC rA8 sC
      have rB:=rB.step sC (fun e=>nAB e.symm)
      have t7:=t7.step sC (fun x hx e=>n7A (e▸hx))
      refine hK.out _ _ (hHeld.next sC (fun x e=> .inr (by omega))) (fun hHeld=>?_)
      clear hK K
      try simp only [Act.put]
      refine rd 9 rfl (fun K hK=>?_)
      refine Z0n 34 7 _ Z06 rfl _ _ (by rfl) gb (by rfl) A2 (by rfl) hA2.len hA2.one _ rB rfl ?_
      intro wD rB9 sD
      have rA9:=rA8.step sD nAB
      have t9:=t7.step sD (fun x hx e=>n7B (e▸hx))
      refine hK.out _ _ (hHeld.next sD (fun x e=> .inr (by omega))) (fun hHeld=>?_)
      clear hK K
      try simp only [Act.put]
      refine wpAnyH_done (by kernel_rfl) ?_ _
      go_wp2_with fail
      go_meet
      exact⟨ga,gb,A1,A2,q7,U7,rfl,rfl,hA1,hA2,rA9,rB9,t9,((Stp.of_below B3 (fun _=>False)).next hHeld (fun x e=> .inr (hUw x e))).below (Nat.le_refl _) (fun x e=>e.elim)⟩
 case rest=>
  obtain⟨ga,gb,A1,A2,q7,U7,rfl,rfl,hA1,hA2,rA,rB,T7,B7⟩:=hcut
  have c0:=rA.cell 0 _ hA1.at0
  have c1:=rB.cell 0 _ hA2.at0
  have hW:=fun w' (b:Below wc.heap.size wc w')=>Z2z (T7.later b) Z2v (by decide) [47,97] (by decide)
  rw [oW_3]at hW
  go_wp2_with (first
   | (go_at_call 13;refine(hW _ (Below.refl _ _)).mono ?_;clear hW;rintro e w8 ⟨rfl,b8⟩
      replace c0:=(rA.later b8).cell 0 _ hA1.at0
      replace c1:=(rB.later b8).cell 0 _ hA2.at0))
  go_returns
  exact⟨rfl,Z00q B7 b8 (Nat.le_refl _)⟩
set_option maxRecDepth 100000
section
variable {ops : Array Oper} {rest : List Oper} {o : Oper} {a : Act} {w : World} {Q : Exit → Act → World → Prop}
theorem Z91 (hw:Region.wanted o (yielded ops a.tmps)=true) (x:Operand) (ho:o.op= .load 37 x) (b i:Nat) (hx:a.eval x= .pointer (some ⟨b,i,none⟩)) (t:Ox) (hr:w.rangeAt b i t.cs)
 (h:wpList Tryz.prog ops Q rest (a.put o.dst (.agg (opC t.o t.d).toArray)) w):wpList Tryz.prog ops Q (o::rest) a w:=by
 refine Z0z hw _ _ ?_ h
 obtain⟨d,k1,k2⟩:=Z0r.und
 have:(loadVar 37 ⟨b,i,none⟩).run Tryz.prog w= .ok (.agg t.cs.toArray) w:=run_loadVar_mid w b _ _ t.cs _ hr k1 k2 (by rw [Z0r.size];rfl)
 simp [execOp,ho,hx,Instr.loadAt,Instr.sureAddr,this];rfl
end
end Go.Proofs.YtdnjddpfcgginaaGreat
