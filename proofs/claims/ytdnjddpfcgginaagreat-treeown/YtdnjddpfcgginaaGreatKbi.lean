/-
  Texts of my own, joined: no statement is proved here.
-/
import Derived.Test.YtdnjddpfcgginaaGreatKbh
set_option linter.unusedSimpArgs false
set_option linter.unusedVariables false
namespace Go.Proofs.YtdnjddpfcgginaaGreat
open Go.ChangeShapes Go.WideShapes Go.ChangeAt Go.RowKit
set_option maxRecDepth 100000
set_option maxHeartbeats 8000000 in
theorem fd_e {w:World} {U:Nat→Prop} {y n:Nat} {Z:Tz} (h:Dx w U y Z) (hz:Z.ok n) (hn:n≤900) (o:Oz) (s:Sv) (ho:o.wfo) (hE:Z04 Z.t o.fd=46):
 Calls Tryz.prog 30 #[.pointer (some ⟨y,0,none⟩), .agg (opC o s).toArray] w fun e w'=>RetY e U y Z 46 w w':=by
 have hU:=h.low
 obtain⟨fb,r,c,A,F,sd,sn,H,hUU⟩:=h
 go_enter Tryz.func30,Tryz.ntmps30
 go_upto_region 1 with(first
  | (refine Z05 (by rfl) _ (by rfl) o s (by rfl) ?_;intro g1 w1 z1 z2 r1 b1
     have Bc:=b1
     have v1:=b1.size
     try clear c10
     try clear c13
     have c10:=r1.cell 0 _ rfl
     have c13:=r1.cell 3 _ rfl)
  | (refine Z02 (by rfl) (by rfl) ?_;intro g2 w2 z3 z4 r2 b2
     replace Bc:=Z00q Bc b2 (Nat.le_refl _)
     have v2:=b2.size
     try (replace r1:=r1.later b2)
     try (replace r2:=r2.later b2)
     try clear c10
     try clear c13
     have c10:=r1.cell 0 _ rfl
     have c13:=r1.cell 3 _ rfl))
 simp only [Act.put,List.setIfInBounds_toArray,List.set_cons_zero,List.set_cons_succ]
 go_cut [5,6] (fun u v wx=>∃ g6,u= .pointer (some ⟨g6,0,none⟩)∧v= .int .i64 (Z04 Z.t o.fd)∧Cs wx g6 (Z01 Z.t o.fd).cs∧w2.heap.size≤g6∧Below w2.heap.size w2 wx)
 case first=>
  have H2:=H.later Bc
  refine wp_region_held_drew (S:=fun u=>Below w2.heap.size w2 u) (by kernel_rfl) (Below.refl _ _).drew (fun hHeld=>?_)
  refine tl 0 (.pointer (some ⟨y,0,none⟩)) rfl ?_
  try simp only [z]
  refine tl 1 (.pointer (some ⟨y,0,none⟩)) rfl ?_
  try simp only [z]
  refine tl 2 (.pointer (some ⟨y,1,none⟩)) rfl ?_
  try simp only [z]
  refine tl 3 (.pointer (some ⟨fb,0,none⟩)) rfl ?_ (fun u hu=>by have x1:=(H2.later hu).c1;go_simp)
  try simp only [z]
  refine tl 4 (.pointer (some ⟨g1,3,none⟩)) rfl ?_
  try simp only [z]
  refine tl 5 (.int .i64 o.fd) rfl ?_ (fun u hu=>by have x1:=(r1.later hu).cell 3 _ rfl;go_simp)
  try simp only [z]
  refine wpAnyH_ready (rs:= [6,10]) (by kernel_rfl) (by simp) ?_
  refine(AllReadyH.cons (o:=⟨some 20, .call { callee:=Callee.value (.func 70),args:=#[.tmp 17, .tmp 19],argTypes:=#[40,3]},116,_,#[⟨3, .data⟩,⟨5, .data⟩],none⟩) rfl (fun K hK=>?_) (AllReadyH.cons (o:=⟨some 5, .alloc 97,0,_,#[],none⟩) rfl (fun K hK=>?_) AllReadyH.nil))
  · skip
    go_simp
    refine(Z0l (H2.later hHeld).fd o.fd).mono ?_
    rintro e w6 ⟨rfl,b6⟩
    try go_wp2_with fail
    try (have p6:=p6.later b6)
    refine hK.out _ _ (Z00q hHeld b6 (Nat.le_refl _)) (fun hHeld=>?_)
    clear hK K
    try simp only [z]
    refine tl 7 (.tuple #[.agg (Z01 Z.t o.fd).cs.toArray, .int .i64 (Z04 Z.t o.fd)]) rfl ?_
    try simp only [z]
    refine tl 8 (.agg (Z01 Z.t o.fd).cs.toArray) rfl ?_
    try simp only [z]
    refine tl 9 (.int .i64 (Z04 Z.t o.fd)) rfl ?_
    try simp only [z]
    refine rd 10 rfl (fun K hK=>?_)
    have zH:=hHeld.size
    refine Z0i rfl (by rfl) ?_
    intro g6 w10 y6 y7 p6 b10
    have m6:w2.heap.size≤g6:=by omega
    refine hK.out _ _ (Z00q hHeld b10 (Nat.le_refl _)) (fun hHeld=>?_)
    clear hK K
    try simp only [z]
    refine rd 11 rfl (fun K hK=>?_)
    refine Z0j rfl _ _ (by rfl) g6 (by rfl) (Z01 Z.t o.fd) (by rfl) _ p6 rfl ?_
    intro w11 p11 s11
    refine hK.out _ _ (((Stp.of_below hHeld (fun _=>False)).next s11 (fun x e=> .inr (by omega))).below (Nat.le_refl _) (fun _ h=>h.elim)) (fun hHeld=>?_)
    clear hK K
    try simp only [Act.put]
    refine tl 12 (.int .i64 (Z04 Z.t o.fd)) rfl ?_
    try simp only [z]
    refine wpAnyH_done (by kernel_rfl) ?_ _
    go_wp2_with fail
    go_meet
    exact⟨g6,rfl,rfl,p11,m6,hHeld⟩
  · skip
    have zH:=hHeld.size
    refine Z0i rfl (by rfl) ?_
    intro g6 w10 y6 y7 p6 b10
    have m6:w2.heap.size≤g6:=by omega
    refine hK.out _ _ (Z00q hHeld b10 (Nat.le_refl _)) (fun hHeld=>?_)
    clear hK K
    try simp only [z]
    refine rd 6 rfl (fun K hK=>?_)
    go_simp
    refine(Z0l (H2.later hHeld).fd o.fd).mono ?_
    rintro e w6 ⟨rfl,b6⟩
    try go_wp2_with fail
    try (have p6:=p6.later b6)
    refine hK.out _ _ (Z00q hHeld b6 (Nat.le_refl _)) (fun hHeld=>?_)
    clear hK K
    try simp only [z]
    refine tl 7 (.tuple #[.agg (Z01 Z.t o.fd).cs.toArray, .int .i64 (Z04 Z.t o.fd)]) rfl ?_
    try simp only [z]
    refine tl 8 (.agg (Z01 Z.t o.fd).cs.toArray) rfl ?_
    try simp only [z]
    refine tl 9 (.int .i64 (Z04 Z.t o.fd)) rfl ?_
    try simp only [z]
    refine rd 11 rfl (fun K hK=>?_)
    refine Z0j rfl _ _ (by rfl) g6 (by rfl) (Z01 Z.t o.fd) (by rfl) _ p6 rfl ?_
    intro w11 p11 s11
    refine hK.out _ _ (((Stp.of_below hHeld (fun _=>False)).next s11 (fun x e=> .inr (by omega))).below (Nat.le_refl _) (fun _ h=>h.elim)) (fun hHeld=>?_)
    clear hK K
    try simp only [Act.put]
    refine tl 12 (.int .i64 (Z04 Z.t o.fd)) rfl ?_
    try simp only [z]
    refine wpAnyH_done (by kernel_rfl) ?_ _
    go_wp2_with fail
    go_meet
    exact⟨g6,rfl,rfl,p11,m6,hHeld⟩
 case rest=>
  obtain⟨g6,rfl,rfl,r6,m6,b3⟩:=hcut
  replace Bc:=Z00q Bc b3 (Nat.le_refl _)
  replace r1:=r1.later b3
  replace r2:=r2.later b3
  have zb3:=b3.size
  have l6:=r6.lt
  try clear c10
  try clear c13
  have c10:=r1.cell 0 _ rfl
  have c13:=r1.cell 3 _ rfl
  rw [hE]
  go_wp2_with (first
   | (go_at_call 35;refine(Z0b _ _).mono ?_;rintro e wf ⟨rfl,bf⟩
      replace Bc:=Z00q Bc bf (Nat.le_refl _)
      replace r2:=r2.later bf)
   | (refine Z03 (by rfl) _ _ (by rfl) g2 (by rfl) (anC 46 0 nilV nilV 0 0 0) 46 (Z07 46) (by rfl) _ r2 rfl ?_;intro w9 r9 s9))
  exact bodyPost_ret (Z0a Z06 Tryz.results30 rfl r9 rfl) rfl ⟨anC 46 0 nilV nilV 0 0 0,rfl,Z07 46,(Z0e ⟨fb,r,c,A,F,sd,sn,H,hUU⟩ Bc (by omega) s9)⟩
set_option maxHeartbeats 8000000 in
theorem Zez {w:World} {U:Nat→Prop} {y n:Nat} {Z:Tz} (h:Dx w U y Z) (hz:Z.ok n) (hn:n≤900) (o:Oz) (s:Sv) (ho:o.wfo) (hk:o.k=14) (hE:Z04 Z.t o.fd=0):
 Calls Tryz.prog 30 #[.pointer (some ⟨y,0,none⟩), .agg (opC o s).toArray] w fun e w'=>RetY e U y Z 0 w w':=by
 have hU:=h.low
 obtain⟨fb,r,c,A,F,sd,sn,H,hUU⟩:=h
 go_enter Tryz.func30,Tryz.ntmps30
 go_upto_region 1 with(first
  | (refine Z05 (by rfl) _ (by rfl) o s (by rfl) ?_;intro g1 w1 z1 z2 r1 b1
     have Bc:=b1
     have v1:=b1.size
     try clear c10
     try clear c13
     have c10:=r1.cell 0 _ rfl
     have c13:=r1.cell 3 _ rfl
     try rw [hk]at c10)
  | (refine Z02 (by rfl) (by rfl) ?_;intro g2 w2 z3 z4 r2 b2
     replace Bc:=Z00q Bc b2 (Nat.le_refl _)
     have v2:=b2.size
     try (replace r1:=r1.later b2)
     try (replace r2:=r2.later b2)
     try clear c10
     try clear c13
     have c10:=r1.cell 0 _ rfl
     have c13:=r1.cell 3 _ rfl
     try rw [hk]at c10))
 simp only [Act.put,List.setIfInBounds_toArray,List.set_cons_zero,List.set_cons_succ]
 go_cut [5,6] (fun u v wx=>∃ g6,u= .pointer (some ⟨g6,0,none⟩)∧v= .int .i64 (Z04 Z.t o.fd)∧Cs wx g6 (Z01 Z.t o.fd).cs∧w2.heap.size≤g6∧Below w2.heap.size w2 wx)
 case first=>
  have H2:=H.later Bc
  refine wp_region_held_drew (S:=fun u=>Below w2.heap.size w2 u) (by kernel_rfl) (Below.refl _ _).drew (fun hHeld=>?_)
  refine tl 0 (.pointer (some ⟨y,0,none⟩)) rfl ?_
  try simp only [z]
  refine tl 1 (.pointer (some ⟨y,0,none⟩)) rfl ?_
  try simp only [z]
  refine tl 2 (.pointer (some ⟨y,1,none⟩)) rfl ?_
  try simp only [z]
  refine tl 3 (.pointer (some ⟨fb,0,none⟩)) rfl ?_ (fun u hu=>by have x1:=(H2.later hu).c1;go_simp)
  try simp only [z]
  refine tl 4 (.pointer (some ⟨g1,3,none⟩)) rfl ?_
  try simp only [z]
  refine tl 5 (.int .i64 o.fd) rfl ?_ (fun u hu=>by have x1:=(r1.later hu).cell 3 _ rfl;go_simp)
  try simp only [z]
  refine wpAnyH_ready (rs:= [6,10]) (by kernel_rfl) (by simp) ?_
  refine(AllReadyH.cons (o:=⟨some 20, .call { callee:=Callee.value (.func 70),args:=#[.tmp 17, .tmp 19],argTypes:=#[40,3]},116,_,#[⟨3, .data⟩,⟨5, .data⟩],none⟩) rfl (fun K hK=>?_) (AllReadyH.cons (o:=⟨some 5, .alloc 97,0,_,#[],none⟩) rfl (fun K hK=>?_) AllReadyH.nil))
  · skip
    go_simp
    refine(Z0l (H2.later hHeld).fd o.fd).mono ?_
    rintro e w6 ⟨rfl,b6⟩
    try go_wp2_with fail
    try (have p6:=p6.later b6)
    refine hK.out _ _ (Z00q hHeld b6 (Nat.le_refl _)) (fun hHeld=>?_)
    clear hK K
    try simp only [z]
    refine tl 7 (.tuple #[.agg (Z01 Z.t o.fd).cs.toArray, .int .i64 (Z04 Z.t o.fd)]) rfl ?_
    try simp only [z]
    refine tl 8 (.agg (Z01 Z.t o.fd).cs.toArray) rfl ?_
    try simp only [z]
    refine tl 9 (.int .i64 (Z04 Z.t o.fd)) rfl ?_
    try simp only [z]
    refine rd 10 rfl (fun K hK=>?_)
    have zH:=hHeld.size
    refine Z0i rfl (by rfl) ?_
    intro g6 w10 y6 y7 p6 b10
    have m6:w2.heap.size≤g6:=by omega
    refine hK.out _ _ (Z00q hHeld b10 (Nat.le_refl _)) (fun hHeld=>?_)
    clear hK K
    try simp only [z]
    refine rd 11 rfl (fun K hK=>?_)
    refine Z0j rfl _ _ (by rfl) g6 (by rfl) (Z01 Z.t o.fd) (by rfl) _ p6 rfl ?_
    intro w11 p11 s11
    refine hK.out _ _ (((Stp.of_below hHeld (fun _=>False)).next s11 (fun x e=> .inr (by omega))).below (Nat.le_refl _) (fun _ h=>h.elim)) (fun hHeld=>?_)
    clear hK K
    try simp only [Act.put]
    refine tl 12 (.int .i64 (Z04 Z.t o.fd)) rfl ?_
    try simp only [z]
    refine wpAnyH_done (by kernel_rfl) ?_ _
    go_wp2_with fail
    go_meet
    exact⟨g6,rfl,rfl,p11,m6,hHeld⟩
  · skip
    have zH:=hHeld.size
    refine Z0i rfl (by rfl) ?_
    intro g6 w10 y6 y7 p6 b10
    have m6:w2.heap.size≤g6:=by omega
    refine hK.out _ _ (Z00q hHeld b10 (Nat.le_refl _)) (fun hHeld=>?_)
    clear hK K
    try simp only [z]
    refine rd 6 rfl (fun K hK=>?_)
    go_simp
    refine(Z0l (H2.later hHeld).fd o.fd).mono ?_
    rintro e w6 ⟨rfl,b6⟩
    try go_wp2_with fail
    try (have p6:=p6.later b6)
    refine hK.out _ _ (Z00q hHeld b6 (Nat.le_refl _)) (fun hHeld=>?_)
    clear hK K
    try simp only [z]
    refine tl 7 (.tuple #[.agg (Z01 Z.t o.fd).cs.toArray, .int .i64 (Z04 Z.t o.fd)]) rfl ?_
    try simp only [z]
    refine tl 8 (.agg (Z01 Z.t o.fd).cs.toArray) rfl ?_
    try simp only [z]
    refine tl 9 (.int .i64 (Z04 Z.t o.fd)) rfl ?_
    try simp only [z]
    refine rd 11 rfl (fun K hK=>?_)
    refine Z0j rfl _ _ (by rfl) g6 (by rfl) (Z01 Z.t o.fd) (by rfl) _ p6 rfl ?_
    intro w11 p11 s11
    refine hK.out _ _ (((Stp.of_below hHeld (fun _=>False)).next s11 (fun x e=> .inr (by omega))).below (Nat.le_refl _) (fun _ h=>h.elim)) (fun hHeld=>?_)
    clear hK K
    try simp only [Act.put]
    refine tl 12 (.int .i64 (Z04 Z.t o.fd)) rfl ?_
    try simp only [z]
    refine wpAnyH_done (by kernel_rfl) ?_ _
    go_wp2_with fail
    go_meet
    exact⟨g6,rfl,rfl,p11,m6,hHeld⟩
 case rest=>
  obtain⟨g6,rfl,rfl,r6,m6,b3⟩:=hcut
  replace Bc:=Z00q Bc b3 (Nat.le_refl _)
  replace r1:=r1.later b3
  replace r2:=r2.later b3
  have zb3:=b3.size
  have l6:=r6.lt
  try clear c10
  try clear c13
  have c10:=r1.cell 0 _ rfl
  have c13:=r1.cell 3 _ rfl
  try rw [hk]at c10
  rw [hE]
  go_wp2_with (first
   | (refine Z03 (by rfl) _ _ (by rfl) g2 (by rfl) anZ 0 Z0c (by rfl) _ r2 rfl ?_;intro w9 r9 s9))
  exact bodyPost_ret (Z0a Z06 Tryz.results30 rfl r9 rfl) rfl ⟨anZ,rfl,Z0c,(Z0e ⟨fb,r,c,A,F,sd,sn,H,hUU⟩ Bc (by omega) s9)⟩
set_option maxRecDepth 100000
set_option maxHeartbeats 8000000 in
theorem Zgm {w:World} {U:Nat→Prop} {y n:Nat} {Z:Tz} (h:Dx w U y Z) (hz:Z.ok n) (hn:n≤900) (o:Oz) (s:Sv) (ho:o.wfo) (hk:o.k=5) (hE:Z04 Z.t o.fd=0) (hx:o.off < 0):
 Calls Tryz.prog 30 #[.pointer (some ⟨y,0,none⟩), .agg (opC o s).toArray] w fun e w'=>RetY e U y Z 2 w w':=by
 have hU:=h.low
 obtain⟨fb,r,c,A,F,sd,sn,H,hUU⟩:=h
 go_enter Tryz.func30,Tryz.ntmps30
 go_upto_region 1 with(first
  | (refine Z05 (by rfl) _ (by rfl) o s (by rfl) ?_;intro g1 w1 z1 z2 r1 b1
     have Bc:=b1
     have v1:=b1.size
     try clear c10
     try clear c13
     try clear c15
     have c10:=r1.cell 0 _ rfl
     have c13:=r1.cell 3 _ rfl
     have c15:=r1.cell 5 _ rfl
     try rw [hk]at c10)
  | (refine Z02 (by rfl) (by rfl) ?_;intro g2 w2 z3 z4 r2 b2
     replace Bc:=Z00q Bc b2 (Nat.le_refl _)
     have v2:=b2.size
     try (replace r1:=r1.later b2)
     try (replace r2:=r2.later b2)
     try clear c10
     try clear c13
     try clear c15
     have c10:=r1.cell 0 _ rfl
     have c13:=r1.cell 3 _ rfl
     have c15:=r1.cell 5 _ rfl
     try rw [hk]at c10))
 simp only [Act.put,List.setIfInBounds_toArray,List.set_cons_zero,List.set_cons_succ]
 go_cut [5,6] (fun u v wx=>∃ g6,u= .pointer (some ⟨g6,0,none⟩)∧v= .int .i64 (Z04 Z.t o.fd)∧Cs wx g6 (Z01 Z.t o.fd).cs∧w2.heap.size≤g6∧Below w2.heap.size w2 wx)
 case first=>
  have H2:=H.later Bc
  refine wp_region_held_drew (S:=fun u=>Below w2.heap.size w2 u) (by kernel_rfl) (Below.refl _ _).drew (fun hHeld=>?_)
  refine tl 0 (.pointer (some ⟨y,0,none⟩)) rfl ?_
  try simp only [z]
  refine tl 1 (.pointer (some ⟨y,0,none⟩)) rfl ?_
  try simp only [z]
  refine tl 2 (.pointer (some ⟨y,1,none⟩)) rfl ?_
  try simp only [z]
  refine tl 3 (.pointer (some ⟨fb,0,none⟩)) rfl ?_ (fun u hu=>by have x1:=(H2.later hu).c1;go_simp)
  try simp only [z]
  refine tl 4 (.pointer (some ⟨g1,3,none⟩)) rfl ?_
  try simp only [z]
  refine tl 5 (.int .i64 o.fd) rfl ?_ (fun u hu=>by have x1:=(r1.later hu).cell 3 _ rfl;go_simp)
  try simp only [z]
  refine wpAnyH_ready (rs:= [6,10]) (by kernel_rfl) (by simp) ?_
  refine(AllReadyH.cons (o:=⟨some 20, .call { callee:=Callee.value (.func 70),args:=#[.tmp 17, .tmp 19],argTypes:=#[40,3]},116,_,#[⟨3, .data⟩,⟨5, .data⟩],none⟩) rfl (fun K hK=>?_) (AllReadyH.cons (o:=⟨some 5, .alloc 97,0,_,#[],none⟩) rfl (fun K hK=>?_) AllReadyH.nil))
  · skip
    go_simp
    refine(Z0l (H2.later hHeld).fd o.fd).mono ?_
    rintro e w6 ⟨rfl,b6⟩
    try go_wp2_with fail
    try (have p6:=p6.later b6)
    refine hK.out _ _ (Z00q hHeld b6 (Nat.le_refl _)) (fun hHeld=>?_)
    clear hK K
    try simp only [z]
    refine tl 7 (.tuple #[.agg (Z01 Z.t o.fd).cs.toArray, .int .i64 (Z04 Z.t o.fd)]) rfl ?_
    try simp only [z]
    refine tl 8 (.agg (Z01 Z.t o.fd).cs.toArray) rfl ?_
    try simp only [z]
    refine tl 9 (.int .i64 (Z04 Z.t o.fd)) rfl ?_
    try simp only [z]
    refine rd 10 rfl (fun K hK=>?_)
    have zH:=hHeld.size
    refine Z0i rfl (by rfl) ?_
    intro g6 w10 y6 y7 p6 b10
    have m6:w2.heap.size≤g6:=by omega
    refine hK.out _ _ (Z00q hHeld b10 (Nat.le_refl _)) (fun hHeld=>?_)
    clear hK K
    try simp only [z]
    refine rd 11 rfl (fun K hK=>?_)
    refine Z0j rfl _ _ (by rfl) g6 (by rfl) (Z01 Z.t o.fd) (by rfl) _ p6 rfl ?_
    intro w11 p11 s11
    refine hK.out _ _ (((Stp.of_below hHeld (fun _=>False)).next s11 (fun x e=> .inr (by omega))).below (Nat.le_refl _) (fun _ h=>h.elim)) (fun hHeld=>?_)
    clear hK K
    try simp only [Act.put]
    refine tl 12 (.int .i64 (Z04 Z.t o.fd)) rfl ?_
    try simp only [z]
    refine wpAnyH_done (by kernel_rfl) ?_ _
    go_wp2_with fail
    go_meet
    exact⟨g6,rfl,rfl,p11,m6,hHeld⟩
  · skip
    have zH:=hHeld.size
    refine Z0i rfl (by rfl) ?_
    intro g6 w10 y6 y7 p6 b10
    have m6:w2.heap.size≤g6:=by omega
    refine hK.out _ _ (Z00q hHeld b10 (Nat.le_refl _)) (fun hHeld=>?_)
    clear hK K
    try simp only [z]
    refine rd 6 rfl (fun K hK=>?_)
    go_simp
    refine(Z0l (H2.later hHeld).fd o.fd).mono ?_
    rintro e w6 ⟨rfl,b6⟩
    try go_wp2_with fail
    try (have p6:=p6.later b6)
    refine hK.out _ _ (Z00q hHeld b6 (Nat.le_refl _)) (fun hHeld=>?_)
    clear hK K
    try simp only [z]
    refine tl 7 (.tuple #[.agg (Z01 Z.t o.fd).cs.toArray, .int .i64 (Z04 Z.t o.fd)]) rfl ?_
    try simp only [z]
    refine tl 8 (.agg (Z01 Z.t o.fd).cs.toArray) rfl ?_
    try simp only [z]
    refine tl 9 (.int .i64 (Z04 Z.t o.fd)) rfl ?_
    try simp only [z]
    refine rd 11 rfl (fun K hK=>?_)
    refine Z0j rfl _ _ (by rfl) g6 (by rfl) (Z01 Z.t o.fd) (by rfl) _ p6 rfl ?_
    intro w11 p11 s11
    refine hK.out _ _ (((Stp.of_below hHeld (fun _=>False)).next s11 (fun x e=> .inr (by omega))).below (Nat.le_refl _) (fun _ h=>h.elim)) (fun hHeld=>?_)
    clear hK K
    try simp only [Act.put]
    refine tl 12 (.int .i64 (Z04 Z.t o.fd)) rfl ?_
    try simp only [z]
    refine wpAnyH_done (by kernel_rfl) ?_ _
    go_wp2_with fail
    go_meet
    exact⟨g6,rfl,rfl,p11,m6,hHeld⟩
 case rest=>
  obtain⟨g6,rfl,rfl,r6,m6,b3⟩:=hcut
  replace Bc:=Z00q Bc b3 (Nat.le_refl _)
  replace r1:=r1.later b3
  replace r2:=r2.later b3
  have zb3:=b3.size
  have l6:=r6.lt
  try clear c10
  try clear c13
  try clear c15
  have c10:=r1.cell 0 _ rfl
  have c13:=r1.cell 3 _ rfl
  have c15:=r1.cell 5 _ rfl
  try rw [hk]at c10
  rw [hE]
  go_wp2_with (first
   | (go_at_call 35;refine(Z0b _ _).mono ?_;rintro e wf ⟨rfl,bf⟩
      replace Bc:=Z00q Bc bf (Nat.le_refl _)
      replace r2:=r2.later bf)
   | (refine Z03 (by rfl) _ _ (by rfl) g2 (by rfl) (anC 2 0 nilV nilV 0 0 0) 2 (Z07 2) (by rfl) _ r2 rfl ?_;intro w9 r9 s9))
  exact bodyPost_ret (Z0a Z06 Tryz.results30 rfl r9 rfl) rfl ⟨anC 2 0 nilV nilV 0 0 0,rfl,Z07 2,(Z0e ⟨fb,r,c,A,F,sd,sn,H,hUU⟩ Bc (by omega) s9)⟩
set_option maxHeartbeats 8000000 in
theorem Zgn {w:World} {U:Nat→Prop} {y n:Nat} {Z:Tz} (h:Dx w U y Z) (hz:Z.ok n) (hn:n≤900) (o:Oz) (s:Sv) (ho:o.wfo) (hk:o.k=5) (hE:Z04 Z.t o.fd=0) (hx0:¬o.off < 0) (hx:48640 < o.off):
 Calls Tryz.prog 30 #[.pointer (some ⟨y,0,none⟩), .agg (opC o s).toArray] w fun e w'=>RetY e U y Z 2 w w':=by
 have hU:=h.low
 obtain⟨fb,r,c,A,F,sd,sn,H,hUU⟩:=h
 go_enter Tryz.func30,Tryz.ntmps30
 go_upto_region 1 with(first
  | (refine Z05 (by rfl) _ (by rfl) o s (by rfl) ?_;intro g1 w1 z1 z2 r1 b1
     have Bc:=b1
     have v1:=b1.size
     try clear c10
     try clear c13
     try clear c15
     have c10:=r1.cell 0 _ rfl
     have c13:=r1.cell 3 _ rfl
     have c15:=r1.cell 5 _ rfl
     try rw [hk]at c10)
  | (refine Z02 (by rfl) (by rfl) ?_;intro g2 w2 z3 z4 r2 b2
     replace Bc:=Z00q Bc b2 (Nat.le_refl _)
     have v2:=b2.size
     try (replace r1:=r1.later b2)
     try (replace r2:=r2.later b2)
     try clear c10
     try clear c13
     try clear c15
     have c10:=r1.cell 0 _ rfl
     have c13:=r1.cell 3 _ rfl
     have c15:=r1.cell 5 _ rfl
     try rw [hk]at c10))
 simp only [Act.put,List.setIfInBounds_toArray,List.set_cons_zero,List.set_cons_succ]
 go_cut [5,6] (fun u v wx=>∃ g6,u= .pointer (some ⟨g6,0,none⟩)∧v= .int .i64 (Z04 Z.t o.fd)∧Cs wx g6 (Z01 Z.t o.fd).cs∧w2.heap.size≤g6∧Below w2.heap.size w2 wx)
 case first=>
  have H2:=H.later Bc
  refine wp_region_held_drew (S:=fun u=>Below w2.heap.size w2 u) (by kernel_rfl) (Below.refl _ _).drew (fun hHeld=>?_)
  refine tl 0 (.pointer (some ⟨y,0,none⟩)) rfl ?_
  try simp only [z]
  refine tl 1 (.pointer (some ⟨y,0,none⟩)) rfl ?_
  try simp only [z]
  refine tl 2 (.pointer (some ⟨y,1,none⟩)) rfl ?_
  try simp only [z]
  refine tl 3 (.pointer (some ⟨fb,0,none⟩)) rfl ?_ (fun u hu=>by have x1:=(H2.later hu).c1;go_simp)
  try simp only [z]
  refine tl 4 (.pointer (some ⟨g1,3,none⟩)) rfl ?_
  try simp only [z]
  refine tl 5 (.int .i64 o.fd) rfl ?_ (fun u hu=>by have x1:=(r1.later hu).cell 3 _ rfl;go_simp)
  try simp only [z]
  refine wpAnyH_ready (rs:= [6,10]) (by kernel_rfl) (by simp) ?_
  refine(AllReadyH.cons (o:=⟨some 20, .call { callee:=Callee.value (.func 70),args:=#[.tmp 17, .tmp 19],argTypes:=#[40,3]},116,_,#[⟨3, .data⟩,⟨5, .data⟩],none⟩) rfl (fun K hK=>?_) (AllReadyH.cons (o:=⟨some 5, .alloc 97,0,_,#[],none⟩) rfl (fun K hK=>?_) AllReadyH.nil))
  · skip
    go_simp
    refine(Z0l (H2.later hHeld).fd o.fd).mono ?_
    rintro e w6 ⟨rfl,b6⟩
    try go_wp2_with fail
    try (have p6:=p6.later b6)
    refine hK.out _ _ (Z00q hHeld b6 (Nat.le_refl _)) (fun hHeld=>?_)
    clear hK K
    try simp only [z]
    refine tl 7 (.tuple #[.agg (Z01 Z.t o.fd).cs.toArray, .int .i64 (Z04 Z.t o.fd)]) rfl ?_
    try simp only [z]
    refine tl 8 (.agg (Z01 Z.t o.fd).cs.toArray) rfl ?_
    try simp only [z]
    refine tl 9 (.int .i64 (Z04 Z.t o.fd)) rfl ?_
    try simp only [z]
    refine rd 10 rfl (fun K hK=>?_)
    have zH:=hHeld.size
    refine Z0i rfl (by rfl) ?_
    intro g6 w10 y6 y7 p6 b10
    have m6:w2.heap.size≤g6:=by omega
    refine hK.out _ _ (Z00q hHeld b10 (Nat.le_refl _)) (fun hHeld=>?_)
    clear hK K
    try simp only [z]
    refine rd 11 rfl (fun K hK=>?_)
    refine Z0j rfl _ _ (by rfl) g6 (by rfl) (Z01 Z.t o.fd) (by rfl) _ p6 rfl ?_
    intro w11 p11 s11
    refine hK.out _ _ (((Stp.of_below hHeld (fun _=>False)).next s11 (fun x e=> .inr (by omega))).below (Nat.le_refl _) (fun _ h=>h.elim)) (fun hHeld=>?_)
    clear hK K
    try simp only [Act.put]
    refine tl 12 (.int .i64 (Z04 Z.t o.fd)) rfl ?_
    try simp only [z]
    refine wpAnyH_done (by kernel_rfl) ?_ _
    go_wp2_with fail
    go_meet
    exact⟨g6,rfl,rfl,p11,m6,hHeld⟩
  · skip
    have zH:=hHeld.size
    refine Z0i rfl (by rfl) ?_
    intro g6 w10 y6 y7 p6 b10
    have m6:w2.heap.size≤g6:=by omega
    refine hK.out _ _ (Z00q hHeld b10 (Nat.le_refl _)) (fun hHeld=>?_)
    clear hK K
    try simp only [z]
    refine rd 6 rfl (fun K hK=>?_)
    go_simp
    refine(Z0l (H2.later hHeld).fd o.fd).mono ?_
    rintro e w6 ⟨rfl,b6⟩
    try go_wp2_with fail
    try (have p6:=p6.later b6)
    refine hK.out _ _ (Z00q hHeld b6 (Nat.le_refl _)) (fun hHeld=>?_)
    clear hK K
    try simp only [z]
    refine tl 7 (.tuple #[.agg (Z01 Z.t o.fd).cs.toArray, .int .i64 (Z04 Z.t o.fd)]) rfl ?_
    try simp only [z]
    refine tl 8 (.agg (Z01 Z.t o.fd).cs.toArray) rfl ?_
    try simp only [z]
    refine tl 9 (.int .i64 (Z04 Z.t o.fd)) rfl ?_
    try simp only [z]
    refine rd 11 rfl (fun K hK=>?_)
    refine Z0j rfl _ _ (by rfl) g6 (by rfl) (Z01 Z.t o.fd) (by rfl) _ p6 rfl ?_
    intro w11 p11 s11
    refine hK.out _ _ (((Stp.of_below hHeld (fun _=>False)).next s11 (fun x e=> .inr (by omega))).below (Nat.le_refl _) (fun _ h=>h.elim)) (fun hHeld=>?_)
    clear hK K
    try simp only [Act.put]
    refine tl 12 (.int .i64 (Z04 Z.t o.fd)) rfl ?_
    try simp only [z]
    refine wpAnyH_done (by kernel_rfl) ?_ _
    go_wp2_with fail
    go_meet
    exact⟨g6,rfl,rfl,p11,m6,hHeld⟩
 case rest=>
  obtain⟨g6,rfl,rfl,r6,m6,b3⟩:=hcut
  replace Bc:=Z00q Bc b3 (Nat.le_refl _)
  replace r1:=r1.later b3
  replace r2:=r2.later b3
  have zb3:=b3.size
  have l6:=r6.lt
  try clear c10
  try clear c13
  try clear c15
  have c10:=r1.cell 0 _ rfl
  have c13:=r1.cell 3 _ rfl
  have c15:=r1.cell 5 _ rfl
  try rw [hk]at c10
  rw [hE]
  go_wp2_with (first
   | (go_at_call 35;refine(Z0b _ _).mono ?_;rintro e wf ⟨rfl,bf⟩
      replace Bc:=Z00q Bc bf (Nat.le_refl _)
      replace r2:=r2.later bf)
   | (refine Z03 (by rfl) _ _ (by rfl) g2 (by rfl) (anC 2 0 nilV nilV 0 0 0) 2 (Z07 2) (by rfl) _ r2 rfl ?_;intro w9 r9 s9))
  exact bodyPost_ret (Z0a Z06 Tryz.results30 rfl r9 rfl) rfl ⟨anC 2 0 nilV nilV 0 0 0,rfl,Z07 2,(Z0e ⟨fb,r,c,A,F,sd,sn,H,hUU⟩ Bc (by omega) s9)⟩
set_option maxRecDepth 100000
set_option maxHeartbeats 8000000 in
theorem Zgo {w:World} {U:Nat→Prop} {y n:Nat} {Z:Tz} (h:Dx w U y Z) (hz:Z.ok n) (hn:n≤900) (o:Oz) (s:Sv) (ho:o.wfo) (hk:o.k=5) (hE:Z04 Z.t o.fd=0) (hx0:¬o.off < 0) (hx:¬48640 < o.off):
 Calls Tryz.prog 30 #[.pointer (some ⟨y,0,none⟩), .agg (opC o s).toArray] w fun e w'=>RetY e U y (Z.fds (Z0f Z.t o.fd o.off)) 0 w w':=by
 have hU:=h.low
 obtain⟨fb,r,c,A,F,sd,sn,H,hUU⟩:=h
 go_enter Tryz.func30,Tryz.ntmps30
 go_upto_region 1 with(first
  | (refine Z05 (by rfl) _ (by rfl) o s (by rfl) ?_;intro g1 w1 z1 z2 r1 b1
     have Bc:=b1
     have v1:=b1.size
     try clear c10
     try clear c13
     try clear c15
     have c10:=r1.cell 0 _ rfl
     have c13:=r1.cell 3 _ rfl
     have c15:=r1.cell 5 _ rfl
     try rw [hk]at c10)
  | (refine Z02 (by rfl) (by rfl) ?_;intro g2 w2 z3 z4 r2 b2
     replace Bc:=Z00q Bc b2 (Nat.le_refl _)
     have v2:=b2.size
     try (replace r1:=r1.later b2)
     try (replace r2:=r2.later b2)
     try clear c10
     try clear c13
     try clear c15
     have c10:=r1.cell 0 _ rfl
     have c13:=r1.cell 3 _ rfl
     have c15:=r1.cell 5 _ rfl
     try rw [hk]at c10))
 simp only [Act.put,List.setIfInBounds_toArray,List.set_cons_zero,List.set_cons_succ]
 go_cut [5,6] (fun u v wx=>∃ g6,u= .pointer (some ⟨g6,0,none⟩)∧v= .int .i64 (Z04 Z.t o.fd)∧Cs wx g6 (Z01 Z.t o.fd).cs∧w2.heap.size≤g6∧Below w2.heap.size w2 wx)
 case first=>
  have H2:=H.later Bc
  refine wp_region_held_drew (S:=fun u=>Below w2.heap.size w2 u) (by kernel_rfl) (Below.refl _ _).drew (fun hHeld=>?_)
  refine tl 0 (.pointer (some ⟨y,0,none⟩)) rfl ?_
  try simp only [z]
  refine tl 1 (.pointer (some ⟨y,0,none⟩)) rfl ?_
  try simp only [z]
  refine tl 2 (.pointer (some ⟨y,1,none⟩)) rfl ?_
  try simp only [z]
  refine tl 3 (.pointer (some ⟨fb,0,none⟩)) rfl ?_ (fun u hu=>by have x1:=(H2.later hu).c1;go_simp)
  try simp only [z]
  refine tl 4 (.pointer (some ⟨g1,3,none⟩)) rfl ?_
  try simp only [z]
  refine tl 5 (.int .i64 o.fd) rfl ?_ (fun u hu=>by have x1:=(r1.later hu).cell 3 _ rfl;go_simp)
  try simp only [z]
  refine wpAnyH_ready (rs:= [6,10]) (by kernel_rfl) (by simp) ?_
  refine(AllReadyH.cons (o:=⟨some 20, .call { callee:=Callee.value (.func 70),args:=#[.tmp 17, .tmp 19],argTypes:=#[40,3]},116,_,#[⟨3, .data⟩,⟨5, .data⟩],none⟩) rfl (fun K hK=>?_) (AllReadyH.cons (o:=⟨some 5, .alloc 97,0,_,#[],none⟩) rfl (fun K hK=>?_) AllReadyH.nil))
  · skip
    go_simp
    refine(Z0l (H2.later hHeld).fd o.fd).mono ?_
    rintro e w6 ⟨rfl,b6⟩
    try go_wp2_with fail
    try (have p6:=p6.later b6)
    refine hK.out _ _ (Z00q hHeld b6 (Nat.le_refl _)) (fun hHeld=>?_)
    clear hK K
    try simp only [z]
    refine tl 7 (.tuple #[.agg (Z01 Z.t o.fd).cs.toArray, .int .i64 (Z04 Z.t o.fd)]) rfl ?_
    try simp only [z]
    refine tl 8 (.agg (Z01 Z.t o.fd).cs.toArray) rfl ?_
    try simp only [z]
    refine tl 9 (.int .i64 (Z04 Z.t o.fd)) rfl ?_
    try simp only [z]
    refine rd 10 rfl (fun K hK=>?_)
    have zH:=hHeld.size
    refine Z0i rfl (by rfl) ?_
    intro g6 w10 y6 y7 p6 b10
    have m6:w2.heap.size≤g6:=by omega
    refine hK.out _ _ (Z00q hHeld b10 (Nat.le_refl _)) (fun hHeld=>?_)
    clear hK K
    try simp only [z]
    refine rd 11 rfl (fun K hK=>?_)
    refine Z0j rfl _ _ (by rfl) g6 (by rfl) (Z01 Z.t o.fd) (by rfl) _ p6 rfl ?_
    intro w11 p11 s11
    refine hK.out _ _ (((Stp.of_below hHeld (fun _=>False)).next s11 (fun x e=> .inr (by omega))).below (Nat.le_refl _) (fun _ h=>h.elim)) (fun hHeld=>?_)
    clear hK K
    try simp only [Act.put]
    refine tl 12 (.int .i64 (Z04 Z.t o.fd)) rfl ?_
    try simp only [z]
    refine wpAnyH_done (by kernel_rfl) ?_ _
    go_wp2_with fail
    go_meet
    exact⟨g6,rfl,rfl,p11,m6,hHeld⟩
  · skip
    have zH:=hHeld.size
    refine Z0i rfl (by rfl) ?_
    intro g6 w10 y6 y7 p6 b10
    have m6:w2.heap.size≤g6:=by omega
    refine hK.out _ _ (Z00q hHeld b10 (Nat.le_refl _)) (fun hHeld=>?_)
    clear hK K
    try simp only [z]
    refine rd 6 rfl (fun K hK=>?_)
    go_simp
    refine(Z0l (H2.later hHeld).fd o.fd).mono ?_
    rintro e w6 ⟨rfl,b6⟩
    try go_wp2_with fail
    try (have p6:=p6.later b6)
    refine hK.out _ _ (Z00q hHeld b6 (Nat.le_refl _)) (fun hHeld=>?_)
    clear hK K
    try simp only [z]
    refine tl 7 (.tuple #[.agg (Z01 Z.t o.fd).cs.toArray, .int .i64 (Z04 Z.t o.fd)]) rfl ?_
    try simp only [z]
    refine tl 8 (.agg (Z01 Z.t o.fd).cs.toArray) rfl ?_
    try simp only [z]
    refine tl 9 (.int .i64 (Z04 Z.t o.fd)) rfl ?_
    try simp only [z]
    refine rd 11 rfl (fun K hK=>?_)
    refine Z0j rfl _ _ (by rfl) g6 (by rfl) (Z01 Z.t o.fd) (by rfl) _ p6 rfl ?_
    intro w11 p11 s11
    refine hK.out _ _ (((Stp.of_below hHeld (fun _=>False)).next s11 (fun x e=> .inr (by omega))).below (Nat.le_refl _) (fun _ h=>h.elim)) (fun hHeld=>?_)
    clear hK K
    try simp only [Act.put]
    refine tl 12 (.int .i64 (Z04 Z.t o.fd)) rfl ?_
    try simp only [z]
    refine wpAnyH_done (by kernel_rfl) ?_ _
    go_wp2_with fail
    go_meet
    exact⟨g6,rfl,rfl,p11,m6,hHeld⟩
 case rest=>
  obtain⟨g6,rfl,rfl,r6,m6,b3⟩:=hcut
  replace Bc:=Z00q Bc b3 (Nat.le_refl _)
  replace r1:=r1.later b3
  replace r2:=r2.later b3
  have zb3:=b3.size
  have l6:=r6.lt
  try clear c10
  try clear c13
  try clear c15
  have c10:=r1.cell 0 _ rfl
  have c13:=r1.cell 3 _ rfl
  have c15:=r1.cell 5 _ rfl
  try rw [hk]at c10
  rw [hE]
  have lf:=H.fd.lt
  have nf1:¬g1=fb:=by omega
  have Hc:=H.later Bc
  have r1c:=r1
  go_upto_region 39 with fail
  go_cut [] (fun wx=>Rd wx fb (Z0f Z.t o.fd o.off)∧Stp (fun z=>z=fb) wc wx)
  case first=>
   refine wp_region_held_drew (S:=fun u=>Stp (fun z=>z=fb) wc u) (by kernel_rfl) (Stp.refl _ _).drew (fun hHeld=>?_)
   have HD:=Hc.later (show Below wc.heap.size wc wc.drew from(Below.refl _ _).drew)
   refine tl 0 (.pointer (some ⟨y,0,none⟩)) rfl ?_
   try simp only [z]
   refine tl 1 (.pointer (some ⟨y,0,none⟩)) rfl ?_
   try simp only [z]
   refine tl 2 (.pointer (some ⟨y,1,none⟩)) rfl ?_
   try simp only [z]
   refine tl 3 (.pointer (some ⟨fb,0,none⟩)) rfl ?_ (fun u hu=>by have x1:=(hu.cell Hc.c1 Hc.n1);go_simp)
   try simp only [z]
   refine tl 4 (.pointer (some ⟨g1,3,none⟩)) rfl ?_
   try simp only [z]
   refine tl 5 (.int .i64 o.fd) rfl ?_ (fun u hu=>by have x1:=hu.cell (r1c.cell 3 _ rfl) nf1;go_simp)
   try simp only [z]
   refine tl 6 (.pointer (some ⟨g1,5,none⟩)) rfl ?_
   try simp only [z]
   refine tl 7 (.int .i64 o.off) rfl ?_ (fun u hu=>by have x1:=hu.cell (r1c.cell 5 _ rfl) nf1;go_simp)
   try simp only [z]
   refine rd 8 rfl (fun K hK=>?_)
   go_simp
   refine(Z50 HD.fd o.fd o.off).mono ?_
   rintro e w6 ⟨rfl,R5,s6⟩
   try go_wp2_with fail
   refine hK.out _ _ (hHeld.trans s6) (fun hHeld=>?_)
   clear hK K
   try simp only [z]
   refine wpAnyH_done (by kernel_rfl) ?_ _
   go_wp2_with fail
   go_meet
   exact⟨R5,hHeld⟩
  case rest=>
   clear hE
   obtain⟨R5,s5⟩:=hcut
   have H5:=Hc.tab R5 s5
   have k5:Stp U _ _:=s5.mono (fun x e=> .inl ((hUU x).2 (.inr (.inl e))))
   have r2d:=r2.step k5 (fun e=>by have:=hU g2 e;omega)
   have GG:DxG U y (Z.fds (Z0f Z.t o.fd o.off)) _ _:=⟨U,⟨fb,r,c,A,F,sd,sn,H5,hUU⟩,k5,Grew.refl _ _ _⟩
   have r1d:=r1c.step s5 (fun e=>nf1 e)
   clear c10 c13 c15
   have c15:=r1d.cell 5 _ rfl
   go_wp2_with (first
    | (refine Z03 (by rfl) _ _ (by rfl) g2 (by rfl) (anC 0 o.off nilV nilV 0 0 0) 0 (Z1y _) (by rfl) _ r2d rfl ?_;intro w9 r9 s9))
   exact bodyPost_ret (Z0a Z06 Tryz.results30 rfl r9 rfl) rfl ⟨_,rfl,Z1y _,Z11 hU Bc GG (by omega) (by omega) s9⟩
set_option maxRecDepth 100000
set_option maxHeartbeats 8000000 in
theorem Zgc {w:World} {U:Nat→Prop} {y n:Nat} {Z:Tz} (h:Dx w U y Z) (hz:Z.ok n) (hn:n≤900) (o:Oz) (s:Sv) (ho:o.wfo) (hk:o.k=2) (hE:Z04 Z.t o.fd=0) {i:Int} {Z2:Tz} (hf:Hid ((Z01 Z.t o.fd).i=i))
 (hG:∀ U' w',Dx w' U' y (Z.fds (Z12 Z.t o.fd))→Calls Tryz.prog 72 #[.pointer (some ⟨y,0,none⟩), .int .i64 i] w' fun e u=>e= .returned (.tuple #[])∧DxG U' y Z2 w' u):
 Calls Tryz.prog 30 #[.pointer (some ⟨y,0,none⟩), .agg (opC o s).toArray] w fun e w'=>RetY e U y Z2 0 w w':=by
 have hU:=h.low
 obtain⟨fb,r,c,A,F,sd,sn,H,hUU⟩:=h
 go_enter Tryz.func30,Tryz.ntmps30
 go_upto_region 1 with(first
  | (refine Z05 (by rfl) _ (by rfl) o s (by rfl) ?_;intro g1 w1 z1 z2 r1 b1
     have Bc:=b1
     have v1:=b1.size
     try clear c10
     try clear c13
     have c10:=r1.cell 0 _ rfl
     have c13:=r1.cell 3 _ rfl
     try rw [hk]at c10)
  | (refine Z02 (by rfl) (by rfl) ?_;intro g2 w2 z3 z4 r2 b2
     replace Bc:=Z00q Bc b2 (Nat.le_refl _)
     have v2:=b2.size
     try (replace r1:=r1.later b2)
     try (replace r2:=r2.later b2)
     try clear c10
     try clear c13
     have c10:=r1.cell 0 _ rfl
     have c13:=r1.cell 3 _ rfl
     try rw [hk]at c10))
 simp only [Act.put,List.setIfInBounds_toArray,List.set_cons_zero,List.set_cons_succ]
 go_cut [5,6] (fun u v wx=>∃ g6,u= .pointer (some ⟨g6,0,none⟩)∧v= .int .i64 (Z04 Z.t o.fd)∧Cs wx g6 (Z01 Z.t o.fd).cs∧w2.heap.size≤g6∧Below w2.heap.size w2 wx)
 case first=>
  have H2:=H.later Bc
  refine wp_region_held_drew (S:=fun u=>Below w2.heap.size w2 u) (by kernel_rfl) (Below.refl _ _).drew (fun hHeld=>?_)
  refine tl 0 (.pointer (some ⟨y,0,none⟩)) rfl ?_
  try simp only [z]
  refine tl 1 (.pointer (some ⟨y,0,none⟩)) rfl ?_
  try simp only [z]
  refine tl 2 (.pointer (some ⟨y,1,none⟩)) rfl ?_
  try simp only [z]
  refine tl 3 (.pointer (some ⟨fb,0,none⟩)) rfl ?_ (fun u hu=>by have x1:=(H2.later hu).c1;go_simp)
  try simp only [z]
  refine tl 4 (.pointer (some ⟨g1,3,none⟩)) rfl ?_
  try simp only [z]
  refine tl 5 (.int .i64 o.fd) rfl ?_ (fun u hu=>by have x1:=(r1.later hu).cell 3 _ rfl;go_simp)
  try simp only [z]
  refine wpAnyH_ready (rs:= [6,10]) (by kernel_rfl) (by simp) ?_
  refine(AllReadyH.cons (o:=⟨some 20, .call { callee:=Callee.value (.func 70),args:=#[.tmp 17, .tmp 19],argTypes:=#[40,3]},116,_,#[⟨3, .data⟩,⟨5, .data⟩],none⟩) rfl (fun K hK=>?_) (AllReadyH.cons (o:=⟨some 5, .alloc 97,0,_,#[],none⟩) rfl (fun K hK=>?_) AllReadyH.nil))
  · skip
    go_simp
    refine(Z0l (H2.later hHeld).fd o.fd).mono ?_
    rintro e w6 ⟨rfl,b6⟩
    try go_wp2_with fail
    try (have p6:=p6.later b6)
    refine hK.out _ _ (Z00q hHeld b6 (Nat.le_refl _)) (fun hHeld=>?_)
    clear hK K
    try simp only [z]
    refine tl 7 (.tuple #[.agg (Z01 Z.t o.fd).cs.toArray, .int .i64 (Z04 Z.t o.fd)]) rfl ?_
    try simp only [z]
    refine tl 8 (.agg (Z01 Z.t o.fd).cs.toArray) rfl ?_
    try simp only [z]
    refine tl 9 (.int .i64 (Z04 Z.t o.fd)) rfl ?_
    try simp only [z]
    refine rd 10 rfl (fun K hK=>?_)
    have zH:=hHeld.size
    refine Z0i rfl (by rfl) ?_
    intro g6 w10 y6 y7 p6 b10
    have m6:w2.heap.size≤g6:=by omega
    refine hK.out _ _ (Z00q hHeld b10 (Nat.le_refl _)) (fun hHeld=>?_)
    clear hK K
    try simp only [z]
    refine rd 11 rfl (fun K hK=>?_)
    refine Z0j rfl _ _ (by rfl) g6 (by rfl) (Z01 Z.t o.fd) (by rfl) _ p6 rfl ?_
    intro w11 p11 s11
    refine hK.out _ _ (((Stp.of_below hHeld (fun _=>False)).next s11 (fun x e=> .inr (by omega))).below (Nat.le_refl _) (fun _ h=>h.elim)) (fun hHeld=>?_)
    clear hK K
    try simp only [Act.put]
    refine tl 12 (.int .i64 (Z04 Z.t o.fd)) rfl ?_
    try simp only [z]
    refine wpAnyH_done (by kernel_rfl) ?_ _
    go_wp2_with fail
    go_meet
    exact⟨g6,rfl,rfl,p11,m6,hHeld⟩
  · skip
    have zH:=hHeld.size
    refine Z0i rfl (by rfl) ?_
    intro g6 w10 y6 y7 p6 b10
    have m6:w2.heap.size≤g6:=by omega
    refine hK.out _ _ (Z00q hHeld b10 (Nat.le_refl _)) (fun hHeld=>?_)
    clear hK K
    try simp only [z]
    refine rd 6 rfl (fun K hK=>?_)
    go_simp
    refine(Z0l (H2.later hHeld).fd o.fd).mono ?_
    rintro e w6 ⟨rfl,b6⟩
    try go_wp2_with fail
    try (have p6:=p6.later b6)
    refine hK.out _ _ (Z00q hHeld b6 (Nat.le_refl _)) (fun hHeld=>?_)
    clear hK K
    try simp only [z]
    refine tl 7 (.tuple #[.agg (Z01 Z.t o.fd).cs.toArray, .int .i64 (Z04 Z.t o.fd)]) rfl ?_
    try simp only [z]
    refine tl 8 (.agg (Z01 Z.t o.fd).cs.toArray) rfl ?_
    try simp only [z]
    refine tl 9 (.int .i64 (Z04 Z.t o.fd)) rfl ?_
    try simp only [z]
    refine rd 11 rfl (fun K hK=>?_)
    refine Z0j rfl _ _ (by rfl) g6 (by rfl) (Z01 Z.t o.fd) (by rfl) _ p6 rfl ?_
    intro w11 p11 s11
    refine hK.out _ _ (((Stp.of_below hHeld (fun _=>False)).next s11 (fun x e=> .inr (by omega))).below (Nat.le_refl _) (fun _ h=>h.elim)) (fun hHeld=>?_)
    clear hK K
    try simp only [Act.put]
    refine tl 12 (.int .i64 (Z04 Z.t o.fd)) rfl ?_
    try simp only [z]
    refine wpAnyH_done (by kernel_rfl) ?_ _
    go_wp2_with fail
    go_meet
    exact⟨g6,rfl,rfl,p11,m6,hHeld⟩
 case rest=>
  obtain⟨g6,rfl,rfl,r6,m6,b3⟩:=hcut
  replace Bc:=Z00q Bc b3 (Nat.le_refl _)
  replace r1:=r1.later b3
  replace r2:=r2.later b3
  have zb3:=b3.size
  have l6:=r6.lt
  try clear c10
  try clear c13
  have c10:=r1.cell 0 _ rfl
  have c13:=r1.cell 3 _ rfl
  try rw [hk]at c10
  rw [hE]
  have lf:=H.fd.lt
  have nf1:¬g1=fb:=by omega
  have nf6:¬g6=fb:=by omega
  have Hc:=H.later Bc
  have r1c:=r1
  go_upto_region 6 with fail
  go_cut [] (fun wx=>Rd wx fb (Z12 Z.t o.fd)∧Stp (fun z=>z=fb) wc wx)
  case first=>
   refine wp_region_held_drew (S:=fun u=>Stp (fun z=>z=fb) wc u) (by kernel_rfl) (Stp.refl _ _).drew (fun hHeld=>?_)
   have HD:=Hc.later (show Below wc.heap.size wc wc.drew from(Below.refl _ _).drew)
   refine tl 0 (.pointer (some ⟨y,0,none⟩)) rfl ?_
   try simp only [z]
   refine tl 1 (.pointer (some ⟨y,0,none⟩)) rfl ?_
   try simp only [z]
   refine tl 2 (.pointer (some ⟨y,1,none⟩)) rfl ?_
   try simp only [z]
   refine tl 3 (.pointer (some ⟨fb,0,none⟩)) rfl ?_ (fun u hu=>by have x1:=(hu.cell Hc.c1 Hc.n1);go_simp)
   try simp only [z]
   refine tl 4 (.pointer (some ⟨g1,3,none⟩)) rfl ?_
   try simp only [z]
   refine tl 5 (.int .i64 o.fd) rfl ?_ (fun u hu=>by have x1:=hu.cell (r1c.cell 3 _ rfl) nf1;go_simp)
   try simp only [z]
   refine rd 6 rfl (fun K hK=>?_)
   go_simp
   refine(Z8r HD.fd o.fd).mono ?_
   rintro e w6 ⟨rfl,R5,s6⟩
   try go_wp2_with fail
   refine hK.out _ _ (hHeld.trans s6) (fun hHeld=>?_)
   clear hK K
   try simp only [z]
   refine wpAnyH_done (by kernel_rfl) ?_ _
   go_wp2_with fail
   go_meet
   exact⟨R5,hHeld⟩
  case rest=>
   clear hE
   obtain⟨R5,s5⟩:=hcut
   have H5:=Hc.tab R5 s5
   have k5:Stp U _ _:=s5.mono (fun x e=> .inl ((hUU x).2 (.inr (.inl e))))
   have r2d:=r2.step k5 (fun e=>by have:=hU g2 e;omega)
   have r6d:=r6.step s5 (fun e=>nf6 e)
   have d0:=r6d.cell 0 _ rfl
   rw [hf.out]at d0
   have hGo:=hG U _ ⟨fb,r,c,A,F,sd,sn,H5,hUU⟩
   go_wp2_with (first
    | (go_at_call 72;refine hGo.mono ?_;clear hGo;rintro e wm ⟨rfl,Gm⟩
       have GG:=DxG.join k5 (Grew.refl _ _ _) Gm
       replace r2d:=r2d.step Gm.stp (fun e=>by have:=hU g2 e;omega))
    | (refine Z03 (by rfl) _ _ (by rfl) g2 (by rfl) anZ 0 Z0c (by rfl) _ r2d rfl ?_;intro w9 r9 s9))
   exact bodyPost_ret (Z0a Z06 Tryz.results30 rfl r9 rfl) rfl ⟨anZ,rfl,Z0c,Z11 hU Bc GG (by omega) (by omega) s9⟩
end Go.Proofs.YtdnjddpfcgginaaGreat
