/-
  Texts of my own, joined: no statement is proved here.
-/
import Derived.Test.YtdnjddpfcgginaaGreatKbh
set_option linter.unusedSimpArgs false
set_option linter.unusedVariables false
namespace Go.Proofs.YtdnjddpfcgginaaGreat
open Go.ChangeShapes Go.WideShapes Go.ChangeAt Go.RowKit
set_option maxRecDepth 100000
set_option maxHeartbeats 8000000 in
theorem Zgf {w:World} {U:Nat→Prop} {y n:Nat} {Z:Tz} (h:Dx w U y Z) (hz:Z.ok n) (hn:n≤900) (o:Oz) (s:Sv) (ho:o.wfo) (hk:o.k=3) (hE:Z04 Z.t o.fd=0) {M:Int} (hM:Hid ((Z01 Z.t o.fd).m=M)) (hm0:0≤M) (hx:M % 2=0):
 Calls Tryz.prog 30 #[.pointer (some ⟨y,0,none⟩), .agg (opC o s).toArray] w fun e w'=>RetY e U y Z 50 w w':=by
 have hU:=h.low
 obtain⟨fb,r,c,A,F,sd,sn,H,hUU⟩:=h
 go_enter Tryz.func30,Tryz.ntmps30
 go_upto_region 1 with(first
  | (refine Z05 (by rfl) _ (by rfl) o s (by rfl) ?_;intro g1 w1 z1 z2 r1 b1
     have Bc:=b1
     have v1:=b1.size
     try clear c10
     try clear c13
     try clear c14
     have c10:=r1.cell 0 _ rfl
     have c13:=r1.cell 3 _ rfl
     have c14:=r1.cell 4 _ rfl
     try rw [hk]at c10)
  | (refine Z02 (by rfl) (by rfl) ?_;intro g2 w2 z3 z4 r2 b2
     replace Bc:=Z00q Bc b2 (Nat.le_refl _)
     have v2:=b2.size
     try (replace r1:=r1.later b2)
     try (replace r2:=r2.later b2)
     try clear c10
     try clear c13
     try clear c14
     have c10:=r1.cell 0 _ rfl
     have c13:=r1.cell 3 _ rfl
     have c14:=r1.cell 4 _ rfl
     try rw [hk]at c10))
 simp only [Act.put,List.setIfInBounds_toArray,List.set_cons_zero,List.set_cons_succ]
 go_cut [5,6] (fun u v wx=>∃ g6,u= .pointer (some ⟨g6,0,none⟩)∧v= .int .i64 (Z04 Z.t o.fd)∧Cs wx g6 (Z01 Z.t o.fd).cs∧w2.heap.size≤g6∧Below w2.heap.size w2 wx)
 case first=>
  have H2:=H.later Bc
  refine wp_region_held_drew (S:=fun u=>Below w2.heap.size w2 u) (by kernel_rfl) (Below.refl _ _).drew (fun hHeld=>?_)
  refine tl 0 (.pointer (some ⟨y,0,none⟩)) rfl ?_
  try simp only [z]
  refine tl 1 (.pointer (some ⟨y,0,none⟩)) rfl ?_
  try simp only [z]
  refine tl 2 (.pointer (some ⟨y,1,none⟩)) rfl ?_
  try simp only [z]
  refine tl 3 (.pointer (some ⟨fb,0,none⟩)) rfl ?_ (fun u hu=>by have x1:=(H2.later hu).c1;go_simp)
  try simp only [z]
  refine tl 4 (.pointer (some ⟨g1,3,none⟩)) rfl ?_
  try simp only [z]
  refine tl 5 (.int .i64 o.fd) rfl ?_ (fun u hu=>by have x1:=(r1.later hu).cell 3 _ rfl;go_simp)
  try simp only [z]
  refine wpAnyH_ready (rs:= [6,10]) (by kernel_rfl) (by simp) ?_
  refine(AllReadyH.cons (o:=⟨some 20, .call { callee:=Callee.value (.func 70),args:=#[.tmp 17, .tmp 19],argTypes:=#[40,3]},116,_,#[⟨3, .data⟩,⟨5, .data⟩],none⟩) rfl (fun K hK=>?_) (AllReadyH.cons (o:=⟨some 5, .alloc 97,0,_,#[],none⟩) rfl (fun K hK=>?_) AllReadyH.nil))
  · skip
    go_simp
    refine(Z0l (H2.later hHeld).fd o.fd).mono ?_
    rintro e w6 ⟨rfl,b6⟩
    try go_wp2_with fail
    try (have p6:=p6.later b6)
    refine hK.out _ _ (Z00q hHeld b6 (Nat.le_refl _)) (fun hHeld=>?_)
    clear hK K
    try simp only [z]
    refine tl 7 (.tuple #[.agg (Z01 Z.t o.fd).cs.toArray, .int .i64 (Z04 Z.t o.fd)]) rfl ?_
    try simp only [z]
    refine tl 8 (.agg (Z01 Z.t o.fd).cs.toArray) rfl ?_
    try simp only [z]
    refine tl 9 (.int .i64 (Z04 Z.t o.fd)) rfl ?_
    try simp only [z]
    refine rd 10 rfl (fun K hK=>?_)
    have zH:=hHeld.size
    refine Z0i rfl (by rfl) ?_
    intro g6 w10 y6 y7 p6 b10
    have m6:w2.heap.size≤g6:=by omega
    refine hK.out _ _ (Z00q hHeld b10 (Nat.le_refl _)) (fun hHeld=>?_)
    clear hK K
    try simp only [z]
    refine rd 11 rfl (fun K hK=>?_)
    refine Z0j rfl _ _ (by rfl) g6 (by rfl) (Z01 Z.t o.fd) (by rfl) _ p6 rfl ?_
    intro w11 p11 s11
    refine hK.out _ _ (((Stp.of_below hHeld (fun _=>False)).next s11 (fun x e=> .inr (by omega))).below (Nat.le_refl _) (fun _ h=>h.elim)) (fun hHeld=>?_)
    clear hK K
    try simp only [Act.put]
    refine tl 12 (.int .i64 (Z04 Z.t o.fd)) rfl ?_
    try simp only [z]
    refine wpAnyH_done (by kernel_rfl) ?_ _
    go_wp2_with fail
    go_meet
    exact⟨g6,rfl,rfl,p11,m6,hHeld⟩
  · skip
    have zH:=hHeld.size
    refine Z0i rfl (by rfl) ?_
    intro g6 w10 y6 y7 p6 b10
    have m6:w2.heap.size≤g6:=by omega
    refine hK.out _ _ (Z00q hHeld b10 (Nat.le_refl _)) (fun hHeld=>?_)
    clear hK K
    try simp only [z]
    refine rd 6 rfl (fun K hK=>?_)
    go_simp
    refine(Z0l (H2.later hHeld).fd o.fd).mono ?_
    rintro e w6 ⟨rfl,b6⟩
    try go_wp2_with fail
    try (have p6:=p6.later b6)
    refine hK.out _ _ (Z00q hHeld b6 (Nat.le_refl _)) (fun hHeld=>?_)
    clear hK K
    try simp only [z]
    refine tl 7 (.tuple #[.agg (Z01 Z.t o.fd).cs.toArray, .int .i64 (Z04 Z.t o.fd)]) rfl ?_
    try simp only [z]
    refine tl 8 (.agg (Z01 Z.t o.fd).cs.toArray) rfl ?_
    try simp only [z]
    refine tl 9 (.int .i64 (Z04 Z.t o.fd)) rfl ?_
    try simp only [z]
    refine rd 11 rfl (fun K hK=>?_)
    refine Z0j rfl _ _ (by rfl) g6 (by rfl) (Z01 Z.t o.fd) (by rfl) _ p6 rfl ?_
    intro w11 p11 s11
    refine hK.out _ _ (((Stp.of_below hHeld (fun _=>False)).next s11 (fun x e=> .inr (by omega))).below (Nat.le_refl _) (fun _ h=>h.elim)) (fun hHeld=>?_)
    clear hK K
    try simp only [Act.put]
    refine tl 12 (.int .i64 (Z04 Z.t o.fd)) rfl ?_
    try simp only [z]
    refine wpAnyH_done (by kernel_rfl) ?_ _
    go_wp2_with fail
    go_meet
    exact⟨g6,rfl,rfl,p11,m6,hHeld⟩
 case rest=>
  obtain⟨g6,rfl,rfl,r6,m6,b3⟩:=hcut
  replace Bc:=Z00q Bc b3 (Nat.le_refl _)
  replace r1:=r1.later b3
  replace r2:=r2.later b3
  have zb3:=b3.size
  have l6:=r6.lt
  try clear c10
  try clear c13
  try clear c14
  have c10:=r1.cell 0 _ rfl
  have c13:=r1.cell 3 _ rfl
  have c14:=r1.cell 4 _ rfl
  try rw [hk]at c10
  rw [hE]
  have lf:=H.fd.lt
  have nf1:¬g1=fb:=by omega
  have nf6:¬g6=fb:=by omega
  have d2:=r6.cell 2 _ rfl
  rw [hM.out]at d2
  go_wp2_with (first
   | (go_at_call 35;refine(Z0b _ _).mono ?_;rintro e wf ⟨rfl,bf⟩
      replace Bc:=Z00q Bc bf (Nat.le_refl _)
      replace r2:=r2.later bf)
   | (refine Z03 (by rfl) _ _ (by rfl) g2 (by rfl) (anC 50 0 nilV nilV 0 0 0) 50 (Z07 50) (by rfl) _ r2 rfl ?_;intro w9 r9 s9))
  exact bodyPost_ret (Z0a Z06 Tryz.results30 rfl r9 rfl) rfl ⟨anC 50 0 nilV nilV 0 0 0,rfl,Z07 50,(Z0e ⟨fb,r,c,A,F,sd,sn,H,hUU⟩ Bc (by omega) s9)⟩
set_option maxHeartbeats 8000000 in
theorem Zgd {w:World} {U:Nat→Prop} {y n:Nat} {Z:Tz} (h:Dx w U y Z) (hz:Z.ok n) (hn:n≤900) (o:Oz) (s:Sv) (ho:o.wfo) (hk:o.k=3) (hE:Z04 Z.t o.fd=0) {M:Int} (hM:Hid ((Z01 Z.t o.fd).m=M)) (hm0:0≤M) (hx:¬M % 2=0) (hy:o.n < 0):
 Calls Tryz.prog 30 #[.pointer (some ⟨y,0,none⟩), .agg (opC o s).toArray] w fun e w'=>RetY e U y Z 2 w w':=by
 have hU:=h.low
 obtain⟨fb,r,c,A,F,sd,sn,H,hUU⟩:=h
 go_enter Tryz.func30,Tryz.ntmps30
 go_upto_region 1 with(first
  | (refine Z05 (by rfl) _ (by rfl) o s (by rfl) ?_;intro g1 w1 z1 z2 r1 b1
     have Bc:=b1
     have v1:=b1.size
     try clear c10
     try clear c13
     try clear c14
     have c10:=r1.cell 0 _ rfl
     have c13:=r1.cell 3 _ rfl
     have c14:=r1.cell 4 _ rfl
     try rw [hk]at c10)
  | (refine Z02 (by rfl) (by rfl) ?_;intro g2 w2 z3 z4 r2 b2
     replace Bc:=Z00q Bc b2 (Nat.le_refl _)
     have v2:=b2.size
     try (replace r1:=r1.later b2)
     try (replace r2:=r2.later b2)
     try clear c10
     try clear c13
     try clear c14
     have c10:=r1.cell 0 _ rfl
     have c13:=r1.cell 3 _ rfl
     have c14:=r1.cell 4 _ rfl
     try rw [hk]at c10))
 simp only [Act.put,List.setIfInBounds_toArray,List.set_cons_zero,List.set_cons_succ]
 go_cut [5,6] (fun u v wx=>∃ g6,u= .pointer (some ⟨g6,0,none⟩)∧v= .int .i64 (Z04 Z.t o.fd)∧Cs wx g6 (Z01 Z.t o.fd).cs∧w2.heap.size≤g6∧Below w2.heap.size w2 wx)
 case first=>
  have H2:=H.later Bc
  refine wp_region_held_drew (S:=fun u=>Below w2.heap.size w2 u) (by kernel_rfl) (Below.refl _ _).drew (fun hHeld=>?_)
  refine tl 0 (.pointer (some ⟨y,0,none⟩)) rfl ?_
  try simp only [z]
  refine tl 1 (.pointer (some ⟨y,0,none⟩)) rfl ?_
  try simp only [z]
  refine tl 2 (.pointer (some ⟨y,1,none⟩)) rfl ?_
  try simp only [z]
  refine tl 3 (.pointer (some ⟨fb,0,none⟩)) rfl ?_ (fun u hu=>by have x1:=(H2.later hu).c1;go_simp)
  try simp only [z]
  refine tl 4 (.pointer (some ⟨g1,3,none⟩)) rfl ?_
  try simp only [z]
  refine tl 5 (.int .i64 o.fd) rfl ?_ (fun u hu=>by have x1:=(r1.later hu).cell 3 _ rfl;go_simp)
  try simp only [z]
  refine wpAnyH_ready (rs:= [6,10]) (by kernel_rfl) (by simp) ?_
  refine(AllReadyH.cons (o:=⟨some 20, .call { callee:=Callee.value (.func 70),args:=#[.tmp 17, .tmp 19],argTypes:=#[40,3]},116,_,#[⟨3, .data⟩,⟨5, .data⟩],none⟩) rfl (fun K hK=>?_) (AllReadyH.cons (o:=⟨some 5, .alloc 97,0,_,#[],none⟩) rfl (fun K hK=>?_) AllReadyH.nil))
  · skip
    go_simp
    refine(Z0l (H2.later hHeld).fd o.fd).mono ?_
    rintro e w6 ⟨rfl,b6⟩
    try go_wp2_with fail
    try (have p6:=p6.later b6)
    refine hK.out _ _ (Z00q hHeld b6 (Nat.le_refl _)) (fun hHeld=>?_)
    clear hK K
    try simp only [z]
    refine tl 7 (.tuple #[.agg (Z01 Z.t o.fd).cs.toArray, .int .i64 (Z04 Z.t o.fd)]) rfl ?_
    try simp only [z]
    refine tl 8 (.agg (Z01 Z.t o.fd).cs.toArray) rfl ?_
    try simp only [z]
    refine tl 9 (.int .i64 (Z04 Z.t o.fd)) rfl ?_
    try simp only [z]
    refine rd 10 rfl (fun K hK=>?_)
    have zH:=hHeld.size
    refine Z0i rfl (by rfl) ?_
    intro g6 w10 y6 y7 p6 b10
    have m6:w2.heap.size≤g6:=by omega
    refine hK.out _ _ (Z00q hHeld b10 (Nat.le_refl _)) (fun hHeld=>?_)
    clear hK K
    try simp only [z]
    refine rd 11 rfl (fun K hK=>?_)
    refine Z0j rfl _ _ (by rfl) g6 (by rfl) (Z01 Z.t o.fd) (by rfl) _ p6 rfl ?_
    intro w11 p11 s11
    refine hK.out _ _ (((Stp.of_below hHeld (fun _=>False)).next s11 (fun x e=> .inr (by omega))).below (Nat.le_refl _) (fun _ h=>h.elim)) (fun hHeld=>?_)
    clear hK K
    try simp only [Act.put]
    refine tl 12 (.int .i64 (Z04 Z.t o.fd)) rfl ?_
    try simp only [z]
    refine wpAnyH_done (by kernel_rfl) ?_ _
    go_wp2_with fail
    go_meet
    exact⟨g6,rfl,rfl,p11,m6,hHeld⟩
  · skip
    have zH:=hHeld.size
    refine Z0i rfl (by rfl) ?_
    intro g6 w10 y6 y7 p6 b10
    have m6:w2.heap.size≤g6:=by omega
    refine hK.out _ _ (Z00q hHeld b10 (Nat.le_refl _)) (fun hHeld=>?_)
    clear hK K
    try simp only [z]
    refine rd 6 rfl (fun K hK=>?_)
    go_simp
    refine(Z0l (H2.later hHeld).fd o.fd).mono ?_
    rintro e w6 ⟨rfl,b6⟩
    try go_wp2_with fail
    try (have p6:=p6.later b6)
    refine hK.out _ _ (Z00q hHeld b6 (Nat.le_refl _)) (fun hHeld=>?_)
    clear hK K
    try simp only [z]
    refine tl 7 (.tuple #[.agg (Z01 Z.t o.fd).cs.toArray, .int .i64 (Z04 Z.t o.fd)]) rfl ?_
    try simp only [z]
    refine tl 8 (.agg (Z01 Z.t o.fd).cs.toArray) rfl ?_
    try simp only [z]
    refine tl 9 (.int .i64 (Z04 Z.t o.fd)) rfl ?_
    try simp only [z]
    refine rd 11 rfl (fun K hK=>?_)
    refine Z0j rfl _ _ (by rfl) g6 (by rfl) (Z01 Z.t o.fd) (by rfl) _ p6 rfl ?_
    intro w11 p11 s11
    refine hK.out _ _ (((Stp.of_below hHeld (fun _=>False)).next s11 (fun x e=> .inr (by omega))).below (Nat.le_refl _) (fun _ h=>h.elim)) (fun hHeld=>?_)
    clear hK K
    try simp only [Act.put]
    refine tl 12 (.int .i64 (Z04 Z.t o.fd)) rfl ?_
    try simp only [z]
    refine wpAnyH_done (by kernel_rfl) ?_ _
    go_wp2_with fail
    go_meet
    exact⟨g6,rfl,rfl,p11,m6,hHeld⟩
 case rest=>
  obtain⟨g6,rfl,rfl,r6,m6,b3⟩:=hcut
  replace Bc:=Z00q Bc b3 (Nat.le_refl _)
  replace r1:=r1.later b3
  replace r2:=r2.later b3
  have zb3:=b3.size
  have l6:=r6.lt
  try clear c10
  try clear c13
  try clear c14
  have c10:=r1.cell 0 _ rfl
  have c13:=r1.cell 3 _ rfl
  have c14:=r1.cell 4 _ rfl
  try rw [hk]at c10
  rw [hE]
  have lf:=H.fd.lt
  have nf1:¬g1=fb:=by omega
  have nf6:¬g6=fb:=by omega
  have d2:=r6.cell 2 _ rfl
  rw [hM.out]at d2
  have qM:(M % 2==0)=false:=by simpa using hx
  go_wp2_with (first
   | (go_at_call 35;refine(Z0b _ _).mono ?_;rintro e wf ⟨rfl,bf⟩
      replace Bc:=Z00q Bc bf (Nat.le_refl _)
      replace r2:=r2.later bf)
   | (refine Z03 (by rfl) _ _ (by rfl) g2 (by rfl) (anC 2 0 nilV nilV 0 0 0) 2 (Z07 2) (by rfl) _ r2 rfl ?_;intro w9 r9 s9))
  exact bodyPost_ret (Z0a Z06 Tryz.results30 rfl r9 rfl) rfl ⟨anC 2 0 nilV nilV 0 0 0,rfl,Z07 2,(Z0e ⟨fb,r,c,A,F,sd,sn,H,hUU⟩ Bc (by omega) s9)⟩
set_option maxHeartbeats 8000000 in
theorem Zge {w:World} {U:Nat→Prop} {y n:Nat} {Z:Tz} (h:Dx w U y Z) (hz:Z.ok n) (hn:n≤900) (o:Oz) (s:Sv) (ho:o.wfo) (hk:o.k=3) (hE:Z04 Z.t o.fd=0) {M:Int} (hM:Hid ((Z01 Z.t o.fd).m=M)) (hm0:0≤M) (hx:¬M % 2=0) (hy0:¬o.n < 0) (hy:4096 < o.n):
 Calls Tryz.prog 30 #[.pointer (some ⟨y,0,none⟩), .agg (opC o s).toArray] w fun e w'=>RetY e U y Z 2 w w':=by
 have hU:=h.low
 obtain⟨fb,r,c,A,F,sd,sn,H,hUU⟩:=h
 go_enter Tryz.func30,Tryz.ntmps30
 go_upto_region 1 with(first
  | (refine Z05 (by rfl) _ (by rfl) o s (by rfl) ?_;intro g1 w1 z1 z2 r1 b1
     have Bc:=b1
     have v1:=b1.size
     try clear c10
     try clear c13
     try clear c14
     have c10:=r1.cell 0 _ rfl
     have c13:=r1.cell 3 _ rfl
     have c14:=r1.cell 4 _ rfl
     try rw [hk]at c10)
  | (refine Z02 (by rfl) (by rfl) ?_;intro g2 w2 z3 z4 r2 b2
     replace Bc:=Z00q Bc b2 (Nat.le_refl _)
     have v2:=b2.size
     try (replace r1:=r1.later b2)
     try (replace r2:=r2.later b2)
     try clear c10
     try clear c13
     try clear c14
     have c10:=r1.cell 0 _ rfl
     have c13:=r1.cell 3 _ rfl
     have c14:=r1.cell 4 _ rfl
     try rw [hk]at c10))
 simp only [Act.put,List.setIfInBounds_toArray,List.set_cons_zero,List.set_cons_succ]
 go_cut [5,6] (fun u v wx=>∃ g6,u= .pointer (some ⟨g6,0,none⟩)∧v= .int .i64 (Z04 Z.t o.fd)∧Cs wx g6 (Z01 Z.t o.fd).cs∧w2.heap.size≤g6∧Below w2.heap.size w2 wx)
 case first=>
  have H2:=H.later Bc
  refine wp_region_held_drew (S:=fun u=>Below w2.heap.size w2 u) (by kernel_rfl) (Below.refl _ _).drew (fun hHeld=>?_)
  refine tl 0 (.pointer (some ⟨y,0,none⟩)) rfl ?_
  try simp only [z]
  refine tl 1 (.pointer (some ⟨y,0,none⟩)) rfl ?_
  try simp only [z]
  refine tl 2 (.pointer (some ⟨y,1,none⟩)) rfl ?_
  try simp only [z]
  refine tl 3 (.pointer (some ⟨fb,0,none⟩)) rfl ?_ (fun u hu=>by have x1:=(H2.later hu).c1;go_simp)
  try simp only [z]
  refine tl 4 (.pointer (some ⟨g1,3,none⟩)) rfl ?_
  try simp only [z]
  refine tl 5 (.int .i64 o.fd) rfl ?_ (fun u hu=>by have x1:=(r1.later hu).cell 3 _ rfl;go_simp)
  try simp only [z]
  refine wpAnyH_ready (rs:= [6,10]) (by kernel_rfl) (by simp) ?_
  refine(AllReadyH.cons (o:=⟨some 20, .call { callee:=Callee.value (.func 70),args:=#[.tmp 17, .tmp 19],argTypes:=#[40,3]},116,_,#[⟨3, .data⟩,⟨5, .data⟩],none⟩) rfl (fun K hK=>?_) (AllReadyH.cons (o:=⟨some 5, .alloc 97,0,_,#[],none⟩) rfl (fun K hK=>?_) AllReadyH.nil))
  · skip
    go_simp
    refine(Z0l (H2.later hHeld).fd o.fd).mono ?_
    rintro e w6 ⟨rfl,b6⟩
    try go_wp2_with fail
    try (have p6:=p6.later b6)
    refine hK.out _ _ (Z00q hHeld b6 (Nat.le_refl _)) (fun hHeld=>?_)
    clear hK K
    try simp only [z]
    refine tl 7 (.tuple #[.agg (Z01 Z.t o.fd).cs.toArray, .int .i64 (Z04 Z.t o.fd)]) rfl ?_
    try simp only [z]
    refine tl 8 (.agg (Z01 Z.t o.fd).cs.toArray) rfl ?_
    try simp only [z]
    refine tl 9 (.int .i64 (Z04 Z.t o.fd)) rfl ?_
    try simp only [z]
    refine rd 10 rfl (fun K hK=>?_)
    have zH:=hHeld.size
    refine Z0i rfl (by rfl) ?_
    intro g6 w10 y6 y7 p6 b10
    have m6:w2.heap.size≤g6:=by omega
    refine hK.out _ _ (Z00q hHeld b10 (Nat.le_refl _)) (fun hHeld=>?_)
    clear hK K
    try simp only [z]
    refine rd 11 rfl (fun K hK=>?_)
    refine Z0j rfl _ _ (by rfl) g6 (by rfl) (Z01 Z.t o.fd) (by rfl) _ p6 rfl ?_
    intro w11 p11 s11
    refine hK.out _ _ (((Stp.of_below hHeld (fun _=>False)).next s11 (fun x e=> .inr (by omega))).below (Nat.le_refl _) (fun _ h=>h.elim)) (fun hHeld=>?_)
    clear hK K
    try simp only [Act.put]
    refine tl 12 (.int .i64 (Z04 Z.t o.fd)) rfl ?_
    try simp only [z]
    refine wpAnyH_done (by kernel_rfl) ?_ _
    go_wp2_with fail
    go_meet
    exact⟨g6,rfl,rfl,p11,m6,hHeld⟩
  · skip
    have zH:=hHeld.size
    refine Z0i rfl (by rfl) ?_
    intro g6 w10 y6 y7 p6 b10
    have m6:w2.heap.size≤g6:=by omega
    refine hK.out _ _ (Z00q hHeld b10 (Nat.le_refl _)) (fun hHeld=>?_)
    clear hK K
    try simp only [z]
    refine rd 6 rfl (fun K hK=>?_)
    go_simp
    refine(Z0l (H2.later hHeld).fd o.fd).mono ?_
    rintro e w6 ⟨rfl,b6⟩
    try go_wp2_with fail
    try (have p6:=p6.later b6)
    refine hK.out _ _ (Z00q hHeld b6 (Nat.le_refl _)) (fun hHeld=>?_)
    clear hK K
    try simp only [z]
    refine tl 7 (.tuple #[.agg (Z01 Z.t o.fd).cs.toArray, .int .i64 (Z04 Z.t o.fd)]) rfl ?_
    try simp only [z]
    refine tl 8 (.agg (Z01 Z.t o.fd).cs.toArray) rfl ?_
    try simp only [z]
    refine tl 9 (.int .i64 (Z04 Z.t o.fd)) rfl ?_
    try simp only [z]
    refine rd 11 rfl (fun K hK=>?_)
    refine Z0j rfl _ _ (by rfl) g6 (by rfl) (Z01 Z.t o.fd) (by rfl) _ p6 rfl ?_
    intro w11 p11 s11
    refine hK.out _ _ (((Stp.of_below hHeld (fun _=>False)).next s11 (fun x e=> .inr (by omega))).below (Nat.le_refl _) (fun _ h=>h.elim)) (fun hHeld=>?_)
    clear hK K
    try simp only [Act.put]
    refine tl 12 (.int .i64 (Z04 Z.t o.fd)) rfl ?_
    try simp only [z]
    refine wpAnyH_done (by kernel_rfl) ?_ _
    go_wp2_with fail
    go_meet
    exact⟨g6,rfl,rfl,p11,m6,hHeld⟩
 case rest=>
  obtain⟨g6,rfl,rfl,r6,m6,b3⟩:=hcut
  replace Bc:=Z00q Bc b3 (Nat.le_refl _)
  replace r1:=r1.later b3
  replace r2:=r2.later b3
  have zb3:=b3.size
  have l6:=r6.lt
  try clear c10
  try clear c13
  try clear c14
  have c10:=r1.cell 0 _ rfl
  have c13:=r1.cell 3 _ rfl
  have c14:=r1.cell 4 _ rfl
  try rw [hk]at c10
  rw [hE]
  have lf:=H.fd.lt
  have nf1:¬g1=fb:=by omega
  have nf6:¬g6=fb:=by omega
  have d2:=r6.cell 2 _ rfl
  rw [hM.out]at d2
  have qM:(M % 2==0)=false:=by simpa using hx
  go_wp2_with (first
   | (go_at_call 35;refine(Z0b _ _).mono ?_;rintro e wf ⟨rfl,bf⟩
      replace Bc:=Z00q Bc bf (Nat.le_refl _)
      replace r2:=r2.later bf)
   | (refine Z03 (by rfl) _ _ (by rfl) g2 (by rfl) (anC 2 0 nilV nilV 0 0 0) 2 (Z07 2) (by rfl) _ r2 rfl ?_;intro w9 r9 s9))
  exact bodyPost_ret (Z0a Z06 Tryz.results30 rfl r9 rfl) rfl ⟨anC 2 0 nilV nilV 0 0 0,rfl,Z07 2,(Z0e ⟨fb,r,c,A,F,sd,sn,H,hUU⟩ Bc (by omega) s9)⟩
set_option maxRecDepth 100000
set_option maxHeartbeats 8000000 in
theorem Zgg {w:World} {U:Nat→Prop} {y n:Nat} {Z:Tz} (h:Dx w U y Z) (hz:Z.ok n) (hn:n≤900) (o:Oz) (s:Sv) (ho:o.wfo) (hk:o.k=3) (hE:Z04 Z.t o.fd=0) {M:Int} (hM:Hid ((Z01 Z.t o.fd).m=M)) (hm0:0≤M) (hx:¬M % 2=0) {i V:Int} {ki P K:Nat} (hi:Hid ((Z01 Z.t o.fd).i=(ki:Int))) (hik:ki < Z.N.length) (hP:Hid ((Z01 Z.t o.fd).p=(P:Int))) (hPb:P≤48640) (hK:Hid (o.n=(K:Int))) (hKb:K≤4096) (hdl:(Z.nd (ki:Int)).d.length≤48640) (hV:Hid ((Z01 Z.t o.fd).p+rdC (Z.nd (Z01 Z.t o.fd).i).d (Z01 Z.t o.fd).p o.n=V)):
 Calls Tryz.prog 30 #[.pointer (some ⟨y,0,none⟩), .agg (opC o s).toArray] w fun e w'=>RetY e U y (Z.fds (Z0f Z.t o.fd V)) 0 w w':=by
 have hU:=h.low
 obtain⟨fb,r,c,A,F,sd,sn,H,hUU⟩:=h
 go_enter Tryz.func30,Tryz.ntmps30
 go_upto_region 1 with(first
  | (refine Z05 (by rfl) _ (by rfl) o s (by rfl) ?_;intro g1 w1 z1 z2 r1 b1
     have Bc:=b1
     have v1:=b1.size
     try clear c10
     try clear c13
     try clear c14
     have c10:=r1.cell 0 _ rfl
     have c13:=r1.cell 3 _ rfl
     have c14:=r1.cell 4 _ rfl
     try rw [hk]at c10)
  | (refine Z02 (by rfl) (by rfl) ?_;intro g2 w2 z3 z4 r2 b2
     replace Bc:=Z00q Bc b2 (Nat.le_refl _)
     have v2:=b2.size
     try (replace r1:=r1.later b2)
     try (replace r2:=r2.later b2)
     try clear c10
     try clear c13
     try clear c14
     have c10:=r1.cell 0 _ rfl
     have c13:=r1.cell 3 _ rfl
     have c14:=r1.cell 4 _ rfl
     try rw [hk]at c10))
 simp only [Act.put,List.setIfInBounds_toArray,List.set_cons_zero,List.set_cons_succ]
 go_cut [5,6] (fun u v wx=>∃ g6,u= .pointer (some ⟨g6,0,none⟩)∧v= .int .i64 (Z04 Z.t o.fd)∧Cs wx g6 (Z01 Z.t o.fd).cs∧w2.heap.size≤g6∧Below w2.heap.size w2 wx)
 case first=>
  have H2:=H.later Bc
  refine wp_region_held_drew (S:=fun u=>Below w2.heap.size w2 u) (by kernel_rfl) (Below.refl _ _).drew (fun hHeld=>?_)
  refine tl 0 (.pointer (some ⟨y,0,none⟩)) rfl ?_
  try simp only [z]
  refine tl 1 (.pointer (some ⟨y,0,none⟩)) rfl ?_
  try simp only [z]
  refine tl 2 (.pointer (some ⟨y,1,none⟩)) rfl ?_
  try simp only [z]
  refine tl 3 (.pointer (some ⟨fb,0,none⟩)) rfl ?_ (fun u hu=>by have x1:=(H2.later hu).c1;go_simp)
  try simp only [z]
  refine tl 4 (.pointer (some ⟨g1,3,none⟩)) rfl ?_
  try simp only [z]
  refine tl 5 (.int .i64 o.fd) rfl ?_ (fun u hu=>by have x1:=(r1.later hu).cell 3 _ rfl;go_simp)
  try simp only [z]
  refine wpAnyH_ready (rs:= [6,10]) (by kernel_rfl) (by simp) ?_
  refine(AllReadyH.cons (o:=⟨some 20, .call { callee:=Callee.value (.func 70),args:=#[.tmp 17, .tmp 19],argTypes:=#[40,3]},116,_,#[⟨3, .data⟩,⟨5, .data⟩],none⟩) rfl (fun K hK=>?_) (AllReadyH.cons (o:=⟨some 5, .alloc 97,0,_,#[],none⟩) rfl (fun K hK=>?_) AllReadyH.nil))
  · skip
    go_simp
    refine(Z0l (H2.later hHeld).fd o.fd).mono ?_
    rintro e w6 ⟨rfl,b6⟩
    try go_wp2_with fail
    try (have p6:=p6.later b6)
    refine hK.out _ _ (Z00q hHeld b6 (Nat.le_refl _)) (fun hHeld=>?_)
    clear hK K
    try simp only [z]
    refine tl 7 (.tuple #[.agg (Z01 Z.t o.fd).cs.toArray, .int .i64 (Z04 Z.t o.fd)]) rfl ?_
    try simp only [z]
    refine tl 8 (.agg (Z01 Z.t o.fd).cs.toArray) rfl ?_
    try simp only [z]
    refine tl 9 (.int .i64 (Z04 Z.t o.fd)) rfl ?_
    try simp only [z]
    refine rd 10 rfl (fun K hK=>?_)
    have zH:=hHeld.size
    refine Z0i rfl (by rfl) ?_
    intro g6 w10 y6 y7 p6 b10
    have m6:w2.heap.size≤g6:=by omega
    refine hK.out _ _ (Z00q hHeld b10 (Nat.le_refl _)) (fun hHeld=>?_)
    clear hK K
    try simp only [z]
    refine rd 11 rfl (fun K hK=>?_)
    refine Z0j rfl _ _ (by rfl) g6 (by rfl) (Z01 Z.t o.fd) (by rfl) _ p6 rfl ?_
    intro w11 p11 s11
    refine hK.out _ _ (((Stp.of_below hHeld (fun _=>False)).next s11 (fun x e=> .inr (by omega))).below (Nat.le_refl _) (fun _ h=>h.elim)) (fun hHeld=>?_)
    clear hK K
    try simp only [Act.put]
    refine tl 12 (.int .i64 (Z04 Z.t o.fd)) rfl ?_
    try simp only [z]
    refine wpAnyH_done (by kernel_rfl) ?_ _
    go_wp2_with fail
    go_meet
    exact⟨g6,rfl,rfl,p11,m6,hHeld⟩
  · skip
    have zH:=hHeld.size
    refine Z0i rfl (by rfl) ?_
    intro g6 w10 y6 y7 p6 b10
    have m6:w2.heap.size≤g6:=by omega
    refine hK.out _ _ (Z00q hHeld b10 (Nat.le_refl _)) (fun hHeld=>?_)
    clear hK K
    try simp only [z]
    refine rd 6 rfl (fun K hK=>?_)
    go_simp
    refine(Z0l (H2.later hHeld).fd o.fd).mono ?_
    rintro e w6 ⟨rfl,b6⟩
    try go_wp2_with fail
    try (have p6:=p6.later b6)
    refine hK.out _ _ (Z00q hHeld b6 (Nat.le_refl _)) (fun hHeld=>?_)
    clear hK K
    try simp only [z]
    refine tl 7 (.tuple #[.agg (Z01 Z.t o.fd).cs.toArray, .int .i64 (Z04 Z.t o.fd)]) rfl ?_
    try simp only [z]
    refine tl 8 (.agg (Z01 Z.t o.fd).cs.toArray) rfl ?_
    try simp only [z]
    refine tl 9 (.int .i64 (Z04 Z.t o.fd)) rfl ?_
    try simp only [z]
    refine rd 11 rfl (fun K hK=>?_)
    refine Z0j rfl _ _ (by rfl) g6 (by rfl) (Z01 Z.t o.fd) (by rfl) _ p6 rfl ?_
    intro w11 p11 s11
    refine hK.out _ _ (((Stp.of_below hHeld (fun _=>False)).next s11 (fun x e=> .inr (by omega))).below (Nat.le_refl _) (fun _ h=>h.elim)) (fun hHeld=>?_)
    clear hK K
    try simp only [Act.put]
    refine tl 12 (.int .i64 (Z04 Z.t o.fd)) rfl ?_
    try simp only [z]
    refine wpAnyH_done (by kernel_rfl) ?_ _
    go_wp2_with fail
    go_meet
    exact⟨g6,rfl,rfl,p11,m6,hHeld⟩
 case rest=>
  obtain⟨g6,rfl,rfl,r6,m6,b3⟩:=hcut
  replace Bc:=Z00q Bc b3 (Nat.le_refl _)
  replace r1:=r1.later b3
  replace r2:=r2.later b3
  have zb3:=b3.size
  have l6:=r6.lt
  try clear c10
  try clear c13
  try clear c14
  have c10:=r1.cell 0 _ rfl
  have c13:=r1.cell 3 _ rfl
  have c14:=r1.cell 4 _ rfl
  try rw [hk]at c10
  have a7:(ki:Int) < (Z.N.length:Int):=by omega
  have a6:(0:Int)≤(ki:Int):=by omega
  have hy0:¬o.n < 0:=by rw [hK.out];omega
  have hy1:¬4096 < o.n:=by rw [hK.out];omega
  rw [hE]
  have lf:=H.fd.lt
  have nf1:¬g1=fb:=by omega
  have nf6:¬g6=fb:=by omega
  have d2:=r6.cell 2 _ rfl
  rw [hM.out]at d2
  have qM:(M % 2==0)=false:=by simpa using hx
  have Hc:=H.later Bc
  have r1c:=r1
  have r6c:=r6
  have hNl:0≤o.n∧o.n≤4096:=by omega
  go_upto_region 13 with fail
  go_cut [7] (fun u wx=>u= .slice (sd ki).a (sd ki).n (sd ki).c∧Below wc.heap.size wc wx)
  case first=>
   refine wp_region_held_drew (S:=fun u=>Below wc.heap.size wc u) (by kernel_rfl) (Below.refl _ _).drew (fun hHeld=>?_)
   refine tl 0 (.pointer (some ⟨y,0,none⟩)) rfl ?_
   try simp only [z]
   refine tl 1 (.pointer (some ⟨y,0,none⟩)) rfl ?_
   try simp only [z]
   refine tl 2 (.pointer (some ⟨y,0,none⟩)) rfl ?_
   try simp only [z]
   refine tl 3 (.slice (some ⟨r,0,none⟩) Z.N.length c) rfl ?_ (fun u hu=>by have x1:=(Hc.later hu).c0;go_simp)
   try simp only [z]
   refine tl 4 (.pointer (some ⟨g6,0,none⟩)) rfl ?_
   try simp only [z]
   refine tl 5 (.int .i64 (ki:Int)) rfl ?_ (fun u hu=>by have x1:=(r6c.later hu).cell 0 _ rfl;rw [hi.out]at x1;go_simp)
   try simp only [z]
   refine tl 6 (.pointer (some ⟨r,ki * 4,none⟩)) rfl ?_
   try simp only [z]
   refine tl 7 (.pointer (some ⟨r,ki * 4+2,none⟩)) rfl ?_
   try simp only [z]
   refine tl 8 (.slice (sd ki).a (sd ki).n (sd ki).c) rfl ?_ (fun u hu=>by have x1:=(Hc.later hu).ndt hik;go_simp)
   try simp only [z]
   refine tl 9 (.slice (sd ki).a (sd ki).n (sd ki).c) rfl ?_
   try simp only [z]
   refine wpAnyH_done (by kernel_rfl) ?_ _
   go_wp2_with fail
   go_meet
   exact⟨rfl,hHeld⟩
  case rest=>
   obtain⟨rfl,b4⟩:=hcut
   replace Bc:=Z00q Bc b4 (Nat.le_refl _)
   replace r1:=r1.later b4
   replace r2:=r2.later b4
   replace r6:=r6.later b4
   have zb4:=b4.size
   clear Hc r6c r1c
   have Hc:=H.later Bc
   have r6c:=r6
   have r1c:=r1
   clear hE d2 c10 c13 c14
   have d1:=r6.cell 1 _ rfl
   rw [hP.out]at d1
   have c14:=r1.cell 4 _ rfl
   rw [hK.out]at c14
   have sb:=(Hc.dt ki hik).1
   rw [Z5d]at sb
   obtain⟨dd,hdd⟩:∃ dd,Hid ((Z.nd (ki:Int)).d=dd):=⟨_,rfl⟩
   rw [hdd.out]at sb hdl
   have hL:=sb.len
   have hle6:=sb.le
   obtain⟨L,hLL⟩:∃ L,Hid ((sd ki).n=L):=⟨_,rfl⟩
   rw [hLL.out]at hL hle6 ⊢
   have hm1:min (P:Int) (L:Int)=((min P L:Nat):Int):=by omega
   have hm2:min (((min P L:Nat):Int)+(K:Int)) (L:Int)=((min (min P L+K) L:Nat):Int):=by omega
   have hFT:min P L≤min (min P L+K) L:=by omega
   have hTL:min (min P L+K) L≤L:=by omega
   have hFb:min P L≤P:=by omega
   obtain⟨F',hF⟩:∃ F',F'=min P L:=⟨_,rfl⟩
   rw [← hF]at hm1 hm2 hFT hTL hFb
   obtain⟨T',hT⟩:∃ T',T'=min (F'+K) L:=⟨_,rfl⟩
   rw [← hT]at hm2 hFT hTL
   have eN:Hid ((P:Int)+(T':Int) - (F':Int)=V):=by
    show _=_
    rw [← hV.out]
    unfold rdC
    rw [hP.out,hK.out,hi.out,hdd.out,hL,hT,hF]
    omega
   have hTb:(P:Int)+(T':Int)≤9223372036854775807:=by omega
   have wkA:IntKind.i64.wrap ((P:Int)+(T':Int))=(P:Int)+(T':Int):=by rw [IntKind.wrap_i64];omega
   have wkB:IntKind.i64.wrap ((P:Int)+(T':Int) - (F':Int))=(P:Int)+(T':Int) - (F':Int):=by rw [IntKind.wrap_i64];omega
   clear hF hT
   go_upto_region 16 with fail
   go_cut [] (fun wx=>Rd wx fb (Z0f Z.t o.fd V)∧Stp (fun z=>z=fb) wc wx)
   case first=>
    refine wp_region_held_drew (S:=fun u=>Stp (fun z=>z=fb) wc u) (by kernel_rfl) (Stp.refl _ _).drew (fun hHeld=>?_)
    have HD:=Hc.later (show Below wc.heap.size wc wc.drew from(Below.refl _ _).drew)
    refine tl 0 (.pointer (some ⟨y,0,none⟩)) rfl ?_
    try simp only [z]
    refine tl 1 (.pointer (some ⟨y,0,none⟩)) rfl ?_
    try simp only [z]
    refine tl 2 (.pointer (some ⟨y,1,none⟩)) rfl ?_
    try simp only [z]
    refine tl 3 (.pointer (some ⟨fb,0,none⟩)) rfl ?_ (fun u hu=>by have x1:=(hu.cell Hc.c1 Hc.n1);go_simp)
    try simp only [z]
    refine tl 4 (.pointer (some ⟨g1,3,none⟩)) rfl ?_
    try simp only [z]
    refine tl 5 (.int .i64 o.fd) rfl ?_ (fun u hu=>by have x1:=hu.cell (r1c.cell 3 _ rfl) nf1;go_simp)
    try simp only [z]
    refine tl 6 (.pointer (some ⟨g6,1,none⟩)) rfl ?_
    try simp only [z]
    refine tl 7 (.int .i64 (P:Int)) rfl ?_ (fun u hu=>by have x1:=hu.cell (r6c.cell 1 _ rfl) nf6;rw [hP.out]at x1;go_simp)
    try simp only [z]
    refine tl 8 (.int .i64 (T':Int)) rfl ?_
    try simp only [z]
    refine tl 9 (.int .i64 ((P:Int)+(T':Int))) rfl ?_
    try simp only [z]
    refine tl 10 (.int .i64 (F':Int)) rfl ?_
    try simp only [z]
    refine tl 11 (.int .i64 V) rfl ?_ (fun u hu=>by rw [← eN.out];go_simp)
    try simp only [z]
    refine rd 12 rfl (fun K hK=>?_)
    go_simp
    refine(Z50 HD.fd o.fd V).mono ?_
    rintro e w6 ⟨rfl,R5,s6⟩
    try go_wp2_with fail
    refine hK.out _ _ (hHeld.trans s6) (fun hHeld=>?_)
    clear hK K
    try simp only [z]
    refine wpAnyH_done (by kernel_rfl) ?_ _
    go_wp2_with fail
    go_meet
    exact⟨R5,hHeld⟩
   case rest=>
    obtain⟨R5,s5⟩:=hcut
    have H5:=Hc.tab R5 s5
    have k5:Stp U _ _:=s5.mono (fun x e=> .inl ((hUU x).2 (.inr (.inl e))))
    have r2d:=r2.step k5 (fun e=>by have:=hU g2 e;omega)
    have GG:DxG U y (Z.fds (Z0f Z.t o.fd V)) _ _:=⟨U,⟨fb,r,c,A,F,sd,sn,H5,hUU⟩,k5,Grew.refl _ _ _⟩
    have sb5:BsS wc ⟨(sd ki).a,L,(sd ki).c⟩ dd:=by
     have:=(H5.dt ki hik).1
     rw [show((Z.fds (Z0f Z.t o.fd V)).N.getD ki Nd.zero).d=dd from hdd.out]at this
     rw [← hLL.out];exact this
    have sub:=Zah sb5 F' T' hFT hTL
    have subC:=sub.cells
    have subZ:=fun e=>sub.zero e
    have tk:True:=trivial
    clear d1 c14 hdl
    go_wp2_with (first
     | (refine Z8y (B:=wc.heap.size) (by rfl) (by rfl) (Nat.le_refl _) ?_;clear tk;intro g8 w8 o8 b8
        have r2e:=r2d.later b8
        have zb8:=b8.size)
     | (refine Zae (by rfl) _ _ _ (by rfl) ⟨(sd ki).a,L,(sd ki).c⟩ (by rfl) F' T' (by rfl) (by rfl) hFT (by show T'≤(sd ki).c;omega) ?_)
     | (refine Z6k (B:=wc.heap.size) (d2:=(dd.drop F').take (T' - F')) rfl _ _ (by rfl) (by rfl) o8 (tlB (sd ki).a (sd ki).c F') (T' - F') ((sd ki).c - F') (by simp;omega) (by rfl) (fun e=>by obtain⟨q1,q2,q3⟩:=subZ e;exact⟨q1,q2⟩) (fun ad e j u hu=>(Stp.of_below b8 (fun _=>False)).cell (subC ad e j u hu) (fun e=>e)) (by simp;omega) b8.size ?_;intro v9 w10 o9 s10
        obtain⟨s9',rfl,hs9⟩:=o9.1.shape
        obtain⟨va,vn,vc⟩:=s9'
        have r2f:=r2e.step s10 (fun e=>by have:=r2d.lt;omega))
     | (refine Z03 (by rfl) _ _ (by rfl) g2 (by rfl) (anC 0 0 (.slice va vn vc) nilV 0 0 0) 0 ⟨_,_,_,_,_,_,rfl,rfl,rfl⟩ (by rfl) _ r2f rfl ?_;intro w9 r9 s9))
    have GE:DxG U y (Z.fds (Z0f Z.t o.fd V)) _ w10:=GG.ahead (Z2i b8 s10)
    exact bodyPost_ret (Z0a Z06 Tryz.results30 rfl r9 rfl) rfl ⟨_,rfl,⟨_,_,_,_,_,_,rfl,rfl,rfl⟩,Z11 hU Bc GE (by omega) (by omega) s9⟩
set_option maxRecDepth 100000
set_option maxHeartbeats 8000000 in
theorem Zgk {w:World} {U:Nat→Prop} {y n:Nat} {Z:Tz} (h:Dx w U y Z) (hz:Z.ok n) (hn:n≤900) (o:Oz) {sa:Option Addr} {sl sc:Nat} (hk:o.k=4) (hE:Z04 Z.t o.fd=0) {M:Int} {P:Nat} (hM:Hid ((Z01 Z.t o.fd).m=M)) (hP:Hid ((Z01 Z.t o.fd).p=(P:Int))) (hPb:P≤48640) (hsb:sl≤9223372036854775807) (hx:M < 2):
 Calls Tryz.prog 30 #[.pointer (some ⟨y,0,none⟩), .agg (opC o ⟨sa,sl,sc⟩).toArray] w fun e w'=>RetY e U y Z 50 w w':=by
 have hU:=h.low
 obtain⟨fb,r,c,A,F,sd,sn,H,hUU⟩:=h
 go_enter Tryz.func30,Tryz.ntmps30
 go_upto_region 1 with(first
  | (refine Z05 (by rfl) _ (by rfl) o ⟨sa,sl,sc⟩ (by rfl) ?_;intro g1 w1 z1 z2 r1 b1
     have Bc:=b1
     have v1:=b1.size
     try clear c10
     try clear c13
     try clear c17
     have c10:=r1.cell 0 _ rfl
     have c13:=r1.cell 3 _ rfl
     have c17:_=some (Value.slice sa sl sc):=r1.cell 7 _ rfl
     try rw [hk]at c10)
  | (refine Z02 (by rfl) (by rfl) ?_;intro g2 w2 z3 z4 r2 b2
     replace Bc:=Z00q Bc b2 (Nat.le_refl _)
     have v2:=b2.size
     try (replace r1:=r1.later b2)
     try (replace r2:=r2.later b2)
     try clear c10
     try clear c13
     try clear c17
     have c10:=r1.cell 0 _ rfl
     have c13:=r1.cell 3 _ rfl
     have c17:_=some (Value.slice sa sl sc):=r1.cell 7 _ rfl
     try rw [hk]at c10))
 simp only [Act.put,List.setIfInBounds_toArray,List.set_cons_zero,List.set_cons_succ]
 go_cut [5,6] (fun u v wx=>∃ g6,u= .pointer (some ⟨g6,0,none⟩)∧v= .int .i64 (Z04 Z.t o.fd)∧Cs wx g6 (Z01 Z.t o.fd).cs∧w2.heap.size≤g6∧Below w2.heap.size w2 wx)
 case first=>
  have H2:=H.later Bc
  refine wp_region_held_drew (S:=fun u=>Below w2.heap.size w2 u) (by kernel_rfl) (Below.refl _ _).drew (fun hHeld=>?_)
  refine tl 0 (.pointer (some ⟨y,0,none⟩)) rfl ?_
  try simp only [z]
  refine tl 1 (.pointer (some ⟨y,0,none⟩)) rfl ?_
  try simp only [z]
  refine tl 2 (.pointer (some ⟨y,1,none⟩)) rfl ?_
  try simp only [z]
  refine tl 3 (.pointer (some ⟨fb,0,none⟩)) rfl ?_ (fun u hu=>by have x1:=(H2.later hu).c1;go_simp)
  try simp only [z]
  refine tl 4 (.pointer (some ⟨g1,3,none⟩)) rfl ?_
  try simp only [z]
  refine tl 5 (.int .i64 o.fd) rfl ?_ (fun u hu=>by have x1:=(r1.later hu).cell 3 _ rfl;go_simp)
  try simp only [z]
  refine wpAnyH_ready (rs:= [6,10]) (by kernel_rfl) (by simp) ?_
  refine(AllReadyH.cons (o:=⟨some 20, .call { callee:=Callee.value (.func 70),args:=#[.tmp 17, .tmp 19],argTypes:=#[40,3]},116,_,#[⟨3, .data⟩,⟨5, .data⟩],none⟩) rfl (fun K hK=>?_) (AllReadyH.cons (o:=⟨some 5, .alloc 97,0,_,#[],none⟩) rfl (fun K hK=>?_) AllReadyH.nil))
  · skip
    go_simp
    refine(Z0l (H2.later hHeld).fd o.fd).mono ?_
    rintro e w6 ⟨rfl,b6⟩
    try go_wp2_with fail
    try (have p6:=p6.later b6)
    refine hK.out _ _ (Z00q hHeld b6 (Nat.le_refl _)) (fun hHeld=>?_)
    clear hK K
    try simp only [z]
    refine tl 7 (.tuple #[.agg (Z01 Z.t o.fd).cs.toArray, .int .i64 (Z04 Z.t o.fd)]) rfl ?_
    try simp only [z]
    refine tl 8 (.agg (Z01 Z.t o.fd).cs.toArray) rfl ?_
    try simp only [z]
    refine tl 9 (.int .i64 (Z04 Z.t o.fd)) rfl ?_
    try simp only [z]
    refine rd 10 rfl (fun K hK=>?_)
    have zH:=hHeld.size
    refine Z0i rfl (by rfl) ?_
    intro g6 w10 y6 y7 p6 b10
    have m6:w2.heap.size≤g6:=by omega
    refine hK.out _ _ (Z00q hHeld b10 (Nat.le_refl _)) (fun hHeld=>?_)
    clear hK K
    try simp only [z]
    refine rd 11 rfl (fun K hK=>?_)
    refine Z0j rfl _ _ (by rfl) g6 (by rfl) (Z01 Z.t o.fd) (by rfl) _ p6 rfl ?_
    intro w11 p11 s11
    refine hK.out _ _ (((Stp.of_below hHeld (fun _=>False)).next s11 (fun x e=> .inr (by omega))).below (Nat.le_refl _) (fun _ h=>h.elim)) (fun hHeld=>?_)
    clear hK K
    try simp only [Act.put]
    refine tl 12 (.int .i64 (Z04 Z.t o.fd)) rfl ?_
    try simp only [z]
    refine wpAnyH_done (by kernel_rfl) ?_ _
    go_wp2_with fail
    go_meet
    exact⟨g6,rfl,rfl,p11,m6,hHeld⟩
  · skip
    have zH:=hHeld.size
    refine Z0i rfl (by rfl) ?_
    intro g6 w10 y6 y7 p6 b10
    have m6:w2.heap.size≤g6:=by omega
    refine hK.out _ _ (Z00q hHeld b10 (Nat.le_refl _)) (fun hHeld=>?_)
    clear hK K
    try simp only [z]
    refine rd 6 rfl (fun K hK=>?_)
    go_simp
    refine(Z0l (H2.later hHeld).fd o.fd).mono ?_
    rintro e w6 ⟨rfl,b6⟩
    try go_wp2_with fail
    try (have p6:=p6.later b6)
    refine hK.out _ _ (Z00q hHeld b6 (Nat.le_refl _)) (fun hHeld=>?_)
    clear hK K
    try simp only [z]
    refine tl 7 (.tuple #[.agg (Z01 Z.t o.fd).cs.toArray, .int .i64 (Z04 Z.t o.fd)]) rfl ?_
    try simp only [z]
    refine tl 8 (.agg (Z01 Z.t o.fd).cs.toArray) rfl ?_
    try simp only [z]
    refine tl 9 (.int .i64 (Z04 Z.t o.fd)) rfl ?_
    try simp only [z]
    refine rd 11 rfl (fun K hK=>?_)
    refine Z0j rfl _ _ (by rfl) g6 (by rfl) (Z01 Z.t o.fd) (by rfl) _ p6 rfl ?_
    intro w11 p11 s11
    refine hK.out _ _ (((Stp.of_below hHeld (fun _=>False)).next s11 (fun x e=> .inr (by omega))).below (Nat.le_refl _) (fun _ h=>h.elim)) (fun hHeld=>?_)
    clear hK K
    try simp only [Act.put]
    refine tl 12 (.int .i64 (Z04 Z.t o.fd)) rfl ?_
    try simp only [z]
    refine wpAnyH_done (by kernel_rfl) ?_ _
    go_wp2_with fail
    go_meet
    exact⟨g6,rfl,rfl,p11,m6,hHeld⟩
 case rest=>
  obtain⟨g6,rfl,rfl,r6,m6,b3⟩:=hcut
  replace Bc:=Z00q Bc b3 (Nat.le_refl _)
  replace r1:=r1.later b3
  replace r2:=r2.later b3
  have zb3:=b3.size
  have l6:=r6.lt
  try clear c10
  try clear c13
  try clear c17
  have c10:=r1.cell 0 _ rfl
  have c13:=r1.cell 3 _ rfl
  have c17:_=some (Value.slice sa sl sc):=r1.cell 7 _ rfl
  try rw [hk]at c10
  rw [hE]
  have lf:=H.fd.lt
  have nf1:¬g1=fb:=by omega
  have nf6:¬g6=fb:=by omega
  have d2:=r6.cell 2 _ rfl
  rw [hM.out]at d2
  have d1:=r6.cell 1 _ rfl
  rw [hP.out]at d1
  go_wp2_with (first
   | (go_at_call 35;refine(Z0b _ _).mono ?_;rintro e wf ⟨rfl,bf⟩
      replace Bc:=Z00q Bc bf (Nat.le_refl _)
      replace r2:=r2.later bf)
   | (refine Z03 (by rfl) _ _ (by rfl) g2 (by rfl) (anC 50 0 nilV nilV 0 0 0) 50 (Z07 50) (by rfl) _ r2 rfl ?_;intro w9 r9 s9))
  exact bodyPost_ret (Z0a Z06 Tryz.results30 rfl r9 rfl) rfl ⟨anC 50 0 nilV nilV 0 0 0,rfl,Z07 50,(Z0e ⟨fb,r,c,A,F,sd,sn,H,hUU⟩ Bc (by omega) s9)⟩
set_option maxHeartbeats 8000000 in
theorem Zgi {w:World} {U:Nat→Prop} {y n:Nat} {Z:Tz} (h:Dx w U y Z) (hz:Z.ok n) (hn:n≤900) (o:Oz) {sa:Option Addr} {sl sc:Nat} (hk:o.k=4) (hE:Z04 Z.t o.fd=0) {M:Int} {P:Nat} (hM:Hid ((Z01 Z.t o.fd).m=M)) (hP:Hid ((Z01 Z.t o.fd).p=(P:Int))) (hPb:P≤48640) (hsb:sl≤9223372036854775807) (hx:¬M < 2) (hy:4096 < sl):
 Calls Tryz.prog 30 #[.pointer (some ⟨y,0,none⟩), .agg (opC o ⟨sa,sl,sc⟩).toArray] w fun e w'=>RetY e U y Z 2 w w':=by
 have hU:=h.low
 obtain⟨fb,r,c,A,F,sd,sn,H,hUU⟩:=h
 go_enter Tryz.func30,Tryz.ntmps30
 go_upto_region 1 with(first
  | (refine Z05 (by rfl) _ (by rfl) o ⟨sa,sl,sc⟩ (by rfl) ?_;intro g1 w1 z1 z2 r1 b1
     have Bc:=b1
     have v1:=b1.size
     try clear c10
     try clear c13
     try clear c17
     have c10:=r1.cell 0 _ rfl
     have c13:=r1.cell 3 _ rfl
     have c17:_=some (Value.slice sa sl sc):=r1.cell 7 _ rfl
     try rw [hk]at c10)
  | (refine Z02 (by rfl) (by rfl) ?_;intro g2 w2 z3 z4 r2 b2
     replace Bc:=Z00q Bc b2 (Nat.le_refl _)
     have v2:=b2.size
     try (replace r1:=r1.later b2)
     try (replace r2:=r2.later b2)
     try clear c10
     try clear c13
     try clear c17
     have c10:=r1.cell 0 _ rfl
     have c13:=r1.cell 3 _ rfl
     have c17:_=some (Value.slice sa sl sc):=r1.cell 7 _ rfl
     try rw [hk]at c10))
 simp only [Act.put,List.setIfInBounds_toArray,List.set_cons_zero,List.set_cons_succ]
 go_cut [5,6] (fun u v wx=>∃ g6,u= .pointer (some ⟨g6,0,none⟩)∧v= .int .i64 (Z04 Z.t o.fd)∧Cs wx g6 (Z01 Z.t o.fd).cs∧w2.heap.size≤g6∧Below w2.heap.size w2 wx)
 case first=>
  have H2:=H.later Bc
  refine wp_region_held_drew (S:=fun u=>Below w2.heap.size w2 u) (by kernel_rfl) (Below.refl _ _).drew (fun hHeld=>?_)
  refine tl 0 (.pointer (some ⟨y,0,none⟩)) rfl ?_
  try simp only [z]
  refine tl 1 (.pointer (some ⟨y,0,none⟩)) rfl ?_
  try simp only [z]
  refine tl 2 (.pointer (some ⟨y,1,none⟩)) rfl ?_
  try simp only [z]
  refine tl 3 (.pointer (some ⟨fb,0,none⟩)) rfl ?_ (fun u hu=>by have x1:=(H2.later hu).c1;go_simp)
  try simp only [z]
  refine tl 4 (.pointer (some ⟨g1,3,none⟩)) rfl ?_
  try simp only [z]
  refine tl 5 (.int .i64 o.fd) rfl ?_ (fun u hu=>by have x1:=(r1.later hu).cell 3 _ rfl;go_simp)
  try simp only [z]
  refine wpAnyH_ready (rs:= [6,10]) (by kernel_rfl) (by simp) ?_
  refine(AllReadyH.cons (o:=⟨some 20, .call { callee:=Callee.value (.func 70),args:=#[.tmp 17, .tmp 19],argTypes:=#[40,3]},116,_,#[⟨3, .data⟩,⟨5, .data⟩],none⟩) rfl (fun K hK=>?_) (AllReadyH.cons (o:=⟨some 5, .alloc 97,0,_,#[],none⟩) rfl (fun K hK=>?_) AllReadyH.nil))
  · skip
    go_simp
    refine(Z0l (H2.later hHeld).fd o.fd).mono ?_
    rintro e w6 ⟨rfl,b6⟩
    try go_wp2_with fail
    try (have p6:=p6.later b6)
    refine hK.out _ _ (Z00q hHeld b6 (Nat.le_refl _)) (fun hHeld=>?_)
    clear hK K
    try simp only [z]
    refine tl 7 (.tuple #[.agg (Z01 Z.t o.fd).cs.toArray, .int .i64 (Z04 Z.t o.fd)]) rfl ?_
    try simp only [z]
    refine tl 8 (.agg (Z01 Z.t o.fd).cs.toArray) rfl ?_
    try simp only [z]
    refine tl 9 (.int .i64 (Z04 Z.t o.fd)) rfl ?_
    try simp only [z]
    refine rd 10 rfl (fun K hK=>?_)
    have zH:=hHeld.size
    refine Z0i rfl (by rfl) ?_
    intro g6 w10 y6 y7 p6 b10
    have m6:w2.heap.size≤g6:=by omega
    refine hK.out _ _ (Z00q hHeld b10 (Nat.le_refl _)) (fun hHeld=>?_)
    clear hK K
    try simp only [z]
    refine rd 11 rfl (fun K hK=>?_)
    refine Z0j rfl _ _ (by rfl) g6 (by rfl) (Z01 Z.t o.fd) (by rfl) _ p6 rfl ?_
    intro w11 p11 s11
    refine hK.out _ _ (((Stp.of_below hHeld (fun _=>False)).next s11 (fun x e=> .inr (by omega))).below (Nat.le_refl _) (fun _ h=>h.elim)) (fun hHeld=>?_)
    clear hK K
    try simp only [Act.put]
    refine tl 12 (.int .i64 (Z04 Z.t o.fd)) rfl ?_
    try simp only [z]
    refine wpAnyH_done (by kernel_rfl) ?_ _
    go_wp2_with fail
    go_meet
    exact⟨g6,rfl,rfl,p11,m6,hHeld⟩
  · skip
    have zH:=hHeld.size
    refine Z0i rfl (by rfl) ?_
    intro g6 w10 y6 y7 p6 b10
    have m6:w2.heap.size≤g6:=by omega
    refine hK.out _ _ (Z00q hHeld b10 (Nat.le_refl _)) (fun hHeld=>?_)
    clear hK K
    try simp only [z]
    refine rd 6 rfl (fun K hK=>?_)
    go_simp
    refine(Z0l (H2.later hHeld).fd o.fd).mono ?_
    rintro e w6 ⟨rfl,b6⟩
    try go_wp2_with fail
    try (have p6:=p6.later b6)
    refine hK.out _ _ (Z00q hHeld b6 (Nat.le_refl _)) (fun hHeld=>?_)
    clear hK K
    try simp only [z]
    refine tl 7 (.tuple #[.agg (Z01 Z.t o.fd).cs.toArray, .int .i64 (Z04 Z.t o.fd)]) rfl ?_
    try simp only [z]
    refine tl 8 (.agg (Z01 Z.t o.fd).cs.toArray) rfl ?_
    try simp only [z]
    refine tl 9 (.int .i64 (Z04 Z.t o.fd)) rfl ?_
    try simp only [z]
    refine rd 11 rfl (fun K hK=>?_)
    refine Z0j rfl _ _ (by rfl) g6 (by rfl) (Z01 Z.t o.fd) (by rfl) _ p6 rfl ?_
    intro w11 p11 s11
    refine hK.out _ _ (((Stp.of_below hHeld (fun _=>False)).next s11 (fun x e=> .inr (by omega))).below (Nat.le_refl _) (fun _ h=>h.elim)) (fun hHeld=>?_)
    clear hK K
    try simp only [Act.put]
    refine tl 12 (.int .i64 (Z04 Z.t o.fd)) rfl ?_
    try simp only [z]
    refine wpAnyH_done (by kernel_rfl) ?_ _
    go_wp2_with fail
    go_meet
    exact⟨g6,rfl,rfl,p11,m6,hHeld⟩
 case rest=>
  obtain⟨g6,rfl,rfl,r6,m6,b3⟩:=hcut
  replace Bc:=Z00q Bc b3 (Nat.le_refl _)
  replace r1:=r1.later b3
  replace r2:=r2.later b3
  have zb3:=b3.size
  have l6:=r6.lt
  try clear c10
  try clear c13
  try clear c17
  have c10:=r1.cell 0 _ rfl
  have c13:=r1.cell 3 _ rfl
  have c17:_=some (Value.slice sa sl sc):=r1.cell 7 _ rfl
  try rw [hk]at c10
  rw [hE]
  have lf:=H.fd.lt
  have nf1:¬g1=fb:=by omega
  have nf6:¬g6=fb:=by omega
  have d2:=r6.cell 2 _ rfl
  rw [hM.out]at d2
  have d1:=r6.cell 1 _ rfl
  rw [hP.out]at d1
  have hy':(4096:Int) < (sl:Int):=by omega
  go_wp2_with (first
   | (go_at_call 35;refine(Z0b _ _).mono ?_;rintro e wf ⟨rfl,bf⟩
      replace Bc:=Z00q Bc bf (Nat.le_refl _)
      replace r2:=r2.later bf)
   | (refine Z03 (by rfl) _ _ (by rfl) g2 (by rfl) (anC 2 0 nilV nilV 0 0 0) 2 (Z07 2) (by rfl) _ r2 rfl ?_;intro w9 r9 s9))
  exact bodyPost_ret (Z0a Z06 Tryz.results30 rfl r9 rfl) rfl ⟨anC 2 0 nilV nilV 0 0 0,rfl,Z07 2,(Z0e ⟨fb,r,c,A,F,sd,sn,H,hUU⟩ Bc (by omega) s9)⟩
end Go.Proofs.YtdnjddpfcgginaaGreat
